/- At every channel and all limits Ends of the program answers as Ends of the model. -/
import Derived.Test.YtjdbedlgkngdkaaDoorPe
import Derived.Test.YtjdbedlgkngdkaaDoorChR
import Derived.Test.YtjdbedlgkngdkaaDoorSent
import Derived.Test.YtjdbedlgkngdkaaDoorCards
import Derived.Test.YtjdbedlgkngdkaaDoorTie
import Derived.WalkKit
import Derived.ProofKit
import Derived.OpenShut
import Derived.ShutString
import Derived.LaidMore
import Derived.Stop.Joined
import Derived.SevenTiedAt
import Derived.ChangeOld
import Derived.Below
namespace Go.Proofs.YtjdbedlgkngdkaaDoor.fnExactEnds
open Go.ChangeShapes Go.WideShapes Go.ChangeAt Go.RowKit
open Go.ChangeMaps (open_string shut_string)
set_option linter.unusedVariables false
theorem own : ownKnob Tryd.prog.godebug = none := by kernel_rfl
theorem laidOut : laidOutB Tryd.prog = true := by kernel_rfl
theorem gAmount : Tryd.prog.globalNamed "loop.example/g00400/impl.errNoAmount" = some 0 := by kernel_rfl
theorem tAmount : (Tryd.prog.globals[0]?).map (·.type) = some 36 := by kernel_rfl
theorem gDivisor : Tryd.prog.globalNamed "loop.example/g00400/impl.errNoDivisor" = some 1 := by kernel_rfl
theorem tDivisor : (Tryd.prog.globals[1]?).map (·.type) = some 36 := by kernel_rfl
theorem door_met (os : Os) (args : Array Value) : laidMetH Tryd.prog Rows.fnExactEndsRow.laid ((World.doorLaid Tryd.prog 44 os).forCall (fun _ _ => 0) ⟨#[], args, []⟩).memory :=
  laidMetH_of_parts3 (fuel := 8) (laidMet_of_run' 8 (by kernel_rfl) (by kernel_rfl)) (by kernel_rfl) (by kernel_rfl)

set_option maxRecDepth 100000 in
set_option maxHeartbeats 4000000 in
theorem walk (c : Chn) (lo hi : Int) (w : World) (hlo : (Lit.int .i64 lo).wf = true) (hhi : (Lit.int .i64 hi).wf = true) (u0 : TypeId) (x0 : Value) (hg0 : w.cell? ⟨0, 0, none⟩ = some (.iface u0 x0)) (u3 : TypeId) (x3 : Value) (hg3 : w.cell? ⟨1, 0, none⟩ = some (.iface u3 x3)) :
    Calls Tryd.prog 3 #[c.v, .int .i64 lo, .int .i64 hi] w fun e w' => e = .returned (.bool true) ∧ Keeps w w' := by
  have HTo := hide (fun w1 => toChan_k c w1)
  have HS := hide (fun w1 => ends_spec c lo hi w1)
  have HI := hide (fun w1 => ends_impl c lo hi w1)
  clear hlo hhi hg0 hg3
  generalize endV c.sz lo lo hi = v1 at *
  generalize endV c.sz hi lo hi = v2 at *
  obtain ⟨xid, xsz, xlo, xre, xba, xpp, xsc⟩ := c
  dsimp only [Chn.v] at *
  have HA := hide (rowc7 w (.int .i64 xid) (.int .i64 xsz) (.int .i64 xlo) (.int .i64 xre) (.int .i64 xba) (.int .i64 xpp) (.int .i64 xsc) 23)
  have HK := hide (Keeps.alloc (Keeps.refl w) (.cells #[.int .i64 xid, .int .i64 xsz, .int .i64 xlo, .int .i64 xre, .int .i64 xba, .int .i64 xpp, .int .i64 xsc] 23))
  go_enter Tryd.func3, Tryd.ntmps3
  go_wp2_with fail
  generalize w.alloc (.cells #[.int .i64 xid, .int .i64 xsz, .int .i64 xlo, .int .i64 xre, .int .i64 xba, .int .i64 xpp, .int .i64 xsc] 23) = W0 at *
  refine (unhide HTo W0).mono ?_
  rintro e w1 ⟨rfl, hk⟩
  have HK1 := hide hk
  clear hk
  go_wp2_with fail
  refine (unhide HS w1).mono ?_
  rintro e w2 ⟨rfl, hk⟩
  replace HK1 := hide (HK1.out.trans hk)
  clear hk
  obtain ⟨c0, c1, c2, c3, c4, c5, c6⟩ := unhide HA w2 HK1.out
  go_wp2_with fail
  refine (unhide HTo w2).mono ?_
  rintro e w3 ⟨rfl, hk⟩
  replace HK1 := hide (HK1.out.trans hk)
  clear hk c0 c1 c2 c3 c4 c5 c6
  go_wp2_with fail
  refine (unhide HI w3).mono ?_
  rintro e w4 ⟨rfl, hk⟩
  replace HK1 := hide (HK1.out.trans hk)
  clear hk
  have h1 : (v1 != v1) = false := by simp
  have h2 : (v2 != v2) = false := by simp
  go_wp2_with fail
  go_ret
  exact ⟨rfl, HK.out.trans HK1.out⟩

set_option maxRecDepth 100000 in
theorem lifted (os : Os) (started : os.Started) (H : Type) (enc : TypeId × Value → H) :
    ReturnsInHanded {} Tryd.checked os 3 .any (fun w args => (Rows.fnExactEndsSpec.pre enc Tryd.prog Tryd.f3 [] false w args ∧ laidMetH Tryd.prog Rows.fnExactEndsRow.laid w) ∧ sizedMet enc Tryd.prog Tryd.f3 (OpenSpec.ofChange Rows.fnExactEndsSpec) false w args)
      (Rows.fnExactEndsSpec.post enc Tryd.prog Tryd.f3 false true false false) := by
  refine returnsInHanded_of_change_and (C := Tryd.checked) (X := fun w _ => laidMetH Tryd.prog Rows.fnExactEndsRow.laid w) (fun _ _ _ hh h => h.of_heap hh) own started (by kernel_rfl) Tryd.func3
    (ChangeSpec.witness_shaped (enc := enc) (C := Tryd.checked) (os := os) (X := fun w _ => laidMetH Tryd.prog Rows.fnExactEndsRow.laid w) false (World.doorLaid Tryd.prog 44 os) #[.agg #[.int .i64 0, .int .i64 0, .int .i64 0, .int .i64 0, .int .i64 0, .int .i64 0, .int .i64 0], .int .i64 0, .int .i64 0] 8 rfl (World.shaped_of_RefB (by kernel_rfl) (by kernel_rfl)) (by kernel_rfl) (by kernel_rfl) (by kernel_rfl) (door_met os _)) ?_
  intro W base args ds gs before hval0 hW _ hsz hL _
  have hval : ∀ (j : Nat) t v, Tryd.f3.params[j]? = some t → args[j]? = some v → Value.okWide Tryd.prog W .any base t v := hval0
  have hW' := hW
  obtain ⟨p, q, hA0, hV0, rfl, hfz, hnd⟩ := hW
  have hA : DataW.TrodAll enc Tryd.prog W 0 (fun _ => true) true Tryd.f3.params.toList args.toList ds p := hA0
  have hV : DataW.TrodVars enc Tryd.prog W (fun _ => true) ["loop.example/g00400/impl.errNoAmount", "loop.example/g00400/impl.errNoDivisor"] gs q := hV0
  rw [Tryd.params3] at hA hval
  obtain ⟨v0, vs0, d0, ds0, p0, q0, hargs, rfl, rfl, h0, r0⟩ := trodAll_cons hA
  obtain ⟨v1, vs1, d1, ds1, p1, q1, rfl, rfl, rfl, h1, r1⟩ := trodAll_cons r0
  obtain ⟨v2, vs2, d2, ds2, p2, q2, rfl, rfl, rfl, h2, r2⟩ := trodAll_cons r1
  obtain ⟨rfl, rfl, rfl⟩ := trodAll_nil r2
  obtain rfl : args = #[v0, v1, v2] := by cases args; simp_all
  have k0 := h0
  have lt0 : ∀ x ∈ p0, x.block < W.heap.size := by obtain ⟨m, hm⟩ := k0; exact DataW.trod_lt m _ _ _ hm
  obtain ⟨c0, rfl⟩ := chan_row (hval 0 23 v0 rfl rfl) h0
  obtain ⟨a1, rfl, rfl, rfl, w1⟩ := open_int Tryd.underlying3 (hval 1 3 v1 rfl rfl) h1
  obtain ⟨a2, rfl, rfl, rfl, w2⟩ := open_int Tryd.underlying3 (hval 2 3 v2 rfl rfl) h2
  have hL0 : laidMet Tryd.prog Rows.fnExactEndsRow.laid W := by rw [← MakeChecks.laidMetH_plain _ _ _ (by kernel_rfl)]; exact hL
  obtain ⟨xAmount, hvAmount⟩ := sent hL0 gAmount tAmount
  obtain ⟨xDivisor, hvDivisor⟩ := sent (laidMet.tail hL0) gDivisor tDivisor
  obtain ⟨rfl, rfl⟩ := hV.unique (vars_read2 enc gAmount tAmount Tryd.underlying36 hvAmount trivial gDivisor tDivisor Tryd.underlying36 hvDivisor trivial _)
  clear hA0 hV0 hval0
  refine (walk c0 a1 a2 W w1 w2 _ _ (cell_of_var gAmount hvAmount) _ _ (cell_of_var gDivisor hvDivisor)).mono fun e W' ⟨he, hb⟩ => ?_
  subst he
  refine ⟨_, rfl, _, _, _, [], (p0 ++ ([] ++ ([] ++ []))), [.cell 0 0, .cell 1 0], hW', ?_, ?_, ?_, Below.frame hb _, fun h => by cases h⟩
  · exact trodAll_mk1 (shut_bool Tryd.underlying4 _)
  · exact (trodAll_cons_mk (Below.trod laidOut (by kernel_rfl) (of_decide_eq_true (by kernel_rfl)) k0 hb lt0) (trodAll_cons_mk (shut_int Tryd.underlying3 w1) (trodAll_cons_mk (shut_int Tryd.underlying3 w2) trodAll_mk0)))
  · exact vars_read2 enc gAmount tAmount Tryd.underlying36 (var_kept hb hvAmount) trivial gDivisor tDivisor Tryd.underlying36 (var_kept hb hvDivisor) trivial _

theorem over : Rows.FnExactEndsSaid :=
  OpenClaim.holds_of_wide 3 Tryd.f3 rfl rfl rfl rfl rfl rfl rfl ⟨rfl, rfl, rfl, rfl, rfl⟩ rfl rfl rfl rfl rfl (by kernel_rfl) Tryd.func3 (by kernel_rfl)
    (of_decide_eq_true (by kernel_rfl)) (by unfold Func.isWrapper; first | (rw [if_pos (by decide +kernel)]; kernel_rfl) | (rw [if_neg (by decide +kernel)]; exact ⟨rfl, rfl⟩))
    (fun os started H enc _ => lifted os started H enc)
end Go.Proofs.YtjdbedlgkngdkaaDoor.fnExactEnds
namespace Go.Proofs.YtjdbedlgkngdkaaDoor
theorem fnExactEnds_holds : Rows.FnExactEndsCardSaid :=
  Claim7.holds_tied_plain_at .later [] Rows.fnExactEndsCard.laidKinds true Rows.fnExactEndsCard.stood.harness false
    fnExactEnds.over (fun _ h => by cases h) (by kernel_rfl) (fun _ h => by cases h) fnExactEnds_row_tie rfl ⟨rfl, rfl⟩ (by kernel_rfl) rfl
    (fun f fn hf hfn => by
      obtain rfl : f = 3 := Option.some.inj ((show Tryd.prog.funcNamed Rows.fnExactEndsRow.func = some 3 by kernel_rfl).symm.trans hf) |>.symm
      obtain rfl : fn = Tryd.f3 := (Option.some.inj (Tryd.func3.symm.trans hfn)).symm
      exact ⟨by kernel_rfl, fun j t ht => by
        rw [Tryd.params3] at ht
        have hm : t ∈ [23, 3, 3] := by simpa using Array.mem_of_getElem? ht
        have hall : ([23, 3, 3].all fun u => !Tryd.prog.wantsStandIn u) = true := by kernel_rfl
        exact (show Tryd.prog.wantsStandIn t = false by simpa using List.all_eq_true.1 hall t hm)⟩)
    (by kernel_rfl)
end Go.Proofs.YtjdbedlgkngdkaaDoor
