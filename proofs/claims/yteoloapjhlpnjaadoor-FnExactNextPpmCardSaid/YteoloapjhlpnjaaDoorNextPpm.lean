/- NextPpm of the program answers as the model's, at every channel and rule; its errors are the variables that the row lays. -/
import Derived.Test.YteoloapjhlpnjaaDoorTnN
import Derived.Test.YteoloapjhlpnjaaDoorTnG
import Derived.Test.YteoloapjhlpnjaaDoorChR
import Derived.Test.YteoloapjhlpnjaaDoorSent
import Derived.Test.YteoloapjhlpnjaaDoorCards
import Derived.Test.YteoloapjhlpnjaaDoorTie
import Derived.WalkKit
import Derived.ProofKit
import Derived.OpenShut
import Derived.ShutString
import Derived.LaidMore
import Derived.Stop.Joined
import Derived.SevenTiedAt
import Derived.ChangeOld
import Derived.Below
namespace Go.Proofs.YteoloapjhlpnjaaDoor.fnExactNextPpm
open Go.ChangeShapes Go.WideShapes Go.ChangeAt Go.RowKit
open Go.ChangeMaps (open_string shut_string)
set_option linter.unusedVariables false
theorem own : ownKnob Tryd.prog.godebug = none := by kernel_rfl
theorem laidOut : laidOutB Tryd.prog = true := by kernel_rfl
theorem gAmount : Tryd.prog.globalNamed "loop.example/g00400/impl.errNoAmount" = some 0 := by kernel_rfl
theorem tAmount : (Tryd.prog.globals[0]?).map (·.type) = some 107 := by kernel_rfl
theorem gDivisor : Tryd.prog.globalNamed "loop.example/g00400/impl.errNoDivisor" = some 1 := by kernel_rfl
theorem tDivisor : (Tryd.prog.globals[1]?).map (·.type) = some 107 := by kernel_rfl
theorem door_met (os : Os) (args : Array Value) : laidMetH Tryd.prog Rows.fnExactNextPpmRow.laid ((World.doorLaid Tryd.prog 124 os).forCall (fun _ _ => 0) ⟨#[], args, []⟩).memory :=
  laidMetH_of_parts3 (fuel := 8) (laidMet_of_run' 8 (by kernel_rfl) (by kernel_rfl)) (by kernel_rfl) (by kernel_rfl)

set_option maxRecDepth 100000 in
set_option maxHeartbeats 4000000 in
theorem walk (c : Chn) (r : Rul) (w : World) (u0 : TypeId) (x0 : Value) (hg0 : w.cell? ⟨0, 0, none⟩ = some (.iface u0 x0)) (u3 : TypeId) (x3 : Value) (hg3 : w.cell? ⟨1, 0, none⟩ = some (.iface u3 x3)) :
    Calls Tryd.prog 3 #[c.v, r.v] w fun e w' => e = .returned (.bool true) ∧ Keeps w w' := by
  have HTC := hide (fun w' => toChan_k c w')
  have HTR := hide (fun w' => toRule_k r w')
  have HS := hide (fun w' => npp_spec c r w')
  have HI := hide (fun w' => npp_impl c r w')
  clear hg0 hg3
  generalize nppV c r = v at *
  obtain ⟨yid, ysz, ylo, yre, yba, ypp, ysc⟩ := c
  obtain ⟨xlo, xhi, xst, xmi, xma⟩ := r
  dsimp only [Chn.v, Rul.v] at *
  have HA := hide (boxes75 w (.int .i64 yid) (.int .i64 ysz) (.int .i64 ylo) (.int .i64 yre) (.int .i64 yba) (.int .i64 ypp) (.int .i64 ysc) (.int .i64 xlo) (.int .i64 xhi) (.int .i64 xst) (.int .i64 xmi) (.int .i64 xma) 23 25)
  have HK := hide ((keepsA w (.cells #[.int .i64 yid, .int .i64 ysz, .int .i64 ylo, .int .i64 yre, .int .i64 yba, .int .i64 ypp, .int .i64 ysc] 23)).trans (keepsA _ (.cells #[.int .i64 xlo, .int .i64 xhi, .int .i64 xst, .int .i64 xmi, .int .i64 xma] 25)))
  go_enter Tryd.func3, Tryd.ntmps3
  go_wp2_with fail
  generalize (w.alloc (.cells #[.int .i64 yid, .int .i64 ysz, .int .i64 ylo, .int .i64 yre, .int .i64 yba, .int .i64 ypp, .int .i64 ysc] 23)).alloc (.cells #[.int .i64 xlo, .int .i64 xhi, .int .i64 xst, .int .i64 xmi, .int .i64 xma] 25) = W0 at *
  have HKc := hide (Keeps.refl W0)
  obtain ⟨⟨d0, d1, d2, d3, d4, d5, d6⟩, ⟨a0, a1, a2, a3, a4⟩⟩ := unhide HA W0 HKc.out
  have D0 := gr_cell d0
  have D1 := gr_cell d1
  have D2 := gr_cell d2
  have D3 := gr_cell d3
  have D4 := gr_cell d4
  have D5 := gr_cell d5
  have D6 := gr_cell d6
  have A0 := gr_cell a0
  have A1 := gr_cell a1
  have A2 := gr_cell a2
  have A3 := gr_cell a3
  have A4 := gr_cell a4
  refine region_gr (by kernel_rfl) (by kernel_rfl) ?_
  repeat (go_big_quiet_step (first | (go_at_call 6; exact gr_call (unhide HTC _)) | (go_at_call 7; exact gr_call (unhide HTR _)) | (go_at_call 5; exact gr_call (unhide HS _))))
  refine wpQuiet_nil ?_
  intro w1 hw'
  replace HKc := hide (HKc.out.trans (Keeps.of_gr hw'))
  clear hw'
  clear d0 d1 d2 d3 d4 d5 d6 a0 a1 a2 a3 a4 D0 D1 D2 D3 D4 D5 D6 A0 A1 A2 A3 A4
  obtain ⟨⟨d0, d1, d2, d3, d4, d5, d6⟩, ⟨a0, a1, a2, a3, a4⟩⟩ := unhide HA w1 HKc.out
  have D0 := gr_cell d0
  have D1 := gr_cell d1
  have D2 := gr_cell d2
  have D3 := gr_cell d3
  have D4 := gr_cell d4
  have D5 := gr_cell d5
  have D6 := gr_cell d6
  have A0 := gr_cell a0
  have A1 := gr_cell a1
  have A2 := gr_cell a2
  have A3 := gr_cell a3
  have A4 := gr_cell a4
  go_wp2_with fail
  refine region_gr (by kernel_rfl) (by kernel_rfl) ?_
  repeat (go_big_quiet_step (first | (go_at_call 6; exact gr_call (unhide HTC _)) | (go_at_call 7; exact gr_call (unhide HTR _)) | (go_at_call 8; exact gr_call (unhide HI _))))
  refine wpQuiet_nil ?_
  intro w2 hw'
  replace HKc := hide (HKc.out.trans (Keeps.of_gr hw'))
  clear hw'
  clear d0 d1 d2 d3 d4 d5 d6 a0 a1 a2 a3 a4 D0 D1 D2 D3 D4 D5 D6 A0 A1 A2 A3 A4
  have hrr : (v != v) = false := by simp
  go_wp2_with fail
  go_ret
  exact ⟨rfl, HK.out.trans HKc.out⟩

set_option maxRecDepth 100000 in
theorem lifted (os : Os) (started : os.Started) (H : Type) (enc : TypeId × Value → H) :
    ReturnsInHanded {} Tryd.checked os 3 .any (fun w args => (Rows.fnExactNextPpmSpec.pre enc Tryd.prog Tryd.f3 [] false w args ∧ laidMetH Tryd.prog Rows.fnExactNextPpmRow.laid w) ∧ sizedMet enc Tryd.prog Tryd.f3 (OpenSpec.ofChange Rows.fnExactNextPpmSpec) false w args)
      (Rows.fnExactNextPpmSpec.post enc Tryd.prog Tryd.f3 false true false false) := by
  refine returnsInHanded_of_change_and (C := Tryd.checked) (X := fun w _ => laidMetH Tryd.prog Rows.fnExactNextPpmRow.laid w) (fun _ _ _ hh h => h.of_heap hh) own started (by kernel_rfl) Tryd.func3
    (ChangeSpec.witness_shaped (enc := enc) (C := Tryd.checked) (os := os) (X := fun w _ => laidMetH Tryd.prog Rows.fnExactNextPpmRow.laid w) false (World.doorLaid Tryd.prog 124 os) #[.agg #[.int .i64 0, .int .i64 0, .int .i64 0, .int .i64 0, .int .i64 0, .int .i64 0, .int .i64 0], .agg #[.int .i64 0, .int .i64 0, .int .i64 0, .int .i64 0, .int .i64 0]] 8 rfl (World.shaped_of_RefB (by kernel_rfl) (by kernel_rfl)) (by kernel_rfl) (by kernel_rfl) (by kernel_rfl) (door_met os _)) ?_
  intro W base args ds gs before hval0 hW _ hsz hL _
  have hval : ∀ (j : Nat) t v, Tryd.f3.params[j]? = some t → args[j]? = some v → Value.okWide Tryd.prog W .any base t v := hval0
  have hW' := hW
  obtain ⟨p, q, hA0, hV0, rfl, hfz, hnd⟩ := hW
  have hA : DataW.TrodAll enc Tryd.prog W 0 (fun _ => true) true Tryd.f3.params.toList args.toList ds p := hA0
  have hV : DataW.TrodVars enc Tryd.prog W (fun _ => true) ["loop.example/g00400/impl.errNoAmount", "loop.example/g00400/impl.errNoDivisor"] gs q := hV0
  rw [Tryd.params3] at hA hval
  obtain ⟨v0, vs0, d0, ds0, p0, q0, hargs, rfl, rfl, h0, r0⟩ := trodAll_cons hA
  obtain ⟨v1, vs1, d1, ds1, p1, q1, rfl, rfl, rfl, h1, r1⟩ := trodAll_cons r0
  obtain ⟨rfl, rfl, rfl⟩ := trodAll_nil r1
  obtain rfl : args = #[v0, v1] := by cases args; simp_all
  have k0 := h0
  have lt0 : ∀ x ∈ p0, x.block < W.heap.size := by obtain ⟨m, hm⟩ := k0; exact DataW.trod_lt m _ _ _ hm
  obtain ⟨c0, rfl⟩ := chan_row (hval 0 23 v0 rfl rfl) h0
  have k1 := h1
  have lt1 : ∀ x ∈ p1, x.block < W.heap.size := by obtain ⟨m, hm⟩ := k1; exact DataW.trod_lt m _ _ _ hm
  obtain ⟨r1u, rfl⟩ := rule_row (hval 1 25 v1 rfl rfl) h1
  have hL0 : laidMet Tryd.prog Rows.fnExactNextPpmRow.laid W := by rw [← MakeChecks.laidMetH_plain _ _ _ (by kernel_rfl)]; exact hL
  obtain ⟨xAmount, hvAmount⟩ := sent hL0 gAmount tAmount
  obtain ⟨xDivisor, hvDivisor⟩ := sent (laidMet.tail hL0) gDivisor tDivisor
  obtain ⟨rfl, rfl⟩ := hV.unique (vars_read2 enc gAmount tAmount Tryd.underlying107 hvAmount trivial gDivisor tDivisor Tryd.underlying107 hvDivisor trivial _)
  clear hA0 hV0 hval0
  refine (walk c0 r1u W  _ _ (cell_of_var gAmount hvAmount) _ _ (cell_of_var gDivisor hvDivisor)).mono fun e W' ⟨he, hb⟩ => ?_
  subst he
  refine ⟨_, rfl, _, _, _, [], (p0 ++ (p1 ++ [])), [.cell 0 0, .cell 1 0], hW', ?_, ?_, ?_, Below.frame hb _, fun h => by cases h⟩
  · exact trodAll_mk1 (shut_bool Tryd.underlying4 _)
  · exact (trodAll_cons_mk (Below.trod laidOut (by kernel_rfl) (of_decide_eq_true (by kernel_rfl)) k0 hb lt0) (trodAll_cons_mk (Below.trod laidOut (by kernel_rfl) (of_decide_eq_true (by kernel_rfl)) k1 hb lt1) trodAll_mk0))
  · exact vars_read2 enc gAmount tAmount Tryd.underlying107 (var_kept hb hvAmount) trivial gDivisor tDivisor Tryd.underlying107 (var_kept hb hvDivisor) trivial _

theorem over : Rows.FnExactNextPpmSaid :=
  OpenClaim.holds_of_wide 3 Tryd.f3 rfl rfl rfl rfl rfl rfl rfl ⟨rfl, rfl, rfl, rfl, rfl⟩ rfl rfl rfl rfl rfl (by kernel_rfl) Tryd.func3 (by kernel_rfl)
    (of_decide_eq_true (by kernel_rfl)) (by unfold Func.isWrapper; first | (rw [if_pos (by decide +kernel)]; kernel_rfl) | (rw [if_neg (by decide +kernel)]; exact ⟨rfl, rfl⟩))
    (fun os started H enc _ => lifted os started H enc)
end Go.Proofs.YteoloapjhlpnjaaDoor.fnExactNextPpm
namespace Go.Proofs.YteoloapjhlpnjaaDoor
theorem fnExactNextPpm_holds : Rows.FnExactNextPpmCardSaid :=
  Claim7.holds_tied_plain_at .later [] Rows.fnExactNextPpmCard.laidKinds true Rows.fnExactNextPpmCard.stood.harness false
    fnExactNextPpm.over (fun _ h => by cases h) (by kernel_rfl) (fun _ h => by cases h) fnExactNextPpm_row_tie rfl ⟨rfl, rfl⟩ (by kernel_rfl) rfl
    (fun f fn hf hfn => by
      obtain rfl : f = 3 := Option.some.inj ((show Tryd.prog.funcNamed Rows.fnExactNextPpmRow.func = some 3 by kernel_rfl).symm.trans hf) |>.symm
      obtain rfl : fn = Tryd.f3 := (Option.some.inj (Tryd.func3.symm.trans hfn)).symm
      exact ⟨by kernel_rfl, fun j t ht => by
        rw [Tryd.params3] at ht
        have hm : t ∈ [23, 25] := by simpa using Array.mem_of_getElem? ht
        have hall : ([23, 25].all fun u => !Tryd.prog.wantsStandIn u) = true := by kernel_rfl
        exact (show Tryd.prog.wantsStandIn t = false by simpa using List.all_eq_true.1 hall t hm)⟩)
    (by kernel_rfl)
end Go.Proofs.YteoloapjhlpnjaaDoor
