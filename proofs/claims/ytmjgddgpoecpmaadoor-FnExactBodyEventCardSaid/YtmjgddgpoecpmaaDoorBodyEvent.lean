/- At every list of bytes the program's BodyEvent answers as the model's, and its argument is as it was; no condition but that the argument can be read, and the laid error. -/
import Derived.Test.YtmjgddgpoecpmaaDoorDsk
import Derived.Test.YtmjgddgpoecpmaaDoorSent
import Derived.Test.YtmjgddgpoecpmaaDoorBEG
import Derived.Test.YtmjgddgpoecpmaaDoorBES
import Derived.Test.YtmjgddgpoecpmaaDoorEvQ
import Derived.Test.YtmjgddgpoecpmaaDoorCards
import Derived.Test.YtmjgddgpoecpmaaDoorTie
import Derived.WalkKit
import Derived.ProofKit
import Derived.OpenShut
import Derived.ShutString
import Derived.LaidMore
import Derived.Stop.Joined
import Derived.SevenTiedAt
import Derived.ChangeOld
import Derived.Below
namespace Go.Proofs.YtmjgddgpoecpmaaDoor.fnExactBodyEvent
open Go.ChangeShapes Go.WideShapes Go.ChangeAt Go.RowKit
open Go.ChangeMaps (open_string shut_string)
set_option linter.unusedVariables false
theorem own : ownKnob Tryd.prog.godebug = none := by kernel_rfl
theorem laidOut : laidOutB Tryd.prog = true := by kernel_rfl
theorem gGaveUp : Tryd.prog.globalNamed "loop.example/g00400/impl.errGaveUp" = some 1 := by kernel_rfl
theorem tGaveUp : (Tryd.prog.globals[1]?).map (·.type) = some 66 := by kernel_rfl
theorem door_met (os : Os) (args : Array Value) : laidMetH Tryd.prog Rows.fnExactBodyEventRow.laid ((World.doorLaid Tryd.prog 147 os).forCall (fun _ _ => 0) ⟨#[], args, []⟩).memory :=
  laidMetH_of_parts3 (fuel := 8) (laidMet_of_run' 8 (by kernel_rfl) (by kernel_rfl)) (by kernel_rfl) (by kernel_rfl)

set_option maxHeartbeats 1000000 in
theorem walk (a : Option Addr) (cap : Nat) (L : List UInt8) (w : World) (hc : Cells w a (bys L)) (hn : a = none → cap = 0) (hl : L.length ≤ 9223372036854775807) (u : TypeId) (pv : Value) (hv : w.cell? ⟨1, 0, none⟩ = some (.iface u pv)) :
    Calls Tryd.prog 7 #[.slice a L.length cap] w fun e w' => e = .returned (.bool true) ∧ Keeps w w' := by
  have HC := hide hc
  have HV := hide hv
  clear hc hn hv
  by_cases hlt : L.length ≤ 1048576
  · have HL := hide hlt
    have HL24 : Hid (L.length ≤ 16777216) := Nat.le_trans hlt (by decide)
    have HLm : Hid (L.length ≤ 9223372036854775807) := Nat.le_trans hlt (by decide)
    have HS := hide (fun (b1 : Nat) (w1 : World) (h : Cells w1 (some ⟨b1, 0, none⟩) (bys L)) => bodyspec b1 0 L L.length w1 h HL24.out)
    have HI := hide (fun (b1 : Nat) (w1 : World) (h : Cells w1 (some ⟨b1, 0, none⟩) (bys L)) (hv : w1.cell? ⟨1, 0, none⟩ = some (.iface u pv)) => bodyevent_impl b1 0 L L.length w1 u pv hv h HL24.out (Nat.le_refl _) HLm.out)
    obtain ⟨k, y, c, t, m, f, b, hV⟩ : ∃ (k y c t m f : Int) (b : Bool), ebV L = evV k y c t m f b := by
      unfold ebV
      split
      · exact ⟨_, _, _, _, _, _, _, rfl⟩
      · exact ⟨_, _, _, _, _, _, _, rfl⟩
    rw [hV] at HS HI
    clear hV
    generalize ebB L = r at *
    go_enter Tryd.func7, Tryd.ntmps7
    have HK := hide (Keeps.refl w)
    go_wp2_with fail
    refine (toByteS_k a cap L w (HC.out.kept HK.out) HL.out).mono ?_
    rintro e w1 ⟨b1, rfl, hb, hk⟩
    replace HK := hide (HK.out.trans hk)
    have HOa := hide hb.toOwn
    clear hb hk
    go_wp2_with fail
    refine (unhide HS b1 w1 (HOa.out.mem ((some ⟨b1, 0, none⟩), bys L) (by simp))).mono ?_
    rintro e w2 ⟨rfl, hk⟩
    replace HK := hide (HK.out.trans hk)
    clear HOa hk
    have hbA := born_alloc w2 #[.int .i64 k, .int .i64 y, .int .i64 c, .int .i64 t, .int .i64 m, .int .i64 f, .bool b] 47
    dsimp only at hbA
    have hkA := Keeps.alloc (Keeps.refl w2) (.cells #[.int .i64 k, .int .i64 y, .int .i64 c, .int .i64 t, .int .i64 m, .int .i64 f, .bool b] 47)
    replace HK := hide (HK.out.trans hkA)
    have HOA := hide hbA.toOwn
    clear hbA hkA
    go_wp2_with fail
    generalize w2.alloc (.cells #[.int .i64 k, .int .i64 y, .int .i64 c, .int .i64 t, .int .i64 m, .int .i64 f, .bool b] 47) = w3 at *
    refine (toByteS_k a cap L w3 (HC.out.kept HK.out) HL.out).mono ?_
    rintro e w4 ⟨b3, rfl, hb, hk⟩
    replace HK := hide (HK.out.trans hk)
    replace HOA := hide (HOA.out.kept hk)
    have HOx := hide hb.toOwn
    clear hb hk
    go_wp2_with fail
    refine (unhide HI b3 w4 (HOx.out.mem ((some ⟨b3, 0, none⟩), bys L) (by simp)) (HK.out.cell HV.out)).mono ?_
    rintro e w5 ⟨rfl, hk⟩
    replace HK := hide (HK.out.trans hk)
    replace HOA := hide (HOA.out.kept hk)
    replace HOx := hide (HOx.out.kept hk)
    clear hk
    have hbB := born_alloc w5 #[.int .i64 k, .int .i64 y, .int .i64 c, .int .i64 t, .int .i64 m, .int .i64 f, .bool b] 47
    dsimp only at hbB
    have hkB := Keeps.alloc (Keeps.refl w5) (.cells #[.int .i64 k, .int .i64 y, .int .i64 c, .int .i64 t, .int .i64 m, .int .i64 f, .bool b] 47)
    replace HK := hide (HK.out.trans hkB)
    replace HOA := hide (HOA.out.kept hkB)
    replace HOx := hide (HOx.out.kept hkB)
    clear hkB
    have hA := HOA.out
    have c0 := own_cell hA 0 (by simp) rfl
    have c1 := own_cell hA 1 (by simp) rfl
    have c2 := own_cell hA 2 (by simp) rfl
    have c3 := own_cell hA 3 (by simp) rfl
    have c4 := own_cell hA 4 (by simp) rfl
    have c5 := own_cell hA 5 (by simp) rfl
    have c6 := own_cell hA 6 (by simp) rfl
    simp only [List.getElem_cons_zero, List.getElem_cons_succ] at c0 c1 c2 c3 c4 c5 c6
    clear hA hbB
    go_wp2_with fail
    clear c0 c1 c2 c3 c4 c5 c6
    generalize w5.alloc (.cells #[.int .i64 k, .int .i64 y, .int .i64 c, .int .i64 t, .int .i64 m, .int .i64 f, .bool b] 47) = w6 at *
    refine (eqEvent_same k y c t m f b w6).mono ?_
    rintro e w7 ⟨rfl, hk⟩
    replace HK := hide (HK.out.trans hk)
    replace HOx := hide (HOx.out.kept hk)
    clear hk HOA
    go_wp2_with fail
    refine (toByteS_k a cap L w7 (HC.out.kept HK.out) HL.out).mono ?_
    rintro e w8 ⟨b2, rfl, hb, hk⟩
    replace HK := hide (HK.out.trans hk)
    replace HOx := hide (HOx.out.kept hk)
    have HOy := hide hb.toOwn
    clear hb hk
    go_wp2_with fail
    have hq := eqByteS_k (some ⟨b3, 0, none⟩) (some ⟨b2, 0, none⟩) L.length L.length L L w8 (HOx.out.mem ((some ⟨b3, 0, none⟩), bys L) (by simp)) (HOy.out.mem ((some ⟨b2, 0, none⟩), bys L) (by simp)) HL24.out HL24.out
    rw [decide_eq_true rfl] at hq
    refine hq.mono ?_
    clear hq
    rintro e w9 ⟨rfl, hk⟩
    replace HK := hide (HK.out.trans hk)
    clear hk
    go_wp2_with fail
    go_ret
    exact ⟨rfl, HK.out⟩
  · have h1 : (1048576 : Int) < L.length := by omega
    clear hlt HC
    go_enter Tryd.func7, Tryd.ntmps7
    go_wp2_with fail
    go_ret
    exact ⟨rfl, Keeps.refl _⟩

set_option maxRecDepth 100000 in
theorem lifted (os : Os) (started : os.Started) (H : Type) (enc : TypeId × Value → H) :
    ReturnsInHanded {} Tryd.checked os 7 .any (fun w args => (Rows.fnExactBodyEventSpec.pre enc Tryd.prog Tryd.f7 [] false w args ∧ laidMetH Tryd.prog Rows.fnExactBodyEventRow.laid w) ∧ sizedMet enc Tryd.prog Tryd.f7 (OpenSpec.ofChange Rows.fnExactBodyEventSpec) false w args)
      (Rows.fnExactBodyEventSpec.post enc Tryd.prog Tryd.f7 false true false false) := by
  refine returnsInHanded_of_change_and (C := Tryd.checked) (X := fun w _ => laidMetH Tryd.prog Rows.fnExactBodyEventRow.laid w) (fun _ _ _ hh h => h.of_heap hh) own started (by kernel_rfl) Tryd.func7
    (ChangeSpec.witness_shaped (enc := enc) (C := Tryd.checked) (os := os) (X := fun w _ => laidMetH Tryd.prog Rows.fnExactBodyEventRow.laid w) false (World.doorLaid Tryd.prog 147 os) #[.slice none 0 0] 8 rfl (World.shaped_of_RefB (by kernel_rfl) (by kernel_rfl)) (by kernel_rfl) (by kernel_rfl) (by kernel_rfl) (door_met os _)) ?_
  intro W base args ds gs before hval0 hW _ hsz hL _
  have hval : ∀ (j : Nat) t v, Tryd.f7.params[j]? = some t → args[j]? = some v → Value.okWide Tryd.prog W .any base t v := hval0
  have hW' := hW
  obtain ⟨p, q, hA0, hV0, rfl, hfz, hnd⟩ := hW
  have hA : DataW.TrodAll enc Tryd.prog W 0 (fun _ => true) true Tryd.f7.params.toList args.toList ds p := hA0
  have hV : DataW.TrodVars enc Tryd.prog W (fun _ => true) ["loop.example/g00400/impl.errGaveUp"] gs q := hV0
  rw [Tryd.params7] at hA hval
  obtain ⟨v0, vs0, d0, ds0, p0, q0, hargs, rfl, rfl, h0, r0⟩ := trodAll_cons hA
  obtain ⟨rfl, rfl, rfl⟩ := trodAll_nil r0
  obtain rfl : args = #[v0] := by cases args; simp_all
  have k0 := h0
  have lt0 : ∀ x ∈ p0, x.block < W.heap.size := by obtain ⟨m, hm⟩ := k0; exact DataW.trod_lt m _ _ _ hm
  obtain ⟨a0, cap0, L0, rfl, hc0, hn0, hl0⟩ := bytes_row (hval 0 22 v0 rfl rfl) h0
  have hL0 : laidMet Tryd.prog Rows.fnExactBodyEventRow.laid W := by rw [← MakeChecks.laidMetH_plain _ _ _ (by kernel_rfl)]; exact hL
  obtain ⟨xGaveUp, hvGaveUp⟩ := sent hL0 gGaveUp tGaveUp
  obtain ⟨rfl, rfl⟩ := hV.unique (vars_read1 enc gGaveUp tGaveUp Tryd.underlying66 hvGaveUp trivial _)
  clear hA0 hV0 hval0
  refine (walk a0 cap0 L0 W hc0 hn0 hl0 _ _ (cell_of_var gGaveUp hvGaveUp)).mono fun e W' ⟨he, hb⟩ => ?_
  subst he
  refine ⟨_, rfl, _, _, _, [], (p0 ++ []), [.cell 1 0], hW', ?_, ?_, ?_, Below.frame hb _, fun h => by cases h⟩
  · exact trodAll_mk1 (shut_bool Tryd.underlying4 _)
  · exact (trodAll_cons_mk (Below.trod laidOut (by kernel_rfl) (of_decide_eq_true (by kernel_rfl)) k0 hb lt0) trodAll_mk0)
  · exact vars_read1 enc gGaveUp tGaveUp Tryd.underlying66 (var_kept hb hvGaveUp) trivial _

theorem over : Rows.FnExactBodyEventSaid :=
  OpenClaim.holds_of_wide 7 Tryd.f7 rfl rfl rfl rfl rfl rfl rfl ⟨rfl, rfl, rfl, rfl, rfl⟩ rfl rfl rfl rfl rfl (by kernel_rfl) Tryd.func7 (by kernel_rfl)
    (of_decide_eq_true (by kernel_rfl)) (by unfold Func.isWrapper; first | (rw [if_pos (by decide +kernel)]; kernel_rfl) | (rw [if_neg (by decide +kernel)]; exact ⟨rfl, rfl⟩))
    (fun os started H enc _ => lifted os started H enc)
end Go.Proofs.YtmjgddgpoecpmaaDoor.fnExactBodyEvent
namespace Go.Proofs.YtmjgddgpoecpmaaDoor
theorem fnExactBodyEvent_card : Rows.FnExactBodyEventCardSaid :=
  Claim7.holds_tied_plain_at .later [] Rows.fnExactBodyEventCard.laidKinds true Rows.fnExactBodyEventCard.stood.harness true
    fnExactBodyEvent.over (fun _ h => by cases h) (by kernel_rfl) (fun _ h => by cases h) fnExactBodyEvent_row_tie rfl ⟨rfl, rfl⟩ (by kernel_rfl) rfl
    (fun f fn hf hfn => by
      obtain rfl : f = 7 := Option.some.inj ((show Tryd.prog.funcNamed Rows.fnExactBodyEventRow.func = some 7 by kernel_rfl).symm.trans hf) |>.symm
      obtain rfl : fn = Tryd.f7 := (Option.some.inj (Tryd.func7.symm.trans hfn)).symm
      exact ⟨by kernel_rfl, fun j t ht => by
        rw [Tryd.params7] at ht
        have hm : t ∈ [22] := by simpa using Array.mem_of_getElem? ht
        have hall : ([22].all fun u => !Tryd.prog.wantsStandIn u) = true := by kernel_rfl
        exact (show Tryd.prog.wantsStandIn t = false by simpa using List.all_eq_true.1 hall t hm)⟩)
    (by kernel_rfl)
end Go.Proofs.YtmjgddgpoecpmaaDoor
