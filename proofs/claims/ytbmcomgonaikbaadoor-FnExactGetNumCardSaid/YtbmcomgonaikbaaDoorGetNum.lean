/- At every list of bytes, place and size the program's GetNum answers as the model's, and its argument is as it was; no condition but that the arguments can be read, and the laid error. -/
import Derived.Test.YtbmcomgonaikbaaDoorDsk
import Derived.Test.YtbmcomgonaikbaaDoorSent
import Derived.Test.YtbmcomgonaikbaaDoorGW
import Derived.Test.YtbmcomgonaikbaaDoorCards
import Derived.Test.YtbmcomgonaikbaaDoorTie
import Derived.WalkKit
import Derived.ProofKit
import Derived.OpenShut
import Derived.ShutString
import Derived.LaidMore
import Derived.Stop.Joined
import Derived.SevenTiedAt
import Derived.ChangeOld
import Derived.Below
namespace Go.Proofs.YtbmcomgonaikbaaDoor.fnExactGetNum
open Go.ChangeShapes Go.WideShapes Go.ChangeAt Go.RowKit
open Go.ChangeMaps (open_string shut_string)
set_option linter.unusedVariables false
theorem own : ownKnob Tryd.prog.godebug = none := by kernel_rfl
theorem laidOut : laidOutB Tryd.prog = true := by kernel_rfl
theorem gGaveUp : Tryd.prog.globalNamed "loop.example/g00400/impl.errGaveUp" = some 0 := by kernel_rfl
theorem tGaveUp : (Tryd.prog.globals[0]?).map (·.type) = some 37 := by kernel_rfl
theorem door_met (os : Os) (args : Array Value) : laidMetH Tryd.prog Rows.fnExactGetNumRow.laid ((World.doorLaid Tryd.prog 35 os).forCall (fun _ _ => 0) ⟨#[], args, []⟩).memory :=
  laidMetH_of_parts3 (fuel := 8) (laidMet_of_run' 8 (by kernel_rfl) (by kernel_rfl)) (by kernel_rfl) (by kernel_rfl)

theorem walk (a : Option Addr) (cap : Nat) (L : List UInt8) (p s : Int) (w : World) (hc : Cells w a (bys L)) (hn : a = none → cap = 0) (hl : L.length ≤ 9223372036854775807) (hw : (Lit.int .i64 p).wf = true) (hw' : (Lit.int .i64 s).wf = true) (u : TypeId) (pv : Value) (hv : w.cell? ⟨0, 0, none⟩ = some (.iface u pv)) :
    Calls Tryd.prog 3 #[.slice a L.length cap, .int .i64 p, .int .i64 s] w fun e w' => e = .returned (.bool true) ∧ Keeps w w' := by
  have HC := hide hc
  have HV := hide hv
  clear hc hn hw hw' hv
  by_cases hlt : L.length ≤ 1048576
  · have HL := hide hlt
    have HL24 : Hid (L.length ≤ 16777216) := Nat.le_trans hlt (by decide)
    have HLm : Hid (L.length ≤ 9223372036854775807) := Nat.le_trans hlt (by decide)
    go_enter Tryd.func3, Tryd.ntmps3
    have HK := hide (Keeps.refl w)
    go_wp2_with fail
    refine (toByteS_k a cap L w (HC.out.kept HK.out) HL.out).mono ?_
    rintro e w1 ⟨b1, rfl, hb, hk⟩
    replace HK := hide (HK.out.trans hk)
    have HOa := hide hb.toOwn
    clear hb hk
    go_wp2_with fail
    refine (getnum_spec b1 0 L L.length p s w1 (HOa.out.mem ((some ⟨b1, 0, none⟩), bys L) (by simp)) HL24.out).mono ?_
    rintro e w2 ⟨rfl, hw2⟩
    obtain rfl := Eq.symm hw2
    clear HOa hw2
    go_wp2_with fail
    refine (toByteS_k a cap L w1 (HC.out.kept HK.out) HL.out).mono ?_
    rintro e w3 ⟨b3, rfl, hb, hk⟩
    replace HK := hide (HK.out.trans hk)
    have HOx := hide hb.toOwn
    clear hb hk
    go_wp2_with fail
    refine (getnum_impl b3 0 L L.length p s w3 u pv (HK.out.cell HV.out) (HOx.out.mem ((some ⟨b3, 0, none⟩), bys L) (by simp)) HL24.out (Nat.le_refl _) HLm.out).mono ?_
    rintro e w4 ⟨rfl, hk⟩
    replace HK := hide (HK.out.trans hk)
    replace HOx := hide (HOx.out.kept hk)
    clear hk
    go_wp2_with fail
    refine (toByteS_k a cap L w4 (HC.out.kept HK.out) HL.out).mono ?_
    rintro e w6 ⟨b2, rfl, hb, hk⟩
    replace HK := hide (HK.out.trans hk)
    replace HOx := hide (HOx.out.kept hk)
    have HOy := hide hb.toOwn
    clear hb hk
    go_wp2_with fail
    have hq := eqByteS_k (some ⟨b3, 0, none⟩) (some ⟨b2, 0, none⟩) L.length L.length L L w6 (HOx.out.mem ((some ⟨b3, 0, none⟩), bys L) (by simp)) (HOy.out.mem ((some ⟨b2, 0, none⟩), bys L) (by simp)) HL24.out HL24.out
    rw [decide_eq_true rfl] at hq
    refine hq.mono ?_
    clear hq
    rintro e w7 ⟨rfl, hk⟩
    replace HK := hide (HK.out.trans hk)
    clear hk
    go_wp2_with fail
    go_ret
    exact ⟨rfl, HK.out⟩
  · have h1 : (1048576 : Int) < L.length := by omega
    clear hlt HC
    go_enter Tryd.func3, Tryd.ntmps3
    go_wp2_with fail
    go_ret
    exact ⟨rfl, Keeps.refl _⟩

set_option maxRecDepth 100000 in
theorem lifted (os : Os) (started : os.Started) (H : Type) (enc : TypeId × Value → H) :
    ReturnsInHanded {} Tryd.checked os 3 .any (fun w args => (Rows.fnExactGetNumSpec.pre enc Tryd.prog Tryd.f3 [] false w args ∧ laidMetH Tryd.prog Rows.fnExactGetNumRow.laid w) ∧ sizedMet enc Tryd.prog Tryd.f3 (OpenSpec.ofChange Rows.fnExactGetNumSpec) false w args)
      (Rows.fnExactGetNumSpec.post enc Tryd.prog Tryd.f3 false true false false) := by
  refine returnsInHanded_of_change_and (C := Tryd.checked) (X := fun w _ => laidMetH Tryd.prog Rows.fnExactGetNumRow.laid w) (fun _ _ _ hh h => h.of_heap hh) own started (by kernel_rfl) Tryd.func3
    (ChangeSpec.witness_shaped (enc := enc) (C := Tryd.checked) (os := os) (X := fun w _ => laidMetH Tryd.prog Rows.fnExactGetNumRow.laid w) false (World.doorLaid Tryd.prog 35 os) #[.slice none 0 0, .int .i64 0, .int .i64 0] 8 rfl (World.shaped_of_RefB (by kernel_rfl) (by kernel_rfl)) (by kernel_rfl) (by kernel_rfl) (by kernel_rfl) (door_met os _)) ?_
  intro W base args ds gs before hval0 hW _ hsz hL _
  have hval : ∀ (j : Nat) t v, Tryd.f3.params[j]? = some t → args[j]? = some v → Value.okWide Tryd.prog W .any base t v := hval0
  have hW' := hW
  obtain ⟨p, q, hA0, hV0, rfl, hfz, hnd⟩ := hW
  have hA : DataW.TrodAll enc Tryd.prog W 0 (fun _ => true) true Tryd.f3.params.toList args.toList ds p := hA0
  have hV : DataW.TrodVars enc Tryd.prog W (fun _ => true) ["loop.example/g00400/impl.errGaveUp"] gs q := hV0
  rw [Tryd.params3] at hA hval
  obtain ⟨v0, vs0, d0, ds0, p0, q0, hargs, rfl, rfl, h0, r0⟩ := trodAll_cons hA
  obtain ⟨v1, vs1, d1, ds1, p1, q1, rfl, rfl, rfl, h1, r1⟩ := trodAll_cons r0
  obtain ⟨v2, vs2, d2, ds2, p2, q2, rfl, rfl, rfl, h2, r2⟩ := trodAll_cons r1
  obtain ⟨rfl, rfl, rfl⟩ := trodAll_nil r2
  obtain rfl : args = #[v0, v1, v2] := by cases args; simp_all
  have k0 := h0
  have lt0 : ∀ x ∈ p0, x.block < W.heap.size := by obtain ⟨m, hm⟩ := k0; exact DataW.trod_lt m _ _ _ hm
  obtain ⟨a0, cap0, L0, rfl, hc0, hn0, hl0⟩ := bytes_row (hval 0 22 v0 rfl rfl) h0
  obtain ⟨a1, rfl, rfl, rfl, w1⟩ := open_int Tryd.underlying3 (hval 1 3 v1 rfl rfl) h1
  obtain ⟨a2, rfl, rfl, rfl, w2⟩ := open_int Tryd.underlying3 (hval 2 3 v2 rfl rfl) h2
  have hL0 : laidMet Tryd.prog Rows.fnExactGetNumRow.laid W := by rw [← MakeChecks.laidMetH_plain _ _ _ (by kernel_rfl)]; exact hL
  obtain ⟨xGaveUp, hvGaveUp⟩ := sent hL0 gGaveUp tGaveUp
  obtain ⟨rfl, rfl⟩ := hV.unique (vars_read1 enc gGaveUp tGaveUp Tryd.underlying37 hvGaveUp trivial _)
  clear hA0 hV0 hval0
  refine (walk a0 cap0 L0 a1 a2 W hc0 hn0 hl0 w1 w2 _ _ (cell_of_var gGaveUp hvGaveUp)).mono fun e W' ⟨he, hb⟩ => ?_
  subst he
  refine ⟨_, rfl, _, _, _, [], (p0 ++ ([] ++ ([] ++ []))), [.cell 0 0], hW', ?_, ?_, ?_, Below.frame hb _, fun h => by cases h⟩
  · exact trodAll_mk1 (shut_bool Tryd.underlying4 _)
  · exact (trodAll_cons_mk (Below.trod laidOut (by kernel_rfl) (of_decide_eq_true (by kernel_rfl)) k0 hb lt0) (trodAll_cons_mk (shut_int Tryd.underlying3 w1) (trodAll_cons_mk (shut_int Tryd.underlying3 w2) trodAll_mk0)))
  · exact vars_read1 enc gGaveUp tGaveUp Tryd.underlying37 (var_kept hb hvGaveUp) trivial _

theorem over : Rows.FnExactGetNumSaid :=
  OpenClaim.holds_of_wide 3 Tryd.f3 rfl rfl rfl rfl rfl rfl rfl ⟨rfl, rfl, rfl, rfl, rfl⟩ rfl rfl rfl rfl rfl (by kernel_rfl) Tryd.func3 (by kernel_rfl)
    (of_decide_eq_true (by kernel_rfl)) (by unfold Func.isWrapper; first | (rw [if_pos (by decide +kernel)]; kernel_rfl) | (rw [if_neg (by decide +kernel)]; exact ⟨rfl, rfl⟩))
    (fun os started H enc _ => lifted os started H enc)
end Go.Proofs.YtbmcomgonaikbaaDoor.fnExactGetNum
namespace Go.Proofs.YtbmcomgonaikbaaDoor
theorem fnExactGetNum_card : Rows.FnExactGetNumCardSaid :=
  Claim7.holds_tied_plain_at .later [] Rows.fnExactGetNumCard.laidKinds true Rows.fnExactGetNumCard.stood.harness false
    fnExactGetNum.over (fun _ h => by cases h) (by kernel_rfl) (fun _ h => by cases h) fnExactGetNum_row_tie rfl ⟨rfl, rfl⟩ (by kernel_rfl) rfl
    (fun f fn hf hfn => by
      obtain rfl : f = 3 := Option.some.inj ((show Tryd.prog.funcNamed Rows.fnExactGetNumRow.func = some 3 by kernel_rfl).symm.trans hf) |>.symm
      obtain rfl : fn = Tryd.f3 := (Option.some.inj (Tryd.func3.symm.trans hfn)).symm
      exact ⟨by kernel_rfl, fun j t ht => by
        rw [Tryd.params3] at ht
        have hm : t ∈ [22, 3, 3] := by simpa using Array.mem_of_getElem? ht
        have hall : ([22, 3, 3].all fun u => !Tryd.prog.wantsStandIn u) = true := by kernel_rfl
        exact (show Tryd.prog.wantsStandIn t = false by simpa using List.all_eq_true.1 hall t hm)⟩)
    (by kernel_rfl)
end Go.Proofs.YtbmcomgonaikbaaDoor
