/- MovesCost of the program answers as the model at every list of moves, and writes into none. -/
import Derived.Test.YtjdbedlgkngdkaaPo
import Derived.Test.YtjdbedlgkngdkaaMvO
import Derived.Test.YtjdbedlgkngdkaaRows
import Derived.WalkKit
import Derived.ProofKit
import Derived.OpenShut
import Derived.ChangeOld
import Derived.Below
namespace Go.Proofs.Ytjdbedlgkngdkaa.fnExactMovesCost
open Go.ChangeShapes Go.WideShapes Go.ChangeAt Go.RowKit
set_option linter.unusedVariables false
set_option maxRecDepth 100000 in
set_option maxHeartbeats 4000000 in
theorem walk (a : Option Addr) (cap : Nat) (L : List Mov) (w : World) (hc : Cells w a (mvs L)) (hf : (a = none → cap = 0) ∧ L.length ≤ cap) (hl : L.length ≤ 9223372036854775807) :
    Calls Try.prog 4 #[.slice a L.length cap] w fun e w' => e = .returned (.bool true) ∧ Keeps w w' := by
  have HC := hide (fun w' (hk : Keeps w w') => hc.kept hk)
  have HSz := hide (szMoveS_k a L.length cap 1048576 w hl (by decide) (by decide))
  clear hc hf
  go_enter Try.func4, Try.ntmps4
  go_wp2_with fail
  refine (unhide HSz).mono ?_
  rintro e w0 ⟨rfl, hw0⟩
  obtain rfl := Eq.symm hw0
  clear HSz
  by_cases q : (L.length : Int) ≤ 1048576
  rotate_left
  · rw [if_neg q]
    go_wp2_with fail
    go_ret
    exact ⟨rfl, Keeps.refl _⟩
  rw [if_pos q]
  have HL : Hid (L.length ≤ 1048576) := by show _ ≤ _; omega
  go_wp2_with fail
  refine (toMoveS_k a cap L _ (unhide HC _ (Keeps.refl _)) HL.out).mono ?_
  rintro e w1 ⟨b1, rfl, hb1, hk1⟩
  have HK := hide hk1
  have HM := hide (hb1.mem (some ⟨b1, 0, none⟩, mvs L) (by simp))
  clear hb1 hk1
  go_wp2_with fail
  refine (mcost_spec (some ⟨b1, 0, none⟩) L.length L w1 HM.out HL.out).mono ?_
  rintro e w2 ⟨rfl, hk2⟩
  replace HK := hide (HK.out.trans hk2)
  clear hk2 HM
  go_wp2_with fail
  refine (toMoveS_k a cap L w2 (unhide HC _ HK.out) HL.out).mono ?_
  rintro e w3 ⟨b2, rfl, hb2, hk3⟩
  replace HK := hide (HK.out.trans hk3)
  have HM := hide (hb2.mem (some ⟨b2, 0, none⟩, mvs L) (by simp))
  clear hb2 hk3
  go_wp2_with fail
  refine (mcost_impl (some ⟨b2, 0, none⟩) L.length L w3 HM.out HL.out).mono ?_
  rintro e w4 ⟨rfl, hk4⟩
  replace HK := hide (HK.out.trans hk4)
  replace HM := hide (HM.out.kept hk4)
  clear hk4
  generalize costM L = r at *
  have hrr : (r != r) = false := by simp
  go_wp2_with fail
  refine (toMoveS_k a cap L w4 (unhide HC _ HK.out) HL.out).mono ?_
  rintro e w5 ⟨b3, rfl, hb3, hk5⟩
  replace HK := hide (HK.out.trans hk5)
  replace HM := hide (HM.out.kept hk5)
  have HM3 := hide (hb3.mem (some ⟨b3, 0, none⟩, mvs L) (by simp))
  clear hb3 hk5
  go_wp2_with fail
  refine (eqMoveS_k (some ⟨b2, 0, none⟩) (some ⟨b3, 0, none⟩) L.length L.length L w5 HM.out HM3.out HL.out).mono ?_
  rintro e w6 ⟨rfl, hk6⟩
  replace HK := hide (HK.out.trans hk6)
  clear hk6
  go_wp2_with fail
  go_ret
  exact ⟨rfl, HK.out⟩

theorem own : ownKnob Try.prog.godebug = none := by kernel_rfl
theorem laidOut : laidOutB Try.prog = true := by kernel_rfl

set_option maxRecDepth 100000 in
theorem lifted (os : Os) (started : os.Started) (H : Type) (enc : TypeId × Value → H) :
    ReturnsInHanded {} Try.checked os 4 .any (Rows.fnExactMovesCostSpec.pre6 enc Try.prog Try.f4 Rows.fnExactMovesCostRow.domain false) (Rows.fnExactMovesCostSpec.post enc Try.prog Try.f4 false true false false) := by
  refine returnsInHanded_of_change (C := Try.checked) own started (by kernel_rfl) Try.func4
    (ChangeSpec.witness6 (enc := enc) (C := Try.checked) false ⟨#[], #[.slice none 0 0], []⟩ 8 (by kernel_rfl) (by kernel_rfl) (by kernel_rfl) (by kernel_rfl)) ?_
  intro W base args ds gs before hval0 hW hcnd _
  have hval : ∀ (j : Nat) t v, Try.f4.params[j]? = some t → args[j]? = some v → Value.okWide Try.prog W .any base t v := hval0
  have hW' := hW
  obtain ⟨p, q, hA0, hV, rfl, hfz, hnd⟩ := hW
  have hA : DataW.TrodAll enc Try.prog W 0 (fun _ => true) true Try.f4.params.toList args.toList ds p := hA0
  rw [Try.params4] at hA hval
  obtain ⟨v0, vs0, d0, ds0, p0, q0, hargs, rfl, rfl, h0, r0⟩ := trodAll_cons hA
  obtain ⟨rfl, rfl, rfl⟩ := trodAll_nil r0
  obtain rfl : args = #[v0] := by cases args; simp_all
  obtain ⟨rfl, rfl⟩ := trodVars_none hV
  have lt0 := lt_row h0
  have k0 := h0
  obtain ⟨a0, cap0, L0, rfl, hc0, hf0, hl0⟩ := moves_row (hval 0 42 v0 rfl rfl) h0
  clear hA0 hval0
  refine (walk a0 cap0 L0 W hc0 hf0 hl0).mono fun e W' ⟨he, hb⟩ => ?_
  subst he
  refine ⟨_, rfl, _, _, _, [], (p0 ++ []), [], hW', ?_, ?_, ?_, Below.frame hb _, fun h => by cases h⟩
  · exact trodAll_mk1 (shut_bool Try.underlying4 _)
  · exact (trodAll_cons_mk (Below.trod laidOut (by kernel_rfl) (of_decide_eq_true (by kernel_rfl)) k0 hb lt0) trodAll_mk0)
  · exact rfl

theorem over : Rows.fnExactMovesCostRow.holds Try.pinned (OpenSpec.ofChange Rows.fnExactMovesCostSpec) :=
  OpenClaim.holds_of_wide 4 Try.f4 rfl rfl rfl rfl rfl rfl rfl ⟨rfl, rfl, rfl, rfl, rfl⟩ rfl rfl rfl rfl rfl (by kernel_rfl) Try.func4 (by kernel_rfl)
    (of_decide_eq_true (by kernel_rfl)) (by unfold Func.isWrapper; first | (rw [if_pos (by decide +kernel)]; kernel_rfl) | (rw [if_neg (by decide +kernel)]; exact ⟨rfl, rfl⟩))
    (fun os started H enc _ => lifted os started H enc)
end Go.Proofs.Ytjdbedlgkngdkaa.fnExactMovesCost
namespace Go.Proofs.Ytjdbedlgkngdkaa
theorem fnExactMovesCost_holds : Rows.FnExactMovesCostSaid := fnExactMovesCost.over
end Go.Proofs.Ytjdbedlgkngdkaa
