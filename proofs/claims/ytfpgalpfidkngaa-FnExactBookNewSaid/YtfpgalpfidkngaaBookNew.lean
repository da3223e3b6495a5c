/- The program's BookNew and the model's answer the same book, in memory of its own. -/
import Derived.Test.YtfpgalpfidkngaaBnA
import Derived.Test.YtfpgalpfidkngaaRows
import Derived.WalkKit
import Derived.ProofKit
import Derived.OpenShut
import Derived.ChangeOld
import Derived.Below
namespace Go.Proofs.Ytfpgalpfidkngaa.fnExactBookNew
open Go.ChangeShapes Go.WideShapes Go.ChangeAt Go.RowKit
set_option linter.unusedVariables false
set_option maxRecDepth 100000 in
set_option maxHeartbeats 4000000 in
theorem walk (w : World) : Calls Try.prog 4 #[] w fun e w' => e = .returned (.bool true) ∧ Keeps w w' := by
  have HEq := hide (fun w' => eqBook_k bo0 bo0 w' rfl (bo0_mem w') (bo0_mem w') bo0_len)
  dsimp only [Bo.v, bo0, List.length_nil] at HEq
  go_enter Try.func4, Try.ntmps4
  go_wp2_with fail
  refine (new_spec w).mono ?_
  rintro e w1 ⟨rfl, hk⟩
  have HK1 := hide hk
  clear hk
  go_upto_region 2 with fail
  have HVa := hide (rowc6 w1 (.int .i64 0) (.int .i64 1) (.int .i64 0) (.slice none 0 0) (.slice none 0 0) (.slice none 0 0) 33)
  have hk := Keeps.alloc (Keeps.refl w1) (.cells #[.int .i64 0, .int .i64 1, .int .i64 0, .slice none 0 0, .slice none 0 0, .slice none 0 0] 33)
  have HK2 := hide (HK1.out.trans hk)
  have HLa := hide (Keeps.refl (w1.alloc (.cells #[.int .i64 0, .int .i64 1, .int .i64 0, .slice none 0 0, .slice none 0 0, .slice none 0 0] 33)))
  generalize w1.alloc (.cells #[.int .i64 0, .int .i64 1, .int .i64 0, .slice none 0 0, .slice none 0 0, .slice none 0 0] 33) = w2 at *
  clear hk
  go_wp2_with fail
  refine (new_impl w2).mono ?_
  rintro e w3 ⟨rfl, hk⟩
  have HK3 := hide (HK2.out.trans hk)
  replace HLa := hide (HLa.out.trans hk)
  clear hk
  go_upto_region 3 with fail
  have HVb := hide (rowc6 w3 (.int .i64 0) (.int .i64 1) (.int .i64 0) (.slice none 0 0) (.slice none 0 0) (.slice none 0 0) 33)
  have hk := Keeps.alloc (Keeps.refl w3) (.cells #[.int .i64 0, .int .i64 1, .int .i64 0, .slice none 0 0, .slice none 0 0, .slice none 0 0] 33)
  have HK4 := hide (HK3.out.trans hk)
  have HLb := hide (Keeps.refl (w3.alloc (.cells #[.int .i64 0, .int .i64 1, .int .i64 0, .slice none 0 0, .slice none 0 0, .slice none 0 0] 33)))
  replace HLa := hide (HLa.out.trans hk)
  generalize w3.alloc (.cells #[.int .i64 0, .int .i64 1, .int .i64 0, .slice none 0 0, .slice none 0 0, .slice none 0 0] 33) = w4 at *
  clear hk
  obtain ⟨a0, a1, a2, a3, a4, a5⟩ := unhide HVa w4 HLa.out
  obtain ⟨b0, b1, b2, b3, b4, b5⟩ := unhide HVb w4 HLb.out
  go_wp2_with fail
  clear a0 a1 a2 a3 a4 a5
  clear b0 b1 b2 b3 b4 b5
  refine (unhide HEq w4).mono ?_
  rintro e w5 ⟨rfl, hk⟩
  have HK5 := hide (HK4.out.trans hk)
  replace HLa := hide (HLa.out.trans hk)
  replace HLb := hide (HLb.out.trans hk)
  clear hk
  obtain ⟨b0, b1, b2, b3, b4, b5⟩ := unhide HVb w5 HLb.out
  go_wp2_with fail
  clear b0 b1 b2 b3 b4 b5
  refine (markBook0 w5).mono ?_
  rintro e w6 ⟨rfl, hk⟩
  have HK6 := hide (HK5.out.trans hk)
  replace HLa := hide (HLa.out.trans hk)
  replace HLb := hide (HLb.out.trans hk)
  clear hk
  obtain ⟨b0, b1, b2, b3, b4, b5⟩ := unhide HVb w6 HLb.out
  go_wp2_with fail
  clear b0 b1 b2 b3 b4 b5
  refine (heldBook0 w6).mono ?_
  rintro e w7 ⟨rfl, hk⟩
  have HK7 := hide (HK6.out.trans hk)
  replace HLa := hide (HLa.out.trans hk)
  replace HLb := hide (HLb.out.trans hk)
  clear hk
  go_wp2_with fail
  refine (new_impl w7).mono ?_
  rintro e w8 ⟨rfl, hk⟩
  have HK8 := hide (HK7.out.trans hk)
  replace HLa := hide (HLa.out.trans hk)
  replace HLb := hide (HLb.out.trans hk)
  clear hk
  go_upto_region 14 with fail
  have HVc := hide (rowc6 w8 (.int .i64 0) (.int .i64 1) (.int .i64 0) (.slice none 0 0) (.slice none 0 0) (.slice none 0 0) 33)
  have hk := Keeps.alloc (Keeps.refl w8) (.cells #[.int .i64 0, .int .i64 1, .int .i64 0, .slice none 0 0, .slice none 0 0, .slice none 0 0] 33)
  have HK9 := hide (HK8.out.trans hk)
  have HLc := hide (Keeps.refl (w8.alloc (.cells #[.int .i64 0, .int .i64 1, .int .i64 0, .slice none 0 0, .slice none 0 0, .slice none 0 0] 33)))
  replace HLa := hide (HLa.out.trans hk)
  replace HLb := hide (HLb.out.trans hk)
  generalize w8.alloc (.cells #[.int .i64 0, .int .i64 1, .int .i64 0, .slice none 0 0, .slice none 0 0, .slice none 0 0] 33) = w9 at *
  clear hk
  obtain ⟨a0, a1, a2, a3, a4, a5⟩ := unhide HVa w9 HLa.out
  obtain ⟨c0, c1, c2, c3, c4, c5⟩ := unhide HVc w9 HLc.out
  go_wp2_with fail
  clear a0 a1 a2 a3 a4 a5
  clear c0 c1 c2 c3 c4 c5
  refine (unhide HEq w9).mono ?_
  rintro e w10 ⟨rfl, hk⟩
  have HK10 := hide (HK9.out.trans hk)
  replace HLa := hide (HLa.out.trans hk)
  replace HLb := hide (HLb.out.trans hk)
  replace HLc := hide (HLc.out.trans hk)
  clear hk
  obtain ⟨b0, b1, b2, b3, b4, b5⟩ := unhide HVb w10 HLb.out
  go_wp2_with fail
  clear b0 b1 b2 b3 b4 b5
  refine (heldBook0 w10).mono ?_
  rintro e w11 ⟨rfl, hk⟩
  have HK11 := hide (HK10.out.trans hk)
  replace HLa := hide (HLa.out.trans hk)
  replace HLb := hide (HLb.out.trans hk)
  replace HLc := hide (HLc.out.trans hk)
  clear hk
  go_wp2_with fail
  go_ret
  exact ⟨rfl, HK11.out⟩

theorem own : ownKnob Try.prog.godebug = none := by kernel_rfl
theorem laidOut : laidOutB Try.prog = true := by kernel_rfl

set_option maxRecDepth 100000 in
theorem lifted (os : Os) (started : os.Started) (H : Type) (enc : TypeId × Value → H) :
    ReturnsInHanded {} Try.checked os 4 .any (Rows.fnExactBookNewSpec.pre6 enc Try.prog Try.f4 Rows.fnExactBookNewRow.domain false) (Rows.fnExactBookNewSpec.post enc Try.prog Try.f4 false true false false) := by
  refine returnsInHanded_of_change (C := Try.checked) own started (by kernel_rfl) Try.func4
    (ChangeSpec.witness6 (enc := enc) (C := Try.checked) false ⟨#[], #[], []⟩ 8 (by kernel_rfl) (by kernel_rfl) (by kernel_rfl) (by kernel_rfl)) ?_
  intro W base args ds gs before hval0 hW hcnd _
  have hval : ∀ (j : Nat) t v, Try.f4.params[j]? = some t → args[j]? = some v → Value.okWide Try.prog W .any base t v := hval0
  have hW' := hW
  obtain ⟨p, q, hA0, hV, rfl, hfz, hnd⟩ := hW
  have hA : DataW.TrodAll enc Try.prog W 0 (fun _ => true) true Try.f4.params.toList args.toList ds p := hA0
  rw [Try.params4] at hA hval
  obtain ⟨hargs, rfl, rfl⟩ := trodAll_nil hA
  obtain rfl : args = #[] := by cases args; simp_all
  obtain ⟨rfl, rfl⟩ := trodVars_none hV
  clear hA0 hval0
  refine (walk  W ).mono fun e W' ⟨he, hb⟩ => ?_
  subst he
  refine ⟨_, rfl, _, _, _, [], [], [], hW', ?_, ?_, ?_, Below.frame hb _, fun h => by cases h⟩
  · exact trodAll_mk1 (shut_bool Try.underlying4 _)
  · exact trodAll_mk0
  · exact rfl

theorem over : Rows.fnExactBookNewRow.holds Try.pinned (OpenSpec.ofChange Rows.fnExactBookNewSpec) :=
  OpenClaim.holds_of_wide 4 Try.f4 rfl rfl rfl rfl rfl rfl rfl ⟨rfl, rfl, rfl, rfl, rfl⟩ rfl rfl rfl rfl rfl (by kernel_rfl) Try.func4 (by kernel_rfl)
    (of_decide_eq_true (by kernel_rfl)) (by unfold Func.isWrapper; first | (rw [if_pos (by decide +kernel)]; kernel_rfl) | (rw [if_neg (by decide +kernel)]; exact ⟨rfl, rfl⟩))
    (fun os started H enc _ => lifted os started H enc)
end Go.Proofs.Ytfpgalpfidkngaa.fnExactBookNew
namespace Go.Proofs.Ytfpgalpfidkngaa
theorem fnExactBookNew_holds : Rows.FnExactBookNewSaid := fnExactBookNew.over
end Go.Proofs.Ytfpgalpfidkngaa
