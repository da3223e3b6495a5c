/- For every account: the program's AccOk answers as the model's, and the argument stays as it was. -/
import Derived.Test.YtahgibjjnfbkhaaImplC
import Derived.Test.YtahgibjjnfbkhaaGlue3
import Derived.Test.YtahgibjjnfbkhaaOpen2
import Derived.Test.YtahgibjjnfbkhaaRows
import Derived.WalkKit
import Derived.ProofKit
import Derived.OpenShut
import Derived.ChangeOld
import Derived.Below
namespace Go.Proofs.Ytahgibjjnfbkhaa.fnExactAccOk
open Go.ChangeShapes Go.WideShapes Go.ChangeAt Go.RowKit
set_option linter.unusedVariables false
theorem walk (k c : Int) (w : World) :
    Calls Try.prog 5 #[accV k c] w fun e w' => e = .returned (.bool true) ∧ Keeps w w' := by
  have HT := hide (fun w1 => toAcc_k k c w1)
  have HS := hide (fun w1 => acc_k k c w1)
  have HI := hide (fun w1 => impl_acc k c w1)
  go_enter Try.func5, Try.ntmps5
  go_wp2_with fail
  refine (unhide HT _).mono ?_
  rintro e w1 ⟨rfl, hk1⟩
  go_wp2_with fail
  refine (unhide HS _).mono ?_
  rintro e w2 ⟨rfl, hk2⟩
  have d0 := (hk1.trans hk2).cell (p := ⟨w.heap.size, 0, none⟩) (v := .int .i64 k) (by simp)
  have d1 := (hk1.trans hk2).cell (p := ⟨w.heap.size, 1, none⟩) (v := .int .i64 c) (by simp)
  go_wp2_with fail
  refine (unhide HT _).mono ?_
  rintro e w3 ⟨rfl, hk3⟩
  go_wp2_with fail
  refine (unhide HI _).mono ?_
  rintro e w4 ⟨rfl, hk4⟩
  have HK := hide (((((Keeps.alloc (Keeps.refl w) _).trans hk1).trans hk2).trans hk3).trans hk4)
  clear hk1 hk2 hk3 hk4 HT HS HI
  generalize accB k c = r
  go_wp2_with fail
  go_ret
  exact ⟨rfl, HK.out⟩

theorem own : ownKnob Try.prog.godebug = none := by kernel_rfl
theorem laidOut : laidOutB Try.prog = true := by kernel_rfl

set_option maxRecDepth 100000 in
theorem lifted (os : Os) (started : os.Started) (H : Type) (enc : TypeId × Value → H) :
    ReturnsInHanded {} Try.checked os 5 .any (Rows.fnExactAccOkSpec.pre6 enc Try.prog Try.f5 Rows.fnExactAccOkRow.domain false) (Rows.fnExactAccOkSpec.post enc Try.prog Try.f5 false true false false) := by
  refine returnsInHanded_of_change (C := Try.checked) own started (by kernel_rfl) Try.func5
    (ChangeSpec.witness6 (enc := enc) (C := Try.checked) false ⟨#[], #[.agg #[.int .i64 0, .int .i64 0]], []⟩ 8 (by kernel_rfl) (by kernel_rfl) (by kernel_rfl) (by kernel_rfl)) ?_
  intro W base args ds gs before hval0 hW hcnd _
  have hval : ∀ (j : Nat) t v, Try.f5.params[j]? = some t → args[j]? = some v → Value.okWide Try.prog W .any base t v := hval0
  have hW' := hW
  obtain ⟨p, q, hA0, hV, rfl, hfz, hnd⟩ := hW
  have hA : DataW.TrodAll enc Try.prog W 0 (fun _ => true) true Try.f5.params.toList args.toList ds p := hA0
  rw [Try.params5] at hA hval
  obtain ⟨v0, vs0, d0, ds0, p0, q0, hargs, rfl, rfl, h0, r0⟩ := trodAll_cons hA
  obtain ⟨rfl, rfl, rfl⟩ := trodAll_nil r0
  obtain rfl : args = #[v0] := by cases args; simp_all
  obtain ⟨rfl, rfl⟩ := trodVars_none hV
  have lt0 := lt_row h0
  have k0 := h0
  obtain ⟨ak0, ac0, rfl⟩ := acc_row (hval 0 40 v0 rfl rfl) h0
  clear hA0 hval0
  refine (walk ak0 ac0 W ).mono fun e W' ⟨he, hb⟩ => ?_
  subst he
  refine ⟨_, rfl, _, _, _, [], (p0 ++ []), [], hW', ?_, ?_, ?_, Below.frame hb _, fun h => by cases h⟩
  · exact trodAll_mk1 (shut_bool Try.underlying4 _)
  · exact (trodAll_cons_mk (Below.trod laidOut (by kernel_rfl) (of_decide_eq_true (by kernel_rfl)) k0 hb lt0) trodAll_mk0)
  · exact rfl

theorem over : Rows.fnExactAccOkRow.holds Try.pinned (OpenSpec.ofChange Rows.fnExactAccOkSpec) :=
  OpenClaim.holds_of_wide 5 Try.f5 rfl rfl rfl rfl rfl rfl rfl ⟨rfl, rfl, rfl, rfl, rfl⟩ rfl rfl rfl rfl rfl (by kernel_rfl) Try.func5 (by kernel_rfl)
    (of_decide_eq_true (by kernel_rfl)) (by unfold Func.isWrapper; first | (rw [if_pos (by decide +kernel)]; kernel_rfl) | (rw [if_neg (by decide +kernel)]; exact ⟨rfl, rfl⟩))
    (fun os started H enc _ => lifted os started H enc)
end Go.Proofs.Ytahgibjjnfbkhaa.fnExactAccOk
namespace Go.Proofs.Ytahgibjjnfbkhaa
theorem acc_ok_exact : Rows.FnExactAccOkSaid := fnExactAccOk.over
end Go.Proofs.Ytahgibjjnfbkhaa
