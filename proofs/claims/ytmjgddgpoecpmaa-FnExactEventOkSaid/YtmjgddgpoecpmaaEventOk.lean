/- At every event the program's EventOk answers as the model's; no condition but that the argument can be read. -/
import Derived.Test.YtmjgddgpoecpmaaEvJ
import Derived.Test.YtmjgddgpoecpmaaEvR
import Derived.Test.YtmjgddgpoecpmaaRows
import Derived.WalkKit
import Derived.ProofKit
import Derived.OpenShut
import Derived.ChangeOld
import Derived.Below
namespace Go.Proofs.Ytmjgddgpoecpmaa.fnExactEventOk
open Go.ChangeShapes Go.WideShapes Go.ChangeAt Go.RowKit
set_option linter.unusedVariables false
theorem walk (k y c t m f : Int) (b : Bool) (w : World) (wk : (Lit.int .i64 k).wf = true) (wy : (Lit.int .i64 y).wf = true) (wc : (Lit.int .i64 c).wf = true) (wt : (Lit.int .i64 t).wf = true) (wm : (Lit.int .i64 m).wf = true) (wf : (Lit.int .i64 f).wf = true) :
    Calls Try.prog 10 #[evV k y c t m f b] w fun e w' => e = .returned (.bool true) ∧ Keeps w w' := by
  have HT := hide (fun w1 => toEvent_k k y c t m f b w1)
  have HS := hide (fun w1 => evok_spec k y c t m f b w1)
  have HI := hide (fun w1 => evok_impl k y c t m f b w1)
  clear wk wy wc wt wm wf
  go_enter Try.func10, Try.ntmps10
  go_wp2_with fail
  refine (unhide HT _).mono ?_
  rintro e w1 ⟨rfl, hk1⟩
  go_wp2_with fail
  refine (unhide HS _).mono ?_
  rintro e w2 ⟨rfl, hk2⟩
  have hk := hk1.trans hk2
  have d0 := hk.cell (p := ⟨w.heap.size, 0, none⟩) (v := .int .i64 k) (by simp)
  have d1 := hk.cell (p := ⟨w.heap.size, 1, none⟩) (v := .int .i64 y) (by simp)
  have d2 := hk.cell (p := ⟨w.heap.size, 2, none⟩) (v := .int .i64 c) (by simp)
  have d3 := hk.cell (p := ⟨w.heap.size, 3, none⟩) (v := .int .i64 t) (by simp)
  have d4 := hk.cell (p := ⟨w.heap.size, 4, none⟩) (v := .int .i64 m) (by simp)
  have d5 := hk.cell (p := ⟨w.heap.size, 5, none⟩) (v := .int .i64 f) (by simp)
  have d6 := hk.cell (p := ⟨w.heap.size, 6, none⟩) (v := .bool b) (by simp)
  clear hk
  go_wp2_with fail
  refine (unhide HT _).mono ?_
  rintro e w3 ⟨rfl, hk3⟩
  go_wp2_with fail
  refine (unhide HI _).mono ?_
  rintro e w4 ⟨rfl, hk4⟩
  have HK := hide (((((Keeps.alloc (Keeps.refl w) _).trans hk1).trans hk2).trans hk3).trans hk4)
  clear hk1 hk2 hk3 hk4 HT HS HI
  generalize evB k y c t m f b = r
  go_wp2_with fail
  go_ret
  exact ⟨rfl, HK.out⟩

theorem own : ownKnob Try.prog.godebug = none := by kernel_rfl
theorem laidOut : laidOutB Try.prog = true := by kernel_rfl

set_option maxRecDepth 100000 in
theorem lifted (os : Os) (started : os.Started) (H : Type) (enc : TypeId × Value → H) :
    ReturnsInHanded {} Try.checked os 10 .any (Rows.fnExactEventOkSpec.pre6 enc Try.prog Try.f10 Rows.fnExactEventOkRow.domain false) (Rows.fnExactEventOkSpec.post enc Try.prog Try.f10 false true false false) := by
  refine returnsInHanded_of_change (C := Try.checked) own started (by kernel_rfl) Try.func10
    (ChangeSpec.witness6 (enc := enc) (C := Try.checked) false ⟨#[], #[.agg #[.int .i64 0, .int .i64 0, .int .i64 0, .int .i64 0, .int .i64 0, .int .i64 0, .bool false]], []⟩ 8 (by kernel_rfl) (by kernel_rfl) (by kernel_rfl) (by kernel_rfl)) ?_
  intro W base args ds gs before hval0 hW hcnd _
  have hval : ∀ (j : Nat) t v, Try.f10.params[j]? = some t → args[j]? = some v → Value.okWide Try.prog W .any base t v := hval0
  have hW' := hW
  obtain ⟨p, q, hA0, hV, rfl, hfz, hnd⟩ := hW
  have hA : DataW.TrodAll enc Try.prog W 0 (fun _ => true) true Try.f10.params.toList args.toList ds p := hA0
  rw [Try.params10] at hA hval
  obtain ⟨v0, vs0, d0, ds0, p0, q0, hargs, rfl, rfl, h0, r0⟩ := trodAll_cons hA
  obtain ⟨rfl, rfl, rfl⟩ := trodAll_nil r0
  obtain rfl : args = #[v0] := by cases args; simp_all
  obtain ⟨rfl, rfl⟩ := trodVars_none hV
  have lt0 := lt_rowE h0
  have k0 := h0
  obtain ⟨k0e, y0, c0, t0, m0, f0, b0, rfl, wk0, wy0, wc0, wt0, wm0, wf0⟩ := event_row (hval 0 87 v0 rfl rfl) h0
  clear hA0 hval0
  refine (walk k0e y0 c0 t0 m0 f0 b0 W wk0 wy0 wc0 wt0 wm0 wf0).mono fun e W' ⟨he, hb⟩ => ?_
  subst he
  refine ⟨_, rfl, _, _, _, [], (p0 ++ []), [], hW', ?_, ?_, ?_, Below.frame hb _, fun h => by cases h⟩
  · exact trodAll_mk1 (shut_bool Try.underlying4 _)
  · exact (trodAll_cons_mk (Below.trod laidOut (by kernel_rfl) (of_decide_eq_true (by kernel_rfl)) k0 hb lt0) trodAll_mk0)
  · exact rfl

theorem over : Rows.fnExactEventOkRow.holds Try.pinned (OpenSpec.ofChange Rows.fnExactEventOkSpec) :=
  OpenClaim.holds_of_wide 10 Try.f10 rfl rfl rfl rfl rfl rfl rfl ⟨rfl, rfl, rfl, rfl, rfl⟩ rfl rfl rfl rfl rfl (by kernel_rfl) Try.func10 (by kernel_rfl)
    (of_decide_eq_true (by kernel_rfl)) (by unfold Func.isWrapper; first | (rw [if_pos (by decide +kernel)]; kernel_rfl) | (rw [if_neg (by decide +kernel)]; exact ⟨rfl, rfl⟩))
    (fun os started H enc _ => lifted os started H enc)
end Go.Proofs.Ytmjgddgpoecpmaa.fnExactEventOk
namespace Go.Proofs.Ytmjgddgpoecpmaa
theorem fnExactEventOk_said : Rows.FnExactEventOkSaid := fnExactEventOk.over
end Go.Proofs.Ytmjgddgpoecpmaa
