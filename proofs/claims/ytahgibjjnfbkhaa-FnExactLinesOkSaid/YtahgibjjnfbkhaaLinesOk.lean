/- For every list of lines: the program's LinesOk answers as the model's, and the argument stays as it was. -/
import Derived.Test.YtahgibjjnfbkhaaImplC
import Derived.Test.YtahgibjjnfbkhaaGlue3
import Derived.Test.YtahgibjjnfbkhaaOpen2
import Derived.Test.YtahgibjjnfbkhaaRows
import Derived.WalkKit
import Derived.ProofKit
import Derived.OpenShut
import Derived.ChangeOld
import Derived.Below
namespace Go.Proofs.Ytahgibjjnfbkhaa.fnExactLinesOk
open Go.ChangeShapes Go.WideShapes Go.ChangeAt Go.RowKit
set_option linter.unusedVariables false
theorem walk (a : Option Addr) (cap : Nat) (L : List Ln) (w : World) (hc : Cells w a (flat L)) (hl : L.length ≤ 9223372036854775807) :
    Calls Try.prog 6 #[.slice a L.length cap] w fun e w' => e = .returned (.bool true) ∧ Keeps w w' := by
  have HC := hide hc
  clear hc
  have HS := hide (szLineS_k a L.length cap 1048576 w (by decide) (by decide) hl)
  by_cases hlt : L.length ≤ 1048576
  · rw [if_pos (by omega)] at HS
    have HL := hide hlt
    have h1 : ¬ ((1048576 : Int) - L.length < 0) := by omega
    clear hlt
    go_enter Try.func6, Try.ntmps6
    go_wp2_with fail
    refine (unhide HS).mono ?_
    rintro e w' ⟨rfl, rfl⟩
    go_wp2_with fail
    refine (toLineS_k a cap L _ HC.out HL.out).mono ?_
    rintro e w1 ⟨b1, rfl, _, hc1, hk1⟩
    have HC1 := hide hc1
    have HK1 := hide hk1
    clear hc1 hk1
    go_wp2_with fail
    refine (lines_spec _ _ L _ HC1.out HL.out).mono ?_
    rintro e w2 ⟨rfl, hk2⟩
    have HK2 := hide (HK1.out.trans hk2)
    clear hk2 HC1 HK1
    go_wp2_with fail
    refine (toLineS_k a cap L _ (HC.out.kept HK2.out) HL.out).mono ?_
    rintro e w3 ⟨b3, rfl, _, hc3, hk3⟩
    have HC3 := hide hc3
    have HK3 := hide (HK2.out.trans hk3)
    clear hc3 hk3 HK2
    go_wp2_with fail
    refine (impl_lines _ _ L _ HC3.out HL.out).mono ?_
    rintro e w4 ⟨rfl, hk4⟩
    have HC4 := hide (HC3.out.kept hk4)
    have HK4 := hide (HK3.out.trans hk4)
    clear hk4 HC3 HK3
    generalize linesB L = r
    go_wp2_with fail
    refine (toLineS_k a cap L _ (HC.out.kept HK4.out) HL.out).mono ?_
    rintro e w5 ⟨b5, rfl, _, hc5, hk5⟩
    have HQ := hide (eqLineS_k _ _ L.length L.length L L _ (HC4.out.kept hk5) hc5 HL.out HL.out)
    have HK5 := hide (HK4.out.trans hk5)
    rw [lsEq_self] at HQ
    clear hc5 hk5 HC4 HK4
    go_wp2_with fail
    refine (unhide HQ).mono ?_
    rintro e w6 ⟨rfl, hk6⟩
    have HK6 := hide (HK5.out.trans hk6)
    clear hk6 HK5 HQ
    go_wp2_with fail
    go_ret
    exact ⟨rfl, HK6.out⟩
  · have h1 : (1048576 : Int) < L.length := by omega
    rw [if_neg (by omega)] at HS
    clear hlt
    go_enter Try.func6, Try.ntmps6
    go_wp2_with fail
    refine (unhide HS).mono ?_
    rintro e w' ⟨rfl, rfl⟩
    go_wp2_with fail
    go_ret
    exact ⟨rfl, Keeps.refl _⟩

theorem own : ownKnob Try.prog.godebug = none := by kernel_rfl
theorem laidOut : laidOutB Try.prog = true := by kernel_rfl

set_option maxRecDepth 100000 in
theorem lifted (os : Os) (started : os.Started) (H : Type) (enc : TypeId × Value → H) :
    ReturnsInHanded {} Try.checked os 6 .any (Rows.fnExactLinesOkSpec.pre6 enc Try.prog Try.f6 Rows.fnExactLinesOkRow.domain false) (Rows.fnExactLinesOkSpec.post enc Try.prog Try.f6 false true false false) := by
  refine returnsInHanded_of_change (C := Try.checked) own started (by kernel_rfl) Try.func6
    (ChangeSpec.witness6 (enc := enc) (C := Try.checked) false ⟨#[], #[.slice none 0 0], []⟩ 8 (by kernel_rfl) (by kernel_rfl) (by kernel_rfl) (by kernel_rfl)) ?_
  intro W base args ds gs before hval0 hW hcnd _
  have hval : ∀ (j : Nat) t v, Try.f6.params[j]? = some t → args[j]? = some v → Value.okWide Try.prog W .any base t v := hval0
  have hW' := hW
  obtain ⟨p, q, hA0, hV, rfl, hfz, hnd⟩ := hW
  have hA : DataW.TrodAll enc Try.prog W 0 (fun _ => true) true Try.f6.params.toList args.toList ds p := hA0
  rw [Try.params6] at hA hval
  obtain ⟨v0, vs0, d0, ds0, p0, q0, hargs, rfl, rfl, h0, r0⟩ := trodAll_cons hA
  obtain ⟨rfl, rfl, rfl⟩ := trodAll_nil r0
  obtain rfl : args = #[v0] := by cases args; simp_all
  obtain ⟨rfl, rfl⟩ := trodVars_none hV
  have lt0 := lt_row h0
  have k0 := h0
  obtain ⟨a0, cap0, L0, rfl, hc0, hl0⟩ := lines_row (hval 0 44 v0 rfl rfl) h0
  clear hA0 hval0
  refine (walk a0 cap0 L0 W hc0 hl0).mono fun e W' ⟨he, hb⟩ => ?_
  subst he
  refine ⟨_, rfl, _, _, _, [], (p0 ++ []), [], hW', ?_, ?_, ?_, Below.frame hb _, fun h => by cases h⟩
  · exact trodAll_mk1 (shut_bool Try.underlying4 _)
  · exact (trodAll_cons_mk (Below.trod laidOut (by kernel_rfl) (of_decide_eq_true (by kernel_rfl)) k0 hb lt0) trodAll_mk0)
  · exact rfl

theorem over : Rows.fnExactLinesOkRow.holds Try.pinned (OpenSpec.ofChange Rows.fnExactLinesOkSpec) :=
  OpenClaim.holds_of_wide 6 Try.f6 rfl rfl rfl rfl rfl rfl rfl ⟨rfl, rfl, rfl, rfl, rfl⟩ rfl rfl rfl rfl rfl (by kernel_rfl) Try.func6 (by kernel_rfl)
    (of_decide_eq_true (by kernel_rfl)) (by unfold Func.isWrapper; first | (rw [if_pos (by decide +kernel)]; kernel_rfl) | (rw [if_neg (by decide +kernel)]; exact ⟨rfl, rfl⟩))
    (fun os started H enc _ => lifted os started H enc)
end Go.Proofs.Ytahgibjjnfbkhaa.fnExactLinesOk
namespace Go.Proofs.Ytahgibjjnfbkhaa
theorem lines_ok_exact : Rows.FnExactLinesOkSaid := fnExactLinesOk.over
end Go.Proofs.Ytahgibjjnfbkhaa
