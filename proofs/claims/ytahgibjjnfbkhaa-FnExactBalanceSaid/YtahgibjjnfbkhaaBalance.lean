/- For every ledger and account: the program's Balance answers as the model's, and the arguments stay as they were. -/
import Derived.Test.YtahgibjjnfbkhaaImplC
import Derived.Test.YtahgibjjnfbkhaaGlue3
import Derived.Test.YtahgibjjnfbkhaaOpen2
import Derived.Test.YtahgibjjnfbkhaaRows
import Derived.WalkKit
import Derived.ProofKit
import Derived.OpenShut
import Derived.ChangeOld
import Derived.Below
namespace Go.Proofs.Ytahgibjjnfbkhaa.fnExactBalance
open Go.ChangeShapes Go.WideShapes Go.ChangeAt Go.RowKit
set_option linter.unusedVariables false
theorem walk (id : Int) (a : Option Addr) (cap : Nat) (L : List Ln) (k c : Int) (w : World) (hid : (Lit.int .i64 id).wf = true) (hc : Cells w a (flat L)) (hl : L.length ≤ 9223372036854775807) :
    Calls Try.prog 10 #[.agg #[.int .i64 id, .slice a L.length cap], accV k c] w fun e w' => e = .returned (.bool true) ∧ Keeps w w' := by
  have HKA := hide (Keeps.alloc (Keeps.alloc (Keeps.refl w) (.cells #[.int .i64 id, .slice a L.length cap] 57)) (.cells #[.int .i64 k, .int .i64 c] 40))
  have HC := hide (hc.kept HKA.out)
  have HD : Hid (∀ w', Keeps ((w.alloc (.cells #[.int .i64 id, .slice a L.length cap] 57)).alloc (.cells #[.int .i64 k, .int .i64 c] 40)) w' → w'.cell? ⟨w.heap.size, 0, none⟩ = some (.int .i64 id) ∧ w'.cell? ⟨w.heap.size, 1, none⟩ = some (.slice a L.length cap) ∧ w'.cell? ⟨w.heap.size + 1, 0, none⟩ = some (.int .i64 k) ∧ w'.cell? ⟨w.heap.size + 1, 1, none⟩ = some (.int .i64 c)) :=
    fun w' hk => ⟨hk.cell (by simp), hk.cell (by simp), hk.cell (by simp), hk.cell (by simp)⟩
  have HAc := hide (fun w1 => toAcc_k k c w1)
  clear hc hid
  have HS := hide (fun w1 => szLedger_k id a L.length cap 1048576 w1 (by decide) (by decide) hl)
  by_cases hlt : L.length ≤ 1048576
  · rw [if_pos (by omega)] at HS
    have HL := hide hlt
    have h1 : ¬ ((1048576 : Int) - L.length < 0) := by omega
    clear hlt
    go_enter Try.func10, Try.ntmps10
    go_wp2_with fail
    refine (unhide HS _).mono ?_
    rintro e w0 ⟨rfl, hk0⟩
    have HK0 := hide hk0
    obtain ⟨d00, d01, d02, d03⟩ := HD.out _ hk0
    clear hk0
    go_wp2_with fail
    have HT0 := hide (fun w' (hk : Keeps w0 w') => toLedger_k id a cap L w' ((HC.out.kept HK0.out).kept hk) HL.out)
    go_region_held3 (fun w' => w'.cell? ⟨w.heap.size, 0, none⟩ = some (.int .i64 id) ∧ w'.cell? ⟨w.heap.size, 1, none⟩ = some (.slice a L.length cap) ∧ w'.cell? ⟨w.heap.size + 1, 0, none⟩ = some (.int .i64 k) ∧ w'.cell? ⟨w.heap.size + 1, 1, none⟩ = some (.int .i64 c)) (go_keep)
      (first
        | (go_at_call 34
           refine (unhide HT0 _ ((Keeps.refl w0).drew)).mono ?_
           rintro e w1 ⟨b1, rfl, _, hc1, hk1⟩
           have HC1 := hide hc1
           have HK1 := hide (HK0.out.trans (((Keeps.refl w0).drew).trans hk1))
           obtain ⟨d10, d11, d12, d13⟩ := HD.out _ HK1.out
           clear hc1 hk1)
        | (go_at_call 20
           refine (unhide HAc _).mono ?_
           rintro e w1' ⟨rfl, hk1'⟩
           have HC1' := hide (HC1.out.kept hk1')
           have HK1' := hide (HK1.out.trans hk1')
           obtain ⟨d10', d11', d12', d13'⟩ := HD.out _ HK1'.out
           clear hk1')
        | (go_at_call 39
           refine (bal_spec id _ _ L k c _ HC1'.out HL.out).mono ?_
           rintro e w2 ⟨rfl, hk2⟩
           have HK2 := hide (HK1'.out.trans hk2)
           obtain ⟨d20, d21, d22, d23⟩ := HD.out _ HK2.out
           clear hk2))
    clear HC1 HC1' HK1 HK1' HT0
    go_wp2_with fail
    refine (toLedger_k id a cap L _ (HC.out.kept HK2.out) HL.out).mono ?_
    rintro e w3 ⟨b3, rfl, _, hc3, hk3⟩
    have HC3 := hide hc3
    have HK3 := hide (HK2.out.trans hk3)
    have HKB := hide (Keeps.alloc (Keeps.refl w3) (.cells #[.int .i64 id, .slice (some ⟨b3, 0, none⟩) L.length L.length] 25))
    have HX : Hid (∀ w', Keeps (w3.alloc (.cells #[.int .i64 id, .slice (some ⟨b3, 0, none⟩) L.length L.length] 25)) w' → w'.cell? ⟨w3.heap.size, 0, none⟩ = some (.int .i64 id) ∧ w'.cell? ⟨w3.heap.size, 1, none⟩ = some (.slice (some ⟨b3, 0, none⟩) L.length L.length)) :=
      fun w' hk => ⟨hk.cell (by simp), hk.cell (by simp)⟩
    clear hc3 hk3 HK2
    go_wp2_with fail
    have HKC := hide (HK3.out.trans HKB.out)
    obtain ⟨d30, d31, d32, d33⟩ := HD.out _ HKC.out
    obtain ⟨x30, x31⟩ := HX.out _ (Keeps.refl _)
    generalize hW3 : w3.alloc (.cells #[.int .i64 id, .slice (some ⟨b3, 0, none⟩) L.length L.length] 25) = W3 at *
    go_region_held3 (fun w' => w'.cell? ⟨w3.heap.size, 0, none⟩ = some (.int .i64 id) ∧ w'.cell? ⟨w3.heap.size, 1, none⟩ = some (.slice (some ⟨b3, 0, none⟩) L.length L.length) ∧ w'.cell? ⟨w.heap.size, 0, none⟩ = some (.int .i64 id) ∧ w'.cell? ⟨w.heap.size, 1, none⟩ = some (.slice a L.length cap) ∧ w'.cell? ⟨w.heap.size + 1, 0, none⟩ = some (.int .i64 k) ∧ w'.cell? ⟨w.heap.size + 1, 1, none⟩ = some (.int .i64 c)) (go_keep)
      (first
        | (go_at_call 20
           refine (unhide HAc _).mono ?_
           rintro e w3' ⟨rfl, hk3'⟩
           have HK3' := hide (((Keeps.refl W3).drew).trans hk3')
           obtain ⟨x30', x31'⟩ := HX.out _ HK3'.out
           obtain ⟨d30', d31', d32', d33'⟩ := HD.out _ (HKC.out.trans HK3'.out)
           clear hk3')
        | (go_at_call 40
           refine (impl_balance id _ _ L k c _ ((HC3.out.kept HKB.out).kept HK3'.out) HL.out).mono ?_
           rintro e w4 ⟨rfl, hk4⟩
           have HC4 := hide (((HC3.out.kept HKB.out).kept HK3'.out).kept hk4)
           have HK4' := hide (HK3'.out.trans hk4)
           have HK4 := hide (HKC.out.trans HK4'.out)
           obtain ⟨d40, d41, d42, d43⟩ := HD.out _ HK4.out
           obtain ⟨x40, x41⟩ := HX.out _ HK4'.out
           clear hk4))
    clear HC3 HK3 HKC HK3'
    generalize balV id L k c = r
    go_wp2_with fail
    have HT := hide (fun w' (hk : Keeps w4 w') => toLedger_k id a cap L w' ((HC.out.kept HK4.out).kept hk) HL.out)
    go_region_held3 (fun w' => w'.cell? ⟨w3.heap.size, 0, none⟩ = some (.int .i64 id) ∧ w'.cell? ⟨w3.heap.size, 1, none⟩ = some (.slice (some ⟨b3, 0, none⟩) L.length L.length) ∧ w'.cell? ⟨w.heap.size, 0, none⟩ = some (.int .i64 id) ∧ w'.cell? ⟨w.heap.size, 1, none⟩ = some (.slice a L.length cap)) (go_keep)
      (first
        | (go_at_call 34
           refine (unhide HT _ ((Keeps.refl w4).drew)).mono ?_
           rintro e w5 ⟨b5, rfl, _, hc5, hk5⟩
           have hk45 := ((Keeps.refl w4).drew).trans hk5
           have HQ := hide (eqLedger_k id id _ _ L.length L.length L L _ (HC4.out.kept hk45) hc5 HL.out HL.out)
           have HK5 := hide (HK4.out.trans hk45)
           obtain ⟨x50, x51⟩ := HX.out _ (HK4'.out.trans hk45)
           obtain ⟨d50, d51, d52, d53⟩ := HD.out _ HK5.out
           rw [lsEq_self, decide_eq_true rfl, Bool.and_true] at HQ
           have HK45 := hide hk45
           clear hc5 hk5 hk45)
        | (go_at_call 35
           refine (unhide HQ).mono ?_
           rintro e w6 ⟨rfl, hk6⟩
           obtain ⟨x60, x61⟩ := HX.out _ (HK4'.out.trans (HK45.out.trans hk6))
           obtain ⟨d60, d61, d62, d63⟩ := HD.out _ (HK5.out.trans hk6)))
    have HK6 := hide (HKA.out.trans (HK5.out.trans hk6))
    clear hk6 HK5 HQ
    go_wp2_with fail
    go_ret
    exact ⟨rfl, HK6.out⟩
  · have h1 : (1048576 : Int) < L.length := by omega
    rw [if_neg (by omega)] at HS
    clear hlt
    go_enter Try.func10, Try.ntmps10
    go_wp2_with fail
    refine (unhide HS _).mono ?_
    rintro e w0 ⟨rfl, hk0⟩
    go_wp2_with fail
    go_ret
    exact ⟨rfl, HKA.out.trans hk0⟩

theorem own : ownKnob Try.prog.godebug = none := by kernel_rfl
theorem laidOut : laidOutB Try.prog = true := by kernel_rfl

set_option maxRecDepth 100000 in
theorem lifted (os : Os) (started : os.Started) (H : Type) (enc : TypeId × Value → H) :
    ReturnsInHanded {} Try.checked os 10 .any (Rows.fnExactBalanceSpec.pre6 enc Try.prog Try.f10 Rows.fnExactBalanceRow.domain false) (Rows.fnExactBalanceSpec.post enc Try.prog Try.f10 false true false false) := by
  refine returnsInHanded_of_change (C := Try.checked) own started (by kernel_rfl) Try.func10
    (ChangeSpec.witness6 (enc := enc) (C := Try.checked) false ⟨#[], #[.agg #[.int .i64 0, .slice none 0 0], .agg #[.int .i64 0, .int .i64 0]], []⟩ 8 (by kernel_rfl) (by kernel_rfl) (by kernel_rfl) (by kernel_rfl)) ?_
  intro W base args ds gs before hval0 hW hcnd _
  have hval : ∀ (j : Nat) t v, Try.f10.params[j]? = some t → args[j]? = some v → Value.okWide Try.prog W .any base t v := hval0
  have hW' := hW
  obtain ⟨p, q, hA0, hV, rfl, hfz, hnd⟩ := hW
  have hA : DataW.TrodAll enc Try.prog W 0 (fun _ => true) true Try.f10.params.toList args.toList ds p := hA0
  rw [Try.params10] at hA hval
  obtain ⟨v0, vs0, d0, ds0, p0, q0, hargs, rfl, rfl, h0, r0⟩ := trodAll_cons hA
  obtain ⟨v1, vs1, d1, ds1, p1, q1, rfl, rfl, rfl, h1, r1⟩ := trodAll_cons r0
  obtain ⟨rfl, rfl, rfl⟩ := trodAll_nil r1
  obtain rfl : args = #[v0, v1] := by cases args; simp_all
  obtain ⟨rfl, rfl⟩ := trodVars_none hV
  have lt0 := lt_row h0
  have k0 := h0
  obtain ⟨id0, a0, cap0, L0, rfl, w0, hc0, hl0⟩ := ledger_row (hval 0 57 v0 rfl rfl) h0
  have lt1 := lt_row h1
  have k1 := h1
  obtain ⟨ak1, ac1, rfl⟩ := acc_row (hval 1 40 v1 rfl rfl) h1
  clear hA0 hval0
  refine (walk id0 a0 cap0 L0 ak1 ac1 W w0 hc0 hl0).mono fun e W' ⟨he, hb⟩ => ?_
  subst he
  refine ⟨_, rfl, _, _, _, [], (p0 ++ (p1 ++ [])), [], hW', ?_, ?_, ?_, Below.frame hb _, fun h => by cases h⟩
  · exact trodAll_mk1 (shut_bool Try.underlying4 _)
  · exact (trodAll_cons_mk (Below.trod laidOut (by kernel_rfl) (of_decide_eq_true (by kernel_rfl)) k0 hb lt0) (trodAll_cons_mk (Below.trod laidOut (by kernel_rfl) (of_decide_eq_true (by kernel_rfl)) k1 hb lt1) trodAll_mk0))
  · exact rfl

theorem over : Rows.fnExactBalanceRow.holds Try.pinned (OpenSpec.ofChange Rows.fnExactBalanceSpec) :=
  OpenClaim.holds_of_wide 10 Try.f10 rfl rfl rfl rfl rfl rfl rfl ⟨rfl, rfl, rfl, rfl, rfl⟩ rfl rfl rfl rfl rfl (by kernel_rfl) Try.func10 (by kernel_rfl)
    (of_decide_eq_true (by kernel_rfl)) (by unfold Func.isWrapper; first | (rw [if_pos (by decide +kernel)]; kernel_rfl) | (rw [if_neg (by decide +kernel)]; exact ⟨rfl, rfl⟩))
    (fun os started H enc _ => lifted os started H enc)
end Go.Proofs.Ytahgibjjnfbkhaa.fnExactBalance
namespace Go.Proofs.Ytahgibjjnfbkhaa
theorem balance_exact : Rows.FnExactBalanceSaid := fnExactBalance.over
end Go.Proofs.Ytahgibjjnfbkhaa
