/- The model's Worth and Balance. -/
import Derived.Test.YtahgibjjnfbkhaaPosts
namespace Go.Proofs.Ytahgibjjnfbkhaa
open Go.RowKit
set_option linter.unusedVariables false
theorem linesB_at {L : List Ln} (h : linesB L = true) (k : Nat) (hk : k < L.length) : okAt L k = true := by
  unfold linesB at h
  rw [Bool.and_eq_true, List.all_eq_true] at h
  exact h.1 k (List.mem_range.2 hk)
theorem linesB_range {L : List Ln} (h : linesB L = true) (k : Nat) (hk : k < L.length) : -1125899906842624 ≤ L[k].a ∧ L[k].a ≤ 1125899906842624 := by
  have h1 := linesB_at h k hk
  rw [okAt_gen hk] at h1
  simp [rangeB] at h1
  omega
theorem ledgB_lines {id : Int} {L : List Ln} (h : ledgB id L = true) : linesB L = true ∧ L.length ≤ 320 := by
  unfold ledgB at h
  simp at h
  exact ⟨h.2, h.1.2⟩
/-- Is it among what is owned? -/
def ownB (x : Ln) : Bool := decide (x.k = 1) || decide (6 ≤ x.k)
def sumW (L : List Ln) : Int := (L.map fun x => if ownB x = true then x.a else 0).foldl (· + ·) 0
theorem sumW_take (L : List Ln) (k : Nat) (h : k < L.length) : sumW (L.take (k + 1)) = sumW (L.take k) + (if ownB L[k] = true then L[k].a else 0) := by
  unfold sumW
  rw [List.take_succ_eq_append_getElem h, List.map_append, List.foldl_append]; rfl
/-- What Worth answers. -/
def worthV (id : Int) (L : List Ln) : Int := if ledgB id L = true then sumW L else 0

theorem worth_spec (id : Int) (a : Option Addr) (cap : Nat) (L : List Ln) (w : World) (hc : Cells w a (flat L)) (hl : L.length ≤ 1048576) :
    Calls Try.prog 47 #[.agg #[.int .i64 id, .slice a L.length cap]] w fun e w' => e = .returned (.int .i64 (worthV id L)) ∧ Keeps w w' := by
  have HKA := hide (Keeps.alloc (Keeps.refl w) (.cells #[.int .i64 id, .slice a L.length cap] 25))
  have HC := hide (hc.kept HKA.out)
  have HD : Hid (∀ w', Keeps (w.alloc (.cells #[.int .i64 id, .slice a L.length cap] 25)) w' → w'.cell? ⟨w.heap.size, 0, none⟩ = some (.int .i64 id) ∧ w'.cell? ⟨w.heap.size, 1, none⟩ = some (.slice a L.length cap)) :=
    fun w' hk => ⟨hk.cell (by simp), hk.cell (by simp)⟩
  clear hc
  have HS := hide (fun w1 (hk : Keeps (w.alloc (.cells #[.int .i64 id, .slice a L.length cap] 25)) w1) => ledger_spec id a cap L w1 (HC.out.kept hk) hl)
  cases hb : ledgB id L
  · rw [hb] at HS
    have HV : Hid (worthV id L = 0) := by show _ = _; simp [worthV, hb]
    clear hb
    go_enter Try.func47, Try.ntmps47
    go_wp2_with fail
    refine (unhide HS _ (Keeps.refl _)).mono ?_
    rintro e w1 ⟨rfl, hk⟩
    go_wp2_with fail
    go_ret
    exact ⟨by rw [HV.out]; rfl, HKA.out.trans hk⟩
  · rw [hb] at HS
    have HV : Hid (worthV id L = sumW L) := by show _ = _; simp [worthV, hb]
    have HR := hide (linesB_range (ledgB_lines hb).1)
    have h320 := (ledgB_lines hb).2
    clear hb
    go_enter Try.func47, Try.ntmps47
    go_wp2_with fail
    refine (unhide HS _ (Keeps.refl _)).mono ?_
    rintro e w1 ⟨rfl, hk⟩
    obtain ⟨d0, d1⟩ := HD.out _ hk
    have HK1 := hide hk
    clear hk
    go_wp2_with fail
    go_loopw [3, 12] (fun x y w2 => ∃ (s : Int) (k : Nat), k ≤ L.length ∧ -(1125899906842624 * (k : Int)) ≤ s ∧ s ≤ 1125899906842624 * (k : Int) ∧ Hid (s = sumW (L.take k)) ∧ x = .int .i64 s ∧ y = .int .i64 (k : Int) ∧ Keeps w1 w2) (fun _ y _ => L.length - (intOf y).toNat)
    case atStart => exact ⟨0, 0, by omega, by omega, by omega, rfl, rfl, rfl, Keeps.refl _⟩
    case round =>
      obtain ⟨s, k, hk, s0, s1, HSum, rfl, rfl, hkw⟩ := hrel
      by_cases hlt : k < L.length
      · obtain ⟨b, off, ea, c0, c1, c2⟩ := cells_at ((HC.out.kept HK1.out).kept hkw) k hlt
        subst ea
        have HNext := hide (sumW_take L k hlt)
        obtain ⟨r0, r1⟩ := HR.out k hlt
        have HW := hide (Keeps.alloc hkw (Obj.cells #[Value.int IntKind.i64 L[k].k, Value.int IntKind.i64 L[k].c, Value.int IntKind.i64 L[k].a] 35))
        clear hkw
        generalize L[k] = x at *
        cases ho : ownB x
        · have h1 : ¬ x.k = 1 := by simp [ownB] at ho; exact ho.1
          have h6 : ¬ 6 ≤ x.k := by simp [ownB] at ho; omega
          rw [ho] at HNext
          clear ho
          go_wp2_with fail
          go_roundw
          case rel => exact ⟨s, k + 1, by omega, by omega, by omega, by show _ = _; rw [HNext.out, ← HSum.out]; simp, rfl, by go_num, HW.out⟩
          case measure => simp [intOf]; omega
        · rw [ho] at HNext
          have h16 : x.k = 1 ∨ 6 ≤ x.k := by simpa [ownB] using ho
          clear ho
          rcases h16 with h1 | h6
          · go_wp2_with fail
            go_roundw
            case rel => exact ⟨s + x.a, k + 1, by omega, by omega, by omega, by show _ = _; rw [HNext.out, ← HSum.out]; simp, rfl, by go_num, by simpa [h1] using HW.out⟩
            case measure => simp [intOf]; omega
          · have h1 : ¬ x.k = 1 := by omega
            go_wp2_with fail
            go_roundw
            case rel => exact ⟨s + x.a, k + 1, by omega, by omega, by omega, by show _ = _; rw [HNext.out, ← HSum.out]; simp, rfl, by go_num, HW.out⟩
            case measure => simp [intOf]; omega
      · have e : k = L.length := by omega
        have HE : Hid (s = sumW L) := by show _ = _; rw [HSum.out, e, List.take_length]
        clear e HSum
        go_wp2_with fail
        go_ret
        exact ⟨by rw [HV.out, ← HE.out]; rfl, (HKA.out.trans HK1.out).trans hkw⟩
end Go.Proofs.Ytahgibjjnfbkhaa
