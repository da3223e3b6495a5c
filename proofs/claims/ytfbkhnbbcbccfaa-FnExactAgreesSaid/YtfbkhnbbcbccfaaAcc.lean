/- Contracts of the model's AccOk, l02Less and l02Range; lines as data. -/
import Derived.Test.YtfbkhnbbcbccfaaKeep
import Derived.Deep.RegionHeld3
import Derived.RegionTactic
namespace Go.Proofs.Ytfbkhnbbcbccfaa
open Go.RowKit
set_option linter.unusedVariables false

/-- A line: kind, channel, amount. -/
structure Ln where
  k : Int
  c : Int
  a : Int
def Ln.cells (x : Ln) : List Value := [.int .i64 x.k, .int .i64 x.c, .int .i64 x.a]
abbrev accV (k c : Int) : Value := .agg #[.int .i64 k, .int .i64 c]

/-- Is the account right? -/
def accB (k c : Int) : Bool := decide (1 ≤ k) && decide (k ≤ 8) && (if k < 6 then decide (c = 0) else decide (1 ≤ c) && decide (c ≤ 99))
def lessB (k c k' c' : Int) : Bool := decide (k < k') || (decide (k = k') && decide (c < c'))
def rangeB (n : Int) : Bool := decide (-1125899906842624 ≤ n) && decide (n ≤ 1125899906842624)

theorem ret_bool {a b : Bool} (h : a = b) : Ending.returned (.bool a) = .returned (.bool b) := by rw [h]

theorem range_spec (n : Int) (w : World) : Calls Try.prog 61 #[.int .i64 n] w fun e w' => e = .returned (.bool (rangeB n)) ∧ w' = w := by
  by_cases h1 : -1125899906842624 ≤ n
  · by_cases h2 : n ≤ 1125899906842624
    · have H : Hid (rangeB n = true) := by show _ = _; simp [rangeB, h1, h2]
      go_enter Try.func61, Try.ntmps61
      go_wp2
      go_ret
      exact ⟨ret_bool H.out.symm, rfl⟩
    · have H : Hid (rangeB n = false) := by show _ = _; simp [rangeB]; omega
      go_enter Try.func61, Try.ntmps61
      go_wp2
      go_ret
      exact ⟨ret_bool (by rw [H.out]), rfl⟩
  · have H : Hid (rangeB n = false) := by show _ = _; simp [rangeB]; omega
    go_enter Try.func61, Try.ntmps61
    go_wp2
    go_ret
    exact ⟨ret_bool (by rw [H.out]), rfl⟩

theorem acc_spec (k c : Int) (w : World) : Calls Try.prog 39 #[accV k c] w fun e w' => e = .returned (.bool (accB k c)) ∧ w' = w.alloc (.cells #[.int .i64 k, .int .i64 c] 54) := by
  by_cases h1 : k < 1
  · have H : Hid (accB k c = false) := by show _ = _; simp [accB]; omega
    go_enter Try.func39, Try.ntmps39
    go_wp2
    go_ret
    exact ⟨ret_bool H.out.symm, rfl⟩
  · by_cases h2 : 8 < k
    · have H : Hid (accB k c = false) := by show _ = _; simp [accB]; omega
      go_enter Try.func39, Try.ntmps39
      go_wp2
      go_ret
      exact ⟨ret_bool H.out.symm, rfl⟩
    · by_cases h3 : k < 6
      · have H : Hid (accB k c = decide (c = 0)) := by show _ = _; simp [accB, h3]; omega
        go_enter Try.func39, Try.ntmps39
        go_wp2
        go_ret
        exact ⟨ret_bool (by rw [H.out]; rfl), rfl⟩
      · by_cases h4 : 1 ≤ c
        · have H : Hid (accB k c = decide (c ≤ 99)) := by show _ = _; simp [accB, h3, h4]; omega
          go_enter Try.func39, Try.ntmps39
          go_wp2
          go_ret
          exact ⟨ret_bool (by rw [H.out]), rfl⟩
        · have H : Hid (accB k c = false) := by show _ = _; simp [accB, h3]; omega
          go_enter Try.func39, Try.ntmps39
          go_wp2
          go_ret
          exact ⟨ret_bool (by rw [H.out]), rfl⟩

theorem less_spec (k c k' c' : Int) (w : World) : Calls Try.prog 60 #[accV k c, accV k' c'] w fun e w' => e = .returned (.bool (lessB k c k' c')) ∧
    w' = (w.alloc (.cells #[.int .i64 k, .int .i64 c] 54)).alloc (.cells #[.int .i64 k', .int .i64 c'] 54) := by
  by_cases h1 : k < k'
  · have H : Hid (lessB k c k' c' = true) := by show _ = _; simp [lessB, h1]
    go_enter Try.func60, Try.ntmps60
    go_wp2
    go_ret
    exact ⟨ret_bool H.out.symm, rfl⟩
  · by_cases h2 : k = k'
    · subst h2
      by_cases h3 : c < c'
      · have H : Hid (lessB k c k c' = true) := by show _ = _; simp [lessB, h3]
        go_enter Try.func60, Try.ntmps60
        go_wp2
        go_ret
        exact ⟨ret_bool (by rw [H.out]), rfl⟩
      · have H : Hid (lessB k c k c' = false) := by show _ = _; simp [lessB]; omega
        go_enter Try.func60, Try.ntmps60
        go_wp2
        go_ret
        exact ⟨ret_bool (by rw [H.out]), rfl⟩
    · have H : Hid (lessB k c k' c' = false) := by show _ = _; simp [lessB]; omega
      have h2' : (k == k') = false := beq_eq_false_iff_ne.2 h2
      clear h2
      go_enter Try.func60, Try.ntmps60
      go_wp2
      go_ret
      exact ⟨ret_bool (by rw [H.out]), rfl⟩
theorem range_k (n : Int) (w : World) : Calls Try.prog 61 #[.int .i64 n] w fun e w' => e = .returned (.bool (rangeB n)) ∧ Keeps w w' :=
  (range_spec n w).mono fun _ _ ⟨h, e⟩ => ⟨h, by rw [e]; exact Keeps.refl _⟩
theorem acc_k (k c : Int) (w : World) : Calls Try.prog 39 #[accV k c] w fun e w' => e = .returned (.bool (accB k c)) ∧ Keeps w w' :=
  (acc_spec k c w).mono fun _ _ ⟨h, e⟩ => ⟨h, by rw [e]; exact Keeps.alloc (Keeps.refl _) _⟩
theorem less_k (k c k' c' : Int) (w : World) : Calls Try.prog 60 #[accV k c, accV k' c'] w fun e w' => e = .returned (.bool (lessB k c k' c')) ∧ Keeps w w' :=
  (less_spec k c k' c' w).mono fun _ _ ⟨h, e⟩ => ⟨h, by rw [e]; exact Keeps.alloc (Keeps.alloc (Keeps.refl _) _) _⟩
end Go.Proofs.Ytfbkhnbbcbccfaa
