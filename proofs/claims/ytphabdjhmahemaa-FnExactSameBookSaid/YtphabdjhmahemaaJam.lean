/- Scores: the program's moves by method values, and the model's. -/
import Derived.Test.YtphabdjhmahemaaKeep
namespace Go.Proofs.Ytphabdjhmahemaa
open Go.RowKit
set_option linter.unusedVariables false

def okS (n : Int) : Bool := decide (-100 ≤ n) && decide (n ≤ 100)
def upS (n : Int) : Int := if okS n = true then min (n + 10) 100 else 0
def downS (n : Int) : Int := if okS n = true then max (n - 15) (-100) else 0
def fadeS (n : Int) : Int := if okS n = true then (if 0 < n then n - 1 else if n < 0 then n + 1 else 0) else 0
theorem okS_yes {n : Int} (h : -100 ≤ n) (h' : n ≤ 100) : okS n = true := by simp [okS]; omega
theorem okS_lo {n : Int} (h : n < -100) : okS n = false := by simp [okS]; omega
theorem okS_hi {n : Int} (h : 100 < n) : okS n = false := by simp [okS]; omega

/-- The model's ScoreOk. -/
theorem sok_spec (n : Int) (w : World) : Calls Try.prog 83 #[.int .i64 n] w fun e w' => e = .returned (.bool (okS n)) ∧ Keeps w w' := by
  by_cases h1 : -100 ≤ n
  · by_cases h2 : n ≤ 100
    · go_enter Try.func83, Try.ntmps83
      go_wp2
      go_ret
      exact ⟨ret_b (okS_yes h1 h2).symm, Keeps.refl _⟩
    · go_enter Try.func83, Try.ntmps83
      go_wp2
      go_ret
      exact ⟨ret_b (okS_hi (by omega)).symm, Keeps.refl _⟩
  · go_enter Try.func83, Try.ntmps83
    go_wp2
    go_ret
    exact ⟨ret_b (okS_lo (by omega)).symm, Keeps.refl _⟩
theorem right_impl (n : Int) (w : World) : Calls Try.prog 118 #[.int .i64 n] w fun e w' => e = .returned (.bool (okS n)) ∧ Keeps w w' := by
  by_cases h1 : -100 ≤ n
  · by_cases h2 : n ≤ 100
    · go_enter Try.func118, Try.ntmps118
      go_wp2
      go_ret
      exact ⟨ret_b (okS_yes h1 h2).symm, Keeps.refl _⟩
    · go_enter Try.func118, Try.ntmps118
      go_wp2
      go_ret
      exact ⟨ret_b (okS_hi (by omega)).symm, Keeps.refl _⟩
  · go_enter Try.func118, Try.ntmps118
    go_wp2
    go_ret
    exact ⟨ret_b (okS_lo (by omega)).symm, Keeps.refl _⟩
theorem sok_impl (n : Int) (w : World) : Calls Try.prog 112 #[.int .i64 n] w fun e w' => e = .returned (.bool (okS n)) ∧ Keeps w w' := by
  go_enter Try.func112, Try.ntmps112
  go_wp2_with fail
  refine (right_impl n _).mono ?_
  rintro x w1 ⟨rfl, hk⟩
  go_wp2_with fail
  go_ret
  exact ⟨rfl, hk⟩
theorem okS_true {n : Int} (h : okS n = true) : -100 ≤ n ∧ n ≤ 100 := by simpa [okS] using h
end Go.Proofs.Ytphabdjhmahemaa
