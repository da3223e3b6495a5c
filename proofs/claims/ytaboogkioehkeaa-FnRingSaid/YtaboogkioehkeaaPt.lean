/- How long what is pushed is. -/
import Derived.Test.YtaboogkioehkeaaPs
namespace Go.Proofs.Ytaboogkioehkeaa
open Go.RowKit Go.Deep
set_option linter.unusedVariables false

theorem pushV_60 (N : Int) (E : List Edg) (f Q : List Int) : (pushV N E f Q).length ≤ 60 := by
  unfold pushV
  split
  · next h =>
    have hp : pushP N E f Q := by simp only [pushOk, decide_eq_true_eq] at h; exact h
    obtain ⟨hg, hl, _, _⟩ := flowB_true hp.1
    obtain ⟨_, _, g3, _⟩ := graphB_true hg
    rw [psh_len]; omega
  · simp
theorem pushV_len (N : Int) (E : List Edg) (f Q : List Int) : (pushV N E f Q).length ≤ 1048576 := Nat.le_trans (pushV_60 N E f Q) (by decide)
end Go.Proofs.Ytaboogkioehkeaa
