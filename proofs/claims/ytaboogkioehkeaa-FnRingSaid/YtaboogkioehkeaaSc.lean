/- How long a ring is. -/
import Derived.Test.YtaboogkioehkeaaSb
namespace Go.Proofs.Ytaboogkioehkeaa
open Go.RowKit Go.Deep
set_option linter.unusedVariables false

theorem ringV_24 (N : Int) (E : List Edg) (f : List Int) : (ringV N E f).length ≤ 24 := by
  cases h : ringOk N E f
  · simp [ringV, h]
  · have hf : flowB N E f = true := by simp [ringOk] at h; exact h.1
    have he : (turns (arcs E f) N.toNat).e ≠ -1 := by simp [ringOk] at h; exact h.2
    obtain ⟨hg, _, _, _⟩ := flowB_true hf
    obtain ⟨g1, g2, _, _⟩ := graphB_true hg
    obtain ⟨n, rfl⟩ : ∃ n : Nat, N = (n : Int) := ⟨N.toNat, by omega⟩
    simp only [Int.toNat_natCast] at he
    have hsi : SInv (arcs E f) n (arcs E f).length (turns (arcs E f) n) := by have := turns_inv (arcs_ok hf) (n - 1); rw [show n - 1 + 1 = n by omega] at this; exact this
    obtain ⟨_, _, m, hor⟩ := on_ring (arcs_ok hf) (by omega) hsi he
    rw [(ring_yes hf he hor).2, ringL_len]
    have := hor.le
    omega
theorem ringV_len (N : Int) (E : List Edg) (f : List Int) : (ringV N E f).length ≤ 1048576 := Nat.le_trans (ringV_24 N E f) (by decide)
end Go.Proofs.Ytaboogkioehkeaa
