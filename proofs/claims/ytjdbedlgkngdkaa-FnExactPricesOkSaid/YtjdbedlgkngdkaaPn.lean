/- What moves cost, told of data alone. -/
import Derived.Test.YtjdbedlgkngdkaaBk
import Derived.Test.YtjdbedlgkngdkaaMv
namespace Go.Proofs.Ytjdbedlgkngdkaa
open Go.RowKit Go.Deep
set_option linter.unusedVariables false
set_option linter.unusedSimpArgs false
set_option maxRecDepth 10000

def moveB (m : Mov) : Bool := decide (1 ≤ m.am) && decide (m.am ≤ 1000000000) && ppmB m.pp
def costMOk (L : List Mov) : Bool := decide (L.length ≤ 20) && L.all moveB
def costM (L : List Mov) : Int := if costMOk L = true then (L.map fun m => m.am * m.pp).sum else 0
theorem costM_len {L : List Mov} (h : 20 < L.length) : costM L = 0 := by
  have : ¬ L.length ≤ 20 := by omega
  simp [costM, costMOk, this]
theorem costM_no {L : List Mov} {k : Nat} (hk : k < L.length) (h : moveB L[k] = false) : costM L = 0 := by
  simp [costM, costMOk, all_no hk h]
theorem costM_yes {L : List Mov} (h : L.length ≤ 20) (hb : ∀ j (hj : j < L.length), moveB L[j] = true) : costM L = (L.map fun m => m.am * m.pp).sum := by
  have : L.all moveB = true := all_yes hb
  simp [costM, costMOk, h, this]
theorem moveB_true {m : Mov} (h : moveB m = true) : 1 ≤ m.am ∧ m.am ≤ 1000000000 ∧ 0 ≤ m.pp ∧ m.pp ≤ 1000000 := by simp [moveB, ppmB] at h; omega
theorem moveB_no {m : Mov} (h : m.am < 1 ∨ 1000000000 < m.am ∨ m.pp < 0 ∨ 1000000 < m.pp) : moveB m = false := by
  cases e : moveB m
  · rfl
  · have := moveB_true e; omega
theorem mul_small {a p : Int} (h0 : 0 ≤ a) (h1 : a ≤ 1000000000) (p0 : 0 ≤ p) (p1 : p ≤ 1000000) : 0 ≤ a * p ∧ a * p ≤ 1000000000000000 := by
  refine ⟨Int.mul_nonneg h0 p0, ?_⟩
  have := Int.mul_le_mul h1 p1 p0 (by omega)
  omega
theorem cost_sum {L : List Mov} (hb : ∀ j (hj : j < L.length), moveB L[j] = true) : ∀ k, k ≤ L.length → 0 ≤ ((L.take k).map fun m => m.am * m.pp).sum ∧ ((L.take k).map fun m => m.am * m.pp).sum ≤ 1000000000000000 * k := by
  intro k hk
  induction k with
  | zero => simp
  | succ k ih =>
    have h := ih (by omega)
    obtain ⟨m0, m1, m2, m3⟩ := moveB_true (hb k (by omega))
    have := mul_small (show 0 ≤ L[k].am by omega) m1 m2 m3
    rw [sum_take_succ (fun m : Mov => m.am * m.pp) L k (by omega)]
    simp only [Int.natCast_add]
    omega
end Go.Proofs.Ytjdbedlgkngdkaa
