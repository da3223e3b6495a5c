/- Limits and their parts of a size, told of data alone. -/
import Derived.Test.YtjihinkjcplgcaaDoorKeep
namespace Go.Proofs.YtjihinkjcplgcaaDoor
open Go.RowKit
set_option linter.unusedVariables false
set_option linter.unusedSimpArgs false
set_option maxRecDepth 10000

/-- Are these limits? -/
def bandB (lo hi : Int) : Bool := decide (0 ≤ lo) && decide (lo ≤ hi) && decide (hi ≤ 100)
theorem bandB_true {lo hi : Int} (h : bandB lo hi = true) : 0 ≤ lo ∧ lo ≤ hi ∧ hi ≤ 100 := by simp [bandB] at h; omega
theorem bandB_yes {lo hi : Int} (h0 : 0 ≤ lo) (h1 : lo ≤ hi) (h2 : hi ≤ 100) : bandB lo hi = true := by simp [bandB]; omega
theorem bandB_no {lo hi : Int} (h : lo < 0 ∨ hi < lo ∨ 100 < hi) : bandB lo hi = false := by
  cases e : bandB lo hi
  · rfl
  · have := bandB_true e; omega
/-- A part of a size that the limit gives. -/
def endV (sz k lo hi : Int) : Int := if (bandB lo hi && amtB sz) = true then sz * k / 100 else 0
theorem endV_no {sz lo hi : Int} (k : Int) (h : (bandB lo hi && amtB sz) = false) : endV sz k lo hi = 0 := by simp [endV, h]
theorem endV_yes {sz lo hi : Int} (k : Int) (h : (bandB lo hi && amtB sz) = true) : endV sz k lo hi = sz * k / 100 := by simp [endV, h]
theorem part_bound {sz k : Int} (h0 : 0 ≤ sz) (h1 : sz ≤ 1125899906842624) (k0 : 0 ≤ k) (k1 : k ≤ 100) : 0 ≤ sz * k / 100 ∧ sz * k / 100 ≤ sz := by
  have a : 0 ≤ sz * k := Int.mul_nonneg h0 k0
  have b : sz * k ≤ sz * 100 := Int.mul_le_mul_of_nonneg_left k1 h0
  generalize sz * k = X at *
  omega
theorem endV_bound {sz lo hi k : Int} (hk : k = lo ∨ k = hi) : 0 ≤ endV sz k lo hi ∧ endV sz k lo hi ≤ 1125899906842624 := by
  cases h : bandB lo hi && amtB sz
  · rw [endV_no k h]; omega
  · rw [endV_yes k h]
    rw [Bool.and_eq_true] at h
    obtain ⟨b1, b2, b3⟩ := bandB_true h.1
    obtain ⟨s0, s1⟩ := amtB_true h.2
    have := part_bound s0 s1 (k := k) (by omega) (by omega)
    omega
end Go.Proofs.YtjihinkjcplgcaaDoor
