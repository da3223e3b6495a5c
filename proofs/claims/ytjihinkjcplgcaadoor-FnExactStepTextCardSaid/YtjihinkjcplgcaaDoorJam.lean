/- Scores: the program's moves by method values, and the model's. -/
import Derived.Test.YtjihinkjcplgcaaDoorKeep
namespace Go.Proofs.YtjihinkjcplgcaaDoor
open Go.RowKit
set_option linter.unusedVariables false

def okS (n : Int) : Bool := decide (-100 ≤ n) && decide (n ≤ 100)
def upS (n : Int) : Int := if okS n = true then min (n + 10) 100 else 0
def downS (n : Int) : Int := if okS n = true then max (n - 15) (-100) else 0
def fadeS (n : Int) : Int := if okS n = true then (if 0 < n then n - 1 else if n < 0 then n + 1 else 0) else 0
theorem okS_yes {n : Int} (h : -100 ≤ n) (h' : n ≤ 100) : okS n = true := by simp [okS]; omega
theorem okS_lo {n : Int} (h : n < -100) : okS n = false := by simp [okS]; omega
theorem okS_hi {n : Int} (h : 100 < n) : okS n = false := by simp [okS]; omega

theorem okS_true {n : Int} (h : okS n = true) : -100 ≤ n ∧ n ≤ 100 := by simpa [okS] using h
end Go.Proofs.YtjihinkjcplgcaaDoor
