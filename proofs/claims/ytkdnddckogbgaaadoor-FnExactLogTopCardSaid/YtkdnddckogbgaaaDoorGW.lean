/- GetNum: both sides under one contract. -/
import Derived.Test.YtkdnddckogbgaaaDoorGS
import Derived.Test.YtkdnddckogbgaaaDoorGH
namespace Go.Proofs.YtkdnddckogbgaaaDoor
open Go.RowKit Go.Deep
set_option linter.unusedVariables false
def getB (L : List UInt8) (p s : Int) : Bool := decide (1 ≤ s ∧ s ≤ 7 ∧ 0 ≤ p ∧ p ≤ (L.length : Int) - s)
def getV (L : List UInt8) (p s : Int) : Int := if getB L p s = true then ((numL ((L.drop p.toNat).take s.toNat) : Nat) : Int) else 0
theorem getnum_spec (b off : Nat) (L : List UInt8) (cap : Nat) (p s : Int) (w : World) (hc : Cells w (some ⟨b, off, none⟩) (bys L)) (hl : L.length ≤ 16777216) :
    Calls Tryd.prog 44 #[.slice (some ⟨b, off, none⟩) L.length cap, .int .i64 p, .int .i64 s] w fun e w' => e = .returned (.tuple #[.int .i64 (getV L p s), .bool (getB L p s)]) ∧ w' = w := by
  by_cases h : 1 ≤ s ∧ s ≤ 7 ∧ 0 ≤ p ∧ p ≤ (L.length : Int) - s
  · have hB : getB L p s = true := decide_eq_true h
    obtain ⟨n, rfl⟩ := Int.eq_ofNat_of_zero_le h.2.2.1
    obtain ⟨k, rfl⟩ := Int.eq_ofNat_of_zero_le (show 0 ≤ s by omega)
    unfold getV
    rw [if_pos hB, hB]
    exact getspec_yes b off L cap n k w hc hl (by omega) (by omega) (by omega)
  · have hB : getB L p s = false := decide_eq_false h
    unfold getV
    rw [hB, if_neg (by simp)]
    exact getspec_no _ L cap p s w hl (by omega)
end Go.Proofs.YtkdnddckogbgaaaDoor
