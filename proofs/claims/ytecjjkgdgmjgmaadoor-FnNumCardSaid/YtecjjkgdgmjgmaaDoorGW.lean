/- GetNum: both sides under one contract. -/
import Derived.Test.YtecjjkgdgmjgmaaDoorGS
import Derived.Test.YtecjjkgdgmjgmaaDoorGH
namespace Go.Proofs.YtecjjkgdgmjgmaaDoor
open Go.RowKit Go.Deep
set_option linter.unusedVariables false
def getB (L : List UInt8) (p s : Int) : Bool := decide (1 ≤ s ∧ s ≤ 7 ∧ 0 ≤ p ∧ p ≤ (L.length : Int) - s)
def getV (L : List UInt8) (p s : Int) : Int := if getB L p s = true then ((numL ((L.drop p.toNat).take s.toNat) : Nat) : Int) else 0
theorem getnum_impl (b off : Nat) (L : List UInt8) (cap : Nat) (p s : Int) (w : World) (u : TypeId) (pv : Value) (hv : w.cell? ⟨1, 0, none⟩ = some (.iface u pv)) (hc : Cells w (some ⟨b, off, none⟩) (bys L)) (hl : L.length ≤ 16777216) (hcap : L.length ≤ cap) (hcm : cap ≤ 9223372036854775807) :
    Calls Tryd.prog 11 #[.slice (some ⟨b, off, none⟩) L.length cap, .int .i64 p, .int .i64 s] w fun e w' => e = .returned (.tuple #[.int .i64 (getV L p s), .bool (getB L p s)]) ∧ Keeps w w' := by
  by_cases h : 1 ≤ s ∧ s ≤ 7 ∧ 0 ≤ p ∧ p ≤ (L.length : Int) - s
  · have hB : getB L p s = true := decide_eq_true h
    obtain ⟨n, rfl⟩ := Int.eq_ofNat_of_zero_le h.2.2.1
    obtain ⟨k, rfl⟩ := Int.eq_ofNat_of_zero_le (show 0 ≤ s by omega)
    unfold getV
    rw [if_pos hB, hB]
    exact getnum_yes b off L cap n k w hc hl hcap hcm (by omega) (by omega) (by omega)
  · have hB : getB L p s = false := decide_eq_false h
    unfold getV
    rw [hB, if_neg (by simp)]
    exact getnum_no _ L cap p s w u pv hv hl (by omega)
end Go.Proofs.YtecjjkgdgmjgmaaDoor
