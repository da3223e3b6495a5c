/- The model's Balance. -/
import Derived.Test.YtecjjkgdgmjgmaaWorths
namespace Go.Proofs.Ytecjjkgdgmjgmaa
open Go.RowKit
set_option linter.unusedVariables false
/-- The amount of the first line of an account, or 0. -/
def balF (k c : Int) : List Ln → Int
  | [] => 0
  | x :: L => if x.k = k ∧ x.c = c then x.a else balF k c L
theorem balF_drop {k c : Int} {L : List Ln} {n : Nat} (h : n < L.length) : balF k c (L.drop n) = if L[n].k = k ∧ L[n].c = c then L[n].a else balF k c (L.drop (n + 1)) := by
  rw [List.drop_eq_getElem_cons h]; rfl
/-- What Balance answers. -/
def balV (id : Int) (L : List Ln) (k c : Int) : Int := if ledgB id L = true ∧ accB k c = true then balF k c L else 0

end Go.Proofs.Ytecjjkgdgmjgmaa
