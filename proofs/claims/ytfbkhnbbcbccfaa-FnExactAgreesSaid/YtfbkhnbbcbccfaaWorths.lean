/- The model's Worth and Balance. -/
import Derived.Test.YtfbkhnbbcbccfaaPosts
namespace Go.Proofs.Ytfbkhnbbcbccfaa
open Go.RowKit
set_option linter.unusedVariables false
theorem linesB_at {L : List Ln} (h : linesB L = true) (k : Nat) (hk : k < L.length) : okAt L k = true := by
  unfold linesB at h
  rw [Bool.and_eq_true, List.all_eq_true] at h
  exact h.1 k (List.mem_range.2 hk)
theorem linesB_range {L : List Ln} (h : linesB L = true) (k : Nat) (hk : k < L.length) : -1125899906842624 ≤ L[k].a ∧ L[k].a ≤ 1125899906842624 := by
  have h1 := linesB_at h k hk
  rw [okAt_gen hk] at h1
  simp [rangeB] at h1
  omega
theorem ledgB_lines {id : Int} {L : List Ln} (h : ledgB id L = true) : linesB L = true ∧ L.length ≤ 320 := by
  unfold ledgB at h
  simp at h
  exact ⟨h.2, h.1.2⟩
/-- Is it among what is owned? -/
def ownB (x : Ln) : Bool := decide (x.k = 1) || decide (6 ≤ x.k)
def sumW (L : List Ln) : Int := (L.map fun x => if ownB x = true then x.a else 0).foldl (· + ·) 0
theorem sumW_take (L : List Ln) (k : Nat) (h : k < L.length) : sumW (L.take (k + 1)) = sumW (L.take k) + (if ownB L[k] = true then L[k].a else 0) := by
  unfold sumW
  rw [List.take_succ_eq_append_getElem h, List.map_append, List.foldl_append]; rfl
/-- What Worth answers. -/
def worthV (id : Int) (L : List Ln) : Int := if ledgB id L = true then sumW L else 0

end Go.Proofs.Ytfbkhnbbcbccfaa
