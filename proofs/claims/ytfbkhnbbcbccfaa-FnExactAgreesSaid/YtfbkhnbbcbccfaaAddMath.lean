/- Lines added one after another: how long the list gets, how great its amounts. -/
import Derived.Test.YtfbkhnbbcbccfaaAdds
namespace Go.Proofs.Ytfbkhnbbcbccfaa
open Go.RowKit
set_option linter.unusedVariables false
theorem addG_len (x : Ln) : ∀ (d : Bool) (L : List Ln), (addG x d L).length ≤ L.length + 1
  | true, L => by rw [addG_true]; omega
  | false, [] => by simp [addG]
  | false, y :: L => by
    have ih := addG_len x false L
    simp only [addG]
    split
    · simp; omega
    · split
      · split
        · simp; omega
        · simp
      · simp
theorem addG_bound (x : Ln) (B C : Int) (hx0 : -C ≤ x.a) (hx1 : x.a ≤ C) (hB : 0 ≤ B) (hC : 0 ≤ C) : ∀ (d : Bool) (L : List Ln), (∀ y ∈ L, -B ≤ y.a ∧ y.a ≤ B) → ∀ y ∈ addG x d L, -(B + C) ≤ y.a ∧ y.a ≤ B + C
  | true, L, h => by
    rw [addG_true]
    intro y hy
    have := h y hy
    omega
  | false, [], h => by
    intro y hy
    simp [addG] at hy
    subst hy
    omega
  | false, z :: L, h => by
    have ih := addG_bound x B C hx0 hx1 hB hC false L (fun y hy => h y (List.mem_cons_of_mem _ hy))
    have hz := h z (List.mem_cons_self ..)
    have hL : ∀ y ∈ L, -(B + C) ≤ y.a ∧ y.a ≤ B + C := fun y hy => by have := h y (List.mem_cons_of_mem _ hy); omega
    intro y hy
    simp only [addG] at hy
    split at hy
    · rcases List.mem_cons.1 hy with rfl | hy
      · omega
      · exact ih y hy
    · split at hy
      · split at hy
        · exact hL y hy
        · rcases List.mem_cons.1 hy with rfl | hy
          · dsimp only; omega
          · exact hL y hy
      · rcases List.mem_cons.1 hy with rfl | hy
        · omega
        · rcases List.mem_cons.1 hy with rfl | hy
          · omega
          · exact hL y hy
/-- The lines behind a posting. -/
def addAll (L P : List Ln) : List Ln := P.foldl (fun M x => addG x false M) L
theorem addAll_take (L P : List Ln) (k : Nat) (h : k < P.length) : addAll L (P.take (k + 1)) = addG P[k] false (addAll L (P.take k)) := by
  unfold addAll
  rw [List.take_succ_eq_append_getElem h, List.foldl_append]; rfl
end Go.Proofs.Ytfbkhnbbcbccfaa
