/- Rows that a call fills; lists of flat structs. -/
import Derived.Test.YtfpgalpfidkngaaLst0
import Derived.Deep.OwnRows
import Derived.Deep.DrawnRows
import Derived.Laws.MakeOwn
namespace Go.Proofs.Ytfpgalpfidkngaa
open Go.RowKit Go.Deep
set_option linter.unusedVariables false

theorem Keeps.rowK {w w' : World} (hk : Keeps w w') {b : Nat} {t : TypeId} {n : Nat} {f : Nat → Value} (h : w.rowIs b t n f) : w'.rowIs b t n f := h.of_block (Below.block hk b h.lt)
theorem own_row {w : World} {b : Nat} {t : TypeId} {n : Nat} {f : Nat → Value} (h : w.rowIs b t n f) (xs : List Value) (hx : xs.length ≤ n) (hf : ∀ j (hj : j < xs.length), f j = xs[j]) : Own w [(some ⟨b, 0, none⟩, xs)] := by
  refine ⟨?_, ?_, ?_⟩
  · intro s hs
    rw [List.mem_singleton.1 hs]
    refine Or.inr ⟨b, 0, rfl, fun j hj => ?_⟩
    have hj' : j < xs.length := hj
    rw [Nat.zero_add, h.cell (by omega), hf j hj']
  · by_cases h0 : xs = [] <;> simp [fp, fpS, h0]
  · intro g hg
    by_cases h0 : xs = []
    · simp [fp, fpS, h0] at hg
    · simp [fp, fpS, h0] at hg
      subst hg
      exact h.frozen
theorem born_row {W w : World} {b : Nat} {t : TypeId} {n : Nat} {f : Nat → Value} (h : w.rowIs b t n f) (xs : List Value) (hx : xs.length ≤ n) (hf : ∀ j (hj : j < xs.length), f j = xs[j]) (hb : W.heap.size ≤ b) : Born W w [(some ⟨b, 0, none⟩, xs)] :=
  ⟨own_row h xs hx hf, fun g hg => by
    by_cases h0 : xs = []
    · simp [fp, fpS, h0] at hg
    · simp [fp, fpS, h0] at hg
      omega⟩
end Go.Proofs.Ytfpgalpfidkngaa
