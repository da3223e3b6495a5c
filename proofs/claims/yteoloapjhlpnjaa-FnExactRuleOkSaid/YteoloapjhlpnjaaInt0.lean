/- Lists of numbers in memory; append of numbers. -/
import Derived.Test.YteoloapjhlpnjaaLst0
import Derived.Deep.DrawnRows
namespace Go.Proofs.Yteoloapjhlpnjaa
open Go.RowKit Go.Deep
set_option linter.unusedVariables false
set_option maxRecDepth 10000

def its (K : List Int) : List Value := K.map fun k => .int .i64 k
theorem its_length (K : List Int) : (its K).length = K.length := by simp [its]
theorem its_at {w : World} {a : Option Addr} {K : List Int} (h : Cells w a (its K)) (i : Nat) (hi : i < K.length) : ∃ b off, a = some ⟨b, off, none⟩ ∧ w.cell? ⟨b, off + i, none⟩ = some (.int .i64 K[i]) := by
  rcases h with h | ⟨b, off, e, h⟩
  · have : K = [] := by simpa [its] using h
    subst this; simp at hi
  · refine ⟨b, off, e, ?_⟩
    rw [h i (by rw [its_length]; exact hi)]
    simp [its]
theorem its_nil {K : List Int} : its K = [] ↔ K = [] := by simp [its]
theorem its_append (K M : List Int) : its (K ++ M) = its K ++ its M := by simp [its]
theorem infoInt : (Try.prog.info? 3).map (fun i => (i.zero, i.size, i.bytes)) = some (some (.int .i64 0), 1, 8) := by kernel_rfl
def rowI (K : List Int) (k : Nat) : Nat → Value := fun j => if j < k then (its K).getD j (.int .i64 0) else .int .i64 0
theorem rowI_step (K : List Int) (k : Nat) (h : k < K.length) (j : Nat) : (if j = k then (.int .i64 K[k] : Value) else rowI K k j) = rowI K (k + 1) j := by
  unfold rowI
  by_cases e : j = k
  · subst e
    rw [if_pos rfl, if_pos (by omega), List.getD_eq_getElem?_getD]
    simp [its, h]
  · rw [if_neg e]
    by_cases hlt : j < k
    · rw [if_pos hlt, if_pos (by omega)]
    · rw [if_neg hlt, if_neg (by omega)]
theorem rowI_end (K : List Int) (j : Nat) (hj : j < (its K).length) : rowI K K.length j = (its K)[j] := by
  rw [its_length] at hj
  unfold rowI
  rw [if_pos hj, List.getD_eq_getElem?_getD, List.getElem?_eq_getElem (by rw [its_length]; exact hj)]
  rfl
abbrev OwnsI (w : World) (base : Nat) (v : Value) (L : List Int) : Prop := w.ownsRow base 3 1 v L.length (its L)
end Go.Proofs.Yteoloapjhlpnjaa
