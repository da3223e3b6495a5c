/- What the laws do with lists of writes: compared, marked, looked for. -/
import Derived.Test.YtecjjkgdgmjgmaaDGW
namespace Go.Proofs.Ytecjjkgdgmjgmaa
open Go.RowKit Go.Deep
set_option linter.unusedVariables false
set_option maxRecDepth 10000

/-- The writes with marks from n on. -/
def markW (n : Nat) : List Wr → List Wr
  | [] => []
  | x :: t => ⟨(n : Int), ⟨x.b.a, x.b.cap, marksB (n + 1) x.b.L.length⟩⟩ :: markW (n + 1 + x.b.L.length) t
theorem markW_len : ∀ (n : Nat) (ds : List Wr), (markW n ds).length = ds.length
  | _, [] => rfl
  | n, b :: t => by simp [markW, markW_len]
theorem markW_append : ∀ (n : Nat) (xs ys : List Wr), markW n (xs ++ ys) = markW n xs ++ markW (n + xs.length + totW xs) ys
  | n, [], ys => by simp [markW, totW]
  | n, b :: t, ys => by
    have := markW_append (n + 1 + b.b.L.length) t ys
    simp only [List.cons_append, markW, this, totW, List.map_cons, List.sum_cons, List.length_cons]
    congr 3
    omega
theorem markW_at (n : Nat) (ds : List Wr) (k : Nat) (h : k < ds.length) : (markW n ds)[k]? = some ⟨((n + k + totW (ds.take k) : Nat) : Int), ⟨ds[k].b.a, ds[k].b.cap, marksB (n + k + totW (ds.take k) + 1) ds[k].b.L.length⟩⟩ := by
  have e : ds = ds.take k ++ ds[k] :: ds.drop (k + 1) := by rw [← List.drop_eq_getElem_cons h]; simp
  have hk : (ds.take k).length = k := by simp; omega
  have hl : (markW n (ds.take k)).length = k := by rw [markW_len, hk]
  rw [show markW n ds = markW n (ds.take k ++ ds[k] :: ds.drop (k + 1)) by rw [← e], markW_append, List.getElem?_append_right (by omega), hl, hk]
  simp [markW]
theorem totW_markW : ∀ (n : Nat) (ds : List Wr), totW (markW n ds) = totW ds
  | _, [] => rfl
  | n, b :: t => by
    have := totW_markW (n + 1 + b.b.L.length) t
    simp only [totW, markW, List.map_cons, List.sum_cons, marksB_length] at this ⊢
    omega
theorem wcells_append (xs ys : List Wr) : wcells (xs ++ ys) = wcells xs ++ wcells ys := by simp [wcells]
theorem cells_set {w : World} {g off : Nat} {xs : List Value} (hc : ∀ j (hj : j < xs.length), w.cell? ⟨g, off + j, none⟩ = some xs[j]) (i : Nat) (v : Value) (hi : i < xs.length) : ∀ j (hj : j < (xs.set i v).length), (w.setCell ⟨g, off + i, none⟩ v).cell? ⟨g, off + j, none⟩ = some (xs.set i v)[j] := by
  intro j hj
  have hj' : j < xs.length := by simpa using hj
  by_cases e : j = i
  · subst e
    rw [World.cell?_setCell_same _ _ _ (hc j hj')]; simp
  · rw [World.cell?_setCell_other _ _ _ _ (by simp), hc j hj', List.getElem_set_ne (Ne.symm e)]
/-- One cell of a list of one's own was written. -/
theorem Own.setCell {w : World} {g off : Nat} {xs : List Value} (h : Own w [(some ⟨g, off, none⟩, xs)]) (i : Nat) (v : Value) (hi : i < xs.length) : Own (w.setCell ⟨g, off + i, none⟩ v) [(some ⟨g, off, none⟩, xs.set i v)] := by
  refine h.wrote (by simp) (Or.inr ⟨g, off, rfl, cells_set ?_ i v hi⟩) (fun p => frozen_set ..)
  rcases h.one with h' | ⟨g', off', e, h'⟩
  · rw [h'] at hi; simp at hi
  · have e' := Option.some.inj e
    injection e' with e1 e2
    subst e1 e2
    exact h'
theorem wcells_set (A B : List Wr) (x : Wr) (n : Int) : (wcells (A ++ x :: B)).set (A.length * 2) (.int .i64 n) = wcells (A ++ ⟨n, x.b⟩ :: B) := by
  have hl := wcells_len A
  rw [wcells_append, wcells_append, List.set_append_right _ _ (by omega), hl]
  simp [wcells, Wr.cells]
end Go.Proofs.Ytecjjkgdgmjgmaa
