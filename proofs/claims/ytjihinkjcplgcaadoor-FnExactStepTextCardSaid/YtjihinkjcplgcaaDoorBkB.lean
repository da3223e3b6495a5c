/- The program's words on books: what is under way, and whether all is right. -/
import Derived.Test.YtjihinkjcplgcaaDoorBkA
namespace Go.Proofs.YtjihinkjcplgcaaDoor
open Go.RowKit Go.Deep
set_option linter.unusedVariables false
set_option linter.unusedSimpArgs false
set_option maxRecDepth 10000

/-- A book variable. -/
def BookAt (w : World) (p : Nat) (B : Bo) : Prop := w.cell? ⟨p, 0, none⟩ = some (.int .i64 B.tk) ∧ w.cell? ⟨p, 1, none⟩ = some (.int .i64 B.nx) ∧ w.cell? ⟨p, 2, none⟩ = some (.int .i64 B.wa) ∧ w.cell? ⟨p, 3, none⟩ = some (.slice B.ca B.C.length B.cc) ∧ w.cell? ⟨p, 4, none⟩ = some (.slice B.ha B.Hs.length B.hc) ∧ w.cell? ⟨p, 5, none⟩ = some (.slice B.ra B.R.length B.rc)
theorem BookAt.kept {w w' : World} {p : Nat} {B : Bo} (h : BookAt w p B) (hk : Keeps w w') : BookAt w' p B := ⟨hk.cell h.1, hk.cell h.2.1, hk.cell h.2.2.1, hk.cell h.2.2.2.1, hk.cell h.2.2.2.2.1, hk.cell h.2.2.2.2.2⟩
theorem rowc5 (w : World) (v0 v1 v2 v3 v4 : Value) (t : TypeId) : ∀ w', Keeps (w.alloc (.cells #[v0, v1, v2, v3, v4] t)) w' → w'.cell? ⟨w.heap.size, 0, none⟩ = some v0 ∧ w'.cell? ⟨w.heap.size, 1, none⟩ = some v1 ∧ w'.cell? ⟨w.heap.size, 2, none⟩ = some v2 ∧ w'.cell? ⟨w.heap.size, 3, none⟩ = some v3 ∧ w'.cell? ⟨w.heap.size, 4, none⟩ = some v4 := by
  intro w' hk
  have hB : (w.alloc (.cells #[v0, v1, v2, v3, v4] t)).heap[w.heap.size]? = some (.cells #[v0, v1, v2, v3, v4] t (0, 0)) := blk_alloc_new w _
  revert hB hk
  generalize w.alloc (.cells #[v0, v1, v2, v3, v4] t) = W
  intro hk hB
  refine ⟨?_, ?_, ?_, ?_, ?_⟩ <;> (refine hk.cell ?_; simp [World.cell?, hB])
theorem rowc6 (w : World) (v0 v1 v2 v3 v4 v5 : Value) (t : TypeId) : ∀ w', Keeps (w.alloc (.cells #[v0, v1, v2, v3, v4, v5] t)) w' → w'.cell? ⟨w.heap.size, 0, none⟩ = some v0 ∧ w'.cell? ⟨w.heap.size, 1, none⟩ = some v1 ∧ w'.cell? ⟨w.heap.size, 2, none⟩ = some v2 ∧ w'.cell? ⟨w.heap.size, 3, none⟩ = some v3 ∧ w'.cell? ⟨w.heap.size, 4, none⟩ = some v4 ∧ w'.cell? ⟨w.heap.size, 5, none⟩ = some v5 := by
  intro w' hk
  have hB : (w.alloc (.cells #[v0, v1, v2, v3, v4, v5] t)).heap[w.heap.size]? = some (.cells #[v0, v1, v2, v3, v4, v5] t (0, 0)) := blk_alloc_new w _
  revert hB hk
  generalize w.alloc (.cells #[v0, v1, v2, v3, v4, v5] t) = W
  intro hk hB
  refine ⟨?_, ?_, ?_, ?_, ?_, ?_⟩ <;> (refine hk.cell ?_; simp [World.cell?, hB])
theorem rowc7 (w : World) (v0 v1 v2 v3 v4 v5 v6 : Value) (t : TypeId) : ∀ w', Keeps (w.alloc (.cells #[v0, v1, v2, v3, v4, v5, v6] t)) w' → w'.cell? ⟨w.heap.size, 0, none⟩ = some v0 ∧ w'.cell? ⟨w.heap.size, 1, none⟩ = some v1 ∧ w'.cell? ⟨w.heap.size, 2, none⟩ = some v2 ∧ w'.cell? ⟨w.heap.size, 3, none⟩ = some v3 ∧ w'.cell? ⟨w.heap.size, 4, none⟩ = some v4 ∧ w'.cell? ⟨w.heap.size, 5, none⟩ = some v5 ∧ w'.cell? ⟨w.heap.size, 6, none⟩ = some v6 := by
  intro w' hk
  have hB : (w.alloc (.cells #[v0, v1, v2, v3, v4, v5, v6] t)).heap[w.heap.size]? = some (.cells #[v0, v1, v2, v3, v4, v5, v6] t (0, 0)) := blk_alloc_new w _
  revert hB hk
  generalize w.alloc (.cells #[v0, v1, v2, v3, v4, v5, v6] t) = W
  intro hk hB
  refine ⟨?_, ?_, ?_, ?_, ?_, ?_, ?_⟩ <;> (refine hk.cell ?_; simp [World.cell?, hB])
theorem book_box (B : Bo) (w : World) (t : TypeId) : BookAt (w.alloc (.cells #[.int .i64 B.tk, .int .i64 B.nx, .int .i64 B.wa, .slice B.ca B.C.length B.cc, .slice B.ha B.Hs.length B.hc, .slice B.ra B.R.length B.rc] t)) w.heap.size B := rowc6 w _ _ _ _ _ _ t _ (Keeps.refl _)
end Go.Proofs.YtjihinkjcplgcaaDoor
