/- What the laws do with lists of writes. -/
import Derived.Test.YtkgpoghoilffhaaDGD
namespace Go.Proofs.Ytkgpoghoilffhaa
open Go.RowKit Go.Deep
set_option linter.unusedVariables false
set_option maxRecDepth 10000

def Wr.seg (x : Wr) : Seg := x.b.seg
/-- How many bytes the writes have. -/
def totW (ds : List Wr) : Nat := (ds.map fun x => x.b.L.length).sum
theorem totW_take (ds : List Wr) (k : Nat) (h : k < ds.length) : totW (ds.take (k + 1)) = totW (ds.take k) + ds[k].b.L.length := by
  unfold totW
  rw [List.take_succ_eq_append_getElem h, List.map_append, List.sum_append]
  rfl
theorem totW_le {ds : List Wr} {x : Wr} (h : x ∈ ds) : x.b.L.length ≤ totW ds := by
  induction ds with
  | nil => simp at h
  | cons c t ih =>
    simp only [totW, List.map_cons, List.sum_cons] at ih ⊢
    rcases List.mem_cons.1 h with rfl | h
    · omega
    · have := ih h; omega
theorem totW_append (xs ys : List Wr) : totW (xs ++ ys) = totW xs + totW ys := by simp [totW]
theorem totW_take_le (ds : List Wr) (k : Nat) : totW (ds.take k) ≤ totW ds := by
  have := totW_append (ds.take k) (ds.drop k)
  rw [List.take_append_drop] at this
  omega
theorem mem_segW {w : World} {ds : List Wr} (h : Mem w (ds.map Wr.seg)) (k : Nat) (hk : k < ds.length) : Cells w ds[k].b.a (bys ds[k].b.L) := h ds[k].seg (List.mem_map.2 ⟨_, List.getElem_mem hk, rfl⟩)

theorem infoWrite : (Try.prog.info? 80).map (fun i => (i.zero, i.size, i.bytes)) = some (some (.agg #[.int .i64 0, .slice none 0 0]), 2, 32) := by kernel_rfl
theorem underWrites : Try.prog.underlying 23 = some (.slice 80) := by kernel_rfl
theorem make_writes (n : Nat) (hn : n ≤ 1048576) (w : World) : (Instr.makeSlice 23 (.int .i64 (n : Int)) (.int .i64 (n : Int))).run Try.prog w = .ok (.slice (some ⟨w.heap.size, 0, none⟩) n n) (w.alloc (.cells (madeCells #[.int .i64 0, .slice none 0 0] (n * 2)) 80)) := by
  have hI := infoWrite
  cases hi : Try.prog.info? 80 with
  | none => rw [hi] at hI; simp at hI
  | some i =>
    rw [hi] at hI
    simp at hI
    obtain ⟨hz, hs, hb⟩ := hI
    have h := run_make (P := Try.prog) w 23 80 i _ underWrites hi hz .i64 .i64 n n (by omega) (Int.le_refl _) (by rw [hb]; omega) (by omega)
    rw [hs] at h
    simpa [Value.cells] using h
theorem room_writes (w : World) (n : Nat) : Room (w.alloc (.cells (madeCells #[.int .i64 0, .slice none 0 0] (n * 2)) 80)) w.heap.size (n * 2) := by
  have hB : (w.alloc (.cells (madeCells #[.int .i64 0, .slice none 0 0] (n * 2)) 80)).heap[w.heap.size]? = some (.cells (madeCells #[.int .i64 0, .slice none 0 0] (n * 2)) 80 (0, 0)) := blk_alloc_new w _
  have hs : (madeCells #[Value.int .i64 0, .slice none 0 0] (n * 2)).size = n * 2 := size_madeCells _ _
  revert hB hs
  generalize w.alloc _ = W
  generalize madeCells _ _ = c
  intro hB hs
  refine ⟨fun j hj => ⟨c[j]'(by omega), ?_⟩, fun o => by simp [World.frozen?, hB]⟩
  simp [World.cell?, hB, show j < c.size by omega]

theorem segsW_snoc (nb : List Wr) (b : Wr) : (nb ++ [b]).map Wr.seg = nb.map Wr.seg ++ [b.seg] := by simp
theorem set_cell2 {w : World} {B n : Nat} {nb : List Wr} {x : Wr} (hr : Room w B (n * 2)) (hn : nb.length < n) (hc : ∀ j (hj : j < (wcells nb).length), w.cell? ⟨B, j, none⟩ = some (wcells nb)[j]) :
    ∀ j (hj : j < (wcells (nb ++ [x])).length), ((w.setCell ⟨B, nb.length * 2, none⟩ (.int .i64 x.i)).setCell ⟨B, nb.length * 2 + 1, none⟩ x.b.v).cell? ⟨B, j, none⟩ = some (wcells (nb ++ [x]))[j] := by
  intro j hj
  have hl := wcells_len nb
  rw [wcells_len, List.length_append, List.length_singleton] at hj
  by_cases e1 : j = nb.length * 2 + 1
  · subst e1
    obtain ⟨u, hu⟩ := (hr.set (nb.length * 2) (.int .i64 x.i)).cell (nb.length * 2 + 1) (by omega)
    rw [World.cell?_setCell_same _ _ _ hu]
    congr 1
    simp only [wcells_snoc]
    rw [List.getElem_append_right (by omega)]
    simp [hl]
  · rw [World.cell?_setCell_other _ _ _ _ (by simp)]
    by_cases e : j = nb.length * 2
    · subst e
      obtain ⟨u, hu⟩ := hr.cell (nb.length * 2) (by omega)
      rw [World.cell?_setCell_same _ _ _ hu]
      congr 1
      simp only [wcells_snoc]
      rw [List.getElem_append_right (by omega)]
      simp [hl]
    · rw [World.cell?_setCell_other _ _ _ _ (by simp), hc j (by omega)]
      congr 1
      simp only [wcells_snoc]
      rw [List.getElem_append_left (by omega)]
def Wr.key (x : Wr) : Int × List UInt8 := (x.i, x.b.L)
end Go.Proofs.Ytkgpoghoilffhaa
