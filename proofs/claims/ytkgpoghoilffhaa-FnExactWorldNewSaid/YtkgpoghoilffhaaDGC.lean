/- What the laws do with lists of cells. -/
import Derived.Test.YtkgpoghoilffhaaDG
namespace Go.Proofs.Ytkgpoghoilffhaa
open Go.RowKit Go.Deep
set_option linter.unusedVariables false
set_option maxRecDepth 10000

/-- How many bytes the lists have. -/
def tot (cs : List Bs) : Nat := (cs.map fun b => b.L.length).sum
theorem tot_take (cs : List Bs) (k : Nat) (h : k < cs.length) : tot (cs.take (k + 1)) = tot (cs.take k) + cs[k].L.length := by
  unfold tot
  rw [List.take_succ_eq_append_getElem h, List.map_append, List.sum_append]
  rfl
theorem tot_le {cs : List Bs} {b : Bs} (h : b ∈ cs) : b.L.length ≤ tot cs := by
  induction cs with
  | nil => simp at h
  | cons c t ih =>
    simp only [tot, List.map_cons, List.sum_cons] at ih ⊢
    rcases List.mem_cons.1 h with rfl | h
    · omega
    · have := ih h; omega

theorem infoCell : (Try.prog.info? 77).map (fun i => (i.zero, i.size, i.bytes)) = some (some (.agg #[.slice none 0 0]), 1, 24) := by kernel_rfl
theorem underCells : Try.prog.underlying 22 = some (.slice 77) := by kernel_rfl
theorem make_cells (n : Nat) (hn : n ≤ 1048576) (w : World) : (Instr.makeSlice 22 (.int .i64 (n : Int)) (.int .i64 (n : Int))).run Try.prog w = .ok (.slice (some ⟨w.heap.size, 0, none⟩) n n) (w.alloc (.cells (madeCells #[.slice none 0 0] n) 77)) := by
  have hI := infoCell
  cases hi : Try.prog.info? 77 with
  | none => rw [hi] at hI; simp at hI
  | some i =>
    rw [hi] at hI
    simp at hI
    obtain ⟨hz, hs, hb⟩ := hI
    have h := run_make (P := Try.prog) w 22 77 i _ underCells hi hz .i64 .i64 n n (by omega) (Int.le_refl _) (by rw [hb]; omega) (by omega)
    rw [hs] at h
    simpa [Value.cells] using h

theorem fpS_Bs (b : Bs) : fp [b.seg] = fpS b.seg := by simp [fp]
theorem segs_snoc (nb : List Bs) (b : Bs) : (nb ++ [b]).map Bs.seg = nb.map Bs.seg ++ [b.seg] := by simp
theorem set_cell1 {w : World} {B n : Nat} {nb : List Bs} {b : Bs} (hr : Room w B n) (hn : nb.length < n) (hc : ∀ j (hj : j < (ccells nb).length), w.cell? ⟨B, j, none⟩ = some (ccells nb)[j]) :
    ∀ j (hj : j < (ccells (nb ++ [b])).length), (w.setCell ⟨B, nb.length, none⟩ b.v).cell? ⟨B, j, none⟩ = some (ccells (nb ++ [b]))[j] := by
  intro j hj
  have hl := ccells_len nb
  rw [ccells_len, List.length_append, List.length_singleton] at hj
  by_cases e : j = nb.length
  · subst e
    obtain ⟨u, hu⟩ := hr.cell nb.length hn
    rw [World.cell?_setCell_same _ _ _ hu]
    congr 1
    simp only [ccells_snoc]
    rw [List.getElem_append_right (by omega)]
    simp [hl]
  · rw [World.cell?_setCell_other _ _ _ _ (by simp), hc j (by omega)]
    congr 1
    simp only [ccells_snoc]
    rw [List.getElem_append_left (by omega)]
def Fresh (b : Bs) : Prop := (∃ g, b.a = some ⟨g, 0, none⟩) ∧ b.cap = b.L.length
end Go.Proofs.Ytkgpoghoilffhaa
