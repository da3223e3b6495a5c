/- What the laws do with lists of cells: compared, marked, looked for. -/
import Derived.Test.YtecjjkgdgmjgmaaDGC
namespace Go.Proofs.Ytecjjkgdgmjgmaa
open Go.RowKit Go.Deep
set_option linter.unusedVariables false
set_option maxRecDepth 10000

theorem mem_seg {w : World} {cs : List Bs} (h : Mem w (cs.map Bs.seg)) (k : Nat) (hk : k < cs.length) : Cells w cs[k].a (bys cs[k].L) := h cs[k].seg (List.mem_map.2 ⟨_, List.getElem_mem hk, rfl⟩)
theorem tot_append (xs ys : List Bs) : tot (xs ++ ys) = tot xs + tot ys := by simp [tot]
theorem tot_take_le (cs : List Bs) (k : Nat) : tot (cs.take k) ≤ tot cs := by
  have := tot_append (cs.take k) (cs.drop k)
  rw [List.take_append_drop] at this
  omega
/-- The lists with marks from n on. -/
def markC (n : Nat) : List Bs → List Bs
  | [] => []
  | b :: t => ⟨b.a, b.cap, marksB n b.L.length⟩ :: markC (n + b.L.length) t
theorem markC_len : ∀ (n : Nat) (cs : List Bs), (markC n cs).length = cs.length
  | _, [] => rfl
  | n, b :: t => by simp [markC, markC_len]
theorem markC_cells : ∀ (n : Nat) (cs : List Bs), ccells (markC n cs) = ccells cs
  | _, [] => rfl
  | n, b :: t => by
    have := markC_cells (n + b.L.length) t
    simp only [ccells, markC, List.flatMap_cons, Bs.cells, Bs.v, marksB_length] at this ⊢
    rw [this]
theorem markC_append : ∀ (n : Nat) (xs ys : List Bs), markC n (xs ++ ys) = markC n xs ++ markC (n + tot xs) ys
  | n, [], ys => by simp [markC, tot]
  | n, b :: t, ys => by
    have := markC_append (n + b.L.length) t ys
    simp only [List.cons_append, markC, this, tot, List.map_cons, List.sum_cons]
    congr 3
    omega
theorem markC_at (n : Nat) (cs : List Bs) (k : Nat) (h : k < cs.length) : (markC n cs)[k]? = some ⟨cs[k].a, cs[k].cap, marksB (n + tot (cs.take k)) cs[k].L.length⟩ := by
  have e : cs = cs.take k ++ cs[k] :: cs.drop (k + 1) := by rw [← List.drop_eq_getElem_cons h]; simp
  have hl : (markC n (cs.take k)).length = k := by rw [markC_len]; simp; omega
  rw [show markC n cs = markC n (cs.take k ++ cs[k] :: cs.drop (k + 1)) by rw [← e], markC_append, List.getElem?_append_right (by omega), hl]
  simp [markC]
end Go.Proofs.Ytecjjkgdgmjgmaa
