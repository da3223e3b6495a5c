/- What the laws do with lists of Chan. -/
import Derived.Test.YtjdbedlgkngdkaaDoorBk
import Derived.Test.YtjdbedlgkngdkaaDoorFlt
namespace Go.Proofs.YtjdbedlgkngdkaaDoor
open Go.RowKit Go.Deep
set_option linter.unusedVariables false
set_option linter.unusedSimpArgs false
set_option maxRecDepth 10000

def Chn.v (x : Chn) : Value := .agg #[.int .i64 x.id, .int .i64 x.sz, .int .i64 x.lo, .int .i64 x.re, .int .i64 x.ba, .int .i64 x.pp, .int .i64 x.sc]
theorem toChan_k (x : Chn) (w : World) : Calls Tryd.prog 5 #[x.v] w fun e w' => e = .returned x.v ∧ Keeps w w' := by
  obtain ⟨xid, xsz, xlo, xre, xba, xpp, xsc⟩ := x
  dsimp only [Chn.v]
  go_enter Tryd.func5, Tryd.ntmps5
  go_wp2_with fail
  refine bodyPost_ret (v := .agg #[.int .i64 xid, .int .i64 xsz, .int .i64 xlo, .int .i64 xre, .int .i64 xba, .int .i64 xpp, .int .i64 xsc]) (by simp [results, Tryd.results5, go_sem]) rfl ⟨rfl, ?_⟩
  repeat (first | exact Keeps.refl _ | refine Keeps.alloc ?_ _ | refine Keeps.setCell ?_ (by simp) _)
theorem infoChan : (Tryd.prog.info? 26).map (fun i => (i.zero, i.size, i.bytes)) = some (some (.agg #[.int .i64 0, .int .i64 0, .int .i64 0, .int .i64 0, .int .i64 0, .int .i64 0, .int .i64 0]), 7, 56) := by kernel_rfl
/-- The row of the new list while it is filled. -/
def rowChan (L : List Chn) (k : Nat) : Nat → Value := fun j => if j < k * 7 then (chs L).getD j (.int .i64 0) else (#[.int .i64 0, .int .i64 0, .int .i64 0, .int .i64 0, .int .i64 0, .int .i64 0, .int .i64 0] : Array Value)[j % 7]!
theorem made_Chan (L : List Chn) (w : World) (m : Nat) (t : TypeId) : (w.alloc (.cells (madeCells #[.int .i64 0, .int .i64 0, .int .i64 0, .int .i64 0, .int .i64 0, .int .i64 0, .int .i64 0] m) t)).rowIs w.heap.size t m (rowChan L 0) := by
  have h := World.rowIs_alloc w (madeCells #[.int .i64 0, .int .i64 0, .int .i64 0, .int .i64 0, .int .i64 0, .int .i64 0, .int .i64 0] m) t (rowChan L 0) (by
    intro i hi
    rw [size_madeCells] at hi
    simp only [madeCells, Array.getElem?_map, Array.getElem?_range]
    rw [if_pos hi]
    simp [rowChan])
  rw [size_madeCells] at h
  exact h
theorem rowChan_step (L : List Chn) (k : Nat) (h : k < L.length) (j : Nat) : (if j = k * 7 + 6 then (.int .i64 L[k].sc : Value) else if j = k * 7 + 5 then (.int .i64 L[k].pp : Value) else if j = k * 7 + 4 then (.int .i64 L[k].ba : Value) else if j = k * 7 + 3 then (.int .i64 L[k].re : Value) else if j = k * 7 + 2 then (.int .i64 L[k].lo : Value) else if j = k * 7 + 1 then (.int .i64 L[k].sz : Value) else if j = k * 7 then (.int .i64 L[k].id : Value) else rowChan L k j) = rowChan L (k + 1) j := by
  have hL := chs_len L
  have hk := Nat.mul_le_mul_right 7 (show k + 1 ≤ L.length from h)
  have ha := fun r (hr : r < 7) => flatMap_at (f := Chn.cells) (sz := 7) (fun _ => rfl) L k h r hr
  unfold rowChan
  by_cases h6 : j = k * 7 + 6
  · subst h6
    (try simp only [if_true])
    (try rw [if_pos rfl])
    rw [if_pos (by omega), List.getD_eq_getElem?_getD]
    have e := ha 6 (by decide)
    skip
    unfold chs
    rw [e]; rfl
  rw [if_neg h6]
  by_cases h5 : j = k * 7 + 5
  · subst h5
    (try simp only [if_true])
    (try rw [if_pos rfl])
    rw [if_pos (by omega), List.getD_eq_getElem?_getD]
    have e := ha 5 (by decide)
    skip
    unfold chs
    rw [e]; rfl
  rw [if_neg h5]
  by_cases h4 : j = k * 7 + 4
  · subst h4
    (try simp only [if_true])
    (try rw [if_pos rfl])
    rw [if_pos (by omega), List.getD_eq_getElem?_getD]
    have e := ha 4 (by decide)
    skip
    unfold chs
    rw [e]; rfl
  rw [if_neg h4]
  by_cases h3 : j = k * 7 + 3
  · subst h3
    (try simp only [if_true])
    (try rw [if_pos rfl])
    rw [if_pos (by omega), List.getD_eq_getElem?_getD]
    have e := ha 3 (by decide)
    skip
    unfold chs
    rw [e]; rfl
  rw [if_neg h3]
  by_cases h2 : j = k * 7 + 2
  · subst h2
    (try simp only [if_true])
    (try rw [if_pos rfl])
    rw [if_pos (by omega), List.getD_eq_getElem?_getD]
    have e := ha 2 (by decide)
    skip
    unfold chs
    rw [e]; rfl
  rw [if_neg h2]
  by_cases h1 : j = k * 7 + 1
  · subst h1
    (try simp only [if_true])
    (try rw [if_pos rfl])
    rw [if_pos (by omega), List.getD_eq_getElem?_getD]
    have e := ha 1 (by decide)
    skip
    unfold chs
    rw [e]; rfl
  rw [if_neg h1]
  by_cases h0 : j = k * 7
  · subst h0
    (try simp only [if_true])
    (try rw [if_pos rfl])
    rw [if_pos (by omega), List.getD_eq_getElem?_getD]
    have e := ha 0 (by decide)
    simp only [Nat.add_zero] at e
    unfold chs
    rw [e]; rfl
  rw [if_neg h0]
  by_cases hlt : j < k * 7
  · rw [if_pos hlt, if_pos (by omega)]
  · rw [if_neg hlt, if_neg (by omega)]
theorem rowChan_end (L : List Chn) (j : Nat) (hj : j < (chs L).length) : rowChan L L.length j = (chs L)[j] := by
  have hL := chs_len L
  unfold rowChan
  rw [if_pos (by omega), List.getD_eq_getElem?_getD, List.getElem?_eq_getElem hj]
  rfl
end Go.Proofs.YtjdbedlgkngdkaaDoor
