/- DiskWrite: what it says; the program's, by contract. -/
import Derived.Test.YtkdnddckogbgaaaCpW
namespace Go.Proofs.Ytkdnddckogbgaaa
open Go.RowKit Go.Deep
set_option linter.unusedVariables false
set_option maxRecDepth 10000

theorem sum_le (l : List Nat) (c : Nat) (h : ∀ x ∈ l, x ≤ c) : l.sum ≤ c * l.length := by
  induction l with
  | nil => simp
  | cons x t ih =>
    have h1 := h x (List.mem_cons_self ..)
    have h2 := ih (fun y hy => h y (List.mem_cons_of_mem _ hy))
    simp only [List.sum_cons, List.length_cons, Nat.mul_add]
    omega
theorem dokM_DOk {cs : List Bs} {ds : List Wr} (h : dokM (dat cs ds) = true) (nc : ∀ b ∈ cs, b.fit) (nd : ∀ x ∈ ds, x.b.fit) : DOk cs ds := by
  obtain ⟨h1, h2, h3⟩ := dokM_len h
  have e1 : (dat cs ds).cells.length = cs.length := by simp [dat]
  have e2 : (dat cs ds).dirty.length = ds.length := by simp [dat]
  refine ⟨by omega, by omega, ?_, ?_, nc, nd⟩
  · have := sum_le (cs.map fun b => b.L.length) 128 (fun x hx => by
      obtain ⟨b, hb, rfl⟩ := List.mem_map.1 hx
      have := dokM_cell h (L := b.L) (List.mem_map.2 ⟨b, hb, rfl⟩)
      omega)
    rw [List.length_map] at this
    show (cs.map fun b => b.L.length).sum ≤ _
    omega
  · have := sum_le (ds.map fun b => b.b.L.length) 128 (fun x hx => by
      obtain ⟨b, hb, rfl⟩ := List.mem_map.1 hx
      have := dokM_dirty h (x := b.key) (List.mem_map.2 ⟨b, hb, rfl⟩)
      have : b.b.L.length = 128 := this.2.2
      omega)
    rw [List.length_map] at this
    show (ds.map fun b => b.b.L.length).sum ≤ _
    omega
def writeB (m : DkM) (i : Int) (L : List UInt8) : Bool := dokM m && decide (m.dirty.length < 600) && (decide (0 ≤ i) && decide (i < m.cells.length)) && decide (L.length = 128)
def writeM (m : DkM) (i : Int) (L : List UInt8) : DkM := if writeB m i L = true then ⟨m.cells, m.dirty ++ [(i, L)]⟩ else noneM
theorem dokM_add {m : DkM} {i : Int} {L : List UInt8} (h : dokM m = true) : dokM ⟨m.cells, m.dirty ++ [(i, L)]⟩ = writeB m i L := by
  have h' := h
  simp only [dokM, Bool.and_eq_true, decide_eq_true_eq] at h'
  obtain ⟨⟨⟨⟨a1, a2⟩, a3⟩, a4⟩, a5⟩ := h'
  unfold writeB
  rw [h]
  unfold dokM
  simp only [List.all_append, a4, a5, decide_eq_true a1, decide_eq_true a2, List.length_append, List.length_singleton, List.all_cons, List.all_nil, Bool.and_true, Bool.true_and]
  rw [show decide (m.dirty.length + 1 ≤ 600) = decide (m.dirty.length < 600) from rfl]
  simp only [Bool.and_assoc]
def WritePost (w : World) (m : DkM) (i : Int) (L : List UInt8) (x : Ending) (w' : World) : Prop := ∃ v, x = .returned (.tuple #[v, .bool (writeB m i L)]) ∧ DiskRes w w' v (writeM m i L) ∧ Keeps w w'
theorem WritePost.no {w w' : World} {m : DkM} {i : Int} {L : List UInt8} (h : writeB m i L = false) (hk : Keeps w w') : WritePost w m i L (.returned (.tuple #[dskV none 0 0 none 0 0, .bool false])) w' :=
  ⟨_, by rw [h], by unfold writeM; rw [h]; exact diskres_none _ _, hk⟩
theorem WritePost.yes {w w' : World} {m : DkM} {i : Int} {L : List UInt8} {v : Value} (h : writeB m i L = true) (hr : DiskRes w w' v ⟨m.cells, m.dirty ++ [(i, L)]⟩) (hk : Keeps w w') : WritePost w m i L (.returned (.tuple #[v, .bool true])) w' :=
  ⟨_, by rw [h], by unfold writeM; rw [if_pos h]; exact hr, hk⟩
theorem writeB_no {m : DkM} {i : Int} {L : List UInt8} (h : dokM m = false ∨ m.dirty.length = 600 ∨ i < 0 ∨ (m.cells.length : Int) ≤ i ∨ L.length ≠ 128) : writeB m i L = false := by
  unfold writeB
  rcases h with h | h | h | h | h
  · rw [h]; simp
  · rw [h]; simp
  · rw [decide_eq_false (show ¬ 0 ≤ i by omega)]; simp
  · rw [decide_eq_false (show ¬ i < (m.cells.length : Int) by omega)]; simp
  · rw [decide_eq_false h]; simp
theorem writeB_yes {m : DkM} {i : Int} {L : List UInt8} (h : dokM m = true) (h1 : m.dirty.length ≠ 600) (h2 : 0 ≤ i) (h3 : i < (m.cells.length : Int)) (h4 : L.length = 128) : writeB m i L = true := by
  have := (dokM_len h).2.2
  unfold writeB
  rw [h, decide_eq_true (show m.dirty.length < 600 by omega), decide_eq_true h2, decide_eq_true h3, decide_eq_true h4]; rfl
theorem make_writes0 (n : Nat) (hn : n ≤ 1048577) (w : World) : (Instr.makeSlice 24 (.int .i64 0) (.int .i64 ((n : Int) + 1))).run Try.prog w = .ok (.slice (some ⟨w.heap.size, 0, none⟩) 0 (n + 1)) (w.alloc (.cells (madeCells #[.int .i64 0, .slice none 0 0] ((n + 1) * 2)) 51)) := by
  have hI := infoWrite
  cases hi : Try.prog.info? 51 with
  | none => rw [hi] at hI; simp at hI
  | some i =>
    rw [hi] at hI
    simp at hI
    obtain ⟨hz, hs, hb⟩ := hI
    have h := run_make (P := Try.prog) w 24 51 i _ underWrites hi hz .i64 .i64 0 ((n : Int) + 1) (by omega) (by omega) (by rw [hb]; omega) (by omega)
    rw [hs] at h
    simpa [Value.cells] using h
/-- A disk of two lists that were made one behind the other, and then some variables were set. -/
theorem diskres_made {w w2 w5 w6 W : World} {v1 v2 : Value} {nb : List Bs} {nw : List Wr} {fs : List Nat} (hk2 : Keeps w w2) (hD : LG 51 2 Wr.cells Wr.seg w2 w5 v2 nw) (hC : LG 54 1 Bs.cells Bs.seg w5 w6 v1 nb) (hT : Turn fs w6 W) (hfs : ∀ b ∈ fs, b < w2.heap.size) (hok : dokM (dat nb nw) = true)
    (nc : ∀ b ∈ nb, b.fit) (nd : ∀ x ∈ nw, x.b.fit) : DiskRes w W (.agg #[v1, v2]) (dat nb nw) := by
  obtain ⟨a1, c1, e1, h1, b1⟩ := hC.cells
  obtain ⟨a2, c2, e2, h2, b2⟩ := hD.writes
  refine ⟨a1, c1, nb, a2, c2, nw, by rw [e1, e2], rfl, dokM_DOk hok nc nd, h1, h2, ?_⟩
  have hs := hD.keeps.size
  have b1' : Born w W ((a1, ccells nb) :: nb.map Bs.seg) := by
    refine (b1.turn hT (fun b hb hx => ?_)).old (hk2.trans hD.keeps)
    have := b1.new b hb
    have := hfs b hx
    omega
  have b2' : Born w W ((a2, wcells nw) :: nw.map Wr.seg) := by
    refine ((b2.kept hC.keeps).turn hT (fun b hb hx => ?_)).old hk2
    have := b2.new b hb
    have := hfs b hx
    omega
  refine ⟨b1'.toOwn.append b2'.toOwn (fun b hb hb' => ?_), fun b hb => ?_⟩
  · have := b1.new b hb
    have := b2.mem.lt b hb'
    omega
  · unfold dsk at hb
    rw [fp_append] at hb
    rcases List.mem_append.1 hb with hb | hb
    · exact b1'.new b hb
    · exact b2'.new b hb
end Go.Proofs.Ytkdnddckogbgaaa
