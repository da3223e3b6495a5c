/- DiskRead: what it says; filled and l03Full by contract. -/
import Derived.Test.YtphabdjhmahemaaDN
import Derived.Laws.CopyOwn
namespace Go.Proofs.Ytphabdjhmahemaa
open Go.RowKit Go.Deep
set_option linter.unusedVariables false
set_option maxRecDepth 10000

/-- The last of the writes at a place. -/
def lastD : List (Int × List UInt8) → Int → Option (List UInt8)
  | [], _ => none
  | x :: t, i => (lastD t i).or (if x.1 = i then some x.2 else none)
theorem lastD_append : ∀ (A B : List (Int × List UInt8)) (i : Int), lastD (A ++ B) i = (lastD B i).or (lastD A i)
  | [], B, i => by simp [lastD]
  | x :: A, B, i => by
    simp only [List.cons_append, lastD, lastD_append A B i]
    cases lastD B i <;> cases lastD A i <;> simp
def fullL (L : List UInt8) : List UInt8 := if L = [] then List.replicate 128 0 else L
def fillL (L : List UInt8) : List UInt8 := L.take 128 ++ List.replicate (128 - L.length) 0
theorem fill_full {L : List UInt8} (h : L.length = 0 ∨ L.length = 128) : fillL L = fullL L := by
  unfold fillL fullL
  rcases h with h | h
  · have : L = [] := List.length_eq_zero_iff.1 h
    subst this; simp
  · have hne : L ≠ [] := fun e => by rw [e] at h; simp at h
    rw [if_neg hne, List.take_of_length_le (by omega), h]; simp
theorem fillL_len (L : List UInt8) : (fillL L).length = 128 := by simp [fillL]; omega
def readB (m : DkM) (i : Int) : Bool := dokM m && (decide (0 ≤ i) && decide (i < m.cells.length))
def readL (m : DkM) (i : Int) : List UInt8 := if readB m i = true then (lastD m.dirty i).getD (fullL (m.cells.getD i.toNat [])) else []
theorem dokM_cell {m : DkM} (h : dokM m = true) {L : List UInt8} (hL : L ∈ m.cells) : L.length = 0 ∨ L.length = 128 := by
  simp only [dokM, Bool.and_eq_true, List.all_eq_true, Bool.or_eq_true, decide_eq_true_eq] at h
  exact h.1.2 L hL
theorem dokM_dirty {m : DkM} (h : dokM m = true) {x : Int × List UInt8} (hx : x ∈ m.dirty) : 0 ≤ x.1 ∧ x.1 < m.cells.length ∧ x.2.length = 128 := by
  simp only [dokM, Bool.and_eq_true, List.all_eq_true, decide_eq_true_eq] at h
  have := h.2 x hx
  exact ⟨this.1.1, this.1.2, this.2⟩
theorem dokM_len {m : DkM} (h : dokM m = true) : 1 ≤ m.cells.length ∧ m.cells.length ≤ 600 ∧ m.dirty.length ≤ 600 := by
  simp only [dokM, Bool.and_eq_true, decide_eq_true_eq] at h
  exact ⟨h.1.1.1.1, h.1.1.1.2, h.1.1.2⟩
theorem lastD_mem : ∀ (D : List (Int × List UInt8)) (i : Int) {L : List UInt8}, lastD D i = some L → ∃ x ∈ D, x.2 = L
  | [], _, _, h => by simp [lastD] at h
  | x :: t, i, L, h => by
    simp only [lastD] at h
    cases ht : lastD t i with
    | some L' =>
      rw [ht] at h
      obtain ⟨y, hy, e⟩ := lastD_mem t i ht
      exact ⟨y, List.mem_cons_of_mem _ hy, by rw [e]; simpa using h⟩
    | none =>
      rw [ht] at h
      by_cases e : x.1 = i
      · simp [e] at h; exact ⟨x, List.mem_cons_self .., h⟩
      · simp [e] at h
theorem readL_len (m : DkM) (i : Int) : (readL m i).length ≤ 128 := by
  unfold readL
  split
  · rename_i h
    have hd : dokM m = true := by unfold readB at h; exact (Bool.and_eq_true_iff.1 h).1
    have hi : 0 ≤ i ∧ i < m.cells.length := by unfold readB at h; have := (Bool.and_eq_true_iff.1 h).2; simpa using this
    cases hl : lastD m.dirty i with
    | some L =>
      obtain ⟨x, hx, rfl⟩ := lastD_mem _ _ hl
      have := (dokM_dirty hd hx).2.2
      simp [this]
    | none =>
      have hm : m.cells.getD i.toNat [] ∈ m.cells := by
        rw [List.getD_eq_getElem?_getD, List.getElem?_eq_getElem (show i.toNat < m.cells.length by omega)]; exact List.getElem_mem _
      have := dokM_cell hd hm
      simp only [Option.getD_none]
      generalize m.cells.getD i.toNat [] = L at *
      unfold fullL
      split
      · simp
      · omega
  · simp
def ReadPost (w : World) (m : DkM) (i : Int) (x : Ending) (w' : World) : Prop := ∃ v, x = .returned (.tuple #[v, .bool (readB m i)]) ∧ OwnsB w' w.heap.size v (readL m i) ∧ Keeps w w'
theorem ReadPost.no {w w' : World} {m : DkM} {i : Int} (h : readB m i = false) (hk : Keeps w w') : ReadPost w m i (.returned (.tuple #[.slice none 0 0, .bool false])) w' :=
  ⟨_, by rw [h], by unfold readL; rw [h]; exact OwnsB.nil _ _, hk⟩
theorem ReadPost.yes {w w' : World} {m : DkM} {i : Int} {v : Value} {L : List UInt8} (h : readB m i = true) (hl : (lastD m.dirty i).getD (fullL (m.cells.getD i.toNat [])) = L) (ho : OwnsB w' w.heap.size v L) (hk : Keeps w w') : ReadPost w m i (.returned (.tuple #[v, .bool true])) w' :=
  ⟨_, by rw [h], by unfold readL; rw [if_pos h, hl]; exact ho, hk⟩

theorem make_128 (w : World) : (Instr.makeSlice 26 (.int .i64 128) (.int .i64 128)).run Try.prog w = .ok (.slice (some ⟨w.heap.size, 0, none⟩) 128 128) (w.alloc (.cells (madeCells #[.int .u8 0] 128) 5)) := make_bytes 128 (by decide) w
theorem made_zeros (n : Nat) : madeCells #[Value.int .u8 0] n = (bys (List.replicate n 0)).toArray := by
  apply Array.ext'
  apply List.ext_getElem?
  intro i
  by_cases h : i < n
  · simp [madeCells, bys, byV, h, Nat.mod_one]
  · simp [madeCells, bys, byV, h]
theorem size_byte : (Try.prog.info? 5).map (·.size) = some 1 := by kernel_rfl
theorem bys_take (L : List UInt8) (n : Nat) : bys (L.take n) = (bys L).take n := by simp [bys]
theorem src_at {w : World} {p : Addr} {L : List UInt8} (hc : Cells w (some p) (bys L)) : ∀ j v, (bys L)[j]? = some v → w.cell? (p.add j) = some v := by
  intro j v hj
  rcases hc with h | ⟨b, off, e, h⟩
  · rw [h] at hj; simp at hj
  · obtain rfl := Option.some.inj e
    obtain ⟨hj', e'⟩ := List.getElem?_eq_some_iff.1 hj
    rw [add_at, h j hj', e']
/-- copy into a row of one's own from its first cell on. -/
theorem splice_zero (cur cs : List Value) : splice cur 0 cs = cs ++ cur.drop cs.length := by simp [splice]
theorem splice_fill (L : List UInt8) : splice (bys (List.replicate 128 0)) 0 (bys (L.take 128)) = bys (fillL L) := by
  rw [splice_zero]
  unfold fillL
  rw [bys_append, bys_length]
  congr 1
  simp only [bys, List.map_replicate, List.drop_replicate, List.length_take]
  congr 1
  omega
theorem own_row {w : World} {base g n : Nat} {L : List UInt8} (hb : base ≤ g) (hl : L.length = n) (hg : w.heap[g]? = some (.cells (bys L).toArray 5 (0, 0))) (hn : n ≤ 1048576 := by decide) : OwnsB w base (.slice (some ⟨g, 0, none⟩) n n) L := by
  subst hl
  refine ⟨by rw [bys_length]; simp, .inr ⟨g, L.length, _, rfl, hb, hg, Nat.le_refl _, by simp only [maxLen]; omega, by simp [bys_length], ?_⟩⟩
  simp only [Nat.mul_one]
  rw [List.take_of_length_le (by rw [bys_length]; exact Nat.le_refl _)]
end Go.Proofs.Ytphabdjhmahemaa
