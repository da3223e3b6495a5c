/- DiskRead: what it says; filled and l03Full by contract. -/
import Derived.Test.YtkdnddckogbgaaaDoorDN
import Derived.Laws.CopyOwn
namespace Go.Proofs.YtkdnddckogbgaaaDoor
open Go.RowKit Go.Deep
set_option linter.unusedVariables false
set_option maxRecDepth 10000

/-- The last of the writes at a place. -/
def lastD : List (Int × List UInt8) → Int → Option (List UInt8)
  | [], _ => none
  | x :: t, i => (lastD t i).or (if x.1 = i then some x.2 else none)
theorem lastD_append : ∀ (A B : List (Int × List UInt8)) (i : Int), lastD (A ++ B) i = (lastD B i).or (lastD A i)
  | [], B, i => by simp [lastD]
  | x :: A, B, i => by
    simp only [List.cons_append, lastD, lastD_append A B i]
    cases lastD B i <;> cases lastD A i <;> simp
def fullL (L : List UInt8) : List UInt8 := if L = [] then List.replicate 128 0 else L
def fillL (L : List UInt8) : List UInt8 := L.take 128 ++ List.replicate (128 - L.length) 0
theorem fill_full {L : List UInt8} (h : L.length = 0 ∨ L.length = 128) : fillL L = fullL L := by
  unfold fillL fullL
  rcases h with h | h
  · have : L = [] := List.length_eq_zero_iff.1 h
    subst this; simp
  · have hne : L ≠ [] := fun e => by rw [e] at h; simp at h
    rw [if_neg hne, List.take_of_length_le (by omega), h]; simp
theorem fillL_len (L : List UInt8) : (fillL L).length = 128 := by simp [fillL]; omega
def readB (m : DkM) (i : Int) : Bool := dokM m && (decide (0 ≤ i) && decide (i < m.cells.length))
def readL (m : DkM) (i : Int) : List UInt8 := if readB m i = true then (lastD m.dirty i).getD (fullL (m.cells.getD i.toNat [])) else []
theorem dokM_cell {m : DkM} (h : dokM m = true) {L : List UInt8} (hL : L ∈ m.cells) : L.length = 0 ∨ L.length = 128 := by
  simp only [dokM, Bool.and_eq_true, List.all_eq_true, Bool.or_eq_true, decide_eq_true_eq] at h
  exact h.1.2 L hL
theorem dokM_dirty {m : DkM} (h : dokM m = true) {x : Int × List UInt8} (hx : x ∈ m.dirty) : 0 ≤ x.1 ∧ x.1 < m.cells.length ∧ x.2.length = 128 := by
  simp only [dokM, Bool.and_eq_true, List.all_eq_true, decide_eq_true_eq] at h
  have := h.2 x hx
  exact ⟨this.1.1, this.1.2, this.2⟩
theorem dokM_len {m : DkM} (h : dokM m = true) : 1 ≤ m.cells.length ∧ m.cells.length ≤ 600 ∧ m.dirty.length ≤ 600 := by
  simp only [dokM, Bool.and_eq_true, decide_eq_true_eq] at h
  exact ⟨h.1.1.1.1, h.1.1.1.2, h.1.1.2⟩
theorem lastD_mem : ∀ (D : List (Int × List UInt8)) (i : Int) {L : List UInt8}, lastD D i = some L → ∃ x ∈ D, x.2 = L
  | [], _, _, h => by simp [lastD] at h
  | x :: t, i, L, h => by
    simp only [lastD] at h
    cases ht : lastD t i with
    | some L' =>
      rw [ht] at h
      obtain ⟨y, hy, e⟩ := lastD_mem t i ht
      exact ⟨y, List.mem_cons_of_mem _ hy, by rw [e]; simpa using h⟩
    | none =>
      rw [ht] at h
      by_cases e : x.1 = i
      · simp [e] at h; exact ⟨x, List.mem_cons_self .., h⟩
      · simp [e] at h
theorem readL_len (m : DkM) (i : Int) : (readL m i).length ≤ 128 := by
  unfold readL
  split
  · rename_i h
    have hd : dokM m = true := by unfold readB at h; exact (Bool.and_eq_true_iff.1 h).1
    have hi : 0 ≤ i ∧ i < m.cells.length := by unfold readB at h; have := (Bool.and_eq_true_iff.1 h).2; simpa using this
    cases hl : lastD m.dirty i with
    | some L =>
      obtain ⟨x, hx, rfl⟩ := lastD_mem _ _ hl
      have := (dokM_dirty hd hx).2.2
      simp [this]
    | none =>
      have hm : m.cells.getD i.toNat [] ∈ m.cells := by
        rw [List.getD_eq_getElem?_getD, List.getElem?_eq_getElem (show i.toNat < m.cells.length by omega)]; exact List.getElem_mem _
      have := dokM_cell hd hm
      simp only [Option.getD_none]
      generalize m.cells.getD i.toNat [] = L at *
      unfold fullL
      split
      · simp
      · omega
  · simp
def ReadPost (w : World) (m : DkM) (i : Int) (x : Ending) (w' : World) : Prop := ∃ v, x = .returned (.tuple #[v, .bool (readB m i)]) ∧ OwnsB w' w.heap.size v (readL m i) ∧ Keeps w w'
theorem ReadPost.no {w w' : World} {m : DkM} {i : Int} (h : readB m i = false) (hk : Keeps w w') : ReadPost w m i (.returned (.tuple #[.slice none 0 0, .bool false])) w' :=
  ⟨_, by rw [h], by unfold readL; rw [h]; exact OwnsB.nil _ _, hk⟩
theorem ReadPost.yes {w w' : World} {m : DkM} {i : Int} {v : Value} {L : List UInt8} (h : readB m i = true) (hl : (lastD m.dirty i).getD (fullL (m.cells.getD i.toNat [])) = L) (ho : OwnsB w' w.heap.size v L) (hk : Keeps w w') : ReadPost w m i (.returned (.tuple #[v, .bool true])) w' :=
  ⟨_, by rw [h], by unfold readL; rw [if_pos h, hl]; exact ho, hk⟩

theorem make_128 (w : World) : (Instr.makeSlice 48 (.int .i64 128) (.int .i64 128)).run Tryd.prog w = .ok (.slice (some ⟨w.heap.size, 0, none⟩) 128 128) (w.alloc (.cells (madeCells #[.int .u8 0] 128) 5)) := make_bytes 128 (by decide) w
theorem made_zeros (n : Nat) : madeCells #[Value.int .u8 0] n = (bys (List.replicate n 0)).toArray := by
  apply Array.ext'
  apply List.ext_getElem?
  intro i
  by_cases h : i < n
  · simp [madeCells, bys, byV, h, Nat.mod_one]
  · simp [madeCells, bys, byV, h]
theorem size_byte : (Tryd.prog.info? 5).map (·.size) = some 1 := by kernel_rfl
theorem bys_take (L : List UInt8) (n : Nat) : bys (L.take n) = (bys L).take n := by simp [bys]
theorem src_at {w : World} {p : Addr} {L : List UInt8} (hc : Cells w (some p) (bys L)) : ∀ j v, (bys L)[j]? = some v → w.cell? (p.add j) = some v := by
  intro j v hj
  rcases hc with h | ⟨b, off, e, h⟩
  · rw [h] at hj; simp at hj
  · obtain rfl := Option.some.inj e
    obtain ⟨hj', e'⟩ := List.getElem?_eq_some_iff.1 hj
    rw [add_at, h j hj', e']
/-- copy into a row of one's own from its first cell on. -/
theorem splice_zero (cur cs : List Value) : splice cur 0 cs = cs ++ cur.drop cs.length := by simp [splice]
theorem splice_fill (L : List UInt8) : splice (bys (List.replicate 128 0)) 0 (bys (L.take 128)) = bys (fillL L) := by
  rw [splice_zero]
  unfold fillL
  rw [bys_append, bys_length]
  congr 1
  simp only [bys, List.map_replicate, List.drop_replicate, List.length_take]
  congr 1
  omega
theorem own_row {w : World} {base g n : Nat} {L : List UInt8} (hb : base ≤ g) (hl : L.length = n) (hg : w.heap[g]? = some (.cells (bys L).toArray 5 (0, 0))) (hn : n ≤ 1048576 := by decide) : OwnsB w base (.slice (some ⟨g, 0, none⟩) n n) L := by
  subst hl
  refine ⟨by rw [bys_length]; simp, .inr ⟨g, L.length, _, rfl, hb, hg, Nat.le_refl _, by simp only [maxLen]; omega, by simp [bys_length], ?_⟩⟩
  simp only [Nat.mul_one]
  rw [List.take_of_length_le (by rw [bys_length]; exact Nat.le_refl _)]
set_option maxHeartbeats 1000000 in
theorem filled_k (a : Option Addr) (cap : Nat) (L : List UInt8) (w : World) (hc : Cells w a (bys L)) (hl : L.length ≤ 4194304) :
    Calls Tryd.prog 67 #[.slice a L.length cap] w fun e w' => ∃ v, e = .returned v ∧ OwnsB w' w.heap.size v (fillL L) ∧ Keeps w w' := by
  have hmk := make_128
  have HKA := hide (Keeps.alloc (Keeps.refl w) (.cells (madeCells #[.int .u8 0] 128) 5))
  have HC := hide (hc.kept HKA.out)
  have HB : Hid ((w.alloc (.cells (madeCells #[.int .u8 0] 128) 5)).heap[w.heap.size]? = some (.cells (bys (List.replicate 128 0)).toArray 5 (0, 0))) := by
    show _ = _
    rw [← made_zeros]; exact blk_alloc_new w _
  have HL : Hid ((bys (L.take 128)).length = Nat.min L.length 128) := by show _ = _; rw [bys_length, List.length_take, Nat.min_comm]
  have HP : Hid (0 < (bys (L.take 128)).length → some (⟨w.heap.size, 0, none⟩ : Addr) = some ⟨w.heap.size, 0, none⟩ ∧ ∃ ad, a = some ad ∧ ∀ j v, (bys (L.take 128))[j]? = some v → (w.alloc (.cells (madeCells #[.int .u8 0] 128) 5)).cell? (ad.add j) = some v) := by
    intro hp
    refine ⟨rfl, ?_⟩
    have hc' := HC.out
    rcases hc' with h | ⟨b, off, e, h⟩
    · rw [bys_nil] at h; subst h; simp [bys] at hp
    · refine ⟨_, e, fun j v hj => src_at (HC.out.elim (fun h => by rw [bys_nil] at h; subst h; simp [bys] at hp) (fun _ => by rw [← e]; exact HC.out)) j v ?_⟩
      rw [bys_take] at hj
      rw [List.getElem?_take] at hj
      split at hj
      · exact hj
      · cases hj
  have HF : Hid (0 + (bys (L.take 128)).length ≤ (bys (List.replicate 128 (0 : UInt8))).length) := by show _ ≤ _; rw [HL.out, bys_length, List.length_replicate, Nat.zero_add]; exact Nat.min_le_right _ _
  clear hc hl
  go_enter Tryd.func67, Tryd.ntmps67
  go_wp2_with (refine wpList_copy_splice (by rfl) (.tmp 5) (.tmp 6) 48 48 (by rfl) 5 underBytes size_byte (some ⟨w.heap.size, 0, none⟩) a 128 128 L.length cap (by rfl) (by rfl) w.heap.size 0 (bys (List.replicate 128 0)) 5 HB.out (bys (L.take 128)) HL.out HP.out HF.out (fun v hv => one_cells hv) w.heap.size w HKA.out (Nat.le_refl _) ?_; intro w1 hg hb)
  go_ret
  have hg' := hg.out
  rw [splice_fill] at hg'
  refine ⟨.slice (some ⟨w.heap.size, 0, none⟩) 128 128, rfl, own_row (Nat.le_refl _) (fillL_len L) hg', hb⟩
set_option maxHeartbeats 1000000 in
theorem full_k (a : Option Addr) (cap : Nat) (L : List UInt8) (w : World) (hc : Cells w a (bys L)) (hn : a = none → cap = 0) (hl : L.length ≤ 2097152) :
    Calls Tryd.prog 43 #[.slice a L.length cap] w fun e w' => ∃ v, e = .returned v ∧ OwnsB w' w.heap.size v (fullL L) ∧ Keeps w w' := by
  by_cases h0 : L = []
  · subst h0
    have hmk := make_128
    have HKA := hide (Keeps.alloc (Keeps.refl w) (.cells (madeCells #[.int .u8 0] 128) 5))
    have HB : Hid ((w.alloc (.cells (madeCells #[.int .u8 0] 128) 5)).heap[w.heap.size]? = some (.cells (bys (List.replicate 128 0)).toArray 5 (0, 0))) := by
      show _ = _
      rw [← made_zeros]; exact blk_alloc_new w _
    clear hc hn hl
    go_enter Tryd.func43, Tryd.ntmps43
    go_wp2_with fail
    go_ret
    exact ⟨.slice (some ⟨w.heap.size, 0, none⟩) 128 128, rfl, own_row (Nat.le_refl _) (by simp [fullL]) HB.out, HKA.out⟩
  · have hne : ((L.length : Int) == 0) = false := by
      rw [beq_eq_false_iff_ne]
      intro e
      exact h0 (List.length_eq_zero_iff.1 (by omega))
    have HF : Hid (fullL L = L) := if_neg h0
    have HC := hide (hc.kept (Keeps.alloc (Keeps.refl w) (.cells #[] 5)))
    have HO := hide (World.ownsRow_made (base := w.heap.size) (e := 5) (size := 1) w #[] 0 (Nat.le_refl _) (by decide) rfl)
    have HH := hide hn
    have HL : Hid (([] : List UInt8).length + L.length ≤ 4194304) := by show _ ≤ _; simp; omega
    clear hc hn hl h0
    go_enter Tryd.func43, Tryd.ntmps43
    go_wp2_with (at_builtin; refine app_bys rfl (.tmp 7) (.tmp 8) rfl w.heap.size _ [] L rfl a cap rfl HC.out HH.out HO.out HL.out (by simp) ?_; intro v' w' ho hg)
    go_ret
    refine ⟨_, rfl, by rw [HF.out]; simpa using ho, ?_⟩
    exact Keeps.grown (Keeps.alloc (Keeps.refl w) _) hg (fun k hk => (HO.out.lt k hk).1)
end Go.Proofs.YtkdnddckogbgaaaDoor
