/- Texts of the verifier, joined: DN, DR, Cpy, CpC, DC. -/
import Derived.Test.YtkdnddckogbgaaaGreatDoorFO2
import Derived.Laws.CopyOwn
import Derived.Maps.AppendAt
import Derived.Lib.AppendZeros
namespace Go.Proofs.YtkdnddckogbgaaaGreatDoor
open Go.RowKit Go.Deep
set_option linter.unusedVariables false
set_option maxRecDepth 10000

def noneM : DkM := ⟨[], []⟩
def newB (n : Int) : Bool := decide (1 ≤ n) && decide (n ≤ 600)
def newM (n : Int) : DkM := if newB n = true then ⟨List.replicate n.toNat [], []⟩ else noneM
theorem diskres_none (w w' : World) : DiskRes w w' (dskV none 0 0 none 0 0) noneM := by
  refine ⟨.none, 0, [], .none, 0, [], rfl, rfl, ⟨by simp, by simp, by simp [tot], by simp [totW], by simp, by simp⟩, fun _ => rfl, fun _ => rfl, ⟨⟨?_, ?_, ?_⟩, ?_⟩⟩
  · intro s hs
    simp [dsk, ccells, wcells] at hs
    subst hs
    exact Cells.nil _ _
  · simp [dsk, ccells, wcells, fp, fpS]
  · intro b hb
    simp [dsk, ccells, wcells, fp, fpS] at hb
  · intro b hb
    simp [dsk, ccells, wcells, fp, fpS] at hb
theorem fp_empties (n : Nat) : fp ((List.replicate n (Bs.mk none 0 [])).map Bs.seg) = [] := by
  induction n with
  | zero => rfl
  | succ n ih => rw [List.replicate_succ, List.map_cons, fp_cons, ih]; simp [Bs.seg, bys, fpS]
theorem ccells_empties (n : Nat) : ccells (List.replicate n (Bs.mk none 0 [])) = List.replicate n (.slice none 0 0) := by
  induction n with
  | zero => rfl
  | succ n ih => rw [List.replicate_succ, List.replicate_succ, ← ih]; rfl
theorem diskres_new {w W w' : World} {n : Nat} (h1 : 1 ≤ n) (h2 : n ≤ 600) (hr : w'.rowIs W.heap.size 93 n (fun _ => .slice none 0 0)) (hW : w.heap.size ≤ W.heap.size) : DiskRes w w' (dskV (some ⟨W.heap.size, 0, none⟩) n n none 0 0) ⟨List.replicate n [], []⟩ := by
  have hcc := ccells_empties n
  have hfp : fp (dsk (some ⟨W.heap.size, 0, none⟩) (List.replicate n (Bs.mk none 0 [])) none []) = [W.heap.size] := by
    unfold dsk
    rw [fp_append, fp_cons, fp_empties, hcc, fpS_some (by intro e; have := congrArg List.length e; simp at this; omega)]
    simp [wcells, fp, fpS]
  refine ⟨some ⟨W.heap.size, 0, none⟩, n, List.replicate n (Bs.mk none 0 []), none, 0, [], by simp, ?_, ⟨by simp; omega, by simp, ?_, by simp [totW], ?_, by simp⟩, (fun e => nomatch e), fun _ => rfl, ⟨⟨?_, ?_, ?_⟩, ?_⟩⟩
  · simp [dat]
  · simp [tot]
  · intro b hb
    rw [(List.mem_replicate.1 hb).2]; exact ⟨fun _ => rfl, Nat.le_refl _⟩
  · unfold dsk
    refine mem_append.2 ⟨mem_cons.2 ⟨?_, ?_⟩, mem_cons.2 ⟨Cells.nil _ _, Mem.nil _⟩⟩
    · rw [hcc]
      refine Or.inr ⟨W.heap.size, 0, rfl, fun j hj => ?_⟩
      have hj' : j < n := by simpa using hj
      rw [Nat.zero_add, hr.cell hj']
      simp
    · intro s hs
      obtain ⟨b, hb, rfl⟩ := List.mem_map.1 hs
      rw [(List.mem_replicate.1 hb).2]
      exact Cells.nil _ _
  · rw [hfp]; simp
  · rw [hfp]; intro b hb; simp at hb; subst hb; exact hr.frozen
  · rw [hfp]; intro b hb; simp at hb; subst hb; exact hW
set_option maxHeartbeats 1000000 in
theorem disknew_spec (n : Int) (w : World) : Calls Tryz.prog 86 #[.int .i64 n] w fun e w' => ∃ v, e = .returned (.tuple #[v, .bool (newB n)]) ∧ DiskRes w w' v (newM n) ∧ Keeps w w' := by
  by_cases h1 : n < 1
  · have H : Hid (newB n = false) := by show _ = _; simp [newB]; omega
    go_enter Tryz.func86, Tryz.ntmps86
    go_wp2_with fail
    refine bodyPost_ret (v := .tuple #[dskV none 0 0 none 0 0, .bool false]) (by simp [results, Tryz.results86, go_sem]) rfl ⟨_, by rw [H.out], ?_, Keeps.alloc (Keeps.refl _) _⟩
    unfold newM
    rw [H.out]
    exact diskres_none _ _
  · by_cases h2 : 600 < n
    · have H : Hid (newB n = false) := by show _ = _; simp [newB]; omega
      go_enter Tryz.func86, Tryz.ntmps86
      go_wp2_with fail
      refine bodyPost_ret (v := .tuple #[dskV none 0 0 none 0 0, .bool false]) (by simp [results, Tryz.results86, go_sem]) rfl ⟨_, by rw [H.out], ?_, Keeps.alloc (Keeps.refl _) _⟩
      unfold newM
      rw [H.out]
      exact diskres_none _ _
    · have H : Hid (newB n = true) := by show _ = _; simp [newB]; omega
      obtain ⟨m, rfl⟩ : ∃ m : Nat, n = m := ⟨n.toNat, by omega⟩
      have hmk := make_cells m (by omega)
      go_enter Tryz.func86, Tryz.ntmps86
      go_wp2_with fail
      refine bodyPost_ret (v := .tuple #[dskV (some ⟨w.heap.size + 1, 0, none⟩) m m none 0 0, .bool true]) (by simp [results, Tryz.results86, go_sem]) rfl ⟨_, by rw [H.out], ?_, Keeps.alloc (Keeps.alloc (Keeps.refl _) _) _⟩
      unfold newM
      rw [if_pos H.out, Int.toNat_natCast]
      have h := diskres_new (w := w) (n := m) (by omega) (by omega) (World.rowIs_made (w.alloc (.cells #[.slice (some ⟨w.heap.size + 1, 0, none⟩) m m, .slice none 0 0] 26)) (.slice none 0 0) m 93) (by simp)
      rw [World.size_alloc] at h
      exact h
end Go.Proofs.YtkdnddckogbgaaaGreatDoor
namespace Go.Proofs.YtkdnddckogbgaaaGreatDoor
open Go.RowKit Go.Deep
set_option linter.unusedVariables false
set_option maxRecDepth 10000

/-- The last of the writes at a place. -/
def lastD : List (Int × List UInt8) → Int → Option (List UInt8)
  | [], _ => none
  | x :: t, i => (lastD t i).or (if x.1 = i then some x.2 else none)
theorem lastD_append : ∀ (A B : List (Int × List UInt8)) (i : Int), lastD (A ++ B) i = (lastD B i).or (lastD A i)
  | [], B, i => by simp [lastD]
  | x :: A, B, i => by
    simp only [List.cons_append, lastD, lastD_append A B i]
    cases lastD B i <;> cases lastD A i <;> simp
def fullL (L : List UInt8) : List UInt8 := if L = [] then List.replicate 128 0 else L
def fillL (L : List UInt8) : List UInt8 := L.take 128 ++ List.replicate (128 - L.length) 0
theorem fill_full {L : List UInt8} (h : L.length = 0 ∨ L.length = 128) : fillL L = fullL L := by
  unfold fillL fullL
  rcases h with h | h
  · have : L = [] := List.length_eq_zero_iff.1 h
    subst this; simp
  · have hne : L ≠ [] := fun e => by rw [e] at h; simp at h
    rw [if_neg hne, List.take_of_length_le (by omega), h]; simp
theorem fillL_len (L : List UInt8) : (fillL L).length = 128 := by simp [fillL]; omega
def readB (m : DkM) (i : Int) : Bool := dokM m && (decide (0 ≤ i) && decide (i < m.cells.length))
def readL (m : DkM) (i : Int) : List UInt8 := if readB m i = true then (lastD m.dirty i).getD (fullL (m.cells.getD i.toNat [])) else []
theorem dokM_cell {m : DkM} (h : dokM m = true) {L : List UInt8} (hL : L ∈ m.cells) : L.length = 0 ∨ L.length = 128 := by
  simp only [dokM, Bool.and_eq_true, List.all_eq_true, Bool.or_eq_true, decide_eq_true_eq] at h
  exact h.1.2 L hL
theorem dokM_dirty {m : DkM} (h : dokM m = true) {x : Int × List UInt8} (hx : x ∈ m.dirty) : 0 ≤ x.1 ∧ x.1 < m.cells.length ∧ x.2.length = 128 := by
  simp only [dokM, Bool.and_eq_true, List.all_eq_true, decide_eq_true_eq] at h
  have := h.2 x hx
  exact ⟨this.1.1, this.1.2, this.2⟩
theorem dokM_len {m : DkM} (h : dokM m = true) : 1 ≤ m.cells.length ∧ m.cells.length ≤ 600 ∧ m.dirty.length ≤ 600 := by
  simp only [dokM, Bool.and_eq_true, decide_eq_true_eq] at h
  exact ⟨h.1.1.1.1, h.1.1.1.2, h.1.1.2⟩
theorem lastD_mem : ∀ (D : List (Int × List UInt8)) (i : Int) {L : List UInt8}, lastD D i = some L → ∃ x ∈ D, x.2 = L
  | [], _, _, h => by simp [lastD] at h
  | x :: t, i, L, h => by
    simp only [lastD] at h
    cases ht : lastD t i with
    | some L' =>
      rw [ht] at h
      obtain ⟨y, hy, e⟩ := lastD_mem t i ht
      exact ⟨y, List.mem_cons_of_mem _ hy, by rw [e]; simpa using h⟩
    | none =>
      rw [ht] at h
      by_cases e : x.1 = i
      · simp [e] at h; exact ⟨x, List.mem_cons_self .., h⟩
      · simp [e] at h
theorem readL_len (m : DkM) (i : Int) : (readL m i).length ≤ 128 := by
  unfold readL
  split
  · rename_i h
    have hd : dokM m = true := by unfold readB at h; exact (Bool.and_eq_true_iff.1 h).1
    have hi : 0 ≤ i ∧ i < m.cells.length := by unfold readB at h; have := (Bool.and_eq_true_iff.1 h).2; simpa using this
    cases hl : lastD m.dirty i with
    | some L =>
      obtain ⟨x, hx, rfl⟩ := lastD_mem _ _ hl
      have := (dokM_dirty hd hx).2.2
      simp [this]
    | none =>
      have hm : m.cells.getD i.toNat [] ∈ m.cells := by
        rw [List.getD_eq_getElem?_getD, List.getElem?_eq_getElem (show i.toNat < m.cells.length by omega)]; exact List.getElem_mem _
      have := dokM_cell hd hm
      simp only [Option.getD_none]
      generalize m.cells.getD i.toNat [] = L at *
      unfold fullL
      split
      · simp
      · omega
  · simp
def ReadPost (w : World) (m : DkM) (i : Int) (x : Ending) (w' : World) : Prop := ∃ v, x = .returned (.tuple #[v, .bool (readB m i)]) ∧ OwnsB w' w.heap.size v (readL m i) ∧ Keeps w w'
theorem ReadPost.no {w w' : World} {m : DkM} {i : Int} (h : readB m i = false) (hk : Keeps w w') : ReadPost w m i (.returned (.tuple #[.slice none 0 0, .bool false])) w' :=
  ⟨_, by rw [h], by unfold readL; rw [h]; exact OwnsB.nil _ _, hk⟩
theorem ReadPost.yes {w w' : World} {m : DkM} {i : Int} {v : Value} {L : List UInt8} (h : readB m i = true) (hl : (lastD m.dirty i).getD (fullL (m.cells.getD i.toNat [])) = L) (ho : OwnsB w' w.heap.size v L) (hk : Keeps w w') : ReadPost w m i (.returned (.tuple #[v, .bool true])) w' :=
  ⟨_, by rw [h], by unfold readL; rw [if_pos h, hl]; exact ho, hk⟩

theorem make_128 (w : World) : (Instr.makeSlice 22 (.int .i64 128) (.int .i64 128)).run Tryz.prog w = .ok (.slice (some ⟨w.heap.size, 0, none⟩) 128 128) (w.alloc (.cells (madeCells #[.int .u8 0] 128) 5)) := make_bytes 128 (by decide) w
theorem made_zeros (n : Nat) : madeCells #[Value.int .u8 0] n = (bys (List.replicate n 0)).toArray := by
  apply Array.ext'
  apply List.ext_getElem?
  intro i
  by_cases h : i < n
  · simp [madeCells, bys, byV, h, Nat.mod_one]
  · simp [madeCells, bys, byV, h]
theorem size_byte : (Tryz.prog.info? 5).map (·.size) = some 1 := by kernel_rfl
theorem bys_take (L : List UInt8) (n : Nat) : bys (L.take n) = (bys L).take n := by simp [bys]
theorem src_at {w : World} {p : Addr} {L : List UInt8} (hc : Cells w (some p) (bys L)) : ∀ j v, (bys L)[j]? = some v → w.cell? (p.add j) = some v := by
  intro j v hj
  rcases hc with h | ⟨b, off, e, h⟩
  · rw [h] at hj; simp at hj
  · obtain rfl := Option.some.inj e
    obtain ⟨hj', e'⟩ := List.getElem?_eq_some_iff.1 hj
    rw [add_at, h j hj', e']
/-- copy into a row of one's own from its first cell on. -/
theorem splice_zero (cur cs : List Value) : splice cur 0 cs = cs ++ cur.drop cs.length := by simp [splice]
theorem splice_fill (L : List UInt8) : splice (bys (List.replicate 128 0)) 0 (bys (L.take 128)) = bys (fillL L) := by
  rw [splice_zero]
  unfold fillL
  rw [bys_append, bys_length]
  congr 1
  simp only [bys, List.map_replicate, List.drop_replicate, List.length_take]
  congr 1
  omega
theorem own_row {w : World} {base g n : Nat} {L : List UInt8} (hb : base ≤ g) (hl : L.length = n) (hg : w.heap[g]? = some (.cells (bys L).toArray 5 (0, 0))) (hn : n ≤ 1048576 := by decide) : OwnsB w base (.slice (some ⟨g, 0, none⟩) n n) L := by
  subst hl
  refine ⟨by rw [bys_length]; simp, .inr ⟨g, L.length, _, rfl, hb, hg, Nat.le_refl _, by simp only [maxLen]; omega, by simp [bys_length], ?_⟩⟩
  simp only [Nat.mul_one]
  rw [List.take_of_length_le (by rw [bys_length]; exact Nat.le_refl _)]
set_option maxHeartbeats 1000000 in
theorem filled_k (a : Option Addr) (cap : Nat) (L : List UInt8) (w : World) (hc : Cells w a (bys L)) (hl : L.length ≤ 4194304) :
    Calls Tryz.prog 85 #[.slice a L.length cap] w fun e w' => ∃ v, e = .returned v ∧ OwnsB w' w.heap.size v (fillL L) ∧ Keeps w w' := by
  have hmk := make_128
  have HKA := hide (Keeps.alloc (Keeps.refl w) (.cells (madeCells #[.int .u8 0] 128) 5))
  have HC := hide (hc.kept HKA.out)
  have HB : Hid ((w.alloc (.cells (madeCells #[.int .u8 0] 128) 5)).heap[w.heap.size]? = some (.cells (bys (List.replicate 128 0)).toArray 5 (0, 0))) := by
    show _ = _
    rw [← made_zeros]; exact blk_alloc_new w _
  have HL : Hid ((bys (L.take 128)).length = Nat.min L.length 128) := by show _ = _; rw [bys_length, List.length_take, Nat.min_comm]
  have HP : Hid (0 < (bys (L.take 128)).length → some (⟨w.heap.size, 0, none⟩ : Addr) = some ⟨w.heap.size, 0, none⟩ ∧ ∃ ad, a = some ad ∧ ∀ j v, (bys (L.take 128))[j]? = some v → (w.alloc (.cells (madeCells #[.int .u8 0] 128) 5)).cell? (ad.add j) = some v) := by
    intro hp
    refine ⟨rfl, ?_⟩
    have hc' := HC.out
    rcases hc' with h | ⟨b, off, e, h⟩
    · rw [bys_nil] at h; subst h; simp [bys] at hp
    · refine ⟨_, e, fun j v hj => src_at (HC.out.elim (fun h => by rw [bys_nil] at h; subst h; simp [bys] at hp) (fun _ => by rw [← e]; exact HC.out)) j v ?_⟩
      rw [bys_take] at hj
      rw [List.getElem?_take] at hj
      split at hj
      · exact hj
      · cases hj
  have HF : Hid (0 + (bys (L.take 128)).length ≤ (bys (List.replicate 128 (0 : UInt8))).length) := by show _ ≤ _; rw [HL.out, bys_length, List.length_replicate, Nat.zero_add]; exact Nat.min_le_right _ _
  clear hc hl
  go_enter Tryz.func85, Tryz.ntmps85
  go_wp2_with (refine wpList_copy_splice (by rfl) (.tmp 5) (.tmp 6) 22 22 (by rfl) 5 underBytes size_byte (some ⟨w.heap.size, 0, none⟩) a 128 128 L.length cap (by rfl) (by rfl) w.heap.size 0 (bys (List.replicate 128 0)) 5 HB.out (bys (L.take 128)) HL.out HP.out HF.out (fun v hv => one_cells hv) w.heap.size w HKA.out (Nat.le_refl _) ?_; intro w1 hg hb)
  go_ret
  have hg' := hg.out
  rw [splice_fill] at hg'
  refine ⟨.slice (some ⟨w.heap.size, 0, none⟩) 128 128, rfl, own_row (Nat.le_refl _) (fillL_len L) hg', hb⟩
set_option maxHeartbeats 1000000 in
theorem full_k (a : Option Addr) (cap : Nat) (L : List UInt8) (w : World) (hc : Cells w a (bys L)) (hn : a = none → cap = 0) (hl : L.length ≤ 2097152) :
    Calls Tryz.prog 78 #[.slice a L.length cap] w fun e w' => ∃ v, e = .returned v ∧ OwnsB w' w.heap.size v (fullL L) ∧ Keeps w w' := by
  by_cases h0 : L = []
  · subst h0
    have hmk := make_128
    have HKA := hide (Keeps.alloc (Keeps.refl w) (.cells (madeCells #[.int .u8 0] 128) 5))
    have HB : Hid ((w.alloc (.cells (madeCells #[.int .u8 0] 128) 5)).heap[w.heap.size]? = some (.cells (bys (List.replicate 128 0)).toArray 5 (0, 0))) := by
      show _ = _
      rw [← made_zeros]; exact blk_alloc_new w _
    clear hc hn hl
    go_enter Tryz.func78, Tryz.ntmps78
    go_wp2_with fail
    go_ret
    exact ⟨.slice (some ⟨w.heap.size, 0, none⟩) 128 128, rfl, own_row (Nat.le_refl _) (by simp [fullL]) HB.out, HKA.out⟩
  · have hne : ((L.length : Int) == 0) = false := by
      rw [beq_eq_false_iff_ne]
      intro e
      exact h0 (List.length_eq_zero_iff.1 (by omega))
    have HF : Hid (fullL L = L) := if_neg h0
    have HC := hide (hc.kept (Keeps.alloc (Keeps.refl w) (.cells #[] 5)))
    have HO := hide (World.ownsRow_made (base := w.heap.size) (e := 5) (size := 1) w #[] 0 (Nat.le_refl _) (by decide) rfl)
    have HH := hide hn
    have HL : Hid (([] : List UInt8).length + L.length ≤ 4194304) := by show _ ≤ _; simp; omega
    clear hc hn hl h0
    go_enter Tryz.func78, Tryz.ntmps78
    go_wp2_with (at_builtin; refine app_bys rfl (.tmp 7) (.tmp 8) rfl w.heap.size _ [] L rfl a cap rfl HC.out HH.out HO.out HL.out (by simp) ?_; intro v' w' ho hg)
    go_ret
    refine ⟨_, rfl, by rw [HF.out]; simpa using ho, ?_⟩
    exact Keeps.grown (Keeps.alloc (Keeps.refl w) _) hg (fun k hk => (HO.out.lt k hk).1)
end Go.Proofs.YtkdnddckogbgaaaGreatDoor
namespace Go.Proofs.YtkdnddckogbgaaaGreatDoor
open Go.RowKit Go.Deep
set_option linter.unusedVariables false
set_option maxRecDepth 10000

/-- A list of structs while it is made: its row, the lists inside, no block shared. -/
structure LG {α : Type} (T : TypeId) (sz : Nat) (f : α → List Value) (sg : α → Seg) (w0 w : World) (v : Value) (nb : List α) : Prop where
  row : w.ownsRow w0.heap.size T sz v nb.length (nb.flatMap f)
  inner : Born w0 w (nb.map sg)
  apart : ∀ g, v.ownBlock = some g → g ∉ fp (nb.map sg)
  keeps : Keeps w0 w
section
variable {α : Type} {T : TypeId} {sz : Nat} {f : α → List Value} {sg : α → Seg} {w0 w w1 w2 : World} {v v' : Value} {nb : List α}
theorem owns_kept {base n : Nat} {e : TypeId} {xs : List Value} (hk : Keeps w w1) (h : w.ownsRow base e sz v n xs) : w1.ownsRow base e sz v n xs := by
  refine ⟨h.1, ?_⟩
  rcases h.2 with h' | ⟨g, cap, cur, rfl, hb, hg, rest⟩
  · exact .inl h'
  · refine .inr ⟨g, cap, cur, rfl, hb, ?_, rest⟩
    rw [Below.block hk g (Array.getElem?_eq_some_iff.1 hg).1]; exact hg
theorem LG.kept (h : LG T sz f sg w0 w v nb) (hk : Keeps w w1) : LG T sz f sg w0 w1 v nb :=
  ⟨owns_kept hk h.row, h.inner.kept hk, h.apart, h.keeps.trans hk⟩
theorem LG.snoc (h : LG T sz f sg w0 w v nb) (hk : Keeps w w1) {x : α} (hx : Own w1 [sg x]) (hn : ∀ b ∈ fp [sg x], w.heap.size ≤ b) {o : Obj} (hg : (w1.alloc o).grownBy w2 v.ownBlock)
    (hr : w2.ownsRow w0.heap.size T sz v' (nb.length + 1) (nb.flatMap f ++ f x)) (hv : v'.ownBlock = v.ownBlock ∨ v'.ownBlock = some (w1.alloc o).heap.size) : LG T sz f sg w0 w2 v' (nb ++ [x]) := by
  have hka : Keeps w1 (w1.alloc o) := Keeps.alloc (Keeps.refl _) _
  have hs : (w1.alloc o).heap.size = w1.heap.size + 1 := by rw [World.size_alloc]
  have hI := (h.inner.kept hk).kept hka
  have hX := hx.kept hka
  have ht : Turn v.ownBlock.toList (w1.alloc o) w2 := Turn.of_grown hg (fun k hk' => by rw [hk']; simp)
  have hrow : ∀ g, v.ownBlock = some g → w0.heap.size ≤ g ∧ g < w.heap.size := fun g hg' => h.row.lt g hg'
  have hIT : Born w0 w2 (nb.map sg) := hI.turn ht (fun b hb hb' => by
    have : v.ownBlock = some b := by simpa using hb'
    exact h.apart b this hb)
  have hXT : Own w2 [sg x] := hX.turn ht (fun b hb hb' => by
    have e : v.ownBlock = some b := by simpa using hb'
    have h1 := hrow b e
    have h2 := hn b hb
    omega)
  refine ⟨?_, ⟨?_, ?_⟩, ?_, ?_⟩
  · rw [List.length_append, List.flatMap_append, List.flatMap_singleton]; exact hr
  · rw [List.map_append]
    refine hIT.toOwn.append hXT (fun b hb hb' => ?_)
    have h1 := h.inner.mem.lt b hb
    have h2 := hn b hb'
    omega
  · intro b hb
    rw [List.map_append, fp_append] at hb
    rcases List.mem_append.1 hb with hb | hb
    · exact h.inner.new b hb
    · have h1 := hn b hb
      have h2 := h.keeps.size
      omega
  · intro g hg' hb
    rw [List.map_append, fp_append] at hb
    rcases hv with hv | hv
    · rw [hv] at hg'
      rcases List.mem_append.1 hb with hb | hb
      · exact h.apart g hg' hb
      · have h1 := hn g hb
        have h2 := hrow g hg'
        omega
    · rw [hv] at hg'
      have hg2 := Option.some.inj hg'
      rcases List.mem_append.1 hb with hb | hb
      · have h1 := h.inner.mem.lt g hb
        have h2 := hk.size
        omega
      · have h1 := hx.mem.lt g hb
        omega
  · exact Keeps.grown ((h.keeps.trans hk).trans hka) hg (fun g hg' => (hrow g hg').1)
end
/-- The list of cells is made. -/
theorem LG.cells {w0 w : World} {v : Value} {nb : List Bs} (h : LG 93 1 Bs.cells Bs.seg w0 w v nb) :
    ∃ (a : Option Addr) (cap : Nat), v = .slice a nb.length cap ∧ (a = none → cap = 0) ∧ Born w0 w ((a, ccells nb) :: nb.map Bs.seg) := by
  obtain ⟨a, cap, rfl, _, _, hn, ho, hb⟩ := Own.of_owns h.row
  refine ⟨a, cap, rfl, hn, ⟨Own.append (S := [_]) ho h.inner.toOwn (fun b hb1 hb2 => ?_), ?_⟩⟩
  · have : Value.ownBlock (.slice a nb.length cap) = some b := by
      rw [fp_one] at hb1
      unfold fpS at hb1
      split at hb1
      · simp at hb1
      · cases a with
        | none => simp at hb1
        | some p => simp at hb1; simp [Value.ownBlock, hb1]
    exact h.apart b this hb2
  · intro b hb'
    rw [fp_cons] at hb'
    rcases List.mem_append.1 hb' with hb' | hb'
    · exact hb b (by rw [fp_one]; exact hb')
    · exact h.inner.new b hb'
theorem LG.writes {w0 w : World} {v : Value} {nb : List Wr} (h : LG 86 2 Wr.cells Wr.seg w0 w v nb) :
    ∃ (a : Option Addr) (cap : Nat), v = .slice a nb.length cap ∧ (a = none → cap = 0) ∧ Born w0 w ((a, wcells nb) :: nb.map Wr.seg) := by
  obtain ⟨a, cap, rfl, _, _, hn, ho, hb⟩ := Own.of_owns h.row
  refine ⟨a, cap, rfl, hn, ⟨Own.append (S := [_]) ho h.inner.toOwn (fun b hb1 hb2 => ?_), ?_⟩⟩
  · have : Value.ownBlock (.slice a nb.length cap) = some b := by
      rw [fp_one] at hb1
      unfold fpS at hb1
      split at hb1
      · simp at hb1
      · cases a with
        | none => simp at hb1
        | some p => simp at hb1; simp [Value.ownBlock, hb1]
    exact h.apart b this hb2
  · intro b hb'
    rw [fp_cons] at hb'
    rcases List.mem_append.1 hb' with hb' | hb'
    · exact hb b (by rw [fp_one]; exact hb')
    · exact h.inner.new b hb'
theorem LG.nil {α : Type} (T : TypeId) (sz : Nat) (f : α → List Value) (sg : α → Seg) {w0 w : World} {v : Value} (h : w.ownsRow w0.heap.size T sz v 0 []) (hk : Keeps w0 w) : LG T sz f sg w0 w v [] :=
  ⟨h, Born.nil _ _, fun g _ hb => by simp [fp] at hb, hk⟩
/-- The run of an append of one struct. -/
theorem run_cell (w : World) (base : Nat) (v : Value) (n : Nat) (xs : List Value) (x : Value) (hx : x.oneCell' = true) (ty : TypeId) (h : w.ownsRow base 93 1 v n xs) (hn : n ≤ 1048576) (hb : base ≤ w.heap.size) :
    ∃ v' w', (Builtin.append_ #[23, 23] ty #[v, .slice (some ⟨w.heap.size, 0, none⟩) 1 1]).run Tryz.prog (w.alloc (.cells #[x] 93)) = .ok v' w' ∧ w'.ownsRow base 93 1 v' (n + 1) (xs ++ [x]) ∧ (w.alloc (.cells #[x] 93)).grownBy w' v.ownBlock ∧ (v'.ownBlock = v.ownBlock ∨ v'.ownBlock = some (w.alloc (.cells #[x] 93)).heap.size) := by
  have hI := infoCell
  cases hi : Tryz.prog.info? 93 with
  | none => rw [hi] at hI; simp at hI
  | some i =>
    rw [hi] at hI
    simp at hI
    obtain ⟨hz, hsz, hby⟩ := hI
    obtain ⟨v', w', h1, h2, h3, _, h5⟩ := run_append_own_at (P := Tryz.prog) (w.alloc (.cells #[x] 93)) base 23 ty 93 i _ 1 24 underCells hi hz hsz hby rfl (by decide) v n xs (h.alloc _) ⟨w.heap.size, 0, none⟩ 1 1 [x] rfl (cell_one_new w x _) (by intro u hu; rw [List.mem_singleton.1 hu]; exact hx) (by simp only [maxLen]; omega) (by omega) (by simp; omega)
    exact ⟨v', w', h1, h2, h3, h5⟩
theorem cell_two_new (w : World) (x y : Value) (t : TypeId) : ∀ j u, [x, y][j]? = some u → (w.alloc (.cells #[x, y] t)).cell? ((⟨w.heap.size, 0, none⟩ : Addr).add j) = some u := by
  intro j u hj
  match j, hj with
  | 0, hj => simp at hj; subst hj; simp [Addr.add]
  | 1, hj => simp at hj; subst hj; simp [Addr.add]
  | n + 2, hj => simp at hj
theorem run_write (w : World) (base : Nat) (v : Value) (n : Nat) (xs : List Value) (x y : Value) (hx : x.oneCell' = true) (hy : y.oneCell' = true) (ty : TypeId) (h : w.ownsRow base 86 2 v n xs) (hn : n ≤ 1048576) (hb : base ≤ w.heap.size) :
    ∃ v' w', (Builtin.append_ #[24, 24] ty #[v, .slice (some ⟨w.heap.size, 0, none⟩) 1 1]).run Tryz.prog (w.alloc (.cells #[x, y] 86)) = .ok v' w' ∧ w'.ownsRow base 86 2 v' (n + 1) (xs ++ [x, y]) ∧ (w.alloc (.cells #[x, y] 86)).grownBy w' v.ownBlock ∧ (v'.ownBlock = v.ownBlock ∨ v'.ownBlock = some (w.alloc (.cells #[x, y] 86)).heap.size) := by
  have hI := infoWrite
  cases hi : Tryz.prog.info? 86 with
  | none => rw [hi] at hI; simp at hI
  | some i =>
    rw [hi] at hI
    simp at hI
    obtain ⟨hz, hsz, hby⟩ := hI
    obtain ⟨v', w', h1, h2, h3, _, h5⟩ := run_append_own_at (P := Tryz.prog) (w.alloc (.cells #[x, y] 86)) base 24 ty 86 i _ 2 32 underWrites hi hz hsz hby rfl (by decide) v n xs (h.alloc _) ⟨w.heap.size, 0, none⟩ 1 1 [x, y] rfl (cell_two_new w x y _) (by intro u hu; simp at hu; rcases hu with rfl | rfl <;> assumption) (by simp only [maxLen]; omega) (by omega) (by simp; omega)
    exact ⟨v', w', h1, h2, h3, h5⟩
end Go.Proofs.YtkdnddckogbgaaaGreatDoor
namespace Go.Proofs.YtkdnddckogbgaaaGreatDoor
open Go.RowKit Go.Deep
set_option linter.unusedVariables false
set_option maxRecDepth 10000

theorem make_cells0 (n : Nat) (hn : n ≤ 1048576) (w : World) : (Instr.makeSlice 23 (.int .i64 0) (.int .i64 (n : Int))).run Tryz.prog w = .ok (.slice (some ⟨w.heap.size, 0, none⟩) 0 n) (w.alloc (.cells (madeCells #[.slice none 0 0] n) 93)) := by
  have hI := infoCell
  cases hi : Tryz.prog.info? 93 with
  | none => rw [hi] at hI; simp at hI
  | some i =>
    rw [hi] at hI
    simp at hI
    obtain ⟨hz, hs, hb⟩ := hI
    have h := run_make (P := Tryz.prog) w 23 93 i _ underCells hi hz .i64 .i64 0 n (by omega) (by omega) (by rw [hb]; omega) (by omega)
    rw [hs] at h
    simpa [Value.cells] using h
set_option maxHeartbeats 2000000 in
theorem copyCells_k (a : Option Addr) (cap : Nat) (cs : List Bs) (w : World) (hc : Cells w a (ccells cs)) (hm : Mem w (cs.map Bs.seg)) (hn : ∀ b ∈ cs, b.fit) (hl : cs.length ≤ 1048576) (ht : ∀ b ∈ cs, b.L.length ≤ 4194304) :
    Calls Tryz.prog 46 #[.slice a cs.length cap] w fun e w' => ∃ v nb, e = .returned v ∧ nb.map Bs.L = cs.map Bs.L ∧ (∀ b ∈ nb, b.fit) ∧ LG 93 1 Bs.cells Bs.seg w w' v nb := by
  have HC := hide hc
  have HM := hide hm
  have HN := hide hn
  have HT := hide ht
  clear hc hm hn ht
  have hmk := make_cells0 cs.length hl
  have HLG : Hid (LG 93 1 Bs.cells Bs.seg w (w.alloc (.cells (madeCells #[.slice none 0 0] cs.length) 93)) (.slice (some ⟨w.heap.size, 0, none⟩) 0 cs.length) []) :=
    LG.nil _ _ _ _ (World.ownsRow_made w _ _ (Nat.le_refl _) (by simp only [maxLen]; omega) (by rw [size_madeCells]; simp)) (Keeps.alloc (Keeps.refl _) _)
  go_enter Tryz.func46, Tryz.ntmps46
  go_wp2_with fail
  clear hmk
  generalize w.alloc (.cells (madeCells #[.slice none 0 0] cs.length) 93) = W0 at *
  go_loopw [3, 11] (fun x y wr => ∃ (k : Nat) (nb : List Bs), k ≤ cs.length ∧ nb.length = k ∧ y = .int .i64 (k : Int) ∧ Hid (nb.map Bs.L = (cs.take k).map Bs.L) ∧ Hid (∀ b ∈ nb, b.fit) ∧ Hid (LG 93 1 Bs.cells Bs.seg w wr x nb)) (fun _ y _ => cs.length - (intOf y).toNat)
  case atStart => exact ⟨0, [], by omega, rfl, rfl, rfl, fun b hb => absurd hb (by simp), HLG⟩
  case round =>
    clear HLG
    obtain ⟨k, nb, hk, rfl, rfl, HD, HNb, HG⟩ := hrel
    by_cases hlt : nb.length < cs.length
    · have HK := hide HG.out.keeps
      obtain ⟨b, off, ea, c0⟩ := cell1 (HC.out.kept HK.out) nb.length hlt
      subst ea
      have HMk : Hid (Cells wr cs[nb.length].a (bys cs[nb.length].L)) := (mem_seg HM.out nb.length hlt).kept HK.out
      have HTk := hide (HT.out _ (List.getElem_mem hlt))
      have HNk := hide (HN.out _ (List.getElem_mem hlt)).1
      have HDk : Hid ((cs.take (nb.length + 1)).map Bs.L = (cs.take nb.length).map Bs.L ++ [cs[nb.length].L]) := by show _ = _; rw [List.take_succ_eq_append_getElem hlt, List.map_append]; rfl
      generalize cs[nb.length] = c at *
      obtain ⟨xa, xc, xL⟩ := c
      dsimp only [Bs.v] at c0 HMk HTk HNk HDk
      have HKa := hide (Keeps.alloc (Keeps.refl wr) (.cells #[.slice xa xL.length xc] 93))
      have HCl := hide (clone_k xa xc xL _ (HMk.out.kept HKa.out) HNk.out HTk.out)
      go_wp2_with (first
        | (go_at_call 84; refine (unhide HCl).mono ?_; rintro x w1 ⟨v1, rfl, ho1, hk1⟩; have HK1 := hide (HKa.out.trans hk1); have HO1 := hide (OwnsB.older ho1 HKa.out.size); obtain ⟨a1, c1, rfl, hn1, hb1⟩ := Born.of_owns HO1.out; have HB1 := hide hb1; have HN1 := hide hn1; obtain ⟨v2, w2, hr2, ho2, hg2, hv2⟩ := run_cell w1 w.heap.size u3 nb.length (ccells nb) (.slice a1 xL.length c1) rfl 23 (owns_kept HK1.out HG.out.row) (by omega) (HK.out.trans HK1.out).size; have HR2 := hide hr2; have HS2 := hide (HG.out.snoc HK1.out (x := Bs.mk a1 c1 xL) hb1.toOwn hb1.new hg2 ho2 hv2); clear hk1 ho1 hb1 hn1 hr2 ho2 hg2 hv2)
        | (at_builtin; refine Lib.wpList_append_run _ rfl (.tmp 15) (.tmp 20) _ _ rfl _ _ rfl rfl v2 w2 HR2.out ?_))
      go_roundw
      case rel =>
        refine ⟨nb.length + 1, nb ++ [Bs.mk a1 c1 xL], by omega, by simp, by go_num, ?_, ?_, HS2⟩
        · show _ = _
          rw [HDk.out, ← HD.out]; simp
        · intro b hb
          rcases List.mem_append.1 hb with hb | hb
          · exact HNb.out b hb
          · rw [List.mem_singleton.1 hb]; exact HN1.out
      case measure => simp [intOf]; omega
    · have e : nb.length = cs.length := by omega
      go_wp2_with fail
      go_ret
      exact ⟨_, nb, rfl, by rw [HD.out, e, List.take_length], HNb.out, HG.out⟩
end Go.Proofs.YtkdnddckogbgaaaGreatDoor
namespace Go.Proofs.YtkdnddckogbgaaaGreatDoor
open Go.RowKit Go.Deep
set_option linter.unusedVariables false
set_option maxRecDepth 10000

/-- A write comes to its cell: its first n bytes. -/
def landL (old new : List UInt8) (n : Nat) : List UInt8 := new.take n ++ (fullL old).drop n
def landM (C : List (List UInt8)) (x : Int × List UInt8) (n : Nat) : List (List UInt8) := if n = 0 then C else C.set x.1.toNat (landL (C.getD x.1.toNat []) x.2 n)
/-- How many bytes come of write i. -/
def keepN (K : List Int) (i : Nat) : Nat := match K[i]? with | none => 0 | some k => if k < 0 then 0 else if 128 < k then 128 else k.toNat
def crashTo (C : List (List UInt8)) (D : List (Int × List UInt8)) (f : Nat → Nat) : Nat → List (List UInt8)
  | 0 => C
  | k + 1 => match D[k]? with | none => crashTo C D f k | some x => landM (crashTo C D f k) x (f k)
def crashM (m : DkM) (f : Nat → Nat) : DkM := if dokM m = true then ⟨crashTo m.cells m.dirty f m.dirty.length, []⟩ else noneM
theorem landM_len (C : List (List UInt8)) (x : Int × List UInt8) (n : Nat) : (landM C x n).length = C.length := by unfold landM; split <;> simp
theorem crashTo_len (C : List (List UInt8)) (D : List (Int × List UInt8)) (f : Nat → Nat) : ∀ k, (crashTo C D f k).length = C.length
  | 0 => rfl
  | k + 1 => by
    simp only [crashTo]
    split
    · exact crashTo_len C D f k
    · rw [landM_len]; exact crashTo_len C D f k
theorem landL_len {old new : List UInt8} {n : Nat} (ho : old.length = 0 ∨ old.length = 128) (hn : new.length = 128) (h : n ≤ 128) : (landL old new n).length = 128 := by
  have hf : (fullL old).length = 128 := by
    unfold fullL
    split
    · simp
    · rename_i h0
      rcases ho with ho | ho
      · exact absurd (List.length_eq_zero_iff.1 ho) h0
      · exact ho
  unfold landL
  rw [List.length_append, List.length_take, List.length_drop, hf, hn]; omega
theorem keepN_le (K : List Int) (i : Nat) : keepN K i ≤ 128 := by
  unfold keepN
  split
  · omega
  · split
    · omega
    · split
      · omega
      · omega
def okC (C : List (List UInt8)) : Prop := ∀ L ∈ C, L.length = 0 ∨ L.length = 128
theorem landM_ok {C : List (List UInt8)} {x : Int × List UInt8} {n : Nat} (h : okC C) (hx : x.2.length = 128) (h0 : 0 ≤ x.1) (h1 : x.1 < C.length) (hn : n ≤ 128) : okC (landM C x n) := by
  unfold landM
  split
  · exact h
  · intro L hL
    rcases List.mem_or_eq_of_mem_set hL with hL | rfl
    · exact h L hL
    · refine Or.inr (landL_len ?_ hx hn)
      rw [List.getD_eq_getElem?_getD, List.getElem?_eq_getElem (show x.1.toNat < C.length by omega)]
      exact h _ (List.getElem_mem _)
theorem crashTo_ok {m : DkM} (h : dokM m = true) {f : Nat → Nat} (hf : ∀ i, f i ≤ 128) : ∀ k, okC (crashTo m.cells m.dirty f k)
  | 0 => fun L hL => dokM_cell h hL
  | k + 1 => by
    simp only [crashTo]
    split
    · exact crashTo_ok h hf k
    · rename_i x hx
      obtain ⟨h1, h2, h3⟩ := dokM_dirty h (List.mem_of_getElem? hx)
      exact landM_ok (crashTo_ok h hf k) h3 h1 (by rw [crashTo_len]; exact h2) (hf k)
theorem crash_dok {m : DkM} (h : dokM m = true) {f : Nat → Nat} (hf : ∀ i, f i ≤ 128) (k : Nat) : dokM ⟨crashTo m.cells m.dirty f k, []⟩ = true := by
  obtain ⟨h1, h2, _⟩ := dokM_len h
  have ho := crashTo_ok h hf k
  unfold dokM
  simp only [crashTo_len, List.length_nil, List.all_nil, Bool.and_true]
  rw [decide_eq_true h1, decide_eq_true h2]
  simp only [Bool.true_and, Nat.zero_le, decide_true]
  rw [List.all_eq_true]
  intro L hL
  rcases ho L hL with e | e <;> simp [e]
section
variable {w0 w : World} {v : Value} {nb : List Bs}
theorem ccells_set (nb : List Bs) (j : Nat) (x : Bs) : ccells (nb.set j x) = (ccells nb).set j x.v := by
  induction nb generalizing j with
  | nil => simp [ccells]
  | cons b t ih =>
    cases j with
    | zero => simp [ccells, Bs.cells]
    | succ j =>
      have := ih j
      simp only [ccells, List.set_cons_succ, List.flatMap_cons, Bs.cells, List.singleton_append] at this ⊢
      rw [this]
/-- One cell of a list of cells gets a new list of bytes. -/
theorem LG.upd (h : LG 93 1 Bs.cells Bs.seg w0 w v nb) {j g : Nat} (hj : j < nb.length) (hg : v.ownBlock = some g) {x : Bs} (hx : Own w [x.seg]) (hn : ∀ b ∈ fp [x.seg], w0.heap.size ≤ b ∧ b ≠ g ∧ b ∉ fp (nb.map Bs.seg)) : LG 93 1 Bs.cells Bs.seg w0 (w.setCell ⟨g, j, none⟩ x.v) v (nb.set j x) := by
  have ht : Turn [g] w (w.setCell ⟨g, j, none⟩ x.v) := Turn.set (by simp) _
  have hw0 := (h.row.lt g hg).1
  have e : nb.map Bs.seg = (nb.take j).map Bs.seg ++ nb[j].seg :: (nb.drop (j + 1)).map Bs.seg := by
    rw [← List.map_cons, ← List.map_append, ← List.drop_eq_getElem_cons hj, List.take_append_drop]
  have e' : (nb.set j x).map Bs.seg = (nb.take j).map Bs.seg ++ x.seg :: (nb.drop (j + 1)).map Bs.seg := by
    rw [List.set_eq_take_append_cons_drop, if_pos hj, List.map_append, List.map_cons]
  have hI := h.inner.toOwn
  rw [e] at hI
  have hA := hI.left
  have hB : Own w (nb[j].seg :: (nb.drop (j + 1)).map Bs.seg) := hI.right
  have hB2 : Own w ((nb.drop (j + 1)).map Bs.seg) := Own.right (S := [nb[j].seg]) hB
  have hAB : ∀ b ∈ fp ((nb.take j).map Bs.seg), b ∉ fp ((nb.drop (j + 1)).map Bs.seg) := fun b hb hb' => hI.apart b hb (by rw [fp_cons]; exact List.mem_append_right _ hb')
  have mA : ∀ b ∈ fp ((nb.take j).map Bs.seg), b ∈ fp (nb.map Bs.seg) := fun b hb => by rw [e, fp_append]; exact List.mem_append_left _ hb
  have mB : ∀ b ∈ fp ((nb.drop (j + 1)).map Bs.seg), b ∈ fp (nb.map Bs.seg) := fun b hb => by rw [e, fp_append, fp_cons]; exact List.mem_append_right _ (List.mem_append_right _ hb)
  have hnew : Own w ((nb.set j x).map Bs.seg) := by
    rw [e']
    refine hA.append (Own.append (S := [x.seg]) hx hB2 (fun b hb hb' => (hn b hb).2.2 (mB b hb'))) (fun b hb hb' => ?_)
    rw [fp_cons] at hb'
    rcases List.mem_append.1 hb' with hb' | hb'
    · exact (hn b (by rw [fp_one]; exact hb')).2.2 (mA b hb)
    · exact hAB b hb hb'
  have hfg : ∀ b ∈ fp ((nb.set j x).map Bs.seg), b ≠ g ∧ w0.heap.size ≤ b := by
    intro b hb
    rw [e', fp_append, fp_cons] at hb
    rcases List.mem_append.1 hb with hb | hb
    · exact ⟨fun eq => h.apart g hg (eq ▸ mA b hb), h.inner.new b (mA b hb)⟩
    · rcases List.mem_append.1 hb with hb | hb
      · have := hn b (by rw [fp_one]; exact hb); exact ⟨this.2.1, this.1⟩
      · exact ⟨fun eq => h.apart g hg (eq ▸ mB b hb), h.inner.new b (mB b hb)⟩
  refine ⟨?_, ⟨hnew.turn ht (fun b hb hx => (hfg b hb).1 (by simpa using hx)), fun b hb => (hfg b hb).2⟩, ?_, ht.keeps h.keeps (fun b hb => by simp at hb; omega)⟩
  · rcases h.row.2 with ⟨rfl, h0⟩ | ⟨g', cap, cur, rfl, hb, hgg, hnc, hcm, hcs, htk⟩
    · omega
    · have : g' = g := by simpa [Value.ownBlock] using hg
      subst this
      refine ⟨by have := h.row.1; rw [List.length_set]; show (ccells (nb.set j x)).length = _; rw [ccells_len]; simp, .inr ⟨g', cap, cur.setIfInBounds j x.v, by rw [List.length_set], hb, ?_, by rw [List.length_set]; exact hnc, hcm, by simpa using hcs, ?_⟩⟩
      · simp [World.setCell, Array.getElem?_modify, hgg]
      · show _ = ccells (nb.set j x)
        rw [ccells_set, List.length_set]
        have : (cur.setIfInBounds j x.v).toList = cur.toList.set j x.v := by simp
        rw [this, List.take_set]
        rw [htk]; rfl
  · intro g' hg' hb
    have : g' = g := by rw [hg] at hg'; exact (Option.some.inj hg').symm
    exact (hfg g' hb).1 this
end
end Go.Proofs.YtkdnddckogbgaaaGreatDoor
