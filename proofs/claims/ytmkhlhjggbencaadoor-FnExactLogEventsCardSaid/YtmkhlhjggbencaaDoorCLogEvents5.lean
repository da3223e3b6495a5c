/- Disks as objects: what they say, and the laws' glue over them. -/
import Derived.Test.YtmkhlhjggbencaaDoorCLogEvents4
import Derived.Laws.CopyOwn
import Derived.Test.YtmkhlhjggbencaaDoorCLogEvents1
import Derived.RangeFuncNested
import Derived.RangeFuncBound
import Derived.RangeFuncCalls
import Derived.RangeFuncLeaves
import Derived.Shelf.Abstract
import Derived.Shelf.RegionOpen
import Derived.OwnWalkIn
import Derived.TacticsInMore
import Derived.LoopNIn
import Derived.LoopIn
import Derived.Test.YtmkhlhjggbencaaDoorCLogEvents3
import Derived.Maps.AppendAt
namespace Go.Proofs.YtmkhlhjggbencaaDoor
open Go.RowKit Go.Deep
set_option linter.unusedVariables false
set_option maxRecDepth 10000

def dat (cs : List Bs) (ds : List Wr) : DkM := ⟨cs.map Bs.L, ds.map Wr.key⟩
/-- A disk of moderate size, no list of which is nil and has room. -/
structure DOk (cs : List Bs) (ds : List Wr) : Prop where
  c : cs.length ≤ 1048576
  d : ds.length ≤ 1048576
  tc : tot cs ≤ 1048576
  td : totW ds ≤ 1048576
  nc : ∀ b ∈ cs, b.fit
  nd : ∀ x ∈ ds, x.b.fit
theorem dat_len {cs cs' : List Bs} {ds ds' : List Wr} (h : dat cs' ds' = dat cs ds) : cs'.length = cs.length ∧ ds'.length = ds.length := by
  injection h with h1 h2
  exact ⟨by simpa using congrArg List.length h1, by simpa using congrArg List.length h2⟩
def DkM.tot (m : DkM) : Nat := (m.cells.map List.length).sum
def DkM.totW (m : DkM) : Nat := (m.dirty.map fun x => x.2.length).sum
theorem tot_dat (cs : List Bs) (ds : List Wr) : Go.Proofs.YtmkhlhjggbencaaDoor.tot cs = (dat cs ds).tot := by simp [Go.Proofs.YtmkhlhjggbencaaDoor.tot, DkM.tot, dat, Function.comp_def]
theorem totW_dat (cs : List Bs) (ds : List Wr) : Go.Proofs.YtmkhlhjggbencaaDoor.totW ds = (dat cs ds).totW := by simp [Go.Proofs.YtmkhlhjggbencaaDoor.totW, DkM.totW, dat, Function.comp_def, Wr.key]
theorem DOk.like {cs cs' : List Bs} {ds ds' : List Wr} (h : DOk cs ds) (e : dat cs' ds' = dat cs ds) (nc : ∀ b ∈ cs', b.fit) (nd : ∀ x ∈ ds', x.b.fit) : DOk cs' ds' :=
  ⟨by rw [(dat_len e).1]; exact h.c, by rw [(dat_len e).2]; exact h.d, by rw [tot_dat cs' ds', e, ← tot_dat]; exact h.tc, by rw [totW_dat cs' ds', e, ← totW_dat]; exact h.td, nc, nd⟩
/-- Is the disk right? By what it says. -/
def dokM (m : DkM) : Bool := decide (1 ≤ m.cells.length) && decide (m.cells.length ≤ 600) && decide (m.dirty.length ≤ 600) && m.cells.all (fun L => decide (L.length = 0) || decide (L.length = 128)) && m.dirty.all (fun x => decide (0 ≤ x.1) && decide (x.1 < m.cells.length) && decide (x.2.length = 128))
theorem dok_dat (cs : List Bs) (ds : List Wr) : dokB cs ds = dokM (dat cs ds) := by
  unfold dokB dokM dat
  simp only [List.length_map, List.all_map]
  rfl
/-- A disk that was made behind w. -/
def DiskRes (w w' : World) (v : Value) (M : DkM) : Prop := ∃ (ca : Option Addr) (cc : Nat) (cs : List Bs) (da : Option Addr) (dc : Nat) (ds : List Wr), v = dskV ca cs.length cc da ds.length dc ∧ dat cs ds = M ∧ DOk cs ds ∧ (ca = none → cc = 0) ∧ (da = none → dc = 0) ∧ Born w w' (dsk ca cs da ds)
theorem toDisk' (ca : Option Addr) (cc : Nat) (cs : List Bs) (da : Option Addr) (dc : Nat) (ds : List Wr) (w : World) (hm : Mem w (dsk ca cs da ds)) (h : DOk cs ds) :
    Calls Tryd.prog 8 #[dskV ca cs.length cc da ds.length dc] w fun e w' => ∃ v, e = .returned v ∧ DiskRes w w' v (dat cs ds) ∧ Keeps w w' := by
  refine (toDisk_k ca cc cs da dc ds w hm h.c h.d (fun b hb => Nat.le_trans (tot_le hb) h.tc) (fun x hx => Nat.le_trans (totW_le hx) h.td)).mono ?_
  rintro e w' ⟨g1, g2, nb, nw, rfl, h1, h2, h3, h4, hb, hk⟩
  have e : dat nb nw = dat cs ds := by unfold dat; rw [h1, h2]
  refine ⟨_, rfl, ⟨some ⟨g1, 0, none⟩, cs.length, nb, some ⟨g2, 0, none⟩, ds.length, nw, ?_, e, h.like e h3 h4, (fun e => nomatch e), (fun e => nomatch e), hb⟩, hk⟩
  rw [(dat_len e).1, (dat_len e).2]
theorem eqDisk' (ca : Option Addr) (cc : Nat) (cs : List Bs) (da : Option Addr) (dc : Nat) (ds : List Wr) (ca' : Option Addr) (cc' : Nat) (cs' : List Bs) (da' : Option Addr) (dc' : Nat) (ds' : List Wr) (w : World)
    (e : dat cs' ds' = dat cs ds) (hm : Mem w (dsk ca cs da ds)) (hm' : Mem w (dsk ca' cs' da' ds')) (h : DOk cs ds) :
    Calls Tryd.prog 11 #[dskV ca cs.length cc da ds.length dc, dskV ca' cs'.length cc' da' ds'.length dc'] w fun e w' => e = .returned (.bool true) ∧ Keeps w w' :=
  eqDisk_k ca cc cs da dc ds ca' cc' cs' da' dc' ds' w (congrArg DkM.cells e) (congrArg DkM.dirty e) hm hm' h.c h.d (fun b hb => Nat.le_trans (tot_le hb) (Nat.le_trans h.tc (by decide))) (fun x hx => Nat.le_trans (totW_le hx) (Nat.le_trans h.td (by decide)))
theorem markDisk' (ca : Option Addr) (cc : Nat) (cs : List Bs) (da : Option Addr) (dc : Nat) (ds : List Wr) (w : World) (ho : Own w (dsk ca cs da ds)) (h : DOk cs ds) :
    Calls Tryd.prog 12 #[dskV ca cs.length cc da ds.length dc, .int .i64 1] w fun e w' => e = .returned (.int .i64 ((1 + tot cs + ds.length + totW ds : Nat) : Int)) ∧ Own w' (dsk ca (markC 1 cs) da (markW (1 + tot cs) ds)) ∧ Turn (fp (dsk ca cs da ds)) w w' :=
  markDisk_k ca cc cs da dc ds 1 w ho h.c h.d (Nat.le_trans h.tc (by decide)) (Nat.le_trans h.td (by decide)) (by decide)
theorem DOk.big {cs : List Bs} {ds : List Wr} (h : DOk cs ds) : cs.length ≤ 9223372036854775807 ∧ ds.length ≤ 9223372036854775807 ∧ (∀ b ∈ cs, b.L.length ≤ 9223372036854775807) ∧ (∀ x ∈ ds, x.b.L.length ≤ 9223372036854775807) :=
  ⟨Nat.le_trans h.c (by decide), Nat.le_trans h.d (by decide), fun b hb => Nat.le_trans (tot_le hb) (Nat.le_trans h.tc (by decide)), fun x hx => Nat.le_trans (totW_le hx) (Nat.le_trans h.td (by decide))⟩
theorem diskok_spec' (ca : Option Addr) (cc : Nat) (cs : List Bs) (da : Option Addr) (dc : Nat) (ds : List Wr) (w : World) (hm : Mem w (dsk ca cs da ds)) (h : DOk cs ds) :
    Calls Tryd.prog 24 #[dskV ca cs.length cc da ds.length dc] w fun e w' => e = .returned (.bool (dokM (dat cs ds))) ∧ Keeps w w' := by
  rw [← dok_dat]; exact diskok_spec ca cc cs da dc ds w hm h.big.1 h.big.2.1 h.big.2.2.1 h.big.2.2.2
theorem diskok_impl' (ca : Option Addr) (cc : Nat) (cs : List Bs) (da : Option Addr) (dc : Nat) (ds : List Wr) (w : World) (hm : Mem w (dsk ca cs da ds)) (h : DOk cs ds) :
    Calls Tryd.prog 62 #[dskV ca cs.length cc da ds.length dc] w fun e w' => e = .returned (.bool (dokM (dat cs ds))) ∧ Keeps w w' := by
  rw [← dok_dat]; exact diskok_impl ca cc cs da dc ds w hm h.big.1 h.big.2.1 h.big.2.2.1 h.big.2.2.2
/-- The gate of a law over a disk. -/
theorem szDisk' (ca : Option Addr) (cc : Nat) (cs : List Bs) (da : Option Addr) (dc : Nat) (ds : List Wr) (w : World) (hm : Mem w (dsk ca cs da ds)) (ho : Dk.ok ⟨ca, cc, cs, da, dc, ds⟩) :
    Calls Tryd.prog 6 #[dskV ca cs.length cc da ds.length dc, .int .i64 1048576] w fun e w' => ∃ r : Int, e = .returned (.int .i64 r) ∧ (0 ≤ r → DOk cs ds) ∧ Keeps w w' := by
  obtain ⟨h1, h2, h3, h4, h5, h6⟩ := ho
  refine (szDisk_k ca cc cs da dc ds w hm (fun b hb => (h5 b hb).2) (fun x hx => (h6 x hx).1.2) h3 h4).mono ?_
  rintro e w' ⟨r, rfl, hr, hk⟩
  refine ⟨r, rfl, fun h => ?_, hk⟩
  have := hr h
  exact ⟨by omega, by omega, by omega, by omega, fun b hb => (h5 b hb).1, fun x hx => (h6 x hx).1.1⟩
end Go.Proofs.YtmkhlhjggbencaaDoor

/- DiskNew, the program's and the model's. -/
namespace Go.Proofs.YtmkhlhjggbencaaDoor
open Go.RowKit Go.Deep
set_option linter.unusedVariables false
set_option maxRecDepth 10000

def noneM : DkM := ⟨[], []⟩
def newB (n : Int) : Bool := decide (1 ≤ n) && decide (n ≤ 600)
def newM (n : Int) : DkM := if newB n = true then ⟨List.replicate n.toNat [], []⟩ else noneM
theorem diskres_none (w w' : World) : DiskRes w w' (dskV none 0 0 none 0 0) noneM := by
  refine ⟨.none, 0, [], .none, 0, [], rfl, rfl, ⟨by simp, by simp, by simp [tot], by simp [totW], by simp, by simp⟩, fun _ => rfl, fun _ => rfl, ⟨⟨?_, ?_, ?_⟩, ?_⟩⟩
  · intro s hs
    simp [dsk, ccells, wcells] at hs
    subst hs
    exact Cells.nil _ _
  · simp [dsk, ccells, wcells, fp, fpS]
  · intro b hb
    simp [dsk, ccells, wcells, fp, fpS] at hb
  · intro b hb
    simp [dsk, ccells, wcells, fp, fpS] at hb
theorem fp_empties (n : Nat) : fp ((List.replicate n (Bs.mk none 0 [])).map Bs.seg) = [] := by
  induction n with
  | zero => rfl
  | succ n ih => rw [List.replicate_succ, List.map_cons, fp_cons, ih]; simp [Bs.seg, bys, fpS]
theorem ccells_empties (n : Nat) : ccells (List.replicate n (Bs.mk none 0 [])) = List.replicate n (.slice none 0 0) := by
  induction n with
  | zero => rfl
  | succ n ih => rw [List.replicate_succ, List.replicate_succ, ← ih]; rfl
theorem diskres_new {w W w' : World} {n : Nat} (h1 : 1 ≤ n) (h2 : n ≤ 600) (hr : w'.rowIs W.heap.size 80 n (fun _ => .slice none 0 0)) (hW : w.heap.size ≤ W.heap.size) : DiskRes w w' (dskV (some ⟨W.heap.size, 0, none⟩) n n none 0 0) ⟨List.replicate n [], []⟩ := by
  have hcc := ccells_empties n
  have hfp : fp (dsk (some ⟨W.heap.size, 0, none⟩) (List.replicate n (Bs.mk none 0 [])) none []) = [W.heap.size] := by
    unfold dsk
    rw [fp_append, fp_cons, fp_empties, hcc, fpS_some (by intro e; have := congrArg List.length e; simp at this; omega)]
    simp [wcells, fp, fpS]
  refine ⟨some ⟨W.heap.size, 0, none⟩, n, List.replicate n (Bs.mk none 0 []), none, 0, [], by simp, ?_, ⟨by simp; omega, by simp, ?_, by simp [totW], ?_, by simp⟩, (fun e => nomatch e), fun _ => rfl, ⟨⟨?_, ?_, ?_⟩, ?_⟩⟩
  · simp [dat]
  · simp [tot]
  · intro b hb
    rw [(List.mem_replicate.1 hb).2]; exact ⟨fun _ => rfl, Nat.le_refl _⟩
  · unfold dsk
    refine mem_append.2 ⟨mem_cons.2 ⟨?_, ?_⟩, mem_cons.2 ⟨Cells.nil _ _, Mem.nil _⟩⟩
    · rw [hcc]
      refine Or.inr ⟨W.heap.size, 0, rfl, fun j hj => ?_⟩
      have hj' : j < n := by simpa using hj
      rw [Nat.zero_add, hr.cell hj']
      simp
    · intro s hs
      obtain ⟨b, hb, rfl⟩ := List.mem_map.1 hs
      rw [(List.mem_replicate.1 hb).2]
      exact Cells.nil _ _
  · rw [hfp]; simp
  · rw [hfp]; intro b hb; simp at hb; subst hb; exact hr.frozen
  · rw [hfp]; intro b hb; simp at hb; subst hb; exact hW
end Go.Proofs.YtmkhlhjggbencaaDoor

/- DiskRead: what it says; filled and l03Full by contract. -/
namespace Go.Proofs.YtmkhlhjggbencaaDoor
open Go.RowKit Go.Deep
set_option linter.unusedVariables false
set_option maxRecDepth 10000

/-- The last of the writes at a place. -/
def lastD : List (Int × List UInt8) → Int → Option (List UInt8)
  | [], _ => none
  | x :: t, i => (lastD t i).or (if x.1 = i then some x.2 else none)
theorem lastD_append : ∀ (A B : List (Int × List UInt8)) (i : Int), lastD (A ++ B) i = (lastD B i).or (lastD A i)
  | [], B, i => by simp [lastD]
  | x :: A, B, i => by
    simp only [List.cons_append, lastD, lastD_append A B i]
    cases lastD B i <;> cases lastD A i <;> simp
def fullL (L : List UInt8) : List UInt8 := if L = [] then List.replicate 128 0 else L
def fillL (L : List UInt8) : List UInt8 := L.take 128 ++ List.replicate (128 - L.length) 0
theorem fill_full {L : List UInt8} (h : L.length = 0 ∨ L.length = 128) : fillL L = fullL L := by
  unfold fillL fullL
  rcases h with h | h
  · have : L = [] := List.length_eq_zero_iff.1 h
    subst this; simp
  · have hne : L ≠ [] := fun e => by rw [e] at h; simp at h
    rw [if_neg hne, List.take_of_length_le (by omega), h]; simp
theorem fillL_len (L : List UInt8) : (fillL L).length = 128 := by simp [fillL]; omega
def readB (m : DkM) (i : Int) : Bool := dokM m && (decide (0 ≤ i) && decide (i < m.cells.length))
def readL (m : DkM) (i : Int) : List UInt8 := if readB m i = true then (lastD m.dirty i).getD (fullL (m.cells.getD i.toNat [])) else []
theorem dokM_cell {m : DkM} (h : dokM m = true) {L : List UInt8} (hL : L ∈ m.cells) : L.length = 0 ∨ L.length = 128 := by
  simp only [dokM, Bool.and_eq_true, List.all_eq_true, Bool.or_eq_true, decide_eq_true_eq] at h
  exact h.1.2 L hL
theorem dokM_dirty {m : DkM} (h : dokM m = true) {x : Int × List UInt8} (hx : x ∈ m.dirty) : 0 ≤ x.1 ∧ x.1 < m.cells.length ∧ x.2.length = 128 := by
  simp only [dokM, Bool.and_eq_true, List.all_eq_true, decide_eq_true_eq] at h
  have := h.2 x hx
  exact ⟨this.1.1, this.1.2, this.2⟩
theorem dokM_len {m : DkM} (h : dokM m = true) : 1 ≤ m.cells.length ∧ m.cells.length ≤ 600 ∧ m.dirty.length ≤ 600 := by
  simp only [dokM, Bool.and_eq_true, decide_eq_true_eq] at h
  exact ⟨h.1.1.1.1, h.1.1.1.2, h.1.1.2⟩
theorem lastD_mem : ∀ (D : List (Int × List UInt8)) (i : Int) {L : List UInt8}, lastD D i = some L → ∃ x ∈ D, x.2 = L
  | [], _, _, h => by simp [lastD] at h
  | x :: t, i, L, h => by
    simp only [lastD] at h
    cases ht : lastD t i with
    | some L' =>
      rw [ht] at h
      obtain ⟨y, hy, e⟩ := lastD_mem t i ht
      exact ⟨y, List.mem_cons_of_mem _ hy, by rw [e]; simpa using h⟩
    | none =>
      rw [ht] at h
      by_cases e : x.1 = i
      · simp [e] at h; exact ⟨x, List.mem_cons_self .., h⟩
      · simp [e] at h
theorem readL_len (m : DkM) (i : Int) : (readL m i).length ≤ 128 := by
  unfold readL
  split
  · rename_i h
    have hd : dokM m = true := by unfold readB at h; exact (Bool.and_eq_true_iff.1 h).1
    have hi : 0 ≤ i ∧ i < m.cells.length := by unfold readB at h; have := (Bool.and_eq_true_iff.1 h).2; simpa using this
    cases hl : lastD m.dirty i with
    | some L =>
      obtain ⟨x, hx, rfl⟩ := lastD_mem _ _ hl
      have := (dokM_dirty hd hx).2.2
      simp [this]
    | none =>
      have hm : m.cells.getD i.toNat [] ∈ m.cells := by
        rw [List.getD_eq_getElem?_getD, List.getElem?_eq_getElem (show i.toNat < m.cells.length by omega)]; exact List.getElem_mem _
      have := dokM_cell hd hm
      simp only [Option.getD_none]
      generalize m.cells.getD i.toNat [] = L at *
      unfold fullL
      split
      · simp
      · omega
  · simp
def ReadPost (w : World) (m : DkM) (i : Int) (x : Ending) (w' : World) : Prop := ∃ v, x = .returned (.tuple #[v, .bool (readB m i)]) ∧ OwnsB w' w.heap.size v (readL m i) ∧ Keeps w w'
theorem ReadPost.no {w w' : World} {m : DkM} {i : Int} (h : readB m i = false) (hk : Keeps w w') : ReadPost w m i (.returned (.tuple #[.slice none 0 0, .bool false])) w' :=
  ⟨_, by rw [h], by unfold readL; rw [h]; exact OwnsB.nil _ _, hk⟩
theorem ReadPost.yes {w w' : World} {m : DkM} {i : Int} {v : Value} {L : List UInt8} (h : readB m i = true) (hl : (lastD m.dirty i).getD (fullL (m.cells.getD i.toNat [])) = L) (ho : OwnsB w' w.heap.size v L) (hk : Keeps w w') : ReadPost w m i (.returned (.tuple #[v, .bool true])) w' :=
  ⟨_, by rw [h], by unfold readL; rw [if_pos h, hl]; exact ho, hk⟩

theorem make_128 (w : World) : (Instr.makeSlice 48 (.int .i64 128) (.int .i64 128)).run Tryd.prog w = .ok (.slice (some ⟨w.heap.size, 0, none⟩) 128 128) (w.alloc (.cells (madeCells #[.int .u8 0] 128) 5)) := make_bytes 128 (by decide) w
theorem made_zeros (n : Nat) : madeCells #[Value.int .u8 0] n = (bys (List.replicate n 0)).toArray := by
  apply Array.ext'
  apply List.ext_getElem?
  intro i
  by_cases h : i < n
  · simp [madeCells, bys, byV, h, Nat.mod_one]
  · simp [madeCells, bys, byV, h]
theorem size_byte : (Tryd.prog.info? 5).map (·.size) = some 1 := by kernel_rfl
theorem bys_take (L : List UInt8) (n : Nat) : bys (L.take n) = (bys L).take n := by simp [bys]
theorem src_at {w : World} {p : Addr} {L : List UInt8} (hc : Cells w (some p) (bys L)) : ∀ j v, (bys L)[j]? = some v → w.cell? (p.add j) = some v := by
  intro j v hj
  rcases hc with h | ⟨b, off, e, h⟩
  · rw [h] at hj; simp at hj
  · obtain rfl := Option.some.inj e
    obtain ⟨hj', e'⟩ := List.getElem?_eq_some_iff.1 hj
    rw [add_at, h j hj', e']
/-- copy into a row of one's own from its first cell on. -/
theorem splice_zero (cur cs : List Value) : splice cur 0 cs = cs ++ cur.drop cs.length := by simp [splice]
theorem splice_fill (L : List UInt8) : splice (bys (List.replicate 128 0)) 0 (bys (L.take 128)) = bys (fillL L) := by
  rw [splice_zero]
  unfold fillL
  rw [bys_append, bys_length]
  congr 1
  simp only [bys, List.map_replicate, List.drop_replicate, List.length_take]
  congr 1
  omega
theorem own_row {w : World} {base g n : Nat} {L : List UInt8} (hb : base ≤ g) (hl : L.length = n) (hg : w.heap[g]? = some (.cells (bys L).toArray 5 (0, 0))) (hn : n ≤ 1048576 := by decide) : OwnsB w base (.slice (some ⟨g, 0, none⟩) n n) L := by
  subst hl
  refine ⟨by rw [bys_length]; simp, .inr ⟨g, L.length, _, rfl, hb, hg, Nat.le_refl _, by simp only [maxLen]; omega, by simp [bys_length], ?_⟩⟩
  simp only [Nat.mul_one]
  rw [List.take_of_length_le (by rw [bys_length]; exact Nat.le_refl _)]
set_option maxHeartbeats 1000000 in
theorem filled_k (a : Option Addr) (cap : Nat) (L : List UInt8) (w : World) (hc : Cells w a (bys L)) (hl : L.length ≤ 4194304) :
    Calls Tryd.prog 65 #[.slice a L.length cap] w fun e w' => ∃ v, e = .returned v ∧ OwnsB w' w.heap.size v (fillL L) ∧ Keeps w w' := by
  have hmk := make_128
  have HKA := hide (Keeps.alloc (Keeps.refl w) (.cells (madeCells #[.int .u8 0] 128) 5))
  have HC := hide (hc.kept HKA.out)
  have HB : Hid ((w.alloc (.cells (madeCells #[.int .u8 0] 128) 5)).heap[w.heap.size]? = some (.cells (bys (List.replicate 128 0)).toArray 5 (0, 0))) := by
    show _ = _
    rw [← made_zeros]; exact blk_alloc_new w _
  have HL : Hid ((bys (L.take 128)).length = Nat.min L.length 128) := by show _ = _; rw [bys_length, List.length_take, Nat.min_comm]
  have HP : Hid (0 < (bys (L.take 128)).length → some (⟨w.heap.size, 0, none⟩ : Addr) = some ⟨w.heap.size, 0, none⟩ ∧ ∃ ad, a = some ad ∧ ∀ j v, (bys (L.take 128))[j]? = some v → (w.alloc (.cells (madeCells #[.int .u8 0] 128) 5)).cell? (ad.add j) = some v) := by
    intro hp
    refine ⟨rfl, ?_⟩
    have hc' := HC.out
    rcases hc' with h | ⟨b, off, e, h⟩
    · rw [bys_nil] at h; subst h; simp [bys] at hp
    · refine ⟨_, e, fun j v hj => src_at (HC.out.elim (fun h => by rw [bys_nil] at h; subst h; simp [bys] at hp) (fun _ => by rw [← e]; exact HC.out)) j v ?_⟩
      rw [bys_take] at hj
      rw [List.getElem?_take] at hj
      split at hj
      · exact hj
      · cases hj
  have HF : Hid (0 + (bys (L.take 128)).length ≤ (bys (List.replicate 128 (0 : UInt8))).length) := by show _ ≤ _; rw [HL.out, bys_length, List.length_replicate, Nat.zero_add]; exact Nat.min_le_right _ _
  clear hc hl
  go_enter Tryd.func65, Tryd.ntmps65
  go_wp2_with (refine wpList_copy_splice (by rfl) (.tmp 5) (.tmp 6) 48 48 (by rfl) 5 underBytes size_byte (some ⟨w.heap.size, 0, none⟩) a 128 128 L.length cap (by rfl) (by rfl) w.heap.size 0 (bys (List.replicate 128 0)) 5 HB.out (bys (L.take 128)) HL.out HP.out HF.out (fun v hv => one_cells hv) w.heap.size w HKA.out (Nat.le_refl _) ?_; intro w1 hg hb)
  go_ret
  have hg' := hg.out
  rw [splice_fill] at hg'
  refine ⟨.slice (some ⟨w.heap.size, 0, none⟩) 128 128, rfl, own_row (Nat.le_refl _) (fillL_len L) hg', hb⟩
set_option maxHeartbeats 1000000 in
theorem full_k (a : Option Addr) (cap : Nat) (L : List UInt8) (w : World) (hc : Cells w a (bys L)) (hn : a = none → cap = 0) (hl : L.length ≤ 2097152) :
    Calls Tryd.prog 43 #[.slice a L.length cap] w fun e w' => ∃ v, e = .returned v ∧ OwnsB w' w.heap.size v (fullL L) ∧ Keeps w w' := by
  by_cases h0 : L = []
  · subst h0
    have hmk := make_128
    have HKA := hide (Keeps.alloc (Keeps.refl w) (.cells (madeCells #[.int .u8 0] 128) 5))
    have HB : Hid ((w.alloc (.cells (madeCells #[.int .u8 0] 128) 5)).heap[w.heap.size]? = some (.cells (bys (List.replicate 128 0)).toArray 5 (0, 0))) := by
      show _ = _
      rw [← made_zeros]; exact blk_alloc_new w _
    clear hc hn hl
    go_enter Tryd.func43, Tryd.ntmps43
    go_wp2_with fail
    go_ret
    exact ⟨.slice (some ⟨w.heap.size, 0, none⟩) 128 128, rfl, own_row (Nat.le_refl _) (by simp [fullL]) HB.out, HKA.out⟩
  · have hne : ((L.length : Int) == 0) = false := by
      rw [beq_eq_false_iff_ne]
      intro e
      exact h0 (List.length_eq_zero_iff.1 (by omega))
    have HF : Hid (fullL L = L) := if_neg h0
    have HC := hide (hc.kept (Keeps.alloc (Keeps.refl w) (.cells #[] 5)))
    have HO := hide (World.ownsRow_made (base := w.heap.size) (e := 5) (size := 1) w #[] 0 (Nat.le_refl _) (by decide) rfl)
    have HH := hide hn
    have HL : Hid (([] : List UInt8).length + L.length ≤ 4194304) := by show _ ≤ _; simp; omega
    clear hc hn hl h0
    go_enter Tryd.func43, Tryd.ntmps43
    go_wp2_with (at_builtin; refine app_bys rfl (.tmp 7) (.tmp 8) rfl w.heap.size _ [] L rfl a cap rfl HC.out HH.out HO.out HL.out (by simp) ?_; intro v' w' ho hg)
    go_ret
    refine ⟨_, rfl, by rw [HF.out]; simpa using ho, ?_⟩
    exact Keeps.grown (Keeps.alloc (Keeps.refl w) _) hg (fun k hk => (HO.out.lt k hk).1)
end Go.Proofs.YtmkhlhjggbencaaDoor

/- DiskRead, the program's and the model's. -/
namespace Go.Proofs.YtmkhlhjggbencaaDoor
open Go.RowKit Go.Deep
set_option linter.unusedVariables false
set_option maxRecDepth 10000

theorem readB_dok {m : DkM} {i : Int} (h : dokM m = false) : readB m i = false := by unfold readB; rw [h, Bool.false_and]
theorem readB_out {m : DkM} {i : Int} (h : i < 0 ∨ (m.cells.length : Int) ≤ i) : readB m i = false := by
  unfold readB
  rcases h with h | h
  · rw [decide_eq_false (show ¬ 0 ≤ i by omega)]; simp
  · rw [decide_eq_false (show ¬ i < (m.cells.length : Int) by omega)]; simp
theorem readB_in {m : DkM} {i : Int} (h : dokM m = true) (h0 : 0 ≤ i) (h1 : i < (m.cells.length : Int)) : readB m i = true := by
  unfold readB; rw [h, decide_eq_true h0, decide_eq_true h1]; rfl
theorem read_hit {cs : List Bs} {ds : List Wr} {i : Int} {k : Nat} (hk : k < ds.length) (he : ds[k].i = i) (hn : lastD ((ds.map Wr.key).drop (k + 1)) i = none) (F : List UInt8) : (lastD (dat cs ds).dirty i).getD F = ds[k].b.L := by
  have e : (dat cs ds).dirty = (ds.map Wr.key).take k ++ (ds[k].key :: (ds.map Wr.key).drop (k + 1)) := by
    show ds.map Wr.key = _
    have hk' : k < (ds.map Wr.key).length := by simpa using hk
    have : ds[k].key = (ds.map Wr.key)[k] := by simp
    rw [this, ← List.drop_eq_getElem_cons hk', List.take_append_drop]
  rw [e, lastD_append]
  simp [lastD, hn, Wr.key, he]
theorem read_next {ds : List Wr} {i : Int} {k : Nat} (hk : k < ds.length) (he : ds[k].i ≠ i) (hn : lastD ((ds.map Wr.key).drop (k + 1)) i = none) : lastD ((ds.map Wr.key).drop k) i = none := by
  have hk' : k < (ds.map Wr.key).length := by simpa using hk
  rw [List.drop_eq_getElem_cons hk']
  simp [lastD, hn, Wr.key, he]
theorem read_miss {cs : List Bs} {ds : List Wr} {i : Nat} (hi : i < cs.length) (hn : lastD ((ds.map Wr.key).drop 0) i = none) : (lastD (dat cs ds).dirty i).getD (fullL ((dat cs ds).cells.getD (i : Int).toNat [])) = fullL cs[i].L := by
  rw [List.drop_zero] at hn
  show (lastD (ds.map Wr.key) i).getD _ = _
  rw [hn, Option.getD_none, Int.toNat_natCast]
  simp [dat, hi]
set_option maxHeartbeats 4000000 in
theorem diskread_impl (ca : Option Addr) (cc : Nat) (cs : List Bs) (da : Option Addr) (dc : Nat) (ds : List Wr) (i : Int) (w : World) (hm : Mem w (dsk ca cs da ds)) (h : DOk cs ds) :
    Calls Tryd.prog 53 #[dskV ca cs.length cc da ds.length dc, .int .i64 i] w (ReadPost w (dat cs ds) i) := by
  have HKA := hide (Keeps.alloc (Keeps.refl w) (.cells #[.slice ca cs.length cc, .slice da ds.length dc] 33))
  have HM := hide (hm.kept HKA.out)
  have HD : Hid (∀ w', Keeps (w.alloc (.cells #[.slice ca cs.length cc, .slice da ds.length dc] 33)) w' → w'.cell? ⟨w.heap.size, 0, none⟩ = some (.slice ca cs.length cc) ∧ w'.cell? ⟨w.heap.size, 1, none⟩ = some (.slice da ds.length dc)) :=
    fun w' hk => ⟨hk.cell (by simp), hk.cell (by simp)⟩
  have HZ : Hid ((w.alloc (.cells #[.slice ca cs.length cc, .slice da ds.length dc] 33)).heap.size = w.heap.size + 1) := by show _ = _; rw [World.size_alloc]
  have HQ := hide (diskok_impl' ca cc cs da dc ds _ HM.out h)
  have hcl := h.c
  have hdl := h.d
  clear hm
  cases hok : dokM (dat cs ds)
  · rw [hok] at HQ
    have HB := hide (readB_dok (i := i) hok)
    clear hok h
    go_enter Tryd.func53, Tryd.ntmps53
    go_wp2_with (go_at_call 62; refine (unhide HQ).mono ?_; rintro x w1 ⟨rfl, hk1⟩; have HK1 := hide hk1; obtain ⟨d0, d1⟩ := HD.out _ hk1; clear hk1)
    go_ret2
    exact ReadPost.no HB.out (HKA.out.trans HK1.out)
  rw [hok] at HQ
  have HOk := hide hok
  clear hok
  by_cases h0 : i < 0
  · clear hdl
    have HB := hide (readB_out (m := dat cs ds) (i := i) (Or.inl h0))
    have HH := hide (fun w1 => hascell_k ca cs.length cc da ds.length dc i w1 h.big.1)
    rw [show (decide (0 ≤ i) && decide (i < (cs.length : Int))) = false by simp; omega] at HH
    go_enter Tryd.func53, Tryd.ntmps53
    go_wp2_with (first | (go_at_call 62; refine (unhide HQ).mono ?_; rintro x w1 ⟨rfl, hk1⟩; have HK1 := hide hk1; obtain ⟨d0, d1⟩ := HD.out _ hk1; clear hk1) | (go_at_call 63; refine (unhide HH _).mono ?_; rintro x w2 ⟨rfl, hk2⟩; have HK2 := hide (HK1.out.trans hk2); clear d0 d1; obtain ⟨d0, d1⟩ := HD.out _ HK2.out; clear hk2))
    go_ret2
    exact ReadPost.no HB.out (HKA.out.trans HK2.out)
  by_cases h1 : (cs.length : Int) ≤ i
  · clear hdl
    have HB := hide (readB_out (m := dat cs ds) (i := i) (Or.inr (by show ((cs.map Bs.L).length : Int) ≤ i; simpa using h1)))
    have HH := hide (fun w1 => hascell_k ca cs.length cc da ds.length dc i w1 h.big.1)
    rw [show (decide (0 ≤ i) && decide (i < (cs.length : Int))) = false by simp; omega] at HH
    go_enter Tryd.func53, Tryd.ntmps53
    go_wp2_with (first | (go_at_call 62; refine (unhide HQ).mono ?_; rintro x w1 ⟨rfl, hk1⟩; have HK1 := hide hk1; obtain ⟨d0, d1⟩ := HD.out _ hk1; clear hk1) | (go_at_call 63; refine (unhide HH _).mono ?_; rintro x w2 ⟨rfl, hk2⟩; have HK2 := hide (HK1.out.trans hk2); clear d0 d1; obtain ⟨d0, d1⟩ := HD.out _ HK2.out; clear hk2))
    go_ret2
    exact ReadPost.no HB.out (HKA.out.trans HK2.out)
  obtain ⟨p, rfl⟩ : ∃ p : Nat, i = p := ⟨i.toNat, by omega⟩
  have hp : p < cs.length := by omega
  have HB := hide (readB_in (m := dat cs ds) (i := p) HOk.out (by omega) (by show (p : Int) < ((cs.map Bs.L).length : Int); simpa using hp))
  have HDO := hide h
  have HH := hide (fun w1 => hascell_k ca cs.length cc da ds.length dc (p : Int) w1 h.big.1)
  rw [show (decide (0 ≤ (p : Int)) && decide ((p : Int) < (cs.length : Int))) = true by simp; omega] at HH
  clear h h0 h1
  go_enter Tryd.func53, Tryd.ntmps53
  go_wp2_with (first | (go_at_call 62; refine (unhide HQ).mono ?_; rintro x w1 ⟨rfl, hk1⟩; have HK1 := hide hk1; obtain ⟨d0, d1⟩ := HD.out _ hk1; clear hk1) | (go_at_call 63; refine (unhide HH _).mono ?_; rintro x w2 ⟨rfl, hk2⟩; have HK2 := hide (HK1.out.trans hk2); clear d0 d1; obtain ⟨d0, d1⟩ := HD.out _ HK2.out; clear hk2))
  generalize w.alloc (.cells #[.slice ca cs.length cc, .slice da ds.length dc] 33) = W0 at *
  clear d0 d1
  go_loopw [6] (fun y wr => ∃ k : Nat, k ≤ ds.length ∧ y = .int .i64 ((k : Int) - 1) ∧ Hid (lastD ((ds.map Wr.key).drop k) p = none) ∧ Hid (Keeps W0 wr)) (fun y _ => (intOf y + 1).toNat)
  case atStart => exact ⟨ds.length, Nat.le_refl _, rfl, by show _ = _; rw [List.drop_of_length_le (by simp)]; rfl, HK2⟩
  case round =>
    obtain ⟨k, hk, rfl, HN, HKr⟩ := hrel
    obtain ⟨d0, d1⟩ := HD.out _ HKr.out
    by_cases hlt : 0 < k
    · obtain ⟨j, rfl⟩ : ∃ j, k = j + 1 := ⟨k - 1, by omega⟩
      have hj : j < ds.length := by omega
      rw [show (((j + 1 : Nat) : Int) - 1) = (j : Int) by omega]
      obtain ⟨b, off, ea, c0, c1⟩ := cell2 ((dsk_mem HM.out).2.2.1.kept HKr.out) j hj
      subst ea
      have HCx : Hid (Cells wr ds[j].b.a (bys ds[j].b.L)) := (mem_segW (dsk_mem HM.out).2.2.2 j hj).kept HKr.out
      have HNx := hide (HDO.out.nd _ (List.getElem_mem hj)).1
      have HLx : Hid (ds[j].b.L.length ≤ 4194304) := Nat.le_trans (totW_le (List.getElem_mem hj)) (Nat.le_trans HDO.out.td (by decide))
      have HHt := hide (fun he F => read_hit (cs := cs) (i := (p : Int)) hj he HN.out F)
      have HNt := hide (fun he => read_next (i := (p : Int)) hj he HN.out)
      generalize ds[j] = x at *
      obtain ⟨xi, xa, xc, xL⟩ := x
      dsimp only [Bs.v] at c0 c1 HCx HNx HLx HHt HNt
      by_cases he : xi = (p : Int)
      · subst he
        have HHit := hide (HHt.out rfl (fullL ((dat cs ds).cells.getD (p : Int).toNat [])))
        · skip
          have HCl := hide (clone_k xa xc xL wr HCx.out HNx.out HLx.out)
          go_wp2_with (go_at_call 64; refine (unhide HCl).mono ?_; rintro x w3 ⟨v3, rfl, ho3, hk3⟩)
          go_ret2
          exact ReadPost.yes HB.out HHit.out (OwnsB.older ho3 (HKA.out.trans HKr.out).size) (HKA.out.trans (HKr.out.trans hk3))
      · have hne : (xi == (p : Int)) = false := beq_eq_false_iff_ne.2 he
        have HNx2 := hide (HNt.out he)
        clear he
        go_wp2_with fail
        go_roundw
        case rel => exact ⟨j, by omega, rfl, HNx2, HKr⟩
        case measure => simp [intOf]
    · obtain rfl : k = 0 := by omega
      obtain ⟨b, off, ea, c0⟩ := cell1 ((dsk_mem HM.out).1.kept HKr.out) p hp
      subst ea
      have HCx : Hid (Cells wr cs[p].a (bys cs[p].L)) := (mem_seg (dsk_mem HM.out).2.1 p hp).kept HKr.out
      have HNx := hide (HDO.out.nc _ (List.getElem_mem hp)).1
      have HLx : Hid (cs[p].L.length ≤ 2097152) := Nat.le_trans (tot_le (List.getElem_mem hp)) (Nat.le_trans HDO.out.tc (by decide))
      have HMiss := hide (read_miss hp HN.out)
      have HLen : Hid (cs[p].L.length = 0 ∨ cs[p].L.length = 128) := dokM_cell HOk.out (List.mem_map.2 ⟨_, List.getElem_mem hp, rfl⟩)
      generalize cs[p] = x at *
      obtain ⟨xa, xc, xL⟩ := x
      dsimp only [Bs.v] at c0 HCx HNx HLx HMiss HLen
      · skip
        have HFu := hide (filled_k xa xc xL wr HCx.out (Nat.le_trans HLx.out (by decide)))
        go_wp2_with (go_at_call 65; refine (unhide HFu).mono ?_; rintro x w3 ⟨v3, rfl, ho3, hk3⟩)
        go_ret2
        rw [fill_full HLen.out] at ho3
        exact ReadPost.yes HB.out HMiss.out (OwnsB.older ho3 (HKA.out.trans HKr.out).size) (HKA.out.trans (HKr.out.trans hk3))
set_option maxHeartbeats 4000000 in
theorem diskread_spec (ca : Option Addr) (cc : Nat) (cs : List Bs) (da : Option Addr) (dc : Nat) (ds : List Wr) (i : Int) (w : World) (hm : Mem w (dsk ca cs da ds)) (h : DOk cs ds) :
    Calls Tryd.prog 25 #[dskV ca cs.length cc da ds.length dc, .int .i64 i] w (ReadPost w (dat cs ds) i) := by
  have HKA := hide (Keeps.alloc (Keeps.refl w) (.cells #[.slice ca cs.length cc, .slice da ds.length dc] 33))
  have HM := hide (hm.kept HKA.out)
  have HD : Hid (∀ w', Keeps (w.alloc (.cells #[.slice ca cs.length cc, .slice da ds.length dc] 33)) w' → w'.cell? ⟨w.heap.size, 0, none⟩ = some (.slice ca cs.length cc) ∧ w'.cell? ⟨w.heap.size, 1, none⟩ = some (.slice da ds.length dc)) :=
    fun w' hk => ⟨hk.cell (by simp), hk.cell (by simp)⟩
  have HZ : Hid ((w.alloc (.cells #[.slice ca cs.length cc, .slice da ds.length dc] 33)).heap.size = w.heap.size + 1) := by show _ = _; rw [World.size_alloc]
  have HQ := hide (diskok_spec' ca cc cs da dc ds _ HM.out h)
  have hcl := h.c
  have hdl := h.d
  clear hm
  cases hok : dokM (dat cs ds)
  · rw [hok] at HQ
    have HB := hide (readB_dok (i := i) hok)
    clear hok h
    go_enter Tryd.func25, Tryd.ntmps25
    go_wp2_with (go_at_call 24; refine (unhide HQ).mono ?_; rintro x w1 ⟨rfl, hk1⟩; have HK1 := hide hk1; obtain ⟨d0, d1⟩ := HD.out _ hk1; clear hk1)
    go_ret2
    exact ReadPost.no HB.out (HKA.out.trans HK1.out)
  rw [hok] at HQ
  have HOk := hide hok
  clear hok
  by_cases h0 : i < 0
  · clear hdl
    have HB := hide (readB_out (m := dat cs ds) (i := i) (Or.inl h0))
    go_enter Tryd.func25, Tryd.ntmps25
    go_wp2_with (go_at_call 24; refine (unhide HQ).mono ?_; rintro x w1 ⟨rfl, hk1⟩; have HK1 := hide hk1; obtain ⟨d0, d1⟩ := HD.out _ hk1; clear hk1)
    go_ret2
    exact ReadPost.no HB.out (HKA.out.trans HK1.out)
  by_cases h1 : (cs.length : Int) ≤ i
  · clear hdl
    have HB := hide (readB_out (m := dat cs ds) (i := i) (Or.inr (by show ((cs.map Bs.L).length : Int) ≤ i; simpa using h1)))
    go_enter Tryd.func25, Tryd.ntmps25
    go_wp2_with (go_at_call 24; refine (unhide HQ).mono ?_; rintro x w1 ⟨rfl, hk1⟩; have HK1 := hide hk1; obtain ⟨d0, d1⟩ := HD.out _ hk1; clear hk1)
    go_ret2
    exact ReadPost.no HB.out (HKA.out.trans HK1.out)
  obtain ⟨p, rfl⟩ : ∃ p : Nat, i = p := ⟨i.toNat, by omega⟩
  have hp : p < cs.length := by omega
  have HB := hide (readB_in (m := dat cs ds) (i := p) HOk.out (by omega) (by show (p : Int) < ((cs.map Bs.L).length : Int); simpa using hp))
  have HDO := hide h
  clear h h0 h1
  go_enter Tryd.func25, Tryd.ntmps25
  go_wp2_with (go_at_call 24; refine (unhide HQ).mono ?_; rintro x w1 ⟨rfl, hk1⟩; have HK1 := hide hk1; obtain ⟨d0, d1⟩ := HD.out _ hk1; clear hk1)
  generalize w.alloc (.cells #[.slice ca cs.length cc, .slice da ds.length dc] 33) = W0 at *
  clear d0 d1
  go_loopw [6] (fun y wr => ∃ k : Nat, k ≤ ds.length ∧ y = .int .i64 ((k : Int) - 1) ∧ Hid (lastD ((ds.map Wr.key).drop k) p = none) ∧ Hid (Keeps W0 wr)) (fun y _ => (intOf y + 1).toNat)
  case atStart => exact ⟨ds.length, Nat.le_refl _, rfl, by show _ = _; rw [List.drop_of_length_le (by simp)]; rfl, HK1⟩
  case round =>
    obtain ⟨k, hk, rfl, HN, HKr⟩ := hrel
    obtain ⟨d0, d1⟩ := HD.out _ HKr.out
    by_cases hlt : 0 < k
    · obtain ⟨j, rfl⟩ : ∃ j, k = j + 1 := ⟨k - 1, by omega⟩
      have hj : j < ds.length := by omega
      rw [show (((j + 1 : Nat) : Int) - 1) = (j : Int) by omega]
      obtain ⟨b, off, ea, c0, c1⟩ := cell2 ((dsk_mem HM.out).2.2.1.kept HKr.out) j hj
      subst ea
      have HCx : Hid (Cells wr ds[j].b.a (bys ds[j].b.L)) := (mem_segW (dsk_mem HM.out).2.2.2 j hj).kept HKr.out
      have HNx := hide (HDO.out.nd _ (List.getElem_mem hj)).1
      have HLx : Hid (ds[j].b.L.length ≤ 4194304) := Nat.le_trans (totW_le (List.getElem_mem hj)) (Nat.le_trans HDO.out.td (by decide))
      have HHt := hide (fun he F => read_hit (cs := cs) (i := (p : Int)) hj he HN.out F)
      have HNt := hide (fun he => read_next (i := (p : Int)) hj he HN.out)
      generalize ds[j] = x at *
      obtain ⟨xi, xa, xc, xL⟩ := x
      dsimp only [Bs.v] at c0 c1 HCx HNx HLx HHt HNt
      by_cases he : xi = (p : Int)
      · subst he
        have HHit := hide (HHt.out rfl (fullL ((dat cs ds).cells.getD (p : Int).toNat [])))
        · skip
          have HC2 := hide (HCx.out.kept (Keeps.alloc (Keeps.refl wr) (.cells #[] 5)))
          have HO2 := hide (World.ownsRow_made (base := wr.heap.size) (e := 5) (size := 1) wr #[] 0 (Nat.le_refl _) (by decide) rfl)
          have HL2 : Hid (([] : List UInt8).length + xL.length ≤ 4194304) := by show _ ≤ _; have := HLx.out; simp; omega
          have hz : w.heap.size < wr.heap.size := by have := HKr.out.size; have := HZ.out; omega
          have hzb : b < wr.heap.size := lt_of_cell c1
          go_wp2_with (at_builtin; refine app_bys rfl (.tmp 37) (.tmp 43) rfl wr.heap.size _ [] xL rfl xa xc rfl HC2.out HNx.out HO2.out HL2.out (by simp) ?_; intro v3 w3 ho3 hg3)
          go_ret2
          have hk3 := Keeps.grown (Keeps.alloc (Keeps.refl wr) (.cells #[] 5)) hg3 (fun k hk => (HO2.out.lt k hk).1)
          exact ReadPost.yes HB.out HHit.out (OwnsB.older (by simpa using ho3) (HKA.out.trans HKr.out).size) (HKA.out.trans (HKr.out.trans hk3))
      · have hne : (xi == (p : Int)) = false := beq_eq_false_iff_ne.2 he
        have HNx2 := hide (HNt.out he)
        clear he
        go_wp2_with fail
        go_roundw
        case rel => exact ⟨j, by omega, rfl, HNx2, HKr⟩
        case measure => simp [intOf]
    · obtain rfl : k = 0 := by omega
      obtain ⟨b, off, ea, c0⟩ := cell1 ((dsk_mem HM.out).1.kept HKr.out) p hp
      subst ea
      have HCx : Hid (Cells wr cs[p].a (bys cs[p].L)) := (mem_seg (dsk_mem HM.out).2.1 p hp).kept HKr.out
      have HNx := hide (HDO.out.nc _ (List.getElem_mem hp)).1
      have HLx : Hid (cs[p].L.length ≤ 2097152) := Nat.le_trans (tot_le (List.getElem_mem hp)) (Nat.le_trans HDO.out.tc (by decide))
      have HMiss := hide (read_miss hp HN.out)
      have HLen : Hid (cs[p].L.length = 0 ∨ cs[p].L.length = 128) := dokM_cell HOk.out (List.mem_map.2 ⟨_, List.getElem_mem hp, rfl⟩)
      generalize cs[p] = x at *
      obtain ⟨xa, xc, xL⟩ := x
      dsimp only [Bs.v] at c0 HCx HNx HLx HMiss HLen
      · skip
        have HFu := hide (full_k xa xc xL wr HCx.out HNx.out HLx.out)
        go_wp2_with (go_at_call 43; refine (unhide HFu).mono ?_; rintro x w3 ⟨v3, rfl, ho3, hk3⟩)
        go_ret2
        exact ReadPost.yes HB.out HMiss.out (OwnsB.older ho3 (HKA.out.trans HKr.out).size) (HKA.out.trans (HKr.out.trans hk3))
end Go.Proofs.YtmkhlhjggbencaaDoor

/- A range over a function, told by the blocks that turn: one round, and the statement. -/
namespace Go.Proofs.YtmkhlhjggbencaaDoor
open Go.RowKit Go.Deep
set_option linter.unusedVariables false

/-- The record of a loop over a function. -/
def recOf (fn : FuncId) (tmps : Array Value) (ps : Array Tmp) (assign body : Code) (D : Nat) (st : LoopState) (pe : Option Code) : Loop :=
  { state := st, pending := pe, fn := fn, tmps := tmps, params := ps, assign := assign, body := body, defers := D }
/-- The record lies there in that state, and ahead of it the block of its rounds' deferred calls, with none. -/
def RL (R : LoopState → Option Code → Loop) (D : Nat) (st : LoopState) (pe : Option Code) (W : World) : Prop :=
  W.heap[D + 1]? = some (.loop (R st pe)) ∧ W.heap[D]? = some (.deferred (some []))
theorem RL.lt {R : LoopState → Option Code → Loop} {D : Nat} {st : LoopState} {pe : Option Code} {W : World} (h : RL R D st pe W) : D + 1 < W.heap.size := (Array.getElem?_eq_some_iff.1 h.1).1
theorem RL.turn {R : LoopState → Option Code → Loop} {D : Nat} {st : LoopState} {pe : Option Code} {W W' : World} {fs : List Nat} (h : RL R D st pe W) (ht : Turn fs W W') (h1 : D ∉ fs) (h2 : D + 1 ∉ fs) : RL R D st pe W' :=
  ⟨(ht.block _ h.lt h2).trans h.1, (ht.block _ (Nat.lt_of_succ_lt h.lt) h1).trans h.2⟩
theorem RL.kept {R : LoopState → Option Code → Loop} {D : Nat} {st : LoopState} {pe : Option Code} {W W' : World} (h : RL R D st pe W) (ht : Keeps W W') : RL R D st pe W' := h.turn (Turn.of_keeps ht []) (by simp) (by simp)
theorem turn_putObj (W : World) (l : Nat) (o : Obj) : Turn [l] W (W.putObj l o) :=
  ⟨rfl, rfl, rfl, by simp, fun k hk hn => World.putObj_heap_other (fun e => hn (by simp [e]))⟩
theorem RL.put {R : LoopState → Option Code → Loop} {D : Nat} {st : LoopState} {pe : Option Code} {W : World} (h : RL R D st pe W) (st' : LoopState) (pe' : Option Code) : RL R D st' pe' (W.putObj (D + 1) (.loop (R st' pe'))) :=
  ⟨World.putObj_heap_same h.lt, (World.putObj_heap_other (by omega)).trans h.2⟩

variable {F : Fence} {n : Nat} {P : Program}

/-- How a round may be left. -/
def RoundEnd (R : LoopState → Option Code → Loop) (D : Nat) (G : World → Prop) (Gx : Code → World → Prop) : Exit → Act → World → Prop
  | .normal, _, W => RL R D .busy none W ∧ ∀ W', Turn [D + 1] W W' → G W'
  | .ret, _, W => RL R D .busy none W ∧ ∀ W', Turn [D + 1] W W' → Gx .ret W'
  | .exit id, _, W => RL R D .busy none W ∧ ∀ W', Turn [D + 1] W W' → Gx (.exit id) W'
  | .goto t, _, W => RL R D .busy none W ∧ ∀ W', Turn [D + 1] W W' → Gx (.goto t) W'
  | .panic _, _, _ => False
  | .outgrown, _, _ => False

/-- What a round says to its iterator. -/
def RoundSays (R : LoopState → Option Code → Loop) (D : Nat) (G : World → Prop) (Gx : Code → World → Prop) (e : Ending) (W : World) : Prop :=
  (e = .returned (.bool true) ∧ G W ∧ RL R D .ready none W) ∨ (e = .returned (.bool false) ∧ ∃ c, Gx c W ∧ RL R D .done (some c) W)

theorem yield_round {fn : FuncId} {tmps : Array Value} {ps : Array Tmp} {assign body : Code} {D : Nat} {args : Array Value} {W : World} {G : World → Prop} {Gx : Code → World → Prop}
    (hfn : F.fn fn) (hr : RL (recOf fn tmps ps assign body D) D .ready none W) (hps : args.size = ps.size)
    (h : assign.wpIn (F.inRound (D + 1)) n P (Exit.then (fun a₁ w₁ => RL (recOf fn tmps ps assign body D) D .ready none w₁ ∧
        ∀ w₂, Turn [D + 1] w₁ w₂ → RL (recOf fn tmps ps assign body D) D .busy none w₂ → body.wpIn (F.inRound (D + 1)) n P (RoundEnd (recOf fn tmps ps assign body D) D G Gx) a₁ w₂) (fun _ _ _ => False))
      { tmps := (ps.zip args).foldl (fun t (p, v) => t.setIfInBounds p v) tmps, defers := [] } W) :
    YieldAt F n P (D + 1) args W (RoundSays (recOf fn tmps ps assign body D) D G Gx) := by
  have hy := run_yield (P := P) (args := args) hr.1 hps
  refine ⟨fn, _, assign, body, hy, roundIn_of_wpIn hfn (wpIn_mono h ?_)⟩
  intro e a₁ w₁ hq
  cases e with
  | normal =>
    obtain ⟨hl, hb⟩ := hq
    refine ⟨_, run_beginRound hl.1 rfl, wpIn_mono (hb _ (turn_putObj _ _ _) (hl.put .busy none)) ?_⟩
    intro e2 a2 w2 hp
    cases e2 with
    | normal =>
      obtain ⟨hl2, hg⟩ := hp
      exact ⟨_, _, run_endRound none hl2.1, .inl ⟨rfl, hg _ (turn_putObj _ _ _), hl2.put .ready none⟩⟩
    | ret =>
      obtain ⟨hl2, hg⟩ := hp
      exact ⟨_, _, run_endRound (some .ret) hl2.1, .inr ⟨rfl, _, hg _ (turn_putObj _ _ _), hl2.put .done (some .ret)⟩⟩
    | exit id =>
      obtain ⟨hl2, hg⟩ := hp
      exact ⟨_, _, run_endRound (some (.exit id)) hl2.1, .inr ⟨rfl, _, hg _ (turn_putObj _ _ _), hl2.put .done (some (.exit id))⟩⟩
    | goto t =>
      obtain ⟨hl2, hg⟩ := hp
      exact ⟨_, _, run_endRound (some (.goto t)) hl2.1, .inr ⟨rfl, _, hg _ (turn_putObj _ _ _), hl2.put .done (some (.goto t))⟩⟩
    | panic ch => exact hp.elim
    | outgrown => exact hp.elim
  | exit id => exact hq
  | goto t => exact hq
  | ret => exact hq
  | panic ch => exact hq
  | outgrown => exact hq

/-- The statement: the iterator's contract at this loop's record, and what follows. -/
theorem wp_range {g : Operand} {ps : Array Tmp} {assign body : Code} {Q : Exit → Act → World → Prop} {a : Act} {w : World}
    (hro : F.round = none) (h1 : 1 ≤ n) {gf : Nat} {lb : Array Value} (hg : a.eval g = .func (.func gf) #[] lb) (hFg : F.fn gf) (eg : ∀ args w, (callFunc gf args).run P w = .ok (.enter gf args) w)
    (G : World → Prop) (Gx : Code → World → Prop)
    (hit : ∀ fn, F.fn fn → ∀ W1, Keeps w W1 → W1.heap.size = w.heap.size + 2 → RL (recOf fn a.tmps ps assign body w.heap.size) w.heap.size .ready none W1 →
      CallsIn F (n - 1) P gf (#[.func (.yield (w.heap.size + 1)) #[] #[]] ++ lb) W1 (fun e W' => (∃ v, e = .returned v) ∧ ((G W' ∧ RL (recOf fn a.tmps ps assign body w.heap.size) w.heap.size .ready none W') ∨ (∃ c, Gx c W' ∧ RL (recOf fn a.tmps ps assign body w.heap.size) w.heap.size .done (some c) W'))))
    (hdone : ∀ W W', G W → Turn [w.heap.size + 1] W W' → W'.heap[w.heap.size]? = some (.deferred (some [])) → Q .normal { a with defers := { target := .collected w.heap.size, args := #[] } :: a.defers } W')
    (hstop : ∀ c W W', Gx c W → Turn [w.heap.size + 1] W W' → W'.heap[w.heap.size]? = some (.deferred (some [])) → c.wpIn F n P Q { a with defers := { target := .collected w.heap.size, args := #[] } :: a.defers } W') :
    (Code.rangeFunc g ps assign body).wpIn F n P Q a w := by
  refine wpIn_rangeFunc ?_
  intro fn hfn
  rw [hro]
  obtain ⟨W1, hW1⟩ : ∃ W1, (w.alloc (.deferred (some []))).alloc (.loop (recOf fn a.tmps ps assign body w.heap.size .ready none)) = W1 := ⟨_, rfl⟩
  have hL1 : RL (recOf fn a.tmps ps assign body w.heap.size) w.heap.size .ready none W1 := by
    refine ⟨?_, ?_⟩
    · rw [← hW1]; have := World.alloc_heap_new (w.alloc (.deferred (some []))) (.loop (recOf fn a.tmps ps assign body w.heap.size .ready none)); rwa [World.size_alloc] at this
    · rw [← hW1]; exact (Below.heap_alloc _ _ _ (by simp)).trans (World.alloc_heap_new w _)
  have hk1 : Keeps w W1 := by rw [← hW1]; exact ((Keeps.refl w).alloc _).alloc _
  have hs1 : W1.heap.size = w.heap.size + 2 := by rw [← hW1]; simp
  refine ⟨w.heap.size + 1, [{ target := .collected w.heap.size, args := #[] }], W1, { target := .fn (.func gf) lb, args := #[.func (.yield (w.heap.size + 1)) #[] #[]] }, W1, gf,
    #[.func (.yield (w.heap.size + 1)) #[] #[]] ++ lb, W1, ?_, ?_, ?_, ?_, fun _ => h1, ?_⟩
  · rw [← hW1]; exact run_enterLoop_outer _ _ _ _ _
  · simp only [resolve, hg]
    simp [go_sem]
  · intro f' hf'; simp [Target.leads] at hf'; subst hf'; exact hFg
  · simp [invoke, go_sem, eg]
  · refine (hit fn hfn W1 hk1 hs1 hL1).mono ?_
    rintro e W2 ⟨⟨v, rfl⟩, (⟨hG, hl⟩ | ⟨c, hG, hl⟩)⟩
    · exact ⟨none, _, run_endLoop hl.1 (by simp [recOf]), hdone _ _ hG (turn_putObj _ _ _) ((World.putObj_heap_other (by omega)).trans hl.2)⟩
    · exact ⟨some c, _, run_endLoop hl.1 (by simp [recOf]), hstop c _ _ hG (turn_putObj _ _ _) ((World.putObj_heap_other (by omega)).trans hl.2)⟩
end Go.Proofs.YtmkhlhjggbencaaDoor

/- All sectors of a disk: the iterator's contract. -/
namespace Go.Proofs.YtmkhlhjggbencaaDoor
open Go.RowKit Go.Deep Go.Shelf
set_option linter.unusedVariables false
set_option maxRecDepth 10000
attribute [local go_sem] Oper.semAt_some

set_option maxHeartbeats 4000000 in
theorem secread_nil (w : World) (u : TypeId) (pv : Value) (hv : w.cell? ⟨0, 0, none⟩ = some (.iface u pv)) :
    Calls Tryd.prog 54 #[.slice none 0 0] w (SrPost w []) := by
  have hB : srB [] = false := rfl
  have hmf : ∀ (fn : Fn) (first cap : Array Value) (w : World), (Instr.makeFunc fn first cap).run Tryd.prog w = .ok (.func fn first cap) w := fun _ _ _ _ => rfl
  have hk3 := threeS_keeps w none 0 0
  have HE := hide (sector_len (w.heap.size + 1 + 1) none 0 0 (threeS w none 0 0) u pv (hk3.cell hv) (threeS_rd w none [] 0).data (by decide) (by decide))
  have HO := hide (threeS_own w none 0 0)
  have H1 := hide (threeS_b w none 0 0)
  have H2 := hide (threeS_zb w none 0 0)
  have HK := hide hk3
  have HSZ : Hid ((threeS w none 0 0).heap.size = w.heap.size + 3) := by show _ = _; simp
  have HB := hide hB
  clear hk3 hv
  go_enter_defers Tryd.func54, Tryd.ntmps54
  go_wp2_with fail
  go_at_call 67
  refine (unhide HE).mono ?_
  rintro e w1 ⟨rfl, ht⟩
  have hO := HO.out.turn ht (fun x hx hb => by
    rw [fp_one, fpS_some (by simp)] at hx
    simp at hx hb
    omega)
  have t1 := ht.cell (p := ⟨w.heap.size + 1, 0, none⟩) (by simp) H1.out
  have z1 : w1.frozen? ⟨w.heap.size + 1, 0, none⟩ = false := by rw [← H2.out]; exact World.frozen?_of_block (ht.block _ (by simp) (by simp))
  have hk1 : Keeps w w1 := ht.keeps HK.out (fun x hx => by simp at hx; omega)
  clear ht HE HO H1 H2 HK HSZ
  have hO2 := own_setB (a := ⟨w.heap.size + 1, 0, none⟩) (own_threeB hO (.int .i64 0) (.int .i64 0) (.slice none 0 0)) (.bool false) (fp_ne (by simp))
  have hk2 := (keeps_threeB hk1 (Nat.le_refl _) (.int .i64 0) (.int .i64 0) (.slice none 0 0)).setCell (p := ⟨w.heap.size + 1, 0, none⟩) (Nat.le_succ _) (.bool false)
  have e8 := World.cell?_setCell_same (((w1.setCell ⟨w.heap.size, 0, none⟩ (.int .i64 0)).setCell ⟨w.heap.size, 1, none⟩ (.int .i64 0)).setCell ⟨w.heap.size, 2, none⟩ (.slice none 0 0)) ⟨w.heap.size + 1, 0, none⟩ (.bool false) (three_other (R := w.heap.size) (p := ⟨w.heap.size + 1, 0, none⟩) (by simp) t1 (.int .i64 0) (.int .i64 0) (.slice none 0 0))
  have e0 := cell_at hO2.mem 0 (by simp)
  have e1 := cell_at hO2.mem 1 (by simp)
  have e2 := cell_at hO2.mem 2 (by simp)
  simp only [Nat.zero_add, List.getElem_cons_zero, List.getElem_cons_succ] at e0 e1 e2
  have hP := SrPost.no HB.out hk2
  refine leaves_cons (f := 66) (args := #[.pointer (some ⟨w.heap.size, 0, none⟩), .pointer (some ⟨w.heap.size + 1, 0, none⟩)]) (by simp) rfl ?_
  refine (catchS_panic w.heap.size (w.heap.size + 1) (by omega) _ _ _ _ u pv [] w1 hO t1 z1).mono ?_
  rintro e u' w' ⟨rfl, rfl, hw'⟩
  rw [← hw'] at e0 e1 e2 e8 hP
  simp [Leaves, settle, results, Tryd.results54, go_sem, e0, e1, e2, e8]
  exact hP
/-- SectorRead of a list of bytes that the call itself made. -/
theorem secread_own (v : Value) (L : List UInt8) (base : Nat) (w : World) (u : TypeId) (pv : Value) (hv : w.cell? ⟨0, 0, none⟩ = some (.iface u pv)) (ho : OwnsB w base v L) (hl : L.length ≤ 16777216) :
    Calls Tryd.prog 54 #[v] w (SrPost w L) := by
  obtain ⟨a, cap, e1, e2, e3, e4, e5, _⟩ := Own.of_owns ho
  have hc := e5.one
  rcases ho.2 with ⟨rfl, _⟩ | ⟨g, c, _, rfl, _⟩
  · have h1 : L = [] := by
      injection e1 with e6 e7 e8
      exact List.length_eq_zero_iff.1 e7.symm
    subst h1
    exact secread_nil w u pv hv
  · injection e1 with e6 e7 e8
    rw [← e6] at hc
    rw [← e8] at e2 e3
    exact secread_impl g 0 L c w u pv hv hc hl e2 (Nat.le_trans e3 (by decide))
/-- What the iterator reads of the disk, wherever it stands. -/
def AllAt (Bx : Nat) (ca : Option Addr) (cc : Nat) (cs : List Bs) (da : Option Addr) (dc : Nat) (ds : List Wr) (u : TypeId) (pv : Value) (W : World) : Prop :=
  W.cell? ⟨Bx, 0, none⟩ = some (.slice ca cs.length cc) ∧ W.cell? ⟨Bx, 1, none⟩ = some (.slice da ds.length dc) ∧ Mem W (dsk ca cs da ds) ∧ W.cell? ⟨0, 0, none⟩ = some (.iface u pv)
theorem AllAt.kept {Bx : Nat} {ca : Option Addr} {cc : Nat} {cs : List Bs} {da : Option Addr} {dc : Nat} {ds : List Wr} {u : TypeId} {pv : Value} {W W' : World} (h : AllAt Bx ca cc cs da dc ds u pv W) (hk : Keeps W W') : AllAt Bx ca cc cs da dc ds u pv W' :=
  ⟨hk.cell h.1, hk.cell h.2.1, h.2.2.1.kept hk, hk.cell h.2.2.2⟩
set_option maxHeartbeats 8000000 in
theorem all_in (n l Bx : Nat) (ca : Option Addr) (cc : Nat) (cs : List Bs) (da : Option Addr) (dc : Nat) (ds : List Wr) (u : TypeId) (pv : Value) (J : Nat → World → Prop) (Jx : World → Prop) (hd : DOk cs ds)
    (hJ : ∀ k W, J k W → AllAt Bx ca cc cs da dc ds u pv W)
    (hA : ∀ k W W', J k W → Keeps W W' → J k W')
    (hS : ∀ k W, k < cs.length → J k W → srB (readL (dat cs ds) k) = false → J (k + 1) W)
    (hY : ∀ k W W' a c, k < cs.length → J k W → srB (readL (dat cs ds) k) = true → CapB a c (srL (readL (dat cs ds) k)).length → Born W W' [(a, bys (srL (readL (dat cs ds) k)))] → Keeps W W' →
      YieldAt Fence.wide (n - 1) Tryd.prog l #[.int .i64 (k : Nat), secV (srQ (readL (dat cs ds) k)) (srE (readL (dat cs ds) k)) a (srL (readL (dat cs ds) k)).length c] W' fun e W'' =>
        (e = .returned (.bool true) ∧ J (k + 1) W'') ∨ (e = .returned (.bool false) ∧ Jx W''))
    (W : World) (h0 : J 0 W) :
    CallsIn Fence.wide n Tryd.prog 52 #[.func (.yield l) #[] #[], .pointer (some ⟨Bx, 0, none⟩)] W fun e W' => (∃ v, e = .returned v) ∧ (J cs.length W' ∨ Jx W') := by
  refine callsIn_of_wp Tryd.func52 rfl trivial ?_ rfl
  simp only [Tryd.ntmps52, List.size_toArray, List.length_cons, List.length_nil, Nat.reduceAdd, Nat.reduceSub, Array.replicate_succ, Array.replicate_zero, List.push_toArray, List.append_toArray, List.nil_append, List.cons_append]
  obtain ⟨c0, c1, hm, hv⟩ := hJ 0 W h0
  have HJ := hide hJ
  have HA := hide hA
  have HSk := hide hS
  have HY := hide hY
  have HD := hide hd
  have hcl := hd.c
  have HM := hide hm
  have HV := hide hv
  clear hJ hA hS hY hd hm hv
  gi_wp2
  gi_loopw [11] (fun p wr => ∃ k : Nat, k ≤ cs.length ∧ p = .int .i64 (k : Int) ∧ Hid (J k wr)) (fun p _ => cs.length - (intOf p).toNat)
  case atStart => exact ⟨0, Nat.zero_le _, rfl, hide h0⟩
  case round =>
    obtain ⟨k, hk, rfl, HJk⟩ := hrel
    clear c0 c1 HM HV
    by_cases hlt : k < cs.length
    · obtain ⟨c0, c1, hm, hv⟩ := HJ.out k wr HJk.out
      have HR := hide (diskread_impl ca cc cs da dc ds (k : Nat) wr hm HD.out)
      have HV := hide hv
      clear hm hv
      gi_wp2
      refine ⟨trivial, nofun, (callsIn_wide.2 HR.out).mono ?_⟩
      rintro e w1 ⟨v, rfl, ho, hk1⟩
      clear HR
      have HR := hide (secread_own v _ _ w1 u pv (hk1.cell HV.out) ho (Nat.le_trans (readL_len _ _) (by decide)))
      have HK1 := hide hk1
      clear ho hk1 HV c0 c1
      gi_wp2
      refine ⟨trivial, nofun, (callsIn_wide.2 HR.out).mono ?_⟩
      rintro e w2 ⟨a, c, rfl, hac, hb, hk2⟩
      clear HR
      cases hB : srB (readL (dat cs ds) k)
      · have HJ2 := hide (HSk.out k _ hlt (HA.out k _ _ HJk.out ((HK1.out.trans hk2).alloc (.cells #[.int .i64 (srQ (readL (dat cs ds) k)), .int .i64 (srE (readL (dat cs ds) k)), .slice a (srL (readL (dat cs ds) k)).length c] 52))) hB)
        clear hb hk2 hac
        gi_wp2
        refine ⟨fun _ h => (by cases h), ?_⟩
        gi_wp2
        go_roundw
        case rel => exact ⟨k + 1, by omega, by go_num, HJ2⟩
        case measure => simp [intOf]; omega
      · have hk3 := (HK1.out.trans hk2).alloc (.cells #[.int .i64 (srQ (readL (dat cs ds) k)), .int .i64 (srE (readL (dat cs ds) k)), .slice a (srL (readL (dat cs ds) k)).length c] 52)
        have hb3 := (hb.old HK1.out).kept ((Keeps.refl w2).alloc (.cells #[.int .i64 (srQ (readL (dat cs ds) k)), .int .i64 (srE (readL (dat cs ds) k)), .slice a (srL (readL (dat cs ds) k)).length c] 52))
        obtain ⟨fn, tmps, assign, body, hy, hR⟩ := HY.out k wr _ a c hlt HJk.out hB hac hb3 hk3
        clear hb hk2 hac hk3 hb3
        gi_wp2
        refine ⟨nofun, hR.mono ?_⟩
        rintro e W3 (⟨rfl, hJ3⟩ | ⟨rfl, hJx3⟩)
        · have HJ3 := hide hJ3
          clear hJ3 hy hR
          gi_wp2
          go_roundw
          case rel => exact ⟨k + 1, by omega, by go_num, HJ3⟩
          case measure => simp [intOf]; omega
        · clear hy hR
          gi_wp2
          refine bodyPost_ret (results_none rfl _ _ _) rfl ?_
          exact ⟨⟨_, rfl⟩, .inr hJx3⟩
    · have e : k = cs.length := by omega
      subst e
      gi_wp2
      go_end0
      exact ⟨⟨_, rfl⟩, .inl HJk.out⟩
end Go.Proofs.YtmkhlhjggbencaaDoor

/- What a log says, by what its disk says. -/
namespace Go.Proofs.YtmkhlhjggbencaaDoor
open Go.RowKit Go.Deep
set_option linter.unusedVariables false

/-- The greatest epoch in the cells ahead of k. -/
def topTo (m : DkM) : Nat → Int
  | 0 => 0
  | k + 1 => if srB (readL m k) = true ∧ topTo m k < srE (readL m k) then srE (readL m k) else topTo m k
def topM (m : DkM) : Int := topTo m m.cells.length
theorem topTo_skip {m : DkM} {k : Nat} (h : srB (readL m k) = false) : topTo m (k + 1) = topTo m k := by simp [topTo, h]
theorem topTo_max {m : DkM} {k : Nat} (h : srB (readL m k) = true) : topTo m (k + 1) = max (topTo m k) (srE (readL m k)) := by
  simp only [topTo, h, true_and]
  split <;> omega
/-- Of a disk that isn't right nothing is read. -/
theorem readL_bad {m : DkM} (h : dokM m = false) (i : Int) : readL m i = [] := by unfold readL; rw [readB_dok h]; rfl
theorem topTo_bad {m : DkM} (h : dokM m = false) : ∀ k, topTo m k = 0
  | 0 => rfl
  | k + 1 => by rw [topTo_skip (by rw [readL_bad h]; rfl)]; exact topTo_bad h k
/-- The epoch ahead of cell k, if all ahead of it fit. -/
def lastE (m : DkM) : Nat → Int
  | 0 => 0
  | k + 1 => srE (readL m k)
/-- Does cell k fit? -/
def fitB (m : DkM) (k : Nat) : Bool := srB (readL m k) && decide (srQ (readL m k) = k) && decide (lastE m k ≤ srE (readL m k))
def fitTo (m : DkM) (k : Nat) : Prop := ∀ j, j < k → fitB m j = true
/-- How many cells fit, from the first on, of those ahead of n. -/
def logTo (m : DkM) : Nat → Nat
  | 0 => 0
  | n + 1 => if logTo m n = n ∧ fitB m n = true then n + 1 else logTo m n
def logN (m : DkM) : Nat := logTo m m.cells.length
theorem logTo_le (m : DkM) : ∀ n, logTo m n ≤ n
  | 0 => Nat.le_refl _
  | n + 1 => by
    unfold logTo
    split
    · exact Nat.le_refl _
    · exact Nat.le_succ_of_le (logTo_le m n)
theorem logTo_all {m : DkM} : ∀ {n : Nat}, fitTo m n → logTo m n = n
  | 0, _ => rfl
  | n + 1, h => by
    unfold logTo
    rw [if_pos ⟨logTo_all (fun j hj => h j (by omega)), h n (by omega)⟩]
theorem logTo_stop {m : DkM} {k : Nat} (hf : fitTo m k) (hn : fitB m k = false) : ∀ {n : Nat}, k ≤ n → logTo m n = k
  | 0, h => by have : k = 0 := by omega
               subst this; rfl
  | n + 1, h => by
    by_cases e : k = n + 1
    · subst e; exact logTo_all hf
    · have h1 := logTo_stop hf hn (n := n) (by omega)
      unfold logTo
      rw [if_neg ?_]
      · exact h1
      · rintro ⟨h2, h3⟩
        have : k = n := by omega
        subst this
        rw [hn] at h3
        exact Bool.noConfusion h3
theorem fitTo_succ {m : DkM} {k : Nat} (h : fitTo m k) (hk : fitB m k = true) : fitTo m (k + 1) := fun j hj => by
  by_cases e : j = k
  · subst e; exact hk
  · exact h j (by omega)
theorem fitTo_log {m : DkM} : ∀ n, fitTo m (logTo m n)
  | 0 => fun j hj => absurd hj (by simp [logTo])
  | n + 1 => by
    unfold logTo
    split
    · next h => 
      have := fitTo_log (m := m) n
      rw [h.1] at this
      exact fitTo_succ this h.2
    · exact fitTo_log n
end Go.Proofs.YtmkhlhjggbencaaDoor

/- LogTop of the program. -/
namespace Go.Proofs.YtmkhlhjggbencaaDoor
open Go.RowKit Go.Deep Go.Shelf
set_option linter.unusedVariables false
set_option maxRecDepth 10000
attribute [local go_sem] Oper.semAt_some

theorem all_make (ca : Option Addr) (cc : Nat) (cs : List Bs) (da : Option Addr) (dc : Nat) (ds : List Wr) (w : World) :
    Calls Tryd.prog 37 #[dskV ca cs.length cc da ds.length dc] w fun e w' => e = .returned (.func (.func 52) #[] #[.pointer (some ⟨w.heap.size, 0, none⟩)]) ∧ w' = w.alloc (.cells #[.slice ca cs.length cc, .slice da ds.length dc] 33) := by
  have hmf : ∀ (fn : Fn) (first cap : Array Value) (w : World), (Instr.makeFunc fn first cap).run Tryd.prog w = .ok (.func fn first cap) w := fun _ _ _ _ => rfl
  go_enter Tryd.func37, Tryd.ntmps37
  go_wp2_with fail
  go_ret
  exact ⟨rfl, rfl⟩
theorem AllAt.turn {Bx : Nat} {ca : Option Addr} {cc : Nat} {cs : List Bs} {da : Option Addr} {dc : Nat} {ds : List Wr} {u : TypeId} {pv : Value} {W W' : World} (h : AllAt Bx ca cc cs da dc ds u pv W) {fs : List Nat} (ht : Turn fs W W') (h1 : Bx ∉ fs) (h2 : ∀ x ∈ fp (dsk ca cs da ds), x ∉ fs) (h3 : 0 ∉ fs) : AllAt Bx ca cc cs da dc ds u pv W' :=
  ⟨ht.cell h1 h.1, ht.cell h1 h.2.1, h.2.2.1.turn ht h2, ht.cell h3 h.2.2.2⟩
/-- Between two rounds of LogTop. -/
structure TopI (w : World) (ca : Option Addr) (cc : Nat) (cs : List Bs) (da : Option Addr) (dc : Nat) (ds : List Wr) (u : TypeId) (pv : Value) (k : Nat) (W : World) : Prop where
  at_ : AllAt (w.heap.size + 1 + 1) ca cc cs da dc ds u pv W
  top : W.cell? ⟨w.heap.size + 1, 0, none⟩ = some (.int .i64 (topTo (dat cs ds) k))
  free : W.frozen? ⟨w.heap.size + 1, 0, none⟩ = false
  kept : Keeps w W
  size : w.heap.size + 3 ≤ W.heap.size
theorem TopI.turn {w : World} {ca : Option Addr} {cc : Nat} {cs : List Bs} {da : Option Addr} {dc : Nat} {ds : List Wr} {u : TypeId} {pv : Value} {k : Nat} {W W' : World} (h : TopI w ca cc cs da dc ds u pv k W) {fs : List Nat} (ht : Turn fs W W') (hb : ∀ x ∈ fs, w.heap.size + 3 ≤ x) (h2 : ∀ x ∈ fp (dsk ca cs da ds), x < w.heap.size) (h3 : 0 < w.heap.size) : TopI w ca cc cs da dc ds u pv k W' :=
  ⟨h.at_.turn ht (fun hx => by have := hb _ hx; omega) (fun x hx hy => by have := h2 x hx; have := hb _ hy; omega) (fun hx => by have := hb _ hx; omega),
   ht.cell (fun hx => by have := hb _ hx; dsimp only at this; omega) h.top,
   by rw [← h.free]; exact World.frozen?_of_block (ht.block _ (by have := h.size; show w.heap.size + 1 < _; omega) (fun hx => by have := hb _ hx; dsimp only at this; omega)),
   ht.keeps h.kept (fun x hx => by have := hb x hx; omega), Nat.le_trans h.size ht.size⟩
theorem TopI.later {w : World} {ca : Option Addr} {cc : Nat} {cs : List Bs} {da : Option Addr} {dc : Nat} {ds : List Wr} {u : TypeId} {pv : Value} {k : Nat} {W W' : World} (h : TopI w ca cc cs da dc ds u pv k W) (ht : Keeps W W') : TopI w ca cc cs da dc ds u pv k W' :=
  ⟨h.at_.kept ht, ht.cell h.top, by rw [ht.oldF _ _ (by have := h.size; omega)]; exact h.free, h.kept.trans ht, Nat.le_trans h.size ht.size⟩
set_option maxHeartbeats 8000000 in
theorem logtop_impl (ca : Option Addr) (cc : Nat) (cs : List Bs) (da : Option Addr) (dc : Nat) (ds : List Wr) (w : World) (u : TypeId) (pv : Value) (hv : w.cell? ⟨0, 0, none⟩ = some (.iface u pv)) (hm : Mem w (dsk ca cs da ds)) (h : DOk cs ds) :
    Calls Tryd.prog 16 #[dskV ca cs.length cc da ds.length dc] w fun e w' => e = .returned (.int .i64 (topM (dat cs ds))) ∧ Keeps w w' := by
  obtain ⟨n, hn⟩ : ∃ n, 9 ≤ n := ⟨9, Nat.le_refl _⟩
  refine (callsIn_wide (n := n)).1 ?_
  refine callsIn_of_wp_marks Tryd.func16 rfl trivial ?_ rfl
  simp only [Tryd.ntmps16, List.size_toArray, List.length_cons, List.length_nil, Nat.reduceAdd, Nat.reduceSub, Array.replicate_succ, Array.replicate_zero, List.push_toArray, List.append_toArray, List.nil_append, List.cons_append]
  have HV := hide hv
  have HM := hide hm
  have HD := hide h
  clear hv hm h
  gi_wp2
  refine ⟨trivial, nofun, (callsIn_wide.2 (all_make ca cc cs da dc ds _)).mono ?_⟩
  rintro e w1 ⟨rfl, rfl⟩
  gi_wp2
  have hlt := HM.out.lt
  have hgl := lt_of_cell HV.out
  obtain ⟨W0, hW0⟩ : ∃ W0, ((w.alloc (.cells #[.slice ca cs.length cc, .slice da ds.length dc] 33)).alloc (.cells #[.int .i64 0] 3)).alloc (.cells #[.slice ca cs.length cc, .slice da ds.length dc] 33) = W0 := ⟨_, rfl⟩
  have hs0 : W0.heap.size = w.heap.size + 3 := by rw [← hW0]; simp
  have hk0 : Keeps w W0 := by rw [← hW0]; exact ((Keeps.refl w).alloc _).alloc _ |>.alloc _
  have hbx := (born_alloc ((w.alloc (.cells #[.slice ca cs.length cc, .slice da ds.length dc] 33)).alloc (.cells #[.int .i64 0] 3)) #[.slice ca cs.length cc, .slice da ds.length dc] 33).toOwn
  have htb := (born_alloc (w.alloc (.cells #[.slice ca cs.length cc, .slice da ds.length dc] 33)) #[.int .i64 0] 3).toOwn.kept (Keeps.alloc (Keeps.refl _) (.cells #[.slice ca cs.length cc, .slice da ds.length dc] 33))
  rw [hW0] at hbx htb
  simp only [World.size_alloc] at hbx htb
  have cb0 := cell_at hbx.mem 0 (by simp)
  have cb1 := cell_at hbx.mem 1 (by simp)
  have ct0 := cell_at htb.mem 0 (by simp)
  have cf0 := htb.free (w.heap.size + 1) (by simp [fp, fpS]) 0
  simp only [Nat.zero_add, List.getElem_cons_zero, List.getElem_cons_succ] at cb0 cb1 ct0
  have hI0 : TopI w ca cc cs da dc ds u pv 0 W0 :=
    ⟨⟨cb0, cb1, HM.out.kept hk0, hk0.cell HV.out⟩, ct0, cf0, hk0, by omega⟩
  rw [hW0]
  have HS0 := hide hs0
  clear hW0 hs0 hbx htb cf0 cb0 cb1 ct0
  refine wp_range rfl (by omega) (gf := 52) (lb := #[.pointer (some ⟨w.heap.size + 1 + 1, 0, none⟩)]) rfl trivial (enters_of Tryd.func52 (by kernel_rfl) rfl) (fun W => TopI w ca cc cs da dc ds u pv cs.length W) (fun _ _ => False) ?_ ?_ ?_
  · intro fn hfn W1 hk1 hs1 hr1
    generalize hR : recOf fn _ _ _ _ _ = R at hr1 ⊢
    refine (all_in (n - 1) (W0.heap.size + 1) (w.heap.size + 1 + 1) ca cc cs da dc ds u pv (fun k W => TopI w ca cc cs da dc ds u pv k W ∧ RL R W0.heap.size .ready none W) (fun _ => False) HD.out ?_ ?_ ?_ ?_ W1 ⟨hI0.later hk1, hr1⟩).mono ?_
    · rintro k W ⟨h, _⟩
      exact h.at_
    · rintro k W W' ⟨h, h'⟩ hk
      exact ⟨h.later hk, h'.kept hk⟩
    · rintro k W _ ⟨h, h'⟩ hB
      exact ⟨⟨h.at_, by rw [topTo_skip hB]; exact h.top, h.free, h.kept, h.size⟩, h'⟩
    · rintro k W W' a c hkl ⟨h, h'⟩ hB hac hb hk
      have h2 := h.later hk
      have hr2 := h'.kept hk
      clear h h' hb hk hac
      subst hR
      refine YieldAt.mono (yield_round (G := fun W => TopI w ca cc cs da dc ds u pv (k + 1) W) (Gx := fun _ _ => False) hfn hr2 rfl ?_) ?_
      · generalize recOf fn _ _ _ _ _ = R at hr2 ⊢
        gi_wp2
        have hka := Keeps.alloc (Keeps.refl W') (.cells #[.int .i64 (srQ (readL (dat cs ds) k)), .int .i64 (srE (readL (dat cs ds) k)), .slice a (srL (readL (dat cs ds) k)).length c] 52)
        have hbo := (born_alloc W' #[.int .i64 (srQ (readL (dat cs ds) k)), .int .i64 (srE (readL (dat cs ds) k)), .slice a (srL (readL (dat cs ds) k)).length c] 52).toOwn
        generalize W'.alloc (.cells #[.int .i64 (srQ (readL (dat cs ds) k)), .int .i64 (srE (readL (dat cs ds) k)), .slice a (srL (readL (dat cs ds) k)).length c] 52) = W2 at *
        refine ⟨hr2.kept hka, fun W3 ht hr3 => ?_⟩
        have hl2 := hr2.lt
        have h3 := (h2.later hka).turn ht (fun x hx => by simp at hx; have := HS0.out; omega) hlt hgl
        have hb3 := hbo.turn ht (fun x hx hy => by simp [fp, fpS] at hx hy; have := HS0.out; omega)
        have s1 := cell_at hb3.mem 1 (by simp)
        simp only [Nat.zero_add, List.getElem_cons_zero, List.getElem_cons_succ] at s1
        have t0 := h3.top
        have t1 := h3.free
        have HI := hide h3
        have HR3 := hide hr3
        clear h2 hr2 hka hbo ht h3 hr3 hb3 hl2
        gi_wp2
        all_goals
          refine ⟨HR3.out.turn (Turn.set (fs := [w.heap.size + 1]) (by simp) _) (by simp <;> (have := HS0.out; omega)) (by simp <;> (have := HS0.out; omega)), fun W4 ht => ?_⟩
          have h := HI.out
          have hts : Turn [w.heap.size + 1] W3 (W3.setCell ⟨w.heap.size + 1, 0, none⟩ (.int .i64 (topTo (dat cs ds) (k + 1)))) := Turn.set (by simp) _
          have h5 : TopI w ca cc cs da dc ds u pv (k + 1) (W3.setCell ⟨w.heap.size + 1, 0, none⟩ (.int .i64 (topTo (dat cs ds) (k + 1)))) :=
            ⟨h.at_.turn hts (by simp) (fun x hx hy => by have := hlt x hx; simp at hy; omega) (by simp <;> omega), World.cell?_setCell_same _ _ _ h.top, by simp [h.free],
             hts.keeps h.kept (fun x hx => by simp at hx; omega), Nat.le_trans h.size hts.size⟩
          have e : ∀ z, topTo (dat cs ds) (k + 1) = z → TopI w ca cc cs da dc ds u pv (k + 1) (W3.setCell ⟨w.heap.size + 1, 0, none⟩ (.int .i64 z)) := fun z hz => hz ▸ h5
          refine (e _ ?_).turn ht (fun x hx => by simp at hx; have := HS0.out; omega) hlt hgl
          rw [topTo_max hB]
          omega
      · rintro e W'' (⟨he, hg, hr⟩ | ⟨_, _, hf, _⟩)
        · exact .inl ⟨he, hg, hr⟩
        · exact hf.elim
    · rintro e W2 ⟨hv, (⟨h, h'⟩ | hf)⟩
      · exact ⟨hv, .inl ⟨h, h'⟩⟩
      · exact hf.elim
  · intro W W' hG ht hK
    have h2 := hG.turn ht (fun x hx => by simp at hx; have := HS0.out; omega) hlt hgl
    have t0 := h2.top
    have HI := hide h2
    clear h2 hG
    gi_wp2
    refine ⟨by simp, .inl ⟨_, _, rfl, run_takeDeferred hK, ?_⟩⟩
    refine ⟨_, results_tmp rfl _ _ _, (by simp [topM, dat]), ?_⟩
    exact (turn_putObj W' W0.heap.size _).keeps HI.out.kept (fun x hx => by simp at hx; have := HS0.out; omega)
  · intro c W W' hf
    exact hf.elim
end Go.Proofs.YtmkhlhjggbencaaDoor

/- The sectors of the log: the iterator's contract. -/
namespace Go.Proofs.YtmkhlhjggbencaaDoor
open Go.RowKit Go.Deep Go.Shelf
set_option linter.unusedVariables false
set_option maxRecDepth 10000
attribute [local go_sem] Oper.semAt_some

theorem log_make (ca : Option Addr) (cc : Nat) (cs : List Bs) (da : Option Addr) (dc : Nat) (ds : List Wr) (w : World) :
    Calls Tryd.prog 29 #[dskV ca cs.length cc da ds.length dc] w fun e w' => e = .returned (.func (.func 48) #[] #[.pointer (some ⟨w.heap.size, 0, none⟩)]) ∧ w' = w.alloc (.cells #[.slice ca cs.length cc, .slice da ds.length dc] 33) := by
  have hmf : ∀ (fn : Fn) (first cap : Array Value) (w : World), (Instr.makeFunc fn first cap).run Tryd.prog w = .ok (.func fn first cap) w := fun _ _ _ _ => rfl
  go_enter Tryd.func29, Tryd.ntmps29
  go_wp2_with fail
  go_ret
  exact ⟨rfl, rfl⟩
/-- The blocks that the iterator itself turns: the next number, the epoch, its own loop's two. -/
abbrev lown (lo : Nat) : List Nat := [lo + 1, lo + 1 + 1, lo + 4, lo + 4 + 1]
/-- Between two rounds of the iterator's own loop: j sectors have been told, cell k comes next. -/
structure LogJ (m : DkM) (lo l : Nat) (ca : Option Addr) (cc : Nat) (cs : List Bs) (da : Option Addr) (dc : Nat) (ds : List Wr) (u : TypeId) (pv : Value) (J : Nat → World → Prop) (j k : Nat) (W : World) : Prop where
  le : j ≤ k
  fit : fitTo m j
  gap : ∀ i, j ≤ i → i < k → srB (readL m i) = false
  yld : W.cell? ⟨lo, 0, none⟩ = some (.func (.yield l) #[] #[])
  next : W.cell? ⟨lo + 1, 0, none⟩ = some (.int .i64 (j : Nat))
  nfree : W.frozen? ⟨lo + 1, 0, none⟩ = false
  ep : W.cell? ⟨lo + 1 + 1, 0, none⟩ = some (.int .i64 (lastE m j))
  efree : W.frozen? ⟨lo + 1 + 1, 0, none⟩ = false
  at_ : AllAt (lo + 1 + 1 + 1) ca cc cs da dc ds u pv W
  size : lo + 6 ≤ W.heap.size
  out : J j W
section
variable {m : DkM} {lo l : Nat} {ca : Option Addr} {cc : Nat} {cs : List Bs} {da : Option Addr} {dc : Nat} {ds : List Wr} {u : TypeId} {pv : Value} {J : Nat → World → Prop} {j k : Nat} {W W' : World}
theorem LogJ.later (hA : ∀ k W1 W2, J k W1 → Turn (lown lo) W1 W2 → J k W2) (h : LogJ m lo l ca cc cs da dc ds u pv J j k W) (ht : Keeps W W') : LogJ m lo l ca cc cs da dc ds u pv J j k W' :=
  have hs := h.size
  ⟨h.le, h.fit, h.gap, ht.cell h.yld, ht.cell h.next, by rw [ht.oldF _ _ (by omega)]; exact h.nfree, ht.cell h.ep, by rw [ht.oldF _ _ (by omega)]; exact h.efree, h.at_.kept ht, Nat.le_trans h.size ht.size, hA _ _ _ h.out (Turn.of_keeps ht _)⟩
/-- The record of the iterator's own loop turns. -/
theorem LogJ.turnR (hA : ∀ k W1 W2, J k W1 → Turn (lown lo) W1 W2 → J k W2) (h : LogJ m lo l ca cc cs da dc ds u pv J j k W) (ht : Turn [lo + 4 + 1] W W') (h2 : ∀ x ∈ fp (dsk ca cs da ds), x < lo) (h3 : 0 < lo) : LogJ m lo l ca cc cs da dc ds u pv J j k W' :=
  have hs := h.size
  ⟨h.le, h.fit, h.gap, ht.cell (by simp <;> omega) h.yld, ht.cell (by simp <;> omega) h.next, by rw [← h.nfree]; exact World.frozen?_of_block (ht.block _ (by show lo + 1 < _; omega) (by simp <;> omega)), ht.cell (by simp <;> omega) h.ep, by rw [← h.efree]; exact World.frozen?_of_block (ht.block _ (by show lo + 1 + 1 < _; omega) (by simp <;> omega)),
   h.at_.turn ht (by simp <;> omega) (fun x hx hy => by have := h2 x hx; simp at hy; omega) (by simp <;> omega), Nat.le_trans h.size ht.size, hA _ _ _ h.out (ht.mono (by simp))⟩
/-- What the round of the one that ranges over the log kept. -/
theorem LogJ.round {gs : List Nat} (h : LogJ m lo l ca cc cs da dc ds u pv J j k W) (ht : Turn gs W W') (hg : ∀ b ∈ gs, b < lo ∨ lo + 6 ≤ b) :
    W'.cell? ⟨lo, 0, none⟩ = some (.func (.yield l) #[] #[]) ∧ W'.cell? ⟨lo + 1, 0, none⟩ = some (.int .i64 (j : Nat)) ∧ W'.frozen? ⟨lo + 1, 0, none⟩ = false ∧ W'.cell? ⟨lo + 1 + 1, 0, none⟩ = some (.int .i64 (lastE m j)) ∧ W'.frozen? ⟨lo + 1 + 1, 0, none⟩ = false ∧ lo + 6 ≤ W'.heap.size :=
  have hs := h.size
  ⟨ht.cell (fun hx => by have := hg _ hx; dsimp only at this; omega) h.yld, ht.cell (fun hx => by have := hg _ hx; dsimp only at this; omega) h.next,
   by rw [← h.nfree]; exact World.frozen?_of_block (ht.block _ (by show lo + 1 < _; omega) (fun hx => by have := hg _ hx; dsimp only at this; omega)),
   ht.cell (fun hx => by have := hg _ hx; dsimp only at this; omega) h.ep,
   by rw [← h.efree]; exact World.frozen?_of_block (ht.block _ (by show lo + 1 + 1 < _; omega) (fun hx => by have := hg _ hx; dsimp only at this; omega)), Nat.le_trans h.size ht.size⟩
end
theorem LogJ.stop {m : DkM} {lo l : Nat} {ca : Option Addr} {cc : Nat} {cs : List Bs} {da : Option Addr} {dc : Nat} {ds : List Wr} {u : TypeId} {pv : Value} {J : Nat → World → Prop} {j k : Nat} {W : World} (h : LogJ m lo l ca cc cs da dc ds u pv J j k W) (hk : k ≤ m.cells.length) (hn : j = k → k = m.cells.length ∨ fitB m k = false) : J (logN m) W := by
  have e : logN m = j := by
    by_cases e : j = k
    · subst e
      rcases hn rfl with h1 | h1
      · unfold logN; rw [← h1]; exact logTo_all h.fit
      · exact logTo_stop h.fit h1 hk
    · have h1 := h.gap j (Nat.le_refl _) (by have := h.le; omega)
      exact logTo_stop h.fit (by simp [fitB, h1]) (by have := h.le; omega)
  rw [e]
  exact h.out
set_option maxHeartbeats 8000000 in
theorem log_in (n l Bx : Nat) (ca : Option Addr) (cc : Nat) (cs : List Bs) (da : Option Addr) (dc : Nat) (ds : List Wr) (u : TypeId) (pv : Value) (J : Nat → World → Prop) (Jx : World → Prop) (hd : DOk cs ds) (hn : 9 ≤ n) (W : World)
    (hat : AllAt Bx ca cc cs da dc ds u pv W)
    (hJ : ∀ k W1, J k W1 → Mem W1 (dsk ca cs da ds) ∧ W1.cell? ⟨0, 0, none⟩ = some (.iface u pv))
    (hA : ∀ k W1 W2, J k W1 → Turn (lown W.heap.size) W1 W2 → J k W2)
    (hX : ∀ W1 W2, Jx W1 → Turn (lown W.heap.size) W1 W2 → Jx W2)
    (h0 : ∀ W1, Keeps W W1 → W.heap.size + 6 ≤ W1.heap.size → J 0 W1)
    (hY : ∀ k W1 W2 a c n', k < cs.length → fitTo (dat cs ds) k → fitB (dat cs ds) k = true → J k W1 → Turn (lown W.heap.size) W1 W2 → W.heap.size + 6 ≤ W1.heap.size → CapB a c (srL (readL (dat cs ds) k)).length → Born W1 W2 [(a, bys (srL (readL (dat cs ds) k)))] →
      YieldAt Fence.wide n' Tryd.prog l #[secV (srQ (readL (dat cs ds) k)) (srE (readL (dat cs ds) k)) a (srL (readL (dat cs ds) k)).length c] W2 fun e W3 =>
        ((e = .returned (.bool true) ∧ J (k + 1) W3) ∨ (e = .returned (.bool false) ∧ Jx W3)) ∧ ∃ gs, (∀ b ∈ gs, b < W1.heap.size ∧ (b < W.heap.size ∨ W.heap.size + 6 ≤ b)) ∧ Turn gs W2 W3) :
    CallsIn Fence.wide n Tryd.prog 48 #[.func (.yield l) #[] #[], .pointer (some ⟨Bx, 0, none⟩)] W fun e W' => (∃ v, e = .returned v) ∧ ∃ W1, (J (logN (dat cs ds)) W1 ∨ Jx W1) ∧ Turn [W.heap.size + 4, W.heap.size + 4 + 1] W1 W' := by
  have hmlen : (dat cs ds).cells.length = cs.length := by simp [dat]
  have hlt := hat.2.2.1.lt
  have hgl := lt_of_cell hat.2.2.2
  refine callsIn_of_wp_marks Tryd.func48 rfl trivial ?_ rfl
  simp only [Tryd.ntmps48, List.size_toArray, List.length_cons, List.length_nil, Nat.reduceAdd, Nat.reduceSub, Array.replicate_succ, Array.replicate_zero, List.push_toArray, List.append_toArray, List.nil_append, List.cons_append]
  have HJ := hide hJ
  have HA := hide hA
  have HY := hide hY
  have HX := hide hX
  have HD := hide hd
  have H0 := hide h0
  have HML := hide hmlen
  obtain ⟨b0, b1, hm, hv⟩ := hat
  have HM := hide hm
  have HV := hide hv
  clear hJ hA hY hX hd h0 hmlen hm hv
  have hbl := lt_of_cell b0
  have hk3 : Keeps W (((W.alloc (.cells #[.func (.yield l) #[] #[]] 88)).alloc (.cells #[.int .i64 0] 3)).alloc (.cells #[.int .i64 0] 3)) := (((Keeps.refl W).alloc _).alloc _).alloc _
  have c0 := hk3.cell b0
  have c1 := hk3.cell b1
  gi_wp2
  refine ⟨trivial, nofun, (callsIn_wide.2 (all_make ca cc cs da dc ds _)).mono ?_⟩
  rintro e w1 ⟨rfl, rfl⟩
  gi_wp2
  obtain ⟨W4, hW4⟩ : ∃ W4, (((W.alloc (.cells #[.func (.yield l) #[] #[]] 88)).alloc (.cells #[.int .i64 0] 3)).alloc (.cells #[.int .i64 0] 3)).alloc (.cells #[.slice ca cs.length cc, .slice da ds.length dc] 33) = W4 := ⟨_, rfl⟩
  have HS4 : Hid (W4.heap.size = W.heap.size + 4) := by show _ = _; rw [← hW4]; simp
  have hk4 : Keeps W W4 := by rw [← hW4]; exact hk3.alloc _
  have y1 := (born_alloc W #[.func (.yield l) #[] #[]] 88).toOwn.kept ((((Keeps.refl _).alloc (.cells #[.int .i64 0] 3)).alloc (.cells #[.int .i64 0] 3)).alloc (.cells #[.slice ca cs.length cc, .slice da ds.length dc] 33))
  have y2 := (born_alloc (W.alloc (.cells #[.func (.yield l) #[] #[]] 88)) #[.int .i64 0] 3).toOwn.kept (((Keeps.refl _).alloc (.cells #[.int .i64 0] 3)).alloc (.cells #[.slice ca cs.length cc, .slice da ds.length dc] 33))
  have y3 := (born_alloc ((W.alloc (.cells #[.func (.yield l) #[] #[]] 88)).alloc (.cells #[.int .i64 0] 3)) #[.int .i64 0] 3).toOwn.kept ((Keeps.refl _).alloc (.cells #[.slice ca cs.length cc, .slice da ds.length dc] 33))
  have y4 := (born_alloc (((W.alloc (.cells #[.func (.yield l) #[] #[]] 88)).alloc (.cells #[.int .i64 0] 3)).alloc (.cells #[.int .i64 0] 3)) #[.slice ca cs.length cc, .slice da ds.length dc] 33).toOwn
  rw [hW4] at y1 y2 y3 y4
  simp only [World.size_alloc] at y2 y3 y4
  rw [hW4]
  have HI4 : Hid (∀ W1, Keeps W4 W1 → W1.heap.size = W4.heap.size + 2 → LogJ (dat cs ds) W.heap.size l ca cc cs da dc ds u pv J 0 0 W1) := fun W1 hk1 hs1 => by
    have z1 := cell_at (y1.kept hk1).mem 0 (by simp)
    have z2 := cell_at (y2.kept hk1).mem 0 (by simp)
    have z3 := cell_at (y3.kept hk1).mem 0 (by simp)
    have z4 := cell_at (y4.kept hk1).mem 0 (by simp)
    have z5 := cell_at (y4.kept hk1).mem 1 (by simp)
    simp only [Nat.zero_add, List.getElem_cons_zero, List.getElem_cons_succ] at z1 z2 z3 z4 z5
    have hs := HS4.out
    exact ⟨Nat.le_refl _, fun j hj => absurd hj (by omega), fun i hi hi' => absurd hi' (by omega), z1, z2, (y2.kept hk1).free (W.heap.size + 1) (by simp [fp, fpS]) 0, z3, (y3.kept hk1).free (W.heap.size + 1 + 1) (by simp [fp, fpS]) 0,
      ⟨z4, z5, HM.out.kept (hk4.trans hk1), (hk4.trans hk1).cell HV.out⟩, by omega, H0.out W1 (hk4.trans hk1) (by omega)⟩
  clear hW4 y1 y2 y3 y4 c0 c1 b0 b1 hk3
  refine wp_range rfl (by omega) (gf := 52) (lb := #[.pointer (some ⟨W.heap.size + 1 + 1 + 1, 0, none⟩)]) rfl trivial (enters_of Tryd.func52 (by kernel_rfl) rfl) (fun W' => J (logN (dat cs ds)) W' ∨ Jx W') (fun c W' => c = .ret ∧ (J (logN (dat cs ds)) W' ∨ Jx W')) ?_ ?_ ?_
  · intro fn hfn W1 hk1 hs1 hr1
    generalize hR : recOf fn _ _ _ _ _ = R at hr1 ⊢
    refine (all_in (n - 1) (W4.heap.size + 1) (W.heap.size + 1 + 1 + 1) ca cc cs da dc ds u pv (fun k W' => (∃ j, LogJ (dat cs ds) W.heap.size l ca cc cs da dc ds u pv J j k W') ∧ RL R W4.heap.size .ready none W') (fun W' => (J (logN (dat cs ds)) W' ∨ Jx W') ∧ RL R W4.heap.size .done (some .ret) W') HD.out ?_ ?_ ?_ ?_ W1 ⟨⟨0, HI4.out W1 hk1 hs1⟩, hr1⟩).mono ?_
    · rintro k W' ⟨⟨j, h⟩, _⟩
      exact h.at_
    · rintro k W' W'' ⟨⟨j, h⟩, h'⟩ hk
      exact ⟨⟨j, h.later HA.out hk⟩, h'.kept hk⟩
    · rintro k W' _ ⟨⟨j, h⟩, h'⟩ hB
      exact ⟨⟨j, Nat.le_succ_of_le h.le, h.fit, fun i hi hi' => (by
        by_cases e : i = k
        · subst e; exact hB
        · exact h.gap i hi (by omega)), h.yld, h.next, h.nfree, h.ep, h.efree, h.at_, h.size, h.out⟩, h'⟩
    · rintro k Wa Wb a c hkl ⟨⟨j, h⟩, h'⟩ hB hac hb hk
      have h2 := h.later HA.out hk
      have hr2 := h'.kept hk
      subst hR
      refine YieldAt.mono (yield_round (G := fun W' => ∃ j, LogJ (dat cs ds) W.heap.size l ca cc cs da dc ds u pv J j (k + 1) W') (Gx := fun c W' => c = .ret ∧ (J (logN (dat cs ds)) W' ∨ Jx W')) hfn hr2 rfl ?_) ?_
      · generalize recOf fn _ _ _ _ _ = R at hr2 ⊢
        gi_wp2
        have hka := Keeps.alloc (Keeps.refl Wb) (.cells #[.int .i64 (srQ (readL (dat cs ds) k)), .int .i64 (srE (readL (dat cs ds) k)), .slice a (srL (readL (dat cs ds) k)).length c] 52)
        have hbo := (born_alloc Wb #[.int .i64 (srQ (readL (dat cs ds) k)), .int .i64 (srE (readL (dat cs ds) k)), .slice a (srL (readL (dat cs ds) k)).length c] 52).toOwn
        generalize Wb.alloc (.cells #[.int .i64 (srQ (readL (dat cs ds) k)), .int .i64 (srE (readL (dat cs ds) k)), .slice a (srL (readL (dat cs ds) k)).length c] 52) = W2 at *
        refine ⟨hr2.kept hka, fun W3 ht hr3 => ?_⟩
        have hl2 := hr2.lt
        have hb3 := hbo.turn ht (fun x hx hy => by simp [fp, fpS] at hx hy; have := HS4.out; omega)
        have hsb : Wb.heap.size < W3.heap.size := hb3.mem.lt Wb.heap.size (by simp [fp, fpS])
        have hSz := Nat.le_trans h.size hk.size
        rw [HS4.out] at ht
        have h3 := (h2.later HA.out hka).turnR HA.out ht hlt hgl
        have s0 := cell_at hb3.mem 0 (by simp)
        have s1 := cell_at hb3.mem 1 (by simp)
        have s2 := cell_at hb3.mem 2 (by simp)
        simp only [Nat.zero_add, List.getElem_cons_zero, List.getElem_cons_succ] at s0 s1 s2
        have n0 := h3.next
        have n1 := h3.nfree
        have e0 := h3.ep
        have e1 := h3.efree
        have yl := h3.yld
        have HI := hide h3
        have HR3 := hide hr3
        have HB3 := hide hb3
        by_cases hjk : k = j
        · subst hjk
          by_cases hq : srQ (readL (dat cs ds) k) = k
          · by_cases he : srE (readL (dat cs ds) k) < lastE (dat cs ds) k
            · have hnf : fitB (dat cs ds) k = false := by unfold fitB; rw [decide_eq_false (p := lastE (dat cs ds) k ≤ srE (readL (dat cs ds) k)) (by omega), Bool.and_false]
              clear h h2 h' hr2 hka hbo ht h3 hr3 hb3 hl2 hb
              gi_wp2
              refine ⟨fun _ h => (by cases h), ?_⟩
              gi_wp2
              refine ⟨HR3.out, fun W5 ht5 => ⟨rfl, .inl ?_⟩⟩
              rw [HS4.out] at ht5
              refine ((HI.out.turnR HA.out ht5 hlt hgl).stop (by rw [HML.out]; omega) ?_)
              exact fun _ => .inr hnf
            · have hfit : fitB (dat cs ds) k = true := by unfold fitB; rw [hB, decide_eq_true hq, decide_eq_true (by omega)]; rfl
              have htt : Turn (lown W.heap.size) Wa W3 := ((Turn.of_keeps (hk.trans hka) _).trans' (ht.mono (by simp)))
              obtain ⟨fn2, tmps2, assign2, body2, hy, hR2⟩ := HY.out k Wa W3 a c (n - 1 - 1 - 1) hkl h.fit hfit h.out htt h.size hac ((hb.kept hka).turn ht (fun x hx hy => by have := hb.new x hx; have := h.size; simp at hy; omega))
              have hSa := hk.size
              rw [hq] at hy
              have hfitk := h.fit
              clear h h2 h' hr2 hka hbo ht h3 hr3 hb3 hl2 hb htt
              gi_wp2
              refine ⟨nofun, RoundIn.mono hR2 ?_⟩
              rintro e W5 ⟨he5, gs, hgs, ht5⟩
              have hsa := HI.out.size
              have HR5 := hide (HR3.out.turn ht5 (fun hx => by have := hgs _ hx; have := HS4.out; omega) (fun hx => by have := hgs _ hx; have := HS4.out; omega))
              rcases he5 with ⟨rfl, hJ5⟩ | ⟨rfl, hx5⟩
              · obtain ⟨yl5, n5, n51, e5, e51, hs5⟩ := HI.out.round ht5 (fun b hb => (hgs b hb).2)
                have s15 := ht5.cell (p := ⟨Wb.heap.size, 1, none⟩) (fun hx => by have := (hgs _ hx).1; dsimp only at this; omega) s1
                have HAt : Hid (AllAt (W.heap.size + 1 + 1 + 1) ca cc cs da dc ds u pv W5) :=
                  ⟨ht5.cell (fun hx => by have := hgs _ hx; dsimp only at this; omega) HI.out.at_.1, ht5.cell (fun hx => by have := hgs _ hx; dsimp only at this; omega) HI.out.at_.2.1, HJ.out _ _ hJ5⟩
                have HJ5 := hide hJ5
                have hsb5 : Wb.heap.size < W5.heap.size := Nat.lt_of_lt_of_le hsb ht5.size
                have hmx : Tryd.prog.follows .mixedOrders = true := by kernel_rfl
                have HLJ : Hid (∀ W6, Turn [W.heap.size + 1, W.heap.size + 1 + 1] W5 W6 → W6.cell? ⟨W.heap.size + 1, 0, none⟩ = some (.int .i64 ((k + 1 : Nat) : Int)) → W6.frozen? ⟨W.heap.size + 1, 0, none⟩ = false → W6.cell? ⟨W.heap.size + 1 + 1, 0, none⟩ = some (.int .i64 (srE (readL (dat cs ds) k))) → W6.frozen? ⟨W.heap.size + 1 + 1, 0, none⟩ = false → LogJ (dat cs ds) W.heap.size l ca cc cs da dc ds u pv J (k + 1) (k + 1) W6) := fun W6 ht6 q1 q2 q3 q4 =>
                  ⟨Nat.le_refl _, fitTo_succ hfitk hfit, fun i hi hi' => absurd hi' (by omega), ht6.cell (by simp <;> omega) yl5, q1, q2, q3, q4, HAt.out.turn ht6 (by simp <;> omega) (fun x hx hy => by have := hlt x hx; simp at hy; omega) (by simp <;> omega), Nat.le_trans hs5 ht6.size, HA.out _ _ _ HJ5.out (ht6.mono (by simp))⟩
                clear hy hR2 hJ5 hgs ht5 s0 s1 s2 n0 n1 e0 e1 yl
                gi_wp2
                gi_region_with_o (fail)
                all_goals gi_wp2
                all_goals
                  have hw : IntKind.i64.wrap ((k : Int) + 1) = ((k + 1 : Nat) : Int) := by
                    have := HD.out.c
                    simp [IntKind.wrap, IntKind.bits, IntKind.signed]
                    omega
                  have T : Turn [W.heap.size + 1, W.heap.size + 1 + 1] W5 ((W5.setCell ⟨W.heap.size + 1, 0, none⟩ (.int .i64 (IntKind.i64.wrap ((k : Int) + 1)))).setCell ⟨W.heap.size + 1 + 1, 0, none⟩ (.int .i64 (srE (readL (dat cs ds) k)))).drew :=
                    ((Turn.set (by simp) _).trans' (Turn.set (by simp) _)).trans' (Turn.of_keeps ((Keeps.refl _).drew) _)
                  refine ⟨HR5.out.turn T (by have := HS4.out; simp <;> omega) (by have := HS4.out; simp <;> omega), fun W6 ht6 => ⟨k + 1, ?_⟩⟩
                  rw [HS4.out] at ht6
                  refine (HLJ.out _ T ?_ ?_ ?_ ?_).turnR HA.out ht6 hlt hgl
                  · show World.cell? (World.setCell _ _ _) _ = _
                    rw [World.cell?_setCell_other _ _ _ _ (by simp), World.cell?_setCell_same _ _ _ n5, hw]
                  · show World.frozen? (World.setCell _ _ _) _ = _
                    rw [World.frozen?_setCell, World.frozen?_setCell]
                    exact n51
                  · show World.cell? (World.setCell _ _ _) _ = _
                    exact World.cell?_setCell_same _ _ _ (by rw [World.cell?_setCell_other _ _ _ _ (by simp)]; exact e5)
                  · show World.frozen? (World.setCell _ _ _) _ = _
                    rw [World.frozen?_setCell, World.frozen?_setCell]
                    exact e51
              · clear hy hR2 s0 s1 s2 n0 n1 e0 e1 yl
                gi_wp2
                refine ⟨HR5.out, fun W6 ht6 => ⟨rfl, .inr ?_⟩⟩
                rw [HS4.out] at ht6
                exact HX.out _ _ hx5 (ht6.mono (by simp))
          · have hnf : fitB (dat cs ds) k = false := by unfold fitB; rw [decide_eq_false hq, Bool.and_false, Bool.false_and]
            clear h h2 h' hr2 hka hbo ht h3 hr3 hb3 hl2 hb
            gi_wp2
            refine ⟨fun _ h => (by cases h), ?_⟩
            gi_wp2
            refine ⟨HR3.out, fun W5 ht5 => ⟨rfl, .inl ?_⟩⟩
            rw [HS4.out] at ht5
            refine ((HI.out.turnR HA.out ht5 hlt hgl).stop (by rw [HML.out]; omega) ?_)
            exact fun _ => .inr hnf
        · have hjk' : ¬ ((k : Int) = (j : Int)) := by omega
          clear h h2 h' hr2 hka hbo ht h3 hr3 hb3 hl2 hb
          gi_wp2
          refine ⟨fun _ h => (by cases h), ?_⟩
          gi_wp2
          refine ⟨HR3.out, fun W5 ht5 => ⟨rfl, .inl ?_⟩⟩
          rw [HS4.out] at ht5
          refine ((HI.out.turnR HA.out ht5 hlt hgl).stop (by rw [HML.out]; omega) ?_)
          exact fun e => absurd e.symm hjk
      · rintro e W'' (⟨he, hg, hr⟩ | ⟨he, c, ⟨rfl, hj⟩, hr⟩)
        · exact .inl ⟨he, hg, hr⟩
        · exact .inr ⟨he, hj, hr⟩
    · rintro e W2 ⟨hv, (⟨⟨j, h⟩, h'⟩ | ⟨hj, hr⟩)⟩
      · exact ⟨hv, .inl ⟨.inl (h.stop (by rw [HML.out]; exact Nat.le_refl _) (fun _ => .inl HML.out.symm)), h'⟩⟩
      · exact ⟨hv, .inr ⟨.ret, ⟨rfl, hj⟩, hr⟩⟩
  · intro W1 W2 hG ht hK
    rw [HS4.out] at ht
    have HG := hide hG
    have HT := hide ht
    clear hG ht
    gi_wp2
    refine ⟨by simp, .inl ⟨_, _, rfl, run_takeDeferred hK, ?_⟩⟩
    refine ⟨_, results_none rfl _ _ _, ⟨_, rfl⟩, W1, HG.out, ?_⟩
    have hp := turn_putObj W2 W4.heap.size (.deferred none)
    rw [HS4.out] at hp ⊢
    exact (HT.out.mono (by simp)).trans' (hp.mono (by simp))
  · rintro c W1 W2 ⟨rfl, hG⟩ ht hK
    rw [HS4.out] at ht
    have HG := hide hG
    have HT := hide ht
    clear hG ht
    gi_wp2
    refine ⟨by simp, .inl ⟨_, _, rfl, run_takeDeferred hK, ?_⟩⟩
    refine ⟨_, results_none rfl _ _ _, ⟨_, rfl⟩, W1, HG.out, ?_⟩
    have hp := turn_putObj W2 W4.heap.size (.deferred none)
    rw [HS4.out] at hp ⊢
    exact (HT.out.mono (by simp)).trans' (hp.mono (by simp))
end Go.Proofs.YtmkhlhjggbencaaDoor

/- Lists of structs that a call makes by append, each with a list of its own inside. -/
namespace Go.Proofs.YtmkhlhjggbencaaDoor
open Go.RowKit Go.Deep
set_option linter.unusedVariables false
set_option maxRecDepth 10000

/-- A list of structs while it is made: its row, the lists inside, no block shared. -/
structure LG {α : Type} (T : TypeId) (sz : Nat) (f : α → List Value) (sg : α → Seg) (w0 w : World) (v : Value) (nb : List α) : Prop where
  row : w.ownsRow w0.heap.size T sz v nb.length (nb.flatMap f)
  inner : Born w0 w (nb.map sg)
  apart : ∀ g, v.ownBlock = some g → g ∉ fp (nb.map sg)
  keeps : Keeps w0 w
section
variable {α : Type} {T : TypeId} {sz : Nat} {f : α → List Value} {sg : α → Seg} {w0 w w1 w2 : World} {v v' : Value} {nb : List α}
theorem owns_kept {base n : Nat} {e : TypeId} {xs : List Value} (hk : Keeps w w1) (h : w.ownsRow base e sz v n xs) : w1.ownsRow base e sz v n xs := by
  refine ⟨h.1, ?_⟩
  rcases h.2 with h' | ⟨g, cap, cur, rfl, hb, hg, rest⟩
  · exact .inl h'
  · refine .inr ⟨g, cap, cur, rfl, hb, ?_, rest⟩
    rw [Below.block hk g (Array.getElem?_eq_some_iff.1 hg).1]; exact hg
theorem LG.kept (h : LG T sz f sg w0 w v nb) (hk : Keeps w w1) : LG T sz f sg w0 w1 v nb :=
  ⟨owns_kept hk h.row, h.inner.kept hk, h.apart, h.keeps.trans hk⟩
theorem LG.snoc (h : LG T sz f sg w0 w v nb) (hk : Keeps w w1) {x : α} (hx : Own w1 [sg x]) (hn : ∀ b ∈ fp [sg x], w.heap.size ≤ b) {o : Obj} (hg : (w1.alloc o).grownBy w2 v.ownBlock)
    (hr : w2.ownsRow w0.heap.size T sz v' (nb.length + 1) (nb.flatMap f ++ f x)) (hv : v'.ownBlock = v.ownBlock ∨ v'.ownBlock = some (w1.alloc o).heap.size) : LG T sz f sg w0 w2 v' (nb ++ [x]) := by
  have hka : Keeps w1 (w1.alloc o) := Keeps.alloc (Keeps.refl _) _
  have hs : (w1.alloc o).heap.size = w1.heap.size + 1 := by rw [World.size_alloc]
  have hI := (h.inner.kept hk).kept hka
  have hX := hx.kept hka
  have ht : Turn v.ownBlock.toList (w1.alloc o) w2 := Turn.of_grown hg (fun k hk' => by rw [hk']; simp)
  have hrow : ∀ g, v.ownBlock = some g → w0.heap.size ≤ g ∧ g < w.heap.size := fun g hg' => h.row.lt g hg'
  have hIT : Born w0 w2 (nb.map sg) := hI.turn ht (fun b hb hb' => by
    have : v.ownBlock = some b := by simpa using hb'
    exact h.apart b this hb)
  have hXT : Own w2 [sg x] := hX.turn ht (fun b hb hb' => by
    have e : v.ownBlock = some b := by simpa using hb'
    have h1 := hrow b e
    have h2 := hn b hb
    omega)
  refine ⟨?_, ⟨?_, ?_⟩, ?_, ?_⟩
  · rw [List.length_append, List.flatMap_append, List.flatMap_singleton]; exact hr
  · rw [List.map_append]
    refine hIT.toOwn.append hXT (fun b hb hb' => ?_)
    have h1 := h.inner.mem.lt b hb
    have h2 := hn b hb'
    omega
  · intro b hb
    rw [List.map_append, fp_append] at hb
    rcases List.mem_append.1 hb with hb | hb
    · exact h.inner.new b hb
    · have h1 := hn b hb
      have h2 := h.keeps.size
      omega
  · intro g hg' hb
    rw [List.map_append, fp_append] at hb
    rcases hv with hv | hv
    · rw [hv] at hg'
      rcases List.mem_append.1 hb with hb | hb
      · exact h.apart g hg' hb
      · have h1 := hn g hb
        have h2 := hrow g hg'
        omega
    · rw [hv] at hg'
      have hg2 := Option.some.inj hg'
      rcases List.mem_append.1 hb with hb | hb
      · have h1 := h.inner.mem.lt g hb
        have h2 := hk.size
        omega
      · have h1 := hx.mem.lt g hb
        omega
  · exact Keeps.grown ((h.keeps.trans hk).trans hka) hg (fun g hg' => (hrow g hg').1)
end
/-- The list of cells is made. -/
theorem LG.cells {w0 w : World} {v : Value} {nb : List Bs} (h : LG 80 1 Bs.cells Bs.seg w0 w v nb) :
    ∃ (a : Option Addr) (cap : Nat), v = .slice a nb.length cap ∧ (a = none → cap = 0) ∧ Born w0 w ((a, ccells nb) :: nb.map Bs.seg) := by
  obtain ⟨a, cap, rfl, _, _, hn, ho, hb⟩ := Own.of_owns h.row
  refine ⟨a, cap, rfl, hn, ⟨Own.append (S := [_]) ho h.inner.toOwn (fun b hb1 hb2 => ?_), ?_⟩⟩
  · have : Value.ownBlock (.slice a nb.length cap) = some b := by
      rw [fp_one] at hb1
      unfold fpS at hb1
      split at hb1
      · simp at hb1
      · cases a with
        | none => simp at hb1
        | some p => simp at hb1; simp [Value.ownBlock, hb1]
    exact h.apart b this hb2
  · intro b hb'
    rw [fp_cons] at hb'
    rcases List.mem_append.1 hb' with hb' | hb'
    · exact hb b (by rw [fp_one]; exact hb')
    · exact h.inner.new b hb'
theorem LG.writes {w0 w : World} {v : Value} {nb : List Wr} (h : LG 81 2 Wr.cells Wr.seg w0 w v nb) :
    ∃ (a : Option Addr) (cap : Nat), v = .slice a nb.length cap ∧ (a = none → cap = 0) ∧ Born w0 w ((a, wcells nb) :: nb.map Wr.seg) := by
  obtain ⟨a, cap, rfl, _, _, hn, ho, hb⟩ := Own.of_owns h.row
  refine ⟨a, cap, rfl, hn, ⟨Own.append (S := [_]) ho h.inner.toOwn (fun b hb1 hb2 => ?_), ?_⟩⟩
  · have : Value.ownBlock (.slice a nb.length cap) = some b := by
      rw [fp_one] at hb1
      unfold fpS at hb1
      split at hb1
      · simp at hb1
      · cases a with
        | none => simp at hb1
        | some p => simp at hb1; simp [Value.ownBlock, hb1]
    exact h.apart b this hb2
  · intro b hb'
    rw [fp_cons] at hb'
    rcases List.mem_append.1 hb' with hb' | hb'
    · exact hb b (by rw [fp_one]; exact hb')
    · exact h.inner.new b hb'
theorem LG.nil {α : Type} (T : TypeId) (sz : Nat) (f : α → List Value) (sg : α → Seg) {w0 w : World} {v : Value} (h : w.ownsRow w0.heap.size T sz v 0 []) (hk : Keeps w0 w) : LG T sz f sg w0 w v [] :=
  ⟨h, Born.nil _ _, fun g _ hb => by simp [fp] at hb, hk⟩
/-- The run of an append of one struct. -/
theorem run_cell (w : World) (base : Nat) (v : Value) (n : Nat) (xs : List Value) (x : Value) (hx : x.oneCell' = true) (ty : TypeId) (h : w.ownsRow base 80 1 v n xs) (hn : n ≤ 1048576) (hb : base ≤ w.heap.size) :
    ∃ v' w', (Builtin.append_ #[30, 30] ty #[v, .slice (some ⟨w.heap.size, 0, none⟩) 1 1]).run Tryd.prog (w.alloc (.cells #[x] 80)) = .ok v' w' ∧ w'.ownsRow base 80 1 v' (n + 1) (xs ++ [x]) ∧ (w.alloc (.cells #[x] 80)).grownBy w' v.ownBlock ∧ (v'.ownBlock = v.ownBlock ∨ v'.ownBlock = some (w.alloc (.cells #[x] 80)).heap.size) := by
  have hI := infoCell
  cases hi : Tryd.prog.info? 80 with
  | none => rw [hi] at hI; simp at hI
  | some i =>
    rw [hi] at hI
    simp at hI
    obtain ⟨hz, hsz, hby⟩ := hI
    obtain ⟨v', w', h1, h2, h3, _, h5⟩ := run_append_own_at (P := Tryd.prog) (w.alloc (.cells #[x] 80)) base 30 ty 80 i _ 1 24 underCells hi hz hsz hby rfl (by decide) v n xs (h.alloc _) ⟨w.heap.size, 0, none⟩ 1 1 [x] rfl (cell_one_new w x _) (by intro u hu; rw [List.mem_singleton.1 hu]; exact hx) (by simp only [maxLen]; omega) (by omega) (by simp; omega)
    exact ⟨v', w', h1, h2, h3, h5⟩
theorem cell_two_new (w : World) (x y : Value) (t : TypeId) : ∀ j u, [x, y][j]? = some u → (w.alloc (.cells #[x, y] t)).cell? ((⟨w.heap.size, 0, none⟩ : Addr).add j) = some u := by
  intro j u hj
  match j, hj with
  | 0, hj => simp at hj; subst hj; simp [Addr.add]
  | 1, hj => simp at hj; subst hj; simp [Addr.add]
  | n + 2, hj => simp at hj
theorem run_write (w : World) (base : Nat) (v : Value) (n : Nat) (xs : List Value) (x y : Value) (hx : x.oneCell' = true) (hy : y.oneCell' = true) (ty : TypeId) (h : w.ownsRow base 81 2 v n xs) (hn : n ≤ 1048576) (hb : base ≤ w.heap.size) :
    ∃ v' w', (Builtin.append_ #[31, 31] ty #[v, .slice (some ⟨w.heap.size, 0, none⟩) 1 1]).run Tryd.prog (w.alloc (.cells #[x, y] 81)) = .ok v' w' ∧ w'.ownsRow base 81 2 v' (n + 1) (xs ++ [x, y]) ∧ (w.alloc (.cells #[x, y] 81)).grownBy w' v.ownBlock ∧ (v'.ownBlock = v.ownBlock ∨ v'.ownBlock = some (w.alloc (.cells #[x, y] 81)).heap.size) := by
  have hI := infoWrite
  cases hi : Tryd.prog.info? 81 with
  | none => rw [hi] at hI; simp at hI
  | some i =>
    rw [hi] at hI
    simp at hI
    obtain ⟨hz, hsz, hby⟩ := hI
    obtain ⟨v', w', h1, h2, h3, _, h5⟩ := run_append_own_at (P := Tryd.prog) (w.alloc (.cells #[x, y] 81)) base 31 ty 81 i _ 2 32 underWrites hi hz hsz hby rfl (by decide) v n xs (h.alloc _) ⟨w.heap.size, 0, none⟩ 1 1 [x, y] rfl (cell_two_new w x y _) (by intro u hu; simp at hu; rcases hu with rfl | rfl <;> assumption) (by simp only [maxLen]; omega) (by omega) (by simp; omega)
    exact ⟨v', w', h1, h2, h3, h5⟩
end Go.Proofs.YtmkhlhjggbencaaDoor
