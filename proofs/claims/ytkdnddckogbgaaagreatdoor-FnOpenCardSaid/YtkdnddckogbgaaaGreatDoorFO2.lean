/- Texts of the verifier, joined: Sec, Vars, Lst, DGC, DGD, DGW, DGX, DGK, DOk, DW. -/
import Derived.Test.YtkdnddckogbgaaaGreatDoorFO1
import Derived.Deep.RegionHeld3
import Derived.Deep.DrawnRows
namespace Go.Proofs.YtkdnddckogbgaaaGreatDoor
open Go.RowKit Go.Deep Go.ChangeShapes Go.WideShapes
set_option linter.unusedVariables false
set_option maxRecDepth 10000

abbrev secV (q e : Int) (a : Option Addr) (len cap : Nat) : Value := .agg #[.int .i64 q, .int .i64 e, .slice a len cap]
/-- Is the sector right? -/
def secB (q e : Int) (len : Nat) : Bool := decide (0 ≤ q) && decide (q < 600) && decide (1 ≤ e) && decide (e ≤ 16000000) && decide (len ≤ 100)
theorem secok_spec (q e : Int) (a : Option Addr) (len cap : Nat) (w : World) (hl : len ≤ 9223372036854775807) : Calls Tryz.prog 76 #[.agg #[.int .i64 q, .int .i64 e, .slice a len cap]] w fun x w' => x = .returned (.bool (secB q e len)) ∧ Keeps w w' := by
  by_cases h0 : 0 ≤ q
  · by_cases h1 : q < 600
    · by_cases h2 : 1 ≤ e
      · by_cases h3 : e ≤ 16000000
        · by_cases h4 : (len : Int) ≤ 100
          · have H : Hid (secB q e len = true) := by show _ = _; simp only [secB, decide_eq_true h0, decide_eq_true h1, decide_eq_true h2, decide_eq_true h3, decide_eq_true (show len ≤ 100 by omega), Bool.and_self]
            go_enter Tryz.func76, Tryz.ntmps76
            go_wp2
            go_ret
            exact ⟨ret_b H.out.symm, Keeps.alloc (Keeps.refl _) _⟩
          · have H : Hid (secB q e len = false) := by show _ = _; simp only [secB]; simp; omega
            go_enter Tryz.func76, Tryz.ntmps76
            go_wp2
            go_ret
            exact ⟨ret_b H.out.symm, Keeps.alloc (Keeps.refl _) _⟩
        · have H : Hid (secB q e len = false) := by show _ = _; simp only [secB]; simp; omega
          go_enter Tryz.func76, Tryz.ntmps76
          go_wp2
          go_ret
          exact ⟨ret_b H.out.symm, Keeps.alloc (Keeps.refl _) _⟩
      · have H : Hid (secB q e len = false) := by show _ = _; simp only [secB]; simp; omega
        go_enter Tryz.func76, Tryz.ntmps76
        go_wp2
        go_ret
        exact ⟨ret_b H.out.symm, Keeps.alloc (Keeps.refl _) _⟩
    · have H : Hid (secB q e len = false) := by show _ = _; simp only [secB]; simp; omega
      go_enter Tryz.func76, Tryz.ntmps76
      go_wp2
      go_ret
      exact ⟨ret_b H.out.symm, Keeps.alloc (Keeps.refl _) _⟩
  · have H : Hid (secB q e len = false) := by show _ = _; simp only [secB]; simp; omega
    go_enter Tryz.func76, Tryz.ntmps76
    go_wp2
    go_ret
    exact ⟨ret_b H.out.symm, Keeps.alloc (Keeps.refl _) _⟩
theorem secok_impl (q e : Int) (a : Option Addr) (len cap : Nat) (w : World) (hl : len ≤ 9223372036854775807) : Calls Tryz.prog 104 #[.agg #[.int .i64 q, .int .i64 e, .slice a len cap]] w fun x w' => x = .returned (.bool (secB q e len)) ∧ Keeps w w' := by
  by_cases h0 : 0 ≤ q
  · by_cases h1 : q < 600
    · by_cases h2 : 1 ≤ e
      · by_cases h3 : e ≤ 16000000
        · by_cases h4 : (len : Int) ≤ 100
          · have H : Hid (secB q e len = true) := by show _ = _; simp only [secB, decide_eq_true h0, decide_eq_true h1, decide_eq_true h2, decide_eq_true h3, decide_eq_true (show len ≤ 100 by omega), Bool.and_self]
            go_enter Tryz.func104, Tryz.ntmps104
            go_wp2
            go_ret
            exact ⟨ret_b H.out.symm, Keeps.alloc (Keeps.refl _) _⟩
          · have H : Hid (secB q e len = false) := by show _ = _; simp only [secB]; simp; omega
            go_enter Tryz.func104, Tryz.ntmps104
            go_wp2
            go_ret
            exact ⟨ret_b H.out.symm, Keeps.alloc (Keeps.refl _) _⟩
        · have H : Hid (secB q e len = false) := by show _ = _; simp only [secB]; simp; omega
          go_enter Tryz.func104, Tryz.ntmps104
          go_wp2
          go_ret
          exact ⟨ret_b H.out.symm, Keeps.alloc (Keeps.refl _) _⟩
      · have H : Hid (secB q e len = false) := by show _ = _; simp only [secB]; simp; omega
        go_enter Tryz.func104, Tryz.ntmps104
        go_wp2
        go_ret
        exact ⟨ret_b H.out.symm, Keeps.alloc (Keeps.refl _) _⟩
    · have H : Hid (secB q e len = false) := by show _ = _; simp only [secB]; simp; omega
      go_enter Tryz.func104, Tryz.ntmps104
      go_wp2
      go_ret
      exact ⟨ret_b H.out.symm, Keeps.alloc (Keeps.refl _) _⟩
  · have H : Hid (secB q e len = false) := by show _ = _; simp only [secB]; simp; omega
    go_enter Tryz.func104, Tryz.ntmps104
    go_wp2
    go_ret
    exact ⟨ret_b H.out.symm, Keeps.alloc (Keeps.refl _) _⟩

theorem row_new (w : World) (c : Array Value) (t : TypeId) : (w.alloc (.cells c t)).rowIs w.heap.size t c.size (fun i => c.getD i (.int .i64 0)) :=
  World.rowIs_alloc w c t _ (fun i hi => by simp [Array.getD, hi])
theorem Keeps.row {w w' : World} (hk : Keeps w w') {b : Nat} {t : TypeId} {n : Nat} {f : Nat → Value} (h : w.rowIs b t n f) : w'.rowIs b t n f := h.of_block (Below.block hk b h.lt)
section
variable {H : Type} {enc : TypeId × Value → H} {W : World} {base : Nat} {sp : Nat → Bool} {hd : Bool} {v : Value} {d : DataW H} {ps : List MemPlace}
end
end Go.Proofs.YtkdnddckogbgaaaGreatDoor
namespace Go.Proofs.YtkdnddckogbgaaaGreatDoor
open Go.RowKit Go.Deep
set_option linter.unusedVariables false
theorem born_alloc (w : World) (c : Array Value) (t : TypeId) : Born w (w.alloc (.cells c t)) [(some ⟨w.heap.size, 0, none⟩, c.toList)] := by
  have hB : (w.alloc (.cells c t)).heap[w.heap.size]? = some (.cells c t (0, 0)) := blk_alloc_new w _
  revert hB
  generalize w.alloc (.cells c t) = W
  intro hB
  refine ⟨⟨?_, ?_, ?_⟩, ?_⟩
  · intro s hs
    rw [List.mem_singleton.1 hs]
    refine Or.inr ⟨_, 0, rfl, fun j hj => ?_⟩
    have hj' : j < c.size := by simpa using hj
    simp [World.cell?, hB, hj']
  · by_cases h0 : c.toList = [] <;> simp [fp, fpS, h0]
  · intro b hb
    by_cases h0 : c.toList = []
    · simp [fp, fpS, h0] at hb
    · simp [fp, fpS, h0] at hb
      subst hb
      intro o
      simp [World.frozen?, hB]
  · intro b hb
    by_cases h0 : c.toList = []
    · simp [fp, fpS, h0] at hb
    · simp [fp, fpS, h0] at hb
      omega
theorem cell_at {w : World} {b : Nat} {xs : List Value} (h : Mem w [(some ⟨b, 0, none⟩, xs)]) (j : Nat) (hj : j < xs.length) : w.cell? ⟨b, 0 + j, none⟩ = some xs[j] := by
  have h' := h (some ⟨b, 0, none⟩, xs) (by simp)
  rcases h' with h' | ⟨g, off, e, h'⟩
  · have : xs = [] := h'
    subst this
    simp at hj
  · have e' := Option.some.inj e
    injection e' with e1 e2
    subst e1 e2
    exact h' j hj
end Go.Proofs.YtkdnddckogbgaaaGreatDoor
namespace Go.Proofs.YtkdnddckogbgaaaGreatDoor
open Go.RowKit Go.Deep
set_option linter.unusedVariables false

theorem cell1 {w : World} {a : Option Addr} {cs : List Bs} (h : Cells w a (ccells cs)) (i : Nat) (hi : i < cs.length) : ∃ b off, a = some ⟨b, off, none⟩ ∧ w.cell? ⟨b, off + i, none⟩ = some cs[i].v := by
  obtain ⟨b, off, e, h⟩ := elem_at (f := Bs.cells) (sz := 1) (fun _ => rfl) h i hi (by decide)
  exact ⟨b, off, e, by have g := h 0 (by simp [Bs.cells]); simp only [Nat.mul_one, Nat.add_zero] at g; exact g⟩
theorem cell2 {w : World} {a : Option Addr} {ds : List Wr} (h : Cells w a (wcells ds)) (i : Nat) (hi : i < ds.length) :
    ∃ b off, a = some ⟨b, off, none⟩ ∧ w.cell? ⟨b, off + i * 2, none⟩ = some (.int .i64 ds[i].i) ∧ w.cell? ⟨b, off + i * 2 + 1, none⟩ = some ds[i].b.v := by
  obtain ⟨b, off, e, h⟩ := elem_at (f := Wr.cells) (sz := 2) (fun _ => rfl) h i hi (by decide)
  exact ⟨b, off, e, h 0 (by simp [Wr.cells]), h 1 (by simp [Wr.cells])⟩
theorem ccells_len (cs : List Bs) : (ccells cs).length = cs.length := by
  have := flatMap_len (f := Bs.cells) (sz := 1) (fun _ => rfl) cs
  simpa [ccells] using this
end Go.Proofs.YtkdnddckogbgaaaGreatDoor
namespace Go.Proofs.YtkdnddckogbgaaaGreatDoor
open Go.RowKit Go.Deep
set_option linter.unusedVariables false
set_option maxRecDepth 10000

/-- How many bytes the lists have. -/
def tot (cs : List Bs) : Nat := (cs.map fun b => b.L.length).sum
theorem tot_le {cs : List Bs} {b : Bs} (h : b ∈ cs) : b.L.length ≤ tot cs := by
  induction cs with
  | nil => simp at h
  | cons c t ih =>
    simp only [tot, List.map_cons, List.sum_cons] at ih ⊢
    rcases List.mem_cons.1 h with rfl | h
    · omega
    · have := ih h; omega

theorem infoCell : (Tryz.prog.info? 93).map (fun i => (i.zero, i.size, i.bytes)) = some (some (.agg #[.slice none 0 0]), 1, 24) := by kernel_rfl
theorem underCells : Tryz.prog.underlying 23 = some (.slice 93) := by kernel_rfl
theorem make_cells (n : Nat) (hn : n ≤ 1048576) (w : World) : (Instr.makeSlice 23 (.int .i64 (n : Int)) (.int .i64 (n : Int))).run Tryz.prog w = .ok (.slice (some ⟨w.heap.size, 0, none⟩) n n) (w.alloc (.cells (madeCells #[.slice none 0 0] n) 93)) := by
  have hI := infoCell
  cases hi : Tryz.prog.info? 93 with
  | none => rw [hi] at hI; simp at hI
  | some i =>
    rw [hi] at hI
    simp at hI
    obtain ⟨hz, hs, hb⟩ := hI
    have h := run_make (P := Tryz.prog) w 23 93 i _ underCells hi hz .i64 .i64 n n (by omega) (Int.le_refl _) (by rw [hb]; omega) (by omega)
    rw [hs] at h
    simpa [Value.cells] using h

end Go.Proofs.YtkdnddckogbgaaaGreatDoor
namespace Go.Proofs.YtkdnddckogbgaaaGreatDoor
open Go.RowKit Go.Deep
set_option linter.unusedVariables false
set_option maxRecDepth 10000

theorem mem_seg {w : World} {cs : List Bs} (h : Mem w (cs.map Bs.seg)) (k : Nat) (hk : k < cs.length) : Cells w cs[k].a (bys cs[k].L) := h cs[k].seg (List.mem_map.2 ⟨_, List.getElem_mem hk, rfl⟩)
end Go.Proofs.YtkdnddckogbgaaaGreatDoor
namespace Go.Proofs.YtkdnddckogbgaaaGreatDoor
open Go.RowKit Go.Deep
set_option linter.unusedVariables false
set_option maxRecDepth 10000

def Wr.seg (x : Wr) : Seg := x.b.seg
/-- How many bytes the writes have. -/
def totW (ds : List Wr) : Nat := (ds.map fun x => x.b.L.length).sum
theorem totW_le {ds : List Wr} {x : Wr} (h : x ∈ ds) : x.b.L.length ≤ totW ds := by
  induction ds with
  | nil => simp at h
  | cons c t ih =>
    simp only [totW, List.map_cons, List.sum_cons] at ih ⊢
    rcases List.mem_cons.1 h with rfl | h
    · omega
    · have := ih h; omega
theorem mem_segW {w : World} {ds : List Wr} (h : Mem w (ds.map Wr.seg)) (k : Nat) (hk : k < ds.length) : Cells w ds[k].b.a (bys ds[k].b.L) := h ds[k].seg (List.mem_map.2 ⟨_, List.getElem_mem hk, rfl⟩)

theorem infoWrite : (Tryz.prog.info? 86).map (fun i => (i.zero, i.size, i.bytes)) = some (some (.agg #[.int .i64 0, .slice none 0 0]), 2, 32) := by kernel_rfl
theorem underWrites : Tryz.prog.underlying 24 = some (.slice 86) := by kernel_rfl
def Wr.key (x : Wr) : Int × List UInt8 := (x.i, x.b.L)
end Go.Proofs.YtkdnddckogbgaaaGreatDoor
namespace Go.Proofs.YtkdnddckogbgaaaGreatDoor
open Go.RowKit Go.Deep
set_option linter.unusedVariables false
set_option maxRecDepth 10000

theorem cells_set {w : World} {g off : Nat} {xs : List Value} (hc : ∀ j (hj : j < xs.length), w.cell? ⟨g, off + j, none⟩ = some xs[j]) (i : Nat) (v : Value) (hi : i < xs.length) : ∀ j (hj : j < (xs.set i v).length), (w.setCell ⟨g, off + i, none⟩ v).cell? ⟨g, off + j, none⟩ = some (xs.set i v)[j] := by
  intro j hj
  have hj' : j < xs.length := by simpa using hj
  by_cases e : j = i
  · subst e
    rw [World.cell?_setCell_same _ _ _ (hc j hj')]; simp
  · rw [World.cell?_setCell_other _ _ _ _ (by simp), hc j hj', List.getElem_set_ne (Ne.symm e)]
/-- One cell of a list of one's own was written. -/
theorem Own.setCell {w : World} {g off : Nat} {xs : List Value} (h : Own w [(some ⟨g, off, none⟩, xs)]) (i : Nat) (v : Value) (hi : i < xs.length) : Own (w.setCell ⟨g, off + i, none⟩ v) [(some ⟨g, off, none⟩, xs.set i v)] := by
  refine h.wrote (by simp) (Or.inr ⟨g, off, rfl, cells_set ?_ i v hi⟩) (fun p => frozen_set ..)
  rcases h.one with h' | ⟨g', off', e, h'⟩
  · rw [h'] at hi; simp at hi
  · have e' := Option.some.inj e
    injection e' with e1 e2
    subst e1 e2
    exact h'
end Go.Proofs.YtkdnddckogbgaaaGreatDoor
namespace Go.Proofs.YtkdnddckogbgaaaGreatDoor
open Go.RowKit Go.Deep Go.ChangeShapes Go.WideShapes
set_option linter.unusedVariables false
set_option maxRecDepth 10000

abbrev dskV (ca : Option Addr) (cn cc : Nat) (da : Option Addr) (dn dc : Nat) : Value := .agg #[.slice ca cn cc, .slice da dn dc]
/-- The lists of a disk. -/
def dsk (ca : Option Addr) (cs : List Bs) (da : Option Addr) (ds : List Wr) : List Seg := ((ca, ccells cs) :: cs.map Bs.seg) ++ ((da, wcells ds) :: ds.map Wr.seg)
theorem dsk_mem {w : World} {ca : Option Addr} {cs : List Bs} {da : Option Addr} {ds : List Wr} (h : Mem w (dsk ca cs da ds)) : Cells w ca (ccells cs) ∧ Mem w (cs.map Bs.seg) ∧ Cells w da (wcells ds) ∧ Mem w (ds.map Wr.seg) := by
  obtain ⟨h1, h2⟩ := mem_append.1 h
  obtain ⟨h3, h4⟩ := mem_cons.1 h1
  obtain ⟨h5, h6⟩ := mem_cons.1 h2
  exact ⟨h3, h4, h5, h6⟩
section
variable {H : Type} {enc : TypeId × Value → H} {W : World} {n : Nat} {cs : List Value} {y : DataW H × List MemPlace} {base : Nat} {sp : Nat → Bool} {hd : Bool} {v : Value} {d : DataW H} {ps : List MemPlace}
end
end Go.Proofs.YtkdnddckogbgaaaGreatDoor
namespace Go.Proofs.YtkdnddckogbgaaaGreatDoor
open Go.RowKit Go.Deep
set_option linter.unusedVariables false
set_option maxRecDepth 10000

/-- Is the cell right? -/
def cokB (b : Bs) : Bool := decide (b.L.length = 0) || decide (b.L.length = 128)
def wokB (n : Nat) (x : Wr) : Bool := decide (0 ≤ x.i) && decide (x.i < n) && decide (x.b.L.length = 128)
/-- Is the disk right? -/
def dokB (cs : List Bs) (ds : List Wr) : Bool := decide (1 ≤ cs.length) && decide (cs.length ≤ 600) && decide (ds.length ≤ 600) && cs.all cokB && ds.all (wokB cs.length)
theorem dok_bad1 {cs : List Bs} {ds : List Wr} (h : cs.length < 1 ∨ 600 < cs.length ∨ 600 < ds.length) : dokB cs ds = false := by
  unfold dokB
  rcases h with h | h | h
  · rw [decide_eq_false (show ¬ 1 ≤ cs.length by omega)]; simp
  · rw [decide_eq_false (show ¬ cs.length ≤ 600 by omega)]; simp
  · rw [decide_eq_false (show ¬ ds.length ≤ 600 by omega)]; simp
theorem dok_bad2 {cs : List Bs} {ds : List Wr} {k : Nat} (h : k < cs.length) (hb : cokB cs[k] = false) : dokB cs ds = false := by
  have : cs.all cokB = false := by rw [List.all_eq_false]; exact ⟨_, List.getElem_mem h, by simp [hb]⟩
  unfold dokB; rw [this]; simp
theorem dok_bad3 {cs : List Bs} {ds : List Wr} {k : Nat} (h : k < ds.length) (hb : wokB cs.length ds[k] = false) : dokB cs ds = false := by
  have : ds.all (wokB cs.length) = false := by rw [List.all_eq_false]; exact ⟨_, List.getElem_mem h, by simp [hb]⟩
  unfold dokB; rw [this]; simp
theorem dok_good {cs : List Bs} {ds : List Wr} (h1 : 1 ≤ cs.length) (h2 : cs.length ≤ 600) (h3 : ds.length ≤ 600) (hc : ∀ k (h : k < cs.length), cokB cs[k] = true) (hd : ∀ k (h : k < ds.length), wokB cs.length ds[k] = true) : dokB cs ds = true := by
  have e1 : cs.all cokB = true := by
    rw [List.all_eq_true]; intro b hb
    obtain ⟨k, hk, rfl⟩ := List.getElem_of_mem hb
    exact hc k hk
  have e2 : ds.all (wokB cs.length) = true := by
    rw [List.all_eq_true]; intro b hb
    obtain ⟨k, hk, rfl⟩ := List.getElem_of_mem hb
    exact hd k hk
  unfold dokB; rw [e1, e2]; simp [h1, h2, h3]
theorem ne_false {a b : Nat} (h : a = b) : ((a : Int) != (b : Int)) = false := by rw [h]; simp
theorem ne_true {a b : Nat} (h : a ≠ b) : ((a : Int) != (b : Int)) = true := by rw [bne_iff_ne]; omega
theorem hascell_k (ca : Option Addr) (cn cc : Nat) (da : Option Addr) (dn dc : Nat) (i : Int) (w : World) (hl : cn ≤ 9223372036854775807) :
    Calls Tryz.prog 83 #[dskV ca cn cc da dn dc, .int .i64 i] w fun e w' => e = .returned (.bool (decide (0 ≤ i) && decide (i < cn))) ∧ Keeps w w' := by
  by_cases h : 0 ≤ i
  · have H : Hid ((decide (0 ≤ i) && decide (i < cn)) = decide (i < (cn : Int))) := by show _ = _; rw [decide_eq_true h, Bool.true_and]
    go_enter Tryz.func83, Tryz.ntmps83
    go_wp2
    go_ret
    exact ⟨ret_b H.out.symm, Keeps.alloc (Keeps.refl _) _⟩
  · have H : Hid ((decide (0 ≤ i) && decide (i < cn)) = false) := by show _ = _; rw [decide_eq_false h, Bool.false_and]
    go_enter Tryz.func83, Tryz.ntmps83
    go_wp2
    go_ret
    exact ⟨ret_b H.out.symm, Keeps.alloc (Keeps.refl _) _⟩
set_option maxHeartbeats 4000000 in
theorem diskok_spec (ca : Option Addr) (cc : Nat) (cs : List Bs) (da : Option Addr) (dc : Nat) (ds : List Wr) (w : World) (hm : Mem w (dsk ca cs da ds)) (hl : cs.length ≤ 9223372036854775807) (hl' : ds.length ≤ 9223372036854775807) (ht : ∀ b ∈ cs, b.L.length ≤ 9223372036854775807) (ht' : ∀ x ∈ ds, x.b.L.length ≤ 9223372036854775807) :
    Calls Tryz.prog 36 #[dskV ca cs.length cc da ds.length dc] w fun e w' => e = .returned (.bool (dokB cs ds)) ∧ Keeps w w' := by
  have HKW := hide (Keeps.alloc (Keeps.refl w) (.cells #[.slice ca cs.length cc, .slice da ds.length dc] 26))
  have HM := hide (hm.kept HKW.out)
  have HT := hide ht
  have HT' := hide ht'
  clear hm ht ht'
  by_cases h1 : cs.length < 1
  · have H : Hid (dokB cs ds = false) := dok_bad1 (Or.inl h1)
    go_enter Tryz.func36, Tryz.ntmps36
    go_wp2_with fail
    go_ret
    exact ⟨ret_b H.out.symm, Keeps.alloc (Keeps.refl _) _⟩
  by_cases h2 : 600 < cs.length
  · have H : Hid (dokB cs ds = false) := dok_bad1 (Or.inr (Or.inl h2))
    go_enter Tryz.func36, Tryz.ntmps36
    go_wp2_with fail
    go_ret
    exact ⟨ret_b H.out.symm, Keeps.alloc (Keeps.refl _) _⟩
  by_cases h3 : 600 < ds.length
  · have H : Hid (dokB cs ds = false) := dok_bad1 (Or.inr (Or.inr h3))
    go_enter Tryz.func36, Tryz.ntmps36
    go_wp2_with fail
    go_ret
    exact ⟨ret_b H.out.symm, Keeps.alloc (Keeps.refl _) _⟩
  clear hl hl'
  have HD : Hid (∀ w', Keeps (w.alloc (.cells #[.slice ca cs.length cc, .slice da ds.length dc] 26)) w' → w'.cell? ⟨w.heap.size, 0, none⟩ = some (.slice ca cs.length cc) ∧ w'.cell? ⟨w.heap.size, 1, none⟩ = some (.slice da ds.length dc)) :=
    fun w' hk => ⟨hk.cell (by simp), hk.cell (by simp)⟩
  have HZ : Hid ((w.alloc (.cells #[.slice ca cs.length cc, .slice da ds.length dc] 26)).heap.size = w.heap.size + 1) := by show _ = _; rw [World.size_alloc]
  go_enter Tryz.func36, Tryz.ntmps36
  go_wp2_with fail
  generalize w.alloc (.cells #[.slice ca cs.length cc, .slice da ds.length dc] 26) = W0 at *
  go_loopw [26] (fun y wr => ∃ k : Nat, k ≤ cs.length ∧ y = .int .i64 (k : Int) ∧ Hid (∀ j (hj : j < cs.length), j < k → cokB cs[j] = true) ∧ Hid (Keeps W0 wr)) (fun y _ => cs.length - (intOf y).toNat)
  case atStart => exact ⟨0, by omega, rfl, fun j hj h => absurd h (by omega), Keeps.refl _⟩
  case round =>
    obtain ⟨k, hk, rfl, HG, HKr⟩ := hrel
    by_cases hlt : k < cs.length
    · obtain ⟨b, off, ea, c0⟩ := cell1 ((dsk_mem HM.out).1.kept HKr.out) k hlt
      subst ea
      have HX : Hid (cs[k] = cs[k]) := rfl
      generalize hc : cs[k] = c at c0 HX
      replace HX := hide hc
      have hcl := HT.out cs[k] (List.getElem_mem hlt)
      rw [hc] at hcl
      clear hc
      obtain ⟨xa, xc, xL⟩ := c
      dsimp only [Bs.v] at c0 hcl
      by_cases e0 : xL.length = 0
      · have hb := ne_false e0
        have HE := hide e0
        clear e0
        simp only [Int.cast_ofNat_Int] at hb
        go_wp2_with fail
        go_roundw
        case rel => exact ⟨k + 1, by omega, by go_num, fun j hj h => by
                      by_cases e : j = k
                      · subst e; rw [HX.out]; simp [cokB, HE.out]
                      · exact HG.out j hj (by omega), HKr.out.trans (Keeps.alloc (Keeps.refl _) _)⟩
        case measure => simp [intOf]; omega
      · have hb := ne_true e0
        simp only [Int.cast_ofNat_Int] at hb
        by_cases e1 : xL.length = 128
        · have hb1 := ne_false e1
          have HE := hide e1
          clear e0 e1
          simp only [Int.cast_ofNat_Int] at hb1
          go_wp2_with fail
          go_roundw
          case rel => exact ⟨k + 1, by omega, by go_num, fun j hj h => by
                        by_cases e : j = k
                        · subst e; rw [HX.out]; simp [cokB, HE.out]
                        · exact HG.out j hj (by omega), HKr.out.trans (Keeps.alloc (Keeps.refl _) _)⟩
          case measure => simp [intOf]; omega
        · have hb1 := ne_true e1
          simp only [Int.cast_ofNat_Int] at hb1
          have H : Hid (dokB cs ds = false) := dok_bad2 hlt (by rw [HX.out]; simp only [cokB, decide_eq_false e0, decide_eq_false e1]; rfl)
          clear e0 e1
          go_wp2_with fail
          go_ret
          exact ⟨ret_b H.out.symm, HKW.out.trans (HKr.out.trans (Keeps.alloc (Keeps.refl _) _))⟩
    · have HG1 : Hid (∀ j (hj : j < cs.length), cokB cs[j] = true) := fun j hj => HG.out j hj (by omega)
      obtain ⟨d0, d1⟩ := HD.out _ HKr.out
      have HKs := HKr
      clear HG
      go_wp2_with fail
      go_loopw [44] (fun y wr => ∃ k : Nat, k ≤ ds.length ∧ y = .int .i64 (k : Int) ∧ Hid (∀ j (hj : j < ds.length), j < k → wokB cs.length ds[j] = true) ∧ Hid (Keeps W0 wr)) (fun y _ => ds.length - (intOf y).toNat)
      case atStart => exact ⟨0, by omega, rfl, fun j hj h => absurd h (by omega), HKs⟩
      case round =>
        clear HKr d0 d1 HKs
        obtain ⟨k, hk, rfl, HG, HKr⟩ := hrel
        by_cases hlt : k < ds.length
        · obtain ⟨b, off, ea, c0, c1⟩ := cell2 ((dsk_mem HM.out).2.2.1.kept HKr.out) k hlt
          subst ea
          have HX : Hid (ds[k] = ds[k]) := rfl
          generalize hc : ds[k] = c at c0 c1 HX
          replace HX := hide hc
          have hcl := HT'.out ds[k] (List.getElem_mem hlt)
          rw [hc] at hcl
          clear hc
          obtain ⟨xi, xa, xc, xL⟩ := c
          dsimp only [Bs.v] at c0 c1 hcl
          obtain ⟨d0, d1⟩ := HD.out _ HKr.out
          have hz : w.heap.size < wr.heap.size := by have := HKr.out.size; have := HZ.out; omega
          by_cases i0 : xi < 0
          · have H : Hid (dokB cs ds = false) := dok_bad3 hlt (by rw [HX.out]; simp [wokB]; omega)
            go_wp2_with fail
            go_ret
            exact ⟨ret_b H.out.symm, HKW.out.trans (HKr.out.trans (Keeps.alloc (Keeps.refl _) _))⟩
          by_cases i1 : (cs.length : Int) ≤ xi
          · have H : Hid (dokB cs ds = false) := dok_bad3 hlt (by rw [HX.out]; simp [wokB]; omega)
            go_wp2_with fail
            go_ret
            exact ⟨ret_b H.out.symm, HKW.out.trans (HKr.out.trans (Keeps.alloc (Keeps.refl _) _))⟩
          have hbi : xi < (cs.length : Int) := by omega
          by_cases e1 : xL.length = 128
          · have hb1 := ne_false e1
            have HE := hide e1
            clear e1
            simp only [Int.cast_ofNat_Int] at hb1
            go_wp2_with fail
            go_roundw
            case rel => exact ⟨k + 1, by omega, by go_num, fun j hj h => by
                          by_cases e : j = k
                          · subst e; rw [HX.out]; simp [wokB, HE.out]; omega
                          · exact HG.out j hj (by omega), HKr.out.trans (Keeps.alloc (Keeps.refl _) _)⟩
            case measure => simp [intOf]; omega
          · have hb1 := ne_true e1
            simp only [Int.cast_ofNat_Int] at hb1
            have H : Hid (dokB cs ds = false) := dok_bad3 hlt (by rw [HX.out]; simp [wokB, e1])
            clear e1
            go_wp2_with fail
            go_ret
            exact ⟨ret_b H.out.symm, HKW.out.trans (HKr.out.trans (Keeps.alloc (Keeps.refl _) _))⟩
        · have H : Hid (dokB cs ds = true) := dok_good (by omega) (by omega) (by omega) HG1.out (fun j hj => HG.out j hj (by omega))
          go_wp2_with fail
          go_ret
          exact ⟨ret_b H.out.symm, HKW.out.trans HKr.out⟩
set_option maxHeartbeats 4000000 in
theorem diskok_impl (ca : Option Addr) (cc : Nat) (cs : List Bs) (da : Option Addr) (dc : Nat) (ds : List Wr) (w : World) (hm : Mem w (dsk ca cs da ds)) (hl : cs.length ≤ 9223372036854775807) (hl' : ds.length ≤ 9223372036854775807) (ht : ∀ b ∈ cs, b.L.length ≤ 9223372036854775807) (ht' : ∀ x ∈ ds, x.b.L.length ≤ 9223372036854775807) :
    Calls Tryz.prog 45 #[dskV ca cs.length cc da ds.length dc] w fun e w' => e = .returned (.bool (dokB cs ds)) ∧ Keeps w w' := by
  have HKW := hide (Keeps.alloc (Keeps.refl w) (.cells #[.slice ca cs.length cc, .slice da ds.length dc] 26))
  have HM := hide (hm.kept HKW.out)
  have HT := hide ht
  have HT' := hide ht'
  clear hm ht ht'
  by_cases h1 : cs.length < 1
  · have H : Hid (dokB cs ds = false) := dok_bad1 (Or.inl h1)
    go_enter Tryz.func45, Tryz.ntmps45
    go_wp2_with fail
    go_ret
    exact ⟨ret_b H.out.symm, Keeps.alloc (Keeps.refl _) _⟩
  by_cases h2 : 600 < cs.length
  · have H : Hid (dokB cs ds = false) := dok_bad1 (Or.inr (Or.inl h2))
    go_enter Tryz.func45, Tryz.ntmps45
    go_wp2_with fail
    go_ret
    exact ⟨ret_b H.out.symm, Keeps.alloc (Keeps.refl _) _⟩
  by_cases h3 : 600 < ds.length
  · have H : Hid (dokB cs ds = false) := dok_bad1 (Or.inr (Or.inr h3))
    go_enter Tryz.func45, Tryz.ntmps45
    go_wp2_with fail
    go_ret
    exact ⟨ret_b H.out.symm, Keeps.alloc (Keeps.refl _) _⟩
  clear hl hl'
  have HD : Hid (∀ w', Keeps (w.alloc (.cells #[.slice ca cs.length cc, .slice da ds.length dc] 26)) w' → w'.cell? ⟨w.heap.size, 0, none⟩ = some (.slice ca cs.length cc) ∧ w'.cell? ⟨w.heap.size, 1, none⟩ = some (.slice da ds.length dc)) :=
    fun w' hk => ⟨hk.cell (by simp), hk.cell (by simp)⟩
  have HZ : Hid ((w.alloc (.cells #[.slice ca cs.length cc, .slice da ds.length dc] 26)).heap.size = w.heap.size + 1) := by show _ = _; rw [World.size_alloc]
  go_enter Tryz.func45, Tryz.ntmps45
  go_wp2_with fail
  generalize w.alloc (.cells #[.slice ca cs.length cc, .slice da ds.length dc] 26) = W0 at *
  go_loopw [26] (fun y wr => ∃ k : Nat, k ≤ cs.length ∧ y = .int .i64 (k : Int) ∧ Hid (∀ j (hj : j < cs.length), j < k → cokB cs[j] = true) ∧ Hid (Keeps W0 wr)) (fun y _ => cs.length - (intOf y).toNat)
  case atStart => exact ⟨0, by omega, rfl, fun j hj h => absurd h (by omega), Keeps.refl _⟩
  case round =>
    obtain ⟨k, hk, rfl, HG, HKr⟩ := hrel
    by_cases hlt : k < cs.length
    · obtain ⟨b, off, ea, c0⟩ := cell1 ((dsk_mem HM.out).1.kept HKr.out) k hlt
      subst ea
      have HX : Hid (cs[k] = cs[k]) := rfl
      generalize hc : cs[k] = c at c0 HX
      replace HX := hide hc
      have hcl := HT.out cs[k] (List.getElem_mem hlt)
      rw [hc] at hcl
      clear hc
      obtain ⟨xa, xc, xL⟩ := c
      dsimp only [Bs.v] at c0 hcl
      by_cases e0 : xL.length = 0
      · have hb := ne_false e0
        have HE := hide e0
        clear e0
        simp only [Int.cast_ofNat_Int] at hb
        go_wp2_with fail
        go_roundw
        case rel => exact ⟨k + 1, by omega, by go_num, fun j hj h => by
                      by_cases e : j = k
                      · subst e; rw [HX.out]; simp [cokB, HE.out]
                      · exact HG.out j hj (by omega), HKr.out.trans (Keeps.alloc (Keeps.refl _) _)⟩
        case measure => simp [intOf]; omega
      · have hb := ne_true e0
        simp only [Int.cast_ofNat_Int] at hb
        by_cases e1 : xL.length = 128
        · have hb1 := ne_false e1
          have HE := hide e1
          clear e0 e1
          simp only [Int.cast_ofNat_Int] at hb1
          go_wp2_with fail
          go_roundw
          case rel => exact ⟨k + 1, by omega, by go_num, fun j hj h => by
                        by_cases e : j = k
                        · subst e; rw [HX.out]; simp [cokB, HE.out]
                        · exact HG.out j hj (by omega), HKr.out.trans (Keeps.alloc (Keeps.refl _) _)⟩
          case measure => simp [intOf]; omega
        · have hb1 := ne_true e1
          simp only [Int.cast_ofNat_Int] at hb1
          have H : Hid (dokB cs ds = false) := dok_bad2 hlt (by rw [HX.out]; simp only [cokB, decide_eq_false e0, decide_eq_false e1]; rfl)
          clear e0 e1
          go_wp2_with fail
          go_ret
          exact ⟨ret_b H.out.symm, HKW.out.trans (HKr.out.trans (Keeps.alloc (Keeps.refl _) _))⟩
    · have HG1 : Hid (∀ j (hj : j < cs.length), cokB cs[j] = true) := fun j hj => HG.out j hj (by omega)
      obtain ⟨d0, d1⟩ := HD.out _ HKr.out
      have HKs := HKr
      clear HG
      go_wp2_with fail
      go_loopw [44] (fun y wr => ∃ k : Nat, k ≤ ds.length ∧ y = .int .i64 (k : Int) ∧ Hid (∀ j (hj : j < ds.length), j < k → wokB cs.length ds[j] = true) ∧ Hid (Keeps W0 wr)) (fun y _ => ds.length - (intOf y).toNat)
      case atStart => exact ⟨0, by omega, rfl, fun j hj h => absurd h (by omega), HKs⟩
      case round =>
        clear HKr d0 d1 HKs
        obtain ⟨k, hk, rfl, HG, HKr⟩ := hrel
        by_cases hlt : k < ds.length
        · obtain ⟨b, off, ea, c0, c1⟩ := cell2 ((dsk_mem HM.out).2.2.1.kept HKr.out) k hlt
          subst ea
          have HX : Hid (ds[k] = ds[k]) := rfl
          generalize hc : ds[k] = c at c0 c1 HX
          replace HX := hide hc
          have hcl := HT'.out ds[k] (List.getElem_mem hlt)
          rw [hc] at hcl
          clear hc
          obtain ⟨xi, xa, xc, xL⟩ := c
          dsimp only [Bs.v] at c0 c1 hcl
          obtain ⟨d0, d1⟩ := HD.out _ HKr.out
          have hz : w.heap.size < wr.heap.size := by have := HKr.out.size; have := HZ.out; omega
          by_cases i0 : xi < 0
          · have H : Hid (dokB cs ds = false) := dok_bad3 hlt (by rw [HX.out]; simp [wokB]; omega)
            have hbool : (decide (0 ≤ xi) && decide (xi < (cs.length : Int))) = false := by
              simp; omega
            have HQ := hide (hascell_k ca cs.length cc (some ⟨b, off, none⟩) ds.length dc xi (wr.alloc (.cells #[.int .i64 xi, .slice xa xL.length xc] 86)) (by omega))
            rw [hbool] at HQ
            go_wp2_with fail
            refine (unhide HQ).mono ?_
            rintro e w9 ⟨rfl, hk9⟩
            have d2 := hk9.cell (p := ⟨wr.heap.size, 1, none⟩) (v := .slice xa xL.length xc) (by simp)
            have HK9 := hide (HKr.out.trans ((Keeps.alloc (Keeps.refl wr) (.cells #[.int .i64 xi, .slice xa xL.length xc] 86)).trans hk9))
            clear hk9
            go_wp2_with fail
            go_ret
            exact ⟨ret_b H.out.symm, HKW.out.trans HK9.out⟩
          by_cases i1 : (cs.length : Int) ≤ xi
          · have H : Hid (dokB cs ds = false) := dok_bad3 hlt (by rw [HX.out]; simp [wokB]; omega)
            have hbool : (decide (0 ≤ xi) && decide (xi < (cs.length : Int))) = false := by
              simp; omega
            have HQ := hide (hascell_k ca cs.length cc (some ⟨b, off, none⟩) ds.length dc xi (wr.alloc (.cells #[.int .i64 xi, .slice xa xL.length xc] 86)) (by omega))
            rw [hbool] at HQ
            go_wp2_with fail
            refine (unhide HQ).mono ?_
            rintro e w9 ⟨rfl, hk9⟩
            have d2 := hk9.cell (p := ⟨wr.heap.size, 1, none⟩) (v := .slice xa xL.length xc) (by simp)
            have HK9 := hide (HKr.out.trans ((Keeps.alloc (Keeps.refl wr) (.cells #[.int .i64 xi, .slice xa xL.length xc] 86)).trans hk9))
            clear hk9
            go_wp2_with fail
            go_ret
            exact ⟨ret_b H.out.symm, HKW.out.trans HK9.out⟩
          have hbi : xi < (cs.length : Int) := by omega
          have hbool : (decide (0 ≤ xi) && decide (xi < (cs.length : Int))) = true := by
            simp; omega
          by_cases e1 : xL.length = 128
          · have hb1 := ne_false e1
            have HE := hide e1
            clear e1
            simp only [Int.cast_ofNat_Int] at hb1
            have HQ := hide (hascell_k ca cs.length cc (some ⟨b, off, none⟩) ds.length dc xi (wr.alloc (.cells #[.int .i64 xi, .slice xa xL.length xc] 86)) (by omega))
            rw [hbool] at HQ
            go_wp2_with fail
            refine (unhide HQ).mono ?_
            rintro e w9 ⟨rfl, hk9⟩
            have d2 := hk9.cell (p := ⟨wr.heap.size, 1, none⟩) (v := .slice xa xL.length xc) (by simp)
            have HK9 := hide (HKr.out.trans ((Keeps.alloc (Keeps.refl wr) (.cells #[.int .i64 xi, .slice xa xL.length xc] 86)).trans hk9))
            clear hk9
            go_wp2_with fail
            go_roundw
            case rel => exact ⟨k + 1, by omega, by go_num, fun j hj h => by
                          by_cases e : j = k
                          · subst e; rw [HX.out]; simp [wokB, HE.out]; omega
                          · exact HG.out j hj (by omega), HK9.out⟩
            case measure => simp [intOf]; omega
          · have hb1 := ne_true e1
            simp only [Int.cast_ofNat_Int] at hb1
            have H : Hid (dokB cs ds = false) := dok_bad3 hlt (by rw [HX.out]; simp [wokB, e1])
            clear e1
            have HQ := hide (hascell_k ca cs.length cc (some ⟨b, off, none⟩) ds.length dc xi (wr.alloc (.cells #[.int .i64 xi, .slice xa xL.length xc] 86)) (by omega))
            rw [hbool] at HQ
            go_wp2_with fail
            refine (unhide HQ).mono ?_
            rintro e w9 ⟨rfl, hk9⟩
            have d2 := hk9.cell (p := ⟨wr.heap.size, 1, none⟩) (v := .slice xa xL.length xc) (by simp)
            have HK9 := hide (HKr.out.trans ((Keeps.alloc (Keeps.refl wr) (.cells #[.int .i64 xi, .slice xa xL.length xc] 86)).trans hk9))
            clear hk9
            go_wp2_with fail
            go_ret
            exact ⟨ret_b H.out.symm, HKW.out.trans HK9.out⟩
        · have H : Hid (dokB cs ds = true) := dok_good (by omega) (by omega) (by omega) HG1.out (fun j hj => HG.out j hj (by omega))
          go_wp2_with fail
          go_ret
          exact ⟨ret_b H.out.symm, HKW.out.trans HKr.out⟩
end Go.Proofs.YtkdnddckogbgaaaGreatDoor
namespace Go.Proofs.YtkdnddckogbgaaaGreatDoor
open Go.RowKit Go.Deep
set_option linter.unusedVariables false
set_option maxRecDepth 10000

def dat (cs : List Bs) (ds : List Wr) : DkM := ⟨cs.map Bs.L, ds.map Wr.key⟩
/-- A disk of moderate size, no list of which is nil and has room. -/
structure DOk (cs : List Bs) (ds : List Wr) : Prop where
  c : cs.length ≤ 1048576
  d : ds.length ≤ 1048576
  tc : tot cs ≤ 1048576
  td : totW ds ≤ 1048576
  nc : ∀ b ∈ cs, b.fit
  nd : ∀ x ∈ ds, x.b.fit
/-- Is the disk right? By what it says. -/
def dokM (m : DkM) : Bool := decide (1 ≤ m.cells.length) && decide (m.cells.length ≤ 600) && decide (m.dirty.length ≤ 600) && m.cells.all (fun L => decide (L.length = 0) || decide (L.length = 128)) && m.dirty.all (fun x => decide (0 ≤ x.1) && decide (x.1 < m.cells.length) && decide (x.2.length = 128))
theorem dok_dat (cs : List Bs) (ds : List Wr) : dokB cs ds = dokM (dat cs ds) := by
  unfold dokB dokM dat
  simp only [List.length_map, List.all_map]
  rfl
/-- A disk that was made behind w. -/
def DiskRes (w w' : World) (v : Value) (M : DkM) : Prop := ∃ (ca : Option Addr) (cc : Nat) (cs : List Bs) (da : Option Addr) (dc : Nat) (ds : List Wr), v = dskV ca cs.length cc da ds.length dc ∧ dat cs ds = M ∧ DOk cs ds ∧ (ca = none → cc = 0) ∧ (da = none → dc = 0) ∧ Born w w' (dsk ca cs da ds)
theorem DOk.big {cs : List Bs} {ds : List Wr} (h : DOk cs ds) : cs.length ≤ 9223372036854775807 ∧ ds.length ≤ 9223372036854775807 ∧ (∀ b ∈ cs, b.L.length ≤ 9223372036854775807) ∧ (∀ x ∈ ds, x.b.L.length ≤ 9223372036854775807) :=
  ⟨Nat.le_trans h.c (by decide), Nat.le_trans h.d (by decide), fun b hb => Nat.le_trans (tot_le hb) (Nat.le_trans h.tc (by decide)), fun x hx => Nat.le_trans (totW_le hx) (Nat.le_trans h.td (by decide))⟩
theorem diskok_spec' (ca : Option Addr) (cc : Nat) (cs : List Bs) (da : Option Addr) (dc : Nat) (ds : List Wr) (w : World) (hm : Mem w (dsk ca cs da ds)) (h : DOk cs ds) :
    Calls Tryz.prog 36 #[dskV ca cs.length cc da ds.length dc] w fun e w' => e = .returned (.bool (dokM (dat cs ds))) ∧ Keeps w w' := by
  rw [← dok_dat]; exact diskok_spec ca cc cs da dc ds w hm h.big.1 h.big.2.1 h.big.2.2.1 h.big.2.2.2
theorem diskok_impl' (ca : Option Addr) (cc : Nat) (cs : List Bs) (da : Option Addr) (dc : Nat) (ds : List Wr) (w : World) (hm : Mem w (dsk ca cs da ds)) (h : DOk cs ds) :
    Calls Tryz.prog 45 #[dskV ca cs.length cc da ds.length dc] w fun e w' => e = .returned (.bool (dokM (dat cs ds))) ∧ Keeps w w' := by
  rw [← dok_dat]; exact diskok_impl ca cc cs da dc ds w hm h.big.1 h.big.2.1 h.big.2.2.1 h.big.2.2.2
end Go.Proofs.YtkdnddckogbgaaaGreatDoor
