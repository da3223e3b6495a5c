/- A synced disk reads as the one that waits: mathematics; DrawDiskSync; bytes as strings. -/
import Derived.Test.YtkdnddckogbgaaaDrE
import Derived.Test.YtkdnddckogbgaaaStr
import Derived.Test.YtkdnddckogbgaaaDRR
namespace Go.Proofs.Ytkdnddckogbgaaa
open Go.RowKit Go.Deep
set_option linter.unusedVariables false
set_option linter.unusedSimpArgs false
theorem land_all {old new : List UInt8} (hn : new.length = 128) (ho : (fullL old).length = 128) : landL old new 128 = new := by
  unfold landL
  rw [List.take_of_length_le (by omega), List.drop_eq_nil_of_le (by omega), List.append_nil]
theorem full_len {L : List UInt8} (h : L.length = 0 ∨ L.length = 128) : (fullL L).length = 128 := by
  unfold fullL
  split
  · simp
  · rename_i h0
    rcases h with h1 | h1
    · exact absurd (List.length_eq_zero_iff.1 h1) h0
    · exact h1
theorem getD_ok {C : List (List UInt8)} (hC : okC C) (i : Nat) : (C.getD i []).length = 0 ∨ (C.getD i []).length = 128 := by
  rw [List.getD_eq_getElem?_getD]
  cases h : C[i]? with
  | none => simp
  | some y => exact hC y (List.mem_of_getElem? h)
theorem crash_cell {m : DkM} (h : dokM m = true) {i : Int} (h0 : 0 ≤ i) : ∀ k, k ≤ m.dirty.length → (crashTo m.cells m.dirty (fun _ => 128) k).getD i.toNat [] = (lastD (m.dirty.take k) i).getD (m.cells.getD i.toNat [])
  | 0, _ => by simp [crashTo, lastD]
  | k + 1, hk => by
    have ih := crash_cell h h0 k (by omega)
    have hlt : k < m.dirty.length := by omega
    have hx := dokM_dirty h (List.getElem_mem hlt)
    have hok := crashTo_ok h (f := fun _ => 128) (fun _ => Nat.le_refl _) k
    have hlen := crashTo_len m.cells m.dirty (fun _ => 128) k
    rw [List.take_succ_eq_append_getElem hlt, lastD_append]
    simp only [crashTo, List.getElem?_eq_getElem hlt]
    generalize m.dirty[k] = x at *
    obtain ⟨xi, xL⟩ := x
    dsimp only at hx
    unfold landM
    rw [if_neg (by decide), land_all hx.2.2 (full_len (getD_ok hok _))]
    by_cases e : xi = i
    · subst e
      rw [List.getD_eq_getElem?_getD, List.getElem?_set_self (by rw [hlen]; omega)]
      simp [lastD]
    · rw [List.getD_eq_getElem?_getD, List.getElem?_set_ne (by omega), ← List.getD_eq_getElem?_getD, ih]
      simp [lastD, e]
theorem last_len {D : List (Int × List UInt8)} {i : Int} {L : List UInt8} (hD : ∀ x ∈ D, x.2.length = 128) (h : lastD D i = some L) : L.length = 128 := by
  induction D with
  | nil => simp [lastD] at h
  | cons x t ih =>
    simp only [lastD] at h
    cases ht : lastD t i with
    | some y =>
      rw [ht] at h
      simp at h
      subst h
      exact ih (fun x hx => hD x (List.mem_cons_of_mem _ hx)) ht
    | none =>
      rw [ht] at h
      simp at h
      rw [← h.2]
      exact hD x (List.mem_cons_self ..)
/-- A disk that was synced reads as ahead of it. -/
theorem sync_read {m : DkM} (h : dokM m = true) {i : Int} (h0 : 0 ≤ i) (h1 : i < m.cells.length) : readB m i = true ∧ readB (crashM m (fun _ => 128)) i = true ∧ readL (crashM m (fun _ => 128)) i = readL m i := by
  obtain ⟨c1, c2, c3⟩ := dok_crash h (f := fun _ => 128) (fun _ => Nat.le_refl _)
  have b1 : readB m i = true := by simp [readB, h, h0, h1]
  have b2 : readB (crashM m (fun _ => 128)) i = true := by simp [readB, c1, h0, c2, h1]
  refine ⟨b1, b2, ?_⟩
  unfold readL
  rw [if_pos b1, if_pos b2, c3]
  have e : (crashM m (fun _ => 128)).cells = crashTo m.cells m.dirty (fun _ => 128) m.dirty.length := by unfold crashM; rw [if_pos h]
  rw [e, crash_cell h h0 m.dirty.length (Nat.le_refl _), List.take_length]
  cases hl : lastD m.dirty i with
  | none => simp [lastD]
  | some L =>
    have := last_len (fun x hx => (dokM_dirty h hx).2.2) hl
    simp [lastD, fullL]
    intro h
    rw [h] at this
    simp at this
/-- Of a disk on which nothing waits a crash keeps all. -/
theorem crash_none {m : DkM} (h : dokM m = true) (hd : m.dirty = []) (f : Nat → Nat) : crashM m f = m := by
  unfold crashM
  rw [if_pos h]
  obtain ⟨C, D⟩ := m
  dsimp only at hd
  subst hd
  rfl
theorem str_nilP (n cap : Nat) (w : World) : (convert 22 9 (.slice none n cap)).run Try.prog w = .ok (.string (strL [])) w := by
  rw [run_convert_bytes_string w 22 9 5 _ _ _ underBytes Try.underlying5 Try.underlying9]
  rfl
/-- Bytes in memory as a text. -/
theorem str_ownP {w : World} {p : Option Addr} {l c : Nat} {L : List UInt8} (hl : L.length = l) (hc : Cells w p (bys L)) : (convert 22 9 (.slice p l c)).run Try.prog w = .ok (.string (strL L)) w := by
  subst hl
  rcases hc with h | ⟨b, off, rfl, h⟩
  · have h0 := bys_nil.1 h
    subst h0
    cases p with
    | none => exact str_nilP _ _ _
    | some x =>
      rw [run_convert_bytes_string w 22 9 5 _ _ _ underBytes Try.underlying5 Try.underlying9]
      have h := run_loadCells_list (P := Try.prog) (w := w) x [] (fun j v hj => by simp at hj)
      exact run_bytesToString w x 0 c [] h
  · exact str_of _ _ L w b off rfl (.inr ⟨b, off, rfl, h⟩)
set_option maxHeartbeats 4000000 in
set_option maxHeartbeats 2000000 in
theorem draw_disk (a : Option Addr) (len cap : Nat) (w : World) (hr : RowAt w.heap.size w a len) (hl : len ≤ 1048576) :
    Calls Try.prog 5 #[.slice a len cap] w fun e w' => AnyDisk w w' e ∧ Keeps w w' := by
  have HK0 := hide (Keeps.alloc (Keeps.refl w) (.cells #[.slice none 0 0, .slice none 0 0] 26))
  have HRw : Hid (RowAt (w.alloc (.cells #[.slice none 0 0, .slice none 0 0] 26)).heap.size (w.alloc (.cells #[.slice none 0 0, .slice none 0 0] 26)) a len) := RowAt.up (hr.below HK0.out) HK0.out.size
  have HR0 := hide (World.rowIs_alloc w #[.slice none 0 0, .slice none 0 0] 26 _ (two_rowD _ _))
  clear hr
  go_enter Try.func5, Try.ntmps5
  go_wp2_with fail
  refine (new_any a len cap _ HRw.out hl).mono ?_
  rintro x w1 ⟨he, s1, hk1⟩
  have he1 : x = .returned (.pointer (some ⟨w.heap.size + 1, 0, none⟩)) := by rw [he]; simp
  clear he
  subst he1
  have hz : (w.alloc (.cells #[.slice none 0 0, .slice none 0 0] 26)).heap.size = w.heap.size + 1 := by simp
  have hz1 := hk1.size
  rw [hz] at s1 hz1
  have HS1 := hide s1
  have HK1 := hide (HK0.out.trans hk1)
  have HR1 := hide (HR0.out.of_block (Below.block hk1 _ HR0.out.lt))
  clear s1 hk1 HRw HR0 hz
  go_wp2_with fail
  refine (anydisk_any HS1.out).mono ?_
  rintro x w2 ⟨⟨v, M, rfl, hr, hM2, hM3⟩, s2, g2⟩
  obtain ⟨ca, cc, cs, da, dc, ds, rfl, he, hok, hna, hnd, hb⟩ := hr
  have HR2 := hide (grown_row g2 (by simp) HR1.out)
  have HK2 := hide (keeps_of HK1.out g2 (by intro r hr; injection hr with hr; omega))
  have HB2 := hide hb
  have HE := hide he
  have HX := hide (And.intro hok (And.intro hna hnd))
  have hlt := HR2.out.lt
  have r0 := HR2.out.cell (i := 0) (by simp)
  have r1 := HR2.out.cell (i := 1) (by simp)
  have rf0 := HR2.out.frozen 0
  have rf1 := HR2.out.frozen 1
  simp at r0 r1
  have HKa := hide (Keeps.alloc (Keeps.refl w2) (.cells #[.slice ca cs.length cc, .slice da ds.length dc] 26))
  clear s2 g2 HS1 HR1 hb he hok hna hnd
  go_wp2_with fail
  have r9 := row_two' HR2.out (.slice ca cs.length cc) (.slice da ds.length dc)
  have o0' := r9.cell (i := 0) (by decide)
  have o1' := r9.cell (i := 1) (by decide)
  simp only [if_true, Nat.one_ne_zero, if_false] at o0' o1'
  have ht : Turn [w.heap.size] w2 ((w2.setCell ⟨w.heap.size, 0, none⟩ (.slice ca cs.length cc)).setCell ⟨w.heap.size, 1, none⟩ (.slice da ds.length dc)) := (Turn.set (by simp) _).trans' (Turn.set (by simp) _)
  have hBn := ((HB2.out.turn ht (fun b hb hx => by have h1 := HB2.out.new b hb; have h2 : b = w.heap.size := (by simpa using hx); omega)).old HK1.out).kept (Keeps.alloc (Keeps.refl _) (.cells #[.slice ca cs.length cc, .slice da ds.length dc] 26))
  have o0 := (Keeps.alloc (Keeps.refl _) (.cells #[.slice ca cs.length cc, .slice da ds.length dc] 26)).cell o0'
  have o1 := (Keeps.alloc (Keeps.refl _) (.cells #[.slice ca cs.length cc, .slice da ds.length dc] 26)).cell o1'
  refine bodyPost_ret (v := dskV ca cs.length cc da ds.length dc) ?_ rfl ⟨⟨_, M, rfl, ⟨ca, cc, cs, da, dc, ds, rfl, HE.out, HX.out.1, HX.out.2.1, HX.out.2.2, hBn⟩, hM2, hM3⟩, Keeps.alloc (Keeps.setCell (Keeps.setCell HK2.out (Nat.le_refl _) _) (Nat.le_refl _) _) _⟩
  clear hBn ht r9 o0' o1' r0 r1 rf0 rf1 HR2 HK2 HB2
  revert o0 o1
  generalize World.alloc _ _ = W'
  intro o0 o1
  simp [results, Try.results5, go_sem, o0, o1]
end Go.Proofs.Ytkdnddckogbgaaa
