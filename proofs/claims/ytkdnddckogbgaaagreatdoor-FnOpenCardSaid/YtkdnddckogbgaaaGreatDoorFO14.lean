/- The reader's event. -/
import Derived.Test.YtkdnddckogbgaaaGreatDoorFO11
import Derived.Test.YtkdnddckogbgaaaGreatDoorFO13
namespace Go.Proofs.YtkdnddckogbgaaaGreatDoor
open Go.RowKit Go.Deep
set_option linter.unusedVariables false
set_option linter.unusedSimpArgs false
set_option maxRecDepth 10000
theorem evok_is (k y c t m f : Int) (b r : Bool) (hr : evB k y c t m f b = r) (w : World) : Calls Tryz.prog 69 #[evV k y c t m f b] w fun e w' => e = .returned (.bool r) ∧ Keeps w w' := by
  rw [← hr]; exact evok_impl k y c t m f b w
set_option maxHeartbeats 4000000 in
theorem event_yes (B b off : Nat) (L : List UInt8) (cap : Nat) (w : World) (u : TypeId) (pv : Value) (hv : w.cell? ⟨0, 0, none⟩ = some (.iface u pv)) (hgB : 0 ≠ B) (hr : Rd w B (some ⟨b, off, none⟩) L cap (0 : Nat)) (hB : b ≠ B) (hBl : B < w.heap.size) (hbl : b < w.heap.size) (hc : Cells w (some ⟨b, off, none⟩) (bys L)) (hcap : L.length ≤ cap) (hcm : cap ≤ 9223372036854775807) (h22 : L.length = 22) (z k y c t m f q : Nat) (ez : numL (cut L 0 1) = z) (ek : numL (cut L 1 1) = k) (ey : numL (cut L 2 3) = y) (ec : numL (cut L 5 1) = c) (et : numL (cut L 6 1) = t) (em : numL (cut L 7 7) = m) (ef : numL (cut L 14 7) = f) (eq : numL (cut L 21 1) = q) (hz : z = 69) (hq : q ≤ 1) (hev : evB k y c t m f (decide (q = 1)) = true) :
    Calls Tryz.prog 82 #[.pointer (some ⟨B, 0, none⟩)] w fun e w' => e = .returned (evV k y c t m f (decide (q = 1))) ∧ Turn [B] w w' := by
  have hb := born_alloc w #[.int .i64 0, .int .i64 0, .int .i64 0, .int .i64 0, .int .i64 0, .int .i64 0, .bool false] 30
  dsimp only at hb
  have hk := Keeps.alloc (Keeps.refl w) (.cells #[.int .i64 0, .int .i64 0, .int .i64 0, .int .i64 0, .int .i64 0, .int .i64 0, .bool false] 30)
  have HG := hide (fun (w' : World) (ht : Turn [B] w w') => ht.cell (p := ⟨0, 0, none⟩) (by simpa using hgB) hv)
  have HS : Hid (RS w (w.alloc (.cells #[.int .i64 0, .int .i64 0, .int .i64 0, .int .i64 0, .int .i64 0, .int .i64 0, .bool false] 30)) B b off L cap 0 w.heap.size [.int .i64 0, .int .i64 0, .int .i64 0, .int .i64 0, .int .i64 0, .int .i64 0, .bool false]) :=
    ⟨⟨hk.cell hr.data, hk.cell hr.place, by rw [hk.oldF _ _ hBl]; exact hr.free⟩, hc.kept hk, hb.toOwn, Turn.of_keeps hk [B], Nat.le_refl _, hBl, hbl, hB⟩
  have HCap := hide hcap
  have HCm := hide hcm
  clear hb hk hv hr hc hgB hcap hcm
  have hn : ((L.length : Int) == 22) = true := by rw [h22]; rfl
  have HL : Hid (L.length ≤ 16777216) := by show _ ≤ _; omega
  have HP : Hid (∀ p s : Nat, p + s ≤ 22 → p + s ≤ L.length) := fun p s h => by omega
  have d0 := HS.out.rd.data
  have Nz := hide ez
  have Nk := hide ek
  have Ny := hide ey
  have Nc := hide ec
  have Nt := hide et
  have Nm := hide em
  have Nf := hide ef
  have Nq := hide eq
  have HEV := hide hev
  clear hev
  clear h22 ez ek ey ec et em ef eq
  have hz2 : ((z : Int) == 69) = true := by rw [hz]; rfl
  clear hz
  go_enter Tryz.func82, Tryz.ntmps82
  go_wp2_with fail
  go_at_call 109
  refine (number_t B b off L cap 0 1 z Nz.out _ HS.out.rd hB HS.out.cells HL.out HCap.out HCm.out (by decide) (by decide) (HP.out 0 1 (by decide))).mono ?_
  rintro e w1 ⟨rfl, hr1, ht1⟩
  replace HS := hide (HS.out.num hr1 ht1)
  have hz12 : w.heap.size < w1.heap.size := by have := ht1.size; simp at this; omega
  clear hr1 ht1 d0
  simp only [Nat.zero_add] at HS
  go_wp2_with fail
  go_at_call 108
  refine (insist_yes _).mono ?_
  rintro e w' ⟨rfl, hw'⟩
  obtain rfl := Eq.symm hw'
  clear hw'
  have hbV := born_alloc w1 #[.int .i64 0, .int .i64 0, .int .i64 0, .int .i64 0, .int .i64 0, .int .i64 0, .bool false] 30
  dsimp only at hbV
  have hkV := Keeps.alloc (Keeps.refl w1) (.cells #[.int .i64 0, .int .i64 0, .int .i64 0, .int .i64 0, .int .i64 0, .int .i64 0, .bool false] 30)
  have HT : Hid (RS w (w1.alloc (.cells #[.int .i64 0, .int .i64 0, .int .i64 0, .int .i64 0, .int .i64 0, .int .i64 0, .bool false] 30)) B b off L cap 1 w1.heap.size [.int .i64 0, .int .i64 0, .int .i64 0, .int .i64 0, .int .i64 0, .int .i64 0, .bool false]) :=
    ⟨(HS.out.kept hkV).rd, (HS.out.kept hkV).cells, hbV.toOwn, (HS.out.kept hkV).turn, Nat.le_trans (Nat.le_of_lt hz12) (Nat.le_refl _), HS.out.oldB, HS.out.oldb, HS.out.ne⟩
  replace HS := hide (HS.out.kept hkV)
  clear hbV hkV
  go_wp2_with fail
  generalize w1.alloc (.cells #[.int .i64 0, .int .i64 0, .int .i64 0, .int .i64 0, .int .i64 0, .int .i64 0, .bool false] 30) = w2 at *
  generalize hV : w1.heap.size = V at *
  clear hV w1
  go_at_call 109
  refine (number_t B b off L cap 1 1 k Nk.out _ HS.out.rd hB HS.out.cells HL.out HCap.out HCm.out (by decide) (by decide) (HP.out 1 1 (by decide))).mono ?_
  rintro e w3 ⟨rfl, hr1, ht1⟩
  replace HS := hide (HS.out.num hr1 ht1)
  replace HT := hide (HT.out.num hr1 ht1)
  clear hr1 ht1
  simp only [Nat.reduceAdd] at HS HT
  have cV := HT.out.cell 0 (by simp) (v := .int .i64 0) rfl
  have fV := HT.out.free (by simp) 0
  replace HT := hide (HT.out.set 0 (by simp) (.int .i64 (k : Int)) (ys := [.int .i64 (k : Int), .int .i64 0, .int .i64 0, .int .i64 0, .int .i64 0, .int .i64 0, .bool false]) rfl)
  replace HS := hide (HS.out.other (V' := V) (i := 0) (Nat.ne_of_gt hz12) (Nat.le_of_lt hz12) (.int .i64 (k : Int)))
  go_wp2_with fail
  clear cV fV
  generalize w3.setCell ⟨V, 0, none⟩ (.int .i64 (k : Int)) = w4 at *
  clear w2 w3
  go_at_call 109
  refine (number_t B b off L cap 2 3 y Ny.out _ HS.out.rd hB HS.out.cells HL.out HCap.out HCm.out (by decide) (by decide) (HP.out 2 3 (by decide))).mono ?_
  rintro e w5 ⟨rfl, hr1, ht1⟩
  replace HS := hide (HS.out.num hr1 ht1)
  replace HT := hide (HT.out.num hr1 ht1)
  clear hr1 ht1
  simp only [Nat.reduceAdd] at HS HT
  have cV := HT.out.cell 1 (by simp) (v := .int .i64 0) rfl
  have fV := HT.out.free (by simp) 1
  replace HT := hide (HT.out.set 1 (by simp) (.int .i64 (y : Int)) (ys := [.int .i64 (k : Int), .int .i64 (y : Int), .int .i64 0, .int .i64 0, .int .i64 0, .int .i64 0, .bool false]) rfl)
  replace HS := hide (HS.out.other (V' := V) (i := 1) (Nat.ne_of_gt hz12) (Nat.le_of_lt hz12) (.int .i64 (y : Int)))
  go_wp2_with fail
  clear cV fV
  generalize w5.setCell ⟨V, 1, none⟩ (.int .i64 (y : Int)) = w6 at *
  clear w4 w5
  go_at_call 109
  refine (number_t B b off L cap 5 1 c Nc.out _ HS.out.rd hB HS.out.cells HL.out HCap.out HCm.out (by decide) (by decide) (HP.out 5 1 (by decide))).mono ?_
  rintro e w7 ⟨rfl, hr1, ht1⟩
  replace HS := hide (HS.out.num hr1 ht1)
  replace HT := hide (HT.out.num hr1 ht1)
  clear hr1 ht1
  simp only [Nat.reduceAdd] at HS HT
  have cV := HT.out.cell 2 (by simp) (v := .int .i64 0) rfl
  have fV := HT.out.free (by simp) 2
  replace HT := hide (HT.out.set 2 (by simp) (.int .i64 (c : Int)) (ys := [.int .i64 (k : Int), .int .i64 (y : Int), .int .i64 (c : Int), .int .i64 0, .int .i64 0, .int .i64 0, .bool false]) rfl)
  replace HS := hide (HS.out.other (V' := V) (i := 2) (Nat.ne_of_gt hz12) (Nat.le_of_lt hz12) (.int .i64 (c : Int)))
  go_wp2_with fail
  clear cV fV
  generalize w7.setCell ⟨V, 2, none⟩ (.int .i64 (c : Int)) = w8 at *
  clear w6 w7
  go_at_call 109
  refine (number_t B b off L cap 6 1 t Nt.out _ HS.out.rd hB HS.out.cells HL.out HCap.out HCm.out (by decide) (by decide) (HP.out 6 1 (by decide))).mono ?_
  rintro e w9 ⟨rfl, hr1, ht1⟩
  replace HS := hide (HS.out.num hr1 ht1)
  replace HT := hide (HT.out.num hr1 ht1)
  clear hr1 ht1
  simp only [Nat.reduceAdd] at HS HT
  have cV := HT.out.cell 3 (by simp) (v := .int .i64 0) rfl
  have fV := HT.out.free (by simp) 3
  replace HT := hide (HT.out.set 3 (by simp) (.int .i64 (t : Int)) (ys := [.int .i64 (k : Int), .int .i64 (y : Int), .int .i64 (c : Int), .int .i64 (t : Int), .int .i64 0, .int .i64 0, .bool false]) rfl)
  replace HS := hide (HS.out.other (V' := V) (i := 3) (Nat.ne_of_gt hz12) (Nat.le_of_lt hz12) (.int .i64 (t : Int)))
  go_wp2_with fail
  clear cV fV
  generalize w9.setCell ⟨V, 3, none⟩ (.int .i64 (t : Int)) = w10 at *
  clear w8 w9
  go_at_call 109
  refine (number_t B b off L cap 7 7 m Nm.out _ HS.out.rd hB HS.out.cells HL.out HCap.out HCm.out (by decide) (by decide) (HP.out 7 7 (by decide))).mono ?_
  rintro e w11 ⟨rfl, hr1, ht1⟩
  replace HS := hide (HS.out.num hr1 ht1)
  replace HT := hide (HT.out.num hr1 ht1)
  clear hr1 ht1
  simp only [Nat.reduceAdd] at HS HT
  have cV := HT.out.cell 4 (by simp) (v := .int .i64 0) rfl
  have fV := HT.out.free (by simp) 4
  replace HT := hide (HT.out.set 4 (by simp) (.int .i64 (m : Int)) (ys := [.int .i64 (k : Int), .int .i64 (y : Int), .int .i64 (c : Int), .int .i64 (t : Int), .int .i64 (m : Int), .int .i64 0, .bool false]) rfl)
  replace HS := hide (HS.out.other (V' := V) (i := 4) (Nat.ne_of_gt hz12) (Nat.le_of_lt hz12) (.int .i64 (m : Int)))
  go_wp2_with fail
  clear cV fV
  generalize w11.setCell ⟨V, 4, none⟩ (.int .i64 (m : Int)) = w12 at *
  clear w10 w11
  go_at_call 109
  refine (number_t B b off L cap 14 7 f Nf.out _ HS.out.rd hB HS.out.cells HL.out HCap.out HCm.out (by decide) (by decide) (HP.out 14 7 (by decide))).mono ?_
  rintro e w13 ⟨rfl, hr1, ht1⟩
  replace HS := hide (HS.out.num hr1 ht1)
  replace HT := hide (HT.out.num hr1 ht1)
  clear hr1 ht1
  simp only [Nat.reduceAdd] at HS HT
  have cV := HT.out.cell 5 (by simp) (v := .int .i64 0) rfl
  have fV := HT.out.free (by simp) 5
  replace HT := hide (HT.out.set 5 (by simp) (.int .i64 (f : Int)) (ys := [.int .i64 (k : Int), .int .i64 (y : Int), .int .i64 (c : Int), .int .i64 (t : Int), .int .i64 (m : Int), .int .i64 (f : Int), .bool false]) rfl)
  replace HS := hide (HS.out.other (V' := V) (i := 5) (Nat.ne_of_gt hz12) (Nat.le_of_lt hz12) (.int .i64 (f : Int)))
  go_wp2_with fail
  clear cV fV
  generalize w13.setCell ⟨V, 5, none⟩ (.int .i64 (f : Int)) = w14 at *
  clear w12 w13
  go_at_call 109
  refine (number_t B b off L cap 21 1 q Nq.out _ HS.out.rd hB HS.out.cells HL.out HCap.out HCm.out (by decide) (by decide) (HP.out 21 1 (by decide))).mono ?_
  rintro e w15 ⟨rfl, hr1, ht1⟩
  replace HS := hide (HS.out.num hr1 ht1)
  replace HT := hide (HT.out.num hr1 ht1)
  clear hr1 ht1
  simp only [Nat.reduceAdd] at HS HT
  have hq2 : (q : Int) ≤ 1 := by omega
  clear hq
  go_wp2_with fail
  go_at_call 108
  refine (insist_yes _).mono ?_
  rintro e w' ⟨rfl, hw'⟩
  obtain rfl := Eq.symm hw'
  clear hw'
  have hqb : ((q : Int) == 1) = decide (q = 1) := by rw [Bool.eq_iff_iff]; simp; omega
  generalize hb1 : decide (q = 1) = b1 at *
  have HB1 := hide hb1
  clear hb1
  have cV := HT.out.cell 6 (by simp) (v := .bool false) rfl
  have fV := HT.out.free (by simp) 6
  replace HT := hide (HT.out.set 6 (by simp) (.bool b1) (ys := [.int .i64 (k : Int), .int .i64 (y : Int), .int .i64 (c : Int), .int .i64 (t : Int), .int .i64 (m : Int), .int .i64 (f : Int), .bool b1]) rfl)
  replace HS := hide (HS.out.other (V' := V) (i := 6) (Nat.ne_of_gt hz12) (Nat.le_of_lt hz12) (.bool b1))
  have e0 := HT.out.cell 0 (by simp) (v := .int .i64 (k : Int)) rfl
  have e1 := HT.out.cell 1 (by simp) (v := .int .i64 (y : Int)) rfl
  have e2 := HT.out.cell 2 (by simp) (v := .int .i64 (c : Int)) rfl
  have e3 := HT.out.cell 3 (by simp) (v := .int .i64 (t : Int)) rfl
  have e4 := HT.out.cell 4 (by simp) (v := .int .i64 (m : Int)) rfl
  have e5 := HT.out.cell 5 (by simp) (v := .int .i64 (f : Int)) rfl
  have e6 := HT.out.cell 6 (by simp) (v := .bool b1) rfl
  go_wp2_with fail
  clear cV fV
  generalize w15.setCell ⟨V, 6, none⟩ (.bool b1) = w16 at *
  clear w14 w15
  go_at_call 69
  refine (evok_is k y c t m f b1 _ HEV.out _).mono ?_
  rintro e w17 ⟨rfl, hk⟩
  replace HS := hide (HS.out.kept hk)
  replace HT := hide (HT.out.kept hk)
  clear hk e0 e1 e2 e3 e4 e5 e6
  go_wp2_with fail
  go_at_call 108
  refine (insist_yes _).mono ?_
  rintro e w' ⟨rfl, hw'⟩
  obtain rfl := Eq.symm hw'
  clear hw'
  have e0 := HT.out.cell 0 (by simp) (v := .int .i64 (k : Int)) rfl
  have e1 := HT.out.cell 1 (by simp) (v := .int .i64 (y : Int)) rfl
  have e2 := HT.out.cell 2 (by simp) (v := .int .i64 (c : Int)) rfl
  have e3 := HT.out.cell 3 (by simp) (v := .int .i64 (t : Int)) rfl
  have e4 := HT.out.cell 4 (by simp) (v := .int .i64 (m : Int)) rfl
  have e5 := HT.out.cell 5 (by simp) (v := .int .i64 (f : Int)) rfl
  have e6 := HT.out.cell 6 (by simp) (v := .bool b1) rfl
  have c0 := HS.out.cell 0 (by simp) (v := .int .i64 0) rfl
  have c1 := HS.out.cell 1 (by simp) (v := .int .i64 0) rfl
  have c2 := HS.out.cell 2 (by simp) (v := .int .i64 0) rfl
  have c3 := HS.out.cell 3 (by simp) (v := .int .i64 0) rfl
  have c4 := HS.out.cell 4 (by simp) (v := .int .i64 0) rfl
  have c5 := HS.out.cell 5 (by simp) (v := .int .i64 0) rfl
  have c6 := HS.out.cell 6 (by simp) (v := .bool false) rfl
  have fS := HS.out.free (by simp)
  have HS0 := HS.out.set 0 (by simp) (.int .i64 (k : Int)) (ys := [.int .i64 (k : Int), .int .i64 0, .int .i64 0, .int .i64 0, .int .i64 0, .int .i64 0, .bool false]) rfl
  have HS1 := HS0.set 1 (by simp) (.int .i64 (y : Int)) (ys := [.int .i64 (k : Int), .int .i64 (y : Int), .int .i64 0, .int .i64 0, .int .i64 0, .int .i64 0, .bool false]) rfl
  have HS2 := HS1.set 2 (by simp) (.int .i64 (c : Int)) (ys := [.int .i64 (k : Int), .int .i64 (y : Int), .int .i64 (c : Int), .int .i64 0, .int .i64 0, .int .i64 0, .bool false]) rfl
  have HS3 := HS2.set 3 (by simp) (.int .i64 (t : Int)) (ys := [.int .i64 (k : Int), .int .i64 (y : Int), .int .i64 (c : Int), .int .i64 (t : Int), .int .i64 0, .int .i64 0, .bool false]) rfl
  have HS4 := HS3.set 4 (by simp) (.int .i64 (m : Int)) (ys := [.int .i64 (k : Int), .int .i64 (y : Int), .int .i64 (c : Int), .int .i64 (t : Int), .int .i64 (m : Int), .int .i64 0, .bool false]) rfl
  have HS5 := HS4.set 5 (by simp) (.int .i64 (f : Int)) (ys := [.int .i64 (k : Int), .int .i64 (y : Int), .int .i64 (c : Int), .int .i64 (t : Int), .int .i64 (m : Int), .int .i64 (f : Int), .bool false]) rfl
  have HS6 := HS5.set 6 (by simp) (.bool b1) (ys := [.int .i64 (k : Int), .int .i64 (y : Int), .int .i64 (c : Int), .int .i64 (t : Int), .int .i64 (m : Int), .int .i64 (f : Int), .bool b1]) rfl
  have HF := hide HS6
  clear HS0 HS1 HS2 HS3 HS4 HS5 HS6
  go_wp2_with fail
  clear c0 e0 c1 e1 c2 e2 c3 e3 c4 e4 c5 e5 c6 e6 fS
  generalize (((((((w17.setCell ⟨w.heap.size, 0, none⟩ (.int .i64 (k : Int))).setCell ⟨w.heap.size, 1, none⟩ (.int .i64 (y : Int))).setCell ⟨w.heap.size, 2, none⟩ (.int .i64 (c : Int))).setCell ⟨w.heap.size, 3, none⟩ (.int .i64 (t : Int))).setCell ⟨w.heap.size, 4, none⟩ (.int .i64 (m : Int))).setCell ⟨w.heap.size, 5, none⟩ (.int .i64 (f : Int))).setCell ⟨w.heap.size, 6, none⟩ (.bool b1)) = wF at *
  have c0 := HF.out.cell 0 (by simp) (v := .int .i64 (k : Int)) rfl
  have c1 := HF.out.cell 1 (by simp) (v := .int .i64 (y : Int)) rfl
  have c2 := HF.out.cell 2 (by simp) (v := .int .i64 (c : Int)) rfl
  have c3 := HF.out.cell 3 (by simp) (v := .int .i64 (t : Int)) rfl
  have c4 := HF.out.cell 4 (by simp) (v := .int .i64 (m : Int)) rfl
  have c5 := HF.out.cell 5 (by simp) (v := .int .i64 (f : Int)) rfl
  have c6 := HF.out.cell 6 (by simp) (v := .bool b1) rfl
  refine bodyPost_ret (v := evV k y c t m f b1) ?_ rfl ⟨by rw [HB1.out], HF.out.turn⟩
  simp [results, Tryz.results82, go_sem, c0, c1, c2, c3, c4, c5, c6]
set_option maxHeartbeats 4000000 in
theorem event_first (B b off : Nat) (L : List UInt8) (cap : Nat) (w : World) (u : TypeId) (pv : Value) (hv : w.cell? ⟨0, 0, none⟩ = some (.iface u pv)) (hgB : 0 ≠ B) (hr : Rd w B (some ⟨b, off, none⟩) L cap (0 : Nat)) (hB : b ≠ B) (hBl : B < w.heap.size) (hbl : b < w.heap.size) (hc : Cells w (some ⟨b, off, none⟩) (bys L)) (hcap : L.length ≤ cap) (hcm : cap ≤ 9223372036854775807) (h22 : L.length = 22) (z k y c t m f q : Nat) (ez : numL (cut L 0 1) = z) (ek : numL (cut L 1 1) = k) (ey : numL (cut L 2 3) = y) (ec : numL (cut L 5 1) = c) (et : numL (cut L 6 1) = t) (em : numL (cut L 7 7) = m) (ef : numL (cut L 14 7) = f) (eq : numL (cut L 21 1) = q) (hz : z ≠ 69) :
    Calls Tryz.prog 82 #[.pointer (some ⟨B, 0, none⟩)] w fun e w' => e = .panicked [{ v := .iface u pv, recovered := false }] ∧ Turn [B] w w' := by
  have hb := born_alloc w #[.int .i64 0, .int .i64 0, .int .i64 0, .int .i64 0, .int .i64 0, .int .i64 0, .bool false] 30
  dsimp only at hb
  have hk := Keeps.alloc (Keeps.refl w) (.cells #[.int .i64 0, .int .i64 0, .int .i64 0, .int .i64 0, .int .i64 0, .int .i64 0, .bool false] 30)
  have HG := hide (fun (w' : World) (ht : Turn [B] w w') => ht.cell (p := ⟨0, 0, none⟩) (by simpa using hgB) hv)
  have HS : Hid (RS w (w.alloc (.cells #[.int .i64 0, .int .i64 0, .int .i64 0, .int .i64 0, .int .i64 0, .int .i64 0, .bool false] 30)) B b off L cap 0 w.heap.size [.int .i64 0, .int .i64 0, .int .i64 0, .int .i64 0, .int .i64 0, .int .i64 0, .bool false]) :=
    ⟨⟨hk.cell hr.data, hk.cell hr.place, by rw [hk.oldF _ _ hBl]; exact hr.free⟩, hc.kept hk, hb.toOwn, Turn.of_keeps hk [B], Nat.le_refl _, hBl, hbl, hB⟩
  have HCap := hide hcap
  have HCm := hide hcm
  clear hb hk hv hr hc hgB hcap hcm
  have hn : ((L.length : Int) == 22) = true := by rw [h22]; rfl
  have HL : Hid (L.length ≤ 16777216) := by show _ ≤ _; omega
  have HP : Hid (∀ p s : Nat, p + s ≤ 22 → p + s ≤ L.length) := fun p s h => by omega
  have d0 := HS.out.rd.data
  have Nz := hide ez
  have Nk := hide ek
  have Ny := hide ey
  have Nc := hide ec
  have Nt := hide et
  have Nm := hide em
  have Nf := hide ef
  have Nq := hide eq
  clear h22 ez ek ey ec et em ef eq
  have hz2 : ((z : Int) == 69) = false := beq_eq_false_iff_ne.2 (by omega)
  clear hz
  go_enter Tryz.func82, Tryz.ntmps82
  go_wp2_with fail
  go_at_call 109
  refine (number_t B b off L cap 0 1 z Nz.out _ HS.out.rd hB HS.out.cells HL.out HCap.out HCm.out (by decide) (by decide) (HP.out 0 1 (by decide))).mono ?_
  rintro e w1 ⟨rfl, hr1, ht1⟩
  replace HS := hide (HS.out.num hr1 ht1)
  have hz12 : w.heap.size < w1.heap.size := by have := ht1.size; simp at this; omega
  clear hr1 ht1 d0
  simp only [Nat.zero_add] at HS
  go_wp2_with fail
  go_at_call 108
  refine (insist_no _ u pv (HG.out _ HS.out.turn)).mono ?_
  rintro e w' ⟨rfl, rfl⟩
  exact ⟨rfl, rfl, HS.out.turn⟩
set_option maxHeartbeats 4000000 in
theorem event_last (B b off : Nat) (L : List UInt8) (cap : Nat) (w : World) (u : TypeId) (pv : Value) (hv : w.cell? ⟨0, 0, none⟩ = some (.iface u pv)) (hgB : 0 ≠ B) (hr : Rd w B (some ⟨b, off, none⟩) L cap (0 : Nat)) (hB : b ≠ B) (hBl : B < w.heap.size) (hbl : b < w.heap.size) (hc : Cells w (some ⟨b, off, none⟩) (bys L)) (hcap : L.length ≤ cap) (hcm : cap ≤ 9223372036854775807) (h22 : L.length = 22) (z k y c t m f q : Nat) (ez : numL (cut L 0 1) = z) (ek : numL (cut L 1 1) = k) (ey : numL (cut L 2 3) = y) (ec : numL (cut L 5 1) = c) (et : numL (cut L 6 1) = t) (em : numL (cut L 7 7) = m) (ef : numL (cut L 14 7) = f) (eq : numL (cut L 21 1) = q) (hz : z = 69) (hq : ¬ q ≤ 1) :
    Calls Tryz.prog 82 #[.pointer (some ⟨B, 0, none⟩)] w fun e w' => e = .panicked [{ v := .iface u pv, recovered := false }] ∧ Turn [B] w w' := by
  have hb := born_alloc w #[.int .i64 0, .int .i64 0, .int .i64 0, .int .i64 0, .int .i64 0, .int .i64 0, .bool false] 30
  dsimp only at hb
  have hk := Keeps.alloc (Keeps.refl w) (.cells #[.int .i64 0, .int .i64 0, .int .i64 0, .int .i64 0, .int .i64 0, .int .i64 0, .bool false] 30)
  have HG := hide (fun (w' : World) (ht : Turn [B] w w') => ht.cell (p := ⟨0, 0, none⟩) (by simpa using hgB) hv)
  have HS : Hid (RS w (w.alloc (.cells #[.int .i64 0, .int .i64 0, .int .i64 0, .int .i64 0, .int .i64 0, .int .i64 0, .bool false] 30)) B b off L cap 0 w.heap.size [.int .i64 0, .int .i64 0, .int .i64 0, .int .i64 0, .int .i64 0, .int .i64 0, .bool false]) :=
    ⟨⟨hk.cell hr.data, hk.cell hr.place, by rw [hk.oldF _ _ hBl]; exact hr.free⟩, hc.kept hk, hb.toOwn, Turn.of_keeps hk [B], Nat.le_refl _, hBl, hbl, hB⟩
  have HCap := hide hcap
  have HCm := hide hcm
  clear hb hk hv hr hc hgB hcap hcm
  have hn : ((L.length : Int) == 22) = true := by rw [h22]; rfl
  have HL : Hid (L.length ≤ 16777216) := by show _ ≤ _; omega
  have HP : Hid (∀ p s : Nat, p + s ≤ 22 → p + s ≤ L.length) := fun p s h => by omega
  have d0 := HS.out.rd.data
  have Nz := hide ez
  have Nk := hide ek
  have Ny := hide ey
  have Nc := hide ec
  have Nt := hide et
  have Nm := hide em
  have Nf := hide ef
  have Nq := hide eq
  clear h22 ez ek ey ec et em ef eq
  have hz2 : ((z : Int) == 69) = true := by rw [hz]; rfl
  clear hz
  go_enter Tryz.func82, Tryz.ntmps82
  go_wp2_with fail
  go_at_call 109
  refine (number_t B b off L cap 0 1 z Nz.out _ HS.out.rd hB HS.out.cells HL.out HCap.out HCm.out (by decide) (by decide) (HP.out 0 1 (by decide))).mono ?_
  rintro e w1 ⟨rfl, hr1, ht1⟩
  replace HS := hide (HS.out.num hr1 ht1)
  have hz12 : w.heap.size < w1.heap.size := by have := ht1.size; simp at this; omega
  clear hr1 ht1 d0
  simp only [Nat.zero_add] at HS
  go_wp2_with fail
  go_at_call 108
  refine (insist_yes _).mono ?_
  rintro e w' ⟨rfl, hw'⟩
  obtain rfl := Eq.symm hw'
  clear hw'
  have hbV := born_alloc w1 #[.int .i64 0, .int .i64 0, .int .i64 0, .int .i64 0, .int .i64 0, .int .i64 0, .bool false] 30
  dsimp only at hbV
  have hkV := Keeps.alloc (Keeps.refl w1) (.cells #[.int .i64 0, .int .i64 0, .int .i64 0, .int .i64 0, .int .i64 0, .int .i64 0, .bool false] 30)
  have HT : Hid (RS w (w1.alloc (.cells #[.int .i64 0, .int .i64 0, .int .i64 0, .int .i64 0, .int .i64 0, .int .i64 0, .bool false] 30)) B b off L cap 1 w1.heap.size [.int .i64 0, .int .i64 0, .int .i64 0, .int .i64 0, .int .i64 0, .int .i64 0, .bool false]) :=
    ⟨(HS.out.kept hkV).rd, (HS.out.kept hkV).cells, hbV.toOwn, (HS.out.kept hkV).turn, Nat.le_trans (Nat.le_of_lt hz12) (Nat.le_refl _), HS.out.oldB, HS.out.oldb, HS.out.ne⟩
  replace HS := hide (HS.out.kept hkV)
  clear hbV hkV
  go_wp2_with fail
  generalize w1.alloc (.cells #[.int .i64 0, .int .i64 0, .int .i64 0, .int .i64 0, .int .i64 0, .int .i64 0, .bool false] 30) = w2 at *
  generalize hV : w1.heap.size = V at *
  clear hV w1
  go_at_call 109
  refine (number_t B b off L cap 1 1 k Nk.out _ HS.out.rd hB HS.out.cells HL.out HCap.out HCm.out (by decide) (by decide) (HP.out 1 1 (by decide))).mono ?_
  rintro e w3 ⟨rfl, hr1, ht1⟩
  replace HS := hide (HS.out.num hr1 ht1)
  replace HT := hide (HT.out.num hr1 ht1)
  clear hr1 ht1
  simp only [Nat.reduceAdd] at HS HT
  have cV := HT.out.cell 0 (by simp) (v := .int .i64 0) rfl
  have fV := HT.out.free (by simp) 0
  replace HT := hide (HT.out.set 0 (by simp) (.int .i64 (k : Int)) (ys := [.int .i64 (k : Int), .int .i64 0, .int .i64 0, .int .i64 0, .int .i64 0, .int .i64 0, .bool false]) rfl)
  replace HS := hide (HS.out.other (V' := V) (i := 0) (Nat.ne_of_gt hz12) (Nat.le_of_lt hz12) (.int .i64 (k : Int)))
  go_wp2_with fail
  clear cV fV
  generalize w3.setCell ⟨V, 0, none⟩ (.int .i64 (k : Int)) = w4 at *
  clear w2 w3
  go_at_call 109
  refine (number_t B b off L cap 2 3 y Ny.out _ HS.out.rd hB HS.out.cells HL.out HCap.out HCm.out (by decide) (by decide) (HP.out 2 3 (by decide))).mono ?_
  rintro e w5 ⟨rfl, hr1, ht1⟩
  replace HS := hide (HS.out.num hr1 ht1)
  replace HT := hide (HT.out.num hr1 ht1)
  clear hr1 ht1
  simp only [Nat.reduceAdd] at HS HT
  have cV := HT.out.cell 1 (by simp) (v := .int .i64 0) rfl
  have fV := HT.out.free (by simp) 1
  replace HT := hide (HT.out.set 1 (by simp) (.int .i64 (y : Int)) (ys := [.int .i64 (k : Int), .int .i64 (y : Int), .int .i64 0, .int .i64 0, .int .i64 0, .int .i64 0, .bool false]) rfl)
  replace HS := hide (HS.out.other (V' := V) (i := 1) (Nat.ne_of_gt hz12) (Nat.le_of_lt hz12) (.int .i64 (y : Int)))
  go_wp2_with fail
  clear cV fV
  generalize w5.setCell ⟨V, 1, none⟩ (.int .i64 (y : Int)) = w6 at *
  clear w4 w5
  go_at_call 109
  refine (number_t B b off L cap 5 1 c Nc.out _ HS.out.rd hB HS.out.cells HL.out HCap.out HCm.out (by decide) (by decide) (HP.out 5 1 (by decide))).mono ?_
  rintro e w7 ⟨rfl, hr1, ht1⟩
  replace HS := hide (HS.out.num hr1 ht1)
  replace HT := hide (HT.out.num hr1 ht1)
  clear hr1 ht1
  simp only [Nat.reduceAdd] at HS HT
  have cV := HT.out.cell 2 (by simp) (v := .int .i64 0) rfl
  have fV := HT.out.free (by simp) 2
  replace HT := hide (HT.out.set 2 (by simp) (.int .i64 (c : Int)) (ys := [.int .i64 (k : Int), .int .i64 (y : Int), .int .i64 (c : Int), .int .i64 0, .int .i64 0, .int .i64 0, .bool false]) rfl)
  replace HS := hide (HS.out.other (V' := V) (i := 2) (Nat.ne_of_gt hz12) (Nat.le_of_lt hz12) (.int .i64 (c : Int)))
  go_wp2_with fail
  clear cV fV
  generalize w7.setCell ⟨V, 2, none⟩ (.int .i64 (c : Int)) = w8 at *
  clear w6 w7
  go_at_call 109
  refine (number_t B b off L cap 6 1 t Nt.out _ HS.out.rd hB HS.out.cells HL.out HCap.out HCm.out (by decide) (by decide) (HP.out 6 1 (by decide))).mono ?_
  rintro e w9 ⟨rfl, hr1, ht1⟩
  replace HS := hide (HS.out.num hr1 ht1)
  replace HT := hide (HT.out.num hr1 ht1)
  clear hr1 ht1
  simp only [Nat.reduceAdd] at HS HT
  have cV := HT.out.cell 3 (by simp) (v := .int .i64 0) rfl
  have fV := HT.out.free (by simp) 3
  replace HT := hide (HT.out.set 3 (by simp) (.int .i64 (t : Int)) (ys := [.int .i64 (k : Int), .int .i64 (y : Int), .int .i64 (c : Int), .int .i64 (t : Int), .int .i64 0, .int .i64 0, .bool false]) rfl)
  replace HS := hide (HS.out.other (V' := V) (i := 3) (Nat.ne_of_gt hz12) (Nat.le_of_lt hz12) (.int .i64 (t : Int)))
  go_wp2_with fail
  clear cV fV
  generalize w9.setCell ⟨V, 3, none⟩ (.int .i64 (t : Int)) = w10 at *
  clear w8 w9
  go_at_call 109
  refine (number_t B b off L cap 7 7 m Nm.out _ HS.out.rd hB HS.out.cells HL.out HCap.out HCm.out (by decide) (by decide) (HP.out 7 7 (by decide))).mono ?_
  rintro e w11 ⟨rfl, hr1, ht1⟩
  replace HS := hide (HS.out.num hr1 ht1)
  replace HT := hide (HT.out.num hr1 ht1)
  clear hr1 ht1
  simp only [Nat.reduceAdd] at HS HT
  have cV := HT.out.cell 4 (by simp) (v := .int .i64 0) rfl
  have fV := HT.out.free (by simp) 4
  replace HT := hide (HT.out.set 4 (by simp) (.int .i64 (m : Int)) (ys := [.int .i64 (k : Int), .int .i64 (y : Int), .int .i64 (c : Int), .int .i64 (t : Int), .int .i64 (m : Int), .int .i64 0, .bool false]) rfl)
  replace HS := hide (HS.out.other (V' := V) (i := 4) (Nat.ne_of_gt hz12) (Nat.le_of_lt hz12) (.int .i64 (m : Int)))
  go_wp2_with fail
  clear cV fV
  generalize w11.setCell ⟨V, 4, none⟩ (.int .i64 (m : Int)) = w12 at *
  clear w10 w11
  go_at_call 109
  refine (number_t B b off L cap 14 7 f Nf.out _ HS.out.rd hB HS.out.cells HL.out HCap.out HCm.out (by decide) (by decide) (HP.out 14 7 (by decide))).mono ?_
  rintro e w13 ⟨rfl, hr1, ht1⟩
  replace HS := hide (HS.out.num hr1 ht1)
  replace HT := hide (HT.out.num hr1 ht1)
  clear hr1 ht1
  simp only [Nat.reduceAdd] at HS HT
  have cV := HT.out.cell 5 (by simp) (v := .int .i64 0) rfl
  have fV := HT.out.free (by simp) 5
  replace HT := hide (HT.out.set 5 (by simp) (.int .i64 (f : Int)) (ys := [.int .i64 (k : Int), .int .i64 (y : Int), .int .i64 (c : Int), .int .i64 (t : Int), .int .i64 (m : Int), .int .i64 (f : Int), .bool false]) rfl)
  replace HS := hide (HS.out.other (V' := V) (i := 5) (Nat.ne_of_gt hz12) (Nat.le_of_lt hz12) (.int .i64 (f : Int)))
  go_wp2_with fail
  clear cV fV
  generalize w13.setCell ⟨V, 5, none⟩ (.int .i64 (f : Int)) = w14 at *
  clear w12 w13
  go_at_call 109
  refine (number_t B b off L cap 21 1 q Nq.out _ HS.out.rd hB HS.out.cells HL.out HCap.out HCm.out (by decide) (by decide) (HP.out 21 1 (by decide))).mono ?_
  rintro e w15 ⟨rfl, hr1, ht1⟩
  replace HS := hide (HS.out.num hr1 ht1)
  replace HT := hide (HT.out.num hr1 ht1)
  clear hr1 ht1
  simp only [Nat.reduceAdd] at HS HT
  have hq2 : decide ((q : Int) ≤ 1) = false := decide_eq_false (by omega)
  clear hq
  go_wp2_with fail
  go_at_call 108
  refine (insist_no _ u pv (HG.out _ HS.out.turn)).mono ?_
  rintro e w' ⟨rfl, rfl⟩
  exact ⟨rfl, rfl, HS.out.turn⟩
set_option maxHeartbeats 4000000 in
theorem event_bad (B b off : Nat) (L : List UInt8) (cap : Nat) (w : World) (u : TypeId) (pv : Value) (hv : w.cell? ⟨0, 0, none⟩ = some (.iface u pv)) (hgB : 0 ≠ B) (hr : Rd w B (some ⟨b, off, none⟩) L cap (0 : Nat)) (hB : b ≠ B) (hBl : B < w.heap.size) (hbl : b < w.heap.size) (hc : Cells w (some ⟨b, off, none⟩) (bys L)) (hcap : L.length ≤ cap) (hcm : cap ≤ 9223372036854775807) (h22 : L.length = 22) (z k y c t m f q : Nat) (ez : numL (cut L 0 1) = z) (ek : numL (cut L 1 1) = k) (ey : numL (cut L 2 3) = y) (ec : numL (cut L 5 1) = c) (et : numL (cut L 6 1) = t) (em : numL (cut L 7 7) = m) (ef : numL (cut L 14 7) = f) (eq : numL (cut L 21 1) = q) (hz : z = 69) (hq : q ≤ 1) (hev : evB k y c t m f (decide (q = 1)) = false) :
    Calls Tryz.prog 82 #[.pointer (some ⟨B, 0, none⟩)] w fun e w' => e = .panicked [{ v := .iface u pv, recovered := false }] ∧ Turn [B] w w' := by
  have hb := born_alloc w #[.int .i64 0, .int .i64 0, .int .i64 0, .int .i64 0, .int .i64 0, .int .i64 0, .bool false] 30
  dsimp only at hb
  have hk := Keeps.alloc (Keeps.refl w) (.cells #[.int .i64 0, .int .i64 0, .int .i64 0, .int .i64 0, .int .i64 0, .int .i64 0, .bool false] 30)
  have HG := hide (fun (w' : World) (ht : Turn [B] w w') => ht.cell (p := ⟨0, 0, none⟩) (by simpa using hgB) hv)
  have HS : Hid (RS w (w.alloc (.cells #[.int .i64 0, .int .i64 0, .int .i64 0, .int .i64 0, .int .i64 0, .int .i64 0, .bool false] 30)) B b off L cap 0 w.heap.size [.int .i64 0, .int .i64 0, .int .i64 0, .int .i64 0, .int .i64 0, .int .i64 0, .bool false]) :=
    ⟨⟨hk.cell hr.data, hk.cell hr.place, by rw [hk.oldF _ _ hBl]; exact hr.free⟩, hc.kept hk, hb.toOwn, Turn.of_keeps hk [B], Nat.le_refl _, hBl, hbl, hB⟩
  have HCap := hide hcap
  have HCm := hide hcm
  clear hb hk hv hr hc hgB hcap hcm
  have hn : ((L.length : Int) == 22) = true := by rw [h22]; rfl
  have HL : Hid (L.length ≤ 16777216) := by show _ ≤ _; omega
  have HP : Hid (∀ p s : Nat, p + s ≤ 22 → p + s ≤ L.length) := fun p s h => by omega
  have d0 := HS.out.rd.data
  have Nz := hide ez
  have Nk := hide ek
  have Ny := hide ey
  have Nc := hide ec
  have Nt := hide et
  have Nm := hide em
  have Nf := hide ef
  have Nq := hide eq
  have HEV := hide hev
  clear hev
  clear h22 ez ek ey ec et em ef eq
  have hz2 : ((z : Int) == 69) = true := by rw [hz]; rfl
  clear hz
  go_enter Tryz.func82, Tryz.ntmps82
  go_wp2_with fail
  go_at_call 109
  refine (number_t B b off L cap 0 1 z Nz.out _ HS.out.rd hB HS.out.cells HL.out HCap.out HCm.out (by decide) (by decide) (HP.out 0 1 (by decide))).mono ?_
  rintro e w1 ⟨rfl, hr1, ht1⟩
  replace HS := hide (HS.out.num hr1 ht1)
  have hz12 : w.heap.size < w1.heap.size := by have := ht1.size; simp at this; omega
  clear hr1 ht1 d0
  simp only [Nat.zero_add] at HS
  go_wp2_with fail
  go_at_call 108
  refine (insist_yes _).mono ?_
  rintro e w' ⟨rfl, hw'⟩
  obtain rfl := Eq.symm hw'
  clear hw'
  have hbV := born_alloc w1 #[.int .i64 0, .int .i64 0, .int .i64 0, .int .i64 0, .int .i64 0, .int .i64 0, .bool false] 30
  dsimp only at hbV
  have hkV := Keeps.alloc (Keeps.refl w1) (.cells #[.int .i64 0, .int .i64 0, .int .i64 0, .int .i64 0, .int .i64 0, .int .i64 0, .bool false] 30)
  have HT : Hid (RS w (w1.alloc (.cells #[.int .i64 0, .int .i64 0, .int .i64 0, .int .i64 0, .int .i64 0, .int .i64 0, .bool false] 30)) B b off L cap 1 w1.heap.size [.int .i64 0, .int .i64 0, .int .i64 0, .int .i64 0, .int .i64 0, .int .i64 0, .bool false]) :=
    ⟨(HS.out.kept hkV).rd, (HS.out.kept hkV).cells, hbV.toOwn, (HS.out.kept hkV).turn, Nat.le_trans (Nat.le_of_lt hz12) (Nat.le_refl _), HS.out.oldB, HS.out.oldb, HS.out.ne⟩
  replace HS := hide (HS.out.kept hkV)
  clear hbV hkV
  go_wp2_with fail
  generalize w1.alloc (.cells #[.int .i64 0, .int .i64 0, .int .i64 0, .int .i64 0, .int .i64 0, .int .i64 0, .bool false] 30) = w2 at *
  generalize hV : w1.heap.size = V at *
  clear hV w1
  go_at_call 109
  refine (number_t B b off L cap 1 1 k Nk.out _ HS.out.rd hB HS.out.cells HL.out HCap.out HCm.out (by decide) (by decide) (HP.out 1 1 (by decide))).mono ?_
  rintro e w3 ⟨rfl, hr1, ht1⟩
  replace HS := hide (HS.out.num hr1 ht1)
  replace HT := hide (HT.out.num hr1 ht1)
  clear hr1 ht1
  simp only [Nat.reduceAdd] at HS HT
  have cV := HT.out.cell 0 (by simp) (v := .int .i64 0) rfl
  have fV := HT.out.free (by simp) 0
  replace HT := hide (HT.out.set 0 (by simp) (.int .i64 (k : Int)) (ys := [.int .i64 (k : Int), .int .i64 0, .int .i64 0, .int .i64 0, .int .i64 0, .int .i64 0, .bool false]) rfl)
  replace HS := hide (HS.out.other (V' := V) (i := 0) (Nat.ne_of_gt hz12) (Nat.le_of_lt hz12) (.int .i64 (k : Int)))
  go_wp2_with fail
  clear cV fV
  generalize w3.setCell ⟨V, 0, none⟩ (.int .i64 (k : Int)) = w4 at *
  clear w2 w3
  go_at_call 109
  refine (number_t B b off L cap 2 3 y Ny.out _ HS.out.rd hB HS.out.cells HL.out HCap.out HCm.out (by decide) (by decide) (HP.out 2 3 (by decide))).mono ?_
  rintro e w5 ⟨rfl, hr1, ht1⟩
  replace HS := hide (HS.out.num hr1 ht1)
  replace HT := hide (HT.out.num hr1 ht1)
  clear hr1 ht1
  simp only [Nat.reduceAdd] at HS HT
  have cV := HT.out.cell 1 (by simp) (v := .int .i64 0) rfl
  have fV := HT.out.free (by simp) 1
  replace HT := hide (HT.out.set 1 (by simp) (.int .i64 (y : Int)) (ys := [.int .i64 (k : Int), .int .i64 (y : Int), .int .i64 0, .int .i64 0, .int .i64 0, .int .i64 0, .bool false]) rfl)
  replace HS := hide (HS.out.other (V' := V) (i := 1) (Nat.ne_of_gt hz12) (Nat.le_of_lt hz12) (.int .i64 (y : Int)))
  go_wp2_with fail
  clear cV fV
  generalize w5.setCell ⟨V, 1, none⟩ (.int .i64 (y : Int)) = w6 at *
  clear w4 w5
  go_at_call 109
  refine (number_t B b off L cap 5 1 c Nc.out _ HS.out.rd hB HS.out.cells HL.out HCap.out HCm.out (by decide) (by decide) (HP.out 5 1 (by decide))).mono ?_
  rintro e w7 ⟨rfl, hr1, ht1⟩
  replace HS := hide (HS.out.num hr1 ht1)
  replace HT := hide (HT.out.num hr1 ht1)
  clear hr1 ht1
  simp only [Nat.reduceAdd] at HS HT
  have cV := HT.out.cell 2 (by simp) (v := .int .i64 0) rfl
  have fV := HT.out.free (by simp) 2
  replace HT := hide (HT.out.set 2 (by simp) (.int .i64 (c : Int)) (ys := [.int .i64 (k : Int), .int .i64 (y : Int), .int .i64 (c : Int), .int .i64 0, .int .i64 0, .int .i64 0, .bool false]) rfl)
  replace HS := hide (HS.out.other (V' := V) (i := 2) (Nat.ne_of_gt hz12) (Nat.le_of_lt hz12) (.int .i64 (c : Int)))
  go_wp2_with fail
  clear cV fV
  generalize w7.setCell ⟨V, 2, none⟩ (.int .i64 (c : Int)) = w8 at *
  clear w6 w7
  go_at_call 109
  refine (number_t B b off L cap 6 1 t Nt.out _ HS.out.rd hB HS.out.cells HL.out HCap.out HCm.out (by decide) (by decide) (HP.out 6 1 (by decide))).mono ?_
  rintro e w9 ⟨rfl, hr1, ht1⟩
  replace HS := hide (HS.out.num hr1 ht1)
  replace HT := hide (HT.out.num hr1 ht1)
  clear hr1 ht1
  simp only [Nat.reduceAdd] at HS HT
  have cV := HT.out.cell 3 (by simp) (v := .int .i64 0) rfl
  have fV := HT.out.free (by simp) 3
  replace HT := hide (HT.out.set 3 (by simp) (.int .i64 (t : Int)) (ys := [.int .i64 (k : Int), .int .i64 (y : Int), .int .i64 (c : Int), .int .i64 (t : Int), .int .i64 0, .int .i64 0, .bool false]) rfl)
  replace HS := hide (HS.out.other (V' := V) (i := 3) (Nat.ne_of_gt hz12) (Nat.le_of_lt hz12) (.int .i64 (t : Int)))
  go_wp2_with fail
  clear cV fV
  generalize w9.setCell ⟨V, 3, none⟩ (.int .i64 (t : Int)) = w10 at *
  clear w8 w9
  go_at_call 109
  refine (number_t B b off L cap 7 7 m Nm.out _ HS.out.rd hB HS.out.cells HL.out HCap.out HCm.out (by decide) (by decide) (HP.out 7 7 (by decide))).mono ?_
  rintro e w11 ⟨rfl, hr1, ht1⟩
  replace HS := hide (HS.out.num hr1 ht1)
  replace HT := hide (HT.out.num hr1 ht1)
  clear hr1 ht1
  simp only [Nat.reduceAdd] at HS HT
  have cV := HT.out.cell 4 (by simp) (v := .int .i64 0) rfl
  have fV := HT.out.free (by simp) 4
  replace HT := hide (HT.out.set 4 (by simp) (.int .i64 (m : Int)) (ys := [.int .i64 (k : Int), .int .i64 (y : Int), .int .i64 (c : Int), .int .i64 (t : Int), .int .i64 (m : Int), .int .i64 0, .bool false]) rfl)
  replace HS := hide (HS.out.other (V' := V) (i := 4) (Nat.ne_of_gt hz12) (Nat.le_of_lt hz12) (.int .i64 (m : Int)))
  go_wp2_with fail
  clear cV fV
  generalize w11.setCell ⟨V, 4, none⟩ (.int .i64 (m : Int)) = w12 at *
  clear w10 w11
  go_at_call 109
  refine (number_t B b off L cap 14 7 f Nf.out _ HS.out.rd hB HS.out.cells HL.out HCap.out HCm.out (by decide) (by decide) (HP.out 14 7 (by decide))).mono ?_
  rintro e w13 ⟨rfl, hr1, ht1⟩
  replace HS := hide (HS.out.num hr1 ht1)
  replace HT := hide (HT.out.num hr1 ht1)
  clear hr1 ht1
  simp only [Nat.reduceAdd] at HS HT
  have cV := HT.out.cell 5 (by simp) (v := .int .i64 0) rfl
  have fV := HT.out.free (by simp) 5
  replace HT := hide (HT.out.set 5 (by simp) (.int .i64 (f : Int)) (ys := [.int .i64 (k : Int), .int .i64 (y : Int), .int .i64 (c : Int), .int .i64 (t : Int), .int .i64 (m : Int), .int .i64 (f : Int), .bool false]) rfl)
  replace HS := hide (HS.out.other (V' := V) (i := 5) (Nat.ne_of_gt hz12) (Nat.le_of_lt hz12) (.int .i64 (f : Int)))
  go_wp2_with fail
  clear cV fV
  generalize w13.setCell ⟨V, 5, none⟩ (.int .i64 (f : Int)) = w14 at *
  clear w12 w13
  go_at_call 109
  refine (number_t B b off L cap 21 1 q Nq.out _ HS.out.rd hB HS.out.cells HL.out HCap.out HCm.out (by decide) (by decide) (HP.out 21 1 (by decide))).mono ?_
  rintro e w15 ⟨rfl, hr1, ht1⟩
  replace HS := hide (HS.out.num hr1 ht1)
  replace HT := hide (HT.out.num hr1 ht1)
  clear hr1 ht1
  simp only [Nat.reduceAdd] at HS HT
  have hq2 : (q : Int) ≤ 1 := by omega
  clear hq
  go_wp2_with fail
  go_at_call 108
  refine (insist_yes _).mono ?_
  rintro e w' ⟨rfl, hw'⟩
  obtain rfl := Eq.symm hw'
  clear hw'
  have hqb : ((q : Int) == 1) = decide (q = 1) := by rw [Bool.eq_iff_iff]; simp; omega
  generalize hb1 : decide (q = 1) = b1 at *
  have HB1 := hide hb1
  clear hb1
  have cV := HT.out.cell 6 (by simp) (v := .bool false) rfl
  have fV := HT.out.free (by simp) 6
  replace HT := hide (HT.out.set 6 (by simp) (.bool b1) (ys := [.int .i64 (k : Int), .int .i64 (y : Int), .int .i64 (c : Int), .int .i64 (t : Int), .int .i64 (m : Int), .int .i64 (f : Int), .bool b1]) rfl)
  replace HS := hide (HS.out.other (V' := V) (i := 6) (Nat.ne_of_gt hz12) (Nat.le_of_lt hz12) (.bool b1))
  have e0 := HT.out.cell 0 (by simp) (v := .int .i64 (k : Int)) rfl
  have e1 := HT.out.cell 1 (by simp) (v := .int .i64 (y : Int)) rfl
  have e2 := HT.out.cell 2 (by simp) (v := .int .i64 (c : Int)) rfl
  have e3 := HT.out.cell 3 (by simp) (v := .int .i64 (t : Int)) rfl
  have e4 := HT.out.cell 4 (by simp) (v := .int .i64 (m : Int)) rfl
  have e5 := HT.out.cell 5 (by simp) (v := .int .i64 (f : Int)) rfl
  have e6 := HT.out.cell 6 (by simp) (v := .bool b1) rfl
  go_wp2_with fail
  clear cV fV
  generalize w15.setCell ⟨V, 6, none⟩ (.bool b1) = w16 at *
  clear w14 w15
  go_at_call 69
  refine (evok_is k y c t m f b1 _ HEV.out _).mono ?_
  rintro e w17 ⟨rfl, hk⟩
  replace HS := hide (HS.out.kept hk)
  replace HT := hide (HT.out.kept hk)
  clear hk e0 e1 e2 e3 e4 e5 e6
  go_wp2_with fail
  go_at_call 108
  refine (insist_no _ u pv (HG.out _ HS.out.turn)).mono ?_
  rintro e w' ⟨rfl, rfl⟩
  exact ⟨rfl, rfl, HS.out.turn⟩
theorem event_len (B : Nat) (ad : Option Addr) (n cap : Nat) (w : World) (u : TypeId) (pv : Value) (hv : w.cell? ⟨0, 0, none⟩ = some (.iface u pv)) (hd : w.cell? ⟨B, 0, none⟩ = some (.slice ad n cap)) (hl : n ≤ 16777216) (h22 : n ≠ 22) :
    Calls Tryz.prog 82 #[.pointer (some ⟨B, 0, none⟩)] w fun e w' => e = .panicked [{ v := .iface u pv, recovered := false }] ∧ Turn [B] w w' := by
  have hn : ((n : Int) == 22) = false := beq_eq_false_iff_ne.2 (by omega)
  have hk := Keeps.alloc (Keeps.refl w) (.cells #[.int .i64 0, .int .i64 0, .int .i64 0, .int .i64 0, .int .i64 0, .int .i64 0, .bool false] 30)
  have d0 := hk.cell hd
  have HV := hide (hk.cell hv)
  have HK := hide hk
  clear h22 hk hd hv
  go_enter Tryz.func82, Tryz.ntmps82
  go_wp2_with fail
  go_at_call 108
  refine (insist_no _ u pv HV.out).mono ?_
  rintro e w' ⟨rfl, rfl⟩
  exact ⟨rfl, rfl, Turn.of_keeps HK.out _⟩
end Go.Proofs.YtkdnddckogbgaaaGreatDoor
