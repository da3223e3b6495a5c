/- BodyEvent of the model. -/
import Derived.Test.YtkdnddckogbgaaaGreatDoorFO10
import Derived.Test.YtkdnddckogbgaaaGreatDoorFO15
import Derived.Test.YtkdnddckogbgaaaGreatDoorFO11
namespace Go.Proofs.YtkdnddckogbgaaaGreatDoor
open Go.RowKit Go.Deep
set_option linter.unusedVariables false
set_option linter.unusedSimpArgs false
set_option maxRecDepth 10000
theorem get_is (b off : Nat) (L : List UInt8) (cap : Nat) (p s n : Int) (hn : getV L p s = n) (w : World) (hc : Cells w (some ⟨b, off, none⟩) (bys L)) (hl : L.length ≤ 16777216) :
    Calls Tryz.prog 79 #[.slice (some ⟨b, off, none⟩) L.length cap, .int .i64 p, .int .i64 s] w fun e w' => e = .returned (.tuple #[.int .i64 n, .bool (getB L p s)]) ∧ w' = w := by
  rw [← hn]; exact getnum_spec b off L cap p s w hc hl
theorem own_setS {w : World} {R : Nat} {xs : List Value} (h : Own w [(some ⟨R, 0, none⟩, xs)]) {a : Addr} (ha : a.block ≠ R) (v : Value) : Own (w.setCell a v) [(some ⟨R, 0, none⟩, xs)] :=
  h.turn (Turn.set (fs := [a.block]) (by simp) v) (fun x hx hb => by
    have e1 : x = a.block := by simpa using hb
    rw [fp_one] at hx
    by_cases h0 : xs = []
    · simp [fpS, h0] at hx
    · rw [fpS_some h0] at hx
      exact ha (e1.symm.trans (by simpa using hx)))
theorem own_sevenS {w : World} {R : Nat} {x0 x1 x2 x3 x4 x5 x6 : Value} (h : Own w [(some ⟨R, 0, none⟩, [x0, x1, x2, x3, x4, x5, x6])]) (y0 y1 y2 y3 y4 y5 y6 : Value) :
    Own (((((((w.setCell ⟨R, 0, none⟩ (y0)).setCell ⟨R, 1, none⟩ (y1)).setCell ⟨R, 2, none⟩ (y2)).setCell ⟨R, 3, none⟩ (y3)).setCell ⟨R, 4, none⟩ (y4)).setCell ⟨R, 5, none⟩ (y5)).setCell ⟨R, 6, none⟩ (y6)) [(some ⟨R, 0, none⟩, [y0, y1, y2, y3, y4, y5, y6])] := by
  have h := own_set h 0 (by simp) y0
  have h := own_set h 1 (by simp) y1
  have h := own_set h 2 (by simp) y2
  have h := own_set h 3 (by simp) y3
  have h := own_set h 4 (by simp) y4
  have h := own_set h 5 (by simp) y5
  exact own_set h 6 (by simp) y6
theorem keeps_sevenS {W w : World} {R : Nat} (h : Keeps W w) (hR : W.heap.size ≤ R) (y0 y1 y2 y3 y4 y5 y6 : Value) : Keeps W (((((((w.setCell ⟨R, 0, none⟩ (y0)).setCell ⟨R, 1, none⟩ (y1)).setCell ⟨R, 2, none⟩ (y2)).setCell ⟨R, 3, none⟩ (y3)).setCell ⟨R, 4, none⟩ (y4)).setCell ⟨R, 5, none⟩ (y5)).setCell ⟨R, 6, none⟩ (y6)) :=
  (((((((h.setCell (p := ⟨R, 0, none⟩) hR y0).setCell (p := ⟨R, 1, none⟩) hR y1).setCell (p := ⟨R, 2, none⟩) hR y2).setCell (p := ⟨R, 3, none⟩) hR y3).setCell (p := ⟨R, 4, none⟩) hR y4).setCell (p := ⟨R, 5, none⟩) hR y5).setCell (p := ⟨R, 6, none⟩) hR y6)
theorem own_free {w : World} {R : Nat} {xs : List Value} (h : Own w [(some ⟨R, 0, none⟩, xs)]) (hx : xs ≠ []) : ∀ i, w.frozen? ⟨R, i, none⟩ = false := h.free R (by rw [fp_one, fpS_some hx]; simp)
theorem own_cell {w : World} {R : Nat} {xs : List Value} (h : Own w [(some ⟨R, 0, none⟩, xs)]) (i : Nat) (hi : i < xs.length) {v : Value} (hv : xs[i] = v) : w.cell? ⟨R, i, none⟩ = some v := by
  have := cell_at h.mem i hi
  rw [Nat.zero_add, hv] at this
  exact this
set_option maxHeartbeats 4000000 in
theorem bodyspec_yes (b off : Nat) (L : List UInt8) (cap : Nat) (w : World) (hc : Cells w (some ⟨b, off, none⟩) (bys L)) (hl : L.length ≤ 16777216) (k y c t m f q : Int) (b1 : Bool) (ek : getV L 1 1 = k) (ey : getV L 2 3 = y) (ec : getV L 5 1 = c) (et : getV L 6 1 = t) (em : getV L 7 7 = m) (ef : getV L 14 7 = f) (eq : getV L 21 1 = q) (hb1 : decide (q = 1) = b1) (hev : evB k y c t m f b1 = true) (heq : bodyR k y c t m f b1 = L) :
    Calls Tryz.prog 55 #[.slice (some ⟨b, off, none⟩) L.length cap] w fun e w' => e = .returned (.tuple #[evV k y c t m f b1, .bool true]) ∧ Keeps w w' := by
  have hbR := born_alloc w #[.int .i64 0, .int .i64 0, .int .i64 0, .int .i64 0, .int .i64 0, .int .i64 0, .bool false] 30
  have hkR := Keeps.alloc (Keeps.refl w) (.cells #[.int .i64 0, .int .i64 0, .int .i64 0, .int .i64 0, .int .i64 0, .int .i64 0, .bool false] 30)
  have hbV := born_alloc (w.alloc (.cells #[.int .i64 0, .int .i64 0, .int .i64 0, .int .i64 0, .int .i64 0, .int .i64 0, .bool false] 30)) #[.int .i64 0, .int .i64 0, .int .i64 0, .int .i64 0, .int .i64 0, .int .i64 0, .bool false] 30
  have hkV := Keeps.alloc (Keeps.refl (w.alloc (.cells #[.int .i64 0, .int .i64 0, .int .i64 0, .int .i64 0, .int .i64 0, .int .i64 0, .bool false] 30))) (.cells #[.int .i64 0, .int .i64 0, .int .i64 0, .int .i64 0, .int .i64 0, .int .i64 0, .bool false] 30)
  dsimp only at hbR hbV
  rw [World.size_alloc] at hbV
  have HR := hide (hbR.toOwn.kept hkV)
  have HV := hide hbV.toOwn
  have HK := hide (hkR.trans hkV)
  have HC := hide hc
  have HL := hide hl
  have HB1 := hide hb1
  have HEV := hide hev
  clear hbR hkR hbV hkV hc hl hb1 hev
  have HEQ := hide heq
  clear heq
  have Nk := hide ek
  have Ny := hide ey
  have Nc := hide ec
  have Nt := hide et
  have Nm := hide em
  have Nf := hide ef
  have Nq := hide eq
  clear ek ey ec et em ef eq
  have HN : Hid (w.heap.size + 1 ≠ w.heap.size) := by show _ ≠ _; omega
  go_enter Tryz.func55, Tryz.ntmps55
  go_wp2_with fail
  generalize (w.alloc (.cells #[.int .i64 0, .int .i64 0, .int .i64 0, .int .i64 0, .int .i64 0, .int .i64 0, .bool false] 30)).alloc (.cells #[.int .i64 0, .int .i64 0, .int .i64 0, .int .i64 0, .int .i64 0, .int .i64 0, .bool false] 30) = w1 at *
  go_at_call 79
  refine (get_is b off L cap 1 1 k Nk.out _ (HC.out.kept HK.out) HL.out).mono ?_
  rintro e w' ⟨rfl, hw'⟩
  obtain rfl := Eq.symm hw'
  clear hw'
  have cV := own_cell HV.out 0 (by simp) (v := .int .i64 0) rfl
  have fV := own_free HV.out (by simp) 0
  replace HV : Hid (Own (w1.setCell ⟨w.heap.size + 1, 0, none⟩ (.int .i64 k)) [(some ⟨w.heap.size + 1, 0, none⟩, [.int .i64 k, .int .i64 0, .int .i64 0, .int .i64 0, .int .i64 0, .int .i64 0, .bool false])]) := own_set HV.out 0 (by simp) (.int .i64 k)
  replace HR := hide (own_setS HR.out (a := ⟨w.heap.size + 1, 0, none⟩) HN.out (.int .i64 k))
  replace HK := hide (HK.out.setCell (p := ⟨w.heap.size + 1, 0, none⟩) (Nat.le_succ _) (.int .i64 k))
  go_wp2_with fail
  clear cV fV
  generalize w1.setCell ⟨w.heap.size + 1, 0, none⟩ (.int .i64 k) = w2 at *
  clear w1
  go_at_call 79
  refine (get_is b off L cap 2 3 y Ny.out _ (HC.out.kept HK.out) HL.out).mono ?_
  rintro e w' ⟨rfl, hw'⟩
  obtain rfl := Eq.symm hw'
  clear hw'
  have cV := own_cell HV.out 1 (by simp) (v := .int .i64 0) rfl
  have fV := own_free HV.out (by simp) 1
  replace HV : Hid (Own (w2.setCell ⟨w.heap.size + 1, 1, none⟩ (.int .i64 y)) [(some ⟨w.heap.size + 1, 0, none⟩, [.int .i64 k, .int .i64 y, .int .i64 0, .int .i64 0, .int .i64 0, .int .i64 0, .bool false])]) := own_set HV.out 1 (by simp) (.int .i64 y)
  replace HR := hide (own_setS HR.out (a := ⟨w.heap.size + 1, 1, none⟩) HN.out (.int .i64 y))
  replace HK := hide (HK.out.setCell (p := ⟨w.heap.size + 1, 1, none⟩) (Nat.le_succ _) (.int .i64 y))
  go_wp2_with fail
  clear cV fV
  generalize w2.setCell ⟨w.heap.size + 1, 1, none⟩ (.int .i64 y) = w3 at *
  clear w2
  go_at_call 79
  refine (get_is b off L cap 5 1 c Nc.out _ (HC.out.kept HK.out) HL.out).mono ?_
  rintro e w' ⟨rfl, hw'⟩
  obtain rfl := Eq.symm hw'
  clear hw'
  have cV := own_cell HV.out 2 (by simp) (v := .int .i64 0) rfl
  have fV := own_free HV.out (by simp) 2
  replace HV : Hid (Own (w3.setCell ⟨w.heap.size + 1, 2, none⟩ (.int .i64 c)) [(some ⟨w.heap.size + 1, 0, none⟩, [.int .i64 k, .int .i64 y, .int .i64 c, .int .i64 0, .int .i64 0, .int .i64 0, .bool false])]) := own_set HV.out 2 (by simp) (.int .i64 c)
  replace HR := hide (own_setS HR.out (a := ⟨w.heap.size + 1, 2, none⟩) HN.out (.int .i64 c))
  replace HK := hide (HK.out.setCell (p := ⟨w.heap.size + 1, 2, none⟩) (Nat.le_succ _) (.int .i64 c))
  go_wp2_with fail
  clear cV fV
  generalize w3.setCell ⟨w.heap.size + 1, 2, none⟩ (.int .i64 c) = w4 at *
  clear w3
  go_at_call 79
  refine (get_is b off L cap 6 1 t Nt.out _ (HC.out.kept HK.out) HL.out).mono ?_
  rintro e w' ⟨rfl, hw'⟩
  obtain rfl := Eq.symm hw'
  clear hw'
  have cV := own_cell HV.out 3 (by simp) (v := .int .i64 0) rfl
  have fV := own_free HV.out (by simp) 3
  replace HV : Hid (Own (w4.setCell ⟨w.heap.size + 1, 3, none⟩ (.int .i64 t)) [(some ⟨w.heap.size + 1, 0, none⟩, [.int .i64 k, .int .i64 y, .int .i64 c, .int .i64 t, .int .i64 0, .int .i64 0, .bool false])]) := own_set HV.out 3 (by simp) (.int .i64 t)
  replace HR := hide (own_setS HR.out (a := ⟨w.heap.size + 1, 3, none⟩) HN.out (.int .i64 t))
  replace HK := hide (HK.out.setCell (p := ⟨w.heap.size + 1, 3, none⟩) (Nat.le_succ _) (.int .i64 t))
  go_wp2_with fail
  clear cV fV
  generalize w4.setCell ⟨w.heap.size + 1, 3, none⟩ (.int .i64 t) = w5 at *
  clear w4
  go_at_call 79
  refine (get_is b off L cap 7 7 m Nm.out _ (HC.out.kept HK.out) HL.out).mono ?_
  rintro e w' ⟨rfl, hw'⟩
  obtain rfl := Eq.symm hw'
  clear hw'
  have cV := own_cell HV.out 4 (by simp) (v := .int .i64 0) rfl
  have fV := own_free HV.out (by simp) 4
  replace HV : Hid (Own (w5.setCell ⟨w.heap.size + 1, 4, none⟩ (.int .i64 m)) [(some ⟨w.heap.size + 1, 0, none⟩, [.int .i64 k, .int .i64 y, .int .i64 c, .int .i64 t, .int .i64 m, .int .i64 0, .bool false])]) := own_set HV.out 4 (by simp) (.int .i64 m)
  replace HR := hide (own_setS HR.out (a := ⟨w.heap.size + 1, 4, none⟩) HN.out (.int .i64 m))
  replace HK := hide (HK.out.setCell (p := ⟨w.heap.size + 1, 4, none⟩) (Nat.le_succ _) (.int .i64 m))
  go_wp2_with fail
  clear cV fV
  generalize w5.setCell ⟨w.heap.size + 1, 4, none⟩ (.int .i64 m) = w6 at *
  clear w5
  go_at_call 79
  refine (get_is b off L cap 14 7 f Nf.out _ (HC.out.kept HK.out) HL.out).mono ?_
  rintro e w' ⟨rfl, hw'⟩
  obtain rfl := Eq.symm hw'
  clear hw'
  have cV := own_cell HV.out 5 (by simp) (v := .int .i64 0) rfl
  have fV := own_free HV.out (by simp) 5
  replace HV : Hid (Own (w6.setCell ⟨w.heap.size + 1, 5, none⟩ (.int .i64 f)) [(some ⟨w.heap.size + 1, 0, none⟩, [.int .i64 k, .int .i64 y, .int .i64 c, .int .i64 t, .int .i64 m, .int .i64 f, .bool false])]) := own_set HV.out 5 (by simp) (.int .i64 f)
  replace HR := hide (own_setS HR.out (a := ⟨w.heap.size + 1, 5, none⟩) HN.out (.int .i64 f))
  replace HK := hide (HK.out.setCell (p := ⟨w.heap.size + 1, 5, none⟩) (Nat.le_succ _) (.int .i64 f))
  go_wp2_with fail
  clear cV fV
  generalize w6.setCell ⟨w.heap.size + 1, 5, none⟩ (.int .i64 f) = w7 at *
  clear w6
  go_at_call 79
  refine (get_is b off L cap 21 1 q Nq.out _ (HC.out.kept HK.out) HL.out).mono ?_
  rintro e w' ⟨rfl, hw'⟩
  obtain rfl := Eq.symm hw'
  clear hw'
  have hqb : (q == 1) = b1 := by rw [← HB1.out, Bool.eq_iff_iff]; simp
  have cV := own_cell HV.out 6 (by simp) (v := .bool false) rfl
  have fV := own_free HV.out (by simp) 6
  replace HV : Hid (Own (w7.setCell ⟨w.heap.size + 1, 6, none⟩ (.bool b1)) [(some ⟨w.heap.size + 1, 0, none⟩, [.int .i64 k, .int .i64 y, .int .i64 c, .int .i64 t, .int .i64 m, .int .i64 f, .bool b1])]) := own_set HV.out 6 (by simp) (.bool b1)
  replace HR := hide (own_setS HR.out (a := ⟨w.heap.size + 1, 6, none⟩) HN.out (.bool b1))
  replace HK := hide (HK.out.setCell (p := ⟨w.heap.size + 1, 6, none⟩) (Nat.le_succ _) (.bool b1))
  have e0 := own_cell HV.out 0 (by simp) (v := .int .i64 k) rfl
  have e1 := own_cell HV.out 1 (by simp) (v := .int .i64 y) rfl
  have e2 := own_cell HV.out 2 (by simp) (v := .int .i64 c) rfl
  have e3 := own_cell HV.out 3 (by simp) (v := .int .i64 t) rfl
  have e4 := own_cell HV.out 4 (by simp) (v := .int .i64 m) rfl
  have e5 := own_cell HV.out 5 (by simp) (v := .int .i64 f) rfl
  have e6 := own_cell HV.out 6 (by simp) (v := .bool b1) rfl
  go_wp2_with fail
  clear cV fV hqb
  generalize w7.setCell ⟨w.heap.size + 1, 6, none⟩ (.bool b1) = w8 at *
  clear w7
  go_at_call 38
  refine (body_spec k y c t m f b1 _).mono ?_
  rintro e wB ⟨v, rfl, ho, hk⟩
  rw [HEV.out]
  replace HR := hide (HR.out.kept hk)
  replace HV := hide (HV.out.kept hk)
  have HO := hide ho
  replace HK := hide (HK.out.trans hk)
  clear hk ho e0 e1 e2 e3 e4 e5 e6
  obtain ⟨ab, cb, hve, hcn, hbo⟩ : ∃ (ab : Option Addr) (cb : Nat), v = .slice ab (bodyR k y c t m f b1).length cb ∧ (∃ bb ob, ab = some ⟨bb, ob, none⟩) ∧ Cells wB ab (bys (bodyR k y c t m f b1)) := by
    obtain ⟨ab, cb, hv, _, _, hn, hown, _⟩ := Own.of_owns HO.out
    refine ⟨ab, cb, hv, ?_, hown.one⟩
    have hlen : (bodyR k y c t m f b1).length = 22 := by unfold bodyR; rw [if_pos HEV.out, bodyL_length]
    rcases hown.one with h' | ⟨bb, ob, e, _⟩
    · rw [bys_nil] at h'; rw [h'] at hlen; simp at hlen
    · exact ⟨bb, ob, e⟩
  rw [hve]
  clear hve HO v
  obtain ⟨bb, ob, rfl⟩ := hcn
  have s1 := str_of (some ⟨bb, ob, none⟩) cb (bodyR k y c t m f b1) wB bb ob rfl hbo
  have s2 := str_of (some ⟨b, off, none⟩) cap L wB b off rfl (HC.out.kept HK.out)
  have s3 : ((strL (bodyR k y c t m f b1)).toList == (strL L).toList) = true := by rw [strL_beq]; exact decide_eq_true HEQ.out
  generalize (bodyR k y c t m f b1) = M at *
  clear hbo
  have c0 := own_cell HR.out 0 (by simp) (v := .int .i64 0) rfl
  have c1 := own_cell HR.out 1 (by simp) (v := .int .i64 0) rfl
  have c2 := own_cell HR.out 2 (by simp) (v := .int .i64 0) rfl
  have c3 := own_cell HR.out 3 (by simp) (v := .int .i64 0) rfl
  have c4 := own_cell HR.out 4 (by simp) (v := .int .i64 0) rfl
  have c5 := own_cell HR.out 5 (by simp) (v := .int .i64 0) rfl
  have c6 := own_cell HR.out 6 (by simp) (v := .bool false) rfl
  have fR := own_free HR.out (by simp)
  have HF := hide (own_sevenS HR.out (.int .i64 k) (.int .i64 y) (.int .i64 c) (.int .i64 t) (.int .i64 m) (.int .i64 f) (.bool b1))
  have HK2 := hide (keeps_sevenS HK.out (Nat.le_refl w.heap.size) (.int .i64 k) (.int .i64 y) (.int .i64 c) (.int .i64 t) (.int .i64 m) (.int .i64 f) (.bool b1))
  have e0 := own_cell HV.out 0 (by simp) (v := .int .i64 k) rfl
  have e1 := own_cell HV.out 1 (by simp) (v := .int .i64 y) rfl
  have e2 := own_cell HV.out 2 (by simp) (v := .int .i64 c) rfl
  have e3 := own_cell HV.out 3 (by simp) (v := .int .i64 t) rfl
  have e4 := own_cell HV.out 4 (by simp) (v := .int .i64 m) rfl
  have e5 := own_cell HV.out 5 (by simp) (v := .int .i64 f) rfl
  have e6 := own_cell HV.out 6 (by simp) (v := .bool b1) rfl
  go_wp2_with fail
  generalize (((((((wB.setCell ⟨w.heap.size, 0, none⟩ (.int .i64 k)).setCell ⟨w.heap.size, 1, none⟩ (.int .i64 y)).setCell ⟨w.heap.size, 2, none⟩ (.int .i64 c)).setCell ⟨w.heap.size, 3, none⟩ (.int .i64 t)).setCell ⟨w.heap.size, 4, none⟩ (.int .i64 m)).setCell ⟨w.heap.size, 5, none⟩ (.int .i64 f)).setCell ⟨w.heap.size, 6, none⟩ (.bool b1)) = wF at *
  clear c0 c1 c2 c3 c4 c5 c6
  have c0 := own_cell HF.out 0 (by simp) (v := .int .i64 k) rfl
  have c1 := own_cell HF.out 1 (by simp) (v := .int .i64 y) rfl
  have c2 := own_cell HF.out 2 (by simp) (v := .int .i64 c) rfl
  have c3 := own_cell HF.out 3 (by simp) (v := .int .i64 t) rfl
  have c4 := own_cell HF.out 4 (by simp) (v := .int .i64 m) rfl
  have c5 := own_cell HF.out 5 (by simp) (v := .int .i64 f) rfl
  have c6 := own_cell HF.out 6 (by simp) (v := .bool b1) rfl
  refine bodyPost_ret (v := .tuple #[.agg #[.int .i64 k, .int .i64 y, .int .i64 c, .int .i64 t, .int .i64 m, .int .i64 f, .bool b1], .bool true]) ?_ rfl ⟨rfl, HK2.out⟩
  simp [results, Tryz.results55, go_sem, c0, c1, c2, c3, c4, c5, c6]
set_option maxHeartbeats 4000000 in
theorem bodyspec_bad (b off : Nat) (L : List UInt8) (cap : Nat) (w : World) (hc : Cells w (some ⟨b, off, none⟩) (bys L)) (hl : L.length ≤ 16777216) (k y c t m f q : Int) (b1 : Bool) (ek : getV L 1 1 = k) (ey : getV L 2 3 = y) (ec : getV L 5 1 = c) (et : getV L 6 1 = t) (em : getV L 7 7 = m) (ef : getV L 14 7 = f) (eq : getV L 21 1 = q) (hb1 : decide (q = 1) = b1) (hev : evB k y c t m f b1 = false) :
    Calls Tryz.prog 55 #[.slice (some ⟨b, off, none⟩) L.length cap] w fun e w' => e = .returned (.tuple #[evV 0 0 0 0 0 0 false, .bool false]) ∧ Keeps w w' := by
  have hbR := born_alloc w #[.int .i64 0, .int .i64 0, .int .i64 0, .int .i64 0, .int .i64 0, .int .i64 0, .bool false] 30
  have hkR := Keeps.alloc (Keeps.refl w) (.cells #[.int .i64 0, .int .i64 0, .int .i64 0, .int .i64 0, .int .i64 0, .int .i64 0, .bool false] 30)
  have hbV := born_alloc (w.alloc (.cells #[.int .i64 0, .int .i64 0, .int .i64 0, .int .i64 0, .int .i64 0, .int .i64 0, .bool false] 30)) #[.int .i64 0, .int .i64 0, .int .i64 0, .int .i64 0, .int .i64 0, .int .i64 0, .bool false] 30
  have hkV := Keeps.alloc (Keeps.refl (w.alloc (.cells #[.int .i64 0, .int .i64 0, .int .i64 0, .int .i64 0, .int .i64 0, .int .i64 0, .bool false] 30))) (.cells #[.int .i64 0, .int .i64 0, .int .i64 0, .int .i64 0, .int .i64 0, .int .i64 0, .bool false] 30)
  dsimp only at hbR hbV
  rw [World.size_alloc] at hbV
  have HR := hide (hbR.toOwn.kept hkV)
  have HV := hide hbV.toOwn
  have HK := hide (hkR.trans hkV)
  have HC := hide hc
  have HL := hide hl
  have HB1 := hide hb1
  have HEV := hide hev
  clear hbR hkR hbV hkV hc hl hb1 hev
  have Nk := hide ek
  have Ny := hide ey
  have Nc := hide ec
  have Nt := hide et
  have Nm := hide em
  have Nf := hide ef
  have Nq := hide eq
  clear ek ey ec et em ef eq
  have HN : Hid (w.heap.size + 1 ≠ w.heap.size) := by show _ ≠ _; omega
  go_enter Tryz.func55, Tryz.ntmps55
  go_wp2_with fail
  generalize (w.alloc (.cells #[.int .i64 0, .int .i64 0, .int .i64 0, .int .i64 0, .int .i64 0, .int .i64 0, .bool false] 30)).alloc (.cells #[.int .i64 0, .int .i64 0, .int .i64 0, .int .i64 0, .int .i64 0, .int .i64 0, .bool false] 30) = w1 at *
  go_at_call 79
  refine (get_is b off L cap 1 1 k Nk.out _ (HC.out.kept HK.out) HL.out).mono ?_
  rintro e w' ⟨rfl, hw'⟩
  obtain rfl := Eq.symm hw'
  clear hw'
  have cV := own_cell HV.out 0 (by simp) (v := .int .i64 0) rfl
  have fV := own_free HV.out (by simp) 0
  replace HV : Hid (Own (w1.setCell ⟨w.heap.size + 1, 0, none⟩ (.int .i64 k)) [(some ⟨w.heap.size + 1, 0, none⟩, [.int .i64 k, .int .i64 0, .int .i64 0, .int .i64 0, .int .i64 0, .int .i64 0, .bool false])]) := own_set HV.out 0 (by simp) (.int .i64 k)
  replace HR := hide (own_setS HR.out (a := ⟨w.heap.size + 1, 0, none⟩) HN.out (.int .i64 k))
  replace HK := hide (HK.out.setCell (p := ⟨w.heap.size + 1, 0, none⟩) (Nat.le_succ _) (.int .i64 k))
  go_wp2_with fail
  clear cV fV
  generalize w1.setCell ⟨w.heap.size + 1, 0, none⟩ (.int .i64 k) = w2 at *
  clear w1
  go_at_call 79
  refine (get_is b off L cap 2 3 y Ny.out _ (HC.out.kept HK.out) HL.out).mono ?_
  rintro e w' ⟨rfl, hw'⟩
  obtain rfl := Eq.symm hw'
  clear hw'
  have cV := own_cell HV.out 1 (by simp) (v := .int .i64 0) rfl
  have fV := own_free HV.out (by simp) 1
  replace HV : Hid (Own (w2.setCell ⟨w.heap.size + 1, 1, none⟩ (.int .i64 y)) [(some ⟨w.heap.size + 1, 0, none⟩, [.int .i64 k, .int .i64 y, .int .i64 0, .int .i64 0, .int .i64 0, .int .i64 0, .bool false])]) := own_set HV.out 1 (by simp) (.int .i64 y)
  replace HR := hide (own_setS HR.out (a := ⟨w.heap.size + 1, 1, none⟩) HN.out (.int .i64 y))
  replace HK := hide (HK.out.setCell (p := ⟨w.heap.size + 1, 1, none⟩) (Nat.le_succ _) (.int .i64 y))
  go_wp2_with fail
  clear cV fV
  generalize w2.setCell ⟨w.heap.size + 1, 1, none⟩ (.int .i64 y) = w3 at *
  clear w2
  go_at_call 79
  refine (get_is b off L cap 5 1 c Nc.out _ (HC.out.kept HK.out) HL.out).mono ?_
  rintro e w' ⟨rfl, hw'⟩
  obtain rfl := Eq.symm hw'
  clear hw'
  have cV := own_cell HV.out 2 (by simp) (v := .int .i64 0) rfl
  have fV := own_free HV.out (by simp) 2
  replace HV : Hid (Own (w3.setCell ⟨w.heap.size + 1, 2, none⟩ (.int .i64 c)) [(some ⟨w.heap.size + 1, 0, none⟩, [.int .i64 k, .int .i64 y, .int .i64 c, .int .i64 0, .int .i64 0, .int .i64 0, .bool false])]) := own_set HV.out 2 (by simp) (.int .i64 c)
  replace HR := hide (own_setS HR.out (a := ⟨w.heap.size + 1, 2, none⟩) HN.out (.int .i64 c))
  replace HK := hide (HK.out.setCell (p := ⟨w.heap.size + 1, 2, none⟩) (Nat.le_succ _) (.int .i64 c))
  go_wp2_with fail
  clear cV fV
  generalize w3.setCell ⟨w.heap.size + 1, 2, none⟩ (.int .i64 c) = w4 at *
  clear w3
  go_at_call 79
  refine (get_is b off L cap 6 1 t Nt.out _ (HC.out.kept HK.out) HL.out).mono ?_
  rintro e w' ⟨rfl, hw'⟩
  obtain rfl := Eq.symm hw'
  clear hw'
  have cV := own_cell HV.out 3 (by simp) (v := .int .i64 0) rfl
  have fV := own_free HV.out (by simp) 3
  replace HV : Hid (Own (w4.setCell ⟨w.heap.size + 1, 3, none⟩ (.int .i64 t)) [(some ⟨w.heap.size + 1, 0, none⟩, [.int .i64 k, .int .i64 y, .int .i64 c, .int .i64 t, .int .i64 0, .int .i64 0, .bool false])]) := own_set HV.out 3 (by simp) (.int .i64 t)
  replace HR := hide (own_setS HR.out (a := ⟨w.heap.size + 1, 3, none⟩) HN.out (.int .i64 t))
  replace HK := hide (HK.out.setCell (p := ⟨w.heap.size + 1, 3, none⟩) (Nat.le_succ _) (.int .i64 t))
  go_wp2_with fail
  clear cV fV
  generalize w4.setCell ⟨w.heap.size + 1, 3, none⟩ (.int .i64 t) = w5 at *
  clear w4
  go_at_call 79
  refine (get_is b off L cap 7 7 m Nm.out _ (HC.out.kept HK.out) HL.out).mono ?_
  rintro e w' ⟨rfl, hw'⟩
  obtain rfl := Eq.symm hw'
  clear hw'
  have cV := own_cell HV.out 4 (by simp) (v := .int .i64 0) rfl
  have fV := own_free HV.out (by simp) 4
  replace HV : Hid (Own (w5.setCell ⟨w.heap.size + 1, 4, none⟩ (.int .i64 m)) [(some ⟨w.heap.size + 1, 0, none⟩, [.int .i64 k, .int .i64 y, .int .i64 c, .int .i64 t, .int .i64 m, .int .i64 0, .bool false])]) := own_set HV.out 4 (by simp) (.int .i64 m)
  replace HR := hide (own_setS HR.out (a := ⟨w.heap.size + 1, 4, none⟩) HN.out (.int .i64 m))
  replace HK := hide (HK.out.setCell (p := ⟨w.heap.size + 1, 4, none⟩) (Nat.le_succ _) (.int .i64 m))
  go_wp2_with fail
  clear cV fV
  generalize w5.setCell ⟨w.heap.size + 1, 4, none⟩ (.int .i64 m) = w6 at *
  clear w5
  go_at_call 79
  refine (get_is b off L cap 14 7 f Nf.out _ (HC.out.kept HK.out) HL.out).mono ?_
  rintro e w' ⟨rfl, hw'⟩
  obtain rfl := Eq.symm hw'
  clear hw'
  have cV := own_cell HV.out 5 (by simp) (v := .int .i64 0) rfl
  have fV := own_free HV.out (by simp) 5
  replace HV : Hid (Own (w6.setCell ⟨w.heap.size + 1, 5, none⟩ (.int .i64 f)) [(some ⟨w.heap.size + 1, 0, none⟩, [.int .i64 k, .int .i64 y, .int .i64 c, .int .i64 t, .int .i64 m, .int .i64 f, .bool false])]) := own_set HV.out 5 (by simp) (.int .i64 f)
  replace HR := hide (own_setS HR.out (a := ⟨w.heap.size + 1, 5, none⟩) HN.out (.int .i64 f))
  replace HK := hide (HK.out.setCell (p := ⟨w.heap.size + 1, 5, none⟩) (Nat.le_succ _) (.int .i64 f))
  go_wp2_with fail
  clear cV fV
  generalize w6.setCell ⟨w.heap.size + 1, 5, none⟩ (.int .i64 f) = w7 at *
  clear w6
  go_at_call 79
  refine (get_is b off L cap 21 1 q Nq.out _ (HC.out.kept HK.out) HL.out).mono ?_
  rintro e w' ⟨rfl, hw'⟩
  obtain rfl := Eq.symm hw'
  clear hw'
  have hqb : (q == 1) = b1 := by rw [← HB1.out, Bool.eq_iff_iff]; simp
  have cV := own_cell HV.out 6 (by simp) (v := .bool false) rfl
  have fV := own_free HV.out (by simp) 6
  replace HV : Hid (Own (w7.setCell ⟨w.heap.size + 1, 6, none⟩ (.bool b1)) [(some ⟨w.heap.size + 1, 0, none⟩, [.int .i64 k, .int .i64 y, .int .i64 c, .int .i64 t, .int .i64 m, .int .i64 f, .bool b1])]) := own_set HV.out 6 (by simp) (.bool b1)
  replace HR := hide (own_setS HR.out (a := ⟨w.heap.size + 1, 6, none⟩) HN.out (.bool b1))
  replace HK := hide (HK.out.setCell (p := ⟨w.heap.size + 1, 6, none⟩) (Nat.le_succ _) (.bool b1))
  have e0 := own_cell HV.out 0 (by simp) (v := .int .i64 k) rfl
  have e1 := own_cell HV.out 1 (by simp) (v := .int .i64 y) rfl
  have e2 := own_cell HV.out 2 (by simp) (v := .int .i64 c) rfl
  have e3 := own_cell HV.out 3 (by simp) (v := .int .i64 t) rfl
  have e4 := own_cell HV.out 4 (by simp) (v := .int .i64 m) rfl
  have e5 := own_cell HV.out 5 (by simp) (v := .int .i64 f) rfl
  have e6 := own_cell HV.out 6 (by simp) (v := .bool b1) rfl
  go_wp2_with fail
  clear cV fV hqb
  generalize w7.setCell ⟨w.heap.size + 1, 6, none⟩ (.bool b1) = w8 at *
  clear w7
  go_at_call 38
  refine (body_spec k y c t m f b1 _).mono ?_
  rintro e wB ⟨v, rfl, ho, hk⟩
  rw [HEV.out]
  replace HR := hide (HR.out.kept hk)
  replace HV := hide (HV.out.kept hk)
  have HO := hide ho
  replace HK := hide (HK.out.trans hk)
  clear hk ho e0 e1 e2 e3 e4 e5 e6
  have c0 := own_cell HR.out 0 (by simp) (v := .int .i64 0) rfl
  have c1 := own_cell HR.out 1 (by simp) (v := .int .i64 0) rfl
  have c2 := own_cell HR.out 2 (by simp) (v := .int .i64 0) rfl
  have c3 := own_cell HR.out 3 (by simp) (v := .int .i64 0) rfl
  have c4 := own_cell HR.out 4 (by simp) (v := .int .i64 0) rfl
  have c5 := own_cell HR.out 5 (by simp) (v := .int .i64 0) rfl
  have c6 := own_cell HR.out 6 (by simp) (v := .bool false) rfl
  have fR := own_free HR.out (by simp)
  have HF := hide (own_sevenS HR.out (.int .i64 0) (.int .i64 0) (.int .i64 0) (.int .i64 0) (.int .i64 0) (.int .i64 0) (.bool false))
  have HK2 := hide (keeps_sevenS HK.out (Nat.le_refl w.heap.size) (.int .i64 0) (.int .i64 0) (.int .i64 0) (.int .i64 0) (.int .i64 0) (.int .i64 0) (.bool false))
  go_wp2_with fail
  generalize (((((((wB.setCell ⟨w.heap.size, 0, none⟩ (.int .i64 0)).setCell ⟨w.heap.size, 1, none⟩ (.int .i64 0)).setCell ⟨w.heap.size, 2, none⟩ (.int .i64 0)).setCell ⟨w.heap.size, 3, none⟩ (.int .i64 0)).setCell ⟨w.heap.size, 4, none⟩ (.int .i64 0)).setCell ⟨w.heap.size, 5, none⟩ (.int .i64 0)).setCell ⟨w.heap.size, 6, none⟩ (.bool false)) = wF at *
  clear c0 c1 c2 c3 c4 c5 c6
  have c0 := own_cell HF.out 0 (by simp) (v := .int .i64 0) rfl
  have c1 := own_cell HF.out 1 (by simp) (v := .int .i64 0) rfl
  have c2 := own_cell HF.out 2 (by simp) (v := .int .i64 0) rfl
  have c3 := own_cell HF.out 3 (by simp) (v := .int .i64 0) rfl
  have c4 := own_cell HF.out 4 (by simp) (v := .int .i64 0) rfl
  have c5 := own_cell HF.out 5 (by simp) (v := .int .i64 0) rfl
  have c6 := own_cell HF.out 6 (by simp) (v := .bool false) rfl
  refine bodyPost_ret (v := .tuple #[.agg #[.int .i64 0, .int .i64 0, .int .i64 0, .int .i64 0, .int .i64 0, .int .i64 0, .bool false], .bool false]) ?_ rfl ⟨rfl, HK2.out⟩
  simp [results, Tryz.results55, go_sem, c0, c1, c2, c3, c4, c5, c6]
set_option maxHeartbeats 4000000 in
theorem bodyspec_other (b off : Nat) (L : List UInt8) (cap : Nat) (w : World) (hc : Cells w (some ⟨b, off, none⟩) (bys L)) (hl : L.length ≤ 16777216) (k y c t m f q : Int) (b1 : Bool) (ek : getV L 1 1 = k) (ey : getV L 2 3 = y) (ec : getV L 5 1 = c) (et : getV L 6 1 = t) (em : getV L 7 7 = m) (ef : getV L 14 7 = f) (eq : getV L 21 1 = q) (hb1 : decide (q = 1) = b1) (hev : evB k y c t m f b1 = true) (heq : bodyR k y c t m f b1 ≠ L) :
    Calls Tryz.prog 55 #[.slice (some ⟨b, off, none⟩) L.length cap] w fun e w' => e = .returned (.tuple #[evV 0 0 0 0 0 0 false, .bool false]) ∧ Keeps w w' := by
  have hbR := born_alloc w #[.int .i64 0, .int .i64 0, .int .i64 0, .int .i64 0, .int .i64 0, .int .i64 0, .bool false] 30
  have hkR := Keeps.alloc (Keeps.refl w) (.cells #[.int .i64 0, .int .i64 0, .int .i64 0, .int .i64 0, .int .i64 0, .int .i64 0, .bool false] 30)
  have hbV := born_alloc (w.alloc (.cells #[.int .i64 0, .int .i64 0, .int .i64 0, .int .i64 0, .int .i64 0, .int .i64 0, .bool false] 30)) #[.int .i64 0, .int .i64 0, .int .i64 0, .int .i64 0, .int .i64 0, .int .i64 0, .bool false] 30
  have hkV := Keeps.alloc (Keeps.refl (w.alloc (.cells #[.int .i64 0, .int .i64 0, .int .i64 0, .int .i64 0, .int .i64 0, .int .i64 0, .bool false] 30))) (.cells #[.int .i64 0, .int .i64 0, .int .i64 0, .int .i64 0, .int .i64 0, .int .i64 0, .bool false] 30)
  dsimp only at hbR hbV
  rw [World.size_alloc] at hbV
  have HR := hide (hbR.toOwn.kept hkV)
  have HV := hide hbV.toOwn
  have HK := hide (hkR.trans hkV)
  have HC := hide hc
  have HL := hide hl
  have HB1 := hide hb1
  have HEV := hide hev
  clear hbR hkR hbV hkV hc hl hb1 hev
  have HEQ := hide heq
  clear heq
  have Nk := hide ek
  have Ny := hide ey
  have Nc := hide ec
  have Nt := hide et
  have Nm := hide em
  have Nf := hide ef
  have Nq := hide eq
  clear ek ey ec et em ef eq
  have HN : Hid (w.heap.size + 1 ≠ w.heap.size) := by show _ ≠ _; omega
  go_enter Tryz.func55, Tryz.ntmps55
  go_wp2_with fail
  generalize (w.alloc (.cells #[.int .i64 0, .int .i64 0, .int .i64 0, .int .i64 0, .int .i64 0, .int .i64 0, .bool false] 30)).alloc (.cells #[.int .i64 0, .int .i64 0, .int .i64 0, .int .i64 0, .int .i64 0, .int .i64 0, .bool false] 30) = w1 at *
  go_at_call 79
  refine (get_is b off L cap 1 1 k Nk.out _ (HC.out.kept HK.out) HL.out).mono ?_
  rintro e w' ⟨rfl, hw'⟩
  obtain rfl := Eq.symm hw'
  clear hw'
  have cV := own_cell HV.out 0 (by simp) (v := .int .i64 0) rfl
  have fV := own_free HV.out (by simp) 0
  replace HV : Hid (Own (w1.setCell ⟨w.heap.size + 1, 0, none⟩ (.int .i64 k)) [(some ⟨w.heap.size + 1, 0, none⟩, [.int .i64 k, .int .i64 0, .int .i64 0, .int .i64 0, .int .i64 0, .int .i64 0, .bool false])]) := own_set HV.out 0 (by simp) (.int .i64 k)
  replace HR := hide (own_setS HR.out (a := ⟨w.heap.size + 1, 0, none⟩) HN.out (.int .i64 k))
  replace HK := hide (HK.out.setCell (p := ⟨w.heap.size + 1, 0, none⟩) (Nat.le_succ _) (.int .i64 k))
  go_wp2_with fail
  clear cV fV
  generalize w1.setCell ⟨w.heap.size + 1, 0, none⟩ (.int .i64 k) = w2 at *
  clear w1
  go_at_call 79
  refine (get_is b off L cap 2 3 y Ny.out _ (HC.out.kept HK.out) HL.out).mono ?_
  rintro e w' ⟨rfl, hw'⟩
  obtain rfl := Eq.symm hw'
  clear hw'
  have cV := own_cell HV.out 1 (by simp) (v := .int .i64 0) rfl
  have fV := own_free HV.out (by simp) 1
  replace HV : Hid (Own (w2.setCell ⟨w.heap.size + 1, 1, none⟩ (.int .i64 y)) [(some ⟨w.heap.size + 1, 0, none⟩, [.int .i64 k, .int .i64 y, .int .i64 0, .int .i64 0, .int .i64 0, .int .i64 0, .bool false])]) := own_set HV.out 1 (by simp) (.int .i64 y)
  replace HR := hide (own_setS HR.out (a := ⟨w.heap.size + 1, 1, none⟩) HN.out (.int .i64 y))
  replace HK := hide (HK.out.setCell (p := ⟨w.heap.size + 1, 1, none⟩) (Nat.le_succ _) (.int .i64 y))
  go_wp2_with fail
  clear cV fV
  generalize w2.setCell ⟨w.heap.size + 1, 1, none⟩ (.int .i64 y) = w3 at *
  clear w2
  go_at_call 79
  refine (get_is b off L cap 5 1 c Nc.out _ (HC.out.kept HK.out) HL.out).mono ?_
  rintro e w' ⟨rfl, hw'⟩
  obtain rfl := Eq.symm hw'
  clear hw'
  have cV := own_cell HV.out 2 (by simp) (v := .int .i64 0) rfl
  have fV := own_free HV.out (by simp) 2
  replace HV : Hid (Own (w3.setCell ⟨w.heap.size + 1, 2, none⟩ (.int .i64 c)) [(some ⟨w.heap.size + 1, 0, none⟩, [.int .i64 k, .int .i64 y, .int .i64 c, .int .i64 0, .int .i64 0, .int .i64 0, .bool false])]) := own_set HV.out 2 (by simp) (.int .i64 c)
  replace HR := hide (own_setS HR.out (a := ⟨w.heap.size + 1, 2, none⟩) HN.out (.int .i64 c))
  replace HK := hide (HK.out.setCell (p := ⟨w.heap.size + 1, 2, none⟩) (Nat.le_succ _) (.int .i64 c))
  go_wp2_with fail
  clear cV fV
  generalize w3.setCell ⟨w.heap.size + 1, 2, none⟩ (.int .i64 c) = w4 at *
  clear w3
  go_at_call 79
  refine (get_is b off L cap 6 1 t Nt.out _ (HC.out.kept HK.out) HL.out).mono ?_
  rintro e w' ⟨rfl, hw'⟩
  obtain rfl := Eq.symm hw'
  clear hw'
  have cV := own_cell HV.out 3 (by simp) (v := .int .i64 0) rfl
  have fV := own_free HV.out (by simp) 3
  replace HV : Hid (Own (w4.setCell ⟨w.heap.size + 1, 3, none⟩ (.int .i64 t)) [(some ⟨w.heap.size + 1, 0, none⟩, [.int .i64 k, .int .i64 y, .int .i64 c, .int .i64 t, .int .i64 0, .int .i64 0, .bool false])]) := own_set HV.out 3 (by simp) (.int .i64 t)
  replace HR := hide (own_setS HR.out (a := ⟨w.heap.size + 1, 3, none⟩) HN.out (.int .i64 t))
  replace HK := hide (HK.out.setCell (p := ⟨w.heap.size + 1, 3, none⟩) (Nat.le_succ _) (.int .i64 t))
  go_wp2_with fail
  clear cV fV
  generalize w4.setCell ⟨w.heap.size + 1, 3, none⟩ (.int .i64 t) = w5 at *
  clear w4
  go_at_call 79
  refine (get_is b off L cap 7 7 m Nm.out _ (HC.out.kept HK.out) HL.out).mono ?_
  rintro e w' ⟨rfl, hw'⟩
  obtain rfl := Eq.symm hw'
  clear hw'
  have cV := own_cell HV.out 4 (by simp) (v := .int .i64 0) rfl
  have fV := own_free HV.out (by simp) 4
  replace HV : Hid (Own (w5.setCell ⟨w.heap.size + 1, 4, none⟩ (.int .i64 m)) [(some ⟨w.heap.size + 1, 0, none⟩, [.int .i64 k, .int .i64 y, .int .i64 c, .int .i64 t, .int .i64 m, .int .i64 0, .bool false])]) := own_set HV.out 4 (by simp) (.int .i64 m)
  replace HR := hide (own_setS HR.out (a := ⟨w.heap.size + 1, 4, none⟩) HN.out (.int .i64 m))
  replace HK := hide (HK.out.setCell (p := ⟨w.heap.size + 1, 4, none⟩) (Nat.le_succ _) (.int .i64 m))
  go_wp2_with fail
  clear cV fV
  generalize w5.setCell ⟨w.heap.size + 1, 4, none⟩ (.int .i64 m) = w6 at *
  clear w5
  go_at_call 79
  refine (get_is b off L cap 14 7 f Nf.out _ (HC.out.kept HK.out) HL.out).mono ?_
  rintro e w' ⟨rfl, hw'⟩
  obtain rfl := Eq.symm hw'
  clear hw'
  have cV := own_cell HV.out 5 (by simp) (v := .int .i64 0) rfl
  have fV := own_free HV.out (by simp) 5
  replace HV : Hid (Own (w6.setCell ⟨w.heap.size + 1, 5, none⟩ (.int .i64 f)) [(some ⟨w.heap.size + 1, 0, none⟩, [.int .i64 k, .int .i64 y, .int .i64 c, .int .i64 t, .int .i64 m, .int .i64 f, .bool false])]) := own_set HV.out 5 (by simp) (.int .i64 f)
  replace HR := hide (own_setS HR.out (a := ⟨w.heap.size + 1, 5, none⟩) HN.out (.int .i64 f))
  replace HK := hide (HK.out.setCell (p := ⟨w.heap.size + 1, 5, none⟩) (Nat.le_succ _) (.int .i64 f))
  go_wp2_with fail
  clear cV fV
  generalize w6.setCell ⟨w.heap.size + 1, 5, none⟩ (.int .i64 f) = w7 at *
  clear w6
  go_at_call 79
  refine (get_is b off L cap 21 1 q Nq.out _ (HC.out.kept HK.out) HL.out).mono ?_
  rintro e w' ⟨rfl, hw'⟩
  obtain rfl := Eq.symm hw'
  clear hw'
  have hqb : (q == 1) = b1 := by rw [← HB1.out, Bool.eq_iff_iff]; simp
  have cV := own_cell HV.out 6 (by simp) (v := .bool false) rfl
  have fV := own_free HV.out (by simp) 6
  replace HV : Hid (Own (w7.setCell ⟨w.heap.size + 1, 6, none⟩ (.bool b1)) [(some ⟨w.heap.size + 1, 0, none⟩, [.int .i64 k, .int .i64 y, .int .i64 c, .int .i64 t, .int .i64 m, .int .i64 f, .bool b1])]) := own_set HV.out 6 (by simp) (.bool b1)
  replace HR := hide (own_setS HR.out (a := ⟨w.heap.size + 1, 6, none⟩) HN.out (.bool b1))
  replace HK := hide (HK.out.setCell (p := ⟨w.heap.size + 1, 6, none⟩) (Nat.le_succ _) (.bool b1))
  have e0 := own_cell HV.out 0 (by simp) (v := .int .i64 k) rfl
  have e1 := own_cell HV.out 1 (by simp) (v := .int .i64 y) rfl
  have e2 := own_cell HV.out 2 (by simp) (v := .int .i64 c) rfl
  have e3 := own_cell HV.out 3 (by simp) (v := .int .i64 t) rfl
  have e4 := own_cell HV.out 4 (by simp) (v := .int .i64 m) rfl
  have e5 := own_cell HV.out 5 (by simp) (v := .int .i64 f) rfl
  have e6 := own_cell HV.out 6 (by simp) (v := .bool b1) rfl
  go_wp2_with fail
  clear cV fV hqb
  generalize w7.setCell ⟨w.heap.size + 1, 6, none⟩ (.bool b1) = w8 at *
  clear w7
  go_at_call 38
  refine (body_spec k y c t m f b1 _).mono ?_
  rintro e wB ⟨v, rfl, ho, hk⟩
  rw [HEV.out]
  replace HR := hide (HR.out.kept hk)
  replace HV := hide (HV.out.kept hk)
  have HO := hide ho
  replace HK := hide (HK.out.trans hk)
  clear hk ho e0 e1 e2 e3 e4 e5 e6
  obtain ⟨ab, cb, hve, hcn, hbo⟩ : ∃ (ab : Option Addr) (cb : Nat), v = .slice ab (bodyR k y c t m f b1).length cb ∧ (∃ bb ob, ab = some ⟨bb, ob, none⟩) ∧ Cells wB ab (bys (bodyR k y c t m f b1)) := by
    obtain ⟨ab, cb, hv, _, _, hn, hown, _⟩ := Own.of_owns HO.out
    refine ⟨ab, cb, hv, ?_, hown.one⟩
    have hlen : (bodyR k y c t m f b1).length = 22 := by unfold bodyR; rw [if_pos HEV.out, bodyL_length]
    rcases hown.one with h' | ⟨bb, ob, e, _⟩
    · rw [bys_nil] at h'; rw [h'] at hlen; simp at hlen
    · exact ⟨bb, ob, e⟩
  rw [hve]
  clear hve HO v
  obtain ⟨bb, ob, rfl⟩ := hcn
  have s1 := str_of (some ⟨bb, ob, none⟩) cb (bodyR k y c t m f b1) wB bb ob rfl hbo
  have s2 := str_of (some ⟨b, off, none⟩) cap L wB b off rfl (HC.out.kept HK.out)
  have s3 : ((strL (bodyR k y c t m f b1)).toList == (strL L).toList) = false := by rw [strL_beq]; exact decide_eq_false HEQ.out
  generalize (bodyR k y c t m f b1) = M at *
  clear hbo
  have c0 := own_cell HR.out 0 (by simp) (v := .int .i64 0) rfl
  have c1 := own_cell HR.out 1 (by simp) (v := .int .i64 0) rfl
  have c2 := own_cell HR.out 2 (by simp) (v := .int .i64 0) rfl
  have c3 := own_cell HR.out 3 (by simp) (v := .int .i64 0) rfl
  have c4 := own_cell HR.out 4 (by simp) (v := .int .i64 0) rfl
  have c5 := own_cell HR.out 5 (by simp) (v := .int .i64 0) rfl
  have c6 := own_cell HR.out 6 (by simp) (v := .bool false) rfl
  have fR := own_free HR.out (by simp)
  have HF := hide (own_sevenS HR.out (.int .i64 0) (.int .i64 0) (.int .i64 0) (.int .i64 0) (.int .i64 0) (.int .i64 0) (.bool false))
  have HK2 := hide (keeps_sevenS HK.out (Nat.le_refl w.heap.size) (.int .i64 0) (.int .i64 0) (.int .i64 0) (.int .i64 0) (.int .i64 0) (.int .i64 0) (.bool false))
  go_wp2_with fail
  generalize (((((((wB.setCell ⟨w.heap.size, 0, none⟩ (.int .i64 0)).setCell ⟨w.heap.size, 1, none⟩ (.int .i64 0)).setCell ⟨w.heap.size, 2, none⟩ (.int .i64 0)).setCell ⟨w.heap.size, 3, none⟩ (.int .i64 0)).setCell ⟨w.heap.size, 4, none⟩ (.int .i64 0)).setCell ⟨w.heap.size, 5, none⟩ (.int .i64 0)).setCell ⟨w.heap.size, 6, none⟩ (.bool false)) = wF at *
  clear c0 c1 c2 c3 c4 c5 c6
  have c0 := own_cell HF.out 0 (by simp) (v := .int .i64 0) rfl
  have c1 := own_cell HF.out 1 (by simp) (v := .int .i64 0) rfl
  have c2 := own_cell HF.out 2 (by simp) (v := .int .i64 0) rfl
  have c3 := own_cell HF.out 3 (by simp) (v := .int .i64 0) rfl
  have c4 := own_cell HF.out 4 (by simp) (v := .int .i64 0) rfl
  have c5 := own_cell HF.out 5 (by simp) (v := .int .i64 0) rfl
  have c6 := own_cell HF.out 6 (by simp) (v := .bool false) rfl
  refine bodyPost_ret (v := .tuple #[.agg #[.int .i64 0, .int .i64 0, .int .i64 0, .int .i64 0, .int .i64 0, .int .i64 0, .bool false], .bool false]) ?_ rfl ⟨rfl, HK2.out⟩
  simp [results, Tryz.results55, go_sem, c0, c1, c2, c3, c4, c5, c6]
theorem bodyspec (b off : Nat) (L : List UInt8) (cap : Nat) (w : World) (hc : Cells w (some ⟨b, off, none⟩) (bys L)) (hl : L.length ≤ 16777216) :
    Calls Tryz.prog 55 #[.slice (some ⟨b, off, none⟩) L.length cap] w fun e w' => e = .returned (.tuple #[ebV L, .bool (ebB L)]) ∧ Keeps w w' := by
  by_cases h22 : L.length = 22
  · have g1 : getV L 1 1 = (numL (cut L 1 1) : Nat) := getV_cut (p := 1) (s := 1) (by decide) (by decide) (by omega)
    have g2 : getV L 2 3 = (numL (cut L 2 3) : Nat) := getV_cut (p := 2) (s := 3) (by decide) (by decide) (by omega)
    have g3 : getV L 5 1 = (numL (cut L 5 1) : Nat) := getV_cut (p := 5) (s := 1) (by decide) (by decide) (by omega)
    have g4 : getV L 6 1 = (numL (cut L 6 1) : Nat) := getV_cut (p := 6) (s := 1) (by decide) (by decide) (by omega)
    have g5 : getV L 7 7 = (numL (cut L 7 7) : Nat) := getV_cut (p := 7) (s := 7) (by decide) (by decide) (by omega)
    have g6 : getV L 14 7 = (numL (cut L 14 7) : Nat) := getV_cut (p := 14) (s := 7) (by decide) (by decide) (by omega)
    have g7 : getV L 21 1 = (numL (cut L 21 1) : Nat) := getV_cut (p := 21) (s := 1) (by decide) (by decide) (by omega)
    have hq : decide (((numL (cut L 21 1) : Nat) : Int) = 1) = decide (numL (cut L 21 1) = 1) := by rw [Bool.eq_iff_iff]; simp; omega
    have ha := body_again h22
    cases hev : evB (numL (cut L 1 1) : Nat) (numL (cut L 2 3) : Nat) (numL (cut L 5 1) : Nat) (numL (cut L 6 1) : Nat) (numL (cut L 7 7) : Nat) (numL (cut L 14 7) : Nat) (decide (numL (cut L 21 1) = 1))
    · have hB : ebB L = false := by unfold ebB; rw [hev, Bool.and_false]
      unfold ebV
      rw [hB, if_neg (by simp)]
      exact bodyspec_bad b off L cap w hc hl _ _ _ _ _ _ _ _ g1 g2 g3 g4 g5 g6 g7 hq hev
    · have hR : bodyR (numL (cut L 1 1) : Nat) (numL (cut L 2 3) : Nat) (numL (cut L 5 1) : Nat) (numL (cut L 6 1) : Nat) (numL (cut L 7 7) : Nat) (numL (cut L 14 7) : Nat) (decide (numL (cut L 21 1) = 1)) = bodyL (numL (cut L 1 1)) (numL (cut L 2 3)) (numL (cut L 5 1)) (numL (cut L 6 1)) (numL (cut L 7 7)) (numL (cut L 14 7)) (decide (numL (cut L 21 1) = 1)) := by unfold bodyR; rw [if_pos hev]; simp
      by_cases hh : numL (cut L 0 1) = 69 ∧ numL (cut L 21 1) ≤ 1
      · have hB : ebB L = true := by unfold ebB; rw [hev, decide_eq_true h22, decide_eq_true hh.1, decide_eq_true hh.2]; rfl
        unfold ebV
        rw [hB, if_pos rfl]
        exact bodyspec_yes b off L cap w hc hl _ _ _ _ _ _ _ _ g1 g2 g3 g4 g5 g6 g7 hq hev (hR.trans (ha.2 hh))
      · have hB : ebB L = false := by
          unfold ebB
          rw [hev, decide_eq_true h22]
          by_cases h1 : numL (cut L 0 1) = 69
          · have h2 : ¬ numL (cut L 21 1) ≤ 1 := fun h => hh ⟨h1, h⟩
            rw [decide_eq_true h1, decide_eq_false h2]; rfl
          · rw [decide_eq_false h1]; rfl
        unfold ebV
        rw [hB, if_neg (by simp)]
        exact bodyspec_other b off L cap w hc hl _ _ _ _ _ _ _ _ g1 g2 g3 g4 g5 g6 g7 hq hev (fun e => hh (ha.1 (hR.symm.trans e)))
  · have hB : ebB L = false := by unfold ebB; rw [decide_eq_false h22]; rfl
    unfold ebV
    rw [hB, if_neg (by simp)]
    cases hev : evB (getV L 1 1) (getV L 2 3) (getV L 5 1) (getV L 6 1) (getV L 7 7) (getV L 14 7) (decide (getV L 21 1 = 1))
    · exact bodyspec_bad b off L cap w hc hl _ _ _ _ _ _ _ _ rfl rfl rfl rfl rfl rfl rfl rfl hev
    · refine bodyspec_other b off L cap w hc hl _ _ _ _ _ _ _ _ rfl rfl rfl rfl rfl rfl rfl rfl hev (fun e => h22 ?_)
      rw [← e]
      unfold bodyR
      rw [if_pos hev, bodyL_length]
end Go.Proofs.YtkdnddckogbgaaaGreatDoor
