/- Texts of the verifier, joined: BES, SRM, ZR. -/
import Derived.Test.YtdlgoccbmemjgaaGreatDoorPFnLog12
import Derived.Test.YtdlgoccbmemjgaaGreatDoorPFnLog7
import Derived.Test.YtdlgoccbmemjgaaGreatDoorPFnLog6
namespace Go.Proofs.YtdlgoccbmemjgaaGreatDoor
open Go.RowKit Go.Deep
set_option linter.unusedVariables false
set_option linter.unusedSimpArgs false
set_option maxRecDepth 10000
theorem get_is (b off : Nat) (L : List UInt8) (cap : Nat) (p s n : Int) (hn : getV L p s = n) (w : World) (hc : Cells w (some ⟨b, off, none⟩) (bys L)) (hl : L.length ≤ 16777216) :
    Calls Tryz.prog 79 #[.slice (some ⟨b, off, none⟩) L.length cap, .int .i64 p, .int .i64 s] w fun e w' => e = .returned (.tuple #[.int .i64 n, .bool (getB L p s)]) ∧ w' = w := by
  rw [← hn]; exact getnum_spec b off L cap p s w hc hl
theorem own_setS {w : World} {R : Nat} {xs : List Value} (h : Own w [(some ⟨R, 0, none⟩, xs)]) {a : Addr} (ha : a.block ≠ R) (v : Value) : Own (w.setCell a v) [(some ⟨R, 0, none⟩, xs)] :=
  h.turn (Turn.set (fs := [a.block]) (by simp) v) (fun x hx hb => by
    have e1 : x = a.block := by simpa using hb
    rw [fp_one] at hx
    by_cases h0 : xs = []
    · simp [fpS, h0] at hx
    · rw [fpS_some h0] at hx
      exact ha (e1.symm.trans (by simpa using hx)))
theorem own_sevenS {w : World} {R : Nat} {x0 x1 x2 x3 x4 x5 x6 : Value} (h : Own w [(some ⟨R, 0, none⟩, [x0, x1, x2, x3, x4, x5, x6])]) (y0 y1 y2 y3 y4 y5 y6 : Value) :
    Own (((((((w.setCell ⟨R, 0, none⟩ (y0)).setCell ⟨R, 1, none⟩ (y1)).setCell ⟨R, 2, none⟩ (y2)).setCell ⟨R, 3, none⟩ (y3)).setCell ⟨R, 4, none⟩ (y4)).setCell ⟨R, 5, none⟩ (y5)).setCell ⟨R, 6, none⟩ (y6)) [(some ⟨R, 0, none⟩, [y0, y1, y2, y3, y4, y5, y6])] := by
  have h := own_set h 0 (by simp) y0
  have h := own_set h 1 (by simp) y1
  have h := own_set h 2 (by simp) y2
  have h := own_set h 3 (by simp) y3
  have h := own_set h 4 (by simp) y4
  have h := own_set h 5 (by simp) y5
  exact own_set h 6 (by simp) y6
theorem keeps_sevenS {W w : World} {R : Nat} (h : Keeps W w) (hR : W.heap.size ≤ R) (y0 y1 y2 y3 y4 y5 y6 : Value) : Keeps W (((((((w.setCell ⟨R, 0, none⟩ (y0)).setCell ⟨R, 1, none⟩ (y1)).setCell ⟨R, 2, none⟩ (y2)).setCell ⟨R, 3, none⟩ (y3)).setCell ⟨R, 4, none⟩ (y4)).setCell ⟨R, 5, none⟩ (y5)).setCell ⟨R, 6, none⟩ (y6)) :=
  (((((((h.setCell (p := ⟨R, 0, none⟩) hR y0).setCell (p := ⟨R, 1, none⟩) hR y1).setCell (p := ⟨R, 2, none⟩) hR y2).setCell (p := ⟨R, 3, none⟩) hR y3).setCell (p := ⟨R, 4, none⟩) hR y4).setCell (p := ⟨R, 5, none⟩) hR y5).setCell (p := ⟨R, 6, none⟩) hR y6)
theorem own_free {w : World} {R : Nat} {xs : List Value} (h : Own w [(some ⟨R, 0, none⟩, xs)]) (hx : xs ≠ []) : ∀ i, w.frozen? ⟨R, i, none⟩ = false := h.free R (by rw [fp_one, fpS_some hx]; simp)
theorem own_cell {w : World} {R : Nat} {xs : List Value} (h : Own w [(some ⟨R, 0, none⟩, xs)]) (i : Nat) (hi : i < xs.length) {v : Value} (hv : xs[i] = v) : w.cell? ⟨R, i, none⟩ = some v := by
  have := cell_at h.mem i hi
  rw [Nat.zero_add, hv] at this
  exact this
set_option maxHeartbeats 4000000 in
theorem bodyspec_yes (b off : Nat) (L : List UInt8) (cap : Nat) (w : World) (hc : Cells w (some ⟨b, off, none⟩) (bys L)) (hl : L.length ≤ 16777216) (k y c t m f q : Int) (b1 : Bool) (ek : getV L 1 1 = k) (ey : getV L 2 3 = y) (ec : getV L 5 1 = c) (et : getV L 6 1 = t) (em : getV L 7 7 = m) (ef : getV L 14 7 = f) (eq : getV L 21 1 = q) (hb1 : decide (q = 1) = b1) (hev : evB k y c t m f b1 = true) (heq : bodyR k y c t m f b1 = L) :
    Calls Tryz.prog 55 #[.slice (some ⟨b, off, none⟩) L.length cap] w fun e w' => e = .returned (.tuple #[evV k y c t m f b1, .bool true]) ∧ Keeps w w' := by
  have hbR := born_alloc w #[.int .i64 0, .int .i64 0, .int .i64 0, .int .i64 0, .int .i64 0, .int .i64 0, .bool false] 30
  have hkR := Keeps.alloc (Keeps.refl w) (.cells #[.int .i64 0, .int .i64 0, .int .i64 0, .int .i64 0, .int .i64 0, .int .i64 0, .bool false] 30)
  have hbV := born_alloc (w.alloc (.cells #[.int .i64 0, .int .i64 0, .int .i64 0, .int .i64 0, .int .i64 0, .int .i64 0, .bool false] 30)) #[.int .i64 0, .int .i64 0, .int .i64 0, .int .i64 0, .int .i64 0, .int .i64 0, .bool false] 30
  have hkV := Keeps.alloc (Keeps.refl (w.alloc (.cells #[.int .i64 0, .int .i64 0, .int .i64 0, .int .i64 0, .int .i64 0, .int .i64 0, .bool false] 30))) (.cells #[.int .i64 0, .int .i64 0, .int .i64 0, .int .i64 0, .int .i64 0, .int .i64 0, .bool false] 30)
  dsimp only at hbR hbV
  rw [World.size_alloc] at hbV
  have HR := hide (hbR.toOwn.kept hkV)
  have HV := hide hbV.toOwn
  have HK := hide (hkR.trans hkV)
  have HC := hide hc
  have HL := hide hl
  have HB1 := hide hb1
  have HEV := hide hev
  clear hbR hkR hbV hkV hc hl hb1 hev
  have HEQ := hide heq
  clear heq
  have Nk := hide ek
  have Ny := hide ey
  have Nc := hide ec
  have Nt := hide et
  have Nm := hide em
  have Nf := hide ef
  have Nq := hide eq
  clear ek ey ec et em ef eq
  have HN : Hid (w.heap.size + 1 ≠ w.heap.size) := by show _ ≠ _; omega
  go_enter Tryz.func55, Tryz.ntmps55
  go_wp2_with fail
  generalize (w.alloc (.cells #[.int .i64 0, .int .i64 0, .int .i64 0, .int .i64 0, .int .i64 0, .int .i64 0, .bool false] 30)).alloc (.cells #[.int .i64 0, .int .i64 0, .int .i64 0, .int .i64 0, .int .i64 0, .int .i64 0, .bool false] 30) = w1 at *
  go_at_call 79
  refine (get_is b off L cap 1 1 k Nk.out _ (HC.out.kept HK.out) HL.out).mono ?_
  rintro e w' ⟨rfl, hw'⟩
  obtain rfl := Eq.symm hw'
  clear hw'
  have cV := own_cell HV.out 0 (by simp) (v := .int .i64 0) rfl
  have fV := own_free HV.out (by simp) 0
  replace HV : Hid (Own (w1.setCell ⟨w.heap.size + 1, 0, none⟩ (.int .i64 k)) [(some ⟨w.heap.size + 1, 0, none⟩, [.int .i64 k, .int .i64 0, .int .i64 0, .int .i64 0, .int .i64 0, .int .i64 0, .bool false])]) := own_set HV.out 0 (by simp) (.int .i64 k)
  replace HR := hide (own_setS HR.out (a := ⟨w.heap.size + 1, 0, none⟩) HN.out (.int .i64 k))
  replace HK := hide (HK.out.setCell (p := ⟨w.heap.size + 1, 0, none⟩) (Nat.le_succ _) (.int .i64 k))
  go_wp2_with fail
  clear cV fV
  generalize w1.setCell ⟨w.heap.size + 1, 0, none⟩ (.int .i64 k) = w2 at *
  clear w1
  go_at_call 79
  refine (get_is b off L cap 2 3 y Ny.out _ (HC.out.kept HK.out) HL.out).mono ?_
  rintro e w' ⟨rfl, hw'⟩
  obtain rfl := Eq.symm hw'
  clear hw'
  have cV := own_cell HV.out 1 (by simp) (v := .int .i64 0) rfl
  have fV := own_free HV.out (by simp) 1
  replace HV : Hid (Own (w2.setCell ⟨w.heap.size + 1, 1, none⟩ (.int .i64 y)) [(some ⟨w.heap.size + 1, 0, none⟩, [.int .i64 k, .int .i64 y, .int .i64 0, .int .i64 0, .int .i64 0, .int .i64 0, .bool false])]) := own_set HV.out 1 (by simp) (.int .i64 y)
  replace HR := hide (own_setS HR.out (a := ⟨w.heap.size + 1, 1, none⟩) HN.out (.int .i64 y))
  replace HK := hide (HK.out.setCell (p := ⟨w.heap.size + 1, 1, none⟩) (Nat.le_succ _) (.int .i64 y))
  go_wp2_with fail
  clear cV fV
  generalize w2.setCell ⟨w.heap.size + 1, 1, none⟩ (.int .i64 y) = w3 at *
  clear w2
  go_at_call 79
  refine (get_is b off L cap 5 1 c Nc.out _ (HC.out.kept HK.out) HL.out).mono ?_
  rintro e w' ⟨rfl, hw'⟩
  obtain rfl := Eq.symm hw'
  clear hw'
  have cV := own_cell HV.out 2 (by simp) (v := .int .i64 0) rfl
  have fV := own_free HV.out (by simp) 2
  replace HV : Hid (Own (w3.setCell ⟨w.heap.size + 1, 2, none⟩ (.int .i64 c)) [(some ⟨w.heap.size + 1, 0, none⟩, [.int .i64 k, .int .i64 y, .int .i64 c, .int .i64 0, .int .i64 0, .int .i64 0, .bool false])]) := own_set HV.out 2 (by simp) (.int .i64 c)
  replace HR := hide (own_setS HR.out (a := ⟨w.heap.size + 1, 2, none⟩) HN.out (.int .i64 c))
  replace HK := hide (HK.out.setCell (p := ⟨w.heap.size + 1, 2, none⟩) (Nat.le_succ _) (.int .i64 c))
  go_wp2_with fail
  clear cV fV
  generalize w3.setCell ⟨w.heap.size + 1, 2, none⟩ (.int .i64 c) = w4 at *
  clear w3
  go_at_call 79
  refine (get_is b off L cap 6 1 t Nt.out _ (HC.out.kept HK.out) HL.out).mono ?_
  rintro e w' ⟨rfl, hw'⟩
  obtain rfl := Eq.symm hw'
  clear hw'
  have cV := own_cell HV.out 3 (by simp) (v := .int .i64 0) rfl
  have fV := own_free HV.out (by simp) 3
  replace HV : Hid (Own (w4.setCell ⟨w.heap.size + 1, 3, none⟩ (.int .i64 t)) [(some ⟨w.heap.size + 1, 0, none⟩, [.int .i64 k, .int .i64 y, .int .i64 c, .int .i64 t, .int .i64 0, .int .i64 0, .bool false])]) := own_set HV.out 3 (by simp) (.int .i64 t)
  replace HR := hide (own_setS HR.out (a := ⟨w.heap.size + 1, 3, none⟩) HN.out (.int .i64 t))
  replace HK := hide (HK.out.setCell (p := ⟨w.heap.size + 1, 3, none⟩) (Nat.le_succ _) (.int .i64 t))
  go_wp2_with fail
  clear cV fV
  generalize w4.setCell ⟨w.heap.size + 1, 3, none⟩ (.int .i64 t) = w5 at *
  clear w4
  go_at_call 79
  refine (get_is b off L cap 7 7 m Nm.out _ (HC.out.kept HK.out) HL.out).mono ?_
  rintro e w' ⟨rfl, hw'⟩
  obtain rfl := Eq.symm hw'
  clear hw'
  have cV := own_cell HV.out 4 (by simp) (v := .int .i64 0) rfl
  have fV := own_free HV.out (by simp) 4
  replace HV : Hid (Own (w5.setCell ⟨w.heap.size + 1, 4, none⟩ (.int .i64 m)) [(some ⟨w.heap.size + 1, 0, none⟩, [.int .i64 k, .int .i64 y, .int .i64 c, .int .i64 t, .int .i64 m, .int .i64 0, .bool false])]) := own_set HV.out 4 (by simp) (.int .i64 m)
  replace HR := hide (own_setS HR.out (a := ⟨w.heap.size + 1, 4, none⟩) HN.out (.int .i64 m))
  replace HK := hide (HK.out.setCell (p := ⟨w.heap.size + 1, 4, none⟩) (Nat.le_succ _) (.int .i64 m))
  go_wp2_with fail
  clear cV fV
  generalize w5.setCell ⟨w.heap.size + 1, 4, none⟩ (.int .i64 m) = w6 at *
  clear w5
  go_at_call 79
  refine (get_is b off L cap 14 7 f Nf.out _ (HC.out.kept HK.out) HL.out).mono ?_
  rintro e w' ⟨rfl, hw'⟩
  obtain rfl := Eq.symm hw'
  clear hw'
  have cV := own_cell HV.out 5 (by simp) (v := .int .i64 0) rfl
  have fV := own_free HV.out (by simp) 5
  replace HV : Hid (Own (w6.setCell ⟨w.heap.size + 1, 5, none⟩ (.int .i64 f)) [(some ⟨w.heap.size + 1, 0, none⟩, [.int .i64 k, .int .i64 y, .int .i64 c, .int .i64 t, .int .i64 m, .int .i64 f, .bool false])]) := own_set HV.out 5 (by simp) (.int .i64 f)
  replace HR := hide (own_setS HR.out (a := ⟨w.heap.size + 1, 5, none⟩) HN.out (.int .i64 f))
  replace HK := hide (HK.out.setCell (p := ⟨w.heap.size + 1, 5, none⟩) (Nat.le_succ _) (.int .i64 f))
  go_wp2_with fail
  clear cV fV
  generalize w6.setCell ⟨w.heap.size + 1, 5, none⟩ (.int .i64 f) = w7 at *
  clear w6
  go_at_call 79
  refine (get_is b off L cap 21 1 q Nq.out _ (HC.out.kept HK.out) HL.out).mono ?_
  rintro e w' ⟨rfl, hw'⟩
  obtain rfl := Eq.symm hw'
  clear hw'
  have hqb : (q == 1) = b1 := by rw [← HB1.out, Bool.eq_iff_iff]; simp
  have cV := own_cell HV.out 6 (by simp) (v := .bool false) rfl
  have fV := own_free HV.out (by simp) 6
  replace HV : Hid (Own (w7.setCell ⟨w.heap.size + 1, 6, none⟩ (.bool b1)) [(some ⟨w.heap.size + 1, 0, none⟩, [.int .i64 k, .int .i64 y, .int .i64 c, .int .i64 t, .int .i64 m, .int .i64 f, .bool b1])]) := own_set HV.out 6 (by simp) (.bool b1)
  replace HR := hide (own_setS HR.out (a := ⟨w.heap.size + 1, 6, none⟩) HN.out (.bool b1))
  replace HK := hide (HK.out.setCell (p := ⟨w.heap.size + 1, 6, none⟩) (Nat.le_succ _) (.bool b1))
  have e0 := own_cell HV.out 0 (by simp) (v := .int .i64 k) rfl
  have e1 := own_cell HV.out 1 (by simp) (v := .int .i64 y) rfl
  have e2 := own_cell HV.out 2 (by simp) (v := .int .i64 c) rfl
  have e3 := own_cell HV.out 3 (by simp) (v := .int .i64 t) rfl
  have e4 := own_cell HV.out 4 (by simp) (v := .int .i64 m) rfl
  have e5 := own_cell HV.out 5 (by simp) (v := .int .i64 f) rfl
  have e6 := own_cell HV.out 6 (by simp) (v := .bool b1) rfl
  go_wp2_with fail
  clear cV fV hqb
  generalize w7.setCell ⟨w.heap.size + 1, 6, none⟩ (.bool b1) = w8 at *
  clear w7
  go_at_call 38
  refine (body_spec k y c t m f b1 _).mono ?_
  rintro e wB ⟨v, rfl, ho, hk⟩
  rw [HEV.out]
  replace HR := hide (HR.out.kept hk)
  replace HV := hide (HV.out.kept hk)
  have HO := hide ho
  replace HK := hide (HK.out.trans hk)
  clear hk ho e0 e1 e2 e3 e4 e5 e6
  obtain ⟨ab, cb, hve, hcn, hbo⟩ : ∃ (ab : Option Addr) (cb : Nat), v = .slice ab (bodyR k y c t m f b1).length cb ∧ (∃ bb ob, ab = some ⟨bb, ob, none⟩) ∧ Cells wB ab (bys (bodyR k y c t m f b1)) := by
    obtain ⟨ab, cb, hv, _, _, hn, hown, _⟩ := Own.of_owns HO.out
    refine ⟨ab, cb, hv, ?_, hown.one⟩
    have hlen : (bodyR k y c t m f b1).length = 22 := by unfold bodyR; rw [if_pos HEV.out, bodyL_length]
    rcases hown.one with h' | ⟨bb, ob, e, _⟩
    · rw [bys_nil] at h'; rw [h'] at hlen; simp at hlen
    · exact ⟨bb, ob, e⟩
  rw [hve]
  clear hve HO v
  obtain ⟨bb, ob, rfl⟩ := hcn
  have s1 := str_of (some ⟨bb, ob, none⟩) cb (bodyR k y c t m f b1) wB bb ob rfl hbo
  have s2 := str_of (some ⟨b, off, none⟩) cap L wB b off rfl (HC.out.kept HK.out)
  have s3 : ((strL (bodyR k y c t m f b1)).toList == (strL L).toList) = true := by rw [strL_beq]; exact decide_eq_true HEQ.out
  generalize (bodyR k y c t m f b1) = M at *
  clear hbo
  have c0 := own_cell HR.out 0 (by simp) (v := .int .i64 0) rfl
  have c1 := own_cell HR.out 1 (by simp) (v := .int .i64 0) rfl
  have c2 := own_cell HR.out 2 (by simp) (v := .int .i64 0) rfl
  have c3 := own_cell HR.out 3 (by simp) (v := .int .i64 0) rfl
  have c4 := own_cell HR.out 4 (by simp) (v := .int .i64 0) rfl
  have c5 := own_cell HR.out 5 (by simp) (v := .int .i64 0) rfl
  have c6 := own_cell HR.out 6 (by simp) (v := .bool false) rfl
  have fR := own_free HR.out (by simp)
  have HF := hide (own_sevenS HR.out (.int .i64 k) (.int .i64 y) (.int .i64 c) (.int .i64 t) (.int .i64 m) (.int .i64 f) (.bool b1))
  have HK2 := hide (keeps_sevenS HK.out (Nat.le_refl w.heap.size) (.int .i64 k) (.int .i64 y) (.int .i64 c) (.int .i64 t) (.int .i64 m) (.int .i64 f) (.bool b1))
  have e0 := own_cell HV.out 0 (by simp) (v := .int .i64 k) rfl
  have e1 := own_cell HV.out 1 (by simp) (v := .int .i64 y) rfl
  have e2 := own_cell HV.out 2 (by simp) (v := .int .i64 c) rfl
  have e3 := own_cell HV.out 3 (by simp) (v := .int .i64 t) rfl
  have e4 := own_cell HV.out 4 (by simp) (v := .int .i64 m) rfl
  have e5 := own_cell HV.out 5 (by simp) (v := .int .i64 f) rfl
  have e6 := own_cell HV.out 6 (by simp) (v := .bool b1) rfl
  go_wp2_with fail
  generalize (((((((wB.setCell ⟨w.heap.size, 0, none⟩ (.int .i64 k)).setCell ⟨w.heap.size, 1, none⟩ (.int .i64 y)).setCell ⟨w.heap.size, 2, none⟩ (.int .i64 c)).setCell ⟨w.heap.size, 3, none⟩ (.int .i64 t)).setCell ⟨w.heap.size, 4, none⟩ (.int .i64 m)).setCell ⟨w.heap.size, 5, none⟩ (.int .i64 f)).setCell ⟨w.heap.size, 6, none⟩ (.bool b1)) = wF at *
  clear c0 c1 c2 c3 c4 c5 c6
  have c0 := own_cell HF.out 0 (by simp) (v := .int .i64 k) rfl
  have c1 := own_cell HF.out 1 (by simp) (v := .int .i64 y) rfl
  have c2 := own_cell HF.out 2 (by simp) (v := .int .i64 c) rfl
  have c3 := own_cell HF.out 3 (by simp) (v := .int .i64 t) rfl
  have c4 := own_cell HF.out 4 (by simp) (v := .int .i64 m) rfl
  have c5 := own_cell HF.out 5 (by simp) (v := .int .i64 f) rfl
  have c6 := own_cell HF.out 6 (by simp) (v := .bool b1) rfl
  refine bodyPost_ret (v := .tuple #[.agg #[.int .i64 k, .int .i64 y, .int .i64 c, .int .i64 t, .int .i64 m, .int .i64 f, .bool b1], .bool true]) ?_ rfl ⟨rfl, HK2.out⟩
  simp [results, Tryz.results55, go_sem, c0, c1, c2, c3, c4, c5, c6]
set_option maxHeartbeats 4000000 in
theorem bodyspec_bad (b off : Nat) (L : List UInt8) (cap : Nat) (w : World) (hc : Cells w (some ⟨b, off, none⟩) (bys L)) (hl : L.length ≤ 16777216) (k y c t m f q : Int) (b1 : Bool) (ek : getV L 1 1 = k) (ey : getV L 2 3 = y) (ec : getV L 5 1 = c) (et : getV L 6 1 = t) (em : getV L 7 7 = m) (ef : getV L 14 7 = f) (eq : getV L 21 1 = q) (hb1 : decide (q = 1) = b1) (hev : evB k y c t m f b1 = false) :
    Calls Tryz.prog 55 #[.slice (some ⟨b, off, none⟩) L.length cap] w fun e w' => e = .returned (.tuple #[evV 0 0 0 0 0 0 false, .bool false]) ∧ Keeps w w' := by
  have hbR := born_alloc w #[.int .i64 0, .int .i64 0, .int .i64 0, .int .i64 0, .int .i64 0, .int .i64 0, .bool false] 30
  have hkR := Keeps.alloc (Keeps.refl w) (.cells #[.int .i64 0, .int .i64 0, .int .i64 0, .int .i64 0, .int .i64 0, .int .i64 0, .bool false] 30)
  have hbV := born_alloc (w.alloc (.cells #[.int .i64 0, .int .i64 0, .int .i64 0, .int .i64 0, .int .i64 0, .int .i64 0, .bool false] 30)) #[.int .i64 0, .int .i64 0, .int .i64 0, .int .i64 0, .int .i64 0, .int .i64 0, .bool false] 30
  have hkV := Keeps.alloc (Keeps.refl (w.alloc (.cells #[.int .i64 0, .int .i64 0, .int .i64 0, .int .i64 0, .int .i64 0, .int .i64 0, .bool false] 30))) (.cells #[.int .i64 0, .int .i64 0, .int .i64 0, .int .i64 0, .int .i64 0, .int .i64 0, .bool false] 30)
  dsimp only at hbR hbV
  rw [World.size_alloc] at hbV
  have HR := hide (hbR.toOwn.kept hkV)
  have HV := hide hbV.toOwn
  have HK := hide (hkR.trans hkV)
  have HC := hide hc
  have HL := hide hl
  have HB1 := hide hb1
  have HEV := hide hev
  clear hbR hkR hbV hkV hc hl hb1 hev
  have Nk := hide ek
  have Ny := hide ey
  have Nc := hide ec
  have Nt := hide et
  have Nm := hide em
  have Nf := hide ef
  have Nq := hide eq
  clear ek ey ec et em ef eq
  have HN : Hid (w.heap.size + 1 ≠ w.heap.size) := by show _ ≠ _; omega
  go_enter Tryz.func55, Tryz.ntmps55
  go_wp2_with fail
  generalize (w.alloc (.cells #[.int .i64 0, .int .i64 0, .int .i64 0, .int .i64 0, .int .i64 0, .int .i64 0, .bool false] 30)).alloc (.cells #[.int .i64 0, .int .i64 0, .int .i64 0, .int .i64 0, .int .i64 0, .int .i64 0, .bool false] 30) = w1 at *
  go_at_call 79
  refine (get_is b off L cap 1 1 k Nk.out _ (HC.out.kept HK.out) HL.out).mono ?_
  rintro e w' ⟨rfl, hw'⟩
  obtain rfl := Eq.symm hw'
  clear hw'
  have cV := own_cell HV.out 0 (by simp) (v := .int .i64 0) rfl
  have fV := own_free HV.out (by simp) 0
  replace HV : Hid (Own (w1.setCell ⟨w.heap.size + 1, 0, none⟩ (.int .i64 k)) [(some ⟨w.heap.size + 1, 0, none⟩, [.int .i64 k, .int .i64 0, .int .i64 0, .int .i64 0, .int .i64 0, .int .i64 0, .bool false])]) := own_set HV.out 0 (by simp) (.int .i64 k)
  replace HR := hide (own_setS HR.out (a := ⟨w.heap.size + 1, 0, none⟩) HN.out (.int .i64 k))
  replace HK := hide (HK.out.setCell (p := ⟨w.heap.size + 1, 0, none⟩) (Nat.le_succ _) (.int .i64 k))
  go_wp2_with fail
  clear cV fV
  generalize w1.setCell ⟨w.heap.size + 1, 0, none⟩ (.int .i64 k) = w2 at *
  clear w1
  go_at_call 79
  refine (get_is b off L cap 2 3 y Ny.out _ (HC.out.kept HK.out) HL.out).mono ?_
  rintro e w' ⟨rfl, hw'⟩
  obtain rfl := Eq.symm hw'
  clear hw'
  have cV := own_cell HV.out 1 (by simp) (v := .int .i64 0) rfl
  have fV := own_free HV.out (by simp) 1
  replace HV : Hid (Own (w2.setCell ⟨w.heap.size + 1, 1, none⟩ (.int .i64 y)) [(some ⟨w.heap.size + 1, 0, none⟩, [.int .i64 k, .int .i64 y, .int .i64 0, .int .i64 0, .int .i64 0, .int .i64 0, .bool false])]) := own_set HV.out 1 (by simp) (.int .i64 y)
  replace HR := hide (own_setS HR.out (a := ⟨w.heap.size + 1, 1, none⟩) HN.out (.int .i64 y))
  replace HK := hide (HK.out.setCell (p := ⟨w.heap.size + 1, 1, none⟩) (Nat.le_succ _) (.int .i64 y))
  go_wp2_with fail
  clear cV fV
  generalize w2.setCell ⟨w.heap.size + 1, 1, none⟩ (.int .i64 y) = w3 at *
  clear w2
  go_at_call 79
  refine (get_is b off L cap 5 1 c Nc.out _ (HC.out.kept HK.out) HL.out).mono ?_
  rintro e w' ⟨rfl, hw'⟩
  obtain rfl := Eq.symm hw'
  clear hw'
  have cV := own_cell HV.out 2 (by simp) (v := .int .i64 0) rfl
  have fV := own_free HV.out (by simp) 2
  replace HV : Hid (Own (w3.setCell ⟨w.heap.size + 1, 2, none⟩ (.int .i64 c)) [(some ⟨w.heap.size + 1, 0, none⟩, [.int .i64 k, .int .i64 y, .int .i64 c, .int .i64 0, .int .i64 0, .int .i64 0, .bool false])]) := own_set HV.out 2 (by simp) (.int .i64 c)
  replace HR := hide (own_setS HR.out (a := ⟨w.heap.size + 1, 2, none⟩) HN.out (.int .i64 c))
  replace HK := hide (HK.out.setCell (p := ⟨w.heap.size + 1, 2, none⟩) (Nat.le_succ _) (.int .i64 c))
  go_wp2_with fail
  clear cV fV
  generalize w3.setCell ⟨w.heap.size + 1, 2, none⟩ (.int .i64 c) = w4 at *
  clear w3
  go_at_call 79
  refine (get_is b off L cap 6 1 t Nt.out _ (HC.out.kept HK.out) HL.out).mono ?_
  rintro e w' ⟨rfl, hw'⟩
  obtain rfl := Eq.symm hw'
  clear hw'
  have cV := own_cell HV.out 3 (by simp) (v := .int .i64 0) rfl
  have fV := own_free HV.out (by simp) 3
  replace HV : Hid (Own (w4.setCell ⟨w.heap.size + 1, 3, none⟩ (.int .i64 t)) [(some ⟨w.heap.size + 1, 0, none⟩, [.int .i64 k, .int .i64 y, .int .i64 c, .int .i64 t, .int .i64 0, .int .i64 0, .bool false])]) := own_set HV.out 3 (by simp) (.int .i64 t)
  replace HR := hide (own_setS HR.out (a := ⟨w.heap.size + 1, 3, none⟩) HN.out (.int .i64 t))
  replace HK := hide (HK.out.setCell (p := ⟨w.heap.size + 1, 3, none⟩) (Nat.le_succ _) (.int .i64 t))
  go_wp2_with fail
  clear cV fV
  generalize w4.setCell ⟨w.heap.size + 1, 3, none⟩ (.int .i64 t) = w5 at *
  clear w4
  go_at_call 79
  refine (get_is b off L cap 7 7 m Nm.out _ (HC.out.kept HK.out) HL.out).mono ?_
  rintro e w' ⟨rfl, hw'⟩
  obtain rfl := Eq.symm hw'
  clear hw'
  have cV := own_cell HV.out 4 (by simp) (v := .int .i64 0) rfl
  have fV := own_free HV.out (by simp) 4
  replace HV : Hid (Own (w5.setCell ⟨w.heap.size + 1, 4, none⟩ (.int .i64 m)) [(some ⟨w.heap.size + 1, 0, none⟩, [.int .i64 k, .int .i64 y, .int .i64 c, .int .i64 t, .int .i64 m, .int .i64 0, .bool false])]) := own_set HV.out 4 (by simp) (.int .i64 m)
  replace HR := hide (own_setS HR.out (a := ⟨w.heap.size + 1, 4, none⟩) HN.out (.int .i64 m))
  replace HK := hide (HK.out.setCell (p := ⟨w.heap.size + 1, 4, none⟩) (Nat.le_succ _) (.int .i64 m))
  go_wp2_with fail
  clear cV fV
  generalize w5.setCell ⟨w.heap.size + 1, 4, none⟩ (.int .i64 m) = w6 at *
  clear w5
  go_at_call 79
  refine (get_is b off L cap 14 7 f Nf.out _ (HC.out.kept HK.out) HL.out).mono ?_
  rintro e w' ⟨rfl, hw'⟩
  obtain rfl := Eq.symm hw'
  clear hw'
  have cV := own_cell HV.out 5 (by simp) (v := .int .i64 0) rfl
  have fV := own_free HV.out (by simp) 5
  replace HV : Hid (Own (w6.setCell ⟨w.heap.size + 1, 5, none⟩ (.int .i64 f)) [(some ⟨w.heap.size + 1, 0, none⟩, [.int .i64 k, .int .i64 y, .int .i64 c, .int .i64 t, .int .i64 m, .int .i64 f, .bool false])]) := own_set HV.out 5 (by simp) (.int .i64 f)
  replace HR := hide (own_setS HR.out (a := ⟨w.heap.size + 1, 5, none⟩) HN.out (.int .i64 f))
  replace HK := hide (HK.out.setCell (p := ⟨w.heap.size + 1, 5, none⟩) (Nat.le_succ _) (.int .i64 f))
  go_wp2_with fail
  clear cV fV
  generalize w6.setCell ⟨w.heap.size + 1, 5, none⟩ (.int .i64 f) = w7 at *
  clear w6
  go_at_call 79
  refine (get_is b off L cap 21 1 q Nq.out _ (HC.out.kept HK.out) HL.out).mono ?_
  rintro e w' ⟨rfl, hw'⟩
  obtain rfl := Eq.symm hw'
  clear hw'
  have hqb : (q == 1) = b1 := by rw [← HB1.out, Bool.eq_iff_iff]; simp
  have cV := own_cell HV.out 6 (by simp) (v := .bool false) rfl
  have fV := own_free HV.out (by simp) 6
  replace HV : Hid (Own (w7.setCell ⟨w.heap.size + 1, 6, none⟩ (.bool b1)) [(some ⟨w.heap.size + 1, 0, none⟩, [.int .i64 k, .int .i64 y, .int .i64 c, .int .i64 t, .int .i64 m, .int .i64 f, .bool b1])]) := own_set HV.out 6 (by simp) (.bool b1)
  replace HR := hide (own_setS HR.out (a := ⟨w.heap.size + 1, 6, none⟩) HN.out (.bool b1))
  replace HK := hide (HK.out.setCell (p := ⟨w.heap.size + 1, 6, none⟩) (Nat.le_succ _) (.bool b1))
  have e0 := own_cell HV.out 0 (by simp) (v := .int .i64 k) rfl
  have e1 := own_cell HV.out 1 (by simp) (v := .int .i64 y) rfl
  have e2 := own_cell HV.out 2 (by simp) (v := .int .i64 c) rfl
  have e3 := own_cell HV.out 3 (by simp) (v := .int .i64 t) rfl
  have e4 := own_cell HV.out 4 (by simp) (v := .int .i64 m) rfl
  have e5 := own_cell HV.out 5 (by simp) (v := .int .i64 f) rfl
  have e6 := own_cell HV.out 6 (by simp) (v := .bool b1) rfl
  go_wp2_with fail
  clear cV fV hqb
  generalize w7.setCell ⟨w.heap.size + 1, 6, none⟩ (.bool b1) = w8 at *
  clear w7
  go_at_call 38
  refine (body_spec k y c t m f b1 _).mono ?_
  rintro e wB ⟨v, rfl, ho, hk⟩
  rw [HEV.out]
  replace HR := hide (HR.out.kept hk)
  replace HV := hide (HV.out.kept hk)
  have HO := hide ho
  replace HK := hide (HK.out.trans hk)
  clear hk ho e0 e1 e2 e3 e4 e5 e6
  have c0 := own_cell HR.out 0 (by simp) (v := .int .i64 0) rfl
  have c1 := own_cell HR.out 1 (by simp) (v := .int .i64 0) rfl
  have c2 := own_cell HR.out 2 (by simp) (v := .int .i64 0) rfl
  have c3 := own_cell HR.out 3 (by simp) (v := .int .i64 0) rfl
  have c4 := own_cell HR.out 4 (by simp) (v := .int .i64 0) rfl
  have c5 := own_cell HR.out 5 (by simp) (v := .int .i64 0) rfl
  have c6 := own_cell HR.out 6 (by simp) (v := .bool false) rfl
  have fR := own_free HR.out (by simp)
  have HF := hide (own_sevenS HR.out (.int .i64 0) (.int .i64 0) (.int .i64 0) (.int .i64 0) (.int .i64 0) (.int .i64 0) (.bool false))
  have HK2 := hide (keeps_sevenS HK.out (Nat.le_refl w.heap.size) (.int .i64 0) (.int .i64 0) (.int .i64 0) (.int .i64 0) (.int .i64 0) (.int .i64 0) (.bool false))
  go_wp2_with fail
  generalize (((((((wB.setCell ⟨w.heap.size, 0, none⟩ (.int .i64 0)).setCell ⟨w.heap.size, 1, none⟩ (.int .i64 0)).setCell ⟨w.heap.size, 2, none⟩ (.int .i64 0)).setCell ⟨w.heap.size, 3, none⟩ (.int .i64 0)).setCell ⟨w.heap.size, 4, none⟩ (.int .i64 0)).setCell ⟨w.heap.size, 5, none⟩ (.int .i64 0)).setCell ⟨w.heap.size, 6, none⟩ (.bool false)) = wF at *
  clear c0 c1 c2 c3 c4 c5 c6
  have c0 := own_cell HF.out 0 (by simp) (v := .int .i64 0) rfl
  have c1 := own_cell HF.out 1 (by simp) (v := .int .i64 0) rfl
  have c2 := own_cell HF.out 2 (by simp) (v := .int .i64 0) rfl
  have c3 := own_cell HF.out 3 (by simp) (v := .int .i64 0) rfl
  have c4 := own_cell HF.out 4 (by simp) (v := .int .i64 0) rfl
  have c5 := own_cell HF.out 5 (by simp) (v := .int .i64 0) rfl
  have c6 := own_cell HF.out 6 (by simp) (v := .bool false) rfl
  refine bodyPost_ret (v := .tuple #[.agg #[.int .i64 0, .int .i64 0, .int .i64 0, .int .i64 0, .int .i64 0, .int .i64 0, .bool false], .bool false]) ?_ rfl ⟨rfl, HK2.out⟩
  simp [results, Tryz.results55, go_sem, c0, c1, c2, c3, c4, c5, c6]
set_option maxHeartbeats 4000000 in
theorem bodyspec_other (b off : Nat) (L : List UInt8) (cap : Nat) (w : World) (hc : Cells w (some ⟨b, off, none⟩) (bys L)) (hl : L.length ≤ 16777216) (k y c t m f q : Int) (b1 : Bool) (ek : getV L 1 1 = k) (ey : getV L 2 3 = y) (ec : getV L 5 1 = c) (et : getV L 6 1 = t) (em : getV L 7 7 = m) (ef : getV L 14 7 = f) (eq : getV L 21 1 = q) (hb1 : decide (q = 1) = b1) (hev : evB k y c t m f b1 = true) (heq : bodyR k y c t m f b1 ≠ L) :
    Calls Tryz.prog 55 #[.slice (some ⟨b, off, none⟩) L.length cap] w fun e w' => e = .returned (.tuple #[evV 0 0 0 0 0 0 false, .bool false]) ∧ Keeps w w' := by
  have hbR := born_alloc w #[.int .i64 0, .int .i64 0, .int .i64 0, .int .i64 0, .int .i64 0, .int .i64 0, .bool false] 30
  have hkR := Keeps.alloc (Keeps.refl w) (.cells #[.int .i64 0, .int .i64 0, .int .i64 0, .int .i64 0, .int .i64 0, .int .i64 0, .bool false] 30)
  have hbV := born_alloc (w.alloc (.cells #[.int .i64 0, .int .i64 0, .int .i64 0, .int .i64 0, .int .i64 0, .int .i64 0, .bool false] 30)) #[.int .i64 0, .int .i64 0, .int .i64 0, .int .i64 0, .int .i64 0, .int .i64 0, .bool false] 30
  have hkV := Keeps.alloc (Keeps.refl (w.alloc (.cells #[.int .i64 0, .int .i64 0, .int .i64 0, .int .i64 0, .int .i64 0, .int .i64 0, .bool false] 30))) (.cells #[.int .i64 0, .int .i64 0, .int .i64 0, .int .i64 0, .int .i64 0, .int .i64 0, .bool false] 30)
  dsimp only at hbR hbV
  rw [World.size_alloc] at hbV
  have HR := hide (hbR.toOwn.kept hkV)
  have HV := hide hbV.toOwn
  have HK := hide (hkR.trans hkV)
  have HC := hide hc
  have HL := hide hl
  have HB1 := hide hb1
  have HEV := hide hev
  clear hbR hkR hbV hkV hc hl hb1 hev
  have HEQ := hide heq
  clear heq
  have Nk := hide ek
  have Ny := hide ey
  have Nc := hide ec
  have Nt := hide et
  have Nm := hide em
  have Nf := hide ef
  have Nq := hide eq
  clear ek ey ec et em ef eq
  have HN : Hid (w.heap.size + 1 ≠ w.heap.size) := by show _ ≠ _; omega
  go_enter Tryz.func55, Tryz.ntmps55
  go_wp2_with fail
  generalize (w.alloc (.cells #[.int .i64 0, .int .i64 0, .int .i64 0, .int .i64 0, .int .i64 0, .int .i64 0, .bool false] 30)).alloc (.cells #[.int .i64 0, .int .i64 0, .int .i64 0, .int .i64 0, .int .i64 0, .int .i64 0, .bool false] 30) = w1 at *
  go_at_call 79
  refine (get_is b off L cap 1 1 k Nk.out _ (HC.out.kept HK.out) HL.out).mono ?_
  rintro e w' ⟨rfl, hw'⟩
  obtain rfl := Eq.symm hw'
  clear hw'
  have cV := own_cell HV.out 0 (by simp) (v := .int .i64 0) rfl
  have fV := own_free HV.out (by simp) 0
  replace HV : Hid (Own (w1.setCell ⟨w.heap.size + 1, 0, none⟩ (.int .i64 k)) [(some ⟨w.heap.size + 1, 0, none⟩, [.int .i64 k, .int .i64 0, .int .i64 0, .int .i64 0, .int .i64 0, .int .i64 0, .bool false])]) := own_set HV.out 0 (by simp) (.int .i64 k)
  replace HR := hide (own_setS HR.out (a := ⟨w.heap.size + 1, 0, none⟩) HN.out (.int .i64 k))
  replace HK := hide (HK.out.setCell (p := ⟨w.heap.size + 1, 0, none⟩) (Nat.le_succ _) (.int .i64 k))
  go_wp2_with fail
  clear cV fV
  generalize w1.setCell ⟨w.heap.size + 1, 0, none⟩ (.int .i64 k) = w2 at *
  clear w1
  go_at_call 79
  refine (get_is b off L cap 2 3 y Ny.out _ (HC.out.kept HK.out) HL.out).mono ?_
  rintro e w' ⟨rfl, hw'⟩
  obtain rfl := Eq.symm hw'
  clear hw'
  have cV := own_cell HV.out 1 (by simp) (v := .int .i64 0) rfl
  have fV := own_free HV.out (by simp) 1
  replace HV : Hid (Own (w2.setCell ⟨w.heap.size + 1, 1, none⟩ (.int .i64 y)) [(some ⟨w.heap.size + 1, 0, none⟩, [.int .i64 k, .int .i64 y, .int .i64 0, .int .i64 0, .int .i64 0, .int .i64 0, .bool false])]) := own_set HV.out 1 (by simp) (.int .i64 y)
  replace HR := hide (own_setS HR.out (a := ⟨w.heap.size + 1, 1, none⟩) HN.out (.int .i64 y))
  replace HK := hide (HK.out.setCell (p := ⟨w.heap.size + 1, 1, none⟩) (Nat.le_succ _) (.int .i64 y))
  go_wp2_with fail
  clear cV fV
  generalize w2.setCell ⟨w.heap.size + 1, 1, none⟩ (.int .i64 y) = w3 at *
  clear w2
  go_at_call 79
  refine (get_is b off L cap 5 1 c Nc.out _ (HC.out.kept HK.out) HL.out).mono ?_
  rintro e w' ⟨rfl, hw'⟩
  obtain rfl := Eq.symm hw'
  clear hw'
  have cV := own_cell HV.out 2 (by simp) (v := .int .i64 0) rfl
  have fV := own_free HV.out (by simp) 2
  replace HV : Hid (Own (w3.setCell ⟨w.heap.size + 1, 2, none⟩ (.int .i64 c)) [(some ⟨w.heap.size + 1, 0, none⟩, [.int .i64 k, .int .i64 y, .int .i64 c, .int .i64 0, .int .i64 0, .int .i64 0, .bool false])]) := own_set HV.out 2 (by simp) (.int .i64 c)
  replace HR := hide (own_setS HR.out (a := ⟨w.heap.size + 1, 2, none⟩) HN.out (.int .i64 c))
  replace HK := hide (HK.out.setCell (p := ⟨w.heap.size + 1, 2, none⟩) (Nat.le_succ _) (.int .i64 c))
  go_wp2_with fail
  clear cV fV
  generalize w3.setCell ⟨w.heap.size + 1, 2, none⟩ (.int .i64 c) = w4 at *
  clear w3
  go_at_call 79
  refine (get_is b off L cap 6 1 t Nt.out _ (HC.out.kept HK.out) HL.out).mono ?_
  rintro e w' ⟨rfl, hw'⟩
  obtain rfl := Eq.symm hw'
  clear hw'
  have cV := own_cell HV.out 3 (by simp) (v := .int .i64 0) rfl
  have fV := own_free HV.out (by simp) 3
  replace HV : Hid (Own (w4.setCell ⟨w.heap.size + 1, 3, none⟩ (.int .i64 t)) [(some ⟨w.heap.size + 1, 0, none⟩, [.int .i64 k, .int .i64 y, .int .i64 c, .int .i64 t, .int .i64 0, .int .i64 0, .bool false])]) := own_set HV.out 3 (by simp) (.int .i64 t)
  replace HR := hide (own_setS HR.out (a := ⟨w.heap.size + 1, 3, none⟩) HN.out (.int .i64 t))
  replace HK := hide (HK.out.setCell (p := ⟨w.heap.size + 1, 3, none⟩) (Nat.le_succ _) (.int .i64 t))
  go_wp2_with fail
  clear cV fV
  generalize w4.setCell ⟨w.heap.size + 1, 3, none⟩ (.int .i64 t) = w5 at *
  clear w4
  go_at_call 79
  refine (get_is b off L cap 7 7 m Nm.out _ (HC.out.kept HK.out) HL.out).mono ?_
  rintro e w' ⟨rfl, hw'⟩
  obtain rfl := Eq.symm hw'
  clear hw'
  have cV := own_cell HV.out 4 (by simp) (v := .int .i64 0) rfl
  have fV := own_free HV.out (by simp) 4
  replace HV : Hid (Own (w5.setCell ⟨w.heap.size + 1, 4, none⟩ (.int .i64 m)) [(some ⟨w.heap.size + 1, 0, none⟩, [.int .i64 k, .int .i64 y, .int .i64 c, .int .i64 t, .int .i64 m, .int .i64 0, .bool false])]) := own_set HV.out 4 (by simp) (.int .i64 m)
  replace HR := hide (own_setS HR.out (a := ⟨w.heap.size + 1, 4, none⟩) HN.out (.int .i64 m))
  replace HK := hide (HK.out.setCell (p := ⟨w.heap.size + 1, 4, none⟩) (Nat.le_succ _) (.int .i64 m))
  go_wp2_with fail
  clear cV fV
  generalize w5.setCell ⟨w.heap.size + 1, 4, none⟩ (.int .i64 m) = w6 at *
  clear w5
  go_at_call 79
  refine (get_is b off L cap 14 7 f Nf.out _ (HC.out.kept HK.out) HL.out).mono ?_
  rintro e w' ⟨rfl, hw'⟩
  obtain rfl := Eq.symm hw'
  clear hw'
  have cV := own_cell HV.out 5 (by simp) (v := .int .i64 0) rfl
  have fV := own_free HV.out (by simp) 5
  replace HV : Hid (Own (w6.setCell ⟨w.heap.size + 1, 5, none⟩ (.int .i64 f)) [(some ⟨w.heap.size + 1, 0, none⟩, [.int .i64 k, .int .i64 y, .int .i64 c, .int .i64 t, .int .i64 m, .int .i64 f, .bool false])]) := own_set HV.out 5 (by simp) (.int .i64 f)
  replace HR := hide (own_setS HR.out (a := ⟨w.heap.size + 1, 5, none⟩) HN.out (.int .i64 f))
  replace HK := hide (HK.out.setCell (p := ⟨w.heap.size + 1, 5, none⟩) (Nat.le_succ _) (.int .i64 f))
  go_wp2_with fail
  clear cV fV
  generalize w6.setCell ⟨w.heap.size + 1, 5, none⟩ (.int .i64 f) = w7 at *
  clear w6
  go_at_call 79
  refine (get_is b off L cap 21 1 q Nq.out _ (HC.out.kept HK.out) HL.out).mono ?_
  rintro e w' ⟨rfl, hw'⟩
  obtain rfl := Eq.symm hw'
  clear hw'
  have hqb : (q == 1) = b1 := by rw [← HB1.out, Bool.eq_iff_iff]; simp
  have cV := own_cell HV.out 6 (by simp) (v := .bool false) rfl
  have fV := own_free HV.out (by simp) 6
  replace HV : Hid (Own (w7.setCell ⟨w.heap.size + 1, 6, none⟩ (.bool b1)) [(some ⟨w.heap.size + 1, 0, none⟩, [.int .i64 k, .int .i64 y, .int .i64 c, .int .i64 t, .int .i64 m, .int .i64 f, .bool b1])]) := own_set HV.out 6 (by simp) (.bool b1)
  replace HR := hide (own_setS HR.out (a := ⟨w.heap.size + 1, 6, none⟩) HN.out (.bool b1))
  replace HK := hide (HK.out.setCell (p := ⟨w.heap.size + 1, 6, none⟩) (Nat.le_succ _) (.bool b1))
  have e0 := own_cell HV.out 0 (by simp) (v := .int .i64 k) rfl
  have e1 := own_cell HV.out 1 (by simp) (v := .int .i64 y) rfl
  have e2 := own_cell HV.out 2 (by simp) (v := .int .i64 c) rfl
  have e3 := own_cell HV.out 3 (by simp) (v := .int .i64 t) rfl
  have e4 := own_cell HV.out 4 (by simp) (v := .int .i64 m) rfl
  have e5 := own_cell HV.out 5 (by simp) (v := .int .i64 f) rfl
  have e6 := own_cell HV.out 6 (by simp) (v := .bool b1) rfl
  go_wp2_with fail
  clear cV fV hqb
  generalize w7.setCell ⟨w.heap.size + 1, 6, none⟩ (.bool b1) = w8 at *
  clear w7
  go_at_call 38
  refine (body_spec k y c t m f b1 _).mono ?_
  rintro e wB ⟨v, rfl, ho, hk⟩
  rw [HEV.out]
  replace HR := hide (HR.out.kept hk)
  replace HV := hide (HV.out.kept hk)
  have HO := hide ho
  replace HK := hide (HK.out.trans hk)
  clear hk ho e0 e1 e2 e3 e4 e5 e6
  obtain ⟨ab, cb, hve, hcn, hbo⟩ : ∃ (ab : Option Addr) (cb : Nat), v = .slice ab (bodyR k y c t m f b1).length cb ∧ (∃ bb ob, ab = some ⟨bb, ob, none⟩) ∧ Cells wB ab (bys (bodyR k y c t m f b1)) := by
    obtain ⟨ab, cb, hv, _, _, hn, hown, _⟩ := Own.of_owns HO.out
    refine ⟨ab, cb, hv, ?_, hown.one⟩
    have hlen : (bodyR k y c t m f b1).length = 22 := by unfold bodyR; rw [if_pos HEV.out, bodyL_length]
    rcases hown.one with h' | ⟨bb, ob, e, _⟩
    · rw [bys_nil] at h'; rw [h'] at hlen; simp at hlen
    · exact ⟨bb, ob, e⟩
  rw [hve]
  clear hve HO v
  obtain ⟨bb, ob, rfl⟩ := hcn
  have s1 := str_of (some ⟨bb, ob, none⟩) cb (bodyR k y c t m f b1) wB bb ob rfl hbo
  have s2 := str_of (some ⟨b, off, none⟩) cap L wB b off rfl (HC.out.kept HK.out)
  have s3 : ((strL (bodyR k y c t m f b1)).toList == (strL L).toList) = false := by rw [strL_beq]; exact decide_eq_false HEQ.out
  generalize (bodyR k y c t m f b1) = M at *
  clear hbo
  have c0 := own_cell HR.out 0 (by simp) (v := .int .i64 0) rfl
  have c1 := own_cell HR.out 1 (by simp) (v := .int .i64 0) rfl
  have c2 := own_cell HR.out 2 (by simp) (v := .int .i64 0) rfl
  have c3 := own_cell HR.out 3 (by simp) (v := .int .i64 0) rfl
  have c4 := own_cell HR.out 4 (by simp) (v := .int .i64 0) rfl
  have c5 := own_cell HR.out 5 (by simp) (v := .int .i64 0) rfl
  have c6 := own_cell HR.out 6 (by simp) (v := .bool false) rfl
  have fR := own_free HR.out (by simp)
  have HF := hide (own_sevenS HR.out (.int .i64 0) (.int .i64 0) (.int .i64 0) (.int .i64 0) (.int .i64 0) (.int .i64 0) (.bool false))
  have HK2 := hide (keeps_sevenS HK.out (Nat.le_refl w.heap.size) (.int .i64 0) (.int .i64 0) (.int .i64 0) (.int .i64 0) (.int .i64 0) (.int .i64 0) (.bool false))
  go_wp2_with fail
  generalize (((((((wB.setCell ⟨w.heap.size, 0, none⟩ (.int .i64 0)).setCell ⟨w.heap.size, 1, none⟩ (.int .i64 0)).setCell ⟨w.heap.size, 2, none⟩ (.int .i64 0)).setCell ⟨w.heap.size, 3, none⟩ (.int .i64 0)).setCell ⟨w.heap.size, 4, none⟩ (.int .i64 0)).setCell ⟨w.heap.size, 5, none⟩ (.int .i64 0)).setCell ⟨w.heap.size, 6, none⟩ (.bool false)) = wF at *
  clear c0 c1 c2 c3 c4 c5 c6
  have c0 := own_cell HF.out 0 (by simp) (v := .int .i64 0) rfl
  have c1 := own_cell HF.out 1 (by simp) (v := .int .i64 0) rfl
  have c2 := own_cell HF.out 2 (by simp) (v := .int .i64 0) rfl
  have c3 := own_cell HF.out 3 (by simp) (v := .int .i64 0) rfl
  have c4 := own_cell HF.out 4 (by simp) (v := .int .i64 0) rfl
  have c5 := own_cell HF.out 5 (by simp) (v := .int .i64 0) rfl
  have c6 := own_cell HF.out 6 (by simp) (v := .bool false) rfl
  refine bodyPost_ret (v := .tuple #[.agg #[.int .i64 0, .int .i64 0, .int .i64 0, .int .i64 0, .int .i64 0, .int .i64 0, .bool false], .bool false]) ?_ rfl ⟨rfl, HK2.out⟩
  simp [results, Tryz.results55, go_sem, c0, c1, c2, c3, c4, c5, c6]
theorem bodyspec (b off : Nat) (L : List UInt8) (cap : Nat) (w : World) (hc : Cells w (some ⟨b, off, none⟩) (bys L)) (hl : L.length ≤ 16777216) :
    Calls Tryz.prog 55 #[.slice (some ⟨b, off, none⟩) L.length cap] w fun e w' => e = .returned (.tuple #[ebV L, .bool (ebB L)]) ∧ Keeps w w' := by
  by_cases h22 : L.length = 22
  · have g1 : getV L 1 1 = (numL (cut L 1 1) : Nat) := getV_cut (p := 1) (s := 1) (by decide) (by decide) (by omega)
    have g2 : getV L 2 3 = (numL (cut L 2 3) : Nat) := getV_cut (p := 2) (s := 3) (by decide) (by decide) (by omega)
    have g3 : getV L 5 1 = (numL (cut L 5 1) : Nat) := getV_cut (p := 5) (s := 1) (by decide) (by decide) (by omega)
    have g4 : getV L 6 1 = (numL (cut L 6 1) : Nat) := getV_cut (p := 6) (s := 1) (by decide) (by decide) (by omega)
    have g5 : getV L 7 7 = (numL (cut L 7 7) : Nat) := getV_cut (p := 7) (s := 7) (by decide) (by decide) (by omega)
    have g6 : getV L 14 7 = (numL (cut L 14 7) : Nat) := getV_cut (p := 14) (s := 7) (by decide) (by decide) (by omega)
    have g7 : getV L 21 1 = (numL (cut L 21 1) : Nat) := getV_cut (p := 21) (s := 1) (by decide) (by decide) (by omega)
    have hq : decide (((numL (cut L 21 1) : Nat) : Int) = 1) = decide (numL (cut L 21 1) = 1) := by rw [Bool.eq_iff_iff]; simp; omega
    have ha := body_again h22
    cases hev : evB (numL (cut L 1 1) : Nat) (numL (cut L 2 3) : Nat) (numL (cut L 5 1) : Nat) (numL (cut L 6 1) : Nat) (numL (cut L 7 7) : Nat) (numL (cut L 14 7) : Nat) (decide (numL (cut L 21 1) = 1))
    · have hB : ebB L = false := by unfold ebB; rw [hev, Bool.and_false]
      unfold ebV
      rw [hB, if_neg (by simp)]
      exact bodyspec_bad b off L cap w hc hl _ _ _ _ _ _ _ _ g1 g2 g3 g4 g5 g6 g7 hq hev
    · have hR : bodyR (numL (cut L 1 1) : Nat) (numL (cut L 2 3) : Nat) (numL (cut L 5 1) : Nat) (numL (cut L 6 1) : Nat) (numL (cut L 7 7) : Nat) (numL (cut L 14 7) : Nat) (decide (numL (cut L 21 1) = 1)) = bodyL (numL (cut L 1 1)) (numL (cut L 2 3)) (numL (cut L 5 1)) (numL (cut L 6 1)) (numL (cut L 7 7)) (numL (cut L 14 7)) (decide (numL (cut L 21 1) = 1)) := by unfold bodyR; rw [if_pos hev]; simp
      by_cases hh : numL (cut L 0 1) = 69 ∧ numL (cut L 21 1) ≤ 1
      · have hB : ebB L = true := by unfold ebB; rw [hev, decide_eq_true h22, decide_eq_true hh.1, decide_eq_true hh.2]; rfl
        unfold ebV
        rw [hB, if_pos rfl]
        exact bodyspec_yes b off L cap w hc hl _ _ _ _ _ _ _ _ g1 g2 g3 g4 g5 g6 g7 hq hev (hR.trans (ha.2 hh))
      · have hB : ebB L = false := by
          unfold ebB
          rw [hev, decide_eq_true h22]
          by_cases h1 : numL (cut L 0 1) = 69
          · have h2 : ¬ numL (cut L 21 1) ≤ 1 := fun h => hh ⟨h1, h⟩
            rw [decide_eq_true h1, decide_eq_false h2]; rfl
          · rw [decide_eq_false h1]; rfl
        unfold ebV
        rw [hB, if_neg (by simp)]
        exact bodyspec_other b off L cap w hc hl _ _ _ _ _ _ _ _ g1 g2 g3 g4 g5 g6 g7 hq hev (fun e => hh (ha.1 (hR.symm.trans e)))
  · have hB : ebB L = false := by unfold ebB; rw [decide_eq_false h22]; rfl
    unfold ebV
    rw [hB, if_neg (by simp)]
    cases hev : evB (getV L 1 1) (getV L 2 3) (getV L 5 1) (getV L 6 1) (getV L 7 7) (getV L 14 7) (decide (getV L 21 1 = 1))
    · exact bodyspec_bad b off L cap w hc hl _ _ _ _ _ _ _ _ rfl rfl rfl rfl rfl rfl rfl rfl hev
    · refine bodyspec_other b off L cap w hc hl _ _ _ _ _ _ _ _ rfl rfl rfl rfl rfl rfl rfl rfl hev (fun e => h22 ?_)
      rw [← e]
      unfold bodyR
      rw [if_pos hev, bodyL_length]
end Go.Proofs.YtdlgoccbmemjgaaGreatDoor
namespace Go.Proofs.YtdlgoccbmemjgaaGreatDoor
open Go.RowKit Go.Deep
set_option linter.unusedVariables false
set_option linter.unusedSimpArgs false

theorem num_inj {X Y : List UInt8} (h : X.length = Y.length) (e : numL X = numL Y) : X = Y := by
  rw [← digs_num (X := X) rfl, ← digs_num (X := Y) rfl, e, h]
/-- What is read of 128 bytes, written again: the same bytes where all ends fit. -/
theorem sec_again {L : List UInt8} {n : Nat} (hl : L.length = 128) (hn : numL (cut L 7 1) = n) (h100 : n ≤ 100) :
    secL (numL (cut L 1 3)) (numL (cut L 4 3)) (cut L 8 n) = L ↔ numL (cut L 0 1) = 74 ∧ cut L (8 + n) (114 - n) = List.replicate (114 - n) 0 ∧ numL (cut L 122 3) = numL (cut L 1 3) ∧ numL (cut L 125 3) = numL (cut L 4 3) := by
  have eL : L = cut L 0 1 ++ cut L 1 3 ++ cut L 4 3 ++ cut L 7 1 ++ cut L 8 n ++ cut L (8 + n) (114 - n) ++ cut L 122 3 ++ cut L 125 3 := by
    have h0 := cut_next L 0 1
    have h1 := cut_next L 1 3
    have h2 := cut_next L 4 3
    have h3 := cut_next L 7 1
    have h4 := cut_next L 8 n
    have h5 := cut_next L (8 + n) (114 - n)
    have h6 := cut_next L 122 3
    have h7 := cut_next L 125 3
    have h8 : L.drop 128 = [] := List.drop_eq_nil_of_le (by omega)
    rw [show 8 + n + (114 - n) = 122 by omega] at h5
    simp only [Nat.reduceAdd, List.drop_zero] at h0 h1 h2 h3 h6 h7
    rw [h8, List.append_nil] at h7
    rw [h7] at h6; rw [h6] at h5; rw [h5] at h4; rw [h4] at h3; rw [h3] at h2; rw [h2] at h1; rw [h1] at h0
    simpa [List.append_assoc] using h0
  have l8 : (cut L 8 n).length = n := cut_length (by omega)
  have l5 : (cut L (8 + n) (114 - n)).length = 114 - n := cut_length (by omega)
  have l0 : (cut L 0 1).length = 1 := cut_length (by omega)
  obtain ⟨x, ex⟩ := List.length_eq_one_iff.1 l0
  have hb : secL (numL (cut L 1 3)) (numL (cut L 4 3)) (cut L 8 n) = [74] ++ cut L 1 3 ++ cut L 4 3 ++ cut L 7 1 ++ cut L 8 n ++ List.replicate (114 - n) 0 ++ cut L 1 3 ++ cut L 4 3 := by
    unfold secL
    rw [l8, ← hn, digs_num (cut_length (by omega)), digs_num (cut_length (by omega)), digs_num (cut_length (by omega))]
  rw [hb]
  constructor
  · intro h
    have h' := h.trans eL
    rw [ex] at h'
    simp only [List.append_assoc, List.singleton_append] at h'
    obtain ⟨h1, h2⟩ := List.cons_eq_cons.1 h'
    have h3 := List.append_cancel_left (List.append_cancel_left (List.append_cancel_left (List.append_cancel_left h2)))
    have h4 := List.append_inj h3 (by simp [l5])
    have h5 := List.append_inj h4.2 (by rw [cut_length (by omega), cut_length (by omega)])
    refine ⟨by rw [ex, numL_one, ← h1]; rfl, h4.1.symm, by rw [h5.1], by rw [h5.2]⟩
  · rintro ⟨h1, h2, h3, h4⟩
    have e3 : cut L 122 3 = cut L 1 3 := num_inj (by rw [cut_length (by omega), cut_length (by omega)]) h3
    have e4 : cut L 125 3 = cut L 4 3 := num_inj (by rw [cut_length (by omega), cut_length (by omega)]) h4
    have e1 : x = 74 := by rw [ex, numL_one] at h1; exact UInt8.toNat_inj.1 (by rw [h1]; rfl)
    rw [h2, e3, e4, ex, e1] at eL
    exact eL.symm
/-- Is there a sector in the bytes? -/
def srB (L : List UInt8) : Bool := decide (L.length = 128) && decide (numL (cut L 0 1) = 74) && decide (numL (cut L 7 1) ≤ 100) && decide (cut L (8 + numL (cut L 7 1)) (114 - numL (cut L 7 1)) = List.replicate (114 - numL (cut L 7 1)) 0) && decide (numL (cut L 122 3) = numL (cut L 1 3)) && decide (numL (cut L 125 3) = numL (cut L 4 3)) && secB (numL (cut L 1 3) : Nat) (numL (cut L 4 3) : Nat) (numL (cut L 7 1))
def srQ (L : List UInt8) : Int := if srB L = true then (numL (cut L 1 3) : Nat) else 0
def srE (L : List UInt8) : Int := if srB L = true then (numL (cut L 4 3) : Nat) else 0
def srL (L : List UInt8) : List UInt8 := if srB L = true then cut L 8 (numL (cut L 7 1)) else []
theorem srL_len (L : List UInt8) : (srL L).length ≤ 100 := by
  unfold srL
  split
  · rename_i h
    unfold srB at h
    simp only [Bool.and_eq_true, decide_eq_true_eq] at h
    rw [cut_length (by omega)]
    exact h.1.1.1.1.2
  · simp
/-- No room where it is nil; the room is as great as what is in it. -/
def CapB (a : Option Addr) (c n : Nat) : Prop := (a = none → c = 0) ∧ n ≤ c ∧ c ≤ 9223372036854775807
theorem Born.of_owns3 {w w' : World} {n : Nat} {e : TypeId} {sz : Nat} {v : Value} {xs : List Value} (h : w'.ownsRow w.heap.size e sz v n xs) :
    ∃ (a : Option Addr) (cap : Nat), v = .slice a n cap ∧ CapB a cap n ∧ Born w w' [(a, xs)] := by
  obtain ⟨a, cap, hv, hl, hm, hn, ho, hb⟩ := Own.of_owns h
  exact ⟨a, cap, hv, ⟨hn, hl, Nat.le_trans hm (by decide)⟩, ho, hb⟩
/-- A sector is answered. -/
def SrPost (w : World) (L : List UInt8) (x : Ending) (w' : World) : Prop := ∃ (a : Option Addr) (c : Nat), x = .returned (.tuple #[secV (srQ L) (srE L) a (srL L).length c, .bool (srB L)]) ∧ CapB a c (srL L).length ∧ Born w w' [(a, bys (srL L))] ∧ Keeps w w'
theorem SrPost.no {w w' : World} {L : List UInt8} (h : srB L = false) (hk : Keeps w w') : SrPost w L (.returned (.tuple #[secV 0 0 none 0 0, .bool false])) w' := by
  refine ⟨none, 0, ?_, ⟨fun _ => rfl, by unfold srL; rw [h, if_neg (by simp)]; exact Nat.le_refl _, by decide⟩, ?_, hk⟩
  · unfold srQ srE srL
    rw [h]; rfl
  · unfold srL
    rw [h, if_neg (by simp)]
    refine ⟨⟨fun s hs => ?_, by simp [fp, fpS, bys], fun b hb => by simp [fp, fpS, bys] at hb⟩, fun b hb => by simp [fp, fpS, bys] at hb⟩
    rw [List.mem_singleton.1 hs]
    exact Cells.nil _ _
theorem SrPost.yes {w w' : World} {L : List UInt8} {q e n : Nat} {a : Option Addr} {c : Nat} (h : srB L = true) (hq : numL (cut L 1 3) = q) (he : numL (cut L 4 3) = e) (hn : numL (cut L 7 1) = n) (ha : CapB a c (cut L 8 n).length) (hb : Born w w' [(a, bys (cut L 8 n))]) (hk : Keeps w w') :
    SrPost w L (.returned (.tuple #[secV q e a (cut L 8 n).length c, .bool true])) w' := by
  refine ⟨a, c, ?_, by unfold srL; rw [if_pos h, hn]; exact ha, ?_, hk⟩
  · unfold srQ srE srL
    rw [h, if_pos rfl, if_pos rfl, if_pos rfl, hq, he, hn]
  · unfold srL
    rw [if_pos h, hn]; exact hb
end Go.Proofs.YtdlgoccbmemjgaaGreatDoor
namespace Go.Proofs.YtdlgoccbmemjgaaGreatDoor
open Go.RowKit Go.Deep
set_option linter.unusedVariables false
set_option linter.unusedSimpArgs false
set_option maxRecDepth 10000

theorem take_t (B b off : Nat) (L : List UInt8) (cap p c : Nat) (w : World) (hr : Rd w B (some ⟨b, off, none⟩) L cap p) (hl : L.length ≤ 16777216) (hcap : L.length ≤ cap) (hcm : cap ≤ 9223372036854775807) (hc1 : c ≤ 1000) (h : p + c ≤ L.length) (hpc : p < cap) :
    Calls Tryz.prog 117 #[.pointer (some ⟨B, 0, none⟩), .int .i64 (c : Int)] w fun e w' => e = .returned (.slice (some ⟨b, off + p, none⟩) c (cap - p)) ∧ Rd w' B (some ⟨b, off, none⟩) L cap (p + c : Nat) ∧ Turn [B] w w' := by
  refine (take_yes B b off L cap p c w hr hl hcap hcm hc1 h hpc).mono ?_
  rintro e w' ⟨rfl, m, rfl⟩
  refine ⟨rfl, ⟨?_, ?_, ?_⟩, ?_⟩
  · rw [World.cell?_setCell_other _ _ _ _ (by simp)]; simpa using hr.data
  · exact World.cell?_setCell_same _ _ _ (u := .int .i64 p) (by simpa using hr.place)
  · rw [frozen_set]; simpa using hr.free
  · exact Turn.trans' (Turn.of_keeps ((Keeps.refl w).drewN m) [B]) (Turn.set (by simp) _)
theorem cells_cut {w : World} {b off : Nat} {L : List UInt8} (hc : Cells w (some ⟨b, off, none⟩) (bys L)) (p s : Nat) (h : p + s ≤ L.length) : Cells w (some ⟨b, off + p, none⟩) (bys (cut L p s)) := by
  refine Or.inr ⟨b, off + p, rfl, fun j hj => ?_⟩
  rw [bys_length, cut_length h] at hj
  obtain ⟨b', off', e, hcell⟩ := bys_at hc (p + j) (by omega)
  have e' := Option.some.inj e
  injection e' with e1 e2
  subst e1 e2
  rw [← Nat.add_assoc] at hcell
  rw [hcell]
  simp [bys, byV, cut]
theorem cells_turnB {w w' : World} {b off B : Nat} {L : List UInt8} (hc : Cells w (some ⟨b, off, none⟩) (bys L)) (ht : Turn [B] w w') (hne : b ≠ B) : Cells w' (some ⟨b, off, none⟩) (bys L) :=
  Cells.turn (s := (some ⟨b, off, none⟩, bys L)) hc ht (fun x hx hb => by
    have h1 : x = B := by simpa using hb
    subst h1
    by_cases h0 : bys L = []
    · simp [fpS, h0] at hx
    · rw [fpS_some h0] at hx
      exact hne ((show x = b by simpa using hx).symm))
theorem zeros_get {X : List UInt8} {c k : Nat} (h : X = List.replicate c 0) (hk : k < X.length) : X[k] = 0 := by subst h; simp
theorem zeros_all {X : List UInt8} {c : Nat} (hl : X.length = c) (h : ∀ k (hk : k < X.length), X[k] = 0) : X = List.replicate c 0 := by
  refine List.ext_getElem (by simp [hl]) fun k h1 h2 => ?_
  rw [h k h1]; simp
set_option maxHeartbeats 4000000 in
theorem zeros_yes (B b off : Nat) (L : List UInt8) (cap p c : Nat) (cnt : Int) (hcnt : cnt = c) (w : World) (hr : Rd w B (some ⟨b, off, none⟩) L cap p) (hne : b ≠ B) (hc : Cells w (some ⟨b, off, none⟩) (bys L)) (hl : L.length ≤ 16777216) (hcap : L.length ≤ cap) (hcm : cap ≤ 9223372036854775807) (hc1 : c ≤ 1000) (h : p + c ≤ L.length) (hpc : p < cap) (hz : cut L p c = List.replicate c 0) :
    Calls Tryz.prog 119 #[.pointer (some ⟨B, 0, none⟩), .int .i64 cnt] w fun e w' => e = .returned (.tuple #[]) ∧ Rd w' B (some ⟨b, off, none⟩) L cap (p + c : Nat) ∧ Turn [B] w w' := by
  subst hcnt
  have HT := hide (take_t B b off L cap p c w hr hl hcap hcm hc1 h hpc)
  have HX := hide (fun (w' : World) (ht : Turn [B] w w') => cells_cut (cells_turnB hc ht hne) p c h)
  have HLn : Hid ((cut L p c).length = c) := cut_length h
  have HZ := hide hz
  clear hr hc hz h hcap hl hpc hcm hne
  go_enter Tryz.func119, Tryz.ntmps119
  go_wp2_with fail
  refine (unhide HT).mono ?_
  rintro e w1 ⟨rfl, hr1, ht1⟩
  have HX1 := hide (HX.out w1 ht1)
  have HR1 := hide hr1
  have HT1 := hide ht1
  clear hr1 ht1 HT HX
  go_wp2_with fail
  go_loopw [10] (fun y wr => ∃ k : Nat, k ≤ c ∧ y = .int .i64 (k : Int) ∧ wr = w1) (fun y _ => c - (intOf y).toNat)
  case atStart => exact ⟨0, by omega, rfl, rfl⟩
  case round =>
    obtain ⟨k, hk, rfl, rfl⟩ := hrel
    by_cases hlt : k < c
    · obtain ⟨b', off', e', c0⟩ := bys_at HX1.out k (by rw [HLn.out]; exact hlt)
      have e2 := Option.some.inj e'
      injection e2 with e3 e4
      subst e3 e4
      rw [zeros_get HZ.out] at c0
      clear e'
      go_wp2_with (go_at_call 107; refine (insist_yes _).mono ?_; rintro e w' ⟨rfl, hw'⟩; obtain rfl := Eq.symm hw')
      go_roundw
      case rel => exact ⟨k + 1, by omega, by go_num, trivial⟩
      case measure => simp [intOf]; omega
    · go_wp2_with fail
      go_end0
      exact ⟨rfl, HR1.out, HT1.out⟩
set_option maxHeartbeats 4000000 in
theorem zeros_no (B b off : Nat) (L : List UInt8) (cap p c : Nat) (cnt : Int) (hcnt : cnt = c) (w : World) (u : TypeId) (pv : Value) (hv : w.cell? ⟨0, 0, none⟩ = some (.iface u pv)) (hgB : 0 ≠ B) (hr : Rd w B (some ⟨b, off, none⟩) L cap p) (hne : b ≠ B) (hc : Cells w (some ⟨b, off, none⟩) (bys L)) (hl : L.length ≤ 16777216) (hcap : L.length ≤ cap) (hcm : cap ≤ 9223372036854775807) (hc1 : c ≤ 1000) (h : p + c ≤ L.length) (hpc : p < cap) (hz : cut L p c ≠ List.replicate c 0) :
    Calls Tryz.prog 119 #[.pointer (some ⟨B, 0, none⟩), .int .i64 cnt] w fun e w' => e = .panicked [{ v := .iface u pv, recovered := false }] ∧ Turn [B] w w' := by
  subst hcnt
  have HT := hide (take_t B b off L cap p c w hr hl hcap hcm hc1 h hpc)
  have HX := hide (fun (w' : World) (ht : Turn [B] w w') => cells_cut (cells_turnB hc ht hne) p c h)
  have HG := hide (fun (w' : World) (ht : Turn [B] w w') => ht.cell (p := ⟨0, 0, none⟩) (by simpa using hgB) hv)
  have HLn : Hid ((cut L p c).length = c) := cut_length h
  have HZ := hide hz
  clear hr hc hz h hcap hl hpc hcm hne hv hgB
  go_enter Tryz.func119, Tryz.ntmps119
  go_wp2_with fail
  refine (unhide HT).mono ?_
  rintro e w1 ⟨rfl, hr1, ht1⟩
  have HX1 := hide (HX.out w1 ht1)
  have HG1 := hide (HG.out w1 ht1)
  have HT1 := hide ht1
  clear hr1 ht1 HT HX HG
  go_wp2_with fail
  go_loopw [10] (fun y wr => ∃ k : Nat, k ≤ c ∧ y = .int .i64 (k : Int) ∧ wr = w1 ∧ Hid (∀ j, j < k → (cut L p c).getD j 1 = 0)) (fun y _ => c - (intOf y).toNat)
  case atStart => exact ⟨0, by omega, rfl, rfl, fun j hj => absurd hj (by omega)⟩
  case round =>
    obtain ⟨k, hk, rfl, rfl, HO⟩ := hrel
    by_cases hlt : k < c
    · obtain ⟨b', off', e', c0⟩ := bys_at HX1.out k (by rw [HLn.out]; exact hlt)
      have e2 := Option.some.inj e'
      injection e2 with e3 e4
      subst e3 e4
      have HD : Hid ((cut L p c).getD k 1 = (cut L p c)[k]'(by rw [HLn.out]; exact hlt)) := by
        show _ = _
        rw [List.getD_eq_getElem?_getD, List.getElem?_eq_getElem (by rw [HLn.out]; exact hlt)]; rfl
      clear e'
      generalize (cut L p c)[k]'(by rw [HLn.out]; exact hlt) = x at *
      by_cases hx : x = 0
      · subst hx
        go_wp2_with (go_at_call 107; refine (insist_yes _).mono ?_; rintro e w' ⟨rfl, hw'⟩; obtain rfl := Eq.symm hw')
        go_roundw
        case rel => exact ⟨k + 1, by omega, by go_num, trivial, fun j hj => by
                      by_cases e : j = k
                      · subst e; exact HD.out
                      · exact HO.out j (by omega)⟩
        case measure => simp [intOf]; omega
      · have hx2 : ((x.toNat : Int) == 0) = false := beq_eq_false_iff_ne.2 (fun e => hx (UInt8.toNat_inj.1 (by show x.toNat = 0; omega)))
        have hb0 := byte_nn x
        have hb1 := byte_lt x
        have HX0 := hide hx
        clear hx
        go_wp2_with (go_at_call 107; refine (insist_no _ u pv HG1.out).mono ?_; rintro e w' ⟨rfl, hw'⟩; obtain rfl := Eq.symm hw')
        exact ⟨rfl, rfl, HT1.out⟩
    · refine absurd (zeros_all (X := cut L p c) HLn.out (fun j hj => ?_)) HZ.out
      have := HO.out j (by rw [HLn.out] at hj; omega)
      rw [List.getD_eq_getElem?_getD, List.getElem?_eq_getElem hj] at this
      exact this
end Go.Proofs.YtdlgoccbmemjgaaGreatDoor
