/- The model's Agrees. -/
import Derived.Test.YtfbkhnbbcbccfaaBsD
import Derived.Test.YtfbkhnbbcbccfaaBals
import Derived.Deep.Cut
namespace Go.Proofs.Ytfbkhnbbcbccfaa
open Go.RowKit Go.Deep
set_option linter.unusedVariables false
set_option linter.unusedSimpArgs false
set_option maxRecDepth 10000

/-- The channel's own side; 0 without one. -/
def locV (C : List Chn) (ch : Int) : Int := match atC C ch with | some k => (C.getD k ⟨0, 0, 0, 0, 0, 0, 0⟩).lo | none => 0
theorem locV_none {C : List Chn} {ch : Int} (h : atC C ch = none) : locV C ch = 0 := by unfold locV; rw [h]
theorem locV_some {C : List Chn} {ch : Int} {k : Nat} (h : atC C ch = some k) (hk : k < C.length) : locV C ch = C[k].lo := by
  unfold locV; rw [h]; simp [List.getD_eq_getElem?_getD, List.getElem?_eq_getElem hk]
/-- Do the accounts of a channel agree? -/
def agrAt (B : Bk) (L : List Ln) (ch : Int) : Bool := decide (balF 6 ch L = locV B.C ch) && decide (balF 8 ch L = outV B ch) && decide (balF 7 ch L = 0)
/-- Do the accounts agree with the book? -/
def agrB (B : Bk) (last : Int) (L : List Ln) : Bool := bookB B && (ledgB last L && (decide (last = B.nx - 1) && (decide (balF 1 0 L = B.wa) && (List.range 99).all fun j => agrAt B L ((j : Int) + 1))))
theorem book_small {B : Bk} (h : bookB B = true) : Small B := by
  rw [bookB_def2] at h
  simp only [Bool.and_eq_true, decide_eq_true_eq] at h
  exact under_small h.2.2.2.2.2.1 h.2.2.2.2.2.2.1 h.2.2.2.2.2.2.2.1
theorem book_next {B : Bk} (h : bookB B = true) : 1 ≤ B.nx ∧ B.nx ≤ 1125899906842624 := by
  rw [bookB_def2] at h
  simp only [Bool.and_eq_true, decide_eq_true_eq] at h
  exact ⟨h.2.2.1, h.2.2.2.1⟩
theorem agr_yes {B : Bk} {last : Int} {L : List Ln} (h1 : bookB B = true) (h2 : ledgB last L = true) (h3 : last = B.nx - 1) (h4 : balF 1 0 L = B.wa) (h : ∀ k : Nat, 1 ≤ k → k ≤ 99 → agrAt B L (k : Int) = true) : agrB B last L = true := by
  unfold agrB
  rw [h1, h2, decide_eq_true h3, decide_eq_true h4]
  simp only [Bool.true_and]
  rw [List.all_eq_true]
  intro j hj
  have := h (j + 1) (by omega) (by have := List.mem_range.1 hj; omega)
  simpa using this
theorem agr_no {B : Bk} {last : Int} {L : List Ln} {k : Nat} (h0 : 1 ≤ k) (h1 : k ≤ 99) (h : agrAt B L (k : Int) = false) : agrB B last L = false := by
  have e : ((List.range 99).all fun j => agrAt B L ((j : Int) + 1)) = false := by
    rw [List.all_eq_false]
    exact ⟨k - 1, List.mem_range.2 (by omega), by rw [show ((k - 1 : Nat) : Int) + 1 = (k : Int) by omega, h]; simp⟩
  unfold agrB
  rw [e]; simp
theorem accB_ch {k : Int} {ch : Nat} (hk : k = 6 ∨ k = 7 ∨ k = 8) (h0 : 1 ≤ ch) (h1 : ch ≤ 99) : accB k (ch : Int) = true := by
  have h2 : (1 : Int) ≤ (ch : Int) := by omega
  have h3 : (ch : Int) ≤ 99 := by omega
  rcases hk with rfl | rfl | rfl <;> simp [accB, h2, h3] <;> omega
theorem balV_ok {id : Int} {L : List Ln} {k c : Int} (h : ledgB id L = true) (hx : accB k c = true) : balV id L k c = balF k c L := by unfold balV; rw [if_pos ⟨h, hx⟩]

theorem cellA' (w : World) (x y : Value) (t : TypeId) : ∀ w', Keeps (w.alloc (.cells #[x, y] t)) w' → w'.cell? ⟨w.heap.size, 0, none⟩ = some x ∧ w'.cell? ⟨w.heap.size, 1, none⟩ = some y := fun w' hk => ⟨hk.cell (cellA w x y t).1, hk.cell (cellA w x y t).2⟩
set_option maxHeartbeats 16000000 in
theorem agrees_spec (B : Bo) (id : Int) (la : Option Addr) (lc : Nat) (L : List Ln) (w : World) (hm : Mem w B.segs) (hl : B.len) (hlz : Cells w la (flat L)) (hll : L.length ≤ 1048576) :
    Calls Try.prog 6 #[B.v, .agg #[.int .i64 id, .slice la L.length lc]] w fun e w' => e = .returned (.bool (agrB B.d id L)) ∧ Keeps w w' := by
  have H1 := hide (fun w' (hk : Keeps w w') => bookok_spec B w' (hm.kept hk) hl)
  have H2 := hide (fun w' (hk : Keeps w w') => ledger_spec id la lc L w' (hlz.kept hk) hll)
  have H3 := hide (fun k c w' (hk : Keeps w w') => bal_spec id la lc L k c w' (hlz.kept hk) hll)
  have H4 := hide (fun ch w' (hk : Keeps w w') => at_spec B ch w' (hm.kept hk) hl.1)
  have H5 := hide (fun ch w' (hk : Keeps w w') hs => out_spec B ch w' (hm.kept hk) hs)
  have H6 := hide (fun w' (hk : Keeps w w') => Bo.memC (hm.kept hk))
  have HS := hide (book_small (B := B.d))
  have HN := hide (book_next (B := B.d))
  have hCl := hl.1
  obtain ⟨tk, nx, wa, ca, cc, C, ha, hc, Hs, ra, rc, R⟩ := B
  dsimp only [Bo.d, Bo.v] at *
  have HBA := hide (rowc6 w (.int .i64 tk) (.int .i64 nx) (.int .i64 wa) (.slice ca C.length cc) (.slice ha Hs.length hc) (.slice ra R.length rc) 37)
  have hz : (w.alloc (.cells #[.int .i64 tk, .int .i64 nx, .int .i64 wa, .slice ca C.length cc, .slice ha Hs.length hc, .slice ra R.length rc] 37)).heap.size = w.heap.size + 1 := by simp
  have HLA := hide (cellA' (w.alloc (.cells #[.int .i64 tk, .int .i64 nx, .int .i64 wa, .slice ca C.length cc, .slice ha Hs.length hc, .slice ra R.length rc] 37)) (.int .i64 id) (.slice la L.length lc) 41)
  rw [hz] at HLA
  have HKB := hide (Keeps.alloc (Keeps.refl w) (.cells #[.int .i64 tk, .int .i64 nx, .int .i64 wa, .slice ca C.length cc, .slice ha Hs.length hc, .slice ra R.length rc] 37))
  have HKL := hide (Keeps.alloc (Keeps.refl (w.alloc (.cells #[.int .i64 tk, .int .i64 nx, .int .i64 wa, .slice ca C.length cc, .slice ha Hs.length hc, .slice ra R.length rc] 37))) (.cells #[.int .i64 id, .slice la L.length lc] 41))
  clear hz hm hl hlz hll
  go_enter Try.func6, Try.ntmps6
  go_upto_region 1 with fail
  generalize w.alloc (.cells #[.int .i64 tk, .int .i64 nx, .int .i64 wa, .slice ca C.length cc, .slice ha Hs.length hc, .slice ra R.length rc] 37) = W0 at *
  generalize W0.alloc (.cells #[.int .i64 id, .slice la L.length lc] 41) = W1 at *
  have HKA := hide (HKB.out.trans HKL.out)
  replace HBA := hide (fun w' (hk : Keeps W1 w') => unhide HBA w' (HKL.out.trans hk))
  clear HKB HKL
  have HKr := hide (Keeps.refl W1)
  have q0 := fun t => (unhide HBA _ (gr_keeps W1 t)).1
  have q1 := fun t => (unhide HBA _ (gr_keeps W1 t)).2.1
  have q2 := fun t => (unhide HBA _ (gr_keeps W1 t)).2.2.1
  have q3 := fun t => (unhide HBA _ (gr_keeps W1 t)).2.2.2.1
  have q4 := fun t => (unhide HBA _ (gr_keeps W1 t)).2.2.2.2.1
  have q5 := fun t => (unhide HBA _ (gr_keeps W1 t)).2.2.2.2.2
  have l0 := fun t => (unhide HLA _ (gr_keeps W1 t)).1
  have l1 := fun t => (unhide HLA _ (gr_keeps W1 t)).2
  have HQ1 := hide (fun t => unhide H1 (gr W1 t) (HKA.out.trans (gr_keeps W1 t)))
  have HQ2 := hide (fun t => unhide H2 (gr W1 t) (HKA.out.trans (gr_keeps W1 t)))
  have HQ3 := hide (fun t => unhide H3 1 0 (gr W1 t) (HKA.out.trans (gr_keeps W1 t)))
  have hV : Hid (agrB (⟨tk, nx, wa, C, Hs, R⟩ : Bk) id L = (bookB (⟨tk, nx, wa, C, Hs, R⟩ : Bk) && (ledgB id L && (decide (id = nx - 1) && (decide (balF 1 0 L = wa) && (List.range 99).all fun j => agrAt (⟨tk, nx, wa, C, Hs, R⟩ : Bk) L ((j : Int) + 1)))))) := rfl
  refine region_gr (by kernel_rfl) (by kernel_rfl) ?_
  repeat (go_big_quiet_step (first | (go_at_call 16; exact gr_call (unhide HQ1 _)) | (go_at_call 17; exact gr_call (unhide HQ2 _)) | (go_at_call 18; exact gr_call (unhide HQ3 _))))
  cases hb0 : bookB (⟨tk, nx, wa, C, Hs, R⟩ : Bk)
  · simp only [Bool.not_true, Bool.not_false]
    repeat (go_big_quiet_step (first | (go_at_call 16; exact gr_call (unhide HQ1 _)) | (go_at_call 17; exact gr_call (unhide HQ2 _)) | (go_at_call 18; exact gr_call (unhide HQ3 _))))
    refine wpQuiet_nil ?_
    intro w' hw'
    have hk' := HKr.out.trans (Keeps.of_gr hw')
    clear hw'
    go_wp2_with fail
    go_ret
    exact ⟨ret_b (by rw [hV.out, hb0, Bool.false_and]), HKA.out.trans hk'⟩
  simp only [Bool.not_true, Bool.not_false]
  have hnx := HN.out hb0
  obtain ⟨n0, n1⟩ := hnx
  have hwn : IntKind.i64.wrap (nx - 1) = nx - 1 := by rw [IntKind.wrap_i64]; omega
  repeat (go_big_quiet_step (first | (go_at_call 16; exact gr_call (unhide HQ1 _)) | (go_at_call 17; exact gr_call (unhide HQ2 _)) | (go_at_call 18; exact gr_call (unhide HQ3 _))))
  cases hb1 : ledgB id L
  · simp only [Bool.not_true, Bool.not_false]
    repeat (go_big_quiet_step (first | (go_at_call 16; exact gr_call (unhide HQ1 _)) | (go_at_call 17; exact gr_call (unhide HQ2 _)) | (go_at_call 18; exact gr_call (unhide HQ3 _))))
    refine wpQuiet_nil ?_
    intro w' hw'
    have hk' := HKr.out.trans (Keeps.of_gr hw')
    clear hw'
    go_wp2_with fail
    go_ret
    exact ⟨ret_b (by rw [hV.out, hb0, hb1, Bool.true_and, Bool.false_and]), HKA.out.trans hk'⟩
  simp only [Bool.not_true, Bool.not_false]
  repeat (go_big_quiet_step (first | (go_at_call 16; exact gr_call (unhide HQ1 _)) | (go_at_call 17; exact gr_call (unhide HQ2 _)) | (go_at_call 18; exact gr_call (unhide HQ3 _))))
  by_cases hq : id = nx - 1
  rotate_left
  · have HQ := hide (decide_eq_false hq)
    have hd : (id != nx - 1) = true := by simpa using hq
    clear hq
    simp only [hd]
    repeat (go_big_quiet_step (first | (go_at_call 16; exact gr_call (unhide HQ1 _)) | (go_at_call 17; exact gr_call (unhide HQ2 _)) | (go_at_call 18; exact gr_call (unhide HQ3 _))))
    refine wpQuiet_nil ?_
    intro w' hw'
    have hk' := HKr.out.trans (Keeps.of_gr hw')
    clear hw'
    go_wp2_with fail
    go_ret
    exact ⟨ret_b (by rw [hV.out, hb0, hb1, HQ.out, Bool.true_and, Bool.true_and, Bool.false_and]), HKA.out.trans hk'⟩
  have HQ := hide hq
  have hd : (id != nx - 1) = false := by simpa using hq
  clear hq
  simp only [hd]
  have hb10 : balV id L 1 0 = balF 1 0 L := balV_ok hb1 (by decide)
  rw [hb10] at HQ3
  clear hb10
  repeat (go_big_quiet_step (first | (go_at_call 16; exact gr_call (unhide HQ1 _)) | (go_at_call 17; exact gr_call (unhide HQ2 _)) | (go_at_call 18; exact gr_call (unhide HQ3 _))))
  refine wpQuiet_nil ?_
  intro w' hw'
  have hk' := HKr.out.trans (Keeps.of_gr hw')
  clear hw'
  by_cases hw : balF 1 0 L = wa
  rotate_left
  · have HW := hide (decide_eq_false hw)
    have hd2 : (balF 1 0 L != wa) = true := by simpa using hw
    clear hw
    go_wp2_with fail
    go_ret
    exact ⟨ret_b (by rw [hV.out, hb0, hb1, decide_eq_true HQ.out, HW.out, Bool.true_and, Bool.true_and, Bool.true_and, Bool.false_and]), HKA.out.trans hk'⟩
  have HW := hide hw
  have hd2 : (balF 1 0 L != wa) = false := by simpa using hw
  clear hw
  simp only [hd2]
  go_wp2_with fail
  have HS2 := hide (HS.out hb0)
  have HK1 := hide hk'
  have HB0 := hide hb0
  have HB1 := hide hb1
  clear hk' q0 q1 q2 q3 q4 q5 l0 l1 HQ1 HQ2 HQ3 HKr hwn hd hd2 hb0 hb1 HS HN hV
  go_loopw [5] (fun y wr => ∃ k : Nat, 1 ≤ k ∧ k ≤ 100 ∧ y = .int .i64 (k : Int) ∧ Hid (∀ j : Nat, 1 ≤ j → j < k → agrAt (⟨tk, nx, wa, C, Hs, R⟩ : Bk) L (j : Int) = true) ∧ Hid (Keeps W1 wr)) (fun y _ => 100 - (intOf y).toNat)
  case atStart => exact ⟨1, by omega, by omega, rfl, fun j h0 h => absurd h (by omega), HK1.out⟩
  case round =>
    obtain ⟨k, hk1, hk2, rfl, HG, HKr⟩ := hrel
    clear HK1
    by_cases hlt : k ≤ 99
    rotate_left
    · have HR : Hid (agrB (⟨tk, nx, wa, C, Hs, R⟩ : Bk) id L = true) := agr_yes HB0.out HB1.out HQ.out HW.out (fun j h0 h1 => HG.out j h0 (by omega))
      go_wp2_with fail
      go_ret
      exact ⟨ret_b HR.out.symm, HKA.out.trans HKr.out⟩
    obtain ⟨b0, b1, b2, b3, b4, b5⟩ := unhide HBA wr HKr.out
    go_wp2_with fail
    refine (unhide H4 (k : Int) wr (HKA.out.trans HKr.out)).mono ?_
    rintro e w2 ⟨rfl, hk⟩
    replace HKr := hide (HKr.out.trans hk)
    clear hk b0 b1 b2 b3 b4 b5
    have HC := hide (unhide H6 w2 (HKA.out.trans HKr.out))
    obtain ⟨lo, hlo⟩ : ∃ lo, locV C (k : Int) = lo := ⟨_, rfl⟩
    have b3 := (unhide HBA w2 HKr.out).2.2.2.1
    have hcut : True := trivial
    rcases hat : atC C (k : Int) with _ | i
    · have hz : lo = 0 := by rw [← hlo, locV_none hat]
      rw [atI_none hat]
      subst hz
      go_upto_region 10 with fail
      have HLO := hide hlo
      clear hlo hat b3
      have q0 := fun t => (unhide HBA _ (HKr.out.trans (gr_keeps w2 t))).1
      have q1 := fun t => (unhide HBA _ (HKr.out.trans (gr_keeps w2 t))).2.1
      have q2 := fun t => (unhide HBA _ (HKr.out.trans (gr_keeps w2 t))).2.2.1
      have q3 := fun t => (unhide HBA _ (HKr.out.trans (gr_keeps w2 t))).2.2.2.1
      have q4 := fun t => (unhide HBA _ (HKr.out.trans (gr_keeps w2 t))).2.2.2.2.1
      have q5 := fun t => (unhide HBA _ (HKr.out.trans (gr_keeps w2 t))).2.2.2.2.2
      have l0 := fun t => (unhide HLA _ (HKr.out.trans (gr_keeps w2 t))).1
      have l1 := fun t => (unhide HLA _ (HKr.out.trans (gr_keeps w2 t))).2
      have HQ6 := hide (fun t => unhide H3 6 (k : Int) (gr w2 t) (HKA.out.trans (HKr.out.trans (gr_keeps w2 t))))
      have HQ7 := hide (fun t => unhide H3 7 (k : Int) (gr w2 t) (HKA.out.trans (HKr.out.trans (gr_keeps w2 t))))
      have HQ8 := hide (fun t => unhide H3 8 (k : Int) (gr w2 t) (HKA.out.trans (HKr.out.trans (gr_keeps w2 t))))
      have HQO := hide (fun t => unhide H5 (k : Int) (gr w2 t) (HKA.out.trans (HKr.out.trans (gr_keeps w2 t))) HS2.out)
      rw [balV_ok (k := 6) HB1.out (accB_ch (Or.inl rfl) hk1 hlt)] at HQ6
      rw [balV_ok (k := 7) HB1.out (accB_ch (Or.inr (Or.inl rfl)) hk1 hlt)] at HQ7
      rw [balV_ok (k := 8) HB1.out (accB_ch (Or.inr (Or.inr rfl)) hk1 hlt)] at HQ8
      have HAT : Hid (agrAt (⟨tk, nx, wa, C, Hs, R⟩ : Bk) L (k : Int) = (decide (balF 6 (k : Int) L = 0) && decide (balF 8 (k : Int) L = outV (⟨tk, nx, wa, C, Hs, R⟩ : Bk) (k : Int)) && decide (balF 7 (k : Int) L = 0))) := by show _ = _; unfold agrAt; rw [HLO.out]
      generalize balF 6 (k : Int) L = x6 at *
      generalize balF 7 (k : Int) L = x7 at *
      generalize balF 8 (k : Int) L = x8 at *
      generalize outV (⟨tk, nx, wa, C, Hs, R⟩ : Bk) (k : Int) = ov at *
      refine region_gr (by kernel_rfl) (by kernel_rfl) ?_
      repeat (go_big_quiet_step (first | (go_at_call 18; exact gr_call (unhide HQ6 _))))
      by_cases h6 : x6 = 0
      rotate_left
      · have HF := hide (decide_eq_false h6)
        have h6d : (x6 != 0) = true := by simpa using h6
        clear h6
        simp only [h6d]
        repeat (go_big_quiet_step (fail))
        refine wpQuiet_nil ?_
        intro w' hw'
        have hk' := HKr.out.trans (Keeps.of_gr hw')
        clear hw'
        go_wp2_with fail
        go_ret
        exact ⟨ret_b (by rw [agr_no hk1 hlt (by rw [HAT.out, HF.out]; simp)]), HKA.out.trans hk'⟩
      have h6h := hide h6
      have h6d : (x6 != 0) = false := by simpa using h6
      clear h6
      simp only [h6d]
      repeat (go_big_quiet_step (first | (go_at_call 18; exact gr_call (unhide HQ8 _)) | (go_at_call 20; exact gr_call (unhide HQO _))))
      by_cases h8 : x8 = ov
      rotate_left
      · have HF := hide (decide_eq_false h8)
        have h8d : (x8 != ov) = true := by simpa using h8
        clear h8
        simp only [h8d]
        repeat (go_big_quiet_step (fail))
        refine wpQuiet_nil ?_
        intro w' hw'
        have hk' := HKr.out.trans (Keeps.of_gr hw')
        clear hw'
        go_wp2_with fail
        go_ret
        exact ⟨ret_b (by rw [agr_no hk1 hlt (by rw [HAT.out, HF.out]; simp)]), HKA.out.trans hk'⟩
      have h8h := hide h8
      have h8d : (x8 != ov) = false := by simpa using h8
      clear h8
      simp only [h8d]
      repeat (go_big_quiet_step (first | (go_at_call 18; exact gr_call (unhide HQ7 _))))
      refine wpQuiet_nil ?_
      intro w' hw'
      have hk' := HKr.out.trans (Keeps.of_gr hw')
      clear hw'
      by_cases h7 : x7 = 0
      rotate_left
      · have HF := hide (decide_eq_false h7)
        have h7d : (x7 != 0) = true := by simpa using h7
        clear h7
        go_wp2_with fail
        go_ret
        exact ⟨ret_b (by rw [agr_no hk1 hlt (by rw [HAT.out, HF.out]; simp)]), HKA.out.trans hk'⟩
      have h7h := hide h7
      have h7d : (x7 != 0) = false := by simpa using h7
      clear h7
      go_wp2_with fail
      go_roundw
      case rel => exact ⟨k + 1, by omega, by omega, by go_num, fun j h0 h => by
                    by_cases e : j = k
                    · subst e; rw [HAT.out, h6h.out, h8h.out, h7h.out]; simp
                    · exact HG.out j h0 (by omega), hk'⟩
      case measure => simp [intOf]; omega
    · obtain ⟨hi, -⟩ := atC_lt hat
      have hz : C[i].lo = lo := by rw [← hlo, locV_some hat hi]
      obtain ⟨b, off, ea, c0, c1, c2, -⟩ := chs_at HC.out i hi
      have HEA := hide ea
      clear ea
      obtain rfl := HEA.out
      rw [hz] at c2
      rw [atI_some hat]
      have hiC : i < C.length := hi
      go_upto_region 10 with fail
      clear c0 c1 c2
      have HLO := hide hlo
      clear hlo hat b3
      have q0 := fun t => (unhide HBA _ (HKr.out.trans (gr_keeps w2 t))).1
      have q1 := fun t => (unhide HBA _ (HKr.out.trans (gr_keeps w2 t))).2.1
      have q2 := fun t => (unhide HBA _ (HKr.out.trans (gr_keeps w2 t))).2.2.1
      have q3 := fun t => (unhide HBA _ (HKr.out.trans (gr_keeps w2 t))).2.2.2.1
      have q4 := fun t => (unhide HBA _ (HKr.out.trans (gr_keeps w2 t))).2.2.2.2.1
      have q5 := fun t => (unhide HBA _ (HKr.out.trans (gr_keeps w2 t))).2.2.2.2.2
      have l0 := fun t => (unhide HLA _ (HKr.out.trans (gr_keeps w2 t))).1
      have l1 := fun t => (unhide HLA _ (HKr.out.trans (gr_keeps w2 t))).2
      have HQ6 := hide (fun t => unhide H3 6 (k : Int) (gr w2 t) (HKA.out.trans (HKr.out.trans (gr_keeps w2 t))))
      have HQ7 := hide (fun t => unhide H3 7 (k : Int) (gr w2 t) (HKA.out.trans (HKr.out.trans (gr_keeps w2 t))))
      have HQ8 := hide (fun t => unhide H3 8 (k : Int) (gr w2 t) (HKA.out.trans (HKr.out.trans (gr_keeps w2 t))))
      have HQO := hide (fun t => unhide H5 (k : Int) (gr w2 t) (HKA.out.trans (HKr.out.trans (gr_keeps w2 t))) HS2.out)
      rw [balV_ok (k := 6) HB1.out (accB_ch (Or.inl rfl) hk1 hlt)] at HQ6
      rw [balV_ok (k := 7) HB1.out (accB_ch (Or.inr (Or.inl rfl)) hk1 hlt)] at HQ7
      rw [balV_ok (k := 8) HB1.out (accB_ch (Or.inr (Or.inr rfl)) hk1 hlt)] at HQ8
      have HAT : Hid (agrAt (⟨tk, nx, wa, C, Hs, R⟩ : Bk) L (k : Int) = (decide (balF 6 (k : Int) L = lo) && decide (balF 8 (k : Int) L = outV (⟨tk, nx, wa, C, Hs, R⟩ : Bk) (k : Int)) && decide (balF 7 (k : Int) L = 0))) := by show _ = _; unfold agrAt; rw [HLO.out]
      generalize balF 6 (k : Int) L = x6 at *
      generalize balF 7 (k : Int) L = x7 at *
      generalize balF 8 (k : Int) L = x8 at *
      generalize outV (⟨tk, nx, wa, C, Hs, R⟩ : Bk) (k : Int) = ov at *
      refine region_gr (by kernel_rfl) (by kernel_rfl) ?_
      repeat (go_big_quiet_step (first | (go_at_call 18; exact gr_call (unhide HQ6 _))))
      by_cases h6 : x6 = lo
      rotate_left
      · have HF := hide (decide_eq_false h6)
        have h6d : (x6 != lo) = true := by simpa using h6
        clear h6
        simp only [h6d]
        repeat (go_big_quiet_step (fail))
        refine wpQuiet_nil ?_
        intro w' hw'
        have hk' := HKr.out.trans (Keeps.of_gr hw')
        clear hw'
        go_wp2_with fail
        go_ret
        exact ⟨ret_b (by rw [agr_no hk1 hlt (by rw [HAT.out, HF.out]; simp)]), HKA.out.trans hk'⟩
      have h6h := hide h6
      have h6d : (x6 != lo) = false := by simpa using h6
      clear h6
      simp only [h6d]
      repeat (go_big_quiet_step (first | (go_at_call 18; exact gr_call (unhide HQ8 _)) | (go_at_call 20; exact gr_call (unhide HQO _))))
      by_cases h8 : x8 = ov
      rotate_left
      · have HF := hide (decide_eq_false h8)
        have h8d : (x8 != ov) = true := by simpa using h8
        clear h8
        simp only [h8d]
        repeat (go_big_quiet_step (fail))
        refine wpQuiet_nil ?_
        intro w' hw'
        have hk' := HKr.out.trans (Keeps.of_gr hw')
        clear hw'
        go_wp2_with fail
        go_ret
        exact ⟨ret_b (by rw [agr_no hk1 hlt (by rw [HAT.out, HF.out]; simp)]), HKA.out.trans hk'⟩
      have h8h := hide h8
      have h8d : (x8 != ov) = false := by simpa using h8
      clear h8
      simp only [h8d]
      repeat (go_big_quiet_step (first | (go_at_call 18; exact gr_call (unhide HQ7 _))))
      refine wpQuiet_nil ?_
      intro w' hw'
      have hk' := HKr.out.trans (Keeps.of_gr hw')
      clear hw'
      by_cases h7 : x7 = 0
      rotate_left
      · have HF := hide (decide_eq_false h7)
        have h7d : (x7 != 0) = true := by simpa using h7
        clear h7
        go_wp2_with fail
        go_ret
        exact ⟨ret_b (by rw [agr_no hk1 hlt (by rw [HAT.out, HF.out]; simp)]), HKA.out.trans hk'⟩
      have h7h := hide h7
      have h7d : (x7 != 0) = false := by simpa using h7
      clear h7
      go_wp2_with fail
      go_roundw
      case rel => exact ⟨k + 1, by omega, by omega, by go_num, fun j h0 h => by
                    by_cases e : j = k
                    · subst e; rw [HAT.out, h6h.out, h8h.out, h7h.out]; simp
                    · exact HG.out j h0 (by omega), hk'⟩
      case measure => simp [intOf]; omega
end Go.Proofs.Ytfbkhnbbcbccfaa
