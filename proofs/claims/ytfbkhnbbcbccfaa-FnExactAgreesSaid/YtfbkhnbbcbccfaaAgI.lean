/- The program's Agrees. -/
import Derived.Test.YtfbkhnbbcbccfaaAgS
import Derived.Test.YtfbkhnbbcbccfaaBkF
import Derived.Test.YtfbkhnbbcbccfaaJour3
namespace Go.Proofs.Ytfbkhnbbcbccfaa
open Go.RowKit Go.Deep
set_option linter.unusedVariables false
set_option linter.unusedSimpArgs false
set_option maxRecDepth 10000

set_option maxHeartbeats 2000000 in
theorem local_impl (B : Bo) (ch : Int) (w : World) (hm : Mem w B.segs) (hl : B.len) : Calls Try.prog 29 #[B.v, .int .i64 ch] w fun e w' => e = .returned (.int .i64 (locV B.C ch)) ∧ Keeps w w' := by
  have H2 := hide (fun p w' (hk : Keeps w w') hp => channel_impl p B.ca B.cc B.C ch w' hp (Bo.memC (hm.kept hk)) hl.1)
  have H3 := hide (fun w' (hk : Keeps w w') => Bo.memC (hm.kept hk))
  have hCl := hl.1
  obtain ⟨tk, nx, wa, ca, cc, C, ha, hc, Hs, ra, rc, R⟩ := B
  dsimp only [Bo.d, Bo.v] at *
  have HBA := hide (rowc6 w (.int .i64 tk) (.int .i64 nx) (.int .i64 wa) (.slice ca C.length cc) (.slice ha Hs.length hc) (.slice ra R.length rc) 37)
  have HKB := hide (Keeps.alloc (Keeps.refl w) (.cells #[.int .i64 tk, .int .i64 nx, .int .i64 wa, .slice ca C.length cc, .slice ha Hs.length hc, .slice ra R.length rc] 37))
  clear hm hl
  go_enter Try.func29, Try.ntmps29
  go_upto_region 1 with fail
  generalize w.alloc (.cells #[.int .i64 tk, .int .i64 nx, .int .i64 wa, .slice ca C.length cc, .slice ha Hs.length hc, .slice ra R.length rc] 37) = W0 at *
  have b3 := (unhide HBA W0 (Keeps.refl _)).2.2.2.1
  go_wp2_with fail
  refine (unhide H2 w.heap.size W0 HKB.out b3).mono ?_
  rintro e w3 ⟨rfl, hw⟩
  obtain rfl := Eq.symm hw
  clear hw
  have HC := hide (unhide H3 W0 HKB.out)
  rcases placeC_at HC.out ch with ⟨h1, q⟩ | ⟨b, off, k, h1, hat, ea, q⟩
  · have hno : atC C ch = none := by
      have := hasC_at C ch
      rw [h1] at this
      cases h : atC C ch with
      | none => rfl
      | some k => rw [h] at this; simp at this
    have HQ := hide (locV_none hno)
    rw [q]
    clear hno h1 q
    go_wp2_with fail
    go_ret
    exact ⟨ret_i HQ.out.symm, HKB.out⟩
  · obtain ⟨hk, -⟩ := atC_lt hat
    obtain ⟨b', off', ea', c0, c1, c2, -⟩ := chs_at HC.out k hk
    rw [ea] at ea'
    have ea2 := Option.some.inj ea'
    injection ea2 with e1 e2
    subst e1 e2
    have HQ := hide (locV_some hat hk)
    rw [q]
    clear hat h1 q ea ea' HC c0 c1
    generalize C[k].lo = lo at *
    go_wp2_with fail
    go_ret
    exact ⟨ret_i HQ.out.symm, HKB.out⟩
set_option maxHeartbeats 16000000 in
theorem agrees_impl (B : Bo) (id : Int) (la : Option Addr) (lc : Nat) (L : List Ln) (w : World) (hm : Mem w B.segs) (hl : B.len) (hlz : Cells w la (flat L)) (hll : L.length ≤ 1048576) :
    Calls Try.prog 9 #[B.v, .agg #[.int .i64 id, .slice la L.length lc]] w fun e w' => e = .returned (.bool (agrB B.d id L)) ∧ Keeps w w' := by
  have H1 := hide (fun w' (hk : Keeps w w') => bookok_impl B w' (hm.kept hk) hl)
  have H2 := hide (fun w' (hk : Keeps w w') => impl_ledger id la lc L w' (hlz.kept hk) hll)
  have H3 := hide (fun w' (hk : Keeps w w') (h : linesB L = true) => jour_impl id la lc L w' (hlz.kept hk) (lines_good h) (lines_mem_range h))
  have H4 := hide (fun ch w' (hk : Keeps w w') => local_impl B ch w' (hm.kept hk) hl)
  have H5 := hide (fun ch w' (hk : Keeps w w') hs => under_impl B ch w' (hm.kept hk) hl hs)
  have HS := hide (book_small (B := B.d))
  have HN := hide (book_next (B := B.d))
  obtain ⟨tk, nx, wa, ca, cc, C, ha, hc, Hs, ra, rc, R⟩ := B
  dsimp only [Bo.d, Bo.v] at *
  have HBA := hide (rowc6 w (.int .i64 tk) (.int .i64 nx) (.int .i64 wa) (.slice ca C.length cc) (.slice ha Hs.length hc) (.slice ra R.length rc) 37)
  have hz : (w.alloc (.cells #[.int .i64 tk, .int .i64 nx, .int .i64 wa, .slice ca C.length cc, .slice ha Hs.length hc, .slice ra R.length rc] 37)).heap.size = w.heap.size + 1 := by simp
  have HLA := hide (cellA' (w.alloc (.cells #[.int .i64 tk, .int .i64 nx, .int .i64 wa, .slice ca C.length cc, .slice ha Hs.length hc, .slice ra R.length rc] 37)) (.int .i64 id) (.slice la L.length lc) 41)
  rw [hz] at HLA
  have HKB := hide (Keeps.alloc (Keeps.refl w) (.cells #[.int .i64 tk, .int .i64 nx, .int .i64 wa, .slice ca C.length cc, .slice ha Hs.length hc, .slice ra R.length rc] 37))
  have HKL := hide (Keeps.alloc (Keeps.refl (w.alloc (.cells #[.int .i64 tk, .int .i64 nx, .int .i64 wa, .slice ca C.length cc, .slice ha Hs.length hc, .slice ra R.length rc] 37))) (.cells #[.int .i64 id, .slice la L.length lc] 41))
  clear hz hm hl hlz hll
  go_enter Try.func9, Try.ntmps9
  go_upto_region 1 with fail
  generalize w.alloc (.cells #[.int .i64 tk, .int .i64 nx, .int .i64 wa, .slice ca C.length cc, .slice ha Hs.length hc, .slice ra R.length rc] 37) = W0 at *
  generalize W0.alloc (.cells #[.int .i64 id, .slice la L.length lc] 41) = W1 at *
  have HKA := hide (HKB.out.trans HKL.out)
  replace HBA := hide (fun w' (hk : Keeps W1 w') => unhide HBA w' (HKL.out.trans hk))
  clear HKB HKL
  have HKr := hide (Keeps.refl W1)
  have hV : Hid (agrB (⟨tk, nx, wa, C, Hs, R⟩ : Bk) id L = (bookB (⟨tk, nx, wa, C, Hs, R⟩ : Bk) && (ledgB id L && (decide (id = nx - 1) && (decide (balF 1 0 L = wa) && (List.range 99).all fun j => agrAt (⟨tk, nx, wa, C, Hs, R⟩ : Bk) L ((j : Int) + 1)))))) := rfl
  obtain ⟨b0, b1, b2, b3, b4, b5⟩ := unhide HBA W1 HKr.out
  obtain ⟨l0, l1⟩ := unhide HLA W1 HKr.out
  go_wp2_with fail
  refine (unhide H1 W1 (HKA.out.trans HKr.out)).mono ?_
  rintro e w2 ⟨rfl, hk⟩
  replace HKr := hide (HKr.out.trans hk)
  clear hk
  clear b0 b1 b2 b3 b4 b5 l0 l1
  obtain ⟨b0, b1, b2, b3, b4, b5⟩ := unhide HBA w2 HKr.out
  obtain ⟨l0, l1⟩ := unhide HLA w2 HKr.out
  cases hb0 : bookB (⟨tk, nx, wa, C, Hs, R⟩ : Bk)
  · go_wp2_with fail
    go_ret
    exact ⟨ret_b (by rw [hV.out, hb0, Bool.false_and]), HKA.out.trans HKr.out⟩
  have hnx := HN.out hb0
  obtain ⟨n0, n1⟩ := hnx
  go_wp2_with fail
  refine (unhide H2 w2 (HKA.out.trans HKr.out)).mono ?_
  rintro e w3 ⟨rfl, hk⟩
  replace HKr := hide (HKr.out.trans hk)
  clear hk
  clear b0 b1 b2 b3 b4 b5 l0 l1
  obtain ⟨b0, b1, b2, b3, b4, b5⟩ := unhide HBA w3 HKr.out
  obtain ⟨l0, l1⟩ := unhide HLA w3 HKr.out
  cases hb1 : ledgB id L
  · go_wp2_with fail
    go_ret
    exact ⟨ret_b (by rw [hV.out, hb0, hb1, Bool.true_and, Bool.false_and]), HKA.out.trans HKr.out⟩
  by_cases hq : id = nx - 1
  rotate_left
  · have HQ := hide (decide_eq_false hq)
    have hd : (id != nx - 1) = true := by simpa using hq
    clear hq
    go_wp2_with fail
    go_ret
    exact ⟨ret_b (by rw [hV.out, hb0, hb1, HQ.out, Bool.true_and, Bool.true_and, Bool.false_and]), HKA.out.trans HKr.out⟩
  have HQ := hide hq
  have hd : (id != nx - 1) = false := by simpa using hq
  clear hq
  go_wp2_with fail
  refine (unhide H3 w3 (HKA.out.trans HKr.out) (ledgB_lines hb1).1).mono ?_
  rintro e w4 ⟨⟨bj, D, rfl, hO, hR, hbj⟩, hk⟩
  replace HKr := hide (HKr.out.trans hk)
  have HLK : Hid (∀ w', Keeps w4 w' → ∀ k c, accB k c = true → (Instr.lookup 62 (.map (some bj)) (.agg #[.int .i64 k, .int .i64 c]) false).run Try.prog w' = .ok (.int .i64 (balF k c L)) w') :=
    fun w' hk k c hx => look_run (World.ownsMap.kept hO (hk.grownJ (row := none)) (by simp)) hR hx
  have HK4 := hide (Keeps.refl w4)
  clear hk hO hR hbj hd
  clear b0 b1 b2 b3 b4 b5 l0 l1
  have hfd : (Instr.field 64 (.agg #[.int .i64 id, .map (some bj)]) 1).run Try.prog w4 = .ok (.map (some bj)) w4 := by kernel_rfl
  go_upto_region 4 with fail
  clear hfd
  have q2 := fun t => (unhide HBA _ (HKr.out.trans (gr_keeps w4 t))).2.2.1
  have lk := fun t => HLK.out (gr w4 t) (gr_keeps w4 t) 1 0 (by decide)
  generalize hx1 : balF 1 0 L = x1 at lk
  have HX1 := hide hx1
  clear hx1
  refine region_gr (by kernel_rfl) (by kernel_rfl) ?_
  repeat (go_big_quiet_step (fail))
  refine wpQuiet_nil ?_
  intro w' hw'
  have hk' := Keeps.of_gr hw'
  replace HKr := hide (HKr.out.trans hk')
  clear hw' q2 lk
  by_cases hw : x1 = wa
  rotate_left
  · have HW := hide (decide_eq_false hw)
    have hd2 : (x1 != wa) = true := by simpa using hw
    clear hw
    go_wp2_with fail
    go_ret
    exact ⟨ret_b (by rw [hV.out, hb0, hb1, decide_eq_true HQ.out, HX1.out, HW.out]; rfl), HKA.out.trans HKr.out⟩
  have HW := hide (HX1.out.trans hw)
  have hd2 : (x1 != wa) = false := by simpa using hw
  clear hw
  simp only [hd2]
  go_wp2_with fail
  have HS2 := hide (HS.out hb0)
  have HB0 := hide hb0
  have HB1 := hide hb1
  have HK5 := hide hk'
  clear hk' hd2 hb0 hb1 HS HN hV HX1 HK4
  go_loopw [6] (fun y wr => ∃ k : Nat, 1 ≤ k ∧ k ≤ 100 ∧ y = .int .i64 (k : Int) ∧ Hid (∀ j : Nat, 1 ≤ j → j < k → agrAt (⟨tk, nx, wa, C, Hs, R⟩ : Bk) L (j : Int) = true) ∧ Hid (Keeps W1 wr) ∧ Hid (Keeps w4 wr)) (fun y _ => 100 - (intOf y).toNat)
  case atStart => exact ⟨1, by omega, by omega, rfl, fun j h0 h => absurd h (by omega), HKr.out, HK5.out⟩
  case round =>
    clear HKr HK5
    obtain ⟨k, hk1, hk2, rfl, HG, HKr, HKw⟩ := hrel
    by_cases hlt : k ≤ 99
    rotate_left
    · have HR : Hid (agrB (⟨tk, nx, wa, C, Hs, R⟩ : Bk) id L = true) := agr_yes HB0.out HB1.out HQ.out HW.out (fun j h0 h1 => HG.out j h0 (by omega))
      go_wp2_with fail
      go_ret
      exact ⟨ret_b HR.out.symm, HKA.out.trans HKr.out⟩
    obtain ⟨b0, b1, b2, b3, b4, b5⟩ := unhide HBA wr HKr.out
    go_wp2_with fail
    refine (unhide H5 (k : Int) wr (HKA.out.trans HKr.out) HS2.out).mono ?_
    rintro e w2' ⟨rfl, hk⟩
    replace HKr := hide (HKr.out.trans hk)
    replace HKw := hide (HKw.out.trans hk)
    clear hk b0 b1 b2 b3 b4 b5
    have HAT : Hid (agrAt (⟨tk, nx, wa, C, Hs, R⟩ : Bk) L (k : Int) = (decide (balF 6 (k : Int) L = locV C (k : Int)) && decide (balF 8 (k : Int) L = outV (⟨tk, nx, wa, C, Hs, R⟩ : Bk) (k : Int)) && decide (balF 7 (k : Int) L = 0))) := rfl
    have lk6 := fun t => HLK.out (gr w2' t) (HKw.out.trans (gr_keeps w2' t)) 6 (k : Int) (accB_ch (Or.inl rfl) hk1 hlt)
    have lk8 := fun t => HLK.out (gr w2' t) (HKw.out.trans (gr_keeps w2' t)) 8 (k : Int) (accB_ch (Or.inr (Or.inr rfl)) hk1 hlt)
    have HL7 := hide (fun w' hk => HLK.out w' hk 7 (k : Int) (accB_ch (Or.inr (Or.inl rfl)) hk1 hlt))
    have HQ4 := hide (fun t => unhide H4 (k : Int) (gr w2' t) (HKA.out.trans (HKr.out.trans (gr_keeps w2' t))))
    generalize balF 6 (k : Int) L = x6 at *
    generalize balF 7 (k : Int) L = x7 at *
    generalize balF 8 (k : Int) L = x8 at *
    generalize outV (⟨tk, nx, wa, C, Hs, R⟩ : Bk) (k : Int) = ov at *
    generalize inV (⟨tk, nx, wa, C, Hs, R⟩ : Bk) (k : Int) = iv at *
    generalize locV C (k : Int) = lo at *
    go_upto_region 10 with fail
    have q0 := fun t => (unhide HBA _ (HKr.out.trans (gr_keeps w2' t))).1
    have q1 := fun t => (unhide HBA _ (HKr.out.trans (gr_keeps w2' t))).2.1
    have q2 := fun t => (unhide HBA _ (HKr.out.trans (gr_keeps w2' t))).2.2.1
    have q3 := fun t => (unhide HBA _ (HKr.out.trans (gr_keeps w2' t))).2.2.2.1
    have q4 := fun t => (unhide HBA _ (HKr.out.trans (gr_keeps w2' t))).2.2.2.2.1
    have q5 := fun t => (unhide HBA _ (HKr.out.trans (gr_keeps w2' t))).2.2.2.2.2
    refine region_gr (by kernel_rfl) (by kernel_rfl) ?_
    repeat (go_big_quiet_step (first | (go_at_call 29; exact gr_call (unhide HQ4 _))))
    by_cases h6 : x6 = lo
    rotate_left
    · have HF := hide (decide_eq_false h6)
      have h6d : (x6 != lo) = true := by simpa using h6
      clear h6
      simp only [h6d]
      repeat (go_big_quiet_step (first | (go_at_call 29; exact gr_call (unhide HQ4 _))))
      refine wpQuiet_nil ?_
      intro w' hw'
      have hk' := HKr.out.trans (Keeps.of_gr hw')
      clear hw'
      go_wp2_with fail
      go_ret
      exact ⟨ret_b (by rw [agr_no hk1 hlt (by rw [HAT.out, HF.out]; simp)]), HKA.out.trans hk'⟩
    have h6h := hide h6
    have h6d : (x6 != lo) = false := by simpa using h6
    clear h6
    simp only [h6d]
    repeat (go_big_quiet_step (first | (go_at_call 29; exact gr_call (unhide HQ4 _))))
    refine wpQuiet_nil ?_
    intro w' hw'
    have hg' := Keeps.of_gr hw'
    have hk' := HKr.out.trans hg'
    have lk7 := unhide HL7 w' (HKw.out.trans hg')
    clear hw' lk6 lk8 q0 q1 q2 q3 q4 q5
    by_cases h8 : x8 = ov
    rotate_left
    · have HF := hide (decide_eq_false h8)
      have h8d : (x8 != ov) = true := by simpa using h8
      clear h8
      go_wp2_with fail
      go_ret
      exact ⟨ret_b (by rw [agr_no hk1 hlt (by rw [HAT.out, HF.out]; simp)]), HKA.out.trans hk'⟩
    have h8h := hide h8
    have h8d : (x8 != ov) = false := by simpa using h8
    clear h8
    by_cases h7 : x7 = 0
    rotate_left
    · have HF := hide (decide_eq_false h7)
      have h7d : (x7 != 0) = true := by simpa using h7
      clear h7
      go_wp2_with fail
      go_ret
      exact ⟨ret_b (by rw [agr_no hk1 hlt (by rw [HAT.out, HF.out]; simp)]), HKA.out.trans hk'⟩
    have h7h := hide h7
    have h7d : (x7 != 0) = false := by simpa using h7
    clear h7
    have hkw' := HKw.out.trans hg'
    have HKW' := hide hkw'
    clear hkw' hg'
    go_wp2_with fail
    go_roundw
    case rel => exact ⟨k + 1, by omega, by omega, by go_num, fun j h0 h => by
                  by_cases e : j = k
                  · subst e; rw [HAT.out, h6h.out, h8h.out, h7h.out]; simp
                  · exact HG.out j h0 (by omega), hk', HKW'.out⟩
    case measure => simp [intOf]; omega
end Go.Proofs.Ytfbkhnbbcbccfaa
