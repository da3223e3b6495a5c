/- LogOpen of the model. -/
import Derived.Test.YtkdnddckogbgaaaGreatDoorFO21
import Derived.Test.YtkdnddckogbgaaaGreatDoorFO29
import Derived.Test.YtkdnddckogbgaaaGreatDoorFO31
import Derived.Test.YtkdnddckogbgaaaGreatDoorFO8
namespace Go.Proofs.YtkdnddckogbgaaaGreatDoor
open Go.RowKit Go.Deep
set_option linter.unusedVariables false
set_option maxRecDepth 10000

set_option maxHeartbeats 8000000 in
theorem logopen_spec (ca : Option Addr) (cc : Nat) (cs : List Bs) (da : Option Addr) (dc : Nat) (ds : List Wr) (w : World) (hm : Mem w (dsk ca cs da ds)) (h : DOk cs ds) :
    Calls Tryz.prog 17 #[dskV ca cs.length cc da ds.length dc] w (OpPost w (dat cs ds)) := by
  have HKA := hide (Keeps.alloc (Keeps.alloc (Keeps.refl w) (.cells #[.slice ca cs.length cc, .slice da ds.length dc] 26)) (.cells #[.slice none 0 0, .slice none 0 0, .int .i64 0, .int .i64 0] 28))
  have HM := hide (hm.kept HKA.out)
  have HDO := hide h
  have hcl := h.c
  have hdl := h.d
  have HLC : Hid ((dat cs ds).cells.length = cs.length ∧ (dat cs ds).dirty.length = ds.length) := by show _ ∧ _; simp [dat]
  have HR := hide (row_new (w.alloc (.cells #[.slice ca cs.length cc, .slice da ds.length dc] 26)) #[.slice none 0 0, .slice none 0 0, .int .i64 0, .int .i64 0] 28)
  have HS : Hid ((w.alloc (.cells #[.slice ca cs.length cc, .slice da ds.length dc] 26)).heap.size = w.heap.size + 1 ∧ ((w.alloc (.cells #[.slice ca cs.length cc, .slice da ds.length dc] 26)).alloc (.cells #[.slice none 0 0, .slice none 0 0, .int .i64 0, .int .i64 0] 28)).heap.size = w.heap.size + 1 + 1) := by show _ ∧ _; exact ⟨by simp, by simp⟩
  rw [HS.out.1] at HR
  have HD : Hid (∀ w', Keeps ((w.alloc (.cells #[.slice ca cs.length cc, .slice da ds.length dc] 26)).alloc (.cells #[.slice none 0 0, .slice none 0 0, .int .i64 0, .int .i64 0] 28)) w' → w'.cell? ⟨w.heap.size, 0, none⟩ = some (.slice ca cs.length cc) ∧ w'.cell? ⟨w.heap.size, 1, none⟩ = some (.slice da ds.length dc)) :=
    fun w' hk => ⟨hk.cell (by simp), hk.cell (by simp)⟩
  have HT := hide (diskok_spec' ca cc cs da dc ds _ HM.out h)
  obtain ⟨b, hbb⟩ : ∃ b, dokM (dat cs ds) = b := ⟨_, rfl⟩
  rw [hbb] at HT
  have HBB := hide hbb
  clear hm h hbb
  obtain ⟨d0, d1⟩ := HD.out _ (Keeps.refl _)
  go_enter Tryz.func17, Tryz.ntmps17
  go_wp2_with fail
  have HSz := hide HS.out.2
  generalize ((w.alloc (.cells #[.slice ca cs.length cc, .slice da ds.length dc] 26)).alloc (.cells #[.slice none 0 0, .slice none 0 0, .int .i64 0, .int .i64 0] 28)) = W0 at *
  refine (unhide HT).mono ?_
  rintro x w1 ⟨rfl, hk⟩
  clear d0 d1 HT HS
  obtain ⟨d0, d1⟩ := HD.out _ hk
  replace HR := hide (hk.row HR.out)
  have HK1 := hide hk
  have hz : w.heap.size + 1 + 1 ≤ w1.heap.size := by have := hk.size; have := HSz.out; omega
  have q0 := HR.out.cell (i := 0) (by decide)
  have q1 := HR.out.cell (i := 1) (by decide)
  have q2 := HR.out.cell (i := 2) (by decide)
  have q3 := HR.out.cell (i := 3) (by decide)
  have g0 := HR.out.frozen 0
  have g1 := HR.out.frozen 1
  have g2 := HR.out.frozen 2
  have g3 := HR.out.frozen 3
  simp only [Array.getD] at q0 q1 q2 q3
  simp at q0 q1 q2 q3
  clear hk
  cases b
  · go_wp2_with fail
    have r9 := ((((HR.out.set 0 (.slice none 0 0)).set 1 (.slice none 0 0)).set 2 (.int .i64 0)).set 3 (.int .i64 0))
    have c0 := r9.cell (i := 0) (by decide)
    have c1 := r9.cell (i := 1) (by decide)
    have c2 := r9.cell (i := 2) (by decide)
    have c3 := r9.cell (i := 3) (by decide)
    simp at c0 c1 c2 c3
    have HSs : Hid (Turn [w.heap.size + 1] w1 ((((w1.setCell ⟨w.heap.size + 1, 0, none⟩ (.slice none 0 0)).setCell ⟨w.heap.size + 1, 1, none⟩ (.slice none 0 0)).setCell ⟨w.heap.size + 1, 2, none⟩ (.int .i64 0)).setCell ⟨w.heap.size + 1, 3, none⟩ (.int .i64 0))) := ((((Turn.set (by simp) _).trans' (Turn.set (by simp) _)).trans' (Turn.set (by simp) _)).trans' (Turn.set (by simp) _))
    clear r9 HR q0 q1 q2 q3 g0 g1 g2 g3
    revert c0 c1 c2 c3 HSs
    generalize World.setCell _ _ _ = W
    intro c0 c1 c2 c3 HSs
    have HKF : Hid (Keeps w W) := HSs.out.keeps (HKA.out.trans HK1.out) (fun b hb => by simp at hb; omega)
    refine bodyPost_ret (v := .tuple #[.agg #[.slice none 0 0, .slice none 0 0, .int .i64 0, .int .i64 0], .slice none 0 0, .int .i64 1]) ?_ rfl (OpPost.no (opC_one (by rw [HBB.out]; rfl)) (by decide) HKF.out)
    simp [results, Tryz.results17, go_sem, c0, c1, c2, c3]
  · have hle := (dokM_len HBB.out)
    rw [HLC.out.1, HLC.out.2] at hle
    by_cases hd0 : ds.length = 0
    · have hd0' : ¬ ((0 : Int) < (ds.length : Int)) := by omega
      have HDZ := hide hd0
      have hq0 : decide ((0 : Int) < (ds.length : Int)) = false := decide_eq_false hd0'
      clear hd0
      have HT := hide (logread_spec ca cc cs da dc ds w1 (HM.out.kept HK1.out) HDO.out)
      go_wp2_with fail
      refine (unhide HT).mono ?_
      rintro x w2 ⟨oa, oc, nb, rfl, hkey, hna, hb, hk⟩
      clear d0 d1 q0 q1 q2 q3 g0 g1 g2 g3 HT hkey hna hb
      obtain ⟨d0, d1⟩ := HD.out _ (HK1.out.trans hk)
      replace HR := hide (hk.row HR.out)
      have HK2 := hide (HK1.out.trans hk)
      replace hz : w.heap.size + 1 + 1 ≤ w2.heap.size := by have := hk.size; omega
      clear hk
      have HT := hide (logtop_spec ca cc cs da dc ds w2 (HM.out.kept HK2.out) HDO.out)
      have htb := topM_bound (dat cs ds)
      have hlb : logN (dat cs ds) ≤ cs.length := by rw [← HLC.out.1]; exact logTo_le _ _
      have HNd : Hid (∀ h2 : ¬ (logN (dat cs ds) = cs.length ∨ topM (dat cs ds) = 16000000), opC (dat cs ds) = 0 ∧ dokM (opW (dat cs ds)) = true) := fun h2 => by
        rw [← HLC.out.1] at h2
        have hd : (dat cs ds).dirty.length = 0 := by rw [HLC.out.2]; exact HDZ.out
        exact ⟨opC_zero HBB.out hd h2, opW_ok HBB.out hd h2⟩
      have HNt : Hid (∀ h2 : logN (dat cs ds) = cs.length ∨ topM (dat cs ds) = 16000000, opC (dat cs ds) = 2) := fun h2 => by
        rw [← HLC.out.1] at h2
        exact opC_two HBB.out (by rw [HLC.out.2]; exact HDZ.out) h2
      obtain ⟨tp, htp⟩ : ∃ tp, topM (dat cs ds) = tp := ⟨_, rfl⟩
      obtain ⟨ln, hln⟩ : ∃ ln, logN (dat cs ds) = ln := ⟨_, rfl⟩
      have HTP := hide htp
      have HLN := hide hln
      rw [htp] at HT htb HNd HNt
      rw [hln] at hlb HNd HNt
      rw [hln]
      clear htp hln
      go_wp2_with fail
      refine (unhide HT).mono ?_
      rintro x w3 ⟨rfl, hk⟩
      clear d0 d1 HT
      obtain ⟨d0, d1⟩ := HD.out _ (HK2.out.trans hk)
      replace HR := hide (hk.row HR.out)
      have HK3 := hide (HK2.out.trans hk)
      replace hz : w.heap.size + 1 + 1 ≤ w3.heap.size := by have := hk.size; omega
      have q0 := HR.out.cell (i := 0) (by decide)
      have q1 := HR.out.cell (i := 1) (by decide)
      have q2 := HR.out.cell (i := 2) (by decide)
      have q3 := HR.out.cell (i := 3) (by decide)
      have g0 := HR.out.frozen 0
      have g1 := HR.out.frozen 1
      have g2 := HR.out.frozen 2
      have g3 := HR.out.frozen 3
      simp only [Array.getD] at q0 q1 q2 q3
      simp at q0 q1 q2 q3
      clear hk
      by_cases h1 : (ln : Int) = (cs.length : Int)
      · go_wp2_with fail
        have r9 := ((((HR.out.set 0 (.slice none 0 0)).set 1 (.slice none 0 0)).set 2 (.int .i64 0)).set 3 (.int .i64 0))
        have c0 := r9.cell (i := 0) (by decide)
        have c1 := r9.cell (i := 1) (by decide)
        have c2 := r9.cell (i := 2) (by decide)
        have c3 := r9.cell (i := 3) (by decide)
        simp at c0 c1 c2 c3
        have HSs : Hid (Turn [w.heap.size + 1] w3 ((((w3.setCell ⟨w.heap.size + 1, 0, none⟩ (.slice none 0 0)).setCell ⟨w.heap.size + 1, 1, none⟩ (.slice none 0 0)).setCell ⟨w.heap.size + 1, 2, none⟩ (.int .i64 0)).setCell ⟨w.heap.size + 1, 3, none⟩ (.int .i64 0))) := ((((Turn.set (by simp) _).trans' (Turn.set (by simp) _)).trans' (Turn.set (by simp) _)).trans' (Turn.set (by simp) _))
        clear r9 HR q0 q1 q2 q3 g0 g1 g2 g3
        revert c0 c1 c2 c3 HSs
        generalize World.setCell _ _ _ = W
        intro c0 c1 c2 c3 HSs
        have HKF : Hid (Keeps w W) := HSs.out.keeps (HKA.out.trans HK3.out) (fun b hb => by simp at hb; omega)
        refine bodyPost_ret (v := .tuple #[.agg #[.slice none 0 0, .slice none 0 0, .int .i64 0, .int .i64 0], .slice none 0 0, .int .i64 2]) ?_ rfl (OpPost.no (HNt.out (.inl (by omega))) (by decide) HKF.out)
        simp [results, Tryz.results17, go_sem, c0, c1, c2, c3]
      · have hq1 : ((ln : Int) == (cs.length : Int)) = false := beq_eq_false_iff_ne.2 h1
        by_cases h2 : tp = 16000000
        · have HQ2 := hide h2
          have hq2 : (tp == 16000000) = true := by simp [h2]
          clear h2
          go_wp2_with fail
          have r9 := ((((HR.out.set 0 (.slice none 0 0)).set 1 (.slice none 0 0)).set 2 (.int .i64 0)).set 3 (.int .i64 0))
          have c0 := r9.cell (i := 0) (by decide)
          have c1 := r9.cell (i := 1) (by decide)
          have c2 := r9.cell (i := 2) (by decide)
          have c3 := r9.cell (i := 3) (by decide)
          simp at c0 c1 c2 c3
          have HSs : Hid (Turn [w.heap.size + 1] w3 ((((w3.setCell ⟨w.heap.size + 1, 0, none⟩ (.slice none 0 0)).setCell ⟨w.heap.size + 1, 1, none⟩ (.slice none 0 0)).setCell ⟨w.heap.size + 1, 2, none⟩ (.int .i64 0)).setCell ⟨w.heap.size + 1, 3, none⟩ (.int .i64 0))) := ((((Turn.set (by simp) _).trans' (Turn.set (by simp) _)).trans' (Turn.set (by simp) _)).trans' (Turn.set (by simp) _))
          clear r9 HR q0 q1 q2 q3 g0 g1 g2 g3
          revert c0 c1 c2 c3 HSs
          generalize World.setCell _ _ _ = W
          intro c0 c1 c2 c3 HSs
          have HKF : Hid (Keeps w W) := HSs.out.keeps (HKA.out.trans HK3.out) (fun b hb => by simp at hb; omega)
          refine bodyPost_ret (v := .tuple #[.agg #[.slice none 0 0, .slice none 0 0, .int .i64 0, .int .i64 0], .slice none 0 0, .int .i64 2]) ?_ rfl (OpPost.no (HNt.out (.inr HQ2.out)) (by decide) HKF.out)
          simp [results, Tryz.results17, go_sem, c0, c1, c2, c3]
        · have hq2 : (tp == 16000000) = false := beq_eq_false_iff_ne.2 h2
          obtain ⟨hc0, hwok⟩ := HNd.out (fun hx => by omega)
          have HC0 := hide hc0
          have HWOK := hide hwok
          clear hc0 hwok
          have hkB := Keeps.alloc (Keeps.refl w3) (.cells #[.int .u8 66] 5)
          have HT := hide (secbytes_spec (ln : Int) (tp + 1) (some ⟨w3.heap.size, 0, none⟩) 1 [66] (w3.alloc (.cells #[.int .u8 66] 5)) (bys_B w3) (fun e => nomatch e) (by decide))
          clear d0 d1 q0 q1 q2 q3 g0 g1 g2 g3
          obtain ⟨d0, d1⟩ := HD.out _ HK3.out
          go_wp2_with fail
          refine (unhide HT).mono ?_
          rintro x w4 ⟨v, rfl, ho, hk⟩
          obtain ⟨sa, sc, rfl, hsn, hbo⟩ := Born.of_owns ho
          clear d0 d1 HT ho
          have HK4 := hide ((HK3.out.trans hkB).trans hk)
          obtain ⟨d0, d1⟩ := HD.out _ HK4.out
          replace HR := hide ((hkB.trans hk).row HR.out)
          have HT := hide (diskwrite_spec ca cc cs da dc ds (ln : Int) sa sc (secR (ln : Int) (tp + 1) [66]) w4 (HM.out.kept HK4.out) HDO.out hbo.toOwn.one hsn.1 (Nat.le_trans (secR_length _ _ _) (by decide)))
          replace hz : w.heap.size + 1 + 1 ≤ w4.heap.size := by have := (hkB.trans hk).size; omega
          clear hk hkB hsn hbo
          go_wp2_with fail
          refine (unhide HT).mono ?_
          rintro x w5 ⟨v, rfl, hr, hk⟩
          obtain ⟨ca2, cc2, cs2, da2, dc2, ds2, rfl, he2, hok2, hna2, hnd2, hb2⟩ := hr
          clear d0 d1 HT hna2 hnd2
          have HKM := hide ((HK4.out.trans hk).alloc (.cells #[.slice ca2 cs2.length cc2, .slice da2 ds2.length dc2] 26))
          obtain ⟨d0, d1⟩ := HD.out _ HKM.out
          replace HR := hide ((hk.alloc (.cells #[.slice ca2 cs2.length cc2, .slice da2 ds2.length dc2] 26)).row HR.out)
          have HB2 := hide (hb2.toOwn.kept (Keeps.alloc (Keeps.refl w5) (.cells #[.slice ca2 cs2.length cc2, .slice da2 ds2.length dc2] 26)))
          have HE2 : Hid (dat cs2 ds2 = opW (dat cs ds)) := by show _ = _; rw [he2]; unfold opW; rw [HLN.out, HTP.out]
          have HOK2 := hide hok2
          have hmo := (born_alloc w5 #[.slice ca2 cs2.length cc2, .slice da2 ds2.length dc2] 26).toOwn
          have m0 := cell_at hmo.mem 0 (by simp)
          have m1 := cell_at hmo.mem 1 (by simp)
          simp only [Nat.zero_add, List.getElem_cons_zero, List.getElem_cons_succ] at m0 m1
          replace hz : w.heap.size + 1 + 1 ≤ w5.heap.size := by have := hk.size; omega
          clear hk he2 hok2 hb2 hmo
          go_wp2_with fail
          generalize w5.alloc (.cells #[.slice ca2 cs2.length cc2, .slice da2 ds2.length dc2] 26) = w5b at *
          generalize hMB : w5.heap.size = MB at *
          have HTS := hide (fun w' (hk : Keeps w5b w') => disksync_spec ca2 cc2 cs2 da2 dc2 ds2 w' (HB2.out.mem.kept hk) HOK2.out)
          have HTE := hide (fun w' (hk : Keeps w5b w') => logevents_spec ca cc cs da dc ds w' (HM.out.kept (HKM.out.trans hk)) HDO.out)
          have hz5 : w.heap.size + 1 + 1 ≤ w5b.heap.size := by have := HKM.out.size; have := HSz.out; omega
          have hw1 : IntKind.i64.wrap ((ln : Int) + 1) = (ln : Int) + 1 := by simp [IntKind.wrap, IntKind.bits, IntKind.signed]; omega
          have hw2 : IntKind.i64.wrap (tp + 1) = tp + 1 := by simp [IntKind.wrap, IntKind.bits, IntKind.signed]; omega
          have hne : ¬ MB = w.heap.size + 1 := by omega
          have hne' : ¬ w.heap.size + 1 = MB := by omega
          go_region_held3 (fun w' => w'.cell? ⟨w.heap.size, 0, none⟩ = some (.slice ca cs.length cc) ∧ w'.cell? ⟨w.heap.size, 1, none⟩ = some (.slice da ds.length dc) ∧ w'.cell? ⟨MB, 0, none⟩ = some (.slice ca2 cs2.length cc2) ∧ w'.cell? ⟨MB, 1, none⟩ = some (.slice da2 ds2.length dc2)) (first | (go_keep; done) | (refine ⟨?_, ?_, ?_, ?_⟩ <;> (rw [World.cell?_setCell_other _ _ _ _ (by simp <;> omega), World.cell?_setCell_other _ _ _ _ (by simp <;> omega), World.cell?_setCell_other _ _ _ _ (by simp <;> omega), World.cell?_setCell_other _ _ _ _ (by simp <;> omega)]; assumption)))
            (first
              | (go_at_call 54
                 refine (unhide HTS _ (Keeps.refl w5b).drew).mono ?_
                 rintro x w6 ⟨v, rfl, hr, hk⟩
                 rw [HE2.out] at hr
                 obtain ⟨ca3, cc3, cs3, da3, dc3, ds3, rfl, he3, hok3, hna3, hnd3, hb3⟩ := hr
                 have hk6 := (Keeps.refl w5b).drew.trans hk
                 have HB3 := hide (hb3.old (Keeps.refl w5b).drew)
                 have HF := hide (⟨he3, hok3, hna3, hnd3⟩ : _ ∧ _ ∧ _ ∧ _)
                 have HK6 := hide hk6
                 have n0 := hk6.cell m0
                 have n1 := hk6.cell m1
                 obtain ⟨d0, d1⟩ := HD.out _ (HKM.out.trans hk6)
                 clear hb3 he3 hok3 hna3 hnd3 hk hk6)
              | (go_at_call 18
                 refine (unhide HTE _ HK6.out).mono ?_
                 rintro x w7 hpost
                 unfold LePost at hpost
                 rw [HLN.out] at hpost
                 obtain ⟨ea, ec, rfl, hbe, hk⟩ := hpost
                 have hk1 := HK6.out.trans hk
                 have HK7 := hide (HKM.out.trans hk1)
                 have p0 := hk.cell n0
                 have p1 := hk.cell n1
                 have HBJ := hide ((HB3.out.join hk HK6.out (hbe.old (Keeps.refl _))).old (HKA.out.trans HKM.out))
                 have HBN : Hid (∀ b ∈ fp (dsk ca3 cs3 da3 ds3 ++ [(ea, ecells (evsTo (dat cs ds) ln))]), w.heap.size + 1 + 1 ≤ b) := fun b hb => by
                   rw [fp_append] at hb
                   have h6 := HK6.out.size
                   rcases List.mem_append.1 hb with hb | hb
                   · have := HB3.out.new b hb; omega
                   · have := hbe.new b hb; omega
                 replace HR := hide (hk1.row HR.out)
                 obtain ⟨d0, d1⟩ := HD.out _ HK7.out
                 have hz7 : w.heap.size + 1 + 1 ≤ w7.heap.size := by have := hk1.size; omega
                 have q0 := HR.out.cell (i := 0) (by decide)
                 have q1 := HR.out.cell (i := 1) (by decide)
                 have q2 := HR.out.cell (i := 2) (by decide)
                 have q3 := HR.out.cell (i := 3) (by decide)
                 have g0 := HR.out.frozen 0
                 have g1 := HR.out.frozen 1
                 have g2 := HR.out.frozen 2
                 have g3 := HR.out.frozen 3
                 simp only [Array.getD] at q0 q1 q2 q3
                 simp at q0 q1 q2 q3
                 clear hbe hk hk1))
          go_wp2_with fail
          have r9 := ((((HR.out.set 0 (.slice ca3 cs3.length cc3)).set 1 (.slice da3 ds3.length dc3)).set 2 (.int .i64 ((ln : Int) + 1))).set 3 (.int .i64 (tp + 1)))
          have c0 := r9.cell (i := 0) (by decide)
          have c1 := r9.cell (i := 1) (by decide)
          have c2 := r9.cell (i := 2) (by decide)
          have c3 := r9.cell (i := 3) (by decide)
          simp at c0 c1 c2 c3
          have HSs : Hid (Turn [w.heap.size + 1] w7 ((((w7.setCell ⟨w.heap.size + 1, 0, none⟩ (.slice ca3 cs3.length cc3)).setCell ⟨w.heap.size + 1, 1, none⟩ (.slice da3 ds3.length dc3)).setCell ⟨w.heap.size + 1, 2, none⟩ (.int .i64 ((ln : Int) + 1))).setCell ⟨w.heap.size + 1, 3, none⟩ (.int .i64 (tp + 1)))) := ((((Turn.set (by simp) _).trans' (Turn.set (by simp) _)).trans' (Turn.set (by simp) _)).trans' (Turn.set (by simp) _))
          clear r9 HR q0 q1 q2 q3 g0 g1 g2 g3
          revert c0 c1 c2 c3 HSs
          generalize World.setCell _ _ _ = W
          intro c0 c1 c2 c3 HSs
          have HKF : Hid (Keeps w W) := HSs.out.keeps (HKA.out.trans HK7.out) (fun b hb => by simp at hb; omega)
          have hbw : Born w W (dsk ca3 cs3 da3 ds3 ++ [(ea, ecells (evsTo (dat cs ds) ln))]) := HBJ.out.turn HSs.out (fun b hb hx => by have := HBN.out b hb; simp at hx; omega)
          have hpo := OpPost.yes (w := w) (w' := W) (m := dat cs ds) (a := ea) (c := ec) HC0.out HF.out.1 HF.out.2.1 HF.out.2.2.1 HF.out.2.2.2 (by rw [HLN.out]; exact hbw) HKF.out
          rw [HLN.out, HTP.out] at hpo
          have HPost := hide hpo
          clear hbw hpo
          refine bodyPost_ret (v := .tuple #[logV ca3 cs3.length cc3 da3 ds3.length dc3 ((ln : Int) + 1) (tp + 1), .slice ea (evsTo (dat cs ds) ln).length ec, .int .i64 0]) ?_ rfl (HPost.out)
          simp [results, Tryz.results17, go_sem, c0, c1, c2, c3]
    · have hd0' : (0 : Int) < (ds.length : Int) := by omega
      go_wp2_with fail
      have r9 := ((((HR.out.set 0 (.slice none 0 0)).set 1 (.slice none 0 0)).set 2 (.int .i64 0)).set 3 (.int .i64 0))
      have c0 := r9.cell (i := 0) (by decide)
      have c1 := r9.cell (i := 1) (by decide)
      have c2 := r9.cell (i := 2) (by decide)
      have c3 := r9.cell (i := 3) (by decide)
      simp at c0 c1 c2 c3
      have HSs : Hid (Turn [w.heap.size + 1] w1 ((((w1.setCell ⟨w.heap.size + 1, 0, none⟩ (.slice none 0 0)).setCell ⟨w.heap.size + 1, 1, none⟩ (.slice none 0 0)).setCell ⟨w.heap.size + 1, 2, none⟩ (.int .i64 0)).setCell ⟨w.heap.size + 1, 3, none⟩ (.int .i64 0))) := ((((Turn.set (by simp) _).trans' (Turn.set (by simp) _)).trans' (Turn.set (by simp) _)).trans' (Turn.set (by simp) _))
      clear r9 HR q0 q1 q2 q3 g0 g1 g2 g3
      revert c0 c1 c2 c3 HSs
      generalize World.setCell _ _ _ = W
      intro c0 c1 c2 c3 HSs
      have HKF : Hid (Keeps w W) := HSs.out.keeps (HKA.out.trans HK1.out) (fun b hb => by simp at hb; omega)
      refine bodyPost_ret (v := .tuple #[.agg #[.slice none 0 0, .slice none 0 0, .int .i64 0, .int .i64 0], .slice none 0 0, .int .i64 1]) ?_ rfl (OpPost.no (opC_one (by rw [HBB.out, HLC.out.2, decide_eq_false hd0]; rfl)) (by decide) HKF.out)
      simp [results, Tryz.results17, go_sem, c0, c1, c2, c3]
end Go.Proofs.YtkdnddckogbgaaaGreatDoor
