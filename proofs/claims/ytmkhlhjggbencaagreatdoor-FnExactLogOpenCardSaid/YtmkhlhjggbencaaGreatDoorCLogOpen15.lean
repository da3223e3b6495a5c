/- LogOpen of the model. -/
import Derived.Test.YtmkhlhjggbencaaGreatDoorCLogOpen12
import Derived.Test.YtmkhlhjggbencaaGreatDoorCLogOpen14
import Derived.Test.YtmkhlhjggbencaaGreatDoorCLogOpen5
import Derived.Test.YtmkhlhjggbencaaGreatDoorCLogOpen2
import Derived.Test.YtmkhlhjggbencaaGreatDoorCLogOpen1
namespace Go.Proofs.YtmkhlhjggbencaaGreatDoor
open Go.RowKit Go.Deep
set_option linter.unusedVariables false
set_option maxRecDepth 10000

set_option maxHeartbeats 8000000 in
theorem logopen_spec (ca : Option Addr) (cc : Nat) (cs : List Bs) (da : Option Addr) (dc : Nat) (ds : List Wr) (w : World) (hm : Mem w (dsk ca cs da ds)) (h : DOk cs ds) :
    Calls Tryz.prog 17 #[dskV ca cs.length cc da ds.length dc] w (OpPost w (dat cs ds)) := by
  have HKA := hide (Keeps.alloc (Keeps.alloc (Keeps.refl w) (.cells #[.slice ca cs.length cc, .slice da ds.length dc] 26)) (.cells #[.slice none 0 0, .slice none 0 0, .int .i64 0, .int .i64 0] 28))
  have HM := hide (hm.kept HKA.out)
  have HDO := hide h
  have hcl := h.c
  have hdl := h.d
  have HLC : Hid ((dat cs ds).cells.length = cs.length ∧ (dat cs ds).dirty.length = ds.length) := by show _ ∧ _; simp [dat]
  have HR := hide (row_new (w.alloc (.cells #[.slice ca cs.length cc, .slice da ds.length dc] 26)) #[.slice none 0 0, .slice none 0 0, .int .i64 0, .int .i64 0] 28)
  have HS : Hid ((w.alloc (.cells #[.slice ca cs.length cc, .slice da ds.length dc] 26)).heap.size = w.heap.size + 1 ∧ ((w.alloc (.cells #[.slice ca cs.length cc, .slice da ds.length dc] 26)).alloc (.cells #[.slice none 0 0, .slice none 0 0, .int .i64 0, .int .i64 0] 28)).heap.size = w.heap.size + 1 + 1) := by show _ ∧ _; exact ⟨by simp, by simp⟩
  rw [HS.out.1] at HR
  have HD : Hid (∀ w', Keeps ((w.alloc (.cells #[.slice ca cs.length cc, .slice da ds.length dc] 26)).alloc (.cells #[.slice none 0 0, .slice none 0 0, .int .i64 0, .int .i64 0] 28)) w' → w'.cell? ⟨w.heap.size, 0, none⟩ = some (.slice ca cs.length cc) ∧ w'.cell? ⟨w.heap.size, 1, none⟩ = some (.slice da ds.length dc)) :=
    fun w' hk => ⟨hk.cell (by simp), hk.cell (by simp)⟩
  have HT := hide (diskok_spec' ca cc cs da dc ds _ HM.out h)
  obtain ⟨b, hbb⟩ : ∃ b, dokM (dat cs ds) = b := ⟨_, rfl⟩
  rw [hbb] at HT
  have HBB := hide hbb
  clear hm h hbb
  obtain ⟨d0, d1⟩ := HD.out _ (Keeps.refl _)
  go_enter Tryz.func17, Tryz.ntmps17
  go_wp2_with fail
  have HSz := hide HS.out.2
  generalize ((w.alloc (.cells #[.slice ca cs.length cc, .slice da ds.length dc] 26)).alloc (.cells #[.slice none 0 0, .slice none 0 0, .int .i64 0, .int .i64 0] 28)) = W0 at *
  refine (unhide HT).mono ?_
  rintro x w1 ⟨rfl, hk⟩
  clear d0 d1 HT HS
  obtain ⟨d0, d1⟩ := HD.out _ hk
  replace HR := hide (hk.row HR.out)
  have HK1 := hide hk
  have hz : w.heap.size + 1 + 1 ≤ w1.heap.size := by have := hk.size; have := HSz.out; omega
  have q0 := HR.out.cell (i := 0) (by decide)
  have q1 := HR.out.cell (i := 1) (by decide)
  have q2 := HR.out.cell (i := 2) (by decide)
  have q3 := HR.out.cell (i := 3) (by decide)
  have g0 := HR.out.frozen 0
  have g1 := HR.out.frozen 1
  have g2 := HR.out.frozen 2
  have g3 := HR.out.frozen 3
  simp only [Array.getD] at q0 q1 q2 q3
  simp at q0 q1 q2 q3
  clear hk
  cases b
  · go_wp2_with fail
    have r9 := ((((HR.out.set 0 (.slice none 0 0)).set 1 (.slice none 0 0)).set 2 (.int .i64 0)).set 3 (.int .i64 0))
    have c0 := r9.cell (i := 0) (by decide)
    have c1 := r9.cell (i := 1) (by decide)
    have c2 := r9.cell (i := 2) (by decide)
    have c3 := r9.cell (i := 3) (by decide)
    simp at c0 c1 c2 c3
    have HSs : Hid (Turn [w.heap.size + 1] w1 ((((w1.setCell ⟨w.heap.size + 1, 0, none⟩ (.slice none 0 0)).setCell ⟨w.heap.size + 1, 1, none⟩ (.slice none 0 0)).setCell ⟨w.heap.size + 1, 2, none⟩ (.int .i64 0)).setCell ⟨w.heap.size + 1, 3, none⟩ (.int .i64 0))) := ((((Turn.set (by simp) _).trans' (Turn.set (by simp) _)).trans' (Turn.set (by simp) _)).trans' (Turn.set (by simp) _))
    clear r9 HR q0 q1 q2 q3 g0 g1 g2 g3
    revert c0 c1 c2 c3 HSs
    generalize World.setCell _ _ _ = W
    intro c0 c1 c2 c3 HSs
    have HKF : Hid (Keeps w W) := HSs.out.keeps (HKA.out.trans HK1.out) (fun b hb => by simp at hb; omega)
    refine bodyPost_ret (v := .tuple #[.agg #[.slice none 0 0, .slice none 0 0, .int .i64 0, .int .i64 0], .slice none 0 0, .int .i64 1]) ?_ rfl (OpPost.no (opC_one (by rw [HBB.out]; rfl)) (by decide) HKF.out)
    simp [results, Tryz.results17, go_sem, c0, c1, c2, c3]
  · have hle := (dokM_len HBB.out)
    rw [HLC.out.1, HLC.out.2] at hle
    by_cases hd0 : ds.length = 0
    · have hd0' : ¬ ((0 : Int) < (ds.length : Int)) := by omega
      have HDZ := hide hd0
      have hq0 : decide ((0 : Int) < (ds.length : Int)) = false := decide_eq_false hd0'
      clear hd0
      have HT := hide (logread_spec ca cc cs da dc ds w1 (HM.out.kept HK1.out) HDO.out)
      go_wp2_with fail
      refine (unhide HT).mono ?_
      rintro x w2 ⟨oa, oc, nb, rfl, hkey, hna, hb, hk⟩
      clear d0 d1 q0 q1 q2 q3 g0 g1 g2 g3 HT hkey hna hb
      obtain ⟨d0, d1⟩ := HD.out _ (HK1.out.trans hk)
      replace HR := hide (hk.row HR.out)
      have HK2 := hide (HK1.out.trans hk)
      replace hz : w.heap.size + 1 + 1 ≤ w2.heap.size := by have := hk.size; omega
      clear hk
      have HT := hide (logtop_spec ca cc cs da dc ds w2 (HM.out.kept HK2.out) HDO.out)
      have htb := topM_bound (dat cs ds)
      have hlb : logN (dat cs ds) ≤ cs.length := by rw [← HLC.out.1]; exact logTo_le _ _
      have HNd : Hid (∀ h2 : ¬ (logN (dat cs ds) = cs.length ∨ topM (dat cs ds) = 16000000), opC (dat cs ds) = 0 ∧ dokM (opW (dat cs ds)) = true) := fun h2 => by
        rw [← HLC.out.1] at h2
        have hd : (dat cs ds).dirty.length = 0 := by rw [HLC.out.2]; exact HDZ.out
        exact ⟨opC_zero HBB.out hd h2, opW_ok HBB.out hd h2⟩
      have HNt : Hid (∀ h2 : logN (dat cs ds) = cs.length ∨ topM (dat cs ds) = 16000000, opC (dat cs ds) = 2) := fun h2 => by
        rw [← HLC.out.1] at h2
        exact opC_two HBB.out (by rw [HLC.out.2]; exact HDZ.out) h2
      obtain ⟨tp, htp⟩ : ∃ tp, topM (dat cs ds) = tp := ⟨_, rfl⟩
      obtain ⟨ln, hln⟩ : ∃ ln, logN (dat cs ds) = ln := ⟨_, rfl⟩
      have HTP := hide htp
      have HLN := hide hln
      rw [htp] at HT htb HNd HNt
      rw [hln] at hlb HNd HNt
      rw [hln]
      clear htp hln
      go_wp2_with fail
      refine (unhide HT).mono ?_
      rintro x w3 ⟨rfl, hk⟩
      clear d0 d1 HT
      obtain ⟨d0, d1⟩ := HD.out _ (HK2.out.trans hk)
      replace HR := hide (hk.row HR.out)
      have HK3 := hide (HK2.out.trans hk)
      replace hz : w.heap.size + 1 + 1 ≤ w3.heap.size := by have := hk.size; omega
      have q0 := HR.out.cell (i := 0) (by decide)
      have q1 := HR.out.cell (i := 1) (by decide)
      have q2 := HR.out.cell (i := 2) (by decide)
      have q3 := HR.out.cell (i := 3) (by decide)
      have g0 := HR.out.frozen 0
      have g1 := HR.out.frozen 1
      have g2 := HR.out.frozen 2
      have g3 := HR.out.frozen 3
      simp only [Array.getD] at q0 q1 q2 q3
      simp at q0 q1 q2 q3
      clear hk
      by_cases h1 : (ln : Int) = (cs.length : Int)
      · go_wp2_with fail
        have r9 := ((((HR.out.set 0 (.slice none 0 0)).set 1 (.slice none 0 0)).set 2 (.int .i64 0)).set 3 (.int .i64 0))
        have c0 := r9.cell (i := 0) (by decide)
        have c1 := r9.cell (i := 1) (by decide)
        have c2 := r9.cell (i := 2) (by decide)
        have c3 := r9.cell (i := 3) (by decide)
        simp at c0 c1 c2 c3
        have HSs : Hid (Turn [w.heap.size + 1] w3 ((((w3.setCell ⟨w.heap.size + 1, 0, none⟩ (.slice none 0 0)).setCell ⟨w.heap.size + 1, 1, none⟩ (.slice none 0 0)).setCell ⟨w.heap.size + 1, 2, none⟩ (.int .i64 0)).setCell ⟨w.heap.size + 1, 3, none⟩ (.int .i64 0))) := ((((Turn.set (by simp) _).trans' (Turn.set (by simp) _)).trans' (Turn.set (by simp) _)).trans' (Turn.set (by simp) _))
        clear r9 HR q0 q1 q2 q3 g0 g1 g2 g3
        revert c0 c1 c2 c3 HSs
        generalize World.setCell _ _ _ = W
        intro c0 c1 c2 c3 HSs
        have HKF : Hid (Keeps w W) := HSs.out.keeps (HKA.out.trans HK3.out) (fun b hb => by simp at hb; omega)
        refine bodyPost_ret (v := .tuple #[.agg #[.slice none 0 0, .slice none 0 0, .int .i64 0, .int .i64 0], .slice none 0 0, .int .i64 2]) ?_ rfl (OpPost.no (HNt.out (.inl (by omega))) (by decide) HKF.out)
        simp [results, Tryz.results17, go_sem, c0, c1, c2, c3]
      · have hq1 : ((ln : Int) == (cs.length : Int)) = false := beq_eq_false_iff_ne.2 h1
        by_cases h2 : tp = 16000000
        · have HQ2 := hide h2
          have hq2 : (tp == 16000000) = true := by simp [h2]
          clear h2
          go_wp2_with fail
          have r9 := ((((HR.out.set 0 (.slice none 0 0)).set 1 (.slice none 0 0)).set 2 (.int .i64 0)).set 3 (.int .i64 0))
          have c0 := r9.cell (i := 0) (by decide)
          have c1 := r9.cell (i := 1) (by decide)
          have c2 := r9.cell (i := 2) (by decide)
          have c3 := r9.cell (i := 3) (by decide)
          simp at c0 c1 c2 c3
          have HSs : Hid (Turn [w.heap.size + 1] w3 ((((w3.setCell ⟨w.heap.size + 1, 0, none⟩ (.slice none 0 0)).setCell ⟨w.heap.size + 1, 1, none⟩ (.slice none 0 0)).setCell ⟨w.heap.size + 1, 2, none⟩ (.int .i64 0)).setCell ⟨w.heap.size + 1, 3, none⟩ (.int .i64 0))) := ((((Turn.set (by simp) _).trans' (Turn.set (by simp) _)).trans' (Turn.set (by simp) _)).trans' (Turn.set (by simp) _))
          clear r9 HR q0 q1 q2 q3 g0 g1 g2 g3
          revert c0 c1 c2 c3 HSs
          generalize World.setCell _ _ _ = W
          intro c0 c1 c2 c3 HSs
          have HKF : Hid (Keeps w W) := HSs.out.keeps (HKA.out.trans HK3.out) (fun b hb => by simp at hb; omega)
          refine bodyPost_ret (v := .tuple #[.agg #[.slice none 0 0, .slice none 0 0, .int .i64 0, .int .i64 0], .slice none 0 0, .int .i64 2]) ?_ rfl (OpPost.no (HNt.out (.inr HQ2.out)) (by decide) HKF.out)
          simp [results, Tryz.results17, go_sem, c0, c1, c2, c3]
        · have hq2 : (tp == 16000000) = false := beq_eq_false_iff_ne.2 h2
          obtain ⟨hc0, hwok⟩ := HNd.out (fun hx => by omega)
          have HC0 := hide hc0
          have HWOK := hide hwok
          clear hc0 hwok
          have hkB := Keeps.alloc (Keeps.refl w3) (.cells #[.int .u8 66] 5)
          have HT := hide (secbytes_spec (ln : Int) (tp + 1) (some ⟨w3.heap.size, 0, none⟩) 1 [66] (w3.alloc (.cells #[.int .u8 66] 5)) (bys_B w3) (fun e => nomatch e) (by decide))
          clear d0 d1 q0 q1 q2 q3 g0 g1 g2 g3
          obtain ⟨d0, d1⟩ := HD.out _ HK3.out
          go_wp2_with fail
          refine (unhide HT).mono ?_
          rintro x w4 ⟨v, rfl, ho, hk⟩
          obtain ⟨sa, sc, rfl, hsn, hbo⟩ := Born.of_owns ho
          clear d0 d1 HT ho
          have HK4 := hide ((HK3.out.trans hkB).trans hk)
          obtain ⟨d0, d1⟩ := HD.out _ HK4.out
          replace HR := hide ((hkB.trans hk).row HR.out)
          have HT := hide (diskwrite_spec ca cc cs da dc ds (ln : Int) sa sc (secR (ln : Int) (tp + 1) [66]) w4 (HM.out.kept HK4.out) HDO.out hbo.toOwn.one hsn.1 (Nat.le_trans (secR_length _ _ _) (by decide)))
          replace hz : w.heap.size + 1 + 1 ≤ w4.heap.size := by have := (hkB.trans hk).size; omega
          clear hk hkB hsn hbo
          go_wp2_with fail
          refine (unhide HT).mono ?_
          rintro x w5 ⟨v, rfl, hr, hk⟩
          obtain ⟨ca2, cc2, cs2, da2, dc2, ds2, rfl, he2, hok2, hna2, hnd2, hb2⟩ := hr
          clear d0 d1 HT hna2 hnd2
          have HKM := hide ((HK4.out.trans hk).alloc (.cells #[.slice ca2 cs2.length cc2, .slice da2 ds2.length dc2] 26))
          obtain ⟨d0, d1⟩ := HD.out _ HKM.out
          replace HR := hide ((hk.alloc (.cells #[.slice ca2 cs2.length cc2, .slice da2 ds2.length dc2] 26)).row HR.out)
          have HB2 := hide (hb2.toOwn.kept (Keeps.alloc (Keeps.refl w5) (.cells #[.slice ca2 cs2.length cc2, .slice da2 ds2.length dc2] 26)))
          have HE2 : Hid (dat cs2 ds2 = opW (dat cs ds)) := by show _ = _; rw [he2]; unfold opW; rw [HLN.out, HTP.out]
          have HOK2 := hide hok2
          have hmo := (born_alloc w5 #[.slice ca2 cs2.length cc2, .slice da2 ds2.length dc2] 26).toOwn
          have m0 := cell_at hmo.mem 0 (by simp)
          have m1 := cell_at hmo.mem 1 (by simp)
          simp only [Nat.zero_add, List.getElem_cons_zero, List.getElem_cons_succ] at m0 m1
          replace hz : w.heap.size + 1 + 1 ≤ w5.heap.size := by have := hk.size; omega
          clear hk he2 hok2 hb2 hmo
          go_wp2_with fail
          generalize w5.alloc (.cells #[.slice ca2 cs2.length cc2, .slice da2 ds2.length dc2] 26) = w5b at *
          generalize hMB : w5.heap.size = MB at *
          have HTS := hide (fun w' (hk : Keeps w5b w') => disksync_spec ca2 cc2 cs2 da2 dc2 ds2 w' (HB2.out.mem.kept hk) HOK2.out)
          have HTE := hide (fun w' (hk : Keeps w5b w') => logevents_spec ca cc cs da dc ds w' (HM.out.kept (HKM.out.trans hk)) HDO.out)
          have hz5 : w.heap.size + 1 + 1 ≤ w5b.heap.size := by have := HKM.out.size; have := HSz.out; omega
          have hw1 : IntKind.i64.wrap ((ln : Int) + 1) = (ln : Int) + 1 := by simp [IntKind.wrap, IntKind.bits, IntKind.signed]; omega
          have hw2 : IntKind.i64.wrap (tp + 1) = tp + 1 := by simp [IntKind.wrap, IntKind.bits, IntKind.signed]; omega
          have hne : ¬ MB = w.heap.size + 1 := by omega
          have hne' : ¬ w.heap.size + 1 = MB := by omega
          go_region_held3 (fun w' => w'.cell? ⟨w.heap.size, 0, none⟩ = some (.slice ca cs.length cc) ∧ w'.cell? ⟨w.heap.size, 1, none⟩ = some (.slice da ds.length dc) ∧ w'.cell? ⟨MB, 0, none⟩ = some (.slice ca2 cs2.length cc2) ∧ w'.cell? ⟨MB, 1, none⟩ = some (.slice da2 ds2.length dc2)) (first | (go_keep; done) | (refine ⟨?_, ?_, ?_, ?_⟩ <;> (rw [World.cell?_setCell_other _ _ _ _ (by simp <;> omega), World.cell?_setCell_other _ _ _ _ (by simp <;> omega), World.cell?_setCell_other _ _ _ _ (by simp <;> omega), World.cell?_setCell_other _ _ _ _ (by simp <;> omega)]; assumption)))
            (first
              | (go_at_call 54
                 refine (unhide HTS _ (Keeps.refl w5b).drew).mono ?_
                 rintro x w6 ⟨v, rfl, hr, hk⟩
                 rw [HE2.out] at hr
                 obtain ⟨ca3, cc3, cs3, da3, dc3, ds3, rfl, he3, hok3, hna3, hnd3, hb3⟩ := hr
                 have hk6 := (Keeps.refl w5b).drew.trans hk
                 have HB3 := hide (hb3.old (Keeps.refl w5b).drew)
                 have HF := hide (⟨he3, hok3, hna3, hnd3⟩ : _ ∧ _ ∧ _ ∧ _)
                 have HK6 := hide hk6
                 have n0 := hk6.cell m0
                 have n1 := hk6.cell m1
                 obtain ⟨d0, d1⟩ := HD.out _ (HKM.out.trans hk6)
                 clear hb3 he3 hok3 hna3 hnd3 hk hk6)
              | (go_at_call 18
                 refine (unhide HTE _ HK6.out).mono ?_
                 rintro x w7 hpost
                 unfold LePost at hpost
                 rw [HLN.out] at hpost
                 obtain ⟨ea, ec, rfl, hbe, hk⟩ := hpost
                 have hk1 := HK6.out.trans hk
                 have HK7 := hide (HKM.out.trans hk1)
                 have p0 := hk.cell n0
                 have p1 := hk.cell n1
                 have HBJ := hide ((HB3.out.join hk HK6.out (hbe.old (Keeps.refl _))).old (HKA.out.trans HKM.out))
                 have HBN : Hid (∀ b ∈ fp (dsk ca3 cs3 da3 ds3 ++ [(ea, ecells (evsTo (dat cs ds) ln))]), w.heap.size + 1 + 1 ≤ b) := fun b hb => by
                   rw [fp_append] at hb
                   have h6 := HK6.out.size
                   rcases List.mem_append.1 hb with hb | hb
                   · have := HB3.out.new b hb; omega
                   · have := hbe.new b hb; omega
                 replace HR := hide (hk1.row HR.out)
                 obtain ⟨d0, d1⟩ := HD.out _ HK7.out
                 have hz7 : w.heap.size + 1 + 1 ≤ w7.heap.size := by have := hk1.size; omega
                 have q0 := HR.out.cell (i := 0) (by decide)
                 have q1 := HR.out.cell (i := 1) (by decide)
                 have q2 := HR.out.cell (i := 2) (by decide)
                 have q3 := HR.out.cell (i := 3) (by decide)
                 have g0 := HR.out.frozen 0
                 have g1 := HR.out.frozen 1
                 have g2 := HR.out.frozen 2
                 have g3 := HR.out.frozen 3
                 simp only [Array.getD] at q0 q1 q2 q3
                 simp at q0 q1 q2 q3
                 clear hbe hk hk1))
          go_wp2_with fail
          have r9 := ((((HR.out.set 0 (.slice ca3 cs3.length cc3)).set 1 (.slice da3 ds3.length dc3)).set 2 (.int .i64 ((ln : Int) + 1))).set 3 (.int .i64 (tp + 1)))
          have c0 := r9.cell (i := 0) (by decide)
          have c1 := r9.cell (i := 1) (by decide)
          have c2 := r9.cell (i := 2) (by decide)
          have c3 := r9.cell (i := 3) (by decide)
          simp at c0 c1 c2 c3
          have HSs : Hid (Turn [w.heap.size + 1] w7 ((((w7.setCell ⟨w.heap.size + 1, 0, none⟩ (.slice ca3 cs3.length cc3)).setCell ⟨w.heap.size + 1, 1, none⟩ (.slice da3 ds3.length dc3)).setCell ⟨w.heap.size + 1, 2, none⟩ (.int .i64 ((ln : Int) + 1))).setCell ⟨w.heap.size + 1, 3, none⟩ (.int .i64 (tp + 1)))) := ((((Turn.set (by simp) _).trans' (Turn.set (by simp) _)).trans' (Turn.set (by simp) _)).trans' (Turn.set (by simp) _))
          clear r9 HR q0 q1 q2 q3 g0 g1 g2 g3
          revert c0 c1 c2 c3 HSs
          generalize World.setCell _ _ _ = W
          intro c0 c1 c2 c3 HSs
          have HKF : Hid (Keeps w W) := HSs.out.keeps (HKA.out.trans HK7.out) (fun b hb => by simp at hb; omega)
          have hbw : Born w W (dsk ca3 cs3 da3 ds3 ++ [(ea, ecells (evsTo (dat cs ds) ln))]) := HBJ.out.turn HSs.out (fun b hb hx => by have := HBN.out b hb; simp at hx; omega)
          have hpo := OpPost.yes (w := w) (w' := W) (m := dat cs ds) (a := ea) (c := ec) HC0.out HF.out.1 HF.out.2.1 HF.out.2.2.1 HF.out.2.2.2 (by rw [HLN.out]; exact hbw) HKF.out
          rw [HLN.out, HTP.out] at hpo
          have HPost := hide hpo
          clear hbw hpo
          refine bodyPost_ret (v := .tuple #[logV ca3 cs3.length cc3 da3 ds3.length dc3 ((ln : Int) + 1) (tp + 1), .slice ea (evsTo (dat cs ds) ln).length ec, .int .i64 0]) ?_ rfl (HPost.out)
          simp [results, Tryz.results17, go_sem, c0, c1, c2, c3]
    · have hd0' : (0 : Int) < (ds.length : Int) := by omega
      go_wp2_with fail
      have r9 := ((((HR.out.set 0 (.slice none 0 0)).set 1 (.slice none 0 0)).set 2 (.int .i64 0)).set 3 (.int .i64 0))
      have c0 := r9.cell (i := 0) (by decide)
      have c1 := r9.cell (i := 1) (by decide)
      have c2 := r9.cell (i := 2) (by decide)
      have c3 := r9.cell (i := 3) (by decide)
      simp at c0 c1 c2 c3
      have HSs : Hid (Turn [w.heap.size + 1] w1 ((((w1.setCell ⟨w.heap.size + 1, 0, none⟩ (.slice none 0 0)).setCell ⟨w.heap.size + 1, 1, none⟩ (.slice none 0 0)).setCell ⟨w.heap.size + 1, 2, none⟩ (.int .i64 0)).setCell ⟨w.heap.size + 1, 3, none⟩ (.int .i64 0))) := ((((Turn.set (by simp) _).trans' (Turn.set (by simp) _)).trans' (Turn.set (by simp) _)).trans' (Turn.set (by simp) _))
      clear r9 HR q0 q1 q2 q3 g0 g1 g2 g3
      revert c0 c1 c2 c3 HSs
      generalize World.setCell _ _ _ = W
      intro c0 c1 c2 c3 HSs
      have HKF : Hid (Keeps w W) := HSs.out.keeps (HKA.out.trans HK1.out) (fun b hb => by simp at hb; omega)
      refine bodyPost_ret (v := .tuple #[.agg #[.slice none 0 0, .slice none 0 0, .int .i64 0, .int .i64 0], .slice none 0 0, .int .i64 1]) ?_ rfl (OpPost.no (opC_one (by rw [HBB.out, HLC.out.2, decide_eq_false hd0]; rfl)) (by decide) HKF.out)
      simp [results, Tryz.results17, go_sem, c0, c1, c2, c3]
end Go.Proofs.YtmkhlhjggbencaaGreatDoor

/- Two events held against each other by the laws. -/
namespace Go.Proofs.YtmkhlhjggbencaaGreatDoor
open Go.RowKit
set_option linter.unusedVariables false
set_option maxHeartbeats 1000000 in
theorem eqEvent_same (k y c t m f : Int) (b : Bool) (w : World) : Calls Tryz.prog 61 #[evV k y c t m f b, evV k y c t m f b] w fun e w' => e = .returned (.bool true) ∧ Keeps w w' := by
  go_enter Tryz.func61, Tryz.ntmps61
  go_wp2_with fail
  go_ret
  exact ⟨rfl, Keeps.alloc (Keeps.alloc (Keeps.refl _) _) _⟩
end Go.Proofs.YtmkhlhjggbencaaGreatDoor

/- What the laws do with lists of events: compared, marked, looked for. -/
namespace Go.Proofs.YtmkhlhjggbencaaGreatDoor
open Go.RowKit Go.Deep
set_option linter.unusedVariables false
set_option maxRecDepth 10000

theorem ecells_len (xs : List Ev) : (ecells xs).length = xs.length * 7 := flatMap_len (f := Ev.cells) (sz := 7) (fun _ => rfl) xs
theorem ecells_append (xs ys : List Ev) : ecells (xs ++ ys) = ecells xs ++ ecells ys := by simp [ecells]
theorem cell7 {w : World} {a : Option Addr} {xs : List Ev} (h : Cells w a (ecells xs)) (k : Nat) (hk : k < xs.length) :
    ∃ b off, a = some ⟨b, off, none⟩ ∧ w.cell? ⟨b, off + k * 7, none⟩ = some (.int .i64 xs[k].k) ∧ w.cell? ⟨b, off + k * 7 + 1, none⟩ = some (.int .i64 xs[k].y) ∧ w.cell? ⟨b, off + k * 7 + 2, none⟩ = some (.int .i64 xs[k].c) ∧ w.cell? ⟨b, off + k * 7 + 3, none⟩ = some (.int .i64 xs[k].t) ∧ w.cell? ⟨b, off + k * 7 + 4, none⟩ = some (.int .i64 xs[k].m) ∧ w.cell? ⟨b, off + k * 7 + 5, none⟩ = some (.int .i64 xs[k].f) ∧ w.cell? ⟨b, off + k * 7 + 6, none⟩ = some (.bool xs[k].b) := by
  obtain ⟨b, off, e, h⟩ := elem_at (f := Ev.cells) (sz := 7) (fun _ => rfl) h k hk (by decide)
  exact ⟨b, off, e, h 0 (by simp [Ev.cells]), h 1 (by simp [Ev.cells]), h 2 (by simp [Ev.cells]), h 3 (by simp [Ev.cells]), h 4 (by simp [Ev.cells]), h 5 (by simp [Ev.cells]), h 6 (by simp [Ev.cells])⟩
set_option maxHeartbeats 4000000 in
theorem eqEventS_k (a a' : Option Addr) (cap cap' : Nat) (xs : List Ev) (w : World) (hc : Cells w a (ecells xs)) (hc' : Cells w a' (ecells xs)) (hl : xs.length ≤ 1048576) :
    Calls Tryz.prog 23 #[.slice a xs.length cap, .slice a' xs.length cap'] w fun e w' => e = .returned (.bool true) ∧ Keeps w w' := by
  have HC := hide hc
  have HC' := hide hc'
  clear hc hc'
  go_enter Tryz.func23, Tryz.ntmps23
  go_wp2_with fail
  go_loopw [5] (fun y w1 => ∃ k : Nat, k ≤ xs.length ∧ y = .int .i64 (k : Int) ∧ Keeps w w1) (fun y _ => xs.length - (intOf y).toNat)
  case atStart => exact ⟨0, by omega, rfl, Keeps.refl _⟩
  case round =>
    obtain ⟨k, hk, rfl, hkw⟩ := hrel
    by_cases hlt : k < xs.length
    · obtain ⟨b, off, ea, c0, c1, c2, c3, c4, c5, c6⟩ := cell7 (HC.out.kept hkw) k hlt
      obtain ⟨b', off', ea', d0, d1, d2, d3, d4, d5, d6⟩ := cell7 (HC'.out.kept hkw) k hlt
      subst ea ea'
      have HQ := hide (fun t => eqEvent_same xs[k].k xs[k].y xs[k].c xs[k].t xs[k].m xs[k].f xs[k].b (gr wr t))
      have g0 := gr_cell c0
      have i0 := gr_cell d0
      have g1 := gr_cell c1
      have i1 := gr_cell d1
      have g2 := gr_cell c2
      have i2 := gr_cell d2
      have g3 := gr_cell c3
      have i3 := gr_cell d3
      have g4 := gr_cell c4
      have i4 := gr_cell d4
      have g5 := gr_cell c5
      have i5 := gr_cell d5
      have g6 := gr_cell c6
      have i6 := gr_cell d6
      generalize xs[k] = x at *
      obtain ⟨xk, xy, xc, xt, xm, xf, xb⟩ := x
      dsimp only at c0 c1 c2 c3 c4 c5 c6 d0 d1 d2 d3 d4 d5 d6 g0 g1 g2 g3 g4 g5 g6 i0 i1 i2 i3 i4 i5 i6 HQ
      go_wp2_with fail
      refine region_gr (by kernel_rfl) (by kernel_rfl) ?_
      repeat (go_big_quiet_step (first | (go_at_call 61; exact gr_call (unhide HQ _))))
      refine wpQuiet_nil ?_
      intro w' hw'
      have hk' := hkw.trans (Keeps.of_gr hw')
      clear hw'
      go_wp2_with fail
      go_roundw
      case rel => exact ⟨k + 1, by omega, by go_num, hk'⟩
      case measure => simp [intOf]; omega
    · go_wp2_with fail
      go_ret
      exact ⟨rfl, hkw⟩
/-- An event with marks from n on. -/
def markEv (n : Nat) : Ev := ⟨n, (n : Int) + 1, (n : Int) + 1 + 1, (n : Int) + 1 + 1 + 1, (n : Int) + 1 + 1 + 1 + 1, (n : Int) + 1 + 1 + 1 + 1 + 1, decide ((n + 1 + 1 + 1 + 1 + 1 + 1) % 3 = 0)⟩
def markE (n k : Nat) : List Ev := (List.range k).map fun i => markEv (n + 7 * i)
theorem markE_succ (n k : Nat) : markE n (k + 1) = markE n k ++ [markEv (n + 7 * k)] := by simp [markE, List.range_succ]
theorem markE_len (n k : Nat) : (markE n k).length = k := by simp [markE]
theorem ecells_set0 (A B : List Ev) (x : Ev) (n : Int) {k : Nat} (hA : A.length = k) : (ecells (A ++ x :: B)).set (k * 7) (.int .i64 n) = ecells (A ++ ⟨n, x.y, x.c, x.t, x.m, x.f, x.b⟩ :: B) := by
  subst hA
  have hl := ecells_len A
  rw [ecells_append, ecells_append, List.set_append_right _ _ (by omega), hl]
  simp [ecells, Ev.cells]
theorem ecells_set1 (A B : List Ev) (x : Ev) (n : Int) {k : Nat} (hA : A.length = k) : (ecells (A ++ x :: B)).set (k * 7 + 1) (.int .i64 n) = ecells (A ++ ⟨x.k, n, x.c, x.t, x.m, x.f, x.b⟩ :: B) := by
  subst hA
  have hl := ecells_len A
  rw [ecells_append, ecells_append, List.set_append_right _ _ (by omega), hl, show A.length * 7 + 1 - A.length * 7 = 1 by omega]
  simp [ecells, Ev.cells]
theorem ecells_set2 (A B : List Ev) (x : Ev) (n : Int) {k : Nat} (hA : A.length = k) : (ecells (A ++ x :: B)).set (k * 7 + 2) (.int .i64 n) = ecells (A ++ ⟨x.k, x.y, n, x.t, x.m, x.f, x.b⟩ :: B) := by
  subst hA
  have hl := ecells_len A
  rw [ecells_append, ecells_append, List.set_append_right _ _ (by omega), hl, show A.length * 7 + 2 - A.length * 7 = 2 by omega]
  simp [ecells, Ev.cells]
theorem ecells_set3 (A B : List Ev) (x : Ev) (n : Int) {k : Nat} (hA : A.length = k) : (ecells (A ++ x :: B)).set (k * 7 + 3) (.int .i64 n) = ecells (A ++ ⟨x.k, x.y, x.c, n, x.m, x.f, x.b⟩ :: B) := by
  subst hA
  have hl := ecells_len A
  rw [ecells_append, ecells_append, List.set_append_right _ _ (by omega), hl, show A.length * 7 + 3 - A.length * 7 = 3 by omega]
  simp [ecells, Ev.cells]
theorem ecells_set4 (A B : List Ev) (x : Ev) (n : Int) {k : Nat} (hA : A.length = k) : (ecells (A ++ x :: B)).set (k * 7 + 4) (.int .i64 n) = ecells (A ++ ⟨x.k, x.y, x.c, x.t, n, x.f, x.b⟩ :: B) := by
  subst hA
  have hl := ecells_len A
  rw [ecells_append, ecells_append, List.set_append_right _ _ (by omega), hl, show A.length * 7 + 4 - A.length * 7 = 4 by omega]
  simp [ecells, Ev.cells]
theorem ecells_set5 (A B : List Ev) (x : Ev) (n : Int) {k : Nat} (hA : A.length = k) : (ecells (A ++ x :: B)).set (k * 7 + 5) (.int .i64 n) = ecells (A ++ ⟨x.k, x.y, x.c, x.t, x.m, n, x.b⟩ :: B) := by
  subst hA
  have hl := ecells_len A
  rw [ecells_append, ecells_append, List.set_append_right _ _ (by omega), hl, show A.length * 7 + 5 - A.length * 7 = 5 by omega]
  simp [ecells, Ev.cells]
theorem ecells_set6 (A B : List Ev) (x : Ev) (n : Bool) {k : Nat} (hA : A.length = k) : (ecells (A ++ x :: B)).set (k * 7 + 6) (.bool n) = ecells (A ++ ⟨x.k, x.y, x.c, x.t, x.m, x.f, n⟩ :: B) := by
  subst hA
  have hl := ecells_len A
  rw [ecells_append, ecells_append, List.set_append_right _ _ (by omega), hl, show A.length * 7 + 6 - A.length * 7 = 6 by omega]
  simp [ecells, Ev.cells]
set_option maxHeartbeats 16000000 in
theorem markEventS_k (a : Option Addr) (cap : Nat) (ds : List Ev) (n : Nat) (w : World) (h : Own w [(a, ecells ds)]) (hl : ds.length ≤ 1048576) (hn : n ≤ 1000000000) :
    Calls Tryz.prog 27 #[.slice a ds.length cap, .int .i64 (n : Int)] w fun e w' => e = .returned (.int .i64 ((n + 7 * ds.length : Nat) : Int)) ∧ Own w' [(a, ecells (markE n ds.length))] ∧ Turn (fp [(a, ecells ds)]) w w' := by
  have HO := hide h
  clear h
  go_enter Tryz.func27, Tryz.ntmps27
  go_wp2_with fail
  go_loopw [1, 5] (fun x y wr => ∃ (k z : Nat), k ≤ ds.length ∧ Hid (n + 7 * k = z) ∧ x = .int .i64 (z : Int) ∧ y = .int .i64 (k : Int) ∧ Hid (Own wr [(a, ecells (markE n k ++ ds.drop k))]) ∧ Hid (Turn (fp [(a, ecells ds)]) w wr)) (fun _ y _ => ds.length - (intOf y).toNat)
  case atStart => exact ⟨0, n, by omega, by show _ = _; simp, rfl, rfl, by show Own _ _; simpa [markE] using HO.out, Turn.refl _ _⟩
  case round =>
    obtain ⟨k, z, hk, HZ, rfl, rfl, HO0, HT⟩ := hrel
    by_cases hlt : k < ds.length
    · have hz : z ≤ 1200000000 := by have := HZ.out; omega
      have HDr : Hid (ds.drop k = ds[k] :: ds.drop (k + 1)) := List.drop_eq_getElem_cons hlt
      have HLA : Hid ((markE n k).length = k) := markE_len n k
      have HTk : Hid (markE n (k + 1) ++ ds.drop (k + 1) = markE n k ++ Ev.mk ((z : Int)) ((z : Int) + 1) ((z : Int) + 1 + 1) ((z : Int) + 1 + 1 + 1) ((z : Int) + 1 + 1 + 1 + 1) ((z : Int) + 1 + 1 + 1 + 1 + 1) (decide ((z + 1 + 1 + 1 + 1 + 1 + 1) % 3 = 0)) :: ds.drop (k + 1)) := by
        show _ = _
        rw [markE_succ, ← HZ.out, List.append_assoc]; rfl
      have HZn : Hid (n + 7 * (k + 1) = z + 7) := by show _ = _; have := HZ.out; omega
      have HFE : Hid (fp [(a, ecells (markE n k ++ ds.drop k))] = fp [(a, ecells ds)]) := by
        show _ = _
        rw [fp_one, fp_one]
        exact fpS_len (by rw [ecells_len, ecells_len, List.length_append, HLA.out, List.length_drop]; congr 1; omega)
      rw [HDr.out] at HO0 HFE
      generalize ds[k] = c at *
      obtain ⟨ek, ey, ec, et, em, ef, eb⟩ := c
      generalize markE n k = A at *
      generalize hB : ds.drop (k + 1) = B at *
      have HBB := hide hB
      clear hB HZ
      have hcl : Cells wr a (ecells (A ++ Ev.mk ek ey ec et em ef eb :: B)) := HO0.out.mem (a, ecells (A ++ Ev.mk ek ey ec et em ef eb :: B)) (by simp)
      have hkl : k < (A ++ Ev.mk ek ey ec et em ef eb :: B).length := by have := HLA.out; simp; omega
      obtain ⟨b, off, ea, c0, c1, c2, c3, c4, c5, c6⟩ := cell7 hcl k hkl
      subst ea
      have he : (A ++ Ev.mk ek ey ec et em ef eb :: B)[k] = Ev.mk ek ey ec et em ef eb := by
        rw [List.getElem_append_right (by have := HLA.out; omega)]
        simp [HLA.out]
      rw [he] at c0 c1 c2 c3 c4 c5 c6
      dsimp only at c0 c1 c2 c3 c4 c5 c6
      have hne0 : ecells (A ++ Ev.mk ek ey ec et em ef eb :: B) ≠ [] := fun e => by
        have := ecells_len (A ++ Ev.mk ek ey ec et em ef eb :: B)
        rw [e] at this
        simp at this
      have hfp : fp [((some (⟨b, off, none⟩ : Addr)), ecells (A ++ Ev.mk ek ey ec et em ef eb :: B))] = [b] := by rw [fp_one, fpS_some hne0]
      have f0 : ∀ o, wr.frozen? ⟨b, o, none⟩ = false := HO0.out.free b (by rw [hfp]; simp)
      have z0 := f0 (off + k * 7)
      have z1 := f0 (off + k * 7 + 1)
      have z2 := f0 (off + k * 7 + 2)
      have z3 := f0 (off + k * 7 + 3)
      have z4 := f0 (off + k * 7 + 4)
      have z5 := f0 (off + k * 7 + 5)
      have z6 := f0 (off + k * 7 + 6)
      have HO1 : Hid (Own (wr.setCell ⟨b, off + k * 7, none⟩ (.int .i64 ((z : Int)))) [(some ⟨b, off, none⟩, ecells (A ++ Ev.mk ((z : Int)) ey ec et em ef eb :: B))]) := by
        have h1 := HO0.out.setCell (k * 7) (.int .i64 ((z : Int))) (by rw [ecells_len]; have := HLA.out; simp; omega)
        rw [ecells_set0 A B _ _ HLA.out] at h1
        exact h1
      have HO2 : Hid (Own ((wr.setCell ⟨b, off + k * 7, none⟩ (.int .i64 ((z : Int)))).setCell ⟨b, off + k * 7 + 1, none⟩ (.int .i64 ((z : Int) + 1))) [(some ⟨b, off, none⟩, ecells (A ++ Ev.mk ((z : Int)) ((z : Int) + 1) ec et em ef eb :: B))]) := by
        have h1 := HO1.out.setCell (k * 7 + 1) (.int .i64 ((z : Int) + 1)) (by rw [ecells_len]; have := HLA.out; simp; omega)
        rw [ecells_set1 A B _ _ HLA.out] at h1
        rw [← Nat.add_assoc] at h1
        exact h1
      have HO3 : Hid (Own (((wr.setCell ⟨b, off + k * 7, none⟩ (.int .i64 ((z : Int)))).setCell ⟨b, off + k * 7 + 1, none⟩ (.int .i64 ((z : Int) + 1))).setCell ⟨b, off + k * 7 + 2, none⟩ (.int .i64 ((z : Int) + 1 + 1))) [(some ⟨b, off, none⟩, ecells (A ++ Ev.mk ((z : Int)) ((z : Int) + 1) ((z : Int) + 1 + 1) et em ef eb :: B))]) := by
        have h1 := HO2.out.setCell (k * 7 + 2) (.int .i64 ((z : Int) + 1 + 1)) (by rw [ecells_len]; have := HLA.out; simp; omega)
        rw [ecells_set2 A B _ _ HLA.out] at h1
        rw [← Nat.add_assoc] at h1
        exact h1
      have HO4 : Hid (Own ((((wr.setCell ⟨b, off + k * 7, none⟩ (.int .i64 ((z : Int)))).setCell ⟨b, off + k * 7 + 1, none⟩ (.int .i64 ((z : Int) + 1))).setCell ⟨b, off + k * 7 + 2, none⟩ (.int .i64 ((z : Int) + 1 + 1))).setCell ⟨b, off + k * 7 + 3, none⟩ (.int .i64 ((z : Int) + 1 + 1 + 1))) [(some ⟨b, off, none⟩, ecells (A ++ Ev.mk ((z : Int)) ((z : Int) + 1) ((z : Int) + 1 + 1) ((z : Int) + 1 + 1 + 1) em ef eb :: B))]) := by
        have h1 := HO3.out.setCell (k * 7 + 3) (.int .i64 ((z : Int) + 1 + 1 + 1)) (by rw [ecells_len]; have := HLA.out; simp; omega)
        rw [ecells_set3 A B _ _ HLA.out] at h1
        rw [← Nat.add_assoc] at h1
        exact h1
      have HO5 : Hid (Own (((((wr.setCell ⟨b, off + k * 7, none⟩ (.int .i64 ((z : Int)))).setCell ⟨b, off + k * 7 + 1, none⟩ (.int .i64 ((z : Int) + 1))).setCell ⟨b, off + k * 7 + 2, none⟩ (.int .i64 ((z : Int) + 1 + 1))).setCell ⟨b, off + k * 7 + 3, none⟩ (.int .i64 ((z : Int) + 1 + 1 + 1))).setCell ⟨b, off + k * 7 + 4, none⟩ (.int .i64 ((z : Int) + 1 + 1 + 1 + 1))) [(some ⟨b, off, none⟩, ecells (A ++ Ev.mk ((z : Int)) ((z : Int) + 1) ((z : Int) + 1 + 1) ((z : Int) + 1 + 1 + 1) ((z : Int) + 1 + 1 + 1 + 1) ef eb :: B))]) := by
        have h1 := HO4.out.setCell (k * 7 + 4) (.int .i64 ((z : Int) + 1 + 1 + 1 + 1)) (by rw [ecells_len]; have := HLA.out; simp; omega)
        rw [ecells_set4 A B _ _ HLA.out] at h1
        rw [← Nat.add_assoc] at h1
        exact h1
      have HO6 : Hid (Own ((((((wr.setCell ⟨b, off + k * 7, none⟩ (.int .i64 ((z : Int)))).setCell ⟨b, off + k * 7 + 1, none⟩ (.int .i64 ((z : Int) + 1))).setCell ⟨b, off + k * 7 + 2, none⟩ (.int .i64 ((z : Int) + 1 + 1))).setCell ⟨b, off + k * 7 + 3, none⟩ (.int .i64 ((z : Int) + 1 + 1 + 1))).setCell ⟨b, off + k * 7 + 4, none⟩ (.int .i64 ((z : Int) + 1 + 1 + 1 + 1))).setCell ⟨b, off + k * 7 + 5, none⟩ (.int .i64 ((z : Int) + 1 + 1 + 1 + 1 + 1))) [(some ⟨b, off, none⟩, ecells (A ++ Ev.mk ((z : Int)) ((z : Int) + 1) ((z : Int) + 1 + 1) ((z : Int) + 1 + 1 + 1) ((z : Int) + 1 + 1 + 1 + 1) ((z : Int) + 1 + 1 + 1 + 1 + 1) eb :: B))]) := by
        have h1 := HO5.out.setCell (k * 7 + 5) (.int .i64 ((z : Int) + 1 + 1 + 1 + 1 + 1)) (by rw [ecells_len]; have := HLA.out; simp; omega)
        rw [ecells_set5 A B _ _ HLA.out] at h1
        rw [← Nat.add_assoc] at h1
        exact h1
      have HO7 : Hid (Own (((((((wr.setCell ⟨b, off + k * 7, none⟩ (.int .i64 ((z : Int)))).setCell ⟨b, off + k * 7 + 1, none⟩ (.int .i64 ((z : Int) + 1))).setCell ⟨b, off + k * 7 + 2, none⟩ (.int .i64 ((z : Int) + 1 + 1))).setCell ⟨b, off + k * 7 + 3, none⟩ (.int .i64 ((z : Int) + 1 + 1 + 1))).setCell ⟨b, off + k * 7 + 4, none⟩ (.int .i64 ((z : Int) + 1 + 1 + 1 + 1))).setCell ⟨b, off + k * 7 + 5, none⟩ (.int .i64 ((z : Int) + 1 + 1 + 1 + 1 + 1))).setCell ⟨b, off + k * 7 + 6, none⟩ (.bool (decide ((z + 1 + 1 + 1 + 1 + 1 + 1) % 3 = 0)))) [(some ⟨b, off, none⟩, ecells (A ++ Ev.mk ((z : Int)) ((z : Int) + 1) ((z : Int) + 1 + 1) ((z : Int) + 1 + 1 + 1) ((z : Int) + 1 + 1 + 1 + 1) ((z : Int) + 1 + 1 + 1 + 1 + 1) (decide ((z + 1 + 1 + 1 + 1 + 1 + 1) % 3 = 0)) :: B))]) := by
        have h1 := HO6.out.setCell (k * 7 + 6) (.bool (decide ((z + 1 + 1 + 1 + 1 + 1 + 1) % 3 = 0))) (by rw [ecells_len]; have := HLA.out; simp; omega)
        rw [ecells_set6 A B _ _ HLA.out] at h1
        rw [← Nat.add_assoc] at h1
        exact h1
      have d1 : (wr.setCell ⟨b, off + k * 7, none⟩ (.int .i64 ((z : Int)))).cell? ⟨b, off + k * 7 + 1, none⟩ = some (.int .i64 ey) := by
        rw [World.cell?_setCell_other _ _ _ _ (by simp)]; exact c1
      have d2 : ((wr.setCell ⟨b, off + k * 7, none⟩ (.int .i64 ((z : Int)))).setCell ⟨b, off + k * 7 + 1, none⟩ (.int .i64 ((z : Int) + 1))).cell? ⟨b, off + k * 7 + 2, none⟩ = some (.int .i64 ec) := by
        rw [World.cell?_setCell_other _ _ _ _ (by simp), World.cell?_setCell_other _ _ _ _ (by simp)]; exact c2
      have d3 : (((wr.setCell ⟨b, off + k * 7, none⟩ (.int .i64 ((z : Int)))).setCell ⟨b, off + k * 7 + 1, none⟩ (.int .i64 ((z : Int) + 1))).setCell ⟨b, off + k * 7 + 2, none⟩ (.int .i64 ((z : Int) + 1 + 1))).cell? ⟨b, off + k * 7 + 3, none⟩ = some (.int .i64 et) := by
        rw [World.cell?_setCell_other _ _ _ _ (by simp), World.cell?_setCell_other _ _ _ _ (by simp), World.cell?_setCell_other _ _ _ _ (by simp)]; exact c3
      have d4 : ((((wr.setCell ⟨b, off + k * 7, none⟩ (.int .i64 ((z : Int)))).setCell ⟨b, off + k * 7 + 1, none⟩ (.int .i64 ((z : Int) + 1))).setCell ⟨b, off + k * 7 + 2, none⟩ (.int .i64 ((z : Int) + 1 + 1))).setCell ⟨b, off + k * 7 + 3, none⟩ (.int .i64 ((z : Int) + 1 + 1 + 1))).cell? ⟨b, off + k * 7 + 4, none⟩ = some (.int .i64 em) := by
        rw [World.cell?_setCell_other _ _ _ _ (by simp), World.cell?_setCell_other _ _ _ _ (by simp), World.cell?_setCell_other _ _ _ _ (by simp), World.cell?_setCell_other _ _ _ _ (by simp)]; exact c4
      have d5 : (((((wr.setCell ⟨b, off + k * 7, none⟩ (.int .i64 ((z : Int)))).setCell ⟨b, off + k * 7 + 1, none⟩ (.int .i64 ((z : Int) + 1))).setCell ⟨b, off + k * 7 + 2, none⟩ (.int .i64 ((z : Int) + 1 + 1))).setCell ⟨b, off + k * 7 + 3, none⟩ (.int .i64 ((z : Int) + 1 + 1 + 1))).setCell ⟨b, off + k * 7 + 4, none⟩ (.int .i64 ((z : Int) + 1 + 1 + 1 + 1))).cell? ⟨b, off + k * 7 + 5, none⟩ = some (.int .i64 ef) := by
        rw [World.cell?_setCell_other _ _ _ _ (by simp), World.cell?_setCell_other _ _ _ _ (by simp), World.cell?_setCell_other _ _ _ _ (by simp), World.cell?_setCell_other _ _ _ _ (by simp), World.cell?_setCell_other _ _ _ _ (by simp)]; exact c5
      have d6 : ((((((wr.setCell ⟨b, off + k * 7, none⟩ (.int .i64 ((z : Int)))).setCell ⟨b, off + k * 7 + 1, none⟩ (.int .i64 ((z : Int) + 1))).setCell ⟨b, off + k * 7 + 2, none⟩ (.int .i64 ((z : Int) + 1 + 1))).setCell ⟨b, off + k * 7 + 3, none⟩ (.int .i64 ((z : Int) + 1 + 1 + 1))).setCell ⟨b, off + k * 7 + 4, none⟩ (.int .i64 ((z : Int) + 1 + 1 + 1 + 1))).setCell ⟨b, off + k * 7 + 5, none⟩ (.int .i64 ((z : Int) + 1 + 1 + 1 + 1 + 1))).cell? ⟨b, off + k * 7 + 6, none⟩ = some (.bool eb) := by
        rw [World.cell?_setCell_other _ _ _ _ (by simp), World.cell?_setCell_other _ _ _ _ (by simp), World.cell?_setCell_other _ _ _ _ (by simp), World.cell?_setCell_other _ _ _ _ (by simp), World.cell?_setCell_other _ _ _ _ (by simp), World.cell?_setCell_other _ _ _ _ (by simp)]; exact c6
      have hm3 : (((z : Int) + 1 + 1 + 1 + 1 + 1 + 1) % 3 == 0) = decide ((z + 1 + 1 + 1 + 1 + 1 + 1) % 3 = 0) := by
        by_cases h3 : (z + 1 + 1 + 1 + 1 + 1 + 1) % 3 = 0
        · rw [decide_eq_true h3]; simp; omega
        · rw [decide_eq_false h3]; simp; omega
      have HTw : Hid (Turn (fp [((some (⟨b, off, none⟩ : Addr)), ecells ds)]) w (((((((wr.setCell ⟨b, off + k * 7, none⟩ (.int .i64 ((z : Int)))).setCell ⟨b, off + k * 7 + 1, none⟩ (.int .i64 ((z : Int) + 1))).setCell ⟨b, off + k * 7 + 2, none⟩ (.int .i64 ((z : Int) + 1 + 1))).setCell ⟨b, off + k * 7 + 3, none⟩ (.int .i64 ((z : Int) + 1 + 1 + 1))).setCell ⟨b, off + k * 7 + 4, none⟩ (.int .i64 ((z : Int) + 1 + 1 + 1 + 1))).setCell ⟨b, off + k * 7 + 5, none⟩ (.int .i64 ((z : Int) + 1 + 1 + 1 + 1 + 1))).setCell ⟨b, off + k * 7 + 6, none⟩ (.bool (decide ((z + 1 + 1 + 1 + 1 + 1 + 1) % 3 = 0))))) := by
        have h2 : Turn [b] wr (((((((wr.setCell ⟨b, off + k * 7, none⟩ (.int .i64 ((z : Int)))).setCell ⟨b, off + k * 7 + 1, none⟩ (.int .i64 ((z : Int) + 1))).setCell ⟨b, off + k * 7 + 2, none⟩ (.int .i64 ((z : Int) + 1 + 1))).setCell ⟨b, off + k * 7 + 3, none⟩ (.int .i64 ((z : Int) + 1 + 1 + 1))).setCell ⟨b, off + k * 7 + 4, none⟩ (.int .i64 ((z : Int) + 1 + 1 + 1 + 1))).setCell ⟨b, off + k * 7 + 5, none⟩ (.int .i64 ((z : Int) + 1 + 1 + 1 + 1 + 1))).setCell ⟨b, off + k * 7 + 6, none⟩ (.bool (decide ((z + 1 + 1 + 1 + 1 + 1 + 1) % 3 = 0)))) := (((((((Turn.set (by simp) _).trans' (Turn.set (by simp) _)).trans' (Turn.set (by simp) _)).trans' (Turn.set (by simp) _)).trans' (Turn.set (by simp) _)).trans' (Turn.set (by simp) _)).trans' (Turn.set (by simp) _))
        rw [← HFE.out, hfp] at HT ⊢
        exact HT.out.trans' h2
      clear HO0 HO1 HO2 HO3 HO4 HO5 HO6 hcl he f0 HT HFE hfp
      go_wp2_with fail
      go_roundw
      case rel => exact ⟨k + 1, z + 7, by omega, HZn, congrArg (Value.int .i64) (by omega), by go_num, (by show Own _ _; rw [HBB.out, HTk.out]; exact HO7.out), HTw⟩
      case measure => simp [intOf]; omega
    · have e : k = ds.length := by omega
      subst e
      have HZ2 := hide HZ.out
      go_wp2_with fail
      go_ret
      have h2 := HO0.out
      rw [List.drop_length, List.append_nil] at h2
      exact ⟨by rw [HZ2.out]; rfl, h2, HT.out⟩
set_option maxHeartbeats 8000000 in
theorem heldEventS_k (a : Option Addr) (cap : Nat) (len n : Nat) (w : World) (hc : Cells w a (ecells (markE n len))) (hl : len ≤ 1048576) (hn : n ≤ 1000000000) :
    Calls Tryz.prog 29 #[.slice a len cap, .int .i64 (n : Int)] w fun e w' => e = .returned (.int .i64 ((n + 7 * len : Nat) : Int)) ∧ w' = w := by
  have HC := hide hc
  clear hc
  go_enter Tryz.func29, Tryz.ntmps29
  go_wp2_with fail
  go_loop [1, 5] (fun x y => ∃ (k z : Nat), k ≤ len ∧ Hid (n + 7 * k = z) ∧ x = .int .i64 (z : Int) ∧ y = .int .i64 (k : Int)) (fun _ y => len - (intOf y).toNat)
  case atStart => exact ⟨0, n, by omega, by show _ = _; simp, rfl, rfl⟩
  case round =>
    obtain ⟨k, z, hk, HZ, rfl, rfl⟩ := hrel
    by_cases hlt : k < len
    · have hz : z ≤ 1200000000 := by have := HZ.out; omega
      have HZn : Hid (n + 7 * (k + 1) = z + 7) := by show _ = _; have := HZ.out; omega
      obtain ⟨b, off, ea, c0, c1, c2, c3, c4, c5, c6⟩ := cell7 HC.out k (by rw [markE_len]; exact hlt)
      have e : (markE n len)[k]'(by rw [markE_len]; exact hlt) = markEv z := by simp [markE, HZ.out]
      rw [e] at c0 c1 c2 c3 c4 c5 c6
      dsimp only [markEv] at c0 c1 c2 c3 c4 c5 c6
      subst ea
      clear e HZ
      have hm3 : (((z : Int) + 1 + 1 + 1 + 1 + 1 + 1) % 3 == 0) = decide ((z + 1 + 1 + 1 + 1 + 1 + 1) % 3 = 0) := by
        by_cases h3 : (z + 1 + 1 + 1 + 1 + 1 + 1) % 3 = 0
        · rw [decide_eq_true h3]; simp; omega
        · rw [decide_eq_false h3]; simp; omega
      obtain ⟨q, hq⟩ : ∃ q, decide ((z + 1 + 1 + 1 + 1 + 1 + 1) % 3 = 0) = q := ⟨_, rfl⟩
      rw [hq] at c6 hm3
      clear hq
      cases q
      all_goals
        go_wp2_with fail
        go_round
        case rel => exact ⟨k + 1, z + 7, by omega, HZn, congrArg (Value.int .i64) (by omega), by go_num⟩
        case measure => simp [intOf]; omega
    · have e : k = len := by omega
      subst e
      have HZ2 := hide HZ.out
      go_wp2_with fail
      go_ret
      exact ⟨congrArg (fun y : Int => Ending.returned (Value.int .i64 y)) (show ((z : Nat) : Int) = _ by have := HZ2.out; omega), rfl⟩
end Go.Proofs.YtmkhlhjggbencaaGreatDoor

/- What the listed sentinels give. -/
namespace Go.Proofs.YtmkhlhjggbencaaGreatDoor
open Go.RowKit Go.ChangeShapes

theorem cells96 : Tryz.prog.cellsOf 191 = 1 := by kernel_rfl
theorem cells9 : Tryz.prog.cellsOf 9 = 1 := by kernel_rfl
theorem star : "*" ++ "errors.errorString" = "*errors.errorString" := by decide
theorem row94 (u : TypeId) (h : Tryz.prog.typeName? 3 u = some "*errors.errorString") : u = 172 :=
  typeName_ptr_named (nm := "errors.errorString") (by rw [star]; kernel_rfl) (by kernel_rfl) (by decide) u (by rw [star]; exact h)

/-- The head of the list, a sentinel: its variable holds a pointer. -/
theorem sent {n : String} {text : List UInt8} {r : List (String × DataW Unit)} {W : World} {g : Nat} (h : laidMet Tryz.prog ((n, .iface "*errors.errorString" (.ptr (.agg [.lit (.string text)]))) :: r) W)
    (hg : Tryz.prog.globalNamed n = some g) (ht : (Tryz.prog.globals[g]?).map (·.type) = some 167) : ∃ a : Addr, W.var? Tryz.prog n = some #[.iface 172 (.pointer (some a))] := by
  obtain ⟨a, _, h, _⟩ := laid_sentinel h hg ht Tryz.underlying167 row94 Tryz.underlying172 Tryz.underlying191 rfl rfl Tryz.underlying9 cells96 cells9
  exact ⟨a, h⟩
theorem vars_read3 {H : Type} (enc : TypeId × Value → H) {W : World} {n0 n1 n2 : String} {g0 g1 g2 : Nat} {x0 x1 x2 : Value}
    (hg0 : Tryz.prog.globalNamed n0 = some g0) (ht0 : (Tryz.prog.globals[g0]?).map (·.type) = some 167) (h0 : W.var? Tryz.prog n0 = some #[x0]) (i0 : IsIface x0)
    (hg1 : Tryz.prog.globalNamed n1 = some g1) (ht1 : (Tryz.prog.globals[g1]?).map (·.type) = some 167) (h1 : W.var? Tryz.prog n1 = some #[x1]) (i1 : IsIface x1)
    (hg2 : Tryz.prog.globalNamed n2 = some g2) (ht2 : (Tryz.prog.globals[g2]?).map (·.type) = some 167) (h2 : W.var? Tryz.prog n2 = some #[x2]) (i2 : IsIface x2) (sp : Nat → Bool) :
    DataW.TrodVars enc Tryz.prog W sp [n0, n1, n2] [tok enc x0, tok enc x1, tok enc x2] [.cell g0 0, .cell g1 0, .cell g2 0] :=
  ⟨g0, 167, #[x0], 1, [], [.cell g1 0, .cell g2 0], hg0, ht0, h0, trod_held Tryz.underlying167 i0 0, ⟨g1, 167, #[x1], 1, [], [.cell g2 0], hg1, ht1, h1, trod_held Tryz.underlying167 i1 0, ⟨g2, 167, #[x2], 1, [], [], hg2, ht2, h2, trod_held Tryz.underlying167 i2 0, rfl, rfl⟩, rfl⟩, rfl⟩
end Go.Proofs.YtmkhlhjggbencaaGreatDoor
