/- Texts of the verifier, joined: SRW, LTs, LRs, LTi. -/
import Derived.Test.YtkdnddckogbgaaaGreatDoorFO28
import Derived.Test.YtkdnddckogbgaaaGreatDoorFO20
import Derived.Lib.AppendZeros
namespace Go.Proofs.YtkdnddckogbgaaaGreatDoor
open Go.RowKit Go.Deep
set_option linter.unusedVariables false
set_option linter.unusedSimpArgs false
theorem getV_nat (L : List UInt8) (p s : Int) : ∃ n : Nat, getV L p s = (n : Nat) := by
  unfold getV
  split
  · exact ⟨_, rfl⟩
  · exact ⟨0, rfl⟩
theorem sec_byte7 {q e : Nat} {L : List UInt8} (h : secL q e [] = L) : numL (cut L 7 1) = 0 := by
  have e1 : secL q e [] = ([74] ++ digs q 3 ++ digs e 3) ++ ([0] ++ (List.replicate 114 0 ++ digs q 3 ++ digs e 3)) := by
    unfold secL
    rw [show digs ([] : List UInt8).length 1 = [0] from rfl]
    simp [List.append_assoc]
  rw [← h, e1]
  unfold cut
  rw [List.drop_append_of_le_length (by simp [digs_length]), List.drop_of_length_le (by simp [digs_length])]
  simp [numL]
theorem secread_spec (b off : Nat) (L : List UInt8) (cap : Nat) (w : World) (hc : Cells w (some ⟨b, off, none⟩) (bys L)) (hl : L.length ≤ 16777216) (hcap : L.length ≤ cap) (hcm : cap ≤ 9223372036854775807) :
    Calls Tryz.prog 42 #[.slice (some ⟨b, off, none⟩) L.length cap] w (SrPost w L) := by
  by_cases h128 : L.length = 128
  · have g1 : getV L 1 3 = (numL (cut L 1 3) : Nat) := getV_cut (p := 1) (s := 3) (by decide) (by decide) (by omega)
    have g2 : getV L 4 3 = (numL (cut L 4 3) : Nat) := getV_cut (p := 4) (s := 3) (by decide) (by decide) (by omega)
    have g3 : getV L 7 1 = (numL (cut L 7 1) : Nat) := getV_cut (p := 7) (s := 1) (by decide) (by decide) (by omega)
    by_cases hn : numL (cut L 7 1) ≤ 100
    · have hlen : (cut L 8 (numL (cut L 7 1))).length = numL (cut L 7 1) := cut_length (by omega)
      have ha := sec_again h128 rfl hn
      cases hok : secB (numL (cut L 1 3) : Nat) (numL (cut L 4 3) : Nat) (cut L 8 (numL (cut L 7 1))).length
      · have hsr : srB L = false := by unfold srB; rw [← hlen, hok, Bool.and_false]
        exact secspec_b_ok b off L cap w hc hl _ _ _ g1 g2 g3 hn h128 hcap hcm hok hsr
      · have hR : secR (numL (cut L 1 3) : Nat) (numL (cut L 4 3) : Nat) (cut L 8 (numL (cut L 7 1))) = secL (numL (cut L 1 3)) (numL (cut L 4 3)) (cut L 8 (numL (cut L 7 1))) := by unfold secR; rw [if_pos hok]; simp
        have hok' := hok
        rw [hlen] at hok'
        by_cases hh : numL (cut L 0 1) = 74 ∧ cut L (8 + numL (cut L 7 1)) (114 - numL (cut L 7 1)) = List.replicate (114 - numL (cut L 7 1)) 0 ∧ numL (cut L 122 3) = numL (cut L 1 3) ∧ numL (cut L 125 3) = numL (cut L 4 3)
        · have hsr : srB L = true := by
            unfold srB
            rw [hok', decide_eq_true h128, decide_eq_true hn, decide_eq_true hh.1, decide_eq_true hh.2.1, decide_eq_true hh.2.2.1, decide_eq_true hh.2.2.2]; rfl
          exact secspec_b_yes b off L cap w hc hl _ _ _ g1 g2 g3 hn h128 hcap hcm hok (hR.trans (ha.2 hh)) hsr rfl rfl rfl
        · have hsr : srB L = false := by
            rw [Bool.eq_false_iff]
            intro h
            unfold srB at h
            simp only [Bool.and_eq_true, decide_eq_true_eq] at h
            exact hh ⟨h.1.1.1.1.1.2, h.1.1.1.2, h.1.1.2, h.1.2⟩
          exact secspec_b_ne b off L cap w hc hl _ _ _ g1 g2 g3 hn h128 hcap hcm hok (fun e => hh (ha.1 (hR.symm.trans e))) hsr
    · have hsr : srB L = false := by
        rw [Bool.eq_false_iff]
        intro h
        unfold srB at h
        simp only [Bool.and_eq_true, decide_eq_true_eq] at h
        exact hn h.1.1.1.1.2
      cases hok : secB (numL (cut L 1 3) : Nat) (numL (cut L 4 3) : Nat) ([] : List UInt8).length
      · exact secspec_n_ok b off L cap w hc hl _ _ _ g1 g2 g3 (fun h => hn h.1) hok hsr
      · refine secspec_n_ne b off L cap w hc hl _ _ _ g1 g2 g3 (fun h => hn h.1) hok (fun e => hn ?_) hsr
        have hR : secR (numL (cut L 1 3) : Nat) (numL (cut L 4 3) : Nat) [] = secL (numL (cut L 1 3)) (numL (cut L 4 3)) [] := by unfold secR; rw [if_pos hok]; simp
        have := sec_byte7 (hR.symm.trans e)
        omega
  · have hsr : srB L = false := by unfold srB; rw [decide_eq_false h128]; rfl
    obtain ⟨q, g1⟩ := getV_nat L 1 3
    obtain ⟨e, g2⟩ := getV_nat L 4 3
    obtain ⟨n, g3⟩ := getV_nat L 7 1
    cases hok : secB (q : Int) (e : Int) ([] : List UInt8).length
    · exact secspec_n_ok b off L cap w hc hl _ _ _ g1 g2 g3 (fun h => h128 h.2) hok hsr
    · refine secspec_n_ne b off L cap w hc hl _ _ _ g1 g2 g3 (fun h => h128 h.2) hok (fun e => h128 ?_) hsr
      rw [← e]
      unfold secR
      rw [if_pos hok, secL_length (by simp)]
end Go.Proofs.YtkdnddckogbgaaaGreatDoor
namespace Go.Proofs.YtkdnddckogbgaaaGreatDoor
open Go.RowKit Go.Deep
set_option linter.unusedVariables false
set_option maxRecDepth 10000

/-- SectorRead of the model, of a whole sector that the call itself made. -/
theorem secspec_own (v : Value) (L : List UInt8) (base : Nat) (w : World) (ho : OwnsB w base v L) (hl : L.length = 128) :
    Calls Tryz.prog 42 #[v] w (SrPost w L) := by
  obtain ⟨a, cap, e1, e2, e3, e4, e5, _⟩ := Own.of_owns ho
  have hc := e5.one
  rcases ho.2 with ⟨rfl, _⟩ | ⟨g, c, _, rfl, _⟩
  · injection e1 with e6 e7 e8
    omega
  · injection e1 with e6 e7 e8
    rw [← e6] at hc
    rw [← e8] at e2 e3
    exact secread_spec g 0 L c w hc (by omega) e2 (Nat.le_trans e3 (by decide))
theorem readL_full {m : DkM} {i : Int} (h : readB m i = true) : (readL m i).length = 128 := by
  unfold readL
  rw [if_pos h]
  simp only [readB, Bool.and_eq_true, decide_eq_true_eq] at h
  obtain ⟨hd, h0, h1⟩ := h
  cases hl : lastD m.dirty i with
  | some L =>
    obtain ⟨x, hx, rfl⟩ := lastD_mem _ _ hl
    exact (dokM_dirty hd hx).2.2
  | none =>
    simp only [Option.getD_none]
    have hx : i.toNat < m.cells.length := by omega
    have hc := dokM_cell hd (L := m.cells.getD i.toNat []) (by simp [List.getD, hx])
    unfold fullL
    split
    · simp
    · next hne =>
      rcases hc with hc | hc
      · exact absurd (List.length_eq_zero_iff.1 hc) hne
      · exact hc
set_option maxHeartbeats 8000000 in
theorem logtop_spec (ca : Option Addr) (cc : Nat) (cs : List Bs) (da : Option Addr) (dc : Nat) (ds : List Wr) (w : World) (hm : Mem w (dsk ca cs da ds)) (h : DOk cs ds) :
    Calls Tryz.prog 10 #[dskV ca cs.length cc da ds.length dc] w fun e w' => e = .returned (.int .i64 (topM (dat cs ds))) ∧ Keeps w w' := by
  have HKA := hide (Keeps.alloc (Keeps.refl w) (.cells #[.slice ca cs.length cc, .slice da ds.length dc] 26))
  have HM := hide (hm.kept HKA.out)
  have HDO := hide h
  have hcl := h.c
  have HD : Hid (∀ w', Keeps (w.alloc (.cells #[.slice ca cs.length cc, .slice da ds.length dc] 26)) w' → w'.cell? ⟨w.heap.size, 0, none⟩ = some (.slice ca cs.length cc) ∧ w'.cell? ⟨w.heap.size, 1, none⟩ = some (.slice da ds.length dc)) :=
    fun w' hk => ⟨hk.cell (by simp), hk.cell (by simp)⟩
  have HT := hide (diskok_spec' ca cc cs da dc ds _ HM.out h)
  obtain ⟨b, hbb⟩ : ∃ b, dokM (dat cs ds) = b := ⟨_, rfl⟩
  rw [hbb] at HT
  have HBB := hide hbb
  clear hm h hbb
  go_enter Tryz.func10, Tryz.ntmps10
  go_wp2_with fail
  generalize w.alloc (.cells #[.slice ca cs.length cc, .slice da ds.length dc] 26) = W0 at *
  refine (unhide HT).mono ?_
  rintro x w1 ⟨rfl, hk⟩
  obtain ⟨d0, d1⟩ := HD.out _ hk
  have HK1 := hide hk
  clear hk HT
  cases b
  · go_wp2_with fail
    go_ret
    exact ⟨by unfold topM; rw [topTo_bad HBB.out]; rfl, HKA.out.trans HK1.out⟩
  · go_wp2_with fail
    go_loopw [3, 4] (fun x y wr => ∃ k : Nat, k ≤ cs.length ∧ x = .int .i64 (topTo (dat cs ds) k) ∧ y = .int .i64 (k : Int) ∧ Hid (Keeps W0 wr)) (fun _ y _ => cs.length - (intOf y).toNat)
    case atStart => exact ⟨0, Nat.zero_le _, rfl, rfl, HK1⟩
    case round =>
      obtain ⟨k, hk, rfl, rfl, HKr⟩ := hrel
      clear d0 d1
      obtain ⟨d0, d1⟩ := HD.out _ HKr.out
      by_cases hlt : k < cs.length
      · have HR := hide (diskread_spec ca cc cs da dc ds (k : Nat) wr (HM.out.kept HKr.out) HDO.out)
        go_wp2_with fail
        refine (unhide HR).mono ?_
        rintro x w2 ⟨v, rfl, ho, hk2⟩
        have hrb : readB (dat cs ds) (k : Nat) = true := readB_in HBB.out (by omega) (by simp [dat]; omega)
        rw [hrb]
        have HS := hide (secspec_own v _ _ w2 ho (readL_full hrb))
        have HK2 := hide (HKr.out.trans hk2)
        clear ho hk2 HR d0 d1 hrb
        go_wp2_with fail
        refine (unhide HS).mono ?_
        rintro x w3 ⟨a, c, rfl, hac, hb, hk3⟩
        have HK3 := hide ((HK2.out.trans hk3).alloc (.cells #[.int .i64 (srQ (readL (dat cs ds) k)), .int .i64 (srE (readL (dat cs ds) k)), .slice a (srL (readL (dat cs ds) k)).length c] 72))
        clear hb hac hk3 HS
        cases hB : srB (readL (dat cs ds) k)
        · go_wp2_with fail
          go_roundw
          case rel => exact ⟨k + 1, by omega, by rw [topTo_skip hB], by go_num, HK3⟩
          case measure => simp [intOf]; omega
        · by_cases hgt : topTo (dat cs ds) k < srE (readL (dat cs ds) k)
          · go_wp2_with fail
            go_roundw
            case rel => exact ⟨k + 1, by omega, by rw [topTo_max hB, Int.max_eq_right (by omega)], by go_num, HK3⟩
            case measure => simp [intOf]; omega
          · go_wp2_with fail
            go_roundw
            case rel => exact ⟨k + 1, by omega, by rw [topTo_max hB, Int.max_eq_left (by omega)], by go_num, HK3⟩
            case measure => simp [intOf]; omega
      · have e : k = cs.length := by omega
        subst e
        go_wp2_with fail
        go_ret
        exact ⟨by simp [topM, dat], HKA.out.trans HKr.out⟩
end Go.Proofs.YtkdnddckogbgaaaGreatDoor
namespace Go.Proofs.YtkdnddckogbgaaaGreatDoor
open Go.RowKit Go.Deep
set_option linter.unusedVariables false
set_option maxRecDepth 10000

theorem LrPost.of {w w' : World} {m : DkM} {oa : Option Addr} {oc : Nat} {nb : List Sc} {k : Nat} (hl : nb.length = k) (h : LB 72 3 Sc.cells Sc.seg (w.heap.size + 1) w' (.slice oa k oc) nb) (hk : Keeps w w') (he : nb.map Sc.key = secsTo m k) (hn : logN m = k) : LrPost w m (.returned (.tuple #[.slice oa k oc, .int .i64 (k : Nat)])) w' := by
  subst hl
  obtain ⟨a, cap, e, hna, ho, hnew⟩ := h.born
  injection e with e1 _ e2
  subst e1 e2
  exact ⟨oa, oc, nb, by rw [hn], by unfold logS; rw [hn]; exact he, hna, ⟨ho, fun b hb => by have := hnew b hb; omega⟩, hk⟩
theorem ownsRow_plus {W : World} {base : Nat} {e : TypeId} {size : Nat} {v : Value} {k : Nat} {xs : List Value} (h : W.ownsRow base e size v (k + 1) xs) : ∃ g cap, v = .slice (some ⟨g, 0, none⟩) (k + 1) cap := by
  rcases h.2 with ⟨_, h0⟩ | ⟨g, cap, _, rfl, _⟩
  · omega
  · exact ⟨g, cap, rfl⟩
set_option maxHeartbeats 8000000 in
theorem logread_spec (ca : Option Addr) (cc : Nat) (cs : List Bs) (da : Option Addr) (dc : Nat) (ds : List Wr) (w : World) (hm : Mem w (dsk ca cs da ds)) (h : DOk cs ds) :
    Calls Tryz.prog 9 #[dskV ca cs.length cc da ds.length dc] w (LrPost w (dat cs ds)) := by
  have HKA := hide (Keeps.alloc (Keeps.refl w) (.cells #[.slice ca cs.length cc, .slice da ds.length dc] 26))
  have HM := hide (hm.kept HKA.out)
  have HDO := hide h
  have hcl := h.c
  have HSA : Hid ((w.alloc (.cells #[.slice ca cs.length cc, .slice da ds.length dc] 26)).heap.size = w.heap.size + 1) := by show _ = _; rw [World.size_alloc]
  have HD : Hid (∀ w', Keeps (w.alloc (.cells #[.slice ca cs.length cc, .slice da ds.length dc] 26)) w' → w'.cell? ⟨w.heap.size, 0, none⟩ = some (.slice ca cs.length cc) ∧ w'.cell? ⟨w.heap.size, 1, none⟩ = some (.slice da ds.length dc)) :=
    fun w' hk => ⟨hk.cell (by simp), hk.cell (by simp)⟩
  have HK0 := hide (Keeps.alloc (Keeps.refl (w.alloc (.cells #[.slice ca cs.length cc, .slice da ds.length dc] 26))) (.cells #[] 72))
  have HL0 : Hid (LB 72 3 Sc.cells Sc.seg (w.heap.size + 1) ((w.alloc (.cells #[.slice ca cs.length cc, .slice da ds.length dc] 26)).alloc (.cells #[] 72)) (.slice (some ⟨w.heap.size + 1, 0, none⟩) 0 0) []) := by
    have h0 := World.ownsRow_made (base := (w.alloc (.cells #[.slice ca cs.length cc, .slice da ds.length dc] 26)).heap.size) (e := 72) (size := 3) (w.alloc (.cells #[.slice ca cs.length cc, .slice da ds.length dc] 26)) #[] 0 (Nat.le_refl _) (by decide) rfl
    refine ⟨w.alloc (.cells #[.slice ca cs.length cc, .slice da ds.length dc] 26), HSA.out, LG.nil _ _ _ _ ?_ HK0.out⟩
    have e : (w.alloc (.cells #[.slice ca cs.length cc, .slice da ds.length dc] 26)).heap.size = w.heap.size + 1 := HSA.out
    rw [← e]
    exact h0
  have HT := hide (diskok_spec' ca cc cs da dc ds _ (HM.out.kept HK0.out) h)
  obtain ⟨b, hbb⟩ : ∃ b, dokM (dat cs ds) = b := ⟨_, rfl⟩
  rw [hbb] at HT
  have HBB := hide hbb
  have hml : (dat cs ds).cells.length = cs.length := by simp [dat]
  have HML := hide hml
  clear hm h hbb hml
  obtain ⟨d0, d1⟩ := HD.out _ HK0.out
  go_enter Tryz.func9, Tryz.ntmps9
  go_wp2_with fail
  generalize w.alloc (.cells #[.slice ca cs.length cc, .slice da ds.length dc] 26) = W0 at *
  refine (unhide HT).mono ?_
  rintro x w1 ⟨rfl, hk⟩
  clear d0 d1 HT
  obtain ⟨d0, d1⟩ := HD.out _ (HK0.out.trans hk)
  have HK1 := hide (HK0.out.trans hk)
  have HL1 := hide (HL0.out.kept hk)
  clear hk HL0
  cases b
  · go_wp2_with fail
    refine bodyPost_ret (v := .tuple #[.slice (some ⟨w.heap.size + 1, 0, none⟩) 0 0, .int .i64 0]) (by simp [results, Tryz.results9, go_sem]) rfl ?_
    refine LrPost.of (nb := []) (k := 0) rfl HL1.out (HKA.out.trans HK1.out) rfl ?_
    have hf : fitB (dat cs ds) 0 = false := by unfold fitB; rw [readL_bad HBB.out]; rfl
    exact logTo_stop (fun j hj => absurd hj (by omega)) hf (Nat.zero_le _)
  · go_wp2_with fail
    go_loopw [4, 5, 6] (fun x y z wr => ∃ (k : Nat) (oa : Option Addr) (oc : Nat) (nb : List Sc), k ≤ cs.length ∧ Hid (nb.length = k) ∧ x = .slice oa k oc ∧ y = .int .i64 (lastE (dat cs ds) k) ∧ z = .int .i64 (k : Int) ∧ Hid (fitTo (dat cs ds) k) ∧ Hid (nb.map Sc.key = secsTo (dat cs ds) k) ∧ Hid (LB 72 3 Sc.cells Sc.seg (w.heap.size + 1) wr (.slice oa k oc) nb) ∧ Hid (Keeps W0 wr)) (fun _ _ z _ => cs.length - (intOf z).toNat)
    case atStart => exact ⟨0, some ⟨w.heap.size + 1, 0, none⟩, 0, [], Nat.zero_le _, rfl, rfl, rfl, rfl, (fun j hj => absurd hj (by omega)), rfl, HL1, HK1⟩
    case round =>
      obtain ⟨k, oa, oc, nb, hk, HNL, rfl, rfl, rfl, HFt, HKey, HLr, HK2⟩ := hrel
      clear d0 d1
      obtain ⟨d0, d1⟩ := HD.out _ HK2.out
      have HKr := hide (HKA.out.trans HK2.out)
      by_cases hlt : k < cs.length
      · have HR := hide (diskread_spec ca cc cs da dc ds (k : Nat) wr (HM.out.kept HK2.out) HDO.out)
        go_wp2_with fail
        refine (unhide HR).mono ?_
        rintro x w2 ⟨v, rfl, ho, hk2⟩
        have hrb : readB (dat cs ds) (k : Nat) = true := readB_in HBB.out (by omega) (by rw [HML.out]; omega)
        rw [hrb]
        have HS := hide (secspec_own v _ _ w2 ho (readL_full hrb))
        have HK3 := hide (HK2.out.trans hk2)
        have HKs := hide hk2
        clear ho hk2 HR d0 d1 hrb
        go_wp2_with fail
        refine (unhide HS).mono ?_
        rintro x w3 ⟨a, c, rfl, hac, hb, hk3⟩
        have hka := Keeps.alloc (Keeps.refl w3) (.cells #[.int .i64 (srQ (readL (dat cs ds) k)), .int .i64 (srE (readL (dat cs ds) k)), .slice a (srL (readL (dat cs ds) k)).length c] 72)
        have hsz := (born_alloc w3 #[.int .i64 (srQ (readL (dat cs ds) k)), .int .i64 (srE (readL (dat cs ds) k)), .slice a (srL (readL (dat cs ds) k)).length c] 72).toOwn
        have s0 := cell_at hsz.mem 0 (by simp)
        have s1 := cell_at hsz.mem 1 (by simp)
        have s2 := cell_at hsz.mem 2 (by simp)
        simp only [Nat.zero_add, List.getElem_cons_zero, List.getElem_cons_succ] at s0 s1 s2
        have HKR := hide ((HKs.out.trans hk3).trans hka)
        have HKW := hide (HK2.out.trans HKR.out)
        have HB := hide ((hb.kept hka).old HKs.out)
        clear hb hac hk3 HS hka hsz
        obtain ⟨d0, d1⟩ := HD.out _ HKW.out
        generalize hqq : srQ (readL (dat cs ds) k) = q at *
        have HQ := hide hqq
        clear hqq
        cases hB : srB (readL (dat cs ds) k)
        · have hnf : fitB (dat cs ds) k = false := by unfold fitB; rw [hB]; rfl
          replace HKr := hide (HKA.out.trans HKW.out)
          replace HLr := hide (HLr.out.kept HKR.out)
          go_wp2_with fail
          refine bodyPost_ret (v := .tuple #[.slice oa k oc, .int .i64 (k : Nat)]) (by simp [results, Tryz.results9, go_sem]) rfl ?_
          refine LrPost.of HNL.out HLr.out HKr.out HKey.out ?_
          exact logTo_stop HFt.out hnf (by rw [HML.out]; exact hk)
        · by_cases hq : q = (k : Int)
          · subst hq
            by_cases he : srE (readL (dat cs ds) k) < lastE (dat cs ds) k
            · have hnf : fitB (dat cs ds) k = false := by unfold fitB; rw [decide_eq_false (p := lastE (dat cs ds) k ≤ srE (readL (dat cs ds) k)) (by omega), Bool.and_false]
              replace HKr := hide (HKA.out.trans HKW.out)
              replace HLr := hide (HLr.out.kept HKR.out)
              go_wp2_with fail
              refine bodyPost_ret (v := .tuple #[.slice oa k oc, .int .i64 (k : Nat)]) (by simp [results, Tryz.results9, go_sem]) rfl ?_
              refine LrPost.of HNL.out HLr.out HKr.out HKey.out ?_
              exact logTo_stop HFt.out hnf (by rw [HML.out]; exact hk)
            · have hfit : fitB (dat cs ds) k = true := by unfold fitB; rw [hB, decide_eq_true HQ.out, decide_eq_true (by omega)]; rfl
              have hown := (HLr.out.kept HKR.out).row
              rw [HNL.out] at hown
              obtain ⟨v', w5, e5, hr5, hg5, hv5⟩ := run_sector (w3.alloc (.cells #[.int .i64 (k : Int), .int .i64 (srE (readL (dat cs ds) k)), .slice a (srL (readL (dat cs ds) k)).length c] 72)) (w.heap.size + 1) (.slice oa k oc) k _ (.int .i64 (k : Int)) (.int .i64 (srE (readL (dat cs ds) k))) (.slice a (srL (readL (dat cs ds) k)).length c) rfl rfl rfl 35 hown (by omega) (HLr.out.kept HKR.out).size
              obtain ⟨g', cap', rfl⟩ := ownsRow_plus hr5
              have HL5 := hide (HLr.out.snoc (x := ⟨(k : Int), srE (readL (dat cs ds) k), ⟨a, c, srL (readL (dat cs ds) k)⟩⟩) (Turn.of_keeps HKR.out []) (by simp) HB.out.toOwn HB.out.new hg5 (by rw [HNL.out]; exact hr5) hv5)
              have HK5 : Hid (Keeps W0 w5) := Keeps.grown (HKW.out.alloc _) hg5 (fun g hg => by have := HSA.out; have := (HLr.out.row.lt g hg).1; omega)
              simp only [World.size_alloc] at e5
              have HE5 := hide e5
              have HFT := hide (fitTo_succ HFt.out hfit)
              clear hown e5 hr5 hg5 hv5
              go_wp2_with (at_builtin; refine Lib.wpList_append_run _ rfl (.tmp 50) (.tmp 52) _ _ rfl _ _ rfl rfl _ _ HE5.out ?_)
              go_roundw
              case rel => exact ⟨k + 1, some ⟨g', 0, none⟩, cap', nb ++ [⟨(k : Int), srE (readL (dat cs ds) k), ⟨a, c, srL (readL (dat cs ds) k)⟩⟩], by omega, (by show _ = _; rw [List.length_append, HNL.out]; rfl), rfl, rfl, by go_num, HFT, (by show _ = _; rw [List.map_append, HKey.out, secsTo_succ, HQ.out]; rfl), HL5, HK5⟩
              case measure => simp [intOf]; omega
          · have hnf : fitB (dat cs ds) k = false := by unfold fitB; rw [HQ.out, decide_eq_false hq, Bool.and_false, Bool.false_and]
            replace HKr := hide (HKA.out.trans HKW.out)
            replace HLr := hide (HLr.out.kept HKR.out)
            go_wp2_with fail
            refine bodyPost_ret (v := .tuple #[.slice oa k oc, .int .i64 (k : Nat)]) (by simp [results, Tryz.results9, go_sem]) rfl ?_
            refine LrPost.of HNL.out HLr.out HKr.out HKey.out ?_
            exact logTo_stop HFt.out hnf (by rw [HML.out]; exact hk)
      · have e : k = cs.length := by omega
        subst e
        go_wp2_with fail
        refine bodyPost_ret (v := .tuple #[.slice oa cs.length oc, .int .i64 (cs.length : Nat)]) (by simp [results, Tryz.results9, go_sem]) rfl ?_
        refine LrPost.of HNL.out HLr.out HKr.out HKey.out ?_
        unfold logN; rw [HML.out]; exact logTo_all HFt.out
end Go.Proofs.YtkdnddckogbgaaaGreatDoor
namespace Go.Proofs.YtkdnddckogbgaaaGreatDoor
open Go.RowKit Go.Deep Go.Shelf
set_option linter.unusedVariables false
set_option maxRecDepth 10000
attribute [local go_sem] Oper.semAt_some

theorem all_make (ca : Option Addr) (cc : Nat) (cs : List Bs) (da : Option Addr) (dc : Nat) (ds : List Wr) (w : World) :
    Calls Tryz.prog 56 #[dskV ca cs.length cc da ds.length dc] w fun e w' => e = .returned (.func (.func 90) #[] #[.pointer (some ⟨w.heap.size, 0, none⟩)]) ∧ w' = w.alloc (.cells #[.slice ca cs.length cc, .slice da ds.length dc] 26) := by
  have hmf : ∀ (fn : Fn) (first cap : Array Value) (w : World), (Instr.makeFunc fn first cap).run Tryz.prog w = .ok (.func fn first cap) w := fun _ _ _ _ => rfl
  go_enter Tryz.func56, Tryz.ntmps56
  go_wp2_with fail
  go_ret
  exact ⟨rfl, rfl⟩
theorem AllAt.turn {Bx : Nat} {ca : Option Addr} {cc : Nat} {cs : List Bs} {da : Option Addr} {dc : Nat} {ds : List Wr} {u : TypeId} {pv : Value} {W W' : World} (h : AllAt Bx ca cc cs da dc ds u pv W) {fs : List Nat} (ht : Turn fs W W') (h1 : Bx ∉ fs) (h2 : ∀ x ∈ fp (dsk ca cs da ds), x ∉ fs) (h3 : 0 ∉ fs) : AllAt Bx ca cc cs da dc ds u pv W' :=
  ⟨ht.cell h1 h.1, ht.cell h1 h.2.1, h.2.2.1.turn ht h2, ht.cell h3 h.2.2.2⟩
/-- Between two rounds of LogTop. -/
structure TopI (w : World) (ca : Option Addr) (cc : Nat) (cs : List Bs) (da : Option Addr) (dc : Nat) (ds : List Wr) (u : TypeId) (pv : Value) (k : Nat) (W : World) : Prop where
  at_ : AllAt (w.heap.size + 1 + 1) ca cc cs da dc ds u pv W
  top : W.cell? ⟨w.heap.size + 1, 0, none⟩ = some (.int .i64 (topTo (dat cs ds) k))
  free : W.frozen? ⟨w.heap.size + 1, 0, none⟩ = false
  kept : Keeps w W
  size : w.heap.size + 3 ≤ W.heap.size
theorem TopI.turn {w : World} {ca : Option Addr} {cc : Nat} {cs : List Bs} {da : Option Addr} {dc : Nat} {ds : List Wr} {u : TypeId} {pv : Value} {k : Nat} {W W' : World} (h : TopI w ca cc cs da dc ds u pv k W) {fs : List Nat} (ht : Turn fs W W') (hb : ∀ x ∈ fs, w.heap.size + 3 ≤ x) (h2 : ∀ x ∈ fp (dsk ca cs da ds), x < w.heap.size) (h3 : 0 < w.heap.size) : TopI w ca cc cs da dc ds u pv k W' :=
  ⟨h.at_.turn ht (fun hx => by have := hb _ hx; omega) (fun x hx hy => by have := h2 x hx; have := hb _ hy; omega) (fun hx => by have := hb _ hx; omega),
   ht.cell (fun hx => by have := hb _ hx; dsimp only at this; omega) h.top,
   by rw [← h.free]; exact World.frozen?_of_block (ht.block _ (by have := h.size; show w.heap.size + 1 < _; omega) (fun hx => by have := hb _ hx; dsimp only at this; omega)),
   ht.keeps h.kept (fun x hx => by have := hb x hx; omega), Nat.le_trans h.size ht.size⟩
theorem TopI.later {w : World} {ca : Option Addr} {cc : Nat} {cs : List Bs} {da : Option Addr} {dc : Nat} {ds : List Wr} {u : TypeId} {pv : Value} {k : Nat} {W W' : World} (h : TopI w ca cc cs da dc ds u pv k W) (ht : Keeps W W') : TopI w ca cc cs da dc ds u pv k W' :=
  ⟨h.at_.kept ht, ht.cell h.top, by rw [ht.oldF _ _ (by have := h.size; omega)]; exact h.free, h.kept.trans ht, Nat.le_trans h.size ht.size⟩
set_option maxHeartbeats 8000000 in
theorem logtop_impl (ca : Option Addr) (cc : Nat) (cs : List Bs) (da : Option Addr) (dc : Nat) (ds : List Wr) (w : World) (u : TypeId) (pv : Value) (hv : w.cell? ⟨0, 0, none⟩ = some (.iface u pv)) (hm : Mem w (dsk ca cs da ds)) (h : DOk cs ds) :
    Calls Tryz.prog 19 #[dskV ca cs.length cc da ds.length dc] w fun e w' => e = .returned (.int .i64 (topM (dat cs ds))) ∧ Keeps w w' := by
  obtain ⟨n, hn⟩ : ∃ n, 9 ≤ n := ⟨9, Nat.le_refl _⟩
  refine (callsIn_wide (n := n)).1 ?_
  refine callsIn_of_wp_marks Tryz.func19 rfl trivial ?_ rfl
  simp only [Tryz.ntmps19, List.size_toArray, List.length_cons, List.length_nil, Nat.reduceAdd, Nat.reduceSub, Array.replicate_succ, Array.replicate_zero, List.push_toArray, List.append_toArray, List.nil_append, List.cons_append]
  have HV := hide hv
  have HM := hide hm
  have HD := hide h
  clear hv hm h
  gi_wp2
  refine ⟨trivial, nofun, (callsIn_wide.2 (all_make ca cc cs da dc ds _)).mono ?_⟩
  rintro e w1 ⟨rfl, rfl⟩
  gi_wp2
  have hlt := HM.out.lt
  have hgl := lt_of_cell HV.out
  obtain ⟨W0, hW0⟩ : ∃ W0, ((w.alloc (.cells #[.slice ca cs.length cc, .slice da ds.length dc] 26)).alloc (.cells #[.int .i64 0] 3)).alloc (.cells #[.slice ca cs.length cc, .slice da ds.length dc] 26) = W0 := ⟨_, rfl⟩
  have hs0 : W0.heap.size = w.heap.size + 3 := by rw [← hW0]; simp
  have hk0 : Keeps w W0 := by rw [← hW0]; exact ((Keeps.refl w).alloc _).alloc _ |>.alloc _
  have hbx := (born_alloc ((w.alloc (.cells #[.slice ca cs.length cc, .slice da ds.length dc] 26)).alloc (.cells #[.int .i64 0] 3)) #[.slice ca cs.length cc, .slice da ds.length dc] 26).toOwn
  have htb := (born_alloc (w.alloc (.cells #[.slice ca cs.length cc, .slice da ds.length dc] 26)) #[.int .i64 0] 3).toOwn.kept (Keeps.alloc (Keeps.refl _) (.cells #[.slice ca cs.length cc, .slice da ds.length dc] 26))
  rw [hW0] at hbx htb
  simp only [World.size_alloc] at hbx htb
  have cb0 := cell_at hbx.mem 0 (by simp)
  have cb1 := cell_at hbx.mem 1 (by simp)
  have ct0 := cell_at htb.mem 0 (by simp)
  have cf0 := htb.free (w.heap.size + 1) (by simp [fp, fpS]) 0
  simp only [Nat.zero_add, List.getElem_cons_zero, List.getElem_cons_succ] at cb0 cb1 ct0
  have hI0 : TopI w ca cc cs da dc ds u pv 0 W0 :=
    ⟨⟨cb0, cb1, HM.out.kept hk0, hk0.cell HV.out⟩, ct0, cf0, hk0, by omega⟩
  rw [hW0]
  have HS0 := hide hs0
  clear hW0 hs0 hbx htb cf0 cb0 cb1 ct0
  refine wp_range rfl (by omega) (gf := 90) (lb := #[.pointer (some ⟨w.heap.size + 1 + 1, 0, none⟩)]) rfl trivial (enters_of Tryz.func90 (by kernel_rfl) rfl) (fun W => TopI w ca cc cs da dc ds u pv cs.length W) (fun _ _ => False) ?_ ?_ ?_
  · intro fn hfn W1 hk1 hs1 hr1
    generalize hR : recOf fn _ _ _ _ _ = R at hr1 ⊢
    refine (all_in (n - 1) (W0.heap.size + 1) (w.heap.size + 1 + 1) ca cc cs da dc ds u pv (fun k W => TopI w ca cc cs da dc ds u pv k W ∧ RL R W0.heap.size .ready none W) (fun _ => False) HD.out ?_ ?_ ?_ ?_ W1 ⟨hI0.later hk1, hr1⟩).mono ?_
    · rintro k W ⟨h, _⟩
      exact h.at_
    · rintro k W W' ⟨h, h'⟩ hk
      exact ⟨h.later hk, h'.kept hk⟩
    · rintro k W _ ⟨h, h'⟩ hB
      exact ⟨⟨h.at_, by rw [topTo_skip hB]; exact h.top, h.free, h.kept, h.size⟩, h'⟩
    · rintro k W W' a c hkl ⟨h, h'⟩ hB hac hb hk
      have h2 := h.later hk
      have hr2 := h'.kept hk
      clear h h' hb hk hac
      subst hR
      refine YieldAt.mono (yield_round (G := fun W => TopI w ca cc cs da dc ds u pv (k + 1) W) (Gx := fun _ _ => False) hfn hr2 rfl ?_) ?_
      · generalize recOf fn _ _ _ _ _ = R at hr2 ⊢
        gi_wp2
        have hka := Keeps.alloc (Keeps.refl W') (.cells #[.int .i64 (srQ (readL (dat cs ds) k)), .int .i64 (srE (readL (dat cs ds) k)), .slice a (srL (readL (dat cs ds) k)).length c] 72)
        have hbo := (born_alloc W' #[.int .i64 (srQ (readL (dat cs ds) k)), .int .i64 (srE (readL (dat cs ds) k)), .slice a (srL (readL (dat cs ds) k)).length c] 72).toOwn
        generalize W'.alloc (.cells #[.int .i64 (srQ (readL (dat cs ds) k)), .int .i64 (srE (readL (dat cs ds) k)), .slice a (srL (readL (dat cs ds) k)).length c] 72) = W2 at *
        refine ⟨hr2.kept hka, fun W3 ht hr3 => ?_⟩
        have hl2 := hr2.lt
        have h3 := (h2.later hka).turn ht (fun x hx => by simp at hx; have := HS0.out; omega) hlt hgl
        have hb3 := hbo.turn ht (fun x hx hy => by simp [fp, fpS] at hx hy; have := HS0.out; omega)
        have s1 := cell_at hb3.mem 1 (by simp)
        simp only [Nat.zero_add, List.getElem_cons_zero, List.getElem_cons_succ] at s1
        have t0 := h3.top
        have t1 := h3.free
        have HI := hide h3
        have HR3 := hide hr3
        clear h2 hr2 hka hbo ht h3 hr3 hb3 hl2
        gi_wp2
        all_goals
          refine ⟨HR3.out.turn (Turn.set (fs := [w.heap.size + 1]) (by simp) _) (by simp <;> (have := HS0.out; omega)) (by simp <;> (have := HS0.out; omega)), fun W4 ht => ?_⟩
          have h := HI.out
          have hts : Turn [w.heap.size + 1] W3 (W3.setCell ⟨w.heap.size + 1, 0, none⟩ (.int .i64 (topTo (dat cs ds) (k + 1)))) := Turn.set (by simp) _
          have h5 : TopI w ca cc cs da dc ds u pv (k + 1) (W3.setCell ⟨w.heap.size + 1, 0, none⟩ (.int .i64 (topTo (dat cs ds) (k + 1)))) :=
            ⟨h.at_.turn hts (by simp) (fun x hx hy => by have := hlt x hx; simp at hy; omega) (by simp <;> omega), World.cell?_setCell_same _ _ _ h.top, by simp [h.free],
             hts.keeps h.kept (fun x hx => by simp at hx; omega), Nat.le_trans h.size hts.size⟩
          have e : ∀ z, topTo (dat cs ds) (k + 1) = z → TopI w ca cc cs da dc ds u pv (k + 1) (W3.setCell ⟨w.heap.size + 1, 0, none⟩ (.int .i64 z)) := fun z hz => hz ▸ h5
          refine (e _ ?_).turn ht (fun x hx => by simp at hx; have := HS0.out; omega) hlt hgl
          rw [topTo_max hB]
          omega
      · rintro e W'' (⟨he, hg, hr⟩ | ⟨_, _, hf, _⟩)
        · exact .inl ⟨he, hg, hr⟩
        · exact hf.elim
    · rintro e W2 ⟨hv, (⟨h, h'⟩ | hf)⟩
      · exact ⟨hv, .inl ⟨h, h'⟩⟩
      · exact hf.elim
  · intro W W' hG ht hK
    have h2 := hG.turn ht (fun x hx => by simp at hx; have := HS0.out; omega) hlt hgl
    have t0 := h2.top
    have HI := hide h2
    clear h2 hG
    gi_wp2
    refine ⟨by simp, .inl ⟨_, _, rfl, run_takeDeferred hK, ?_⟩⟩
    refine ⟨_, results_tmp rfl _ _ _, (by simp [topM, dat]), ?_⟩
    exact (turn_putObj W' W0.heap.size _).keeps HI.out.kept (fun x hx => by simp at hx; have := HS0.out; omega)
  · intro c W W' hf
    exact hf.elim
end Go.Proofs.YtkdnddckogbgaaaGreatDoor
