/- Texts of the verifier, joined: SRW, LTs, LRs, SgX, LEs. -/
import Derived.Test.YtkdnddckogbgaaaGreatDoorLO28
import Derived.Test.YtkdnddckogbgaaaGreatDoorLO23
import Derived.Lib.AppendZeros
import Derived.Test.YtkdnddckogbgaaaGreatDoorLO4
import Derived.Test.YtkdnddckogbgaaaGreatDoorLO2
import Derived.Test.YtkdnddckogbgaaaGreatDoorLO26
namespace Go.Proofs.YtkdnddckogbgaaaGreatDoor
open Go.RowKit Go.Deep
set_option linter.unusedVariables false
set_option linter.unusedSimpArgs false
theorem getV_nat (L : List UInt8) (p s : Int) : ∃ n : Nat, getV L p s = (n : Nat) := by
  unfold getV
  split
  · exact ⟨_, rfl⟩
  · exact ⟨0, rfl⟩
theorem sec_byte7 {q e : Nat} {L : List UInt8} (h : secL q e [] = L) : numL (cut L 7 1) = 0 := by
  have e1 : secL q e [] = ([74] ++ digs q 3 ++ digs e 3) ++ ([0] ++ (List.replicate 114 0 ++ digs q 3 ++ digs e 3)) := by
    unfold secL
    rw [show digs ([] : List UInt8).length 1 = [0] from rfl]
    simp [List.append_assoc]
  rw [← h, e1]
  unfold cut
  rw [List.drop_append_of_le_length (by simp [digs_length]), List.drop_of_length_le (by simp [digs_length])]
  simp [numL]
theorem secread_spec (b off : Nat) (L : List UInt8) (cap : Nat) (w : World) (hc : Cells w (some ⟨b, off, none⟩) (bys L)) (hl : L.length ≤ 16777216) (hcap : L.length ≤ cap) (hcm : cap ≤ 9223372036854775807) :
    Calls Tryz.prog 42 #[.slice (some ⟨b, off, none⟩) L.length cap] w (SrPost w L) := by
  by_cases h128 : L.length = 128
  · have g1 : getV L 1 3 = (numL (cut L 1 3) : Nat) := getV_cut (p := 1) (s := 3) (by decide) (by decide) (by omega)
    have g2 : getV L 4 3 = (numL (cut L 4 3) : Nat) := getV_cut (p := 4) (s := 3) (by decide) (by decide) (by omega)
    have g3 : getV L 7 1 = (numL (cut L 7 1) : Nat) := getV_cut (p := 7) (s := 1) (by decide) (by decide) (by omega)
    by_cases hn : numL (cut L 7 1) ≤ 100
    · have hlen : (cut L 8 (numL (cut L 7 1))).length = numL (cut L 7 1) := cut_length (by omega)
      have ha := sec_again h128 rfl hn
      cases hok : secB (numL (cut L 1 3) : Nat) (numL (cut L 4 3) : Nat) (cut L 8 (numL (cut L 7 1))).length
      · have hsr : srB L = false := by unfold srB; rw [← hlen, hok, Bool.and_false]
        exact secspec_b_ok b off L cap w hc hl _ _ _ g1 g2 g3 hn h128 hcap hcm hok hsr
      · have hR : secR (numL (cut L 1 3) : Nat) (numL (cut L 4 3) : Nat) (cut L 8 (numL (cut L 7 1))) = secL (numL (cut L 1 3)) (numL (cut L 4 3)) (cut L 8 (numL (cut L 7 1))) := by unfold secR; rw [if_pos hok]; simp
        have hok' := hok
        rw [hlen] at hok'
        by_cases hh : numL (cut L 0 1) = 74 ∧ cut L (8 + numL (cut L 7 1)) (114 - numL (cut L 7 1)) = List.replicate (114 - numL (cut L 7 1)) 0 ∧ numL (cut L 122 3) = numL (cut L 1 3) ∧ numL (cut L 125 3) = numL (cut L 4 3)
        · have hsr : srB L = true := by
            unfold srB
            rw [hok', decide_eq_true h128, decide_eq_true hn, decide_eq_true hh.1, decide_eq_true hh.2.1, decide_eq_true hh.2.2.1, decide_eq_true hh.2.2.2]; rfl
          exact secspec_b_yes b off L cap w hc hl _ _ _ g1 g2 g3 hn h128 hcap hcm hok (hR.trans (ha.2 hh)) hsr rfl rfl rfl
        · have hsr : srB L = false := by
            rw [Bool.eq_false_iff]
            intro h
            unfold srB at h
            simp only [Bool.and_eq_true, decide_eq_true_eq] at h
            exact hh ⟨h.1.1.1.1.1.2, h.1.1.1.2, h.1.1.2, h.1.2⟩
          exact secspec_b_ne b off L cap w hc hl _ _ _ g1 g2 g3 hn h128 hcap hcm hok (fun e => hh (ha.1 (hR.symm.trans e))) hsr
    · have hsr : srB L = false := by
        rw [Bool.eq_false_iff]
        intro h
        unfold srB at h
        simp only [Bool.and_eq_true, decide_eq_true_eq] at h
        exact hn h.1.1.1.1.2
      cases hok : secB (numL (cut L 1 3) : Nat) (numL (cut L 4 3) : Nat) ([] : List UInt8).length
      · exact secspec_n_ok b off L cap w hc hl _ _ _ g1 g2 g3 (fun h => hn h.1) hok hsr
      · refine secspec_n_ne b off L cap w hc hl _ _ _ g1 g2 g3 (fun h => hn h.1) hok (fun e => hn ?_) hsr
        have hR : secR (numL (cut L 1 3) : Nat) (numL (cut L 4 3) : Nat) [] = secL (numL (cut L 1 3)) (numL (cut L 4 3)) [] := by unfold secR; rw [if_pos hok]; simp
        have := sec_byte7 (hR.symm.trans e)
        omega
  · have hsr : srB L = false := by unfold srB; rw [decide_eq_false h128]; rfl
    obtain ⟨q, g1⟩ := getV_nat L 1 3
    obtain ⟨e, g2⟩ := getV_nat L 4 3
    obtain ⟨n, g3⟩ := getV_nat L 7 1
    cases hok : secB (q : Int) (e : Int) ([] : List UInt8).length
    · exact secspec_n_ok b off L cap w hc hl _ _ _ g1 g2 g3 (fun h => h128 h.2) hok hsr
    · refine secspec_n_ne b off L cap w hc hl _ _ _ g1 g2 g3 (fun h => h128 h.2) hok (fun e => h128 ?_) hsr
      rw [← e]
      unfold secR
      rw [if_pos hok, secL_length (by simp)]
end Go.Proofs.YtkdnddckogbgaaaGreatDoor
namespace Go.Proofs.YtkdnddckogbgaaaGreatDoor
open Go.RowKit Go.Deep
set_option linter.unusedVariables false
set_option maxRecDepth 10000

/-- SectorRead of the model, of a whole sector that the call itself made. -/
theorem secspec_own (v : Value) (L : List UInt8) (base : Nat) (w : World) (ho : OwnsB w base v L) (hl : L.length = 128) :
    Calls Tryz.prog 42 #[v] w (SrPost w L) := by
  obtain ⟨a, cap, e1, e2, e3, e4, e5, _⟩ := Own.of_owns ho
  have hc := e5.one
  rcases ho.2 with ⟨rfl, _⟩ | ⟨g, c, _, rfl, _⟩
  · injection e1 with e6 e7 e8
    omega
  · injection e1 with e6 e7 e8
    rw [← e6] at hc
    rw [← e8] at e2 e3
    exact secread_spec g 0 L c w hc (by omega) e2 (Nat.le_trans e3 (by decide))
theorem readL_full {m : DkM} {i : Int} (h : readB m i = true) : (readL m i).length = 128 := by
  unfold readL
  rw [if_pos h]
  simp only [readB, Bool.and_eq_true, decide_eq_true_eq] at h
  obtain ⟨hd, h0, h1⟩ := h
  cases hl : lastD m.dirty i with
  | some L =>
    obtain ⟨x, hx, rfl⟩ := lastD_mem _ _ hl
    exact (dokM_dirty hd hx).2.2
  | none =>
    simp only [Option.getD_none]
    have hx : i.toNat < m.cells.length := by omega
    have hc := dokM_cell hd (L := m.cells.getD i.toNat []) (by simp [List.getD, hx])
    unfold fullL
    split
    · simp
    · next hne =>
      rcases hc with hc | hc
      · exact absurd (List.length_eq_zero_iff.1 hc) hne
      · exact hc
set_option maxHeartbeats 8000000 in
theorem logtop_spec (ca : Option Addr) (cc : Nat) (cs : List Bs) (da : Option Addr) (dc : Nat) (ds : List Wr) (w : World) (hm : Mem w (dsk ca cs da ds)) (h : DOk cs ds) :
    Calls Tryz.prog 10 #[dskV ca cs.length cc da ds.length dc] w fun e w' => e = .returned (.int .i64 (topM (dat cs ds))) ∧ Keeps w w' := by
  have HKA := hide (Keeps.alloc (Keeps.refl w) (.cells #[.slice ca cs.length cc, .slice da ds.length dc] 26))
  have HM := hide (hm.kept HKA.out)
  have HDO := hide h
  have hcl := h.c
  have HD : Hid (∀ w', Keeps (w.alloc (.cells #[.slice ca cs.length cc, .slice da ds.length dc] 26)) w' → w'.cell? ⟨w.heap.size, 0, none⟩ = some (.slice ca cs.length cc) ∧ w'.cell? ⟨w.heap.size, 1, none⟩ = some (.slice da ds.length dc)) :=
    fun w' hk => ⟨hk.cell (by simp), hk.cell (by simp)⟩
  have HT := hide (diskok_spec' ca cc cs da dc ds _ HM.out h)
  obtain ⟨b, hbb⟩ : ∃ b, dokM (dat cs ds) = b := ⟨_, rfl⟩
  rw [hbb] at HT
  have HBB := hide hbb
  clear hm h hbb
  go_enter Tryz.func10, Tryz.ntmps10
  go_wp2_with fail
  generalize w.alloc (.cells #[.slice ca cs.length cc, .slice da ds.length dc] 26) = W0 at *
  refine (unhide HT).mono ?_
  rintro x w1 ⟨rfl, hk⟩
  obtain ⟨d0, d1⟩ := HD.out _ hk
  have HK1 := hide hk
  clear hk HT
  cases b
  · go_wp2_with fail
    go_ret
    exact ⟨by unfold topM; rw [topTo_bad HBB.out]; rfl, HKA.out.trans HK1.out⟩
  · go_wp2_with fail
    go_loopw [3, 4] (fun x y wr => ∃ k : Nat, k ≤ cs.length ∧ x = .int .i64 (topTo (dat cs ds) k) ∧ y = .int .i64 (k : Int) ∧ Hid (Keeps W0 wr)) (fun _ y _ => cs.length - (intOf y).toNat)
    case atStart => exact ⟨0, Nat.zero_le _, rfl, rfl, HK1⟩
    case round =>
      obtain ⟨k, hk, rfl, rfl, HKr⟩ := hrel
      clear d0 d1
      obtain ⟨d0, d1⟩ := HD.out _ HKr.out
      by_cases hlt : k < cs.length
      · have HR := hide (diskread_spec ca cc cs da dc ds (k : Nat) wr (HM.out.kept HKr.out) HDO.out)
        go_wp2_with fail
        refine (unhide HR).mono ?_
        rintro x w2 ⟨v, rfl, ho, hk2⟩
        have hrb : readB (dat cs ds) (k : Nat) = true := readB_in HBB.out (by omega) (by simp [dat]; omega)
        rw [hrb]
        have HS := hide (secspec_own v _ _ w2 ho (readL_full hrb))
        have HK2 := hide (HKr.out.trans hk2)
        clear ho hk2 HR d0 d1 hrb
        go_wp2_with fail
        refine (unhide HS).mono ?_
        rintro x w3 ⟨a, c, rfl, hac, hb, hk3⟩
        have HK3 := hide ((HK2.out.trans hk3).alloc (.cells #[.int .i64 (srQ (readL (dat cs ds) k)), .int .i64 (srE (readL (dat cs ds) k)), .slice a (srL (readL (dat cs ds) k)).length c] 72))
        clear hb hac hk3 HS
        cases hB : srB (readL (dat cs ds) k)
        · go_wp2_with fail
          go_roundw
          case rel => exact ⟨k + 1, by omega, by rw [topTo_skip hB], by go_num, HK3⟩
          case measure => simp [intOf]; omega
        · by_cases hgt : topTo (dat cs ds) k < srE (readL (dat cs ds) k)
          · go_wp2_with fail
            go_roundw
            case rel => exact ⟨k + 1, by omega, by rw [topTo_max hB, Int.max_eq_right (by omega)], by go_num, HK3⟩
            case measure => simp [intOf]; omega
          · go_wp2_with fail
            go_roundw
            case rel => exact ⟨k + 1, by omega, by rw [topTo_max hB, Int.max_eq_left (by omega)], by go_num, HK3⟩
            case measure => simp [intOf]; omega
      · have e : k = cs.length := by omega
        subst e
        go_wp2_with fail
        go_ret
        exact ⟨by simp [topM, dat], HKA.out.trans HKr.out⟩
end Go.Proofs.YtkdnddckogbgaaaGreatDoor
namespace Go.Proofs.YtkdnddckogbgaaaGreatDoor
open Go.RowKit Go.Deep
set_option linter.unusedVariables false
set_option maxRecDepth 10000

theorem LrPost.of {w w' : World} {m : DkM} {oa : Option Addr} {oc : Nat} {nb : List Sc} {k : Nat} (hl : nb.length = k) (h : LB 72 3 Sc.cells Sc.seg (w.heap.size + 1) w' (.slice oa k oc) nb) (hk : Keeps w w') (he : nb.map Sc.key = secsTo m k) (hn : logN m = k) : LrPost w m (.returned (.tuple #[.slice oa k oc, .int .i64 (k : Nat)])) w' := by
  subst hl
  obtain ⟨a, cap, e, hna, ho, hnew⟩ := h.born
  injection e with e1 _ e2
  subst e1 e2
  exact ⟨oa, oc, nb, by rw [hn], by unfold logS; rw [hn]; exact he, hna, ⟨ho, fun b hb => by have := hnew b hb; omega⟩, hk⟩
theorem ownsRow_plus {W : World} {base : Nat} {e : TypeId} {size : Nat} {v : Value} {k : Nat} {xs : List Value} (h : W.ownsRow base e size v (k + 1) xs) : ∃ g cap, v = .slice (some ⟨g, 0, none⟩) (k + 1) cap := by
  rcases h.2 with ⟨_, h0⟩ | ⟨g, cap, _, rfl, _⟩
  · omega
  · exact ⟨g, cap, rfl⟩
set_option maxHeartbeats 8000000 in
theorem logread_spec (ca : Option Addr) (cc : Nat) (cs : List Bs) (da : Option Addr) (dc : Nat) (ds : List Wr) (w : World) (hm : Mem w (dsk ca cs da ds)) (h : DOk cs ds) :
    Calls Tryz.prog 9 #[dskV ca cs.length cc da ds.length dc] w (LrPost w (dat cs ds)) := by
  have HKA := hide (Keeps.alloc (Keeps.refl w) (.cells #[.slice ca cs.length cc, .slice da ds.length dc] 26))
  have HM := hide (hm.kept HKA.out)
  have HDO := hide h
  have hcl := h.c
  have HSA : Hid ((w.alloc (.cells #[.slice ca cs.length cc, .slice da ds.length dc] 26)).heap.size = w.heap.size + 1) := by show _ = _; rw [World.size_alloc]
  have HD : Hid (∀ w', Keeps (w.alloc (.cells #[.slice ca cs.length cc, .slice da ds.length dc] 26)) w' → w'.cell? ⟨w.heap.size, 0, none⟩ = some (.slice ca cs.length cc) ∧ w'.cell? ⟨w.heap.size, 1, none⟩ = some (.slice da ds.length dc)) :=
    fun w' hk => ⟨hk.cell (by simp), hk.cell (by simp)⟩
  have HK0 := hide (Keeps.alloc (Keeps.refl (w.alloc (.cells #[.slice ca cs.length cc, .slice da ds.length dc] 26))) (.cells #[] 72))
  have HL0 : Hid (LB 72 3 Sc.cells Sc.seg (w.heap.size + 1) ((w.alloc (.cells #[.slice ca cs.length cc, .slice da ds.length dc] 26)).alloc (.cells #[] 72)) (.slice (some ⟨w.heap.size + 1, 0, none⟩) 0 0) []) := by
    have h0 := World.ownsRow_made (base := (w.alloc (.cells #[.slice ca cs.length cc, .slice da ds.length dc] 26)).heap.size) (e := 72) (size := 3) (w.alloc (.cells #[.slice ca cs.length cc, .slice da ds.length dc] 26)) #[] 0 (Nat.le_refl _) (by decide) rfl
    refine ⟨w.alloc (.cells #[.slice ca cs.length cc, .slice da ds.length dc] 26), HSA.out, LG.nil _ _ _ _ ?_ HK0.out⟩
    have e : (w.alloc (.cells #[.slice ca cs.length cc, .slice da ds.length dc] 26)).heap.size = w.heap.size + 1 := HSA.out
    rw [← e]
    exact h0
  have HT := hide (diskok_spec' ca cc cs da dc ds _ (HM.out.kept HK0.out) h)
  obtain ⟨b, hbb⟩ : ∃ b, dokM (dat cs ds) = b := ⟨_, rfl⟩
  rw [hbb] at HT
  have HBB := hide hbb
  have hml : (dat cs ds).cells.length = cs.length := by simp [dat]
  have HML := hide hml
  clear hm h hbb hml
  obtain ⟨d0, d1⟩ := HD.out _ HK0.out
  go_enter Tryz.func9, Tryz.ntmps9
  go_wp2_with fail
  generalize w.alloc (.cells #[.slice ca cs.length cc, .slice da ds.length dc] 26) = W0 at *
  refine (unhide HT).mono ?_
  rintro x w1 ⟨rfl, hk⟩
  clear d0 d1 HT
  obtain ⟨d0, d1⟩ := HD.out _ (HK0.out.trans hk)
  have HK1 := hide (HK0.out.trans hk)
  have HL1 := hide (HL0.out.kept hk)
  clear hk HL0
  cases b
  · go_wp2_with fail
    refine bodyPost_ret (v := .tuple #[.slice (some ⟨w.heap.size + 1, 0, none⟩) 0 0, .int .i64 0]) (by simp [results, Tryz.results9, go_sem]) rfl ?_
    refine LrPost.of (nb := []) (k := 0) rfl HL1.out (HKA.out.trans HK1.out) rfl ?_
    have hf : fitB (dat cs ds) 0 = false := by unfold fitB; rw [readL_bad HBB.out]; rfl
    exact logTo_stop (fun j hj => absurd hj (by omega)) hf (Nat.zero_le _)
  · go_wp2_with fail
    go_loopw [4, 5, 6] (fun x y z wr => ∃ (k : Nat) (oa : Option Addr) (oc : Nat) (nb : List Sc), k ≤ cs.length ∧ Hid (nb.length = k) ∧ x = .slice oa k oc ∧ y = .int .i64 (lastE (dat cs ds) k) ∧ z = .int .i64 (k : Int) ∧ Hid (fitTo (dat cs ds) k) ∧ Hid (nb.map Sc.key = secsTo (dat cs ds) k) ∧ Hid (LB 72 3 Sc.cells Sc.seg (w.heap.size + 1) wr (.slice oa k oc) nb) ∧ Hid (Keeps W0 wr)) (fun _ _ z _ => cs.length - (intOf z).toNat)
    case atStart => exact ⟨0, some ⟨w.heap.size + 1, 0, none⟩, 0, [], Nat.zero_le _, rfl, rfl, rfl, rfl, (fun j hj => absurd hj (by omega)), rfl, HL1, HK1⟩
    case round =>
      obtain ⟨k, oa, oc, nb, hk, HNL, rfl, rfl, rfl, HFt, HKey, HLr, HK2⟩ := hrel
      clear d0 d1
      obtain ⟨d0, d1⟩ := HD.out _ HK2.out
      have HKr := hide (HKA.out.trans HK2.out)
      by_cases hlt : k < cs.length
      · have HR := hide (diskread_spec ca cc cs da dc ds (k : Nat) wr (HM.out.kept HK2.out) HDO.out)
        go_wp2_with fail
        refine (unhide HR).mono ?_
        rintro x w2 ⟨v, rfl, ho, hk2⟩
        have hrb : readB (dat cs ds) (k : Nat) = true := readB_in HBB.out (by omega) (by rw [HML.out]; omega)
        rw [hrb]
        have HS := hide (secspec_own v _ _ w2 ho (readL_full hrb))
        have HK3 := hide (HK2.out.trans hk2)
        have HKs := hide hk2
        clear ho hk2 HR d0 d1 hrb
        go_wp2_with fail
        refine (unhide HS).mono ?_
        rintro x w3 ⟨a, c, rfl, hac, hb, hk3⟩
        have hka := Keeps.alloc (Keeps.refl w3) (.cells #[.int .i64 (srQ (readL (dat cs ds) k)), .int .i64 (srE (readL (dat cs ds) k)), .slice a (srL (readL (dat cs ds) k)).length c] 72)
        have hsz := (born_alloc w3 #[.int .i64 (srQ (readL (dat cs ds) k)), .int .i64 (srE (readL (dat cs ds) k)), .slice a (srL (readL (dat cs ds) k)).length c] 72).toOwn
        have s0 := cell_at hsz.mem 0 (by simp)
        have s1 := cell_at hsz.mem 1 (by simp)
        have s2 := cell_at hsz.mem 2 (by simp)
        simp only [Nat.zero_add, List.getElem_cons_zero, List.getElem_cons_succ] at s0 s1 s2
        have HKR := hide ((HKs.out.trans hk3).trans hka)
        have HKW := hide (HK2.out.trans HKR.out)
        have HB := hide ((hb.kept hka).old HKs.out)
        clear hb hac hk3 HS hka hsz
        obtain ⟨d0, d1⟩ := HD.out _ HKW.out
        generalize hqq : srQ (readL (dat cs ds) k) = q at *
        have HQ := hide hqq
        clear hqq
        cases hB : srB (readL (dat cs ds) k)
        · have hnf : fitB (dat cs ds) k = false := by unfold fitB; rw [hB]; rfl
          replace HKr := hide (HKA.out.trans HKW.out)
          replace HLr := hide (HLr.out.kept HKR.out)
          go_wp2_with fail
          refine bodyPost_ret (v := .tuple #[.slice oa k oc, .int .i64 (k : Nat)]) (by simp [results, Tryz.results9, go_sem]) rfl ?_
          refine LrPost.of HNL.out HLr.out HKr.out HKey.out ?_
          exact logTo_stop HFt.out hnf (by rw [HML.out]; exact hk)
        · by_cases hq : q = (k : Int)
          · subst hq
            by_cases he : srE (readL (dat cs ds) k) < lastE (dat cs ds) k
            · have hnf : fitB (dat cs ds) k = false := by unfold fitB; rw [decide_eq_false (p := lastE (dat cs ds) k ≤ srE (readL (dat cs ds) k)) (by omega), Bool.and_false]
              replace HKr := hide (HKA.out.trans HKW.out)
              replace HLr := hide (HLr.out.kept HKR.out)
              go_wp2_with fail
              refine bodyPost_ret (v := .tuple #[.slice oa k oc, .int .i64 (k : Nat)]) (by simp [results, Tryz.results9, go_sem]) rfl ?_
              refine LrPost.of HNL.out HLr.out HKr.out HKey.out ?_
              exact logTo_stop HFt.out hnf (by rw [HML.out]; exact hk)
            · have hfit : fitB (dat cs ds) k = true := by unfold fitB; rw [hB, decide_eq_true HQ.out, decide_eq_true (by omega)]; rfl
              have hown := (HLr.out.kept HKR.out).row
              rw [HNL.out] at hown
              obtain ⟨v', w5, e5, hr5, hg5, hv5⟩ := run_sector (w3.alloc (.cells #[.int .i64 (k : Int), .int .i64 (srE (readL (dat cs ds) k)), .slice a (srL (readL (dat cs ds) k)).length c] 72)) (w.heap.size + 1) (.slice oa k oc) k _ (.int .i64 (k : Int)) (.int .i64 (srE (readL (dat cs ds) k))) (.slice a (srL (readL (dat cs ds) k)).length c) rfl rfl rfl 35 hown (by omega) (HLr.out.kept HKR.out).size
              obtain ⟨g', cap', rfl⟩ := ownsRow_plus hr5
              have HL5 := hide (HLr.out.snoc (x := ⟨(k : Int), srE (readL (dat cs ds) k), ⟨a, c, srL (readL (dat cs ds) k)⟩⟩) (Turn.of_keeps HKR.out []) (by simp) HB.out.toOwn HB.out.new hg5 (by rw [HNL.out]; exact hr5) hv5)
              have HK5 : Hid (Keeps W0 w5) := Keeps.grown (HKW.out.alloc _) hg5 (fun g hg => by have := HSA.out; have := (HLr.out.row.lt g hg).1; omega)
              simp only [World.size_alloc] at e5
              have HE5 := hide e5
              have HFT := hide (fitTo_succ HFt.out hfit)
              clear hown e5 hr5 hg5 hv5
              go_wp2_with (at_builtin; refine Lib.wpList_append_run _ rfl (.tmp 50) (.tmp 52) _ _ rfl _ _ rfl rfl _ _ HE5.out ?_)
              go_roundw
              case rel => exact ⟨k + 1, some ⟨g', 0, none⟩, cap', nb ++ [⟨(k : Int), srE (readL (dat cs ds) k), ⟨a, c, srL (readL (dat cs ds) k)⟩⟩], by omega, (by show _ = _; rw [List.length_append, HNL.out]; rfl), rfl, rfl, by go_num, HFT, (by show _ = _; rw [List.map_append, HKey.out, secsTo_succ, HQ.out]; rfl), HL5, HK5⟩
              case measure => simp [intOf]; omega
          · have hnf : fitB (dat cs ds) k = false := by unfold fitB; rw [HQ.out, decide_eq_false hq, Bool.and_false, Bool.false_and]
            replace HKr := hide (HKA.out.trans HKW.out)
            replace HLr := hide (HLr.out.kept HKR.out)
            go_wp2_with fail
            refine bodyPost_ret (v := .tuple #[.slice oa k oc, .int .i64 (k : Nat)]) (by simp [results, Tryz.results9, go_sem]) rfl ?_
            refine LrPost.of HNL.out HLr.out HKr.out HKey.out ?_
            exact logTo_stop HFt.out hnf (by rw [HML.out]; exact hk)
      · have e : k = cs.length := by omega
        subst e
        go_wp2_with fail
        refine bodyPost_ret (v := .tuple #[.slice oa cs.length oc, .int .i64 (cs.length : Nat)]) (by simp [results, Tryz.results9, go_sem]) rfl ?_
        refine LrPost.of HNL.out HLr.out HKr.out HKey.out ?_
        unfold logN; rw [HML.out]; exact logTo_all HFt.out
end Go.Proofs.YtkdnddckogbgaaaGreatDoor
namespace Go.Proofs.YtkdnddckogbgaaaGreatDoor
open Go.RowKit Go.Deep
set_option linter.unusedVariables false
set_option maxRecDepth 10000

theorem mem_segS {w : World} {ds : List Sc} (h : Mem w (ds.map Sc.seg)) (k : Nat) (hk : k < ds.length) : Cells w ds[k].b.a (bys ds[k].b.L) := h ds[k].seg (List.mem_map.2 ⟨_, List.getElem_mem hk, rfl⟩)
theorem scells_len : ∀ xs : List Sc, (scells xs).length = xs.length * 3
  | [] => rfl
  | x :: t => by
    have := scells_len t
    simp only [scells, List.flatMap_cons, List.length_append, List.length_cons] at this ⊢
    rw [this]
    simp [Sc.cells]
    omega
theorem scells_append (xs ys : List Sc) : scells (xs ++ ys) = scells xs ++ scells ys := by simp [scells]
theorem scells_at (xs : List Sc) (k : Nat) (h : k < xs.length) : (scells xs)[k * 3]? = some (.int .i64 xs[k].q) ∧ (scells xs)[k * 3 + 1]? = some (.int .i64 xs[k].e) ∧ (scells xs)[k * 3 + 2]? = some xs[k].b.v := by
  have e : xs = xs.take k ++ xs[k] :: xs.drop (k + 1) := by rw [← List.drop_eq_getElem_cons h]; simp
  have hl : (scells (xs.take k)).length = k * 3 := by rw [scells_len]; simp; omega
  have e2 : scells xs = scells (xs.take k) ++ ([.int .i64 xs[k].q, .int .i64 xs[k].e, xs[k].b.v] ++ scells (xs.drop (k + 1))) := by
    conv => lhs; rw [e]
    rw [scells_append]
    rfl
  rw [e2]
  refine ⟨?_, ?_, ?_⟩
  · rw [List.getElem?_append_right (by omega), hl]; simp
  · rw [List.getElem?_append_right (by omega), hl, show k * 3 + 1 - k * 3 = 1 by omega]; simp
  · rw [List.getElem?_append_right (by omega), hl, show k * 3 + 2 - k * 3 = 2 by omega]; simp
theorem cell3 {w : World} {a : Option Addr} {xs : List Sc} (h : Cells w a (scells xs)) (k : Nat) (hk : k < xs.length) :
    ∃ b off, a = some ⟨b, off, none⟩ ∧ w.cell? ⟨b, off + k * 3, none⟩ = some (.int .i64 xs[k].q) ∧ w.cell? ⟨b, off + k * 3 + 1, none⟩ = some (.int .i64 xs[k].e) ∧ w.cell? ⟨b, off + k * 3 + 2, none⟩ = some xs[k].b.v := by
  have hl := scells_len xs
  obtain ⟨h0, h1, h2⟩ := scells_at xs k hk
  rcases h with h' | ⟨b, off, e, h'⟩
  · rw [h'] at hl
    simp at hl
    omega
  · refine ⟨b, off, e, ?_, ?_, ?_⟩
    · have := h' (k * 3) (by omega)
      rw [this, ← h0, List.getElem?_eq_getElem (by omega)]
    · have := h' (k * 3 + 1) (by omega)
      rw [← Nat.add_assoc] at this
      rw [this, ← h1, List.getElem?_eq_getElem (by omega)]
    · have := h' (k * 3 + 2) (by omega)
      rw [← Nat.add_assoc] at this
      rw [this, ← h2, List.getElem?_eq_getElem (by omega)]
end Go.Proofs.YtkdnddckogbgaaaGreatDoor
namespace Go.Proofs.YtkdnddckogbgaaaGreatDoor
open Go.RowKit Go.Deep
set_option linter.unusedVariables false
set_option maxRecDepth 10000

theorem LePost.of {w w' : World} {m : DkM} {oa : Option Addr} {oc ln k : Nat} (hl : (evsTo m k).length = ln) (h : LB 30 7 Ev.cells Ev.seg (w.heap.size + 1) w' (.slice oa ln oc) (evsTo m k)) (hk : Keeps w w') (hn : logN m = k) : LePost w m (.returned (.slice oa ln oc)) w' := by
  subst hl hn
  obtain ⟨a, cap, e, hna, ho, hnew⟩ := h.born
  injection e with e1 _ e2
  subst e1 e2
  refine ⟨oa, oc, rfl, ⟨Own.left (S := [_]) (T := (evsTo m (logN m)).map Ev.seg) ho, fun b hb => ?_⟩, hk⟩
  have := hnew b (by rw [fp_cons]; rw [fp_one] at hb; exact List.mem_append_left _ hb)
  omega
set_option maxHeartbeats 8000000 in
theorem logevents_spec (ca : Option Addr) (cc : Nat) (cs : List Bs) (da : Option Addr) (dc : Nat) (ds : List Wr) (w : World) (hm : Mem w (dsk ca cs da ds)) (h : DOk cs ds) :
    Calls Tryz.prog 18 #[dskV ca cs.length cc da ds.length dc] w (LePost w (dat cs ds)) := by
  have HKA := hide (Keeps.alloc (Keeps.refl w) (.cells #[.slice ca cs.length cc, .slice da ds.length dc] 26))
  have HSA : Hid ((w.alloc (.cells #[.slice ca cs.length cc, .slice da ds.length dc] 26)).heap.size = w.heap.size + 1) := by show _ = _; rw [World.size_alloc]
  have HK0 := hide (Keeps.alloc (Keeps.refl (w.alloc (.cells #[.slice ca cs.length cc, .slice da ds.length dc] 26))) (.cells #[] 30))
  have HS0 : Hid (((w.alloc (.cells #[.slice ca cs.length cc, .slice da ds.length dc] 26)).alloc (.cells #[] 30)).heap.size = w.heap.size + 1 + 1) := by show _ = _; rw [World.size_alloc, World.size_alloc]
  have HL0 : Hid (LB 30 7 Ev.cells Ev.seg (w.heap.size + 1) ((w.alloc (.cells #[.slice ca cs.length cc, .slice da ds.length dc] 26)).alloc (.cells #[] 30)) (.slice (some ⟨w.heap.size + 1, 0, none⟩) 0 0) []) := by
    have h0 := World.ownsRow_made (base := (w.alloc (.cells #[.slice ca cs.length cc, .slice da ds.length dc] 26)).heap.size) (e := 30) (size := 7) (w.alloc (.cells #[.slice ca cs.length cc, .slice da ds.length dc] 26)) #[] 0 (Nat.le_refl _) (by decide) rfl
    refine ⟨w.alloc (.cells #[.slice ca cs.length cc, .slice da ds.length dc] 26), HSA.out, LG.nil _ _ _ _ ?_ HK0.out⟩
    have e : (w.alloc (.cells #[.slice ca cs.length cc, .slice da ds.length dc] 26)).heap.size = w.heap.size + 1 := HSA.out
    rw [← e]
    exact h0
  have HT := hide (logread_spec ca cc cs da dc ds _ ((hm.kept HKA.out).kept HK0.out) h)
  have hcl := h.c
  have hml : (dat cs ds).cells.length = cs.length := by simp [dat]
  have HML := hide hml
  have d0 : ((w.alloc (.cells #[.slice ca cs.length cc, .slice da ds.length dc] 26)).alloc (.cells #[] 30)).cell? ⟨w.heap.size, 0, none⟩ = some (.slice ca cs.length cc) := HK0.out.cell (by simp)
  have d1 : ((w.alloc (.cells #[.slice ca cs.length cc, .slice da ds.length dc] 26)).alloc (.cells #[] 30)).cell? ⟨w.heap.size, 1, none⟩ = some (.slice da ds.length dc) := HK0.out.cell (by simp)
  clear hm h hml
  go_enter Tryz.func18, Tryz.ntmps18
  go_wp2_with fail
  clear d0 d1
  generalize w.alloc (.cells #[.slice ca cs.length cc, .slice da ds.length dc] 26) = W0 at *
  refine (unhide HT).mono ?_
  rintro x w1 ⟨a, c, nb, rfl, hkey, hna, hb, hk⟩
  have hlen : nb.length = logN (dat cs ds) := by have := congrArg List.length hkey; simpa [logS, secsTo_len] using this
  have hlog : logN (dat cs ds) ≤ cs.length := by rw [← HML.out]; exact logTo_le _ _
  have HKey := hide hkey
  have HLen := hide hlen
  have hnl : nb.length ≤ 1048576 := by omega
  have HK1 := hide (HK0.out.trans hk)
  have HL1 := hide (HL0.out.kept hk)
  have HM1 := hide hb.mem
  have HA1 : Hid (∀ g, Value.ownBlock (.slice (some ⟨w.heap.size + 1, 0, none⟩) 0 0) = some g → g ∉ fp ((a, scells nb) :: nb.map Sc.seg)) := fun g hg hx => by
    have h1 := hb.new g hx
    have h2 : g = w.heap.size + 1 := by simpa [Value.ownBlock] using hg.symm
    have := HS0.out
    have e : (W0.alloc (.cells #[] 30)).heap.size = w.heap.size + 1 + 1 := HS0.out
    omega
  clear hkey hlen hk hb HL0 HT hna hlog
  go_wp2_with fail
  go_loopw [3, 18] (fun x y wr => ∃ (j : Nat) (oa : Option Addr) (oc ln : Nat), j ≤ nb.length ∧ Hid ((evsTo (dat cs ds) j).length = ln) ∧ x = .slice oa ln oc ∧ y = .int .i64 (j : Int) ∧ Hid (LB 30 7 Ev.cells Ev.seg (w.heap.size + 1) wr (.slice oa ln oc) (evsTo (dat cs ds) j)) ∧ Hid (Mem wr ((a, scells nb) :: nb.map Sc.seg)) ∧ Hid (∀ g, Value.ownBlock (.slice oa ln oc) = some g → g ∉ fp ((a, scells nb) :: nb.map Sc.seg)) ∧ Hid (Keeps W0 wr)) (fun _ y _ => nb.length - (intOf y).toNat)
  case atStart => exact ⟨0, some ⟨w.heap.size + 1, 0, none⟩, 0, 0, Nat.zero_le _, rfl, rfl, rfl, HL1, HM1, HA1, HK1⟩
  case round =>
    obtain ⟨j, oa, oc, ln, hj, HLn, rfl, rfl, HLr, HMr, HAr, HKr⟩ := hrel
    by_cases hlt : j < nb.length
    · obtain ⟨b, off, ea, c0, c1, c2⟩ := cell3 (HMr.out (a, scells nb) (by simp)) j hlt
      have HBod : Hid (nb[j].b.L = srL (readL (dat cs ds) j)) := by
        have h1 := congrArg (fun l => l[j]?) HKey.out
        have h2 : j < logN (dat cs ds) := by have := HLen.out; omega
        simp [logS, secsTo, hlt, h2] at h1
        exact congrArg (fun z => z.2.2) h1
      have HCb := hide (mem_segS (mem_cons.1 HMr.out).2 j hlt)
      generalize nb[j] = sx at *
      obtain ⟨sq, se, ba, bc, bL⟩ := sx
      dsimp only [Bs.v] at c0 c1 c2 HBod HCb
      subst ea
      have hks := Keeps.alloc (Keeps.refl wr) (.cells #[.int .i64 sq, .int .i64 se, .slice ba bL.length bc] 72)
      have hso := (born_alloc wr #[.int .i64 sq, .int .i64 se, .slice ba bL.length bc] 72).toOwn
      have s2 := cell_at hso.mem 2 (by simp)
      simp only [Nat.zero_add, List.getElem_cons_zero, List.getElem_cons_succ] at s2
      have HBE := hide (bodyspec_any ba bL bc (wr.alloc (.cells #[.int .i64 sq, .int .i64 se, .slice ba bL.length bc] 72)) (HCb.out.kept hks) (by have := HBod.out; have := srL_len (readL (dat cs ds) j); simp_all; omega))
      have HKs := hide hks
      clear hks hso
      go_wp2_with fail
      refine (unhide HBE).mono ?_
      rintro e w3 ⟨rfl, hk3⟩
      clear HBE s2 c0 c1 c2
      rw [ebV_eq]
      generalize hx : ebE bL = x
      have HX := hide hx
      clear hx
      have HK4 := hide ((HKs.out.trans hk3).alloc (.cells #[.int .i64 x.k, .int .i64 x.y, .int .i64 x.c, .int .i64 x.t, .int .i64 x.m, .int .i64 x.f, .bool x.b] 30))
      have hev := (born_alloc w3 #[.int .i64 x.k, .int .i64 x.y, .int .i64 x.c, .int .i64 x.t, .int .i64 x.m, .int .i64 x.f, .bool x.b] 30).toOwn
      have hev0 := cell_at hev.mem 0 (by simp)
      have hev1 := cell_at hev.mem 1 (by simp)
      have hev2 := cell_at hev.mem 2 (by simp)
      have hev3 := cell_at hev.mem 3 (by simp)
      have hev4 := cell_at hev.mem 4 (by simp)
      have hev5 := cell_at hev.mem 5 (by simp)
      have hev6 := cell_at hev.mem 6 (by simp)
      simp only [Nat.zero_add, List.getElem_cons_zero, List.getElem_cons_succ] at hev0 hev1 hev2 hev3 hev4 hev5 hev6
      clear hev hk3
      cases hB : ebB bL
      · go_wp2_with fail
        go_roundw
        case rel => exact ⟨j + 1, oa, oc, ln, by omega, (by show _ = _; rw [evsTo_no (by rw [← HBod.out]; exact hB)]; exact HLn.out), rfl, by go_num, (by show LB 30 7 Ev.cells Ev.seg (w.heap.size + 1) _ _ _; rw [evsTo_no (by rw [← HBod.out]; exact hB)]; exact HLr.out.kept HK4.out), hide (HMr.out.kept HK4.out), HAr, hide (HKr.out.trans HK4.out)⟩
        case measure => simp [intOf]; omega
      · have hll := evsTo_len (dat cs ds) j
        rw [HLn.out] at hll
        have hown := (HLr.out.kept HK4.out).row
        rw [HLn.out] at hown
        obtain ⟨v', w5, e5, hr5, hg5, hv5⟩ := run_event (w3.alloc (.cells #[.int .i64 x.k, .int .i64 x.y, .int .i64 x.c, .int .i64 x.t, .int .i64 x.m, .int .i64 x.f, .bool x.b] 30)) (w.heap.size + 1) (.slice oa ln oc) ln _ x 39 hown (by omega) (HLr.out.kept HK4.out).size
        obtain ⟨g', cap', rfl⟩ := ownsRow_plus hr5
        have HL5 := hide (HLr.out.snoc (x := x) (Turn.of_keeps HK4.out []) (by simp) (own_none _ x) (fun b hb' => by simp [fp, fpS, Ev.seg] at hb') hg5 (by rw [HLn.out]; exact hr5) hv5)
        have T5 : Turn (Value.ownBlock (.slice oa ln oc)).toList (w3.alloc (.cells #[.int .i64 x.k, .int .i64 x.y, .int .i64 x.c, .int .i64 x.t, .int .i64 x.m, .int .i64 x.f, .bool x.b] 30)) w5 := ((Turn.of_keeps (Keeps.alloc (Keeps.refl (w3.alloc (.cells #[.int .i64 x.k, .int .i64 x.y, .int .i64 x.c, .int .i64 x.t, .int .i64 x.m, .int .i64 x.f, .bool x.b] 30))) (.cells #[.int .i64 x.k, .int .i64 x.y, .int .i64 x.c, .int .i64 x.t, .int .i64 x.m, .int .i64 x.f, .bool x.b] 30)) []).trans (Turn.of_grown (fs := (Value.ownBlock (.slice oa ln oc)).toList) hg5 (fun k hk' => by rw [hk']; simp))).mono (by simp)
        have HM5 := hide ((HMr.out.kept HK4.out).turn T5 (fun b hb hx => HAr.out b (by simpa using hx) hb))
        have HA5 : Hid (∀ g, Value.ownBlock (.slice (some ⟨g', 0, none⟩) (ln + 1) cap') = some g → g ∉ fp ((some (⟨b, off, none⟩ : Addr), scells nb) :: nb.map Sc.seg)) := fun g hg hx => by
          rcases hv5 with h1 | h1
          · rw [h1] at hg; exact HAr.out g hg hx
          · rw [h1] at hg
            have h2 := (HMr.out.kept HK4.out).lt g hx
            have h3 := Option.some.inj hg
            simp at h2 h3
            omega
        have HK5 : Hid (Keeps W0 w5) := Keeps.grown ((HKr.out.trans HK4.out).alloc _) hg5 (fun g hg => by have := HSA.out; have := (HLr.out.row.lt g hg).1; omega)
        simp only [World.size_alloc] at e5
        have HE5 := hide e5
        clear hown e5 hr5 hg5 hv5 T5
        go_wp2_with (at_builtin; refine Lib.wpList_append_run _ rfl (.tmp 29) (.tmp 31) _ _ rfl _ _ rfl rfl _ _ HE5.out ?_)
        go_roundw
        case rel => exact ⟨j + 1, some ⟨g', 0, none⟩, cap', ln + 1, by omega, (by show _ = _; rw [evsTo_yes (by rw [← HBod.out]; exact hB), List.length_append, HLn.out]; rfl), rfl, by go_num, (by show LB 30 7 Ev.cells Ev.seg (w.heap.size + 1) _ _ _; rw [evsTo_yes (by rw [← HBod.out]; exact hB), ← HBod.out, HX.out]; exact HL5.out), HM5, HA5, HK5⟩
        case measure => simp [intOf]; omega
    · have e : j = nb.length := by omega
      subst e
      go_wp2_with fail
      refine bodyPost_ret (v := .slice oa ln oc) (by simp [results, Tryz.results18, go_sem]) rfl ?_
      exact LePost.of HLn.out HLr.out (HKA.out.trans HKr.out) HLen.out.symm
end Go.Proofs.YtkdnddckogbgaaaGreatDoor
