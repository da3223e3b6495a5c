/- Texts of the verifier, joined: SRW, LTs, LRs, SgX, Sent. -/
import Derived.Test.YtkdnddckogbgaaaDoorLR12
import Derived.Test.YtkdnddckogbgaaaDoorLR9
import Derived.Test.YtkdnddckogbgaaaDoorLR10
import Derived.Lib.AppendZeros
import Derived.Test.YtkdnddckogbgaaaDoorLR7
import Derived.Test.YtkdnddckogbgaaaDoorLR2
import Derived.Test.YtkdnddckogbgaaaDoorLR1
namespace Go.Proofs.YtkdnddckogbgaaaDoor
open Go.RowKit Go.Deep
set_option linter.unusedVariables false
set_option linter.unusedSimpArgs false
theorem getV_nat (L : List UInt8) (p s : Int) : ∃ n : Nat, getV L p s = (n : Nat) := by
  unfold getV
  split
  · exact ⟨_, rfl⟩
  · exact ⟨0, rfl⟩
theorem sec_byte7 {q e : Nat} {L : List UInt8} (h : secL q e [] = L) : numL (cut L 7 1) = 0 := by
  have e1 : secL q e [] = ([74] ++ digs q 3 ++ digs e 3) ++ ([0] ++ (List.replicate 114 0 ++ digs q 3 ++ digs e 3)) := by
    unfold secL
    rw [show digs ([] : List UInt8).length 1 = [0] from rfl]
    simp [List.append_assoc]
  rw [← h, e1]
  unfold cut
  rw [List.drop_append_of_le_length (by simp [digs_length]), List.drop_of_length_le (by simp [digs_length])]
  simp [numL]
theorem secread_spec (b off : Nat) (L : List UInt8) (cap : Nat) (w : World) (hc : Cells w (some ⟨b, off, none⟩) (bys L)) (hl : L.length ≤ 16777216) (hcap : L.length ≤ cap) (hcm : cap ≤ 9223372036854775807) :
    Calls Tryd.prog 26 #[.slice (some ⟨b, off, none⟩) L.length cap] w (SrPost w L) := by
  by_cases h128 : L.length = 128
  · have g1 : getV L 1 3 = (numL (cut L 1 3) : Nat) := getV_cut (p := 1) (s := 3) (by decide) (by decide) (by omega)
    have g2 : getV L 4 3 = (numL (cut L 4 3) : Nat) := getV_cut (p := 4) (s := 3) (by decide) (by decide) (by omega)
    have g3 : getV L 7 1 = (numL (cut L 7 1) : Nat) := getV_cut (p := 7) (s := 1) (by decide) (by decide) (by omega)
    by_cases hn : numL (cut L 7 1) ≤ 100
    · have hlen : (cut L 8 (numL (cut L 7 1))).length = numL (cut L 7 1) := cut_length (by omega)
      have ha := sec_again h128 rfl hn
      cases hok : secB (numL (cut L 1 3) : Nat) (numL (cut L 4 3) : Nat) (cut L 8 (numL (cut L 7 1))).length
      · have hsr : srB L = false := by unfold srB; rw [← hlen, hok, Bool.and_false]
        exact secspec_b_ok b off L cap w hc hl _ _ _ g1 g2 g3 hn h128 hcap hcm hok hsr
      · have hR : secR (numL (cut L 1 3) : Nat) (numL (cut L 4 3) : Nat) (cut L 8 (numL (cut L 7 1))) = secL (numL (cut L 1 3)) (numL (cut L 4 3)) (cut L 8 (numL (cut L 7 1))) := by unfold secR; rw [if_pos hok]; simp
        have hok' := hok
        rw [hlen] at hok'
        by_cases hh : numL (cut L 0 1) = 74 ∧ cut L (8 + numL (cut L 7 1)) (114 - numL (cut L 7 1)) = List.replicate (114 - numL (cut L 7 1)) 0 ∧ numL (cut L 122 3) = numL (cut L 1 3) ∧ numL (cut L 125 3) = numL (cut L 4 3)
        · have hsr : srB L = true := by
            unfold srB
            rw [hok', decide_eq_true h128, decide_eq_true hn, decide_eq_true hh.1, decide_eq_true hh.2.1, decide_eq_true hh.2.2.1, decide_eq_true hh.2.2.2]; rfl
          exact secspec_b_yes b off L cap w hc hl _ _ _ g1 g2 g3 hn h128 hcap hcm hok (hR.trans (ha.2 hh)) hsr rfl rfl rfl
        · have hsr : srB L = false := by
            rw [Bool.eq_false_iff]
            intro h
            unfold srB at h
            simp only [Bool.and_eq_true, decide_eq_true_eq] at h
            exact hh ⟨h.1.1.1.1.1.2, h.1.1.1.2, h.1.1.2, h.1.2⟩
          exact secspec_b_ne b off L cap w hc hl _ _ _ g1 g2 g3 hn h128 hcap hcm hok (fun e => hh (ha.1 (hR.symm.trans e))) hsr
    · have hsr : srB L = false := by
        rw [Bool.eq_false_iff]
        intro h
        unfold srB at h
        simp only [Bool.and_eq_true, decide_eq_true_eq] at h
        exact hn h.1.1.1.1.2
      cases hok : secB (numL (cut L 1 3) : Nat) (numL (cut L 4 3) : Nat) ([] : List UInt8).length
      · exact secspec_n_ok b off L cap w hc hl _ _ _ g1 g2 g3 (fun h => hn h.1) hok hsr
      · refine secspec_n_ne b off L cap w hc hl _ _ _ g1 g2 g3 (fun h => hn h.1) hok (fun e => hn ?_) hsr
        have hR : secR (numL (cut L 1 3) : Nat) (numL (cut L 4 3) : Nat) [] = secL (numL (cut L 1 3)) (numL (cut L 4 3)) [] := by unfold secR; rw [if_pos hok]; simp
        have := sec_byte7 (hR.symm.trans e)
        omega
  · have hsr : srB L = false := by unfold srB; rw [decide_eq_false h128]; rfl
    obtain ⟨q, g1⟩ := getV_nat L 1 3
    obtain ⟨e, g2⟩ := getV_nat L 4 3
    obtain ⟨n, g3⟩ := getV_nat L 7 1
    cases hok : secB (q : Int) (e : Int) ([] : List UInt8).length
    · exact secspec_n_ok b off L cap w hc hl _ _ _ g1 g2 g3 (fun h => h128 h.2) hok hsr
    · refine secspec_n_ne b off L cap w hc hl _ _ _ g1 g2 g3 (fun h => h128 h.2) hok (fun e => h128 ?_) hsr
      rw [← e]
      unfold secR
      rw [if_pos hok, secL_length (by simp)]
end Go.Proofs.YtkdnddckogbgaaaDoor
namespace Go.Proofs.YtkdnddckogbgaaaDoor
open Go.RowKit Go.Deep
set_option linter.unusedVariables false
set_option maxRecDepth 10000

/-- SectorRead of the model, of a whole sector that the call itself made. -/
theorem secspec_own (v : Value) (L : List UInt8) (base : Nat) (w : World) (ho : OwnsB w base v L) (hl : L.length = 128) :
    Calls Tryd.prog 26 #[v] w (SrPost w L) := by
  obtain ⟨a, cap, e1, e2, e3, e4, e5, _⟩ := Own.of_owns ho
  have hc := e5.one
  rcases ho.2 with ⟨rfl, _⟩ | ⟨g, c, _, rfl, _⟩
  · injection e1 with e6 e7 e8
    omega
  · injection e1 with e6 e7 e8
    rw [← e6] at hc
    rw [← e8] at e2 e3
    exact secread_spec g 0 L c w hc (by omega) e2 (Nat.le_trans e3 (by decide))
theorem readL_full {m : DkM} {i : Int} (h : readB m i = true) : (readL m i).length = 128 := by
  unfold readL
  rw [if_pos h]
  simp only [readB, Bool.and_eq_true, decide_eq_true_eq] at h
  obtain ⟨hd, h0, h1⟩ := h
  cases hl : lastD m.dirty i with
  | some L =>
    obtain ⟨x, hx, rfl⟩ := lastD_mem _ _ hl
    exact (dokM_dirty hd hx).2.2
  | none =>
    simp only [Option.getD_none]
    have hx : i.toNat < m.cells.length := by omega
    have hc := dokM_cell hd (L := m.cells.getD i.toNat []) (by simp [List.getD, hx])
    unfold fullL
    split
    · simp
    · next hne =>
      rcases hc with hc | hc
      · exact absurd (List.length_eq_zero_iff.1 hc) hne
      · exact hc
end Go.Proofs.YtkdnddckogbgaaaDoor
namespace Go.Proofs.YtkdnddckogbgaaaDoor
open Go.RowKit Go.Deep
set_option linter.unusedVariables false
set_option maxRecDepth 10000

theorem LrPost.of {w w' : World} {m : DkM} {oa : Option Addr} {oc : Nat} {nb : List Sc} {k : Nat} (hl : nb.length = k) (h : LB 52 3 Sc.cells Sc.seg (w.heap.size + 1) w' (.slice oa k oc) nb) (hk : Keeps w w') (he : nb.map Sc.key = secsTo m k) (hn : logN m = k) : LrPost w m (.returned (.tuple #[.slice oa k oc, .int .i64 (k : Nat)])) w' := by
  subst hl
  obtain ⟨a, cap, e, hna, ho, hnew⟩ := h.born
  injection e with e1 _ e2
  subst e1 e2
  exact ⟨oa, oc, nb, by rw [hn], by unfold logS; rw [hn]; exact he, hna, ⟨ho, fun b hb => by have := hnew b hb; omega⟩, hk⟩
theorem ownsRow_plus {W : World} {base : Nat} {e : TypeId} {size : Nat} {v : Value} {k : Nat} {xs : List Value} (h : W.ownsRow base e size v (k + 1) xs) : ∃ g cap, v = .slice (some ⟨g, 0, none⟩) (k + 1) cap := by
  rcases h.2 with ⟨_, h0⟩ | ⟨g, cap, _, rfl, _⟩
  · omega
  · exact ⟨g, cap, rfl⟩
set_option maxHeartbeats 8000000 in
theorem logread_spec (ca : Option Addr) (cc : Nat) (cs : List Bs) (da : Option Addr) (dc : Nat) (ds : List Wr) (w : World) (hm : Mem w (dsk ca cs da ds)) (h : DOk cs ds) :
    Calls Tryd.prog 7 #[dskV ca cs.length cc da ds.length dc] w (LrPost w (dat cs ds)) := by
  have HKA := hide (Keeps.alloc (Keeps.refl w) (.cells #[.slice ca cs.length cc, .slice da ds.length dc] 33))
  have HM := hide (hm.kept HKA.out)
  have HDO := hide h
  have hcl := h.c
  have HSA : Hid ((w.alloc (.cells #[.slice ca cs.length cc, .slice da ds.length dc] 33)).heap.size = w.heap.size + 1) := by show _ = _; rw [World.size_alloc]
  have HD : Hid (∀ w', Keeps (w.alloc (.cells #[.slice ca cs.length cc, .slice da ds.length dc] 33)) w' → w'.cell? ⟨w.heap.size, 0, none⟩ = some (.slice ca cs.length cc) ∧ w'.cell? ⟨w.heap.size, 1, none⟩ = some (.slice da ds.length dc)) :=
    fun w' hk => ⟨hk.cell (by simp), hk.cell (by simp)⟩
  have HK0 := hide (Keeps.alloc (Keeps.refl (w.alloc (.cells #[.slice ca cs.length cc, .slice da ds.length dc] 33))) (.cells #[] 52))
  have HL0 : Hid (LB 52 3 Sc.cells Sc.seg (w.heap.size + 1) ((w.alloc (.cells #[.slice ca cs.length cc, .slice da ds.length dc] 33)).alloc (.cells #[] 52)) (.slice (some ⟨w.heap.size + 1, 0, none⟩) 0 0) []) := by
    have h0 := World.ownsRow_made (base := (w.alloc (.cells #[.slice ca cs.length cc, .slice da ds.length dc] 33)).heap.size) (e := 52) (size := 3) (w.alloc (.cells #[.slice ca cs.length cc, .slice da ds.length dc] 33)) #[] 0 (Nat.le_refl _) (by decide) rfl
    refine ⟨w.alloc (.cells #[.slice ca cs.length cc, .slice da ds.length dc] 33), HSA.out, LG.nil _ _ _ _ ?_ HK0.out⟩
    have e : (w.alloc (.cells #[.slice ca cs.length cc, .slice da ds.length dc] 33)).heap.size = w.heap.size + 1 := HSA.out
    rw [← e]
    exact h0
  have HT := hide (diskok_spec' ca cc cs da dc ds _ (HM.out.kept HK0.out) h)
  obtain ⟨b, hbb⟩ : ∃ b, dokM (dat cs ds) = b := ⟨_, rfl⟩
  rw [hbb] at HT
  have HBB := hide hbb
  have hml : (dat cs ds).cells.length = cs.length := by simp [dat]
  have HML := hide hml
  clear hm h hbb hml
  obtain ⟨d0, d1⟩ := HD.out _ HK0.out
  go_enter Tryd.func7, Tryd.ntmps7
  go_wp2_with fail
  generalize w.alloc (.cells #[.slice ca cs.length cc, .slice da ds.length dc] 33) = W0 at *
  refine (unhide HT).mono ?_
  rintro x w1 ⟨rfl, hk⟩
  clear d0 d1 HT
  obtain ⟨d0, d1⟩ := HD.out _ (HK0.out.trans hk)
  have HK1 := hide (HK0.out.trans hk)
  have HL1 := hide (HL0.out.kept hk)
  clear hk HL0
  cases b
  · go_wp2_with fail
    refine bodyPost_ret (v := .tuple #[.slice (some ⟨w.heap.size + 1, 0, none⟩) 0 0, .int .i64 0]) (by simp [results, Tryd.results7, go_sem]) rfl ?_
    refine LrPost.of (nb := []) (k := 0) rfl HL1.out (HKA.out.trans HK1.out) rfl ?_
    have hf : fitB (dat cs ds) 0 = false := by unfold fitB; rw [readL_bad HBB.out]; rfl
    exact logTo_stop (fun j hj => absurd hj (by omega)) hf (Nat.zero_le _)
  · go_wp2_with fail
    go_loopw [4, 5, 6] (fun x y z wr => ∃ (k : Nat) (oa : Option Addr) (oc : Nat) (nb : List Sc), k ≤ cs.length ∧ Hid (nb.length = k) ∧ x = .slice oa k oc ∧ y = .int .i64 (lastE (dat cs ds) k) ∧ z = .int .i64 (k : Int) ∧ Hid (fitTo (dat cs ds) k) ∧ Hid (nb.map Sc.key = secsTo (dat cs ds) k) ∧ Hid (LB 52 3 Sc.cells Sc.seg (w.heap.size + 1) wr (.slice oa k oc) nb) ∧ Hid (Keeps W0 wr)) (fun _ _ z _ => cs.length - (intOf z).toNat)
    case atStart => exact ⟨0, some ⟨w.heap.size + 1, 0, none⟩, 0, [], Nat.zero_le _, rfl, rfl, rfl, rfl, (fun j hj => absurd hj (by omega)), rfl, HL1, HK1⟩
    case round =>
      obtain ⟨k, oa, oc, nb, hk, HNL, rfl, rfl, rfl, HFt, HKey, HLr, HK2⟩ := hrel
      clear d0 d1
      obtain ⟨d0, d1⟩ := HD.out _ HK2.out
      have HKr := hide (HKA.out.trans HK2.out)
      by_cases hlt : k < cs.length
      · have HR := hide (diskread_spec ca cc cs da dc ds (k : Nat) wr (HM.out.kept HK2.out) HDO.out)
        go_wp2_with fail
        refine (unhide HR).mono ?_
        rintro x w2 ⟨v, rfl, ho, hk2⟩
        have hrb : readB (dat cs ds) (k : Nat) = true := readB_in HBB.out (by omega) (by rw [HML.out]; omega)
        rw [hrb]
        have HS := hide (secspec_own v _ _ w2 ho (readL_full hrb))
        have HK3 := hide (HK2.out.trans hk2)
        have HKs := hide hk2
        clear ho hk2 HR d0 d1 hrb
        go_wp2_with fail
        refine (unhide HS).mono ?_
        rintro x w3 ⟨a, c, rfl, hac, hb, hk3⟩
        have hka := Keeps.alloc (Keeps.refl w3) (.cells #[.int .i64 (srQ (readL (dat cs ds) k)), .int .i64 (srE (readL (dat cs ds) k)), .slice a (srL (readL (dat cs ds) k)).length c] 52)
        have hsz := (born_alloc w3 #[.int .i64 (srQ (readL (dat cs ds) k)), .int .i64 (srE (readL (dat cs ds) k)), .slice a (srL (readL (dat cs ds) k)).length c] 52).toOwn
        have s0 := cell_at hsz.mem 0 (by simp)
        have s1 := cell_at hsz.mem 1 (by simp)
        have s2 := cell_at hsz.mem 2 (by simp)
        simp only [Nat.zero_add, List.getElem_cons_zero, List.getElem_cons_succ] at s0 s1 s2
        have HKR := hide ((HKs.out.trans hk3).trans hka)
        have HKW := hide (HK2.out.trans HKR.out)
        have HB := hide ((hb.kept hka).old HKs.out)
        clear hb hac hk3 HS hka hsz
        obtain ⟨d0, d1⟩ := HD.out _ HKW.out
        generalize hqq : srQ (readL (dat cs ds) k) = q at *
        have HQ := hide hqq
        clear hqq
        cases hB : srB (readL (dat cs ds) k)
        · have hnf : fitB (dat cs ds) k = false := by unfold fitB; rw [hB]; rfl
          replace HKr := hide (HKA.out.trans HKW.out)
          replace HLr := hide (HLr.out.kept HKR.out)
          go_wp2_with fail
          refine bodyPost_ret (v := .tuple #[.slice oa k oc, .int .i64 (k : Nat)]) (by simp [results, Tryd.results7, go_sem]) rfl ?_
          refine LrPost.of HNL.out HLr.out HKr.out HKey.out ?_
          exact logTo_stop HFt.out hnf (by rw [HML.out]; exact hk)
        · by_cases hq : q = (k : Int)
          · subst hq
            by_cases he : srE (readL (dat cs ds) k) < lastE (dat cs ds) k
            · have hnf : fitB (dat cs ds) k = false := by unfold fitB; rw [decide_eq_false (p := lastE (dat cs ds) k ≤ srE (readL (dat cs ds) k)) (by omega), Bool.and_false]
              replace HKr := hide (HKA.out.trans HKW.out)
              replace HLr := hide (HLr.out.kept HKR.out)
              go_wp2_with fail
              refine bodyPost_ret (v := .tuple #[.slice oa k oc, .int .i64 (k : Nat)]) (by simp [results, Tryd.results7, go_sem]) rfl ?_
              refine LrPost.of HNL.out HLr.out HKr.out HKey.out ?_
              exact logTo_stop HFt.out hnf (by rw [HML.out]; exact hk)
            · have hfit : fitB (dat cs ds) k = true := by unfold fitB; rw [hB, decide_eq_true HQ.out, decide_eq_true (by omega)]; rfl
              have hown := (HLr.out.kept HKR.out).row
              rw [HNL.out] at hown
              obtain ⟨v', w5, e5, hr5, hg5, hv5⟩ := run_sector (w3.alloc (.cells #[.int .i64 (k : Int), .int .i64 (srE (readL (dat cs ds) k)), .slice a (srL (readL (dat cs ds) k)).length c] 52)) (w.heap.size + 1) (.slice oa k oc) k _ (.int .i64 (k : Int)) (.int .i64 (srE (readL (dat cs ds) k))) (.slice a (srL (readL (dat cs ds) k)).length c) rfl rfl rfl 27 hown (by omega) (HLr.out.kept HKR.out).size
              obtain ⟨g', cap', rfl⟩ := ownsRow_plus hr5
              have HL5 := hide (HLr.out.snoc (x := ⟨(k : Int), srE (readL (dat cs ds) k), ⟨a, c, srL (readL (dat cs ds) k)⟩⟩) (Turn.of_keeps HKR.out []) (by simp) HB.out.toOwn HB.out.new hg5 (by rw [HNL.out]; exact hr5) hv5)
              have HK5 : Hid (Keeps W0 w5) := Keeps.grown (HKW.out.alloc _) hg5 (fun g hg => by have := HSA.out; have := (HLr.out.row.lt g hg).1; omega)
              simp only [World.size_alloc] at e5
              have HE5 := hide e5
              have HFT := hide (fitTo_succ HFt.out hfit)
              clear hown e5 hr5 hg5 hv5
              go_wp2_with (at_builtin; refine Lib.wpList_append_run _ rfl (.tmp 50) (.tmp 52) _ _ rfl _ _ rfl rfl _ _ HE5.out ?_)
              go_roundw
              case rel => exact ⟨k + 1, some ⟨g', 0, none⟩, cap', nb ++ [⟨(k : Int), srE (readL (dat cs ds) k), ⟨a, c, srL (readL (dat cs ds) k)⟩⟩], by omega, (by show _ = _; rw [List.length_append, HNL.out]; rfl), rfl, rfl, by go_num, HFT, (by show _ = _; rw [List.map_append, HKey.out, secsTo_succ, HQ.out]; rfl), HL5, HK5⟩
              case measure => simp [intOf]; omega
          · have hnf : fitB (dat cs ds) k = false := by unfold fitB; rw [HQ.out, decide_eq_false hq, Bool.and_false, Bool.false_and]
            replace HKr := hide (HKA.out.trans HKW.out)
            replace HLr := hide (HLr.out.kept HKR.out)
            go_wp2_with fail
            refine bodyPost_ret (v := .tuple #[.slice oa k oc, .int .i64 (k : Nat)]) (by simp [results, Tryd.results7, go_sem]) rfl ?_
            refine LrPost.of HNL.out HLr.out HKr.out HKey.out ?_
            exact logTo_stop HFt.out hnf (by rw [HML.out]; exact hk)
      · have e : k = cs.length := by omega
        subst e
        go_wp2_with fail
        refine bodyPost_ret (v := .tuple #[.slice oa cs.length oc, .int .i64 (cs.length : Nat)]) (by simp [results, Tryd.results7, go_sem]) rfl ?_
        refine LrPost.of HNL.out HLr.out HKr.out HKey.out ?_
        unfold logN; rw [HML.out]; exact logTo_all HFt.out
end Go.Proofs.YtkdnddckogbgaaaDoor
namespace Go.Proofs.YtkdnddckogbgaaaDoor
open Go.RowKit Go.Deep
set_option linter.unusedVariables false
set_option maxRecDepth 10000

def totS (ds : List Sc) : Nat := (ds.map fun x => x.b.L.length).sum
theorem totS_take (ds : List Sc) (k : Nat) (h : k < ds.length) : totS (ds.take (k + 1)) = totS (ds.take k) + ds[k].b.L.length := by
  unfold totS
  rw [List.take_succ_eq_append_getElem h, List.map_append, List.sum_append]
  rfl
theorem totS_append (xs ys : List Sc) : totS (xs ++ ys) = totS xs + totS ys := by simp [totS]
theorem totS_take_le (ds : List Sc) (k : Nat) : totS (ds.take k) ≤ totS ds := by
  have := totS_append (ds.take k) (ds.drop k)
  rw [List.take_append_drop] at this
  omega
theorem mem_segS {w : World} {ds : List Sc} (h : Mem w (ds.map Sc.seg)) (k : Nat) (hk : k < ds.length) : Cells w ds[k].b.a (bys ds[k].b.L) := h ds[k].seg (List.mem_map.2 ⟨_, List.getElem_mem hk, rfl⟩)
theorem scells_len : ∀ xs : List Sc, (scells xs).length = xs.length * 3
  | [] => rfl
  | x :: t => by
    have := scells_len t
    simp only [scells, List.flatMap_cons, List.length_append, List.length_cons] at this ⊢
    rw [this]
    simp [Sc.cells]
    omega
theorem scells_append (xs ys : List Sc) : scells (xs ++ ys) = scells xs ++ scells ys := by simp [scells]
theorem scells_at (xs : List Sc) (k : Nat) (h : k < xs.length) : (scells xs)[k * 3]? = some (.int .i64 xs[k].q) ∧ (scells xs)[k * 3 + 1]? = some (.int .i64 xs[k].e) ∧ (scells xs)[k * 3 + 2]? = some xs[k].b.v := by
  have e : xs = xs.take k ++ xs[k] :: xs.drop (k + 1) := by rw [← List.drop_eq_getElem_cons h]; simp
  have hl : (scells (xs.take k)).length = k * 3 := by rw [scells_len]; simp; omega
  have e2 : scells xs = scells (xs.take k) ++ ([.int .i64 xs[k].q, .int .i64 xs[k].e, xs[k].b.v] ++ scells (xs.drop (k + 1))) := by
    conv => lhs; rw [e]
    rw [scells_append]
    rfl
  rw [e2]
  refine ⟨?_, ?_, ?_⟩
  · rw [List.getElem?_append_right (by omega), hl]; simp
  · rw [List.getElem?_append_right (by omega), hl, show k * 3 + 1 - k * 3 = 1 by omega]; simp
  · rw [List.getElem?_append_right (by omega), hl, show k * 3 + 2 - k * 3 = 2 by omega]; simp
theorem cell3 {w : World} {a : Option Addr} {xs : List Sc} (h : Cells w a (scells xs)) (k : Nat) (hk : k < xs.length) :
    ∃ b off, a = some ⟨b, off, none⟩ ∧ w.cell? ⟨b, off + k * 3, none⟩ = some (.int .i64 xs[k].q) ∧ w.cell? ⟨b, off + k * 3 + 1, none⟩ = some (.int .i64 xs[k].e) ∧ w.cell? ⟨b, off + k * 3 + 2, none⟩ = some xs[k].b.v := by
  have hl := scells_len xs
  obtain ⟨h0, h1, h2⟩ := scells_at xs k hk
  rcases h with h' | ⟨b, off, e, h'⟩
  · rw [h'] at hl
    simp at hl
    omega
  · refine ⟨b, off, e, ?_, ?_, ?_⟩
    · have := h' (k * 3) (by omega)
      rw [this, ← h0, List.getElem?_eq_getElem (by omega)]
    · have := h' (k * 3 + 1) (by omega)
      rw [← Nat.add_assoc] at this
      rw [this, ← h1, List.getElem?_eq_getElem (by omega)]
    · have := h' (k * 3 + 2) (by omega)
      rw [← Nat.add_assoc] at this
      rw [this, ← h2, List.getElem?_eq_getElem (by omega)]
set_option maxHeartbeats 2000000 in
theorem eqSectorS_k (a a' : Option Addr) (cap cap' : Nat) (xs ys : List Sc) (w : World) (he : ys.map Sc.key = xs.map Sc.key) (hc : Cells w a (scells xs)) (hm : Mem w (xs.map Sc.seg)) (hc' : Cells w a' (scells ys)) (hm' : Mem w (ys.map Sc.seg)) (hl : xs.length ≤ 1048576) (ht : ∀ x ∈ xs, x.b.L.length ≤ 16777216) :
    Calls Tryd.prog 10 #[.slice a xs.length cap, .slice a' ys.length cap'] w fun e w' => e = .returned (.bool true) ∧ Keeps w w' := by
  have HC := hide hc
  have HC' := hide hc'
  have HM := hide hm
  have HM' := hide hm'
  have hn : ys.length = xs.length := by have := congrArg List.length he; simpa using this
  have HE := hide he
  have HT := hide ht
  have hn' : ((xs.length : Int) != (ys.length : Int)) = false := by rw [hn]; simp
  have HN := hide hn
  clear hc hc' hm hm' he ht hn
  go_enter Tryd.func10, Tryd.ntmps10
  go_wp2_with fail
  go_loopw [5] (fun y w1 => ∃ k : Nat, k ≤ xs.length ∧ y = .int .i64 (k : Int) ∧ Keeps w w1) (fun y _ => xs.length - (intOf y).toNat)
  case atStart => exact ⟨0, by omega, rfl, Keeps.refl _⟩
  case round =>
    obtain ⟨k, hk, rfl, hkw⟩ := hrel
    by_cases hlt : k < xs.length
    · have hlt' : k < ys.length := by have := HN.out; omega
      obtain ⟨b, off, ea, c0, c1, c2⟩ := cell3 (HC.out.kept hkw) k hlt
      obtain ⟨b', off', ea', d0, d1, d2⟩ := cell3 (HC'.out.kept hkw) k hlt'
      subst ea ea'
      have hK : ys[k].key = xs[k].key := by
        have h := congrArg (fun l => l[k]?) HE.out
        simpa [hlt, hlt'] using h
      have hL : ys[k].b.L = xs[k].b.L := congrArg (fun z => z.2.2) hK
      have hI : ys[k].q = xs[k].q := congrArg Prod.fst hK
      have hJ : ys[k].e = xs[k].e := congrArg (fun z => z.2.1) hK
      clear hK
      have HQ := hide (fun t => eqSector_k xs[k].q xs[k].e xs[k].b.a ys[k].b.a xs[k].b.cap ys[k].b.cap xs[k].b.L (gr wr t) (((mem_segS HM.out k hlt).kept hkw).kept (gr_keeps wr t)) (by rw [← hL]; exact ((mem_segS HM'.out k hlt').kept hkw).kept (gr_keeps wr t)) (HT.out _ (List.getElem_mem hlt)))
      have g0 := gr_cell c0
      have g1 := gr_cell c1
      have g2 := gr_cell c2
      have g3 := gr_cell d0
      have g4 := gr_cell d1
      have g5 := gr_cell d2
      unfold Bs.v at c2 d2 g2 g5
      rw [hL] at d2 g5
      rw [hI] at d0 g3
      rw [hJ] at d1 g4
      clear hL hI hJ
      generalize xs[k] = x at *
      generalize ys[k] = y at *
      obtain ⟨xq, xe, xa, xc, xL⟩ := x
      obtain ⟨yq, ye, ya, yc, yL⟩ := y
      dsimp only at c0 c1 c2 d0 d1 d2 g0 g1 g2 g3 g4 g5 HQ
      go_wp2_with fail
      refine region_gr (by kernel_rfl) (by kernel_rfl) ?_
      repeat (go_big_quiet_step (first | (go_at_call 30; exact gr_call (unhide HQ _))))
      refine wpQuiet_nil ?_
      intro w' hw'
      have hk' := hkw.trans (Keeps.of_gr hw')
      clear hw'
      go_wp2_with fail
      go_roundw
      case rel => exact ⟨k + 1, by omega, by go_num, hk'⟩
      case measure => simp [intOf]; omega
    · go_wp2_with fail
      go_ret
      exact ⟨rfl, hkw⟩
/-- The sectors with marks from n on. -/
def markS (n : Nat) : List Sc → List Sc
  | [] => []
  | x :: t => ⟨(n : Int), (n : Int) + 1, ⟨x.b.a, x.b.cap, marksB (n + 1 + 1) x.b.L.length⟩⟩ :: markS (n + 1 + 1 + x.b.L.length) t
theorem markS_len : ∀ (n : Nat) (ds : List Sc), (markS n ds).length = ds.length
  | _, [] => rfl
  | n, b :: t => by simp [markS, markS_len]
theorem markS_append : ∀ (n : Nat) (xs ys : List Sc), markS n (xs ++ ys) = markS n xs ++ markS (n + 2 * xs.length + totS xs) ys
  | n, [], ys => by simp [markS, totS]
  | n, b :: t, ys => by
    have := markS_append (n + 1 + 1 + b.b.L.length) t ys
    simp only [List.cons_append, markS, this, totS, List.map_cons, List.sum_cons, List.length_cons]
    congr 3
    omega
theorem markS_at (n : Nat) (ds : List Sc) (k : Nat) (h : k < ds.length) : (markS n ds)[k]? = some ⟨((n + 2 * k + totS (ds.take k) : Nat) : Int), ((n + 2 * k + totS (ds.take k) : Nat) : Int) + 1, ⟨ds[k].b.a, ds[k].b.cap, marksB (n + 2 * k + totS (ds.take k) + 1 + 1) ds[k].b.L.length⟩⟩ := by
  have e : ds = ds.take k ++ ds[k] :: ds.drop (k + 1) := by rw [← List.drop_eq_getElem_cons h]; simp
  have hk : (ds.take k).length = k := by simp; omega
  have hl : (markS n (ds.take k)).length = k := by rw [markS_len, hk]
  rw [show markS n ds = markS n (ds.take k ++ ds[k] :: ds.drop (k + 1)) by rw [← e], markS_append, List.getElem?_append_right (by omega), hl, hk]
  simp [markS]
theorem scells_set (A B : List Sc) (x : Sc) (n : Int) : (scells (A ++ x :: B)).set (A.length * 3) (.int .i64 n) = scells (A ++ ⟨n, x.e, x.b⟩ :: B) := by
  have hl := scells_len A
  rw [scells_append, scells_append, List.set_append_right _ _ (by omega), hl]
  simp [scells, Sc.cells]
theorem scells_set' (A B : List Sc) (x : Sc) (n : Int) : (scells (A ++ x :: B)).set (A.length * 3 + 1) (.int .i64 n) = scells (A ++ ⟨x.q, n, x.b⟩ :: B) := by
  have hl := scells_len A
  rw [scells_append, scells_append, List.set_append_right _ _ (by omega), hl, show A.length * 3 + 1 - A.length * 3 = 1 by omega]
  simp [scells, Sc.cells]
set_option maxHeartbeats 8000000 in
theorem markSectorS_k (a : Option Addr) (cap : Nat) (ds : List Sc) (n : Nat) (w : World) (h : Own w ((a, scells ds) :: ds.map Sc.seg)) (hl : ds.length ≤ 1048576) (ht : totS ds ≤ 134217728) (hn : n ≤ 1000000000) (hb : ∀ x ∈ ds, x.b.L.length ≤ 16777216) :
    Calls Tryd.prog 13 #[.slice a ds.length cap, .int .i64 (n : Int)] w fun e w' => e = .returned (.int .i64 ((n + 2 * ds.length + totS ds : Nat) : Int)) ∧ Own w' ((a, scells (markS n ds)) :: (markS n ds).map Sc.seg) ∧ Turn (fp ((a, scells ds) :: ds.map Sc.seg)) w w' := by
  have HO := hide h
  have HBd := hide hb
  clear h hb
  go_enter Tryd.func13, Tryd.ntmps13
  go_wp2_with fail
  go_loopw [1, 5] (fun x y wr => ∃ (k z : Nat), k ≤ ds.length ∧ Hid (n + 2 * k + totS (ds.take k) = z) ∧ x = .int .i64 (z : Int) ∧ y = .int .i64 (k : Int) ∧ Hid (Own wr ((a, scells (markS n (ds.take k) ++ ds.drop k)) :: (markS n (ds.take k) ++ ds.drop k).map Sc.seg)) ∧ Hid (fp ((a, scells (markS n (ds.take k) ++ ds.drop k)) :: (markS n (ds.take k) ++ ds.drop k).map Sc.seg) = fp ((a, scells ds) :: ds.map Sc.seg)) ∧ Hid (Turn (fp ((a, scells ds) :: ds.map Sc.seg)) w wr)) (fun _ y _ => ds.length - (intOf y).toNat)
  case atStart => exact ⟨0, n, by omega, by show _ = _; simp [totS], rfl, rfl, by show Own _ _; simpa [markS] using HO.out, by show _ = _; simp [markS], Turn.refl _ _⟩
  case round =>
    obtain ⟨k, z, hk, HZ, rfl, rfl, HOr, HF, HT⟩ := hrel
    by_cases hlt : k < ds.length
    · have HTt := hide (totS_take ds k hlt)
      have hle : ds[k].b.L.length ≤ 16777216 := HBd.out _ (List.getElem_mem hlt)
      have hle2 : totS (ds.take k) ≤ totS ds := totS_take_le ds k
      have hz : z ≤ 1200000000 := by have := HZ.out; omega
      have HDr : Hid (ds.drop k = ds[k] :: ds.drop (k + 1)) := List.drop_eq_getElem_cons hlt
      have HTk : Hid (markS n (ds.take (k + 1)) ++ ds.drop (k + 1) = markS n (ds.take k) ++ (Sc.mk (z : Int) ((z : Int) + 1) (Bs.mk ds[k].b.a ds[k].b.cap (marksB (z + 1 + 1) ds[k].b.L.length))) :: ds.drop (k + 1)) := by
        show _ = _
        rw [← HZ.out, List.take_succ_eq_append_getElem hlt, markS_append, List.append_assoc, show (ds.take k).length = k by simp; omega]; rfl
      have HLA : Hid ((markS n (ds.take k)).length = k) := by show _ = _; rw [markS_len]; simp; omega
      have HZn : Hid (n + 2 * (k + 1) + totS (ds.take (k + 1)) = z + 1 + 1 + ds[k].b.L.length) := by show _ = _; rw [HTt.out]; have := HZ.out; omega
      rw [HDr.out] at HOr HF
      generalize ds[k] = c at *
      obtain ⟨kq, ke, ka, kc, kL⟩ := c
      dsimp only at HTk hle HZn
      generalize markS n (ds.take k) = A at *
      generalize hB : ds.drop (k + 1) = B at HTk HDr HOr HF
      have HBB := hide hB
      clear hB HTt hle2 HZ
      have hcl : Cells wr a (scells (A ++ Sc.mk kq ke (Bs.mk ka kc kL) :: B)) := HOr.out.mem (a, scells (A ++ Sc.mk kq ke (Bs.mk ka kc kL) :: B)) (by simp)
      have hkl : k < (A ++ Sc.mk kq ke (Bs.mk ka kc kL) :: B).length := by have := HLA.out; simp; omega
      obtain ⟨b, off, ea, c0, c1, c2⟩ := cell3 hcl k hkl
      subst ea
      have he : (A ++ Sc.mk kq ke (Bs.mk ka kc kL) :: B)[k] = Sc.mk kq ke (Bs.mk ka kc kL) := by
        rw [List.getElem_append_right (by have := HLA.out; omega)]
        simp [HLA.out]
      rw [he] at c0 c1 c2
      dsimp only [Bs.v] at c0 c1 c2
      have HOo : Hid (Own wr [((some (⟨b, off, none⟩ : Addr)), scells (A ++ Sc.mk kq ke (Bs.mk ka kc kL) :: B))]) := Own.left (S := [_]) (T := (A ++ Sc.mk kq ke (Bs.mk ka kc kL) :: B).map Sc.seg) HOr.out
      have hne : ∀ C : List Sc, scells (A ++ C) = [] → C = [] := fun C e => by
        have := scells_len (A ++ C)
        rw [e] at this
        simp at this
        exact List.length_eq_zero_iff.1 (by omega)
      have hne0 : scells (A ++ Sc.mk kq ke (Bs.mk ka kc kL) :: B) ≠ [] := fun e => by have := hne _ e; simp at this
      have hne1 : scells (A ++ Sc.mk (z : Int) ke (Bs.mk ka kc kL) :: B) ≠ [] := fun e => by have := hne _ e; simp at this
      have f0 : ∀ o, wr.frozen? ⟨b, o, none⟩ = false := HOo.out.free b (by rw [fp_one, fpS_some hne0]; simp)
      have f1 : wr.frozen? ⟨b, off + k * 3, none⟩ = false := f0 _
      have f2 : wr.frozen? ⟨b, off + k * 3 + 1, none⟩ = false := f0 _
      have hset := scells_set A B (Sc.mk kq ke (Bs.mk ka kc kL)) (z : Int)
      have hset' := scells_set' A B (Sc.mk (z : Int) ke (Bs.mk ka kc kL)) ((z : Int) + 1)
      rw [HLA.out] at hset hset'
      have HO1 : Hid (Own (wr.setCell ⟨b, off + k * 3, none⟩ (.int .i64 (z : Int))) [(some ⟨b, off, none⟩, scells (A ++ Sc.mk (z : Int) ke (Bs.mk ka kc kL) :: B))]) := by
        have h1 := HOo.out.setCell (k * 3) (.int .i64 (z : Int)) (by rw [scells_len]; have := HLA.out; simp; omega)
        rw [hset] at h1
        exact h1
      have HO2 : Hid (Own ((wr.setCell ⟨b, off + k * 3, none⟩ (.int .i64 (z : Int))).setCell ⟨b, off + k * 3 + 1, none⟩ (.int .i64 ((z : Int) + 1))) [(some ⟨b, off, none⟩, scells (A ++ Sc.mk (z : Int) ((z : Int) + 1) (Bs.mk ka kc kL) :: B))]) := by
        have h1 := HO1.out.setCell (k * 3 + 1) (.int .i64 ((z : Int) + 1)) (by rw [scells_len]; have := HLA.out; simp; omega)
        rw [hset', ← Nat.add_assoc] at h1
        exact h1
      have hfs : fpS ((some (⟨b, off, none⟩ : Addr)), scells (A ++ Sc.mk (z : Int) ((z : Int) + 1) (Bs.mk ka kc kL) :: B)) = fpS ((some (⟨b, off, none⟩ : Addr)), scells (A ++ Sc.mk kq ke (Bs.mk ka kc kL) :: B)) := fpS_len (by simp [scells_len])
      have hT2 : Turn (fp [((some (⟨b, off, none⟩ : Addr)), scells (A ++ Sc.mk kq ke (Bs.mk ka kc kL) :: B))]) wr ((wr.setCell ⟨b, off + k * 3, none⟩ (.int .i64 (z : Int))).setCell ⟨b, off + k * 3 + 1, none⟩ (.int .i64 ((z : Int) + 1))) := (Turn.set (by rw [fp_one, fpS_some hne0]; simp) _).trans' (Turn.set (by rw [fp_one, fpS_some hne0]; simp) _)
      have HOw : Hid (Own ((wr.setCell ⟨b, off + k * 3, none⟩ (.int .i64 (z : Int))).setCell ⟨b, off + k * 3 + 1, none⟩ (.int .i64 ((z : Int) + 1))) ((some ⟨b, off, none⟩, scells (A ++ Sc.mk (z : Int) ((z : Int) + 1) (Bs.mk ka kc kL) :: B)) :: (A ++ Sc.mk kq ke (Bs.mk ka kc kL) :: B).map Sc.seg)) := Own.upd (A := []) HOr.out HO2.out hfs hT2
      have HTw : Hid (Turn (fp (((some (⟨b, off, none⟩ : Addr)), scells ds) :: ds.map Sc.seg)) w ((wr.setCell ⟨b, off + k * 3, none⟩ (.int .i64 (z : Int))).setCell ⟨b, off + k * 3 + 1, none⟩ (.int .i64 ((z : Int) + 1)))) :=
        HT.out.trans' (hT2.mono (fun x hx => by rw [← HF.out, fp_cons]; rw [fp_one] at hx; exact List.mem_append_left _ hx))
      have HFw : Hid (fp (((some (⟨b, off, none⟩ : Addr)), scells (A ++ Sc.mk (z : Int) ((z : Int) + 1) (Bs.mk ka kc kL) :: B)) :: (A ++ Sc.mk kq ke (Bs.mk ka kc kL) :: B).map Sc.seg) = fp (((some (⟨b, off, none⟩ : Addr)), scells ds) :: ds.map Sc.seg)) := by
        show _ = _
        rw [← HF.out, fp_cons, fp_cons, hfs]
      have d1 : (wr.setCell ⟨b, off + k * 3, none⟩ (.int .i64 (z : Int))).cell? ⟨b, off + k * 3 + 1, none⟩ = some (.int .i64 ke) := by
        rw [World.cell?_setCell_other _ _ _ _ (by simp)]; exact c1
      have d2 : ((wr.setCell ⟨b, off + k * 3, none⟩ (.int .i64 (z : Int))).setCell ⟨b, off + k * 3 + 1, none⟩ (.int .i64 ((z : Int) + 1))).cell? ⟨b, off + k * 3 + 2, none⟩ = some (.slice ka kL.length kc) := by
        rw [World.cell?_setCell_other _ _ _ _ (by simp), World.cell?_setCell_other _ _ _ _ (by simp)]; exact c2
      clear HOo HOr HF HT hcl he hset hset' hfs HO1 HO2 f0 hT2 hne
      go_wp2_with fail
      generalize ((wr.setCell ⟨b, off + k * 3, none⟩ (.int .i64 (z : Int))).setCell ⟨b, off + k * 3 + 1, none⟩ (.int .i64 ((z : Int) + 1))) = W1 at *
      have HD : Hid (((some (⟨b, off, none⟩ : Addr)), scells (A ++ Sc.mk (z : Int) ((z : Int) + 1) (Bs.mk ka kc kL) :: B)) :: (A ++ Sc.mk kq ke (Bs.mk ka kc kL) :: B).map Sc.seg = ((some ⟨b, off, none⟩, scells (A ++ Sc.mk (z : Int) ((z : Int) + 1) (Bs.mk ka kc kL) :: B)) :: A.map Sc.seg) ++ (ka, bys kL) :: B.map Sc.seg) := by
        show _ = _
        rw [List.map_append, List.map_cons, List.cons_append]; rfl
      have HOk : Hid (Own W1 [(ka, bys kL)]) := by
        have h2 := HOw.out
        rw [HD.out] at h2
        exact Own.left (S := [_]) (T := B.map Sc.seg) h2.right
      have HMk' := markByteS_k ka kc kL (z + 1 + 1) W1 HOk.out (by omega) (by omega)
      simp only [Int.natCast_add, Int.cast_ofNat_Int] at HMk'
      refine HMk'.mono ?_
      clear HMk'
      rintro e w1 ⟨rfl, ho, htu⟩
      have HO1 := hide ho
      have HT1 := hide htu
      clear ho htu
      have HFS : Hid (fpS (ka, bys (marksB (z + 1 + 1) kL.length)) = fpS (ka, bys kL)) := fpS_len (by simp [bys_length, marksB_length])
      have HWE : Hid (scells (A ++ Sc.mk (z : Int) ((z : Int) + 1) (Bs.mk ka kc kL) :: B) = scells (A ++ Sc.mk (z : Int) ((z : Int) + 1) (Bs.mk ka kc (marksB (z + 1 + 1) kL.length)) :: B)) := by
        show _ = _
        rw [scells_append, scells_append]
        simp [scells, Sc.cells, Bs.v, marksB_length]
      go_wp2_with fail
      go_roundw
      case rel =>
        have hD2 : ((some (⟨b, off, none⟩ : Addr)), scells (markS n (ds.take (k + 1)) ++ ds.drop (k + 1))) :: (markS n (ds.take (k + 1)) ++ ds.drop (k + 1)).map Sc.seg = ((some ⟨b, off, none⟩, scells (A ++ Sc.mk (z : Int) ((z : Int) + 1) (Bs.mk ka kc kL) :: B)) :: A.map Sc.seg) ++ (ka, bys (marksB (z + 1 + 1) kL.length)) :: B.map Sc.seg := by
          rw [HBB.out, HTk.out, HWE.out, List.map_append, List.map_cons, List.cons_append]; rfl
        refine ⟨k + 1, z + 1 + 1 + kL.length, by omega, HZn, by simp, by go_num, ?_, ?_, ?_⟩
        · show Own _ _
          rw [hD2]
          have h2 := HOw.out
          rw [HD.out] at h2
          exact h2.upd HO1.out HFS.out HT1.out
        · show _ = _
          rw [hD2, fp_upd _ _ HFS.out, ← HD.out, HFw.out]
        · refine HTw.out.trans' (HT1.out.mono ?_)
          intro x hx
          rw [← HFw.out, HD.out, fp_append, fp_cons]
          exact List.mem_append_right _ (List.mem_append_left _ (by rw [fp_one] at hx; exact hx))
      case measure => simp [intOf]; omega
    · have e : k = ds.length := by omega
      subst e
      have hz := HZ.out
      rw [List.take_length] at hz
      have HZ2 := hide hz
      clear hz
      go_wp2_with fail
      go_ret
      have h2 := HOr.out
      rw [List.take_length, List.drop_length, List.append_nil] at h2
      exact ⟨by rw [HZ2.out]; rfl, h2, HT.out⟩
set_option maxHeartbeats 4000000 in
theorem heldSectorS_k (a : Option Addr) (cap : Nat) (ds : List Sc) (n : Nat) (w : World) (hc : Cells w a (scells (markS n ds))) (hm : Mem w ((markS n ds).map Sc.seg)) (hl : ds.length ≤ 1048576) (ht : totS ds ≤ 134217728) (hn : n ≤ 1000000000) (hb : ∀ x ∈ ds, x.b.L.length ≤ 16777216) :
    Calls Tryd.prog 14 #[.slice a ds.length cap, .int .i64 (n : Int)] w fun e w' => e = .returned (.int .i64 ((n + 2 * ds.length + totS ds : Nat) : Int)) ∧ w' = w := by
  have HC := hide hc
  have HM := hide hm
  have HBd := hide hb
  clear hc hm hb
  go_enter Tryd.func14, Tryd.ntmps14
  go_wp2_with fail
  go_loop [1, 5] (fun x y => ∃ (k z : Nat), k ≤ ds.length ∧ Hid (n + 2 * k + totS (ds.take k) = z) ∧ x = .int .i64 (z : Int) ∧ y = .int .i64 (k : Int)) (fun _ y => ds.length - (intOf y).toNat)
  case atStart => exact ⟨0, n, by omega, by show _ = _; simp [totS], rfl, rfl⟩
  case round =>
    obtain ⟨k, z, hk, HZ, rfl, rfl⟩ := hrel
    by_cases hlt : k < ds.length
    · have HTt := hide (totS_take ds k hlt)
      have hle : ds[k].b.L.length ≤ 16777216 := HBd.out _ (List.getElem_mem hlt)
      have hle2 : totS (ds.take k) ≤ totS ds := totS_take_le ds k
      have hz : z ≤ 1200000000 := by have := HZ.out; omega
      have HZn : Hid (n + 2 * (k + 1) + totS (ds.take (k + 1)) = z + 1 + 1 + ds[k].b.L.length) := by show _ = _; rw [HTt.out]; have := HZ.out; omega
      obtain ⟨hlt', e⟩ := List.getElem?_eq_some_iff.1 (markS_at n ds k hlt)
      rw [HZ.out] at e
      obtain ⟨b, off, ea, c0, c1, c2⟩ := cell3 HC.out k hlt'
      have h := mem_segS HM.out k hlt'
      rw [e] at c0 c1 c2 h
      have HH' := heldByteS_k ds[k].b.a ds[k].b.cap ds[k].b.L.length (z + 1 + 1) w h (by omega) (by omega)
      clear h e
      subst ea
      generalize ds[k] = c at *
      obtain ⟨kq, ke, ka, kc, kL⟩ := c
      dsimp only [Bs.v] at c0 c1 c2 HH' hle HZn
      rw [marksB_length] at c2
      clear HTt hle2 HZ
      simp only [Int.natCast_add, Int.cast_ofNat_Int] at HH' c0
      have HH := hide HH'
      clear HH'
      go_wp2_with fail
      refine (unhide HH).mono ?_
      rintro e w1 ⟨rfl, hw⟩
      obtain rfl := Eq.symm hw
      go_wp2_with fail
      go_round
      case rel => exact ⟨k + 1, z + 1 + 1 + kL.length, by omega, HZn, by simp, by go_num⟩
      case measure => simp [intOf]; omega
    · have e : k = ds.length := by omega
      subst e
      have hz := HZ.out
      rw [List.take_length] at hz
      have HZ2 := hide hz
      clear hz
      go_wp2_with fail
      go_ret
      exact ⟨congrArg (fun y : Int => Ending.returned (Value.int .i64 y)) (show ((z : Nat) : Int) = _ by have := HZ2.out; omega), rfl⟩
end Go.Proofs.YtkdnddckogbgaaaDoor
namespace Go.Proofs.YtkdnddckogbgaaaDoor
open Go.RowKit Go.ChangeShapes

theorem cells96 : Tryd.prog.cellsOf 158 = 1 := by kernel_rfl
theorem cells9 : Tryd.prog.cellsOf 9 = 1 := by kernel_rfl
theorem star : "*" ++ "errors.errorString" = "*errors.errorString" := by decide
theorem row94 (u : TypeId) (h : Tryd.prog.typeName? 3 u = some "*errors.errorString") : u = 139 :=
  typeName_ptr_named (nm := "errors.errorString") (by rw [star]; kernel_rfl) (by kernel_rfl) (by decide) u (by rw [star]; exact h)

/-- The head of the list, a sentinel: its variable holds a pointer. -/
theorem sent {n : String} {text : List UInt8} {r : List (String × DataW Unit)} {W : World} {g : Nat} (h : laidMet Tryd.prog ((n, .iface "*errors.errorString" (.ptr (.agg [.lit (.string text)]))) :: r) W)
    (hg : Tryd.prog.globalNamed n = some g) (ht : (Tryd.prog.globals[g]?).map (·.type) = some 111) : ∃ a : Addr, W.var? Tryd.prog n = some #[.iface 139 (.pointer (some a))] := by
  obtain ⟨a, _, h, _⟩ := laid_sentinel h hg ht Tryd.underlying111 row94 Tryd.underlying139 Tryd.underlying158 rfl rfl Tryd.underlying9 cells96 cells9
  exact ⟨a, h⟩
end Go.Proofs.YtkdnddckogbgaaaDoor
