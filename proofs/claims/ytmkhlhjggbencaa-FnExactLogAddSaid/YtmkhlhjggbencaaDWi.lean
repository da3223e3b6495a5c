/- DiskWrite of the program, by contract. -/
import Derived.Test.YtmkhlhjggbencaaDWr
namespace Go.Proofs.Ytmkhlhjggbencaa
open Go.RowKit Go.Deep
set_option linter.unusedVariables false
set_option maxRecDepth 10000

theorem eq_false {a b : Nat} (h : a ≠ b) : ((a : Int) == (b : Int)) = false := by rw [beq_eq_false_iff_ne]; omega
theorem eq_true {a b : Nat} (h : a = b) : ((a : Int) == (b : Int)) = true := by rw [h]; simp
set_option maxHeartbeats 8000000 in
theorem diskwrite_impl (ca : Option Addr) (cc : Nat) (cs : List Bs) (da : Option Addr) (dc : Nat) (ds : List Wr) (i : Int) (ba : Option Addr) (bc : Nat) (bL : List UInt8) (w : World) (hm : Mem w (dsk ca cs da ds)) (h : DOk cs ds) (hb : Cells w ba (bys bL)) (hbn : ba = none → bc = 0) (hbl : bL.length ≤ 1048576) :
    Calls Try.prog 43 #[dskV ca cs.length cc da ds.length dc, .int .i64 i, .slice ba bL.length bc] w (WritePost w (dat cs ds) i bL) := by
  have HKA := hide (Keeps.alloc (Keeps.alloc (Keeps.refl w) (.cells #[.slice ca cs.length cc, .slice da ds.length dc] 34)) (.cells #[.slice none 0 0, .slice none 0 0] 34))
  have HM := hide (hm.kept HKA.out)
  have HBy := hide (hb.kept HKA.out)
  have HD : Hid (∀ w', Keeps ((w.alloc (.cells #[.slice ca cs.length cc, .slice da ds.length dc] 34)).alloc (.cells #[.slice none 0 0, .slice none 0 0] 34)) w' → w'.cell? ⟨w.heap.size, 0, none⟩ = some (.slice ca cs.length cc) ∧ w'.cell? ⟨w.heap.size, 1, none⟩ = some (.slice da ds.length dc)) :=
    fun w' hk => ⟨hk.cell (by simp), hk.cell (by simp)⟩
  have HZ : Hid (((w.alloc (.cells #[.slice ca cs.length cc, .slice da ds.length dc] 34)).alloc (.cells #[.slice none 0 0, .slice none 0 0] 34)).heap.size = w.heap.size + 1 + 1) := by show _ = _; rw [World.size_alloc, World.size_alloc]
  have HR := hide (row_new (w.alloc (.cells #[.slice ca cs.length cc, .slice da ds.length dc] 34)) #[.slice none 0 0, .slice none 0 0] 34)
  rw [World.size_alloc] at HR
  have HQ := hide (diskok_impl' ca cc cs da dc ds _ HM.out h)
  have HH := hide (fun w1 => hascell_k ca cs.length cc da ds.length dc i w1 h.big.1)
  have hcl := h.c
  have hdl := h.d
  have HDO := hide h
  have HBN := hide hbn
  clear hm hb h hbn
  cases hok : dokM (dat cs ds)
  · rw [hok] at HQ
    have HB := hide (writeB_no (i := i) (L := bL) (Or.inl hok))
    clear hok HH
    go_enter Try.func43, Try.ntmps43
    go_wp2_with fail
    refine (unhide HQ).mono ?_
    rintro x w1 ⟨rfl, hk1⟩
    have HK1 := hide hk1
    obtain ⟨d0, d1⟩ := HD.out _ hk1
    clear hk1
    clear d0 d1
    have HR1 := hide (HK1.out.row HR.out)
    have r0 := HR1.out.cell (i := 0) (by decide)
    have r1 := HR1.out.cell (i := 1) (by decide)
    have f0 := HR1.out.frozen 0
    have f1 := HR1.out.frozen 1
    simp at r0 r1
    go_wp2_with fail
    have r3 := (HR1.out.set 0 (.slice none 0 0)).set 1 (.slice none 0 0)
    have e0 := r3.cell (i := 0) (by decide)
    have e1 := r3.cell (i := 1) (by decide)
    simp at e0 e1
    have HS : Hid (Turn [w.heap.size + 1] w1 ((w1.setCell ⟨w.heap.size + 1, 0, none⟩ (.slice none 0 0)).setCell ⟨w.heap.size + 1, 1, none⟩ (.slice none 0 0))) := (Turn.set (by simp) _).trans' (Turn.set (by simp) _)
    clear r3 r0 r1 f0 f1
    revert e0 e1 HS
    generalize World.setCell _ _ _ = W
    intro e0 e1 HS
    refine bodyPost_ret (v := .tuple #[.agg #[.slice none 0 0, .slice none 0 0], .bool false]) (by simp [results, Try.results43, go_sem, e0, e1]) rfl ?_
    refine WritePost.no HB.out (HS.out.keeps (HKA.out.trans HK1.out) (fun b hb => ?_))
    simp at hb
    omega
  rw [hok] at HQ
  have HOk := hide hok
  clear hok
  by_cases h6 : ds.length = 600
  · have HB := hide (writeB_no (m := dat cs ds) (i := i) (L := bL) (Or.inr (Or.inl (by show (ds.map Wr.key).length = 600; simpa using h6))))
    have hb6 := eq_true h6
    simp only [Int.cast_ofNat_Int] at hb6
    clear h6 HH
    go_enter Try.func43, Try.ntmps43
    go_wp2_with fail
    refine (unhide HQ).mono ?_
    rintro x w1 ⟨rfl, hk1⟩
    have HK1 := hide hk1
    obtain ⟨d0, d1⟩ := HD.out _ hk1
    clear hk1
    have HR1 := hide (HK1.out.row HR.out)
    have r0 := HR1.out.cell (i := 0) (by decide)
    have r1 := HR1.out.cell (i := 1) (by decide)
    have f0 := HR1.out.frozen 0
    have f1 := HR1.out.frozen 1
    simp at r0 r1
    go_wp2_with fail
    have r3 := (HR1.out.set 0 (.slice none 0 0)).set 1 (.slice none 0 0)
    have e0 := r3.cell (i := 0) (by decide)
    have e1 := r3.cell (i := 1) (by decide)
    simp at e0 e1
    have HS : Hid (Turn [w.heap.size + 1] w1 ((w1.setCell ⟨w.heap.size + 1, 0, none⟩ (.slice none 0 0)).setCell ⟨w.heap.size + 1, 1, none⟩ (.slice none 0 0))) := (Turn.set (by simp) _).trans' (Turn.set (by simp) _)
    clear r3 r0 r1 f0 f1
    revert e0 e1 HS
    generalize World.setCell _ _ _ = W
    intro e0 e1 HS
    refine bodyPost_ret (v := .tuple #[.agg #[.slice none 0 0, .slice none 0 0], .bool false]) (by simp [results, Try.results43, go_sem, e0, e1]) rfl ?_
    refine WritePost.no HB.out (HS.out.keeps (HKA.out.trans HK1.out) (fun b hb => ?_))
    simp at hb
    omega
  have hb6 := eq_false h6
  simp only [Int.cast_ofNat_Int] at hb6
  by_cases h0 : i < 0
  · have HB := hide (writeB_no (m := dat cs ds) (i := i) (L := bL) (Or.inr (Or.inr (Or.inl h0))))
    have HH' := HH.out
    rw [show (decide (0 ≤ i) && decide (i < (cs.length : Int))) = false by simp; omega] at HH'
    replace HH := hide HH'
    clear HH' h6
    go_enter Try.func43, Try.ntmps43
    go_wp2_with fail
    refine (unhide HQ).mono ?_
    rintro x w1 ⟨rfl, hk1⟩
    have HK1 := hide hk1
    obtain ⟨d0, d1⟩ := HD.out _ hk1
    clear hk1
    go_wp2_with fail
    refine (unhide HH _).mono ?_
    rintro x w2 ⟨rfl, hk2⟩
    have HK2 := hide (HK1.out.trans hk2)
    clear d0 d1 hk2
    obtain ⟨d0, d1⟩ := HD.out _ HK2.out
    have HR2 := hide (HK2.out.row HR.out)
    have r0 := HR2.out.cell (i := 0) (by decide)
    have r1 := HR2.out.cell (i := 1) (by decide)
    have f0 := HR2.out.frozen 0
    have f1 := HR2.out.frozen 1
    simp at r0 r1
    go_wp2_with fail
    have r3 := (HR2.out.set 0 (.slice none 0 0)).set 1 (.slice none 0 0)
    have e0 := r3.cell (i := 0) (by decide)
    have e1 := r3.cell (i := 1) (by decide)
    simp at e0 e1
    have HS : Hid (Turn [w.heap.size + 1] w2 ((w2.setCell ⟨w.heap.size + 1, 0, none⟩ (.slice none 0 0)).setCell ⟨w.heap.size + 1, 1, none⟩ (.slice none 0 0))) := (Turn.set (by simp) _).trans' (Turn.set (by simp) _)
    clear r3 r0 r1 f0 f1
    revert e0 e1 HS
    generalize World.setCell _ _ _ = W
    intro e0 e1 HS
    refine bodyPost_ret (v := .tuple #[.agg #[.slice none 0 0, .slice none 0 0], .bool false]) (by simp [results, Try.results43, go_sem, e0, e1]) rfl ?_
    refine WritePost.no HB.out (HS.out.keeps (HKA.out.trans HK2.out) (fun b hb => ?_))
    simp at hb
    omega
  by_cases h1 : (cs.length : Int) ≤ i
  · have HB := hide (writeB_no (m := dat cs ds) (i := i) (L := bL) (Or.inr (Or.inr (Or.inr (Or.inl (by show ((cs.map Bs.L).length : Int) ≤ i; simpa using h1))))))
    have HH' := HH.out
    rw [show (decide (0 ≤ i) && decide (i < (cs.length : Int))) = false by simp; omega] at HH'
    replace HH := hide HH'
    clear HH' h6
    go_enter Try.func43, Try.ntmps43
    go_wp2_with fail
    refine (unhide HQ).mono ?_
    rintro x w1 ⟨rfl, hk1⟩
    have HK1 := hide hk1
    obtain ⟨d0, d1⟩ := HD.out _ hk1
    clear hk1
    go_wp2_with fail
    refine (unhide HH _).mono ?_
    rintro x w2 ⟨rfl, hk2⟩
    have HK2 := hide (HK1.out.trans hk2)
    clear d0 d1 hk2
    obtain ⟨d0, d1⟩ := HD.out _ HK2.out
    have HR2 := hide (HK2.out.row HR.out)
    have r0 := HR2.out.cell (i := 0) (by decide)
    have r1 := HR2.out.cell (i := 1) (by decide)
    have f0 := HR2.out.frozen 0
    have f1 := HR2.out.frozen 1
    simp at r0 r1
    go_wp2_with fail
    have r3 := (HR2.out.set 0 (.slice none 0 0)).set 1 (.slice none 0 0)
    have e0 := r3.cell (i := 0) (by decide)
    have e1 := r3.cell (i := 1) (by decide)
    simp at e0 e1
    have HS : Hid (Turn [w.heap.size + 1] w2 ((w2.setCell ⟨w.heap.size + 1, 0, none⟩ (.slice none 0 0)).setCell ⟨w.heap.size + 1, 1, none⟩ (.slice none 0 0))) := (Turn.set (by simp) _).trans' (Turn.set (by simp) _)
    clear r3 r0 r1 f0 f1
    revert e0 e1 HS
    generalize World.setCell _ _ _ = W
    intro e0 e1 HS
    refine bodyPost_ret (v := .tuple #[.agg #[.slice none 0 0, .slice none 0 0], .bool false]) (by simp [results, Try.results43, go_sem, e0, e1]) rfl ?_
    refine WritePost.no HB.out (HS.out.keeps (HKA.out.trans HK2.out) (fun b hb => ?_))
    simp at hb
    omega
  have HH' := HH.out
  rw [show (decide (0 ≤ i) && decide (i < (cs.length : Int))) = true by simp; omega] at HH'
  replace HH := hide HH'
  clear HH'
  by_cases h8 : bL.length = 128
  · have HB := hide (writeB_yes (m := dat cs ds) (i := i) (L := bL) HOk.out (by show (ds.map Wr.key).length ≠ 600; simpa using h6) (by omega) (by show i < ((cs.map Bs.L).length : Int); rw [List.length_map]; omega) h8)
    have hb8 := ne_false h8
    simp only [Int.cast_ofNat_Int] at hb8
    have hmk := make_writes0 ds.length (by omega)
    clear h6 h8 h0 h1
    go_enter Try.func43, Try.ntmps43
    go_wp2_with fail
    refine (unhide HQ).mono ?_
    rintro x w1 ⟨rfl, hk1⟩
    have HK1 := hide hk1
    obtain ⟨d0, d1⟩ := HD.out _ hk1
    clear hk1
    go_wp2_with fail
    refine (unhide HH _).mono ?_
    rintro x w2 ⟨rfl, hk2⟩
    have HK2 := hide (HK1.out.trans hk2)
    clear d0 d1 hk2
    obtain ⟨d0, d1⟩ := HD.out _ HK2.out
    have HR2 := hide (HK2.out.row HR.out)
    have r0 := HR2.out.cell (i := 0) (by decide)
    have r1 := HR2.out.cell (i := 1) (by decide)
    have f0 := HR2.out.frozen 0
    have f1 := HR2.out.frozen 1
    simp at r0 r1
    have HL0 : Hid (LG 69 2 Wr.cells Wr.seg w2 (w2.alloc (.cells (madeCells #[.int .i64 0, .slice none 0 0] ((ds.length + 1) * 2)) 69)) (.slice (some ⟨w2.heap.size, 0, none⟩) 0 (ds.length + 1)) []) :=
      LG.nil _ _ _ _ (World.ownsRow_made w2 _ _ (Nat.le_refl _) (by simp only [maxLen]; omega) (by rw [size_madeCells])) (Keeps.alloc (Keeps.refl _) _)
    have hz2 : w.heap.size + 1 < w2.heap.size := by have := HK2.out.size; have := HZ.out; omega
    have hz3 : w.heap.size < w2.heap.size := by omega
    go_wp2_with fail
    clear hmk
    generalize w2.alloc (.cells (madeCells #[.int .i64 0, .slice none 0 0] ((ds.length + 1) * 2)) 69) = W2 at *
    generalize hW0 : (w.alloc (.cells #[.slice ca cs.length cc, .slice da ds.length dc] 34)).alloc (.cells #[.slice none 0 0, .slice none 0 0] 34) = W0 at *
    clear hW0 r0 r1 f0 f1 d0 d1
    go_loopw [8, 40] (fun x y wr => ∃ (k : Nat) (nb : List Wr), k ≤ ds.length ∧ nb.length = k ∧ y = .int .i64 (k : Int) ∧ Hid (nb.map Wr.key = (ds.take k).map Wr.key) ∧ Hid (∀ x ∈ nb, x.b.fit) ∧ Hid (LG 69 2 Wr.cells Wr.seg w2 wr x nb)) (fun _ y _ => ds.length - (intOf y).toNat)
    case atStart => exact ⟨0, [], by omega, rfl, rfl, rfl, fun b hb => absurd hb (by simp), HL0⟩
    case round =>
      clear HL0
      obtain ⟨k, nb, hk, rfl, rfl, HDt, HNb, HG⟩ := hrel
      have HK := hide (HK2.out.trans HG.out.keeps)
      have hsz := HK.out.size
      by_cases hlt : nb.length < ds.length
      · obtain ⟨b, off, ea, c0, c1⟩ := cell2 ((dsk_mem HM.out).2.2.1.kept HK.out) nb.length hlt
        subst ea
        have HMk : Hid (Cells wr ds[nb.length].b.a (bys ds[nb.length].b.L)) := (mem_segW (dsk_mem HM.out).2.2.2 nb.length hlt).kept HK.out
        have HTk : Hid (ds[nb.length].b.L.length ≤ 4194304) := Nat.le_trans (totW_le (List.getElem_mem hlt)) (Nat.le_trans HDO.out.td (by decide))
        have HNk := hide (HDO.out.nd _ (List.getElem_mem hlt)).1
        have HDk : Hid ((ds.take (nb.length + 1)).map Wr.key = (ds.take nb.length).map Wr.key ++ [ds[nb.length].key]) := by show _ = _; rw [List.take_succ_eq_append_getElem hlt, List.map_append]; rfl
        generalize ds[nb.length] = c at *
        obtain ⟨xi, xa, xc, xL⟩ := c
        dsimp only [Bs.v] at c0 c1 HMk HTk HNk HDk
        have HKa := hide (Keeps.alloc (Keeps.refl wr) (.cells #[.int .i64 xi, .slice xa xL.length xc] 69))
        have HCl := hide (copyWrite_k xi xa xc xL _ (HMk.out.kept HKa.out) HNk.out HTk.out)
        go_wp2_with (first
          | (go_at_call 62; refine (unhide HCl).mono ?_; rintro x w3 ⟨a1, c1', rfl, hn1, hb1, hk1⟩; have HK3 := hide (HKa.out.trans hk1); have HB1 := hide (hb1.old HKa.out); have HN1 := hide hn1; obtain ⟨v4, w4, hr4, ho4, hg4, hv4⟩ := run_write w3 w2.heap.size u8 nb.length (wcells nb) (.int .i64 xi) (.slice a1 xL.length c1') rfl rfl 32 (owns_kept HK3.out HG.out.row) (by omega) (HG.out.keeps.trans HK3.out).size; have HR4 := hide hr4; have HS4 := hide (HG.out.snoc HK3.out (x := Wr.mk xi (Bs.mk a1 c1' xL)) HB1.out.toOwn HB1.out.new hg4 ho4 hv4); clear hk1 hb1 hn1 hr4 ho4 hg4 hv4)
          | (at_builtin; refine Lib.wpList_append_run _ rfl (.tmp 44) (.tmp 47) _ _ rfl _ _ rfl rfl v4 w4 HR4.out ?_))
        go_roundw
        case rel =>
          refine ⟨nb.length + 1, nb ++ [Wr.mk xi (Bs.mk a1 c1' xL)], by omega, by simp, by go_num, ?_, ?_, HS4⟩
          · show _ = _
            rw [HDk.out, ← HDt.out]; simp [Wr.key]
          · intro b hb
            rcases List.mem_append.1 hb with hb | hb
            · exact HNb.out b hb
            · rw [List.mem_singleton.1 hb]; exact HN1.out
        case measure => simp [intOf]; omega
      · have e : nb.length = ds.length := by omega
        have HE : Hid (nb.map Wr.key = ds.map Wr.key) := by show _ = _; rw [HDt.out, e, List.take_length]
        have HCl := hide (copyWrite_k i ba bc bL wr (HBy.out.kept HK.out) HBN.out (Nat.le_trans hbl (by decide)))
        clear e
        go_wp2_with fail
        refine (unhide HCl).mono ?_
        rintro x w3 ⟨a1, c1', rfl, hn1, hb1, hk1⟩
        have HK3 := hide hk1
        have HB1 := hide hb1
        have HN1 := hide hn1
        obtain ⟨v4, w4, hr4, ho4, hg4, hv4⟩ := run_write w3 w2.heap.size u8 nb.length (wcells nb) (.int .i64 i) (.slice a1 bL.length c1') rfl rfl 32 (owns_kept HK3.out HG.out.row) (by omega) (HG.out.keeps.trans HK3.out).size
        have HR4 := hide hr4
        have HS4 := hide (HG.out.snoc HK3.out (x := Wr.mk i (Bs.mk a1 c1' bL)) HB1.out.toOwn HB1.out.new hg4 ho4 hv4)
        obtain ⟨a4, c4, rfl, _⟩ := HS4.out.writes
        have HK4 := hide (HK2.out.trans HS4.out.keeps)
        obtain ⟨d0, d1⟩ := HD.out _ HK4.out
        have HCc := hide (copyCells_k ca cc cs w4 ((dsk_mem HM.out).1.kept HK4.out) ((dsk_mem HM.out).2.1.kept HK4.out) HDO.out.nc hcl (fun b hb => Nat.le_trans (tot_le hb) (Nat.le_trans HDO.out.tc (by decide))))
        clear hn1 hb1 hk1 hr4 ho4 hg4 hv4
        go_wp2_with (first
          | (at_builtin; refine Lib.wpList_append_run _ rfl (.tmp 50) (.tmp 55) _ _ rfl _ _ rfl rfl _ w4 HR4.out ?_)
          | (go_at_call 52; refine (unhide HCc).mono ?_; rintro x w5 ⟨v5, nc, rfl, he5, hn5, hg5⟩; have HE5 := hide he5; have HN5 := hide hn5; have HG5 := hide hg5; obtain ⟨a5, c5, rfl, _⟩ := hg5.cells; have HK5 := hide (HK4.out.trans hg5.keeps); have HR5 := hide (HK5.out.row HR.out); have r0 := HR5.out.cell (i := 0) (by decide); have r1 := HR5.out.cell (i := 1) (by decide); have f0 := HR5.out.frozen 0; have f1 := HR5.out.frozen 1; simp at r0 r1; clear he5 hn5 hg5))
        have r3 := (HR5.out.set 0 (.slice a5 nc.length c5)).set 1 (.slice a4 (nb.length + 1) c4)
        have e0 := r3.cell (i := 0) (by decide)
        have e1 := r3.cell (i := 1) (by decide)
        simp at e0 e1
        have HS : Hid (Turn [w.heap.size + 1] w5 ((w5.setCell ⟨w.heap.size + 1, 0, none⟩ (.slice a5 nc.length c5)).setCell ⟨w.heap.size + 1, 1, none⟩ (.slice a4 (nb.length + 1) c4))) := (Turn.set (by simp) _).trans' (Turn.set (by simp) _)
        clear r3 r0 r1 f0 f1
        revert e0 e1 HS
        generalize World.setCell _ _ _ = W
        intro e0 e1 HS
        refine bodyPost_ret (v := .tuple #[.agg #[.slice a5 nc.length c5, .slice a4 (nb.length + 1) c4], .bool true]) (by simp [results, Try.results43, go_sem, e0, e1]) rfl ?_
        have hdat : dat nc (nb ++ [Wr.mk i (Bs.mk a1 c1' bL)]) = ⟨(dat cs ds).cells, (dat cs ds).dirty ++ [(i, bL)]⟩ := by
          unfold dat
          rw [List.map_append, HE.out, HE5.out]; rfl
        have hokk : dokM (dat nc (nb ++ [Wr.mk i (Bs.mk a1 c1' bL)])) = true := by rw [hdat, dokM_add HOk.out]; exact HB.out
        have hres := diskres_made (w := w) (HKA.out.trans HK2.out) HS4.out HG5.out HS.out (fun b hb => by simp at hb; omega) hokk HN5.out (by
          intro x hx
          rcases List.mem_append.1 hx with hx | hx
          · exact HNb.out x hx
          · rw [List.mem_singleton.1 hx]; exact HN1.out)
        rw [hdat, List.length_append, List.length_singleton] at hres
        refine WritePost.yes HB.out hres (HS.out.keeps (HKA.out.trans HK5.out) (fun b hb => ?_))
        simp at hb
        omega
  · have HB := hide (writeB_no (m := dat cs ds) (i := i) (L := bL) (Or.inr (Or.inr (Or.inr (Or.inr h8)))))
    have hb8 := ne_true h8
    simp only [Int.cast_ofNat_Int] at hb8
    clear h6 h8
    go_enter Try.func43, Try.ntmps43
    go_wp2_with fail
    refine (unhide HQ).mono ?_
    rintro x w1 ⟨rfl, hk1⟩
    have HK1 := hide hk1
    obtain ⟨d0, d1⟩ := HD.out _ hk1
    clear hk1
    go_wp2_with fail
    refine (unhide HH _).mono ?_
    rintro x w2 ⟨rfl, hk2⟩
    have HK2 := hide (HK1.out.trans hk2)
    clear d0 d1 hk2
    obtain ⟨d0, d1⟩ := HD.out _ HK2.out
    have HR2 := hide (HK2.out.row HR.out)
    have r0 := HR2.out.cell (i := 0) (by decide)
    have r1 := HR2.out.cell (i := 1) (by decide)
    have f0 := HR2.out.frozen 0
    have f1 := HR2.out.frozen 1
    simp at r0 r1
    go_wp2_with fail
    have r3 := (HR2.out.set 0 (.slice none 0 0)).set 1 (.slice none 0 0)
    have e0 := r3.cell (i := 0) (by decide)
    have e1 := r3.cell (i := 1) (by decide)
    simp at e0 e1
    have HS : Hid (Turn [w.heap.size + 1] w2 ((w2.setCell ⟨w.heap.size + 1, 0, none⟩ (.slice none 0 0)).setCell ⟨w.heap.size + 1, 1, none⟩ (.slice none 0 0))) := (Turn.set (by simp) _).trans' (Turn.set (by simp) _)
    clear r3 r0 r1 f0 f1
    revert e0 e1 HS
    generalize World.setCell _ _ _ = W
    intro e0 e1 HS
    refine bodyPost_ret (v := .tuple #[.agg #[.slice none 0 0, .slice none 0 0], .bool false]) (by simp [results, Try.results43, go_sem, e0, e1]) rfl ?_
    refine WritePost.no HB.out (HS.out.keeps (HKA.out.trans HK2.out) (fun b hb => ?_))
    simp at hb
    omega
end Go.Proofs.Ytmkhlhjggbencaa
