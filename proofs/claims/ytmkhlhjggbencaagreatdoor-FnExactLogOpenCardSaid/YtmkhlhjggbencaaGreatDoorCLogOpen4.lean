/- DiskWrite of the program, by contract. -/
import Derived.Test.YtmkhlhjggbencaaGreatDoorCLogOpen3
import Derived.Deep.RegionLaw
namespace Go.Proofs.YtmkhlhjggbencaaGreatDoor
open Go.RowKit Go.Deep
set_option linter.unusedVariables false
set_option maxRecDepth 10000

theorem eq_false {a b : Nat} (h : a ≠ b) : ((a : Int) == (b : Int)) = false := by rw [beq_eq_false_iff_ne]; omega
theorem eq_true {a b : Nat} (h : a = b) : ((a : Int) == (b : Int)) = true := by rw [h]; simp
set_option maxHeartbeats 8000000 in
theorem diskwrite_impl (ca : Option Addr) (cc : Nat) (cs : List Bs) (da : Option Addr) (dc : Nat) (ds : List Wr) (i : Int) (ba : Option Addr) (bc : Nat) (bL : List UInt8) (w : World) (hm : Mem w (dsk ca cs da ds)) (h : DOk cs ds) (hb : Cells w ba (bys bL)) (hbn : ba = none → bc = 0) (hbl : bL.length ≤ 1048576) :
    Calls Tryz.prog 72 #[dskV ca cs.length cc da ds.length dc, .int .i64 i, .slice ba bL.length bc] w (WritePost w (dat cs ds) i bL) := by
  have HKA := hide (Keeps.alloc (Keeps.alloc (Keeps.refl w) (.cells #[.slice ca cs.length cc, .slice da ds.length dc] 26)) (.cells #[.slice none 0 0, .slice none 0 0] 26))
  have HM := hide (hm.kept HKA.out)
  have HBy := hide (hb.kept HKA.out)
  have HD : Hid (∀ w', Keeps ((w.alloc (.cells #[.slice ca cs.length cc, .slice da ds.length dc] 26)).alloc (.cells #[.slice none 0 0, .slice none 0 0] 26)) w' → w'.cell? ⟨w.heap.size, 0, none⟩ = some (.slice ca cs.length cc) ∧ w'.cell? ⟨w.heap.size, 1, none⟩ = some (.slice da ds.length dc)) :=
    fun w' hk => ⟨hk.cell (by simp), hk.cell (by simp)⟩
  have HZ : Hid (((w.alloc (.cells #[.slice ca cs.length cc, .slice da ds.length dc] 26)).alloc (.cells #[.slice none 0 0, .slice none 0 0] 26)).heap.size = w.heap.size + 1 + 1) := by show _ = _; rw [World.size_alloc, World.size_alloc]
  have HR := hide (row_new (w.alloc (.cells #[.slice ca cs.length cc, .slice da ds.length dc] 26)) #[.slice none 0 0, .slice none 0 0] 26)
  rw [World.size_alloc] at HR
  have HQ := hide (diskok_impl' ca cc cs da dc ds _ HM.out h)
  have HH := hide (fun w1 => hascell_k ca cs.length cc da ds.length dc i w1 h.big.1)
  have hcl := h.c
  have hdl := h.d
  have HDO := hide h
  have HBN := hide hbn
  clear hm hb h hbn
  cases hok : dokM (dat cs ds)
  · rw [hok] at HQ
    have HB := hide (writeB_no (i := i) (L := bL) (Or.inl hok))
    clear hok HH
    go_enter Tryz.func72, Tryz.ntmps72
    go_wp2_with fail
    refine (unhide HQ).mono ?_
    rintro x w1 ⟨rfl, hk1⟩
    have HK1 := hide hk1
    obtain ⟨d0, d1⟩ := HD.out _ hk1
    clear hk1
    clear d0 d1
    have HR1 := hide (HK1.out.row HR.out)
    have r0 := HR1.out.cell (i := 0) (by decide)
    have r1 := HR1.out.cell (i := 1) (by decide)
    have f0 := HR1.out.frozen 0
    have f1 := HR1.out.frozen 1
    simp at r0 r1
    go_wp2_with fail
    have r3 := (HR1.out.set 0 (.slice none 0 0)).set 1 (.slice none 0 0)
    have e0 := r3.cell (i := 0) (by decide)
    have e1 := r3.cell (i := 1) (by decide)
    simp at e0 e1
    have HS : Hid (Turn [w.heap.size + 1] w1 ((w1.setCell ⟨w.heap.size + 1, 0, none⟩ (.slice none 0 0)).setCell ⟨w.heap.size + 1, 1, none⟩ (.slice none 0 0))) := (Turn.set (by simp) _).trans' (Turn.set (by simp) _)
    clear r3 r0 r1 f0 f1
    revert e0 e1 HS
    generalize World.setCell _ _ _ = W
    intro e0 e1 HS
    refine bodyPost_ret (v := .tuple #[.agg #[.slice none 0 0, .slice none 0 0], .bool false]) (by simp [results, Tryz.results72, go_sem, e0, e1]) rfl ?_
    refine WritePost.no HB.out (HS.out.keeps (HKA.out.trans HK1.out) (fun b hb => ?_))
    simp at hb
    omega
  rw [hok] at HQ
  have HOk := hide hok
  clear hok
  by_cases h6 : ds.length = 600
  · have HB := hide (writeB_no (m := dat cs ds) (i := i) (L := bL) (Or.inr (Or.inl (by show (ds.map Wr.key).length = 600; simpa using h6))))
    have hb6 := eq_true h6
    simp only [Int.cast_ofNat_Int] at hb6
    clear h6 HH
    go_enter Tryz.func72, Tryz.ntmps72
    go_wp2_with fail
    refine (unhide HQ).mono ?_
    rintro x w1 ⟨rfl, hk1⟩
    have HK1 := hide hk1
    obtain ⟨d0, d1⟩ := HD.out _ hk1
    clear hk1
    have HR1 := hide (HK1.out.row HR.out)
    have r0 := HR1.out.cell (i := 0) (by decide)
    have r1 := HR1.out.cell (i := 1) (by decide)
    have f0 := HR1.out.frozen 0
    have f1 := HR1.out.frozen 1
    simp at r0 r1
    go_wp2_with fail
    have r3 := (HR1.out.set 0 (.slice none 0 0)).set 1 (.slice none 0 0)
    have e0 := r3.cell (i := 0) (by decide)
    have e1 := r3.cell (i := 1) (by decide)
    simp at e0 e1
    have HS : Hid (Turn [w.heap.size + 1] w1 ((w1.setCell ⟨w.heap.size + 1, 0, none⟩ (.slice none 0 0)).setCell ⟨w.heap.size + 1, 1, none⟩ (.slice none 0 0))) := (Turn.set (by simp) _).trans' (Turn.set (by simp) _)
    clear r3 r0 r1 f0 f1
    revert e0 e1 HS
    generalize World.setCell _ _ _ = W
    intro e0 e1 HS
    refine bodyPost_ret (v := .tuple #[.agg #[.slice none 0 0, .slice none 0 0], .bool false]) (by simp [results, Tryz.results72, go_sem, e0, e1]) rfl ?_
    refine WritePost.no HB.out (HS.out.keeps (HKA.out.trans HK1.out) (fun b hb => ?_))
    simp at hb
    omega
  have hb6 := eq_false h6
  simp only [Int.cast_ofNat_Int] at hb6
  by_cases h0 : i < 0
  · have HB := hide (writeB_no (m := dat cs ds) (i := i) (L := bL) (Or.inr (Or.inr (Or.inl h0))))
    have HH' := HH.out
    rw [show (decide (0 ≤ i) && decide (i < (cs.length : Int))) = false by simp; omega] at HH'
    replace HH := hide HH'
    clear HH' h6
    go_enter Tryz.func72, Tryz.ntmps72
    go_wp2_with fail
    refine (unhide HQ).mono ?_
    rintro x w1 ⟨rfl, hk1⟩
    have HK1 := hide hk1
    obtain ⟨d0, d1⟩ := HD.out _ hk1
    clear hk1
    go_wp2_with fail
    refine (unhide HH _).mono ?_
    rintro x w2 ⟨rfl, hk2⟩
    have HK2 := hide (HK1.out.trans hk2)
    clear d0 d1 hk2
    obtain ⟨d0, d1⟩ := HD.out _ HK2.out
    have HR2 := hide (HK2.out.row HR.out)
    have r0 := HR2.out.cell (i := 0) (by decide)
    have r1 := HR2.out.cell (i := 1) (by decide)
    have f0 := HR2.out.frozen 0
    have f1 := HR2.out.frozen 1
    simp at r0 r1
    go_wp2_with fail
    have r3 := (HR2.out.set 0 (.slice none 0 0)).set 1 (.slice none 0 0)
    have e0 := r3.cell (i := 0) (by decide)
    have e1 := r3.cell (i := 1) (by decide)
    simp at e0 e1
    have HS : Hid (Turn [w.heap.size + 1] w2 ((w2.setCell ⟨w.heap.size + 1, 0, none⟩ (.slice none 0 0)).setCell ⟨w.heap.size + 1, 1, none⟩ (.slice none 0 0))) := (Turn.set (by simp) _).trans' (Turn.set (by simp) _)
    clear r3 r0 r1 f0 f1
    revert e0 e1 HS
    generalize World.setCell _ _ _ = W
    intro e0 e1 HS
    refine bodyPost_ret (v := .tuple #[.agg #[.slice none 0 0, .slice none 0 0], .bool false]) (by simp [results, Tryz.results72, go_sem, e0, e1]) rfl ?_
    refine WritePost.no HB.out (HS.out.keeps (HKA.out.trans HK2.out) (fun b hb => ?_))
    simp at hb
    omega
  by_cases h1 : (cs.length : Int) ≤ i
  · have HB := hide (writeB_no (m := dat cs ds) (i := i) (L := bL) (Or.inr (Or.inr (Or.inr (Or.inl (by show ((cs.map Bs.L).length : Int) ≤ i; simpa using h1))))))
    have HH' := HH.out
    rw [show (decide (0 ≤ i) && decide (i < (cs.length : Int))) = false by simp; omega] at HH'
    replace HH := hide HH'
    clear HH' h6
    go_enter Tryz.func72, Tryz.ntmps72
    go_wp2_with fail
    refine (unhide HQ).mono ?_
    rintro x w1 ⟨rfl, hk1⟩
    have HK1 := hide hk1
    obtain ⟨d0, d1⟩ := HD.out _ hk1
    clear hk1
    go_wp2_with fail
    refine (unhide HH _).mono ?_
    rintro x w2 ⟨rfl, hk2⟩
    have HK2 := hide (HK1.out.trans hk2)
    clear d0 d1 hk2
    obtain ⟨d0, d1⟩ := HD.out _ HK2.out
    have HR2 := hide (HK2.out.row HR.out)
    have r0 := HR2.out.cell (i := 0) (by decide)
    have r1 := HR2.out.cell (i := 1) (by decide)
    have f0 := HR2.out.frozen 0
    have f1 := HR2.out.frozen 1
    simp at r0 r1
    go_wp2_with fail
    have r3 := (HR2.out.set 0 (.slice none 0 0)).set 1 (.slice none 0 0)
    have e0 := r3.cell (i := 0) (by decide)
    have e1 := r3.cell (i := 1) (by decide)
    simp at e0 e1
    have HS : Hid (Turn [w.heap.size + 1] w2 ((w2.setCell ⟨w.heap.size + 1, 0, none⟩ (.slice none 0 0)).setCell ⟨w.heap.size + 1, 1, none⟩ (.slice none 0 0))) := (Turn.set (by simp) _).trans' (Turn.set (by simp) _)
    clear r3 r0 r1 f0 f1
    revert e0 e1 HS
    generalize World.setCell _ _ _ = W
    intro e0 e1 HS
    refine bodyPost_ret (v := .tuple #[.agg #[.slice none 0 0, .slice none 0 0], .bool false]) (by simp [results, Tryz.results72, go_sem, e0, e1]) rfl ?_
    refine WritePost.no HB.out (HS.out.keeps (HKA.out.trans HK2.out) (fun b hb => ?_))
    simp at hb
    omega
  have HH' := HH.out
  rw [show (decide (0 ≤ i) && decide (i < (cs.length : Int))) = true by simp; omega] at HH'
  replace HH := hide HH'
  clear HH'
  by_cases h8 : bL.length = 128
  · have HB := hide (writeB_yes (m := dat cs ds) (i := i) (L := bL) HOk.out (by show (ds.map Wr.key).length ≠ 600; simpa using h6) (by omega) (by show i < ((cs.map Bs.L).length : Int); rw [List.length_map]; omega) h8)
    have hb8 := ne_false h8
    simp only [Int.cast_ofNat_Int] at hb8
    have hmk := make_writes0 ds.length (by omega)
    clear h6 h8 h0 h1
    go_enter Tryz.func72, Tryz.ntmps72
    go_wp2_with fail
    refine (unhide HQ).mono ?_
    rintro x w1 ⟨rfl, hk1⟩
    have HK1 := hide hk1
    obtain ⟨d0, d1⟩ := HD.out _ hk1
    clear hk1
    go_wp2_with fail
    refine (unhide HH _).mono ?_
    rintro x w2 ⟨rfl, hk2⟩
    have HK2 := hide (HK1.out.trans hk2)
    clear d0 d1 hk2
    obtain ⟨d0, d1⟩ := HD.out _ HK2.out
    have HR2 := hide (HK2.out.row HR.out)
    have r0 := HR2.out.cell (i := 0) (by decide)
    have r1 := HR2.out.cell (i := 1) (by decide)
    have f0 := HR2.out.frozen 0
    have f1 := HR2.out.frozen 1
    simp at r0 r1
    have HL0 : Hid (LG 86 2 Wr.cells Wr.seg w2 (w2.alloc (.cells (madeCells #[.int .i64 0, .slice none 0 0] ((ds.length + 1) * 2)) 86)) (.slice (some ⟨w2.heap.size, 0, none⟩) 0 (ds.length + 1)) []) :=
      LG.nil _ _ _ _ (World.ownsRow_made w2 _ _ (Nat.le_refl _) (by simp only [maxLen]; omega) (by rw [size_madeCells])) (Keeps.alloc (Keeps.refl _) _)
    have hz2 : w.heap.size + 1 < w2.heap.size := by have := HK2.out.size; have := HZ.out; omega
    have hz3 : w.heap.size < w2.heap.size := by omega
    go_wp2_with fail
    clear hmk
    generalize w2.alloc (.cells (madeCells #[.int .i64 0, .slice none 0 0] ((ds.length + 1) * 2)) 86) = W2 at *
    generalize hW0 : (w.alloc (.cells #[.slice ca cs.length cc, .slice da ds.length dc] 26)).alloc (.cells #[.slice none 0 0, .slice none 0 0] 26) = W0 at *
    clear hW0 r0 r1 f0 f1 d0 d1
    go_loopw [8, 40] (fun x y wr => ∃ (k : Nat) (nb : List Wr), k ≤ ds.length ∧ nb.length = k ∧ y = .int .i64 (k : Int) ∧ Hid (nb.map Wr.key = (ds.take k).map Wr.key) ∧ Hid (∀ x ∈ nb, x.b.fit) ∧ Hid (LG 86 2 Wr.cells Wr.seg w2 wr x nb)) (fun _ y _ => ds.length - (intOf y).toNat)
    case atStart => exact ⟨0, [], by omega, rfl, rfl, rfl, fun b hb => absurd hb (by simp), HL0⟩
    case round =>
      clear HL0
      obtain ⟨k, nb, hk, rfl, rfl, HDt, HNb, HG⟩ := hrel
      have HK := hide (HK2.out.trans HG.out.keeps)
      have hsz := HK.out.size
      by_cases hlt : nb.length < ds.length
      · obtain ⟨b, off, ea, c0, c1⟩ := cell2 ((dsk_mem HM.out).2.2.1.kept HK.out) nb.length hlt
        subst ea
        have HMk : Hid (Cells wr ds[nb.length].b.a (bys ds[nb.length].b.L)) := (mem_segW (dsk_mem HM.out).2.2.2 nb.length hlt).kept HK.out
        have HTk : Hid (ds[nb.length].b.L.length ≤ 4194304) := Nat.le_trans (totW_le (List.getElem_mem hlt)) (Nat.le_trans HDO.out.td (by decide))
        have HNk := hide (HDO.out.nd _ (List.getElem_mem hlt)).1
        have HDk : Hid ((ds.take (nb.length + 1)).map Wr.key = (ds.take nb.length).map Wr.key ++ [ds[nb.length].key]) := by show _ = _; rw [List.take_succ_eq_append_getElem hlt, List.map_append]; rfl
        generalize ds[nb.length] = c at *
        obtain ⟨xi, xa, xc, xL⟩ := c
        dsimp only [Bs.v] at c0 c1 HMk HTk HNk HDk
        have HKa := hide (Keeps.alloc (Keeps.refl wr) (.cells #[.int .i64 xi, .slice xa xL.length xc] 86))
        have HCl := hide (copyWrite_k xi xa xc xL _ (HMk.out.kept HKa.out) HNk.out HTk.out)
        go_wp2_with (first
          | (go_at_call 105; refine (unhide HCl).mono ?_; rintro x w3 ⟨a1, c1', rfl, hn1, hb1, hk1⟩; have HK3 := hide (HKa.out.trans hk1); have HB1 := hide (hb1.old HKa.out); have HN1 := hide hn1; obtain ⟨v4, w4, hr4, ho4, hg4, hv4⟩ := run_write w3 w2.heap.size u8 nb.length (wcells nb) (.int .i64 xi) (.slice a1 xL.length c1') rfl rfl 24 (owns_kept HK3.out HG.out.row) (by omega) (HG.out.keeps.trans HK3.out).size; have HR4 := hide hr4; have HS4 := hide (HG.out.snoc HK3.out (x := Wr.mk xi (Bs.mk a1 c1' xL)) HB1.out.toOwn HB1.out.new hg4 ho4 hv4); clear hk1 hb1 hn1 hr4 ho4 hg4 hv4)
          | (at_builtin; refine Lib.wpList_append_run _ rfl (.tmp 44) (.tmp 47) _ _ rfl _ _ rfl rfl v4 w4 HR4.out ?_))
        go_roundw
        case rel =>
          refine ⟨nb.length + 1, nb ++ [Wr.mk xi (Bs.mk a1 c1' xL)], by omega, by simp, by go_num, ?_, ?_, HS4⟩
          · show _ = _
            rw [HDk.out, ← HDt.out]; simp [Wr.key]
          · intro b hb
            rcases List.mem_append.1 hb with hb | hb
            · exact HNb.out b hb
            · rw [List.mem_singleton.1 hb]; exact HN1.out
        case measure => simp [intOf]; omega
      · have e : nb.length = ds.length := by omega
        have HE : Hid (nb.map Wr.key = ds.map Wr.key) := by show _ = _; rw [HDt.out, e, List.take_length]
        have HCl := hide (copyWrite_k i ba bc bL wr (HBy.out.kept HK.out) HBN.out (Nat.le_trans hbl (by decide)))
        clear e
        go_wp2_with fail
        refine (unhide HCl).mono ?_
        rintro x w3 ⟨a1, c1', rfl, hn1, hb1, hk1⟩
        have HK3 := hide hk1
        have HB1 := hide hb1
        have HN1 := hide hn1
        obtain ⟨v4, w4, hr4, ho4, hg4, hv4⟩ := run_write w3 w2.heap.size u8 nb.length (wcells nb) (.int .i64 i) (.slice a1 bL.length c1') rfl rfl 24 (owns_kept HK3.out HG.out.row) (by omega) (HG.out.keeps.trans HK3.out).size
        have HR4 := hide hr4
        have HS4 := hide (HG.out.snoc HK3.out (x := Wr.mk i (Bs.mk a1 c1' bL)) HB1.out.toOwn HB1.out.new hg4 ho4 hv4)
        obtain ⟨a4, c4, rfl, _⟩ := HS4.out.writes
        have HK4 := hide (HK2.out.trans HS4.out.keeps)
        obtain ⟨d0, d1⟩ := HD.out _ HK4.out
        have HCc := hide (copyCells_k ca cc cs w4 ((dsk_mem HM.out).1.kept HK4.out) ((dsk_mem HM.out).2.1.kept HK4.out) HDO.out.nc hcl (fun b hb => Nat.le_trans (tot_le hb) (Nat.le_trans HDO.out.tc (by decide))))
        clear hn1 hb1 hk1 hr4 ho4 hg4 hv4
        go_wp2_with (first
          | (at_builtin; refine Lib.wpList_append_run _ rfl (.tmp 50) (.tmp 55) _ _ rfl _ _ rfl rfl _ w4 HR4.out ?_)
          | (go_at_call 46; refine (unhide HCc).mono ?_; rintro x w5 ⟨v5, nc, rfl, he5, hn5, hg5⟩; have HE5 := hide he5; have HN5 := hide hn5; have HG5 := hide hg5; obtain ⟨a5, c5, rfl, _⟩ := hg5.cells; have HK5 := hide (HK4.out.trans hg5.keeps); have HR5 := hide (HK5.out.row HR.out); have r0 := HR5.out.cell (i := 0) (by decide); have r1 := HR5.out.cell (i := 1) (by decide); have f0 := HR5.out.frozen 0; have f1 := HR5.out.frozen 1; simp at r0 r1; clear he5 hn5 hg5))
        have r3 := (HR5.out.set 0 (.slice a5 nc.length c5)).set 1 (.slice a4 (nb.length + 1) c4)
        have e0 := r3.cell (i := 0) (by decide)
        have e1 := r3.cell (i := 1) (by decide)
        simp at e0 e1
        have HS : Hid (Turn [w.heap.size + 1] w5 ((w5.setCell ⟨w.heap.size + 1, 0, none⟩ (.slice a5 nc.length c5)).setCell ⟨w.heap.size + 1, 1, none⟩ (.slice a4 (nb.length + 1) c4))) := (Turn.set (by simp) _).trans' (Turn.set (by simp) _)
        clear r3 r0 r1 f0 f1
        revert e0 e1 HS
        generalize World.setCell _ _ _ = W
        intro e0 e1 HS
        refine bodyPost_ret (v := .tuple #[.agg #[.slice a5 nc.length c5, .slice a4 (nb.length + 1) c4], .bool true]) (by simp [results, Tryz.results72, go_sem, e0, e1]) rfl ?_
        have hdat : dat nc (nb ++ [Wr.mk i (Bs.mk a1 c1' bL)]) = ⟨(dat cs ds).cells, (dat cs ds).dirty ++ [(i, bL)]⟩ := by
          unfold dat
          rw [List.map_append, HE.out, HE5.out]; rfl
        have hokk : dokM (dat nc (nb ++ [Wr.mk i (Bs.mk a1 c1' bL)])) = true := by rw [hdat, dokM_add HOk.out]; exact HB.out
        have hres := diskres_made (w := w) (HKA.out.trans HK2.out) HS4.out HG5.out HS.out (fun b hb => by simp at hb; omega) hokk HN5.out (by
          intro x hx
          rcases List.mem_append.1 hx with hx | hx
          · exact HNb.out x hx
          · rw [List.mem_singleton.1 hx]; exact HN1.out)
        rw [hdat, List.length_append, List.length_singleton] at hres
        refine WritePost.yes HB.out hres (HS.out.keeps (HKA.out.trans HK5.out) (fun b hb => ?_))
        simp at hb
        omega
  · have HB := hide (writeB_no (m := dat cs ds) (i := i) (L := bL) (Or.inr (Or.inr (Or.inr (Or.inr h8)))))
    have hb8 := ne_true h8
    simp only [Int.cast_ofNat_Int] at hb8
    clear h6 h8
    go_enter Tryz.func72, Tryz.ntmps72
    go_wp2_with fail
    refine (unhide HQ).mono ?_
    rintro x w1 ⟨rfl, hk1⟩
    have HK1 := hide hk1
    obtain ⟨d0, d1⟩ := HD.out _ hk1
    clear hk1
    go_wp2_with fail
    refine (unhide HH _).mono ?_
    rintro x w2 ⟨rfl, hk2⟩
    have HK2 := hide (HK1.out.trans hk2)
    clear d0 d1 hk2
    obtain ⟨d0, d1⟩ := HD.out _ HK2.out
    have HR2 := hide (HK2.out.row HR.out)
    have r0 := HR2.out.cell (i := 0) (by decide)
    have r1 := HR2.out.cell (i := 1) (by decide)
    have f0 := HR2.out.frozen 0
    have f1 := HR2.out.frozen 1
    simp at r0 r1
    go_wp2_with fail
    have r3 := (HR2.out.set 0 (.slice none 0 0)).set 1 (.slice none 0 0)
    have e0 := r3.cell (i := 0) (by decide)
    have e1 := r3.cell (i := 1) (by decide)
    simp at e0 e1
    have HS : Hid (Turn [w.heap.size + 1] w2 ((w2.setCell ⟨w.heap.size + 1, 0, none⟩ (.slice none 0 0)).setCell ⟨w.heap.size + 1, 1, none⟩ (.slice none 0 0))) := (Turn.set (by simp) _).trans' (Turn.set (by simp) _)
    clear r3 r0 r1 f0 f1
    revert e0 e1 HS
    generalize World.setCell _ _ _ = W
    intro e0 e1 HS
    refine bodyPost_ret (v := .tuple #[.agg #[.slice none 0 0, .slice none 0 0], .bool false]) (by simp [results, Tryz.results72, go_sem, e0, e1]) rfl ?_
    refine WritePost.no HB.out (HS.out.keeps (HKA.out.trans HK2.out) (fun b hb => ?_))
    simp at hb
    omega
end Go.Proofs.YtmkhlhjggbencaaGreatDoor

/- l03Copy of the model, by contract. -/
namespace Go.Proofs.YtmkhlhjggbencaaGreatDoor
open Go.RowKit Go.Deep
set_option linter.unusedVariables false
set_option maxRecDepth 10000
attribute [local go_sem ↓] Go.wp_at_zero Go.wp_at_succ

theorem step_append_run {P : Program} {w : World} {ops : Array Oper} {o : Oper} {a : Act} {K : Act → World → Prop} {Q : Exit → Act → World → Prop} {E : Prop} (hgd : o.guard = none) (s x : Operand) (t tn : TypeId)
    (ho : o.op = .call { callee := .builtin .append, args := #[s, x], argTypes := #[t, tn] }) (vs vx : Value) (hs : a.eval s = vs) (hx : a.eval x = vx)
    (v' : Value) (w' : World) (hr : (Builtin.append_ #[t, tn] o.type #[vs, vx]).run P w = .ok v' w') (h : K (a.put o.dst v') w') : if Region.wanted o (yielded ops a.tmps) = true then Oper.wp P o a w K Q else E := by
  have hw : Region.wanted o (yielded ops a.tmps) = true := by simp [Region.wanted, hgd]
  rw [if_pos hw]
  exact Lib.wp_append_run w s x t tn ho vs vx hs hx v' w' hr h
theorem run_bys (w : World) (xa : Option Addr) (xc : Nat) (xL : List UInt8) (ty : TypeId) (hc : Cells w xa (bys xL)) (hn : xa = none → xc = 0) (hl : xL.length ≤ 4194304) :
    ∃ (a' : Option Addr) (c' : Nat) (w' : World), (Builtin.append_ #[22, 22] ty #[.slice (some ⟨w.heap.size, 0, none⟩) 0 0, .slice xa xL.length xc]).run Tryz.prog (w.alloc (.cells #[] 5)) = .ok (.slice a' xL.length c') w' ∧ ((a' = none → c' = 0) ∧ xL.length ≤ c') ∧ Born w w' [(a', bys xL)] ∧ Keeps w w' := by
  have hown := World.ownsRow_made (base := w.heap.size) (e := 5) (size := 1) w #[] 0 (Nat.le_refl _) (by decide) rfl
  have hka := Keeps.alloc (Keeps.refl w) (.cells #[] 5)
  have hI := infoByte
  cases hi : Tryz.prog.info? 5 with
  | none => rw [hi] at hI; simp at hI
  | some i =>
    rw [hi] at hI
    simp at hI
    obtain ⟨hz, hsz, hby⟩ := hI
    cases xa with
    | none =>
      obtain rfl := hn rfl
      have hM0 : xL = [] := by
        rcases hc with hM | ⟨_, _, e, _⟩
        · exact bys_nil.1 hM
        · cases e
      subst hM0
      refine ⟨some ⟨w.heap.size, 0, none⟩, 0, _, run_append_owned_none (P := Tryz.prog) (w := w.alloc (.cells #[] 5)) w.heap.size 22 ty 5 i 1 underBytes hi _ 0 [] hown, ⟨(fun e => nomatch e), Nat.le_refl _⟩, ?_, hka⟩
      obtain ⟨a', c', e, _, hb⟩ := Born.of_owns hown
      injection e with e1 e2 e3
      subst e1
      exact hb
    | some p =>
      obtain ⟨v', w', h1, h2, h3, _⟩ := run_append_own (P := Tryz.prog) (w.alloc (.cells #[] 5)) w.heap.size 22 ty 5 i _ 1 1 underBytes hi hz hsz hby rfl (by decide) (.slice (some ⟨w.heap.size, 0, none⟩) 0 0) 0 [] hown p xL.length xc (bys xL) (by simp [bys_length]) (src_at (hc.kept hka)) (fun u hu => one_cells hu) (by simp only [maxLen]; omega) (by omega) (by simp)
      rw [List.nil_append, Nat.zero_add] at h2
      obtain ⟨a', c', rfl, hn', hb⟩ := Born.of_owns h2
      exact ⟨a', c', w', h1, hn', hb, Keeps.grown hka h3 (fun k hk => (hown.lt k hk).1)⟩
theorem room_turn {w w' : World} {b n : Nat} {fs : List Nat} (h : Room w b n) (ht : Turn fs w w') (hb : b ∉ fs) (hl : b < w.heap.size) : Room w' b n :=
  ⟨fun j hj => by obtain ⟨u, hu⟩ := h.cell j hj; exact ⟨u, ht.cell hb hu⟩, fun o => by rw [World.frozen?_of_block (w := w) (a := ⟨b, o, none⟩) (ht.block b hl hb)]; exact h.free o⟩
section
variable {α : Type} {T : TypeId} {sz : Nat} {f : α → List Value} {sg : α → Seg} {w0 w : World} {v : Value} {nb : List α}
/-- All of the list lies behind block O. -/
def Past (O : Nat) (v : Value) (S : List Seg) : Prop := (∀ g, v.ownBlock = some g → O < g) ∧ ∀ b ∈ fp S, O < b
theorem LG.set {O j : Nat} {u : Value} (h : LG T sz f sg w0 w v nb) (hp : Past O v (nb.map sg)) (hO : w0.heap.size ≤ O) : LG T sz f sg w0 (w.setCell ⟨O, j, none⟩ u) v nb := by
  have ht : Turn [O] w (w.setCell ⟨O, j, none⟩ u) := Turn.set (by simp) _
  refine ⟨?_, h.inner.turn ht (fun b hb hx => ?_), h.apart, ht.keeps h.keeps (fun b hb => by simp at hb; omega)⟩
  · refine ⟨h.row.1, ?_⟩
    rcases h.row.2 with h' | ⟨g, cap, cur, rfl, hb, hg, rest⟩
    · exact .inl h'
    · refine .inr ⟨g, cap, cur, rfl, hb, ?_, rest⟩
      have := hp.1 g rfl
      rw [blk_setCell_other _ _ _ _ (by show g ≠ O; omega)]; exact hg
  · have := hp.2 b hb
    simp at hx
    omega
theorem LG.turned {w' : World} {fs : List Nat} (h : LG T sz f sg w0 w v nb) (ht : Turn fs w w') (h1 : ∀ g, v.ownBlock = some g → g ∉ fs) (h2 : ∀ b ∈ fp (nb.map sg), b ∉ fs) (h3 : ∀ b ∈ fs, w0.heap.size ≤ b) : LG T sz f sg w0 w' v nb := by
  refine ⟨⟨h.row.1, ?_⟩, h.inner.turn ht h2, h.apart, ht.keeps h.keeps h3⟩
  rcases h.row.2 with h' | ⟨g, cap, cur, rfl, hb, hg, rest⟩
  · exact .inl h'
  · refine .inr ⟨g, cap, cur, rfl, hb, ?_, rest⟩
    rw [ht.block g (Array.getElem?_eq_some_iff.1 hg).1 (h1 g rfl)]; exact hg
theorem LG.set' {O j : Nat} {u : Value} (h : LG T sz f sg w0 w v nb) (hO : w0.heap.size ≤ O) (h1 : ∀ g, v.ownBlock = some g → O < g) (h2 : ∀ b ∈ fp (nb.map sg), O < b) : LG T sz f sg w0 (w.setCell ⟨O, j, none⟩ u) v nb := h.set ⟨h1, h2⟩ hO
theorem Past.snoc {O : Nat} {v' : Value} {x : α} {n m : Nat} (h : Past O v (nb.map sg)) (hx : ∀ b ∈ fp [sg x], n ≤ b) (hn : O < n) (hm : O < m) (hv : v'.ownBlock = v.ownBlock ∨ v'.ownBlock = some m) : Past O v' ((nb ++ [x]).map sg) := by
  refine ⟨fun g hg => ?_, fun b hb => ?_⟩
  · rcases hv with hv | hv
    · exact h.1 g (by rw [← hv]; exact hg)
    · rw [hv] at hg; have := Option.some.inj hg; omega
  · rw [List.map_append, fp_append] at hb
    rcases List.mem_append.1 hb with hb | hb
    · exact h.2 b hb
    · have := hx b hb; omega
end
end Go.Proofs.YtmkhlhjggbencaaGreatDoor

/- l03Copy of the model, by contract. -/
namespace Go.Proofs.YtmkhlhjggbencaaGreatDoor
open Go.RowKit Go.Deep
set_option linter.unusedVariables false
set_option maxRecDepth 10000
attribute [local go_sem ↓] Go.wp_at_zero Go.wp_at_succ

/-- What l03Copy answers: two lists of its own, the writes behind the cells. -/
def CopyRes (w w' : World) (v1 v2 : Value) (cs : List Bs) (ds : List Wr) : Prop := ∃ (nb : List Bs) (nw : List Wr) (O : Nat), nb.map Bs.L = cs.map Bs.L ∧ nw.map Wr.key = ds.map Wr.key ∧ (∀ b ∈ nb, b.fit) ∧ (∀ x ∈ nw, x.b.fit) ∧
  LG 93 1 Bs.cells Bs.seg w w' v1 nb ∧ LG 86 2 Wr.cells Wr.seg w w' v2 nw ∧ Past O v2 (nw.map Wr.seg) ∧ (∀ g, v1.ownBlock = some g → g ≤ O) ∧ (∀ b ∈ fp (nb.map Bs.seg), b ≤ O)
set_option maxHeartbeats 8000000 in
theorem copy_spec (ca : Option Addr) (cc : Nat) (cs : List Bs) (da : Option Addr) (dc : Nat) (ds : List Wr) (w : World) (hm : Mem w (dsk ca cs da ds)) (h : DOk cs ds) :
    Calls Tryz.prog 77 #[dskV ca cs.length cc da ds.length dc] w fun e w' => ∃ v1 v2, e = .returned (.agg #[v1, v2]) ∧ CopyRes w w' v1 v2 cs ds ∧ Keeps w w' := by
  have HKA := hide (Keeps.alloc (Keeps.alloc (Keeps.alloc (Keeps.refl w) (.cells #[.slice ca cs.length cc, .slice da ds.length dc] 26)) (.cells #[.slice none 0 0, .slice none 0 0] 26)) (.cells #[.slice none 0 0, .slice none 0 0] 26))
  have HM := hide hm
  have HDO := hide h
  have hcl := h.c
  have hdl := h.d
  have HRR := hide (Room.of_row ((row_new (w.alloc (.cells #[.slice ca cs.length cc, .slice da ds.length dc] 26)) #[.slice none 0 0, .slice none 0 0] 26).alloc (.cells #[.slice none 0 0, .slice none 0 0] 26)))
  have HRO := hide (Room.of_row (row_new ((w.alloc (.cells #[.slice ca cs.length cc, .slice da ds.length dc] 26)).alloc (.cells #[.slice none 0 0, .slice none 0 0] 26)) #[.slice none 0 0, .slice none 0 0] 26))
  rw [World.size_alloc] at HRR
  rw [World.size_alloc, World.size_alloc] at HRO
  have HC0 : Hid ((((w.alloc (.cells #[.slice ca cs.length cc, .slice da ds.length dc] 26)).alloc (.cells #[.slice none 0 0, .slice none 0 0] 26)).alloc (.cells #[.slice none 0 0, .slice none 0 0] 26)).cell? ⟨w.heap.size, 1, none⟩ = some (.slice da ds.length dc)) := Keeps.cell (w := w.alloc (.cells #[.slice ca cs.length cc, .slice da ds.length dc] 26)) (Keeps.alloc (Keeps.alloc (Keeps.refl _) _) _) (by simp)
  have HO0 : Hid ((((w.alloc (.cells #[.slice ca cs.length cc, .slice da ds.length dc] 26)).alloc (.cells #[.slice none 0 0, .slice none 0 0] 26)).alloc (.cells #[.slice none 0 0, .slice none 0 0] 26)).cell? ⟨w.heap.size + 1 + 1, 0, none⟩ = some (.slice none 0 0)) := by
    have h := (row_new ((w.alloc (.cells #[.slice ca cs.length cc, .slice da ds.length dc] 26)).alloc (.cells #[.slice none 0 0, .slice none 0 0] 26)) #[.slice none 0 0, .slice none 0 0] 26).cell (i := 0) (by decide)
    rw [World.size_alloc, World.size_alloc] at h
    exact h
  have HO1 : Hid ((((w.alloc (.cells #[.slice ca cs.length cc, .slice da ds.length dc] 26)).alloc (.cells #[.slice none 0 0, .slice none 0 0] 26)).alloc (.cells #[.slice none 0 0, .slice none 0 0] 26)).cell? ⟨w.heap.size + 1 + 1, 1, none⟩ = some (.slice none 0 0)) := by
    have h := (row_new ((w.alloc (.cells #[.slice ca cs.length cc, .slice da ds.length dc] 26)).alloc (.cells #[.slice none 0 0, .slice none 0 0] 26)) #[.slice none 0 0, .slice none 0 0] 26).cell (i := 1) (by decide)
    rw [World.size_alloc, World.size_alloc] at h
    exact h
  have HZ : Hid ((((w.alloc (.cells #[.slice ca cs.length cc, .slice da ds.length dc] 26)).alloc (.cells #[.slice none 0 0, .slice none 0 0] 26)).alloc (.cells #[.slice none 0 0, .slice none 0 0] 26)).heap.size = w.heap.size + 1 + 1 + 1) := by show _ = _; rw [World.size_alloc, World.size_alloc, World.size_alloc]
  clear hm h
  go_enter Tryz.func77, Tryz.ntmps77
  go_wp2_with fail
  generalize hW : ((w.alloc (.cells #[.slice ca cs.length cc, .slice da ds.length dc] 26)).alloc (.cells #[.slice none 0 0, .slice none 0 0] 26)).alloc (.cells #[.slice none 0 0, .slice none 0 0] 26) = W at *
  clear hW
  go_loopw [12] (fun y wr => ∃ (k : Nat) (nb : List Bs) (x : Value), k ≤ cs.length ∧ nb.length = k ∧ y = .int .i64 (k : Int) ∧ Hid (wr.cell? ⟨w.heap.size + 1 + 1, 0, none⟩ = some x) ∧ Hid (wr.cell? ⟨w.heap.size + 1 + 1, 1, none⟩ = some (.slice none 0 0)) ∧ Hid (wr.cell? ⟨w.heap.size, 1, none⟩ = some (.slice da ds.length dc)) ∧ Hid (Room wr (w.heap.size + 1) 2) ∧ Hid (Room wr (w.heap.size + 1 + 1) 2) ∧ w.heap.size + 1 + 1 < wr.heap.size ∧ Hid (nb.map Bs.L = (cs.take k).map Bs.L) ∧ Hid (∀ b ∈ nb, b.fit) ∧ Hid (LG 93 1 Bs.cells Bs.seg w wr x nb) ∧ Hid (Past (w.heap.size + 1 + 1) x (nb.map Bs.seg))) (fun y _ => cs.length - (intOf y).toNat)
  case atStart => exact ⟨0, [], .slice none 0 0, by omega, rfl, rfl, HO0, HO1, HC0, HRR, HRO, by have := HZ.out; omega, rfl, fun b hb => absurd hb (by simp), LG.nil _ _ _ _ (World.ownsRow_nil _ _ _ _) HKA.out, ⟨fun g hg => by simp [Value.ownBlock] at hg, fun b hb => by simp [fp] at hb⟩⟩
  case round =>
    clear HO0 HO1 HC0 HRR HRO
    obtain ⟨k, nb, x, hk, rfl, rfl, HX0, HX1, HXD, HRr, HRo, hz, HE, HNb, HG, HP⟩ := hrel
    by_cases hlt : nb.length < cs.length
    · have HK := hide HG.out.keeps
      obtain ⟨b, off, ea, c0⟩ := cell1 ((dsk_mem HM.out).1.kept HK.out) nb.length hlt
      subst ea
      have HMk : Hid (Cells wr cs[nb.length].a (bys cs[nb.length].L)) := (mem_seg (dsk_mem HM.out).2.1 nb.length hlt).kept HK.out
      have HTk : Hid (cs[nb.length].L.length ≤ 4194304) := Nat.le_trans (tot_le (List.getElem_mem hlt)) (Nat.le_trans HDO.out.tc (by decide))
      have HNk := hide (HDO.out.nc _ (List.getElem_mem hlt)).1
      have HDk : Hid ((cs.take (nb.length + 1)).map Bs.L = (cs.take nb.length).map Bs.L ++ [cs[nb.length].L]) := by show _ = _; rw [List.take_succ_eq_append_getElem hlt, List.map_append]; rfl
      generalize cs[nb.length] = c at *
      obtain ⟨xa, xc, xL⟩ := c
      dsimp only [Bs.v] at c0 HMk HTk HNk HDk
      have HKa := hide (Keeps.alloc (Keeps.refl wr) (.cells #[.slice xa xL.length xc] 93))
      have HcB : Hid ((wr.alloc (.cells #[.slice xa xL.length xc] 93)).cell? ⟨wr.heap.size, 0, none⟩ = some (.slice xa xL.length xc)) := by show _ = _; simp
      have HVz : Hid ((wr.alloc (.cells #[.slice xa xL.length xc] 93)).heap.size = wr.heap.size + 1) := by show _ = _; rw [World.size_alloc]
      obtain ⟨ax, cx, rfl, _⟩ := HG.out.cells
      go_wp2_with fail
      generalize hV : wr.alloc (.cells #[.slice xa xL.length xc] 93) = V at *
      clear hV
      have hkd : Keeps V V.drew := (Keeps.refl V).drew
      obtain ⟨a1, c1, w1, hr1, hn1, hb1, hk1⟩ := run_bys V.drew xa xc xL 22 ((HMk.out.kept HKa.out).kept hkd) HNk.out HTk.out
      have HK1 := hide (HKa.out.trans (hkd.trans hk1))
      have hb1' : Born wr w1 [(a1, bys xL)] := hb1.old (HKa.out.trans hkd)
      obtain ⟨v2, w2, hr2, ho2, hg2, hv2⟩ := run_cell w1 w.heap.size (.slice ax nb.length cx) nb.length (ccells nb) (.slice a1 xL.length c1) rfl 23 (owns_kept HK1.out HG.out.row) (by omega) (HK.out.trans HK1.out).size
      have HS2 := hide (HG.out.snoc HK1.out (x := Bs.mk a1 c1 xL) hb1'.toOwn hb1'.new hg2 ho2 hv2)
      have hz1 : wr.heap.size < w1.heap.size := by have := HKa.out.size; have := HVz.out; have := (hkd.trans hk1).size; omega
      have HP2 := hide (HP.out.snoc (x := Bs.mk a1 c1 xL) (v' := v2) (n := wr.heap.size) (m := (w1.alloc (.cells #[.slice a1 xL.length c1] 93)).heap.size) hb1'.new (by omega) (by simp; omega) hv2)
      obtain ⟨a2, c2, rfl, _⟩ := HS2.out.cells
      have hlen : (nb ++ [Bs.mk a1 c1 xL]).length = nb.length + 1 := by simp
      rw [hlen] at hr2 HS2 HP2
      have HTu : Hid (Turn (Value.ownBlock (.slice ax nb.length cx)).toList wr w2) := by
        refine ((Turn.of_keeps (HK1.out.trans (Keeps.alloc (Keeps.refl w1) (.cells #[.slice a1 xL.length c1] 93))) _).trans' (Turn.of_grown hg2 (fun k hk' => by rw [hk']; simp)))
      have HNo : Hid (∀ b, b ≤ w.heap.size + 1 + 1 → b ∉ (Value.ownBlock (.slice ax nb.length cx)).toList) := fun b hb hx => by
        have h1 : Value.ownBlock (.slice ax nb.length cx) = some b := by simpa using hx
        have := HP.out.1 b h1
        omega
      have HRo2 : Hid (Room w2 (w.heap.size + 1 + 1) 2) := room_turn HRo.out HTu.out (HNo.out _ (Nat.le_refl _)) hz
      have HRr2 : Hid (Room w2 (w.heap.size + 1) 2) := room_turn HRr.out HTu.out (HNo.out _ (by omega)) (by omega)
      have HX1' := hide (HTu.out.cell (p := ⟨w.heap.size + 1 + 1, 1, none⟩) (HNo.out _ (Nat.le_refl _)) HX1.out)
      have HXD' := hide (HTu.out.cell (p := ⟨w.heap.size, 1, none⟩) (HNo.out _ (by show w.heap.size ≤ _; omega)) HXD.out)
      have HR1 := hide hr1
      have HN1 := hide hn1
      have HR2 := hide hr2
      have s0 := HKa.out.cell HX0.out
      have s1 := HcB.out
      have s2 := HK1.out.cell HX0.out
      have s3 := (hkd.trans hk1).cell HcB.out
      have l0 : w.heap.size + 1 + 1 < V.heap.size := by have := HVz.out; omega
      have l1 : wr.heap.size < V.heap.size := by have := HVz.out; omega
      have l2 : w.heap.size + 1 + 1 < w1.heap.size := by omega
      have s4 := HTu.out.cell (p := ⟨w.heap.size + 1 + 1, 0, none⟩) (HNo.out _ (Nat.le_refl _)) HX0.out
      have s5 := HRo2.out.free 0
      have s6 : w2.cell? ⟨wr.heap.size, 0, none⟩ = some (.slice xa xL.length xc) := by
        refine (Turn.of_grown hg2 (fs := (Value.ownBlock (.slice ax nb.length cx)).toList) (fun k hk' => by rw [hk']; simp)).cell (p := ⟨wr.heap.size, 0, none⟩) (fun hx => ?_) ((Keeps.alloc (Keeps.refl w1) (.cells #[.slice a1 xL.length c1] 93)).cell s3)
        have h1 : Value.ownBlock (.slice ax nb.length cx) = some wr.heap.size := by simpa using hx
        have := (HG.out.row.lt _ h1).2
        omega
      have l3 : w.heap.size + 1 + 1 < w2.heap.size := lt_of_cell s4
      clear hr1 hr2 hn1 hb1 hk1 hb1' ho2 hg2 hv2 hkd
      go_region_law (first
          | (refine step_append_run (by rfl) (.tmp 18) (.tmp 20) _ _ (by rfl) _ _ (by rfl) (by rfl) (.slice a1 xL.length c1) w1 HR1.out ?_)
          | (refine step_append_run (by rfl) (.tmp 17) (.tmp 23) _ _ (by rfl) _ _ (by rfl) (by rfl) _ w2 HR2.out ?_))
      all_goals
        go_wp2_with fail
        go_roundw
        case rel =>
          refine ⟨nb.length + 1, nb ++ [Bs.mk a1 c1 xL], .slice a2 (nb.length + 1) c2, by omega, by simp, by go_num, World.cell?_setCell_same _ _ _ s4, ?_, ?_, ?_, HRo2.out.set _ _, ?_, ?_, ?_, HS2.out.set HP2.out (by omega), HP2⟩
          · show _ = _
            rw [World.cell?_setCell_other _ _ _ _ (by simp)]; exact HX1'.out
          · show _ = _
            rw [World.cell?_setCell_other _ _ _ _ (by simp)]; exact HXD'.out
          · exact room_turn HRr2.out (Turn.set (fs := [w.heap.size + 1 + 1]) (by simp) _) (by simp) (by omega)
          · simp [World.setCell]; omega
          · show _ = _
            rw [HDk.out, ← HE.out]; simp
          · intro b hb
            rcases List.mem_append.1 hb with hb | hb
            · exact HNb.out b hb
            · rw [List.mem_singleton.1 hb]; exact HN1.out
        case measure => simp [intOf]; omega
    · have e : nb.length = cs.length := by omega
      have HEc : Hid (nb.map Bs.L = cs.map Bs.L) := by show _ = _; rw [HE.out, e, List.take_length]
      have d1 := HXD.out
      have HGc := HG
      have HPc := HP
      have HNc := HNb
      have HXc := HX0
      have HKr := hide HG.out.keeps
      have HO2 : Hid (∃ O2, O2 + 1 = wr.heap.size) := ⟨wr.heap.size - 1, by omega⟩
      obtain ⟨O2, hO2⟩ := HO2.out
      have HOO := hide hO2
      have HZ2 := hide hz
      have HXs := HX1
      have HRrs := HRr
      have HRos := HRo
      clear e HE hO2
      go_wp2_with fail
      go_loopw [30] (fun y wq => ∃ (k : Nat) (nw : List Wr) (x2 : Value), k ≤ ds.length ∧ nw.length = k ∧ y = .int .i64 (k : Int) ∧ Hid (wq.cell? ⟨w.heap.size + 1 + 1, 0, none⟩ = some x) ∧ Hid (wq.cell? ⟨w.heap.size + 1 + 1, 1, none⟩ = some x2) ∧ Hid (Room wq (w.heap.size + 1) 2) ∧ Hid (Room wq (w.heap.size + 1 + 1) 2) ∧ O2 < wq.heap.size ∧ Hid (nw.map Wr.key = (ds.take k).map Wr.key) ∧ Hid (∀ x ∈ nw, x.b.fit) ∧ Hid (LG 93 1 Bs.cells Bs.seg w wq x nb) ∧ Hid (LG 86 2 Wr.cells Wr.seg w wq x2 nw) ∧ Hid (Past O2 x2 (nw.map Wr.seg))) (fun y _ => ds.length - (intOf y).toNat)
      case atStart => exact ⟨0, [], .slice none 0 0, by omega, rfl, rfl, HXc, HXs, HRrs, HRos, by have := HOO.out; omega, rfl, fun b hb => absurd hb (by simp), HGc, LG.nil _ _ _ _ (World.ownsRow_nil _ _ _ _) HKr.out, ⟨fun g hg => by simp [Value.ownBlock] at hg, fun b hb => by simp [fp] at hb⟩⟩
      case round =>
        have HOr : Hid (w.heap.size + 1 + 1 ≤ O2) := by show _ ≤ _; have := HOO.out; have := HZ2.out; omega
        have HCb : Hid ((∀ g, x.ownBlock = some g → g ≤ O2) ∧ (∀ b ∈ fp (nb.map Bs.seg), b ≤ O2)) := ⟨fun g hg => by have := (HGc.out.row.lt g hg).2; have := HOO.out; omega, fun b hb => by have := HGc.out.inner.mem.lt b hb; have := HOO.out; omega⟩
        clear HX0 HX1 HXD HRr HRo hz HNb HG HP HXc HXs HRrs HRos HGc HKr HO2 HOO HZ2 d1 hk
        obtain ⟨k, nw, x2, hk, rfl, rfl, HX0, HX1, HRr, HRo, hz, HE, HNb, HG1, HG, HP⟩ := hrel
        have hOr := HOr.out
        by_cases hlt : nw.length < ds.length
        · have HK := hide HG.out.keeps
          obtain ⟨b, off, ea, c0, c1'⟩ := cell2 ((dsk_mem HM.out).2.2.1.kept HK.out) nw.length hlt
          subst ea
          have HMk : Hid (Cells wr ds[nw.length].b.a (bys ds[nw.length].b.L)) := (mem_segW (dsk_mem HM.out).2.2.2 nw.length hlt).kept HK.out
          have HTk : Hid (ds[nw.length].b.L.length ≤ 4194304) := Nat.le_trans (totW_le (List.getElem_mem hlt)) (Nat.le_trans HDO.out.td (by decide))
          have HNk := hide (HDO.out.nd _ (List.getElem_mem hlt)).1
          have HDk : Hid ((ds.take (nw.length + 1)).map Wr.key = (ds.take nw.length).map Wr.key ++ [ds[nw.length].key]) := by show _ = _; rw [List.take_succ_eq_append_getElem hlt, List.map_append]; rfl
          generalize ds[nw.length] = c at *
          obtain ⟨xi, xa, xc, xL⟩ := c
          dsimp only [Bs.v] at c0 c1' HMk HTk HNk HDk
          have HKa := hide (Keeps.alloc (Keeps.refl wr) (.cells #[.int .i64 xi, .slice xa xL.length xc] 86))
          have HcA : Hid ((wr.alloc (.cells #[.int .i64 xi, .slice xa xL.length xc] 86)).cell? ⟨wr.heap.size, 0, none⟩ = some (.int .i64 xi)) := by show _ = _; simp
          have HcB : Hid ((wr.alloc (.cells #[.int .i64 xi, .slice xa xL.length xc] 86)).cell? ⟨wr.heap.size, 1, none⟩ = some (.slice xa xL.length xc)) := by show _ = _; simp
          have HVz : Hid ((wr.alloc (.cells #[.int .i64 xi, .slice xa xL.length xc] 86)).heap.size = wr.heap.size + 1) := by show _ = _; rw [World.size_alloc]
          obtain ⟨ax, cx, rfl, _⟩ := HG.out.writes
          go_wp2_with fail
          generalize hV : wr.alloc (.cells #[.int .i64 xi, .slice xa xL.length xc] 86) = V at *
          clear hV
          have hkd : Keeps V V.drew := (Keeps.refl V).drew
          obtain ⟨a1, c1, w1, hr1, hn1, hb1, hk1⟩ := run_bys V.drew xa xc xL 22 ((HMk.out.kept HKa.out).kept hkd) HNk.out HTk.out
          have HK1 := hide (HKa.out.trans (hkd.trans hk1))
          have hb1' : Born wr w1 [(a1, bys xL)] := hb1.old (HKa.out.trans hkd)
          obtain ⟨v2, w2, hr2, ho2, hg2, hv2⟩ := run_write w1 w.heap.size (.slice ax nw.length cx) nw.length (wcells nw) (.int .i64 xi) (.slice a1 xL.length c1) rfl rfl 24 (owns_kept HK1.out HG.out.row) (by omega) (HK.out.trans HK1.out).size
          have HS2 := hide (HG.out.snoc HK1.out (x := Wr.mk xi (Bs.mk a1 c1 xL)) hb1'.toOwn hb1'.new hg2 ho2 hv2)
          have hz1 : wr.heap.size < w1.heap.size := by have := HKa.out.size; have := HVz.out; have := (hkd.trans hk1).size; omega
          have HP2 := hide (HP.out.snoc (x := Wr.mk xi (Bs.mk a1 c1 xL)) (v' := v2) (n := wr.heap.size) (m := (w1.alloc (.cells #[.int .i64 xi, .slice a1 xL.length c1] 86)).heap.size) hb1'.new (by omega) (by simp; omega) hv2)
          obtain ⟨a2, c2, rfl, _⟩ := HS2.out.writes
          have hlen : (nw ++ [Wr.mk xi (Bs.mk a1 c1 xL)]).length = nw.length + 1 := by simp
          rw [hlen] at hr2 HS2 HP2
          have HTu : Hid (Turn (Value.ownBlock (.slice ax nw.length cx)).toList wr w2) := by
            refine ((Turn.of_keeps (HK1.out.trans (Keeps.alloc (Keeps.refl w1) (.cells #[.int .i64 xi, .slice a1 xL.length c1] 86))) _).trans' (Turn.of_grown hg2 (fun k hk' => by rw [hk']; simp)))
          have HNo : Hid (∀ b, b ≤ O2 → b ∉ (Value.ownBlock (.slice ax nw.length cx)).toList) := fun b hb hx => by
            have h1 : Value.ownBlock (.slice ax nw.length cx) = some b := by simpa using hx
            have := HP.out.1 b h1
            omega
          have HRo2 : Hid (Room w2 (w.heap.size + 1 + 1) 2) := room_turn HRo.out HTu.out (HNo.out _ hOr) (by omega)
          have HRr2 : Hid (Room w2 (w.heap.size + 1) 2) := room_turn HRr.out HTu.out (HNo.out _ (by omega)) (by omega)
          have HX0' := hide (HTu.out.cell (p := ⟨w.heap.size + 1 + 1, 0, none⟩) (HNo.out _ hOr) HX0.out)
          have HG1' : Hid (LG 93 1 Bs.cells Bs.seg w w2 x nb) := HG1.out.turned HTu.out (fun g hg => HNo.out g (HCb.out.1 g hg)) (fun b hb => HNo.out b (HCb.out.2 b hb)) (fun b hb => by
            have h1 : Value.ownBlock (.slice ax nw.length cx) = some b := by simpa using hb
            have := HP.out.1 b h1
            omega)
          have HPO : Hid (Past (w.heap.size + 1 + 1) (.slice a2 (nw.length + 1) c2) ((nw ++ [Wr.mk xi (Bs.mk a1 c1 xL)]).map Wr.seg)) := ⟨fun g hg => by have := HP2.out.1 g hg; omega, fun b hb => by have := HP2.out.2 b hb; omega⟩
          have HR1 := hide hr1
          have HN1 := hide hn1
          have HR2 := hide hr2
          have s0 := HKa.out.cell HX1.out
          have s1 := HcA.out
          have s1b := HcB.out
          have s2 := HK1.out.cell HX1.out
          have s3 := (hkd.trans hk1).cell HcA.out
          have s3b := (hkd.trans hk1).cell HcB.out
          have l0 : w.heap.size + 1 + 1 < V.heap.size := by have := HVz.out; omega
          have l1 : wr.heap.size < V.heap.size := by have := HVz.out; omega
          have l2 : w.heap.size + 1 + 1 < w1.heap.size := by omega
          have s4 := HTu.out.cell (p := ⟨w.heap.size + 1 + 1, 1, none⟩) (HNo.out _ hOr) HX1.out
          have s5 := HRo2.out.free 1
          have l4 := HTu.out.size
          have l3 : w.heap.size + 1 + 1 < w2.heap.size := lt_of_cell s4
          clear hr1 hr2 hn1 hb1 hk1 hb1' ho2 hg2 hv2 hkd
          go_region_law (first
            | (refine step_append_run (by rfl) (.tmp 38) (.tmp 40) _ _ (by rfl) _ _ (by rfl) (by rfl) (.slice a1 xL.length c1) w1 HR1.out ?_)
            | (refine step_append_run (by rfl) (.tmp 35) (.tmp 43) _ _ (by rfl) _ _ (by rfl) (by rfl) _ w2 HR2.out ?_))
          all_goals
            go_wp2_with fail
            go_roundw
            case rel =>
              refine ⟨nw.length + 1, nw ++ [Wr.mk xi (Bs.mk a1 c1 xL)], .slice a2 (nw.length + 1) c2, by omega, by simp, by go_num, ?_, World.cell?_setCell_same _ _ _ s4, ?_, HRo2.out.set _ _, ?_, ?_, ?_, HG1'.out.set' (by omega) (fun g hg => by have := HPc.out.1 g hg; omega) (fun b hb => by have := HPc.out.2 b hb; omega), HS2.out.set HPO.out (by omega), HP2⟩
              · show _ = _
                rw [World.cell?_setCell_other _ _ _ _ (by simp)]; exact HX0'.out
              · exact room_turn HRr2.out (Turn.set (fs := [w.heap.size + 1 + 1]) (by simp) _) (by simp) (by omega)
              · simp [World.setCell]; omega
              · show _ = _
                rw [HDk.out, ← HE.out]; simp [Wr.key]
              · intro b hb
                rcases List.mem_append.1 hb with hb | hb
                · exact HNb.out b hb
                · rw [List.mem_singleton.1 hb]; exact HN1.out
            case measure => simp [intOf]; omega
        · have e : nw.length = ds.length := by omega
          have HEd : Hid (nw.map Wr.key = ds.map Wr.key) := by show _ = _; rw [HE.out, e, List.take_length]
          obtain ⟨ax1, cx1, rfl, _⟩ := HG1.out.cells
          obtain ⟨ax, cx, rfl, _⟩ := HG.out.writes
          have s0 := HX0.out
          have s1 := HX1.out
          obtain ⟨y0, r0⟩ := HRr.out.cell 0 (by decide)
          obtain ⟨y1, r1⟩ := HRr.out.cell 1 (by decide)
          have f0 := HRr.out.free 0
          have f1 := HRr.out.free 1
          clear e
          go_wp2_with fail
          have e1 : ((wr.setCell ⟨w.heap.size + 1, 0, none⟩ (.slice ax1 nb.length cx1)).setCell ⟨w.heap.size + 1, 1, none⟩ (.slice ax nw.length cx)).cell? ⟨w.heap.size + 1, 1, none⟩ = some (.slice ax nw.length cx) :=
            World.cell?_setCell_same _ _ _ (by rw [World.cell?_setCell_other _ _ _ _ (by simp)]; exact r1)
          have e0 : ((wr.setCell ⟨w.heap.size + 1, 0, none⟩ (.slice ax1 nb.length cx1)).setCell ⟨w.heap.size + 1, 1, none⟩ (.slice ax nw.length cx)).cell? ⟨w.heap.size + 1, 0, none⟩ = some (.slice ax1 nb.length cx1) := by
            rw [World.cell?_setCell_other _ _ _ _ (by simp)]; exact World.cell?_setCell_same _ _ _ r0
          have HS : Hid (Turn [w.heap.size + 1] wr ((wr.setCell ⟨w.heap.size + 1, 0, none⟩ (.slice ax1 nb.length cx1)).setCell ⟨w.heap.size + 1, 1, none⟩ (.slice ax nw.length cx))) := (Turn.set (by simp) _).trans' (Turn.set (by simp) _)
          clear r0 r1 f0 f1 s0 s1
          revert e0 e1 HS
          generalize World.setCell _ _ _ = W'
          intro e0 e1 HS
          have hR : ∀ b ∈ [w.heap.size + 1], w.heap.size ≤ b := fun b hb => by simp at hb; omega
          refine bodyPost_ret (v := .agg #[.slice ax1 nb.length cx1, .slice ax nw.length cx]) ?_ rfl ⟨_, _, rfl, ⟨nb, nw, O2, HEc.out, HEd.out, HNc.out, HNb.out, ?_, ?_, HP.out, HCb.out.1, HCb.out.2⟩, HS.out.keeps HG.out.keeps hR⟩
          · simp [results, Tryz.results77, go_sem, e0, e1]
          · exact HG1.out.turned HS.out (fun g hg hx => by have := HPc.out.1 g hg; simp at hx; omega) (fun b hb hx => by have := HPc.out.2 b hb; simp at hx; omega) hR
          · exact HG.out.turned HS.out (fun g hg hx => by have := HP.out.1 g hg; simp at hx; omega) (fun b hb hx => by have := HP.out.2 b hb; simp at hx; omega) hR
end Go.Proofs.YtmkhlhjggbencaaGreatDoor

/- DiskWrite of the model, by contract. -/
namespace Go.Proofs.YtmkhlhjggbencaaGreatDoor
open Go.RowKit Go.Deep
set_option linter.unusedVariables false
set_option maxRecDepth 10000
attribute [local go_sem ↓] Go.wp_at_zero Go.wp_at_succ

theorem CopyRes.bound {w w' : World} {v1 v2 : Value} {cs : List Bs} {ds : List Wr} (h : CopyRes w w' v1 v2 cs ds) (hs : 0 < w'.heap.size) : ∃ (nb : List Bs) (nw : List Wr) (O : Nat), nb.map Bs.L = cs.map Bs.L ∧ nw.map Wr.key = ds.map Wr.key ∧ (∀ b ∈ nb, b.fit) ∧ (∀ x ∈ nw, x.b.fit) ∧
    LG 93 1 Bs.cells Bs.seg w w' v1 nb ∧ LG 86 2 Wr.cells Wr.seg w w' v2 nw ∧ Past O v2 (nw.map Wr.seg) ∧ (∀ g, v1.ownBlock = some g → g ≤ O) ∧ (∀ b ∈ fp (nb.map Bs.seg), b ≤ O) ∧ O < w'.heap.size := by
  obtain ⟨nb, nw, O, h1, h2, h3, h4, h5, h6, h7, h8, h9⟩ := h
  refine ⟨nb, nw, min O (w'.heap.size - 1), h1, h2, h3, h4, h5, h6, ⟨fun g hg => ?_, fun b hb => ?_⟩, fun g hg => ?_, fun b hb => ?_, by omega⟩
  · have := h7.1 g hg; omega
  · have := h7.2 b hb; omega
  · have := h8 g hg; have := (h5.row.lt g hg).2; omega
  · have := h9 b hb; have := h5.inner.mem.lt b hb; omega
/-- Two lists of one's own, the one behind the other, as a disk. -/
theorem diskres_two {w W : World} {v1 v2 : Value} {nb : List Bs} {nw : List Wr} {O : Nat} (hC : LG 93 1 Bs.cells Bs.seg w W v1 nb) (hD : LG 86 2 Wr.cells Wr.seg w W v2 nw) (hP : Past O v2 (nw.map Wr.seg)) (h1 : ∀ g, v1.ownBlock = some g → g ≤ O) (h2 : ∀ b ∈ fp (nb.map Bs.seg), b ≤ O) (hok : dokM (dat nb nw) = true)
    (nc : ∀ b ∈ nb, b.fit) (nd : ∀ x ∈ nw, x.b.fit) : DiskRes w W (.agg #[v1, v2]) (dat nb nw) := by
  obtain ⟨a1, c1, e1, n1, b1⟩ := hC.cells
  obtain ⟨a2, c2, e2, n2, b2⟩ := hD.writes
  have own1 : ∀ b ∈ fpS (a1, ccells nb), v1.ownBlock = some b := by
    intro b hb
    rw [e1]
    unfold fpS at hb
    split at hb
    · simp at hb
    · cases a1 with
      | none => simp at hb
      | some p => simp at hb; simp [Value.ownBlock, hb]
  have own2 : ∀ b ∈ fpS (a2, wcells nw), v2.ownBlock = some b := by
    intro b hb
    rw [e2]
    unfold fpS at hb
    split at hb
    · simp at hb
    · cases a2 with
      | none => simp at hb
      | some p => simp at hb; simp [Value.ownBlock, hb]
  refine ⟨a1, c1, nb, a2, c2, nw, by rw [e1, e2], rfl, dokM_DOk hok nc nd, n1, n2, ⟨b1.toOwn.append b2.toOwn (fun b hb hb' => ?_), fun b hb => ?_⟩⟩
  · rw [fp_cons] at hb hb'
    have l1 : b ≤ O := by
      rcases List.mem_append.1 hb with hb | hb
      · exact h1 b (own1 b hb)
      · exact h2 b hb
    have l2 : O < b := by
      rcases List.mem_append.1 hb' with hb' | hb'
      · exact hP.1 b (own2 b hb')
      · exact hP.2 b hb'
    omega
  · unfold dsk at hb
    rw [fp_append] at hb
    rcases List.mem_append.1 hb with hb | hb
    · exact b1.new b hb
    · exact b2.new b hb
theorem lg_mem {w W : World} {v1 v2 : Value} {nb : List Bs} {nw : List Wr} (hC : LG 93 1 Bs.cells Bs.seg w W v1 nb) (hD : LG 86 2 Wr.cells Wr.seg w W v2 nw) {a1 a2 : Option Addr} {c1 c2 : Nat} (e1 : v1 = .slice a1 nb.length c1) (e2 : v2 = .slice a2 nw.length c2) : Mem W (dsk a1 nb a2 nw) := by
  obtain ⟨a1', c1', e1', n1, b1⟩ := hC.cells
  obtain ⟨a2', c2', e2', n2, b2⟩ := hD.writes
  rw [e1] at e1'
  rw [e2] at e2'
  injection e1' with q1
  injection e2' with q2
  subst q1 q2
  exact mem_append.2 ⟨b1.mem, b2.mem⟩
/-- A list that was made behind w1, as memory. -/
structure LM {α : Type} (T : TypeId) (sz : Nat) (f : α → List Value) (sg : α → Seg) (w1 w : World) (v : Value) (nb : List α) : Prop where
  row : w.ownsRow w1.heap.size T sz v nb.length (nb.flatMap f)
  inner : Born w1 w (nb.map sg)
  apart : ∀ g, v.ownBlock = some g → g ∉ fp (nb.map sg)
theorem LG.turned' {α : Type} {T : TypeId} {sz : Nat} {f : α → List Value} {sg : α → Seg} {w0 w w' : World} {v : Value} {nb : List α} {fs : List Nat} (h : LG T sz f sg w0 w v nb) (ht : Turn fs w w') (ha : ∀ b, w0.heap.size ≤ b → b ∉ fs) : LM T sz f sg w0 w' v nb := by
  refine ⟨⟨h.row.1, ?_⟩, h.inner.turn ht (fun b hb => ha b (h.inner.new b hb)), h.apart⟩
  rcases h.row.2 with h' | ⟨g, cap, cur, rfl, hb, hg, rest⟩
  · exact .inl h'
  · refine .inr ⟨g, cap, cur, rfl, hb, ?_, rest⟩
    rw [ht.block g (Array.getElem?_eq_some_iff.1 hg).1 (ha g hb)]; exact hg
theorem DiskRes.old {w w1 W : World} {v : Value} {M : DkM} (h : DiskRes w1 W v M) (hk : Keeps w w1) : DiskRes w W v M := by
  obtain ⟨ca, cc, cs, da, dc, ds, h1, h2, h3, h4, h5, h6⟩ := h
  exact ⟨ca, cc, cs, da, dc, ds, h1, h2, h3, h4, h5, h6.old hk⟩
theorem diskres_two' {w W : World} {v1 v2 : Value} {nb : List Bs} {nw : List Wr} {O : Nat} (hC : LM 93 1 Bs.cells Bs.seg w W v1 nb) (hD : LM 86 2 Wr.cells Wr.seg w W v2 nw) (hP : Past O v2 (nw.map Wr.seg)) (h1 : ∀ g, v1.ownBlock = some g → g ≤ O) (h2 : ∀ b ∈ fp (nb.map Bs.seg), b ≤ O) (hok : dokM (dat nb nw) = true)
    (nc : ∀ b ∈ nb, b.fit) (nd : ∀ x ∈ nw, x.b.fit) : DiskRes w W (.agg #[v1, v2]) (dat nb nw) := by
  obtain ⟨a1, c1, e1, _, _, n1, p1, q1⟩ := Own.of_owns hC.row
  obtain ⟨a2, c2, e2, _, _, n2, p2, q2⟩ := Own.of_owns hD.row
  have own1 : ∀ b ∈ fpS (a1, ccells nb), v1.ownBlock = some b := by
    intro b hb
    rw [e1]
    unfold fpS at hb
    split at hb
    · simp at hb
    · cases a1 with
      | none => simp at hb
      | some p => simp at hb; simp [Value.ownBlock, hb]
  have own2 : ∀ b ∈ fpS (a2, wcells nw), v2.ownBlock = some b := by
    intro b hb
    rw [e2]
    unfold fpS at hb
    split at hb
    · simp at hb
    · cases a2 with
      | none => simp at hb
      | some p => simp at hb; simp [Value.ownBlock, hb]
  have o1 : Own W ((a1, ccells nb) :: nb.map Bs.seg) := Own.append (S := [_]) p1 hC.inner.toOwn (fun b hb hb' => hC.apart b (own1 b (by rw [fp_one] at hb; exact hb)) hb')
  have o2 : Own W ((a2, wcells nw) :: nw.map Wr.seg) := Own.append (S := [_]) p2 hD.inner.toOwn (fun b hb hb' => hD.apart b (own2 b (by rw [fp_one] at hb; exact hb)) hb')
  refine ⟨a1, c1, nb, a2, c2, nw, by rw [e1, e2], rfl, dokM_DOk hok nc nd, n1, n2, ⟨o1.append o2 (fun b hb hb' => ?_), fun b hb => ?_⟩⟩
  · rw [fp_cons] at hb hb'
    have l1 : b ≤ O := by
      rcases List.mem_append.1 hb with hb | hb
      · exact h1 b (own1 b hb)
      · exact h2 b hb
    have l2 : O < b := by
      rcases List.mem_append.1 hb' with hb' | hb'
      · exact hP.1 b (own2 b hb')
      · exact hP.2 b hb'
    omega
  · unfold dsk at hb
    rw [fp_append, fp_cons, fp_cons] at hb
    rcases List.mem_append.1 hb with hb | hb
    · rcases List.mem_append.1 hb with hb | hb
      · exact q1 b (by rw [fp_one]; exact hb)
      · exact hC.inner.new b hb
    · rcases List.mem_append.1 hb with hb | hb
      · exact q2 b (by rw [fp_one]; exact hb)
      · exact hD.inner.new b hb
theorem like_len {nb cs : List Bs} {ds : List Wr} (h : nb.map Bs.L = cs.map Bs.L) (hd : DOk cs ds) : nb.length ≤ 9223372036854775807 := by
  have : nb.length = cs.length := by simpa using congrArg List.length h
  rw [this]; exact hd.big.1
theorem like_lens {nb cs : List Bs} {ds : List Wr} (h : nb.map Bs.L = cs.map Bs.L) (hd : DOk cs ds) : ∀ b ∈ nb, b.L.length ≤ 9223372036854775807 := by
  intro b hb
  have : b.L ∈ cs.map Bs.L := by rw [← h]; exact List.mem_map.2 ⟨b, hb, rfl⟩
  obtain ⟨c, hc, e⟩ := List.mem_map.1 this
  rw [← e]; exact hd.big.2.2.1 c hc
theorem likeW_lens {nw ds : List Wr} {cs : List Bs} (h : nw.map Wr.key = ds.map Wr.key) (hd : DOk cs ds) : ∀ x ∈ nw, x.b.L.length ≤ 9223372036854775807 := by
  intro b hb
  have : b.key ∈ ds.map Wr.key := by rw [← h]; exact List.mem_map.2 ⟨b, hb, rfl⟩
  obtain ⟨c, hc, e⟩ := List.mem_map.1 this
  have e2 : c.b.L = b.b.L := congrArg Prod.snd e
  rw [← e2]; exact hd.big.2.2.2 c hc
set_option maxHeartbeats 8000000 in
theorem diskwrite_spec (ca : Option Addr) (cc : Nat) (cs : List Bs) (da : Option Addr) (dc : Nat) (ds : List Wr) (i : Int) (ba : Option Addr) (bc : Nat) (bL : List UInt8) (w : World) (hm : Mem w (dsk ca cs da ds)) (h : DOk cs ds) (hb : Cells w ba (bys bL)) (hbn : ba = none → bc = 0) (hbl : bL.length ≤ 1048576) :
    Calls Tryz.prog 40 #[dskV ca cs.length cc da ds.length dc, .int .i64 i, .slice ba bL.length bc] w (WritePost w (dat cs ds) i bL) := by
  have HKA := hide (Keeps.alloc (Keeps.alloc (Keeps.refl w) (.cells #[.slice ca cs.length cc, .slice da ds.length dc] 26)) (.cells #[.slice none 0 0, .slice none 0 0] 26))
  have HM := hide (hm.kept HKA.out)
  have HBy := hide (hb.kept HKA.out)
  have HD : Hid (∀ w', Keeps ((w.alloc (.cells #[.slice ca cs.length cc, .slice da ds.length dc] 26)).alloc (.cells #[.slice none 0 0, .slice none 0 0] 26)) w' → w'.cell? ⟨w.heap.size, 0, none⟩ = some (.slice ca cs.length cc) ∧ w'.cell? ⟨w.heap.size, 1, none⟩ = some (.slice da ds.length dc)) :=
    fun w' hk => ⟨hk.cell (by simp), hk.cell (by simp)⟩
  have HZ : Hid (((w.alloc (.cells #[.slice ca cs.length cc, .slice da ds.length dc] 26)).alloc (.cells #[.slice none 0 0, .slice none 0 0] 26)).heap.size = w.heap.size + 1 + 1) := by show _ = _; rw [World.size_alloc, World.size_alloc]
  have HR := hide (Room.of_row (row_new (w.alloc (.cells #[.slice ca cs.length cc, .slice da ds.length dc] 26)) #[.slice none 0 0, .slice none 0 0] 26))
  rw [World.size_alloc] at HR
  have HQ := hide (diskok_spec' ca cc cs da dc ds _ HM.out h)
  have hcl := h.c
  have hdl := h.d
  have HDO := hide h
  have HBN := hide hbn
  clear hm hb h hbn
  go_enter Tryz.func40, Tryz.ntmps40
  go_wp2_with fail
  generalize (w.alloc (.cells #[.slice ca cs.length cc, .slice da ds.length dc] 26)).alloc (.cells #[.slice none 0 0, .slice none 0 0] 26) = W0 at *
  refine (unhide HQ).mono ?_
  rintro x w1 ⟨rfl, hk1⟩
  have HK1 := hide hk1
  obtain ⟨d0, d1⟩ := HD.out _ hk1
  have HR1 : Hid (Room w1 (w.heap.size + 1) 2) := HR.out.kept hk1 (by have := HZ.out; omega)
  have hz1 : w.heap.size + 1 < w1.heap.size := by have := hk1.size; have := HZ.out; omega
  clear hk1
  cases hok : dokM (dat cs ds)
  · have HB := hide (writeB_no (i := i) (L := bL) (Or.inl hok))
    obtain ⟨y0, r0⟩ := HR1.out.cell 0 (by decide)
    obtain ⟨y1, r1⟩ := HR1.out.cell 1 (by decide)
    have f0 := HR1.out.free 0
    have f1 := HR1.out.free 1
    clear hok
    go_wp2_with fail
    have e0 : ((w1.setCell ⟨w.heap.size + 1, 0, none⟩ (.slice none 0 0)).setCell ⟨w.heap.size + 1, 1, none⟩ (.slice none 0 0)).cell? ⟨w.heap.size + 1, 0, none⟩ = some (.slice none 0 0) := by
      rw [World.cell?_setCell_other _ _ _ _ (by simp)]; exact World.cell?_setCell_same _ _ _ r0
    have e1 : ((w1.setCell ⟨w.heap.size + 1, 0, none⟩ (.slice none 0 0)).setCell ⟨w.heap.size + 1, 1, none⟩ (.slice none 0 0)).cell? ⟨w.heap.size + 1, 1, none⟩ = some (.slice none 0 0) :=
      World.cell?_setCell_same _ _ _ (by rw [World.cell?_setCell_other _ _ _ _ (by simp)]; exact r1)
    have HS : Hid (Turn [w.heap.size + 1] w1 ((w1.setCell ⟨w.heap.size + 1, 0, none⟩ (.slice none 0 0)).setCell ⟨w.heap.size + 1, 1, none⟩ (.slice none 0 0))) := (Turn.set (by simp) _).trans' (Turn.set (by simp) _)
    clear r0 r1 f0 f1 d0 d1
    revert e0 e1 HS
    generalize World.setCell _ _ _ = W
    intro e0 e1 HS
    refine bodyPost_ret (v := .tuple #[.agg #[.slice none 0 0, .slice none 0 0], .bool false]) (by simp [results, Tryz.results40, go_sem, e0, e1]) rfl ?_
    refine WritePost.no HB.out (HS.out.keeps (HKA.out.trans HK1.out) (fun b hb => ?_))
    simp at hb
    omega
  have HOk := hide hok
  clear hok
  have HCp := hide (copy_spec ca cc cs da dc ds w1 (HM.out.kept HK1.out) HDO.out)
  go_wp2_with fail
  refine (unhide HCp).mono ?_
  rintro x w2 ⟨v1, v2, rfl, hcr, hk2⟩
  obtain ⟨nb, nw, O, e1, e2, n1, n2, g1, g2, hP, o1, o2, hO⟩ := hcr.bound (by have := hk2.size; omega)
  have HE1 := hide e1
  have HE2 := hide e2
  have HN1 := hide n1
  have HN2 := hide n2
  have HG1 := hide g1
  have HG2 := hide g2
  have HP := hide hP
  have HO1 := hide o1
  have HO2 := hide o2
  have HK2 := hide hk2
  obtain ⟨a1, c1, rfl, _⟩ := g1.cells
  obtain ⟨a2, c2, rfl, _⟩ := g2.writes
  have hnl : nw.length ≤ 1048576 := by have : nw.length = ds.length := by simpa using congrArg List.length e2
                                       omega
  have HR2 : Hid (Room w2 (w.heap.size + 1) 2) := HR1.out.kept hk2 hz1
  have hz2 : w.heap.size + 1 < w2.heap.size := by have := hk2.size; omega
  clear hcr e1 e2 n1 n2 g1 g2 hP o1 o2 hk2 d0 d1 HCp
  go_wp2_with fail
  have HVz : Hid ((w2.alloc (.cells #[.slice a1 nb.length c1, .slice a2 nw.length c2] 26)).heap.size = w2.heap.size + 1) := by show _ = _; rw [World.size_alloc]
  have HKa := hide (Keeps.alloc (Keeps.refl w2) (.cells #[.slice a1 nb.length c1, .slice a2 nw.length c2] 26))
  have HRV := hide (Room.of_row (row_new w2 #[.slice a1 nb.length c1, .slice a2 nw.length c2] 26))
  have HV0 : Hid ((w2.alloc (.cells #[.slice a1 nb.length c1, .slice a2 nw.length c2] 26)).cell? ⟨w2.heap.size, 0, none⟩ = some (.slice a1 nb.length c1)) := by show _ = _; simp
  have HV1 : Hid ((w2.alloc (.cells #[.slice a1 nb.length c1, .slice a2 nw.length c2] 26)).cell? ⟨w2.heap.size, 1, none⟩ = some (.slice a2 nw.length c2)) := by show _ = _; simp
  generalize hV : w2.alloc (.cells #[.slice a1 nb.length c1, .slice a2 nw.length c2] 26) = V at *
  clear hV
  have hkd : Keeps V V.drew := (Keeps.refl V).drew
  obtain ⟨a3, c3, w3, hr3, hn3, hb3, hk3⟩ := run_bys V.drew ba bc bL 22 ((((HBy.out.kept HK1.out).kept HK2.out).kept HKa.out).kept hkd) HBN.out (Nat.le_trans hbl (by decide))
  have HK3 := hide (HKa.out.trans (hkd.trans hk3))
  have hb3' : Born w2 w3 [(a3, bys bL)] := hb3.old (HKa.out.trans hkd)
  have hb3V : ∀ b ∈ fp [(a3, bys bL)], w2.heap.size < b := fun b hb => by have h1 : V.heap.size ≤ b := hb3.new b hb; have := HVz.out; omega
  obtain ⟨v4, w4, hr4, ho4, hg4, hv4⟩ := run_write w3 w1.heap.size (.slice a2 nw.length c2) nw.length (wcells nw) (.int .i64 i) (.slice a3 bL.length c3) rfl rfl 24 (owns_kept HK3.out HG2.out.row) (by omega) (HK2.out.trans HK3.out).size
  have HS4 := hide (HG2.out.snoc HK3.out (x := Wr.mk i (Bs.mk a3 c3 bL)) hb3'.toOwn hb3'.new hg4 ho4 hv4)
  have hz3 : w2.heap.size < w3.heap.size := by have := HVz.out; have := (hkd.trans hk3).size; omega
  have HP4 := hide (HP.out.snoc (x := Wr.mk i (Bs.mk a3 c3 bL)) (v' := v4) (n := w2.heap.size) (m := (w3.alloc (.cells #[.int .i64 i, .slice a3 bL.length c3] 86)).heap.size) hb3'.new hO (by simp; omega) hv4)
  have HQ4 : Hid (∀ g, v4.ownBlock = some g → g ≠ w2.heap.size) := fun g hg => by
    rcases hv4 with hv4 | hv4
    · rw [hv4] at hg; have := (HG2.out.row.lt g hg).2; omega
    · rw [hv4] at hg; have := Option.some.inj hg; simp at this; omega
  obtain ⟨a4, c4, rfl, _⟩ := HS4.out.writes
  have hlen : (nw ++ [Wr.mk i (Bs.mk a3 c3 bL)]).length = nw.length + 1 := by simp
  rw [hlen] at hr4 HS4 HP4 HQ4
  have HTu : Hid (Turn (Value.ownBlock (.slice a2 nw.length c2)).toList w2 w4) := by
    refine ((Turn.of_keeps (HK3.out.trans (Keeps.alloc (Keeps.refl w3) (.cells #[.int .i64 i, .slice a3 bL.length c3] 86))) _).trans' (Turn.of_grown hg4 (fun k hk' => by rw [hk']; simp)))
  have HTV : Hid (Turn (Value.ownBlock (.slice a2 nw.length c2)).toList V w4) := by
    refine ((Turn.of_keeps ((hkd.trans hk3).trans (Keeps.alloc (Keeps.refl w3) (.cells #[.int .i64 i, .slice a3 bL.length c3] 86))) _).trans' (Turn.of_grown hg4 (fun k hk' => by rw [hk']; simp)))
  have HNo : Hid (∀ b, (b ≤ O ∨ w2.heap.size ≤ b) → b ∉ (Value.ownBlock (.slice a2 nw.length c2)).toList) := fun b hb hx => by
    have h1 : Value.ownBlock (.slice a2 nw.length c2) = some b := by simpa using hx
    have := HP.out.1 b h1
    have := (HG2.out.row.lt b h1).2
    omega
  have HG1' : Hid (LG 93 1 Bs.cells Bs.seg w1 w4 (.slice a1 nb.length c1) nb) := HG1.out.turned HTu.out (fun g hg => HNo.out g (Or.inl (HO1.out g hg))) (fun b hb => HNo.out b (Or.inl (HO2.out b hb))) (fun b hb => by
    have h1 : Value.ownBlock (.slice a2 nw.length c2) = some b := by simpa using hb
    exact (HG2.out.row.lt b h1).1)
  have HRV4 : Hid (Room w4 w2.heap.size 2) := room_turn HRV.out HTV.out (HNo.out _ (Or.inr (Nat.le_refl _))) (by have := HVz.out; omega)
  have HRR4 : Hid (Room w4 (w.heap.size + 1) 2) := by
    refine room_turn HR2.out HTu.out (fun hx => ?_) hz2
    have h1 : Value.ownBlock (.slice a2 nw.length c2) = some (w.heap.size + 1) := by simpa using hx
    have := (HG2.out.row.lt _ h1).1
    omega
  have HR3 := hide hr3
  have HR4 := hide hr4
  have HN3 := hide hn3
  have s0 := HV0.out
  have s1 := HV1.out
  have s2 := (hkd.trans hk3).cell HV1.out
  have s3 := HTV.out.cell (p := ⟨w2.heap.size, 0, none⟩) (HNo.out _ (Or.inr (Nat.le_refl _))) HV0.out
  have s4 := HTV.out.cell (p := ⟨w2.heap.size, 1, none⟩) (HNo.out _ (Or.inr (Nat.le_refl _))) HV1.out
  have s5 := HRV4.out.free 1
  have l0 : w2.heap.size < V.heap.size := by have := HVz.out; omega
  have l4 := HTu.out.size
  have HB3 := hide hb3V
  clear hr3 hr4 hn3 hb3 hk3 hb3' ho4 hg4 hv4 hkd hb3V hlen
  go_region_law (first
    | (refine step_append_run (by rfl) (.tmp 18) (.tmp 19) _ _ (by rfl) _ _ (by rfl) (by rfl) (.slice a3 bL.length c3) w3 HR3.out ?_)
    | (refine step_append_run (by rfl) (.tmp 16) (.tmp 22) _ _ (by rfl) _ _ (by rfl) (by rfl) _ w4 HR4.out ?_))
  all_goals
    have HS5 : Hid (LG 86 2 Wr.cells Wr.seg w1 (w4.setCell ⟨w2.heap.size, 1, none⟩ (.slice a4 (nw.length + 1) c4)) (.slice a4 (nw.length + 1) c4) (nw ++ [Wr.mk i (Bs.mk a3 c3 bL)])) :=
      HS4.out.turned (Turn.set (fs := [w2.heap.size]) (by simp) _) (fun g hg hx => HQ4.out g hg (by simpa using hx)) (fun b hb hx => by
        have hx' : b = w2.heap.size := by simpa using hx
        rw [List.map_append, fp_append] at hb
        rcases List.mem_append.1 hb with hb | hb
        · have := HG2.out.inner.mem.lt b hb; omega
        · have := HB3.out b hb; omega) (fun b hb => by simp at hb; have := HK2.out.size; omega)
    have HG5 : Hid (LG 93 1 Bs.cells Bs.seg w1 (w4.setCell ⟨w2.heap.size, 1, none⟩ (.slice a4 (nw.length + 1) c4)) (.slice a1 nb.length c1) nb) :=
      HG1'.out.turned (Turn.set (fs := [w2.heap.size]) (by simp) _) (fun g hg hx => by have := HO1.out g hg; simp at hx; omega) (fun b hb hx => by have := HO2.out b hb; simp at hx; omega) (fun b hb => by simp at hb; have := HK2.out.size; omega)
    have t0 : (w4.setCell ⟨w2.heap.size, 1, none⟩ (.slice a4 (nw.length + 1) c4)).cell? ⟨w2.heap.size, 0, none⟩ = some (.slice a1 nb.length c1) := by rw [World.cell?_setCell_other _ _ _ _ (by simp)]; exact s3
    have t1 : (w4.setCell ⟨w2.heap.size, 1, none⟩ (.slice a4 (nw.length + 1) c4)).cell? ⟨w2.heap.size, 1, none⟩ = some (.slice a4 (nw.length + 1) c4) := World.cell?_setCell_same _ _ _ s4
    have HR5 : Hid (Room (w4.setCell ⟨w2.heap.size, 1, none⟩ (.slice a4 (nw.length + 1) c4)) (w.heap.size + 1) 2) := room_turn HRR4.out (Turn.set (fs := [w2.heap.size]) (by simp) _) (by simp; omega) (by omega)
    have z5 : w.heap.size + 1 < (w4.setCell ⟨w2.heap.size, 1, none⟩ (.slice a4 (nw.length + 1) c4)).heap.size := by simp [World.setCell]; omega
    generalize w4.setCell ⟨w2.heap.size, 1, none⟩ (.slice a4 (nw.length + 1) c4) = w5 at *
    go_wp2_with fail
    have hlen : (nw ++ [Wr.mk i (Bs.mk a3 c3 bL)]).length = nw.length + 1 := by simp
    have hdat : dat nb (nw ++ [Wr.mk i (Bs.mk a3 c3 bL)]) = ⟨(dat cs ds).cells, (dat cs ds).dirty ++ [(i, bL)]⟩ := by
      unfold dat
      rw [List.map_append, HE1.out, HE2.out]; rfl
    have hq := diskok_spec a1 c1 nb a4 c4 (nw ++ [Wr.mk i (Bs.mk a3 c3 bL)]) w5 (lg_mem HG5.out HS5.out rfl (by rw [hlen])) (like_len HE1.out HDO.out) (by rw [hlen]; omega) (like_lens HE1.out HDO.out) (by
      intro x hx
      rcases List.mem_append.1 hx with hx | hx
      · exact likeW_lens HE2.out HDO.out x hx
      · rw [List.mem_singleton.1 hx]; exact Nat.le_trans hbl (by decide))
    rw [hlen, dok_dat, hdat, dokM_add HOk.out] at hq
    refine hq.mono ?_
    rintro x w6 ⟨rfl, hk6⟩
    have HK6 := hide hk6
    have HR6 : Hid (Room w6 (w.heap.size + 1) 2) := HR5.out.kept hk6 z5
    have u0 := hk6.cell t0
    have u1 := hk6.cell t1
    obtain ⟨y0, r0⟩ := HR6.out.cell 0 (by decide)
    obtain ⟨y1, r1⟩ := HR6.out.cell 1 (by decide)
    have f0 := HR6.out.free 0
    have f1 := HR6.out.free 1
    have HKw : Hid (Keeps w w6) := (HKA.out.trans HK1.out).trans (HG5.out.keeps.trans hk6)
    have HDt := hide hdat
    clear hq hk6 t0 t1 s0 s1 s2 s3 s4 s5 hlen hdat
    cases hwb : writeB (dat cs ds) i bL
    · have HB := hide hwb
      clear hwb
      go_wp2_with fail
      have e0 : ((w6.setCell ⟨w.heap.size + 1, 0, none⟩ (.slice none 0 0)).setCell ⟨w.heap.size + 1, 1, none⟩ (.slice none 0 0)).cell? ⟨w.heap.size + 1, 0, none⟩ = some (.slice none 0 0) := by
        rw [World.cell?_setCell_other _ _ _ _ (by simp)]; exact World.cell?_setCell_same _ _ _ r0
      have e1 : ((w6.setCell ⟨w.heap.size + 1, 0, none⟩ (.slice none 0 0)).setCell ⟨w.heap.size + 1, 1, none⟩ (.slice none 0 0)).cell? ⟨w.heap.size + 1, 1, none⟩ = some (.slice none 0 0) :=
        World.cell?_setCell_same _ _ _ (by rw [World.cell?_setCell_other _ _ _ _ (by simp)]; exact r1)
      have HS : Hid (Turn [w.heap.size + 1] w6 ((w6.setCell ⟨w.heap.size + 1, 0, none⟩ (.slice none 0 0)).setCell ⟨w.heap.size + 1, 1, none⟩ (.slice none 0 0))) := (Turn.set (by simp) _).trans' (Turn.set (by simp) _)
      clear r0 r1 f0 f1
      revert e0 e1 HS
      generalize World.setCell _ _ _ = W
      intro e0 e1 HS
      refine bodyPost_ret (v := .tuple #[.agg #[.slice none 0 0, .slice none 0 0], .bool false]) (by simp [results, Tryz.results40, go_sem, e0, e1]) rfl ?_
      refine WritePost.no HB.out (HS.out.keeps HKw.out (fun b hb => ?_))
      simp at hb
      omega
    · have HB := hide hwb
      clear hwb
      go_wp2_with fail
      have e0 : ((w6.setCell ⟨w.heap.size + 1, 0, none⟩ (.slice a1 nb.length c1)).setCell ⟨w.heap.size + 1, 1, none⟩ (.slice a4 (nw.length + 1) c4)).cell? ⟨w.heap.size + 1, 0, none⟩ = some (.slice a1 nb.length c1) := by
        rw [World.cell?_setCell_other _ _ _ _ (by simp)]; exact World.cell?_setCell_same _ _ _ r0
      have e1 : ((w6.setCell ⟨w.heap.size + 1, 0, none⟩ (.slice a1 nb.length c1)).setCell ⟨w.heap.size + 1, 1, none⟩ (.slice a4 (nw.length + 1) c4)).cell? ⟨w.heap.size + 1, 1, none⟩ = some (.slice a4 (nw.length + 1) c4) :=
        World.cell?_setCell_same _ _ _ (by rw [World.cell?_setCell_other _ _ _ _ (by simp)]; exact r1)
      have HS : Hid (Turn [w.heap.size + 1] w6 ((w6.setCell ⟨w.heap.size + 1, 0, none⟩ (.slice a1 nb.length c1)).setCell ⟨w.heap.size + 1, 1, none⟩ (.slice a4 (nw.length + 1) c4))) := (Turn.set (by simp) _).trans' (Turn.set (by simp) _)
      clear r0 r1 f0 f1
      revert e0 e1 HS
      generalize World.setCell _ _ _ = W
      intro e0 e1 HS
      refine bodyPost_ret (v := .tuple #[.agg #[.slice a1 nb.length c1, .slice a4 (nw.length + 1) c4], .bool true]) (by simp [results, Tryz.results40, go_sem, e0, e1]) rfl ?_
      have hR : ∀ b ∈ [w.heap.size + 1], b < w1.heap.size := fun b hb => by simp at hb; omega
      have hap1 : ∀ b, w1.heap.size ≤ b → b ∉ [w.heap.size + 1] := fun b hb hx => by have := hR b hx; omega
      have g5 := (HG5.out.kept HK6.out).turned' HS.out hap1
      have g6 := (HS5.out.kept HK6.out).turned' HS.out hap1
      have hokk : dokM (dat nb (nw ++ [Wr.mk i (Bs.mk a3 c3 bL)])) = true := by rw [HDt.out, dokM_add HOk.out]; exact HB.out
      have hres := diskres_two' g5 g6 HP4.out HO1.out HO2.out hokk HN1.out (by
        intro x hx
        rcases List.mem_append.1 hx with hx | hx
        · exact HN2.out x hx
        · rw [List.mem_singleton.1 hx]; exact HN3.out)
      rw [HDt.out] at hres
      refine WritePost.yes HB.out (hres.old (HKA.out.trans HK1.out)) (HS.out.keeps HKw.out (fun b hb => ?_))
      simp at hb
      omega
end Go.Proofs.YtmkhlhjggbencaaGreatDoor

/- DiskCrash of the model, by contract. -/
namespace Go.Proofs.YtmkhlhjggbencaaGreatDoor
open Go.RowKit Go.Deep
set_option linter.unusedVariables false
set_option linter.unusedSimpArgs false
set_option maxRecDepth 10000

theorem own_byte {w : World} {G : Nat} {Y : List UInt8} (h : Own w [(some ⟨G, 0, none⟩, bys Y)]) (i : Nat) (hi : i < Y.length) (x : UInt8) : Own (w.setCell ⟨G, i, none⟩ (byV x)) [(some ⟨G, 0, none⟩, bys (Y.set i x))] := by
  have hc : ∀ j (hj : j < (bys Y).length), w.cell? ⟨G, j, none⟩ = some (bys Y)[j] := by
    intro j hj
    have := cell_at h.mem j hj
    rwa [Nat.zero_add] at this
  have e : bys (Y.set i x) = (bys Y).set i (byV x) := by simp [bys, List.map_set]
  rw [e]
  refine h.wrote (by simp) (Or.inr ⟨G, 0, rfl, fun j hj => ?_⟩) (fun p => frozen_set _ _ _ _)
  rw [List.length_set] at hj
  rw [Nat.zero_add, List.getElem_set]
  by_cases e : i = j
  · subst e
    rw [if_pos rfl]
    exact World.cell?_setCell_same _ _ _ (hc i hj)
  · rw [if_neg e, World.cell?_setCell_other _ _ _ _ (fun h => e (by injection h))]
    exact hc j hj
theorem own_other {w : World} {S : List Seg} (h : Own w S) {a : Addr} (v : Value) (hn : ∀ x ∈ fp S, x ≠ a.block) : Own (w.setCell a v) S := h.turn (Turn.set (fs := [a.block]) (by simp) v) (fun x hx hb => hn x hx (by simpa using hb))
theorem fp_single {R : Nat} {xs : List Value} : ∀ x ∈ fp [((some ⟨R, 0, none⟩ : Option Addr), xs)], x = R := fun x hx => by
  rw [fp_one] at hx
  by_cases h0 : xs = []
  · simp [fpS, h0] at hx
  · rw [fpS_some h0] at hx
    simpa using hx
theorem land_step {X F : List UInt8} {j : Nat} (hX : X.length = 128) (hF : F.length = 128) (hj : j < 128) : (X.take j ++ F.drop j).set j (X[j]'(by omega)) = X.take (j + 1) ++ F.drop (j + 1) := by
  have h1 : (X.take j).length = j := by rw [List.length_take]; omega
  have e1 : F.drop j = F[j]'(by omega) :: F.drop (j + 1) := List.drop_eq_getElem_cons (by omega)
  have e2 : X.take (j + 1) = X.take j ++ [X[j]'(by omega)] := List.take_succ_eq_append_getElem (by omega)
  rw [List.set_append_right _ _ (by omega), h1, Nat.sub_self, e1, List.set_cons_zero, e2, List.append_assoc]
  rfl
theorem fullL_len {L : List UInt8} (h : L.length = 0 ∨ L.length = 128) : (fullL L).length = 128 := by
  unfold fullL
  split
  · simp
  · rename_i hne
    rcases h with h | h
    · exact absurd (List.length_eq_zero_iff.1 h) hne
    · exact h
theorem keepN_pos {K : List Int} {k : Nat} (h : k < K.length) (h1 : 1 ≤ K[k]) : (keepN K k : Int) = (if 128 < K[k] then 128 else K[k]) := by
  unfold keepN
  rw [List.getElem?_eq_getElem h]
  simp only
  rw [if_neg (by omega)]
  by_cases h2 : 128 < K[k]
  · rw [if_pos h2, if_pos h2]; rfl
  · rw [if_neg h2, if_neg h2]; omega
theorem keepN_zero {K : List Int} {k : Nat} (h : k < K.length → K[k]! < 1) : keepN K k = 0 := by
  unfold keepN
  by_cases hk : k < K.length
  · have h1 := h hk
    rw [getElem!_pos K k hk] at h1
    rw [List.getElem?_eq_getElem hk]
    simp only
    by_cases h2 : K[k] < 0
    · rw [if_pos h2]
    · rw [if_neg h2, if_neg (by omega)]; omega
  · rw [List.getElem?_eq_none (by omega)]

set_option maxHeartbeats 16000000 in
theorem diskcrash_spec (ca : Option Addr) (cc : Nat) (cs : List Bs) (da : Option Addr) (dc : Nat) (ds : List Wr) (ka : Option Addr) (kc : Nat) (K : List Int) (w : World) (hm : Mem w (dsk ca cs da ds)) (h : DOk cs ds) (hk : Cells w ka (its K)) (hkl : K.length ≤ 1048576) :
    Calls Tryz.prog 50 #[dskV ca cs.length cc da ds.length dc, .slice ka K.length kc] w fun e w' => ∃ v, e = .returned v ∧ DiskRes w w' v (crashM (dat cs ds) (keepN K)) ∧ Keeps w w' := by
  have HKA := hide (Keeps.alloc (Keeps.alloc (Keeps.refl w) (.cells #[.slice ca cs.length cc, .slice da ds.length dc] 26)) (.cells #[.slice none 0 0, .slice none 0 0] 26))
  have HM := hide (hm.kept HKA.out)
  have HD : Hid (∀ w', Keeps ((w.alloc (.cells #[.slice ca cs.length cc, .slice da ds.length dc] 26)).alloc (.cells #[.slice none 0 0, .slice none 0 0] 26)) w' → w'.cell? ⟨w.heap.size, 0, none⟩ = some (.slice ca cs.length cc) ∧ w'.cell? ⟨w.heap.size, 1, none⟩ = some (.slice da ds.length dc)) :=
    fun w' hk => ⟨hk.cell (by simp), hk.cell (by simp)⟩
  have HZ : Hid (((w.alloc (.cells #[.slice ca cs.length cc, .slice da ds.length dc] 26)).alloc (.cells #[.slice none 0 0, .slice none 0 0] 26)).heap.size = w.heap.size + 1 + 1) := by show _ = _; rw [World.size_alloc, World.size_alloc]
  have HR := hide ((born_alloc (w.alloc (.cells #[.slice ca cs.length cc, .slice da ds.length dc] 26)) #[.slice none 0 0, .slice none 0 0] 26).toOwn)
  rw [World.size_alloc] at HR
  have HQ := hide (diskok_spec' ca cc cs da dc ds _ HM.out h)
  have HDO := hide h
  have hdl := h.d
  have HKP := hide (hk.kept HKA.out)
  have HF : Hid (∀ i : Nat, keepN K i ≤ 128) := keepN_le K
  clear hm h hk
  go_enter Tryz.func50, Tryz.ntmps50
  go_wp2_with fail
  generalize (w.alloc (.cells #[.slice ca cs.length cc, .slice da ds.length dc] 26)).alloc (.cells #[.slice none 0 0, .slice none 0 0] 26) = W0 at *
  refine (unhide HQ).mono ?_
  rintro x w1 ⟨rfl, hk1⟩
  have HK1 := hide hk1
  obtain ⟨d0, d1⟩ := HD.out _ hk1
  have HR1 := hide (HR.out.kept hk1)
  have hz1 : w.heap.size + 1 < w1.heap.size := by have := hk1.size; have := HZ.out; omega
  clear hk1 HR
  cases hok : dokM (dat cs ds)
  · have HC : Hid (crashM (dat cs ds) (keepN K) = noneM) := by show _ = _; unfold crashM; rw [hok]; rfl
    have hO := HR1.out
    have r0 := cell_at hO.mem 0 (by simp)
    have r1 := cell_at hO.mem 1 (by simp)
    simp only [Nat.zero_add, List.getElem_cons_zero, List.getElem_cons_succ] at r0 r1
    have fR : ∀ i, w1.frozen? ⟨w.heap.size + 1, i, none⟩ = false := hO.free (w.heap.size + 1) (by rw [fp_one, fpS_some (by simp)]; simp)
    have HKF := hide (((HKA.out.trans HK1.out).setCell (p := ⟨w.heap.size + 1, 0, none⟩) (Nat.le_succ _) (.slice none 0 0)).setCell (p := ⟨w.heap.size + 1, 1, none⟩) (Nat.le_succ _) (.slice none 0 0))
    have E0 : Hid (((w1.setCell ⟨w.heap.size + 1, 0, none⟩ (.slice none 0 0)).setCell ⟨w.heap.size + 1, 1, none⟩ (.slice none 0 0)).cell? ⟨w.heap.size + 1, 0, none⟩ = some (.slice none 0 0)) := by
      show _ = _
      rw [World.cell?_setCell_other _ _ _ _ (by simp)]; exact World.cell?_setCell_same _ _ _ r0
    have E1 : Hid (((w1.setCell ⟨w.heap.size + 1, 0, none⟩ (.slice none 0 0)).setCell ⟨w.heap.size + 1, 1, none⟩ (.slice none 0 0)).cell? ⟨w.heap.size + 1, 1, none⟩ = some (.slice none 0 0)) := by
      show _ = _
      refine World.cell?_setCell_same _ _ _ (u := .slice none 0 0) ?_
      rw [World.cell?_setCell_other _ _ _ _ (by simp)]; exact r1
    clear hO hok
    go_wp2_with fail
    have e0 := E0.out
    have e1 := E1.out
    have hK := HKF.out
    clear r0 r1 fR E0 E1 HKF
    revert e0 e1 hK
    generalize (w1.setCell ⟨w.heap.size + 1, 0, none⟩ (.slice none 0 0)).setCell ⟨w.heap.size + 1, 1, none⟩ (.slice none 0 0) = W
    intro e0 e1 hK
    refine bodyPost_ret (v := dskV none 0 0 none 0 0) (by simp [results, Tryz.results50, go_sem, e0, e1]) rfl ⟨_, rfl, ?_, hK⟩
    rw [HC.out]
    exact diskres_none w W
  have HOK := hide hok
  have hcl1 : 1 ≤ cs.length := by have := (dokM_len hok).1; simpa [dat] using this
  clear hok
  go_wp2_with fail
  refine (copy_spec ca cc cs da dc ds w1 (HM.out.kept HK1.out) HDO.out).mono ?_
  rintro x w2 ⟨v1, v2, rfl, hcr, hk2⟩
  obtain ⟨nb0, nw, O, e1, hq1, n1, hq2, g1, g2, hq3⟩ := hcr
  clear hq1 hq2 hq3
  have hl0 : nb0.length = cs.length := by simpa using congrArg List.length e1
  obtain ⟨g, gc, hv1, hgo, hcx, hfx, hg0, hg1⟩ := g1.slice (p := 0) (by omega)
  clear hcx hfx
  obtain ⟨a2, c2, hv2, hwx⟩ := g2.writes
  clear hwx
  rw [hl0] at hv1
  subst hv1 hv2
  have HE1 := hide e1
  have HN1 := hide n1
  have HK2 := hide hk2
  have HGO : Hid (∀ n c, Value.ownBlock (.slice (some ⟨g, 0, none⟩) n c) = some g) := fun n c => by simp [Value.ownBlock]
  have hbO := born_alloc w2 #[.slice (some ⟨g, 0, none⟩) cs.length gc, .slice none 0 0] 26
  dsimp only at hbO
  have hkO := Keeps.alloc (Keeps.refl w2) (.cells #[.slice (some ⟨g, 0, none⟩) cs.length gc, .slice none 0 0] 26)
  have HLG0 := hide (g1.kept hkO)
  have HOO := hide hbO.toOwn
  have HKO := hide (hk2.trans hkO)
  obtain ⟨_, dd1⟩ := HD.out _ (HK1.out.trans hk2)
  have hz2 : w1.heap.size ≤ w2.heap.size := hk2.size
  have hz3 : w.heap.size < w2.heap.size := by omega
  have hgO : g < w2.heap.size := hg1
  clear e1 n1 g1 g2 hkO hbO d0 d1 hk2 hl0 hgo
  go_wp2_with fail
  generalize w2.alloc (.cells #[.slice (some ⟨g, 0, none⟩) cs.length gc, .slice none 0 0] 26) = w3 at *
  generalize hOe : w2.heap.size = O at *
  clear dd1 hOe
  go_loopw [21] (fun y wr => ∃ k : Nat, k ≤ ds.length ∧ y = .int .i64 (k : Int) ∧ Hid (∃ nb, nb.map Bs.L = crashTo (cs.map Bs.L) (ds.map Wr.key) (keepN K) k ∧ (∀ b ∈ nb, b.fit) ∧ LG 93 1 Bs.cells Bs.seg w1 wr (.slice (some ⟨g, 0, none⟩) cs.length gc) nb) ∧ Hid (Own wr [(some ⟨O, 0, none⟩, [.slice (some ⟨g, 0, none⟩) cs.length gc, .slice none 0 0])])) (fun y _ => ds.length - (intOf y).toNat)
  case atStart => exact ⟨0, by omega, rfl, ⟨nb0, HE1.out, HN1.out, HLG0.out⟩, HOO⟩
  case round =>
    obtain ⟨k, hk, rfl, HH, HOr⟩ := hrel
    obtain ⟨nb, hnL, hnf, hLG⟩ := HH.out
    have hkw : Keeps W0 wr := HK1.out.trans hLG.keeps
    have HLr := hide hLG
    have HNr := hide hnL
    have HFr := hide hnf
    have HKr := hide hkw
    clear hnL hnf hLG HH HOO HLG0 HE1 HN1
    by_cases hlt : k < ds.length
    · have hmm := dsk_mem (HM.out.kept hkw)
      obtain ⟨b, off, ea, c0, c1⟩ := cell2 hmm.2.2.1 k hlt
      obtain ⟨p, hp, hpc, hL⟩ := dirty_at HOK.out k hlt
      have hseg : Cells wr ds[k].b.a (bys ds[k].b.L) := hmm.2.2.2 ds[k].seg (List.mem_map.2 ⟨ds[k], List.getElem_mem hlt, rfl⟩)
      obtain ⟨xb, xo, exa⟩ : ∃ xb xo, ds[k].b.a = some ⟨xb, xo, none⟩ := by
        rcases hseg with h' | ⟨b', o', e', _⟩
        · rw [bys_nil] at h'; rw [h'] at hL; simp at hL
        · exact ⟨b', o', e'⟩
      rw [hp] at c0
      rw [show ds[k].b.v = .slice (some ⟨xb, xo, none⟩) 128 ds[k].b.cap by unfold Bs.v; rw [exa, hL]] at c1
      rw [exa] at hseg
      subst ea
      have hlen : nb.length = cs.length := by
        have := congrArg List.length HNr.out
        rw [List.length_map, crashTo_len, List.length_map] at this
        exact this
      have hpn : p < nb.length := by omega
      have HLen := hide hlen
      clear hlen
      have hcell : nb[p].L.length = 0 ∨ nb[p].L.length = 128 := by
        have h2 := crashTo_ok HOK.out HF.out k
        have h3 : nb[p].L ∈ crashTo (dat cs ds).cells (dat cs ds).dirty (keepN K) k := by
          show _ ∈ crashTo (cs.map Bs.L) (ds.map Wr.key) (keepN K) k
          rw [← HNr.out]
          exact List.mem_map.2 ⟨nb[p], List.getElem_mem _, rfl⟩
        exact h2 _ h3
      have HNext : Hid (∀ n, keepN K k = n → crashTo (cs.map Bs.L) (ds.map Wr.key) (keepN K) (k + 1) = landM (nb.map Bs.L) ((p : Int), ds[k].b.L) n) := fun n hn => by
        subst hn
        rw [crashTo_next hlt, ← HNr.out]
        unfold Wr.key
        rw [hp]
      have HSeg := hide hseg
      have HLx := hide hL
      have hxc : ds[k].b.cap = ds[k].b.cap := rfl
      generalize ds[k].b.cap = xc at *
      generalize ds[k].b.L = xL at *
      have hka := Keeps.alloc (Keeps.refl wr) (.cells #[.int .i64 (p : Int), .slice (some ⟨xb, xo, none⟩) 128 xc] 86)
      have HLk := hide (HLr.out.kept hka)
      have HOk2 := hide (HOr.out.kept hka)
      clear hmm hp hseg exa hkw hL hxc
      have hdl2 : (ds.length : Int) ≤ 1048576 := by omega
      by_cases hgo : k < K.length ∧ 1 ≤ K[k]!
      · obtain ⟨hkk, h1v⟩ := hgo
        rw [getElem!_pos K k hkk] at h1v
        obtain ⟨kb, ko, eka, ck⟩ := its_at (HKP.out.kept HKr.out) k hkk
        have HNK := hide (keepN_pos hkk h1v)
        have HN1 := hide (keepN_le K k)
        have HNx := hide (HNext.out (keepN K k) rfl)
        subst eka
        generalize keepN K k = nk at *
        generalize K[k] = kv at *
        obtain ⟨g', gc', hvx, hgo', cN, fN, hg0', hg1'⟩ := HLr.out.slice (p := p) hpn
        injection hvx with hvx1 hvx2 hvx3
        have hvx4 := Option.some.inj hvx1
        injection hvx4 with hvx5
        subst hvx5
        rw [show nb[p].v = .slice nb[p].a nb[p].L.length nb[p].cap from rfl] at cN
        have HI : Hid (Cells (wr.alloc (.cells #[.int .i64 (p : Int), .slice (some ⟨xb, xo, none⟩) 128 xc] 86)) nb[p].a (bys nb[p].L)) := (HLr.out.inner.mem nb[p].seg (List.mem_map.2 ⟨nb[p], List.getElem_mem _, rfl⟩)).kept hka
        have HFu := hide (full_k nb[p].a nb[p].cap nb[p].L _ HI.out (HFr.out nb[p] (List.getElem_mem _)).1 (by omega))
        have cO := (cell_at HOr.out.mem 0 (by simp))
        simp only [Nat.zero_add, List.getElem_cons_zero] at cO
        have hpI : (p : Int) < (cs.length : Int) := by omega
        have hOl := lt_of_cell cO
        have hkbl := lt_of_cell ck
        clear HNext hvx1 hvx2 hvx3 hgo'
        go_wp2_with fail
        refine (unhide HFu).mono ?_
        rintro x w5 ⟨vb, rfl, hob, hk5⟩
        have hfl := fullL_len hcell
        obtain ⟨G, cb, hvb, hGb, hGl⟩ : ∃ G cb, vb = .slice (some ⟨G, 0, none⟩) 128 cb ∧ wr.heap.size + 1 ≤ G ∧ 128 ≤ cb := by
          rcases hob.2 with ⟨_, h0⟩ | ⟨G, cb, cur, rfl, hb, _, hn, _⟩
          · rw [hfl] at h0; cases h0
          · rw [hfl] at hn
            refine ⟨G, cb, by rw [hfl], ?_, hn⟩
            have : (wr.alloc (.cells #[.int .i64 (p : Int), .slice (some ⟨xb, xo, none⟩) 128 xc] 86)).heap.size ≤ G := hb
            rwa [World.size_alloc] at this
        have hOb : Own w5 [(some ⟨G, 0, none⟩, bys (fullL nb[p].L))] := by
          obtain ⟨a', c', e', _, _, _, hown, _⟩ := Own.of_owns hob
          rw [hvb] at e'
          injection e' with e1 e2 e3
          subst e1
          exact hown
        rw [hvb]
        have HG5 := hide hOb
        have HK5 := hide hk5
        have HL5 := hide (HLk.out.kept hk5)
        have HO5 := hide (HOk2.out.kept hk5)
        have v0 := hk5.cell (p := ⟨wr.heap.size, 0, none⟩) (v := .int .i64 (p : Int)) (by simp)
        have v1' := hk5.cell (p := ⟨wr.heap.size, 1, none⟩) (v := .slice (some ⟨xb, xo, none⟩) 128 xc) (by simp)
        have HS5 := hide ((HSeg.out.kept hka).kept hk5)
        have HFL := hide hfl
        have HV0 := hide v0
        have HV1 := hide v1'
        have hwr5 : wr.heap.size + 1 ≤ w5.heap.size := by have := hk5.size; rwa [World.size_alloc] at this
        clear hvb hob hOb hk5 HFu HI cN fN cO c0 c1 ck v0 v1' hfl hka HLk HOk2
        have hnk0 : 1 ≤ nk := by
          have h := HNK.out
          by_cases h2 : 128 < kv
          · rw [if_pos h2] at h; omega
          · rw [if_neg h2] at h; omega
        have hxbl : xb < wr.heap.size := by
          obtain ⟨xb', xo', e', cx⟩ := bys_at HSeg.out 0 (by rw [HLx.out]; decide)
          have e2 := Option.some.inj e'
          injection e2 with e3 e4
          subst e3 e4
          exact lt_of_cell cx
        go_wp2_with fail
        generalize hva : wr.heap.size = va at *
        have HVA := hide hva
        clear hva
        go_loopw [10] (fun y wi => ∃ j : Nat, j ≤ nk ∧ y = .int .i64 (j : Int) ∧ Hid (Own wi [(some ⟨G, 0, none⟩, bys (xL.take j ++ (fullL nb[p].L).drop j))]) ∧ Hid (Turn [G] w5 wi)) (fun y _ => nk - (intOf y).toNat)
        case atStart => exact ⟨0, by omega, rfl, by show Own _ _; simpa using HG5.out, Turn.refl _ _⟩
        case round =>
          obtain ⟨j, hj, rfl, HGi, HTi⟩ := hrel
          have HGt := hide (fun (q : Addr) (hq : q.block ≠ G) (u : Value) (hc : w5.cell? q = some u) => HTi.out.cell (p := q) (by simpa using hq) hc)
          have v0 := HGt.out ⟨va, 0, none⟩ (by show va ≠ G; omega) _ HV0.out
          have v1' := HGt.out ⟨va, 1, none⟩ (by show va ≠ G; omega) _ HV1.out
          have HYl : Hid ((xL.take j ++ (fullL nb[p].L).drop j).length = 128) := by
            show _ = _
            have h1 := HN1.out
            rw [List.length_append, List.length_take, List.length_drop, HLx.out, HFL.out]; omega
          have fG := HGi.out.free G (by rw [fp_one, fpS_some (by rw [ne_eq, bys_nil]; intro e; have := HYl.out; rw [e] at this; simp at this)]; simp)
          by_cases hjn : j < nk
          · have hj128 : j < 128 := by have := HN1.out; omega
            have hjk : (j : Int) < kv := by
              have h := HNK.out
              by_cases h2 : 128 < kv
              · omega
              · rw [if_neg h2] at h; omega
            have hj2 : (j : Int) < 128 := by omega
            have hxlen : j < xL.length := by rw [HLx.out]; exact hj128
            obtain ⟨xb', xo', e', cx⟩ := bys_at HS5.out j hxlen
            have e2 := Option.some.inj e'
            injection e2 with e3 e4
            subst e3 e4
            have cx' := HGt.out ⟨xb, xo + j, none⟩ (by show xb ≠ G; omega) _ cx
            obtain ⟨u, cG⟩ : ∃ u, wr.cell? ⟨G, j, none⟩ = some u := by
              have := cell_at HGi.out.mem j (by rw [bys_length, HYl.out]; exact hj128)
              rw [Nat.zero_add] at this
              exact ⟨_, this⟩
            have HGn : Hid (Own (wr.setCell ⟨G, j, none⟩ (byV xL[j])) [(some ⟨G, 0, none⟩, bys (xL.take (j + 1) ++ (fullL nb[p].L).drop (j + 1)))]) := by
              show Own _ _
              rw [← land_step HLx.out HFL.out hj128]
              exact own_byte HGi.out j (by rw [HYl.out]; exact hj128) xL[j]
            have hb0 := byte_nn xL[j]
            have hb1 := byte_lt xL[j]
            have hbv : byV xL[j] = .int .u8 (xL[j].toNat : Int) := rfl
            rw [hbv] at HGn
            clear hbv cx e'
            generalize (xL[j].toNat : Int) = xx at *
            go_wp2_with fail
            go_roundw
            case rel => exact ⟨j + 1, by omega, by go_num, HGn, HTi.out.trans' (Turn.set (by simp) _)⟩
            case measure => simp [intOf]; omega
          · have hje : j = nk := by omega
            subst hje
            have HLi : Hid (LG 93 1 Bs.cells Bs.seg w1 wr (.slice (some ⟨g, 0, none⟩) cs.length gc) nb) := by
              refine HL5.out.turned HTi.out (fun g' hg' => ?_) (fun b' hb' => ?_) (fun b' hb' => ?_)
              · rw [HGO.out] at hg'
                have : g' = g := (Option.some.inj hg').symm
                simp; omega
              · have h1 := HLr.out.inner.mem.lt b' hb'
                rw [HVA.out] at h1
                simp; omega
              · simp at hb'
                omega
            have HOi := hide (HO5.out.turn HTi.out (fun x hx hb => by
              have e1 := fp_single x hx
              have e2 : x = G := by simpa using hb
              omega))
            obtain ⟨g', gc', hvx, hgo', cN, fN, hg0', hg1'⟩ := HLi.out.slice (p := p) hpn
            injection hvx with hvx1 hvx2 hvx3
            have hvx4 := Option.some.inj hvx1
            injection hvx4 with hvx5
            subst hvx5
            rw [show nb[p].v = .slice nb[p].a nb[p].L.length nb[p].cap from rfl] at cN
            have cO := cell_at HOi.out.mem 0 (by simp)
            simp only [Nat.zero_add, List.getElem_cons_zero] at cO
            have hll : (landL nb[p].L xL j).length = 128 := landL_len hcell HLx.out HN1.out
            have hu := HLi.out.upd hpn (HGO.out _ _) (x := ⟨some ⟨G, 0, none⟩, cb, landL nb[p].L xL j⟩) HGi.out (fun b' hb' => by
              have e : b' = G := fp_single b' hb'
              refine ⟨by omega, by omega, fun hm => ?_⟩
              have h1 := HLr.out.inner.mem.lt b' hm
              rw [HVA.out] at h1
              omega)
            rw [show (⟨some ⟨G, 0, none⟩, cb, landL nb[p].L xL j⟩ : Bs).v = .slice (some ⟨G, 0, none⟩) 128 cb from by unfold Bs.v; rw [hll]] at hu
            have HU := hide hu
            have HOu := hide (own_other (a := ⟨g, p, none⟩) HOi.out (.slice (some ⟨G, 0, none⟩) 128 cb) (fun x hx => by have := fp_single x hx; show x ≠ g; omega))
            have HFn : Hid (∀ b ∈ nb.set p ⟨some ⟨G, 0, none⟩, cb, landL nb[p].L xL j⟩, b.fit) := fun b' hb' => by
              rcases List.mem_or_eq_of_mem_set hb' with hb' | rfl
              · exact HFr.out b' hb'
              · exact ⟨(fun e => by cases e), (by rw [hll]; exact hGl)⟩
            have HMn : Hid ((nb.set p ⟨some ⟨G, 0, none⟩, cb, landL nb[p].L xL j⟩).map Bs.L = crashTo (cs.map Bs.L) (ds.map Wr.key) (keepN K) (k + 1)) := by
              show _ = _
              rw [HNx.out]
              unfold landM
              rw [if_neg (by omega), List.map_set]
              simp only [Int.toNat_natCast]
              rw [List.getD_eq_getElem?_getD, List.getElem?_map, List.getElem?_eq_getElem hpn]
              rfl
            clear hu hll hvx1 hvx2 hvx3 hgo' hg0' hg1'
            by_cases h2 : 128 < kv
            · have h3 : (j : Int) < kv := by
                have h := HNK.out
                rw [if_pos h2] at h
                omega
              have h4 : ¬ (j : Int) < 128 := by
                have h := HNK.out
                rw [if_pos h2] at h
                omega
              go_wp2_with fail
              go_roundw
              case rel => exact ⟨k + 1, by omega, by go_num, ⟨_, HMn.out, HFn.out, HU.out⟩, HOu⟩
              case measure => simp [intOf]; omega
            · have h3 : ¬ (j : Int) < kv := by
                have h := HNK.out
                rw [if_neg h2] at h
                omega
              go_wp2_with fail
              go_roundw
              case rel => exact ⟨k + 1, by omega, by go_num, ⟨_, HMn.out, HFn.out, HU.out⟩, HOu⟩
              case measure => simp [intOf]; omega
      · have HK0 : Hid (keepN K k = 0) := keepN_zero (fun hkk => by
          have : ¬ 1 ≤ K[k]! := fun h1 => hgo ⟨hkk, h1⟩
          omega)
        have HNx := hide (HNext.out 0 HK0.out)
        have HRel : Hid (nb.map Bs.L = crashTo (cs.map Bs.L) (ds.map Wr.key) (keepN K) (k + 1)) := by show _ = _; rw [HNx.out, landM_zero]
        by_cases hkk : k < K.length
        · obtain ⟨kb, ko, eka, ck⟩ := its_at (HKP.out.kept HKr.out) k hkk
          have h1v : K[k] < 1 := by
            have : ¬ 1 ≤ K[k]! := fun h1 => hgo ⟨hkk, h1⟩
            rw [getElem!_pos K k hkk] at this
            omega
          subst eka
          have hkbl := lt_of_cell ck
          generalize K[k] = kv at *
          clear HNext hgo
          go_wp2_with fail
          go_roundw
          case rel => exact ⟨k + 1, by omega, by go_num, ⟨nb, HRel.out, HFr.out, HLk.out⟩, HOk2⟩
          case measure => simp [intOf]; omega
        · have hkk2 : (K.length : Int) ≤ (k : Int) := by omega
          clear HNext hgo
          go_wp2_with fail
          go_roundw
          case rel => exact ⟨k + 1, by omega, by go_num, ⟨nb, HRel.out, HFr.out, HLk.out⟩, HOk2⟩
          case measure => simp [intOf]; omega
    · have e : k = ds.length := by omega
      subst e
      have hO := HR1.out.kept HLr.out.keeps
      have r0 := cell_at hO.mem 0 (by simp)
      have r1 := cell_at hO.mem 1 (by simp)
      have q0 := cell_at HOr.out.mem 0 (by simp)
      have q1 := cell_at HOr.out.mem 1 (by simp)
      simp only [Nat.zero_add, List.getElem_cons_zero, List.getElem_cons_succ] at r0 r1 q0 q1
      have fR : ∀ i, wr.frozen? ⟨w.heap.size + 1, i, none⟩ = false := hO.free (w.heap.size + 1) (by rw [fp_one, fpS_some (by simp)]; simp)
      have HT1 : Hid (Turn [w.heap.size + 1] wr ((wr.setCell ⟨w.heap.size + 1, 0, none⟩ (.slice (some ⟨g, 0, none⟩) cs.length gc)).setCell ⟨w.heap.size + 1, 1, none⟩ (.slice none 0 0))) := (Turn.set (by simp) _).trans' (Turn.set (by simp) _)
      have HKF := hide (((HKA.out.trans HKr.out).setCell (p := ⟨w.heap.size + 1, 0, none⟩) (Nat.le_succ _) (.slice (some ⟨g, 0, none⟩) cs.length gc)).setCell (p := ⟨w.heap.size + 1, 1, none⟩) (Nat.le_succ _) (.slice none 0 0))
      have E0 : Hid (((wr.setCell ⟨w.heap.size + 1, 0, none⟩ (.slice (some ⟨g, 0, none⟩) cs.length gc)).setCell ⟨w.heap.size + 1, 1, none⟩ (.slice none 0 0)).cell? ⟨w.heap.size + 1, 0, none⟩ = some (.slice (some ⟨g, 0, none⟩) cs.length gc)) := by
        show _ = _
        rw [World.cell?_setCell_other _ _ _ _ (by simp)]; exact World.cell?_setCell_same _ _ _ r0
      have E1 : Hid (((wr.setCell ⟨w.heap.size + 1, 0, none⟩ (.slice (some ⟨g, 0, none⟩) cs.length gc)).setCell ⟨w.heap.size + 1, 1, none⟩ (.slice none 0 0)).cell? ⟨w.heap.size + 1, 1, none⟩ = some (.slice none 0 0)) := by
        show _ = _
        refine World.cell?_setCell_same _ _ _ (u := .slice none 0 0) ?_
        rw [World.cell?_setCell_other _ _ _ _ (by simp)]; exact r1
      have HDR : Hid (∀ W, Turn [w.heap.size + 1] wr W → DiskRes w W (.agg #[.slice (some ⟨g, 0, none⟩) cs.length gc, .slice none 0 0]) (crashM (dat cs ds) (keepN K))) := fun W hT => by
        have hcm : crashM (dat cs ds) (keepN K) = ⟨nb.map Bs.L, []⟩ := by
          unfold crashM
          rw [if_pos HOK.out, HNr.out]
          simp [dat]
        rw [hcm]
        refine diskres_cells (HKA.out.trans HK1.out) HLr.out hT (fun b hb => ?_) ?_ HFr.out
        · simp at hb
          omega
        · rw [HNr.out]
          exact crash_dok HOK.out HF.out ds.length
      clear hO
      go_wp2_with fail
      have e0 := E0.out
      have e1 := E1.out
      have hT := HT1.out
      have hK := HKF.out
      clear r0 r1 fR E0 E1 HT1 HKF q0 q1
      revert e0 e1 hT hK
      generalize (wr.setCell ⟨w.heap.size + 1, 0, none⟩ (.slice (some ⟨g, 0, none⟩) cs.length gc)).setCell ⟨w.heap.size + 1, 1, none⟩ (.slice none 0 0) = W
      intro e0 e1 hT hK
      refine bodyPost_ret (v := .agg #[.slice (some ⟨g, 0, none⟩) cs.length gc, .slice none 0 0]) (by simp [results, Tryz.results50, go_sem, e0, e1]) rfl ⟨_, rfl, HDR.out W hT, hK⟩
end Go.Proofs.YtmkhlhjggbencaaGreatDoor
