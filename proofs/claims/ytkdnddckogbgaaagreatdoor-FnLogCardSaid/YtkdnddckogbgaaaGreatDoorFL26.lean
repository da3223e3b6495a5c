/- Texts of the verifier, joined: LgC, DrV. -/
import Derived.Test.YtkdnddckogbgaaaGreatDoorFL25
import Derived.Test.YtkdnddckogbgaaaGreatDoorFL23
import Derived.Test.YtkdnddckogbgaaaGreatDoorFL12
namespace Go.Proofs.YtkdnddckogbgaaaGreatDoor
open Go.RowKit Go.Deep
set_option linter.unusedVariables false
set_option maxRecDepth 10000

set_option maxHeartbeats 8000000 in
theorem logadd_spec (ca : Option Addr) (cc : Nat) (cs : List Bs) (da : Option Addr) (dc : Nat) (ds : List Wr) (nx ep : Int) (k y c t m f : Int) (b : Bool) (w : World) (hm : Mem w (dsk ca cs da ds)) (h : DOk cs ds) :
    Calls Tryz.prog 8 #[logV ca cs.length cc da ds.length dc nx ep, evV k y c t m f b] w (AddPost w (dat cs ds) nx ep (evB k y c t m f b) (bodyR k y c t m f b)) := by
  have HKA := hide (Keeps.alloc (Keeps.alloc (Keeps.alloc (Keeps.refl w) (.cells #[.slice ca cs.length cc, .slice da ds.length dc, .int .i64 nx, .int .i64 ep] 28)) (.cells (evCells k y c t m f b) 30)) (.cells #[.slice none 0 0, .slice none 0 0, .int .i64 0, .int .i64 0] 28))
  have HM := hide (hm.kept HKA.out)
  have HDO := hide h
  have hcl := h.c
  have hdl := h.d
  have HLC : Hid ((dat cs ds).cells.length = cs.length ∧ (dat cs ds).dirty.length = ds.length) := by show _ ∧ _; simp [dat]
  have HR := hide (row_new ((w.alloc (.cells #[.slice ca cs.length cc, .slice da ds.length dc, .int .i64 nx, .int .i64 ep] 28)).alloc (.cells (evCells k y c t m f b) 30)) #[.slice none 0 0, .slice none 0 0, .int .i64 0, .int .i64 0] 28)
  have HS : Hid (((w.alloc (.cells #[.slice ca cs.length cc, .slice da ds.length dc, .int .i64 nx, .int .i64 ep] 28)).alloc (.cells (evCells k y c t m f b) 30)).heap.size = w.heap.size + 1 + 1 ∧ (((w.alloc (.cells #[.slice ca cs.length cc, .slice da ds.length dc, .int .i64 nx, .int .i64 ep] 28)).alloc (.cells (evCells k y c t m f b) 30)).alloc (.cells #[.slice none 0 0, .slice none 0 0, .int .i64 0, .int .i64 0] 28)).heap.size = w.heap.size + 1 + 1 + 1) := by show _ ∧ _; exact ⟨by simp, by simp⟩
  rw [HS.out.1] at HR
  have HD : Hid (∀ w', Keeps (((w.alloc (.cells #[.slice ca cs.length cc, .slice da ds.length dc, .int .i64 nx, .int .i64 ep] 28)).alloc (.cells (evCells k y c t m f b) 30)).alloc (.cells #[.slice none 0 0, .slice none 0 0, .int .i64 0, .int .i64 0] 28)) w' → w'.cell? ⟨w.heap.size, 0, none⟩ = some (.slice ca cs.length cc) ∧ w'.cell? ⟨w.heap.size, 1, none⟩ = some (.slice da ds.length dc) ∧ w'.cell? ⟨w.heap.size, 2, none⟩ = some (.int .i64 nx) ∧ w'.cell? ⟨w.heap.size, 3, none⟩ = some (.int .i64 ep)) := by
    have h0 : Keeps (w.alloc (.cells #[.slice ca cs.length cc, .slice da ds.length dc, .int .i64 nx, .int .i64 ep] 28)) (((w.alloc (.cells #[.slice ca cs.length cc, .slice da ds.length dc, .int .i64 nx, .int .i64 ep] 28)).alloc (.cells (evCells k y c t m f b) 30)).alloc (.cells #[.slice none 0 0, .slice none 0 0, .int .i64 0, .int .i64 0] 28)) := Keeps.alloc (Keeps.alloc (Keeps.refl _) _) _
    exact fun w' hk => ⟨(h0.trans hk).cell (by simp), (h0.trans hk).cell (by simp), (h0.trans hk).cell (by simp), (h0.trans hk).cell (by simp)⟩
  have HE : Hid (∀ w', Keeps (((w.alloc (.cells #[.slice ca cs.length cc, .slice da ds.length dc, .int .i64 nx, .int .i64 ep] 28)).alloc (.cells (evCells k y c t m f b) 30)).alloc (.cells #[.slice none 0 0, .slice none 0 0, .int .i64 0, .int .i64 0] 28)) w' → w'.cell? ⟨w.heap.size + 1, 0, none⟩ = some (.int .i64 k) ∧ w'.cell? ⟨w.heap.size + 1, 1, none⟩ = some (.int .i64 y) ∧ w'.cell? ⟨w.heap.size + 1, 2, none⟩ = some (.int .i64 c) ∧ w'.cell? ⟨w.heap.size + 1, 3, none⟩ = some (.int .i64 t) ∧ w'.cell? ⟨w.heap.size + 1, 4, none⟩ = some (.int .i64 m) ∧ w'.cell? ⟨w.heap.size + 1, 5, none⟩ = some (.int .i64 f) ∧ w'.cell? ⟨w.heap.size + 1, 6, none⟩ = some (.bool b)) := by
    have h0 : Keeps ((w.alloc (.cells #[.slice ca cs.length cc, .slice da ds.length dc, .int .i64 nx, .int .i64 ep] 28)).alloc (.cells (evCells k y c t m f b) 30)) (((w.alloc (.cells #[.slice ca cs.length cc, .slice da ds.length dc, .int .i64 nx, .int .i64 ep] 28)).alloc (.cells (evCells k y c t m f b) 30)).alloc (.cells #[.slice none 0 0, .slice none 0 0, .int .i64 0, .int .i64 0] 28)) := Keeps.alloc (Keeps.refl _) _
    have hn := (born_alloc (w.alloc (.cells #[.slice ca cs.length cc, .slice da ds.length dc, .int .i64 nx, .int .i64 ep] 28)) (evCells k y c t m f b) 30).toOwn
    intro w' hk
    have hn2 := hn.kept (h0.trans hk)
    simp only [World.size_alloc] at hn2
    exact ⟨cell_at hn2.mem 0 (by simp), cell_at hn2.mem 1 (by simp), cell_at hn2.mem 2 (by simp), cell_at hn2.mem 3 (by simp), cell_at hn2.mem 4 (by simp), cell_at hn2.mem 5 (by simp), cell_at hn2.mem 6 (by simp)⟩
  have HT := hide (diskok_spec' ca cc cs da dc ds _ HM.out h)
  obtain ⟨lb, hlb⟩ : ∃ lb, dokM (dat cs ds) = lb := ⟨_, rfl⟩
  rw [hlb] at HT
  have HLB := hide hlb
  obtain ⟨eb, heb⟩ : ∃ eb, evB k y c t m f b = eb := ⟨_, rfl⟩
  have HEB := hide heb
  clear hm h heb hlb
  have hk0 := Keeps.refl (((w.alloc (.cells #[.slice ca cs.length cc, .slice da ds.length dc, .int .i64 nx, .int .i64 ep] 28)).alloc (.cells (evCells k y c t m f b) 30)).alloc (.cells #[.slice none 0 0, .slice none 0 0, .int .i64 0, .int .i64 0] 28))
  obtain ⟨d0, d1, d2, d3⟩ := HD.out _ hk0
  obtain ⟨e0, e1, e2, e3, e4, e5, e6⟩ := HE.out _ hk0
  clear hk0
  go_enter Tryz.func8, Tryz.ntmps8
  go_wp2_with fail
  have HSz := hide HS.out.2
  generalize (((w.alloc (.cells #[.slice ca cs.length cc, .slice da ds.length dc, .int .i64 nx, .int .i64 ep] 28)).alloc (.cells (evCells k y c t m f b) 30)).alloc (.cells #[.slice none 0 0, .slice none 0 0, .int .i64 0, .int .i64 0] 28)) = W0 at *
  refine (unhide HT).mono ?_
  rintro x w1 ⟨rfl, hk⟩
  clear d0 d1 d2 d3 e0 e1 e2 e3 e4 e5 e6 HT HS
  obtain ⟨d0, d1, d2, d3⟩ := HD.out _ hk
  obtain ⟨e0, e1, e2, e3, e4, e5, e6⟩ := HE.out _ hk
  replace HR := hide (hk.row HR.out)
  have HK1 := hide hk
  have hz : w.heap.size + 1 + 1 + 1 ≤ w1.heap.size := by have := hk.size; have := HSz.out; omega
  have q0 := HR.out.cell (i := 0) (by decide)
  have q1 := HR.out.cell (i := 1) (by decide)
  have q2 := HR.out.cell (i := 2) (by decide)
  have q3 := HR.out.cell (i := 3) (by decide)
  have g0 := HR.out.frozen 0
  have g1 := HR.out.frozen 1
  have g2 := HR.out.frozen 2
  have g3 := HR.out.frozen 3
  simp only [Array.getD] at q0 q1 q2 q3
  simp at q0 q1 q2 q3
  clear hk
  cases lb
  · go_wp2_with fail
    have r9 := ((((HR.out.set 0 (.slice none 0 0)).set 1 (.slice none 0 0)).set 2 (.int .i64 0)).set 3 (.int .i64 0))
    have c0 := r9.cell (i := 0) (by decide)
    have c1 := r9.cell (i := 1) (by decide)
    have c2 := r9.cell (i := 2) (by decide)
    have c3 := r9.cell (i := 3) (by decide)
    simp at c0 c1 c2 c3
    have HSs : Hid (Turn [w.heap.size + 1 + 1] w1 ((((w1.setCell ⟨w.heap.size + 1 + 1, 0, none⟩ (.slice none 0 0)).setCell ⟨w.heap.size + 1 + 1, 1, none⟩ (.slice none 0 0)).setCell ⟨w.heap.size + 1 + 1, 2, none⟩ (.int .i64 0)).setCell ⟨w.heap.size + 1 + 1, 3, none⟩ (.int .i64 0))) := ((((Turn.set (by simp) _).trans' (Turn.set (by simp) _)).trans' (Turn.set (by simp) _)).trans' (Turn.set (by simp) _))
    clear r9 HR q0 q1 q2 q3 g0 g1 g2 g3
    revert c0 c1 c2 c3 HSs
    generalize World.setCell _ _ _ = W
    intro c0 c1 c2 c3 HSs
    refine bodyPost_ret (v := .tuple #[.agg #[.slice none 0 0, .slice none 0 0, .int .i64 0, .int .i64 0], .int .i64 1]) ?_ rfl (AddPost.no (addC_one (by rw [logB_no (.inl HLB.out), Bool.false_and])) (by decide) ?_)
    · simp [results, Tryz.results8, go_sem, c0, c1, c2, c3]
    · exact HSs.out.keeps (HKA.out.trans HK1.out) (fun b hb => by simp at hb; omega)
  · by_cases h0 : nx < 0
    · go_wp2_with fail
      have r9 := ((((HR.out.set 0 (.slice none 0 0)).set 1 (.slice none 0 0)).set 2 (.int .i64 0)).set 3 (.int .i64 0))
      have c0 := r9.cell (i := 0) (by decide)
      have c1 := r9.cell (i := 1) (by decide)
      have c2 := r9.cell (i := 2) (by decide)
      have c3 := r9.cell (i := 3) (by decide)
      simp at c0 c1 c2 c3
      have HSs : Hid (Turn [w.heap.size + 1 + 1] w1 ((((w1.setCell ⟨w.heap.size + 1 + 1, 0, none⟩ (.slice none 0 0)).setCell ⟨w.heap.size + 1 + 1, 1, none⟩ (.slice none 0 0)).setCell ⟨w.heap.size + 1 + 1, 2, none⟩ (.int .i64 0)).setCell ⟨w.heap.size + 1 + 1, 3, none⟩ (.int .i64 0))) := ((((Turn.set (by simp) _).trans' (Turn.set (by simp) _)).trans' (Turn.set (by simp) _)).trans' (Turn.set (by simp) _))
      clear r9 HR q0 q1 q2 q3 g0 g1 g2 g3
      revert c0 c1 c2 c3 HSs
      generalize World.setCell _ _ _ = W
      intro c0 c1 c2 c3 HSs
      refine bodyPost_ret (v := .tuple #[.agg #[.slice none 0 0, .slice none 0 0, .int .i64 0, .int .i64 0], .int .i64 1]) ?_ rfl (AddPost.no (addC_one (by rw [logB_no (.inr (.inl h0)), Bool.false_and])) (by decide) ?_)
      · simp [results, Tryz.results8, go_sem, c0, c1, c2, c3]
      · exact HSs.out.keeps (HKA.out.trans HK1.out) (fun b hb => by simp at hb; omega)
    · by_cases h1 : (cs.length : Int) < nx
      · go_wp2_with fail
        have r9 := ((((HR.out.set 0 (.slice none 0 0)).set 1 (.slice none 0 0)).set 2 (.int .i64 0)).set 3 (.int .i64 0))
        have c0 := r9.cell (i := 0) (by decide)
        have c1 := r9.cell (i := 1) (by decide)
        have c2 := r9.cell (i := 2) (by decide)
        have c3 := r9.cell (i := 3) (by decide)
        simp at c0 c1 c2 c3
        have HSs : Hid (Turn [w.heap.size + 1 + 1] w1 ((((w1.setCell ⟨w.heap.size + 1 + 1, 0, none⟩ (.slice none 0 0)).setCell ⟨w.heap.size + 1 + 1, 1, none⟩ (.slice none 0 0)).setCell ⟨w.heap.size + 1 + 1, 2, none⟩ (.int .i64 0)).setCell ⟨w.heap.size + 1 + 1, 3, none⟩ (.int .i64 0))) := ((((Turn.set (by simp) _).trans' (Turn.set (by simp) _)).trans' (Turn.set (by simp) _)).trans' (Turn.set (by simp) _))
        clear r9 HR q0 q1 q2 q3 g0 g1 g2 g3
        revert c0 c1 c2 c3 HSs
        generalize World.setCell _ _ _ = W
        intro c0 c1 c2 c3 HSs
        refine bodyPost_ret (v := .tuple #[.agg #[.slice none 0 0, .slice none 0 0, .int .i64 0, .int .i64 0], .int .i64 1]) ?_ rfl (AddPost.no (addC_one (by rw [logB_no (.inr (.inr (.inl (by rw [HLC.out.1]; exact h1)))), Bool.false_and])) (by decide) ?_)
        · simp [results, Tryz.results8, go_sem, c0, c1, c2, c3]
        · exact HSs.out.keeps (HKA.out.trans HK1.out) (fun b hb => by simp at hb; omega)
      · by_cases h2 : ep < 1
        · go_wp2_with fail
          have r9 := ((((HR.out.set 0 (.slice none 0 0)).set 1 (.slice none 0 0)).set 2 (.int .i64 0)).set 3 (.int .i64 0))
          have c0 := r9.cell (i := 0) (by decide)
          have c1 := r9.cell (i := 1) (by decide)
          have c2 := r9.cell (i := 2) (by decide)
          have c3 := r9.cell (i := 3) (by decide)
          simp at c0 c1 c2 c3
          have HSs : Hid (Turn [w.heap.size + 1 + 1] w1 ((((w1.setCell ⟨w.heap.size + 1 + 1, 0, none⟩ (.slice none 0 0)).setCell ⟨w.heap.size + 1 + 1, 1, none⟩ (.slice none 0 0)).setCell ⟨w.heap.size + 1 + 1, 2, none⟩ (.int .i64 0)).setCell ⟨w.heap.size + 1 + 1, 3, none⟩ (.int .i64 0))) := ((((Turn.set (by simp) _).trans' (Turn.set (by simp) _)).trans' (Turn.set (by simp) _)).trans' (Turn.set (by simp) _))
          clear r9 HR q0 q1 q2 q3 g0 g1 g2 g3
          revert c0 c1 c2 c3 HSs
          generalize World.setCell _ _ _ = W
          intro c0 c1 c2 c3 HSs
          refine bodyPost_ret (v := .tuple #[.agg #[.slice none 0 0, .slice none 0 0, .int .i64 0, .int .i64 0], .int .i64 1]) ?_ rfl (AddPost.no (addC_one (by rw [logB_no (.inr (.inr (.inr (.inl h2)))), Bool.false_and])) (by decide) ?_)
          · simp [results, Tryz.results8, go_sem, c0, c1, c2, c3]
          · exact HSs.out.keeps (HKA.out.trans HK1.out) (fun b hb => by simp at hb; omega)
        · by_cases h3 : 16000000 < ep
          · go_wp2_with fail
            have r9 := ((((HR.out.set 0 (.slice none 0 0)).set 1 (.slice none 0 0)).set 2 (.int .i64 0)).set 3 (.int .i64 0))
            have c0 := r9.cell (i := 0) (by decide)
            have c1 := r9.cell (i := 1) (by decide)
            have c2 := r9.cell (i := 2) (by decide)
            have c3 := r9.cell (i := 3) (by decide)
            simp at c0 c1 c2 c3
            have HSs : Hid (Turn [w.heap.size + 1 + 1] w1 ((((w1.setCell ⟨w.heap.size + 1 + 1, 0, none⟩ (.slice none 0 0)).setCell ⟨w.heap.size + 1 + 1, 1, none⟩ (.slice none 0 0)).setCell ⟨w.heap.size + 1 + 1, 2, none⟩ (.int .i64 0)).setCell ⟨w.heap.size + 1 + 1, 3, none⟩ (.int .i64 0))) := ((((Turn.set (by simp) _).trans' (Turn.set (by simp) _)).trans' (Turn.set (by simp) _)).trans' (Turn.set (by simp) _))
            clear r9 HR q0 q1 q2 q3 g0 g1 g2 g3
            revert c0 c1 c2 c3 HSs
            generalize World.setCell _ _ _ = W
            intro c0 c1 c2 c3 HSs
            refine bodyPost_ret (v := .tuple #[.agg #[.slice none 0 0, .slice none 0 0, .int .i64 0, .int .i64 0], .int .i64 1]) ?_ rfl (AddPost.no (addC_one (by rw [logB_no (.inr (.inr (.inr (.inr h3)))), Bool.false_and])) (by decide) ?_)
            · simp [results, Tryz.results8, go_sem, c0, c1, c2, c3]
            · exact HSs.out.keeps (HKA.out.trans HK1.out) (fun b hb => by simp at hb; omega)
          · have HLY : Hid (logB (dat cs ds) nx ep = true) := logB_yes HLB.out (by omega) (by rw [HLC.out.1]; omega) (by omega) (by omega)
            have HT := hide (evok_spec k y c t m f b w1)
            rw [HEB.out] at HT
            go_wp2_with fail
            refine (unhide HT).mono ?_
            rintro x w2 ⟨rfl, hk⟩
            clear d0 d1 d2 d3 e0 e1 e2 e3 e4 e5 e6 q0 q1 q2 q3 g0 g1 g2 g3 HT
            obtain ⟨d0, d1, d2, d3⟩ := HD.out _ (HK1.out.trans hk)
            obtain ⟨e0, e1, e2, e3, e4, e5, e6⟩ := HE.out _ (HK1.out.trans hk)
            replace HR := hide (hk.row HR.out)
            have HK2 := hide (HK1.out.trans hk)
            replace hz : w.heap.size + 1 + 1 + 1 ≤ w2.heap.size := by have := hk.size; omega
            have q0 := HR.out.cell (i := 0) (by decide)
            have q1 := HR.out.cell (i := 1) (by decide)
            have q2 := HR.out.cell (i := 2) (by decide)
            have q3 := HR.out.cell (i := 3) (by decide)
            have g0 := HR.out.frozen 0
            have g1 := HR.out.frozen 1
            have g2 := HR.out.frozen 2
            have g3 := HR.out.frozen 3
            simp only [Array.getD] at q0 q1 q2 q3
            simp at q0 q1 q2 q3
            clear hk
            cases eb
            · go_wp2_with fail
              have r9 := ((((HR.out.set 0 (.slice none 0 0)).set 1 (.slice none 0 0)).set 2 (.int .i64 0)).set 3 (.int .i64 0))
              have c0 := r9.cell (i := 0) (by decide)
              have c1 := r9.cell (i := 1) (by decide)
              have c2 := r9.cell (i := 2) (by decide)
              have c3 := r9.cell (i := 3) (by decide)
              simp at c0 c1 c2 c3
              have HSs : Hid (Turn [w.heap.size + 1 + 1] w2 ((((w2.setCell ⟨w.heap.size + 1 + 1, 0, none⟩ (.slice none 0 0)).setCell ⟨w.heap.size + 1 + 1, 1, none⟩ (.slice none 0 0)).setCell ⟨w.heap.size + 1 + 1, 2, none⟩ (.int .i64 0)).setCell ⟨w.heap.size + 1 + 1, 3, none⟩ (.int .i64 0))) := ((((Turn.set (by simp) _).trans' (Turn.set (by simp) _)).trans' (Turn.set (by simp) _)).trans' (Turn.set (by simp) _))
              clear r9 HR q0 q1 q2 q3 g0 g1 g2 g3
              revert c0 c1 c2 c3 HSs
              generalize World.setCell _ _ _ = W
              intro c0 c1 c2 c3 HSs
              refine bodyPost_ret (v := .tuple #[.agg #[.slice none 0 0, .slice none 0 0, .int .i64 0, .int .i64 0], .int .i64 1]) ?_ rfl (AddPost.no (addC_one (by rw [HEB.out, Bool.and_false])) (by decide) ?_)
              · simp [results, Tryz.results8, go_sem, c0, c1, c2, c3]
              · exact HSs.out.keeps (HKA.out.trans HK2.out) (fun b hb => by simp at hb; omega)
            · have hd6 := (dokM_len HLB.out).2.2
              rw [HLC.out.2] at hd6
              by_cases h5 : nx = (cs.length : Int)
              · go_wp2_with fail
                have r9 := ((((HR.out.set 0 (.slice none 0 0)).set 1 (.slice none 0 0)).set 2 (.int .i64 0)).set 3 (.int .i64 0))
                have c0 := r9.cell (i := 0) (by decide)
                have c1 := r9.cell (i := 1) (by decide)
                have c2 := r9.cell (i := 2) (by decide)
                have c3 := r9.cell (i := 3) (by decide)
                simp at c0 c1 c2 c3
                have HSs : Hid (Turn [w.heap.size + 1 + 1] w2 ((((w2.setCell ⟨w.heap.size + 1 + 1, 0, none⟩ (.slice none 0 0)).setCell ⟨w.heap.size + 1 + 1, 1, none⟩ (.slice none 0 0)).setCell ⟨w.heap.size + 1 + 1, 2, none⟩ (.int .i64 0)).setCell ⟨w.heap.size + 1 + 1, 3, none⟩ (.int .i64 0))) := ((((Turn.set (by simp) _).trans' (Turn.set (by simp) _)).trans' (Turn.set (by simp) _)).trans' (Turn.set (by simp) _))
                clear r9 HR q0 q1 q2 q3 g0 g1 g2 g3
                revert c0 c1 c2 c3 HSs
                generalize World.setCell _ _ _ = W
                intro c0 c1 c2 c3 HSs
                refine bodyPost_ret (v := .tuple #[.agg #[.slice none 0 0, .slice none 0 0, .int .i64 0, .int .i64 0], .int .i64 2]) ?_ rfl (AddPost.no (addC_two HLY.out HEB.out (.inl (by rw [HLC.out.1]; exact h5))) (by decide) ?_)
                · simp [results, Tryz.results8, go_sem, c0, c1, c2, c3]
                · exact HSs.out.keeps (HKA.out.trans HK2.out) (fun b hb => by simp at hb; omega)
              · have hq1 : (nx == (cs.length : Int)) = false := beq_eq_false_iff_ne.2 h5
                by_cases h6 : (600 : Int) ≤ ds.length
                · go_wp2_with fail
                  have r9 := ((((HR.out.set 0 (.slice none 0 0)).set 1 (.slice none 0 0)).set 2 (.int .i64 0)).set 3 (.int .i64 0))
                  have c0 := r9.cell (i := 0) (by decide)
                  have c1 := r9.cell (i := 1) (by decide)
                  have c2 := r9.cell (i := 2) (by decide)
                  have c3 := r9.cell (i := 3) (by decide)
                  simp at c0 c1 c2 c3
                  have HSs : Hid (Turn [w.heap.size + 1 + 1] w2 ((((w2.setCell ⟨w.heap.size + 1 + 1, 0, none⟩ (.slice none 0 0)).setCell ⟨w.heap.size + 1 + 1, 1, none⟩ (.slice none 0 0)).setCell ⟨w.heap.size + 1 + 1, 2, none⟩ (.int .i64 0)).setCell ⟨w.heap.size + 1 + 1, 3, none⟩ (.int .i64 0))) := ((((Turn.set (by simp) _).trans' (Turn.set (by simp) _)).trans' (Turn.set (by simp) _)).trans' (Turn.set (by simp) _))
                  clear r9 HR q0 q1 q2 q3 g0 g1 g2 g3
                  revert c0 c1 c2 c3 HSs
                  generalize World.setCell _ _ _ = W
                  intro c0 c1 c2 c3 HSs
                  refine bodyPost_ret (v := .tuple #[.agg #[.slice none 0 0, .slice none 0 0, .int .i64 0, .int .i64 0], .int .i64 2]) ?_ rfl (AddPost.no (addC_two HLY.out HEB.out (.inr (by rw [HLC.out.2]; omega))) (by decide) ?_)
                  · simp [results, Tryz.results8, go_sem, c0, c1, c2, c3]
                  · exact HSs.out.keeps (HKA.out.trans HK2.out) (fun b hb => by simp at hb; omega)
                · have HT := hide (body_spec k y c t m f b w2)
                  have hq2 : decide ((600 : Int) ≤ ds.length) = false := decide_eq_false h6
                  go_wp2_with fail
                  refine (unhide HT).mono ?_
                  rintro x w3 ⟨v, rfl, ho, hk⟩
                  obtain ⟨ba, bc, rfl, hbn, hbo⟩ := Born.of_owns ho
                  clear d0 d1 d2 d3 e0 e1 e2 e3 e4 e5 e6 q0 q1 q2 q3 g0 g1 g2 g3 HT ho
                  obtain ⟨d0, d1, d2, d3⟩ := HD.out _ (HK2.out.trans hk)
                  obtain ⟨e0, e1, e2, e3, e4, e5, e6⟩ := HE.out _ (HK2.out.trans hk)
                  replace HR := hide (hk.row HR.out)
                  have HK3 := hide (HK2.out.trans hk)
                  replace hz : w.heap.size + 1 + 1 + 1 ≤ w3.heap.size := by have := hk.size; omega
                  have HT := hide (secbytes_spec nx ep ba bc (bodyR k y c t m f b) w3 hbo.toOwn.one hbn.1 (Nat.le_trans (bodyR_length k y c t m f b) (by decide)))
                  clear hk hbn hbo
                  go_wp2_with fail
                  refine (unhide HT).mono ?_
                  rintro x w4 ⟨v, rfl, ho, hk⟩
                  obtain ⟨sa, sc, rfl, hbn, hbo⟩ := Born.of_owns ho
                  clear d0 d1 d2 d3 e0 e1 e2 e3 e4 e5 e6 HT ho
                  obtain ⟨d0, d1, d2, d3⟩ := HD.out _ (HK3.out.trans hk)
                  obtain ⟨e0, e1, e2, e3, e4, e5, e6⟩ := HE.out _ (HK3.out.trans hk)
                  replace HR := hide (hk.row HR.out)
                  have HK4 := hide (HK3.out.trans hk)
                  replace hz : w.heap.size + 1 + 1 + 1 ≤ w4.heap.size := by have := hk.size; omega
                  have HT := hide (diskwrite_spec ca cc cs da dc ds nx sa sc (secR nx ep (bodyR k y c t m f b)) w4 (HM.out.kept HK4.out) HDO.out hbo.toOwn.one hbn.1 (Nat.le_trans (secR_length _ _ _) (by decide)))
                  clear hk hbn hbo
                  go_wp2_with fail
                  refine (unhide HT).mono ?_
                  rintro x w5 ⟨v, rfl, hr, hk⟩
                  obtain ⟨ca3, cc3, cs3, da3, dc3, ds3, rfl, he, hok, hna, hnd, hb⟩ := hr
                  clear d0 d1 d2 d3 e0 e1 e2 e3 e4 e5 e6 HT
                  obtain ⟨d0, d1, d2, d3⟩ := HD.out _ ((HK4.out.trans hk).alloc (.cells #[.slice ca3 cs3.length cc3, .slice da3 ds3.length dc3] 26))
                  obtain ⟨e0, e1, e2, e3, e4, e5, e6⟩ := HE.out _ ((HK4.out.trans hk).alloc (.cells #[.slice ca3 cs3.length cc3, .slice da3 ds3.length dc3] 26))
                  replace HR := hide (((Keeps.refl w5).alloc (.cells #[.slice ca3 cs3.length cc3, .slice da3 ds3.length dc3] 26)).row (hk.row HR.out))
                  have HK5 := hide ((HK4.out.trans hk).alloc (.cells #[.slice ca3 cs3.length cc3, .slice da3 ds3.length dc3] 26))
                  replace hz : w.heap.size + 1 + 1 + 1 ≤ w5.heap.size := by have := hk.size; omega
                  have q0 := HR.out.cell (i := 0) (by decide)
                  have q1 := HR.out.cell (i := 1) (by decide)
                  have q2 := HR.out.cell (i := 2) (by decide)
                  have q3 := HR.out.cell (i := 3) (by decide)
                  have g0 := HR.out.frozen 0
                  have g1 := HR.out.frozen 1
                  have g2 := HR.out.frozen 2
                  have g3 := HR.out.frozen 3
                  simp only [Array.getD] at q0 q1 q2 q3
                  simp at q0 q1 q2 q3
                  have HBN : Hid (∀ b ∈ fp (dsk ca3 cs3 da3 ds3), w.heap.size + 1 + 1 + 1 ≤ b) := fun b hb1 => by have := hb.new b hb1; have := HK4.out.size; have := HSz.out; omega
                  have HB := hide ((hb.kept ((Keeps.refl w5).alloc (.cells #[.slice ca3 cs3.length cc3, .slice da3 ds3.length dc3] 26))).old (HKA.out.trans HK4.out))
                  have HF := hide (⟨he, hok, hna, hnd⟩ : _ ∧ _ ∧ _ ∧ _)
                  clear hk hb he hok hna hnd
                  go_wp2_with fail
                  have r9 := ((((HR.out.set 0 (.slice ca3 cs3.length cc3)).set 1 (.slice da3 ds3.length dc3)).set 2 (.int .i64 (nx + 1))).set 3 (.int .i64 ep))
                  have c0 := r9.cell (i := 0) (by decide)
                  have c1 := r9.cell (i := 1) (by decide)
                  have c2 := r9.cell (i := 2) (by decide)
                  have c3 := r9.cell (i := 3) (by decide)
                  simp at c0 c1 c2 c3
                  have HSs : Hid (Turn [w.heap.size + 1 + 1] (w5.alloc (.cells #[.slice ca3 cs3.length cc3, .slice da3 ds3.length dc3] 26)) (((((w5.alloc (.cells #[.slice ca3 cs3.length cc3, .slice da3 ds3.length dc3] 26)).setCell ⟨w.heap.size + 1 + 1, 0, none⟩ (.slice ca3 cs3.length cc3)).setCell ⟨w.heap.size + 1 + 1, 1, none⟩ (.slice da3 ds3.length dc3)).setCell ⟨w.heap.size + 1 + 1, 2, none⟩ (.int .i64 (nx + 1))).setCell ⟨w.heap.size + 1 + 1, 3, none⟩ (.int .i64 ep))) := ((((Turn.set (by simp) _).trans' (Turn.set (by simp) _)).trans' (Turn.set (by simp) _)).trans' (Turn.set (by simp) _))
                  clear r9 HR q0 q1 q2 q3 g0 g1 g2 g3
                  revert c0 c1 c2 c3 HSs
                  generalize World.setCell _ _ _ = W
                  intro c0 c1 c2 c3 HSs
                  refine bodyPost_ret (v := .tuple #[logV ca3 cs3.length cc3 da3 ds3.length dc3 (nx + 1) ep, .int .i64 0]) ?_ rfl (AddPost.yes (addC_zero HLY.out HEB.out (fun hx => by rw [HLC.out.1, HLC.out.2] at hx; omega)) ⟨ca3, cc3, cs3, da3, dc3, ds3, rfl, HF.out.1, HF.out.2.1, HF.out.2.2.1, HF.out.2.2.2, ?_⟩ ?_)
                  · simp [results, Tryz.results8, go_sem, c0, c1, c2, c3]
                  · refine HB.out.turn HSs.out ?_
                    intro b hb hx
                    have := HBN.out b hb
                    simp at hx
                    omega
                  · refine HSs.out.keeps (HKA.out.trans HK5.out) ?_
                    intro b hb
                    simp at hb
                    omega
end Go.Proofs.YtkdnddckogbgaaaGreatDoor
namespace Go.Proofs.YtkdnddckogbgaaaGreatDoor
open Go.RowKit Go.Deep
set_option linter.unusedVariables false
set_option linter.unusedSimpArgs false
set_option maxRecDepth 10000
def evRow (k y c t m f : Int) (b : Bool) (i : Nat) : Value := if i = 0 then .int .i64 k else if i = 1 then .int .i64 y else if i = 2 then .int .i64 c else if i = 3 then .int .i64 t else if i = 4 then .int .i64 m else if i = 5 then .int .i64 f else .bool b
def hasRow (h0 h1 h2 h3 h4 h5 : Bool) (i : Nat) : Value := if i = 0 then .bool h0 else if i = 1 then .bool h1 else if i = 2 then .bool h2 else if i = 3 then .bool h3 else if i = 4 then .bool h4 else .bool h5
theorem ev_row (k y c t m f : Int) (b : Bool) : ∀ i, i < (evCells k y c t m f b).size → (evCells k y c t m f b)[i]? = some (evRow k y c t m f b i)
  | 0, _ => rfl
  | 1, _ => rfl
  | 2, _ => rfl
  | 3, _ => rfl
  | 4, _ => rfl
  | 5, _ => rfl
  | 6, _ => rfl
theorem has_row (h0 h1 h2 h3 h4 h5 : Bool) : ∀ i, i < (#[Value.bool h0, .bool h1, .bool h2, .bool h3, .bool h4, .bool h5] : Array Value).size → (#[Value.bool h0, .bool h1, .bool h2, .bool h3, .bool h4, .bool h5] : Array Value)[i]? = some (hasRow h0 h1 h2 h3 h4 h5 i)
  | 0, _ => rfl
  | 1, _ => rfl
  | 2, _ => rfl
  | 3, _ => rfl
  | 4, _ => rfl
  | 5, _ => rfl
/-- The draw of an event under way: its variable, the table's row, the result. -/
structure EvSt (w : World) (B0 B : Nat) (a : Option Addr) (len cap : Nat) (R E H : Nat) (k y c t m f : Int) (b : Bool) (h0 h1 h2 h3 h4 h5 : Bool) (W : World) : Prop where
  ev : W.rowIs E 30 7 (evRow k y c t m f b)
  has : W.rowIs H 4 6 (hasRow h0 h1 h2 h3 h4 h5)
  res : W.rowIs R 30 7 (evRow 0 0 0 0 0 0 false)
  dr : Dr B0 B a len cap W
  g : w.grownBy W (some B)
  eh : H ≠ E
  er : R ≠ E
  hr : R ≠ H
  ne : w.heap.size ≤ E
  nh : w.heap.size ≤ H
  nr : w.heap.size ≤ R
  hb : B < w.heap.size
  h0 : B0 ≤ B
section
variable {w W W' : World} {B0 B : Nat} {a : Option Addr} {len cap R E H : Nat} {k y c t m f : Int} {b : Bool} {h0 h1 h2 h3 h4 h5 : Bool}
theorem EvSt.step (s : EvSt w B0 B a len cap R E H k y c t m f b h0 h1 h2 h3 h4 h5 W) (d : Dr B0 B a len cap W') (g : W.grownBy W' (some B)) : EvSt w B0 B a len cap R E H k y c t m f b h0 h1 h2 h3 h4 h5 W' :=
  ⟨grown_row g (by have := s.ne; have := s.hb; simp; omega) s.ev, grown_row g (by have := s.nh; have := s.hb; simp; omega) s.has, grown_row g (by have := s.nr; have := s.hb; simp; omega) s.res, d, s.g.trans g, s.eh, s.er, s.hr, s.ne, s.nh, s.nr, s.hb, s.h0⟩
theorem EvSt.drew (s : EvSt w B0 B a len cap R E H k y c t m f b h0 h1 h2 h3 h4 h5 W) : EvSt w B0 B a len cap R E H k y c t m f b h0 h1 h2 h3 h4 h5 W.drew :=
  s.step (s.dr.grown (row := none) ⟨rfl, rfl, rfl, Nat.le_refl _, fun _ _ _ => rfl⟩ (by simp) (by simp)) ⟨rfl, rfl, rfl, Nat.le_refl _, fun _ _ _ => rfl⟩
theorem ev_congr {f g : Nat → Value} (h0 : f 0 = g 0) (h1 : f 1 = g 1) (h2 : f 2 = g 2) (h3 : f 3 = g 3) (h4 : f 4 = g 4) (h5 : f 5 = g 5) (h6 : f 6 = g 6) : ∀ i, i < 7 → f i = g i
  | 0, _ => h0
  | 1, _ => h1
  | 2, _ => h2
  | 3, _ => h3
  | 4, _ => h4
  | 5, _ => h5
  | 6, _ => h6
theorem EvSt.set1 (s : EvSt w B0 B a len cap R E H k y c t m f b h0 h1 h2 h3 h4 h5 W) (z : Int) : EvSt w B0 B a len cap R E H k z c t m f b h0 h1 h2 h3 h4 h5 (W.setCell ⟨E, 1, none⟩ (.int .i64 z)) :=
  ⟨(s.ev.set 1 (.int .i64 z)).congr (ev_congr rfl rfl rfl rfl rfl rfl rfl), s.has.setOther (a := ⟨E, 1, none⟩) s.eh (.int .i64 z), s.res.setOther (a := ⟨E, 1, none⟩) s.er (.int .i64 z), s.dr.set (by have := s.ne; have := s.hb; omega) (by have := s.ne; have := s.hb; have := s.h0; omega) _, grown_new s.g s.ne, s.eh, s.er, s.hr, s.ne, s.nh, s.nr, s.hb, s.h0⟩
theorem EvSt.set2 (s : EvSt w B0 B a len cap R E H k y c t m f b h0 h1 h2 h3 h4 h5 W) (z : Int) : EvSt w B0 B a len cap R E H k y z t m f b h0 h1 h2 h3 h4 h5 (W.setCell ⟨E, 2, none⟩ (.int .i64 z)) :=
  ⟨(s.ev.set 2 (.int .i64 z)).congr (ev_congr rfl rfl rfl rfl rfl rfl rfl), s.has.setOther (a := ⟨E, 2, none⟩) s.eh (.int .i64 z), s.res.setOther (a := ⟨E, 2, none⟩) s.er (.int .i64 z), s.dr.set (by have := s.ne; have := s.hb; omega) (by have := s.ne; have := s.hb; have := s.h0; omega) _, grown_new s.g s.ne, s.eh, s.er, s.hr, s.ne, s.nh, s.nr, s.hb, s.h0⟩
theorem EvSt.set3 (s : EvSt w B0 B a len cap R E H k y c t m f b h0 h1 h2 h3 h4 h5 W) (z : Int) : EvSt w B0 B a len cap R E H k y c z m f b h0 h1 h2 h3 h4 h5 (W.setCell ⟨E, 3, none⟩ (.int .i64 z)) :=
  ⟨(s.ev.set 3 (.int .i64 z)).congr (ev_congr rfl rfl rfl rfl rfl rfl rfl), s.has.setOther (a := ⟨E, 3, none⟩) s.eh (.int .i64 z), s.res.setOther (a := ⟨E, 3, none⟩) s.er (.int .i64 z), s.dr.set (by have := s.ne; have := s.hb; omega) (by have := s.ne; have := s.hb; have := s.h0; omega) _, grown_new s.g s.ne, s.eh, s.er, s.hr, s.ne, s.nh, s.nr, s.hb, s.h0⟩
theorem EvSt.set4 (s : EvSt w B0 B a len cap R E H k y c t m f b h0 h1 h2 h3 h4 h5 W) (z : Int) : EvSt w B0 B a len cap R E H k y c t z f b h0 h1 h2 h3 h4 h5 (W.setCell ⟨E, 4, none⟩ (.int .i64 z)) :=
  ⟨(s.ev.set 4 (.int .i64 z)).congr (ev_congr rfl rfl rfl rfl rfl rfl rfl), s.has.setOther (a := ⟨E, 4, none⟩) s.eh (.int .i64 z), s.res.setOther (a := ⟨E, 4, none⟩) s.er (.int .i64 z), s.dr.set (by have := s.ne; have := s.hb; omega) (by have := s.ne; have := s.hb; have := s.h0; omega) _, grown_new s.g s.ne, s.eh, s.er, s.hr, s.ne, s.nh, s.nr, s.hb, s.h0⟩
theorem EvSt.set5 (s : EvSt w B0 B a len cap R E H k y c t m f b h0 h1 h2 h3 h4 h5 W) (z : Int) : EvSt w B0 B a len cap R E H k y c t m z b h0 h1 h2 h3 h4 h5 (W.setCell ⟨E, 5, none⟩ (.int .i64 z)) :=
  ⟨(s.ev.set 5 (.int .i64 z)).congr (ev_congr rfl rfl rfl rfl rfl rfl rfl), s.has.setOther (a := ⟨E, 5, none⟩) s.eh (.int .i64 z), s.res.setOther (a := ⟨E, 5, none⟩) s.er (.int .i64 z), s.dr.set (by have := s.ne; have := s.hb; omega) (by have := s.ne; have := s.hb; have := s.h0; omega) _, grown_new s.g s.ne, s.eh, s.er, s.hr, s.ne, s.nh, s.nr, s.hb, s.h0⟩
theorem EvSt.set6 (s : EvSt w B0 B a len cap R E H k y c t m f b h0 h1 h2 h3 h4 h5 W) (z : Bool) : EvSt w B0 B a len cap R E H k y c t m f z h0 h1 h2 h3 h4 h5 (W.setCell ⟨E, 6, none⟩ (.bool z)) :=
  ⟨(s.ev.set 6 (.bool z)).congr (ev_congr rfl rfl rfl rfl rfl rfl rfl), s.has.setOther (a := ⟨E, 6, none⟩) s.eh (.bool z), s.res.setOther (a := ⟨E, 6, none⟩) s.er (.bool z), s.dr.set (by have := s.ne; have := s.hb; omega) (by have := s.ne; have := s.hb; have := s.h0; omega) _, grown_new s.g s.ne, s.eh, s.er, s.hr, s.ne, s.nh, s.nr, s.hb, s.h0⟩
theorem EvSt.e0 (s : EvSt w B0 B a len cap R E H k y c t m f b h0 h1 h2 h3 h4 h5 W) : W.cell? ⟨E, 0, none⟩ = some (.int .i64 k) := s.ev.cell (i := 0) (by decide)
theorem EvSt.r0 (s : EvSt w B0 B a len cap R E H k y c t m f b h0 h1 h2 h3 h4 h5 W) : W.cell? ⟨R, 0, none⟩ = some (.int .i64 0) := s.res.cell (i := 0) (by decide)
theorem EvSt.e1 (s : EvSt w B0 B a len cap R E H k y c t m f b h0 h1 h2 h3 h4 h5 W) : W.cell? ⟨E, 1, none⟩ = some (.int .i64 y) := s.ev.cell (i := 1) (by decide)
theorem EvSt.r1 (s : EvSt w B0 B a len cap R E H k y c t m f b h0 h1 h2 h3 h4 h5 W) : W.cell? ⟨R, 1, none⟩ = some (.int .i64 0) := s.res.cell (i := 1) (by decide)
theorem EvSt.e2 (s : EvSt w B0 B a len cap R E H k y c t m f b h0 h1 h2 h3 h4 h5 W) : W.cell? ⟨E, 2, none⟩ = some (.int .i64 c) := s.ev.cell (i := 2) (by decide)
theorem EvSt.r2 (s : EvSt w B0 B a len cap R E H k y c t m f b h0 h1 h2 h3 h4 h5 W) : W.cell? ⟨R, 2, none⟩ = some (.int .i64 0) := s.res.cell (i := 2) (by decide)
theorem EvSt.e3 (s : EvSt w B0 B a len cap R E H k y c t m f b h0 h1 h2 h3 h4 h5 W) : W.cell? ⟨E, 3, none⟩ = some (.int .i64 t) := s.ev.cell (i := 3) (by decide)
theorem EvSt.r3 (s : EvSt w B0 B a len cap R E H k y c t m f b h0 h1 h2 h3 h4 h5 W) : W.cell? ⟨R, 3, none⟩ = some (.int .i64 0) := s.res.cell (i := 3) (by decide)
theorem EvSt.e4 (s : EvSt w B0 B a len cap R E H k y c t m f b h0 h1 h2 h3 h4 h5 W) : W.cell? ⟨E, 4, none⟩ = some (.int .i64 m) := s.ev.cell (i := 4) (by decide)
theorem EvSt.r4 (s : EvSt w B0 B a len cap R E H k y c t m f b h0 h1 h2 h3 h4 h5 W) : W.cell? ⟨R, 4, none⟩ = some (.int .i64 0) := s.res.cell (i := 4) (by decide)
theorem EvSt.e5 (s : EvSt w B0 B a len cap R E H k y c t m f b h0 h1 h2 h3 h4 h5 W) : W.cell? ⟨E, 5, none⟩ = some (.int .i64 f) := s.ev.cell (i := 5) (by decide)
theorem EvSt.r5 (s : EvSt w B0 B a len cap R E H k y c t m f b h0 h1 h2 h3 h4 h5 W) : W.cell? ⟨R, 5, none⟩ = some (.int .i64 0) := s.res.cell (i := 5) (by decide)
theorem EvSt.e6 (s : EvSt w B0 B a len cap R E H k y c t m f b h0 h1 h2 h3 h4 h5 W) : W.cell? ⟨E, 6, none⟩ = some (.bool b) := s.ev.cell (i := 6) (by decide)
theorem EvSt.r6 (s : EvSt w B0 B a len cap R E H k y c t m f b h0 h1 h2 h3 h4 h5 W) : W.cell? ⟨R, 6, none⟩ = some (.bool false) := s.res.cell (i := 6) (by decide)
theorem EvSt.h0' (s : EvSt w B0 B a len cap R E H k y c t m f b h0 h1 h2 h3 h4 h5 W) : W.cell? ⟨H, 0, none⟩ = some (.bool h0) := s.has.cell (i := 0) (by decide)
theorem EvSt.h1' (s : EvSt w B0 B a len cap R E H k y c t m f b h0 h1 h2 h3 h4 h5 W) : W.cell? ⟨H, 1, none⟩ = some (.bool h1) := s.has.cell (i := 1) (by decide)
theorem EvSt.h2' (s : EvSt w B0 B a len cap R E H k y c t m f b h0 h1 h2 h3 h4 h5 W) : W.cell? ⟨H, 2, none⟩ = some (.bool h2) := s.has.cell (i := 2) (by decide)
theorem EvSt.h3' (s : EvSt w B0 B a len cap R E H k y c t m f b h0 h1 h2 h3 h4 h5 W) : W.cell? ⟨H, 3, none⟩ = some (.bool h3) := s.has.cell (i := 3) (by decide)
theorem EvSt.h4' (s : EvSt w B0 B a len cap R E H k y c t m f b h0 h1 h2 h3 h4 h5 W) : W.cell? ⟨H, 4, none⟩ = some (.bool h4) := s.has.cell (i := 4) (by decide)
theorem EvSt.h5' (s : EvSt w B0 B a len cap R E H k y c t m f b h0 h1 h2 h3 h4 h5 W) : W.cell? ⟨H, 5, none⟩ = some (.bool h5) := s.has.cell (i := 5) (by decide)
/-- The result's cells are written. -/
theorem EvSt.fin (s : EvSt w B0 B a len cap R E H k y c t m f b h0 h1 h2 h3 h4 h5 W) {V : World} (hV : V = (((((((W.setCell ⟨R, 0, none⟩ (.int .i64 k)).setCell ⟨R, 1, none⟩ (.int .i64 y)).setCell ⟨R, 2, none⟩ (.int .i64 c)).setCell ⟨R, 3, none⟩ (.int .i64 t)).setCell ⟨R, 4, none⟩ (.int .i64 m)).setCell ⟨R, 5, none⟩ (.int .i64 f)).setCell ⟨R, 6, none⟩ (.bool b))) : (V.cell? ⟨R, 0, none⟩ = some (.int .i64 k) ∧ V.cell? ⟨R, 1, none⟩ = some (.int .i64 y) ∧ V.cell? ⟨R, 2, none⟩ = some (.int .i64 c) ∧ V.cell? ⟨R, 3, none⟩ = some (.int .i64 t) ∧ V.cell? ⟨R, 4, none⟩ = some (.int .i64 m) ∧ V.cell? ⟨R, 5, none⟩ = some (.int .i64 f) ∧ V.cell? ⟨R, 6, none⟩ = some (.bool b)) ∧ Dr B0 B a len cap V ∧ w.grownBy V (some B) := by
  subst hV
  have r : ((((((((W.setCell ⟨R, 0, none⟩ (.int .i64 k)).setCell ⟨R, 1, none⟩ (.int .i64 y)).setCell ⟨R, 2, none⟩ (.int .i64 c)).setCell ⟨R, 3, none⟩ (.int .i64 t)).setCell ⟨R, 4, none⟩ (.int .i64 m)).setCell ⟨R, 5, none⟩ (.int .i64 f)).setCell ⟨R, 6, none⟩ (.bool b))).rowIs R 30 7 (evRow k y c t m f b) := ((((((((s.res.set 0 (.int .i64 k)).set 1 (.int .i64 y)).set 2 (.int .i64 c)).set 3 (.int .i64 t)).set 4 (.int .i64 m)).set 5 (.int .i64 f)).set 6 (.bool b))).congr (ev_congr rfl rfl rfl rfl rfl rfl rfl)
  exact ⟨⟨r.cell (i := 0) (by decide), r.cell (i := 1) (by decide), r.cell (i := 2) (by decide), r.cell (i := 3) (by decide), r.cell (i := 4) (by decide), r.cell (i := 5) (by decide), r.cell (i := 6) (by decide)⟩, (((((((s.dr.set (by have := s.nr; have := s.hb; omega) (by have := s.nr; have := s.hb; have := s.h0; omega) _).set (by have := s.nr; have := s.hb; omega) (by have := s.nr; have := s.hb; have := s.h0; omega) _).set (by have := s.nr; have := s.hb; omega) (by have := s.nr; have := s.hb; have := s.h0; omega) _).set (by have := s.nr; have := s.hb; omega) (by have := s.nr; have := s.hb; have := s.h0; omega) _).set (by have := s.nr; have := s.hb; omega) (by have := s.nr; have := s.hb; have := s.h0; omega) _).set (by have := s.nr; have := s.hb; omega) (by have := s.nr; have := s.hb; have := s.h0; omega) _).set (by have := s.nr; have := s.hb; omega) (by have := s.nr; have := s.hb; have := s.h0; omega) _), (grown_new (grown_new (grown_new (grown_new (grown_new (grown_new (grown_new s.g s.nr) s.nr) s.nr) s.nr) s.nr) s.nr) s.nr)⟩
end
/-- What the table says, of some kind. -/
theorem has_all {k : Int} (h0 : 1 ≤ k) (h1 : k ≤ 11) : (∀ w, Calls Tryz.prog 73 #[.int .i64 k] w (hasPost false false false true false false w)) ∨ (∀ w, Calls Tryz.prog 73 #[.int .i64 k] w (hasPost false true false true true false w)) ∨ (∀ w, Calls Tryz.prog 73 #[.int .i64 k] w (hasPost false true false false true false w)) ∨ (∀ w, Calls Tryz.prog 73 #[.int .i64 k] w (hasPost true true true true false true w)) ∨ (∀ w, Calls Tryz.prog 73 #[.int .i64 k] w (hasPost true true true true true false w)) ∨ (∀ w, Calls Tryz.prog 73 #[.int .i64 k] w (hasPost false false false false false false w)) ∨ (∀ w, Calls Tryz.prog 73 #[.int .i64 k] w (hasPost true false false false false false w)) := by
  have h : k = 1 ∨ k = 2 ∨ k = 3 ∨ k = 4 ∨ k = 5 ∨ k = 6 ∨ k = 7 ∨ k = 8 ∨ k = 9 ∨ k = 10 ∨ k = 11 := by omega
  rcases h with rfl | rfl | rfl | rfl | rfl | rfl | rfl | rfl | rfl | rfl | rfl
  · exact .inl has_1
  · exact .inr (.inl has_2)
  · exact .inr (.inr (.inl has_3))
  · exact .inr (.inl has_4)
  · exact .inr (.inr (.inr (.inl has_5)))
  · exact .inr (.inr (.inr (.inr (.inr (.inr has_6)))))
  · exact .inr (.inr (.inr (.inr (.inr (.inr has_7)))))
  · exact .inr (.inr (.inr (.inr (.inr (.inl has_8)))))
  · exact .inr (.inr (.inr (.inr (.inl has_9))))
  · exact .inr (.inr (.inr (.inr (.inr (.inr has_10)))))
  · exact .inr (.inr (.inr (.inr (.inr (.inr has_11)))))
/-- An event. -/
def IsEv (e : Ending) : Prop := ∃ (k y c t m f : Int) (b : Bool), e = .returned (evV k y c t m f b)
theorem isEv {k y c t m f : Int} {b : Bool} : IsEv (.returned (evV k y c t m f b)) := ⟨k, y, c, t, m, f, b, rfl⟩
end Go.Proofs.YtkdnddckogbgaaaGreatDoor
