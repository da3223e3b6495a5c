/- LogSync. -/
import Derived.Test.YtmkhlhjggbencaaLgG
namespace Go.Proofs.Ytmkhlhjggbencaa
open Go.RowKit Go.Deep
set_option linter.unusedVariables false
set_option maxRecDepth 10000

/-- What syncing makes of a disk; a log whose disk isn't right leaves nothing. -/
def syncM (m : DkM) : DkM := if dokM m = true then crashM m (fun _ => 128) else noM
def syncN (m : DkM) (n : Int) : Int := if dokM m = true then n else 0
set_option maxHeartbeats 4000000 in
theorem logsync_spec (ca : Option Addr) (cc : Nat) (cs : List Bs) (da : Option Addr) (dc : Nat) (ds : List Wr) (nx ep : Int) (w : World) (hm : Mem w (dsk ca cs da ds)) (h : DOk cs ds) :
    Calls Try.prog 13 #[logV ca cs.length cc da ds.length dc nx ep] w fun e w' => ∃ v, e = .returned v ∧ LogRes w w' v (syncM (dat cs ds)) (syncN (dat cs ds) nx) (syncN (dat cs ds) ep) ∧ Keeps w w' := by
  have HKA := hide (Keeps.alloc (Keeps.alloc (Keeps.refl w) (.cells #[.slice ca cs.length cc, .slice da ds.length dc, .int .i64 nx, .int .i64 ep] 36)) (.cells #[.slice none 0 0, .slice none 0 0, .int .i64 0, .int .i64 0] 36))
  have HM := hide (hm.kept HKA.out)
  have HDO := hide h
  have HT := hide (diskok_spec' ca cc cs da dc ds _ HM.out h)
  have HR := hide (row_new (w.alloc (.cells #[.slice ca cs.length cc, .slice da ds.length dc, .int .i64 nx, .int .i64 ep] 36)) #[.slice none 0 0, .slice none 0 0, .int .i64 0, .int .i64 0] 36)
  have HS : Hid ((w.alloc (.cells #[.slice ca cs.length cc, .slice da ds.length dc, .int .i64 nx, .int .i64 ep] 36)).heap.size = w.heap.size + 1 ∧ ((w.alloc (.cells #[.slice ca cs.length cc, .slice da ds.length dc, .int .i64 nx, .int .i64 ep] 36)).alloc (.cells #[.slice none 0 0, .slice none 0 0, .int .i64 0, .int .i64 0] 36)).heap.size = w.heap.size + 1 + 1) := by show _ ∧ _; exact ⟨by simp, by simp⟩
  rw [HS.out.1] at HR
  have HD : Hid (∀ w', Keeps ((w.alloc (.cells #[.slice ca cs.length cc, .slice da ds.length dc, .int .i64 nx, .int .i64 ep] 36)).alloc (.cells #[.slice none 0 0, .slice none 0 0, .int .i64 0, .int .i64 0] 36)) w' → w'.cell? ⟨w.heap.size, 0, none⟩ = some (.slice ca cs.length cc) ∧ w'.cell? ⟨w.heap.size, 1, none⟩ = some (.slice da ds.length dc) ∧ w'.cell? ⟨w.heap.size, 2, none⟩ = some (.int .i64 nx) ∧ w'.cell? ⟨w.heap.size, 3, none⟩ = some (.int .i64 ep)) :=
    fun w' hk => ⟨hk.cell (by simp), hk.cell (by simp), hk.cell (by simp), hk.cell (by simp)⟩
  obtain ⟨b, hbb⟩ : ∃ b, dokM (dat cs ds) = b := ⟨_, rfl⟩
  rw [hbb] at HT
  have HBB := hide hbb
  clear hm h hbb
  go_enter Try.func13, Try.ntmps13
  go_wp2_with fail
  have HSz := hide HS.out.2
  generalize ((w.alloc (.cells #[.slice ca cs.length cc, .slice da ds.length dc, .int .i64 nx, .int .i64 ep] 36)).alloc (.cells #[.slice none 0 0, .slice none 0 0, .int .i64 0, .int .i64 0] 36)) = W0 at *
  refine (unhide HT).mono ?_
  rintro x w1 ⟨rfl, hk⟩
  obtain ⟨d0, d1, d2, d3⟩ := HD.out _ hk
  replace HR := hide (hk.row HR.out)
  have HK1 := hide hk
  have hz : w.heap.size + 1 + 1 ≤ w1.heap.size := by have := hk.size; have := HSz.out; omega
  have q0 := HR.out.cell (i := 0) (by decide)
  have q1 := HR.out.cell (i := 1) (by decide)
  have q2 := HR.out.cell (i := 2) (by decide)
  have q3 := HR.out.cell (i := 3) (by decide)
  have g0 := HR.out.frozen 0
  have g1 := HR.out.frozen 1
  have g2 := HR.out.frozen 2
  have g3 := HR.out.frozen 3
  simp only [Array.getD] at q0 q1 q2 q3
  simp at q0 q1 q2 q3
  clear hk HT HS
  cases b
  · go_wp2_with fail
    have r9 := ((((HR.out.set 0 (.slice none 0 0)).set 1 (.slice none 0 0)).set 2 (.int .i64 0)).set 3 (.int .i64 0))
    have c0 := r9.cell (i := 0) (by decide)
    have c1 := r9.cell (i := 1) (by decide)
    have c2 := r9.cell (i := 2) (by decide)
    have c3 := r9.cell (i := 3) (by decide)
    simp at c0 c1 c2 c3
    have HSs : Hid (Turn [w.heap.size + 1] w1 ((((w1.setCell ⟨w.heap.size + 1, 0, none⟩ (.slice none 0 0)).setCell ⟨w.heap.size + 1, 1, none⟩ (.slice none 0 0)).setCell ⟨w.heap.size + 1, 2, none⟩ (.int .i64 0)).setCell ⟨w.heap.size + 1, 3, none⟩ (.int .i64 0))) := ((((Turn.set (by simp) _).trans' (Turn.set (by simp) _)).trans' (Turn.set (by simp) _)).trans' (Turn.set (by simp) _))
    clear r9 HR q0 q1 q2 q3 g0 g1 g2 g3
    revert c0 c1 c2 c3 HSs
    generalize World.setCell _ _ _ = W
    intro c0 c1 c2 c3 HSs
    refine bodyPost_ret (v := .agg #[.slice none 0 0, .slice none 0 0, .int .i64 0, .int .i64 0]) ?_ rfl ⟨_, rfl, ?_, ?_⟩
    · simp [results, Try.results13, go_sem, c0, c1, c2, c3]
    · unfold syncM syncN
      rw [HBB.out]
      exact LogRes.none _ _
    · refine HSs.out.keeps (HKA.out.trans HK1.out) ?_
      intro b hb
      simp at hb
      omega
  · have HT2 := hide (fun w' (hk : Keeps W0 w') => disksync_spec ca cc cs da dc ds w' (HM.out.kept hk) HDO.out)
    clear d0 d1 d2 d3 q0 q1 q2 q3 g0 g1 g2 g3
    obtain ⟨d0, d1, d2, d3⟩ := HD.out _ HK1.out
    go_wp2_with fail
    go_region_held3 (fun w' => w'.cell? ⟨w.heap.size, 0, none⟩ = some (.slice ca cs.length cc) ∧ w'.cell? ⟨w.heap.size, 1, none⟩ = some (.slice da ds.length dc) ∧ w'.cell? ⟨w.heap.size, 2, none⟩ = some (.int .i64 nx) ∧ w'.cell? ⟨w.heap.size, 3, none⟩ = some (.int .i64 ep)) (go_keep)
      (first
        | (go_at_call 28
           refine (unhide HT2 _ (HK1.out.trans (Keeps.refl w1).drew)).mono ?_
           rintro x w3 ⟨v, rfl, hr, hk⟩
           obtain ⟨ca2, cc2, cs2, da2, dc2, ds2, rfl, he, hok, hna, hnd, hb⟩ := hr
           have HB := hide (hb.old ((HKA.out.trans HK1.out).drew))
           have HF := hide (⟨he, hok, hna, hnd⟩ : _ ∧ _ ∧ _ ∧ _)
           have hk1 := (Keeps.refl w1).drew.trans hk
           replace HR := hide (hk1.row HR.out)
           have HK3 := hide (HK1.out.trans hk1)
           have HBN : Hid (∀ b ∈ fp (dsk ca2 cs2 da2 ds2), w.heap.size + 1 + 1 ≤ b) := fun b hb1 => by have := hb.new b hb1; simp at this; omega
           have hz3 : w.heap.size + 1 + 1 ≤ w3.heap.size := by have := hk1.size; omega
           obtain ⟨d0, d1, d2, d3⟩ := HD.out _ HK3.out
           have q0 := HR.out.cell (i := 0) (by decide)
           have q1 := HR.out.cell (i := 1) (by decide)
           have q2 := HR.out.cell (i := 2) (by decide)
           have q3 := HR.out.cell (i := 3) (by decide)
           have g0 := HR.out.frozen 0
           have g1 := HR.out.frozen 1
           have g2 := HR.out.frozen 2
           have g3 := HR.out.frozen 3
           simp only [Array.getD] at q0 q1 q2 q3
           simp at q0 q1 q2 q3
           clear hb he hok hna hnd hk hk1))
    all_goals go_wp2_with fail
    all_goals
      have r9 := ((((HR.out.set 0 (.slice ca2 cs2.length cc2)).set 1 (.slice da2 ds2.length dc2)).set 2 (.int .i64 nx)).set 3 (.int .i64 ep))
      have c0 := r9.cell (i := 0) (by decide)
      have c1 := r9.cell (i := 1) (by decide)
      have c2 := r9.cell (i := 2) (by decide)
      have c3 := r9.cell (i := 3) (by decide)
      simp at c0 c1 c2 c3
      have HSs : Hid (Turn [w.heap.size + 1] w3 ((((w3.setCell ⟨w.heap.size + 1, 0, none⟩ (.slice ca2 cs2.length cc2)).setCell ⟨w.heap.size + 1, 1, none⟩ (.slice da2 ds2.length dc2)).setCell ⟨w.heap.size + 1, 2, none⟩ (.int .i64 nx)).setCell ⟨w.heap.size + 1, 3, none⟩ (.int .i64 ep))) := ((((Turn.set (by simp) _).trans' (Turn.set (by simp) _)).trans' (Turn.set (by simp) _)).trans' (Turn.set (by simp) _))
      clear r9 HR q0 q1 q2 q3 g0 g1 g2 g3
      revert c0 c1 c2 c3 HSs
      generalize World.setCell _ _ _ = W
      intro c0 c1 c2 c3 HSs
      refine bodyPost_ret (v := logV ca2 cs2.length cc2 da2 ds2.length dc2 nx ep) ?_ rfl ⟨_, rfl, ⟨ca2, cc2, cs2, da2, dc2, ds2, ?_, ?_, HF.out.2.1, HF.out.2.2.1, HF.out.2.2.2, ?_⟩, ?_⟩
      · simp [results, Try.results13, go_sem, c0, c1, c2, c3]
      · unfold syncN
        rw [HBB.out]
        rfl
      · unfold syncM
        rw [HBB.out]
        exact HF.out.1
      · refine HB.out.turn HSs.out ?_
        intro b hb hx
        have := HBN.out b hb
        simp at hx
        omega
      · refine HSs.out.keeps (HKA.out.trans HK3.out) ?_
        intro b hb
        simp at hb
        omega
set_option maxHeartbeats 4000000 in
theorem logsync_impl (ca : Option Addr) (cc : Nat) (cs : List Bs) (da : Option Addr) (dc : Nat) (ds : List Wr) (nx ep : Int) (w : World) (hm : Mem w (dsk ca cs da ds)) (h : DOk cs ds) :
    Calls Try.prog 14 #[logV ca cs.length cc da ds.length dc nx ep] w fun e w' => ∃ v, e = .returned v ∧ LogRes w w' v (syncM (dat cs ds)) (syncN (dat cs ds) nx) (syncN (dat cs ds) ep) ∧ Keeps w w' := by
  have HKA := hide (Keeps.alloc (Keeps.alloc (Keeps.refl w) (.cells #[.slice ca cs.length cc, .slice da ds.length dc, .int .i64 nx, .int .i64 ep] 36)) (.cells #[.slice none 0 0, .slice none 0 0, .int .i64 0, .int .i64 0] 36))
  have HM := hide (hm.kept HKA.out)
  have HDO := hide h
  have HT := hide (diskok_impl' ca cc cs da dc ds _ HM.out h)
  have HR := hide (row_new (w.alloc (.cells #[.slice ca cs.length cc, .slice da ds.length dc, .int .i64 nx, .int .i64 ep] 36)) #[.slice none 0 0, .slice none 0 0, .int .i64 0, .int .i64 0] 36)
  have HS : Hid ((w.alloc (.cells #[.slice ca cs.length cc, .slice da ds.length dc, .int .i64 nx, .int .i64 ep] 36)).heap.size = w.heap.size + 1 ∧ ((w.alloc (.cells #[.slice ca cs.length cc, .slice da ds.length dc, .int .i64 nx, .int .i64 ep] 36)).alloc (.cells #[.slice none 0 0, .slice none 0 0, .int .i64 0, .int .i64 0] 36)).heap.size = w.heap.size + 1 + 1) := by show _ ∧ _; exact ⟨by simp, by simp⟩
  rw [HS.out.1] at HR
  have HD : Hid (∀ w', Keeps ((w.alloc (.cells #[.slice ca cs.length cc, .slice da ds.length dc, .int .i64 nx, .int .i64 ep] 36)).alloc (.cells #[.slice none 0 0, .slice none 0 0, .int .i64 0, .int .i64 0] 36)) w' → w'.cell? ⟨w.heap.size, 0, none⟩ = some (.slice ca cs.length cc) ∧ w'.cell? ⟨w.heap.size, 1, none⟩ = some (.slice da ds.length dc) ∧ w'.cell? ⟨w.heap.size, 2, none⟩ = some (.int .i64 nx) ∧ w'.cell? ⟨w.heap.size, 3, none⟩ = some (.int .i64 ep)) :=
    fun w' hk => ⟨hk.cell (by simp), hk.cell (by simp), hk.cell (by simp), hk.cell (by simp)⟩
  obtain ⟨b, hbb⟩ : ∃ b, dokM (dat cs ds) = b := ⟨_, rfl⟩
  rw [hbb] at HT
  have HBB := hide hbb
  clear hm h hbb
  go_enter Try.func14, Try.ntmps14
  go_wp2_with fail
  have HSz := hide HS.out.2
  generalize ((w.alloc (.cells #[.slice ca cs.length cc, .slice da ds.length dc, .int .i64 nx, .int .i64 ep] 36)).alloc (.cells #[.slice none 0 0, .slice none 0 0, .int .i64 0, .int .i64 0] 36)) = W0 at *
  refine (unhide HT).mono ?_
  rintro x w1 ⟨rfl, hk⟩
  obtain ⟨d0, d1, d2, d3⟩ := HD.out _ hk
  replace HR := hide (hk.row HR.out)
  have HK1 := hide hk
  have hz : w.heap.size + 1 + 1 ≤ w1.heap.size := by have := hk.size; have := HSz.out; omega
  have q0 := HR.out.cell (i := 0) (by decide)
  have q1 := HR.out.cell (i := 1) (by decide)
  have q2 := HR.out.cell (i := 2) (by decide)
  have q3 := HR.out.cell (i := 3) (by decide)
  have g0 := HR.out.frozen 0
  have g1 := HR.out.frozen 1
  have g2 := HR.out.frozen 2
  have g3 := HR.out.frozen 3
  simp only [Array.getD] at q0 q1 q2 q3
  simp at q0 q1 q2 q3
  clear hk HT HS
  cases b
  · go_wp2_with fail
    have r9 := ((((HR.out.set 0 (.slice none 0 0)).set 1 (.slice none 0 0)).set 2 (.int .i64 0)).set 3 (.int .i64 0))
    have c0 := r9.cell (i := 0) (by decide)
    have c1 := r9.cell (i := 1) (by decide)
    have c2 := r9.cell (i := 2) (by decide)
    have c3 := r9.cell (i := 3) (by decide)
    simp at c0 c1 c2 c3
    have HSs : Hid (Turn [w.heap.size + 1] w1 ((((w1.setCell ⟨w.heap.size + 1, 0, none⟩ (.slice none 0 0)).setCell ⟨w.heap.size + 1, 1, none⟩ (.slice none 0 0)).setCell ⟨w.heap.size + 1, 2, none⟩ (.int .i64 0)).setCell ⟨w.heap.size + 1, 3, none⟩ (.int .i64 0))) := ((((Turn.set (by simp) _).trans' (Turn.set (by simp) _)).trans' (Turn.set (by simp) _)).trans' (Turn.set (by simp) _))
    clear r9 HR q0 q1 q2 q3 g0 g1 g2 g3
    revert c0 c1 c2 c3 HSs
    generalize World.setCell _ _ _ = W
    intro c0 c1 c2 c3 HSs
    refine bodyPost_ret (v := .agg #[.slice none 0 0, .slice none 0 0, .int .i64 0, .int .i64 0]) ?_ rfl ⟨_, rfl, ?_, ?_⟩
    · simp [results, Try.results14, go_sem, c0, c1, c2, c3]
    · unfold syncM syncN
      rw [HBB.out]
      exact LogRes.none _ _
    · refine HSs.out.keeps (HKA.out.trans HK1.out) ?_
      intro b hb
      simp at hb
      omega
  · have HT2 := hide (fun w' (hk : Keeps W0 w') => disksync_impl ca cc cs da dc ds w' (HM.out.kept hk) HDO.out)
    clear d0 d1 d2 d3 q0 q1 q2 q3 g0 g1 g2 g3
    obtain ⟨d0, d1, d2, d3⟩ := HD.out _ HK1.out
    go_wp2_with fail
    go_region_held3 (fun w' => w'.cell? ⟨w.heap.size, 0, none⟩ = some (.slice ca cs.length cc) ∧ w'.cell? ⟨w.heap.size, 1, none⟩ = some (.slice da ds.length dc) ∧ w'.cell? ⟨w.heap.size, 2, none⟩ = some (.int .i64 nx) ∧ w'.cell? ⟨w.heap.size, 3, none⟩ = some (.int .i64 ep)) (go_keep)
      (first
        | (go_at_call 30
           refine (unhide HT2 _ (HK1.out.trans (Keeps.refl w1).drew)).mono ?_
           rintro x w3 ⟨v, rfl, hr, hk⟩
           obtain ⟨ca2, cc2, cs2, da2, dc2, ds2, rfl, he, hok, hna, hnd, hb⟩ := hr
           have HB := hide (hb.old ((HKA.out.trans HK1.out).drew))
           have HF := hide (⟨he, hok, hna, hnd⟩ : _ ∧ _ ∧ _ ∧ _)
           have hk1 := (Keeps.refl w1).drew.trans hk
           replace HR := hide (hk1.row HR.out)
           have HK3 := hide (HK1.out.trans hk1)
           have HBN : Hid (∀ b ∈ fp (dsk ca2 cs2 da2 ds2), w.heap.size + 1 + 1 ≤ b) := fun b hb1 => by have := hb.new b hb1; simp at this; omega
           have hz3 : w.heap.size + 1 + 1 ≤ w3.heap.size := by have := hk1.size; omega
           obtain ⟨d0, d1, d2, d3⟩ := HD.out _ HK3.out
           have q0 := HR.out.cell (i := 0) (by decide)
           have q1 := HR.out.cell (i := 1) (by decide)
           have q2 := HR.out.cell (i := 2) (by decide)
           have q3 := HR.out.cell (i := 3) (by decide)
           have g0 := HR.out.frozen 0
           have g1 := HR.out.frozen 1
           have g2 := HR.out.frozen 2
           have g3 := HR.out.frozen 3
           simp only [Array.getD] at q0 q1 q2 q3
           simp at q0 q1 q2 q3
           clear hb he hok hna hnd hk hk1))
    all_goals go_wp2_with fail
    all_goals
      have r9 := ((((HR.out.set 0 (.slice ca2 cs2.length cc2)).set 1 (.slice da2 ds2.length dc2)).set 2 (.int .i64 nx)).set 3 (.int .i64 ep))
      have c0 := r9.cell (i := 0) (by decide)
      have c1 := r9.cell (i := 1) (by decide)
      have c2 := r9.cell (i := 2) (by decide)
      have c3 := r9.cell (i := 3) (by decide)
      simp at c0 c1 c2 c3
      have HSs : Hid (Turn [w.heap.size + 1] w3 ((((w3.setCell ⟨w.heap.size + 1, 0, none⟩ (.slice ca2 cs2.length cc2)).setCell ⟨w.heap.size + 1, 1, none⟩ (.slice da2 ds2.length dc2)).setCell ⟨w.heap.size + 1, 2, none⟩ (.int .i64 nx)).setCell ⟨w.heap.size + 1, 3, none⟩ (.int .i64 ep))) := ((((Turn.set (by simp) _).trans' (Turn.set (by simp) _)).trans' (Turn.set (by simp) _)).trans' (Turn.set (by simp) _))
      clear r9 HR q0 q1 q2 q3 g0 g1 g2 g3
      revert c0 c1 c2 c3 HSs
      generalize World.setCell _ _ _ = W
      intro c0 c1 c2 c3 HSs
      refine bodyPost_ret (v := logV ca2 cs2.length cc2 da2 ds2.length dc2 nx ep) ?_ rfl ⟨_, rfl, ⟨ca2, cc2, cs2, da2, dc2, ds2, ?_, ?_, HF.out.2.1, HF.out.2.2.1, HF.out.2.2.2, ?_⟩, ?_⟩
      · simp [results, Try.results14, go_sem, c0, c1, c2, c3]
      · unfold syncN
        rw [HBB.out]
        rfl
      · unfold syncM
        rw [HBB.out]
        exact HF.out.1
      · refine HB.out.turn HSs.out ?_
        intro b hb hx
        have := HBN.out b hb
        simp at hx
        omega
      · refine HSs.out.keeps (HKA.out.trans HK3.out) ?_
        intro b hb
        simp at hb
        omega
end Go.Proofs.Ytmkhlhjggbencaa
