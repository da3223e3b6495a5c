/- Texts of the verifier, joined: LgS, Zer, Put, SB. -/
import Derived.Test.YtkdnddckogbgaaaGreatDoorFO8
import Derived.Test.YtkdnddckogbgaaaGreatDoorFO1
import Derived.Lib.AppendZeros
import Derived.Test.YtkdnddckogbgaaaGreatDoorFO2
namespace Go.Proofs.YtkdnddckogbgaaaGreatDoor
open Go.RowKit Go.Deep
set_option linter.unusedVariables false
set_option maxRecDepth 10000

/-- What syncing makes of a disk; a log whose disk isn't right leaves nothing. -/
def syncM (m : DkM) : DkM := if dokM m = true then crashM m (fun _ => 128) else noM
def syncN (m : DkM) (n : Int) : Int := if dokM m = true then n else 0
set_option maxHeartbeats 4000000 in
theorem logsync_spec (ca : Option Addr) (cc : Nat) (cs : List Bs) (da : Option Addr) (dc : Nat) (ds : List Wr) (nx ep : Int) (w : World) (hm : Mem w (dsk ca cs da ds)) (h : DOk cs ds) :
    Calls Tryz.prog 87 #[logV ca cs.length cc da ds.length dc nx ep] w fun e w' => ∃ v, e = .returned v ∧ LogRes w w' v (syncM (dat cs ds)) (syncN (dat cs ds) nx) (syncN (dat cs ds) ep) ∧ Keeps w w' := by
  have HKA := hide (Keeps.alloc (Keeps.alloc (Keeps.refl w) (.cells #[.slice ca cs.length cc, .slice da ds.length dc, .int .i64 nx, .int .i64 ep] 28)) (.cells #[.slice none 0 0, .slice none 0 0, .int .i64 0, .int .i64 0] 28))
  have HM := hide (hm.kept HKA.out)
  have HDO := hide h
  have HT := hide (diskok_spec' ca cc cs da dc ds _ HM.out h)
  have HR := hide (row_new (w.alloc (.cells #[.slice ca cs.length cc, .slice da ds.length dc, .int .i64 nx, .int .i64 ep] 28)) #[.slice none 0 0, .slice none 0 0, .int .i64 0, .int .i64 0] 28)
  have HS : Hid ((w.alloc (.cells #[.slice ca cs.length cc, .slice da ds.length dc, .int .i64 nx, .int .i64 ep] 28)).heap.size = w.heap.size + 1 ∧ ((w.alloc (.cells #[.slice ca cs.length cc, .slice da ds.length dc, .int .i64 nx, .int .i64 ep] 28)).alloc (.cells #[.slice none 0 0, .slice none 0 0, .int .i64 0, .int .i64 0] 28)).heap.size = w.heap.size + 1 + 1) := by show _ ∧ _; exact ⟨by simp, by simp⟩
  rw [HS.out.1] at HR
  have HD : Hid (∀ w', Keeps ((w.alloc (.cells #[.slice ca cs.length cc, .slice da ds.length dc, .int .i64 nx, .int .i64 ep] 28)).alloc (.cells #[.slice none 0 0, .slice none 0 0, .int .i64 0, .int .i64 0] 28)) w' → w'.cell? ⟨w.heap.size, 0, none⟩ = some (.slice ca cs.length cc) ∧ w'.cell? ⟨w.heap.size, 1, none⟩ = some (.slice da ds.length dc) ∧ w'.cell? ⟨w.heap.size, 2, none⟩ = some (.int .i64 nx) ∧ w'.cell? ⟨w.heap.size, 3, none⟩ = some (.int .i64 ep)) :=
    fun w' hk => ⟨hk.cell (by simp), hk.cell (by simp), hk.cell (by simp), hk.cell (by simp)⟩
  obtain ⟨b, hbb⟩ : ∃ b, dokM (dat cs ds) = b := ⟨_, rfl⟩
  rw [hbb] at HT
  have HBB := hide hbb
  clear hm h hbb
  go_enter Tryz.func87, Tryz.ntmps87
  go_wp2_with fail
  have HSz := hide HS.out.2
  generalize ((w.alloc (.cells #[.slice ca cs.length cc, .slice da ds.length dc, .int .i64 nx, .int .i64 ep] 28)).alloc (.cells #[.slice none 0 0, .slice none 0 0, .int .i64 0, .int .i64 0] 28)) = W0 at *
  refine (unhide HT).mono ?_
  rintro x w1 ⟨rfl, hk⟩
  obtain ⟨d0, d1, d2, d3⟩ := HD.out _ hk
  replace HR := hide (hk.row HR.out)
  have HK1 := hide hk
  have hz : w.heap.size + 1 + 1 ≤ w1.heap.size := by have := hk.size; have := HSz.out; omega
  have q0 := HR.out.cell (i := 0) (by decide)
  have q1 := HR.out.cell (i := 1) (by decide)
  have q2 := HR.out.cell (i := 2) (by decide)
  have q3 := HR.out.cell (i := 3) (by decide)
  have g0 := HR.out.frozen 0
  have g1 := HR.out.frozen 1
  have g2 := HR.out.frozen 2
  have g3 := HR.out.frozen 3
  simp only [Array.getD] at q0 q1 q2 q3
  simp at q0 q1 q2 q3
  clear hk HT HS
  cases b
  · go_wp2_with fail
    have r9 := ((((HR.out.set 0 (.slice none 0 0)).set 1 (.slice none 0 0)).set 2 (.int .i64 0)).set 3 (.int .i64 0))
    have c0 := r9.cell (i := 0) (by decide)
    have c1 := r9.cell (i := 1) (by decide)
    have c2 := r9.cell (i := 2) (by decide)
    have c3 := r9.cell (i := 3) (by decide)
    simp at c0 c1 c2 c3
    have HSs : Hid (Turn [w.heap.size + 1] w1 ((((w1.setCell ⟨w.heap.size + 1, 0, none⟩ (.slice none 0 0)).setCell ⟨w.heap.size + 1, 1, none⟩ (.slice none 0 0)).setCell ⟨w.heap.size + 1, 2, none⟩ (.int .i64 0)).setCell ⟨w.heap.size + 1, 3, none⟩ (.int .i64 0))) := ((((Turn.set (by simp) _).trans' (Turn.set (by simp) _)).trans' (Turn.set (by simp) _)).trans' (Turn.set (by simp) _))
    clear r9 HR q0 q1 q2 q3 g0 g1 g2 g3
    revert c0 c1 c2 c3 HSs
    generalize World.setCell _ _ _ = W
    intro c0 c1 c2 c3 HSs
    refine bodyPost_ret (v := .agg #[.slice none 0 0, .slice none 0 0, .int .i64 0, .int .i64 0]) ?_ rfl ⟨_, rfl, ?_, ?_⟩
    · simp [results, Tryz.results87, go_sem, c0, c1, c2, c3]
    · unfold syncM syncN
      rw [HBB.out]
      exact LogRes.none _ _
    · refine HSs.out.keeps (HKA.out.trans HK1.out) ?_
      intro b hb
      simp at hb
      omega
  · have HT2 := hide (fun w' (hk : Keeps W0 w') => disksync_spec ca cc cs da dc ds w' (HM.out.kept hk) HDO.out)
    clear d0 d1 d2 d3 q0 q1 q2 q3 g0 g1 g2 g3
    obtain ⟨d0, d1, d2, d3⟩ := HD.out _ HK1.out
    go_wp2_with fail
    go_region_held3 (fun w' => w'.cell? ⟨w.heap.size, 0, none⟩ = some (.slice ca cs.length cc) ∧ w'.cell? ⟨w.heap.size, 1, none⟩ = some (.slice da ds.length dc) ∧ w'.cell? ⟨w.heap.size, 2, none⟩ = some (.int .i64 nx) ∧ w'.cell? ⟨w.heap.size, 3, none⟩ = some (.int .i64 ep)) (go_keep)
      (first
        | (go_at_call 54
           refine (unhide HT2 _ (HK1.out.trans (Keeps.refl w1).drew)).mono ?_
           rintro x w3 ⟨v, rfl, hr, hk⟩
           obtain ⟨ca2, cc2, cs2, da2, dc2, ds2, rfl, he, hok, hna, hnd, hb⟩ := hr
           have HB := hide (hb.old ((HKA.out.trans HK1.out).drew))
           have HF := hide (⟨he, hok, hna, hnd⟩ : _ ∧ _ ∧ _ ∧ _)
           have hk1 := (Keeps.refl w1).drew.trans hk
           replace HR := hide (hk1.row HR.out)
           have HK3 := hide (HK1.out.trans hk1)
           have HBN : Hid (∀ b ∈ fp (dsk ca2 cs2 da2 ds2), w.heap.size + 1 + 1 ≤ b) := fun b hb1 => by have := hb.new b hb1; simp at this; omega
           have hz3 : w.heap.size + 1 + 1 ≤ w3.heap.size := by have := hk1.size; omega
           obtain ⟨d0, d1, d2, d3⟩ := HD.out _ HK3.out
           have q0 := HR.out.cell (i := 0) (by decide)
           have q1 := HR.out.cell (i := 1) (by decide)
           have q2 := HR.out.cell (i := 2) (by decide)
           have q3 := HR.out.cell (i := 3) (by decide)
           have g0 := HR.out.frozen 0
           have g1 := HR.out.frozen 1
           have g2 := HR.out.frozen 2
           have g3 := HR.out.frozen 3
           simp only [Array.getD] at q0 q1 q2 q3
           simp at q0 q1 q2 q3
           clear hb he hok hna hnd hk hk1))
    all_goals go_wp2_with fail
    all_goals
      have r9 := ((((HR.out.set 0 (.slice ca2 cs2.length cc2)).set 1 (.slice da2 ds2.length dc2)).set 2 (.int .i64 nx)).set 3 (.int .i64 ep))
      have c0 := r9.cell (i := 0) (by decide)
      have c1 := r9.cell (i := 1) (by decide)
      have c2 := r9.cell (i := 2) (by decide)
      have c3 := r9.cell (i := 3) (by decide)
      simp at c0 c1 c2 c3
      have HSs : Hid (Turn [w.heap.size + 1] w3 ((((w3.setCell ⟨w.heap.size + 1, 0, none⟩ (.slice ca2 cs2.length cc2)).setCell ⟨w.heap.size + 1, 1, none⟩ (.slice da2 ds2.length dc2)).setCell ⟨w.heap.size + 1, 2, none⟩ (.int .i64 nx)).setCell ⟨w.heap.size + 1, 3, none⟩ (.int .i64 ep))) := ((((Turn.set (by simp) _).trans' (Turn.set (by simp) _)).trans' (Turn.set (by simp) _)).trans' (Turn.set (by simp) _))
      clear r9 HR q0 q1 q2 q3 g0 g1 g2 g3
      revert c0 c1 c2 c3 HSs
      generalize World.setCell _ _ _ = W
      intro c0 c1 c2 c3 HSs
      refine bodyPost_ret (v := logV ca2 cs2.length cc2 da2 ds2.length dc2 nx ep) ?_ rfl ⟨_, rfl, ⟨ca2, cc2, cs2, da2, dc2, ds2, ?_, ?_, HF.out.2.1, HF.out.2.2.1, HF.out.2.2.2, ?_⟩, ?_⟩
      · simp [results, Tryz.results87, go_sem, c0, c1, c2, c3]
      · unfold syncN
        rw [HBB.out]
        rfl
      · unfold syncM
        rw [HBB.out]
        exact HF.out.1
      · refine HB.out.turn HSs.out ?_
        intro b hb hx
        have := HBN.out b hb
        simp at hx
        omega
      · refine HSs.out.keeps (HKA.out.trans HK3.out) ?_
        intro b hb
        simp at hb
        omega
set_option maxHeartbeats 4000000 in
theorem logsync_impl (ca : Option Addr) (cc : Nat) (cs : List Bs) (da : Option Addr) (dc : Nat) (ds : List Wr) (nx ep : Int) (w : World) (hm : Mem w (dsk ca cs da ds)) (h : DOk cs ds) :
    Calls Tryz.prog 14 #[logV ca cs.length cc da ds.length dc nx ep] w fun e w' => ∃ v, e = .returned v ∧ LogRes w w' v (syncM (dat cs ds)) (syncN (dat cs ds) nx) (syncN (dat cs ds) ep) ∧ Keeps w w' := by
  have HKA := hide (Keeps.alloc (Keeps.alloc (Keeps.refl w) (.cells #[.slice ca cs.length cc, .slice da ds.length dc, .int .i64 nx, .int .i64 ep] 28)) (.cells #[.slice none 0 0, .slice none 0 0, .int .i64 0, .int .i64 0] 28))
  have HM := hide (hm.kept HKA.out)
  have HDO := hide h
  have HT := hide (diskok_impl' ca cc cs da dc ds _ HM.out h)
  have HR := hide (row_new (w.alloc (.cells #[.slice ca cs.length cc, .slice da ds.length dc, .int .i64 nx, .int .i64 ep] 28)) #[.slice none 0 0, .slice none 0 0, .int .i64 0, .int .i64 0] 28)
  have HS : Hid ((w.alloc (.cells #[.slice ca cs.length cc, .slice da ds.length dc, .int .i64 nx, .int .i64 ep] 28)).heap.size = w.heap.size + 1 ∧ ((w.alloc (.cells #[.slice ca cs.length cc, .slice da ds.length dc, .int .i64 nx, .int .i64 ep] 28)).alloc (.cells #[.slice none 0 0, .slice none 0 0, .int .i64 0, .int .i64 0] 28)).heap.size = w.heap.size + 1 + 1) := by show _ ∧ _; exact ⟨by simp, by simp⟩
  rw [HS.out.1] at HR
  have HD : Hid (∀ w', Keeps ((w.alloc (.cells #[.slice ca cs.length cc, .slice da ds.length dc, .int .i64 nx, .int .i64 ep] 28)).alloc (.cells #[.slice none 0 0, .slice none 0 0, .int .i64 0, .int .i64 0] 28)) w' → w'.cell? ⟨w.heap.size, 0, none⟩ = some (.slice ca cs.length cc) ∧ w'.cell? ⟨w.heap.size, 1, none⟩ = some (.slice da ds.length dc) ∧ w'.cell? ⟨w.heap.size, 2, none⟩ = some (.int .i64 nx) ∧ w'.cell? ⟨w.heap.size, 3, none⟩ = some (.int .i64 ep)) :=
    fun w' hk => ⟨hk.cell (by simp), hk.cell (by simp), hk.cell (by simp), hk.cell (by simp)⟩
  obtain ⟨b, hbb⟩ : ∃ b, dokM (dat cs ds) = b := ⟨_, rfl⟩
  rw [hbb] at HT
  have HBB := hide hbb
  clear hm h hbb
  go_enter Tryz.func14, Tryz.ntmps14
  go_wp2_with fail
  have HSz := hide HS.out.2
  generalize ((w.alloc (.cells #[.slice ca cs.length cc, .slice da ds.length dc, .int .i64 nx, .int .i64 ep] 28)).alloc (.cells #[.slice none 0 0, .slice none 0 0, .int .i64 0, .int .i64 0] 28)) = W0 at *
  refine (unhide HT).mono ?_
  rintro x w1 ⟨rfl, hk⟩
  obtain ⟨d0, d1, d2, d3⟩ := HD.out _ hk
  replace HR := hide (hk.row HR.out)
  have HK1 := hide hk
  have hz : w.heap.size + 1 + 1 ≤ w1.heap.size := by have := hk.size; have := HSz.out; omega
  have q0 := HR.out.cell (i := 0) (by decide)
  have q1 := HR.out.cell (i := 1) (by decide)
  have q2 := HR.out.cell (i := 2) (by decide)
  have q3 := HR.out.cell (i := 3) (by decide)
  have g0 := HR.out.frozen 0
  have g1 := HR.out.frozen 1
  have g2 := HR.out.frozen 2
  have g3 := HR.out.frozen 3
  simp only [Array.getD] at q0 q1 q2 q3
  simp at q0 q1 q2 q3
  clear hk HT HS
  cases b
  · go_wp2_with fail
    have r9 := ((((HR.out.set 0 (.slice none 0 0)).set 1 (.slice none 0 0)).set 2 (.int .i64 0)).set 3 (.int .i64 0))
    have c0 := r9.cell (i := 0) (by decide)
    have c1 := r9.cell (i := 1) (by decide)
    have c2 := r9.cell (i := 2) (by decide)
    have c3 := r9.cell (i := 3) (by decide)
    simp at c0 c1 c2 c3
    have HSs : Hid (Turn [w.heap.size + 1] w1 ((((w1.setCell ⟨w.heap.size + 1, 0, none⟩ (.slice none 0 0)).setCell ⟨w.heap.size + 1, 1, none⟩ (.slice none 0 0)).setCell ⟨w.heap.size + 1, 2, none⟩ (.int .i64 0)).setCell ⟨w.heap.size + 1, 3, none⟩ (.int .i64 0))) := ((((Turn.set (by simp) _).trans' (Turn.set (by simp) _)).trans' (Turn.set (by simp) _)).trans' (Turn.set (by simp) _))
    clear r9 HR q0 q1 q2 q3 g0 g1 g2 g3
    revert c0 c1 c2 c3 HSs
    generalize World.setCell _ _ _ = W
    intro c0 c1 c2 c3 HSs
    refine bodyPost_ret (v := .agg #[.slice none 0 0, .slice none 0 0, .int .i64 0, .int .i64 0]) ?_ rfl ⟨_, rfl, ?_, ?_⟩
    · simp [results, Tryz.results14, go_sem, c0, c1, c2, c3]
    · unfold syncM syncN
      rw [HBB.out]
      exact LogRes.none _ _
    · refine HSs.out.keeps (HKA.out.trans HK1.out) ?_
      intro b hb
      simp at hb
      omega
  · have HT2 := hide (fun w' (hk : Keeps W0 w') => disksync_impl ca cc cs da dc ds w' (HM.out.kept hk) HDO.out)
    clear d0 d1 d2 d3 q0 q1 q2 q3 g0 g1 g2 g3
    obtain ⟨d0, d1, d2, d3⟩ := HD.out _ HK1.out
    go_wp2_with fail
    go_region_held3 (fun w' => w'.cell? ⟨w.heap.size, 0, none⟩ = some (.slice ca cs.length cc) ∧ w'.cell? ⟨w.heap.size, 1, none⟩ = some (.slice da ds.length dc) ∧ w'.cell? ⟨w.heap.size, 2, none⟩ = some (.int .i64 nx) ∧ w'.cell? ⟨w.heap.size, 3, none⟩ = some (.int .i64 ep)) (go_keep)
      (first
        | (go_at_call 49
           refine (unhide HT2 _ (HK1.out.trans (Keeps.refl w1).drew)).mono ?_
           rintro x w3 ⟨v, rfl, hr, hk⟩
           obtain ⟨ca2, cc2, cs2, da2, dc2, ds2, rfl, he, hok, hna, hnd, hb⟩ := hr
           have HB := hide (hb.old ((HKA.out.trans HK1.out).drew))
           have HF := hide (⟨he, hok, hna, hnd⟩ : _ ∧ _ ∧ _ ∧ _)
           have hk1 := (Keeps.refl w1).drew.trans hk
           replace HR := hide (hk1.row HR.out)
           have HK3 := hide (HK1.out.trans hk1)
           have HBN : Hid (∀ b ∈ fp (dsk ca2 cs2 da2 ds2), w.heap.size + 1 + 1 ≤ b) := fun b hb1 => by have := hb.new b hb1; simp at this; omega
           have hz3 : w.heap.size + 1 + 1 ≤ w3.heap.size := by have := hk1.size; omega
           obtain ⟨d0, d1, d2, d3⟩ := HD.out _ HK3.out
           have q0 := HR.out.cell (i := 0) (by decide)
           have q1 := HR.out.cell (i := 1) (by decide)
           have q2 := HR.out.cell (i := 2) (by decide)
           have q3 := HR.out.cell (i := 3) (by decide)
           have g0 := HR.out.frozen 0
           have g1 := HR.out.frozen 1
           have g2 := HR.out.frozen 2
           have g3 := HR.out.frozen 3
           simp only [Array.getD] at q0 q1 q2 q3
           simp at q0 q1 q2 q3
           clear hb he hok hna hnd hk hk1))
    all_goals go_wp2_with fail
    all_goals
      have r9 := ((((HR.out.set 0 (.slice ca2 cs2.length cc2)).set 1 (.slice da2 ds2.length dc2)).set 2 (.int .i64 nx)).set 3 (.int .i64 ep))
      have c0 := r9.cell (i := 0) (by decide)
      have c1 := r9.cell (i := 1) (by decide)
      have c2 := r9.cell (i := 2) (by decide)
      have c3 := r9.cell (i := 3) (by decide)
      simp at c0 c1 c2 c3
      have HSs : Hid (Turn [w.heap.size + 1] w3 ((((w3.setCell ⟨w.heap.size + 1, 0, none⟩ (.slice ca2 cs2.length cc2)).setCell ⟨w.heap.size + 1, 1, none⟩ (.slice da2 ds2.length dc2)).setCell ⟨w.heap.size + 1, 2, none⟩ (.int .i64 nx)).setCell ⟨w.heap.size + 1, 3, none⟩ (.int .i64 ep))) := ((((Turn.set (by simp) _).trans' (Turn.set (by simp) _)).trans' (Turn.set (by simp) _)).trans' (Turn.set (by simp) _))
      clear r9 HR q0 q1 q2 q3 g0 g1 g2 g3
      revert c0 c1 c2 c3 HSs
      generalize World.setCell _ _ _ = W
      intro c0 c1 c2 c3 HSs
      refine bodyPost_ret (v := logV ca2 cs2.length cc2 da2 ds2.length dc2 nx ep) ?_ rfl ⟨_, rfl, ⟨ca2, cc2, cs2, da2, dc2, ds2, ?_, ?_, HF.out.2.1, HF.out.2.2.1, HF.out.2.2.2, ?_⟩, ?_⟩
      · simp [results, Tryz.results14, go_sem, c0, c1, c2, c3]
      · unfold syncN
        rw [HBB.out]
        rfl
      · unfold syncM
        rw [HBB.out]
        exact HF.out.1
      · refine HB.out.turn HSs.out ?_
        intro b hb hx
        have := HBN.out b hb
        simp at hx
        omega
      · refine HSs.out.keeps (HKA.out.trans HK3.out) ?_
        intro b hb
        simp at hb
        omega
end Go.Proofs.YtkdnddckogbgaaaGreatDoor
namespace Go.Proofs.YtkdnddckogbgaaaGreatDoor
open Go.RowKit Go.Deep
set_option linter.unusedVariables false
set_option maxRecDepth 10000

theorem zeroCells_one (z : Value) (m : Nat) : (Builtin.zeroCells #[z] m).toList = List.replicate m z := by
  apply List.ext_getElem?
  intro i
  by_cases h : i < m
  · simp [Builtin.zeroCells, h, Nat.mod_one]
  · simp [Builtin.zeroCells, h]
theorem run_append_zeros {P : Program} (w : World) (base : Nat) (t tn ty e : TypeId) (i : TypeInfo) (z : Value) (k kn : IntKind) (ht : P.underlying t = some (.slice e)) (htn : P.underlying tn = some (.int kn)) (hi : P.info? e = some i) (hz : i.zero = some z)
    (hsize : i.size = 1) (hby : i.bytes = 1) (hzc : z.cells = #[z]) (h1 : z.oneCell' = true) (v : Value) (n : Nat) (xs : List Value) (hown : w.ownsRow base e 1 v n xs) (m : Nat) (hm : 0 < m) (hn : 0 < n) (hl : n + m ≤ 4194304) (hbase : base ≤ w.heap.size) :
    ∃ v' w', (Builtin.append_ #[t, tn] ty #[v, .int k (m : Int)]).run P w = .ok v' w' ∧ w'.ownsRow base e 1 v' (n + m) (xs ++ List.replicate m z) ∧ w.grownBy w' v.ownBlock := by
  have hlen : (xs ++ List.replicate m z).length = (n + m) * 1 := by rw [List.length_append, hown.1]; simp
  have hw : IntKind.i64.wrap (m : Int) = m := by rw [IntKind.wrap_i64]; omega
  have hneg : ¬ ((m : Int) < 0) := by omega
  have hm0 : m ≠ 0 := by omega
  have h48 : ¬ (281474976710656 < (m : Int)) := by omega
  rcases hown.2 with ⟨rfl, h0⟩ | ⟨g, cap, cur, rfl, hbg, hg, hnc, hcm, hcs, htake⟩
  · omega
  · by_cases hroom : n + m ≤ cap
    · have hst := run_storeCells_at P g n e (List.replicate m z) 0 cur w hg (by simp; omega) (by intro u hu; rw [(List.mem_replicate.1 hu).2]; exact h1)
      simp only [Nat.add_zero, List.length_replicate] at hst
      refine ⟨.slice (some ⟨g, 0, none⟩) (n + m) cap, w.setRow g (cur.toList.take n ++ List.replicate m z ++ cur.toList.drop (n + m)).toArray, ?_, ⟨hlen, .inr ⟨g, cap, _, rfl, hbg, setRow_heap w g cur _ e _ hg, hroom, hcm, ?_, ?_⟩⟩, ⟨rfl, rfl, rfl, by simp, fun k _ hk => setRow_other w g k _ (fun e => hk (by simp [Value.ownBlock, e]))⟩⟩
      · simp [Builtin.append_, run_underlying ht, run_underlying htn, sizeOf, typeInfo, zeroValue, hi, hz, hsize, hby, hzc, asInt, asIntOf, hw, hneg, hm0, h48, hroom, Addr.add_lit, zeroCells_one, hst]
      · simp only [List.size_toArray, List.length_append, List.length_take, List.length_drop, Array.length_toList, List.length_replicate]
        omega
      · rw [Nat.mul_one] at htake
        rw [htake, ← hlen]
        exact List.take_left
    · have holds : ∀ j u, xs[j]? = some u → w.cell? ((⟨g, 0, none⟩ : Addr).add j) = some u := hown.cells (g := g) rfl
      have hfo := run_firstCells_some (P := P) w.drew 1 n ⟨g, 0, none⟩ n cap xs hown.1 (by simpa using holds)
      have h63' : ¬ (9223372036854775807 < ((n : Int) + (m : Int))) := by omega
      have hfit := growslice_fits (need := n + m) (old := cap) (bytes := 1) (by omega) (by omega)
      have h48' : ¬ (281474976710656 < Builtin.nextslicecap (n + m) cap) := by omega
      have hge := grownCap_ge w (n + m) cap e
      have hcm' : grownCap w (n + m) cap e ≤ maxLen := grownCap_le_maxLen w (n + m) cap e (by simp only [maxLen]; omega)
      refine ⟨.slice (some ⟨w.heap.size, 0, none⟩) (n + m) (grownCap w (n + m) cap e), w.drew.alloc (.cells (xs.toArray ++ (List.replicate m z).toArray ++ Builtin.zeroCells z.cells (grownCap w (n + m) cap e - (n + m))) e), ?_, ⟨hlen, .inr ⟨w.heap.size, _, _, rfl, hbase, heap_alloc_new w.drew _, hge, hcm', ?_, ?_⟩⟩, ⟨rfl, rfl, rfl, by simp, fun k hk _ => blk_alloc_lt w.drew _ k hk⟩⟩
      · simp [Builtin.append_, run_underlying ht, run_underlying htn, sizeOf, typeInfo, zeroValue, hi, hz, hsize, hby, hzc, asInt, asIntOf, hw, hneg, hm0, h48, hroom, h63', h48', Question.forced, hfo, newRow, grownCap]
        congr 2
        apply Array.ext'
        simp [zeroCells_one]
      · simp only [Array.size_append, List.size_toArray, size_zeroCells, hzc, hown.1, List.length_replicate]
        simp
        omega
      · simp only [Array.toList_append, List.append_assoc]
        rw [← List.append_assoc, ← hlen]
        exact List.take_left
theorem bys_zeros (m : Nat) : bys (List.replicate m 0) = List.replicate m (.int .u8 0) := by simp [bys, byV]
theorem app_zeros {ops : Array Oper} {rest : List Oper} {o : Oper} {a : Act} {Q : Exit → Act → World → Prop} {wr : World} (hgd : o.guard = none) (s x : Operand)
    (ho : o.op = .call { callee := .builtin .append, args := #[s, x], argTypes := #[22, 3] }) (base : Nat) (v : Value) (L : List UInt8) (m : Nat) (hs : a.eval s = v)
    (zi : Int) (hx : a.eval x = .int .i64 zi) (hzi : zi = (m : Int)) (hm : 0 < m) (hn : 0 < L.length) (hown : OwnsB wr base v L) (hl : L.length + m ≤ 4194304) (hbase : base ≤ wr.heap.size)
    (h : ∀ v' w', OwnsB w' base v' (L ++ List.replicate m 0) → wr.grownBy w' v.ownBlock → wpList Tryz.prog ops Q rest (a.put o.dst v') w') :
    wpList Tryz.prog ops Q (o :: rest) a wr := by
  subst hzi
  have hI := infoByte
  cases hi : Tryz.prog.info? 5 with
  | none => rw [hi] at hI; simp at hI
  | some i =>
    rw [hi] at hI
    simp at hI
    obtain ⟨hz, hsz, hby⟩ := hI
    obtain ⟨v', w', hr, h2, h3⟩ := run_append_zeros wr base 22 3 o.type 5 i _ .i64 .i64 underBytes Tryz.underlying3 hi hz hsz hby rfl rfl v L.length (bys L) hown m hm hn hl hbase
    refine Lib.wpList_append_run wr hgd s x _ _ ho _ _ hs hx v' w' hr (h v' w' ?_ h3)
    unfold OwnsB
    rw [bys_append, List.length_append, bys_zeros, List.length_replicate]
    exact h2
end Go.Proofs.YtkdnddckogbgaaaGreatDoor
namespace Go.Proofs.YtkdnddckogbgaaaGreatDoor
open Go.RowKit Go.Deep
set_option linter.unusedVariables false
set_option maxRecDepth 10000

theorem putB_size {n size : Int} (h : ¬ (1 ≤ size ∧ size ≤ 7)) : putB n size = false := by
  unfold putB
  by_cases h1 : 1 ≤ size
  · have h2 : ¬ size ≤ 7 := fun h2 => h ⟨h1, h2⟩
    simp [h2]
  · simp [h1]
theorem putB_neg {n size : Int} (h : n < 0) : putB n size = false := by unfold putB; simp; omega
theorem putB_great {n : Int} {s : Nat} (h : ((256 ^ s : Nat) : Int) ≤ n) : putB n s = false := by
  unfold putB
  rw [Int.toNat_natCast, decide_eq_false (show ¬ n < ((256 ^ s : Nat) : Int) by omega), Bool.and_false]
theorem putB_yes {n : Int} {s : Nat} (h1 : 1 ≤ s) (h2 : s ≤ 7) (h0 : 0 ≤ n) (h : n < ((256 ^ s : Nat) : Int)) : putB n s = true := by
  unfold putB
  rw [Int.toNat_natCast, decide_eq_true h, decide_eq_true h0]
  simp; omega
theorem pow_le7 {s : Nat} (h : s ≤ 7) : 256 ^ s ≤ 72057594037927936 := Nat.le_trans (Nat.pow_le_pow_right (by decide) h) (by decide)
def PutPost (w : World) (L : List UInt8) (n size : Int) (e : Ending) (w' : World) : Prop := ∃ v, e = .returned (.tuple #[v, .bool (putB n size)]) ∧ OwnsB w' w.heap.size v (putL L n size) ∧ Keeps w w'
theorem PutPost.no {w w' : World} {L : List UInt8} {n size : Int} (h : putB n size = false) (hk : Keeps w w') : PutPost w L n size (.returned (.tuple #[.slice none 0 0, .bool false])) w' :=
  ⟨_, by rw [h], by unfold putL; rw [h]; exact OwnsB.nil _ _, hk⟩
theorem PutPost.yes {w w' : World} {L : List UInt8} {n s : Nat} {v : Value} (h : putB n s = true) (ho : OwnsB w' w.heap.size v (L ++ digs n s)) (hk : Keeps w w') : PutPost w L n s (.returned (.tuple #[v, .bool true])) w' :=
  ⟨_, by rw [h], by unfold putL; rw [if_pos h]; exact ho, hk⟩

set_option maxHeartbeats 1000000 in
theorem putnum_spec (a : Option Addr) (cap : Nat) (L : List UInt8) (n size : Int) (w : World) (hc : Cells w a (bys L)) (hn : a = none → cap = 0) (hl : L.length ≤ 2097152) (hw : n < 9223372036854775808) :
    Calls Tryz.prog 75 #[.slice a L.length cap, .int .i64 n, .int .i64 size] w (PutPost w L n size) := by
  by_cases hs : 1 ≤ size ∧ size ≤ 7
  · obtain ⟨s, rfl⟩ : ∃ s : Nat, size = s := ⟨size.toNat, by omega⟩
    have hs1 : 1 ≤ s := by omega
    have hs2 : s ≤ 7 := by omega
    have HS := hide (fun w1 => pow_spec s hs2 w1)
    clear hs
    by_cases h0 : n < 0
    · have HN := hide (putB_neg (size := s) h0)
      clear hc hn hl hw
      go_enter Tryz.func75, Tryz.ntmps75
      go_wp2_with (go_at_call 107; refine (unhide HS _).mono ?_; rintro e w' ⟨rfl, hw'⟩; obtain rfl := Eq.symm hw')
      go_ret2
      exact PutPost.no HN.out (Keeps.refl _)
    · have hp := pow_le7 hs2
      by_cases hlt : n < ((256 ^ s : Nat) : Int)
      · have HB := hide (putB_yes hs1 hs2 (by omega) hlt)
        obtain ⟨m, rfl⟩ : ∃ m : Nat, n = m := ⟨n.toNat, by omega⟩
        have HC := hide (hc.kept (Keeps.alloc (Keeps.refl w) (.cells #[] 5)))
        have HO := hide (World.ownsRow_made (base := w.heap.size) (e := 5) (size := 1) w #[] 0 (Nat.le_refl _) (by decide) rfl)
        have HH := hide hn
        have HL : Hid (([] : List UInt8).length + L.length ≤ 4194304) := by show _ ≤ _; simp; omega
        have HLL := hide hl
        clear hc hn hw hl
        have HLt := hide hlt
        clear hlt
        generalize hP : 256 ^ s = p at *
        have hlt : (m : Int) < p := HLt.out
        have HP := hide hP
        clear hP
        go_enter Tryz.func75, Tryz.ntmps75
        go_wp2_with (first
          | (go_at_call 107; refine (unhide HS _).mono ?_; rintro e w' ⟨rfl, hw'⟩; obtain rfl := Eq.symm hw')
          | (at_builtin; refine app_bys rfl (.tmp 26) (.tmp 27) rfl w.heap.size _ [] L rfl a cap rfl HC.out HH.out HO.out HL.out (by simp) ?_; intro v1 w1 ho1 hg1))
        have HO1 : Hid (OwnsB w1 w.heap.size v1 L) := by show OwnsB _ _ _ _; simpa using ho1
        have HK1 := hide (Keeps.grown (Keeps.alloc (Keeps.refl w) (.cells #[] 5)) hg1 (fun k hk => (HO.out.lt k hk).1))
        have hm2 : m ≤ 72057594037927936 := by omega
        clear ho1 hg1 HLt hlt
        go_loopw [8, 9] (fun x y wr => ∃ k : Nat, k ≤ s ∧ y = .int .i64 ((s : Int) - 1 - k) ∧ Hid (OwnsB wr w.heap.size x (L ++ digsTo m s k)) ∧ Hid (Keeps w wr)) (fun _ y _ => (intOf y + 1).toNat)
        case atStart => exact ⟨0, by omega, by simp, by show OwnsB _ _ _ _; simpa [digsTo] using HO1.out, HK1⟩
        case round =>
          obtain ⟨k, hk, rfl, HOr, HKr⟩ := hrel
          by_cases hlt : k < s
          · have HW := hide (fun w1 => pow_spec (s - 1 - k) (by omega) w1)
            rw [show ((s - 1 - k : Nat) : Int) = (s : Int) - 1 - k by omega] at HW
            have hq1 : 1 ≤ 256 ^ (s - 1 - k) := Nat.one_le_pow _ _ (by decide)
            have hq2 := pow_le6 (k := s - 1 - k) (by omega)
            generalize hQ : 256 ^ (s - 1 - k) = q at *
            have HQ := hide hQ
            clear hQ
            have hd0 : (0 : Int) ≤ (m : Int) / (q : Int) := Int.ediv_nonneg (by omega) (by omega)
            have hd1 : (m : Int) / (q : Int) ≤ 72057594037927936 := Int.le_trans (Int.ediv_le_self _ (by omega)) (by omega)
            have HL2 : Hid ((L ++ digsTo m s k).length + [UInt8.ofNat (m / q)].length ≤ 4194304) := by have := HLL.out; show _ ≤ _; simp [digsTo_length]; omega
            have HC1 : Hid (Cells (wr.alloc (.cells #[.int .u8 ((m : Int) / (q : Int) % 256)] 5)) (some ⟨wr.heap.size, 0, none⟩) (bys [UInt8.ofNat (m / q)])) := by
              show Cells _ _ _
              rw [← Int.natCast_ediv, ← byV_ofNat]
              exact cells_one wr _
            have HO2 := hide (HOr.out.alloc (.cells #[.int .u8 ((m : Int) / (q : Int) % 256)] 5))
            have HK2 := hide (Keeps.alloc HKr.out (.cells #[.int .u8 ((m : Int) / (q : Int) % 256)] 5))
            go_wp2_with (first
              | (go_at_call 107; refine (unhide HW _).mono ?_; rintro e w' ⟨rfl, hw'⟩; obtain rfl := Eq.symm hw')
              | (at_builtin; refine app_bys rfl (.tmp 35) (.tmp 42) rfl w.heap.size _ (L ++ digsTo m s k) [UInt8.ofNat (m / q)] rfl (some ⟨wr.heap.size, 0, none⟩) 1 rfl HC1.out (fun e => nomatch e) HO2.out HL2.out (by have := HKr.out.size; simp; omega) ?_; intro v' w' ho hg))
            go_roundw
            case rel =>
              refine ⟨k + 1, by omega, by congr 1; omega, ?_, Keeps.grown HK2.out hg (fun j hj => (HO2.out.lt j hj).1)⟩
              show OwnsB _ _ _ _
              rw [digsTo_succ, ← List.append_assoc, HQ.out]; exact ho
            case measure => simp [intOf]; omega
          · have e : k = s := by omega
            subst e
            go_wp2_with fail
            go_ret2
            exact PutPost.yes HB.out HOr.out HKr.out
      · have HN := hide (putB_great (n := n) (s := s) (by omega))
        clear hc hn hl hw
        generalize 256 ^ s = p at *
        go_enter Tryz.func75, Tryz.ntmps75
        go_wp2_with (go_at_call 107; refine (unhide HS _).mono ?_; rintro e w' ⟨rfl, hw'⟩; obtain rfl := Eq.symm hw')
        go_ret2
        exact PutPost.no HN.out (Keeps.refl _)
  · have HN := hide (putB_size (n := n) hs)
    clear hc hn hl hw
    by_cases h1 : size < 1
    · clear hs
      go_enter Tryz.func75, Tryz.ntmps75
      go_wp2_with fail
      go_ret2
      exact PutPost.no HN.out (Keeps.refl _)
    · have h2 : 7 < size := by omega
      clear hs
      go_enter Tryz.func75, Tryz.ntmps75
      go_wp2_with fail
      go_ret2
      exact PutPost.no HN.out (Keeps.refl _)
end Go.Proofs.YtkdnddckogbgaaaGreatDoor
namespace Go.Proofs.YtkdnddckogbgaaaGreatDoor
open Go.RowKit Go.Deep
set_option linter.unusedVariables false
set_option maxRecDepth 10000

/-- The bytes of a sector. -/
def secL (q e : Nat) (L : List UInt8) : List UInt8 := [74] ++ digs q 3 ++ digs e 3 ++ digs L.length 1 ++ L ++ List.replicate (114 - L.length) 0 ++ digs q 3 ++ digs e 3
def secR (q e : Int) (L : List UInt8) : List UInt8 := if secB q e L.length = true then secL q.toNat e.toNat L else []
theorem secL_length {q e : Nat} {L : List UInt8} (h : L.length ≤ 100) : (secL q e L).length = 128 := by
  simp [secL, digs_length]; omega
theorem secR_length (q e : Int) (L : List UInt8) : (secR q e L).length ≤ 128 := by
  unfold secR
  split
  · rename_i h
    simp only [secB, Bool.and_eq_true, decide_eq_true_eq] at h
    rw [secL_length h.2]; exact Nat.le_refl _
  · simp
def SecPost (w : World) (q e : Int) (L : List UInt8) (x : Ending) (w' : World) : Prop := ∃ v, x = .returned (.tuple #[v, .bool (secB q e L.length)]) ∧ OwnsB w' w.heap.size v (secR q e L) ∧ Keeps w w'
theorem SecPost.no {w w' : World} {q e : Int} {L : List UInt8} (h : secB q e L.length = false) (hk : Keeps w w') : SecPost w q e L (.returned (.tuple #[.slice none 0 0, .bool false])) w' :=
  ⟨_, by rw [h], by unfold secR; rw [h]; exact OwnsB.nil _ _, hk⟩
theorem SecPost.yes {w w' : World} {q e : Nat} {L : List UInt8} {v : Value} (h : secB q e L.length = true) (ho : OwnsB w' w.heap.size v (secL q e L)) (hk : Keeps w w') : SecPost w q e L (.returned (.tuple #[v, .bool true])) w' :=
  ⟨_, by rw [h], by unfold secR; rw [if_pos h]; exact ho, hk⟩
theorem OwnsB.alloc {w : World} {base : Nat} {v : Value} {L : List UInt8} (h : OwnsB w base v L) (o : Obj) : OwnsB (w.alloc o) base v L := World.ownsRow.alloc h o
theorem secB_true {q e : Int} {n : Nat} (h : secB q e n = true) : 0 ≤ q ∧ q < 600 ∧ 1 ≤ e ∧ e ≤ 16000000 ∧ n ≤ 100 := by
  simp only [secB, Bool.and_eq_true, decide_eq_true_eq] at h
  exact ⟨h.1.1.1.1, h.1.1.1.2, h.1.1.2, h.1.2, h.2⟩
theorem make_sec (w : World) : (Instr.makeSlice 22 (.int .i64 0) (.int .i64 128)).run Tryz.prog w = .ok (.slice (some ⟨w.heap.size, 0, none⟩) 0 128) (w.alloc (.cells (madeCells #[.int .u8 0] 128) 5)) := by
  have hI := infoByte
  cases hi : Tryz.prog.info? 5 with
  | none => rw [hi] at hI; simp at hI
  | some i =>
    rw [hi] at hI
    simp at hI
    obtain ⟨hz, hs, hb⟩ := hI
    have h := run_make (P := Tryz.prog) w 22 5 i _ underBytes hi hz .i64 .i64 0 128 (by omega) (by omega) (by rw [hb]; omega) (by omega)
    rw [hs] at h
    exact h

set_option maxHeartbeats 2000000 in
theorem secbytes_impl (q e : Int) (a : Option Addr) (cap : Nat) (L : List UInt8) (w : World) (hc : Cells w a (bys L)) (hn : a = none → cap = 0) (hl : L.length ≤ 9223372036854775807) :
    Calls Tryz.prog 71 #[secV q e a L.length cap] w (SecPost w q e L) := by
  have HOK := hide (fun w1 => secok_impl q e a L.length cap w1 hl)
  have HKA := hide (Keeps.alloc (Keeps.refl w) (.cells #[.int .i64 q, .int .i64 e, .slice a L.length cap] 72))
  have HD : Hid (∀ w', Keeps (w.alloc (.cells #[.int .i64 q, .int .i64 e, .slice a L.length cap] 72)) w' → w'.cell? ⟨w.heap.size, 0, none⟩ = some (.int .i64 q) ∧ w'.cell? ⟨w.heap.size, 1, none⟩ = some (.int .i64 e) ∧ w'.cell? ⟨w.heap.size, 2, none⟩ = some (.slice a L.length cap)) :=
    fun w' hk => ⟨hk.cell (by simp), hk.cell (by simp), hk.cell (by simp)⟩
  have HC := hide (hc.kept HKA.out)
  have HH := hide hn
  clear hc hn
  cases hb : secB q e L.length
  · rw [hb] at HOK
    have HB := hide hb
    clear hb
    go_enter Tryz.func71, Tryz.ntmps71
    go_wp2_with (go_at_call 104; refine (unhide HOK _).mono ?_; rintro x w1 ⟨rfl, hk1⟩)
    go_ret2
    exact SecPost.no HB.out (HKA.out.trans hk1)
  · rw [hb] at HOK
    obtain ⟨hq0, hq1, he0, he1, hL⟩ := secB_true hb
    obtain ⟨q, rfl⟩ : ∃ n : Nat, q = n := ⟨q.toNat, by omega⟩
    obtain ⟨e, rfl⟩ : ∃ n : Nat, e = n := ⟨e.toNat, by omega⟩
    have HB := hide hb
    have HQ : Hid (q < 9223372036854775808) := by show _ < _; omega
    have HE : Hid (e < 9223372036854775808) := by show _ < _; omega
    have HN : Hid (L.length < 9223372036854775808) := by show _ < _; omega
    have HL := hide hL
    clear hb hl hq0 hq1 he0 he1
    go_enter Tryz.func71, Tryz.ntmps71
    go_wp2_with fail
    refine (unhide HOK _).mono ?_
    rintro x w1 ⟨rfl, hk1⟩
    have HK1 := hide hk1
    replace HC := hide (HC.out.kept hk1)
    obtain ⟨d0, d1, d2⟩ := HD.out _ hk1
    clear hk1
    have hmk := make_sec
    have HO0 := hide (World.ownsRow_made (base := w1.heap.size) (e := 5) (size := 1) w1 (madeCells #[.int .u8 0] 128) 128 (Nat.le_refl _) (by decide) (by rw [size_madeCells]))
    have HOJ : Hid (OwnsB ((w1.alloc (.cells (madeCells #[.int .u8 0] 128) 5)).alloc (.cells #[.int .u8 74] 5)) w1.heap.size (.slice (some ⟨w1.heap.size, 0, none⟩) 0 128) []) := HO0.out.alloc _
    have HCJ : Hid (Cells ((w1.alloc (.cells (madeCells #[.int .u8 0] 128) 5)).alloc (.cells #[.int .u8 74] 5)) (some ⟨w1.heap.size + 1, 0, none⟩) (bys [74])) := by
      have h := cells_one (w1.alloc (.cells (madeCells #[.int .u8 0] 128) 5)) 74
      rw [World.size_alloc] at h
      exact h
    have HKJ := hide (Keeps.alloc (Keeps.alloc (Keeps.refl w1) (.cells (madeCells #[.int .u8 0] 128) 5)) (.cells #[.int .u8 74] 5))
    go_wp2_with (at_builtin; refine app_bys rfl (.tmp 9) (.tmp 10) rfl w1.heap.size _ [] [74] rfl (some ⟨w1.heap.size + 1, 0, none⟩) 1 rfl HCJ.out (fun e => nomatch e) HOJ.out (by decide) (by simp; omega) ?_; intro v2 w2 ho2 hg2; have HK2 := hide (Keeps.grown HKJ.out hg2 (fun k hk => (HOJ.out.lt k hk).1)); have HO2 : Hid (OwnsB w2 w1.heap.size v2 [74]) := ho2; obtain ⟨d0', d1', d2'⟩ := HD.out _ (HK1.out.trans HK2.out); clear ho2 hg2 d0 d1 d2)
    clear HO0 HOJ HCJ HKJ hmk
    refine (appnum_k v2 ([74]) q 3 w1.heap.size w2 (by decide) (by decide) HQ.out (by have := HL.out; simp; try omega) HO2.out HK2.out.size w1 (Nat.le_refl _) HK2.out).mono ?_
    rintro x w3 ⟨v3, rfl, ho, _, hk⟩
    have HK3 := hide hk
    have HO3 := hide ho
    clear d0' d1' d2' ho hk HO2 HK2
    obtain ⟨d0', d1', d2'⟩ := HD.out _ (HK1.out.trans HK3.out)
    go_wp2_with fail
    refine (appnum_k v3 ([74] ++ digs q 3) e 3 w1.heap.size w3 (by decide) (by decide) HE.out (by have := HL.out; simp [digs_length]; try omega) HO3.out HK3.out.size w1 (Nat.le_refl _) HK3.out).mono ?_
    rintro x w4 ⟨v4, rfl, ho, _, hk⟩
    have HK4 := hide hk
    have HO4 := hide ho
    clear d0' d1' d2' ho hk HO3 HK3
    obtain ⟨d0', d1', d2'⟩ := HD.out _ (HK1.out.trans HK4.out)
    go_wp2_with fail
    refine (appnum_k v4 ([74] ++ digs q 3 ++ digs e 3) L.length 1 w1.heap.size w4 (by decide) (by decide) HN.out (by have := HL.out; simp [digs_length]; try omega) HO4.out HK4.out.size w1 (Nat.le_refl _) HK4.out).mono ?_
    rintro x w5 ⟨v5, rfl, ho, _, hk⟩
    have HK5 := hide hk
    have HO5 := hide ho
    clear d0' d1' d2' ho hk HO4 HK4
    obtain ⟨d0', d1', d2'⟩ := HD.out _ (HK1.out.trans HK5.out)
    have HX : Hid (([74] ++ digs q 3 ++ digs e 3 ++ digs L.length 1).length + L.length ≤ 4194304) := by have := HL.out; show _ ≤ _; simp [digs_length]; omega
    have HM : Hid (([74] ++ digs q 3 ++ digs e 3 ++ digs L.length 1 ++ L).length = 8 + L.length) := by show _ = _; simp [digs_length]; omega
    generalize hM : [74] ++ digs q 3 ++ digs e 3 ++ digs L.length 1 ++ L = M at HM
    have hm1 : M.length ≤ 108 := by have := HM.out; omega
    have hm2 : 8 ≤ M.length := by have := HM.out; omega
    have HMM := hide hM
    clear hM
    go_wp2_with (first
      | (at_builtin; refine app_bys rfl (.tmp 25) (.tmp 27) rfl w1.heap.size v5 ([74] ++ digs q 3 ++ digs e 3 ++ digs L.length 1) L rfl a cap rfl (HC.out.kept HK5.out) HH.out HO5.out HX.out HK5.out.size ?_; intro v6 w6 ho hg; rw [HMM.out] at ho; have HK6 := hide (Keeps.grown HK5.out hg (fun k hk => (HO5.out.lt k hk).1)); have HO6 := hide ho; obtain ⟨a6, c6, rfl, _⟩ := Own.of_owns ho; clear d0' d1' d2' ho hg HO5 HK5; obtain ⟨d0', d1', d2'⟩ := HD.out _ (HK1.out.trans HK6.out))
      | (at_builtin; refine app_zeros rfl (.tmp 29) (.tmp 32) rfl w1.heap.size _ M (122 - M.length) rfl _ rfl (by omega) (by omega) (by omega) HO6.out (by omega) HK6.out.size ?_; intro v7 w7 ho hg; have HK7 := hide (Keeps.grown HK6.out hg (fun k hk => (HO6.out.lt k hk).1)); have HO7 := hide ho; clear d0' d1' d2' ho hg HO6 HK6; obtain ⟨d0', d1', d2'⟩ := HD.out _ (HK1.out.trans HK7.out)))
    refine (appnum_k v7 (M ++ List.replicate (122 - M.length) 0) q 3 w1.heap.size w7 (by decide) (by decide) HQ.out (by have := HL.out; simp; try omega) HO7.out HK7.out.size w1 (Nat.le_refl _) HK7.out).mono ?_
    rintro x w8 ⟨v8, rfl, ho, _, hk⟩
    have HK8 := hide hk
    have HO8 := hide ho
    clear d0' d1' d2' ho hk HO7 HK7
    obtain ⟨d0', d1', d2'⟩ := HD.out _ (HK1.out.trans HK8.out)
    go_wp2_with fail
    refine (appnum_k v8 (M ++ List.replicate (122 - M.length) 0 ++ digs q 3) e 3 w1.heap.size w8 (by decide) (by decide) HE.out (by have := HL.out; simp [digs_length]; try omega) HO8.out HK8.out.size w1 (Nat.le_refl _) HK8.out).mono ?_
    rintro x w9 ⟨v9, rfl, ho, _, hk⟩
    have HK9 := hide hk
    have HO9 := hide ho
    clear d0' d1' d2' ho hk HO8 HK8
    obtain ⟨d0', d1', d2'⟩ := HD.out _ (HK1.out.trans HK9.out)
    go_wp2_with fail
    go_ret2
    refine SecPost.yes HB.out ?_ (HKA.out.trans (HK1.out.trans HK9.out))
    have h := HO9.out
    rw [HM.out, show 122 - (8 + L.length) = 114 - L.length by omega, ← HMM.out] at h
    exact OwnsB.older h (HKA.out.trans HK1.out).size
end Go.Proofs.YtkdnddckogbgaaaGreatDoor
