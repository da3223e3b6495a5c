/- Texts of the verifier, joined: LgA, LaX, LgC. -/
import Derived.Test.YtkdnddckogbgaaaGreatDoorFO9
import Derived.Test.YtkdnddckogbgaaaGreatDoorFO7
import Derived.Test.YtkdnddckogbgaaaGreatDoorFO10
import Derived.Test.YtkdnddckogbgaaaGreatDoorFO13
import Derived.Test.YtkdnddckogbgaaaGreatDoorFO15
import Derived.ChangeSame
import Derived.WideShapes
import Derived.Below
import Derived.Test.YtkdnddckogbgaaaGreatDoorFO23
namespace Go.Proofs.YtkdnddckogbgaaaGreatDoor
open Go.RowKit Go.Deep
set_option linter.unusedVariables false
set_option maxRecDepth 10000

/-- May an event be added there? -/
def logB (m : DkM) (nx ep : Int) : Bool := dokM m && (decide (0 ≤ nx) && decide (nx ≤ m.cells.length) && decide (1 ≤ ep) && decide (ep ≤ 16000000))
theorem logB_no {m : DkM} {nx ep : Int} (h : dokM m = false ∨ nx < 0 ∨ (m.cells.length : Int) < nx ∨ ep < 1 ∨ 16000000 < ep) : logB m nx ep = false := by
  unfold logB
  rcases h with h | h | h | h | h
  · rw [h]; rfl
  · rw [decide_eq_false (p := 0 ≤ nx) (by omega)]; simp
  · rw [decide_eq_false (p := nx ≤ (m.cells.length : Int)) (by omega)]; simp
  · rw [decide_eq_false (p := 1 ≤ ep) (by omega)]; simp
  · rw [decide_eq_false (p := ep ≤ 16000000) (by omega)]; simp
theorem logB_yes {m : DkM} {nx ep : Int} (h : dokM m = true) (h0 : 0 ≤ nx) (h1 : nx ≤ (m.cells.length : Int)) (h2 : 1 ≤ ep) (h3 : ep ≤ 16000000) : logB m nx ep = true := by
  unfold logB
  rw [h, decide_eq_true h0, decide_eq_true h1, decide_eq_true h2, decide_eq_true h3]; rfl
theorem logB_true {m : DkM} {nx ep : Int} (h : logB m nx ep = true) : dokM m = true ∧ 0 ≤ nx ∧ nx ≤ (m.cells.length : Int) ∧ 1 ≤ ep ∧ ep ≤ 16000000 := by
  simp only [logB, Bool.and_eq_true, decide_eq_true_eq] at h
  exact ⟨h.1, h.2.1.1.1, h.2.1.1.2, h.2.1.2, h.2.2⟩
/-- The code of LogAdd. -/
def addC (m : DkM) (nx ep : Int) (e : Bool) : Int := if (logB m nx ep && e) = true then (if nx = m.cells.length ∨ m.dirty.length = 600 then 2 else 0) else 1
def addM (m : DkM) (nx ep : Int) (e : Bool) (L : List UInt8) : DkM := if addC m nx ep e = 0 then writeM m nx (secR nx ep L) else noM
def addN (m : DkM) (nx ep : Int) (e : Bool) : Int := if addC m nx ep e = 0 then nx + 1 else 0
def addE (m : DkM) (nx ep : Int) (e : Bool) : Int := if addC m nx ep e = 0 then ep else 0
/-- What LogAdd answers. -/
def AddPost (w : World) (m : DkM) (nx ep : Int) (e : Bool) (L : List UInt8) (x : Ending) (w' : World) : Prop := ∃ v, x = .returned (.tuple #[v, .int .i64 (addC m nx ep e)]) ∧ LogRes w w' v (addM m nx ep e L) (addN m nx ep e) (addE m nx ep e) ∧ Keeps w w'
theorem AddPost.no {w w' : World} {m : DkM} {nx ep : Int} {e : Bool} {L : List UInt8} {c : Int} (hc : addC m nx ep e = c) (h0 : c ≠ 0) (hk : Keeps w w') : AddPost w m nx ep e L (.returned (.tuple #[.agg #[.slice none 0 0, .slice none 0 0, .int .i64 0, .int .i64 0], .int .i64 c])) w' := by
  have h1 : addC m nx ep e ≠ 0 := hc ▸ h0
  refine ⟨_, by rw [hc], ?_, hk⟩
  unfold addM addN addE
  rw [if_neg h1, if_neg h1, if_neg h1]
  exact LogRes.none _ _
theorem AddPost.yes {w w' : World} {m : DkM} {nx ep : Int} {e : Bool} {L : List UInt8} {v : Value} (hc : addC m nx ep e = 0) (hr : LogRes w w' v (writeM m nx (secR nx ep L)) (nx + 1) ep) (hk : Keeps w w') : AddPost w m nx ep e L (.returned (.tuple #[v, .int .i64 0])) w' := by
  refine ⟨_, by rw [hc], ?_, hk⟩
  unfold addM addN addE
  rw [if_pos hc, if_pos hc, if_pos hc]
  exact hr
theorem addC_one {m : DkM} {nx ep : Int} {e : Bool} (h : (logB m nx ep && e) = false) : addC m nx ep e = 1 := by unfold addC; rw [h]; rfl
theorem addC_two {m : DkM} {nx ep : Int} {e : Bool} (h : logB m nx ep = true) (he : e = true) (h2 : nx = m.cells.length ∨ m.dirty.length = 600) : addC m nx ep e = 2 := by simp [addC, h, he, h2]
theorem addC_zero {m : DkM} {nx ep : Int} {e : Bool} (h : logB m nx ep = true) (he : e = true) (h2 : ¬ (nx = m.cells.length ∨ m.dirty.length = 600)) : addC m nx ep e = 0 := by simp [addC, h, he, h2]
set_option maxHeartbeats 4000000 in
theorem with_impl (ca : Option Addr) (cc : Nat) (cs : List Bs) (da : Option Addr) (dc : Nat) (ds : List Wr) (nx ep : Int) (ba : Option Addr) (bc : Nat) (bL : List UInt8) (w : World) (hm : Mem w (dsk ca cs da ds)) (h : DOk cs ds) (hb : Cells w ba (bys bL)) (hbn : ba = none → bc = 0) (hbl : bL.length ≤ 1048576) (hn0 : 0 ≤ nx) (hn1 : nx ≤ 1048576) :
    Calls Tryz.prog 35 #[logV ca cs.length cc da ds.length dc nx ep, .slice ba bL.length bc] w fun e w' => ∃ v, e = .returned v ∧ LogRes w w' v (writeM (dat cs ds) nx (secR nx ep bL)) (nx + 1) ep ∧ Keeps w w' := by
  have HKA := hide (Keeps.alloc (Keeps.alloc (Keeps.refl w) (.cells #[.slice ca cs.length cc, .slice da ds.length dc, .int .i64 nx, .int .i64 ep] 28)) (.cells #[.slice none 0 0, .slice none 0 0, .int .i64 0, .int .i64 0] 28))
  have HM := hide (hm.kept HKA.out)
  have HDO := hide h
  have HT := hide (secbytes_impl nx ep ba bc bL _ (hb.kept HKA.out) hbn (Nat.le_trans hbl (by decide)))
  have HR := hide (row_new (w.alloc (.cells #[.slice ca cs.length cc, .slice da ds.length dc, .int .i64 nx, .int .i64 ep] 28)) #[.slice none 0 0, .slice none 0 0, .int .i64 0, .int .i64 0] 28)
  have HS : Hid ((w.alloc (.cells #[.slice ca cs.length cc, .slice da ds.length dc, .int .i64 nx, .int .i64 ep] 28)).heap.size = w.heap.size + 1 ∧ ((w.alloc (.cells #[.slice ca cs.length cc, .slice da ds.length dc, .int .i64 nx, .int .i64 ep] 28)).alloc (.cells #[.slice none 0 0, .slice none 0 0, .int .i64 0, .int .i64 0] 28)).heap.size = w.heap.size + 1 + 1) := by show _ ∧ _; exact ⟨by simp, by simp⟩
  rw [HS.out.1] at HR
  have HD : Hid (∀ w', Keeps ((w.alloc (.cells #[.slice ca cs.length cc, .slice da ds.length dc, .int .i64 nx, .int .i64 ep] 28)).alloc (.cells #[.slice none 0 0, .slice none 0 0, .int .i64 0, .int .i64 0] 28)) w' → w'.cell? ⟨w.heap.size, 0, none⟩ = some (.slice ca cs.length cc) ∧ w'.cell? ⟨w.heap.size, 1, none⟩ = some (.slice da ds.length dc) ∧ w'.cell? ⟨w.heap.size, 2, none⟩ = some (.int .i64 nx) ∧ w'.cell? ⟨w.heap.size, 3, none⟩ = some (.int .i64 ep)) :=
    fun w' hk => ⟨hk.cell (by simp), hk.cell (by simp), hk.cell (by simp), hk.cell (by simp)⟩
  clear hm h hb hbn hbl
  go_enter Tryz.func35, Tryz.ntmps35
  go_wp2_with fail
  have HSz := hide HS.out.2
  generalize ((w.alloc (.cells #[.slice ca cs.length cc, .slice da ds.length dc, .int .i64 nx, .int .i64 ep] 28)).alloc (.cells #[.slice none 0 0, .slice none 0 0, .int .i64 0, .int .i64 0] 28)) = W0 at *
  refine (unhide HT).mono ?_
  rintro x w1 ⟨v, rfl, ho, hk⟩
  obtain ⟨sa, sc, rfl, hsn, hbo⟩ := Born.of_owns ho
  obtain ⟨d0, d1, d2, d3⟩ := HD.out _ hk
  replace HR := hide (hk.row HR.out)
  have HK1 := hide hk
  have HT2 := hide (diskwrite_impl ca cc cs da dc ds nx sa sc (secR nx ep bL) w1 (HM.out.kept hk) HDO.out hbo.toOwn.one hsn.1 (Nat.le_trans (secR_length _ _ _) (by decide)))
  clear hk ho hsn hbo HT HS
  go_wp2_with fail
  refine (unhide HT2).mono ?_
  rintro x w2 ⟨v, rfl, hr, hk⟩
  obtain ⟨ca2, cc2, cs2, da2, dc2, ds2, rfl, he, hok, hna, hnd, hb⟩ := hr
  clear d0 d1 d2 d3
  obtain ⟨d0, d1, d2, d3⟩ := HD.out _ ((HK1.out.trans hk).alloc (.cells #[.slice ca2 cs2.length cc2, .slice da2 ds2.length dc2] 26))
  replace HR := hide (((Keeps.refl w2).alloc (.cells #[.slice ca2 cs2.length cc2, .slice da2 ds2.length dc2] 26)).row (hk.row HR.out))
  have HKW := hide (((HKA.out.trans HK1.out).trans hk).alloc (.cells #[.slice ca2 cs2.length cc2, .slice da2 ds2.length dc2] 26))
  have hz : w.heap.size + 1 + 1 ≤ w2.heap.size := by have := (HK1.out.trans hk).size; have := HSz.out; omega
  have q0 := HR.out.cell (i := 0) (by decide)
  have q1 := HR.out.cell (i := 1) (by decide)
  have q2 := HR.out.cell (i := 2) (by decide)
  have q3 := HR.out.cell (i := 3) (by decide)
  have g0 := HR.out.frozen 0
  have g1 := HR.out.frozen 1
  have g2 := HR.out.frozen 2
  have g3 := HR.out.frozen 3
  simp only [Array.getD] at q0 q1 q2 q3
  simp at q0 q1 q2 q3
  have HB := hide (((hb.kept ((Keeps.refl w2).alloc (.cells #[.slice ca2 cs2.length cc2, .slice da2 ds2.length dc2] 26))).old (HKA.out.trans HK1.out)))
  have HBN : Hid (∀ b ∈ fp (dsk ca2 cs2 da2 ds2), w.heap.size + 1 + 1 ≤ b) := fun b hb1 => by have := hb.new b hb1; have := HK1.out.size; have := HSz.out; omega
  have HF := hide (⟨he, hok, hna, hnd⟩ : _ ∧ _ ∧ _ ∧ _)
  clear hk hb he hok hna hnd HT2
  go_wp2_with fail
  have r9 := ((((HR.out.set 0 (.slice ca2 cs2.length cc2)).set 1 (.slice da2 ds2.length dc2)).set 2 (.int .i64 (nx + 1))).set 3 (.int .i64 ep))
  have c0 := r9.cell (i := 0) (by decide)
  have c1 := r9.cell (i := 1) (by decide)
  have c2 := r9.cell (i := 2) (by decide)
  have c3 := r9.cell (i := 3) (by decide)
  simp at c0 c1 c2 c3
  have HSs : Hid (Turn [w.heap.size + 1] (w2.alloc (.cells #[.slice ca2 cs2.length cc2, .slice da2 ds2.length dc2] 26)) (((((w2.alloc (.cells #[.slice ca2 cs2.length cc2, .slice da2 ds2.length dc2] 26)).setCell ⟨w.heap.size + 1, 0, none⟩ (.slice ca2 cs2.length cc2)).setCell ⟨w.heap.size + 1, 1, none⟩ (.slice da2 ds2.length dc2)).setCell ⟨w.heap.size + 1, 2, none⟩ (.int .i64 (nx + 1))).setCell ⟨w.heap.size + 1, 3, none⟩ (.int .i64 ep))) := ((((Turn.set (by simp) _).trans' (Turn.set (by simp) _)).trans' (Turn.set (by simp) _)).trans' (Turn.set (by simp) _))
  clear r9 HR q0 q1 q2 q3 g0 g1 g2 g3
  revert c0 c1 c2 c3 HSs
  generalize World.setCell _ _ _ = W
  intro c0 c1 c2 c3 HSs
  refine bodyPost_ret (v := logV ca2 cs2.length cc2 da2 ds2.length dc2 (nx + 1) ep) ?_ rfl ⟨_, rfl, ⟨ca2, cc2, cs2, da2, dc2, ds2, rfl, HF.out.1, HF.out.2.1, HF.out.2.2.1, HF.out.2.2.2, ?_⟩, ?_⟩
  · simp [results, Tryz.results35, go_sem, c0, c1, c2, c3]
  · refine HB.out.turn HSs.out ?_
    intro b hb hx
    have := HBN.out b hb
    simp at hx
    omega
  · refine HSs.out.keeps HKW.out ?_
    intro b hb
    simp at hb
    omega
end Go.Proofs.YtkdnddckogbgaaaGreatDoor
namespace Go.Proofs.YtkdnddckogbgaaaGreatDoor
open Go.RowKit Go.Deep
set_option linter.unusedVariables false
set_option linter.unusedSimpArgs false
set_option maxRecDepth 100000
theorem add_yes {m : DkM} {nx ep : Int} {e : Bool} (h : addC m nx ep e = 0) : dokM m = true ∧ 0 ≤ nx ∧ nx < m.cells.length ∧ 1 ≤ ep ∧ ep ≤ 16000000 ∧ m.dirty.length ≠ 600 ∧ e = true := by
  unfold addC at h
  split at h
  · next h1 =>
    simp only [Bool.and_eq_true] at h1
    obtain ⟨a1, a2, a3, a4, a5⟩ := logB_true h1.1
    split at h
    · exact absurd h (by decide)
    · next h2 => exact ⟨a1, a2, by omega, a4, a5, by omega, h1.2⟩
  · exact absurd h (by decide)
end Go.Proofs.YtkdnddckogbgaaaGreatDoor
namespace Go.Proofs.YtkdnddckogbgaaaGreatDoor
open Go.RowKit Go.Deep
set_option linter.unusedVariables false
set_option maxRecDepth 10000

set_option maxHeartbeats 8000000 in
theorem logadd_spec (ca : Option Addr) (cc : Nat) (cs : List Bs) (da : Option Addr) (dc : Nat) (ds : List Wr) (nx ep : Int) (k y c t m f : Int) (b : Bool) (w : World) (hm : Mem w (dsk ca cs da ds)) (h : DOk cs ds) :
    Calls Tryz.prog 8 #[logV ca cs.length cc da ds.length dc nx ep, evV k y c t m f b] w (AddPost w (dat cs ds) nx ep (evB k y c t m f b) (bodyR k y c t m f b)) := by
  have HKA := hide (Keeps.alloc (Keeps.alloc (Keeps.alloc (Keeps.refl w) (.cells #[.slice ca cs.length cc, .slice da ds.length dc, .int .i64 nx, .int .i64 ep] 28)) (.cells (evCells k y c t m f b) 30)) (.cells #[.slice none 0 0, .slice none 0 0, .int .i64 0, .int .i64 0] 28))
  have HM := hide (hm.kept HKA.out)
  have HDO := hide h
  have hcl := h.c
  have hdl := h.d
  have HLC : Hid ((dat cs ds).cells.length = cs.length ∧ (dat cs ds).dirty.length = ds.length) := by show _ ∧ _; simp [dat]
  have HR := hide (row_new ((w.alloc (.cells #[.slice ca cs.length cc, .slice da ds.length dc, .int .i64 nx, .int .i64 ep] 28)).alloc (.cells (evCells k y c t m f b) 30)) #[.slice none 0 0, .slice none 0 0, .int .i64 0, .int .i64 0] 28)
  have HS : Hid (((w.alloc (.cells #[.slice ca cs.length cc, .slice da ds.length dc, .int .i64 nx, .int .i64 ep] 28)).alloc (.cells (evCells k y c t m f b) 30)).heap.size = w.heap.size + 1 + 1 ∧ (((w.alloc (.cells #[.slice ca cs.length cc, .slice da ds.length dc, .int .i64 nx, .int .i64 ep] 28)).alloc (.cells (evCells k y c t m f b) 30)).alloc (.cells #[.slice none 0 0, .slice none 0 0, .int .i64 0, .int .i64 0] 28)).heap.size = w.heap.size + 1 + 1 + 1) := by show _ ∧ _; exact ⟨by simp, by simp⟩
  rw [HS.out.1] at HR
  have HD : Hid (∀ w', Keeps (((w.alloc (.cells #[.slice ca cs.length cc, .slice da ds.length dc, .int .i64 nx, .int .i64 ep] 28)).alloc (.cells (evCells k y c t m f b) 30)).alloc (.cells #[.slice none 0 0, .slice none 0 0, .int .i64 0, .int .i64 0] 28)) w' → w'.cell? ⟨w.heap.size, 0, none⟩ = some (.slice ca cs.length cc) ∧ w'.cell? ⟨w.heap.size, 1, none⟩ = some (.slice da ds.length dc) ∧ w'.cell? ⟨w.heap.size, 2, none⟩ = some (.int .i64 nx) ∧ w'.cell? ⟨w.heap.size, 3, none⟩ = some (.int .i64 ep)) := by
    have h0 : Keeps (w.alloc (.cells #[.slice ca cs.length cc, .slice da ds.length dc, .int .i64 nx, .int .i64 ep] 28)) (((w.alloc (.cells #[.slice ca cs.length cc, .slice da ds.length dc, .int .i64 nx, .int .i64 ep] 28)).alloc (.cells (evCells k y c t m f b) 30)).alloc (.cells #[.slice none 0 0, .slice none 0 0, .int .i64 0, .int .i64 0] 28)) := Keeps.alloc (Keeps.alloc (Keeps.refl _) _) _
    exact fun w' hk => ⟨(h0.trans hk).cell (by simp), (h0.trans hk).cell (by simp), (h0.trans hk).cell (by simp), (h0.trans hk).cell (by simp)⟩
  have HE : Hid (∀ w', Keeps (((w.alloc (.cells #[.slice ca cs.length cc, .slice da ds.length dc, .int .i64 nx, .int .i64 ep] 28)).alloc (.cells (evCells k y c t m f b) 30)).alloc (.cells #[.slice none 0 0, .slice none 0 0, .int .i64 0, .int .i64 0] 28)) w' → w'.cell? ⟨w.heap.size + 1, 0, none⟩ = some (.int .i64 k) ∧ w'.cell? ⟨w.heap.size + 1, 1, none⟩ = some (.int .i64 y) ∧ w'.cell? ⟨w.heap.size + 1, 2, none⟩ = some (.int .i64 c) ∧ w'.cell? ⟨w.heap.size + 1, 3, none⟩ = some (.int .i64 t) ∧ w'.cell? ⟨w.heap.size + 1, 4, none⟩ = some (.int .i64 m) ∧ w'.cell? ⟨w.heap.size + 1, 5, none⟩ = some (.int .i64 f) ∧ w'.cell? ⟨w.heap.size + 1, 6, none⟩ = some (.bool b)) := by
    have h0 : Keeps ((w.alloc (.cells #[.slice ca cs.length cc, .slice da ds.length dc, .int .i64 nx, .int .i64 ep] 28)).alloc (.cells (evCells k y c t m f b) 30)) (((w.alloc (.cells #[.slice ca cs.length cc, .slice da ds.length dc, .int .i64 nx, .int .i64 ep] 28)).alloc (.cells (evCells k y c t m f b) 30)).alloc (.cells #[.slice none 0 0, .slice none 0 0, .int .i64 0, .int .i64 0] 28)) := Keeps.alloc (Keeps.refl _) _
    have hn := (born_alloc (w.alloc (.cells #[.slice ca cs.length cc, .slice da ds.length dc, .int .i64 nx, .int .i64 ep] 28)) (evCells k y c t m f b) 30).toOwn
    intro w' hk
    have hn2 := hn.kept (h0.trans hk)
    simp only [World.size_alloc] at hn2
    exact ⟨cell_at hn2.mem 0 (by simp), cell_at hn2.mem 1 (by simp), cell_at hn2.mem 2 (by simp), cell_at hn2.mem 3 (by simp), cell_at hn2.mem 4 (by simp), cell_at hn2.mem 5 (by simp), cell_at hn2.mem 6 (by simp)⟩
  have HT := hide (diskok_spec' ca cc cs da dc ds _ HM.out h)
  obtain ⟨lb, hlb⟩ : ∃ lb, dokM (dat cs ds) = lb := ⟨_, rfl⟩
  rw [hlb] at HT
  have HLB := hide hlb
  obtain ⟨eb, heb⟩ : ∃ eb, evB k y c t m f b = eb := ⟨_, rfl⟩
  have HEB := hide heb
  clear hm h heb hlb
  have hk0 := Keeps.refl (((w.alloc (.cells #[.slice ca cs.length cc, .slice da ds.length dc, .int .i64 nx, .int .i64 ep] 28)).alloc (.cells (evCells k y c t m f b) 30)).alloc (.cells #[.slice none 0 0, .slice none 0 0, .int .i64 0, .int .i64 0] 28))
  obtain ⟨d0, d1, d2, d3⟩ := HD.out _ hk0
  obtain ⟨e0, e1, e2, e3, e4, e5, e6⟩ := HE.out _ hk0
  clear hk0
  go_enter Tryz.func8, Tryz.ntmps8
  go_wp2_with fail
  have HSz := hide HS.out.2
  generalize (((w.alloc (.cells #[.slice ca cs.length cc, .slice da ds.length dc, .int .i64 nx, .int .i64 ep] 28)).alloc (.cells (evCells k y c t m f b) 30)).alloc (.cells #[.slice none 0 0, .slice none 0 0, .int .i64 0, .int .i64 0] 28)) = W0 at *
  refine (unhide HT).mono ?_
  rintro x w1 ⟨rfl, hk⟩
  clear d0 d1 d2 d3 e0 e1 e2 e3 e4 e5 e6 HT HS
  obtain ⟨d0, d1, d2, d3⟩ := HD.out _ hk
  obtain ⟨e0, e1, e2, e3, e4, e5, e6⟩ := HE.out _ hk
  replace HR := hide (hk.row HR.out)
  have HK1 := hide hk
  have hz : w.heap.size + 1 + 1 + 1 ≤ w1.heap.size := by have := hk.size; have := HSz.out; omega
  have q0 := HR.out.cell (i := 0) (by decide)
  have q1 := HR.out.cell (i := 1) (by decide)
  have q2 := HR.out.cell (i := 2) (by decide)
  have q3 := HR.out.cell (i := 3) (by decide)
  have g0 := HR.out.frozen 0
  have g1 := HR.out.frozen 1
  have g2 := HR.out.frozen 2
  have g3 := HR.out.frozen 3
  simp only [Array.getD] at q0 q1 q2 q3
  simp at q0 q1 q2 q3
  clear hk
  cases lb
  · go_wp2_with fail
    have r9 := ((((HR.out.set 0 (.slice none 0 0)).set 1 (.slice none 0 0)).set 2 (.int .i64 0)).set 3 (.int .i64 0))
    have c0 := r9.cell (i := 0) (by decide)
    have c1 := r9.cell (i := 1) (by decide)
    have c2 := r9.cell (i := 2) (by decide)
    have c3 := r9.cell (i := 3) (by decide)
    simp at c0 c1 c2 c3
    have HSs : Hid (Turn [w.heap.size + 1 + 1] w1 ((((w1.setCell ⟨w.heap.size + 1 + 1, 0, none⟩ (.slice none 0 0)).setCell ⟨w.heap.size + 1 + 1, 1, none⟩ (.slice none 0 0)).setCell ⟨w.heap.size + 1 + 1, 2, none⟩ (.int .i64 0)).setCell ⟨w.heap.size + 1 + 1, 3, none⟩ (.int .i64 0))) := ((((Turn.set (by simp) _).trans' (Turn.set (by simp) _)).trans' (Turn.set (by simp) _)).trans' (Turn.set (by simp) _))
    clear r9 HR q0 q1 q2 q3 g0 g1 g2 g3
    revert c0 c1 c2 c3 HSs
    generalize World.setCell _ _ _ = W
    intro c0 c1 c2 c3 HSs
    refine bodyPost_ret (v := .tuple #[.agg #[.slice none 0 0, .slice none 0 0, .int .i64 0, .int .i64 0], .int .i64 1]) ?_ rfl (AddPost.no (addC_one (by rw [logB_no (.inl HLB.out), Bool.false_and])) (by decide) ?_)
    · simp [results, Tryz.results8, go_sem, c0, c1, c2, c3]
    · exact HSs.out.keeps (HKA.out.trans HK1.out) (fun b hb => by simp at hb; omega)
  · by_cases h0 : nx < 0
    · go_wp2_with fail
      have r9 := ((((HR.out.set 0 (.slice none 0 0)).set 1 (.slice none 0 0)).set 2 (.int .i64 0)).set 3 (.int .i64 0))
      have c0 := r9.cell (i := 0) (by decide)
      have c1 := r9.cell (i := 1) (by decide)
      have c2 := r9.cell (i := 2) (by decide)
      have c3 := r9.cell (i := 3) (by decide)
      simp at c0 c1 c2 c3
      have HSs : Hid (Turn [w.heap.size + 1 + 1] w1 ((((w1.setCell ⟨w.heap.size + 1 + 1, 0, none⟩ (.slice none 0 0)).setCell ⟨w.heap.size + 1 + 1, 1, none⟩ (.slice none 0 0)).setCell ⟨w.heap.size + 1 + 1, 2, none⟩ (.int .i64 0)).setCell ⟨w.heap.size + 1 + 1, 3, none⟩ (.int .i64 0))) := ((((Turn.set (by simp) _).trans' (Turn.set (by simp) _)).trans' (Turn.set (by simp) _)).trans' (Turn.set (by simp) _))
      clear r9 HR q0 q1 q2 q3 g0 g1 g2 g3
      revert c0 c1 c2 c3 HSs
      generalize World.setCell _ _ _ = W
      intro c0 c1 c2 c3 HSs
      refine bodyPost_ret (v := .tuple #[.agg #[.slice none 0 0, .slice none 0 0, .int .i64 0, .int .i64 0], .int .i64 1]) ?_ rfl (AddPost.no (addC_one (by rw [logB_no (.inr (.inl h0)), Bool.false_and])) (by decide) ?_)
      · simp [results, Tryz.results8, go_sem, c0, c1, c2, c3]
      · exact HSs.out.keeps (HKA.out.trans HK1.out) (fun b hb => by simp at hb; omega)
    · by_cases h1 : (cs.length : Int) < nx
      · go_wp2_with fail
        have r9 := ((((HR.out.set 0 (.slice none 0 0)).set 1 (.slice none 0 0)).set 2 (.int .i64 0)).set 3 (.int .i64 0))
        have c0 := r9.cell (i := 0) (by decide)
        have c1 := r9.cell (i := 1) (by decide)
        have c2 := r9.cell (i := 2) (by decide)
        have c3 := r9.cell (i := 3) (by decide)
        simp at c0 c1 c2 c3
        have HSs : Hid (Turn [w.heap.size + 1 + 1] w1 ((((w1.setCell ⟨w.heap.size + 1 + 1, 0, none⟩ (.slice none 0 0)).setCell ⟨w.heap.size + 1 + 1, 1, none⟩ (.slice none 0 0)).setCell ⟨w.heap.size + 1 + 1, 2, none⟩ (.int .i64 0)).setCell ⟨w.heap.size + 1 + 1, 3, none⟩ (.int .i64 0))) := ((((Turn.set (by simp) _).trans' (Turn.set (by simp) _)).trans' (Turn.set (by simp) _)).trans' (Turn.set (by simp) _))
        clear r9 HR q0 q1 q2 q3 g0 g1 g2 g3
        revert c0 c1 c2 c3 HSs
        generalize World.setCell _ _ _ = W
        intro c0 c1 c2 c3 HSs
        refine bodyPost_ret (v := .tuple #[.agg #[.slice none 0 0, .slice none 0 0, .int .i64 0, .int .i64 0], .int .i64 1]) ?_ rfl (AddPost.no (addC_one (by rw [logB_no (.inr (.inr (.inl (by rw [HLC.out.1]; exact h1)))), Bool.false_and])) (by decide) ?_)
        · simp [results, Tryz.results8, go_sem, c0, c1, c2, c3]
        · exact HSs.out.keeps (HKA.out.trans HK1.out) (fun b hb => by simp at hb; omega)
      · by_cases h2 : ep < 1
        · go_wp2_with fail
          have r9 := ((((HR.out.set 0 (.slice none 0 0)).set 1 (.slice none 0 0)).set 2 (.int .i64 0)).set 3 (.int .i64 0))
          have c0 := r9.cell (i := 0) (by decide)
          have c1 := r9.cell (i := 1) (by decide)
          have c2 := r9.cell (i := 2) (by decide)
          have c3 := r9.cell (i := 3) (by decide)
          simp at c0 c1 c2 c3
          have HSs : Hid (Turn [w.heap.size + 1 + 1] w1 ((((w1.setCell ⟨w.heap.size + 1 + 1, 0, none⟩ (.slice none 0 0)).setCell ⟨w.heap.size + 1 + 1, 1, none⟩ (.slice none 0 0)).setCell ⟨w.heap.size + 1 + 1, 2, none⟩ (.int .i64 0)).setCell ⟨w.heap.size + 1 + 1, 3, none⟩ (.int .i64 0))) := ((((Turn.set (by simp) _).trans' (Turn.set (by simp) _)).trans' (Turn.set (by simp) _)).trans' (Turn.set (by simp) _))
          clear r9 HR q0 q1 q2 q3 g0 g1 g2 g3
          revert c0 c1 c2 c3 HSs
          generalize World.setCell _ _ _ = W
          intro c0 c1 c2 c3 HSs
          refine bodyPost_ret (v := .tuple #[.agg #[.slice none 0 0, .slice none 0 0, .int .i64 0, .int .i64 0], .int .i64 1]) ?_ rfl (AddPost.no (addC_one (by rw [logB_no (.inr (.inr (.inr (.inl h2)))), Bool.false_and])) (by decide) ?_)
          · simp [results, Tryz.results8, go_sem, c0, c1, c2, c3]
          · exact HSs.out.keeps (HKA.out.trans HK1.out) (fun b hb => by simp at hb; omega)
        · by_cases h3 : 16000000 < ep
          · go_wp2_with fail
            have r9 := ((((HR.out.set 0 (.slice none 0 0)).set 1 (.slice none 0 0)).set 2 (.int .i64 0)).set 3 (.int .i64 0))
            have c0 := r9.cell (i := 0) (by decide)
            have c1 := r9.cell (i := 1) (by decide)
            have c2 := r9.cell (i := 2) (by decide)
            have c3 := r9.cell (i := 3) (by decide)
            simp at c0 c1 c2 c3
            have HSs : Hid (Turn [w.heap.size + 1 + 1] w1 ((((w1.setCell ⟨w.heap.size + 1 + 1, 0, none⟩ (.slice none 0 0)).setCell ⟨w.heap.size + 1 + 1, 1, none⟩ (.slice none 0 0)).setCell ⟨w.heap.size + 1 + 1, 2, none⟩ (.int .i64 0)).setCell ⟨w.heap.size + 1 + 1, 3, none⟩ (.int .i64 0))) := ((((Turn.set (by simp) _).trans' (Turn.set (by simp) _)).trans' (Turn.set (by simp) _)).trans' (Turn.set (by simp) _))
            clear r9 HR q0 q1 q2 q3 g0 g1 g2 g3
            revert c0 c1 c2 c3 HSs
            generalize World.setCell _ _ _ = W
            intro c0 c1 c2 c3 HSs
            refine bodyPost_ret (v := .tuple #[.agg #[.slice none 0 0, .slice none 0 0, .int .i64 0, .int .i64 0], .int .i64 1]) ?_ rfl (AddPost.no (addC_one (by rw [logB_no (.inr (.inr (.inr (.inr h3)))), Bool.false_and])) (by decide) ?_)
            · simp [results, Tryz.results8, go_sem, c0, c1, c2, c3]
            · exact HSs.out.keeps (HKA.out.trans HK1.out) (fun b hb => by simp at hb; omega)
          · have HLY : Hid (logB (dat cs ds) nx ep = true) := logB_yes HLB.out (by omega) (by rw [HLC.out.1]; omega) (by omega) (by omega)
            have HT := hide (evok_spec k y c t m f b w1)
            rw [HEB.out] at HT
            go_wp2_with fail
            refine (unhide HT).mono ?_
            rintro x w2 ⟨rfl, hk⟩
            clear d0 d1 d2 d3 e0 e1 e2 e3 e4 e5 e6 q0 q1 q2 q3 g0 g1 g2 g3 HT
            obtain ⟨d0, d1, d2, d3⟩ := HD.out _ (HK1.out.trans hk)
            obtain ⟨e0, e1, e2, e3, e4, e5, e6⟩ := HE.out _ (HK1.out.trans hk)
            replace HR := hide (hk.row HR.out)
            have HK2 := hide (HK1.out.trans hk)
            replace hz : w.heap.size + 1 + 1 + 1 ≤ w2.heap.size := by have := hk.size; omega
            have q0 := HR.out.cell (i := 0) (by decide)
            have q1 := HR.out.cell (i := 1) (by decide)
            have q2 := HR.out.cell (i := 2) (by decide)
            have q3 := HR.out.cell (i := 3) (by decide)
            have g0 := HR.out.frozen 0
            have g1 := HR.out.frozen 1
            have g2 := HR.out.frozen 2
            have g3 := HR.out.frozen 3
            simp only [Array.getD] at q0 q1 q2 q3
            simp at q0 q1 q2 q3
            clear hk
            cases eb
            · go_wp2_with fail
              have r9 := ((((HR.out.set 0 (.slice none 0 0)).set 1 (.slice none 0 0)).set 2 (.int .i64 0)).set 3 (.int .i64 0))
              have c0 := r9.cell (i := 0) (by decide)
              have c1 := r9.cell (i := 1) (by decide)
              have c2 := r9.cell (i := 2) (by decide)
              have c3 := r9.cell (i := 3) (by decide)
              simp at c0 c1 c2 c3
              have HSs : Hid (Turn [w.heap.size + 1 + 1] w2 ((((w2.setCell ⟨w.heap.size + 1 + 1, 0, none⟩ (.slice none 0 0)).setCell ⟨w.heap.size + 1 + 1, 1, none⟩ (.slice none 0 0)).setCell ⟨w.heap.size + 1 + 1, 2, none⟩ (.int .i64 0)).setCell ⟨w.heap.size + 1 + 1, 3, none⟩ (.int .i64 0))) := ((((Turn.set (by simp) _).trans' (Turn.set (by simp) _)).trans' (Turn.set (by simp) _)).trans' (Turn.set (by simp) _))
              clear r9 HR q0 q1 q2 q3 g0 g1 g2 g3
              revert c0 c1 c2 c3 HSs
              generalize World.setCell _ _ _ = W
              intro c0 c1 c2 c3 HSs
              refine bodyPost_ret (v := .tuple #[.agg #[.slice none 0 0, .slice none 0 0, .int .i64 0, .int .i64 0], .int .i64 1]) ?_ rfl (AddPost.no (addC_one (by rw [HEB.out, Bool.and_false])) (by decide) ?_)
              · simp [results, Tryz.results8, go_sem, c0, c1, c2, c3]
              · exact HSs.out.keeps (HKA.out.trans HK2.out) (fun b hb => by simp at hb; omega)
            · have hd6 := (dokM_len HLB.out).2.2
              rw [HLC.out.2] at hd6
              by_cases h5 : nx = (cs.length : Int)
              · go_wp2_with fail
                have r9 := ((((HR.out.set 0 (.slice none 0 0)).set 1 (.slice none 0 0)).set 2 (.int .i64 0)).set 3 (.int .i64 0))
                have c0 := r9.cell (i := 0) (by decide)
                have c1 := r9.cell (i := 1) (by decide)
                have c2 := r9.cell (i := 2) (by decide)
                have c3 := r9.cell (i := 3) (by decide)
                simp at c0 c1 c2 c3
                have HSs : Hid (Turn [w.heap.size + 1 + 1] w2 ((((w2.setCell ⟨w.heap.size + 1 + 1, 0, none⟩ (.slice none 0 0)).setCell ⟨w.heap.size + 1 + 1, 1, none⟩ (.slice none 0 0)).setCell ⟨w.heap.size + 1 + 1, 2, none⟩ (.int .i64 0)).setCell ⟨w.heap.size + 1 + 1, 3, none⟩ (.int .i64 0))) := ((((Turn.set (by simp) _).trans' (Turn.set (by simp) _)).trans' (Turn.set (by simp) _)).trans' (Turn.set (by simp) _))
                clear r9 HR q0 q1 q2 q3 g0 g1 g2 g3
                revert c0 c1 c2 c3 HSs
                generalize World.setCell _ _ _ = W
                intro c0 c1 c2 c3 HSs
                refine bodyPost_ret (v := .tuple #[.agg #[.slice none 0 0, .slice none 0 0, .int .i64 0, .int .i64 0], .int .i64 2]) ?_ rfl (AddPost.no (addC_two HLY.out HEB.out (.inl (by rw [HLC.out.1]; exact h5))) (by decide) ?_)
                · simp [results, Tryz.results8, go_sem, c0, c1, c2, c3]
                · exact HSs.out.keeps (HKA.out.trans HK2.out) (fun b hb => by simp at hb; omega)
              · have hq1 : (nx == (cs.length : Int)) = false := beq_eq_false_iff_ne.2 h5
                by_cases h6 : (600 : Int) ≤ ds.length
                · go_wp2_with fail
                  have r9 := ((((HR.out.set 0 (.slice none 0 0)).set 1 (.slice none 0 0)).set 2 (.int .i64 0)).set 3 (.int .i64 0))
                  have c0 := r9.cell (i := 0) (by decide)
                  have c1 := r9.cell (i := 1) (by decide)
                  have c2 := r9.cell (i := 2) (by decide)
                  have c3 := r9.cell (i := 3) (by decide)
                  simp at c0 c1 c2 c3
                  have HSs : Hid (Turn [w.heap.size + 1 + 1] w2 ((((w2.setCell ⟨w.heap.size + 1 + 1, 0, none⟩ (.slice none 0 0)).setCell ⟨w.heap.size + 1 + 1, 1, none⟩ (.slice none 0 0)).setCell ⟨w.heap.size + 1 + 1, 2, none⟩ (.int .i64 0)).setCell ⟨w.heap.size + 1 + 1, 3, none⟩ (.int .i64 0))) := ((((Turn.set (by simp) _).trans' (Turn.set (by simp) _)).trans' (Turn.set (by simp) _)).trans' (Turn.set (by simp) _))
                  clear r9 HR q0 q1 q2 q3 g0 g1 g2 g3
                  revert c0 c1 c2 c3 HSs
                  generalize World.setCell _ _ _ = W
                  intro c0 c1 c2 c3 HSs
                  refine bodyPost_ret (v := .tuple #[.agg #[.slice none 0 0, .slice none 0 0, .int .i64 0, .int .i64 0], .int .i64 2]) ?_ rfl (AddPost.no (addC_two HLY.out HEB.out (.inr (by rw [HLC.out.2]; omega))) (by decide) ?_)
                  · simp [results, Tryz.results8, go_sem, c0, c1, c2, c3]
                  · exact HSs.out.keeps (HKA.out.trans HK2.out) (fun b hb => by simp at hb; omega)
                · have HT := hide (body_spec k y c t m f b w2)
                  have hq2 : decide ((600 : Int) ≤ ds.length) = false := decide_eq_false h6
                  go_wp2_with fail
                  refine (unhide HT).mono ?_
                  rintro x w3 ⟨v, rfl, ho, hk⟩
                  obtain ⟨ba, bc, rfl, hbn, hbo⟩ := Born.of_owns ho
                  clear d0 d1 d2 d3 e0 e1 e2 e3 e4 e5 e6 q0 q1 q2 q3 g0 g1 g2 g3 HT ho
                  obtain ⟨d0, d1, d2, d3⟩ := HD.out _ (HK2.out.trans hk)
                  obtain ⟨e0, e1, e2, e3, e4, e5, e6⟩ := HE.out _ (HK2.out.trans hk)
                  replace HR := hide (hk.row HR.out)
                  have HK3 := hide (HK2.out.trans hk)
                  replace hz : w.heap.size + 1 + 1 + 1 ≤ w3.heap.size := by have := hk.size; omega
                  have HT := hide (secbytes_spec nx ep ba bc (bodyR k y c t m f b) w3 hbo.toOwn.one hbn.1 (Nat.le_trans (bodyR_length k y c t m f b) (by decide)))
                  clear hk hbn hbo
                  go_wp2_with fail
                  refine (unhide HT).mono ?_
                  rintro x w4 ⟨v, rfl, ho, hk⟩
                  obtain ⟨sa, sc, rfl, hbn, hbo⟩ := Born.of_owns ho
                  clear d0 d1 d2 d3 e0 e1 e2 e3 e4 e5 e6 HT ho
                  obtain ⟨d0, d1, d2, d3⟩ := HD.out _ (HK3.out.trans hk)
                  obtain ⟨e0, e1, e2, e3, e4, e5, e6⟩ := HE.out _ (HK3.out.trans hk)
                  replace HR := hide (hk.row HR.out)
                  have HK4 := hide (HK3.out.trans hk)
                  replace hz : w.heap.size + 1 + 1 + 1 ≤ w4.heap.size := by have := hk.size; omega
                  have HT := hide (diskwrite_spec ca cc cs da dc ds nx sa sc (secR nx ep (bodyR k y c t m f b)) w4 (HM.out.kept HK4.out) HDO.out hbo.toOwn.one hbn.1 (Nat.le_trans (secR_length _ _ _) (by decide)))
                  clear hk hbn hbo
                  go_wp2_with fail
                  refine (unhide HT).mono ?_
                  rintro x w5 ⟨v, rfl, hr, hk⟩
                  obtain ⟨ca3, cc3, cs3, da3, dc3, ds3, rfl, he, hok, hna, hnd, hb⟩ := hr
                  clear d0 d1 d2 d3 e0 e1 e2 e3 e4 e5 e6 HT
                  obtain ⟨d0, d1, d2, d3⟩ := HD.out _ ((HK4.out.trans hk).alloc (.cells #[.slice ca3 cs3.length cc3, .slice da3 ds3.length dc3] 26))
                  obtain ⟨e0, e1, e2, e3, e4, e5, e6⟩ := HE.out _ ((HK4.out.trans hk).alloc (.cells #[.slice ca3 cs3.length cc3, .slice da3 ds3.length dc3] 26))
                  replace HR := hide (((Keeps.refl w5).alloc (.cells #[.slice ca3 cs3.length cc3, .slice da3 ds3.length dc3] 26)).row (hk.row HR.out))
                  have HK5 := hide ((HK4.out.trans hk).alloc (.cells #[.slice ca3 cs3.length cc3, .slice da3 ds3.length dc3] 26))
                  replace hz : w.heap.size + 1 + 1 + 1 ≤ w5.heap.size := by have := hk.size; omega
                  have q0 := HR.out.cell (i := 0) (by decide)
                  have q1 := HR.out.cell (i := 1) (by decide)
                  have q2 := HR.out.cell (i := 2) (by decide)
                  have q3 := HR.out.cell (i := 3) (by decide)
                  have g0 := HR.out.frozen 0
                  have g1 := HR.out.frozen 1
                  have g2 := HR.out.frozen 2
                  have g3 := HR.out.frozen 3
                  simp only [Array.getD] at q0 q1 q2 q3
                  simp at q0 q1 q2 q3
                  have HBN : Hid (∀ b ∈ fp (dsk ca3 cs3 da3 ds3), w.heap.size + 1 + 1 + 1 ≤ b) := fun b hb1 => by have := hb.new b hb1; have := HK4.out.size; have := HSz.out; omega
                  have HB := hide ((hb.kept ((Keeps.refl w5).alloc (.cells #[.slice ca3 cs3.length cc3, .slice da3 ds3.length dc3] 26))).old (HKA.out.trans HK4.out))
                  have HF := hide (⟨he, hok, hna, hnd⟩ : _ ∧ _ ∧ _ ∧ _)
                  clear hk hb he hok hna hnd
                  go_wp2_with fail
                  have r9 := ((((HR.out.set 0 (.slice ca3 cs3.length cc3)).set 1 (.slice da3 ds3.length dc3)).set 2 (.int .i64 (nx + 1))).set 3 (.int .i64 ep))
                  have c0 := r9.cell (i := 0) (by decide)
                  have c1 := r9.cell (i := 1) (by decide)
                  have c2 := r9.cell (i := 2) (by decide)
                  have c3 := r9.cell (i := 3) (by decide)
                  simp at c0 c1 c2 c3
                  have HSs : Hid (Turn [w.heap.size + 1 + 1] (w5.alloc (.cells #[.slice ca3 cs3.length cc3, .slice da3 ds3.length dc3] 26)) (((((w5.alloc (.cells #[.slice ca3 cs3.length cc3, .slice da3 ds3.length dc3] 26)).setCell ⟨w.heap.size + 1 + 1, 0, none⟩ (.slice ca3 cs3.length cc3)).setCell ⟨w.heap.size + 1 + 1, 1, none⟩ (.slice da3 ds3.length dc3)).setCell ⟨w.heap.size + 1 + 1, 2, none⟩ (.int .i64 (nx + 1))).setCell ⟨w.heap.size + 1 + 1, 3, none⟩ (.int .i64 ep))) := ((((Turn.set (by simp) _).trans' (Turn.set (by simp) _)).trans' (Turn.set (by simp) _)).trans' (Turn.set (by simp) _))
                  clear r9 HR q0 q1 q2 q3 g0 g1 g2 g3
                  revert c0 c1 c2 c3 HSs
                  generalize World.setCell _ _ _ = W
                  intro c0 c1 c2 c3 HSs
                  refine bodyPost_ret (v := .tuple #[logV ca3 cs3.length cc3 da3 ds3.length dc3 (nx + 1) ep, .int .i64 0]) ?_ rfl (AddPost.yes (addC_zero HLY.out HEB.out (fun hx => by rw [HLC.out.1, HLC.out.2] at hx; omega)) ⟨ca3, cc3, cs3, da3, dc3, ds3, rfl, HF.out.1, HF.out.2.1, HF.out.2.2.1, HF.out.2.2.2, ?_⟩ ?_)
                  · simp [results, Tryz.results8, go_sem, c0, c1, c2, c3]
                  · refine HB.out.turn HSs.out ?_
                    intro b hb hx
                    have := HBN.out b hb
                    simp at hx
                    omega
                  · refine HSs.out.keeps (HKA.out.trans HK5.out) ?_
                    intro b hb
                    simp at hb
                    omega
end Go.Proofs.YtkdnddckogbgaaaGreatDoor
