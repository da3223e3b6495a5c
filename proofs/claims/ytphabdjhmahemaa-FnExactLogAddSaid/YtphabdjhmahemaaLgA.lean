/- What LogAdd answers; its parts. -/
import Derived.Test.YtphabdjhmahemaaLgS
import Derived.Test.YtphabdjhmahemaaDWs
import Derived.Test.YtphabdjhmahemaaSBS
import Derived.Test.YtphabdjhmahemaaEBI
import Derived.Test.YtphabdjhmahemaaEBS
import Derived.Test.YtphabdjhmahemaaEvR
namespace Go.Proofs.Ytphabdjhmahemaa
open Go.RowKit Go.Deep
set_option linter.unusedVariables false
set_option maxRecDepth 10000

/-- May an event be added there? -/
def logB (m : DkM) (nx ep : Int) : Bool := dokM m && (decide (0 ≤ nx) && decide (nx ≤ m.cells.length) && decide (1 ≤ ep) && decide (ep ≤ 16000000))
theorem logB_no {m : DkM} {nx ep : Int} (h : dokM m = false ∨ nx < 0 ∨ (m.cells.length : Int) < nx ∨ ep < 1 ∨ 16000000 < ep) : logB m nx ep = false := by
  unfold logB
  rcases h with h | h | h | h | h
  · rw [h]; rfl
  · rw [decide_eq_false (p := 0 ≤ nx) (by omega)]; simp
  · rw [decide_eq_false (p := nx ≤ (m.cells.length : Int)) (by omega)]; simp
  · rw [decide_eq_false (p := 1 ≤ ep) (by omega)]; simp
  · rw [decide_eq_false (p := ep ≤ 16000000) (by omega)]; simp
theorem logB_yes {m : DkM} {nx ep : Int} (h : dokM m = true) (h0 : 0 ≤ nx) (h1 : nx ≤ (m.cells.length : Int)) (h2 : 1 ≤ ep) (h3 : ep ≤ 16000000) : logB m nx ep = true := by
  unfold logB
  rw [h, decide_eq_true h0, decide_eq_true h1, decide_eq_true h2, decide_eq_true h3]; rfl
theorem logB_true {m : DkM} {nx ep : Int} (h : logB m nx ep = true) : dokM m = true ∧ 0 ≤ nx ∧ nx ≤ (m.cells.length : Int) ∧ 1 ≤ ep ∧ ep ≤ 16000000 := by
  simp only [logB, Bool.and_eq_true, decide_eq_true_eq] at h
  exact ⟨h.1, h.2.1.1.1, h.2.1.1.2, h.2.1.2, h.2.2⟩
/-- The code of LogAdd. -/
def addC (m : DkM) (nx ep : Int) (e : Bool) : Int := if (logB m nx ep && e) = true then (if nx = m.cells.length ∨ m.dirty.length = 600 then 2 else 0) else 1
def addM (m : DkM) (nx ep : Int) (e : Bool) (L : List UInt8) : DkM := if addC m nx ep e = 0 then writeM m nx (secR nx ep L) else noM
def addN (m : DkM) (nx ep : Int) (e : Bool) : Int := if addC m nx ep e = 0 then nx + 1 else 0
def addE (m : DkM) (nx ep : Int) (e : Bool) : Int := if addC m nx ep e = 0 then ep else 0
/-- What LogAdd answers. -/
def AddPost (w : World) (m : DkM) (nx ep : Int) (e : Bool) (L : List UInt8) (x : Ending) (w' : World) : Prop := ∃ v, x = .returned (.tuple #[v, .int .i64 (addC m nx ep e)]) ∧ LogRes w w' v (addM m nx ep e L) (addN m nx ep e) (addE m nx ep e) ∧ Keeps w w'
theorem AddPost.no {w w' : World} {m : DkM} {nx ep : Int} {e : Bool} {L : List UInt8} {c : Int} (hc : addC m nx ep e = c) (h0 : c ≠ 0) (hk : Keeps w w') : AddPost w m nx ep e L (.returned (.tuple #[.agg #[.slice none 0 0, .slice none 0 0, .int .i64 0, .int .i64 0], .int .i64 c])) w' := by
  have h1 : addC m nx ep e ≠ 0 := hc ▸ h0
  refine ⟨_, by rw [hc], ?_, hk⟩
  unfold addM addN addE
  rw [if_neg h1, if_neg h1, if_neg h1]
  exact LogRes.none _ _
theorem AddPost.yes {w w' : World} {m : DkM} {nx ep : Int} {e : Bool} {L : List UInt8} {v : Value} (hc : addC m nx ep e = 0) (hr : LogRes w w' v (writeM m nx (secR nx ep L)) (nx + 1) ep) (hk : Keeps w w') : AddPost w m nx ep e L (.returned (.tuple #[v, .int .i64 0])) w' := by
  refine ⟨_, by rw [hc], ?_, hk⟩
  unfold addM addN addE
  rw [if_pos hc, if_pos hc, if_pos hc]
  exact hr
theorem addC_one {m : DkM} {nx ep : Int} {e : Bool} (h : (logB m nx ep && e) = false) : addC m nx ep e = 1 := by unfold addC; rw [h]; rfl
theorem addC_two {m : DkM} {nx ep : Int} {e : Bool} (h : logB m nx ep = true) (he : e = true) (h2 : nx = m.cells.length ∨ m.dirty.length = 600) : addC m nx ep e = 2 := by simp [addC, h, he, h2]
theorem addC_zero {m : DkM} {nx ep : Int} {e : Bool} (h : logB m nx ep = true) (he : e = true) (h2 : ¬ (nx = m.cells.length ∨ m.dirty.length = 600)) : addC m nx ep e = 0 := by simp [addC, h, he, h2]
set_option maxHeartbeats 4000000 in
theorem with_impl (ca : Option Addr) (cc : Nat) (cs : List Bs) (da : Option Addr) (dc : Nat) (ds : List Wr) (nx ep : Int) (ba : Option Addr) (bc : Nat) (bL : List UInt8) (w : World) (hm : Mem w (dsk ca cs da ds)) (h : DOk cs ds) (hb : Cells w ba (bys bL)) (hbn : ba = none → bc = 0) (hbl : bL.length ≤ 1048576) (hn0 : 0 ≤ nx) (hn1 : nx ≤ 1048576) :
    Calls Try.prog 50 #[logV ca cs.length cc da ds.length dc nx ep, .slice ba bL.length bc] w fun e w' => ∃ v, e = .returned v ∧ LogRes w w' v (writeM (dat cs ds) nx (secR nx ep bL)) (nx + 1) ep ∧ Keeps w w' := by
  have HKA := hide (Keeps.alloc (Keeps.alloc (Keeps.refl w) (.cells #[.slice ca cs.length cc, .slice da ds.length dc, .int .i64 nx, .int .i64 ep] 47)) (.cells #[.slice none 0 0, .slice none 0 0, .int .i64 0, .int .i64 0] 47))
  have HM := hide (hm.kept HKA.out)
  have HDO := hide h
  have HT := hide (secbytes_impl nx ep ba bc bL _ (hb.kept HKA.out) hbn (Nat.le_trans hbl (by decide)))
  have HR := hide (row_new (w.alloc (.cells #[.slice ca cs.length cc, .slice da ds.length dc, .int .i64 nx, .int .i64 ep] 47)) #[.slice none 0 0, .slice none 0 0, .int .i64 0, .int .i64 0] 47)
  have HS : Hid ((w.alloc (.cells #[.slice ca cs.length cc, .slice da ds.length dc, .int .i64 nx, .int .i64 ep] 47)).heap.size = w.heap.size + 1 ∧ ((w.alloc (.cells #[.slice ca cs.length cc, .slice da ds.length dc, .int .i64 nx, .int .i64 ep] 47)).alloc (.cells #[.slice none 0 0, .slice none 0 0, .int .i64 0, .int .i64 0] 47)).heap.size = w.heap.size + 1 + 1) := by show _ ∧ _; exact ⟨by simp, by simp⟩
  rw [HS.out.1] at HR
  have HD : Hid (∀ w', Keeps ((w.alloc (.cells #[.slice ca cs.length cc, .slice da ds.length dc, .int .i64 nx, .int .i64 ep] 47)).alloc (.cells #[.slice none 0 0, .slice none 0 0, .int .i64 0, .int .i64 0] 47)) w' → w'.cell? ⟨w.heap.size, 0, none⟩ = some (.slice ca cs.length cc) ∧ w'.cell? ⟨w.heap.size, 1, none⟩ = some (.slice da ds.length dc) ∧ w'.cell? ⟨w.heap.size, 2, none⟩ = some (.int .i64 nx) ∧ w'.cell? ⟨w.heap.size, 3, none⟩ = some (.int .i64 ep)) :=
    fun w' hk => ⟨hk.cell (by simp), hk.cell (by simp), hk.cell (by simp), hk.cell (by simp)⟩
  clear hm h hb hbn hbl
  go_enter Try.func50, Try.ntmps50
  go_wp2_with fail
  have HSz := hide HS.out.2
  generalize ((w.alloc (.cells #[.slice ca cs.length cc, .slice da ds.length dc, .int .i64 nx, .int .i64 ep] 47)).alloc (.cells #[.slice none 0 0, .slice none 0 0, .int .i64 0, .int .i64 0] 47)) = W0 at *
  refine (unhide HT).mono ?_
  rintro x w1 ⟨v, rfl, ho, hk⟩
  obtain ⟨sa, sc, rfl, hsn, hbo⟩ := Born.of_owns ho
  obtain ⟨d0, d1, d2, d3⟩ := HD.out _ hk
  replace HR := hide (hk.row HR.out)
  have HK1 := hide hk
  have HT2 := hide (diskwrite_impl ca cc cs da dc ds nx sa sc (secR nx ep bL) w1 (HM.out.kept hk) HDO.out hbo.toOwn.one hsn.1 (Nat.le_trans (secR_length _ _ _) (by decide)))
  clear hk ho hsn hbo HT HS
  go_wp2_with fail
  refine (unhide HT2).mono ?_
  rintro x w2 ⟨v, rfl, hr, hk⟩
  obtain ⟨ca2, cc2, cs2, da2, dc2, ds2, rfl, he, hok, hna, hnd, hb⟩ := hr
  clear d0 d1 d2 d3
  obtain ⟨d0, d1, d2, d3⟩ := HD.out _ ((HK1.out.trans hk).alloc (.cells #[.slice ca2 cs2.length cc2, .slice da2 ds2.length dc2] 31))
  replace HR := hide (((Keeps.refl w2).alloc (.cells #[.slice ca2 cs2.length cc2, .slice da2 ds2.length dc2] 31)).row (hk.row HR.out))
  have HKW := hide (((HKA.out.trans HK1.out).trans hk).alloc (.cells #[.slice ca2 cs2.length cc2, .slice da2 ds2.length dc2] 31))
  have hz : w.heap.size + 1 + 1 ≤ w2.heap.size := by have := (HK1.out.trans hk).size; have := HSz.out; omega
  have q0 := HR.out.cell (i := 0) (by decide)
  have q1 := HR.out.cell (i := 1) (by decide)
  have q2 := HR.out.cell (i := 2) (by decide)
  have q3 := HR.out.cell (i := 3) (by decide)
  have g0 := HR.out.frozen 0
  have g1 := HR.out.frozen 1
  have g2 := HR.out.frozen 2
  have g3 := HR.out.frozen 3
  simp only [Array.getD] at q0 q1 q2 q3
  simp at q0 q1 q2 q3
  have HB := hide (((hb.kept ((Keeps.refl w2).alloc (.cells #[.slice ca2 cs2.length cc2, .slice da2 ds2.length dc2] 31))).old (HKA.out.trans HK1.out)))
  have HBN : Hid (∀ b ∈ fp (dsk ca2 cs2 da2 ds2), w.heap.size + 1 + 1 ≤ b) := fun b hb1 => by have := hb.new b hb1; have := HK1.out.size; have := HSz.out; omega
  have HF := hide (⟨he, hok, hna, hnd⟩ : _ ∧ _ ∧ _ ∧ _)
  clear hk hb he hok hna hnd HT2
  go_wp2_with fail
  have r9 := ((((HR.out.set 0 (.slice ca2 cs2.length cc2)).set 1 (.slice da2 ds2.length dc2)).set 2 (.int .i64 (nx + 1))).set 3 (.int .i64 ep))
  have c0 := r9.cell (i := 0) (by decide)
  have c1 := r9.cell (i := 1) (by decide)
  have c2 := r9.cell (i := 2) (by decide)
  have c3 := r9.cell (i := 3) (by decide)
  simp at c0 c1 c2 c3
  have HSs : Hid (Turn [w.heap.size + 1] (w2.alloc (.cells #[.slice ca2 cs2.length cc2, .slice da2 ds2.length dc2] 31)) (((((w2.alloc (.cells #[.slice ca2 cs2.length cc2, .slice da2 ds2.length dc2] 31)).setCell ⟨w.heap.size + 1, 0, none⟩ (.slice ca2 cs2.length cc2)).setCell ⟨w.heap.size + 1, 1, none⟩ (.slice da2 ds2.length dc2)).setCell ⟨w.heap.size + 1, 2, none⟩ (.int .i64 (nx + 1))).setCell ⟨w.heap.size + 1, 3, none⟩ (.int .i64 ep))) := ((((Turn.set (by simp) _).trans' (Turn.set (by simp) _)).trans' (Turn.set (by simp) _)).trans' (Turn.set (by simp) _))
  clear r9 HR q0 q1 q2 q3 g0 g1 g2 g3
  revert c0 c1 c2 c3 HSs
  generalize World.setCell _ _ _ = W
  intro c0 c1 c2 c3 HSs
  refine bodyPost_ret (v := logV ca2 cs2.length cc2 da2 ds2.length dc2 (nx + 1) ep) ?_ rfl ⟨_, rfl, ⟨ca2, cc2, cs2, da2, dc2, ds2, rfl, HF.out.1, HF.out.2.1, HF.out.2.2.1, HF.out.2.2.2, ?_⟩, ?_⟩
  · simp [results, Try.results50, go_sem, c0, c1, c2, c3]
  · refine HB.out.turn HSs.out ?_
    intro b hb hx
    have := HBN.out b hb
    simp at hx
    omega
  · refine HSs.out.keeps HKW.out ?_
    intro b hb
    simp at hb
    omega
set_option maxHeartbeats 4000000 in
theorem logok_impl (ca : Option Addr) (cc : Nat) (cs : List Bs) (da : Option Addr) (dc : Nat) (ds : List Wr) (nx ep : Int) (w : World) (hm : Mem w (dsk ca cs da ds)) (h : DOk cs ds) :
    Calls Try.prog 49 #[logV ca cs.length cc da ds.length dc nx ep] w fun e w' => e = .returned (.bool (logB (dat cs ds) nx ep)) ∧ Keeps w w' := by
  have HKA := hide (Keeps.alloc (Keeps.refl w) (.cells #[.slice ca cs.length cc, .slice da ds.length dc, .int .i64 nx, .int .i64 ep] 47))
  have HT := hide (diskok_impl' ca cc cs da dc ds _ (hm.kept HKA.out) h)
  have hcl := h.c
  have HL : Hid ((dat cs ds).cells.length = cs.length) := by show _ = _; simp [dat]
  have HD : Hid (∀ w', Keeps (w.alloc (.cells #[.slice ca cs.length cc, .slice da ds.length dc, .int .i64 nx, .int .i64 ep] 47)) w' → w'.cell? ⟨w.heap.size, 0, none⟩ = some (.slice ca cs.length cc) ∧ w'.cell? ⟨w.heap.size, 1, none⟩ = some (.slice da ds.length dc) ∧ w'.cell? ⟨w.heap.size, 2, none⟩ = some (.int .i64 nx) ∧ w'.cell? ⟨w.heap.size, 3, none⟩ = some (.int .i64 ep)) :=
    fun w' hk => ⟨hk.cell (by simp), hk.cell (by simp), hk.cell (by simp), hk.cell (by simp)⟩
  obtain ⟨b, hbb⟩ : ∃ b, dokM (dat cs ds) = b := ⟨_, rfl⟩
  rw [hbb] at HT
  have HBB := hide hbb
  clear hm h hbb
  go_enter Try.func49, Try.ntmps49
  go_wp2_with fail
  refine (unhide HT).mono ?_
  rintro x w1 ⟨rfl, hk⟩
  obtain ⟨d0, d1, d2, d3⟩ := HD.out _ hk
  replace HKA := hide (HKA.out.trans hk)
  clear hk HT
  cases b
  · go_wp2_with fail
    go_ret
    exact ⟨(congrArg (fun z => Ending.returned (Value.bool z)) (logB_no (.inl HBB.out))).symm, HKA.out⟩
  · by_cases h0 : 0 ≤ nx
    · by_cases h1 : nx ≤ (cs.length : Int)
      · by_cases h2 : 1 ≤ ep
        · by_cases h3 : ep ≤ 16000000
          · go_wp2_with fail
            go_ret
            exact ⟨(congrArg (fun z => Ending.returned (Value.bool z)) (logB_yes HBB.out h0 (by rw [HL.out]; exact h1) h2 h3)).symm, HKA.out⟩
          · go_wp2_with fail
            go_ret
            exact ⟨congrArg (fun z => Ending.returned (Value.bool z)) ((decide_eq_false (p := ep ≤ 16000000) (by omega)).trans (logB_no (.inr (.inr (.inr (.inr (by omega)))))).symm), HKA.out⟩
        · go_wp2_with fail
          go_ret
          exact ⟨(congrArg (fun z => Ending.returned (Value.bool z)) (logB_no (.inr (.inr (.inr (.inl (by omega))))))).symm, HKA.out⟩
      · go_wp2_with fail
        go_ret
        exact ⟨(congrArg (fun z => Ending.returned (Value.bool z)) (logB_no (.inr (.inr (.inl (by rw [HL.out]; omega)))))).symm, HKA.out⟩
    · go_wp2_with fail
      go_ret
      exact ⟨(congrArg (fun z => Ending.returned (Value.bool z)) (logB_no (.inr (.inl (by omega))))).symm, HKA.out⟩
end Go.Proofs.Ytphabdjhmahemaa
