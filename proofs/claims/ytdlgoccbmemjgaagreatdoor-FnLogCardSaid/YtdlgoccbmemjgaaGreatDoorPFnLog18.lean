/- Texts of the verifier, joined: LgA, LaX, LgC, DrV. -/
import Derived.Test.YtdlgoccbmemjgaaGreatDoorPFnLog17
import Derived.Test.YtdlgoccbmemjgaaGreatDoorPFnLog6
import Derived.Test.YtdlgoccbmemjgaaGreatDoorPFnLog5
import Derived.Test.YtdlgoccbmemjgaaGreatDoorPFnLog12
import Derived.ChangeSame
import Derived.WideShapes
import Derived.Below
import Derived.Test.YtdlgoccbmemjgaaGreatDoorPFnLog8
namespace Go.Proofs.YtdlgoccbmemjgaaGreatDoor
open Go.RowKit Go.Deep
set_option linter.unusedVariables false
set_option maxRecDepth 10000

/-- May an event be added there? -/
def logB (m : DkM) (nx ep : Int) : Bool := dokM m && (decide (0 ≤ nx) && decide (nx ≤ m.cells.length) && decide (1 ≤ ep) && decide (ep ≤ 16000000))
theorem logB_no {m : DkM} {nx ep : Int} (h : dokM m = false ∨ nx < 0 ∨ (m.cells.length : Int) < nx ∨ ep < 1 ∨ 16000000 < ep) : logB m nx ep = false := by
  unfold logB
  rcases h with h | h | h | h | h
  · rw [h]; rfl
  · rw [decide_eq_false (p := 0 ≤ nx) (by omega)]; simp
  · rw [decide_eq_false (p := nx ≤ (m.cells.length : Int)) (by omega)]; simp
  · rw [decide_eq_false (p := 1 ≤ ep) (by omega)]; simp
  · rw [decide_eq_false (p := ep ≤ 16000000) (by omega)]; simp
theorem logB_yes {m : DkM} {nx ep : Int} (h : dokM m = true) (h0 : 0 ≤ nx) (h1 : nx ≤ (m.cells.length : Int)) (h2 : 1 ≤ ep) (h3 : ep ≤ 16000000) : logB m nx ep = true := by
  unfold logB
  rw [h, decide_eq_true h0, decide_eq_true h1, decide_eq_true h2, decide_eq_true h3]; rfl
theorem logB_true {m : DkM} {nx ep : Int} (h : logB m nx ep = true) : dokM m = true ∧ 0 ≤ nx ∧ nx ≤ (m.cells.length : Int) ∧ 1 ≤ ep ∧ ep ≤ 16000000 := by
  simp only [logB, Bool.and_eq_true, decide_eq_true_eq] at h
  exact ⟨h.1, h.2.1.1.1, h.2.1.1.2, h.2.1.2, h.2.2⟩
/-- The code of LogAdd. -/
def addC (m : DkM) (nx ep : Int) (e : Bool) : Int := if (logB m nx ep && e) = true then (if nx = m.cells.length ∨ m.dirty.length = 600 then 2 else 0) else 1
def addM (m : DkM) (nx ep : Int) (e : Bool) (L : List UInt8) : DkM := if addC m nx ep e = 0 then writeM m nx (secR nx ep L) else noM
def addN (m : DkM) (nx ep : Int) (e : Bool) : Int := if addC m nx ep e = 0 then nx + 1 else 0
def addE (m : DkM) (nx ep : Int) (e : Bool) : Int := if addC m nx ep e = 0 then ep else 0
/-- What LogAdd answers. -/
def AddPost (w : World) (m : DkM) (nx ep : Int) (e : Bool) (L : List UInt8) (x : Ending) (w' : World) : Prop := ∃ v, x = .returned (.tuple #[v, .int .i64 (addC m nx ep e)]) ∧ LogRes w w' v (addM m nx ep e L) (addN m nx ep e) (addE m nx ep e) ∧ Keeps w w'
theorem AddPost.no {w w' : World} {m : DkM} {nx ep : Int} {e : Bool} {L : List UInt8} {c : Int} (hc : addC m nx ep e = c) (h0 : c ≠ 0) (hk : Keeps w w') : AddPost w m nx ep e L (.returned (.tuple #[.agg #[.slice none 0 0, .slice none 0 0, .int .i64 0, .int .i64 0], .int .i64 c])) w' := by
  have h1 : addC m nx ep e ≠ 0 := hc ▸ h0
  refine ⟨_, by rw [hc], ?_, hk⟩
  unfold addM addN addE
  rw [if_neg h1, if_neg h1, if_neg h1]
  exact LogRes.none _ _
theorem AddPost.yes {w w' : World} {m : DkM} {nx ep : Int} {e : Bool} {L : List UInt8} {v : Value} (hc : addC m nx ep e = 0) (hr : LogRes w w' v (writeM m nx (secR nx ep L)) (nx + 1) ep) (hk : Keeps w w') : AddPost w m nx ep e L (.returned (.tuple #[v, .int .i64 0])) w' := by
  refine ⟨_, by rw [hc], ?_, hk⟩
  unfold addM addN addE
  rw [if_pos hc, if_pos hc, if_pos hc]
  exact hr
theorem addC_one {m : DkM} {nx ep : Int} {e : Bool} (h : (logB m nx ep && e) = false) : addC m nx ep e = 1 := by unfold addC; rw [h]; rfl
theorem addC_two {m : DkM} {nx ep : Int} {e : Bool} (h : logB m nx ep = true) (he : e = true) (h2 : nx = m.cells.length ∨ m.dirty.length = 600) : addC m nx ep e = 2 := by simp [addC, h, he, h2]
theorem addC_zero {m : DkM} {nx ep : Int} {e : Bool} (h : logB m nx ep = true) (he : e = true) (h2 : ¬ (nx = m.cells.length ∨ m.dirty.length = 600)) : addC m nx ep e = 0 := by simp [addC, h, he, h2]
set_option maxHeartbeats 4000000 in
theorem with_impl (ca : Option Addr) (cc : Nat) (cs : List Bs) (da : Option Addr) (dc : Nat) (ds : List Wr) (nx ep : Int) (ba : Option Addr) (bc : Nat) (bL : List UInt8) (w : World) (hm : Mem w (dsk ca cs da ds)) (h : DOk cs ds) (hb : Cells w ba (bys bL)) (hbn : ba = none → bc = 0) (hbl : bL.length ≤ 1048576) (hn0 : 0 ≤ nx) (hn1 : nx ≤ 1048576) :
    Calls Tryz.prog 35 #[logV ca cs.length cc da ds.length dc nx ep, .slice ba bL.length bc] w fun e w' => ∃ v, e = .returned v ∧ LogRes w w' v (writeM (dat cs ds) nx (secR nx ep bL)) (nx + 1) ep ∧ Keeps w w' := by
  have HKA := hide (Keeps.alloc (Keeps.alloc (Keeps.refl w) (.cells #[.slice ca cs.length cc, .slice da ds.length dc, .int .i64 nx, .int .i64 ep] 28)) (.cells #[.slice none 0 0, .slice none 0 0, .int .i64 0, .int .i64 0] 28))
  have HM := hide (hm.kept HKA.out)
  have HDO := hide h
  have HT := hide (secbytes_impl nx ep ba bc bL _ (hb.kept HKA.out) hbn (Nat.le_trans hbl (by decide)))
  have HR := hide (row_new (w.alloc (.cells #[.slice ca cs.length cc, .slice da ds.length dc, .int .i64 nx, .int .i64 ep] 28)) #[.slice none 0 0, .slice none 0 0, .int .i64 0, .int .i64 0] 28)
  have HS : Hid ((w.alloc (.cells #[.slice ca cs.length cc, .slice da ds.length dc, .int .i64 nx, .int .i64 ep] 28)).heap.size = w.heap.size + 1 ∧ ((w.alloc (.cells #[.slice ca cs.length cc, .slice da ds.length dc, .int .i64 nx, .int .i64 ep] 28)).alloc (.cells #[.slice none 0 0, .slice none 0 0, .int .i64 0, .int .i64 0] 28)).heap.size = w.heap.size + 1 + 1) := by show _ ∧ _; exact ⟨by simp, by simp⟩
  rw [HS.out.1] at HR
  have HD : Hid (∀ w', Keeps ((w.alloc (.cells #[.slice ca cs.length cc, .slice da ds.length dc, .int .i64 nx, .int .i64 ep] 28)).alloc (.cells #[.slice none 0 0, .slice none 0 0, .int .i64 0, .int .i64 0] 28)) w' → w'.cell? ⟨w.heap.size, 0, none⟩ = some (.slice ca cs.length cc) ∧ w'.cell? ⟨w.heap.size, 1, none⟩ = some (.slice da ds.length dc) ∧ w'.cell? ⟨w.heap.size, 2, none⟩ = some (.int .i64 nx) ∧ w'.cell? ⟨w.heap.size, 3, none⟩ = some (.int .i64 ep)) :=
    fun w' hk => ⟨hk.cell (by simp), hk.cell (by simp), hk.cell (by simp), hk.cell (by simp)⟩
  clear hm h hb hbn hbl
  go_enter Tryz.func35, Tryz.ntmps35
  go_wp2_with fail
  have HSz := hide HS.out.2
  generalize ((w.alloc (.cells #[.slice ca cs.length cc, .slice da ds.length dc, .int .i64 nx, .int .i64 ep] 28)).alloc (.cells #[.slice none 0 0, .slice none 0 0, .int .i64 0, .int .i64 0] 28)) = W0 at *
  refine (unhide HT).mono ?_
  rintro x w1 ⟨v, rfl, ho, hk⟩
  obtain ⟨sa, sc, rfl, hsn, hbo⟩ := Born.of_owns ho
  obtain ⟨d0, d1, d2, d3⟩ := HD.out _ hk
  replace HR := hide (hk.row HR.out)
  have HK1 := hide hk
  have HT2 := hide (diskwrite_impl ca cc cs da dc ds nx sa sc (secR nx ep bL) w1 (HM.out.kept hk) HDO.out hbo.toOwn.one hsn.1 (Nat.le_trans (secR_length _ _ _) (by decide)))
  clear hk ho hsn hbo HT HS
  go_wp2_with fail
  refine (unhide HT2).mono ?_
  rintro x w2 ⟨v, rfl, hr, hk⟩
  obtain ⟨ca2, cc2, cs2, da2, dc2, ds2, rfl, he, hok, hna, hnd, hb⟩ := hr
  clear d0 d1 d2 d3
  obtain ⟨d0, d1, d2, d3⟩ := HD.out _ ((HK1.out.trans hk).alloc (.cells #[.slice ca2 cs2.length cc2, .slice da2 ds2.length dc2] 26))
  replace HR := hide (((Keeps.refl w2).alloc (.cells #[.slice ca2 cs2.length cc2, .slice da2 ds2.length dc2] 26)).row (hk.row HR.out))
  have HKW := hide (((HKA.out.trans HK1.out).trans hk).alloc (.cells #[.slice ca2 cs2.length cc2, .slice da2 ds2.length dc2] 26))
  have hz : w.heap.size + 1 + 1 ≤ w2.heap.size := by have := (HK1.out.trans hk).size; have := HSz.out; omega
  have q0 := HR.out.cell (i := 0) (by decide)
  have q1 := HR.out.cell (i := 1) (by decide)
  have q2 := HR.out.cell (i := 2) (by decide)
  have q3 := HR.out.cell (i := 3) (by decide)
  have g0 := HR.out.frozen 0
  have g1 := HR.out.frozen 1
  have g2 := HR.out.frozen 2
  have g3 := HR.out.frozen 3
  simp only [Array.getD] at q0 q1 q2 q3
  simp at q0 q1 q2 q3
  have HB := hide (((hb.kept ((Keeps.refl w2).alloc (.cells #[.slice ca2 cs2.length cc2, .slice da2 ds2.length dc2] 26))).old (HKA.out.trans HK1.out)))
  have HBN : Hid (∀ b ∈ fp (dsk ca2 cs2 da2 ds2), w.heap.size + 1 + 1 ≤ b) := fun b hb1 => by have := hb.new b hb1; have := HK1.out.size; have := HSz.out; omega
  have HF := hide (⟨he, hok, hna, hnd⟩ : _ ∧ _ ∧ _ ∧ _)
  clear hk hb he hok hna hnd HT2
  go_wp2_with fail
  have r9 := ((((HR.out.set 0 (.slice ca2 cs2.length cc2)).set 1 (.slice da2 ds2.length dc2)).set 2 (.int .i64 (nx + 1))).set 3 (.int .i64 ep))
  have c0 := r9.cell (i := 0) (by decide)
  have c1 := r9.cell (i := 1) (by decide)
  have c2 := r9.cell (i := 2) (by decide)
  have c3 := r9.cell (i := 3) (by decide)
  simp at c0 c1 c2 c3
  have HSs : Hid (Turn [w.heap.size + 1] (w2.alloc (.cells #[.slice ca2 cs2.length cc2, .slice da2 ds2.length dc2] 26)) (((((w2.alloc (.cells #[.slice ca2 cs2.length cc2, .slice da2 ds2.length dc2] 26)).setCell ⟨w.heap.size + 1, 0, none⟩ (.slice ca2 cs2.length cc2)).setCell ⟨w.heap.size + 1, 1, none⟩ (.slice da2 ds2.length dc2)).setCell ⟨w.heap.size + 1, 2, none⟩ (.int .i64 (nx + 1))).setCell ⟨w.heap.size + 1, 3, none⟩ (.int .i64 ep))) := ((((Turn.set (by simp) _).trans' (Turn.set (by simp) _)).trans' (Turn.set (by simp) _)).trans' (Turn.set (by simp) _))
  clear r9 HR q0 q1 q2 q3 g0 g1 g2 g3
  revert c0 c1 c2 c3 HSs
  generalize World.setCell _ _ _ = W
  intro c0 c1 c2 c3 HSs
  refine bodyPost_ret (v := logV ca2 cs2.length cc2 da2 ds2.length dc2 (nx + 1) ep) ?_ rfl ⟨_, rfl, ⟨ca2, cc2, cs2, da2, dc2, ds2, rfl, HF.out.1, HF.out.2.1, HF.out.2.2.1, HF.out.2.2.2, ?_⟩, ?_⟩
  · simp [results, Tryz.results35, go_sem, c0, c1, c2, c3]
  · refine HB.out.turn HSs.out ?_
    intro b hb hx
    have := HBN.out b hb
    simp at hx
    omega
  · refine HSs.out.keeps HKW.out ?_
    intro b hb
    simp at hb
    omega
set_option maxHeartbeats 4000000 in
theorem logok_impl (ca : Option Addr) (cc : Nat) (cs : List Bs) (da : Option Addr) (dc : Nat) (ds : List Wr) (nx ep : Int) (w : World) (hm : Mem w (dsk ca cs da ds)) (h : DOk cs ds) :
    Calls Tryz.prog 34 #[logV ca cs.length cc da ds.length dc nx ep] w fun e w' => e = .returned (.bool (logB (dat cs ds) nx ep)) ∧ Keeps w w' := by
  have HKA := hide (Keeps.alloc (Keeps.refl w) (.cells #[.slice ca cs.length cc, .slice da ds.length dc, .int .i64 nx, .int .i64 ep] 28))
  have HT := hide (diskok_impl' ca cc cs da dc ds _ (hm.kept HKA.out) h)
  have hcl := h.c
  have HL : Hid ((dat cs ds).cells.length = cs.length) := by show _ = _; simp [dat]
  have HD : Hid (∀ w', Keeps (w.alloc (.cells #[.slice ca cs.length cc, .slice da ds.length dc, .int .i64 nx, .int .i64 ep] 28)) w' → w'.cell? ⟨w.heap.size, 0, none⟩ = some (.slice ca cs.length cc) ∧ w'.cell? ⟨w.heap.size, 1, none⟩ = some (.slice da ds.length dc) ∧ w'.cell? ⟨w.heap.size, 2, none⟩ = some (.int .i64 nx) ∧ w'.cell? ⟨w.heap.size, 3, none⟩ = some (.int .i64 ep)) :=
    fun w' hk => ⟨hk.cell (by simp), hk.cell (by simp), hk.cell (by simp), hk.cell (by simp)⟩
  obtain ⟨b, hbb⟩ : ∃ b, dokM (dat cs ds) = b := ⟨_, rfl⟩
  rw [hbb] at HT
  have HBB := hide hbb
  clear hm h hbb
  go_enter Tryz.func34, Tryz.ntmps34
  go_wp2_with fail
  refine (unhide HT).mono ?_
  rintro x w1 ⟨rfl, hk⟩
  obtain ⟨d0, d1, d2, d3⟩ := HD.out _ hk
  replace HKA := hide (HKA.out.trans hk)
  clear hk HT
  cases b
  · go_wp2_with fail
    go_ret
    exact ⟨(congrArg (fun z => Ending.returned (Value.bool z)) (logB_no (.inl HBB.out))).symm, HKA.out⟩
  · by_cases h0 : 0 ≤ nx
    · by_cases h1 : nx ≤ (cs.length : Int)
      · by_cases h2 : 1 ≤ ep
        · by_cases h3 : ep ≤ 16000000
          · go_wp2_with fail
            go_ret
            exact ⟨(congrArg (fun z => Ending.returned (Value.bool z)) (logB_yes HBB.out h0 (by rw [HL.out]; exact h1) h2 h3)).symm, HKA.out⟩
          · go_wp2_with fail
            go_ret
            exact ⟨congrArg (fun z => Ending.returned (Value.bool z)) ((decide_eq_false (p := ep ≤ 16000000) (by omega)).trans (logB_no (.inr (.inr (.inr (.inr (by omega)))))).symm), HKA.out⟩
        · go_wp2_with fail
          go_ret
          exact ⟨(congrArg (fun z => Ending.returned (Value.bool z)) (logB_no (.inr (.inr (.inr (.inl (by omega))))))).symm, HKA.out⟩
      · go_wp2_with fail
        go_ret
        exact ⟨(congrArg (fun z => Ending.returned (Value.bool z)) (logB_no (.inr (.inr (.inl (by rw [HL.out]; omega)))))).symm, HKA.out⟩
    · go_wp2_with fail
      go_ret
      exact ⟨(congrArg (fun z => Ending.returned (Value.bool z)) (logB_no (.inr (.inl (by omega))))).symm, HKA.out⟩
end Go.Proofs.YtdlgoccbmemjgaaGreatDoor
namespace Go.Proofs.YtdlgoccbmemjgaaGreatDoor
open Go.RowKit Go.Deep
set_option linter.unusedVariables false
set_option linter.unusedSimpArgs false
set_option maxRecDepth 100000
theorem logTo_ext {m m' : DkM} : ∀ {n : Nat}, (∀ j : Nat, j < n → readL m' j = readL m j) → logTo m' n = logTo m n
  | 0, _ => rfl
  | n + 1, h => by
    have ih := logTo_ext (m := m) (m' := m') (n := n) (fun j hj => h j (by omega))
    unfold logTo
    rw [ih, fit_ext (fun j hj => h j (by omega))]
/-- A synced disk says the same log, also behind a crash. -/
theorem sync_log {m : DkM} (h : dokM m = true) : logN (crashM m (fun _ => 128)) = logN m ∧ evsTo (crashM m (fun _ => 128)) (logN m) = evsTo m (logN m) := by
  obtain ⟨c1, c2, c3⟩ := dok_crash h (f := fun _ => 128) (fun _ => Nat.le_refl _)
  have hx : ∀ j : Nat, j < m.cells.length → readL (crashM m (fun _ => 128)) j = readL m j := fun j hj => (sync_read h (by omega) (by omega)).2.2
  have hle : logN m ≤ m.cells.length := logTo_le m _
  refine ⟨?_, evsTo_ext (fun j hj => hx j (by omega))⟩
  unfold logN
  rw [c2]
  exact logTo_ext hx
theorem sync_crash {m : DkM} (h : dokM m = true) (f : Nat → Nat) : crashM (crashM m (fun _ => 128)) f = crashM m (fun _ => 128) := by
  obtain ⟨c1, c2, c3⟩ := dok_crash h (f := fun _ => 128) (fun _ => Nat.le_refl _)
  exact crash_none c1 c3 f
/-- An event is read as it was written. -/
theorem body_back {k y c t m f : Int} {b : Bool} (h : evB k y c t m f b = true) : ebB (bodyR k y c t m f b) = true ∧ ebE (bodyR k y c t m f b) = ⟨k, y, c, t, m, f, b⟩ ∧ (bodyR k y c t m f b).length = 22 := by
  obtain ⟨⟨k0, k1⟩, ⟨y0, y1⟩, ⟨c0, c1⟩, ⟨t0, t1⟩, ⟨m0, m1⟩, f0, f1⟩ := evB_bounds h
  obtain ⟨k, rfl⟩ := Int.eq_ofNat_of_zero_le (show 0 ≤ k by omega)
  obtain ⟨y, rfl⟩ := Int.eq_ofNat_of_zero_le y0
  obtain ⟨c, rfl⟩ := Int.eq_ofNat_of_zero_le c0
  obtain ⟨t, rfl⟩ := Int.eq_ofNat_of_zero_le t0
  obtain ⟨m, rfl⟩ := Int.eq_ofNat_of_zero_le m0
  obtain ⟨f, rfl⟩ := Int.eq_ofNat_of_zero_le f0
  have hM : bodyR k y c t m f b = bodyL k y c t m f b := by unfold bodyR; rw [if_pos h]; rfl
  have hlen := bodyL_length k y c t m f b
  have hy1 : (yesL b).length = 1 := by cases b <;> rfl
  have d0 : cut (bodyL k y c t m f b) 0 1 = [69] := cut_at (A := []) (C := digs k 1 ++ digs y 3 ++ digs c 1 ++ digs t 1 ++ digs m 7 ++ digs f 7 ++ yesL b) (by simp [bodyL, List.append_assoc]) rfl rfl
  have d1 : cut (bodyL k y c t m f b) 1 1 = digs k 1 := cut_at (A := [69]) (C := digs y 3 ++ digs c 1 ++ digs t 1 ++ digs m 7 ++ digs f 7 ++ yesL b) (by simp [bodyL, List.append_assoc]) rfl (digs_length _ _)
  have d2 : cut (bodyL k y c t m f b) 2 3 = digs y 3 := cut_at (A := [69] ++ digs k 1) (C := digs c 1 ++ digs t 1 ++ digs m 7 ++ digs f 7 ++ yesL b) (by simp [bodyL, List.append_assoc]) (by simp [digs_length]) (digs_length _ _)
  have d5 : cut (bodyL k y c t m f b) 5 1 = digs c 1 := cut_at (A := [69] ++ digs k 1 ++ digs y 3) (C := digs t 1 ++ digs m 7 ++ digs f 7 ++ yesL b) (by simp [bodyL, List.append_assoc]) (by simp [digs_length]) (digs_length _ _)
  have d6 : cut (bodyL k y c t m f b) 6 1 = digs t 1 := cut_at (A := [69] ++ digs k 1 ++ digs y 3 ++ digs c 1) (C := digs m 7 ++ digs f 7 ++ yesL b) (by simp [bodyL, List.append_assoc]) (by simp [digs_length]) (digs_length _ _)
  have d7 : cut (bodyL k y c t m f b) 7 7 = digs m 7 := cut_at (A := [69] ++ digs k 1 ++ digs y 3 ++ digs c 1 ++ digs t 1) (C := digs f 7 ++ yesL b) (by simp [bodyL, List.append_assoc]) (by simp [digs_length]) (digs_length _ _)
  have d14 : cut (bodyL k y c t m f b) 14 7 = digs f 7 := cut_at (A := [69] ++ digs k 1 ++ digs y 3 ++ digs c 1 ++ digs t 1 ++ digs m 7) (C := yesL b) (by simp [bodyL, List.append_assoc]) (by simp [digs_length]) (digs_length _ _)
  have d21 : cut (bodyL k y c t m f b) 21 1 = yesL b := cut_at (A := [69] ++ digs k 1 ++ digs y 3 ++ digs c 1 ++ digs t 1 ++ digs m 7 ++ digs f 7) (C := []) (by simp [bodyL, List.append_assoc]) (by simp [digs_length]) hy1
  have n1 : numL (digs k 1) = k := numL_digs 1 k (by omega)
  have n2 : numL (digs y 3) = y := numL_digs 3 y (by omega)
  have n5 : numL (digs c 1) = c := numL_digs 1 c (by omega)
  have n6 : numL (digs t 1) = t := numL_digs 1 t (by omega)
  have n7 : numL (digs m 7) = m := numL_digs 7 m (by omega)
  have n14 : numL (digs f 7) = f := numL_digs 7 f (by omega)
  have n0 : numL [(69 : UInt8)] = 69 := by rw [numL_one]; rfl
  have nb : numL (yesL b) ≤ 1 ∧ decide (numL (yesL b) = 1) = b := by cases b <;> simp [yesL, numL_one]
  have hB : ebB (bodyL k y c t m f b) = true := by
    unfold ebB
    rw [d0, d1, d2, d5, d6, d7, d14, d21, n0, n1, n2, n5, n6, n7, n14, nb.2, hlen, decide_eq_true nb.1, h]
    rfl
  rw [hM]
  refine ⟨hB, ?_, hlen⟩
  unfold ebE
  rw [if_pos hB, d1, d2, d5, d6, d7, d14, d21, n1, n2, n5, n6, n7, n14, nb.2]
theorem add_yes {m : DkM} {nx ep : Int} {e : Bool} (h : addC m nx ep e = 0) : dokM m = true ∧ 0 ≤ nx ∧ nx < m.cells.length ∧ 1 ≤ ep ∧ ep ≤ 16000000 ∧ m.dirty.length ≠ 600 ∧ e = true := by
  unfold addC at h
  split at h
  · next h1 =>
    simp only [Bool.and_eq_true] at h1
    obtain ⟨a1, a2, a3, a4, a5⟩ := logB_true h1.1
    split at h
    · exact absurd h (by decide)
    · next h2 => exact ⟨a1, a2, by omega, a4, a5, by omega, h1.2⟩
  · exact absurd h (by decide)
/-- Where the log ends at nx, and no epoch is above ep, what is added is read at the end. -/
theorem add_all {m : DkM} {nx ep : Int} {e : Bool} {L : List UInt8} (hc : addC m nx ep e = 0) (hL : L.length ≤ 100) (hn : ((logN m : Nat) : Int) = nx) (ht : topM m ≤ ep) :
    dokM (addM m nx ep e L) = true ∧ logN m + 1 ≤ logN (addM m nx ep e L) ∧ (ebB L = true → evsTo (addM m nx ep e L) (logN m + 1) = evsTo m (logN m) ++ [ebE L]) := by
  obtain ⟨h1, h2, h3, h4, h5, h6, h7⟩ := add_yes hc
  have h8 := dokM_len h1
  have hs : secB nx ep L.length = true := by simp [secB]; omega
  obtain ⟨s1, s2, s3, s4, s5⟩ := sec_back hs
  have hw : writeB m nx (secR nx ep L) = true := writeB_yes h1 h6 h2 h3 s5
  have e0 : addM m nx ep e L = writeM m nx (secR nx ep L) := by unfold addM; rw [if_pos hc]
  have hd : dokM (writeM m nx (secR nx ep L)) = true := by unfold writeM; rw [if_pos hw, dokM_add h1]; exact hw
  have hl : (writeM m nx (secR nx ep L)).cells.length = m.cells.length := by unfold writeM; rw [if_pos hw]
  have hx : ∀ j : Nat, j < logN m → readL (writeM m nx (secR nx ep L)) j = readL m j := fun j hj => by rw [write_read hw, if_neg (by omega)]
  have hr : readL (writeM m nx (secR nx ep L)) (logN m) = secR nx ep L := by rw [write_read hw, if_pos hn]
  have hf : fitTo m (logN m) := fitTo_log m.cells.length
  have hla : lastE (writeM m nx (secR nx ep L)) (logN m) = lastE m (logN m) := by
    cases hk : logN m with
    | zero => rfl
    | succ k => simp only [lastE]; rw [hx k (by omega)]
  have hlt : lastE m (logN m) ≤ topM m := last_top hf (by omega)
  have f1 : fitTo (writeM m nx (secR nx ep L)) (logN m + 1) := by
    refine fitTo_succ (fitTo_ext hx hf) ?_
    unfold fitB
    rw [hr, s1, s2, s3, hla, decide_eq_true (show nx = ((logN m : Nat) : Int) from hn.symm), decide_eq_true (show lastE m (logN m) ≤ ep by omega)]
    rfl
  rw [e0]
  refine ⟨hd, ?_, fun hb => ?_⟩
  · show _ ≤ logTo _ _
    exact logTo_ge f1 (by rw [hl]; omega)
  · rw [evsTo_yes (by rw [hr, s4]; exact hb), evsTo_ext hx, hr, s4]
end Go.Proofs.YtdlgoccbmemjgaaGreatDoor
namespace Go.Proofs.YtdlgoccbmemjgaaGreatDoor
open Go.RowKit Go.Deep
set_option linter.unusedVariables false
set_option maxRecDepth 10000

set_option maxHeartbeats 8000000 in
theorem logadd_spec (ca : Option Addr) (cc : Nat) (cs : List Bs) (da : Option Addr) (dc : Nat) (ds : List Wr) (nx ep : Int) (k y c t m f : Int) (b : Bool) (w : World) (hm : Mem w (dsk ca cs da ds)) (h : DOk cs ds) :
    Calls Tryz.prog 8 #[logV ca cs.length cc da ds.length dc nx ep, evV k y c t m f b] w (AddPost w (dat cs ds) nx ep (evB k y c t m f b) (bodyR k y c t m f b)) := by
  have HKA := hide (Keeps.alloc (Keeps.alloc (Keeps.alloc (Keeps.refl w) (.cells #[.slice ca cs.length cc, .slice da ds.length dc, .int .i64 nx, .int .i64 ep] 28)) (.cells (evCells k y c t m f b) 30)) (.cells #[.slice none 0 0, .slice none 0 0, .int .i64 0, .int .i64 0] 28))
  have HM := hide (hm.kept HKA.out)
  have HDO := hide h
  have hcl := h.c
  have hdl := h.d
  have HLC : Hid ((dat cs ds).cells.length = cs.length ∧ (dat cs ds).dirty.length = ds.length) := by show _ ∧ _; simp [dat]
  have HR := hide (row_new ((w.alloc (.cells #[.slice ca cs.length cc, .slice da ds.length dc, .int .i64 nx, .int .i64 ep] 28)).alloc (.cells (evCells k y c t m f b) 30)) #[.slice none 0 0, .slice none 0 0, .int .i64 0, .int .i64 0] 28)
  have HS : Hid (((w.alloc (.cells #[.slice ca cs.length cc, .slice da ds.length dc, .int .i64 nx, .int .i64 ep] 28)).alloc (.cells (evCells k y c t m f b) 30)).heap.size = w.heap.size + 1 + 1 ∧ (((w.alloc (.cells #[.slice ca cs.length cc, .slice da ds.length dc, .int .i64 nx, .int .i64 ep] 28)).alloc (.cells (evCells k y c t m f b) 30)).alloc (.cells #[.slice none 0 0, .slice none 0 0, .int .i64 0, .int .i64 0] 28)).heap.size = w.heap.size + 1 + 1 + 1) := by show _ ∧ _; exact ⟨by simp, by simp⟩
  rw [HS.out.1] at HR
  have HD : Hid (∀ w', Keeps (((w.alloc (.cells #[.slice ca cs.length cc, .slice da ds.length dc, .int .i64 nx, .int .i64 ep] 28)).alloc (.cells (evCells k y c t m f b) 30)).alloc (.cells #[.slice none 0 0, .slice none 0 0, .int .i64 0, .int .i64 0] 28)) w' → w'.cell? ⟨w.heap.size, 0, none⟩ = some (.slice ca cs.length cc) ∧ w'.cell? ⟨w.heap.size, 1, none⟩ = some (.slice da ds.length dc) ∧ w'.cell? ⟨w.heap.size, 2, none⟩ = some (.int .i64 nx) ∧ w'.cell? ⟨w.heap.size, 3, none⟩ = some (.int .i64 ep)) := by
    have h0 : Keeps (w.alloc (.cells #[.slice ca cs.length cc, .slice da ds.length dc, .int .i64 nx, .int .i64 ep] 28)) (((w.alloc (.cells #[.slice ca cs.length cc, .slice da ds.length dc, .int .i64 nx, .int .i64 ep] 28)).alloc (.cells (evCells k y c t m f b) 30)).alloc (.cells #[.slice none 0 0, .slice none 0 0, .int .i64 0, .int .i64 0] 28)) := Keeps.alloc (Keeps.alloc (Keeps.refl _) _) _
    exact fun w' hk => ⟨(h0.trans hk).cell (by simp), (h0.trans hk).cell (by simp), (h0.trans hk).cell (by simp), (h0.trans hk).cell (by simp)⟩
  have HE : Hid (∀ w', Keeps (((w.alloc (.cells #[.slice ca cs.length cc, .slice da ds.length dc, .int .i64 nx, .int .i64 ep] 28)).alloc (.cells (evCells k y c t m f b) 30)).alloc (.cells #[.slice none 0 0, .slice none 0 0, .int .i64 0, .int .i64 0] 28)) w' → w'.cell? ⟨w.heap.size + 1, 0, none⟩ = some (.int .i64 k) ∧ w'.cell? ⟨w.heap.size + 1, 1, none⟩ = some (.int .i64 y) ∧ w'.cell? ⟨w.heap.size + 1, 2, none⟩ = some (.int .i64 c) ∧ w'.cell? ⟨w.heap.size + 1, 3, none⟩ = some (.int .i64 t) ∧ w'.cell? ⟨w.heap.size + 1, 4, none⟩ = some (.int .i64 m) ∧ w'.cell? ⟨w.heap.size + 1, 5, none⟩ = some (.int .i64 f) ∧ w'.cell? ⟨w.heap.size + 1, 6, none⟩ = some (.bool b)) := by
    have h0 : Keeps ((w.alloc (.cells #[.slice ca cs.length cc, .slice da ds.length dc, .int .i64 nx, .int .i64 ep] 28)).alloc (.cells (evCells k y c t m f b) 30)) (((w.alloc (.cells #[.slice ca cs.length cc, .slice da ds.length dc, .int .i64 nx, .int .i64 ep] 28)).alloc (.cells (evCells k y c t m f b) 30)).alloc (.cells #[.slice none 0 0, .slice none 0 0, .int .i64 0, .int .i64 0] 28)) := Keeps.alloc (Keeps.refl _) _
    have hn := (born_alloc (w.alloc (.cells #[.slice ca cs.length cc, .slice da ds.length dc, .int .i64 nx, .int .i64 ep] 28)) (evCells k y c t m f b) 30).toOwn
    intro w' hk
    have hn2 := hn.kept (h0.trans hk)
    simp only [World.size_alloc] at hn2
    exact ⟨cell_at hn2.mem 0 (by simp), cell_at hn2.mem 1 (by simp), cell_at hn2.mem 2 (by simp), cell_at hn2.mem 3 (by simp), cell_at hn2.mem 4 (by simp), cell_at hn2.mem 5 (by simp), cell_at hn2.mem 6 (by simp)⟩
  have HT := hide (diskok_spec' ca cc cs da dc ds _ HM.out h)
  obtain ⟨lb, hlb⟩ : ∃ lb, dokM (dat cs ds) = lb := ⟨_, rfl⟩
  rw [hlb] at HT
  have HLB := hide hlb
  obtain ⟨eb, heb⟩ : ∃ eb, evB k y c t m f b = eb := ⟨_, rfl⟩
  have HEB := hide heb
  clear hm h heb hlb
  have hk0 := Keeps.refl (((w.alloc (.cells #[.slice ca cs.length cc, .slice da ds.length dc, .int .i64 nx, .int .i64 ep] 28)).alloc (.cells (evCells k y c t m f b) 30)).alloc (.cells #[.slice none 0 0, .slice none 0 0, .int .i64 0, .int .i64 0] 28))
  obtain ⟨d0, d1, d2, d3⟩ := HD.out _ hk0
  obtain ⟨e0, e1, e2, e3, e4, e5, e6⟩ := HE.out _ hk0
  clear hk0
  go_enter Tryz.func8, Tryz.ntmps8
  go_wp2_with fail
  have HSz := hide HS.out.2
  generalize (((w.alloc (.cells #[.slice ca cs.length cc, .slice da ds.length dc, .int .i64 nx, .int .i64 ep] 28)).alloc (.cells (evCells k y c t m f b) 30)).alloc (.cells #[.slice none 0 0, .slice none 0 0, .int .i64 0, .int .i64 0] 28)) = W0 at *
  refine (unhide HT).mono ?_
  rintro x w1 ⟨rfl, hk⟩
  clear d0 d1 d2 d3 e0 e1 e2 e3 e4 e5 e6 HT HS
  obtain ⟨d0, d1, d2, d3⟩ := HD.out _ hk
  obtain ⟨e0, e1, e2, e3, e4, e5, e6⟩ := HE.out _ hk
  replace HR := hide (hk.row HR.out)
  have HK1 := hide hk
  have hz : w.heap.size + 1 + 1 + 1 ≤ w1.heap.size := by have := hk.size; have := HSz.out; omega
  have q0 := HR.out.cell (i := 0) (by decide)
  have q1 := HR.out.cell (i := 1) (by decide)
  have q2 := HR.out.cell (i := 2) (by decide)
  have q3 := HR.out.cell (i := 3) (by decide)
  have g0 := HR.out.frozen 0
  have g1 := HR.out.frozen 1
  have g2 := HR.out.frozen 2
  have g3 := HR.out.frozen 3
  simp only [Array.getD] at q0 q1 q2 q3
  simp at q0 q1 q2 q3
  clear hk
  cases lb
  · go_wp2_with fail
    have r9 := ((((HR.out.set 0 (.slice none 0 0)).set 1 (.slice none 0 0)).set 2 (.int .i64 0)).set 3 (.int .i64 0))
    have c0 := r9.cell (i := 0) (by decide)
    have c1 := r9.cell (i := 1) (by decide)
    have c2 := r9.cell (i := 2) (by decide)
    have c3 := r9.cell (i := 3) (by decide)
    simp at c0 c1 c2 c3
    have HSs : Hid (Turn [w.heap.size + 1 + 1] w1 ((((w1.setCell ⟨w.heap.size + 1 + 1, 0, none⟩ (.slice none 0 0)).setCell ⟨w.heap.size + 1 + 1, 1, none⟩ (.slice none 0 0)).setCell ⟨w.heap.size + 1 + 1, 2, none⟩ (.int .i64 0)).setCell ⟨w.heap.size + 1 + 1, 3, none⟩ (.int .i64 0))) := ((((Turn.set (by simp) _).trans' (Turn.set (by simp) _)).trans' (Turn.set (by simp) _)).trans' (Turn.set (by simp) _))
    clear r9 HR q0 q1 q2 q3 g0 g1 g2 g3
    revert c0 c1 c2 c3 HSs
    generalize World.setCell _ _ _ = W
    intro c0 c1 c2 c3 HSs
    refine bodyPost_ret (v := .tuple #[.agg #[.slice none 0 0, .slice none 0 0, .int .i64 0, .int .i64 0], .int .i64 1]) ?_ rfl (AddPost.no (addC_one (by rw [logB_no (.inl HLB.out), Bool.false_and])) (by decide) ?_)
    · simp [results, Tryz.results8, go_sem, c0, c1, c2, c3]
    · exact HSs.out.keeps (HKA.out.trans HK1.out) (fun b hb => by simp at hb; omega)
  · by_cases h0 : nx < 0
    · go_wp2_with fail
      have r9 := ((((HR.out.set 0 (.slice none 0 0)).set 1 (.slice none 0 0)).set 2 (.int .i64 0)).set 3 (.int .i64 0))
      have c0 := r9.cell (i := 0) (by decide)
      have c1 := r9.cell (i := 1) (by decide)
      have c2 := r9.cell (i := 2) (by decide)
      have c3 := r9.cell (i := 3) (by decide)
      simp at c0 c1 c2 c3
      have HSs : Hid (Turn [w.heap.size + 1 + 1] w1 ((((w1.setCell ⟨w.heap.size + 1 + 1, 0, none⟩ (.slice none 0 0)).setCell ⟨w.heap.size + 1 + 1, 1, none⟩ (.slice none 0 0)).setCell ⟨w.heap.size + 1 + 1, 2, none⟩ (.int .i64 0)).setCell ⟨w.heap.size + 1 + 1, 3, none⟩ (.int .i64 0))) := ((((Turn.set (by simp) _).trans' (Turn.set (by simp) _)).trans' (Turn.set (by simp) _)).trans' (Turn.set (by simp) _))
      clear r9 HR q0 q1 q2 q3 g0 g1 g2 g3
      revert c0 c1 c2 c3 HSs
      generalize World.setCell _ _ _ = W
      intro c0 c1 c2 c3 HSs
      refine bodyPost_ret (v := .tuple #[.agg #[.slice none 0 0, .slice none 0 0, .int .i64 0, .int .i64 0], .int .i64 1]) ?_ rfl (AddPost.no (addC_one (by rw [logB_no (.inr (.inl h0)), Bool.false_and])) (by decide) ?_)
      · simp [results, Tryz.results8, go_sem, c0, c1, c2, c3]
      · exact HSs.out.keeps (HKA.out.trans HK1.out) (fun b hb => by simp at hb; omega)
    · by_cases h1 : (cs.length : Int) < nx
      · go_wp2_with fail
        have r9 := ((((HR.out.set 0 (.slice none 0 0)).set 1 (.slice none 0 0)).set 2 (.int .i64 0)).set 3 (.int .i64 0))
        have c0 := r9.cell (i := 0) (by decide)
        have c1 := r9.cell (i := 1) (by decide)
        have c2 := r9.cell (i := 2) (by decide)
        have c3 := r9.cell (i := 3) (by decide)
        simp at c0 c1 c2 c3
        have HSs : Hid (Turn [w.heap.size + 1 + 1] w1 ((((w1.setCell ⟨w.heap.size + 1 + 1, 0, none⟩ (.slice none 0 0)).setCell ⟨w.heap.size + 1 + 1, 1, none⟩ (.slice none 0 0)).setCell ⟨w.heap.size + 1 + 1, 2, none⟩ (.int .i64 0)).setCell ⟨w.heap.size + 1 + 1, 3, none⟩ (.int .i64 0))) := ((((Turn.set (by simp) _).trans' (Turn.set (by simp) _)).trans' (Turn.set (by simp) _)).trans' (Turn.set (by simp) _))
        clear r9 HR q0 q1 q2 q3 g0 g1 g2 g3
        revert c0 c1 c2 c3 HSs
        generalize World.setCell _ _ _ = W
        intro c0 c1 c2 c3 HSs
        refine bodyPost_ret (v := .tuple #[.agg #[.slice none 0 0, .slice none 0 0, .int .i64 0, .int .i64 0], .int .i64 1]) ?_ rfl (AddPost.no (addC_one (by rw [logB_no (.inr (.inr (.inl (by rw [HLC.out.1]; exact h1)))), Bool.false_and])) (by decide) ?_)
        · simp [results, Tryz.results8, go_sem, c0, c1, c2, c3]
        · exact HSs.out.keeps (HKA.out.trans HK1.out) (fun b hb => by simp at hb; omega)
      · by_cases h2 : ep < 1
        · go_wp2_with fail
          have r9 := ((((HR.out.set 0 (.slice none 0 0)).set 1 (.slice none 0 0)).set 2 (.int .i64 0)).set 3 (.int .i64 0))
          have c0 := r9.cell (i := 0) (by decide)
          have c1 := r9.cell (i := 1) (by decide)
          have c2 := r9.cell (i := 2) (by decide)
          have c3 := r9.cell (i := 3) (by decide)
          simp at c0 c1 c2 c3
          have HSs : Hid (Turn [w.heap.size + 1 + 1] w1 ((((w1.setCell ⟨w.heap.size + 1 + 1, 0, none⟩ (.slice none 0 0)).setCell ⟨w.heap.size + 1 + 1, 1, none⟩ (.slice none 0 0)).setCell ⟨w.heap.size + 1 + 1, 2, none⟩ (.int .i64 0)).setCell ⟨w.heap.size + 1 + 1, 3, none⟩ (.int .i64 0))) := ((((Turn.set (by simp) _).trans' (Turn.set (by simp) _)).trans' (Turn.set (by simp) _)).trans' (Turn.set (by simp) _))
          clear r9 HR q0 q1 q2 q3 g0 g1 g2 g3
          revert c0 c1 c2 c3 HSs
          generalize World.setCell _ _ _ = W
          intro c0 c1 c2 c3 HSs
          refine bodyPost_ret (v := .tuple #[.agg #[.slice none 0 0, .slice none 0 0, .int .i64 0, .int .i64 0], .int .i64 1]) ?_ rfl (AddPost.no (addC_one (by rw [logB_no (.inr (.inr (.inr (.inl h2)))), Bool.false_and])) (by decide) ?_)
          · simp [results, Tryz.results8, go_sem, c0, c1, c2, c3]
          · exact HSs.out.keeps (HKA.out.trans HK1.out) (fun b hb => by simp at hb; omega)
        · by_cases h3 : 16000000 < ep
          · go_wp2_with fail
            have r9 := ((((HR.out.set 0 (.slice none 0 0)).set 1 (.slice none 0 0)).set 2 (.int .i64 0)).set 3 (.int .i64 0))
            have c0 := r9.cell (i := 0) (by decide)
            have c1 := r9.cell (i := 1) (by decide)
            have c2 := r9.cell (i := 2) (by decide)
            have c3 := r9.cell (i := 3) (by decide)
            simp at c0 c1 c2 c3
            have HSs : Hid (Turn [w.heap.size + 1 + 1] w1 ((((w1.setCell ⟨w.heap.size + 1 + 1, 0, none⟩ (.slice none 0 0)).setCell ⟨w.heap.size + 1 + 1, 1, none⟩ (.slice none 0 0)).setCell ⟨w.heap.size + 1 + 1, 2, none⟩ (.int .i64 0)).setCell ⟨w.heap.size + 1 + 1, 3, none⟩ (.int .i64 0))) := ((((Turn.set (by simp) _).trans' (Turn.set (by simp) _)).trans' (Turn.set (by simp) _)).trans' (Turn.set (by simp) _))
            clear r9 HR q0 q1 q2 q3 g0 g1 g2 g3
            revert c0 c1 c2 c3 HSs
            generalize World.setCell _ _ _ = W
            intro c0 c1 c2 c3 HSs
            refine bodyPost_ret (v := .tuple #[.agg #[.slice none 0 0, .slice none 0 0, .int .i64 0, .int .i64 0], .int .i64 1]) ?_ rfl (AddPost.no (addC_one (by rw [logB_no (.inr (.inr (.inr (.inr h3)))), Bool.false_and])) (by decide) ?_)
            · simp [results, Tryz.results8, go_sem, c0, c1, c2, c3]
            · exact HSs.out.keeps (HKA.out.trans HK1.out) (fun b hb => by simp at hb; omega)
          · have HLY : Hid (logB (dat cs ds) nx ep = true) := logB_yes HLB.out (by omega) (by rw [HLC.out.1]; omega) (by omega) (by omega)
            have HT := hide (evok_spec k y c t m f b w1)
            rw [HEB.out] at HT
            go_wp2_with fail
            refine (unhide HT).mono ?_
            rintro x w2 ⟨rfl, hk⟩
            clear d0 d1 d2 d3 e0 e1 e2 e3 e4 e5 e6 q0 q1 q2 q3 g0 g1 g2 g3 HT
            obtain ⟨d0, d1, d2, d3⟩ := HD.out _ (HK1.out.trans hk)
            obtain ⟨e0, e1, e2, e3, e4, e5, e6⟩ := HE.out _ (HK1.out.trans hk)
            replace HR := hide (hk.row HR.out)
            have HK2 := hide (HK1.out.trans hk)
            replace hz : w.heap.size + 1 + 1 + 1 ≤ w2.heap.size := by have := hk.size; omega
            have q0 := HR.out.cell (i := 0) (by decide)
            have q1 := HR.out.cell (i := 1) (by decide)
            have q2 := HR.out.cell (i := 2) (by decide)
            have q3 := HR.out.cell (i := 3) (by decide)
            have g0 := HR.out.frozen 0
            have g1 := HR.out.frozen 1
            have g2 := HR.out.frozen 2
            have g3 := HR.out.frozen 3
            simp only [Array.getD] at q0 q1 q2 q3
            simp at q0 q1 q2 q3
            clear hk
            cases eb
            · go_wp2_with fail
              have r9 := ((((HR.out.set 0 (.slice none 0 0)).set 1 (.slice none 0 0)).set 2 (.int .i64 0)).set 3 (.int .i64 0))
              have c0 := r9.cell (i := 0) (by decide)
              have c1 := r9.cell (i := 1) (by decide)
              have c2 := r9.cell (i := 2) (by decide)
              have c3 := r9.cell (i := 3) (by decide)
              simp at c0 c1 c2 c3
              have HSs : Hid (Turn [w.heap.size + 1 + 1] w2 ((((w2.setCell ⟨w.heap.size + 1 + 1, 0, none⟩ (.slice none 0 0)).setCell ⟨w.heap.size + 1 + 1, 1, none⟩ (.slice none 0 0)).setCell ⟨w.heap.size + 1 + 1, 2, none⟩ (.int .i64 0)).setCell ⟨w.heap.size + 1 + 1, 3, none⟩ (.int .i64 0))) := ((((Turn.set (by simp) _).trans' (Turn.set (by simp) _)).trans' (Turn.set (by simp) _)).trans' (Turn.set (by simp) _))
              clear r9 HR q0 q1 q2 q3 g0 g1 g2 g3
              revert c0 c1 c2 c3 HSs
              generalize World.setCell _ _ _ = W
              intro c0 c1 c2 c3 HSs
              refine bodyPost_ret (v := .tuple #[.agg #[.slice none 0 0, .slice none 0 0, .int .i64 0, .int .i64 0], .int .i64 1]) ?_ rfl (AddPost.no (addC_one (by rw [HEB.out, Bool.and_false])) (by decide) ?_)
              · simp [results, Tryz.results8, go_sem, c0, c1, c2, c3]
              · exact HSs.out.keeps (HKA.out.trans HK2.out) (fun b hb => by simp at hb; omega)
            · have hd6 := (dokM_len HLB.out).2.2
              rw [HLC.out.2] at hd6
              by_cases h5 : nx = (cs.length : Int)
              · go_wp2_with fail
                have r9 := ((((HR.out.set 0 (.slice none 0 0)).set 1 (.slice none 0 0)).set 2 (.int .i64 0)).set 3 (.int .i64 0))
                have c0 := r9.cell (i := 0) (by decide)
                have c1 := r9.cell (i := 1) (by decide)
                have c2 := r9.cell (i := 2) (by decide)
                have c3 := r9.cell (i := 3) (by decide)
                simp at c0 c1 c2 c3
                have HSs : Hid (Turn [w.heap.size + 1 + 1] w2 ((((w2.setCell ⟨w.heap.size + 1 + 1, 0, none⟩ (.slice none 0 0)).setCell ⟨w.heap.size + 1 + 1, 1, none⟩ (.slice none 0 0)).setCell ⟨w.heap.size + 1 + 1, 2, none⟩ (.int .i64 0)).setCell ⟨w.heap.size + 1 + 1, 3, none⟩ (.int .i64 0))) := ((((Turn.set (by simp) _).trans' (Turn.set (by simp) _)).trans' (Turn.set (by simp) _)).trans' (Turn.set (by simp) _))
                clear r9 HR q0 q1 q2 q3 g0 g1 g2 g3
                revert c0 c1 c2 c3 HSs
                generalize World.setCell _ _ _ = W
                intro c0 c1 c2 c3 HSs
                refine bodyPost_ret (v := .tuple #[.agg #[.slice none 0 0, .slice none 0 0, .int .i64 0, .int .i64 0], .int .i64 2]) ?_ rfl (AddPost.no (addC_two HLY.out HEB.out (.inl (by rw [HLC.out.1]; exact h5))) (by decide) ?_)
                · simp [results, Tryz.results8, go_sem, c0, c1, c2, c3]
                · exact HSs.out.keeps (HKA.out.trans HK2.out) (fun b hb => by simp at hb; omega)
              · have hq1 : (nx == (cs.length : Int)) = false := beq_eq_false_iff_ne.2 h5
                by_cases h6 : (600 : Int) ≤ ds.length
                · go_wp2_with fail
                  have r9 := ((((HR.out.set 0 (.slice none 0 0)).set 1 (.slice none 0 0)).set 2 (.int .i64 0)).set 3 (.int .i64 0))
                  have c0 := r9.cell (i := 0) (by decide)
                  have c1 := r9.cell (i := 1) (by decide)
                  have c2 := r9.cell (i := 2) (by decide)
                  have c3 := r9.cell (i := 3) (by decide)
                  simp at c0 c1 c2 c3
                  have HSs : Hid (Turn [w.heap.size + 1 + 1] w2 ((((w2.setCell ⟨w.heap.size + 1 + 1, 0, none⟩ (.slice none 0 0)).setCell ⟨w.heap.size + 1 + 1, 1, none⟩ (.slice none 0 0)).setCell ⟨w.heap.size + 1 + 1, 2, none⟩ (.int .i64 0)).setCell ⟨w.heap.size + 1 + 1, 3, none⟩ (.int .i64 0))) := ((((Turn.set (by simp) _).trans' (Turn.set (by simp) _)).trans' (Turn.set (by simp) _)).trans' (Turn.set (by simp) _))
                  clear r9 HR q0 q1 q2 q3 g0 g1 g2 g3
                  revert c0 c1 c2 c3 HSs
                  generalize World.setCell _ _ _ = W
                  intro c0 c1 c2 c3 HSs
                  refine bodyPost_ret (v := .tuple #[.agg #[.slice none 0 0, .slice none 0 0, .int .i64 0, .int .i64 0], .int .i64 2]) ?_ rfl (AddPost.no (addC_two HLY.out HEB.out (.inr (by rw [HLC.out.2]; omega))) (by decide) ?_)
                  · simp [results, Tryz.results8, go_sem, c0, c1, c2, c3]
                  · exact HSs.out.keeps (HKA.out.trans HK2.out) (fun b hb => by simp at hb; omega)
                · have HT := hide (body_spec k y c t m f b w2)
                  have hq2 : decide ((600 : Int) ≤ ds.length) = false := decide_eq_false h6
                  go_wp2_with fail
                  refine (unhide HT).mono ?_
                  rintro x w3 ⟨v, rfl, ho, hk⟩
                  obtain ⟨ba, bc, rfl, hbn, hbo⟩ := Born.of_owns ho
                  clear d0 d1 d2 d3 e0 e1 e2 e3 e4 e5 e6 q0 q1 q2 q3 g0 g1 g2 g3 HT ho
                  obtain ⟨d0, d1, d2, d3⟩ := HD.out _ (HK2.out.trans hk)
                  obtain ⟨e0, e1, e2, e3, e4, e5, e6⟩ := HE.out _ (HK2.out.trans hk)
                  replace HR := hide (hk.row HR.out)
                  have HK3 := hide (HK2.out.trans hk)
                  replace hz : w.heap.size + 1 + 1 + 1 ≤ w3.heap.size := by have := hk.size; omega
                  have HT := hide (secbytes_spec nx ep ba bc (bodyR k y c t m f b) w3 hbo.toOwn.one hbn.1 (Nat.le_trans (bodyR_length k y c t m f b) (by decide)))
                  clear hk hbn hbo
                  go_wp2_with fail
                  refine (unhide HT).mono ?_
                  rintro x w4 ⟨v, rfl, ho, hk⟩
                  obtain ⟨sa, sc, rfl, hbn, hbo⟩ := Born.of_owns ho
                  clear d0 d1 d2 d3 e0 e1 e2 e3 e4 e5 e6 HT ho
                  obtain ⟨d0, d1, d2, d3⟩ := HD.out _ (HK3.out.trans hk)
                  obtain ⟨e0, e1, e2, e3, e4, e5, e6⟩ := HE.out _ (HK3.out.trans hk)
                  replace HR := hide (hk.row HR.out)
                  have HK4 := hide (HK3.out.trans hk)
                  replace hz : w.heap.size + 1 + 1 + 1 ≤ w4.heap.size := by have := hk.size; omega
                  have HT := hide (diskwrite_spec ca cc cs da dc ds nx sa sc (secR nx ep (bodyR k y c t m f b)) w4 (HM.out.kept HK4.out) HDO.out hbo.toOwn.one hbn.1 (Nat.le_trans (secR_length _ _ _) (by decide)))
                  clear hk hbn hbo
                  go_wp2_with fail
                  refine (unhide HT).mono ?_
                  rintro x w5 ⟨v, rfl, hr, hk⟩
                  obtain ⟨ca3, cc3, cs3, da3, dc3, ds3, rfl, he, hok, hna, hnd, hb⟩ := hr
                  clear d0 d1 d2 d3 e0 e1 e2 e3 e4 e5 e6 HT
                  obtain ⟨d0, d1, d2, d3⟩ := HD.out _ ((HK4.out.trans hk).alloc (.cells #[.slice ca3 cs3.length cc3, .slice da3 ds3.length dc3] 26))
                  obtain ⟨e0, e1, e2, e3, e4, e5, e6⟩ := HE.out _ ((HK4.out.trans hk).alloc (.cells #[.slice ca3 cs3.length cc3, .slice da3 ds3.length dc3] 26))
                  replace HR := hide (((Keeps.refl w5).alloc (.cells #[.slice ca3 cs3.length cc3, .slice da3 ds3.length dc3] 26)).row (hk.row HR.out))
                  have HK5 := hide ((HK4.out.trans hk).alloc (.cells #[.slice ca3 cs3.length cc3, .slice da3 ds3.length dc3] 26))
                  replace hz : w.heap.size + 1 + 1 + 1 ≤ w5.heap.size := by have := hk.size; omega
                  have q0 := HR.out.cell (i := 0) (by decide)
                  have q1 := HR.out.cell (i := 1) (by decide)
                  have q2 := HR.out.cell (i := 2) (by decide)
                  have q3 := HR.out.cell (i := 3) (by decide)
                  have g0 := HR.out.frozen 0
                  have g1 := HR.out.frozen 1
                  have g2 := HR.out.frozen 2
                  have g3 := HR.out.frozen 3
                  simp only [Array.getD] at q0 q1 q2 q3
                  simp at q0 q1 q2 q3
                  have HBN : Hid (∀ b ∈ fp (dsk ca3 cs3 da3 ds3), w.heap.size + 1 + 1 + 1 ≤ b) := fun b hb1 => by have := hb.new b hb1; have := HK4.out.size; have := HSz.out; omega
                  have HB := hide ((hb.kept ((Keeps.refl w5).alloc (.cells #[.slice ca3 cs3.length cc3, .slice da3 ds3.length dc3] 26))).old (HKA.out.trans HK4.out))
                  have HF := hide (⟨he, hok, hna, hnd⟩ : _ ∧ _ ∧ _ ∧ _)
                  clear hk hb he hok hna hnd
                  go_wp2_with fail
                  have r9 := ((((HR.out.set 0 (.slice ca3 cs3.length cc3)).set 1 (.slice da3 ds3.length dc3)).set 2 (.int .i64 (nx + 1))).set 3 (.int .i64 ep))
                  have c0 := r9.cell (i := 0) (by decide)
                  have c1 := r9.cell (i := 1) (by decide)
                  have c2 := r9.cell (i := 2) (by decide)
                  have c3 := r9.cell (i := 3) (by decide)
                  simp at c0 c1 c2 c3
                  have HSs : Hid (Turn [w.heap.size + 1 + 1] (w5.alloc (.cells #[.slice ca3 cs3.length cc3, .slice da3 ds3.length dc3] 26)) (((((w5.alloc (.cells #[.slice ca3 cs3.length cc3, .slice da3 ds3.length dc3] 26)).setCell ⟨w.heap.size + 1 + 1, 0, none⟩ (.slice ca3 cs3.length cc3)).setCell ⟨w.heap.size + 1 + 1, 1, none⟩ (.slice da3 ds3.length dc3)).setCell ⟨w.heap.size + 1 + 1, 2, none⟩ (.int .i64 (nx + 1))).setCell ⟨w.heap.size + 1 + 1, 3, none⟩ (.int .i64 ep))) := ((((Turn.set (by simp) _).trans' (Turn.set (by simp) _)).trans' (Turn.set (by simp) _)).trans' (Turn.set (by simp) _))
                  clear r9 HR q0 q1 q2 q3 g0 g1 g2 g3
                  revert c0 c1 c2 c3 HSs
                  generalize World.setCell _ _ _ = W
                  intro c0 c1 c2 c3 HSs
                  refine bodyPost_ret (v := .tuple #[logV ca3 cs3.length cc3 da3 ds3.length dc3 (nx + 1) ep, .int .i64 0]) ?_ rfl (AddPost.yes (addC_zero HLY.out HEB.out (fun hx => by rw [HLC.out.1, HLC.out.2] at hx; omega)) ⟨ca3, cc3, cs3, da3, dc3, ds3, rfl, HF.out.1, HF.out.2.1, HF.out.2.2.1, HF.out.2.2.2, ?_⟩ ?_)
                  · simp [results, Tryz.results8, go_sem, c0, c1, c2, c3]
                  · refine HB.out.turn HSs.out ?_
                    intro b hb hx
                    have := HBN.out b hb
                    simp at hx
                    omega
                  · refine HSs.out.keeps (HKA.out.trans HK5.out) ?_
                    intro b hb
                    simp at hb
                    omega
end Go.Proofs.YtdlgoccbmemjgaaGreatDoor
namespace Go.Proofs.YtdlgoccbmemjgaaGreatDoor
open Go.RowKit Go.Deep
set_option linter.unusedVariables false
set_option linter.unusedSimpArgs false
set_option maxRecDepth 10000
def evRow (k y c t m f : Int) (b : Bool) (i : Nat) : Value := if i = 0 then .int .i64 k else if i = 1 then .int .i64 y else if i = 2 then .int .i64 c else if i = 3 then .int .i64 t else if i = 4 then .int .i64 m else if i = 5 then .int .i64 f else .bool b
def hasRow (h0 h1 h2 h3 h4 h5 : Bool) (i : Nat) : Value := if i = 0 then .bool h0 else if i = 1 then .bool h1 else if i = 2 then .bool h2 else if i = 3 then .bool h3 else if i = 4 then .bool h4 else .bool h5
theorem ev_row (k y c t m f : Int) (b : Bool) : ∀ i, i < (evCells k y c t m f b).size → (evCells k y c t m f b)[i]? = some (evRow k y c t m f b i)
  | 0, _ => rfl
  | 1, _ => rfl
  | 2, _ => rfl
  | 3, _ => rfl
  | 4, _ => rfl
  | 5, _ => rfl
  | 6, _ => rfl
theorem has_row (h0 h1 h2 h3 h4 h5 : Bool) : ∀ i, i < (#[Value.bool h0, .bool h1, .bool h2, .bool h3, .bool h4, .bool h5] : Array Value).size → (#[Value.bool h0, .bool h1, .bool h2, .bool h3, .bool h4, .bool h5] : Array Value)[i]? = some (hasRow h0 h1 h2 h3 h4 h5 i)
  | 0, _ => rfl
  | 1, _ => rfl
  | 2, _ => rfl
  | 3, _ => rfl
  | 4, _ => rfl
  | 5, _ => rfl
/-- The draw of an event under way: its variable, the table's row, the result. -/
structure EvSt (w : World) (B0 B : Nat) (a : Option Addr) (len cap : Nat) (R E H : Nat) (k y c t m f : Int) (b : Bool) (h0 h1 h2 h3 h4 h5 : Bool) (W : World) : Prop where
  ev : W.rowIs E 30 7 (evRow k y c t m f b)
  has : W.rowIs H 4 6 (hasRow h0 h1 h2 h3 h4 h5)
  res : W.rowIs R 30 7 (evRow 0 0 0 0 0 0 false)
  dr : Dr B0 B a len cap W
  g : w.grownBy W (some B)
  eh : H ≠ E
  er : R ≠ E
  hr : R ≠ H
  ne : w.heap.size ≤ E
  nh : w.heap.size ≤ H
  nr : w.heap.size ≤ R
  hb : B < w.heap.size
  h0 : B0 ≤ B
section
variable {w W W' : World} {B0 B : Nat} {a : Option Addr} {len cap R E H : Nat} {k y c t m f : Int} {b : Bool} {h0 h1 h2 h3 h4 h5 : Bool}
theorem EvSt.step (s : EvSt w B0 B a len cap R E H k y c t m f b h0 h1 h2 h3 h4 h5 W) (d : Dr B0 B a len cap W') (g : W.grownBy W' (some B)) : EvSt w B0 B a len cap R E H k y c t m f b h0 h1 h2 h3 h4 h5 W' :=
  ⟨grown_row g (by have := s.ne; have := s.hb; simp; omega) s.ev, grown_row g (by have := s.nh; have := s.hb; simp; omega) s.has, grown_row g (by have := s.nr; have := s.hb; simp; omega) s.res, d, s.g.trans g, s.eh, s.er, s.hr, s.ne, s.nh, s.nr, s.hb, s.h0⟩
theorem EvSt.drew (s : EvSt w B0 B a len cap R E H k y c t m f b h0 h1 h2 h3 h4 h5 W) : EvSt w B0 B a len cap R E H k y c t m f b h0 h1 h2 h3 h4 h5 W.drew :=
  s.step (s.dr.grown (row := none) ⟨rfl, rfl, rfl, Nat.le_refl _, fun _ _ _ => rfl⟩ (by simp) (by simp)) ⟨rfl, rfl, rfl, Nat.le_refl _, fun _ _ _ => rfl⟩
theorem ev_congr {f g : Nat → Value} (h0 : f 0 = g 0) (h1 : f 1 = g 1) (h2 : f 2 = g 2) (h3 : f 3 = g 3) (h4 : f 4 = g 4) (h5 : f 5 = g 5) (h6 : f 6 = g 6) : ∀ i, i < 7 → f i = g i
  | 0, _ => h0
  | 1, _ => h1
  | 2, _ => h2
  | 3, _ => h3
  | 4, _ => h4
  | 5, _ => h5
  | 6, _ => h6
theorem EvSt.set1 (s : EvSt w B0 B a len cap R E H k y c t m f b h0 h1 h2 h3 h4 h5 W) (z : Int) : EvSt w B0 B a len cap R E H k z c t m f b h0 h1 h2 h3 h4 h5 (W.setCell ⟨E, 1, none⟩ (.int .i64 z)) :=
  ⟨(s.ev.set 1 (.int .i64 z)).congr (ev_congr rfl rfl rfl rfl rfl rfl rfl), s.has.setOther (a := ⟨E, 1, none⟩) s.eh (.int .i64 z), s.res.setOther (a := ⟨E, 1, none⟩) s.er (.int .i64 z), s.dr.set (by have := s.ne; have := s.hb; omega) (by have := s.ne; have := s.hb; have := s.h0; omega) _, grown_new s.g s.ne, s.eh, s.er, s.hr, s.ne, s.nh, s.nr, s.hb, s.h0⟩
theorem EvSt.set2 (s : EvSt w B0 B a len cap R E H k y c t m f b h0 h1 h2 h3 h4 h5 W) (z : Int) : EvSt w B0 B a len cap R E H k y z t m f b h0 h1 h2 h3 h4 h5 (W.setCell ⟨E, 2, none⟩ (.int .i64 z)) :=
  ⟨(s.ev.set 2 (.int .i64 z)).congr (ev_congr rfl rfl rfl rfl rfl rfl rfl), s.has.setOther (a := ⟨E, 2, none⟩) s.eh (.int .i64 z), s.res.setOther (a := ⟨E, 2, none⟩) s.er (.int .i64 z), s.dr.set (by have := s.ne; have := s.hb; omega) (by have := s.ne; have := s.hb; have := s.h0; omega) _, grown_new s.g s.ne, s.eh, s.er, s.hr, s.ne, s.nh, s.nr, s.hb, s.h0⟩
theorem EvSt.set3 (s : EvSt w B0 B a len cap R E H k y c t m f b h0 h1 h2 h3 h4 h5 W) (z : Int) : EvSt w B0 B a len cap R E H k y c z m f b h0 h1 h2 h3 h4 h5 (W.setCell ⟨E, 3, none⟩ (.int .i64 z)) :=
  ⟨(s.ev.set 3 (.int .i64 z)).congr (ev_congr rfl rfl rfl rfl rfl rfl rfl), s.has.setOther (a := ⟨E, 3, none⟩) s.eh (.int .i64 z), s.res.setOther (a := ⟨E, 3, none⟩) s.er (.int .i64 z), s.dr.set (by have := s.ne; have := s.hb; omega) (by have := s.ne; have := s.hb; have := s.h0; omega) _, grown_new s.g s.ne, s.eh, s.er, s.hr, s.ne, s.nh, s.nr, s.hb, s.h0⟩
theorem EvSt.set4 (s : EvSt w B0 B a len cap R E H k y c t m f b h0 h1 h2 h3 h4 h5 W) (z : Int) : EvSt w B0 B a len cap R E H k y c t z f b h0 h1 h2 h3 h4 h5 (W.setCell ⟨E, 4, none⟩ (.int .i64 z)) :=
  ⟨(s.ev.set 4 (.int .i64 z)).congr (ev_congr rfl rfl rfl rfl rfl rfl rfl), s.has.setOther (a := ⟨E, 4, none⟩) s.eh (.int .i64 z), s.res.setOther (a := ⟨E, 4, none⟩) s.er (.int .i64 z), s.dr.set (by have := s.ne; have := s.hb; omega) (by have := s.ne; have := s.hb; have := s.h0; omega) _, grown_new s.g s.ne, s.eh, s.er, s.hr, s.ne, s.nh, s.nr, s.hb, s.h0⟩
theorem EvSt.set5 (s : EvSt w B0 B a len cap R E H k y c t m f b h0 h1 h2 h3 h4 h5 W) (z : Int) : EvSt w B0 B a len cap R E H k y c t m z b h0 h1 h2 h3 h4 h5 (W.setCell ⟨E, 5, none⟩ (.int .i64 z)) :=
  ⟨(s.ev.set 5 (.int .i64 z)).congr (ev_congr rfl rfl rfl rfl rfl rfl rfl), s.has.setOther (a := ⟨E, 5, none⟩) s.eh (.int .i64 z), s.res.setOther (a := ⟨E, 5, none⟩) s.er (.int .i64 z), s.dr.set (by have := s.ne; have := s.hb; omega) (by have := s.ne; have := s.hb; have := s.h0; omega) _, grown_new s.g s.ne, s.eh, s.er, s.hr, s.ne, s.nh, s.nr, s.hb, s.h0⟩
theorem EvSt.set6 (s : EvSt w B0 B a len cap R E H k y c t m f b h0 h1 h2 h3 h4 h5 W) (z : Bool) : EvSt w B0 B a len cap R E H k y c t m f z h0 h1 h2 h3 h4 h5 (W.setCell ⟨E, 6, none⟩ (.bool z)) :=
  ⟨(s.ev.set 6 (.bool z)).congr (ev_congr rfl rfl rfl rfl rfl rfl rfl), s.has.setOther (a := ⟨E, 6, none⟩) s.eh (.bool z), s.res.setOther (a := ⟨E, 6, none⟩) s.er (.bool z), s.dr.set (by have := s.ne; have := s.hb; omega) (by have := s.ne; have := s.hb; have := s.h0; omega) _, grown_new s.g s.ne, s.eh, s.er, s.hr, s.ne, s.nh, s.nr, s.hb, s.h0⟩
theorem EvSt.e0 (s : EvSt w B0 B a len cap R E H k y c t m f b h0 h1 h2 h3 h4 h5 W) : W.cell? ⟨E, 0, none⟩ = some (.int .i64 k) := s.ev.cell (i := 0) (by decide)
theorem EvSt.r0 (s : EvSt w B0 B a len cap R E H k y c t m f b h0 h1 h2 h3 h4 h5 W) : W.cell? ⟨R, 0, none⟩ = some (.int .i64 0) := s.res.cell (i := 0) (by decide)
theorem EvSt.e1 (s : EvSt w B0 B a len cap R E H k y c t m f b h0 h1 h2 h3 h4 h5 W) : W.cell? ⟨E, 1, none⟩ = some (.int .i64 y) := s.ev.cell (i := 1) (by decide)
theorem EvSt.r1 (s : EvSt w B0 B a len cap R E H k y c t m f b h0 h1 h2 h3 h4 h5 W) : W.cell? ⟨R, 1, none⟩ = some (.int .i64 0) := s.res.cell (i := 1) (by decide)
theorem EvSt.e2 (s : EvSt w B0 B a len cap R E H k y c t m f b h0 h1 h2 h3 h4 h5 W) : W.cell? ⟨E, 2, none⟩ = some (.int .i64 c) := s.ev.cell (i := 2) (by decide)
theorem EvSt.r2 (s : EvSt w B0 B a len cap R E H k y c t m f b h0 h1 h2 h3 h4 h5 W) : W.cell? ⟨R, 2, none⟩ = some (.int .i64 0) := s.res.cell (i := 2) (by decide)
theorem EvSt.e3 (s : EvSt w B0 B a len cap R E H k y c t m f b h0 h1 h2 h3 h4 h5 W) : W.cell? ⟨E, 3, none⟩ = some (.int .i64 t) := s.ev.cell (i := 3) (by decide)
theorem EvSt.r3 (s : EvSt w B0 B a len cap R E H k y c t m f b h0 h1 h2 h3 h4 h5 W) : W.cell? ⟨R, 3, none⟩ = some (.int .i64 0) := s.res.cell (i := 3) (by decide)
theorem EvSt.e4 (s : EvSt w B0 B a len cap R E H k y c t m f b h0 h1 h2 h3 h4 h5 W) : W.cell? ⟨E, 4, none⟩ = some (.int .i64 m) := s.ev.cell (i := 4) (by decide)
theorem EvSt.r4 (s : EvSt w B0 B a len cap R E H k y c t m f b h0 h1 h2 h3 h4 h5 W) : W.cell? ⟨R, 4, none⟩ = some (.int .i64 0) := s.res.cell (i := 4) (by decide)
theorem EvSt.e5 (s : EvSt w B0 B a len cap R E H k y c t m f b h0 h1 h2 h3 h4 h5 W) : W.cell? ⟨E, 5, none⟩ = some (.int .i64 f) := s.ev.cell (i := 5) (by decide)
theorem EvSt.r5 (s : EvSt w B0 B a len cap R E H k y c t m f b h0 h1 h2 h3 h4 h5 W) : W.cell? ⟨R, 5, none⟩ = some (.int .i64 0) := s.res.cell (i := 5) (by decide)
theorem EvSt.e6 (s : EvSt w B0 B a len cap R E H k y c t m f b h0 h1 h2 h3 h4 h5 W) : W.cell? ⟨E, 6, none⟩ = some (.bool b) := s.ev.cell (i := 6) (by decide)
theorem EvSt.r6 (s : EvSt w B0 B a len cap R E H k y c t m f b h0 h1 h2 h3 h4 h5 W) : W.cell? ⟨R, 6, none⟩ = some (.bool false) := s.res.cell (i := 6) (by decide)
theorem EvSt.h0' (s : EvSt w B0 B a len cap R E H k y c t m f b h0 h1 h2 h3 h4 h5 W) : W.cell? ⟨H, 0, none⟩ = some (.bool h0) := s.has.cell (i := 0) (by decide)
theorem EvSt.h1' (s : EvSt w B0 B a len cap R E H k y c t m f b h0 h1 h2 h3 h4 h5 W) : W.cell? ⟨H, 1, none⟩ = some (.bool h1) := s.has.cell (i := 1) (by decide)
theorem EvSt.h2' (s : EvSt w B0 B a len cap R E H k y c t m f b h0 h1 h2 h3 h4 h5 W) : W.cell? ⟨H, 2, none⟩ = some (.bool h2) := s.has.cell (i := 2) (by decide)
theorem EvSt.h3' (s : EvSt w B0 B a len cap R E H k y c t m f b h0 h1 h2 h3 h4 h5 W) : W.cell? ⟨H, 3, none⟩ = some (.bool h3) := s.has.cell (i := 3) (by decide)
theorem EvSt.h4' (s : EvSt w B0 B a len cap R E H k y c t m f b h0 h1 h2 h3 h4 h5 W) : W.cell? ⟨H, 4, none⟩ = some (.bool h4) := s.has.cell (i := 4) (by decide)
theorem EvSt.h5' (s : EvSt w B0 B a len cap R E H k y c t m f b h0 h1 h2 h3 h4 h5 W) : W.cell? ⟨H, 5, none⟩ = some (.bool h5) := s.has.cell (i := 5) (by decide)
/-- The result's cells are written. -/
theorem EvSt.fin (s : EvSt w B0 B a len cap R E H k y c t m f b h0 h1 h2 h3 h4 h5 W) {V : World} (hV : V = (((((((W.setCell ⟨R, 0, none⟩ (.int .i64 k)).setCell ⟨R, 1, none⟩ (.int .i64 y)).setCell ⟨R, 2, none⟩ (.int .i64 c)).setCell ⟨R, 3, none⟩ (.int .i64 t)).setCell ⟨R, 4, none⟩ (.int .i64 m)).setCell ⟨R, 5, none⟩ (.int .i64 f)).setCell ⟨R, 6, none⟩ (.bool b))) : (V.cell? ⟨R, 0, none⟩ = some (.int .i64 k) ∧ V.cell? ⟨R, 1, none⟩ = some (.int .i64 y) ∧ V.cell? ⟨R, 2, none⟩ = some (.int .i64 c) ∧ V.cell? ⟨R, 3, none⟩ = some (.int .i64 t) ∧ V.cell? ⟨R, 4, none⟩ = some (.int .i64 m) ∧ V.cell? ⟨R, 5, none⟩ = some (.int .i64 f) ∧ V.cell? ⟨R, 6, none⟩ = some (.bool b)) ∧ Dr B0 B a len cap V ∧ w.grownBy V (some B) := by
  subst hV
  have r : ((((((((W.setCell ⟨R, 0, none⟩ (.int .i64 k)).setCell ⟨R, 1, none⟩ (.int .i64 y)).setCell ⟨R, 2, none⟩ (.int .i64 c)).setCell ⟨R, 3, none⟩ (.int .i64 t)).setCell ⟨R, 4, none⟩ (.int .i64 m)).setCell ⟨R, 5, none⟩ (.int .i64 f)).setCell ⟨R, 6, none⟩ (.bool b))).rowIs R 30 7 (evRow k y c t m f b) := ((((((((s.res.set 0 (.int .i64 k)).set 1 (.int .i64 y)).set 2 (.int .i64 c)).set 3 (.int .i64 t)).set 4 (.int .i64 m)).set 5 (.int .i64 f)).set 6 (.bool b))).congr (ev_congr rfl rfl rfl rfl rfl rfl rfl)
  exact ⟨⟨r.cell (i := 0) (by decide), r.cell (i := 1) (by decide), r.cell (i := 2) (by decide), r.cell (i := 3) (by decide), r.cell (i := 4) (by decide), r.cell (i := 5) (by decide), r.cell (i := 6) (by decide)⟩, (((((((s.dr.set (by have := s.nr; have := s.hb; omega) (by have := s.nr; have := s.hb; have := s.h0; omega) _).set (by have := s.nr; have := s.hb; omega) (by have := s.nr; have := s.hb; have := s.h0; omega) _).set (by have := s.nr; have := s.hb; omega) (by have := s.nr; have := s.hb; have := s.h0; omega) _).set (by have := s.nr; have := s.hb; omega) (by have := s.nr; have := s.hb; have := s.h0; omega) _).set (by have := s.nr; have := s.hb; omega) (by have := s.nr; have := s.hb; have := s.h0; omega) _).set (by have := s.nr; have := s.hb; omega) (by have := s.nr; have := s.hb; have := s.h0; omega) _).set (by have := s.nr; have := s.hb; omega) (by have := s.nr; have := s.hb; have := s.h0; omega) _), (grown_new (grown_new (grown_new (grown_new (grown_new (grown_new (grown_new s.g s.nr) s.nr) s.nr) s.nr) s.nr) s.nr) s.nr)⟩
end
/-- What the table says, of some kind. -/
theorem has_all {k : Int} (h0 : 1 ≤ k) (h1 : k ≤ 11) : (∀ w, Calls Tryz.prog 73 #[.int .i64 k] w (hasPost false false false true false false w)) ∨ (∀ w, Calls Tryz.prog 73 #[.int .i64 k] w (hasPost false true false true true false w)) ∨ (∀ w, Calls Tryz.prog 73 #[.int .i64 k] w (hasPost false true false false true false w)) ∨ (∀ w, Calls Tryz.prog 73 #[.int .i64 k] w (hasPost true true true true false true w)) ∨ (∀ w, Calls Tryz.prog 73 #[.int .i64 k] w (hasPost true true true true true false w)) ∨ (∀ w, Calls Tryz.prog 73 #[.int .i64 k] w (hasPost false false false false false false w)) ∨ (∀ w, Calls Tryz.prog 73 #[.int .i64 k] w (hasPost true false false false false false w)) := by
  have h : k = 1 ∨ k = 2 ∨ k = 3 ∨ k = 4 ∨ k = 5 ∨ k = 6 ∨ k = 7 ∨ k = 8 ∨ k = 9 ∨ k = 10 ∨ k = 11 := by omega
  rcases h with rfl | rfl | rfl | rfl | rfl | rfl | rfl | rfl | rfl | rfl | rfl
  · exact .inl has_1
  · exact .inr (.inl has_2)
  · exact .inr (.inr (.inl has_3))
  · exact .inr (.inl has_4)
  · exact .inr (.inr (.inr (.inl has_5)))
  · exact .inr (.inr (.inr (.inr (.inr (.inr has_6)))))
  · exact .inr (.inr (.inr (.inr (.inr (.inr has_7)))))
  · exact .inr (.inr (.inr (.inr (.inr (.inl has_8)))))
  · exact .inr (.inr (.inr (.inr (.inl has_9))))
  · exact .inr (.inr (.inr (.inr (.inr (.inr has_10)))))
  · exact .inr (.inr (.inr (.inr (.inr (.inr has_11)))))
/-- An event. -/
def IsEv (e : Ending) : Prop := ∃ (k y c t m f : Int) (b : Bool), e = .returned (evV k y c t m f b)
theorem isEv {k y c t m f : Int} {b : Bool} : IsEv (.returned (evV k y c t m f b)) := ⟨k, y, c, t, m, f, b, rfl⟩
end Go.Proofs.YtdlgoccbmemjgaaGreatDoor
