/- Texts of the verifier, joined: EBI, LgA, LaX. -/
import Derived.Test.YtkdnddckogbgaaaGreatDoorFL11
import Derived.Test.YtkdnddckogbgaaaGreatDoorFL14
import Derived.Test.YtkdnddckogbgaaaGreatDoorFL10
import Derived.Test.YtkdnddckogbgaaaGreatDoorFL8
import Derived.Test.YtkdnddckogbgaaaGreatDoorFL16
import Derived.ChangeSame
import Derived.WideShapes
import Derived.Below
import Derived.Test.YtkdnddckogbgaaaGreatDoorFL24
namespace Go.Proofs.YtkdnddckogbgaaaGreatDoor
open Go.RowKit Go.Deep
set_option linter.unusedVariables false
set_option maxRecDepth 10000
set_option linter.unusedSimpArgs false
set_option maxHeartbeats 4000000 in
theorem body_impl (k y c t m f : Int) (b : Bool) (w : World) :
    Calls Tryz.prog 33 #[evV k y c t m f b] w (BodyPost w k y c t m f b) := by
  have HOK := hide (fun w1 => evok_impl k y c t m f b w1)
  have HKA := hide (Keeps.alloc (Keeps.refl w) (.cells (evCells k y c t m f b) 30))
  have HD : Hid (∀ w', Keeps (w.alloc (.cells (evCells k y c t m f b) 30)) w' → w'.cell? ⟨w.heap.size, 0, none⟩ = some (.int .i64 k) ∧ w'.cell? ⟨w.heap.size, 1, none⟩ = some (.int .i64 y) ∧ w'.cell? ⟨w.heap.size, 2, none⟩ = some (.int .i64 c) ∧ w'.cell? ⟨w.heap.size, 3, none⟩ = some (.int .i64 t) ∧ w'.cell? ⟨w.heap.size, 4, none⟩ = some (.int .i64 m) ∧ w'.cell? ⟨w.heap.size, 5, none⟩ = some (.int .i64 f) ∧ w'.cell? ⟨w.heap.size, 6, none⟩ = some (.bool b)) :=
    fun w' hk => ⟨hk.cell (by simp), hk.cell (by simp), hk.cell (by simp), hk.cell (by simp), hk.cell (by simp), hk.cell (by simp), hk.cell (by simp)⟩
  cases hb : evB k y c t m f b
  · rw [hb] at HOK
    have HB := hide hb
    clear hb
    go_enter Tryz.func33, Tryz.ntmps33
    go_wp2_with (go_at_call 69; refine (unhide HOK _).mono ?_; rintro x w1 ⟨rfl, hk1⟩)
    go_ret2
    exact BodyPost.no HB.out (HKA.out.trans hk1)
  · rw [hb] at HOK
    obtain ⟨⟨hk0, hk1⟩, ⟨hy0, hy1⟩, ⟨hc0, hc1⟩, ⟨ht0, ht1⟩, ⟨hm0, hm1⟩, ⟨hf0, hf1⟩⟩ := evB_bounds hb
    obtain ⟨k, rfl⟩ : ∃ n : Nat, k = n := ⟨k.toNat, by omega⟩
    obtain ⟨y, rfl⟩ : ∃ n : Nat, y = n := ⟨y.toNat, by omega⟩
    obtain ⟨c, rfl⟩ : ∃ n : Nat, c = n := ⟨c.toNat, by omega⟩
    obtain ⟨t, rfl⟩ : ∃ n : Nat, t = n := ⟨t.toNat, by omega⟩
    obtain ⟨m, rfl⟩ : ∃ n : Nat, m = n := ⟨m.toNat, by omega⟩
    obtain ⟨f, rfl⟩ : ∃ n : Nat, f = n := ⟨f.toNat, by omega⟩
    have HB := hide hb
    have HK : Hid (k < 9223372036854775808) := by show _ < _; omega
    have HY : Hid (y < 9223372036854775808) := by show _ < _; omega
    have HC : Hid (c < 9223372036854775808) := by show _ < _; omega
    have HT : Hid (t < 9223372036854775808) := by show _ < _; omega
    have HM : Hid (m < 9223372036854775808) := by show _ < _; omega
    have HF : Hid (f < 9223372036854775808) := by show _ < _; omega
    clear hb hk0 hk1 hy0 hy1 hc0 hc1 ht0 ht1 hm0 hm1 hf0 hf1
    go_enter Tryz.func33, Tryz.ntmps33
    go_wp2_with fail
    refine (unhide HOK _).mono ?_
    rintro x w1 ⟨rfl, hk1⟩
    have HK1 := hide hk1
    obtain ⟨d0, d1, d2, d3, d4, d5, d6⟩ := HD.out _ hk1
    clear hk1
    have hmk := make_22
    have HO0 := hide (World.ownsRow_made (base := w1.heap.size) (e := 5) (size := 1) w1 (madeCells #[.int .u8 0] 22) 22 (Nat.le_refl _) (by decide) (by rw [size_madeCells]))
    have HOJ : Hid (OwnsB ((w1.alloc (.cells (madeCells #[.int .u8 0] 22) 5)).alloc (.cells #[.int .u8 69] 5)) w1.heap.size (.slice (some ⟨w1.heap.size, 0, none⟩) 0 22) []) := World.ownsRow.alloc HO0.out _
    have HCJ : Hid (Cells ((w1.alloc (.cells (madeCells #[.int .u8 0] 22) 5)).alloc (.cells #[.int .u8 69] 5)) (some ⟨w1.heap.size + 1, 0, none⟩) (bys [69])) := by
      have h := cells_one (w1.alloc (.cells (madeCells #[.int .u8 0] 22) 5)) 69
      rw [World.size_alloc] at h
      exact h
    have HKJ := hide (Keeps.alloc (Keeps.alloc (Keeps.refl w1) (.cells (madeCells #[.int .u8 0] 22) 5)) (.cells #[.int .u8 69] 5))
    go_wp2_with (at_builtin; refine app_bys rfl (.tmp 9) (.tmp 10) rfl w1.heap.size _ [] [69] rfl (some ⟨w1.heap.size + 1, 0, none⟩) 1 rfl HCJ.out (fun e => nomatch e) HOJ.out (by decide) (by simp; omega) ?_; intro v2 w2 ho2 hg2; have HK2 := hide (Keeps.grown HKJ.out hg2 (fun k hk => (HOJ.out.lt k hk).1)); have HO2 : Hid (OwnsB w2 w1.heap.size v2 [69]) := ho2; clear ho2 hg2; clear d0 d1 d2 d3 d4 d5 d6; obtain ⟨d0, d1, d2, d3, d4, d5, d6⟩ := HD.out _ (HK1.out.trans HK2.out))
    clear HO0 HOJ HCJ HKJ hmk
    refine (appnum_k v2 ([69]) k 1 w1.heap.size w2 (by decide) (by decide) HK.out (by simp) HO2.out HK2.out.size w1 (Nat.le_refl _) HK2.out).mono ?_
    rintro x w3 ⟨v3, rfl, ho, _, hk⟩
    have HK3 := hide hk
    have HO3 := hide ho
    clear ho hk HO2 HK2
    clear d0 d1 d2 d3 d4 d5 d6
    obtain ⟨d0, d1, d2, d3, d4, d5, d6⟩ := HD.out _ (HK1.out.trans HK3.out)
    go_wp2_with fail
    refine (appnum_k v3 ([69] ++ digs k 1) y 3 w1.heap.size w3 (by decide) (by decide) HY.out (by simp [digs_length]) HO3.out HK3.out.size w1 (Nat.le_refl _) HK3.out).mono ?_
    rintro x w4 ⟨v4, rfl, ho, _, hk⟩
    have HK4 := hide hk
    have HO4 := hide ho
    clear ho hk HO3 HK3
    clear d0 d1 d2 d3 d4 d5 d6
    obtain ⟨d0, d1, d2, d3, d4, d5, d6⟩ := HD.out _ (HK1.out.trans HK4.out)
    go_wp2_with fail
    refine (appnum_k v4 ([69] ++ digs k 1 ++ digs y 3) c 1 w1.heap.size w4 (by decide) (by decide) HC.out (by simp [digs_length]) HO4.out HK4.out.size w1 (Nat.le_refl _) HK4.out).mono ?_
    rintro x w5 ⟨v5, rfl, ho, _, hk⟩
    have HK5 := hide hk
    have HO5 := hide ho
    clear ho hk HO4 HK4
    clear d0 d1 d2 d3 d4 d5 d6
    obtain ⟨d0, d1, d2, d3, d4, d5, d6⟩ := HD.out _ (HK1.out.trans HK5.out)
    go_wp2_with fail
    refine (appnum_k v5 ([69] ++ digs k 1 ++ digs y 3 ++ digs c 1) t 1 w1.heap.size w5 (by decide) (by decide) HT.out (by simp [digs_length]) HO5.out HK5.out.size w1 (Nat.le_refl _) HK5.out).mono ?_
    rintro x w6 ⟨v6, rfl, ho, _, hk⟩
    have HK6 := hide hk
    have HO6 := hide ho
    clear ho hk HO5 HK5
    clear d0 d1 d2 d3 d4 d5 d6
    obtain ⟨d0, d1, d2, d3, d4, d5, d6⟩ := HD.out _ (HK1.out.trans HK6.out)
    go_wp2_with fail
    refine (appnum_k v6 ([69] ++ digs k 1 ++ digs y 3 ++ digs c 1 ++ digs t 1) m 7 w1.heap.size w6 (by decide) (by decide) HM.out (by simp [digs_length]) HO6.out HK6.out.size w1 (Nat.le_refl _) HK6.out).mono ?_
    rintro x w7 ⟨v7, rfl, ho, _, hk⟩
    have HK7 := hide hk
    have HO7 := hide ho
    clear ho hk HO6 HK6
    clear d0 d1 d2 d3 d4 d5 d6
    obtain ⟨d0, d1, d2, d3, d4, d5, d6⟩ := HD.out _ (HK1.out.trans HK7.out)
    go_wp2_with fail
    refine (appnum_k v7 ([69] ++ digs k 1 ++ digs y 3 ++ digs c 1 ++ digs t 1 ++ digs m 7) f 7 w1.heap.size w7 (by decide) (by decide) HF.out (by simp [digs_length]) HO7.out HK7.out.size w1 (Nat.le_refl _) HK7.out).mono ?_
    rintro x w8 ⟨v8, rfl, ho, _, hk⟩
    have HK8 := hide hk
    have HO8 := hide ho
    clear ho hk HO7 HK7
    clear d0 d1 d2 d3 d4 d5 d6
    obtain ⟨d0, d1, d2, d3, d4, d5, d6⟩ := HD.out _ (HK1.out.trans HK8.out)
    have HX : Hid ((([69] ++ digs k 1 ++ digs y 3 ++ digs c 1 ++ digs t 1 ++ digs m 7 ++ digs f 7) : List UInt8).length + 1 ≤ 4194304) := by show _ ≤ _; simp [digs_length]
    cases b
    · have HCJ : Hid (Cells (w8.alloc (.cells #[.int .u8 0] 5)) (some ⟨w8.heap.size, 0, none⟩) (bys [0])) := cells_one w8 0
      have HOJ := hide (HO8.out.allocE (.cells #[.int .u8 0] 5))
      have HKJ := hide (Keeps.alloc HK8.out (.cells #[.int .u8 0] 5))
      go_wp2_with (at_builtin; refine app_bys rfl (.tmp 41) (.tmp 42) rfl w1.heap.size _ ([69] ++ digs k 1 ++ digs y 3 ++ digs c 1 ++ digs t 1 ++ digs m 7 ++ digs f 7) [0] rfl (some ⟨w8.heap.size, 0, none⟩) 1 rfl HCJ.out (fun e => nomatch e) HOJ.out HX.out (by simp; have := HK8.out.size; omega) ?_; intro v9 w9 ho hg)
      go_ret2
      refine BodyPost.yes HB.out ?_ (HKA.out.trans (HK1.out.trans (Keeps.grown HKJ.out hg (fun k hk => (HOJ.out.lt k hk).1))))
      refine OwnsB.older (base := w1.heap.size) ?_ (HKA.out.trans HK1.out).size
      unfold bodyL yesL
      simpa using ho
    · have HCJ : Hid (Cells (w8.alloc (.cells #[.int .u8 1] 5)) (some ⟨w8.heap.size, 0, none⟩) (bys [1])) := cells_one w8 1
      have HOJ := hide (HO8.out.allocE (.cells #[.int .u8 1] 5))
      have HKJ := hide (Keeps.alloc HK8.out (.cells #[.int .u8 1] 5))
      go_wp2_with (at_builtin; refine app_bys rfl (.tmp 38) (.tmp 39) rfl w1.heap.size _ ([69] ++ digs k 1 ++ digs y 3 ++ digs c 1 ++ digs t 1 ++ digs m 7 ++ digs f 7) [1] rfl (some ⟨w8.heap.size, 0, none⟩) 1 rfl HCJ.out (fun e => nomatch e) HOJ.out HX.out (by simp; have := HK8.out.size; omega) ?_; intro v9 w9 ho hg)
      go_ret2
      refine BodyPost.yes HB.out ?_ (HKA.out.trans (HK1.out.trans (Keeps.grown HKJ.out hg (fun k hk => (HOJ.out.lt k hk).1))))
      refine OwnsB.older (base := w1.heap.size) ?_ (HKA.out.trans HK1.out).size
      unfold bodyL yesL
      simpa using ho
end Go.Proofs.YtkdnddckogbgaaaGreatDoor
namespace Go.Proofs.YtkdnddckogbgaaaGreatDoor
open Go.RowKit Go.Deep
set_option linter.unusedVariables false
set_option maxRecDepth 10000

/-- May an event be added there? -/
def logB (m : DkM) (nx ep : Int) : Bool := dokM m && (decide (0 ≤ nx) && decide (nx ≤ m.cells.length) && decide (1 ≤ ep) && decide (ep ≤ 16000000))
theorem logB_no {m : DkM} {nx ep : Int} (h : dokM m = false ∨ nx < 0 ∨ (m.cells.length : Int) < nx ∨ ep < 1 ∨ 16000000 < ep) : logB m nx ep = false := by
  unfold logB
  rcases h with h | h | h | h | h
  · rw [h]; rfl
  · rw [decide_eq_false (p := 0 ≤ nx) (by omega)]; simp
  · rw [decide_eq_false (p := nx ≤ (m.cells.length : Int)) (by omega)]; simp
  · rw [decide_eq_false (p := 1 ≤ ep) (by omega)]; simp
  · rw [decide_eq_false (p := ep ≤ 16000000) (by omega)]; simp
theorem logB_yes {m : DkM} {nx ep : Int} (h : dokM m = true) (h0 : 0 ≤ nx) (h1 : nx ≤ (m.cells.length : Int)) (h2 : 1 ≤ ep) (h3 : ep ≤ 16000000) : logB m nx ep = true := by
  unfold logB
  rw [h, decide_eq_true h0, decide_eq_true h1, decide_eq_true h2, decide_eq_true h3]; rfl
theorem logB_true {m : DkM} {nx ep : Int} (h : logB m nx ep = true) : dokM m = true ∧ 0 ≤ nx ∧ nx ≤ (m.cells.length : Int) ∧ 1 ≤ ep ∧ ep ≤ 16000000 := by
  simp only [logB, Bool.and_eq_true, decide_eq_true_eq] at h
  exact ⟨h.1, h.2.1.1.1, h.2.1.1.2, h.2.1.2, h.2.2⟩
/-- The code of LogAdd. -/
def addC (m : DkM) (nx ep : Int) (e : Bool) : Int := if (logB m nx ep && e) = true then (if nx = m.cells.length ∨ m.dirty.length = 600 then 2 else 0) else 1
def addM (m : DkM) (nx ep : Int) (e : Bool) (L : List UInt8) : DkM := if addC m nx ep e = 0 then writeM m nx (secR nx ep L) else noM
def addN (m : DkM) (nx ep : Int) (e : Bool) : Int := if addC m nx ep e = 0 then nx + 1 else 0
def addE (m : DkM) (nx ep : Int) (e : Bool) : Int := if addC m nx ep e = 0 then ep else 0
/-- What LogAdd answers. -/
def AddPost (w : World) (m : DkM) (nx ep : Int) (e : Bool) (L : List UInt8) (x : Ending) (w' : World) : Prop := ∃ v, x = .returned (.tuple #[v, .int .i64 (addC m nx ep e)]) ∧ LogRes w w' v (addM m nx ep e L) (addN m nx ep e) (addE m nx ep e) ∧ Keeps w w'
theorem AddPost.no {w w' : World} {m : DkM} {nx ep : Int} {e : Bool} {L : List UInt8} {c : Int} (hc : addC m nx ep e = c) (h0 : c ≠ 0) (hk : Keeps w w') : AddPost w m nx ep e L (.returned (.tuple #[.agg #[.slice none 0 0, .slice none 0 0, .int .i64 0, .int .i64 0], .int .i64 c])) w' := by
  have h1 : addC m nx ep e ≠ 0 := hc ▸ h0
  refine ⟨_, by rw [hc], ?_, hk⟩
  unfold addM addN addE
  rw [if_neg h1, if_neg h1, if_neg h1]
  exact LogRes.none _ _
theorem AddPost.yes {w w' : World} {m : DkM} {nx ep : Int} {e : Bool} {L : List UInt8} {v : Value} (hc : addC m nx ep e = 0) (hr : LogRes w w' v (writeM m nx (secR nx ep L)) (nx + 1) ep) (hk : Keeps w w') : AddPost w m nx ep e L (.returned (.tuple #[v, .int .i64 0])) w' := by
  refine ⟨_, by rw [hc], ?_, hk⟩
  unfold addM addN addE
  rw [if_pos hc, if_pos hc, if_pos hc]
  exact hr
theorem addC_one {m : DkM} {nx ep : Int} {e : Bool} (h : (logB m nx ep && e) = false) : addC m nx ep e = 1 := by unfold addC; rw [h]; rfl
theorem addC_two {m : DkM} {nx ep : Int} {e : Bool} (h : logB m nx ep = true) (he : e = true) (h2 : nx = m.cells.length ∨ m.dirty.length = 600) : addC m nx ep e = 2 := by simp [addC, h, he, h2]
theorem addC_zero {m : DkM} {nx ep : Int} {e : Bool} (h : logB m nx ep = true) (he : e = true) (h2 : ¬ (nx = m.cells.length ∨ m.dirty.length = 600)) : addC m nx ep e = 0 := by simp [addC, h, he, h2]
set_option maxHeartbeats 4000000 in
theorem with_impl (ca : Option Addr) (cc : Nat) (cs : List Bs) (da : Option Addr) (dc : Nat) (ds : List Wr) (nx ep : Int) (ba : Option Addr) (bc : Nat) (bL : List UInt8) (w : World) (hm : Mem w (dsk ca cs da ds)) (h : DOk cs ds) (hb : Cells w ba (bys bL)) (hbn : ba = none → bc = 0) (hbl : bL.length ≤ 1048576) (hn0 : 0 ≤ nx) (hn1 : nx ≤ 1048576) :
    Calls Tryz.prog 35 #[logV ca cs.length cc da ds.length dc nx ep, .slice ba bL.length bc] w fun e w' => ∃ v, e = .returned v ∧ LogRes w w' v (writeM (dat cs ds) nx (secR nx ep bL)) (nx + 1) ep ∧ Keeps w w' := by
  have HKA := hide (Keeps.alloc (Keeps.alloc (Keeps.refl w) (.cells #[.slice ca cs.length cc, .slice da ds.length dc, .int .i64 nx, .int .i64 ep] 28)) (.cells #[.slice none 0 0, .slice none 0 0, .int .i64 0, .int .i64 0] 28))
  have HM := hide (hm.kept HKA.out)
  have HDO := hide h
  have HT := hide (secbytes_impl nx ep ba bc bL _ (hb.kept HKA.out) hbn (Nat.le_trans hbl (by decide)))
  have HR := hide (row_new (w.alloc (.cells #[.slice ca cs.length cc, .slice da ds.length dc, .int .i64 nx, .int .i64 ep] 28)) #[.slice none 0 0, .slice none 0 0, .int .i64 0, .int .i64 0] 28)
  have HS : Hid ((w.alloc (.cells #[.slice ca cs.length cc, .slice da ds.length dc, .int .i64 nx, .int .i64 ep] 28)).heap.size = w.heap.size + 1 ∧ ((w.alloc (.cells #[.slice ca cs.length cc, .slice da ds.length dc, .int .i64 nx, .int .i64 ep] 28)).alloc (.cells #[.slice none 0 0, .slice none 0 0, .int .i64 0, .int .i64 0] 28)).heap.size = w.heap.size + 1 + 1) := by show _ ∧ _; exact ⟨by simp, by simp⟩
  rw [HS.out.1] at HR
  have HD : Hid (∀ w', Keeps ((w.alloc (.cells #[.slice ca cs.length cc, .slice da ds.length dc, .int .i64 nx, .int .i64 ep] 28)).alloc (.cells #[.slice none 0 0, .slice none 0 0, .int .i64 0, .int .i64 0] 28)) w' → w'.cell? ⟨w.heap.size, 0, none⟩ = some (.slice ca cs.length cc) ∧ w'.cell? ⟨w.heap.size, 1, none⟩ = some (.slice da ds.length dc) ∧ w'.cell? ⟨w.heap.size, 2, none⟩ = some (.int .i64 nx) ∧ w'.cell? ⟨w.heap.size, 3, none⟩ = some (.int .i64 ep)) :=
    fun w' hk => ⟨hk.cell (by simp), hk.cell (by simp), hk.cell (by simp), hk.cell (by simp)⟩
  clear hm h hb hbn hbl
  go_enter Tryz.func35, Tryz.ntmps35
  go_wp2_with fail
  have HSz := hide HS.out.2
  generalize ((w.alloc (.cells #[.slice ca cs.length cc, .slice da ds.length dc, .int .i64 nx, .int .i64 ep] 28)).alloc (.cells #[.slice none 0 0, .slice none 0 0, .int .i64 0, .int .i64 0] 28)) = W0 at *
  refine (unhide HT).mono ?_
  rintro x w1 ⟨v, rfl, ho, hk⟩
  obtain ⟨sa, sc, rfl, hsn, hbo⟩ := Born.of_owns ho
  obtain ⟨d0, d1, d2, d3⟩ := HD.out _ hk
  replace HR := hide (hk.row HR.out)
  have HK1 := hide hk
  have HT2 := hide (diskwrite_impl ca cc cs da dc ds nx sa sc (secR nx ep bL) w1 (HM.out.kept hk) HDO.out hbo.toOwn.one hsn.1 (Nat.le_trans (secR_length _ _ _) (by decide)))
  clear hk ho hsn hbo HT HS
  go_wp2_with fail
  refine (unhide HT2).mono ?_
  rintro x w2 ⟨v, rfl, hr, hk⟩
  obtain ⟨ca2, cc2, cs2, da2, dc2, ds2, rfl, he, hok, hna, hnd, hb⟩ := hr
  clear d0 d1 d2 d3
  obtain ⟨d0, d1, d2, d3⟩ := HD.out _ ((HK1.out.trans hk).alloc (.cells #[.slice ca2 cs2.length cc2, .slice da2 ds2.length dc2] 26))
  replace HR := hide (((Keeps.refl w2).alloc (.cells #[.slice ca2 cs2.length cc2, .slice da2 ds2.length dc2] 26)).row (hk.row HR.out))
  have HKW := hide (((HKA.out.trans HK1.out).trans hk).alloc (.cells #[.slice ca2 cs2.length cc2, .slice da2 ds2.length dc2] 26))
  have hz : w.heap.size + 1 + 1 ≤ w2.heap.size := by have := (HK1.out.trans hk).size; have := HSz.out; omega
  have q0 := HR.out.cell (i := 0) (by decide)
  have q1 := HR.out.cell (i := 1) (by decide)
  have q2 := HR.out.cell (i := 2) (by decide)
  have q3 := HR.out.cell (i := 3) (by decide)
  have g0 := HR.out.frozen 0
  have g1 := HR.out.frozen 1
  have g2 := HR.out.frozen 2
  have g3 := HR.out.frozen 3
  simp only [Array.getD] at q0 q1 q2 q3
  simp at q0 q1 q2 q3
  have HB := hide (((hb.kept ((Keeps.refl w2).alloc (.cells #[.slice ca2 cs2.length cc2, .slice da2 ds2.length dc2] 26))).old (HKA.out.trans HK1.out)))
  have HBN : Hid (∀ b ∈ fp (dsk ca2 cs2 da2 ds2), w.heap.size + 1 + 1 ≤ b) := fun b hb1 => by have := hb.new b hb1; have := HK1.out.size; have := HSz.out; omega
  have HF := hide (⟨he, hok, hna, hnd⟩ : _ ∧ _ ∧ _ ∧ _)
  clear hk hb he hok hna hnd HT2
  go_wp2_with fail
  have r9 := ((((HR.out.set 0 (.slice ca2 cs2.length cc2)).set 1 (.slice da2 ds2.length dc2)).set 2 (.int .i64 (nx + 1))).set 3 (.int .i64 ep))
  have c0 := r9.cell (i := 0) (by decide)
  have c1 := r9.cell (i := 1) (by decide)
  have c2 := r9.cell (i := 2) (by decide)
  have c3 := r9.cell (i := 3) (by decide)
  simp at c0 c1 c2 c3
  have HSs : Hid (Turn [w.heap.size + 1] (w2.alloc (.cells #[.slice ca2 cs2.length cc2, .slice da2 ds2.length dc2] 26)) (((((w2.alloc (.cells #[.slice ca2 cs2.length cc2, .slice da2 ds2.length dc2] 26)).setCell ⟨w.heap.size + 1, 0, none⟩ (.slice ca2 cs2.length cc2)).setCell ⟨w.heap.size + 1, 1, none⟩ (.slice da2 ds2.length dc2)).setCell ⟨w.heap.size + 1, 2, none⟩ (.int .i64 (nx + 1))).setCell ⟨w.heap.size + 1, 3, none⟩ (.int .i64 ep))) := ((((Turn.set (by simp) _).trans' (Turn.set (by simp) _)).trans' (Turn.set (by simp) _)).trans' (Turn.set (by simp) _))
  clear r9 HR q0 q1 q2 q3 g0 g1 g2 g3
  revert c0 c1 c2 c3 HSs
  generalize World.setCell _ _ _ = W
  intro c0 c1 c2 c3 HSs
  refine bodyPost_ret (v := logV ca2 cs2.length cc2 da2 ds2.length dc2 (nx + 1) ep) ?_ rfl ⟨_, rfl, ⟨ca2, cc2, cs2, da2, dc2, ds2, rfl, HF.out.1, HF.out.2.1, HF.out.2.2.1, HF.out.2.2.2, ?_⟩, ?_⟩
  · simp [results, Tryz.results35, go_sem, c0, c1, c2, c3]
  · refine HB.out.turn HSs.out ?_
    intro b hb hx
    have := HBN.out b hb
    simp at hx
    omega
  · refine HSs.out.keeps HKW.out ?_
    intro b hb
    simp at hb
    omega
set_option maxHeartbeats 4000000 in
theorem logok_impl (ca : Option Addr) (cc : Nat) (cs : List Bs) (da : Option Addr) (dc : Nat) (ds : List Wr) (nx ep : Int) (w : World) (hm : Mem w (dsk ca cs da ds)) (h : DOk cs ds) :
    Calls Tryz.prog 34 #[logV ca cs.length cc da ds.length dc nx ep] w fun e w' => e = .returned (.bool (logB (dat cs ds) nx ep)) ∧ Keeps w w' := by
  have HKA := hide (Keeps.alloc (Keeps.refl w) (.cells #[.slice ca cs.length cc, .slice da ds.length dc, .int .i64 nx, .int .i64 ep] 28))
  have HT := hide (diskok_impl' ca cc cs da dc ds _ (hm.kept HKA.out) h)
  have hcl := h.c
  have HL : Hid ((dat cs ds).cells.length = cs.length) := by show _ = _; simp [dat]
  have HD : Hid (∀ w', Keeps (w.alloc (.cells #[.slice ca cs.length cc, .slice da ds.length dc, .int .i64 nx, .int .i64 ep] 28)) w' → w'.cell? ⟨w.heap.size, 0, none⟩ = some (.slice ca cs.length cc) ∧ w'.cell? ⟨w.heap.size, 1, none⟩ = some (.slice da ds.length dc) ∧ w'.cell? ⟨w.heap.size, 2, none⟩ = some (.int .i64 nx) ∧ w'.cell? ⟨w.heap.size, 3, none⟩ = some (.int .i64 ep)) :=
    fun w' hk => ⟨hk.cell (by simp), hk.cell (by simp), hk.cell (by simp), hk.cell (by simp)⟩
  obtain ⟨b, hbb⟩ : ∃ b, dokM (dat cs ds) = b := ⟨_, rfl⟩
  rw [hbb] at HT
  have HBB := hide hbb
  clear hm h hbb
  go_enter Tryz.func34, Tryz.ntmps34
  go_wp2_with fail
  refine (unhide HT).mono ?_
  rintro x w1 ⟨rfl, hk⟩
  obtain ⟨d0, d1, d2, d3⟩ := HD.out _ hk
  replace HKA := hide (HKA.out.trans hk)
  clear hk HT
  cases b
  · go_wp2_with fail
    go_ret
    exact ⟨(congrArg (fun z => Ending.returned (Value.bool z)) (logB_no (.inl HBB.out))).symm, HKA.out⟩
  · by_cases h0 : 0 ≤ nx
    · by_cases h1 : nx ≤ (cs.length : Int)
      · by_cases h2 : 1 ≤ ep
        · by_cases h3 : ep ≤ 16000000
          · go_wp2_with fail
            go_ret
            exact ⟨(congrArg (fun z => Ending.returned (Value.bool z)) (logB_yes HBB.out h0 (by rw [HL.out]; exact h1) h2 h3)).symm, HKA.out⟩
          · go_wp2_with fail
            go_ret
            exact ⟨congrArg (fun z => Ending.returned (Value.bool z)) ((decide_eq_false (p := ep ≤ 16000000) (by omega)).trans (logB_no (.inr (.inr (.inr (.inr (by omega)))))).symm), HKA.out⟩
        · go_wp2_with fail
          go_ret
          exact ⟨(congrArg (fun z => Ending.returned (Value.bool z)) (logB_no (.inr (.inr (.inr (.inl (by omega))))))).symm, HKA.out⟩
      · go_wp2_with fail
        go_ret
        exact ⟨(congrArg (fun z => Ending.returned (Value.bool z)) (logB_no (.inr (.inr (.inl (by rw [HL.out]; omega)))))).symm, HKA.out⟩
    · go_wp2_with fail
      go_ret
      exact ⟨(congrArg (fun z => Ending.returned (Value.bool z)) (logB_no (.inr (.inl (by omega))))).symm, HKA.out⟩
end Go.Proofs.YtkdnddckogbgaaaGreatDoor
namespace Go.Proofs.YtkdnddckogbgaaaGreatDoor
open Go.RowKit Go.Deep
set_option linter.unusedVariables false
set_option linter.unusedSimpArgs false
set_option maxRecDepth 100000
theorem logTo_ext {m m' : DkM} : ∀ {n : Nat}, (∀ j : Nat, j < n → readL m' j = readL m j) → logTo m' n = logTo m n
  | 0, _ => rfl
  | n + 1, h => by
    have ih := logTo_ext (m := m) (m' := m') (n := n) (fun j hj => h j (by omega))
    unfold logTo
    rw [ih, fit_ext (fun j hj => h j (by omega))]
/-- A synced disk says the same log, also behind a crash. -/
theorem sync_log {m : DkM} (h : dokM m = true) : logN (crashM m (fun _ => 128)) = logN m ∧ evsTo (crashM m (fun _ => 128)) (logN m) = evsTo m (logN m) := by
  obtain ⟨c1, c2, c3⟩ := dok_crash h (f := fun _ => 128) (fun _ => Nat.le_refl _)
  have hx : ∀ j : Nat, j < m.cells.length → readL (crashM m (fun _ => 128)) j = readL m j := fun j hj => (sync_read h (by omega) (by omega)).2.2
  have hle : logN m ≤ m.cells.length := logTo_le m _
  refine ⟨?_, evsTo_ext (fun j hj => hx j (by omega))⟩
  unfold logN
  rw [c2]
  exact logTo_ext hx
theorem sync_crash {m : DkM} (h : dokM m = true) (f : Nat → Nat) : crashM (crashM m (fun _ => 128)) f = crashM m (fun _ => 128) := by
  obtain ⟨c1, c2, c3⟩ := dok_crash h (f := fun _ => 128) (fun _ => Nat.le_refl _)
  exact crash_none c1 c3 f
/-- An event is read as it was written. -/
theorem body_back {k y c t m f : Int} {b : Bool} (h : evB k y c t m f b = true) : ebB (bodyR k y c t m f b) = true ∧ ebE (bodyR k y c t m f b) = ⟨k, y, c, t, m, f, b⟩ ∧ (bodyR k y c t m f b).length = 22 := by
  obtain ⟨⟨k0, k1⟩, ⟨y0, y1⟩, ⟨c0, c1⟩, ⟨t0, t1⟩, ⟨m0, m1⟩, f0, f1⟩ := evB_bounds h
  obtain ⟨k, rfl⟩ := Int.eq_ofNat_of_zero_le (show 0 ≤ k by omega)
  obtain ⟨y, rfl⟩ := Int.eq_ofNat_of_zero_le y0
  obtain ⟨c, rfl⟩ := Int.eq_ofNat_of_zero_le c0
  obtain ⟨t, rfl⟩ := Int.eq_ofNat_of_zero_le t0
  obtain ⟨m, rfl⟩ := Int.eq_ofNat_of_zero_le m0
  obtain ⟨f, rfl⟩ := Int.eq_ofNat_of_zero_le f0
  have hM : bodyR k y c t m f b = bodyL k y c t m f b := by unfold bodyR; rw [if_pos h]; rfl
  have hlen := bodyL_length k y c t m f b
  have hy1 : (yesL b).length = 1 := by cases b <;> rfl
  have d0 : cut (bodyL k y c t m f b) 0 1 = [69] := cut_at (A := []) (C := digs k 1 ++ digs y 3 ++ digs c 1 ++ digs t 1 ++ digs m 7 ++ digs f 7 ++ yesL b) (by simp [bodyL, List.append_assoc]) rfl rfl
  have d1 : cut (bodyL k y c t m f b) 1 1 = digs k 1 := cut_at (A := [69]) (C := digs y 3 ++ digs c 1 ++ digs t 1 ++ digs m 7 ++ digs f 7 ++ yesL b) (by simp [bodyL, List.append_assoc]) rfl (digs_length _ _)
  have d2 : cut (bodyL k y c t m f b) 2 3 = digs y 3 := cut_at (A := [69] ++ digs k 1) (C := digs c 1 ++ digs t 1 ++ digs m 7 ++ digs f 7 ++ yesL b) (by simp [bodyL, List.append_assoc]) (by simp [digs_length]) (digs_length _ _)
  have d5 : cut (bodyL k y c t m f b) 5 1 = digs c 1 := cut_at (A := [69] ++ digs k 1 ++ digs y 3) (C := digs t 1 ++ digs m 7 ++ digs f 7 ++ yesL b) (by simp [bodyL, List.append_assoc]) (by simp [digs_length]) (digs_length _ _)
  have d6 : cut (bodyL k y c t m f b) 6 1 = digs t 1 := cut_at (A := [69] ++ digs k 1 ++ digs y 3 ++ digs c 1) (C := digs m 7 ++ digs f 7 ++ yesL b) (by simp [bodyL, List.append_assoc]) (by simp [digs_length]) (digs_length _ _)
  have d7 : cut (bodyL k y c t m f b) 7 7 = digs m 7 := cut_at (A := [69] ++ digs k 1 ++ digs y 3 ++ digs c 1 ++ digs t 1) (C := digs f 7 ++ yesL b) (by simp [bodyL, List.append_assoc]) (by simp [digs_length]) (digs_length _ _)
  have d14 : cut (bodyL k y c t m f b) 14 7 = digs f 7 := cut_at (A := [69] ++ digs k 1 ++ digs y 3 ++ digs c 1 ++ digs t 1 ++ digs m 7) (C := yesL b) (by simp [bodyL, List.append_assoc]) (by simp [digs_length]) (digs_length _ _)
  have d21 : cut (bodyL k y c t m f b) 21 1 = yesL b := cut_at (A := [69] ++ digs k 1 ++ digs y 3 ++ digs c 1 ++ digs t 1 ++ digs m 7 ++ digs f 7) (C := []) (by simp [bodyL, List.append_assoc]) (by simp [digs_length]) hy1
  have n1 : numL (digs k 1) = k := numL_digs 1 k (by omega)
  have n2 : numL (digs y 3) = y := numL_digs 3 y (by omega)
  have n5 : numL (digs c 1) = c := numL_digs 1 c (by omega)
  have n6 : numL (digs t 1) = t := numL_digs 1 t (by omega)
  have n7 : numL (digs m 7) = m := numL_digs 7 m (by omega)
  have n14 : numL (digs f 7) = f := numL_digs 7 f (by omega)
  have n0 : numL [(69 : UInt8)] = 69 := by rw [numL_one]; rfl
  have nb : numL (yesL b) ≤ 1 ∧ decide (numL (yesL b) = 1) = b := by cases b <;> simp [yesL, numL_one]
  have hB : ebB (bodyL k y c t m f b) = true := by
    unfold ebB
    rw [d0, d1, d2, d5, d6, d7, d14, d21, n0, n1, n2, n5, n6, n7, n14, nb.2, hlen, decide_eq_true nb.1, h]
    rfl
  rw [hM]
  refine ⟨hB, ?_, hlen⟩
  unfold ebE
  rw [if_pos hB, d1, d2, d5, d6, d7, d14, d21, n1, n2, n5, n6, n7, n14, nb.2]
theorem add_yes {m : DkM} {nx ep : Int} {e : Bool} (h : addC m nx ep e = 0) : dokM m = true ∧ 0 ≤ nx ∧ nx < m.cells.length ∧ 1 ≤ ep ∧ ep ≤ 16000000 ∧ m.dirty.length ≠ 600 ∧ e = true := by
  unfold addC at h
  split at h
  · next h1 =>
    simp only [Bool.and_eq_true] at h1
    obtain ⟨a1, a2, a3, a4, a5⟩ := logB_true h1.1
    split at h
    · exact absurd h (by decide)
    · next h2 => exact ⟨a1, a2, by omega, a4, a5, by omega, h1.2⟩
  · exact absurd h (by decide)
/-- Where the log ends at nx, and no epoch is above ep, what is added is read at the end. -/
theorem add_all {m : DkM} {nx ep : Int} {e : Bool} {L : List UInt8} (hc : addC m nx ep e = 0) (hL : L.length ≤ 100) (hn : ((logN m : Nat) : Int) = nx) (ht : topM m ≤ ep) :
    dokM (addM m nx ep e L) = true ∧ logN m + 1 ≤ logN (addM m nx ep e L) ∧ (ebB L = true → evsTo (addM m nx ep e L) (logN m + 1) = evsTo m (logN m) ++ [ebE L]) := by
  obtain ⟨h1, h2, h3, h4, h5, h6, h7⟩ := add_yes hc
  have h8 := dokM_len h1
  have hs : secB nx ep L.length = true := by simp [secB]; omega
  obtain ⟨s1, s2, s3, s4, s5⟩ := sec_back hs
  have hw : writeB m nx (secR nx ep L) = true := writeB_yes h1 h6 h2 h3 s5
  have e0 : addM m nx ep e L = writeM m nx (secR nx ep L) := by unfold addM; rw [if_pos hc]
  have hd : dokM (writeM m nx (secR nx ep L)) = true := by unfold writeM; rw [if_pos hw, dokM_add h1]; exact hw
  have hl : (writeM m nx (secR nx ep L)).cells.length = m.cells.length := by unfold writeM; rw [if_pos hw]
  have hx : ∀ j : Nat, j < logN m → readL (writeM m nx (secR nx ep L)) j = readL m j := fun j hj => by rw [write_read hw, if_neg (by omega)]
  have hr : readL (writeM m nx (secR nx ep L)) (logN m) = secR nx ep L := by rw [write_read hw, if_pos hn]
  have hf : fitTo m (logN m) := fitTo_log m.cells.length
  have hla : lastE (writeM m nx (secR nx ep L)) (logN m) = lastE m (logN m) := by
    cases hk : logN m with
    | zero => rfl
    | succ k => simp only [lastE]; rw [hx k (by omega)]
  have hlt : lastE m (logN m) ≤ topM m := last_top hf (by omega)
  have f1 : fitTo (writeM m nx (secR nx ep L)) (logN m + 1) := by
    refine fitTo_succ (fitTo_ext hx hf) ?_
    unfold fitB
    rw [hr, s1, s2, s3, hla, decide_eq_true (show nx = ((logN m : Nat) : Int) from hn.symm), decide_eq_true (show lastE m (logN m) ≤ ep by omega)]
    rfl
  rw [e0]
  refine ⟨hd, ?_, fun hb => ?_⟩
  · show _ ≤ logTo _ _
    exact logTo_ge f1 (by rw [hl]; omega)
  · rw [evsTo_yes (by rw [hr, s4]; exact hb), evsTo_ext hx, hr, s4]
end Go.Proofs.YtkdnddckogbgaaaGreatDoor
