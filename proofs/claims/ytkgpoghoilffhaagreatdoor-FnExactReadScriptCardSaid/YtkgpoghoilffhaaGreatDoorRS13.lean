/- Texts of the verifier, joined: SdJ, EvQ, Flt, IntL, StQ, Zd. -/
import Derived.Test.YtkgpoghoilffhaaGreatDoorRS12
import Derived.Test.YtkgpoghoilffhaaGreatDoorRS2
import Derived.Test.YtkgpoghoilffhaaGreatDoorRS1
import Derived.Deep.OwnRows
import Derived.Deep.DrawnRows
import Derived.Laws.MakeOwn
import Derived.Test.YtkgpoghoilffhaaGreatDoorRS10
import Derived.Deep.Cut
namespace Go.Proofs.YtkgpoghoilffhaaGreatDoor
open Go.RowKit Go.Deep
set_option linter.unusedVariables false
set_option linter.unusedSimpArgs false
set_option maxRecDepth 10000
theorem partsE_sum {e : UInt8} : ∀ (m : List UInt8), ((partsE e m).map (fun w => w.length + 1)).sum ≤ m.length
  | [] => by simp [partsE]
  | c :: m => by
    have ih := partsE_sum (e := e) m
    rw [partsE]
    split
    · simp only [List.map_cons, List.sum_cons, List.length_nil, List.length_cons]; omega
    · split
      · simp
      · next h => rw [h] at ih; simp only [List.map_cons, List.sum_cons, List.length_cons] at ih ⊢; omega
theorem tw_len : ∀ (ws : List (List UInt8)), 2 * (ws.takeWhile okN).length ≤ (ws.map (fun w => w.length + 1)).sum
  | [] => by simp
  | w :: r => by
    have ih := tw_len r
    cases h : okN w
    · rw [List.takeWhile_cons_of_neg (by simp [h])]; simp
    · rw [List.takeWhile_cons_of_pos h]
      have hw : 0 < w.length := by
        rcases Nat.eq_zero_or_pos w.length with h1 | h1
        · have h2 := List.length_eq_zero_iff.1 h1
          subst h2
          unfold okN at h
          simp at h
        · exact h1
      simp only [List.map_cons, List.sum_cons, List.length_cons]
      omega
theorem said_ks (h : List UInt8) (e : Ev) (v : List Int) : (saidS h e v).ks = [] ∨ (saidS h e v).ks = v := by
  unfold saidS
  repeat' split
  all_goals simp
theorem saidI_len (l : List UInt8) (hl : l.length ≤ 1048576) : (saidI l).ks.length ≤ 1048576 := by
  unfold saidI
  rcases said_ks (Lib.cut l [32]).1 (evS (Lib.cut l [32]).2.1) (goodN (partsE 32 ((Lib.cut l [32]).2.1 ++ [32]))) with h | h
  · rw [h]; simp
  · rw [h]
    unfold goodN
    rw [List.length_map]
    have h1 := tw_len (partsE 32 ((Lib.cut l [32]).2.1 ++ [32]))
    have h2 := partsE_sum (e := 32) ((Lib.cut l [32]).2.1 ++ [32])
    have h3 : (Lib.cut l [32]).2.1.length ≤ l.length := by
      unfold Lib.cut
      split
      · simp
      · simp
    rw [List.length_append, List.length_singleton] at h2
    omega
theorem bytes_eq {s : ByteArray} {l : List UInt8} (h : l = s.data.toList) : (⟨l.toArray⟩ : ByteArray) = s := by
  rw [h]
set_option maxHeartbeats 4000000 in
theorem textstep_impl (s : ByteArray) (w : World) (hs : s.size ≤ 1048576) (he : Env w) (mx : Int) (hm : w.cell? ⟨1, 0, none⟩ = some (.int .i64 mx)) :
    Calls Tryz.prog 9 #[.string s] w fun e w' => TsPost s w w' e ∧ Keeps w w' := by
  have HK := hide (Keeps.alloc (Keeps.refl w) (.cells #[.int .i64 0, .int .i64 0, .int .i64 0, .int .i64 0, .int .i64 0, .int .i64 0, .int .i64 0, .bool false, .slice none 0 0, .int .i64 0, .int .i64 0, .int .i64 0, .int .i64 0, .int .i64 0] 33))
  have HR := hide (row_14 w 33 (.int .i64 0) (.int .i64 0) (.int .i64 0) (.int .i64 0) (.int .i64 0) (.int .i64 0) (.int .i64 0) (.bool false) (.slice none 0 0) (.int .i64 0) (.int .i64 0) (.int .i64 0) (.int .i64 0) (.int .i64 0))
  have HQ := hide (fun w' (hk : Keeps w w') => stepsaid_k s w' hs (he.kept hk) mx (hk.cell hm))
  have HT := hide he.tab
  have HB : Hid (w.heap.size ≤ w.heap.size) := Nat.le_refl _
  have hks := saidI_len s.data.toList (by simpa using hs)
  clear he hm
  go_enter Tryz.func9, Tryz.ntmps9
  go_wp2_with fail
  have hsz : (w.alloc (.cells #[.int .i64 0, .int .i64 0, .int .i64 0, .int .i64 0, .int .i64 0, .int .i64 0, .int .i64 0, .bool false, .slice none 0 0, .int .i64 0, .int .i64 0, .int .i64 0, .int .i64 0, .int .i64 0] 33)).heap.size = w.heap.size + 1 := by simp
  generalize w.alloc (.cells #[.int .i64 0, .int .i64 0, .int .i64 0, .int .i64 0, .int .i64 0, .int .i64 0, .int .i64 0, .bool false, .slice none 0 0, .int .i64 0, .int .i64 0, .int .i64 0, .int .i64 0, .int .i64 0] 33) = W1 at *
  refine (unhide HQ _ HK.out).mono ?_
  rintro x w1 ⟨⟨a, c, rfl, ho⟩, hk1⟩
  obtain ⟨D, hD⟩ : ∃ D, saidI s.data.toList = D := ⟨_, rfl⟩
  rw [hD] at ho hks ⊢
  have HU : Hid (∀ D', stpB D' = true → stT D' = s.data.toList → D' = D) := fun D' h1 h2 => by rw [← hD, ← h2]; exact (saidI_eq h1).symm
  have HZ1 : Hid (w.heap.size + 1 ≤ W1.heap.size) := Nat.le_of_eq hsz.symm
  have hk2 := Keeps.alloc (Keeps.refl w1) (.cells (D.cells a c) 33)
  have HBX := hide (stp_box D a c w1 33)
  have HO2 := hide (owns_keepI ho hk2)
  have HK2 := hide (HK.out.trans (hk1.trans hk2))
  have HR2 := hide (Keeps.rowV (hk1.trans hk2) HR.out)
  have HC2 := hide (owns_cells HO2.out)
  have HKZ := hide hks
  clear hk1 hk2 ho hD hsz HK HR HQ hks
  go_wp2_with fail
  generalize w1.alloc (.cells (D.cells a c) 33) = W2 at *
  have HS := hide (stepok_impl D a c W2 HC2.out HKZ.out)
  cases hB : stpB D
  · rw [hB] at HS
    have HV := hide hB
    clear hB
    refine (unhide HS).mono ?_
    rintro x w3 ⟨rfl, hk3⟩
    have HK3 := hide (HK2.out.trans hk3)
    have HR3 := hide (Keeps.rowV hk3 HR2.out)
    clear hk3 HK2 HR2 HS HBX
    have r0 := (HR3.out).cell (i := 0) (by decide)
    have r1 := (HR3.out).cell (i := 1) (by decide)
    have r2 := (HR3.out).cell (i := 2) (by decide)
    have r3 := (HR3.out).cell (i := 3) (by decide)
    have r4 := (HR3.out).cell (i := 4) (by decide)
    have r5 := (HR3.out).cell (i := 5) (by decide)
    have r6 := (HR3.out).cell (i := 6) (by decide)
    have r7 := (HR3.out).cell (i := 7) (by decide)
    have r8 := (HR3.out).cell (i := 8) (by decide)
    have r9 := (HR3.out).cell (i := 9) (by decide)
    have r10 := (HR3.out).cell (i := 10) (by decide)
    have r11 := (HR3.out).cell (i := 11) (by decide)
    have r12 := (HR3.out).cell (i := 12) (by decide)
    have r13 := (HR3.out).cell (i := 13) (by decide)
    have rf0 := (HR3.out).frozen 0
    have rf1 := (HR3.out).frozen 1
    have rf2 := (HR3.out).frozen 2
    have rf3 := (HR3.out).frozen 3
    have rf4 := (HR3.out).frozen 4
    have rf5 := (HR3.out).frozen 5
    have rf6 := (HR3.out).frozen 6
    have rf7 := (HR3.out).frozen 7
    have rf8 := (HR3.out).frozen 8
    have rf9 := (HR3.out).frozen 9
    have rf10 := (HR3.out).frozen 10
    have rf11 := (HR3.out).frozen 11
    have rf12 := (HR3.out).frozen 12
    have rf13 := (HR3.out).frozen 13
    have rl := (HR3.out).lt
    simp at r0 r1 r2 r3 r4 r5 r6 r7 r8 r9 r10 r11 r12 r13
    go_wp2_with fail
    obtain ⟨⟨o0, o1, o2, o3, o4, o5, o6, o7, o8, o9, o10, o11, o12, o13⟩, hkF, htF, _⟩ := set_14 (HR3.out) (HK3.out) (HB.out) (.int .i64 0) (.int .i64 0) (.int .i64 0) (.int .i64 0) (.int .i64 0) (.int .i64 0) (.int .i64 0) (.bool false) (.slice none 0 0) (.int .i64 0) (.int .i64 0) (.int .i64 0) (.int .i64 0) (.int .i64 0)
    refine bodyPost_ret (v := .tuple #[.agg #[.int .i64 0, .int .i64 0, .int .i64 0, .int .i64 0, .int .i64 0, .int .i64 0, .int .i64 0, .bool false, .slice none 0 0, .int .i64 0, .int .i64 0, .int .i64 0, .int .i64 0, .int .i64 0], .bool false]) ?_ rfl ⟨.inr ⟨fun D2 h1 h2 => absurd h1 (by rw [HU.out D2 h1 h2, HV.out]; simp), rfl⟩, hkF⟩
    clear hkF htF r0 r1 r2 r3 r4 r5 r6 r7 r8 r9 r10 r11 r12 r13 rf0 rf1 rf2 rf3 rf4 rf5 rf6 rf7 rf8 rf9 rf10 rf11 rf12 rf13 rl
    revert o0 o1 o2 o3 o4 o5 o6 o7 o8 o9 o10 o11 o12 o13
    generalize World.setCell (World.setCell _ _ _) _ _ = WW
    intro o0 o1 o2 o3 o4 o5 o6 o7 o8 o9 o10 o11 o12 o13
    simp [results, Tryz.results9, go_sem, o0, o1, o2, o3, o4, o5, o6, o7, o8, o9, o10, o11, o12, o13]
  · rw [hB] at HS
    have HV := hide hB
    clear hB
    refine (unhide HS).mono ?_
    rintro x w3 ⟨rfl, hk3⟩
    have HK3 := hide (HK2.out.trans hk3)
    have HR3 := hide (Keeps.rowV hk3 HR2.out)
    have HO3 := hide (owns_keepI HO2.out hk3)
    have HC3 := hide (HC2.out.kept hk3)
    have HK23 := hide hk3
    obtain ⟨c0, ⟨c1, c2, c3, c4, c5, c6, c7⟩, c8, c9, c10, c11, c12, c13⟩ := HBX.out w3 hk3
    clear hk3 HK2 HR2 HS HO2 HC2
    go_wp2_with fail
    refine (stept_impl D a c w3 HC3.out HKZ.out (HT.out.kept HK3.out)).mono ?_
    rintro x w4 ⟨rfl, hk4⟩
    have HK4 := hide (HK3.out.trans hk4)
    have HR4 := hide (Keeps.rowV hk4 HR3.out)
    have HO4 := hide (owns_keepI HO3.out hk4)
    have hcl := HBX.out w4 (HK23.out.trans hk4)
    clear hk4 HK3 HR3 HO3 HC3 HK23 HBX c0 c1 c2 c3 c4 c5 c6 c7 c8 c9 c10 c11 c12 c13
    obtain ⟨c0, ⟨c1, c2, c3, c4, c5, c6, c7⟩, c8, c9, c10, c11, c12, c13⟩ := hcl
    have HTX := hide (stL_yes HV.out)
    by_cases ht : stL D = s.data.toList
    · rw [bytes_eq ht]
      have HTT := hide (HTX.out.symm.trans ht)
      clear ht
      have r0 := (HR4.out).cell (i := 0) (by decide)
      have r1 := (HR4.out).cell (i := 1) (by decide)
      have r2 := (HR4.out).cell (i := 2) (by decide)
      have r3 := (HR4.out).cell (i := 3) (by decide)
      have r4 := (HR4.out).cell (i := 4) (by decide)
      have r5 := (HR4.out).cell (i := 5) (by decide)
      have r6 := (HR4.out).cell (i := 6) (by decide)
      have r7 := (HR4.out).cell (i := 7) (by decide)
      have r8 := (HR4.out).cell (i := 8) (by decide)
      have r9 := (HR4.out).cell (i := 9) (by decide)
      have r10 := (HR4.out).cell (i := 10) (by decide)
      have r11 := (HR4.out).cell (i := 11) (by decide)
      have r12 := (HR4.out).cell (i := 12) (by decide)
      have r13 := (HR4.out).cell (i := 13) (by decide)
      have rf0 := (HR4.out).frozen 0
      have rf1 := (HR4.out).frozen 1
      have rf2 := (HR4.out).frozen 2
      have rf3 := (HR4.out).frozen 3
      have rf4 := (HR4.out).frozen 4
      have rf5 := (HR4.out).frozen 5
      have rf6 := (HR4.out).frozen 6
      have rf7 := (HR4.out).frozen 7
      have rf8 := (HR4.out).frozen 8
      have rf9 := (HR4.out).frozen 9
      have rf10 := (HR4.out).frozen 10
      have rf11 := (HR4.out).frozen 11
      have rf12 := (HR4.out).frozen 12
      have rf13 := (HR4.out).frozen 13
      have rl := (HR4.out).lt
      simp at r0 r1 r2 r3 r4 r5 r6 r7 r8 r9 r10 r11 r12 r13
      go_wp2_with fail
      obtain ⟨⟨o0, o1, o2, o3, o4, o5, o6, o7, o8, o9, o10, o11, o12, o13⟩, hkF, htF, _⟩ := set_14 (HR4.out) (HK4.out) (HB.out) (.int .i64 D.k) (.int .i64 D.e.k) (.int .i64 D.e.y) (.int .i64 D.e.c) (.int .i64 D.e.t) (.int .i64 D.e.m) (.int .i64 D.e.f) (.bool D.e.b) (.slice a D.ks.length c) (.int .i64 D.r.lo) (.int .i64 D.r.hi) (.int .i64 D.r.st) (.int .i64 D.r.mi) (.int .i64 D.r.ma)
      have hOF := owns_turnB HO4.out htF HZ1.out
      refine bodyPost_ret (v := .tuple #[.agg #[.int .i64 D.k, .int .i64 D.e.k, .int .i64 D.e.y, .int .i64 D.e.c, .int .i64 D.e.t, .int .i64 D.e.m, .int .i64 D.e.f, .bool D.e.b, .slice a D.ks.length c, .int .i64 D.r.lo, .int .i64 D.r.hi, .int .i64 D.r.st, .int .i64 D.r.mi, .int .i64 D.r.ma], .bool true]) ?_ rfl ⟨.inl ⟨D, a, c, HV.out, HTT.out, rfl, owns_base hOF (by have := HZ1.out; omega)⟩, hkF⟩
      clear hkF htF hOF r0 r1 r2 r3 r4 r5 r6 r7 r8 r9 r10 r11 r12 r13 rf0 rf1 rf2 rf3 rf4 rf5 rf6 rf7 rf8 rf9 rf10 rf11 rf12 rf13 rl
      revert o0 o1 o2 o3 o4 o5 o6 o7 o8 o9 o10 o11 o12 o13
      generalize World.setCell (World.setCell _ _ _) _ _ = WW
      intro o0 o1 o2 o3 o4 o5 o6 o7 o8 o9 o10 o11 o12 o13
      simp [results, Tryz.results9, go_sem, o0, o1, o2, o3, o4, o5, o6, o7, o8, o9, o10, o11, o12, o13]
    · have hne := str_ne ht
      have HTN := hide (fun h => ht (HTX.out.trans h))
      clear ht
      have r0 := (HR4.out).cell (i := 0) (by decide)
      have r1 := (HR4.out).cell (i := 1) (by decide)
      have r2 := (HR4.out).cell (i := 2) (by decide)
      have r3 := (HR4.out).cell (i := 3) (by decide)
      have r4 := (HR4.out).cell (i := 4) (by decide)
      have r5 := (HR4.out).cell (i := 5) (by decide)
      have r6 := (HR4.out).cell (i := 6) (by decide)
      have r7 := (HR4.out).cell (i := 7) (by decide)
      have r8 := (HR4.out).cell (i := 8) (by decide)
      have r9 := (HR4.out).cell (i := 9) (by decide)
      have r10 := (HR4.out).cell (i := 10) (by decide)
      have r11 := (HR4.out).cell (i := 11) (by decide)
      have r12 := (HR4.out).cell (i := 12) (by decide)
      have r13 := (HR4.out).cell (i := 13) (by decide)
      have rf0 := (HR4.out).frozen 0
      have rf1 := (HR4.out).frozen 1
      have rf2 := (HR4.out).frozen 2
      have rf3 := (HR4.out).frozen 3
      have rf4 := (HR4.out).frozen 4
      have rf5 := (HR4.out).frozen 5
      have rf6 := (HR4.out).frozen 6
      have rf7 := (HR4.out).frozen 7
      have rf8 := (HR4.out).frozen 8
      have rf9 := (HR4.out).frozen 9
      have rf10 := (HR4.out).frozen 10
      have rf11 := (HR4.out).frozen 11
      have rf12 := (HR4.out).frozen 12
      have rf13 := (HR4.out).frozen 13
      have rl := (HR4.out).lt
      simp at r0 r1 r2 r3 r4 r5 r6 r7 r8 r9 r10 r11 r12 r13
      go_wp2_with fail
      obtain ⟨⟨o0, o1, o2, o3, o4, o5, o6, o7, o8, o9, o10, o11, o12, o13⟩, hkF, htF, _⟩ := set_14 (HR4.out) (HK4.out) (HB.out) (.int .i64 0) (.int .i64 0) (.int .i64 0) (.int .i64 0) (.int .i64 0) (.int .i64 0) (.int .i64 0) (.bool false) (.slice none 0 0) (.int .i64 0) (.int .i64 0) (.int .i64 0) (.int .i64 0) (.int .i64 0)
      refine bodyPost_ret (v := .tuple #[.agg #[.int .i64 0, .int .i64 0, .int .i64 0, .int .i64 0, .int .i64 0, .int .i64 0, .int .i64 0, .bool false, .slice none 0 0, .int .i64 0, .int .i64 0, .int .i64 0, .int .i64 0, .int .i64 0], .bool false]) ?_ rfl ⟨.inr ⟨fun D2 h1 h2 => unhide HTN (by rw [← HU.out D2 h1 h2]; exact h2), rfl⟩, hkF⟩
      clear hkF htF r0 r1 r2 r3 r4 r5 r6 r7 r8 r9 r10 r11 r12 r13 rf0 rf1 rf2 rf3 rf4 rf5 rf6 rf7 rf8 rf9 rf10 rf11 rf12 rf13 rl
      revert o0 o1 o2 o3 o4 o5 o6 o7 o8 o9 o10 o11 o12 o13
      generalize World.setCell (World.setCell _ _ _) _ _ = WW
      intro o0 o1 o2 o3 o4 o5 o6 o7 o8 o9 o10 o11 o12 o13
      simp [results, Tryz.results9, go_sem, o0, o1, o2, o3, o4, o5, o6, o7, o8, o9, o10, o11, o12, o13]
end Go.Proofs.YtkgpoghoilffhaaGreatDoor
namespace Go.Proofs.YtkgpoghoilffhaaGreatDoor
open Go.RowKit
set_option linter.unusedVariables false
set_option maxHeartbeats 1000000 in
theorem eqEvent_same (k y c t m f : Int) (b : Bool) (w : World) : Calls Tryz.prog 48 #[evV k y c t m f b, evV k y c t m f b] w fun e w' => e = .returned (.bool true) ∧ Keeps w w' := by
  go_enter Tryz.func48, Tryz.ntmps48
  go_wp2_with fail
  go_ret
  exact ⟨rfl, Keeps.alloc (Keeps.alloc (Keeps.refl _) _) _⟩
end Go.Proofs.YtkgpoghoilffhaaGreatDoor
namespace Go.Proofs.YtkgpoghoilffhaaGreatDoor
open Go.RowKit Go.Deep
set_option linter.unusedVariables false

theorem own_wrote {w w' : World} {a : Option Addr} {xs ys : List Value} (h : Own w [(a, xs)]) (hl : ys.length = xs.length) (hc : Cells w' a ys) (hf : ∀ p, w'.frozen? p = w.frozen? p) : Own w' [(a, ys)] := by
  have e : fp [(a, ys)] = fp [(a, xs)] := by rw [fp_one, fp_one]; exact fpS_len hl
  refine ⟨?_, by rw [e]; exact h.nd, ?_⟩
  · intro s hs
    rw [List.mem_singleton.1 hs]; exact hc
  · rw [e]
    intro b hb o
    rw [hf]; exact h.free b hb o
theorem cells_setF {w : World} {g off : Nat} {xs : List Value} (hc : ∀ j (hj : j < xs.length), w.cell? ⟨g, off + j, none⟩ = some xs[j]) (i : Nat) (v : Value) (hi : i < xs.length) : ∀ j (hj : j < (xs.set i v).length), (w.setCell ⟨g, off + i, none⟩ v).cell? ⟨g, off + j, none⟩ = some (xs.set i v)[j] := by
  intro j hj
  have hj' : j < xs.length := by simpa using hj
  by_cases e : j = i
  · subst e
    rw [World.cell?_setCell_same _ _ _ (hc j hj')]; simp
  · rw [World.cell?_setCell_other _ _ _ _ (by simp), hc j hj', List.getElem_set_ne (Ne.symm e)]
/-- One cell of a list of one's own was written. -/
theorem own_set {w : World} {g off : Nat} {xs : List Value} (h : Own w [(some ⟨g, off, none⟩, xs)]) (i : Nat) (v : Value) (hi : i < xs.length) : Own (w.setCell ⟨g, off + i, none⟩ v) [(some ⟨g, off, none⟩, xs.set i v)] := by
  refine own_wrote h (by simp) (Or.inr ⟨g, off, rfl, cells_setF ?_ i v hi⟩) (fun p => frozen_set ..)
  rcases h.one with h' | ⟨g', off', e, h'⟩
  · rw [h'] at hi; simp at hi
  · have e' := Option.some.inj e
    injection e' with e1 e2
    subst e1 e2
    exact h'
end Go.Proofs.YtkgpoghoilffhaaGreatDoor
namespace Go.Proofs.YtkgpoghoilffhaaGreatDoor
open Go.RowKit Go.Deep
set_option linter.unusedVariables false
set_option linter.unusedSimpArgs false
set_option maxRecDepth 10000

theorem eqInts_k (a a' : Option Addr) (cap cap' : Nat) (L : List Int) (w : World) (hc : Cells w a (its L)) (hc' : Cells w a' (its L)) (hl : L.length ≤ 1048576) :
    Calls Tryz.prog 49 #[.slice a L.length cap, .slice a' L.length cap'] w fun e w' => e = .returned (.bool true) ∧ Keeps w w' := by
  have HC := hide hc
  have HC' := hide hc'
  clear hc hc'
  go_enter Tryz.func49, Tryz.ntmps49
  go_wp2_with fail
  go_loopw [5] (fun y w1 => ∃ k : Nat, k ≤ L.length ∧ y = .int .i64 (k : Int) ∧ Keeps w w1) (fun y _ => L.length - (intOf y).toNat)
  case atStart => exact ⟨0, by omega, rfl, Keeps.refl _⟩
  case round =>
    obtain ⟨k, hk, rfl, hkw⟩ := hrel
    by_cases hlt : k < L.length
    · obtain ⟨b, off, ea, c0⟩ := its_at (HC.out.kept hkw) k hlt
      obtain ⟨b', off', ea', d0⟩ := its_at (HC'.out.kept hkw) k hlt
      subst ea ea'
      generalize L[k] = x at *
      go_wp2_with fail
      go_quiet (fail)
      go_wp2_with fail
      go_roundw
      case rel => exact ⟨k + 1, by omega, by go_num, hkw.drewN _⟩
      case measure => simp [intOf]; omega
    · go_wp2_with fail
      go_ret
      exact ⟨rfl, hkw⟩
/-- Marks from n on. -/
def marksI (n k : Nat) : List Int := (List.range k).map fun i => ((n + i : Nat) : Int)
theorem marksI_len (n k : Nat) : (marksI n k).length = k := by simp [marksI]
set_option maxHeartbeats 2000000 in
theorem markIntS_k (a : Option Addr) (cap : Nat) (L : List Int) (n : Nat) (w : World) (h : Own w [(a, its L)]) (hl : L.length ≤ 1048576) (hn : n ≤ 1000000000000) :
    Calls Tryz.prog 27 #[.slice a L.length cap, .int .i64 (n : Int)] w fun e w' => e = .returned (.int .i64 ((n + L.length : Nat) : Int)) ∧ Own w' [(a, its (marksI n L.length))] ∧ Turn (fp [(a, its L)]) w w' := by
  by_cases h0 : L = []
  · subst h0
    go_enter Tryz.func27, Tryz.ntmps27
    go_wp2_with fail
    refine wp_loop_rounds 1 ?_
    rw [rounds_succ]
    go_wp2_with fail
    go_ret
    exact ⟨by simp, h, Turn.refl _ _⟩
  · have hc : Cells w a (its L) := h.mem (a, its L) (by simp)
    rcases hc with hc | ⟨g, off, rfl, hc⟩
    · exact absurd (its_nil.1 hc) h0
    have hfp : fp [(some (⟨g, off, none⟩ : Addr), its L)] = [g] := by rw [fp_one]; exact fpS_some (fun e => h0 (its_nil.1 e))
    have HF : Hid (∀ o, w.frozen? ⟨g, o, none⟩ = false) := fun o => h.free g (by rw [hfp]; simp) o
    have HW : Hid (∀ w', Cells w' (some (⟨g, off, none⟩ : Addr)) (its (marksI n L.length)) → (∀ p, w'.frozen? p = w.frozen? p) → Own w' [(some (⟨g, off, none⟩ : Addr), its (marksI n L.length))]) := fun w' hc hf => own_wrote h (by rw [its_length, its_length, marksI_len]) hc hf
    rw [hfp]
    have HC := hide hc
    clear hc h h0 hfp
    go_enter Tryz.func27, Tryz.ntmps27
    go_wp2_with fail
    go_loopw [1, 5] (fun x y wr => ∃ k : Nat, k ≤ L.length ∧ x = .int .i64 ((n + k : Nat) : Int) ∧ y = .int .i64 (k : Int) ∧ Hid (∀ j, j < L.length → ∃ u, wr.cell? ⟨g, off + j, none⟩ = some u) ∧ Hid (∀ j, j < k → wr.cell? ⟨g, off + j, none⟩ = some (.int .i64 ((n + j : Nat) : Int))) ∧ Hid (∀ p, wr.frozen? p = w.frozen? p) ∧ Hid (Turn [g] w wr)) (fun _ y _ => L.length - (intOf y).toNat)
    case atStart => exact ⟨0, by omega, by simp, rfl, fun j hj => ⟨_, HC.out j (by rw [its_length]; exact hj)⟩, fun j hj => absurd hj (by omega), fun _ => rfl, Turn.refl _ _⟩
    case round =>
      obtain ⟨k, hk, rfl, rfl, HE, HM, HFr, HG⟩ := hrel
      by_cases hlt : k < L.length
      · obtain ⟨u0, c0⟩ := HE.out k hlt
        have f0 : wr.frozen? ⟨g, off + k, none⟩ = false := by rw [HFr.out]; exact HF.out _
        go_wp2_with fail
        go_roundw
        case rel =>
          refine ⟨k + 1, by omega, by go_num, by go_num, ?_, ?_, ?_, HG.out.trans' (Turn.set (by simp) _)⟩
          · intro j hj
            by_cases e : j = k
            · subst e; exact ⟨_, World.cell?_setCell_same _ _ _ c0⟩
            · rw [World.cell?_setCell_other _ _ _ _ (by simp)]; exact HE.out j hj
          · intro j hj
            by_cases e : j = k
            · subst e; rw [World.cell?_setCell_same _ _ _ c0]; simp
            · rw [World.cell?_setCell_other _ _ _ _ (by simp)]; exact HM.out j (by omega)
          · intro p
            rw [frozen_set]; exact HFr.out p
        case measure => simp [intOf]; omega
      · have e : k = L.length := by omega
        subst e
        go_wp2_with fail
        go_ret
        exact ⟨rfl, HW.out wr (Or.inr ⟨g, off, rfl, fun j hj => by
          rw [its_length, marksI_len] at hj
          rw [HM.out j hj]
          simp [its, marksI]⟩) HFr.out, HG.out⟩
theorem heldIntS_k (a : Option Addr) (cap : Nat) (len n : Nat) (w : World) (h : Cells w a (its (marksI n len))) (hl : len ≤ 1048576) (hn : n ≤ 1000000000000) :
    Calls Tryz.prog 28 #[.slice a len cap, .int .i64 (n : Int)] w fun e w' => e = .returned (.int .i64 ((n + len : Nat) : Int)) ∧ w' = w := by
  have HC := hide h
  clear h
  go_enter Tryz.func28, Tryz.ntmps28
  go_wp2_with fail
  go_loop [1, 5] (fun x y => ∃ k : Nat, k ≤ len ∧ x = .int .i64 ((n + k : Nat) : Int) ∧ y = .int .i64 (k : Int)) (fun _ y => len - (intOf y).toNat)
  case atStart => exact ⟨0, by omega, by simp, rfl⟩
  case round =>
    obtain ⟨k, hk, rfl, rfl⟩ := hrel
    by_cases hlt : k < len
    · obtain ⟨b, off, ea, c0⟩ := its_at HC.out k (by rw [marksI_len]; exact hlt)
      subst ea
      have e0 : (marksI n len)[k]'(by rw [marksI_len]; exact hlt) = ((n + k : Nat) : Int) := by simp [marksI]
      rw [e0] at c0
      clear e0
      go_wp2_with fail
      go_round
      case rel => exact ⟨k + 1, by omega, by go_num, by go_num⟩
      case measure => simp [intOf]; omega
    · have e : k = len := by omega
      subst e
      go_wp2_with fail
      go_ret
      exact ⟨rfl, rfl⟩
end Go.Proofs.YtkgpoghoilffhaaGreatDoor
namespace Go.Proofs.YtkgpoghoilffhaaGreatDoor
open Go.RowKit Go.Deep
set_option linter.unusedVariables false
set_option linter.unusedSimpArgs false
set_option maxRecDepth 10000
theorem eqRule_k (x : Rul) (w : World) : Calls Tryz.prog 50 #[x.v, x.v] w fun e w' => e = .returned (.bool true) ∧ Keeps w w' := by
  obtain ⟨a, b, c, d, e⟩ := x
  dsimp only [Rul.v]
  go_enter Tryz.func50, Tryz.ntmps50
  go_wp2_with fail
  go_ret
  exact ⟨rfl, Keeps.alloc (Keeps.alloc (Keeps.refl _) _) _⟩
set_option maxHeartbeats 4000000 in
theorem eqStep_k (D : Stp) (a a' : Option Addr) (c c' : Nat) (w : World) (hc : Cells w a (its D.ks)) (hc' : Cells w a' (its D.ks)) (hl : D.ks.length ≤ 1048576) :
    Calls Tryz.prog 26 #[D.v a c, D.v a' c'] w fun e w' => e = .returned (.bool true) ∧ Keeps w w' := by
  have HK := hide (Keeps.alloc (Keeps.alloc (Keeps.refl w) (.cells (D.cells a c) 33)) (.cells (D.cells a' c') 33))
  have HK1 := hide (Keeps.alloc (Keeps.refl (w.alloc (.cells (D.cells a c) 33))) (.cells (D.cells a' c') 33))
  have HA := hide (stp_box D a c w 33)
  have HB := hide (stp_box D a' c' (w.alloc (.cells (D.cells a c) 33)) 33)
  have hs : (w.alloc (.cells (D.cells a c) 33)).heap.size = w.heap.size + 1 := by simp
  rw [hs] at HB
  have HE := hide (fun w' (hk : Keeps w w') => eqInts_k a a' c c' D.ks w' (hc.kept hk) (hc'.kept hk) hl)
  clear hc hc' hs
  go_enter Tryz.func26, Tryz.ntmps26
  go_wp2_with fail
  generalize (w.alloc (.cells (D.cells a c) 33)) = W1 at *
  generalize W1.alloc (.cells (D.cells a' c') 33) = W2 at *
  have HK2 := hide (Keeps.refl W2)
  refine (eqEvent_same D.e.k D.e.y D.e.c D.e.t D.e.m D.e.f D.e.b W2).mono ?_
  rintro x w3 ⟨rfl, hk3⟩
  replace HK2 := hide (HK2.out.trans hk3)
  clear hk3
  obtain ⟨c0, ⟨c1, c2, c3, c4, c5, c6, c7⟩, c8, c9, c10, c11, c12, c13⟩ := HA.out w3 (HK1.out.trans HK2.out)
  obtain ⟨d0, ⟨d1, d2, d3, d4, d5, d6, d7⟩, d8, d9, d10, d11, d12, d13⟩ := HB.out w3 HK2.out
  go_wp2_with fail
  refine (unhide HE w3 (HK.out.trans HK2.out)).mono ?_
  rintro x w4 ⟨rfl, hk4⟩
  replace HK2 := hide (HK2.out.trans hk4)
  clear hk4 c0 c1 c2 c3 c4 c5 c6 c7 c8 c9 c10 c11 c12 c13 d0 d1 d2 d3 d4 d5 d6 d7 d8 d9 d10 d11 d12 d13
  obtain ⟨c0, ⟨c1, c2, c3, c4, c5, c6, c7⟩, c8, c9, c10, c11, c12, c13⟩ := HA.out w4 (HK1.out.trans HK2.out)
  obtain ⟨d0, ⟨d1, d2, d3, d4, d5, d6, d7⟩, d8, d9, d10, d11, d12, d13⟩ := HB.out w4 HK2.out
  go_wp2_with fail
  refine (eqRule_k D.r w4).mono ?_
  rintro x w5 ⟨rfl, hk5⟩
  replace HK2 := hide (HK2.out.trans hk5)
  clear hk5 c0 c1 c2 c3 c4 c5 c6 c7 c8 c9 c10 c11 c12 c13 d0 d1 d2 d3 d4 d5 d6 d7 d8 d9 d10 d11 d12 d13
  go_wp2_with fail
  go_ret
  exact ⟨rfl, HK.out.trans HK2.out⟩
def TsQ (s : ByteArray) (D : Stp) (ok : Bool) : Prop := (ok = true ∧ stpB D = true ∧ stT D = s.data.toList) ∨ (ok = false ∧ D = ⟨0, noE, [], noR⟩ ∧ ∀ D2, stpB D2 = true → stT D2 ≠ s.data.toList)
theorem ts_form {s : ByteArray} {w w' : World} {x : Ending} (h : TsPost s w w' x) : ∃ (D : Stp) (a : Option Addr) (c : Nat) (ok : Bool), x = .returned (.tuple #[D.v a c, .bool ok]) ∧ Born w w' [(a, its D.ks)] ∧ TsQ s D ok := by
  rcases h with ⟨D, a, c, h1, h2, rfl, ho⟩ | ⟨h1, rfl⟩
  · obtain ⟨a', c', e, _, hb⟩ := Born.of_owns ho
    injection e with e1 _ _
    exact ⟨D, a, c, true, rfl, by rw [e1]; exact hb, Or.inl ⟨rfl, h1, h2⟩⟩
  · have ho : OwnsI w' w.heap.size (.slice none ([] : List Int).length 0) [] := owns_zero _ _
    obtain ⟨a', c', e, _, hb⟩ := Born.of_owns ho
    injection e with e1 _ _
    exact ⟨⟨0, noE, [], noR⟩, none, 0, false, rfl, by rw [e1]; exact hb, Or.inr ⟨rfl, rfl, h1⟩⟩
theorem q_len {s : ByteArray} {D : Stp} {ok : Bool} (hs : s.size ≤ 1048576) (h : TsQ s D ok) : D.ks.length ≤ 1048576 := by
  rcases h with ⟨rfl, h1, h2⟩ | ⟨rfl, rfl, h2⟩
  · rw [← saidI_eq h1, h2]
    exact saidI_len _ (by simpa using hs)
  · simp
end Go.Proofs.YtkgpoghoilffhaaGreatDoor
namespace Go.Proofs.YtkgpoghoilffhaaGreatDoor
open Go.RowKit Go.Deep
set_option linter.unusedVariables false
set_option linter.unusedSimpArgs false
set_option maxRecDepth 10000
/-- A step, and where its numbers lie. -/
structure Ms where
  D : Stp
  a : Option Addr
  c : Nat
def Ms.cells (x : Ms) : List Value := [.int .i64 x.D.k, .int .i64 x.D.e.k, .int .i64 x.D.e.y, .int .i64 x.D.e.c, .int .i64 x.D.e.t, .int .i64 x.D.e.m, .int .i64 x.D.e.f, .bool x.D.e.b, .slice x.a x.D.ks.length x.c, .int .i64 x.D.r.lo, .int .i64 x.D.r.hi, .int .i64 x.D.r.st, .int .i64 x.D.r.mi, .int .i64 x.D.r.ma]
def Ms.seg (x : Ms) : Seg := (x.a, its x.D.ks)
def mcells (l : List Ms) : List Value := l.flatMap Ms.cells
theorem mcells_len (l : List Ms) : (mcells l).length = l.length * 14 := flatMap_len (f := Ms.cells) (sz := 14) (fun _ => rfl) l
theorem mcells_append (A B : List Ms) : mcells (A ++ B) = mcells A ++ mcells B := by simp [mcells]
theorem mcells_snoc (A : List Ms) (x : Ms) : mcells (A ++ [x]) = mcells A ++ x.cells := by simp [mcells]
theorem ms_at {w : World} {a : Option Addr} {xs : List Ms} (h : Cells w a (mcells xs)) (k : Nat) (hk : k < xs.length) :
    ∃ b off, a = some ⟨b, off, none⟩ ∧ w.cell? ⟨b, off + k * 14, none⟩ = some (.int .i64 xs[k].D.k) ∧ w.cell? ⟨b, off + k * 14 + 1, none⟩ = some (.int .i64 xs[k].D.e.k) ∧ w.cell? ⟨b, off + k * 14 + 2, none⟩ = some (.int .i64 xs[k].D.e.y) ∧ w.cell? ⟨b, off + k * 14 + 3, none⟩ = some (.int .i64 xs[k].D.e.c) ∧ w.cell? ⟨b, off + k * 14 + 4, none⟩ = some (.int .i64 xs[k].D.e.t) ∧ w.cell? ⟨b, off + k * 14 + 5, none⟩ = some (.int .i64 xs[k].D.e.m) ∧ w.cell? ⟨b, off + k * 14 + 6, none⟩ = some (.int .i64 xs[k].D.e.f) ∧ w.cell? ⟨b, off + k * 14 + 7, none⟩ = some (.bool xs[k].D.e.b) ∧ w.cell? ⟨b, off + k * 14 + 8, none⟩ = some (.slice xs[k].a xs[k].D.ks.length xs[k].c) ∧ w.cell? ⟨b, off + k * 14 + 9, none⟩ = some (.int .i64 xs[k].D.r.lo) ∧ w.cell? ⟨b, off + k * 14 + 10, none⟩ = some (.int .i64 xs[k].D.r.hi) ∧ w.cell? ⟨b, off + k * 14 + 11, none⟩ = some (.int .i64 xs[k].D.r.st) ∧ w.cell? ⟨b, off + k * 14 + 12, none⟩ = some (.int .i64 xs[k].D.r.mi) ∧ w.cell? ⟨b, off + k * 14 + 13, none⟩ = some (.int .i64 xs[k].D.r.ma) := by
  obtain ⟨b, off, e, h⟩ := elem_at (f := Ms.cells) (sz := 14) (fun _ => rfl) h k hk (by decide)
  exact ⟨b, off, e, h 0 (by simp [Ms.cells]), h 1 (by simp [Ms.cells]), h 2 (by simp [Ms.cells]), h 3 (by simp [Ms.cells]), h 4 (by simp [Ms.cells]), h 5 (by simp [Ms.cells]), h 6 (by simp [Ms.cells]), h 7 (by simp [Ms.cells]), h 8 (by simp [Ms.cells]), h 9 (by simp [Ms.cells]), h 10 (by simp [Ms.cells]), h 11 (by simp [Ms.cells]), h 12 (by simp [Ms.cells]), h 13 (by simp [Ms.cells])⟩
theorem mem_ms {w : World} {xs : List Ms} (h : Mem w (xs.map Ms.seg)) (k : Nat) (hk : k < xs.length) : Cells w xs[k].a (its xs[k].D.ks) := h xs[k].seg (List.mem_map.2 ⟨xs[k], List.getElem_mem hk, rfl⟩)
/-- A list of structs while it is made: its row, the lists inside, no block shared. -/
structure LH {α : Type} (T : TypeId) (sz : Nat) (f : α → List Value) (sg : α → List Seg) (w0 w : World) (v : Value) (nb : List α) : Prop where
  row : w.ownsRow w0.heap.size T sz v nb.length (nb.flatMap f)
  inner : Born w0 w (nb.flatMap sg)
  apart : ∀ g, v.ownBlock = some g → g ∉ fp (nb.flatMap sg)
  keeps : Keeps w0 w
theorem owns_keptZ {w w' : World} {base n sz : Nat} {T : TypeId} {v : Value} {xs : List Value} (h : w.ownsRow base T sz v n xs) (hk : Keeps w w') : w'.ownsRow base T sz v n xs := by
  refine ⟨h.1, ?_⟩
  rcases h.2 with h' | ⟨g, cap, cur, e1, hb, hg, rest⟩
  · exact .inl h'
  · exact .inr ⟨g, cap, cur, e1, hb, by rw [Below.block hk g (Array.getElem?_eq_some_iff.1 hg).1]; exact hg, rest⟩
theorem owns_turnZ {w w' : World} {base n sz : Nat} {T : TypeId} {v : Value} {xs : List Value} {fs : List Nat} (h : w.ownsRow base T sz v n xs) (ht : Turn fs w w') (hv : ∀ g, v.ownBlock = some g → g ∉ fs) : w'.ownsRow base T sz v n xs := by
  refine ⟨h.1, ?_⟩
  rcases h.2 with h' | ⟨g, cap, cur, e1, hb, hg, rest⟩
  · exact .inl h'
  · exact .inr ⟨g, cap, cur, e1, hb, by rw [ht.block g (Array.getElem?_eq_some_iff.1 hg).1 (hv g (by rw [e1]; rfl))]; exact hg, rest⟩
section
variable {α : Type} {T : TypeId} {sz : Nat} {f : α → List Value} {sg : α → List Seg} {w0 w w1 w2 : World} {v v' : Value} {nb : List α}
theorem LH.nil (T : TypeId) (sz : Nat) (f : α → List Value) (sg : α → List Seg) (h : w.ownsRow w0.heap.size T sz v 0 []) (hk : Keeps w0 w) : LH T sz f sg w0 w v [] :=
  ⟨h, Born.nil _ _, fun g _ hb => by simp [fp] at hb, hk⟩
theorem LH.kept (h : LH T sz f sg w0 w v nb) (hk : Keeps w w1) : LH T sz f sg w0 w1 v nb :=
  ⟨owns_keptZ h.row hk, h.inner.kept hk, h.apart, h.keeps.trans hk⟩
theorem LH.turned (h : LH T sz f sg w0 w v nb) {fs : List Nat} (ht : Turn fs w w1) (hv : ∀ g, v.ownBlock = some g → g ∉ fs) (hi : ∀ b ∈ fp (nb.flatMap sg), b ∉ fs) (hn : ∀ b ∈ fs, w0.heap.size ≤ b) : LH T sz f sg w0 w1 v nb :=
  ⟨owns_turnZ h.row ht hv, h.inner.turn ht hi, h.apart, ht.keeps h.keeps (fun b hb => hn b hb)⟩
theorem LH.snoc (h : LH T sz f sg w0 w v nb) (hk : Keeps w w1) {x : α} (hx : Own w1 (sg x)) (hn : ∀ b ∈ fp (sg x), w.heap.size ≤ b) {o : Obj} (hg : (w1.alloc o).grownBy w2 v.ownBlock)
    (hr : w2.ownsRow w0.heap.size T sz v' (nb.length + 1) (nb.flatMap f ++ f x)) (hv : v'.ownBlock = v.ownBlock ∨ v'.ownBlock = some (w1.alloc o).heap.size) : LH T sz f sg w0 w2 v' (nb ++ [x]) := by
  have hka : Keeps w1 (w1.alloc o) := Keeps.alloc (Keeps.refl _) _
  have hs : (w1.alloc o).heap.size = w1.heap.size + 1 := by rw [World.size_alloc]
  have hI := (h.inner.kept hk).kept hka
  have hX := hx.kept hka
  have ht : Turn v.ownBlock.toList (w1.alloc o) w2 := Turn.of_grown hg (fun k hk' => by rw [hk']; simp)
  have hrow : ∀ g, v.ownBlock = some g → w0.heap.size ≤ g ∧ g < w.heap.size := fun g hg' => h.row.lt g hg'
  have hIT : Born w0 w2 (nb.flatMap sg) := hI.turn ht (fun b hb hb' => by
    have : v.ownBlock = some b := by simpa using hb'
    exact h.apart b this hb)
  have hXT : Own w2 (sg x) := hX.turn ht (fun b hb hb' => by
    have e : v.ownBlock = some b := by simpa using hb'
    have h1 := hrow b e
    have h2 := hn b hb
    omega)
  refine ⟨?_, ⟨?_, ?_⟩, ?_, ?_⟩
  · rw [List.length_append, List.flatMap_append, List.flatMap_singleton]; exact hr
  · rw [List.flatMap_append, List.flatMap_singleton]
    refine hIT.toOwn.append hXT (fun b hb hb' => ?_)
    have h1 := h.inner.mem.lt b hb
    have h2 := hn b hb'
    omega
  · intro b hb
    rw [List.flatMap_append, List.flatMap_singleton, fp_append] at hb
    rcases List.mem_append.1 hb with hb | hb
    · exact h.inner.new b hb
    · have h1 := hn b hb
      have h2 := h.keeps.size
      omega
  · intro g hg' hb
    rw [List.flatMap_append, List.flatMap_singleton, fp_append] at hb
    rcases hv with hv | hv
    · rw [hv] at hg'
      rcases List.mem_append.1 hb with hb | hb
      · exact h.apart g hg' hb
      · have h1 := hn g hb
        have h2 := hrow g hg'
        omega
    · rw [hv] at hg'
      have hg2 := Option.some.inj hg'
      rcases List.mem_append.1 hb with hb | hb
      · have h1 := h.inner.mem.lt g hb
        have h2 := hk.size
        omega
      · have h1 := hx.mem.lt g hb
        omega
  · exact Keeps.grown ((h.keeps.trans hk).trans hka) hg (fun g hg' => (hrow g hg').1)
end
/-- Structs with one list inside. -/
theorem flat_seg (l : List Ms) : l.flatMap (fun x => [x.seg]) = l.map Ms.seg := by
  induction l with
  | nil => rfl
  | cons x t ih => simp [ih]
set_option maxHeartbeats 8000000 in
theorem eqStepS_k (a a' : Option Addr) (cap cap' : Nat) (xs ys : List Ms) (w : World) (he : ys.map Ms.D = xs.map Ms.D) (hc : Cells w a (mcells xs)) (hm : Mem w (xs.map Ms.seg)) (hc' : Cells w a' (mcells ys)) (hm' : Mem w (ys.map Ms.seg)) (hl : xs.length ≤ 1048576) (ht : ∀ x ∈ xs, x.D.ks.length ≤ 1048576) :
    Calls Tryz.prog 10 #[.slice a xs.length cap, .slice a' ys.length cap'] w fun e w' => e = .returned (.bool true) ∧ Keeps w w' := by
  have HC := hide hc
  have HC' := hide hc'
  have HM := hide hm
  have HM' := hide hm'
  have hn : ys.length = xs.length := by have := congrArg List.length he; simpa using this
  have HE := hide he
  have HT := hide ht
  have hn' : ((xs.length : Int) != (ys.length : Int)) = false := by rw [hn]; simp
  have HN := hide hn
  clear hc hc' hm hm' he ht hn
  go_enter Tryz.func10, Tryz.ntmps10
  go_wp2_with fail
  go_loopw [5] (fun y w1 => ∃ k : Nat, k ≤ xs.length ∧ y = .int .i64 (k : Int) ∧ Keeps w w1) (fun y _ => xs.length - (intOf y).toNat)
  case atStart => exact ⟨0, by omega, rfl, Keeps.refl _⟩
  case round =>
    obtain ⟨k, hk, rfl, hkw⟩ := hrel
    by_cases hlt : k < xs.length
    · have hlt' : k < ys.length := by have := HN.out; omega
      obtain ⟨b, off, ea, c0, c1, c2, c3, c4, c5, c6, c7, c8, c9, c10, c11, c12, c13⟩ := ms_at (HC.out.kept hkw) k hlt
      obtain ⟨b', off', ea', d0, d1, d2, d3, d4, d5, d6, d7, d8, d9, d10, d11, d12, d13⟩ := ms_at (HC'.out.kept hkw) k hlt'
      subst ea ea'
      have hK : ys[k].D = xs[k].D := by
        have h := congrArg (fun l => l[k]?) HE.out
        simpa [hlt, hlt'] using h
      have HQ := hide (fun t => eqStep_k xs[k].D xs[k].a ys[k].a xs[k].c ys[k].c (gr wr t) (((mem_ms HM.out k hlt).kept hkw).kept (gr_keeps wr t)) (by rw [← hK]; exact ((mem_ms HM'.out k hlt').kept hkw).kept (gr_keeps wr t)) (HT.out _ (List.getElem_mem hlt)))
      have g0 := gr_cell c0
      have i0 := gr_cell d0
      have g1 := gr_cell c1
      have i1 := gr_cell d1
      have g2 := gr_cell c2
      have i2 := gr_cell d2
      have g3 := gr_cell c3
      have i3 := gr_cell d3
      have g4 := gr_cell c4
      have i4 := gr_cell d4
      have g5 := gr_cell c5
      have i5 := gr_cell d5
      have g6 := gr_cell c6
      have i6 := gr_cell d6
      have g7 := gr_cell c7
      have i7 := gr_cell d7
      have g8 := gr_cell c8
      have i8 := gr_cell d8
      have g9 := gr_cell c9
      have i9 := gr_cell d9
      have g10 := gr_cell c10
      have i10 := gr_cell d10
      have g11 := gr_cell c11
      have i11 := gr_cell d11
      have g12 := gr_cell c12
      have i12 := gr_cell d12
      have g13 := gr_cell c13
      have i13 := gr_cell d13
      rw [hK] at d0 i0 d1 i1 d2 i2 d3 i3 d4 i4 d5 i5 d6 i6 d7 i7 d8 i8 d9 i9 d10 i10 d11 i11 d12 i12 d13 i13
      clear hK
      generalize xs[k] = x at *
      generalize ys[k] = y at *
      obtain ⟨xD, xa, xc⟩ := x
      obtain ⟨yD, ya, yc⟩ := y
      dsimp only at c0 c1 c2 c3 c4 c5 c6 c7 c8 c9 c10 c11 c12 c13 d0 d1 d2 d3 d4 d5 d6 d7 d8 d9 d10 d11 d12 d13 g0 i0 g1 i1 g2 i2 g3 i3 g4 i4 g5 i5 g6 i6 g7 i7 g8 i8 g9 i9 g10 i10 g11 i11 g12 i12 g13 i13 HQ
      go_wp2_with fail
      refine region_gr (by kernel_rfl) (by kernel_rfl) ?_
      repeat (go_big_quiet_step (first | (go_at_call 26; exact gr_call (unhide HQ _))))
      refine wpQuiet_nil ?_
      intro w' hw'
      have hk' := hkw.trans (Keeps.of_gr hw')
      clear hw'
      go_wp2_with fail
      go_roundw
      case rel => exact ⟨k + 1, by omega, by go_num, hk'⟩
      case measure => simp [intOf]; omega
    · go_wp2_with fail
      go_ret
      exact ⟨rfl, hkw⟩
end Go.Proofs.YtkgpoghoilffhaaGreatDoor
