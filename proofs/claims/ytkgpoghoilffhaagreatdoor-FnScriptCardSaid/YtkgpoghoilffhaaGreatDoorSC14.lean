/- Texts of the verifier, joined: SdJ, StQ, Zd, Byt, Dsk, DrS, DrV. -/
import Derived.Test.YtkgpoghoilffhaaGreatDoorSC13
import Derived.Test.YtkgpoghoilffhaaGreatDoorSC7
import Derived.Test.YtkgpoghoilffhaaGreatDoorSC3
import Derived.Test.YtkgpoghoilffhaaGreatDoorSC2
import Derived.Test.YtkgpoghoilffhaaGreatDoorSC1
import Derived.Deep.OwnRows
import Derived.Deep.DrawnRows
import Derived.Laws.MakeOwn
import Derived.Deep.Cut
import Derived.RegionTactic
import Derived.ChangeSame
import Derived.WideShapes
import Derived.Below
import Derived.Deep.Strs
import Derived.OwnWalk
import Derived.Laws.OwnMore
import Derived.Laws.AppendOwnNone
import Derived.Lib.AppendZeros
import Derived.Test.YtkgpoghoilffhaaGreatDoorSC4
namespace Go.Proofs.YtkgpoghoilffhaaGreatDoor
open Go.RowKit Go.Deep
set_option linter.unusedVariables false
set_option linter.unusedSimpArgs false
set_option maxRecDepth 10000
theorem partsE_sum {e : UInt8} : ∀ (m : List UInt8), ((partsE e m).map (fun w => w.length + 1)).sum ≤ m.length
  | [] => by simp [partsE]
  | c :: m => by
    have ih := partsE_sum (e := e) m
    rw [partsE]
    split
    · simp only [List.map_cons, List.sum_cons, List.length_nil, List.length_cons]; omega
    · split
      · simp
      · next h => rw [h] at ih; simp only [List.map_cons, List.sum_cons, List.length_cons] at ih ⊢; omega
theorem tw_len : ∀ (ws : List (List UInt8)), 2 * (ws.takeWhile okN).length ≤ (ws.map (fun w => w.length + 1)).sum
  | [] => by simp
  | w :: r => by
    have ih := tw_len r
    cases h : okN w
    · rw [List.takeWhile_cons_of_neg (by simp [h])]; simp
    · rw [List.takeWhile_cons_of_pos h]
      have hw : 0 < w.length := by
        rcases Nat.eq_zero_or_pos w.length with h1 | h1
        · have h2 := List.length_eq_zero_iff.1 h1
          subst h2
          unfold okN at h
          simp at h
        · exact h1
      simp only [List.map_cons, List.sum_cons, List.length_cons]
      omega
theorem said_ks (h : List UInt8) (e : Ev) (v : List Int) : (saidS h e v).ks = [] ∨ (saidS h e v).ks = v := by
  unfold saidS
  repeat' split
  all_goals simp
theorem saidI_len (l : List UInt8) (hl : l.length ≤ 1048576) : (saidI l).ks.length ≤ 1048576 := by
  unfold saidI
  rcases said_ks (Lib.cut l [32]).1 (evS (Lib.cut l [32]).2.1) (goodN (partsE 32 ((Lib.cut l [32]).2.1 ++ [32]))) with h | h
  · rw [h]; simp
  · rw [h]
    unfold goodN
    rw [List.length_map]
    have h1 := tw_len (partsE 32 ((Lib.cut l [32]).2.1 ++ [32]))
    have h2 := partsE_sum (e := 32) ((Lib.cut l [32]).2.1 ++ [32])
    have h3 : (Lib.cut l [32]).2.1.length ≤ l.length := by
      unfold Lib.cut
      split
      · simp
      · simp
    rw [List.length_append, List.length_singleton] at h2
    omega
theorem bytes_eq {s : ByteArray} {l : List UInt8} (h : l = s.data.toList) : (⟨l.toArray⟩ : ByteArray) = s := by
  rw [h]
set_option maxHeartbeats 4000000 in
theorem textstep_impl (s : ByteArray) (w : World) (hs : s.size ≤ 1048576) (he : Env w) (mx : Int) (hm : w.cell? ⟨1, 0, none⟩ = some (.int .i64 mx)) :
    Calls Tryz.prog 9 #[.string s] w fun e w' => TsPost s w w' e ∧ Keeps w w' := by
  have HK := hide (Keeps.alloc (Keeps.refl w) (.cells #[.int .i64 0, .int .i64 0, .int .i64 0, .int .i64 0, .int .i64 0, .int .i64 0, .int .i64 0, .bool false, .slice none 0 0, .int .i64 0, .int .i64 0, .int .i64 0, .int .i64 0, .int .i64 0] 33))
  have HR := hide (row_14 w 33 (.int .i64 0) (.int .i64 0) (.int .i64 0) (.int .i64 0) (.int .i64 0) (.int .i64 0) (.int .i64 0) (.bool false) (.slice none 0 0) (.int .i64 0) (.int .i64 0) (.int .i64 0) (.int .i64 0) (.int .i64 0))
  have HQ := hide (fun w' (hk : Keeps w w') => stepsaid_k s w' hs (he.kept hk) mx (hk.cell hm))
  have HT := hide he.tab
  have HB : Hid (w.heap.size ≤ w.heap.size) := Nat.le_refl _
  have hks := saidI_len s.data.toList (by simpa using hs)
  clear he hm
  go_enter Tryz.func9, Tryz.ntmps9
  go_wp2_with fail
  have hsz : (w.alloc (.cells #[.int .i64 0, .int .i64 0, .int .i64 0, .int .i64 0, .int .i64 0, .int .i64 0, .int .i64 0, .bool false, .slice none 0 0, .int .i64 0, .int .i64 0, .int .i64 0, .int .i64 0, .int .i64 0] 33)).heap.size = w.heap.size + 1 := by simp
  generalize w.alloc (.cells #[.int .i64 0, .int .i64 0, .int .i64 0, .int .i64 0, .int .i64 0, .int .i64 0, .int .i64 0, .bool false, .slice none 0 0, .int .i64 0, .int .i64 0, .int .i64 0, .int .i64 0, .int .i64 0] 33) = W1 at *
  refine (unhide HQ _ HK.out).mono ?_
  rintro x w1 ⟨⟨a, c, rfl, ho⟩, hk1⟩
  obtain ⟨D, hD⟩ : ∃ D, saidI s.data.toList = D := ⟨_, rfl⟩
  rw [hD] at ho hks ⊢
  have HU : Hid (∀ D', stpB D' = true → stT D' = s.data.toList → D' = D) := fun D' h1 h2 => by rw [← hD, ← h2]; exact (saidI_eq h1).symm
  have HZ1 : Hid (w.heap.size + 1 ≤ W1.heap.size) := Nat.le_of_eq hsz.symm
  have hk2 := Keeps.alloc (Keeps.refl w1) (.cells (D.cells a c) 33)
  have HBX := hide (stp_box D a c w1 33)
  have HO2 := hide (owns_keepI ho hk2)
  have HK2 := hide (HK.out.trans (hk1.trans hk2))
  have HR2 := hide (Keeps.rowV (hk1.trans hk2) HR.out)
  have HC2 := hide (owns_cells HO2.out)
  have HKZ := hide hks
  clear hk1 hk2 ho hD hsz HK HR HQ hks
  go_wp2_with fail
  generalize w1.alloc (.cells (D.cells a c) 33) = W2 at *
  have HS := hide (stepok_impl D a c W2 HC2.out HKZ.out)
  cases hB : stpB D
  · rw [hB] at HS
    have HV := hide hB
    clear hB
    refine (unhide HS).mono ?_
    rintro x w3 ⟨rfl, hk3⟩
    have HK3 := hide (HK2.out.trans hk3)
    have HR3 := hide (Keeps.rowV hk3 HR2.out)
    clear hk3 HK2 HR2 HS HBX
    have r0 := (HR3.out).cell (i := 0) (by decide)
    have r1 := (HR3.out).cell (i := 1) (by decide)
    have r2 := (HR3.out).cell (i := 2) (by decide)
    have r3 := (HR3.out).cell (i := 3) (by decide)
    have r4 := (HR3.out).cell (i := 4) (by decide)
    have r5 := (HR3.out).cell (i := 5) (by decide)
    have r6 := (HR3.out).cell (i := 6) (by decide)
    have r7 := (HR3.out).cell (i := 7) (by decide)
    have r8 := (HR3.out).cell (i := 8) (by decide)
    have r9 := (HR3.out).cell (i := 9) (by decide)
    have r10 := (HR3.out).cell (i := 10) (by decide)
    have r11 := (HR3.out).cell (i := 11) (by decide)
    have r12 := (HR3.out).cell (i := 12) (by decide)
    have r13 := (HR3.out).cell (i := 13) (by decide)
    have rf0 := (HR3.out).frozen 0
    have rf1 := (HR3.out).frozen 1
    have rf2 := (HR3.out).frozen 2
    have rf3 := (HR3.out).frozen 3
    have rf4 := (HR3.out).frozen 4
    have rf5 := (HR3.out).frozen 5
    have rf6 := (HR3.out).frozen 6
    have rf7 := (HR3.out).frozen 7
    have rf8 := (HR3.out).frozen 8
    have rf9 := (HR3.out).frozen 9
    have rf10 := (HR3.out).frozen 10
    have rf11 := (HR3.out).frozen 11
    have rf12 := (HR3.out).frozen 12
    have rf13 := (HR3.out).frozen 13
    have rl := (HR3.out).lt
    simp at r0 r1 r2 r3 r4 r5 r6 r7 r8 r9 r10 r11 r12 r13
    go_wp2_with fail
    obtain ⟨⟨o0, o1, o2, o3, o4, o5, o6, o7, o8, o9, o10, o11, o12, o13⟩, hkF, htF, _⟩ := set_14 (HR3.out) (HK3.out) (HB.out) (.int .i64 0) (.int .i64 0) (.int .i64 0) (.int .i64 0) (.int .i64 0) (.int .i64 0) (.int .i64 0) (.bool false) (.slice none 0 0) (.int .i64 0) (.int .i64 0) (.int .i64 0) (.int .i64 0) (.int .i64 0)
    refine bodyPost_ret (v := .tuple #[.agg #[.int .i64 0, .int .i64 0, .int .i64 0, .int .i64 0, .int .i64 0, .int .i64 0, .int .i64 0, .bool false, .slice none 0 0, .int .i64 0, .int .i64 0, .int .i64 0, .int .i64 0, .int .i64 0], .bool false]) ?_ rfl ⟨.inr ⟨fun D2 h1 h2 => absurd h1 (by rw [HU.out D2 h1 h2, HV.out]; simp), rfl⟩, hkF⟩
    clear hkF htF r0 r1 r2 r3 r4 r5 r6 r7 r8 r9 r10 r11 r12 r13 rf0 rf1 rf2 rf3 rf4 rf5 rf6 rf7 rf8 rf9 rf10 rf11 rf12 rf13 rl
    revert o0 o1 o2 o3 o4 o5 o6 o7 o8 o9 o10 o11 o12 o13
    generalize World.setCell (World.setCell _ _ _) _ _ = WW
    intro o0 o1 o2 o3 o4 o5 o6 o7 o8 o9 o10 o11 o12 o13
    simp [results, Tryz.results9, go_sem, o0, o1, o2, o3, o4, o5, o6, o7, o8, o9, o10, o11, o12, o13]
  · rw [hB] at HS
    have HV := hide hB
    clear hB
    refine (unhide HS).mono ?_
    rintro x w3 ⟨rfl, hk3⟩
    have HK3 := hide (HK2.out.trans hk3)
    have HR3 := hide (Keeps.rowV hk3 HR2.out)
    have HO3 := hide (owns_keepI HO2.out hk3)
    have HC3 := hide (HC2.out.kept hk3)
    have HK23 := hide hk3
    obtain ⟨c0, ⟨c1, c2, c3, c4, c5, c6, c7⟩, c8, c9, c10, c11, c12, c13⟩ := HBX.out w3 hk3
    clear hk3 HK2 HR2 HS HO2 HC2
    go_wp2_with fail
    refine (stept_impl D a c w3 HC3.out HKZ.out (HT.out.kept HK3.out)).mono ?_
    rintro x w4 ⟨rfl, hk4⟩
    have HK4 := hide (HK3.out.trans hk4)
    have HR4 := hide (Keeps.rowV hk4 HR3.out)
    have HO4 := hide (owns_keepI HO3.out hk4)
    have hcl := HBX.out w4 (HK23.out.trans hk4)
    clear hk4 HK3 HR3 HO3 HC3 HK23 HBX c0 c1 c2 c3 c4 c5 c6 c7 c8 c9 c10 c11 c12 c13
    obtain ⟨c0, ⟨c1, c2, c3, c4, c5, c6, c7⟩, c8, c9, c10, c11, c12, c13⟩ := hcl
    have HTX := hide (stL_yes HV.out)
    by_cases ht : stL D = s.data.toList
    · rw [bytes_eq ht]
      have HTT := hide (HTX.out.symm.trans ht)
      clear ht
      have r0 := (HR4.out).cell (i := 0) (by decide)
      have r1 := (HR4.out).cell (i := 1) (by decide)
      have r2 := (HR4.out).cell (i := 2) (by decide)
      have r3 := (HR4.out).cell (i := 3) (by decide)
      have r4 := (HR4.out).cell (i := 4) (by decide)
      have r5 := (HR4.out).cell (i := 5) (by decide)
      have r6 := (HR4.out).cell (i := 6) (by decide)
      have r7 := (HR4.out).cell (i := 7) (by decide)
      have r8 := (HR4.out).cell (i := 8) (by decide)
      have r9 := (HR4.out).cell (i := 9) (by decide)
      have r10 := (HR4.out).cell (i := 10) (by decide)
      have r11 := (HR4.out).cell (i := 11) (by decide)
      have r12 := (HR4.out).cell (i := 12) (by decide)
      have r13 := (HR4.out).cell (i := 13) (by decide)
      have rf0 := (HR4.out).frozen 0
      have rf1 := (HR4.out).frozen 1
      have rf2 := (HR4.out).frozen 2
      have rf3 := (HR4.out).frozen 3
      have rf4 := (HR4.out).frozen 4
      have rf5 := (HR4.out).frozen 5
      have rf6 := (HR4.out).frozen 6
      have rf7 := (HR4.out).frozen 7
      have rf8 := (HR4.out).frozen 8
      have rf9 := (HR4.out).frozen 9
      have rf10 := (HR4.out).frozen 10
      have rf11 := (HR4.out).frozen 11
      have rf12 := (HR4.out).frozen 12
      have rf13 := (HR4.out).frozen 13
      have rl := (HR4.out).lt
      simp at r0 r1 r2 r3 r4 r5 r6 r7 r8 r9 r10 r11 r12 r13
      go_wp2_with fail
      obtain ⟨⟨o0, o1, o2, o3, o4, o5, o6, o7, o8, o9, o10, o11, o12, o13⟩, hkF, htF, _⟩ := set_14 (HR4.out) (HK4.out) (HB.out) (.int .i64 D.k) (.int .i64 D.e.k) (.int .i64 D.e.y) (.int .i64 D.e.c) (.int .i64 D.e.t) (.int .i64 D.e.m) (.int .i64 D.e.f) (.bool D.e.b) (.slice a D.ks.length c) (.int .i64 D.r.lo) (.int .i64 D.r.hi) (.int .i64 D.r.st) (.int .i64 D.r.mi) (.int .i64 D.r.ma)
      have hOF := owns_turnB HO4.out htF HZ1.out
      refine bodyPost_ret (v := .tuple #[.agg #[.int .i64 D.k, .int .i64 D.e.k, .int .i64 D.e.y, .int .i64 D.e.c, .int .i64 D.e.t, .int .i64 D.e.m, .int .i64 D.e.f, .bool D.e.b, .slice a D.ks.length c, .int .i64 D.r.lo, .int .i64 D.r.hi, .int .i64 D.r.st, .int .i64 D.r.mi, .int .i64 D.r.ma], .bool true]) ?_ rfl ⟨.inl ⟨D, a, c, HV.out, HTT.out, rfl, owns_base hOF (by have := HZ1.out; omega)⟩, hkF⟩
      clear hkF htF hOF r0 r1 r2 r3 r4 r5 r6 r7 r8 r9 r10 r11 r12 r13 rf0 rf1 rf2 rf3 rf4 rf5 rf6 rf7 rf8 rf9 rf10 rf11 rf12 rf13 rl
      revert o0 o1 o2 o3 o4 o5 o6 o7 o8 o9 o10 o11 o12 o13
      generalize World.setCell (World.setCell _ _ _) _ _ = WW
      intro o0 o1 o2 o3 o4 o5 o6 o7 o8 o9 o10 o11 o12 o13
      simp [results, Tryz.results9, go_sem, o0, o1, o2, o3, o4, o5, o6, o7, o8, o9, o10, o11, o12, o13]
    · have hne := str_ne ht
      have HTN := hide (fun h => ht (HTX.out.trans h))
      clear ht
      have r0 := (HR4.out).cell (i := 0) (by decide)
      have r1 := (HR4.out).cell (i := 1) (by decide)
      have r2 := (HR4.out).cell (i := 2) (by decide)
      have r3 := (HR4.out).cell (i := 3) (by decide)
      have r4 := (HR4.out).cell (i := 4) (by decide)
      have r5 := (HR4.out).cell (i := 5) (by decide)
      have r6 := (HR4.out).cell (i := 6) (by decide)
      have r7 := (HR4.out).cell (i := 7) (by decide)
      have r8 := (HR4.out).cell (i := 8) (by decide)
      have r9 := (HR4.out).cell (i := 9) (by decide)
      have r10 := (HR4.out).cell (i := 10) (by decide)
      have r11 := (HR4.out).cell (i := 11) (by decide)
      have r12 := (HR4.out).cell (i := 12) (by decide)
      have r13 := (HR4.out).cell (i := 13) (by decide)
      have rf0 := (HR4.out).frozen 0
      have rf1 := (HR4.out).frozen 1
      have rf2 := (HR4.out).frozen 2
      have rf3 := (HR4.out).frozen 3
      have rf4 := (HR4.out).frozen 4
      have rf5 := (HR4.out).frozen 5
      have rf6 := (HR4.out).frozen 6
      have rf7 := (HR4.out).frozen 7
      have rf8 := (HR4.out).frozen 8
      have rf9 := (HR4.out).frozen 9
      have rf10 := (HR4.out).frozen 10
      have rf11 := (HR4.out).frozen 11
      have rf12 := (HR4.out).frozen 12
      have rf13 := (HR4.out).frozen 13
      have rl := (HR4.out).lt
      simp at r0 r1 r2 r3 r4 r5 r6 r7 r8 r9 r10 r11 r12 r13
      go_wp2_with fail
      obtain ⟨⟨o0, o1, o2, o3, o4, o5, o6, o7, o8, o9, o10, o11, o12, o13⟩, hkF, htF, _⟩ := set_14 (HR4.out) (HK4.out) (HB.out) (.int .i64 0) (.int .i64 0) (.int .i64 0) (.int .i64 0) (.int .i64 0) (.int .i64 0) (.int .i64 0) (.bool false) (.slice none 0 0) (.int .i64 0) (.int .i64 0) (.int .i64 0) (.int .i64 0) (.int .i64 0)
      refine bodyPost_ret (v := .tuple #[.agg #[.int .i64 0, .int .i64 0, .int .i64 0, .int .i64 0, .int .i64 0, .int .i64 0, .int .i64 0, .bool false, .slice none 0 0, .int .i64 0, .int .i64 0, .int .i64 0, .int .i64 0, .int .i64 0], .bool false]) ?_ rfl ⟨.inr ⟨fun D2 h1 h2 => unhide HTN (by rw [← HU.out D2 h1 h2]; exact h2), rfl⟩, hkF⟩
      clear hkF htF r0 r1 r2 r3 r4 r5 r6 r7 r8 r9 r10 r11 r12 r13 rf0 rf1 rf2 rf3 rf4 rf5 rf6 rf7 rf8 rf9 rf10 rf11 rf12 rf13 rl
      revert o0 o1 o2 o3 o4 o5 o6 o7 o8 o9 o10 o11 o12 o13
      generalize World.setCell (World.setCell _ _ _) _ _ = WW
      intro o0 o1 o2 o3 o4 o5 o6 o7 o8 o9 o10 o11 o12 o13
      simp [results, Tryz.results9, go_sem, o0, o1, o2, o3, o4, o5, o6, o7, o8, o9, o10, o11, o12, o13]
end Go.Proofs.YtkgpoghoilffhaaGreatDoor
namespace Go.Proofs.YtkgpoghoilffhaaGreatDoor
open Go.RowKit Go.Deep
set_option linter.unusedVariables false
set_option linter.unusedSimpArgs false
set_option maxRecDepth 10000
def TsQ (s : ByteArray) (D : Stp) (ok : Bool) : Prop := (ok = true ∧ stpB D = true ∧ stT D = s.data.toList) ∨ (ok = false ∧ D = ⟨0, noE, [], noR⟩ ∧ ∀ D2, stpB D2 = true → stT D2 ≠ s.data.toList)
theorem ts_form {s : ByteArray} {w w' : World} {x : Ending} (h : TsPost s w w' x) : ∃ (D : Stp) (a : Option Addr) (c : Nat) (ok : Bool), x = .returned (.tuple #[D.v a c, .bool ok]) ∧ Born w w' [(a, its D.ks)] ∧ TsQ s D ok := by
  rcases h with ⟨D, a, c, h1, h2, rfl, ho⟩ | ⟨h1, rfl⟩
  · obtain ⟨a', c', e, _, hb⟩ := Born.of_owns ho
    injection e with e1 _ _
    exact ⟨D, a, c, true, rfl, by rw [e1]; exact hb, Or.inl ⟨rfl, h1, h2⟩⟩
  · have ho : OwnsI w' w.heap.size (.slice none ([] : List Int).length 0) [] := owns_zero _ _
    obtain ⟨a', c', e, _, hb⟩ := Born.of_owns ho
    injection e with e1 _ _
    exact ⟨⟨0, noE, [], noR⟩, none, 0, false, rfl, by rw [e1]; exact hb, Or.inr ⟨rfl, rfl, h1⟩⟩
theorem q_same {s : ByteArray} {D D' : Stp} {ok ok' : Bool} (h : TsQ s D ok) (h' : TsQ s D' ok') : D' = D ∧ ok' = ok := by
  rcases h with ⟨rfl, h1, h2⟩ | ⟨rfl, rfl, h2⟩
  · rcases h' with ⟨rfl, g1, g2⟩ | ⟨rfl, rfl, g2⟩
    · exact ⟨stT_inj g1 h1 (g2.trans h2.symm), rfl⟩
    · exact absurd h2 (g2 D h1)
  · rcases h' with ⟨rfl, g1, g2⟩ | ⟨rfl, rfl, g2⟩
    · exact absurd g2 (h2 D' g1)
    · exact ⟨rfl, rfl⟩
theorem q_len {s : ByteArray} {D : Stp} {ok : Bool} (hs : s.size ≤ 1048576) (h : TsQ s D ok) : D.ks.length ≤ 1048576 := by
  rcases h with ⟨rfl, h1, h2⟩ | ⟨rfl, rfl, h2⟩
  · rw [← saidI_eq h1, h2]
    exact saidI_len _ (by simpa using hs)
  · simp
end Go.Proofs.YtkgpoghoilffhaaGreatDoor
namespace Go.Proofs.YtkgpoghoilffhaaGreatDoor
open Go.RowKit Go.Deep
set_option linter.unusedVariables false
set_option linter.unusedSimpArgs false
set_option maxRecDepth 10000
/-- A step, and where its numbers lie. -/
structure Ms where
  D : Stp
  a : Option Addr
  c : Nat
def Ms.cells (x : Ms) : List Value := [.int .i64 x.D.k, .int .i64 x.D.e.k, .int .i64 x.D.e.y, .int .i64 x.D.e.c, .int .i64 x.D.e.t, .int .i64 x.D.e.m, .int .i64 x.D.e.f, .bool x.D.e.b, .slice x.a x.D.ks.length x.c, .int .i64 x.D.r.lo, .int .i64 x.D.r.hi, .int .i64 x.D.r.st, .int .i64 x.D.r.mi, .int .i64 x.D.r.ma]
def Ms.seg (x : Ms) : Seg := (x.a, its x.D.ks)
def mcells (l : List Ms) : List Value := l.flatMap Ms.cells
theorem mcells_snoc (A : List Ms) (x : Ms) : mcells (A ++ [x]) = mcells A ++ x.cells := by simp [mcells]
theorem ms_at {w : World} {a : Option Addr} {xs : List Ms} (h : Cells w a (mcells xs)) (k : Nat) (hk : k < xs.length) :
    ∃ b off, a = some ⟨b, off, none⟩ ∧ w.cell? ⟨b, off + k * 14, none⟩ = some (.int .i64 xs[k].D.k) ∧ w.cell? ⟨b, off + k * 14 + 1, none⟩ = some (.int .i64 xs[k].D.e.k) ∧ w.cell? ⟨b, off + k * 14 + 2, none⟩ = some (.int .i64 xs[k].D.e.y) ∧ w.cell? ⟨b, off + k * 14 + 3, none⟩ = some (.int .i64 xs[k].D.e.c) ∧ w.cell? ⟨b, off + k * 14 + 4, none⟩ = some (.int .i64 xs[k].D.e.t) ∧ w.cell? ⟨b, off + k * 14 + 5, none⟩ = some (.int .i64 xs[k].D.e.m) ∧ w.cell? ⟨b, off + k * 14 + 6, none⟩ = some (.int .i64 xs[k].D.e.f) ∧ w.cell? ⟨b, off + k * 14 + 7, none⟩ = some (.bool xs[k].D.e.b) ∧ w.cell? ⟨b, off + k * 14 + 8, none⟩ = some (.slice xs[k].a xs[k].D.ks.length xs[k].c) ∧ w.cell? ⟨b, off + k * 14 + 9, none⟩ = some (.int .i64 xs[k].D.r.lo) ∧ w.cell? ⟨b, off + k * 14 + 10, none⟩ = some (.int .i64 xs[k].D.r.hi) ∧ w.cell? ⟨b, off + k * 14 + 11, none⟩ = some (.int .i64 xs[k].D.r.st) ∧ w.cell? ⟨b, off + k * 14 + 12, none⟩ = some (.int .i64 xs[k].D.r.mi) ∧ w.cell? ⟨b, off + k * 14 + 13, none⟩ = some (.int .i64 xs[k].D.r.ma) := by
  obtain ⟨b, off, e, h⟩ := elem_at (f := Ms.cells) (sz := 14) (fun _ => rfl) h k hk (by decide)
  exact ⟨b, off, e, h 0 (by simp [Ms.cells]), h 1 (by simp [Ms.cells]), h 2 (by simp [Ms.cells]), h 3 (by simp [Ms.cells]), h 4 (by simp [Ms.cells]), h 5 (by simp [Ms.cells]), h 6 (by simp [Ms.cells]), h 7 (by simp [Ms.cells]), h 8 (by simp [Ms.cells]), h 9 (by simp [Ms.cells]), h 10 (by simp [Ms.cells]), h 11 (by simp [Ms.cells]), h 12 (by simp [Ms.cells]), h 13 (by simp [Ms.cells])⟩
theorem mem_ms {w : World} {xs : List Ms} (h : Mem w (xs.map Ms.seg)) (k : Nat) (hk : k < xs.length) : Cells w xs[k].a (its xs[k].D.ks) := h xs[k].seg (List.mem_map.2 ⟨xs[k], List.getElem_mem hk, rfl⟩)
/-- A list of structs while it is made: its row, the lists inside, no block shared. -/
structure LH {α : Type} (T : TypeId) (sz : Nat) (f : α → List Value) (sg : α → List Seg) (w0 w : World) (v : Value) (nb : List α) : Prop where
  row : w.ownsRow w0.heap.size T sz v nb.length (nb.flatMap f)
  inner : Born w0 w (nb.flatMap sg)
  apart : ∀ g, v.ownBlock = some g → g ∉ fp (nb.flatMap sg)
  keeps : Keeps w0 w
theorem owns_keptZ {w w' : World} {base n sz : Nat} {T : TypeId} {v : Value} {xs : List Value} (h : w.ownsRow base T sz v n xs) (hk : Keeps w w') : w'.ownsRow base T sz v n xs := by
  refine ⟨h.1, ?_⟩
  rcases h.2 with h' | ⟨g, cap, cur, e1, hb, hg, rest⟩
  · exact .inl h'
  · exact .inr ⟨g, cap, cur, e1, hb, by rw [Below.block hk g (Array.getElem?_eq_some_iff.1 hg).1]; exact hg, rest⟩
theorem owns_turnZ {w w' : World} {base n sz : Nat} {T : TypeId} {v : Value} {xs : List Value} {fs : List Nat} (h : w.ownsRow base T sz v n xs) (ht : Turn fs w w') (hv : ∀ g, v.ownBlock = some g → g ∉ fs) : w'.ownsRow base T sz v n xs := by
  refine ⟨h.1, ?_⟩
  rcases h.2 with h' | ⟨g, cap, cur, e1, hb, hg, rest⟩
  · exact .inl h'
  · exact .inr ⟨g, cap, cur, e1, hb, by rw [ht.block g (Array.getElem?_eq_some_iff.1 hg).1 (hv g (by rw [e1]; rfl))]; exact hg, rest⟩
section
variable {α : Type} {T : TypeId} {sz : Nat} {f : α → List Value} {sg : α → List Seg} {w0 w w1 w2 : World} {v v' : Value} {nb : List α}
theorem LH.nil (T : TypeId) (sz : Nat) (f : α → List Value) (sg : α → List Seg) (h : w.ownsRow w0.heap.size T sz v 0 []) (hk : Keeps w0 w) : LH T sz f sg w0 w v [] :=
  ⟨h, Born.nil _ _, fun g _ hb => by simp [fp] at hb, hk⟩
theorem LH.kept (h : LH T sz f sg w0 w v nb) (hk : Keeps w w1) : LH T sz f sg w0 w1 v nb :=
  ⟨owns_keptZ h.row hk, h.inner.kept hk, h.apart, h.keeps.trans hk⟩
theorem LH.turned (h : LH T sz f sg w0 w v nb) {fs : List Nat} (ht : Turn fs w w1) (hv : ∀ g, v.ownBlock = some g → g ∉ fs) (hi : ∀ b ∈ fp (nb.flatMap sg), b ∉ fs) (hn : ∀ b ∈ fs, w0.heap.size ≤ b) : LH T sz f sg w0 w1 v nb :=
  ⟨owns_turnZ h.row ht hv, h.inner.turn ht hi, h.apart, ht.keeps h.keeps (fun b hb => hn b hb)⟩
theorem LH.snoc (h : LH T sz f sg w0 w v nb) (hk : Keeps w w1) {x : α} (hx : Own w1 (sg x)) (hn : ∀ b ∈ fp (sg x), w.heap.size ≤ b) {o : Obj} (hg : (w1.alloc o).grownBy w2 v.ownBlock)
    (hr : w2.ownsRow w0.heap.size T sz v' (nb.length + 1) (nb.flatMap f ++ f x)) (hv : v'.ownBlock = v.ownBlock ∨ v'.ownBlock = some (w1.alloc o).heap.size) : LH T sz f sg w0 w2 v' (nb ++ [x]) := by
  have hka : Keeps w1 (w1.alloc o) := Keeps.alloc (Keeps.refl _) _
  have hs : (w1.alloc o).heap.size = w1.heap.size + 1 := by rw [World.size_alloc]
  have hI := (h.inner.kept hk).kept hka
  have hX := hx.kept hka
  have ht : Turn v.ownBlock.toList (w1.alloc o) w2 := Turn.of_grown hg (fun k hk' => by rw [hk']; simp)
  have hrow : ∀ g, v.ownBlock = some g → w0.heap.size ≤ g ∧ g < w.heap.size := fun g hg' => h.row.lt g hg'
  have hIT : Born w0 w2 (nb.flatMap sg) := hI.turn ht (fun b hb hb' => by
    have : v.ownBlock = some b := by simpa using hb'
    exact h.apart b this hb)
  have hXT : Own w2 (sg x) := hX.turn ht (fun b hb hb' => by
    have e : v.ownBlock = some b := by simpa using hb'
    have h1 := hrow b e
    have h2 := hn b hb
    omega)
  refine ⟨?_, ⟨?_, ?_⟩, ?_, ?_⟩
  · rw [List.length_append, List.flatMap_append, List.flatMap_singleton]; exact hr
  · rw [List.flatMap_append, List.flatMap_singleton]
    refine hIT.toOwn.append hXT (fun b hb hb' => ?_)
    have h1 := h.inner.mem.lt b hb
    have h2 := hn b hb'
    omega
  · intro b hb
    rw [List.flatMap_append, List.flatMap_singleton, fp_append] at hb
    rcases List.mem_append.1 hb with hb | hb
    · exact h.inner.new b hb
    · have h1 := hn b hb
      have h2 := h.keeps.size
      omega
  · intro g hg' hb
    rw [List.flatMap_append, List.flatMap_singleton, fp_append] at hb
    rcases hv with hv | hv
    · rw [hv] at hg'
      rcases List.mem_append.1 hb with hb | hb
      · exact h.apart g hg' hb
      · have h1 := hn g hb
        have h2 := hrow g hg'
        omega
    · rw [hv] at hg'
      have hg2 := Option.some.inj hg'
      rcases List.mem_append.1 hb with hb | hb
      · have h1 := h.inner.mem.lt g hb
        have h2 := hk.size
        omega
      · have h1 := hx.mem.lt g hb
        omega
  · exact Keeps.grown ((h.keeps.trans hk).trans hka) hg (fun g hg' => (hrow g hg').1)
end
/-- Structs with one list inside. -/
theorem flat_seg (l : List Ms) : l.flatMap (fun x => [x.seg]) = l.map Ms.seg := by
  induction l with
  | nil => rfl
  | cons x t ih => simp [ih]
end Go.Proofs.YtkgpoghoilffhaaGreatDoor
namespace Go.Proofs.YtkgpoghoilffhaaGreatDoor
open Go.RowKit Go.Deep
set_option linter.unusedVariables false

theorem infoByte : (Tryz.prog.info? 5).map (fun i => (i.zero, i.size, i.bytes)) = some (some (.int .u8 0), 1, 1) := by kernel_rfl
end Go.Proofs.YtkgpoghoilffhaaGreatDoor
namespace Go.Proofs.YtkgpoghoilffhaaGreatDoor
open Go.RowKit Go.ChangeShapes Go.WideShapes Go.Deep
set_option linter.unusedVariables false
set_option maxRecDepth 100000

section
variable {H : Type} {enc : TypeId × Value → H} {W : World} {n : Nat} {cs : List Value} {y : DataW H × List MemPlace} {base : Nat} {sp : Nat → Bool} {hd : Bool}
theorem cellsByte : Tryz.prog.cellsOf 5 = 1 := by kernel_rfl
variable {v : Value} {d : DataW H} {ps : List MemPlace}
end
end Go.Proofs.YtkgpoghoilffhaaGreatDoor
namespace Go.Proofs.YtkgpoghoilffhaaGreatDoor
open Go.RowKit
set_option linter.unusedVariables false
theorem Dr.set {B0 B b o : Nat} {a : Option Addr} {len cap : Nat} {w : World} (s : Dr B0 B a len cap w) (hb : b ≠ B) (h0 : B0 ≤ b) (v : Value) : Dr B0 B a len cap (w.setCell ⟨b, o, none⟩ v) :=
  s.grown (grown_set (grown_refl w (some b))) (by simp; omega) (by intro r hr; injection hr with hr; omega)
end Go.Proofs.YtkgpoghoilffhaaGreatDoor
namespace Go.Proofs.YtkgpoghoilffhaaGreatDoor
open Go.RowKit Go.Deep
set_option linter.unusedVariables false
set_option linter.unusedSimpArgs false
set_option maxRecDepth 10000
def evRow (k y c t m f : Int) (b : Bool) (i : Nat) : Value := if i = 0 then .int .i64 k else if i = 1 then .int .i64 y else if i = 2 then .int .i64 c else if i = 3 then .int .i64 t else if i = 4 then .int .i64 m else if i = 5 then .int .i64 f else .bool b
def hasRow (h0 h1 h2 h3 h4 h5 : Bool) (i : Nat) : Value := if i = 0 then .bool h0 else if i = 1 then .bool h1 else if i = 2 then .bool h2 else if i = 3 then .bool h3 else if i = 4 then .bool h4 else .bool h5
theorem ev_row (k y c t m f : Int) (b : Bool) : ∀ i, i < (evCells k y c t m f b).size → (evCells k y c t m f b)[i]? = some (evRow k y c t m f b i)
  | 0, _ => rfl
  | 1, _ => rfl
  | 2, _ => rfl
  | 3, _ => rfl
  | 4, _ => rfl
  | 5, _ => rfl
  | 6, _ => rfl
theorem has_rowD (h0 h1 h2 h3 h4 h5 : Bool) : ∀ i, i < (#[Value.bool h0, .bool h1, .bool h2, .bool h3, .bool h4, .bool h5] : Array Value).size → (#[Value.bool h0, .bool h1, .bool h2, .bool h3, .bool h4, .bool h5] : Array Value)[i]? = some (hasRow h0 h1 h2 h3 h4 h5 i)
  | 0, _ => rfl
  | 1, _ => rfl
  | 2, _ => rfl
  | 3, _ => rfl
  | 4, _ => rfl
  | 5, _ => rfl
/-- The draw of an event under way: its variable, the table's row, the result. -/
structure EvSt (w : World) (B0 B : Nat) (a : Option Addr) (len cap : Nat) (R E H : Nat) (k y c t m f : Int) (b : Bool) (h0 h1 h2 h3 h4 h5 : Bool) (W : World) : Prop where
  ev : W.rowIs E 28 7 (evRow k y c t m f b)
  has : W.rowIs H 4 6 (hasRow h0 h1 h2 h3 h4 h5)
  res : W.rowIs R 28 7 (evRow 0 0 0 0 0 0 false)
  dr : Dr B0 B a len cap W
  g : w.grownBy W (some B)
  eh : H ≠ E
  er : R ≠ E
  hr : R ≠ H
  ne : w.heap.size ≤ E
  nh : w.heap.size ≤ H
  nr : w.heap.size ≤ R
  hb : B < w.heap.size
  h0 : B0 ≤ B
section
variable {w W W' : World} {B0 B : Nat} {a : Option Addr} {len cap R E H : Nat} {k y c t m f : Int} {b : Bool} {h0 h1 h2 h3 h4 h5 : Bool}
theorem EvSt.step (s : EvSt w B0 B a len cap R E H k y c t m f b h0 h1 h2 h3 h4 h5 W) (d : Dr B0 B a len cap W') (g : W.grownBy W' (some B)) : EvSt w B0 B a len cap R E H k y c t m f b h0 h1 h2 h3 h4 h5 W' :=
  ⟨grown_row g (by have := s.ne; have := s.hb; simp; omega) s.ev, grown_row g (by have := s.nh; have := s.hb; simp; omega) s.has, grown_row g (by have := s.nr; have := s.hb; simp; omega) s.res, d, s.g.trans g, s.eh, s.er, s.hr, s.ne, s.nh, s.nr, s.hb, s.h0⟩
theorem EvSt.drew (s : EvSt w B0 B a len cap R E H k y c t m f b h0 h1 h2 h3 h4 h5 W) : EvSt w B0 B a len cap R E H k y c t m f b h0 h1 h2 h3 h4 h5 W.drew :=
  s.step (s.dr.grown (row := none) ⟨rfl, rfl, rfl, Nat.le_refl _, fun _ _ _ => rfl⟩ (by simp) (by simp)) ⟨rfl, rfl, rfl, Nat.le_refl _, fun _ _ _ => rfl⟩
theorem ev_congr {f g : Nat → Value} (h0 : f 0 = g 0) (h1 : f 1 = g 1) (h2 : f 2 = g 2) (h3 : f 3 = g 3) (h4 : f 4 = g 4) (h5 : f 5 = g 5) (h6 : f 6 = g 6) : ∀ i, i < 7 → f i = g i
  | 0, _ => h0
  | 1, _ => h1
  | 2, _ => h2
  | 3, _ => h3
  | 4, _ => h4
  | 5, _ => h5
  | 6, _ => h6
theorem EvSt.set1 (s : EvSt w B0 B a len cap R E H k y c t m f b h0 h1 h2 h3 h4 h5 W) (z : Int) : EvSt w B0 B a len cap R E H k z c t m f b h0 h1 h2 h3 h4 h5 (W.setCell ⟨E, 1, none⟩ (.int .i64 z)) :=
  ⟨(s.ev.set 1 (.int .i64 z)).congr (ev_congr rfl rfl rfl rfl rfl rfl rfl), s.has.setOther (a := ⟨E, 1, none⟩) s.eh (.int .i64 z), s.res.setOther (a := ⟨E, 1, none⟩) s.er (.int .i64 z), s.dr.set (by have := s.ne; have := s.hb; omega) (by have := s.ne; have := s.hb; have := s.h0; omega) _, grown_new s.g s.ne, s.eh, s.er, s.hr, s.ne, s.nh, s.nr, s.hb, s.h0⟩
theorem EvSt.set2 (s : EvSt w B0 B a len cap R E H k y c t m f b h0 h1 h2 h3 h4 h5 W) (z : Int) : EvSt w B0 B a len cap R E H k y z t m f b h0 h1 h2 h3 h4 h5 (W.setCell ⟨E, 2, none⟩ (.int .i64 z)) :=
  ⟨(s.ev.set 2 (.int .i64 z)).congr (ev_congr rfl rfl rfl rfl rfl rfl rfl), s.has.setOther (a := ⟨E, 2, none⟩) s.eh (.int .i64 z), s.res.setOther (a := ⟨E, 2, none⟩) s.er (.int .i64 z), s.dr.set (by have := s.ne; have := s.hb; omega) (by have := s.ne; have := s.hb; have := s.h0; omega) _, grown_new s.g s.ne, s.eh, s.er, s.hr, s.ne, s.nh, s.nr, s.hb, s.h0⟩
theorem EvSt.set3 (s : EvSt w B0 B a len cap R E H k y c t m f b h0 h1 h2 h3 h4 h5 W) (z : Int) : EvSt w B0 B a len cap R E H k y c z m f b h0 h1 h2 h3 h4 h5 (W.setCell ⟨E, 3, none⟩ (.int .i64 z)) :=
  ⟨(s.ev.set 3 (.int .i64 z)).congr (ev_congr rfl rfl rfl rfl rfl rfl rfl), s.has.setOther (a := ⟨E, 3, none⟩) s.eh (.int .i64 z), s.res.setOther (a := ⟨E, 3, none⟩) s.er (.int .i64 z), s.dr.set (by have := s.ne; have := s.hb; omega) (by have := s.ne; have := s.hb; have := s.h0; omega) _, grown_new s.g s.ne, s.eh, s.er, s.hr, s.ne, s.nh, s.nr, s.hb, s.h0⟩
theorem EvSt.set4 (s : EvSt w B0 B a len cap R E H k y c t m f b h0 h1 h2 h3 h4 h5 W) (z : Int) : EvSt w B0 B a len cap R E H k y c t z f b h0 h1 h2 h3 h4 h5 (W.setCell ⟨E, 4, none⟩ (.int .i64 z)) :=
  ⟨(s.ev.set 4 (.int .i64 z)).congr (ev_congr rfl rfl rfl rfl rfl rfl rfl), s.has.setOther (a := ⟨E, 4, none⟩) s.eh (.int .i64 z), s.res.setOther (a := ⟨E, 4, none⟩) s.er (.int .i64 z), s.dr.set (by have := s.ne; have := s.hb; omega) (by have := s.ne; have := s.hb; have := s.h0; omega) _, grown_new s.g s.ne, s.eh, s.er, s.hr, s.ne, s.nh, s.nr, s.hb, s.h0⟩
theorem EvSt.set5 (s : EvSt w B0 B a len cap R E H k y c t m f b h0 h1 h2 h3 h4 h5 W) (z : Int) : EvSt w B0 B a len cap R E H k y c t m z b h0 h1 h2 h3 h4 h5 (W.setCell ⟨E, 5, none⟩ (.int .i64 z)) :=
  ⟨(s.ev.set 5 (.int .i64 z)).congr (ev_congr rfl rfl rfl rfl rfl rfl rfl), s.has.setOther (a := ⟨E, 5, none⟩) s.eh (.int .i64 z), s.res.setOther (a := ⟨E, 5, none⟩) s.er (.int .i64 z), s.dr.set (by have := s.ne; have := s.hb; omega) (by have := s.ne; have := s.hb; have := s.h0; omega) _, grown_new s.g s.ne, s.eh, s.er, s.hr, s.ne, s.nh, s.nr, s.hb, s.h0⟩
theorem EvSt.set6 (s : EvSt w B0 B a len cap R E H k y c t m f b h0 h1 h2 h3 h4 h5 W) (z : Bool) : EvSt w B0 B a len cap R E H k y c t m f z h0 h1 h2 h3 h4 h5 (W.setCell ⟨E, 6, none⟩ (.bool z)) :=
  ⟨(s.ev.set 6 (.bool z)).congr (ev_congr rfl rfl rfl rfl rfl rfl rfl), s.has.setOther (a := ⟨E, 6, none⟩) s.eh (.bool z), s.res.setOther (a := ⟨E, 6, none⟩) s.er (.bool z), s.dr.set (by have := s.ne; have := s.hb; omega) (by have := s.ne; have := s.hb; have := s.h0; omega) _, grown_new s.g s.ne, s.eh, s.er, s.hr, s.ne, s.nh, s.nr, s.hb, s.h0⟩
theorem EvSt.e0 (s : EvSt w B0 B a len cap R E H k y c t m f b h0 h1 h2 h3 h4 h5 W) : W.cell? ⟨E, 0, none⟩ = some (.int .i64 k) := s.ev.cell (i := 0) (by decide)
theorem EvSt.r0 (s : EvSt w B0 B a len cap R E H k y c t m f b h0 h1 h2 h3 h4 h5 W) : W.cell? ⟨R, 0, none⟩ = some (.int .i64 0) := s.res.cell (i := 0) (by decide)
theorem EvSt.e1 (s : EvSt w B0 B a len cap R E H k y c t m f b h0 h1 h2 h3 h4 h5 W) : W.cell? ⟨E, 1, none⟩ = some (.int .i64 y) := s.ev.cell (i := 1) (by decide)
theorem EvSt.r1 (s : EvSt w B0 B a len cap R E H k y c t m f b h0 h1 h2 h3 h4 h5 W) : W.cell? ⟨R, 1, none⟩ = some (.int .i64 0) := s.res.cell (i := 1) (by decide)
theorem EvSt.e2 (s : EvSt w B0 B a len cap R E H k y c t m f b h0 h1 h2 h3 h4 h5 W) : W.cell? ⟨E, 2, none⟩ = some (.int .i64 c) := s.ev.cell (i := 2) (by decide)
theorem EvSt.r2 (s : EvSt w B0 B a len cap R E H k y c t m f b h0 h1 h2 h3 h4 h5 W) : W.cell? ⟨R, 2, none⟩ = some (.int .i64 0) := s.res.cell (i := 2) (by decide)
theorem EvSt.e3 (s : EvSt w B0 B a len cap R E H k y c t m f b h0 h1 h2 h3 h4 h5 W) : W.cell? ⟨E, 3, none⟩ = some (.int .i64 t) := s.ev.cell (i := 3) (by decide)
theorem EvSt.r3 (s : EvSt w B0 B a len cap R E H k y c t m f b h0 h1 h2 h3 h4 h5 W) : W.cell? ⟨R, 3, none⟩ = some (.int .i64 0) := s.res.cell (i := 3) (by decide)
theorem EvSt.e4 (s : EvSt w B0 B a len cap R E H k y c t m f b h0 h1 h2 h3 h4 h5 W) : W.cell? ⟨E, 4, none⟩ = some (.int .i64 m) := s.ev.cell (i := 4) (by decide)
theorem EvSt.r4 (s : EvSt w B0 B a len cap R E H k y c t m f b h0 h1 h2 h3 h4 h5 W) : W.cell? ⟨R, 4, none⟩ = some (.int .i64 0) := s.res.cell (i := 4) (by decide)
theorem EvSt.e5 (s : EvSt w B0 B a len cap R E H k y c t m f b h0 h1 h2 h3 h4 h5 W) : W.cell? ⟨E, 5, none⟩ = some (.int .i64 f) := s.ev.cell (i := 5) (by decide)
theorem EvSt.r5 (s : EvSt w B0 B a len cap R E H k y c t m f b h0 h1 h2 h3 h4 h5 W) : W.cell? ⟨R, 5, none⟩ = some (.int .i64 0) := s.res.cell (i := 5) (by decide)
theorem EvSt.e6 (s : EvSt w B0 B a len cap R E H k y c t m f b h0 h1 h2 h3 h4 h5 W) : W.cell? ⟨E, 6, none⟩ = some (.bool b) := s.ev.cell (i := 6) (by decide)
theorem EvSt.r6 (s : EvSt w B0 B a len cap R E H k y c t m f b h0 h1 h2 h3 h4 h5 W) : W.cell? ⟨R, 6, none⟩ = some (.bool false) := s.res.cell (i := 6) (by decide)
theorem EvSt.h0' (s : EvSt w B0 B a len cap R E H k y c t m f b h0 h1 h2 h3 h4 h5 W) : W.cell? ⟨H, 0, none⟩ = some (.bool h0) := s.has.cell (i := 0) (by decide)
theorem EvSt.h1' (s : EvSt w B0 B a len cap R E H k y c t m f b h0 h1 h2 h3 h4 h5 W) : W.cell? ⟨H, 1, none⟩ = some (.bool h1) := s.has.cell (i := 1) (by decide)
theorem EvSt.h2' (s : EvSt w B0 B a len cap R E H k y c t m f b h0 h1 h2 h3 h4 h5 W) : W.cell? ⟨H, 2, none⟩ = some (.bool h2) := s.has.cell (i := 2) (by decide)
theorem EvSt.h3' (s : EvSt w B0 B a len cap R E H k y c t m f b h0 h1 h2 h3 h4 h5 W) : W.cell? ⟨H, 3, none⟩ = some (.bool h3) := s.has.cell (i := 3) (by decide)
theorem EvSt.h4' (s : EvSt w B0 B a len cap R E H k y c t m f b h0 h1 h2 h3 h4 h5 W) : W.cell? ⟨H, 4, none⟩ = some (.bool h4) := s.has.cell (i := 4) (by decide)
theorem EvSt.h5' (s : EvSt w B0 B a len cap R E H k y c t m f b h0 h1 h2 h3 h4 h5 W) : W.cell? ⟨H, 5, none⟩ = some (.bool h5) := s.has.cell (i := 5) (by decide)
/-- The result's cells are written. -/
theorem EvSt.fin (s : EvSt w B0 B a len cap R E H k y c t m f b h0 h1 h2 h3 h4 h5 W) {V : World} (hV : V = (((((((W.setCell ⟨R, 0, none⟩ (.int .i64 k)).setCell ⟨R, 1, none⟩ (.int .i64 y)).setCell ⟨R, 2, none⟩ (.int .i64 c)).setCell ⟨R, 3, none⟩ (.int .i64 t)).setCell ⟨R, 4, none⟩ (.int .i64 m)).setCell ⟨R, 5, none⟩ (.int .i64 f)).setCell ⟨R, 6, none⟩ (.bool b))) : (V.cell? ⟨R, 0, none⟩ = some (.int .i64 k) ∧ V.cell? ⟨R, 1, none⟩ = some (.int .i64 y) ∧ V.cell? ⟨R, 2, none⟩ = some (.int .i64 c) ∧ V.cell? ⟨R, 3, none⟩ = some (.int .i64 t) ∧ V.cell? ⟨R, 4, none⟩ = some (.int .i64 m) ∧ V.cell? ⟨R, 5, none⟩ = some (.int .i64 f) ∧ V.cell? ⟨R, 6, none⟩ = some (.bool b)) ∧ Dr B0 B a len cap V ∧ w.grownBy V (some B) := by
  subst hV
  have r : ((((((((W.setCell ⟨R, 0, none⟩ (.int .i64 k)).setCell ⟨R, 1, none⟩ (.int .i64 y)).setCell ⟨R, 2, none⟩ (.int .i64 c)).setCell ⟨R, 3, none⟩ (.int .i64 t)).setCell ⟨R, 4, none⟩ (.int .i64 m)).setCell ⟨R, 5, none⟩ (.int .i64 f)).setCell ⟨R, 6, none⟩ (.bool b))).rowIs R 28 7 (evRow k y c t m f b) := ((((((((s.res.set 0 (.int .i64 k)).set 1 (.int .i64 y)).set 2 (.int .i64 c)).set 3 (.int .i64 t)).set 4 (.int .i64 m)).set 5 (.int .i64 f)).set 6 (.bool b))).congr (ev_congr rfl rfl rfl rfl rfl rfl rfl)
  exact ⟨⟨r.cell (i := 0) (by decide), r.cell (i := 1) (by decide), r.cell (i := 2) (by decide), r.cell (i := 3) (by decide), r.cell (i := 4) (by decide), r.cell (i := 5) (by decide), r.cell (i := 6) (by decide)⟩, (((((((s.dr.set (by have := s.nr; have := s.hb; omega) (by have := s.nr; have := s.hb; have := s.h0; omega) _).set (by have := s.nr; have := s.hb; omega) (by have := s.nr; have := s.hb; have := s.h0; omega) _).set (by have := s.nr; have := s.hb; omega) (by have := s.nr; have := s.hb; have := s.h0; omega) _).set (by have := s.nr; have := s.hb; omega) (by have := s.nr; have := s.hb; have := s.h0; omega) _).set (by have := s.nr; have := s.hb; omega) (by have := s.nr; have := s.hb; have := s.h0; omega) _).set (by have := s.nr; have := s.hb; omega) (by have := s.nr; have := s.hb; have := s.h0; omega) _).set (by have := s.nr; have := s.hb; omega) (by have := s.nr; have := s.hb; have := s.h0; omega) _), (grown_new (grown_new (grown_new (grown_new (grown_new (grown_new (grown_new s.g s.nr) s.nr) s.nr) s.nr) s.nr) s.nr) s.nr)⟩
end
/-- What the table says, of some kind. -/
theorem has_all {k : Int} (h0 : 1 ≤ k) (h1 : k ≤ 11) : (∀ w, Calls Tryz.prog 63 #[.int .i64 k] w (hasPost false false false true false false w)) ∨ (∀ w, Calls Tryz.prog 63 #[.int .i64 k] w (hasPost false true false true true false w)) ∨ (∀ w, Calls Tryz.prog 63 #[.int .i64 k] w (hasPost false true false false true false w)) ∨ (∀ w, Calls Tryz.prog 63 #[.int .i64 k] w (hasPost true true true true false true w)) ∨ (∀ w, Calls Tryz.prog 63 #[.int .i64 k] w (hasPost true true true true true false w)) ∨ (∀ w, Calls Tryz.prog 63 #[.int .i64 k] w (hasPost false false false false false false w)) ∨ (∀ w, Calls Tryz.prog 63 #[.int .i64 k] w (hasPost true false false false false false w)) := by
  have h : k = 1 ∨ k = 2 ∨ k = 3 ∨ k = 4 ∨ k = 5 ∨ k = 6 ∨ k = 7 ∨ k = 8 ∨ k = 9 ∨ k = 10 ∨ k = 11 := by omega
  rcases h with rfl | rfl | rfl | rfl | rfl | rfl | rfl | rfl | rfl | rfl | rfl
  · exact .inl has_1
  · exact .inr (.inl has_2)
  · exact .inr (.inr (.inl has_3))
  · exact .inr (.inl has_4)
  · exact .inr (.inr (.inr (.inl has_5)))
  · exact .inr (.inr (.inr (.inr (.inr (.inr has_6)))))
  · exact .inr (.inr (.inr (.inr (.inr (.inr has_7)))))
  · exact .inr (.inr (.inr (.inr (.inr (.inl has_8)))))
  · exact .inr (.inr (.inr (.inr (.inl has_9))))
  · exact .inr (.inr (.inr (.inr (.inr (.inr has_10)))))
  · exact .inr (.inr (.inr (.inr (.inr (.inr has_11)))))
/-- An event. -/
def IsEv (e : Ending) : Prop := ∃ (k y c t m f : Int) (b : Bool), e = .returned (evV k y c t m f b)
theorem isEv {k y c t m f : Int} {b : Bool} : IsEv (.returned (evV k y c t m f b)) := ⟨k, y, c, t, m, f, b, rfl⟩
end Go.Proofs.YtkgpoghoilffhaaGreatDoor
