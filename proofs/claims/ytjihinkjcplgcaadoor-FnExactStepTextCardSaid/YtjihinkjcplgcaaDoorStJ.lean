/- The program's text of a step. -/
import Derived.Test.YtjihinkjcplgcaaDoorStI
import Derived.Test.YtjihinkjcplgcaaDoorSen
namespace Go.Proofs.YtjihinkjcplgcaaDoor
open Go.RowKit Go.Deep
set_option linter.unusedVariables false
set_option linter.unusedSimpArgs false
set_option maxRecDepth 10000
theorem st_cat (X Y : List UInt8) : Ending.returned (.string ((⟨X.toArray⟩ : ByteArray) ++ ⟨Y.toArray⟩)) = .returned (.string ⟨(X ++ Y).toArray⟩) := by
  congr 2
theorem evT_len {k y c t m f : Int} {b : Bool} (h : evB k y c t m f b = true) : (evT k y c t m f b).length ≤ 200 := by
  have hk := (ev_bounds h).1
  have hs : ∀ (W : List UInt8) (ns : List Int), W.length ≤ 8 → ns.length ≤ 5 → (sen W ns).length ≤ 118 := by
    intro W ns h1 h2
    have := senN_len ns
    unfold sen
    simp only [List.length_append]
    omega
  have hq : k = 1 ∨ k = 2 ∨ k = 3 ∨ k = 4 ∨ k = 5 ∨ k = 6 ∨ k = 7 ∨ k = 8 ∨ k = 9 ∨ k = 10 ∨ k = 11 := by omega
  rcases hq with rfl | rfl | rfl | rfl | rfl | rfl | rfl | rfl | rfl | rfl | rfl
  · rw [evT_1]; exact Nat.le_trans (hs _ _ (by simp) (by simp)) (by decide)
  · rw [evT_2]; exact Nat.le_trans (hs _ _ (by simp) (by simp)) (by decide)
  · rw [evT_3]; exact Nat.le_trans (hs _ _ (by simp) (by simp)) (by decide)
  · rw [evT_4]; exact Nat.le_trans (hs _ _ (by simp) (by simp)) (by decide)
  · rw [evT_5, List.length_append]
    have h1 := hs [97, 100, 109, 105, 116] [y, c, t, m] (by simp) (by simp)
    split <;> simp only [List.length_cons, List.length_nil] <;> omega
  · rw [evT_6]; exact Nat.le_trans (hs _ _ (by simp) (by simp)) (by decide)
  · rw [evT_7]; exact Nat.le_trans (hs _ _ (by simp) (by simp)) (by decide)
  · rw [evT_8]; exact Nat.le_trans (hs _ _ (by simp) (by simp)) (by decide)
  · rw [evT_9]; exact Nat.le_trans (hs _ _ (by simp) (by simp)) (by decide)
  · rw [evT_10]; exact Nat.le_trans (hs _ _ (by simp) (by simp)) (by decide)
  · rw [evT_11]; exact Nat.le_trans (hs _ _ (by simp) (by simp)) (by decide)
theorem etL_len (k y c t m f : Int) (b : Bool) : (etL k y c t m f b).length ≤ 200 := by
  unfold etL
  split
  · next h => exact evT_len h
  · simp
theorem ret_stL {X : List UInt8} {D : Stp} (h : X = stL D) : Ending.returned (.string ⟨X.toArray⟩) = .returned (.string ⟨(stL D).toArray⟩) := by rw [h]
theorem stL_yes {D : Stp} (h : stpB D = true) : stL D = stT D := by unfold stL; rw [if_pos h]
theorem stL_no {D : Stp} (h : stpB D = false) : stL D = [] := by unfold stL; rw [if_neg (by simp [h])]
set_option maxHeartbeats 4000000 in
theorem stept_no (D : Stp) (a : Option Addr) (c : Nat) (w : World) (hc : Cells w a (its D.ks)) (hl : D.ks.length ≤ 1048576) (ht : Tab w) (hB : stpB D = false) :
    Calls Tryd.prog 7 #[D.v a c] w fun e w' => e = .returned (.string ⟨(stL D).toArray⟩) ∧ Keeps w w' := by
  have HK := hide (Keeps.alloc (Keeps.refl w) (.cells (D.cells a c) 34))
  have HB := hide (stp_box D a c w 34)
  have HC := hide hc
  have HT := hide ht
  have HO := hide (fun w' (hk : Keeps w w') => stepok_impl D a c w' (hc.kept hk) hl)
  rw [hB] at HO
  have HD := hide hB
  clear hc ht hB
  go_enter Tryd.func7, Tryd.ntmps7
  go_wp2_with fail
  generalize w.alloc (.cells (D.cells a c) 34) = W1 at *
  refine (unhide HO W1 HK.out).mono ?_
  rintro x w1 ⟨rfl, hk1⟩
  have HK1 := hide (HK.out.trans hk1)
  have hcl := HB.out w1 hk1
  clear hk1 HK HO HB
  obtain ⟨c0, ⟨c1, c2, c3, c4, c5, c6, c7⟩, c8, c9, c10, c11, c12, c13⟩ := hcl
  go_wp2_with fail
  go_ret
  exact ⟨ret_stL (stL_no HD.out).symm, HK1.out⟩
set_option maxHeartbeats 4000000 in
theorem stept_1 (D : Stp) (a : Option Addr) (c : Nat) (w : World) (hc : Cells w a (its D.ks)) (hl : D.ks.length ≤ 1048576) (ht : Tab w) (hB : stpB D = true) (hk : D.k = 1) :
    Calls Tryd.prog 7 #[D.v a c] w fun e w' => e = .returned (.string ⟨(stL D).toArray⟩) ∧ Keeps w w' := by
  have HK := hide (Keeps.alloc (Keeps.refl w) (.cells (D.cells a c) 34))
  have HB := hide (stp_box D a c w 34)
  have HC := hide hc
  have HT := hide ht
  have HO := hide (fun w' (hk : Keeps w w') => stepok_impl D a c w' (hc.kept hk) hl)
  rw [hB] at HO
  have HD := hide hB
  clear hc ht hB
  have HX : Hid (stL D = stT D) := stL_yes HD.out
  obtain ⟨k, e, ks, r⟩ := D
  dsimp only at hk
  subst hk
  go_enter Tryd.func7, Tryd.ntmps7
  go_wp2_with fail
  generalize w.alloc (.cells (Stp.cells ⟨1, e, ks, r⟩ a c) 34) = W1 at *
  refine (unhide HO W1 HK.out).mono ?_
  rintro x w1 ⟨rfl, hk1⟩
  have HK1 := hide (HK.out.trans hk1)
  have hcl := HB.out w1 hk1
  clear hk1 HK HO HB
  obtain ⟨c0, ⟨c1, c2, c3, c4, c5, c6, c7⟩, c8, c9, c10, c11, c12, c13⟩ := hcl
  go_wp2_with fail
  refine (etx_impl e.k e.y e.c e.t e.m e.f e.b w1 (HT.out.kept HK1.out)).mono ?_
  rintro x w2 ⟨rfl, hk2⟩
  obtain ⟨A, hA⟩ : ∃ A : ByteArray, A = ⟨(etL e.k e.y e.c e.t e.m e.f e.b).toArray⟩ := ⟨_, rfl⟩
  have hy : A.size ≤ 200 := by
    rw [hA]
    have h2 := etL_len e.k e.y e.c e.t e.m e.f e.b
    have e2 : (⟨(etL e.k e.y e.c e.t e.m e.f e.b).toArray⟩ : ByteArray).size = (etL e.k e.y e.c e.t e.m e.f e.b).length := by show (etL e.k e.y e.c e.t e.m e.f e.b).toArray.size = _; simp
    omega
  rw [← hA]
  have HA := hide hA
  clear hA
  have qa : ∀ w, (Op.stringOp .add (⟨#[116, 97, 107, 101, 32]⟩ : ByteArray) A).run Tryd.prog w = .ok (.string ((⟨#[116, 97, 107, 101, 32]⟩ : ByteArray) ++ A)) w := fun w => run_string_add_sum w _ _ (by
    have e1 : (⟨#[116, 97, 107, 101, 32]⟩ : ByteArray).size = 5 := rfl
    rw [e1]; omega)
  clear hy
  go_wp2_with fail
  go_ret
  rw [HA.out]
  refine ⟨(st_cat [116, 97, 107, 101, 32] _).trans (ret_stL ?_), HK1.out.trans hk2⟩
  rw [HX.out]
  have h2 := HD.out
  simp only [stpB, if_pos, Bool.and_eq_true] at h2
  simp [stT, etL, h2.1.1]
set_option maxHeartbeats 4000000 in
theorem stept_2 (D : Stp) (a : Option Addr) (c : Nat) (w : World) (hc : Cells w a (its D.ks)) (hl : D.ks.length ≤ 1048576) (ht : Tab w) (hB : stpB D = true) (hk : D.k = 2) :
    Calls Tryd.prog 7 #[D.v a c] w fun e w' => e = .returned (.string ⟨(stL D).toArray⟩) ∧ Keeps w w' := by
  have HK := hide (Keeps.alloc (Keeps.refl w) (.cells (D.cells a c) 34))
  have HB := hide (stp_box D a c w 34)
  have HC := hide hc
  have HT := hide ht
  have HO := hide (fun w' (hk : Keeps w w') => stepok_impl D a c w' (hc.kept hk) hl)
  rw [hB] at HO
  have HD := hide hB
  clear hc ht hB
  have HX : Hid (stL D = stT D) := stL_yes HD.out
  obtain ⟨k, e, ks, r⟩ := D
  dsimp only at hk
  subst hk
  go_enter Tryd.func7, Tryd.ntmps7
  go_wp2_with fail
  generalize w.alloc (.cells (Stp.cells ⟨2, e, ks, r⟩ a c) 34) = W1 at *
  refine (unhide HO W1 HK.out).mono ?_
  rintro x w1 ⟨rfl, hk1⟩
  have HK1 := hide (HK.out.trans hk1)
  have hcl := HB.out w1 hk1
  clear hk1 HK HO HB
  obtain ⟨c0, ⟨c1, c2, c3, c4, c5, c6, c7⟩, c8, c9, c10, c11, c12, c13⟩ := hcl
  go_wp2_with fail
  go_ret
  exact ⟨ret_stL (X := [115, 121, 110, 99]) (by rw [HX.out]; simp [stT]), HK1.out⟩
set_option maxHeartbeats 4000000 in
theorem stept_3 (D : Stp) (a : Option Addr) (c : Nat) (w : World) (hc : Cells w a (its D.ks)) (hl : D.ks.length ≤ 1048576) (ht : Tab w) (hB : stpB D = true) (hk : D.k = 3) :
    Calls Tryd.prog 7 #[D.v a c] w fun e w' => e = .returned (.string ⟨(stL D).toArray⟩) ∧ Keeps w w' := by
  have HK := hide (Keeps.alloc (Keeps.refl w) (.cells (D.cells a c) 34))
  have HB := hide (stp_box D a c w 34)
  have HC := hide hc
  have HT := hide ht
  have HO := hide (fun w' (hk : Keeps w w') => stepok_impl D a c w' (hc.kept hk) hl)
  rw [hB] at HO
  have HD := hide hB
  clear hc ht hB
  have HX : Hid (stL D = stT D) := stL_yes HD.out
  obtain ⟨k, e, ks, r⟩ := D
  dsimp only at hk
  subst hk
  go_enter Tryd.func7, Tryd.ntmps7
  go_wp2_with fail
  generalize w.alloc (.cells (Stp.cells ⟨3, e, ks, r⟩ a c) 34) = W1 at *
  refine (unhide HO W1 HK.out).mono ?_
  rintro x w1 ⟨rfl, hk1⟩
  have HK1 := hide (HK.out.trans hk1)
  have hcl := HB.out w1 hk1
  clear hk1 HK HO HB
  obtain ⟨c0, ⟨c1, c2, c3, c4, c5, c6, c7⟩, c8, c9, c10, c11, c12, c13⟩ := hcl
  go_wp2_with fail
  refine (sentence_big [99, 114, 97, 115, 104] a c ks w1 (by decide) (by decide) hl (HC.out.kept HK1.out) (HT.out.kept HK1.out)).mono ?_
  rintro x w2 ⟨rfl, hk2⟩
  go_wp2_with fail
  go_ret
  exact ⟨ret_stL (by rw [HX.out]; simp [stT]), HK1.out.trans hk2⟩
set_option maxHeartbeats 4000000 in
theorem stept_4 (D : Stp) (a : Option Addr) (c : Nat) (w : World) (hc : Cells w a (its D.ks)) (hl : D.ks.length ≤ 1048576) (ht : Tab w) (hB : stpB D = true) (hk : D.k = 4) :
    Calls Tryd.prog 7 #[D.v a c] w fun e w' => e = .returned (.string ⟨(stL D).toArray⟩) ∧ Keeps w w' := by
  have HK := hide (Keeps.alloc (Keeps.refl w) (.cells (D.cells a c) 34))
  have HB := hide (stp_box D a c w 34)
  have HC := hide hc
  have HT := hide ht
  have HO := hide (fun w' (hk : Keeps w w') => stepok_impl D a c w' (hc.kept hk) hl)
  rw [hB] at HO
  have HD := hide hB
  clear hc ht hB
  have HX : Hid (stL D = stT D) := stL_yes HD.out
  obtain ⟨k, e, ks, r⟩ := D
  dsimp only at hk
  subst hk
  go_enter Tryd.func7, Tryd.ntmps7
  go_wp2_with fail
  generalize w.alloc (.cells (Stp.cells ⟨4, e, ks, r⟩ a c) 34) = W1 at *
  refine (unhide HO W1 HK.out).mono ?_
  rintro x w1 ⟨rfl, hk1⟩
  have HK1 := hide (HK.out.trans hk1)
  have hcl := HB.out w1 hk1
  clear hk1 HK HO HB
  obtain ⟨c0, ⟨c1, c2, c3, c4, c5, c6, c7⟩, c8, c9, c10, c11, c12, c13⟩ := hcl
  go_wp2_with fail
  go_ret
  exact ⟨ret_stL (X := [115, 116, 97, 114, 116]) (by rw [HX.out]; simp [stT]), HK1.out⟩
set_option maxHeartbeats 4000000 in
theorem stept_5 (D : Stp) (a : Option Addr) (c : Nat) (w : World) (hc : Cells w a (its D.ks)) (hl : D.ks.length ≤ 1048576) (ht : Tab w) (hB : stpB D = true) (hk : D.k = 5) :
    Calls Tryd.prog 7 #[D.v a c] w fun e w' => e = .returned (.string ⟨(stL D).toArray⟩) ∧ Keeps w w' := by
  have HK := hide (Keeps.alloc (Keeps.refl w) (.cells (D.cells a c) 34))
  have HB := hide (stp_box D a c w 34)
  have HC := hide hc
  have HT := hide ht
  have HO := hide (fun w' (hk : Keeps w w') => stepok_impl D a c w' (hc.kept hk) hl)
  rw [hB] at HO
  have HD := hide hB
  clear hc ht hB
  have HX : Hid (stL D = stT D) := stL_yes HD.out
  obtain ⟨k, e, ks, r⟩ := D
  dsimp only at hk
  subst hk
  go_enter Tryd.func7, Tryd.ntmps7
  go_wp2_with fail
  generalize w.alloc (.cells (Stp.cells ⟨5, e, ks, r⟩ a c) 34) = W1 at *
  refine (unhide HO W1 HK.out).mono ?_
  rintro x w1 ⟨rfl, hk1⟩
  have HK1 := hide (HK.out.trans hk1)
  have hcl := HB.out w1 hk1
  clear hk1 HK HO HB
  obtain ⟨c0, ⟨c1, c2, c3, c4, c5, c6, c7⟩, c8, c9, c10, c11, c12, c13⟩ := hcl
  go_wp2_with fail
  have hk2 := Keeps.alloc HK1.out (.cells #[.int .i64 r.lo, .int .i64 r.hi, .int .i64 r.st, .int .i64 r.mi, .int .i64 r.ma] 3)
  refine (sentence_big [116, 117, 114, 110] (some ⟨w1.heap.size, 0, none⟩) 5 [r.lo, r.hi, r.st, r.mi, r.ma] _ (by decide) (by decide) (by simp) ?_ (HT.out.kept hk2)).mono ?_
  · refine Or.inr ⟨_, _, rfl, fun i hi => ?_⟩
    match i, hi with
    | 0, _ => simp [nums]
    | 1, _ => simp [nums]
    | 2, _ => simp [nums]
    | 3, _ => simp [nums]
    | 4, _ => simp [nums]
    | n + 5, hi => exact absurd hi (by simp [nums])
  rintro x w2 ⟨rfl, hk3⟩
  go_wp2_with fail
  go_ret
  exact ⟨ret_stL (by rw [HX.out]; simp [stT]), hk2.trans hk3⟩
theorem stpB_kind {D : Stp} (h : stpB D = true) : D.k = 1 ∨ D.k = 2 ∨ D.k = 3 ∨ D.k = 4 ∨ D.k = 5 := by
  unfold stpB at h
  by_cases h1 : D.k = 1
  · exact Or.inl h1
  by_cases h2 : D.k = 2
  · exact Or.inr (Or.inl h2)
  by_cases h3 : D.k = 3
  · exact Or.inr (Or.inr (Or.inl h3))
  by_cases h4 : D.k = 4
  · exact Or.inr (Or.inr (Or.inr (Or.inl h4)))
  by_cases h5 : D.k = 5
  · exact Or.inr (Or.inr (Or.inr (Or.inr h5)))
  simp [h1, h2, h3, h4, h5] at h
theorem stept_impl (D : Stp) (a : Option Addr) (c : Nat) (w : World) (hc : Cells w a (its D.ks)) (hl : D.ks.length ≤ 1048576) (ht : Tab w) :
    Calls Tryd.prog 7 #[D.v a c] w fun e w' => e = .returned (.string ⟨(stL D).toArray⟩) ∧ Keeps w w' := by
  cases h : stpB D
  · exact stept_no D a c w hc hl ht h
  · rcases stpB_kind h with h1 | h1 | h1 | h1 | h1
    · exact stept_1 D a c w hc hl ht h h1
    · exact stept_2 D a c w hc hl ht h h1
    · exact stept_3 D a c w hc hl ht h h1
    · exact stept_4 D a c w hc hl ht h h1
    · exact stept_5 D a c w hc hl ht h h1
end Go.Proofs.YtjihinkjcplgcaaDoor
