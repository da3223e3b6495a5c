/- The model's EventOk, by contract. -/
import Derived.Test.YtjihinkjcplgcaaDoorEv
import Derived.RegionTactic
namespace Go.Proofs.YtjihinkjcplgcaaDoor
open Go.RowKit
set_option linter.unusedVariables false
set_option maxRecDepth 10000

theorem ret_ev {a b : Bool} (h : a = b) : Ending.returned (.bool a) = .returned (.bool b) := by rw [h]
theorem field_k (h : Bool) (n lo hi : Int) (w : World) : Calls Tryd.prog 26 #[.bool h, .int .i64 n, .int .i64 lo, .int .i64 hi] w fun e w' => e = .returned (.bool (fieldB h n lo hi)) ∧ Keeps w w' := by
  cases h
  · have H : Hid (fieldB false n lo hi = decide (n = 0)) := rfl
    go_enter Tryd.func26, Tryd.ntmps26
    go_wp2
    go_ret
    exact ⟨ret_ev (by rw [H.out]; rfl), Keeps.refl _⟩
  · have H : Hid (fieldB true n lo hi = (decide (lo ≤ n) && decide (n ≤ hi))) := rfl
    by_cases h1 : lo ≤ n
    · have H2 : Hid (fieldB true n lo hi = decide (n ≤ hi)) := by show _ = _; rw [H.out, decide_eq_true h1, Bool.true_and]
      go_enter Tryd.func26, Tryd.ntmps26
      go_wp2
      go_ret
      exact ⟨ret_ev (by rw [H2.out]), Keeps.refl _⟩
    · have H2 : Hid (fieldB true n lo hi = false) := by show _ = _; rw [H.out, decide_eq_false h1, Bool.false_and]
      go_enter Tryd.func26, Tryd.ntmps26
      go_wp2
      go_ret
      exact ⟨ret_ev (by rw [H2.out]), Keeps.refl _⟩
theorem field_is (h : Bool) (n lo hi : Int) (r : Bool) (hr : fieldB h n lo hi = r) (w : World) : Calls Tryd.prog 26 #[.bool h, .int .i64 n, .int .i64 lo, .int .i64 hi] w fun e w' => e = .returned (.bool r) ∧ Keeps w w' := by
  rw [← hr]; exact field_k h n lo hi w
/-- What the model's EventOk tests, at what its table says of the kind. -/
def evF (lo hi : Int) (h0 h1 h2 h3 h4 h5 : Bool) (y c t m f : Int) (b : Bool) : Bool :=
  fieldB h0 y 1 1000000 && fieldB h1 c 1 99 && fieldB h2 t 1 99 && !(h2 && decide (c = t)) && fieldB h3 m lo 1125899906842624 && fieldB h4 f 0 hi && (h5 || !b)
abbrev hasPost (h0 h1 h2 h3 h4 h5 : Bool) (w1 : World) (e : Ending) (w' : World) : Prop := e = .returned (.slice (some ⟨w1.heap.size, 0, none⟩) 6 6) ∧ w' = w1.alloc (.cells #[.bool h0, .bool h1, .bool h2, .bool h3, .bool h4, .bool h5] 4)

theorem has_1 (w : World) : Calls Tryd.prog 25 #[.int .i64 1] w (hasPost false false false true false false w) := by
  go_enter Tryd.func25, Tryd.ntmps25
  go_wp2
  go_ret
  exact ⟨rfl, rfl⟩
theorem has_2 (w : World) : Calls Tryd.prog 25 #[.int .i64 2] w (hasPost false true false true true false w) := by
  go_enter Tryd.func25, Tryd.ntmps25
  go_wp2
  go_ret
  exact ⟨rfl, rfl⟩
theorem has_4 (w : World) : Calls Tryd.prog 25 #[.int .i64 4] w (hasPost false true false true true false w) := by
  go_enter Tryd.func25, Tryd.ntmps25
  go_wp2
  go_ret
  exact ⟨rfl, rfl⟩
theorem has_3 (w : World) : Calls Tryd.prog 25 #[.int .i64 3] w (hasPost false true false false true false w) := by
  go_enter Tryd.func25, Tryd.ntmps25
  go_wp2
  go_ret
  exact ⟨rfl, rfl⟩
theorem has_5 (w : World) : Calls Tryd.prog 25 #[.int .i64 5] w (hasPost true true true true false true w) := by
  go_enter Tryd.func25, Tryd.ntmps25
  go_wp2
  go_ret
  exact ⟨rfl, rfl⟩
theorem has_9 (w : World) : Calls Tryd.prog 25 #[.int .i64 9] w (hasPost true true true true true false w) := by
  go_enter Tryd.func25, Tryd.ntmps25
  go_wp2
  go_ret
  exact ⟨rfl, rfl⟩
theorem has_8 (w : World) : Calls Tryd.prog 25 #[.int .i64 8] w (hasPost false false false false false false w) := by
  go_enter Tryd.func25, Tryd.ntmps25
  go_wp2
  go_ret
  exact ⟨rfl, rfl⟩
theorem has_6 (w : World) : Calls Tryd.prog 25 #[.int .i64 6] w (hasPost true false false false false false w) := by
  go_enter Tryd.func25, Tryd.ntmps25
  go_wp2
  go_ret
  exact ⟨rfl, rfl⟩
theorem has_7 (w : World) : Calls Tryd.prog 25 #[.int .i64 7] w (hasPost true false false false false false w) := by
  go_enter Tryd.func25, Tryd.ntmps25
  go_wp2
  go_ret
  exact ⟨rfl, rfl⟩
theorem has_10 (w : World) : Calls Tryd.prog 25 #[.int .i64 10] w (hasPost true false false false false false w) := by
  go_enter Tryd.func25, Tryd.ntmps25
  go_wp2
  go_ret
  exact ⟨rfl, rfl⟩
theorem has_11 (w : World) : Calls Tryd.prog 25 #[.int .i64 11] w (hasPost true false false false false false w) := by
  go_enter Tryd.func25, Tryd.ntmps25
  go_wp2
  go_ret
  exact ⟨rfl, rfl⟩
theorem evw1 {w w1 : World} {k y c t m f : Int} {b a0 a1 a2 a3 a4 a5 : Bool} (h : w1 = (w.alloc (.cells (evCells k y c t m f b) 31)).alloc (.cells #[.bool a0, .bool a1, .bool a2, .bool a3, .bool a4, .bool a5] 4)) :
    Keeps w w1 ∧ (w1.cell? ⟨w.heap.size, 0, none⟩ = some (.int .i64 k) ∧ w1.cell? ⟨w.heap.size, 1, none⟩ = some (.int .i64 y) ∧ w1.cell? ⟨w.heap.size, 2, none⟩ = some (.int .i64 c) ∧ w1.cell? ⟨w.heap.size, 3, none⟩ = some (.int .i64 t) ∧ w1.cell? ⟨w.heap.size, 4, none⟩ = some (.int .i64 m) ∧ w1.cell? ⟨w.heap.size, 5, none⟩ = some (.int .i64 f) ∧ w1.cell? ⟨w.heap.size, 6, none⟩ = some (.bool b)) ∧ w1.cell? ⟨w.heap.size + 1, 0, none⟩ = some (.bool a0) ∧ w1.cell? ⟨w.heap.size + 1, 1, none⟩ = some (.bool a1) ∧ w1.cell? ⟨w.heap.size + 1, 2, none⟩ = some (.bool a2) ∧ w1.cell? ⟨w.heap.size + 1, 3, none⟩ = some (.bool a3) ∧ w1.cell? ⟨w.heap.size + 1, 4, none⟩ = some (.bool a4) ∧ w1.cell? ⟨w.heap.size + 1, 5, none⟩ = some (.bool a5) := by
  have d1 : Keeps (w.alloc (.cells (evCells k y c t m f b) 31)) w1 := by rw [h]; exact Keeps.alloc (Keeps.refl _) _
  refine ⟨by rw [h]; exact Keeps.alloc (Keeps.alloc (Keeps.refl w) _) _, ⟨d1.cell (p := ⟨w.heap.size, 0, none⟩) (by simp), d1.cell (p := ⟨w.heap.size, 1, none⟩) (by simp), d1.cell (p := ⟨w.heap.size, 2, none⟩) (by simp), d1.cell (p := ⟨w.heap.size, 3, none⟩) (by simp), d1.cell (p := ⟨w.heap.size, 4, none⟩) (by simp), d1.cell (p := ⟨w.heap.size, 5, none⟩) (by simp), d1.cell (p := ⟨w.heap.size, 6, none⟩) (by simp)⟩, ?_, ?_, ?_, ?_, ?_, ?_⟩ <;> rw [h] <;> simp
set_option maxHeartbeats 4000000 in
theorem evok_core (k y c t m f : Int) (b : Bool) (h0 h1 h2 h3 h4 h5 : Bool) (w : World) (hk1 : 1 ≤ k) (hk2 : k ≤ 11) (hk4 : (k == 4) = false) (HH : Hid (∀ w1, Calls Tryd.prog 25 #[.int .i64 k] w1 (hasPost h0 h1 h2 h3 h4 h5 w1))) :
    Calls Tryd.prog 11 #[evV k y c t m f b] w fun e w' => e = .returned (.bool (evF 1 1125899906842624 h0 h1 h2 h3 h4 h5 y c t m f b)) ∧ Keeps w w' := by
  have HF : Hid (evF 1 1125899906842624 h0 h1 h2 h3 h4 h5 y c t m f b = (fieldB h0 y 1 1000000 && fieldB h1 c 1 99 && fieldB h2 t 1 99 && !(h2 && decide (c = t)) && fieldB h3 m 1 1125899906842624 && fieldB h4 f 0 1125899906842624 && (h5 || !b))) := rfl
  generalize evF 1 1125899906842624 h0 h1 h2 h3 h4 h5 y c t m f b = R at *
  cases f0 : fieldB h0 y 1 1000000
  have HR : Hid (R = false) := by show _ = _; rw [HF.out]; simp [f0]
  have hA := trivial
  rotate_left
  cases f1 : fieldB h1 c 1 99
  have HR : Hid (R = false) := by show _ = _; rw [HF.out]; simp [f0, f1]
  have hA := trivial
  rotate_left
  cases f2 : fieldB h2 t 1 99
  have HR : Hid (R = false) := by show _ = _; rw [HF.out]; simp [f0, f1, f2]
  have hA := trivial
  rotate_left
  cases h2
  rotate_left
  by_cases hct : c = t
  subst hct
  have HR : Hid (R = false) := by show _ = _; rw [HF.out]; simp [f0, f1, f2]
  have hA := trivial
  rotate_left
  have hct2 : (c == t) = false := beq_eq_false_iff_ne.2 hct
  have hct3 : decide (c = t) = false := decide_eq_false hct
  clear hct
  all_goals (first
    | (have hz := hA; clear hz)
    | (cases f3 : fieldB h3 m 1 1125899906842624
       have HR : Hid (R = false) := by show _ = _; rw [HF.out]; first | (simp [f0, f1, f2, f3]; done) | simp [f0, f1, f2, f3, hct3]
       have hB := trivial
       rotate_left
       cases f4 : fieldB h4 f 0 1125899906842624
       have HR : Hid (R = false) := by show _ = _; rw [HF.out]; first | (simp [f0, f1, f2, f3, f4]; done) | simp [f0, f1, f2, f3, f4, hct3]
       have hB := trivial
       rotate_left
       cases h5
       have HR : Hid (R = !b) := by show _ = _; rw [HF.out]; first | (simp [f0, f1, f2, f3, f4]; done) | simp [f0, f1, f2, f3, f4, hct3]
       have hB := trivial
       rotate_left
       have HR : Hid (R = true) := by show _ = _; rw [HF.out]; first | (simp [f0, f1, f2, f3, f4]; done) | simp [f0, f1, f2, f3, f4, hct3]
       have hB := trivial))
  all_goals (first
    | (have hz := hA
       clear hz hA HF
       go_enter Tryd.func11, Tryd.ntmps11
       go_wp2_with fail
       refine (unhide HH _).mono ?_
       rintro e w1 ⟨rfl, hw1⟩
       obtain ⟨hk, ⟨c0, c1, c2, c3, c4, c5, c6⟩, e0, e1, e2, e3, e4, e5⟩ := evw1 hw1
       have HK := hide hk
       clear hk hw1 HH
       have g1 := gr_cell c1
       have g2 := gr_cell c2
       have g3 := gr_cell c3
       have i0 := gr_cell e0
       have i1 := gr_cell e1
       have i2 := gr_cell e2
       go_wp2_with fail
       refine region_gr (by kernel_rfl) (by kernel_rfl) ?_
       repeat (go_big_quiet_step (first | (go_at_call 26; exact gr_call (field_is _ _ _ _ _ (by assumption) _))))
       refine wpQuiet_nil ?_
       intro w2 hw2
       have hk2 := Keeps.of_gr hw2
       clear hw2 g1 g2 g3 i0 i1 i2
       go_wp2_with fail
       go_ret
       exact ⟨ret_ev (by rw [HR.out]), HK.out.trans hk2⟩)
    | (have hz := hB
       clear hz hB HF
       go_enter Tryd.func11, Tryd.ntmps11
       go_wp2_with fail
       refine (unhide HH _).mono ?_
       rintro e w1 ⟨rfl, hw1⟩
       obtain ⟨hk, ⟨c0, c1, c2, c3, c4, c5, c6⟩, e0, e1, e2, e3, e4, e5⟩ := evw1 hw1
       have HK := hide hk
       clear hk hw1 HH
       have g1 := gr_cell c1
       have g2 := gr_cell c2
       have g3 := gr_cell c3
       have i0 := gr_cell e0
       have i1 := gr_cell e1
       have i2 := gr_cell e2
       go_wp2_with fail
       refine region_gr (by kernel_rfl) (by kernel_rfl) ?_
       repeat (go_big_quiet_step (first | (go_at_call 26; exact gr_call (field_is _ _ _ _ _ (by assumption) _))))
       refine wpQuiet_nil ?_
       intro w2 hw2
       have hk2 := Keeps.of_gr hw2
       clear hw2 g1 g2 g3 i0 i1 i2
       have g4 := gr_cell (hk2.cell c4)
       have g5 := gr_cell (hk2.cell c5)
       have g6 := gr_cell (hk2.cell c6)
       have i3 := gr_cell (hk2.cell e3)
       have i4 := gr_cell (hk2.cell e4)
       have i5 := gr_cell (hk2.cell e5)
       replace HK := hide (HK.out.trans hk2)
       clear hk2 c0 c1 c2 c3 c4 c5 c6 e0 e1 e2 e3 e4 e5
       go_wp2_with fail
       refine region_gr (by kernel_rfl) (by kernel_rfl) ?_
       repeat (go_big_quiet_step (first | (go_at_call 26; exact gr_call (field_is _ _ _ _ _ (by assumption) _))))
       refine wpQuiet_nil ?_
       intro w3 hw3
       have hk2 := Keeps.of_gr hw3
       clear hw3
       go_wp2_with fail
       go_ret
       exact ⟨ret_ev (by rw [HR.out]), HK.out.trans hk2⟩))
set_option maxHeartbeats 4000000 in
theorem evok_four (y c t m f : Int) (b : Bool) (h0 h1 h2 h3 h4 h5 : Bool) (w : World) (HH : Hid (∀ w1, Calls Tryd.prog 25 #[.int .i64 4] w1 (hasPost h0 h1 h2 h3 h4 h5 w1))) :
    Calls Tryd.prog 11 #[evV 4 y c t m f b] w fun e w' => e = .returned (.bool (evF 0 1000000 h0 h1 h2 h3 h4 h5 y c t m f b)) ∧ Keeps w w' := by
  have HF : Hid (evF 0 1000000 h0 h1 h2 h3 h4 h5 y c t m f b = (fieldB h0 y 1 1000000 && fieldB h1 c 1 99 && fieldB h2 t 1 99 && !(h2 && decide (c = t)) && fieldB h3 m 0 1125899906842624 && fieldB h4 f 0 1000000 && (h5 || !b))) := rfl
  generalize evF 0 1000000 h0 h1 h2 h3 h4 h5 y c t m f b = R at *
  cases f0 : fieldB h0 y 1 1000000
  have HR : Hid (R = false) := by show _ = _; rw [HF.out]; simp [f0]
  have hA := trivial
  rotate_left
  cases f1 : fieldB h1 c 1 99
  have HR : Hid (R = false) := by show _ = _; rw [HF.out]; simp [f0, f1]
  have hA := trivial
  rotate_left
  cases f2 : fieldB h2 t 1 99
  have HR : Hid (R = false) := by show _ = _; rw [HF.out]; simp [f0, f1, f2]
  have hA := trivial
  rotate_left
  cases h2
  rotate_left
  by_cases hct : c = t
  subst hct
  have HR : Hid (R = false) := by show _ = _; rw [HF.out]; simp [f0, f1, f2]
  have hA := trivial
  rotate_left
  have hct2 : (c == t) = false := beq_eq_false_iff_ne.2 hct
  have hct3 : decide (c = t) = false := decide_eq_false hct
  clear hct
  all_goals (first
    | (have hz := hA; clear hz)
    | (cases f3 : fieldB h3 m 0 1125899906842624
       have HR : Hid (R = false) := by show _ = _; rw [HF.out]; first | (simp [f0, f1, f2, f3]; done) | simp [f0, f1, f2, f3, hct3]
       have hB := trivial
       rotate_left
       cases f4 : fieldB h4 f 0 1000000
       have HR : Hid (R = false) := by show _ = _; rw [HF.out]; first | (simp [f0, f1, f2, f3, f4]; done) | simp [f0, f1, f2, f3, f4, hct3]
       have hB := trivial
       rotate_left
       cases h5
       have HR : Hid (R = !b) := by show _ = _; rw [HF.out]; first | (simp [f0, f1, f2, f3, f4]; done) | simp [f0, f1, f2, f3, f4, hct3]
       have hB := trivial
       rotate_left
       have HR : Hid (R = true) := by show _ = _; rw [HF.out]; first | (simp [f0, f1, f2, f3, f4]; done) | simp [f0, f1, f2, f3, f4, hct3]
       have hB := trivial))
  all_goals (first
    | (have hz := hA
       clear hz hA HF
       go_enter Tryd.func11, Tryd.ntmps11
       go_wp2_with fail
       refine (unhide HH _).mono ?_
       rintro e w1 ⟨rfl, hw1⟩
       obtain ⟨hk, ⟨c0, c1, c2, c3, c4, c5, c6⟩, e0, e1, e2, e3, e4, e5⟩ := evw1 hw1
       have HK := hide hk
       clear hk hw1 HH
       have g1 := gr_cell c1
       have g2 := gr_cell c2
       have g3 := gr_cell c3
       have i0 := gr_cell e0
       have i1 := gr_cell e1
       have i2 := gr_cell e2
       go_wp2_with fail
       refine region_gr (by kernel_rfl) (by kernel_rfl) ?_
       repeat (go_big_quiet_step (first | (go_at_call 26; exact gr_call (field_is _ _ _ _ _ (by assumption) _))))
       refine wpQuiet_nil ?_
       intro w2 hw2
       have hk2 := Keeps.of_gr hw2
       clear hw2 g1 g2 g3 i0 i1 i2
       go_wp2_with fail
       go_ret
       exact ⟨ret_ev (by rw [HR.out]), HK.out.trans hk2⟩)
    | (have hz := hB
       clear hz hB HF
       go_enter Tryd.func11, Tryd.ntmps11
       go_wp2_with fail
       refine (unhide HH _).mono ?_
       rintro e w1 ⟨rfl, hw1⟩
       obtain ⟨hk, ⟨c0, c1, c2, c3, c4, c5, c6⟩, e0, e1, e2, e3, e4, e5⟩ := evw1 hw1
       have HK := hide hk
       clear hk hw1 HH
       have g1 := gr_cell c1
       have g2 := gr_cell c2
       have g3 := gr_cell c3
       have i0 := gr_cell e0
       have i1 := gr_cell e1
       have i2 := gr_cell e2
       go_wp2_with fail
       refine region_gr (by kernel_rfl) (by kernel_rfl) ?_
       repeat (go_big_quiet_step (first | (go_at_call 26; exact gr_call (field_is _ _ _ _ _ (by assumption) _))))
       refine wpQuiet_nil ?_
       intro w2 hw2
       have hk2 := Keeps.of_gr hw2
       clear hw2 g1 g2 g3 i0 i1 i2
       have g4 := gr_cell (hk2.cell c4)
       have g5 := gr_cell (hk2.cell c5)
       have g6 := gr_cell (hk2.cell c6)
       have i3 := gr_cell (hk2.cell e3)
       have i4 := gr_cell (hk2.cell e4)
       have i5 := gr_cell (hk2.cell e5)
       replace HK := hide (HK.out.trans hk2)
       clear hk2 c0 c1 c2 c3 c4 c5 c6 e0 e1 e2 e3 e4 e5
       go_wp2_with fail
       refine region_gr (by kernel_rfl) (by kernel_rfl) ?_
       repeat (go_big_quiet_step (first | (go_at_call 26; exact gr_call (field_is _ _ _ _ _ (by assumption) _))))
       refine wpQuiet_nil ?_
       intro w3 hw3
       have hk2 := Keeps.of_gr hw3
       clear hw3
       go_wp2_with fail
       go_ret
       exact ⟨ret_ev (by rw [HR.out]), HK.out.trans hk2⟩))
theorem evok_spec (k y c t m f : Int) (b : Bool) (w : World) :
    Calls Tryd.prog 11 #[evV k y c t m f b] w fun e w' => e = .returned (.bool (evB k y c t m f b)) ∧ Keeps w w' := by
  by_cases h1 : k < 1
  · have H : Hid (evB k y c t m f b = false) := by show _ = _; unfold evB; repeat rw [if_neg (by omega)]
    go_enter Tryd.func11, Tryd.ntmps11
    go_wp2_with fail
    go_ret
    exact ⟨ret_ev (by rw [H.out]), Keeps.alloc (Keeps.refl _) _⟩
  · by_cases h2 : 11 < k
    · have H : Hid (evB k y c t m f b = false) := by show _ = _; unfold evB; repeat rw [if_neg (by omega)]
      go_enter Tryd.func11, Tryd.ntmps11
      go_wp2_with fail
      go_ret
      exact ⟨ret_ev (by rw [H.out]), Keeps.alloc (Keeps.refl _) _⟩
    · have hk : k = 1 ∨ k = 2 ∨ k = 3 ∨ k = 4 ∨ k = 5 ∨ k = 6 ∨ k = 7 ∨ k = 8 ∨ k = 9 ∨ k = 10 ∨ k = 11 := by omega
      rcases hk with rfl | rfl | rfl | rfl | rfl | rfl | rfl | rfl | rfl | rfl | rfl
      · refine (evok_core 1 y c t m f b false false false true false false w (by decide) (by decide) (by decide) (hide has_1)).mono fun e w' ⟨he, hk⟩ => ⟨?_, hk⟩
        rw [he]
        exact ret_ev (by simp [evF, evB])
      · refine (evok_core 2 y c t m f b false true false true true false w (by decide) (by decide) (by decide) (hide has_2)).mono fun e w' ⟨he, hk⟩ => ⟨?_, hk⟩
        rw [he]
        exact ret_ev (by simp [evF, evB])
      · refine (evok_core 3 y c t m f b false true false false true false w (by decide) (by decide) (by decide) (hide has_3)).mono fun e w' ⟨he, hk⟩ => ⟨?_, hk⟩
        rw [he]
        exact ret_ev (by simp [evF, evB])
      · refine (evok_four y c t m f b false true false true true false w (hide has_4)).mono fun e w' ⟨he, hk⟩ => ⟨?_, hk⟩
        rw [he]
        exact ret_ev (by simp [evF, evB])
      · refine (evok_core 5 y c t m f b true true true true false true w (by decide) (by decide) (by decide) (hide has_5)).mono fun e w' ⟨he, hk⟩ => ⟨?_, hk⟩
        rw [he]
        exact ret_ev (by simp [evF, evB])
      · refine (evok_core 6 y c t m f b true false false false false false w (by decide) (by decide) (by decide) (hide has_6)).mono fun e w' ⟨he, hk⟩ => ⟨?_, hk⟩
        rw [he]
        exact ret_ev (by simp [evF, evB])
      · refine (evok_core 7 y c t m f b true false false false false false w (by decide) (by decide) (by decide) (hide has_7)).mono fun e w' ⟨he, hk⟩ => ⟨?_, hk⟩
        rw [he]
        exact ret_ev (by simp [evF, evB])
      · refine (evok_core 8 y c t m f b false false false false false false w (by decide) (by decide) (by decide) (hide has_8)).mono fun e w' ⟨he, hk⟩ => ⟨?_, hk⟩
        rw [he]
        exact ret_ev (by simp [evF, evB])
      · refine (evok_core 9 y c t m f b true true true true true false w (by decide) (by decide) (by decide) (hide has_9)).mono fun e w' ⟨he, hk⟩ => ⟨?_, hk⟩
        rw [he]
        exact ret_ev (by simp [evF, evB])
      · refine (evok_core 10 y c t m f b true false false false false false w (by decide) (by decide) (by decide) (hide has_10)).mono fun e w' ⟨he, hk⟩ => ⟨?_, hk⟩
        rw [he]
        exact ret_ev (by simp [evF, evB])
      · refine (evok_core 11 y c t m f b true false false false false false w (by decide) (by decide) (by decide) (hide has_11)).mono fun e w' ⟨he, hk⟩ => ⟨?_, hk⟩
        rw [he]
        exact ret_ev (by simp [evF, evB])
end Go.Proofs.YtjihinkjcplgcaaDoor
