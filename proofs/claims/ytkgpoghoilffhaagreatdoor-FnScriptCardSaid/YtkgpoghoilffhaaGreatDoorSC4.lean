/- Texts of the verifier, joined: EvS, EvI. -/
import Derived.Test.YtkgpoghoilffhaaGreatDoorSC3
import Derived.RegionTactic
import Derived.Laws.StructEq
namespace Go.Proofs.YtkgpoghoilffhaaGreatDoor
open Go.RowKit
set_option linter.unusedVariables false
set_option maxRecDepth 10000

theorem ret_ev {a b : Bool} (h : a = b) : Ending.returned (.bool a) = .returned (.bool b) := by rw [h]
theorem field_k (h : Bool) (n lo hi : Int) (w : World) : Calls Tryz.prog 79 #[.bool h, .int .i64 n, .int .i64 lo, .int .i64 hi] w fun e w' => e = .returned (.bool (fieldB h n lo hi)) ∧ Keeps w w' := by
  cases h
  · have H : Hid (fieldB false n lo hi = decide (n = 0)) := rfl
    go_enter Tryz.func79, Tryz.ntmps79
    go_wp2
    go_ret
    exact ⟨ret_ev (by rw [H.out]; rfl), Keeps.refl _⟩
  · have H : Hid (fieldB true n lo hi = (decide (lo ≤ n) && decide (n ≤ hi))) := rfl
    by_cases h1 : lo ≤ n
    · have H2 : Hid (fieldB true n lo hi = decide (n ≤ hi)) := by show _ = _; rw [H.out, decide_eq_true h1, Bool.true_and]
      go_enter Tryz.func79, Tryz.ntmps79
      go_wp2
      go_ret
      exact ⟨ret_ev (by rw [H2.out]), Keeps.refl _⟩
    · have H2 : Hid (fieldB true n lo hi = false) := by show _ = _; rw [H.out, decide_eq_false h1, Bool.false_and]
      go_enter Tryz.func79, Tryz.ntmps79
      go_wp2
      go_ret
      exact ⟨ret_ev (by rw [H2.out]), Keeps.refl _⟩
theorem field_is (h : Bool) (n lo hi : Int) (r : Bool) (hr : fieldB h n lo hi = r) (w : World) : Calls Tryz.prog 79 #[.bool h, .int .i64 n, .int .i64 lo, .int .i64 hi] w fun e w' => e = .returned (.bool r) ∧ Keeps w w' := by
  rw [← hr]; exact field_k h n lo hi w
/-- What the model's EventOk tests, at what its table says of the kind. -/
def evF (lo hi : Int) (h0 h1 h2 h3 h4 h5 : Bool) (y c t m f : Int) (b : Bool) : Bool :=
  fieldB h0 y 1 1000000 && fieldB h1 c 1 99 && fieldB h2 t 1 99 && !(h2 && decide (c = t)) && fieldB h3 m lo 1125899906842624 && fieldB h4 f 0 hi && (h5 || !b)
abbrev hasPost (h0 h1 h2 h3 h4 h5 : Bool) (w1 : World) (e : Ending) (w' : World) : Prop := e = .returned (.slice (some ⟨w1.heap.size, 0, none⟩) 6 6) ∧ w' = w1.alloc (.cells #[.bool h0, .bool h1, .bool h2, .bool h3, .bool h4, .bool h5] 4)

theorem has_1 (w : World) : Calls Tryz.prog 63 #[.int .i64 1] w (hasPost false false false true false false w) := by
  go_enter Tryz.func63, Tryz.ntmps63
  go_wp2
  go_ret
  exact ⟨rfl, rfl⟩
theorem has_2 (w : World) : Calls Tryz.prog 63 #[.int .i64 2] w (hasPost false true false true true false w) := by
  go_enter Tryz.func63, Tryz.ntmps63
  go_wp2
  go_ret
  exact ⟨rfl, rfl⟩
theorem has_4 (w : World) : Calls Tryz.prog 63 #[.int .i64 4] w (hasPost false true false true true false w) := by
  go_enter Tryz.func63, Tryz.ntmps63
  go_wp2
  go_ret
  exact ⟨rfl, rfl⟩
theorem has_3 (w : World) : Calls Tryz.prog 63 #[.int .i64 3] w (hasPost false true false false true false w) := by
  go_enter Tryz.func63, Tryz.ntmps63
  go_wp2
  go_ret
  exact ⟨rfl, rfl⟩
theorem has_5 (w : World) : Calls Tryz.prog 63 #[.int .i64 5] w (hasPost true true true true false true w) := by
  go_enter Tryz.func63, Tryz.ntmps63
  go_wp2
  go_ret
  exact ⟨rfl, rfl⟩
theorem has_9 (w : World) : Calls Tryz.prog 63 #[.int .i64 9] w (hasPost true true true true true false w) := by
  go_enter Tryz.func63, Tryz.ntmps63
  go_wp2
  go_ret
  exact ⟨rfl, rfl⟩
theorem has_8 (w : World) : Calls Tryz.prog 63 #[.int .i64 8] w (hasPost false false false false false false w) := by
  go_enter Tryz.func63, Tryz.ntmps63
  go_wp2
  go_ret
  exact ⟨rfl, rfl⟩
theorem has_6 (w : World) : Calls Tryz.prog 63 #[.int .i64 6] w (hasPost true false false false false false w) := by
  go_enter Tryz.func63, Tryz.ntmps63
  go_wp2
  go_ret
  exact ⟨rfl, rfl⟩
theorem has_7 (w : World) : Calls Tryz.prog 63 #[.int .i64 7] w (hasPost true false false false false false w) := by
  go_enter Tryz.func63, Tryz.ntmps63
  go_wp2
  go_ret
  exact ⟨rfl, rfl⟩
theorem has_10 (w : World) : Calls Tryz.prog 63 #[.int .i64 10] w (hasPost true false false false false false w) := by
  go_enter Tryz.func63, Tryz.ntmps63
  go_wp2
  go_ret
  exact ⟨rfl, rfl⟩
theorem has_11 (w : World) : Calls Tryz.prog 63 #[.int .i64 11] w (hasPost true false false false false false w) := by
  go_enter Tryz.func63, Tryz.ntmps63
  go_wp2
  go_ret
  exact ⟨rfl, rfl⟩
theorem evw1 {w w1 : World} {k y c t m f : Int} {b a0 a1 a2 a3 a4 a5 : Bool} (h : w1 = (w.alloc (.cells (evCells k y c t m f b) 28)).alloc (.cells #[.bool a0, .bool a1, .bool a2, .bool a3, .bool a4, .bool a5] 4)) :
    Keeps w w1 ∧ (w1.cell? ⟨w.heap.size, 0, none⟩ = some (.int .i64 k) ∧ w1.cell? ⟨w.heap.size, 1, none⟩ = some (.int .i64 y) ∧ w1.cell? ⟨w.heap.size, 2, none⟩ = some (.int .i64 c) ∧ w1.cell? ⟨w.heap.size, 3, none⟩ = some (.int .i64 t) ∧ w1.cell? ⟨w.heap.size, 4, none⟩ = some (.int .i64 m) ∧ w1.cell? ⟨w.heap.size, 5, none⟩ = some (.int .i64 f) ∧ w1.cell? ⟨w.heap.size, 6, none⟩ = some (.bool b)) ∧ w1.cell? ⟨w.heap.size + 1, 0, none⟩ = some (.bool a0) ∧ w1.cell? ⟨w.heap.size + 1, 1, none⟩ = some (.bool a1) ∧ w1.cell? ⟨w.heap.size + 1, 2, none⟩ = some (.bool a2) ∧ w1.cell? ⟨w.heap.size + 1, 3, none⟩ = some (.bool a3) ∧ w1.cell? ⟨w.heap.size + 1, 4, none⟩ = some (.bool a4) ∧ w1.cell? ⟨w.heap.size + 1, 5, none⟩ = some (.bool a5) := by
  have d1 : Keeps (w.alloc (.cells (evCells k y c t m f b) 28)) w1 := by rw [h]; exact Keeps.alloc (Keeps.refl _) _
  refine ⟨by rw [h]; exact Keeps.alloc (Keeps.alloc (Keeps.refl w) _) _, ⟨d1.cell (p := ⟨w.heap.size, 0, none⟩) (by simp), d1.cell (p := ⟨w.heap.size, 1, none⟩) (by simp), d1.cell (p := ⟨w.heap.size, 2, none⟩) (by simp), d1.cell (p := ⟨w.heap.size, 3, none⟩) (by simp), d1.cell (p := ⟨w.heap.size, 4, none⟩) (by simp), d1.cell (p := ⟨w.heap.size, 5, none⟩) (by simp), d1.cell (p := ⟨w.heap.size, 6, none⟩) (by simp)⟩, ?_, ?_, ?_, ?_, ?_, ?_⟩ <;> rw [h] <;> simp
set_option maxHeartbeats 4000000 in
theorem evok_core (k y c t m f : Int) (b : Bool) (h0 h1 h2 h3 h4 h5 : Bool) (w : World) (hk1 : 1 ≤ k) (hk2 : k ≤ 11) (hk4 : (k == 4) = false) (HH : Hid (∀ w1, Calls Tryz.prog 63 #[.int .i64 k] w1 (hasPost h0 h1 h2 h3 h4 h5 w1))) :
    Calls Tryz.prog 54 #[evV k y c t m f b] w fun e w' => e = .returned (.bool (evF 1 1125899906842624 h0 h1 h2 h3 h4 h5 y c t m f b)) ∧ Keeps w w' := by
  have HF : Hid (evF 1 1125899906842624 h0 h1 h2 h3 h4 h5 y c t m f b = (fieldB h0 y 1 1000000 && fieldB h1 c 1 99 && fieldB h2 t 1 99 && !(h2 && decide (c = t)) && fieldB h3 m 1 1125899906842624 && fieldB h4 f 0 1125899906842624 && (h5 || !b))) := rfl
  generalize evF 1 1125899906842624 h0 h1 h2 h3 h4 h5 y c t m f b = R at *
  cases f0 : fieldB h0 y 1 1000000
  have HR : Hid (R = false) := by show _ = _; rw [HF.out]; simp [f0]
  have hA := trivial
  rotate_left
  cases f1 : fieldB h1 c 1 99
  have HR : Hid (R = false) := by show _ = _; rw [HF.out]; simp [f0, f1]
  have hA := trivial
  rotate_left
  cases f2 : fieldB h2 t 1 99
  have HR : Hid (R = false) := by show _ = _; rw [HF.out]; simp [f0, f1, f2]
  have hA := trivial
  rotate_left
  cases h2
  rotate_left
  by_cases hct : c = t
  subst hct
  have HR : Hid (R = false) := by show _ = _; rw [HF.out]; simp [f0, f1, f2]
  have hA := trivial
  rotate_left
  have hct2 : (c == t) = false := beq_eq_false_iff_ne.2 hct
  have hct3 : decide (c = t) = false := decide_eq_false hct
  clear hct
  all_goals (first
    | (have hz := hA; clear hz)
    | (cases f3 : fieldB h3 m 1 1125899906842624
       have HR : Hid (R = false) := by show _ = _; rw [HF.out]; first | (simp [f0, f1, f2, f3]; done) | simp [f0, f1, f2, f3, hct3]
       have hB := trivial
       rotate_left
       cases f4 : fieldB h4 f 0 1125899906842624
       have HR : Hid (R = false) := by show _ = _; rw [HF.out]; first | (simp [f0, f1, f2, f3, f4]; done) | simp [f0, f1, f2, f3, f4, hct3]
       have hB := trivial
       rotate_left
       cases h5
       have HR : Hid (R = !b) := by show _ = _; rw [HF.out]; first | (simp [f0, f1, f2, f3, f4]; done) | simp [f0, f1, f2, f3, f4, hct3]
       have hB := trivial
       rotate_left
       have HR : Hid (R = true) := by show _ = _; rw [HF.out]; first | (simp [f0, f1, f2, f3, f4]; done) | simp [f0, f1, f2, f3, f4, hct3]
       have hB := trivial))
  all_goals (first
    | (have hz := hA
       clear hz hA HF
       go_enter Tryz.func54, Tryz.ntmps54
       go_wp2_with fail
       refine (unhide HH _).mono ?_
       rintro e w1 ⟨rfl, hw1⟩
       obtain ⟨hk, ⟨c0, c1, c2, c3, c4, c5, c6⟩, e0, e1, e2, e3, e4, e5⟩ := evw1 hw1
       have HK := hide hk
       clear hk hw1 HH
       have g1 := gr_cell c1
       have g2 := gr_cell c2
       have g3 := gr_cell c3
       have i0 := gr_cell e0
       have i1 := gr_cell e1
       have i2 := gr_cell e2
       go_wp2_with fail
       refine region_gr (by kernel_rfl) (by kernel_rfl) ?_
       repeat (go_big_quiet_step (first | (go_at_call 79; exact gr_call (field_is _ _ _ _ _ (by assumption) _))))
       refine wpQuiet_nil ?_
       intro w2 hw2
       have hk2 := Keeps.of_gr hw2
       clear hw2 g1 g2 g3 i0 i1 i2
       go_wp2_with fail
       go_ret
       exact ⟨ret_ev (by rw [HR.out]), HK.out.trans hk2⟩)
    | (have hz := hB
       clear hz hB HF
       go_enter Tryz.func54, Tryz.ntmps54
       go_wp2_with fail
       refine (unhide HH _).mono ?_
       rintro e w1 ⟨rfl, hw1⟩
       obtain ⟨hk, ⟨c0, c1, c2, c3, c4, c5, c6⟩, e0, e1, e2, e3, e4, e5⟩ := evw1 hw1
       have HK := hide hk
       clear hk hw1 HH
       have g1 := gr_cell c1
       have g2 := gr_cell c2
       have g3 := gr_cell c3
       have i0 := gr_cell e0
       have i1 := gr_cell e1
       have i2 := gr_cell e2
       go_wp2_with fail
       refine region_gr (by kernel_rfl) (by kernel_rfl) ?_
       repeat (go_big_quiet_step (first | (go_at_call 79; exact gr_call (field_is _ _ _ _ _ (by assumption) _))))
       refine wpQuiet_nil ?_
       intro w2 hw2
       have hk2 := Keeps.of_gr hw2
       clear hw2 g1 g2 g3 i0 i1 i2
       have g4 := gr_cell (hk2.cell c4)
       have g5 := gr_cell (hk2.cell c5)
       have g6 := gr_cell (hk2.cell c6)
       have i3 := gr_cell (hk2.cell e3)
       have i4 := gr_cell (hk2.cell e4)
       have i5 := gr_cell (hk2.cell e5)
       replace HK := hide (HK.out.trans hk2)
       clear hk2 c0 c1 c2 c3 c4 c5 c6 e0 e1 e2 e3 e4 e5
       go_wp2_with fail
       refine region_gr (by kernel_rfl) (by kernel_rfl) ?_
       repeat (go_big_quiet_step (first | (go_at_call 79; exact gr_call (field_is _ _ _ _ _ (by assumption) _))))
       refine wpQuiet_nil ?_
       intro w3 hw3
       have hk2 := Keeps.of_gr hw3
       clear hw3
       go_wp2_with fail
       go_ret
       exact ⟨ret_ev (by rw [HR.out]), HK.out.trans hk2⟩))
set_option maxHeartbeats 4000000 in
theorem evok_four (y c t m f : Int) (b : Bool) (h0 h1 h2 h3 h4 h5 : Bool) (w : World) (HH : Hid (∀ w1, Calls Tryz.prog 63 #[.int .i64 4] w1 (hasPost h0 h1 h2 h3 h4 h5 w1))) :
    Calls Tryz.prog 54 #[evV 4 y c t m f b] w fun e w' => e = .returned (.bool (evF 0 1000000 h0 h1 h2 h3 h4 h5 y c t m f b)) ∧ Keeps w w' := by
  have HF : Hid (evF 0 1000000 h0 h1 h2 h3 h4 h5 y c t m f b = (fieldB h0 y 1 1000000 && fieldB h1 c 1 99 && fieldB h2 t 1 99 && !(h2 && decide (c = t)) && fieldB h3 m 0 1125899906842624 && fieldB h4 f 0 1000000 && (h5 || !b))) := rfl
  generalize evF 0 1000000 h0 h1 h2 h3 h4 h5 y c t m f b = R at *
  cases f0 : fieldB h0 y 1 1000000
  have HR : Hid (R = false) := by show _ = _; rw [HF.out]; simp [f0]
  have hA := trivial
  rotate_left
  cases f1 : fieldB h1 c 1 99
  have HR : Hid (R = false) := by show _ = _; rw [HF.out]; simp [f0, f1]
  have hA := trivial
  rotate_left
  cases f2 : fieldB h2 t 1 99
  have HR : Hid (R = false) := by show _ = _; rw [HF.out]; simp [f0, f1, f2]
  have hA := trivial
  rotate_left
  cases h2
  rotate_left
  by_cases hct : c = t
  subst hct
  have HR : Hid (R = false) := by show _ = _; rw [HF.out]; simp [f0, f1, f2]
  have hA := trivial
  rotate_left
  have hct2 : (c == t) = false := beq_eq_false_iff_ne.2 hct
  have hct3 : decide (c = t) = false := decide_eq_false hct
  clear hct
  all_goals (first
    | (have hz := hA; clear hz)
    | (cases f3 : fieldB h3 m 0 1125899906842624
       have HR : Hid (R = false) := by show _ = _; rw [HF.out]; first | (simp [f0, f1, f2, f3]; done) | simp [f0, f1, f2, f3, hct3]
       have hB := trivial
       rotate_left
       cases f4 : fieldB h4 f 0 1000000
       have HR : Hid (R = false) := by show _ = _; rw [HF.out]; first | (simp [f0, f1, f2, f3, f4]; done) | simp [f0, f1, f2, f3, f4, hct3]
       have hB := trivial
       rotate_left
       cases h5
       have HR : Hid (R = !b) := by show _ = _; rw [HF.out]; first | (simp [f0, f1, f2, f3, f4]; done) | simp [f0, f1, f2, f3, f4, hct3]
       have hB := trivial
       rotate_left
       have HR : Hid (R = true) := by show _ = _; rw [HF.out]; first | (simp [f0, f1, f2, f3, f4]; done) | simp [f0, f1, f2, f3, f4, hct3]
       have hB := trivial))
  all_goals (first
    | (have hz := hA
       clear hz hA HF
       go_enter Tryz.func54, Tryz.ntmps54
       go_wp2_with fail
       refine (unhide HH _).mono ?_
       rintro e w1 ⟨rfl, hw1⟩
       obtain ⟨hk, ⟨c0, c1, c2, c3, c4, c5, c6⟩, e0, e1, e2, e3, e4, e5⟩ := evw1 hw1
       have HK := hide hk
       clear hk hw1 HH
       have g1 := gr_cell c1
       have g2 := gr_cell c2
       have g3 := gr_cell c3
       have i0 := gr_cell e0
       have i1 := gr_cell e1
       have i2 := gr_cell e2
       go_wp2_with fail
       refine region_gr (by kernel_rfl) (by kernel_rfl) ?_
       repeat (go_big_quiet_step (first | (go_at_call 79; exact gr_call (field_is _ _ _ _ _ (by assumption) _))))
       refine wpQuiet_nil ?_
       intro w2 hw2
       have hk2 := Keeps.of_gr hw2
       clear hw2 g1 g2 g3 i0 i1 i2
       go_wp2_with fail
       go_ret
       exact ⟨ret_ev (by rw [HR.out]), HK.out.trans hk2⟩)
    | (have hz := hB
       clear hz hB HF
       go_enter Tryz.func54, Tryz.ntmps54
       go_wp2_with fail
       refine (unhide HH _).mono ?_
       rintro e w1 ⟨rfl, hw1⟩
       obtain ⟨hk, ⟨c0, c1, c2, c3, c4, c5, c6⟩, e0, e1, e2, e3, e4, e5⟩ := evw1 hw1
       have HK := hide hk
       clear hk hw1 HH
       have g1 := gr_cell c1
       have g2 := gr_cell c2
       have g3 := gr_cell c3
       have i0 := gr_cell e0
       have i1 := gr_cell e1
       have i2 := gr_cell e2
       go_wp2_with fail
       refine region_gr (by kernel_rfl) (by kernel_rfl) ?_
       repeat (go_big_quiet_step (first | (go_at_call 79; exact gr_call (field_is _ _ _ _ _ (by assumption) _))))
       refine wpQuiet_nil ?_
       intro w2 hw2
       have hk2 := Keeps.of_gr hw2
       clear hw2 g1 g2 g3 i0 i1 i2
       have g4 := gr_cell (hk2.cell c4)
       have g5 := gr_cell (hk2.cell c5)
       have g6 := gr_cell (hk2.cell c6)
       have i3 := gr_cell (hk2.cell e3)
       have i4 := gr_cell (hk2.cell e4)
       have i5 := gr_cell (hk2.cell e5)
       replace HK := hide (HK.out.trans hk2)
       clear hk2 c0 c1 c2 c3 c4 c5 c6 e0 e1 e2 e3 e4 e5
       go_wp2_with fail
       refine region_gr (by kernel_rfl) (by kernel_rfl) ?_
       repeat (go_big_quiet_step (first | (go_at_call 79; exact gr_call (field_is _ _ _ _ _ (by assumption) _))))
       refine wpQuiet_nil ?_
       intro w3 hw3
       have hk2 := Keeps.of_gr hw3
       clear hw3
       go_wp2_with fail
       go_ret
       exact ⟨ret_ev (by rw [HR.out]), HK.out.trans hk2⟩))
theorem evok_spec (k y c t m f : Int) (b : Bool) (w : World) :
    Calls Tryz.prog 54 #[evV k y c t m f b] w fun e w' => e = .returned (.bool (evB k y c t m f b)) ∧ Keeps w w' := by
  by_cases h1 : k < 1
  · have H : Hid (evB k y c t m f b = false) := by show _ = _; unfold evB; repeat rw [if_neg (by omega)]
    go_enter Tryz.func54, Tryz.ntmps54
    go_wp2_with fail
    go_ret
    exact ⟨ret_ev (by rw [H.out]), Keeps.alloc (Keeps.refl _) _⟩
  · by_cases h2 : 11 < k
    · have H : Hid (evB k y c t m f b = false) := by show _ = _; unfold evB; repeat rw [if_neg (by omega)]
      go_enter Tryz.func54, Tryz.ntmps54
      go_wp2_with fail
      go_ret
      exact ⟨ret_ev (by rw [H.out]), Keeps.alloc (Keeps.refl _) _⟩
    · have hk : k = 1 ∨ k = 2 ∨ k = 3 ∨ k = 4 ∨ k = 5 ∨ k = 6 ∨ k = 7 ∨ k = 8 ∨ k = 9 ∨ k = 10 ∨ k = 11 := by omega
      rcases hk with rfl | rfl | rfl | rfl | rfl | rfl | rfl | rfl | rfl | rfl | rfl
      · refine (evok_core 1 y c t m f b false false false true false false w (by decide) (by decide) (by decide) (hide has_1)).mono fun e w' ⟨he, hk⟩ => ⟨?_, hk⟩
        rw [he]
        exact ret_ev (by simp [evF, evB])
      · refine (evok_core 2 y c t m f b false true false true true false w (by decide) (by decide) (by decide) (hide has_2)).mono fun e w' ⟨he, hk⟩ => ⟨?_, hk⟩
        rw [he]
        exact ret_ev (by simp [evF, evB])
      · refine (evok_core 3 y c t m f b false true false false true false w (by decide) (by decide) (by decide) (hide has_3)).mono fun e w' ⟨he, hk⟩ => ⟨?_, hk⟩
        rw [he]
        exact ret_ev (by simp [evF, evB])
      · refine (evok_four y c t m f b false true false true true false w (hide has_4)).mono fun e w' ⟨he, hk⟩ => ⟨?_, hk⟩
        rw [he]
        exact ret_ev (by simp [evF, evB])
      · refine (evok_core 5 y c t m f b true true true true false true w (by decide) (by decide) (by decide) (hide has_5)).mono fun e w' ⟨he, hk⟩ => ⟨?_, hk⟩
        rw [he]
        exact ret_ev (by simp [evF, evB])
      · refine (evok_core 6 y c t m f b true false false false false false w (by decide) (by decide) (by decide) (hide has_6)).mono fun e w' ⟨he, hk⟩ => ⟨?_, hk⟩
        rw [he]
        exact ret_ev (by simp [evF, evB])
      · refine (evok_core 7 y c t m f b true false false false false false w (by decide) (by decide) (by decide) (hide has_7)).mono fun e w' ⟨he, hk⟩ => ⟨?_, hk⟩
        rw [he]
        exact ret_ev (by simp [evF, evB])
      · refine (evok_core 8 y c t m f b false false false false false false w (by decide) (by decide) (by decide) (hide has_8)).mono fun e w' ⟨he, hk⟩ => ⟨?_, hk⟩
        rw [he]
        exact ret_ev (by simp [evF, evB])
      · refine (evok_core 9 y c t m f b true true true true true false w (by decide) (by decide) (by decide) (hide has_9)).mono fun e w' ⟨he, hk⟩ => ⟨?_, hk⟩
        rw [he]
        exact ret_ev (by simp [evF, evB])
      · refine (evok_core 10 y c t m f b true false false false false false w (by decide) (by decide) (by decide) (hide has_10)).mono fun e w' ⟨he, hk⟩ => ⟨?_, hk⟩
        rw [he]
        exact ret_ev (by simp [evF, evB])
      · refine (evok_core 11 y c t m f b true false false false false false w (by decide) (by decide) (by decide) (hide has_11)).mono fun e w' ⟨he, hk⟩ => ⟨?_, hk⟩
        rw [he]
        exact ret_ev (by simp [evF, evB])
end Go.Proofs.YtkgpoghoilffhaaGreatDoor
namespace Go.Proofs.YtkgpoghoilffhaaGreatDoor
open Go.RowKit
set_option linter.unusedVariables false
set_option maxRecDepth 10000
def chansB (a b : Int) : Bool := fieldB true a 1 99 && fieldB true b 1 99 && !decide (a = b)
/-- Are two events the same? -/
def evEq (k y c t m f : Int) (b : Bool) (k' y' c' t' m' f' : Int) (b' : Bool) : Bool := decide (k = k') && decide (y = y') && decide (c = c') && decide (t = t') && decide (m = m') && decide (f = f') && decide (b = b')
theorem infoEvent : Tryz.prog.underlying 28 = some (.struct (Tryz.prog.fieldsOf 28)) := by kernel_rfl
set_option maxHeartbeats 2000000 in
theorem ev_eql (k y c t m f : Int) (b : Bool) (k' y' c' t' m' f' : Int) (b' : Bool) (w : World) :
    (binOp .eql 28 (evV k y c t m f b) (evV k' y' c' t' m' f' b')).run Tryz.prog w = .ok (.bool (evEq k y c t m f b k' y' c' t' m' f' b')) w := by
  have hs : Tryz.prog.stoodInHeld 28 = false := by kernel_rfl
  have hf : (Tryz.prog.fieldsOf 28).toList.map (fun f => (f.name, f.type, f.offset)) = [("Kind", 3, 0), ("Key", 3, 1), ("Ch", 3, 2), ("To", 3, 3), ("Amt", 3, 4), ("Fee", 3, 5), ("Yes", 4, 6)] := by kernel_rfl
  rw [run_eql_struct, run_equalIn_agg _ _ _ _ _ infoEvent hs]
  generalize (Tryz.prog.fieldsOf 28).toList = fs at hf
  simp only [List.map_eq_cons_iff, List.map_eq_nil_iff, Prod.mk.injEq] at hf
  obtain ⟨f0, r0, rfl, ⟨n0, t0, o0⟩, f1, r1, rfl, ⟨n1, t1, o1⟩, f2, r2, rfl, ⟨n2, t2, o2⟩, f3, r3, rfl, ⟨n3, t3, o3⟩, f4, r4, rfl, ⟨n4, t4, o4⟩, f5, r5, rfl, ⟨n5, t5, o5⟩, f6, r6, rfl, ⟨n6, t6, o6⟩, rfl⟩ := hf
  have hi : Tryz.prog.underlying 3 = some (.int .i64) := Tryz.underlying3
  have hbo : Tryz.prog.underlying 4 = some .bool := Tryz.underlying4
  by_cases e0 : k = k'
  case neg => simp [Op.eqFields, go_sem, n0, t0, o0, n1, t1, o1, n2, t2, o2, n3, t3, o3, n4, t4, o4, n5, t5, o5, n6, t6, o6, evEq, hi, hbo, e0]
  by_cases e1 : y = y'
  case neg => simp [Op.eqFields, go_sem, n0, t0, o0, n1, t1, o1, n2, t2, o2, n3, t3, o3, n4, t4, o4, n5, t5, o5, n6, t6, o6, evEq, hi, hbo, e0, e1]
  by_cases e2 : c = c'
  case neg => simp [Op.eqFields, go_sem, n0, t0, o0, n1, t1, o1, n2, t2, o2, n3, t3, o3, n4, t4, o4, n5, t5, o5, n6, t6, o6, evEq, hi, hbo, e0, e1, e2]
  by_cases e3 : t = t'
  case neg => simp [Op.eqFields, go_sem, n0, t0, o0, n1, t1, o1, n2, t2, o2, n3, t3, o3, n4, t4, o4, n5, t5, o5, n6, t6, o6, evEq, hi, hbo, e0, e1, e2, e3]
  by_cases e4 : m = m'
  case neg => simp [Op.eqFields, go_sem, n0, t0, o0, n1, t1, o1, n2, t2, o2, n3, t3, o3, n4, t4, o4, n5, t5, o5, n6, t6, o6, evEq, hi, hbo, e0, e1, e2, e3, e4]
  by_cases e5 : f = f'
  case neg => simp [Op.eqFields, go_sem, n0, t0, o0, n1, t1, o1, n2, t2, o2, n3, t3, o3, n4, t4, o4, n5, t5, o5, n6, t6, o6, evEq, hi, hbo, e0, e1, e2, e3, e4, e5]
  by_cases e6 : b = b'
  case neg => simp [Op.eqFields, go_sem, n0, t0, o0, n1, t1, o1, n2, t2, o2, n3, t3, o3, n4, t4, o4, n5, t5, o5, n6, t6, o6, evEq, hi, hbo, e0, e1, e2, e3, e4, e5, e6]
  simp [Op.eqFields, go_sem, n0, t0, o0, n1, t1, o1, n2, t2, o2, n3, t3, o3, n4, t4, o4, n5, t5, o5, n6, t6, o6, evEq, hi, hbo, e0, e1, e2, e3, e4, e5, e6]
theorem AmtOk_k (n : Int) (w : World) : Calls Tryz.prog 67 #[.int .i64 n] w fun e w' => e = .returned (.bool (fieldB true n 0 1125899906842624)) ∧ w' = w := by
  have H : Hid (fieldB true n 0 1125899906842624 = (decide (0 ≤ n) && decide (n ≤ 1125899906842624))) := rfl
  by_cases h1 : 0 ≤ n
  · have H2 : Hid (fieldB true n 0 1125899906842624 = decide (n ≤ 1125899906842624)) := by show _ = _; rw [H.out, decide_eq_true h1, Bool.true_and]
    go_enter Tryz.func67, Tryz.ntmps67
    go_wp2
    go_ret
    exact ⟨ret_ev (by rw [H2.out]), rfl⟩
  · have H2 : Hid (fieldB true n 0 1125899906842624 = false) := by show _ = _; rw [H.out, decide_eq_false h1, Bool.false_and]
    go_enter Tryz.func67, Tryz.ntmps67
    go_wp2
    go_ret
    exact ⟨ret_ev (by rw [H2.out]), rfl⟩
theorem chanOk_k (n : Int) (w : World) : Calls Tryz.prog 150 #[.int .i64 n] w fun e w' => e = .returned (.bool (fieldB true n 1 99)) ∧ w' = w := by
  have H : Hid (fieldB true n 1 99 = (decide (1 ≤ n) && decide (n ≤ 99))) := rfl
  by_cases h1 : 1 ≤ n
  · have H2 : Hid (fieldB true n 1 99 = decide (n ≤ 99)) := by show _ = _; rw [H.out, decide_eq_true h1, Bool.true_and]
    go_enter Tryz.func150, Tryz.ntmps150
    go_wp2
    go_ret
    exact ⟨ret_ev (by rw [H2.out]), rfl⟩
  · have H2 : Hid (fieldB true n 1 99 = false) := by show _ = _; rw [H.out, decide_eq_false h1, Bool.false_and]
    go_enter Tryz.func150, Tryz.ntmps150
    go_wp2
    go_ret
    exact ⟨ret_ev (by rw [H2.out]), rfl⟩
theorem keyOk_k (n : Int) (w : World) : Calls Tryz.prog 157 #[.int .i64 n] w fun e w' => e = .returned (.bool (fieldB true n 1 1000000)) ∧ w' = w := by
  have H : Hid (fieldB true n 1 1000000 = (decide (1 ≤ n) && decide (n ≤ 1000000))) := rfl
  by_cases h1 : 1 ≤ n
  · have H2 : Hid (fieldB true n 1 1000000 = decide (n ≤ 1000000)) := by show _ = _; rw [H.out, decide_eq_true h1, Bool.true_and]
    go_enter Tryz.func157, Tryz.ntmps157
    go_wp2
    go_ret
    exact ⟨ret_ev (by rw [H2.out]), rfl⟩
  · have H2 : Hid (fieldB true n 1 1000000 = false) := by show _ = _; rw [H.out, decide_eq_false h1, Bool.false_and]
    go_enter Tryz.func157, Tryz.ntmps157
    go_wp2
    go_ret
    exact ⟨ret_ev (by rw [H2.out]), rfl⟩
theorem ppmOk_k (n : Int) (w : World) : Calls Tryz.prog 84 #[.int .i64 n] w fun e w' => e = .returned (.bool (fieldB true n 0 1000000)) ∧ w' = w := by
  have H : Hid (fieldB true n 0 1000000 = (decide (0 ≤ n) && decide (n ≤ 1000000))) := rfl
  by_cases h1 : 0 ≤ n
  · have H2 : Hid (fieldB true n 0 1000000 = decide (n ≤ 1000000)) := by show _ = _; rw [H.out, decide_eq_true h1, Bool.true_and]
    go_enter Tryz.func84, Tryz.ntmps84
    go_wp2
    go_ret
    exact ⟨ret_ev (by rw [H2.out]), rfl⟩
  · have H2 : Hid (fieldB true n 0 1000000 = false) := by show _ = _; rw [H.out, decide_eq_false h1, Bool.false_and]
    go_enter Tryz.func84, Tryz.ntmps84
    go_wp2
    go_ret
    exact ⟨ret_ev (by rw [H2.out]), rfl⟩
theorem aboveZero_k (n : Int) (w : World) : Calls Tryz.prog 147 #[.int .i64 n] w fun e w' => e = .returned (.bool (fieldB true n 1 1125899906842624)) ∧ w' = w := by
  have HA := hide (fun w1 => AmtOk_k n w1)
  have H : Hid (fieldB true n 1 1125899906842624 = (fieldB true n 0 1125899906842624 && decide (0 < n))) := by
    show _ = _
    simp only [fieldB, if_true]
    rw [Bool.eq_iff_iff]; simp; omega
  cases h : fieldB true n 0 1125899906842624
  · rw [h] at HA H
    clear h
    go_enter Tryz.func147, Tryz.ntmps147
    go_wp2_with (go_at_call 67; refine (unhide HA _).mono ?_; rintro e w' ⟨rfl, rfl⟩)
    go_ret
    exact ⟨ret_ev (by rw [H.out]; rfl), rfl⟩
  · rw [h] at HA H
    clear h
    go_enter Tryz.func147, Tryz.ntmps147
    go_wp2_with (go_at_call 67; refine (unhide HA _).mono ?_; rintro e w' ⟨rfl, rfl⟩)
    go_ret
    exact ⟨ret_ev (by rw [H.out]; simp), rfl⟩
theorem chansOk_k (x y : Int) (w : World) : Calls Tryz.prog 158 #[.int .i64 x, .int .i64 y] w fun e w' => e = .returned (.bool (chansB x y)) ∧ w' = w := by
  have HA := hide (fun n w1 => chanOk_k n w1)
  cases hx : fieldB true x 1 99
  · have H : Hid (chansB x y = false) := by show _ = _; unfold chansB; rw [hx]; rfl
    go_enter Tryz.func158, Tryz.ntmps158
    go_wp2_with (go_at_call 150; refine (unhide HA _ _).mono ?_; rintro e w' ⟨rfl, rfl⟩)
    go_ret
    exact ⟨ret_ev (by rw [H.out]), rfl⟩
  · cases hy : fieldB true y 1 99
    · have H : Hid (chansB x y = false) := by show _ = _; unfold chansB; rw [hx, hy]; rfl
      go_enter Tryz.func158, Tryz.ntmps158
      go_wp2_with (go_at_call 150; refine (unhide HA _ _).mono ?_; rintro e w' ⟨rfl, rfl⟩)
      go_ret
      exact ⟨ret_ev (by rw [H.out]), rfl⟩
    · have H : Hid (chansB x y = !decide (x = y)) := by show _ = _; unfold chansB; rw [hx, hy]; rfl
      go_enter Tryz.func158, Tryz.ntmps158
      go_wp2_with (go_at_call 150; refine (unhide HA _ _).mono ?_; rintro e w' ⟨rfl, rfl⟩)
      go_ret
      exact ⟨ret_ev (by rw [H.out]; rfl), rfl⟩
theorem right_deposit (m : Int) (w : World) : Calls Tryz.prog 145 #[.agg #[.int .i64 m]] w fun e w' => e = .returned (.bool (fieldB true m 1 1125899906842624)) ∧ Keeps w w' := by
  cases h0 : fieldB true m 1 1125899906842624
  all_goals (
    go_enter Tryz.func145, Tryz.ntmps145
    go_wp2_with (first | (go_at_call 147; refine (aboveZero_k _ _).mono ?_; rintro e w' ⟨rfl, rfl⟩))
    go_ret
    exact ⟨ret_ev (by simp), Keeps.alloc (Keeps.refl w) _⟩)
theorem right_open (c m f : Int) (w : World) : Calls Tryz.prog 148 #[.agg #[.int .i64 c, .int .i64 m, .int .i64 f]] w fun e w' => e = .returned (.bool (fieldB true c 1 99 && fieldB true m 1 1125899906842624 && fieldB true f 0 1125899906842624)) ∧ Keeps w w' := by
  cases h0 : fieldB true c 1 99
  rotate_left
  cases h1 : fieldB true m 1 1125899906842624
  rotate_left
  cases h2 : fieldB true f 0 1125899906842624
  all_goals (
    go_enter Tryz.func148, Tryz.ntmps148
    go_wp2_with (first | (go_at_call 67; refine (AmtOk_k _ _).mono ?_; rintro e w' ⟨rfl, rfl⟩) | (go_at_call 147; refine (aboveZero_k _ _).mono ?_; rintro e w' ⟨rfl, rfl⟩) | (go_at_call 150; refine (chanOk_k _ _).mono ?_; rintro e w' ⟨rfl, rfl⟩))
    go_ret
    exact ⟨ret_ev (by simp), Keeps.alloc (Keeps.refl w) _⟩)
theorem right_close (c f : Int) (w : World) : Calls Tryz.prog 151 #[.agg #[.int .i64 c, .int .i64 f]] w fun e w' => e = .returned (.bool (fieldB true c 1 99 && fieldB true f 0 1125899906842624)) ∧ Keeps w w' := by
  cases h0 : fieldB true c 1 99
  rotate_left
  cases h1 : fieldB true f 0 1125899906842624
  all_goals (
    go_enter Tryz.func151, Tryz.ntmps151
    go_wp2_with (first | (go_at_call 67; refine (AmtOk_k _ _).mono ?_; rintro e w' ⟨rfl, rfl⟩) | (go_at_call 150; refine (chanOk_k _ _).mono ?_; rintro e w' ⟨rfl, rfl⟩))
    go_ret
    exact ⟨ret_ev (by simp), Keeps.alloc (Keeps.refl w) _⟩)
theorem right_price (c m f : Int) (w : World) : Calls Tryz.prog 153 #[.agg #[.int .i64 c, .int .i64 m, .int .i64 f]] w fun e w' => e = .returned (.bool (fieldB true c 1 99 && fieldB true m 0 1125899906842624 && fieldB true f 0 1000000)) ∧ Keeps w w' := by
  cases h0 : fieldB true c 1 99
  rotate_left
  cases h1 : fieldB true m 0 1125899906842624
  rotate_left
  cases h2 : fieldB true f 0 1000000
  all_goals (
    go_enter Tryz.func153, Tryz.ntmps153
    go_wp2_with (first | (go_at_call 67; refine (AmtOk_k _ _).mono ?_; rintro e w' ⟨rfl, rfl⟩) | (go_at_call 150; refine (chanOk_k _ _).mono ?_; rintro e w' ⟨rfl, rfl⟩) | (go_at_call 84; refine (ppmOk_k _ _).mono ?_; rintro e w' ⟨rfl, rfl⟩))
    go_ret
    exact ⟨ret_ev (by simp), Keeps.alloc (Keeps.refl w) _⟩)
theorem right_admit (y c t m : Int) (b : Bool) (w : World) : Calls Tryz.prog 155 #[.agg #[.int .i64 y, .int .i64 c, .int .i64 t, .int .i64 m, .bool b]] w fun e w' => e = .returned (.bool (fieldB true y 1 1000000 && chansB c t && fieldB true m 1 1125899906842624)) ∧ Keeps w w' := by
  cases h0 : fieldB true y 1 1000000
  rotate_left
  cases h1 : chansB c t
  rotate_left
  cases h2 : fieldB true m 1 1125899906842624
  all_goals (
    go_enter Tryz.func155, Tryz.ntmps155
    go_wp2_with (first | (go_at_call 147; refine (aboveZero_k _ _).mono ?_; rintro e w' ⟨rfl, rfl⟩) | (go_at_call 158; refine (chansOk_k _ _ _).mono ?_; rintro e w' ⟨rfl, rfl⟩) | (go_at_call 157; refine (keyOk_k _ _).mono ?_; rintro e w' ⟨rfl, rfl⟩))
    go_ret
    exact ⟨ret_ev (by simp), Keeps.alloc (Keeps.refl w) _⟩)
theorem right_fulfill (y : Int) (w : World) : Calls Tryz.prog 159 #[.agg #[.int .i64 y]] w fun e w' => e = .returned (.bool (fieldB true y 1 1000000)) ∧ Keeps w w' := by
  cases h0 : fieldB true y 1 1000000
  all_goals (
    go_enter Tryz.func159, Tryz.ntmps159
    go_wp2_with (first | (go_at_call 157; refine (keyOk_k _ _).mono ?_; rintro e w' ⟨rfl, rfl⟩))
    go_ret
    exact ⟨ret_ev (by simp), Keeps.alloc (Keeps.refl w) _⟩)
theorem right_fail (y : Int) (w : World) : Calls Tryz.prog 161 #[.agg #[.int .i64 y]] w fun e w' => e = .returned (.bool (fieldB true y 1 1000000)) ∧ Keeps w w' := by
  cases h0 : fieldB true y 1 1000000
  all_goals (
    go_enter Tryz.func161, Tryz.ntmps161
    go_wp2_with (first | (go_at_call 157; refine (keyOk_k _ _).mono ?_; rintro e w' ⟨rfl, rfl⟩))
    go_ret
    exact ⟨ret_ev (by simp), Keeps.alloc (Keeps.refl w) _⟩)
theorem right_tick (w : World) : Calls Tryz.prog 163 #[.agg #[]] w fun e w' => e = .returned (.bool (true)) ∧ Keeps w w' := by
  go_enter Tryz.func163, Tryz.ntmps163
  go_wp2
  go_ret
  exact ⟨rfl, Keeps.alloc (Keeps.refl w) _⟩
theorem right_launch (y c t m f : Int) (w : World) : Calls Tryz.prog 165 #[.agg #[.int .i64 y, .int .i64 c, .int .i64 t, .int .i64 m, .int .i64 f]] w fun e w' => e = .returned (.bool (fieldB true y 1 1000000 && chansB c t && fieldB true m 1 1125899906842624 && fieldB true f 0 1125899906842624)) ∧ Keeps w w' := by
  cases h0 : fieldB true y 1 1000000
  rotate_left
  cases h1 : chansB c t
  rotate_left
  cases h2 : fieldB true m 1 1125899906842624
  rotate_left
  cases h3 : fieldB true f 0 1125899906842624
  all_goals (
    go_enter Tryz.func165, Tryz.ntmps165
    go_wp2_with (first | (go_at_call 67; refine (AmtOk_k _ _).mono ?_; rintro e w' ⟨rfl, rfl⟩) | (go_at_call 147; refine (aboveZero_k _ _).mono ?_; rintro e w' ⟨rfl, rfl⟩) | (go_at_call 158; refine (chansOk_k _ _ _).mono ?_; rintro e w' ⟨rfl, rfl⟩) | (go_at_call 157; refine (keyOk_k _ _).mono ?_; rintro e w' ⟨rfl, rfl⟩))
    go_ret
    exact ⟨ret_ev (by simp), Keeps.alloc (Keeps.refl w) _⟩)
theorem right_arrive (y : Int) (w : World) : Calls Tryz.prog 167 #[.agg #[.int .i64 y]] w fun e w' => e = .returned (.bool (fieldB true y 1 1000000)) ∧ Keeps w w' := by
  cases h0 : fieldB true y 1 1000000
  all_goals (
    go_enter Tryz.func167, Tryz.ntmps167
    go_wp2_with (first | (go_at_call 157; refine (keyOk_k _ _).mono ?_; rintro e w' ⟨rfl, rfl⟩))
    go_ret
    exact ⟨ret_ev (by simp), Keeps.alloc (Keeps.refl w) _⟩)
theorem right_lost (y : Int) (w : World) : Calls Tryz.prog 169 #[.agg #[.int .i64 y]] w fun e w' => e = .returned (.bool (fieldB true y 1 1000000)) ∧ Keeps w w' := by
  cases h0 : fieldB true y 1 1000000
  all_goals (
    go_enter Tryz.func169, Tryz.ntmps169
    go_wp2_with (first | (go_at_call 157; refine (keyOk_k _ _).mono ?_; rintro e w' ⟨rfl, rfl⟩))
    go_ret
    exact ⟨ret_ev (by simp), Keeps.alloc (Keeps.refl w) _⟩)
theorem right_unknown (w : World) : Calls Tryz.prog 171 #[.agg #[]] w fun e w' => e = .returned (.bool false) ∧ Keeps w w' := by
  go_enter Tryz.func171, Tryz.ntmps171
  go_wp2
  go_ret
  exact ⟨rfl, Keeps.alloc (Keeps.refl w) _⟩
theorem kindOf_deposit (y c t m f : Int) (b : Bool) (w : World) : Calls Tryz.prog 39 #[evV 1 y c t m f b] w fun e w' => e = .returned (.iface 110 (.agg #[.int .i64 m])) ∧ Keeps w w' := by
  go_enter Tryz.func39, Tryz.ntmps39
  go_wp2
  go_ret
  exact ⟨rfl, Keeps.alloc (Keeps.refl w) _⟩
theorem kindOf_open (y c t m f : Int) (b : Bool) (w : World) : Calls Tryz.prog 39 #[evV 2 y c t m f b] w fun e w' => e = .returned (.iface 112 (.agg #[.int .i64 c, .int .i64 m, .int .i64 f])) ∧ Keeps w w' := by
  go_enter Tryz.func39, Tryz.ntmps39
  go_wp2
  go_ret
  exact ⟨rfl, Keeps.alloc (Keeps.refl w) _⟩
theorem kindOf_close (y c t m f : Int) (b : Bool) (w : World) : Calls Tryz.prog 39 #[evV 3 y c t m f b] w fun e w' => e = .returned (.iface 114 (.agg #[.int .i64 c, .int .i64 f])) ∧ Keeps w w' := by
  go_enter Tryz.func39, Tryz.ntmps39
  go_wp2
  go_ret
  exact ⟨rfl, Keeps.alloc (Keeps.refl w) _⟩
theorem kindOf_price (y c t m f : Int) (b : Bool) (w : World) : Calls Tryz.prog 39 #[evV 4 y c t m f b] w fun e w' => e = .returned (.iface 116 (.agg #[.int .i64 c, .int .i64 m, .int .i64 f])) ∧ Keeps w w' := by
  go_enter Tryz.func39, Tryz.ntmps39
  go_wp2
  go_ret
  exact ⟨rfl, Keeps.alloc (Keeps.refl w) _⟩
theorem kindOf_admit (y c t m f : Int) (b : Bool) (w : World) : Calls Tryz.prog 39 #[evV 5 y c t m f b] w fun e w' => e = .returned (.iface 118 (.agg #[.int .i64 y, .int .i64 c, .int .i64 t, .int .i64 m, .bool b])) ∧ Keeps w w' := by
  go_enter Tryz.func39, Tryz.ntmps39
  go_wp2
  go_ret
  exact ⟨rfl, Keeps.alloc (Keeps.refl w) _⟩
theorem kindOf_fulfill (y c t m f : Int) (b : Bool) (w : World) : Calls Tryz.prog 39 #[evV 6 y c t m f b] w fun e w' => e = .returned (.iface 120 (.agg #[.int .i64 y])) ∧ Keeps w w' := by
  go_enter Tryz.func39, Tryz.ntmps39
  go_wp2
  go_ret
  exact ⟨rfl, Keeps.alloc (Keeps.refl w) _⟩
theorem kindOf_fail (y c t m f : Int) (b : Bool) (w : World) : Calls Tryz.prog 39 #[evV 7 y c t m f b] w fun e w' => e = .returned (.iface 121 (.agg #[.int .i64 y])) ∧ Keeps w w' := by
  go_enter Tryz.func39, Tryz.ntmps39
  go_wp2
  go_ret
  exact ⟨rfl, Keeps.alloc (Keeps.refl w) _⟩
theorem kindOf_tick (y c t m f : Int) (b : Bool) (w : World) : Calls Tryz.prog 39 #[evV 8 y c t m f b] w fun e w' => e = .returned (.iface 123 (.agg #[])) ∧ Keeps w w' := by
  go_enter Tryz.func39, Tryz.ntmps39
  go_wp2
  go_ret
  exact ⟨rfl, Keeps.alloc (Keeps.refl w) _⟩
theorem kindOf_launch (y c t m f : Int) (b : Bool) (w : World) : Calls Tryz.prog 39 #[evV 9 y c t m f b] w fun e w' => e = .returned (.iface 125 (.agg #[.int .i64 y, .int .i64 c, .int .i64 t, .int .i64 m, .int .i64 f])) ∧ Keeps w w' := by
  go_enter Tryz.func39, Tryz.ntmps39
  go_wp2
  go_ret
  exact ⟨rfl, Keeps.alloc (Keeps.refl w) _⟩
theorem kindOf_arrive (y c t m f : Int) (b : Bool) (w : World) : Calls Tryz.prog 39 #[evV 10 y c t m f b] w fun e w' => e = .returned (.iface 126 (.agg #[.int .i64 y])) ∧ Keeps w w' := by
  go_enter Tryz.func39, Tryz.ntmps39
  go_wp2
  go_ret
  exact ⟨rfl, Keeps.alloc (Keeps.refl w) _⟩
theorem kindOf_lost (y c t m f : Int) (b : Bool) (w : World) : Calls Tryz.prog 39 #[evV 11 y c t m f b] w fun e w' => e = .returned (.iface 127 (.agg #[.int .i64 y])) ∧ Keeps w w' := by
  go_enter Tryz.func39, Tryz.ntmps39
  go_wp2
  go_ret
  exact ⟨rfl, Keeps.alloc (Keeps.refl w) _⟩
theorem kindOf_unknown (k y c t m f : Int) (b : Bool) (w : World) (h : k < 1 ∨ 11 < k) : Calls Tryz.prog 39 #[evV k y c t m f b] w fun e w' => e = .returned (.iface 128 (.agg #[])) ∧ Keeps w w' := by
  have n1 : (k == 1) = false := beq_eq_false_iff_ne.2 (by omega)
  have n2 : (k == 2) = false := beq_eq_false_iff_ne.2 (by omega)
  have n3 : (k == 3) = false := beq_eq_false_iff_ne.2 (by omega)
  have n4 : (k == 4) = false := beq_eq_false_iff_ne.2 (by omega)
  have n5 : (k == 5) = false := beq_eq_false_iff_ne.2 (by omega)
  have n6 : (k == 6) = false := beq_eq_false_iff_ne.2 (by omega)
  have n7 : (k == 7) = false := beq_eq_false_iff_ne.2 (by omega)
  have n8 : (k == 8) = false := beq_eq_false_iff_ne.2 (by omega)
  have n9 : (k == 9) = false := beq_eq_false_iff_ne.2 (by omega)
  have n10 : (k == 10) = false := beq_eq_false_iff_ne.2 (by omega)
  have n11 : (k == 11) = false := beq_eq_false_iff_ne.2 (by omega)
  clear h
  go_enter Tryz.func39, Tryz.ntmps39
  go_wp2
  go_ret
  exact ⟨rfl, Keeps.alloc (Keeps.refl w) _⟩
end Go.Proofs.YtkgpoghoilffhaaGreatDoor
