/- Texts of the verifier, joined: EvI, EvJ, Vars, Txt, EtI. -/
import Derived.Test.YtmigcgpnkfjebaaGreatDoorPTextEvent3
import Derived.Laws.StructEq
import Derived.Test.YtmigcgpnkfjebaaGreatDoorPTextEvent1
import Derived.Deep.RegionHeld3
import Derived.Deep.DrawnRows
import Derived.Test.YtmigcgpnkfjebaaGreatDoorPTextEvent2
namespace Go.Proofs.YtmigcgpnkfjebaaGreatDoor
open Go.RowKit
set_option linter.unusedVariables false
set_option maxRecDepth 10000
def chansB (a b : Int) : Bool := fieldB true a 1 99 && fieldB true b 1 99 && !decide (a = b)
theorem AmtOk_k (n : Int) (w : World) : Calls Tryz.prog 84 #[.int .i64 n] w fun e w' => e = .returned (.bool (fieldB true n 0 1125899906842624)) ∧ w' = w := by
  have H : Hid (fieldB true n 0 1125899906842624 = (decide (0 ≤ n) && decide (n ≤ 1125899906842624))) := rfl
  by_cases h1 : 0 ≤ n
  · have H2 : Hid (fieldB true n 0 1125899906842624 = decide (n ≤ 1125899906842624)) := by show _ = _; rw [H.out, decide_eq_true h1, Bool.true_and]
    go_enter Tryz.func84, Tryz.ntmps84
    go_wp2
    go_ret
    exact ⟨ret_ev (by rw [H2.out]), rfl⟩
  · have H2 : Hid (fieldB true n 0 1125899906842624 = false) := by show _ = _; rw [H.out, decide_eq_false h1, Bool.false_and]
    go_enter Tryz.func84, Tryz.ntmps84
    go_wp2
    go_ret
    exact ⟨ret_ev (by rw [H2.out]), rfl⟩
theorem chanOk_k (n : Int) (w : World) : Calls Tryz.prog 91 #[.int .i64 n] w fun e w' => e = .returned (.bool (fieldB true n 1 99)) ∧ w' = w := by
  have H : Hid (fieldB true n 1 99 = (decide (1 ≤ n) && decide (n ≤ 99))) := rfl
  by_cases h1 : 1 ≤ n
  · have H2 : Hid (fieldB true n 1 99 = decide (n ≤ 99)) := by show _ = _; rw [H.out, decide_eq_true h1, Bool.true_and]
    go_enter Tryz.func91, Tryz.ntmps91
    go_wp2
    go_ret
    exact ⟨ret_ev (by rw [H2.out]), rfl⟩
  · have H2 : Hid (fieldB true n 1 99 = false) := by show _ = _; rw [H.out, decide_eq_false h1, Bool.false_and]
    go_enter Tryz.func91, Tryz.ntmps91
    go_wp2
    go_ret
    exact ⟨ret_ev (by rw [H2.out]), rfl⟩
theorem keyOk_k (n : Int) (w : World) : Calls Tryz.prog 99 #[.int .i64 n] w fun e w' => e = .returned (.bool (fieldB true n 1 1000000)) ∧ w' = w := by
  have H : Hid (fieldB true n 1 1000000 = (decide (1 ≤ n) && decide (n ≤ 1000000))) := rfl
  by_cases h1 : 1 ≤ n
  · have H2 : Hid (fieldB true n 1 1000000 = decide (n ≤ 1000000)) := by show _ = _; rw [H.out, decide_eq_true h1, Bool.true_and]
    go_enter Tryz.func99, Tryz.ntmps99
    go_wp2
    go_ret
    exact ⟨ret_ev (by rw [H2.out]), rfl⟩
  · have H2 : Hid (fieldB true n 1 1000000 = false) := by show _ = _; rw [H.out, decide_eq_false h1, Bool.false_and]
    go_enter Tryz.func99, Tryz.ntmps99
    go_wp2
    go_ret
    exact ⟨ret_ev (by rw [H2.out]), rfl⟩
theorem ppmOk_k (n : Int) (w : World) : Calls Tryz.prog 96 #[.int .i64 n] w fun e w' => e = .returned (.bool (fieldB true n 0 1000000)) ∧ w' = w := by
  have H : Hid (fieldB true n 0 1000000 = (decide (0 ≤ n) && decide (n ≤ 1000000))) := rfl
  by_cases h1 : 0 ≤ n
  · have H2 : Hid (fieldB true n 0 1000000 = decide (n ≤ 1000000)) := by show _ = _; rw [H.out, decide_eq_true h1, Bool.true_and]
    go_enter Tryz.func96, Tryz.ntmps96
    go_wp2
    go_ret
    exact ⟨ret_ev (by rw [H2.out]), rfl⟩
  · have H2 : Hid (fieldB true n 0 1000000 = false) := by show _ = _; rw [H.out, decide_eq_false h1, Bool.false_and]
    go_enter Tryz.func96, Tryz.ntmps96
    go_wp2
    go_ret
    exact ⟨ret_ev (by rw [H2.out]), rfl⟩
theorem aboveZero_k (n : Int) (w : World) : Calls Tryz.prog 82 #[.int .i64 n] w fun e w' => e = .returned (.bool (fieldB true n 1 1125899906842624)) ∧ w' = w := by
  have HA := hide (fun w1 => AmtOk_k n w1)
  have H : Hid (fieldB true n 1 1125899906842624 = (fieldB true n 0 1125899906842624 && decide (0 < n))) := by
    show _ = _
    simp only [fieldB, if_true]
    rw [Bool.eq_iff_iff]; simp; omega
  cases h : fieldB true n 0 1125899906842624
  · rw [h] at HA H
    clear h
    go_enter Tryz.func82, Tryz.ntmps82
    go_wp2_with (go_at_call 84; refine (unhide HA _).mono ?_; rintro e w' ⟨rfl, rfl⟩)
    go_ret
    exact ⟨ret_ev (by rw [H.out]; rfl), rfl⟩
  · rw [h] at HA H
    clear h
    go_enter Tryz.func82, Tryz.ntmps82
    go_wp2_with (go_at_call 84; refine (unhide HA _).mono ?_; rintro e w' ⟨rfl, rfl⟩)
    go_ret
    exact ⟨ret_ev (by rw [H.out]; simp), rfl⟩
theorem chansOk_k (x y : Int) (w : World) : Calls Tryz.prog 100 #[.int .i64 x, .int .i64 y] w fun e w' => e = .returned (.bool (chansB x y)) ∧ w' = w := by
  have HA := hide (fun n w1 => chanOk_k n w1)
  cases hx : fieldB true x 1 99
  · have H : Hid (chansB x y = false) := by show _ = _; unfold chansB; rw [hx]; rfl
    go_enter Tryz.func100, Tryz.ntmps100
    go_wp2_with (go_at_call 91; refine (unhide HA _ _).mono ?_; rintro e w' ⟨rfl, rfl⟩)
    go_ret
    exact ⟨ret_ev (by rw [H.out]), rfl⟩
  · cases hy : fieldB true y 1 99
    · have H : Hid (chansB x y = false) := by show _ = _; unfold chansB; rw [hx, hy]; rfl
      go_enter Tryz.func100, Tryz.ntmps100
      go_wp2_with (go_at_call 91; refine (unhide HA _ _).mono ?_; rintro e w' ⟨rfl, rfl⟩)
      go_ret
      exact ⟨ret_ev (by rw [H.out]), rfl⟩
    · have H : Hid (chansB x y = !decide (x = y)) := by show _ = _; unfold chansB; rw [hx, hy]; rfl
      go_enter Tryz.func100, Tryz.ntmps100
      go_wp2_with (go_at_call 91; refine (unhide HA _ _).mono ?_; rintro e w' ⟨rfl, rfl⟩)
      go_ret
      exact ⟨ret_ev (by rw [H.out]; rfl), rfl⟩
theorem right_deposit (m : Int) (w : World) : Calls Tryz.prog 80 #[.agg #[.int .i64 m]] w fun e w' => e = .returned (.bool (fieldB true m 1 1125899906842624)) ∧ Keeps w w' := by
  cases h0 : fieldB true m 1 1125899906842624
  · skip
    go_enter Tryz.func80, Tryz.ntmps80
    go_wp2_with (first | (go_at_call 82; refine (aboveZero_k _ _).mono ?_; rintro e w' ⟨rfl, rfl⟩))
    go_ret
    exact ⟨ret_ev (by simp), Keeps.alloc (Keeps.refl w) _⟩
  · skip
    go_enter Tryz.func80, Tryz.ntmps80
    go_wp2_with (first | (go_at_call 82; refine (aboveZero_k _ _).mono ?_; rintro e w' ⟨rfl, rfl⟩))
    go_ret
    exact ⟨ret_ev (by simp), Keeps.alloc (Keeps.refl w) _⟩
theorem right_open (c m f : Int) (w : World) : Calls Tryz.prog 89 #[.agg #[.int .i64 c, .int .i64 m, .int .i64 f]] w fun e w' => e = .returned (.bool (fieldB true c 1 99 && fieldB true m 1 1125899906842624 && fieldB true f 0 1125899906842624)) ∧ Keeps w w' := by
  cases h0 : fieldB true c 1 99
  · skip
    go_enter Tryz.func89, Tryz.ntmps89
    go_wp2_with (first | (go_at_call 84; refine (AmtOk_k _ _).mono ?_; rintro e w' ⟨rfl, rfl⟩) | (go_at_call 82; refine (aboveZero_k _ _).mono ?_; rintro e w' ⟨rfl, rfl⟩) | (go_at_call 91; refine (chanOk_k _ _).mono ?_; rintro e w' ⟨rfl, rfl⟩))
    go_ret
    exact ⟨ret_ev (by simp), Keeps.alloc (Keeps.refl w) _⟩
  · skip
    cases h1 : fieldB true m 1 1125899906842624
    · skip
      go_enter Tryz.func89, Tryz.ntmps89
      go_wp2_with (first | (go_at_call 84; refine (AmtOk_k _ _).mono ?_; rintro e w' ⟨rfl, rfl⟩) | (go_at_call 82; refine (aboveZero_k _ _).mono ?_; rintro e w' ⟨rfl, rfl⟩) | (go_at_call 91; refine (chanOk_k _ _).mono ?_; rintro e w' ⟨rfl, rfl⟩))
      go_ret
      exact ⟨ret_ev (by simp), Keeps.alloc (Keeps.refl w) _⟩
    · skip
      cases h2 : fieldB true f 0 1125899906842624
      · skip
        go_enter Tryz.func89, Tryz.ntmps89
        go_wp2_with (first | (go_at_call 84; refine (AmtOk_k _ _).mono ?_; rintro e w' ⟨rfl, rfl⟩) | (go_at_call 82; refine (aboveZero_k _ _).mono ?_; rintro e w' ⟨rfl, rfl⟩) | (go_at_call 91; refine (chanOk_k _ _).mono ?_; rintro e w' ⟨rfl, rfl⟩))
        go_ret
        exact ⟨ret_ev (by simp), Keeps.alloc (Keeps.refl w) _⟩
      · skip
        go_enter Tryz.func89, Tryz.ntmps89
        go_wp2_with (first | (go_at_call 84; refine (AmtOk_k _ _).mono ?_; rintro e w' ⟨rfl, rfl⟩) | (go_at_call 82; refine (aboveZero_k _ _).mono ?_; rintro e w' ⟨rfl, rfl⟩) | (go_at_call 91; refine (chanOk_k _ _).mono ?_; rintro e w' ⟨rfl, rfl⟩))
        go_ret
        exact ⟨ret_ev (by simp), Keeps.alloc (Keeps.refl w) _⟩
theorem right_close (c f : Int) (w : World) : Calls Tryz.prog 92 #[.agg #[.int .i64 c, .int .i64 f]] w fun e w' => e = .returned (.bool (fieldB true c 1 99 && fieldB true f 0 1125899906842624)) ∧ Keeps w w' := by
  cases h0 : fieldB true c 1 99
  · skip
    go_enter Tryz.func92, Tryz.ntmps92
    go_wp2_with (first | (go_at_call 84; refine (AmtOk_k _ _).mono ?_; rintro e w' ⟨rfl, rfl⟩) | (go_at_call 91; refine (chanOk_k _ _).mono ?_; rintro e w' ⟨rfl, rfl⟩))
    go_ret
    exact ⟨ret_ev (by simp), Keeps.alloc (Keeps.refl w) _⟩
  · skip
    cases h1 : fieldB true f 0 1125899906842624
    · skip
      go_enter Tryz.func92, Tryz.ntmps92
      go_wp2_with (first | (go_at_call 84; refine (AmtOk_k _ _).mono ?_; rintro e w' ⟨rfl, rfl⟩) | (go_at_call 91; refine (chanOk_k _ _).mono ?_; rintro e w' ⟨rfl, rfl⟩))
      go_ret
      exact ⟨ret_ev (by simp), Keeps.alloc (Keeps.refl w) _⟩
    · skip
      go_enter Tryz.func92, Tryz.ntmps92
      go_wp2_with (first | (go_at_call 84; refine (AmtOk_k _ _).mono ?_; rintro e w' ⟨rfl, rfl⟩) | (go_at_call 91; refine (chanOk_k _ _).mono ?_; rintro e w' ⟨rfl, rfl⟩))
      go_ret
      exact ⟨ret_ev (by simp), Keeps.alloc (Keeps.refl w) _⟩
theorem right_price (c m f : Int) (w : World) : Calls Tryz.prog 94 #[.agg #[.int .i64 c, .int .i64 m, .int .i64 f]] w fun e w' => e = .returned (.bool (fieldB true c 1 99 && fieldB true m 0 1125899906842624 && fieldB true f 0 1000000)) ∧ Keeps w w' := by
  cases h0 : fieldB true c 1 99
  · skip
    go_enter Tryz.func94, Tryz.ntmps94
    go_wp2_with (first | (go_at_call 84; refine (AmtOk_k _ _).mono ?_; rintro e w' ⟨rfl, rfl⟩) | (go_at_call 91; refine (chanOk_k _ _).mono ?_; rintro e w' ⟨rfl, rfl⟩) | (go_at_call 96; refine (ppmOk_k _ _).mono ?_; rintro e w' ⟨rfl, rfl⟩))
    go_ret
    exact ⟨ret_ev (by simp), Keeps.alloc (Keeps.refl w) _⟩
  · skip
    cases h1 : fieldB true m 0 1125899906842624
    · skip
      go_enter Tryz.func94, Tryz.ntmps94
      go_wp2_with (first | (go_at_call 84; refine (AmtOk_k _ _).mono ?_; rintro e w' ⟨rfl, rfl⟩) | (go_at_call 91; refine (chanOk_k _ _).mono ?_; rintro e w' ⟨rfl, rfl⟩) | (go_at_call 96; refine (ppmOk_k _ _).mono ?_; rintro e w' ⟨rfl, rfl⟩))
      go_ret
      exact ⟨ret_ev (by simp), Keeps.alloc (Keeps.refl w) _⟩
    · skip
      cases h2 : fieldB true f 0 1000000
      · skip
        go_enter Tryz.func94, Tryz.ntmps94
        go_wp2_with (first | (go_at_call 84; refine (AmtOk_k _ _).mono ?_; rintro e w' ⟨rfl, rfl⟩) | (go_at_call 91; refine (chanOk_k _ _).mono ?_; rintro e w' ⟨rfl, rfl⟩) | (go_at_call 96; refine (ppmOk_k _ _).mono ?_; rintro e w' ⟨rfl, rfl⟩))
        go_ret
        exact ⟨ret_ev (by simp), Keeps.alloc (Keeps.refl w) _⟩
      · skip
        go_enter Tryz.func94, Tryz.ntmps94
        go_wp2_with (first | (go_at_call 84; refine (AmtOk_k _ _).mono ?_; rintro e w' ⟨rfl, rfl⟩) | (go_at_call 91; refine (chanOk_k _ _).mono ?_; rintro e w' ⟨rfl, rfl⟩) | (go_at_call 96; refine (ppmOk_k _ _).mono ?_; rintro e w' ⟨rfl, rfl⟩))
        go_ret
        exact ⟨ret_ev (by simp), Keeps.alloc (Keeps.refl w) _⟩
theorem right_admit (y c t m : Int) (b : Bool) (w : World) : Calls Tryz.prog 97 #[.agg #[.int .i64 y, .int .i64 c, .int .i64 t, .int .i64 m, .bool b]] w fun e w' => e = .returned (.bool (fieldB true y 1 1000000 && chansB c t && fieldB true m 1 1125899906842624)) ∧ Keeps w w' := by
  cases h0 : fieldB true y 1 1000000
  · skip
    go_enter Tryz.func97, Tryz.ntmps97
    go_wp2_with (first | (go_at_call 82; refine (aboveZero_k _ _).mono ?_; rintro e w' ⟨rfl, rfl⟩) | (go_at_call 100; refine (chansOk_k _ _ _).mono ?_; rintro e w' ⟨rfl, rfl⟩) | (go_at_call 99; refine (keyOk_k _ _).mono ?_; rintro e w' ⟨rfl, rfl⟩))
    go_ret
    exact ⟨ret_ev (by simp), Keeps.alloc (Keeps.refl w) _⟩
  · skip
    cases h1 : chansB c t
    · skip
      go_enter Tryz.func97, Tryz.ntmps97
      go_wp2_with (first | (go_at_call 82; refine (aboveZero_k _ _).mono ?_; rintro e w' ⟨rfl, rfl⟩) | (go_at_call 100; refine (chansOk_k _ _ _).mono ?_; rintro e w' ⟨rfl, rfl⟩) | (go_at_call 99; refine (keyOk_k _ _).mono ?_; rintro e w' ⟨rfl, rfl⟩))
      go_ret
      exact ⟨ret_ev (by simp), Keeps.alloc (Keeps.refl w) _⟩
    · skip
      cases h2 : fieldB true m 1 1125899906842624
      · skip
        go_enter Tryz.func97, Tryz.ntmps97
        go_wp2_with (first | (go_at_call 82; refine (aboveZero_k _ _).mono ?_; rintro e w' ⟨rfl, rfl⟩) | (go_at_call 100; refine (chansOk_k _ _ _).mono ?_; rintro e w' ⟨rfl, rfl⟩) | (go_at_call 99; refine (keyOk_k _ _).mono ?_; rintro e w' ⟨rfl, rfl⟩))
        go_ret
        exact ⟨ret_ev (by simp), Keeps.alloc (Keeps.refl w) _⟩
      · skip
        go_enter Tryz.func97, Tryz.ntmps97
        go_wp2_with (first | (go_at_call 82; refine (aboveZero_k _ _).mono ?_; rintro e w' ⟨rfl, rfl⟩) | (go_at_call 100; refine (chansOk_k _ _ _).mono ?_; rintro e w' ⟨rfl, rfl⟩) | (go_at_call 99; refine (keyOk_k _ _).mono ?_; rintro e w' ⟨rfl, rfl⟩))
        go_ret
        exact ⟨ret_ev (by simp), Keeps.alloc (Keeps.refl w) _⟩
theorem right_fulfill (y : Int) (w : World) : Calls Tryz.prog 101 #[.agg #[.int .i64 y]] w fun e w' => e = .returned (.bool (fieldB true y 1 1000000)) ∧ Keeps w w' := by
  cases h0 : fieldB true y 1 1000000
  · skip
    go_enter Tryz.func101, Tryz.ntmps101
    go_wp2_with (first | (go_at_call 99; refine (keyOk_k _ _).mono ?_; rintro e w' ⟨rfl, rfl⟩))
    go_ret
    exact ⟨ret_ev (by simp), Keeps.alloc (Keeps.refl w) _⟩
  · skip
    go_enter Tryz.func101, Tryz.ntmps101
    go_wp2_with (first | (go_at_call 99; refine (keyOk_k _ _).mono ?_; rintro e w' ⟨rfl, rfl⟩))
    go_ret
    exact ⟨ret_ev (by simp), Keeps.alloc (Keeps.refl w) _⟩
theorem right_fail (y : Int) (w : World) : Calls Tryz.prog 103 #[.agg #[.int .i64 y]] w fun e w' => e = .returned (.bool (fieldB true y 1 1000000)) ∧ Keeps w w' := by
  cases h0 : fieldB true y 1 1000000
  · skip
    go_enter Tryz.func103, Tryz.ntmps103
    go_wp2_with (first | (go_at_call 99; refine (keyOk_k _ _).mono ?_; rintro e w' ⟨rfl, rfl⟩))
    go_ret
    exact ⟨ret_ev (by simp), Keeps.alloc (Keeps.refl w) _⟩
  · skip
    go_enter Tryz.func103, Tryz.ntmps103
    go_wp2_with (first | (go_at_call 99; refine (keyOk_k _ _).mono ?_; rintro e w' ⟨rfl, rfl⟩))
    go_ret
    exact ⟨ret_ev (by simp), Keeps.alloc (Keeps.refl w) _⟩
theorem right_tick (w : World) : Calls Tryz.prog 105 #[.agg #[]] w fun e w' => e = .returned (.bool (true)) ∧ Keeps w w' := by
  go_enter Tryz.func105, Tryz.ntmps105
  go_wp2
  go_ret
  exact ⟨rfl, Keeps.alloc (Keeps.refl w) _⟩
theorem right_launch (y c t m f : Int) (w : World) : Calls Tryz.prog 107 #[.agg #[.int .i64 y, .int .i64 c, .int .i64 t, .int .i64 m, .int .i64 f]] w fun e w' => e = .returned (.bool (fieldB true y 1 1000000 && chansB c t && fieldB true m 1 1125899906842624 && fieldB true f 0 1125899906842624)) ∧ Keeps w w' := by
  cases h0 : fieldB true y 1 1000000
  · skip
    go_enter Tryz.func107, Tryz.ntmps107
    go_wp2_with (first | (go_at_call 84; refine (AmtOk_k _ _).mono ?_; rintro e w' ⟨rfl, rfl⟩) | (go_at_call 82; refine (aboveZero_k _ _).mono ?_; rintro e w' ⟨rfl, rfl⟩) | (go_at_call 100; refine (chansOk_k _ _ _).mono ?_; rintro e w' ⟨rfl, rfl⟩) | (go_at_call 99; refine (keyOk_k _ _).mono ?_; rintro e w' ⟨rfl, rfl⟩))
    go_ret
    exact ⟨ret_ev (by simp), Keeps.alloc (Keeps.refl w) _⟩
  · skip
    cases h1 : chansB c t
    · skip
      go_enter Tryz.func107, Tryz.ntmps107
      go_wp2_with (first | (go_at_call 84; refine (AmtOk_k _ _).mono ?_; rintro e w' ⟨rfl, rfl⟩) | (go_at_call 82; refine (aboveZero_k _ _).mono ?_; rintro e w' ⟨rfl, rfl⟩) | (go_at_call 100; refine (chansOk_k _ _ _).mono ?_; rintro e w' ⟨rfl, rfl⟩) | (go_at_call 99; refine (keyOk_k _ _).mono ?_; rintro e w' ⟨rfl, rfl⟩))
      go_ret
      exact ⟨ret_ev (by simp), Keeps.alloc (Keeps.refl w) _⟩
    · skip
      cases h2 : fieldB true m 1 1125899906842624
      · skip
        go_enter Tryz.func107, Tryz.ntmps107
        go_wp2_with (first | (go_at_call 84; refine (AmtOk_k _ _).mono ?_; rintro e w' ⟨rfl, rfl⟩) | (go_at_call 82; refine (aboveZero_k _ _).mono ?_; rintro e w' ⟨rfl, rfl⟩) | (go_at_call 100; refine (chansOk_k _ _ _).mono ?_; rintro e w' ⟨rfl, rfl⟩) | (go_at_call 99; refine (keyOk_k _ _).mono ?_; rintro e w' ⟨rfl, rfl⟩))
        go_ret
        exact ⟨ret_ev (by simp), Keeps.alloc (Keeps.refl w) _⟩
      · skip
        cases h3 : fieldB true f 0 1125899906842624
        · skip
          go_enter Tryz.func107, Tryz.ntmps107
          go_wp2_with (first | (go_at_call 84; refine (AmtOk_k _ _).mono ?_; rintro e w' ⟨rfl, rfl⟩) | (go_at_call 82; refine (aboveZero_k _ _).mono ?_; rintro e w' ⟨rfl, rfl⟩) | (go_at_call 100; refine (chansOk_k _ _ _).mono ?_; rintro e w' ⟨rfl, rfl⟩) | (go_at_call 99; refine (keyOk_k _ _).mono ?_; rintro e w' ⟨rfl, rfl⟩))
          go_ret
          exact ⟨ret_ev (by simp), Keeps.alloc (Keeps.refl w) _⟩
        · skip
          go_enter Tryz.func107, Tryz.ntmps107
          go_wp2_with (first | (go_at_call 84; refine (AmtOk_k _ _).mono ?_; rintro e w' ⟨rfl, rfl⟩) | (go_at_call 82; refine (aboveZero_k _ _).mono ?_; rintro e w' ⟨rfl, rfl⟩) | (go_at_call 100; refine (chansOk_k _ _ _).mono ?_; rintro e w' ⟨rfl, rfl⟩) | (go_at_call 99; refine (keyOk_k _ _).mono ?_; rintro e w' ⟨rfl, rfl⟩))
          go_ret
          exact ⟨ret_ev (by simp), Keeps.alloc (Keeps.refl w) _⟩
theorem right_arrive (y : Int) (w : World) : Calls Tryz.prog 109 #[.agg #[.int .i64 y]] w fun e w' => e = .returned (.bool (fieldB true y 1 1000000)) ∧ Keeps w w' := by
  cases h0 : fieldB true y 1 1000000
  · skip
    go_enter Tryz.func109, Tryz.ntmps109
    go_wp2_with (first | (go_at_call 99; refine (keyOk_k _ _).mono ?_; rintro e w' ⟨rfl, rfl⟩))
    go_ret
    exact ⟨ret_ev (by simp), Keeps.alloc (Keeps.refl w) _⟩
  · skip
    go_enter Tryz.func109, Tryz.ntmps109
    go_wp2_with (first | (go_at_call 99; refine (keyOk_k _ _).mono ?_; rintro e w' ⟨rfl, rfl⟩))
    go_ret
    exact ⟨ret_ev (by simp), Keeps.alloc (Keeps.refl w) _⟩
theorem right_lost (y : Int) (w : World) : Calls Tryz.prog 111 #[.agg #[.int .i64 y]] w fun e w' => e = .returned (.bool (fieldB true y 1 1000000)) ∧ Keeps w w' := by
  cases h0 : fieldB true y 1 1000000
  · skip
    go_enter Tryz.func111, Tryz.ntmps111
    go_wp2_with (first | (go_at_call 99; refine (keyOk_k _ _).mono ?_; rintro e w' ⟨rfl, rfl⟩))
    go_ret
    exact ⟨ret_ev (by simp), Keeps.alloc (Keeps.refl w) _⟩
  · skip
    go_enter Tryz.func111, Tryz.ntmps111
    go_wp2_with (first | (go_at_call 99; refine (keyOk_k _ _).mono ?_; rintro e w' ⟨rfl, rfl⟩))
    go_ret
    exact ⟨ret_ev (by simp), Keeps.alloc (Keeps.refl w) _⟩
theorem right_unknown (w : World) : Calls Tryz.prog 113 #[.agg #[]] w fun e w' => e = .returned (.bool false) ∧ Keeps w w' := by
  go_enter Tryz.func113, Tryz.ntmps113
  go_wp2
  go_ret
  exact ⟨rfl, Keeps.alloc (Keeps.refl w) _⟩
end Go.Proofs.YtmigcgpnkfjebaaGreatDoor
namespace Go.Proofs.YtmigcgpnkfjebaaGreatDoor
open Go.RowKit
set_option linter.unusedVariables false
set_option maxRecDepth 10000
set_option linter.unusedSimpArgs false
set_option maxHeartbeats 1000000 in
theorem eventOf_deposit (m : Int) (w : World) : Calls Tryz.prog 14 #[.iface 49 (.agg #[.int .i64 m])] w fun e w' => e = .returned (evV 1 0 0 0 m 0 false) ∧ Keeps w w' := by
  have ta1 : ∀ w : World, (Instr.typeAssert (.iface 49 (.agg #[.int .i64 m])) 38 49 true).run Tryz.prog w = .ok (.tuple #[.agg #[.int .i64 m], .bool true]) w := fun _ => by kernel_rfl
  go_enter Tryz.func14, Tryz.ntmps14
  go_wp2
  refine bodyPost_ret (v := evV 1 0 0 0 m 0 false) (by simp [results, Tryz.results14, go_sem]) rfl ⟨rfl, ?_⟩
  repeat (first | exact Keeps.refl _ | refine Keeps.alloc ?_ _ | refine Keeps.setCell ?_ (by simp) _)
set_option maxHeartbeats 1000000 in
theorem eventOf_open (c m f : Int) (w : World) : Calls Tryz.prog 14 #[.iface 51 (.agg #[.int .i64 c, .int .i64 m, .int .i64 f])] w fun e w' => e = .returned (evV 2 0 c 0 m f false) ∧ Keeps w w' := by
  have ta1 : ∀ w : World, (Instr.typeAssert (.iface 51 (.agg #[.int .i64 c, .int .i64 m, .int .i64 f])) 38 49 true).run Tryz.prog w = .ok (.tuple #[.agg #[.int .i64 0], .bool false]) w := fun _ => by kernel_rfl
  have ta2 : ∀ w : World, (Instr.typeAssert (.iface 51 (.agg #[.int .i64 c, .int .i64 m, .int .i64 f])) 38 51 true).run Tryz.prog w = .ok (.tuple #[.agg #[.int .i64 c, .int .i64 m, .int .i64 f], .bool true]) w := fun _ => by kernel_rfl
  go_enter Tryz.func14, Tryz.ntmps14
  go_wp2
  refine bodyPost_ret (v := evV 2 0 c 0 m f false) (by simp [results, Tryz.results14, go_sem]) rfl ⟨rfl, ?_⟩
  repeat (first | exact Keeps.refl _ | refine Keeps.alloc ?_ _ | refine Keeps.setCell ?_ (by simp) _)
set_option maxHeartbeats 1000000 in
theorem eventOf_close (c f : Int) (w : World) : Calls Tryz.prog 14 #[.iface 53 (.agg #[.int .i64 c, .int .i64 f])] w fun e w' => e = .returned (evV 3 0 c 0 0 f false) ∧ Keeps w w' := by
  have ta1 : ∀ w : World, (Instr.typeAssert (.iface 53 (.agg #[.int .i64 c, .int .i64 f])) 38 49 true).run Tryz.prog w = .ok (.tuple #[.agg #[.int .i64 0], .bool false]) w := fun _ => by kernel_rfl
  have ta2 : ∀ w : World, (Instr.typeAssert (.iface 53 (.agg #[.int .i64 c, .int .i64 f])) 38 51 true).run Tryz.prog w = .ok (.tuple #[.agg #[.int .i64 0, .int .i64 0, .int .i64 0], .bool false]) w := fun _ => by kernel_rfl
  have ta3 : ∀ w : World, (Instr.typeAssert (.iface 53 (.agg #[.int .i64 c, .int .i64 f])) 38 53 true).run Tryz.prog w = .ok (.tuple #[.agg #[.int .i64 c, .int .i64 f], .bool true]) w := fun _ => by kernel_rfl
  go_enter Tryz.func14, Tryz.ntmps14
  go_wp2
  refine bodyPost_ret (v := evV 3 0 c 0 0 f false) (by simp [results, Tryz.results14, go_sem]) rfl ⟨rfl, ?_⟩
  repeat (first | exact Keeps.refl _ | refine Keeps.alloc ?_ _ | refine Keeps.setCell ?_ (by simp) _)
set_option maxHeartbeats 1000000 in
theorem eventOf_price (c m f : Int) (w : World) : Calls Tryz.prog 14 #[.iface 55 (.agg #[.int .i64 c, .int .i64 m, .int .i64 f])] w fun e w' => e = .returned (evV 4 0 c 0 m f false) ∧ Keeps w w' := by
  have ta1 : ∀ w : World, (Instr.typeAssert (.iface 55 (.agg #[.int .i64 c, .int .i64 m, .int .i64 f])) 38 49 true).run Tryz.prog w = .ok (.tuple #[.agg #[.int .i64 0], .bool false]) w := fun _ => by kernel_rfl
  have ta2 : ∀ w : World, (Instr.typeAssert (.iface 55 (.agg #[.int .i64 c, .int .i64 m, .int .i64 f])) 38 51 true).run Tryz.prog w = .ok (.tuple #[.agg #[.int .i64 0, .int .i64 0, .int .i64 0], .bool false]) w := fun _ => by kernel_rfl
  have ta3 : ∀ w : World, (Instr.typeAssert (.iface 55 (.agg #[.int .i64 c, .int .i64 m, .int .i64 f])) 38 53 true).run Tryz.prog w = .ok (.tuple #[.agg #[.int .i64 0, .int .i64 0], .bool false]) w := fun _ => by kernel_rfl
  have ta4 : ∀ w : World, (Instr.typeAssert (.iface 55 (.agg #[.int .i64 c, .int .i64 m, .int .i64 f])) 38 55 true).run Tryz.prog w = .ok (.tuple #[.agg #[.int .i64 c, .int .i64 m, .int .i64 f], .bool true]) w := fun _ => by kernel_rfl
  go_enter Tryz.func14, Tryz.ntmps14
  go_wp2
  refine bodyPost_ret (v := evV 4 0 c 0 m f false) (by simp [results, Tryz.results14, go_sem]) rfl ⟨rfl, ?_⟩
  repeat (first | exact Keeps.refl _ | refine Keeps.alloc ?_ _ | refine Keeps.setCell ?_ (by simp) _)
set_option maxHeartbeats 1000000 in
theorem eventOf_admit (y c t m : Int) (b : Bool) (w : World) : Calls Tryz.prog 14 #[.iface 57 (.agg #[.int .i64 y, .int .i64 c, .int .i64 t, .int .i64 m, .bool b])] w fun e w' => e = .returned (evV 5 y c t m 0 b) ∧ Keeps w w' := by
  have ta1 : ∀ w : World, (Instr.typeAssert (.iface 57 (.agg #[.int .i64 y, .int .i64 c, .int .i64 t, .int .i64 m, .bool b])) 38 49 true).run Tryz.prog w = .ok (.tuple #[.agg #[.int .i64 0], .bool false]) w := fun _ => by kernel_rfl
  have ta2 : ∀ w : World, (Instr.typeAssert (.iface 57 (.agg #[.int .i64 y, .int .i64 c, .int .i64 t, .int .i64 m, .bool b])) 38 51 true).run Tryz.prog w = .ok (.tuple #[.agg #[.int .i64 0, .int .i64 0, .int .i64 0], .bool false]) w := fun _ => by kernel_rfl
  have ta3 : ∀ w : World, (Instr.typeAssert (.iface 57 (.agg #[.int .i64 y, .int .i64 c, .int .i64 t, .int .i64 m, .bool b])) 38 53 true).run Tryz.prog w = .ok (.tuple #[.agg #[.int .i64 0, .int .i64 0], .bool false]) w := fun _ => by kernel_rfl
  have ta4 : ∀ w : World, (Instr.typeAssert (.iface 57 (.agg #[.int .i64 y, .int .i64 c, .int .i64 t, .int .i64 m, .bool b])) 38 55 true).run Tryz.prog w = .ok (.tuple #[.agg #[.int .i64 0, .int .i64 0, .int .i64 0], .bool false]) w := fun _ => by kernel_rfl
  have ta5 : ∀ w : World, (Instr.typeAssert (.iface 57 (.agg #[.int .i64 y, .int .i64 c, .int .i64 t, .int .i64 m, .bool b])) 38 57 true).run Tryz.prog w = .ok (.tuple #[.agg #[.int .i64 y, .int .i64 c, .int .i64 t, .int .i64 m, .bool b], .bool true]) w := fun _ => by kernel_rfl
  go_enter Tryz.func14, Tryz.ntmps14
  go_wp2
  refine bodyPost_ret (v := evV 5 y c t m 0 b) (by simp [results, Tryz.results14, go_sem]) rfl ⟨rfl, ?_⟩
  repeat (first | exact Keeps.refl _ | refine Keeps.alloc ?_ _ | refine Keeps.setCell ?_ (by simp) _)
set_option maxHeartbeats 1000000 in
theorem eventOf_fulfill (y : Int) (w : World) : Calls Tryz.prog 14 #[.iface 59 (.agg #[.int .i64 y])] w fun e w' => e = .returned (evV 6 y 0 0 0 0 false) ∧ Keeps w w' := by
  have ta1 : ∀ w : World, (Instr.typeAssert (.iface 59 (.agg #[.int .i64 y])) 38 49 true).run Tryz.prog w = .ok (.tuple #[.agg #[.int .i64 0], .bool false]) w := fun _ => by kernel_rfl
  have ta2 : ∀ w : World, (Instr.typeAssert (.iface 59 (.agg #[.int .i64 y])) 38 51 true).run Tryz.prog w = .ok (.tuple #[.agg #[.int .i64 0, .int .i64 0, .int .i64 0], .bool false]) w := fun _ => by kernel_rfl
  have ta3 : ∀ w : World, (Instr.typeAssert (.iface 59 (.agg #[.int .i64 y])) 38 53 true).run Tryz.prog w = .ok (.tuple #[.agg #[.int .i64 0, .int .i64 0], .bool false]) w := fun _ => by kernel_rfl
  have ta4 : ∀ w : World, (Instr.typeAssert (.iface 59 (.agg #[.int .i64 y])) 38 55 true).run Tryz.prog w = .ok (.tuple #[.agg #[.int .i64 0, .int .i64 0, .int .i64 0], .bool false]) w := fun _ => by kernel_rfl
  have ta5 : ∀ w : World, (Instr.typeAssert (.iface 59 (.agg #[.int .i64 y])) 38 57 true).run Tryz.prog w = .ok (.tuple #[.agg #[.int .i64 0, .int .i64 0, .int .i64 0, .int .i64 0, .bool false], .bool false]) w := fun _ => by kernel_rfl
  have ta6 : ∀ w : World, (Instr.typeAssert (.iface 59 (.agg #[.int .i64 y])) 38 59 true).run Tryz.prog w = .ok (.tuple #[.agg #[.int .i64 y], .bool true]) w := fun _ => by kernel_rfl
  go_enter Tryz.func14, Tryz.ntmps14
  go_wp2
  refine bodyPost_ret (v := evV 6 y 0 0 0 0 false) (by simp [results, Tryz.results14, go_sem]) rfl ⟨rfl, ?_⟩
  repeat (first | exact Keeps.refl _ | refine Keeps.alloc ?_ _ | refine Keeps.setCell ?_ (by simp) _)
set_option maxHeartbeats 1000000 in
theorem eventOf_fail (y : Int) (w : World) : Calls Tryz.prog 14 #[.iface 60 (.agg #[.int .i64 y])] w fun e w' => e = .returned (evV 7 y 0 0 0 0 false) ∧ Keeps w w' := by
  have ta1 : ∀ w : World, (Instr.typeAssert (.iface 60 (.agg #[.int .i64 y])) 38 49 true).run Tryz.prog w = .ok (.tuple #[.agg #[.int .i64 0], .bool false]) w := fun _ => by kernel_rfl
  have ta2 : ∀ w : World, (Instr.typeAssert (.iface 60 (.agg #[.int .i64 y])) 38 51 true).run Tryz.prog w = .ok (.tuple #[.agg #[.int .i64 0, .int .i64 0, .int .i64 0], .bool false]) w := fun _ => by kernel_rfl
  have ta3 : ∀ w : World, (Instr.typeAssert (.iface 60 (.agg #[.int .i64 y])) 38 53 true).run Tryz.prog w = .ok (.tuple #[.agg #[.int .i64 0, .int .i64 0], .bool false]) w := fun _ => by kernel_rfl
  have ta4 : ∀ w : World, (Instr.typeAssert (.iface 60 (.agg #[.int .i64 y])) 38 55 true).run Tryz.prog w = .ok (.tuple #[.agg #[.int .i64 0, .int .i64 0, .int .i64 0], .bool false]) w := fun _ => by kernel_rfl
  have ta5 : ∀ w : World, (Instr.typeAssert (.iface 60 (.agg #[.int .i64 y])) 38 57 true).run Tryz.prog w = .ok (.tuple #[.agg #[.int .i64 0, .int .i64 0, .int .i64 0, .int .i64 0, .bool false], .bool false]) w := fun _ => by kernel_rfl
  have ta6 : ∀ w : World, (Instr.typeAssert (.iface 60 (.agg #[.int .i64 y])) 38 59 true).run Tryz.prog w = .ok (.tuple #[.agg #[.int .i64 0], .bool false]) w := fun _ => by kernel_rfl
  have ta7 : ∀ w : World, (Instr.typeAssert (.iface 60 (.agg #[.int .i64 y])) 38 60 true).run Tryz.prog w = .ok (.tuple #[.agg #[.int .i64 y], .bool true]) w := fun _ => by kernel_rfl
  go_enter Tryz.func14, Tryz.ntmps14
  go_wp2
  refine bodyPost_ret (v := evV 7 y 0 0 0 0 false) (by simp [results, Tryz.results14, go_sem]) rfl ⟨rfl, ?_⟩
  repeat (first | exact Keeps.refl _ | refine Keeps.alloc ?_ _ | refine Keeps.setCell ?_ (by simp) _)
set_option maxHeartbeats 1000000 in
theorem eventOf_tick (w : World) : Calls Tryz.prog 14 #[.iface 62 (.agg #[])] w fun e w' => e = .returned (evV 8 0 0 0 0 0 false) ∧ Keeps w w' := by
  have ta1 : ∀ w : World, (Instr.typeAssert (.iface 62 (.agg #[])) 38 49 true).run Tryz.prog w = .ok (.tuple #[.agg #[.int .i64 0], .bool false]) w := fun _ => by kernel_rfl
  have ta2 : ∀ w : World, (Instr.typeAssert (.iface 62 (.agg #[])) 38 51 true).run Tryz.prog w = .ok (.tuple #[.agg #[.int .i64 0, .int .i64 0, .int .i64 0], .bool false]) w := fun _ => by kernel_rfl
  have ta3 : ∀ w : World, (Instr.typeAssert (.iface 62 (.agg #[])) 38 53 true).run Tryz.prog w = .ok (.tuple #[.agg #[.int .i64 0, .int .i64 0], .bool false]) w := fun _ => by kernel_rfl
  have ta4 : ∀ w : World, (Instr.typeAssert (.iface 62 (.agg #[])) 38 55 true).run Tryz.prog w = .ok (.tuple #[.agg #[.int .i64 0, .int .i64 0, .int .i64 0], .bool false]) w := fun _ => by kernel_rfl
  have ta5 : ∀ w : World, (Instr.typeAssert (.iface 62 (.agg #[])) 38 57 true).run Tryz.prog w = .ok (.tuple #[.agg #[.int .i64 0, .int .i64 0, .int .i64 0, .int .i64 0, .bool false], .bool false]) w := fun _ => by kernel_rfl
  have ta6 : ∀ w : World, (Instr.typeAssert (.iface 62 (.agg #[])) 38 59 true).run Tryz.prog w = .ok (.tuple #[.agg #[.int .i64 0], .bool false]) w := fun _ => by kernel_rfl
  have ta7 : ∀ w : World, (Instr.typeAssert (.iface 62 (.agg #[])) 38 60 true).run Tryz.prog w = .ok (.tuple #[.agg #[.int .i64 0], .bool false]) w := fun _ => by kernel_rfl
  have ta8 : ∀ w : World, (Instr.typeAssert (.iface 62 (.agg #[])) 38 62 true).run Tryz.prog w = .ok (.tuple #[.agg #[], .bool true]) w := fun _ => by kernel_rfl
  go_enter Tryz.func14, Tryz.ntmps14
  go_wp2
  refine bodyPost_ret (v := evV 8 0 0 0 0 0 false) (by simp [results, Tryz.results14, go_sem]) rfl ⟨rfl, ?_⟩
  repeat (first | exact Keeps.refl _ | refine Keeps.alloc ?_ _ | refine Keeps.setCell ?_ (by simp) _)
set_option maxHeartbeats 1000000 in
theorem eventOf_launch (y c t m f : Int) (w : World) : Calls Tryz.prog 14 #[.iface 64 (.agg #[.int .i64 y, .int .i64 c, .int .i64 t, .int .i64 m, .int .i64 f])] w fun e w' => e = .returned (evV 9 y c t m f false) ∧ Keeps w w' := by
  have ta1 : ∀ w : World, (Instr.typeAssert (.iface 64 (.agg #[.int .i64 y, .int .i64 c, .int .i64 t, .int .i64 m, .int .i64 f])) 38 49 true).run Tryz.prog w = .ok (.tuple #[.agg #[.int .i64 0], .bool false]) w := fun _ => by kernel_rfl
  have ta2 : ∀ w : World, (Instr.typeAssert (.iface 64 (.agg #[.int .i64 y, .int .i64 c, .int .i64 t, .int .i64 m, .int .i64 f])) 38 51 true).run Tryz.prog w = .ok (.tuple #[.agg #[.int .i64 0, .int .i64 0, .int .i64 0], .bool false]) w := fun _ => by kernel_rfl
  have ta3 : ∀ w : World, (Instr.typeAssert (.iface 64 (.agg #[.int .i64 y, .int .i64 c, .int .i64 t, .int .i64 m, .int .i64 f])) 38 53 true).run Tryz.prog w = .ok (.tuple #[.agg #[.int .i64 0, .int .i64 0], .bool false]) w := fun _ => by kernel_rfl
  have ta4 : ∀ w : World, (Instr.typeAssert (.iface 64 (.agg #[.int .i64 y, .int .i64 c, .int .i64 t, .int .i64 m, .int .i64 f])) 38 55 true).run Tryz.prog w = .ok (.tuple #[.agg #[.int .i64 0, .int .i64 0, .int .i64 0], .bool false]) w := fun _ => by kernel_rfl
  have ta5 : ∀ w : World, (Instr.typeAssert (.iface 64 (.agg #[.int .i64 y, .int .i64 c, .int .i64 t, .int .i64 m, .int .i64 f])) 38 57 true).run Tryz.prog w = .ok (.tuple #[.agg #[.int .i64 0, .int .i64 0, .int .i64 0, .int .i64 0, .bool false], .bool false]) w := fun _ => by kernel_rfl
  have ta6 : ∀ w : World, (Instr.typeAssert (.iface 64 (.agg #[.int .i64 y, .int .i64 c, .int .i64 t, .int .i64 m, .int .i64 f])) 38 59 true).run Tryz.prog w = .ok (.tuple #[.agg #[.int .i64 0], .bool false]) w := fun _ => by kernel_rfl
  have ta7 : ∀ w : World, (Instr.typeAssert (.iface 64 (.agg #[.int .i64 y, .int .i64 c, .int .i64 t, .int .i64 m, .int .i64 f])) 38 60 true).run Tryz.prog w = .ok (.tuple #[.agg #[.int .i64 0], .bool false]) w := fun _ => by kernel_rfl
  have ta8 : ∀ w : World, (Instr.typeAssert (.iface 64 (.agg #[.int .i64 y, .int .i64 c, .int .i64 t, .int .i64 m, .int .i64 f])) 38 62 true).run Tryz.prog w = .ok (.tuple #[.agg #[], .bool false]) w := fun _ => by kernel_rfl
  have ta9 : ∀ w : World, (Instr.typeAssert (.iface 64 (.agg #[.int .i64 y, .int .i64 c, .int .i64 t, .int .i64 m, .int .i64 f])) 38 64 true).run Tryz.prog w = .ok (.tuple #[.agg #[.int .i64 y, .int .i64 c, .int .i64 t, .int .i64 m, .int .i64 f], .bool true]) w := fun _ => by kernel_rfl
  go_enter Tryz.func14, Tryz.ntmps14
  go_wp2
  refine bodyPost_ret (v := evV 9 y c t m f false) (by simp [results, Tryz.results14, go_sem]) rfl ⟨rfl, ?_⟩
  repeat (first | exact Keeps.refl _ | refine Keeps.alloc ?_ _ | refine Keeps.setCell ?_ (by simp) _)
set_option maxHeartbeats 1000000 in
theorem eventOf_arrive (y : Int) (w : World) : Calls Tryz.prog 14 #[.iface 65 (.agg #[.int .i64 y])] w fun e w' => e = .returned (evV 10 y 0 0 0 0 false) ∧ Keeps w w' := by
  have ta1 : ∀ w : World, (Instr.typeAssert (.iface 65 (.agg #[.int .i64 y])) 38 49 true).run Tryz.prog w = .ok (.tuple #[.agg #[.int .i64 0], .bool false]) w := fun _ => by kernel_rfl
  have ta2 : ∀ w : World, (Instr.typeAssert (.iface 65 (.agg #[.int .i64 y])) 38 51 true).run Tryz.prog w = .ok (.tuple #[.agg #[.int .i64 0, .int .i64 0, .int .i64 0], .bool false]) w := fun _ => by kernel_rfl
  have ta3 : ∀ w : World, (Instr.typeAssert (.iface 65 (.agg #[.int .i64 y])) 38 53 true).run Tryz.prog w = .ok (.tuple #[.agg #[.int .i64 0, .int .i64 0], .bool false]) w := fun _ => by kernel_rfl
  have ta4 : ∀ w : World, (Instr.typeAssert (.iface 65 (.agg #[.int .i64 y])) 38 55 true).run Tryz.prog w = .ok (.tuple #[.agg #[.int .i64 0, .int .i64 0, .int .i64 0], .bool false]) w := fun _ => by kernel_rfl
  have ta5 : ∀ w : World, (Instr.typeAssert (.iface 65 (.agg #[.int .i64 y])) 38 57 true).run Tryz.prog w = .ok (.tuple #[.agg #[.int .i64 0, .int .i64 0, .int .i64 0, .int .i64 0, .bool false], .bool false]) w := fun _ => by kernel_rfl
  have ta6 : ∀ w : World, (Instr.typeAssert (.iface 65 (.agg #[.int .i64 y])) 38 59 true).run Tryz.prog w = .ok (.tuple #[.agg #[.int .i64 0], .bool false]) w := fun _ => by kernel_rfl
  have ta7 : ∀ w : World, (Instr.typeAssert (.iface 65 (.agg #[.int .i64 y])) 38 60 true).run Tryz.prog w = .ok (.tuple #[.agg #[.int .i64 0], .bool false]) w := fun _ => by kernel_rfl
  have ta8 : ∀ w : World, (Instr.typeAssert (.iface 65 (.agg #[.int .i64 y])) 38 62 true).run Tryz.prog w = .ok (.tuple #[.agg #[], .bool false]) w := fun _ => by kernel_rfl
  have ta9 : ∀ w : World, (Instr.typeAssert (.iface 65 (.agg #[.int .i64 y])) 38 64 true).run Tryz.prog w = .ok (.tuple #[.agg #[.int .i64 0, .int .i64 0, .int .i64 0, .int .i64 0, .int .i64 0], .bool false]) w := fun _ => by kernel_rfl
  have ta10 : ∀ w : World, (Instr.typeAssert (.iface 65 (.agg #[.int .i64 y])) 38 65 true).run Tryz.prog w = .ok (.tuple #[.agg #[.int .i64 y], .bool true]) w := fun _ => by kernel_rfl
  go_enter Tryz.func14, Tryz.ntmps14
  go_wp2
  refine bodyPost_ret (v := evV 10 y 0 0 0 0 false) (by simp [results, Tryz.results14, go_sem]) rfl ⟨rfl, ?_⟩
  repeat (first | exact Keeps.refl _ | refine Keeps.alloc ?_ _ | refine Keeps.setCell ?_ (by simp) _)
set_option maxHeartbeats 1000000 in
theorem eventOf_lost (y : Int) (w : World) : Calls Tryz.prog 14 #[.iface 66 (.agg #[.int .i64 y])] w fun e w' => e = .returned (evV 11 y 0 0 0 0 false) ∧ Keeps w w' := by
  have ta1 : ∀ w : World, (Instr.typeAssert (.iface 66 (.agg #[.int .i64 y])) 38 49 true).run Tryz.prog w = .ok (.tuple #[.agg #[.int .i64 0], .bool false]) w := fun _ => by kernel_rfl
  have ta2 : ∀ w : World, (Instr.typeAssert (.iface 66 (.agg #[.int .i64 y])) 38 51 true).run Tryz.prog w = .ok (.tuple #[.agg #[.int .i64 0, .int .i64 0, .int .i64 0], .bool false]) w := fun _ => by kernel_rfl
  have ta3 : ∀ w : World, (Instr.typeAssert (.iface 66 (.agg #[.int .i64 y])) 38 53 true).run Tryz.prog w = .ok (.tuple #[.agg #[.int .i64 0, .int .i64 0], .bool false]) w := fun _ => by kernel_rfl
  have ta4 : ∀ w : World, (Instr.typeAssert (.iface 66 (.agg #[.int .i64 y])) 38 55 true).run Tryz.prog w = .ok (.tuple #[.agg #[.int .i64 0, .int .i64 0, .int .i64 0], .bool false]) w := fun _ => by kernel_rfl
  have ta5 : ∀ w : World, (Instr.typeAssert (.iface 66 (.agg #[.int .i64 y])) 38 57 true).run Tryz.prog w = .ok (.tuple #[.agg #[.int .i64 0, .int .i64 0, .int .i64 0, .int .i64 0, .bool false], .bool false]) w := fun _ => by kernel_rfl
  have ta6 : ∀ w : World, (Instr.typeAssert (.iface 66 (.agg #[.int .i64 y])) 38 59 true).run Tryz.prog w = .ok (.tuple #[.agg #[.int .i64 0], .bool false]) w := fun _ => by kernel_rfl
  have ta7 : ∀ w : World, (Instr.typeAssert (.iface 66 (.agg #[.int .i64 y])) 38 60 true).run Tryz.prog w = .ok (.tuple #[.agg #[.int .i64 0], .bool false]) w := fun _ => by kernel_rfl
  have ta8 : ∀ w : World, (Instr.typeAssert (.iface 66 (.agg #[.int .i64 y])) 38 62 true).run Tryz.prog w = .ok (.tuple #[.agg #[], .bool false]) w := fun _ => by kernel_rfl
  have ta9 : ∀ w : World, (Instr.typeAssert (.iface 66 (.agg #[.int .i64 y])) 38 64 true).run Tryz.prog w = .ok (.tuple #[.agg #[.int .i64 0, .int .i64 0, .int .i64 0, .int .i64 0, .int .i64 0], .bool false]) w := fun _ => by kernel_rfl
  have ta10 : ∀ w : World, (Instr.typeAssert (.iface 66 (.agg #[.int .i64 y])) 38 65 true).run Tryz.prog w = .ok (.tuple #[.agg #[.int .i64 0], .bool false]) w := fun _ => by kernel_rfl
  have ta11 : ∀ w : World, (Instr.typeAssert (.iface 66 (.agg #[.int .i64 y])) 38 66 true).run Tryz.prog w = .ok (.tuple #[.agg #[.int .i64 y], .bool true]) w := fun _ => by kernel_rfl
  go_enter Tryz.func14, Tryz.ntmps14
  go_wp2
  refine bodyPost_ret (v := evV 11 y 0 0 0 0 false) (by simp [results, Tryz.results14, go_sem]) rfl ⟨rfl, ?_⟩
  repeat (first | exact Keeps.refl _ | refine Keeps.alloc ?_ _ | refine Keeps.setCell ?_ (by simp) _)
end Go.Proofs.YtmigcgpnkfjebaaGreatDoor
namespace Go.Proofs.YtmigcgpnkfjebaaGreatDoor
open Go.RowKit Go.Deep
set_option linter.unusedVariables false
theorem born_alloc (w : World) (c : Array Value) (t : TypeId) : Born w (w.alloc (.cells c t)) [(some ⟨w.heap.size, 0, none⟩, c.toList)] := by
  have hB : (w.alloc (.cells c t)).heap[w.heap.size]? = some (.cells c t (0, 0)) := blk_alloc_new w _
  revert hB
  generalize w.alloc (.cells c t) = W
  intro hB
  refine ⟨⟨?_, ?_, ?_⟩, ?_⟩
  · intro s hs
    rw [List.mem_singleton.1 hs]
    refine Or.inr ⟨_, 0, rfl, fun j hj => ?_⟩
    have hj' : j < c.size := by simpa using hj
    simp [World.cell?, hB, hj']
  · by_cases h0 : c.toList = [] <;> simp [fp, fpS, h0]
  · intro b hb
    by_cases h0 : c.toList = []
    · simp [fp, fpS, h0] at hb
    · simp [fp, fpS, h0] at hb
      subst hb
      intro o
      simp [World.frozen?, hB]
  · intro b hb
    by_cases h0 : c.toList = []
    · simp [fp, fpS, h0] at hb
    · simp [fp, fpS, h0] at hb
      omega
theorem cell_at {w : World} {b : Nat} {xs : List Value} (h : Mem w [(some ⟨b, 0, none⟩, xs)]) (j : Nat) (hj : j < xs.length) : w.cell? ⟨b, 0 + j, none⟩ = some xs[j] := by
  have h' := h (some ⟨b, 0, none⟩, xs) (by simp)
  rcases h' with h' | ⟨g, off, e, h'⟩
  · have : xs = [] := h'
    subst this
    simp at hj
  · have e' := Option.some.inj e
    injection e' with e1 e2
    subst e1 e2
    exact h' j hj
end Go.Proofs.YtmigcgpnkfjebaaGreatDoor
namespace Go.Proofs.YtmigcgpnkfjebaaGreatDoor
open Go.RowKit Go.Deep
set_option linter.unusedVariables false
set_option maxRecDepth 10000
theorem nums_two (w : World) (o : Obj) (K : List Int) : Cells ((w.alloc o).alloc (.cells (nums K).toArray 3)) (some ⟨w.heap.size + 1, 0, none⟩) (nums K) := by
  have h := (born_alloc (w.alloc o) (nums K).toArray 3).toOwn.one
  simpa using h
theorem two_keeps (w : World) (o p : Obj) : Keeps w ((w.alloc o).alloc p) := Keeps.alloc (Keeps.alloc (Keeps.refl w) o) p
theorem ret_more {D X : List UInt8} {c : List UInt8} (h : X = D ++ c) : Ending.returned (.string (⟨D.toArray⟩ ++ ⟨c.toArray⟩)) = .returned (.string ⟨X.toArray⟩) := by
  rw [h, ByteArray.mk_append_mk]
theorem sen_len {W : List UInt8} {ns : List Int} (h : W.length ≤ 20) (h' : ns.length ≤ 8) : (sen W ns).length ≤ 200 := by
  have := senN_len ns
  simp only [sen, List.length_append]
  omega
set_option maxHeartbeats 2000000 in
theorem text_deposit (m : Int) (w : World) (ht : Tab w) : Calls Tryz.prog 81 #[.agg #[.int .i64 m]] w fun e w' => e = .returned (.string ⟨(sen [100, 101, 112, 111, 115, 105, 116] [m]).toArray⟩) ∧ Keeps w w' := by
  have HT := hide ht
  clear ht
  have HC : Hid (Cells ((w.alloc (.cells #[.int .i64 m] 49)).alloc (.cells #[.int .i64 m] 3)) (some ⟨w.heap.size + 1, 0, none⟩) (nums [m])) := nums_two w _ [m]
  have HK := hide (two_keeps w (.cells #[.int .i64 m] 49) (.cells #[.int .i64 m] 3))
  go_enter Tryz.func81, Tryz.ntmps81
  go_wp2_with fail
  refine (sentence_k [100, 101, 112, 111, 115, 105, 116] (some ⟨w.heap.size + 1, 0, none⟩) 1 [m] _ (by decide) (by decide) (by simp) HC.out (HT.out.kept HK.out)).mono ?_
  rintro e w1 ⟨rfl, hk⟩
  have HK1 := hide (HK.out.trans hk)
  clear hk HC HK
  go_wp2_with fail
  go_ret
  exact ⟨rfl, HK1.out⟩
set_option maxHeartbeats 2000000 in
theorem text_open (c m f : Int) (w : World) (ht : Tab w) : Calls Tryz.prog 90 #[.agg #[.int .i64 c, .int .i64 m, .int .i64 f]] w fun e w' => e = .returned (.string ⟨(sen [111, 112, 101, 110] [c, m, f]).toArray⟩) ∧ Keeps w w' := by
  have HT := hide ht
  clear ht
  have HC : Hid (Cells ((w.alloc (.cells #[.int .i64 c, .int .i64 m, .int .i64 f] 51)).alloc (.cells #[.int .i64 c, .int .i64 m, .int .i64 f] 3)) (some ⟨w.heap.size + 1, 0, none⟩) (nums [c, m, f])) := nums_two w _ [c, m, f]
  have HK := hide (two_keeps w (.cells #[.int .i64 c, .int .i64 m, .int .i64 f] 51) (.cells #[.int .i64 c, .int .i64 m, .int .i64 f] 3))
  go_enter Tryz.func90, Tryz.ntmps90
  go_wp2_with fail
  refine (sentence_k [111, 112, 101, 110] (some ⟨w.heap.size + 1, 0, none⟩) 3 [c, m, f] _ (by decide) (by decide) (by simp) HC.out (HT.out.kept HK.out)).mono ?_
  rintro e w1 ⟨rfl, hk⟩
  have HK1 := hide (HK.out.trans hk)
  clear hk HC HK
  go_wp2_with fail
  go_ret
  exact ⟨rfl, HK1.out⟩
set_option maxHeartbeats 2000000 in
theorem text_close (c f : Int) (w : World) (ht : Tab w) : Calls Tryz.prog 93 #[.agg #[.int .i64 c, .int .i64 f]] w fun e w' => e = .returned (.string ⟨(sen [99, 108, 111, 115, 101] [c, f]).toArray⟩) ∧ Keeps w w' := by
  have HT := hide ht
  clear ht
  have HC : Hid (Cells ((w.alloc (.cells #[.int .i64 c, .int .i64 f] 53)).alloc (.cells #[.int .i64 c, .int .i64 f] 3)) (some ⟨w.heap.size + 1, 0, none⟩) (nums [c, f])) := nums_two w _ [c, f]
  have HK := hide (two_keeps w (.cells #[.int .i64 c, .int .i64 f] 53) (.cells #[.int .i64 c, .int .i64 f] 3))
  go_enter Tryz.func93, Tryz.ntmps93
  go_wp2_with fail
  refine (sentence_k [99, 108, 111, 115, 101] (some ⟨w.heap.size + 1, 0, none⟩) 2 [c, f] _ (by decide) (by decide) (by simp) HC.out (HT.out.kept HK.out)).mono ?_
  rintro e w1 ⟨rfl, hk⟩
  have HK1 := hide (HK.out.trans hk)
  clear hk HC HK
  go_wp2_with fail
  go_ret
  exact ⟨rfl, HK1.out⟩
set_option maxHeartbeats 2000000 in
theorem text_price (c m f : Int) (w : World) (ht : Tab w) : Calls Tryz.prog 95 #[.agg #[.int .i64 c, .int .i64 m, .int .i64 f]] w fun e w' => e = .returned (.string ⟨(sen [112, 114, 105, 99, 101] [c, m, f]).toArray⟩) ∧ Keeps w w' := by
  have HT := hide ht
  clear ht
  have HC : Hid (Cells ((w.alloc (.cells #[.int .i64 c, .int .i64 m, .int .i64 f] 55)).alloc (.cells #[.int .i64 c, .int .i64 m, .int .i64 f] 3)) (some ⟨w.heap.size + 1, 0, none⟩) (nums [c, m, f])) := nums_two w _ [c, m, f]
  have HK := hide (two_keeps w (.cells #[.int .i64 c, .int .i64 m, .int .i64 f] 55) (.cells #[.int .i64 c, .int .i64 m, .int .i64 f] 3))
  go_enter Tryz.func95, Tryz.ntmps95
  go_wp2_with fail
  refine (sentence_k [112, 114, 105, 99, 101] (some ⟨w.heap.size + 1, 0, none⟩) 3 [c, m, f] _ (by decide) (by decide) (by simp) HC.out (HT.out.kept HK.out)).mono ?_
  rintro e w1 ⟨rfl, hk⟩
  have HK1 := hide (HK.out.trans hk)
  clear hk HC HK
  go_wp2_with fail
  go_ret
  exact ⟨rfl, HK1.out⟩
set_option maxHeartbeats 2000000 in
theorem text_fulfill (y : Int) (w : World) (ht : Tab w) : Calls Tryz.prog 102 #[.agg #[.int .i64 y]] w fun e w' => e = .returned (.string ⟨(sen [102, 117, 108, 102, 105, 108, 108] [y]).toArray⟩) ∧ Keeps w w' := by
  have HT := hide ht
  clear ht
  have HC : Hid (Cells ((w.alloc (.cells #[.int .i64 y] 59)).alloc (.cells #[.int .i64 y] 3)) (some ⟨w.heap.size + 1, 0, none⟩) (nums [y])) := nums_two w _ [y]
  have HK := hide (two_keeps w (.cells #[.int .i64 y] 59) (.cells #[.int .i64 y] 3))
  go_enter Tryz.func102, Tryz.ntmps102
  go_wp2_with fail
  refine (sentence_k [102, 117, 108, 102, 105, 108, 108] (some ⟨w.heap.size + 1, 0, none⟩) 1 [y] _ (by decide) (by decide) (by simp) HC.out (HT.out.kept HK.out)).mono ?_
  rintro e w1 ⟨rfl, hk⟩
  have HK1 := hide (HK.out.trans hk)
  clear hk HC HK
  go_wp2_with fail
  go_ret
  exact ⟨rfl, HK1.out⟩
set_option maxHeartbeats 2000000 in
theorem text_fail (y : Int) (w : World) (ht : Tab w) : Calls Tryz.prog 104 #[.agg #[.int .i64 y]] w fun e w' => e = .returned (.string ⟨(sen [102, 97, 105, 108] [y]).toArray⟩) ∧ Keeps w w' := by
  have HT := hide ht
  clear ht
  have HC : Hid (Cells ((w.alloc (.cells #[.int .i64 y] 60)).alloc (.cells #[.int .i64 y] 3)) (some ⟨w.heap.size + 1, 0, none⟩) (nums [y])) := nums_two w _ [y]
  have HK := hide (two_keeps w (.cells #[.int .i64 y] 60) (.cells #[.int .i64 y] 3))
  go_enter Tryz.func104, Tryz.ntmps104
  go_wp2_with fail
  refine (sentence_k [102, 97, 105, 108] (some ⟨w.heap.size + 1, 0, none⟩) 1 [y] _ (by decide) (by decide) (by simp) HC.out (HT.out.kept HK.out)).mono ?_
  rintro e w1 ⟨rfl, hk⟩
  have HK1 := hide (HK.out.trans hk)
  clear hk HC HK
  go_wp2_with fail
  go_ret
  exact ⟨rfl, HK1.out⟩
set_option maxHeartbeats 2000000 in
theorem text_tick (w : World) (ht : Tab w) : Calls Tryz.prog 106 #[.agg #[]] w fun e w' => e = .returned (.string ⟨(sen [116, 105, 99, 107] []).toArray⟩) ∧ Keeps w w' := by
  have HT := hide ht
  clear ht
  have HC : Hid (Cells (w.alloc (.cells #[] 62)) none (nums [])) := .inl rfl
  have HK := hide (Keeps.alloc (Keeps.refl w) (.cells #[] 62))
  go_enter Tryz.func106, Tryz.ntmps106
  go_wp2_with fail
  refine (sentence_k [116, 105, 99, 107] none 0 [] _ (by decide) (by decide) (by simp) HC.out (HT.out.kept HK.out)).mono ?_
  rintro e w1 ⟨rfl, hk⟩
  have HK1 := hide (HK.out.trans hk)
  clear hk HC HK
  go_wp2_with fail
  go_ret
  exact ⟨rfl, HK1.out⟩
set_option maxHeartbeats 2000000 in
theorem text_launch (y c t m f : Int) (w : World) (ht : Tab w) : Calls Tryz.prog 108 #[.agg #[.int .i64 y, .int .i64 c, .int .i64 t, .int .i64 m, .int .i64 f]] w fun e w' => e = .returned (.string ⟨(sen [108, 97, 117, 110, 99, 104] [y, c, t, m, f]).toArray⟩) ∧ Keeps w w' := by
  have HT := hide ht
  clear ht
  have HC : Hid (Cells ((w.alloc (.cells #[.int .i64 y, .int .i64 c, .int .i64 t, .int .i64 m, .int .i64 f] 64)).alloc (.cells #[.int .i64 y, .int .i64 c, .int .i64 t, .int .i64 m, .int .i64 f] 3)) (some ⟨w.heap.size + 1, 0, none⟩) (nums [y, c, t, m, f])) := nums_two w _ [y, c, t, m, f]
  have HK := hide (two_keeps w (.cells #[.int .i64 y, .int .i64 c, .int .i64 t, .int .i64 m, .int .i64 f] 64) (.cells #[.int .i64 y, .int .i64 c, .int .i64 t, .int .i64 m, .int .i64 f] 3))
  go_enter Tryz.func108, Tryz.ntmps108
  go_wp2_with fail
  refine (sentence_k [108, 97, 117, 110, 99, 104] (some ⟨w.heap.size + 1, 0, none⟩) 5 [y, c, t, m, f] _ (by decide) (by decide) (by simp) HC.out (HT.out.kept HK.out)).mono ?_
  rintro e w1 ⟨rfl, hk⟩
  have HK1 := hide (HK.out.trans hk)
  clear hk HC HK
  go_wp2_with fail
  go_ret
  exact ⟨rfl, HK1.out⟩
set_option maxHeartbeats 2000000 in
theorem text_arrive (y : Int) (w : World) (ht : Tab w) : Calls Tryz.prog 110 #[.agg #[.int .i64 y]] w fun e w' => e = .returned (.string ⟨(sen [97, 114, 114, 105, 118, 101] [y]).toArray⟩) ∧ Keeps w w' := by
  have HT := hide ht
  clear ht
  have HC : Hid (Cells ((w.alloc (.cells #[.int .i64 y] 65)).alloc (.cells #[.int .i64 y] 3)) (some ⟨w.heap.size + 1, 0, none⟩) (nums [y])) := nums_two w _ [y]
  have HK := hide (two_keeps w (.cells #[.int .i64 y] 65) (.cells #[.int .i64 y] 3))
  go_enter Tryz.func110, Tryz.ntmps110
  go_wp2_with fail
  refine (sentence_k [97, 114, 114, 105, 118, 101] (some ⟨w.heap.size + 1, 0, none⟩) 1 [y] _ (by decide) (by decide) (by simp) HC.out (HT.out.kept HK.out)).mono ?_
  rintro e w1 ⟨rfl, hk⟩
  have HK1 := hide (HK.out.trans hk)
  clear hk HC HK
  go_wp2_with fail
  go_ret
  exact ⟨rfl, HK1.out⟩
set_option maxHeartbeats 2000000 in
theorem text_lost (y : Int) (w : World) (ht : Tab w) : Calls Tryz.prog 112 #[.agg #[.int .i64 y]] w fun e w' => e = .returned (.string ⟨(sen [108, 111, 115, 116] [y]).toArray⟩) ∧ Keeps w w' := by
  have HT := hide ht
  clear ht
  have HC : Hid (Cells ((w.alloc (.cells #[.int .i64 y] 66)).alloc (.cells #[.int .i64 y] 3)) (some ⟨w.heap.size + 1, 0, none⟩) (nums [y])) := nums_two w _ [y]
  have HK := hide (two_keeps w (.cells #[.int .i64 y] 66) (.cells #[.int .i64 y] 3))
  go_enter Tryz.func112, Tryz.ntmps112
  go_wp2_with fail
  refine (sentence_k [108, 111, 115, 116] (some ⟨w.heap.size + 1, 0, none⟩) 1 [y] _ (by decide) (by decide) (by simp) HC.out (HT.out.kept HK.out)).mono ?_
  rintro e w1 ⟨rfl, hk⟩
  have HK1 := hide (HK.out.trans hk)
  clear hk HC HK
  go_wp2_with fail
  go_ret
  exact ⟨rfl, HK1.out⟩
set_option maxHeartbeats 2000000 in
theorem text_admit (y c t m : Int) (b : Bool) (w : World) (ht : Tab w) : Calls Tryz.prog 98 #[.agg #[.int .i64 y, .int .i64 c, .int .i64 t, .int .i64 m, .bool b]] w fun e w' => e = .returned (.string ⟨(sen [97, 100, 109, 105, 116] [y, c, t, m] ++ (if b = true then [32, 121, 101, 115] else [32, 110, 111])).toArray⟩) ∧ Keeps w w' := by
  have HT := hide ht
  clear ht
  have HC : Hid (Cells ((w.alloc (.cells #[.int .i64 y, .int .i64 c, .int .i64 t, .int .i64 m, .bool b] 57)).alloc (.cells #[.int .i64 y, .int .i64 c, .int .i64 t, .int .i64 m] 3)) (some ⟨w.heap.size + 1, 0, none⟩) (nums [y, c, t, m])) := nums_two w _ [y, c, t, m]
  have HK := hide (two_keeps w (.cells #[.int .i64 y, .int .i64 c, .int .i64 t, .int .i64 m, .bool b] 57) (.cells #[.int .i64 y, .int .i64 c, .int .i64 t, .int .i64 m] 3))
  cases b
  · go_enter Tryz.func98, Tryz.ntmps98
    go_wp2_with fail
    refine (sentence_k [97, 100, 109, 105, 116] (some ⟨w.heap.size + 1, 0, none⟩) 4 [y, c, t, m] _ (by decide) (by decide) (by simp) HC.out (HT.out.kept HK.out)).mono ?_
    rintro e w1 ⟨rfl, hk⟩
    have HK1 := hide (HK.out.trans hk)
    have hlen := sen_len (W := [97, 100, 109, 105, 116]) (ns := [y, c, t, m]) (by decide) (by simp)
    have c4 := hk.cell (p := ⟨w.heap.size, 4, none⟩) (v := .bool false) (by simp)
    generalize hZ : sen [97, 100, 109, 105, 116] [y, c, t, m] = Z at hlen ⊢
    have HZ := hide hZ
    clear hk HC HK hZ
    go_wp2_with fail
    go_ret
    exact ⟨ret_more (by rw [HZ.out]; try rfl), HK1.out⟩
  · go_enter Tryz.func98, Tryz.ntmps98
    go_wp2_with fail
    refine (sentence_k [97, 100, 109, 105, 116] (some ⟨w.heap.size + 1, 0, none⟩) 4 [y, c, t, m] _ (by decide) (by decide) (by simp) HC.out (HT.out.kept HK.out)).mono ?_
    rintro e w1 ⟨rfl, hk⟩
    have HK1 := hide (HK.out.trans hk)
    have hlen := sen_len (W := [97, 100, 109, 105, 116]) (ns := [y, c, t, m]) (by decide) (by simp)
    have c4 := hk.cell (p := ⟨w.heap.size, 4, none⟩) (v := .bool true) (by simp)
    generalize hZ : sen [97, 100, 109, 105, 116] [y, c, t, m] = Z at hlen ⊢
    have HZ := hide hZ
    clear hk HC HK hZ
    go_wp2_with fail
    go_ret
    exact ⟨ret_more (by rw [HZ.out]; try rfl), HK1.out⟩
end Go.Proofs.YtmigcgpnkfjebaaGreatDoor
namespace Go.Proofs.YtmigcgpnkfjebaaGreatDoor
open Go.RowKit Go.Deep
set_option linter.unusedVariables false
set_option maxRecDepth 10000
def etL (k y c t m f : Int) (b : Bool) : List UInt8 := if evB k y c t m f b = true then evT k y c t m f b else []
end Go.Proofs.YtmigcgpnkfjebaaGreatDoor
