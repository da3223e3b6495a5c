/- Sums of amounts, the program's and the model's. -/
import Derived.Test.YteoloapjhlpnjaaGreatDoorKeep
import Derived.Test.YteoloapjhlpnjaaGreatDoorSent
namespace Go.Proofs.YteoloapjhlpnjaaGreatDoor
open Go.RowKit
set_option linter.unusedVariables false

theorem sum_ok (a b : Int) (w : World) (h : addB a b = true) :
    Calls Tryz.prog 193 #[.int .i64 a, .int .i64 b] w fun e w' => e = .returned (.tuple #[.int .i64 (a + b), .nilIface]) ∧ w' = w := by
  simp only [addB, Bool.and_eq_true] at h
  obtain ⟨⟨ha, hb⟩, hc⟩ := h
  obtain ⟨h0, h1⟩ := amtB_true ha
  obtain ⟨h2, h3⟩ := amtB_true hb
  obtain ⟨_, h5⟩ := amtB_true hc
  clear ha hb hc
  go_enter Tryz.func193, Tryz.ntmps193
  go_wp2
  go_ret2
  exact ⟨rfl, rfl⟩

theorem sum_no (a b : Int) (w : World) (u : TypeId) (x : Value) (hg : w.cell? ⟨0, 0, none⟩ = some (.iface u x)) (h : addB a b = false) :
    Calls Tryz.prog 193 #[.int .i64 a, .int .i64 b] w fun e w' => e = .returned (.tuple #[.int .i64 0, .iface u x]) ∧ ∃ n, w' = w.drewN n := by
  have h' : (a < 0 ∨ 1125899906842624 < a) ∨ ((0 ≤ a ∧ a ≤ 1125899906842624) ∧ ((b < 0 ∨ 1125899906842624 < b) ∨ ((0 ≤ b ∧ b ≤ 1125899906842624) ∧ ¬ a + b ≤ 1125899906842624))) := by
    simp [addB, amtB] at h; omega
  clear h
  rcases h' with (h | h) | ⟨⟨h1, h2⟩, (h | h) | ⟨⟨h3, h4⟩, h⟩⟩
  all_goals
    go_enter Tryz.func193, Tryz.ntmps193
    go_wp2
    go_quiet (fail)
    go_wp2
    go_ret2
    exact ⟨rfl, _, rfl⟩

theorem told_ok (n : Int) (w : World) : Calls Tryz.prog 175 #[.int .i64 n, .nilIface] w fun e w' => e = .returned (.tuple #[.int .i64 n, .bool true]) ∧ w' = w := by
  go_enter Tryz.func175, Tryz.ntmps175
  go_wp2
  go_ret2
  exact ⟨rfl, rfl⟩
theorem told_no (n : Int) (u : TypeId) (x : Value) (w : World) : Calls Tryz.prog 175 #[.int .i64 n, .iface u x] w fun e w' => e = .returned (.tuple #[.int .i64 0, .bool false]) ∧ w' = w := by
  go_enter Tryz.func175, Tryz.ntmps175
  go_wp2
  go_ret2
  exact ⟨rfl, rfl⟩

theorem addAmt_impl (a b : Int) (w : World) (u : TypeId) (x : Value) (hg : w.cell? ⟨0, 0, none⟩ = some (.iface u x)) :
    Calls Tryz.prog 152 #[.int .i64 a, .int .i64 b] w fun e w' => e = .returned (.tuple #[.int .i64 (addV a b), .bool (addB a b)]) ∧ Keeps w w' := by
  cases h : addB a b
  · have H : Hid (addV a b = 0) := by show _ = _; simp [addV, h]
    go_enter Tryz.func152, Tryz.ntmps152
    go_wp2_with (first | (go_at_call 193; refine (sum_no a b _ u x hg h).mono ?_; rintro e w' ⟨rfl, n, rfl⟩) | (go_at_call 175; refine (told_no _ _ _ _).mono ?_; rintro e w' ⟨rfl, rfl⟩))
    go_ret2
    exact ⟨ret_tup H.out.symm rfl, Keeps.drewN (Keeps.refl _) _⟩
  · have H : Hid (addV a b = a + b) := by show _ = _; simp [addV, h]
    go_enter Tryz.func152, Tryz.ntmps152
    go_wp2_with (first | (go_at_call 193; refine (sum_ok a b _ h).mono ?_; rintro e w' ⟨rfl, rfl⟩) | (go_at_call 175; refine (told_ok _ _).mono ?_; rintro e w' ⟨rfl, rfl⟩))
    go_ret2
    exact ⟨ret_tup H.out.symm rfl, Keeps.refl _⟩

theorem addAmt_spec (a b : Int) (w : World) :
    Calls Tryz.prog 120 #[.int .i64 a, .int .i64 b] w fun e w' => e = .returned (.tuple #[.int .i64 (addV a b), .bool (addB a b)]) ∧ w' = w := by
  cases h : addB a b
  · have H : Hid (addV a b = 0) := by show _ = _; simp [addV, h]
    have h' : (a < 0 ∨ 1125899906842624 < a) ∨ ((0 ≤ a ∧ a ≤ 1125899906842624) ∧ ((b < 0 ∨ 1125899906842624 < b) ∨ ((0 ≤ b ∧ b ≤ 1125899906842624) ∧ ¬ a + b ≤ 1125899906842624))) := by
      simp [addB, amtB] at h; omega
    clear h
    rcases h' with (h | h) | ⟨⟨h1, h2⟩, (h | h) | ⟨⟨h3, h4⟩, h⟩⟩
    all_goals
      go_enter Tryz.func120, Tryz.ntmps120
      go_wp2
      go_ret2
      exact ⟨ret_tup H.out.symm rfl, rfl⟩
  · have H : Hid (addV a b = a + b) := by show _ = _; simp [addV, h]
    simp only [addB, Bool.and_eq_true] at h
    obtain ⟨⟨ha, hb⟩, hc⟩ := h
    obtain ⟨h0, h1⟩ := amtB_true ha
    obtain ⟨h2, h3⟩ := amtB_true hb
    obtain ⟨_, h5⟩ := amtB_true hc
    clear ha hb hc
    go_enter Tryz.func120, Tryz.ntmps120
    go_wp2
    go_ret2
    exact ⟨ret_tup H.out.symm rfl, rfl⟩

end Go.Proofs.YteoloapjhlpnjaaGreatDoor
