/- Contracts of divide, MulDiv, share, feeDown, feeUp, Fee and FeeUp of the program, and of MulDiv, l01Fee, Fee and FeeUp of the model. -/
import Derived.Test.YteoloapjhlpnjaaGreatDoorMulsK
namespace Go.Proofs.YteoloapjhlpnjaaGreatDoor
open Go.RowKit
set_option linter.unusedVariables false


/-- Is the part of the product an amount? -/
def divB (a b c : Int) : Bool := amtB a && amtB b && (decide (1 ≤ c) && decide (c ≤ 1125899906842624)) && decide (a * b / c ≤ 1125899906842624)
def divV (a b c : Int) : Int := if divB a b c = true then a * b / c else 0
theorem divB_true {a b c : Int} (h : divB a b c = true) : amtB a = true ∧ amtB b = true ∧ 1 ≤ c ∧ c ≤ 1125899906842624 ∧ a * b / c ≤ 1125899906842624 := by
  simp [divB] at h; exact ⟨h.1.1.1, h.1.1.2, h.1.2.1, h.1.2.2, h.2⟩

theorem hi_lo (X : Int) : X / 18446744073709551616 * 18446744073709551616 + X % 18446744073709551616 = X := by omega
theorem hi_small {X c : Int} (c0 : 1 ≤ c) (h : X / c ≤ 1125899906842624) : X / 18446744073709551616 < c := by
  have h1 : X < (1125899906842624 + 1) * c := by rw [← Int.ediv_lt_iff_lt_mul (by omega)]; omega
  rw [Int.ediv_lt_iff_lt_mul (by omega)]; omega

theorem divide_ok (a b c : Int) (w : World) (h : divB a b c = true) :
    Calls Tryz.prog 174 #[.int .i64 a, .int .i64 b, .int .i64 c] w fun e w' => e = .returned (.tuple #[.int .i64 (a * b / c), .int .i64 (a * b % c), .nilIface]) ∧ Keeps w w' := by
  obtain ⟨ha, hb, c0, c1, hm⟩ := divB_true h
  obtain ⟨a0, a1⟩ := amtB_true ha
  obtain ⟨b0, b1⟩ := amtB_true hb
  have p0 : 0 ≤ a * b := Int.mul_nonneg a0 b0
  have q0 : 0 ≤ a * b / c := Int.ediv_nonneg p0 (by omega)
  have r0 := Int.emod_nonneg (a * b) (show c ≠ 0 by omega)
  have r1 := Int.emod_lt_of_pos (a * b) (show 0 < c by omega)
  have hs := hi_small c0 hm
  have e := hi_lo (a * b)
  have H1 : Hid ((a * b / 18446744073709551616 * 18446744073709551616 + a * b % 18446744073709551616) / c = a * b / c) := by show _ = _; rw [e]
  have H2 : Hid ((a * b / 18446744073709551616 * 18446744073709551616 + a * b % 18446744073709551616) % c = a * b % c) := by show _ = _; rw [e]
  clear e h
  have g0 : 0 ≤ a * b / 18446744073709551616 := by omega
  have g1 : 0 ≤ a * b % 18446744073709551616 := by omega
  have g2 : a * b % 18446744073709551616 < 18446744073709551616 := by omega
  have hM := multiply_ok a b w ha hb
  have hO := fun w1 => over_ok (a * b / 18446744073709551616) (a * b % 18446744073709551616) c (a * b / c) (a * b % c) w1 g0 g1 g2 c0 c1 hs H1 H2 q0 hm r0 r1
  have HM := hide hM
  have HO := hide hO
  clear hM hO
  generalize a * b / 18446744073709551616 = h at *
  generalize a * b % 18446744073709551616 = l at *
  generalize a * b / c = Q at *
  generalize a * b % c = R at *
  go_enter Tryz.func174, Tryz.ntmps174
  go_wp2_with (first | (go_at_call 206; refine (unhide HM).mono ?_; rintro e w1 ⟨rfl, hk⟩) | (go_at_call 207; refine (unhide HO _).mono ?_; rintro e w2 ⟨rfl, hk2⟩))
  go_ret3
  exact ⟨rfl, (Keeps.alloc hk _).trans hk2⟩

theorem divide_no (a b c : Int) (w : World) (u0 u3 : TypeId) (x0 x3 : Value) (hg0 : w.cell? ⟨0, 0, none⟩ = some (.iface u0 x0)) (hg3 : w.cell? ⟨1, 0, none⟩ = some (.iface u3 x3)) (h : divB a b c = false) :
    Calls Tryz.prog 174 #[.int .i64 a, .int .i64 b, .int .i64 c] w fun e w' => (∃ u x, e = .returned (.tuple #[.int .i64 0, .int .i64 0, .iface u x])) ∧ Keeps w w' := by
  cases hab : amtB a && amtB b
  · have HM := hide (multiply_no a b w u0 x0 hg0 hab)
    go_enter Tryz.func174, Tryz.ntmps174
    go_wp2_with (first | (go_at_call 206; refine (unhide HM).mono ?_; rintro e w1 ⟨rfl, hk⟩))
    go_ret3
    exact ⟨⟨_, _, rfl⟩, Keeps.alloc hk _⟩
  · have HM := hide (multiply_ok a b w (by simp at hab; exact hab.1) (by simp at hab; exact hab.2))
    have ha0 : 0 ≤ a := (amtB_true (n := a) (by simp at hab; exact hab.1)).1
    have hb0 : 0 ≤ b := (amtB_true (n := b) (by simp at hab; exact hab.2)).1
    have p0 : 0 ≤ a * b := Int.mul_nonneg ha0 hb0
    have g0 : 0 ≤ a * b / 18446744073709551616 := by omega
    have g1 : 0 ≤ a * b % 18446744073709551616 := by omega
    have g2 : a * b % 18446744073709551616 < 18446744073709551616 := by omega
    have HO : Hid (∀ w1 : World, w1.cell? ⟨0, 0, none⟩ = some (.iface u0 x0) → w1.cell? ⟨1, 0, none⟩ = some (.iface u3 x3) →
        Calls Tryz.prog 207 #[.agg #[.int .u64 (a * b / 18446744073709551616), .int .u64 (a * b % 18446744073709551616)], .int .i64 c] w1 fun e w' => (∃ u x, e = .returned (.tuple #[.int .i64 0, .int .i64 0, .iface u x])) ∧ Keeps w1 w') := by
      intro w1 k0 k3
      by_cases hc : c < 1 ∨ 1125899906842624 < c
      · refine (over_divisor _ _ c w1 u3 x3 k3 hc).mono ?_
        rintro e w' ⟨rfl, hk⟩
        exact ⟨⟨_, _, rfl⟩, hk⟩
      · by_cases hb : c ≤ a * b / 18446744073709551616
        · refine (over_big _ _ c w1 u0 x0 k0 (by omega) (by omega) hb).mono ?_
          rintro e w' ⟨rfl, hk⟩
          exact ⟨⟨_, _, rfl⟩, hk⟩
        · have hm : 1125899906842624 < a * b / c := by
            simp only [divB, hab, Bool.true_and] at h
            simp at h; omega
          refine (over_more _ _ c (a * b / c) (a * b % c) w1 u0 x0 k0 g0 g1 g2 (by omega) (by omega) (by omega) ?_ ?_ hm).mono ?_
          · show _ = _; rw [hi_lo]
          · show _ = _; rw [hi_lo]
          · rintro e w' ⟨rfl, hk⟩
            exact ⟨⟨_, _, rfl⟩, hk⟩
    clear h hab
    generalize a * b / 18446744073709551616 = h at *
    generalize a * b % 18446744073709551616 = l at *
    go_enter Tryz.func174, Tryz.ntmps174
    go_wp2_with (first | (go_at_call 206; refine (unhide HM).mono ?_; rintro e w1 ⟨rfl, hk⟩) | (go_at_call 207; refine (unhide HO _ (cell?_alloc_old _ (hk.cell hg0)) (cell?_alloc_old _ (hk.cell hg3))).mono ?_; rintro e w2 ⟨⟨u, x, rfl⟩, hk2⟩))
    go_ret3
    exact ⟨⟨_, _, rfl⟩, (Keeps.alloc hk _).trans hk2⟩

theorem mulDiv_impl (a b c : Int) (w : World) (u0 u3 : TypeId) (x0 x3 : Value) (hg0 : w.cell? ⟨0, 0, none⟩ = some (.iface u0 x0)) (hg3 : w.cell? ⟨1, 0, none⟩ = some (.iface u3 x3)) :
    Calls Tryz.prog 133 #[.int .i64 a, .int .i64 b, .int .i64 c] w fun e w' => e = .returned (.tuple #[.int .i64 (divV a b c), .bool (divB a b c)]) ∧ Keeps w w' := by
  cases h : divB a b c
  · have H : Hid (divV a b c = 0) := by show _ = _; simp [divV, h]
    have HD := hide (divide_no a b c w u0 u3 x0 x3 hg0 hg3 h)
    go_enter Tryz.func133, Tryz.ntmps133
    go_wp2_with (first | (go_at_call 174; refine (unhide HD).mono ?_; rintro e w1 ⟨⟨u, x, rfl⟩, hk⟩) | (go_at_call 175; refine (told_no _ _ _ _).mono ?_; rintro e w' ⟨rfl, rfl⟩))
    go_ret2
    exact ⟨ret_tup H.out.symm rfl, hk⟩
  · have H : Hid (divV a b c = a * b / c) := by show _ = _; simp [divV, h]
    have HD := hide (divide_ok a b c w h)
    go_enter Tryz.func133, Tryz.ntmps133
    go_wp2_with (first | (go_at_call 174; refine (unhide HD).mono ?_; rintro e w1 ⟨rfl, hk⟩) | (go_at_call 175; refine (told_ok _ _).mono ?_; rintro e w' ⟨rfl, rfl⟩))
    go_ret2
    exact ⟨ret_tup H.out.symm rfl, hk⟩

theorem mulDiv_spec (a b c : Int) (w : World) :
    Calls Tryz.prog 103 #[.int .i64 a, .int .i64 b, .int .i64 c] w fun e w' => e = .returned (.tuple #[.int .i64 (divV a b c), .bool (divB a b c)]) ∧ w' = w := by
  by_cases g : (0 ≤ a ∧ a ≤ 1125899906842624) ∧ (0 ≤ b ∧ b ≤ 1125899906842624) ∧ 1 ≤ c ∧ c ≤ 1125899906842624
  · obtain ⟨⟨a0, a1⟩, ⟨b0, b1⟩, c0, c1⟩ := g
    have ea : amtB a = true := amtB_yes a0 a1
    have eb : amtB b = true := amtB_yes b0 b1
    have HL := hide (l01Div_any a b c w a0 a1 b0 b1 c0 c1)
    have H1 : Hid (∀ h : a * b / c ≤ 1125899906842624, divB a b c = true ∧ divV a b c = a * b / c) := by
      intro h
      have : divB a b c = true := by simp [divB, ea, eb, c0, c1, h]
      exact ⟨this, by simp [divV, this]⟩
    have H2 : Hid (∀ h : 1125899906842624 < a * b / c, divB a b c = false ∧ divV a b c = 0) := by
      intro h
      have : divB a b c = false := by simp [divB]; omega
      exact ⟨this, by simp [divV, this]⟩
    clear ea eb
    go_enter Tryz.func103, Tryz.ntmps103
    go_wp2_with (first | (go_at_call 134; refine (unhide HL).mono ?_; rintro e w1 ⟨⟨hq, rfl⟩ | ⟨hq, rfl⟩, hw⟩ <;> rw [hw] <;> clear hw w1) | go_in)
    · go_ret2
      exact ⟨ret_tup (H1.out hq).2.symm (H1.out hq).1.symm, rfl⟩
    · go_ret2
      exact ⟨ret_tup (H2.out hq).2.symm (H2.out hq).1.symm, rfl⟩
  · have e : divB a b c = false := by simp [divB, amtB]; omega
    have E1 : Hid (divB a b c = false) := e
    have E2 : Hid (divV a b c = 0) := by show _ = _; simp [divV, e]
    clear e
    have g' : (a < 0 ∨ ¬ a ≤ 1125899906842624) ∨ ((0 ≤ a ∧ a ≤ 1125899906842624) ∧ ((b < 0 ∨ ¬ b ≤ 1125899906842624) ∨ ((0 ≤ b ∧ b ≤ 1125899906842624) ∧ (c < 1 ∨ (1 ≤ c ∧ 1125899906842624 < c))))) := by omega
    clear g
    rcases g' with (h | h) | ⟨⟨h1, h2⟩, (h | h) | ⟨⟨h3, h4⟩, h | ⟨h5, h⟩⟩⟩
    all_goals
      go_enter Tryz.func103, Tryz.ntmps103
      go_wp2
      go_ret2
      exact ⟨ret_tup E2.out.symm E1.out.symm, rfl⟩
end Go.Proofs.YteoloapjhlpnjaaGreatDoor
