/- Contracts of multiply, over, divide and MulDiv of the program, and of MulDiv of the model. -/
import Derived.Test.YteoloapjhlpnjaaGreatDoorDivK
import Derived.Test.YteoloapjhlpnjaaGreatDoorSpecDivK
import Derived.RegionTactic
import Derived.ChangeAlike
namespace Go.Proofs.YteoloapjhlpnjaaGreatDoor
open Go.RowKit
set_option linter.unusedVariables false

theorem mul64 (a b : Int) (w : World) (a0 : 0 ≤ a) (a1 : a < 18446744073709551616) (b0 : 0 ≤ b) (b1 : b < 18446744073709551616) :
    Calls Tryz.prog 224 #[.int .u64 a, .int .u64 b] w fun e w' => e = .returned (.tuple #[.int .u64 (a * b / 18446744073709551616), .int .u64 (a * b % 18446744073709551616)]) ∧ w' = w := by
  obtain ⟨x, rfl⟩ := Int.eq_ofNat_of_zero_le a0
  obtain ⟨y, rfl⟩ := Int.eq_ofNat_of_zero_le b0
  refine (Tryz.bits_Mul64 x y (by omega) (by omega) w).mono ?_
  rintro e w' ⟨rfl, hw⟩
  exact ⟨ret_uu (by rw [Int.natCast_ediv, Int.natCast_mul]; rfl) (by rw [Int.natCast_emod, Int.natCast_mul]; rfl), hw⟩

theorem div64' (hi lo y Q R : Int) (w : World) (h0 : 0 ≤ hi) (h1 : hi < y) (h2 : y ≤ 1125899906842624) (l0 : 0 ≤ lo) (l1 : lo < 18446744073709551616) (hQ : (hi * 18446744073709551616 + lo) / y = Q) (hR : (hi * 18446744073709551616 + lo) % y = R) :
    Calls Tryz.prog 225 #[.int .u64 hi, .int .u64 lo, .int .u64 y] w fun e w' => e = .returned (.tuple #[.int .u64 Q, .int .u64 R]) ∧ ∃ n, w' = w.drewN n := by
  subst hQ hR
  exact div64 hi lo y w h0 h1 h2 l0 l1

theorem multiply_ok (a b : Int) (w : World) (ha : amtB a = true) (hb : amtB b = true) :
    Calls Tryz.prog 206 #[.int .i64 a, .int .i64 b] w fun e w' => e = .returned (.tuple #[.agg #[.int .u64 (a * b / 18446744073709551616), .int .u64 (a * b % 18446744073709551616)], .nilIface]) ∧ Keeps w w' := by
  obtain ⟨a0, a1⟩ := amtB_true ha
  obtain ⟨b0, b1⟩ := amtB_true hb
  clear ha hb
  go_enter Tryz.func206, Tryz.ntmps206
  go_wp2_with (first | (go_at_call 224; refine (mul64 a b _ a0 (by omega) b0 (by omega)).mono ?_; rintro e w' ⟨rfl, hw⟩; rw [hw]; clear hw w') | go_in)
  refine bodyPost_ret (v := .tuple #[.agg #[.int .u64 (a * b / 18446744073709551616), .int .u64 (a * b % 18446744073709551616)], .nilIface]) (by simp [results, Tryz.results206, go_sem]) rfl ⟨rfl, ?_⟩
  exact Keeps.alloc (Keeps.refl _) _

theorem multiply_no (a b : Int) (w : World) (u : TypeId) (x : Value) (hg : w.cell? ⟨0, 0, none⟩ = some (.iface u x)) (h : (amtB a && amtB b) = false) :
    Calls Tryz.prog 206 #[.int .i64 a, .int .i64 b] w fun e w' => e = .returned (.tuple #[.agg #[.int .u64 0, .int .u64 0], .iface u x]) ∧ Keeps w w' := by
  have hlt := lt_of_cell hg
  have h' : (a < 0 ∨ 1125899906842624 < a) ∨ ((0 ≤ a ∧ a ≤ 1125899906842624) ∧ (b < 0 ∨ ¬ b ≤ 1125899906842624)) := by
    simp [amtB] at h; omega
  clear h
  rcases h' with (h | h) | ⟨⟨h1, h2⟩, (h | h)⟩
  all_goals
    go_enter Tryz.func206, Tryz.ntmps206
    go_wp2
    go_region
    all_goals go_wp2
    all_goals (refine bodyPost_ret (v := .tuple #[.agg #[.int .u64 0, .int .u64 0], .iface u x]) (by simp [results, Tryz.results206, go_sem]) rfl ⟨rfl, ?_⟩; exact Keeps.drew (Keeps.alloc (Keeps.refl _) _))

theorem over_divisor (h l c : Int) (w : World) (u : TypeId) (x : Value) (hg : w.cell? ⟨1, 0, none⟩ = some (.iface u x)) (hc : c < 1 ∨ 1125899906842624 < c) :
    Calls Tryz.prog 207 #[.agg #[.int .u64 h, .int .u64 l], .int .i64 c] w fun e w' => e = .returned (.tuple #[.int .i64 0, .int .i64 0, .iface u x]) ∧ Keeps w w' := by
  have hlt := lt_of_cell hg
  rcases hc with hc | hc
  all_goals
    go_enter Tryz.func207, Tryz.ntmps207
    go_wp2
    go_quiet (fail)
    go_wp2
    go_ret3
    exact ⟨rfl, Keeps.drewN (Keeps.alloc (Keeps.refl _) _) _⟩

theorem over_big (h l c : Int) (w : World) (u : TypeId) (x : Value) (hg : w.cell? ⟨0, 0, none⟩ = some (.iface u x)) (c0 : 1 ≤ c) (c1 : c ≤ 1125899906842624) (hc : c ≤ h) :
    Calls Tryz.prog 207 #[.agg #[.int .u64 h, .int .u64 l], .int .i64 c] w fun e w' => e = .returned (.tuple #[.int .i64 0, .int .i64 0, .iface u x]) ∧ Keeps w w' := by
  have hlt := lt_of_cell hg
  go_enter Tryz.func207, Tryz.ntmps207
  go_wp2
  go_quiet (fail)
  go_wp2
  go_ret3
  exact ⟨rfl, Keeps.drewN (Keeps.alloc (Keeps.refl _) _) _⟩

theorem over_more (h l c Q R : Int) (w : World) (u : TypeId) (x : Value) (hg : w.cell? ⟨0, 0, none⟩ = some (.iface u x)) (h0 : 0 ≤ h) (l0 : 0 ≤ l) (l1 : l < 18446744073709551616) (c0 : 1 ≤ c) (c1 : c ≤ 1125899906842624) (hc : h < c)
    (hQ : Hid ((h * 18446744073709551616 + l) / c = Q)) (hR : Hid ((h * 18446744073709551616 + l) % c = R)) (hm : 1125899906842624 < Q) :
    Calls Tryz.prog 207 #[.agg #[.int .u64 h, .int .u64 l], .int .i64 c] w fun e w' => e = .returned (.tuple #[.int .i64 0, .int .i64 0, .iface u x]) ∧ Keeps w w' := by
  have hlt := lt_of_cell hg
  go_enter Tryz.func207, Tryz.ntmps207
  go_wp2_with (go_at_call 225; refine (div64' h l c Q R _ h0 hc c1 l0 l1 hQ.out hR.out).mono ?_; rintro e w' ⟨rfl, n, rfl⟩)
  go_quiet (fail)
  go_wp2
  go_ret3
  exact ⟨rfl, Keeps.drewN (Keeps.drewN (Keeps.alloc (Keeps.refl _) _) _) _⟩

theorem over_ok (h l c Q R : Int) (w : World) (h0 : 0 ≤ h) (l0 : 0 ≤ l) (l1 : l < 18446744073709551616) (c0 : 1 ≤ c) (c1 : c ≤ 1125899906842624) (hc : h < c)
    (hQ : Hid ((h * 18446744073709551616 + l) / c = Q)) (hR : Hid ((h * 18446744073709551616 + l) % c = R)) (hq : 0 ≤ Q) (hm : Q ≤ 1125899906842624) (hr : 0 ≤ R) (hr1 : R < c) :
    Calls Tryz.prog 207 #[.agg #[.int .u64 h, .int .u64 l], .int .i64 c] w fun e w' => e = .returned (.tuple #[.int .i64 Q, .int .i64 R, .nilIface]) ∧ Keeps w w' := by
  go_enter Tryz.func207, Tryz.ntmps207
  go_wp2_with (go_at_call 225; refine (div64' h l c Q R _ h0 hc c1 l0 l1 hQ.out hR.out).mono ?_; rintro e w' ⟨rfl, n, rfl⟩)
  go_ret3
  exact ⟨rfl, Keeps.drewN (Keeps.alloc (Keeps.refl _) _) _⟩
end Go.Proofs.YteoloapjhlpnjaaGreatDoor
