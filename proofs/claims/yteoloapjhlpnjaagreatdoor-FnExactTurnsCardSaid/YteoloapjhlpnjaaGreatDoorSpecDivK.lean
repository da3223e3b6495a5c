/- The contract of the model's l01Div: quotient and rest of a times b by c, bit by bit, or nothing where the quotient is above MaxAmt. -/
import Derived.Test.YteoloapjhlpnjaaGreatDoorBaseK
import Derived.Test.YteoloapjhlpnjaaGreatDoorMath
namespace Go.Proofs.YteoloapjhlpnjaaGreatDoor
open Go.RowKit
set_option linter.unusedVariables false

theorem and_one (x : Int) (h0 : 0 ≤ x) (h1 : x ≤ 1125899906842624) : bits .and .i64 x 1 = x % 2 := by
  obtain ⟨n, rfl⟩ := Int.eq_ofNat_of_zero_le h0
  have h2 : (BitVec.ofInt 64 (n : Int)).toNat = n := by
    rw [BitVec.ofInt_natCast, BitVec.toNat_ofNat]; exact Nat.mod_eq_of_lt (by omega)
  show IntKind.i64.wrap ((BitVec.ofInt 64 (n : Int) &&& BitVec.ofInt 64 1).toNat : Int) = _
  have h3 : (BitVec.ofInt 64 1).toNat = 1 := by decide
  rw [BitVec.toNat_and, h2, h3, Nat.and_one_is_mod]
  simp [IntKind.wrap, IntKind.bits, IntKind.signed]
  omega

theorem half (a : Int) (m : Nat) (h : 0 ≤ a) : a / 2 ^ m = 2 * (a / 2 ^ (m + 1)) + a / 2 ^ m % 2 := by
  have e : a / 2 ^ (m + 1) = a / 2 ^ m / 2 := by
    rw [Int.pow_succ, Int.ediv_ediv_of_nonneg (Int.le_of_lt (Int.pow_pos (by omega)))]
  rw [e]; omega
theorem sh_le (a : Int) (m : Nat) (h : 0 ≤ a) : 0 ≤ a / 2 ^ m ∧ a / 2 ^ m ≤ a := ⟨Int.ediv_nonneg h (Int.le_of_lt (Int.pow_pos (by omega))), Int.ediv_le_self _ h⟩

theorem step0 {q r c A b A1 : Int} (h : q * c + r = A * b) (e : A1 = 2 * A + 0) : 2 * q * c + 2 * r = A1 * b := by
  rw [e, Int.add_zero, Int.mul_assoc, Int.mul_assoc, ← h]; omega
theorem step1 {q r c A b A1 : Int} (h : q * c + r = A * b) (e : A1 = 2 * A + 1) : (2 * q + b / c) * c + (2 * r + b % c) = A1 * b := by
  have d := Int.emod_add_mul_ediv b c
  rw [e, Int.add_mul, Int.add_mul, Int.mul_assoc, Int.mul_assoc 2 A b, ← h, Int.one_mul, Int.mul_comm (b / c) c]; omega
theorem less1 {q r c X : Int} (h : q * c + r = X) : (q + 1) * c + (r - c) = X := by rw [Int.add_mul]; omega
theorem less2 {q r c X : Int} (h : q * c + r = X) : (q + 2) * c + (r - 2 * c) = X := by rw [Int.add_mul]; omega
/-- a quotient of a part is no greater than that of the whole -/
theorem over_part {q r c A1 a b : Int} (h : q * c + r = A1 * b) (r0 : 0 ≤ r) (hA : A1 ≤ a) (hb : 0 ≤ b) (hc : 0 < c) : q ≤ a * b / c := by
  have : A1 * b ≤ a * b := Int.mul_le_mul_of_nonneg_right hA hb
  rw [Int.le_ediv_iff_mul_le hc]; omega
theorem the_end {q r c a b : Int} (h : q * c + r = a / 2 ^ 0 * b) (r0 : 0 ≤ r) (r1 : r < c) : a * b / c = q ∧ a * b % c = r := by
  have e : a / 2 ^ 0 = a := by simp
  rw [e] at h
  exact KM.div_unique (a * b) c q r h.symm r0 r1

theorem ret_iib {a a' b b' : Int} {x x' : Bool} (h : a = a') (h' : b = b') (h'' : x = x') : Ending.returned (.tuple #[.int .i64 a, .int .i64 b, .bool x]) = .returned (.tuple #[.int .i64 a', .int .i64 b', .bool x']) := by rw [h, h', h'']

set_option maxHeartbeats 2000000 in
theorem l01Div_any (a b c : Int) (w : World) (a0 : 0 ≤ a) (a1 : a ≤ 1125899906842624) (b0 : 0 ≤ b) (b1 : b ≤ 1125899906842624) (c0 : 1 ≤ c) (c1 : c ≤ 1125899906842624) :
    Calls Tryz.prog 134 #[.int .i64 a, .int .i64 b, .int .i64 c] w fun e w' => ((a * b / c ≤ 1125899906842624 ∧ e = .returned (.tuple #[.int .i64 (a * b / c), .int .i64 (a * b % c), .bool true])) ∨ (1125899906842624 < a * b / c ∧ e = .returned (.tuple #[.int .i64 0, .int .i64 0, .bool false]))) ∧ w' = w := by
  have bq0 : 0 ≤ b / c := Int.ediv_nonneg b0 (by omega)
  have bq1 : b / c ≤ b := Int.ediv_le_self _ b0
  have br0 := Int.emod_nonneg b (show c ≠ 0 by omega)
  have br1 := Int.emod_lt_of_pos b (show 0 < c by omega)
  go_enter Tryz.func134, Tryz.ntmps134
  go_wp2
  go_loop [9, 10, 11] (fun x y z => ∃ (q r i : Int) (n : Nat), Hid (i = (n : Int) - 1) ∧ n ≤ 51 ∧ -1 ≤ i ∧ i ≤ 50 ∧ Hid (q * c + r = a / 2 ^ n * b) ∧ 0 ≤ r ∧ r < c ∧ 0 ≤ q ∧ q ≤ 1125899906842624 ∧ x = .int .i64 q ∧ y = .int .i64 r ∧ z = .int .i64 i) (fun _ _ z => (intOf z + 1).toNat)
  case atStart => 
    refine ⟨0, 0, 50, 51, by show _ = _; rfl, by omega, by omega, by omega, ?_, by omega, by omega, by omega, by omega, rfl, rfl, rfl⟩
    show _ = _
    have : a / 2 ^ 51 = 0 := Int.ediv_eq_zero_of_lt a0 (by omega)
    rw [this]; omega
  case round =>
    obtain ⟨q, r, i, n, HI, hn, i0, i1, HR, r0, r1, q0, q1, rfl, rfl, rfl⟩ := hrel
    by_cases hi : 0 ≤ i
    · obtain ⟨m, hm⟩ : ∃ m, n = m + 1 := ⟨n - 1, by have := HI.out; omega⟩
      subst hm
      have him : i.toNat = m := by have := HI.out; omega
      have hh := half a m a0
      obtain ⟨g0, g1⟩ := sh_le a m a0
      have hbit := and_one (a / 2 ^ m) g0 (by omega)
      have hsh : a / 2 ^ i.toNat = a / 2 ^ m := by rw [him]
      have HI2 : Hid (i - 1 = (m : Int) - 1) := by show _ = _; have := HI.out; omega
      generalize hA1 : a / 2 ^ m = A1 at *
      have HA1 : Hid (a / 2 ^ m = A1) := hA1
      clear hA1 him
      obtain ⟨q2, r2, HS, q20, q21, r20, r21, hw⟩ : ∃ q2 r2 : Int, Hid (q2 * c + r2 = A1 * b) ∧ 0 ≤ q2 ∧ q2 ≤ 3377699720527872 ∧ 0 ≤ r2 ∧ r2 < 3 * c ∧ ((A1 % 2 = 0 ∧ 2 * q = q2 ∧ 2 * r = r2) ∨ (A1 % 2 = 1 ∧ 2 * q + b / c = q2 ∧ 2 * r + b % c = r2)) := by
        rcases (show A1 % 2 = 0 ∨ A1 % 2 = 1 by omega) with hb2 | hb2
        · rw [hb2] at hh
          exact ⟨2 * q, 2 * r, step0 HR.out hh, by omega, by omega, by omega, by omega, Or.inl ⟨hb2, rfl, rfl⟩⟩
        · rw [hb2] at hh
          exact ⟨2 * q + b / c, 2 * r + b % c, step1 HR.out hh, by omega, by omega, by omega, by omega, Or.inr ⟨hb2, rfl, rfl⟩⟩
      have HO1 := fun (x y : Int) (e : x * c + y = A1 * b) (y0 : 0 ≤ y) => over_part (q := x) (r := y) (c := c) (A1 := A1) (a := a) (b := b) e y0 (by omega) b0 (by omega)
      have HO : Hid (∀ x y : Int, x * c + y = A1 * b → 0 ≤ y → x ≤ a * b / c) := HO1
      clear hh HR HO1
      rcases hw with ⟨hb2, eq2, er2⟩ | ⟨hb2, eq2, er2⟩
      all_goals
        rw [hb2] at hbit
        clear hb2
        go_wp2_with fail
        clear eq2 er2
        go_loop [9, 10] (fun x y => ∃ q r : Int, ((q = q2 ∧ r = r2) ∨ (q = q2 + 1 ∧ r = r2 - c) ∨ (q = q2 + 2 ∧ r = r2 - 2 * c)) ∧ 0 ≤ r ∧ x = .int .i64 q ∧ y = .int .i64 r) (fun _ y => (intOf y).toNat)
        case atStart => exact ⟨q2, r2, Or.inl ⟨rfl, rfl⟩, r20, rfl, rfl⟩
        case round =>
          obtain ⟨q3, r3, hc3, r30, rfl, rfl⟩ := hrel
          have q3b : q3 ≤ 3377699720527874 := by omega
          have q3a : 0 ≤ q3 := by omega
          have HS3 : Hid (q3 * c + r3 = A1 * b) := by
            rcases hc3 with ⟨rfl, rfl⟩ | ⟨rfl, rfl⟩ | ⟨rfl, rfl⟩
            · exact HS.out
            · exact less1 HS.out
            · exact less2 HS.out
          have r3b : r3 < 3 * c := by omega
          have HC : Hid ((q3 = q2 ∧ r3 = r2) ∨ (q3 = q2 + 1 ∧ r3 = r2 - c) ∨ (q3 = q2 + 2 ∧ r3 = r2 - 2 * c)) := hc3
          clear hc3
          by_cases t : c ≤ r3
          · go_wp2_with fail
            go_round
            case rel => exact ⟨q3 + 1, r3 - c, by have := HC.out; omega, by omega, rfl, rfl⟩
            case measure => simp [intOf]; omega
          · by_cases tm : 1125899906842624 < q3
            · go_wp2_with fail
              go_ret3
              exact ⟨Or.inr ⟨by have := HO.out q3 r3 HS3.out r30; omega, rfl⟩, rfl⟩
            · go_wp2_with fail
              go_round
              case rel => exact ⟨q3, r3, i - 1, m, HI2, by omega, by omega, by omega, by show _ = _; rw [HA1.out]; exact HS3.out, r30, by omega, q3a, by omega, rfl, rfl, rfl⟩
              case measure => simp [intOf]; omega
    · have hn0 : n = 0 := by have := HI.out; omega
      subst hn0
      obtain ⟨e1, e2⟩ := the_end HR.out r0 r1
      have E1 : Hid (a * b / c = q) := e1
      have E2 : Hid (a * b % c = r) := e2
      clear e1 e2
      go_wp2_with fail
      go_ret3
      exact ⟨Or.inl ⟨by rw [E1.out]; exact q1, ret_iib E1.out.symm E2.out.symm rfl⟩, rfl⟩
end Go.Proofs.YteoloapjhlpnjaaGreatDoor
