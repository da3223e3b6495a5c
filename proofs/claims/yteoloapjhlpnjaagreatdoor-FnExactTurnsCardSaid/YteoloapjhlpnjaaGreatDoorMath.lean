/- Plain arithmetic: a division of two words by one, digit by digit (base 2^32), and the scaling ahead of it. -/
import Derived.Laws.Bits64b
import Derived.Lib.ItoaNum
namespace Go.Proofs.YteoloapjhlpnjaaGreatDoor.KM
set_option linter.unusedVariables false

theorem digit_test (B y1 y0 u d q r : Int) (hu : q * y1 + r = u) : (u * B + d) - q * (y1 * B + y0) = B * r + d - q * y0 := by
  subst hu
  have e1 : (q * y1 + r) * B = q * (y1 * B) + r * B := by rw [Int.add_mul, Int.mul_assoc]
  have e2 : q * (y1 * B + y0) = q * (y1 * B) + q * y0 := by rw [Int.mul_add]
  have e3 : B * r = r * B := Int.mul_comm _ _
  omega

theorem div_unique (n y q r : Int) (h : n = q * y + r) (h0 : 0 ≤ r) (h1 : r < y) : n / y = q ∧ n % y = r := by
  subst h
  have hy : y ≠ 0 := by omega
  constructor
  · rw [Int.add_comm, Int.add_mul_ediv_right _ _ hy, Int.ediv_eq_zero_of_lt h0 h1]; omega
  · rw [Int.add_comm, Int.add_mul_emod_self_right, Int.emod_eq_of_lt h0 h1]

theorem le_div (n y q : Int) (hy : 0 < y) : q * y ≤ n ↔ q ≤ n / y := (Int.le_ediv_iff_mul_le hy).symm

/-- the digit that is looked for is below 2^32 -/
theorem dig_small (y u d : Int) (hu0 : 0 ≤ u) (hu : u < y) (hd0 : 0 ≤ d) (hd : d < 4294967296) : 0 ≤ (u * 4294967296 + d) / y ∧ (u * 4294967296 + d) / y < 4294967296 := by
  have hy : 0 < y := by omega
  constructor
  · exact Int.ediv_nonneg (by omega) (by omega)
  · rw [Int.ediv_lt_iff_lt_mul hy]; omega

/-- the first guess -/
theorem dig_first (y y1 y0 u d : Int) (hy : y = y1 * 4294967296 + y0) (h0 : 0 ≤ y0) (h0' : y0 < 4294967296) (h1 : 2147483648 ≤ y1) (h1' : y1 < 4294967296) (hu0 : 0 ≤ u) (hu : u < y) (hd0 : 0 ≤ d) (hd : d < 4294967296) :
    u / y1 * y1 + (u - u / y1 * y1) = u ∧ (u * 4294967296 + d) / y ≤ u / y1 ∧ 0 ≤ u / y1 ∧ u / y1 ≤ 4294967297 ∧ 0 ≤ u - u / y1 * y1 ∧ u - u / y1 * y1 < y1 := by
  have a := Int.emod_nonneg u (show y1 ≠ 0 by omega)
  have b := Int.emod_lt_of_pos u (show 0 < y1 by omega)
  have c : u - u / y1 * y1 = u % y1 := by have := Int.emod_def u y1; rw [Int.mul_comm] at this; omega
  have hq0 : 0 ≤ u / y1 := Int.ediv_nonneg hu0 (by omega)
  refine ⟨by omega, ?_, hq0, ?_, by omega, by omega⟩
  · have hyp : 0 < y := by omega
    have : (u * 4294967296 + d) / y < u / y1 + 1 := by
      rw [Int.ediv_lt_iff_lt_mul hyp]
      have e : (u / y1 + 1) * y = (u / y1 * y1 + y1) * 4294967296 + (u / y1 + 1) * y0 := by
        subst hy
        rw [Int.mul_add, Int.add_mul (u / y1) 1, ← Int.mul_assoc, Int.one_mul, Int.add_mul (u / y1 * y1)]
      have hp : 0 ≤ (u / y1 + 1) * y0 := Int.mul_nonneg (by omega) h0
      omega
    omega
  · have : u / y1 < 4294967298 := by
      rw [Int.ediv_lt_iff_lt_mul (by omega)]; omega
    omega

theorem dig_more (y y1 y0 u d q r : Int) (hy : y = y1 * 4294967296 + y0) (h0 : 0 ≤ y0) (h1 : 2147483648 ≤ y1) (hu0 : 0 ≤ u) (hu : u < y) (hd0 : 0 ≤ d) (hd : d < 4294967296) (hr : q * y1 + r = u)
    (t : 4294967296 ≤ q ∨ 4294967296 * r + d < q * y0) : (u * 4294967296 + d) / y ≤ q - 1 := by
  have hyp : 0 < y := by omega
  have hs := dig_small y u d hu0 hu hd0 hd
  rcases t with t | t
  · omega
  · have e := digit_test 4294967296 y1 y0 u d q r hr
    rw [← hy] at e
    have : (u * 4294967296 + d) / y < q := by rw [Int.ediv_lt_iff_lt_mul hyp]; omega
    omega

theorem dig_done (y y1 y0 u d q r : Int) (hy : y = y1 * 4294967296 + y0) (h0 : 0 ≤ y0) (h1 : 2147483648 ≤ y1) (hr : q * y1 + r = u) (hQ : (u * 4294967296 + d) / y ≤ q)
    (t : q * y0 ≤ 4294967296 * r + d) : (u * 4294967296 + d) / y = q := by
  have hyp : 0 < y := by omega
  have e := digit_test 4294967296 y1 y0 u d q r hr
  rw [← hy] at e
  have : q ≤ (u * 4294967296 + d) / y := by rw [← le_div _ _ _ hyp]; omega
  omega

theorem dig_break (y y1 y0 u d q r : Int) (hy : y = y1 * 4294967296 + y0) (h0 : 0 ≤ y0) (h0' : y0 < 4294967296) (h1 : 2147483648 ≤ y1) (hr : q * y1 + r = u) (hQ : (u * 4294967296 + d) / y ≤ q) (hd0 : 0 ≤ d) (hq : q ≤ 4294967296) (hq0 : 0 ≤ q)
    (t : 4294967296 ≤ r) : (u * 4294967296 + d) / y = q := by
  apply dig_done y y1 y0 u d q r hy h0 h1 hr hQ
  have : q * y0 ≤ 4294967296 * y0 := Int.mul_le_mul_of_nonneg_right hq h0
  omega

theorem two_digits (N y u d1 d0 : Int) (hN : N = (u * 4294967296 + d1) * 4294967296 + d0) (hy : 0 < y) :
    N / y = (u * 4294967296 + d1) / y * 4294967296 + ((u * 4294967296 + d1) % y * 4294967296 + d0) / y ∧ N % y = ((u * 4294967296 + d1) % y * 4294967296 + d0) % y := by
  generalize hU : u * 4294967296 + d1 = U at *
  have a := Int.emod_add_mul_ediv U y
  have b := Int.emod_add_mul_ediv (U % y * 4294967296 + d0) y
  have c := Int.emod_nonneg (U % y * 4294967296 + d0) (show y ≠ 0 by omega)
  have d := Int.emod_lt_of_pos (U % y * 4294967296 + d0) hy
  generalize (U % y * 4294967296 + d0) / y = Q0 at *
  generalize (U % y * 4294967296 + d0) % y = R0 at *
  generalize U / y = Q1 at *
  generalize U % y = R1 at *
  apply div_unique _ _ _ _ _ c d
  rw [hN, Int.add_mul, Int.mul_assoc, Int.mul_comm 4294967296 y, ← Int.mul_assoc]
  have e1 : y * Q1 = Q1 * y := Int.mul_comm _ _
  have e2 : y * Q0 = Q0 * y := Int.mul_comm _ _
  omega

theorem scaled (N c p : Int) (hc : 0 < c) (hp : 0 < p) : (N * p) / (c * p) = N / c ∧ (N * p) % (c * p) = N % c * p := by
  have a := Int.emod_nonneg N (show c ≠ 0 by omega)
  have b := Int.emod_lt_of_pos N hc
  have e := Int.emod_add_mul_ediv N c
  refine div_unique (N * p) (c * p) (N / c) (N % c * p) ?_ (Int.mul_nonneg a (by omega)) (Int.mul_lt_mul_of_pos_right b hp)
  rw [← Int.mul_assoc, ← Int.add_mul]
  congr 1
  rw [Int.mul_comm (N / c) c]; omega

/-- the two words, scaled by p (p * q = 2^64) -/
theorem norm (hi lo y p q : Int) (hpq : p * q = 18446744073709551616) (hp : 0 < p) (hq : 0 < q) (l0 : 0 ≤ lo) (l1 : lo < 18446744073709551616) (h1 : hi < y) :
    (hi * 18446744073709551616 + lo) * p = (hi * p + lo / q) * 18446744073709551616 + (lo * p) % 18446744073709551616 ∧ hi * p + lo / q < y * p ∧ 0 ≤ lo / q ∧ lo / q < p := by
  have a : 0 ≤ lo / q := Int.ediv_nonneg l0 (by omega)
  have b : lo / q < p := by rw [Int.ediv_lt_iff_lt_mul hq, hpq]; exact l1
  have c : (lo * p) / 18446744073709551616 = lo / q := by
    rw [← hpq, Int.mul_comm p q]; exact (scaled lo q p hq hp).1
  have d := Int.emod_add_mul_ediv (lo * p) 18446744073709551616
  rw [c] at d
  refine ⟨?_, ?_, a, b⟩
  · rw [Int.add_mul, Int.add_mul]
    have e1 : hi * 18446744073709551616 * p = hi * p * 18446744073709551616 := by rw [Int.mul_assoc, Int.mul_comm 18446744073709551616 p, ← Int.mul_assoc]
    omega
  · have e : (hi + 1) * p ≤ y * p := Int.mul_le_mul_of_nonneg_right (by omega) (by omega)
    rw [Int.add_mul] at e
    omega

theorem mask32 (a : Int) (h0 : 0 ≤ a) (h1 : a < 18446744073709551616) : bits .and .u64 a 4294967295 = a % 4294967296 := by
  obtain ⟨n, rfl⟩ := Int.eq_ofNat_of_zero_le h0
  have h := bits_and_u64_nat n 4294967295 (by omega) (by omega)
  have e : n &&& 4294967295 = n % 4294967296 := Nat.and_two_pow_sub_one_eq_mod n 32
  rw [e] at h
  have h' : bits .and .u64 (n : Int) 4294967295 = ((n % 4294967296 : Nat) : Int) := h
  rw [h']; omega

theorem or_shift (hi s b : Nat) (hb : b < 2 ^ s) (h : hi * 2 ^ s + b < 18446744073709551616) : bits .or .u64 ((hi : Int) * 2 ^ s) (b : Int) = (hi : Int) * 2 ^ s + b := by
  have e1 : ((hi : Int) * 2 ^ s) = ((hi * 2 ^ s : Nat) : Int) := by simp
  rw [e1, bits_or_u64_nat _ _ (by omega) (by omega)]
  have := Nat.two_pow_add_eq_or_of_lt hb hi
  rw [Nat.mul_comm hi, ← this]
  simp

theorem bitLen_bd (y : Nat) (h0 : 0 < y) (h1 : y ≤ 1125899906842624) : 1 ≤ Lib.bitLen y ∧ Lib.bitLen y ≤ 51 ∧ 2 ^ (Lib.bitLen y - 1) ≤ y ∧ y < 2 ^ Lib.bitLen y := by
  obtain ⟨a, b, c⟩ := Lib.bitLenAux_bounds 64 y (by omega) (by omega)
  refine ⟨a, ?_, b, c⟩
  rcases Nat.lt_or_ge 51 (Lib.bitLen y) with h | h
  · have : 2 ^ 51 ≤ 2 ^ (Lib.bitLen y - 1) := Nat.pow_le_pow_right (by omega) (by omega)
    have b' : 2 ^ (Lib.bitLen y - 1) ≤ y := b
    omega
  · exact h

/-- the scale -/
theorem scale (y : Int) (h0 : 0 < y) (h1 : y ≤ 1125899906842624) :
    ∃ s : Nat, (64 - (Lib.bitLen y.toNat : Int)) = (s : Int) ∧ 13 ≤ s ∧ s ≤ 63 ∧ 9223372036854775808 ≤ y * 2 ^ s ∧ y * 2 ^ s < 18446744073709551616 := by
  obtain ⟨n, rfl⟩ := Int.eq_ofNat_of_zero_le (Int.le_of_lt h0)
  obtain ⟨a, b, c, d⟩ := bitLen_bd n (by omega) (by omega)
  simp only [Int.toNat_natCast]
  refine ⟨64 - Lib.bitLen n, by omega, by omega, by omega, ?_, ?_⟩
  · have : 2 ^ (Lib.bitLen n - 1) * 2 ^ (64 - Lib.bitLen n) ≤ n * 2 ^ (64 - Lib.bitLen n) := Nat.mul_le_mul_right _ c
    rw [← Nat.pow_add, show Lib.bitLen n - 1 + (64 - Lib.bitLen n) = 63 by omega, show (2 : Nat) ^ 63 = 9223372036854775808 by decide] at this
    have t := Int.ofNat_le.2 this
    rw [Int.natCast_mul, Int.natCast_pow] at t
    exact t
  · have : n * 2 ^ (64 - Lib.bitLen n) < 2 ^ Lib.bitLen n * 2 ^ (64 - Lib.bitLen n) := Nat.mul_lt_mul_of_pos_right d (Nat.two_pow_pos _)
    rw [← Nat.pow_add, show Lib.bitLen n + (64 - Lib.bitLen n) = 64 by omega, show (2 : Nat) ^ 64 = 18446744073709551616 by decide] at this
    have t := Int.ofNat_lt.2 this
    rw [Int.natCast_mul, Int.natCast_pow] at t
    exact t

theorem pow_two (s : Nat) (h : s ≤ 64) : (2 : Int) ^ s * 2 ^ (64 - s) = 18446744073709551616 ∧ 0 < (2 : Int) ^ s ∧ 0 < (2 : Int) ^ (64 - s) := by
  refine ⟨?_, Int.pow_pos (by omega), Int.pow_pos (by omega)⟩
  rw [← Int.pow_add, show s + (64 - s) = 64 by omega]
  rfl
end Go.Proofs.YteoloapjhlpnjaaGreatDoor.KM
