/- The contract of math/bits.Div64 where the divisor is an amount and the quotient fits: quotient and rest of the two words. -/
import Derived.Test.YteoloapjhlpnjaaGreatDoorBaseK
import Derived.Test.YteoloapjhlpnjaaGreatDoorMath
import Derived.Test.YteoloapjhlpnjaaGreatDoorShelfA
import Derived.Deep.CutBlock
namespace Go.Proofs.YteoloapjhlpnjaaGreatDoor
open Go.RowKit
set_option linter.unusedVariables false
theorem dec_rel {q1 r y1 u : Int} (h : q1 * y1 + r = u) : (q1 - 1) * y1 + (r + y1) = u := by
  rw [Int.sub_mul]; omega
set_option maxHeartbeats 2000000 in
theorem div64_core (hi lo y s p q Y y1 y0 h0' l0' u L d1 d0 Q1 R1 Q0 R0 : Int) (w : World) (h0 : 0 < hi) (h1 : hi < y) (h3 : 0 ≤ lo) (h4 : lo < 18446744073709551616) (s0 : 13 ≤ s) (s1 : s ≤ 63)
   (hz : Calls Tryz.prog 238 #[.int .u64 y] w fun e w' => e = .returned (.int .i64 s) ∧ w' = w)
   (hp : (2 : Int) ^ s.toNat = p) (hq : (2 : Int) ^ (64 - s).toNat = q) (eY : y * p = Y) (hY : 9223372036854775808 ≤ Y) (hY' : Y < 18446744073709551616)
   (e1 : Y / 4294967296 = y1) (e0 : bits BinOp.and IntKind.u64 Y 4294967295 = y0) (eh : hi * p = h0') (hh0 : 0 ≤ h0') (hh1 : h0' < 18446744073709551616) (el : lo / q = l0') (eu : bits BinOp.or IntKind.u64 h0' l0' = u)
   (eL : IntKind.u64.wrap (lo * p) = L) (ed1 : L / 4294967296 = d1) (ed0 : bits BinOp.and IntKind.u64 L 4294967295 = d0) 
   (b1 : 2147483648 ≤ y1) (b1' : y1 < 4294967296) (b0 : 0 ≤ y0) (b0' : y0 < 4294967296) (bu : 0 ≤ u) (bu' : u < Y) (bd1 : 0 ≤ d1) (bd1' : d1 < 4294967296) (bd0 : 0 ≤ d0) (bd0' : d0 < 4294967296)
   (EY : Hid (Y = y1 * 4294967296 + y0)) (HQ1 : Hid ((u * 4294967296 + d1) / Y = Q1)) (HQ0 : Hid ((R1 * 4294967296 + d0) / Y = Q0))
   (e21 : IntKind.u64.wrap (IntKind.u64.wrap (IntKind.u64.wrap (u * 4294967296) + d1) - IntKind.u64.wrap (Q1 * Y)) = R1)
   (e20 : IntKind.u64.wrap (IntKind.u64.wrap (IntKind.u64.wrap (R1 * 4294967296) + d0) - IntKind.u64.wrap (Q0 * Y)) = R0)
   (bR : 0 ≤ R1) (bR' : R1 < Y) (q0 : 0 ≤ Q1) (q0' : Q1 < 4294967296) (c0 : 0 ≤ Q0) (c0' : Q0 < 4294967296) (r0 : 0 ≤ R0) (r0' : R0 < Y) (pp : 0 < p) :
    Calls Tryz.prog 225 #[.int .u64 hi, .int .u64 lo, .int .u64 y] w fun e w' => e = .returned (.tuple #[.int .u64 (Q1 * 4294967296 + Q0), .int .u64 (R0 / p)]) ∧ w' = w := by
  obtain ⟨-, g1, f3, g2, f2, f4⟩ := KM.dig_first Y y1 y0 u d1 EY.out b0 b0' b1 b1' bu bu' bd1 bd1'
  obtain ⟨-, g1', f3', g2', f2', f4'⟩ := KM.dig_first Y y1 y0 R1 d0 EY.out b0 b0' b1 b1' bR bR' bd0 bd0'
  rw [HQ1.out] at g1
  rw [HQ0.out] at g1'
  have f1 : 0 ≤ u / y1 * y1 := Int.mul_nonneg f3 (by omega)
  have f1' : 0 ≤ R1 / y1 * y1 := Int.mul_nonneg f3' (by omega)
  go_enter Tryz.func225, Tryz.ntmps225
  go_upto_block 0 with (go_at_call 238; refine hz.mono ?_; rintro e w' ⟨rfl, hw⟩; rw [hw]; clear hw w')
  clear hz
  go_cut [15] from 67 to 85 (fun a w' => a = .int .u64 Q1 ∧ w' = w)
  case first =>
    go_wp2_with fail
    go_loop [15, 16] (fun a b => ∃ q1 r : Int, q1 * y1 + r = u ∧ Q1 ≤ q1 ∧ q1 ≤ 4294967297 ∧ 0 ≤ r ∧ r < 4294967296 ∧ a = .int .u64 q1 ∧ b = .int .u64 r) (fun a _ => (intOf a).toNat)
    case atStart => exact ⟨u / y1, u - u / y1 * y1, by omega, g1, g2, by omega, by omega, rfl, rfl⟩
    case round =>
      obtain ⟨q1, r, hr, hQ, hqb, hr0, hr1, rfl, rfl⟩ := hrel
      have HR : Hid (q1 * y1 + r = u) := hr
      clear hr
      clear e21 e20 bR bR' c0 c0' r0 r0' g1' f3' g2' f2' f4' f1' eL ed1 ed0 eu el eh e0 e1 hp hq eY
      by_cases t : 4294967296 ≤ q1
      · have hm := KM.dig_more Y y1 y0 u d1 q1 r EY.out b0 b1 bu bu' bd1 bd1' HR.out (Or.inl t)
        rw [HQ1.out] at hm
        by_cases tb : 4294967296 ≤ r + y1
        · have hb := KM.dig_break Y y1 y0 u d1 (q1 - 1) (r + y1) EY.out b0 b0' b1 (dec_rel HR.out) (by rw [HQ1.out]; exact hm) bd1 (by omega) (by omega) tb
          rw [HQ1.out] at hb
          have HB : Hid (Q1 = q1 - 1) := hb
          clear hb
          go_wp2_with fail
          go_meet
          case rel => exact ⟨by rw [HB.out], rfl⟩
        · go_wp2_with fail
          go_round
          case rel => exact ⟨q1 - 1, r + y1, dec_rel HR.out, hm, by omega, by omega, by omega, rfl, rfl⟩
          case measure => simp [intOf]; omega
      · have hx0 : 0 ≤ q1 * y0 := Int.mul_nonneg (by omega) b0
        have hx1 : q1 * y0 < 18446744073709551616 := by
          have : q1 * y0 ≤ q1 * 4294967296 := Int.mul_le_mul_of_nonneg_left (by omega) (by omega)
          omega
        by_cases t2 : 4294967296 * r + d1 < q1 * y0
        · have hm := KM.dig_more Y y1 y0 u d1 q1 r EY.out b0 b1 bu bu' bd1 bd1' HR.out (Or.inr t2)
          rw [HQ1.out] at hm
          by_cases tb : 4294967296 ≤ r + y1
          · have hb := KM.dig_break Y y1 y0 u d1 (q1 - 1) (r + y1) EY.out b0 b0' b1 (dec_rel HR.out) (by rw [HQ1.out]; exact hm) bd1 (by omega) (by omega) tb
            rw [HQ1.out] at hb
            have HB : Hid (Q1 = q1 - 1) := hb
            clear hb
            go_wp2_with fail
            go_meet
            case rel => exact ⟨by rw [HB.out], rfl⟩
          · go_wp2_with fail
            go_round
            case rel => exact ⟨q1 - 1, r + y1, dec_rel HR.out, hm, by omega, by omega, by omega, rfl, rfl⟩
            case measure => simp [intOf]; omega
        · have hb := KM.dig_done Y y1 y0 u d1 q1 r EY.out b0 b1 HR.out (by rw [HQ1.out]; exact hQ) (by omega)
          rw [HQ1.out] at hb
          have HB : Hid (Q1 = q1) := hb
          clear hb
          go_wp2_with fail
          go_meet
          case rel => exact ⟨by rw [HB.out], rfl⟩
  case rest =>
    obtain ⟨rfl, rfl⟩ := hcut
    go_upto_block 2 with fail
    go_cut [18] from 102 to 120 (fun a w' => a = .int .u64 Q0 ∧ w' = wc)
    case first =>
      go_wp2_with fail
      go_loop [18, 16] (fun a b => ∃ q1 r : Int, q1 * y1 + r = R1 ∧ Q0 ≤ q1 ∧ q1 ≤ 4294967297 ∧ 0 ≤ r ∧ r < 4294967296 ∧ a = .int .u64 q1 ∧ b = .int .u64 r) (fun a _ => (intOf a).toNat)
      case atStart => exact ⟨R1 / y1, R1 - R1 / y1 * y1, by omega, g1', g2', by omega, by omega, rfl, rfl⟩
      case round =>
        obtain ⟨q1, r, hr, hQ, hqb, hr0, hr1, rfl, rfl⟩ := hrel
        have HR : Hid (q1 * y1 + r = R1) := hr
        clear hr
        clear e21 e20 g1 f3 g2 f2 f4 f1 eL ed1 ed0 eu el eh e0 e1 hp hq eY
        by_cases t : 4294967296 ≤ q1
        · have hm := KM.dig_more Y y1 y0 R1 d0 q1 r EY.out b0 b1 bR bR' bd0 bd0' HR.out (Or.inl t)
          rw [HQ0.out] at hm
          by_cases tb : 4294967296 ≤ r + y1
          · have hb := KM.dig_break Y y1 y0 R1 d0 (q1 - 1) (r + y1) EY.out b0 b0' b1 (dec_rel HR.out) (by rw [HQ0.out]; exact hm) bd0 (by omega) (by omega) tb
            rw [HQ0.out] at hb
            have HB : Hid (Q0 = q1 - 1) := hb
            clear hb
            go_wp2_with fail
            go_meet
            case rel => exact ⟨by rw [HB.out], rfl⟩
          · go_wp2_with fail
            go_round
            case rel => exact ⟨q1 - 1, r + y1, dec_rel HR.out, hm, by omega, by omega, by omega, rfl, rfl⟩
            case measure => simp [intOf]; omega
        · have hx0 : 0 ≤ q1 * y0 := Int.mul_nonneg (by omega) b0
          have hx1 : q1 * y0 < 18446744073709551616 := by
            have : q1 * y0 ≤ q1 * 4294967296 := Int.mul_le_mul_of_nonneg_left (by omega) (by omega)
            omega
          by_cases t2 : 4294967296 * r + d0 < q1 * y0
          · have hm := KM.dig_more Y y1 y0 R1 d0 q1 r EY.out b0 b1 bR bR' bd0 bd0' HR.out (Or.inr t2)
            rw [HQ0.out] at hm
            by_cases tb : 4294967296 ≤ r + y1
            · have hb := KM.dig_break Y y1 y0 R1 d0 (q1 - 1) (r + y1) EY.out b0 b0' b1 (dec_rel HR.out) (by rw [HQ0.out]; exact hm) bd0 (by omega) (by omega) tb
              rw [HQ0.out] at hb
              have HB : Hid (Q0 = q1 - 1) := hb
              clear hb
              go_wp2_with fail
              go_meet
              case rel => exact ⟨by rw [HB.out], rfl⟩
            · go_wp2_with fail
              go_round
              case rel => exact ⟨q1 - 1, r + y1, dec_rel HR.out, hm, by omega, by omega, by omega, rfl, rfl⟩
              case measure => simp [intOf]; omega
          · have hb := KM.dig_done Y y1 y0 R1 d0 q1 r EY.out b0 b1 HR.out (by rw [HQ0.out]; exact hQ) (by omega)
            rw [HQ0.out] at hb
            have HB : Hid (Q0 = q1) := hb
            clear hb
            go_wp2_with fail
            go_meet
            case rel => exact ⟨by rw [HB.out], rfl⟩
    case rest =>
      obtain ⟨rfl, rfl⟩ := hcut
      go_wp2_with fail
      go_ret2
      exact ⟨rfl, rfl⟩

theorem ret_uu {a a' b b' : Int} (h : a = a') (h' : b = b') : Ending.returned (.tuple #[.int .u64 a, .int .u64 b]) = .returned (.tuple #[.int .u64 a', .int .u64 b']) := by rw [h, h']

theorem wrap3 (a d P R : Int) (h : a * 4294967296 + d = P + R) (h0 : 0 ≤ R) (h1 : R < 18446744073709551616) : IntKind.u64.wrap (IntKind.u64.wrap (IntKind.u64.wrap (a * 4294967296) + d) - IntKind.u64.wrap P) = R := by
  simp only [IntKind.wrap_u64]
  omega

theorem div64_far (hi lo y : Int) (w : World) (h0 : 0 < hi) (h1 : hi < y) (h2 : y ≤ 1125899906842624) (l0 : 0 ≤ lo) (l1 : lo < 18446744073709551616) :
    Calls Tryz.prog 225 #[.int .u64 hi, .int .u64 lo, .int .u64 y] w fun e w' => e = .returned (.tuple #[.int .u64 ((hi * 18446744073709551616 + lo) / y), .int .u64 ((hi * 18446744073709551616 + lo) % y)]) ∧ w' = w := by
  obtain ⟨s, es, s0, s1, hY, hY'⟩ := KM.scale y (by omega) h2
  have hz := Tryz.bits_LeadingZeros64 y w (by omega) (by omega)
  rw [es] at hz
  obtain ⟨hpq, hp0, hq0⟩ := KM.pow_two s (by omega)
  obtain ⟨en, bu', bl0, bl1⟩ := KM.norm hi lo y (2 ^ s) (2 ^ (64 - s)) hpq hp0 hq0 l0 l1 h1
  have hx : 0 ≤ hi * 2 ^ s := Int.mul_nonneg (by omega) (by omega)
  have e1 : (2 : Int) ^ (s : Int).toNat = 2 ^ s := by simp
  have e2 : (2 : Int) ^ (64 - (s : Int)).toNat = 2 ^ (64 - s) := by rw [show (64 - (s : Int)).toNat = 64 - s by omega]
  have eu : bits BinOp.or IntKind.u64 (hi * 2 ^ s) (lo / 2 ^ (64 - s)) = hi * 2 ^ s + lo / 2 ^ (64 - s) := by
    obtain ⟨a, ea⟩ := Int.eq_ofNat_of_zero_le (show 0 ≤ hi by omega)
    obtain ⟨b, eb⟩ := Int.eq_ofNat_of_zero_le bl0
    have ep : ((2 ^ s : Nat) : Int) = 2 ^ s := by simp
    have em : ((a * 2 ^ s : Nat) : Int) = (a : Int) * 2 ^ s := by simp
    rw [eb] at bl1 bu' ⊢
    rw [ea] at bu' ⊢
    exact KM.or_shift a s b (by omega) (by omega)
  have hm0 := Int.emod_nonneg (lo * 2 ^ s) (show (18446744073709551616 : Int) ≠ 0 by omega)
  have hm1 := Int.emod_lt_of_pos (lo * 2 ^ s) (show (0 : Int) < 18446744073709551616 by omega)
  generalize hu : hi * 2 ^ s + lo / 2 ^ (64 - s) = u at *
  generalize hL : lo * 2 ^ s % 18446744073709551616 = L at *
  generalize hYe : y * 2 ^ s = Y at *
  have hyp : 0 < Y := by omega
  have bu : 0 ≤ u := by omega
  have hs1 := KM.dig_small Y u (L / 4294967296) bu bu' (by omega) (by omega)
  have ha1 := Int.emod_add_mul_ediv (u * 4294967296 + L / 4294967296) Y
  have hb1 := Int.emod_nonneg (u * 4294967296 + L / 4294967296) (show Y ≠ 0 by omega)
  have hc1 := Int.emod_lt_of_pos (u * 4294967296 + L / 4294967296) hyp
  obtain ⟨t1, t2⟩ := KM.two_digits ((hi * 18446744073709551616 + lo) * 2 ^ s) Y u (L / 4294967296) (L % 4294967296) (by omega) hyp
  obtain ⟨t3, t4⟩ := KM.scaled (hi * 18446744073709551616 + lo) y (2 ^ s) (by omega) hp0
  rw [hYe, t1] at t3
  rw [hYe, t2] at t4
  generalize hQ1 : (u * 4294967296 + L / 4294967296) / Y = Q1 at *
  generalize hR1 : (u * 4294967296 + L / 4294967296) % Y = R1 at *
  have hs0 := KM.dig_small Y R1 (L % 4294967296) hb1 hc1 (by omega) (by omega)
  have ha0 := Int.emod_add_mul_ediv (R1 * 4294967296 + L % 4294967296) Y
  have hb0 := Int.emod_nonneg (R1 * 4294967296 + L % 4294967296) (show Y ≠ 0 by omega)
  have hc0 := Int.emod_lt_of_pos (R1 * 4294967296 + L % 4294967296) hyp
  generalize hQ0 : (R1 * 4294967296 + L % 4294967296) / Y = Q0 at *
  generalize hR0 : (R1 * 4294967296 + L % 4294967296) % Y = R0 at *
  have m1 : Y * Q1 = Q1 * Y := Int.mul_comm _ _
  have m0 : Y * Q0 = Q0 * Y := Int.mul_comm _ _
  have hcore := div64_core hi lo y s (2 ^ s) (2 ^ (64 - s)) Y (Y / 4294967296) (Y % 4294967296) (hi * 2 ^ s) (lo / 2 ^ (64 - s)) u L (L / 4294967296) (L % 4294967296) Q1 R1 Q0 R0 w h0 h1 l0 l1 (by omega) (by omega)
    hz e1 e2 hYe hY hY' rfl (KM.mask32 Y (by omega) hY') rfl hx (by omega) rfl eu (by rw [IntKind.wrap_u64]; exact hL) rfl (KM.mask32 L hm0 hm1)
    (by omega) (by omega) (by omega) (by omega) bu bu' (by omega) (by omega) (by omega) (by omega) (by show _ = _; omega) hQ1 hQ0
    (wrap3 u _ _ R1 (by omega) hb1 (by omega)) (wrap3 R1 _ _ R0 (by omega) hb0 (by omega)) hb1 hc1 hs1.1 hs1.2 hs0.1 hs0.2 hb0 hc0 hp0
  refine hcore.mono ?_
  rintro e w' ⟨rfl, hw⟩
  refine ⟨ret_uu t3 ?_, hw⟩
  rw [t4]
  exact Int.mul_ediv_cancel _ (by omega)

theorem div64_near (lo y : Int) (w : World) (h1 : 0 < y) (h2 : y ≤ 1125899906842624) (l0 : 0 ≤ lo) (l1 : lo < 18446744073709551616) :
    Calls Tryz.prog 225 #[.int .u64 0, .int .u64 lo, .int .u64 y] w fun e w' => e = .returned (.tuple #[.int .u64 (lo / y), .int .u64 (lo % y)]) ∧ ∃ n, w' = w.drewN n := by
  have a := Int.emod_nonneg lo (show y ≠ 0 by omega)
  have b := Int.emod_lt_of_pos lo h1
  have c : 0 ≤ lo / y := Int.ediv_nonneg l0 (by omega)
  have d : lo / y ≤ lo := Int.ediv_le_self _ l0
  go_enter Tryz.func225, Tryz.ntmps225
  go_wp2
  go_quiet (fail)
  go_wp2
  go_ret2
  exact ⟨rfl, _, rfl⟩

/-- Div64 where the quotient fits. -/
theorem div64 (hi lo y : Int) (w : World) (h0 : 0 ≤ hi) (h1 : hi < y) (h2 : y ≤ 1125899906842624) (l0 : 0 ≤ lo) (l1 : lo < 18446744073709551616) :
    Calls Tryz.prog 225 #[.int .u64 hi, .int .u64 lo, .int .u64 y] w fun e w' => e = .returned (.tuple #[.int .u64 ((hi * 18446744073709551616 + lo) / y), .int .u64 ((hi * 18446744073709551616 + lo) % y)]) ∧ ∃ n, w' = w.drewN n := by
  by_cases h : hi = 0
  · subst h
    refine (div64_near lo y w h1 h2 l0 l1).mono ?_
    rintro e w' ⟨rfl, hw⟩
    exact ⟨ret_uu (by simp) (by simp), hw⟩
  · refine (div64_far hi lo y w (by omega) h1 h2 l0 l1).mono ?_
    rintro e w' ⟨rfl, rfl⟩
    exact ⟨rfl, 0, rfl⟩
end Go.Proofs.YteoloapjhlpnjaaGreatDoor
