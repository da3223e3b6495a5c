/- Texts of the verifier, joined: MulsK, FeesK, Pe, Pj, Pk, Pl. -/
import Derived.Test.YtjdbedlgkngdkaaGreatDoorPPlanGraph5
import Derived.RegionTactic
import Derived.ChangeAlike
import Derived.Test.YtjdbedlgkngdkaaGreatDoorPPlanGraph3
import Derived.Test.YtjdbedlgkngdkaaGreatDoorPPlanGraph1
import Derived.Test.YtjdbedlgkngdkaaGreatDoorPPlanGraph2
import Derived.Test.YtjdbedlgkngdkaaGreatDoorPPlanGraph4
import Derived.Deep.Cut
namespace Go.Proofs.YtjdbedlgkngdkaaGreatDoor
open Go.RowKit
set_option linter.unusedVariables false

theorem mul64 (a b : Int) (w : World) (a0 : 0 ≤ a) (a1 : a < 18446744073709551616) (b0 : 0 ≤ b) (b1 : b < 18446744073709551616) :
    Calls Tryz.prog 167 #[.int .u64 a, .int .u64 b] w fun e w' => e = .returned (.tuple #[.int .u64 (a * b / 18446744073709551616), .int .u64 (a * b % 18446744073709551616)]) ∧ w' = w := by
  obtain ⟨x, rfl⟩ := Int.eq_ofNat_of_zero_le a0
  obtain ⟨y, rfl⟩ := Int.eq_ofNat_of_zero_le b0
  refine (Tryz.bits_Mul64 x y (by omega) (by omega) w).mono ?_
  rintro e w' ⟨rfl, hw⟩
  exact ⟨ret_uu (by rw [Int.natCast_ediv, Int.natCast_mul]; rfl) (by rw [Int.natCast_emod, Int.natCast_mul]; rfl), hw⟩

theorem div64' (hi lo y Q R : Int) (w : World) (h0 : 0 ≤ hi) (h1 : hi < y) (h2 : y ≤ 1125899906842624) (l0 : 0 ≤ lo) (l1 : lo < 18446744073709551616) (hQ : (hi * 18446744073709551616 + lo) / y = Q) (hR : (hi * 18446744073709551616 + lo) % y = R) :
    Calls Tryz.prog 168 #[.int .u64 hi, .int .u64 lo, .int .u64 y] w fun e w' => e = .returned (.tuple #[.int .u64 Q, .int .u64 R]) ∧ ∃ n, w' = w.drewN n := by
  subst hQ hR
  exact div64 hi lo y w h0 h1 h2 l0 l1

theorem multiply_ok (a b : Int) (w : World) (ha : amtB a = true) (hb : amtB b = true) :
    Calls Tryz.prog 142 #[.int .i64 a, .int .i64 b] w fun e w' => e = .returned (.tuple #[.agg #[.int .u64 (a * b / 18446744073709551616), .int .u64 (a * b % 18446744073709551616)], .nilIface]) ∧ Keeps w w' := by
  obtain ⟨a0, a1⟩ := amtB_true ha
  obtain ⟨b0, b1⟩ := amtB_true hb
  clear ha hb
  go_enter Tryz.func142, Tryz.ntmps142
  go_wp2_with (first | (go_at_call 167; refine (mul64 a b _ a0 (by omega) b0 (by omega)).mono ?_; rintro e w' ⟨rfl, hw⟩; rw [hw]; clear hw w') | go_in)
  refine bodyPost_ret (v := .tuple #[.agg #[.int .u64 (a * b / 18446744073709551616), .int .u64 (a * b % 18446744073709551616)], .nilIface]) (by simp [results, Tryz.results142, go_sem]) rfl ⟨rfl, ?_⟩
  exact Keeps.alloc (Keeps.refl _) _

theorem over_ok (h l c Q R : Int) (w : World) (h0 : 0 ≤ h) (l0 : 0 ≤ l) (l1 : l < 18446744073709551616) (c0 : 1 ≤ c) (c1 : c ≤ 1125899906842624) (hc : h < c)
    (hQ : Hid ((h * 18446744073709551616 + l) / c = Q)) (hR : Hid ((h * 18446744073709551616 + l) % c = R)) (hq : 0 ≤ Q) (hm : Q ≤ 1125899906842624) (hr : 0 ≤ R) (hr1 : R < c) :
    Calls Tryz.prog 143 #[.agg #[.int .u64 h, .int .u64 l], .int .i64 c] w fun e w' => e = .returned (.tuple #[.int .i64 Q, .int .i64 R, .nilIface]) ∧ Keeps w w' := by
  go_enter Tryz.func143, Tryz.ntmps143
  go_wp2_with (go_at_call 168; refine (div64' h l c Q R _ h0 hc c1 l0 l1 hQ.out hR.out).mono ?_; rintro e w' ⟨rfl, n, rfl⟩)
  go_ret3
  exact ⟨rfl, Keeps.drewN (Keeps.alloc (Keeps.refl _) _) _⟩
end Go.Proofs.YtjdbedlgkngdkaaGreatDoor
namespace Go.Proofs.YtjdbedlgkngdkaaGreatDoor
open Go.RowKit
set_option linter.unusedVariables false


/-- Is the part of the product an amount? -/
def divB (a b c : Int) : Bool := amtB a && amtB b && (decide (1 ≤ c) && decide (c ≤ 1125899906842624)) && decide (a * b / c ≤ 1125899906842624)
def divV (a b c : Int) : Int := if divB a b c = true then a * b / c else 0
theorem divB_true {a b c : Int} (h : divB a b c = true) : amtB a = true ∧ amtB b = true ∧ 1 ≤ c ∧ c ≤ 1125899906842624 ∧ a * b / c ≤ 1125899906842624 := by
  simp [divB] at h; exact ⟨h.1.1.1, h.1.1.2, h.1.2.1, h.1.2.2, h.2⟩

theorem hi_lo (X : Int) : X / 18446744073709551616 * 18446744073709551616 + X % 18446744073709551616 = X := by omega
theorem hi_small {X c : Int} (c0 : 1 ≤ c) (h : X / c ≤ 1125899906842624) : X / 18446744073709551616 < c := by
  have h1 : X < (1125899906842624 + 1) * c := by rw [← Int.ediv_lt_iff_lt_mul (by omega)]; omega
  rw [Int.ediv_lt_iff_lt_mul (by omega)]; omega

theorem divide_ok (a b c : Int) (w : World) (h : divB a b c = true) :
    Calls Tryz.prog 129 #[.int .i64 a, .int .i64 b, .int .i64 c] w fun e w' => e = .returned (.tuple #[.int .i64 (a * b / c), .int .i64 (a * b % c), .nilIface]) ∧ Keeps w w' := by
  obtain ⟨ha, hb, c0, c1, hm⟩ := divB_true h
  obtain ⟨a0, a1⟩ := amtB_true ha
  obtain ⟨b0, b1⟩ := amtB_true hb
  have p0 : 0 ≤ a * b := Int.mul_nonneg a0 b0
  have q0 : 0 ≤ a * b / c := Int.ediv_nonneg p0 (by omega)
  have r0 := Int.emod_nonneg (a * b) (show c ≠ 0 by omega)
  have r1 := Int.emod_lt_of_pos (a * b) (show 0 < c by omega)
  have hs := hi_small c0 hm
  have e := hi_lo (a * b)
  have H1 : Hid ((a * b / 18446744073709551616 * 18446744073709551616 + a * b % 18446744073709551616) / c = a * b / c) := by show _ = _; rw [e]
  have H2 : Hid ((a * b / 18446744073709551616 * 18446744073709551616 + a * b % 18446744073709551616) % c = a * b % c) := by show _ = _; rw [e]
  clear e h
  have g0 : 0 ≤ a * b / 18446744073709551616 := by omega
  have g1 : 0 ≤ a * b % 18446744073709551616 := by omega
  have g2 : a * b % 18446744073709551616 < 18446744073709551616 := by omega
  have hM := multiply_ok a b w ha hb
  have hO := fun w1 => over_ok (a * b / 18446744073709551616) (a * b % 18446744073709551616) c (a * b / c) (a * b % c) w1 g0 g1 g2 c0 c1 hs H1 H2 q0 hm r0 r1
  have HM := hide hM
  have HO := hide hO
  clear hM hO
  generalize a * b / 18446744073709551616 = h at *
  generalize a * b % 18446744073709551616 = l at *
  generalize a * b / c = Q at *
  generalize a * b % c = R at *
  go_enter Tryz.func129, Tryz.ntmps129
  go_wp2_with (first | (go_at_call 142; refine (unhide HM).mono ?_; rintro e w1 ⟨rfl, hk⟩) | (go_at_call 143; refine (unhide HO _).mono ?_; rintro e w2 ⟨rfl, hk2⟩))
  go_ret3
  exact ⟨rfl, (Keeps.alloc hk _).trans hk2⟩

theorem mulDiv_spec (a b c : Int) (w : World) :
    Calls Tryz.prog 77 #[.int .i64 a, .int .i64 b, .int .i64 c] w fun e w' => e = .returned (.tuple #[.int .i64 (divV a b c), .bool (divB a b c)]) ∧ w' = w := by
  by_cases g : (0 ≤ a ∧ a ≤ 1125899906842624) ∧ (0 ≤ b ∧ b ≤ 1125899906842624) ∧ 1 ≤ c ∧ c ≤ 1125899906842624
  · obtain ⟨⟨a0, a1⟩, ⟨b0, b1⟩, c0, c1⟩ := g
    have ea : amtB a = true := amtB_yes a0 a1
    have eb : amtB b = true := amtB_yes b0 b1
    have HL := hide (l01Div_any a b c w a0 a1 b0 b1 c0 c1)
    have H1 : Hid (∀ h : a * b / c ≤ 1125899906842624, divB a b c = true ∧ divV a b c = a * b / c) := by
      intro h
      have : divB a b c = true := by simp [divB, ea, eb, c0, c1, h]
      exact ⟨this, by simp [divV, this]⟩
    have H2 : Hid (∀ h : 1125899906842624 < a * b / c, divB a b c = false ∧ divV a b c = 0) := by
      intro h
      have : divB a b c = false := by simp [divB]; omega
      exact ⟨this, by simp [divV, this]⟩
    clear ea eb
    go_enter Tryz.func77, Tryz.ntmps77
    go_wp2_with (first | (go_at_call 116; refine (unhide HL).mono ?_; rintro e w1 ⟨⟨hq, rfl⟩ | ⟨hq, rfl⟩, hw⟩ <;> rw [hw] <;> clear hw w1) | go_in)
    · go_ret2
      exact ⟨ret_tup (H1.out hq).2.symm (H1.out hq).1.symm, rfl⟩
    · go_ret2
      exact ⟨ret_tup (H2.out hq).2.symm (H2.out hq).1.symm, rfl⟩
  · have e : divB a b c = false := by simp [divB, amtB]; omega
    have E1 : Hid (divB a b c = false) := e
    have E2 : Hid (divV a b c = 0) := by show _ = _; simp [divV, e]
    clear e
    have g' : (a < 0 ∨ ¬ a ≤ 1125899906842624) ∨ ((0 ≤ a ∧ a ≤ 1125899906842624) ∧ ((b < 0 ∨ ¬ b ≤ 1125899906842624) ∨ ((0 ≤ b ∧ b ≤ 1125899906842624) ∧ (c < 1 ∨ (1 ≤ c ∧ 1125899906842624 < c))))) := by omega
    clear g
    rcases g' with (h | h) | ⟨⟨h1, h2⟩, (h | h) | ⟨⟨h3, h4⟩, h | ⟨h5, h⟩⟩⟩
    all_goals
      go_enter Tryz.func77, Tryz.ntmps77
      go_wp2
      go_ret2
      exact ⟨ret_tup E2.out.symm E1.out.symm, rfl⟩
end Go.Proofs.YtjdbedlgkngdkaaGreatDoor
namespace Go.Proofs.YtjdbedlgkngdkaaGreatDoor
open Go.RowKit Go.Deep
set_option linter.unusedVariables false
set_option linter.unusedSimpArgs false
set_option maxRecDepth 10000

theorem ret_ii {a a' b b' : Int} (h : a = a') (h' : b = b') : Ending.returned (.tuple #[.int .i64 a, .int .i64 b]) = .returned (.tuple #[.int .i64 a', .int .i64 b']) := by rw [h, h']
theorem band_impl (lo hi : Int) (w : World) : Calls Tryz.prog 31 #[.int .i64 lo, .int .i64 hi] w fun e w' => e = .returned (.bool (bandB lo hi)) ∧ Keeps w w' := by
  by_cases h0 : 0 ≤ lo
  · by_cases h1 : lo ≤ hi
    · by_cases h2 : hi ≤ 100
      · have e := bandB_yes h0 h1 h2
        rw [e]
        clear e
        go_enter Tryz.func31, Tryz.ntmps31
        go_wp2
        go_ret
        exact ⟨ret_b (by first | (simp; done) | (simp; omega)), Keeps.refl _⟩
      · have e := bandB_no (lo := lo) (hi := hi) (by omega)
        rw [e]
        clear e
        go_enter Tryz.func31, Tryz.ntmps31
        go_wp2
        go_ret
        exact ⟨ret_b (by first | (simp; done) | (simp; omega)), Keeps.refl _⟩
    · have e := bandB_no (lo := lo) (hi := hi) (by omega)
      rw [e]
      clear e
      go_enter Tryz.func31, Tryz.ntmps31
      go_wp2
      go_ret
      exact ⟨rfl, Keeps.refl _⟩
  · have e := bandB_no (lo := lo) (hi := hi) (by omega)
    rw [e]
    clear e
    go_enter Tryz.func31, Tryz.ntmps31
    go_wp2
    go_ret
    exact ⟨rfl, Keeps.refl _⟩
theorem band_spec (lo hi : Int) (w : World) : Calls Tryz.prog 40 #[.int .i64 lo, .int .i64 hi] w fun e w' => e = .returned (.bool (bandB lo hi)) ∧ Keeps w w' := by
  by_cases h0 : 0 ≤ lo
  · by_cases h1 : lo ≤ hi
    · by_cases h2 : hi ≤ 100
      · have e := bandB_yes h0 h1 h2
        rw [e]
        clear e
        go_enter Tryz.func40, Tryz.ntmps40
        go_wp2
        go_ret
        exact ⟨ret_b (by first | (simp; done) | (simp; omega)), Keeps.refl _⟩
      · have e := bandB_no (lo := lo) (hi := hi) (by omega)
        rw [e]
        clear e
        go_enter Tryz.func40, Tryz.ntmps40
        go_wp2
        go_ret
        exact ⟨ret_b (by first | (simp; done) | (simp; omega)), Keeps.refl _⟩
    · have e := bandB_no (lo := lo) (hi := hi) (by omega)
      rw [e]
      clear e
      go_enter Tryz.func40, Tryz.ntmps40
      go_wp2
      go_ret
      exact ⟨rfl, Keeps.refl _⟩
  · have e := bandB_no (lo := lo) (hi := hi) (by omega)
    rw [e]
    clear e
    go_enter Tryz.func40, Tryz.ntmps40
    go_wp2
    go_ret
    exact ⟨rfl, Keeps.refl _⟩
theorem ends_div {sz lo hi k : Int} (h : (bandB lo hi && amtB sz) = true) (hk : k = lo ∨ k = hi) : divB sz k 100 = true ∧ divV sz k 100 = endV sz k lo hi := by
  have h' := h
  rw [Bool.and_eq_true] at h'
  obtain ⟨b1, b2, b3⟩ := bandB_true h'.1
  obtain ⟨s0, s1⟩ := amtB_true h'.2
  have hp := part_bound s0 s1 (k := k) (by omega) (by omega)
  have hd : divB sz k 100 = true := by
    have e : amtB k = true := amtB_yes (by omega) (by omega)
    simp [divB, h'.2, e]
    omega
  exact ⟨hd, by rw [endV_yes k h]; simp [divV, hd]⟩
/-- MulDiv of the program where it gives an amount: no sentinel is read. -/
theorem mulDiv_yes (a b c : Int) (w : World) (h : divB a b c = true) :
    Calls Tryz.prog 110 #[.int .i64 a, .int .i64 b, .int .i64 c] w fun e w' => e = .returned (.tuple #[.int .i64 (divV a b c), .bool true]) ∧ Keeps w w' := by
  have H : Hid (divV a b c = a * b / c) := by show _ = _; simp [divV, h]
  have HD := hide (divide_ok a b c w h)
  clear h
  go_enter Tryz.func110, Tryz.ntmps110
  go_wp2_with (first | (go_at_call 129; refine (unhide HD).mono ?_; rintro e w1 ⟨rfl, hk⟩) | (go_at_call 130; refine (told_ok _ _).mono ?_; rintro e w' ⟨rfl, rfl⟩))
  go_ret2
  exact ⟨ret_tup H.out.symm rfl, hk⟩
set_option maxHeartbeats 4000000 in
theorem ends_impl (c : Chn) (lo hi : Int) (w : World) : Calls Tryz.prog 72 #[c.v, .int .i64 lo, .int .i64 hi] w fun e w' => e = .returned (.tuple #[.int .i64 (endV c.sz lo lo hi), .int .i64 (endV c.sz hi lo hi)]) ∧ Keeps w w' := by
  obtain ⟨xid, xsz, xlo, xre, xba, xpp, xsc⟩ := c
  dsimp only [Chn.v]
  have HA := hide (rowc7 w (.int .i64 xid) (.int .i64 xsz) (.int .i64 xlo) (.int .i64 xre) (.int .i64 xba) (.int .i64 xpp) (.int .i64 xsc) 84)
  have HK := hide (Keeps.alloc (Keeps.refl w) (.cells #[.int .i64 xid, .int .i64 xsz, .int .i64 xlo, .int .i64 xre, .int .i64 xba, .int .i64 xpp, .int .i64 xsc] 84))
  have HE := hide (fun (k : Int) (h : (bandB lo hi && amtB xsz) = true) (hk : k = lo ∨ k = hi) => ends_div h hk)
  have HZ := hide (fun (k : Int) (h : (bandB lo hi && amtB xsz) = false) => endV_no k h)
  generalize hv1 : endV xsz lo lo hi = v1 at *
  generalize hv2 : endV xsz hi lo hi = v2 at *
  go_enter Tryz.func72, Tryz.ntmps72
  go_wp2_with fail
  generalize w.alloc (.cells #[.int .i64 xid, .int .i64 xsz, .int .i64 xlo, .int .i64 xre, .int .i64 xba, .int .i64 xpp, .int .i64 xsc] 84) = W0 at *
  cases hb : bandB lo hi
  · have HZ1 : Hid (v1 = 0) := by show _ = _; rw [← hv1]; exact HZ.out lo (by rw [hb]; rfl)
    have HZ2 : Hid (v2 = 0) := by show _ = _; rw [← hv2]; exact HZ.out hi (by rw [hb]; rfl)
    clear hv1 hv2
    refine (band_impl lo hi _).mono ?_
    rintro e w1 ⟨rfl, hk1⟩
    rw [hb]
    go_wp2_with fail
    go_ret2
    exact ⟨ret_ii HZ1.out.symm HZ2.out.symm, HK.out.trans hk1⟩
  refine (band_impl lo hi _).mono ?_
  rintro e w1 ⟨rfl, hk1⟩
  rw [hb]
  replace HK := hide (HK.out.trans hk1)
  obtain ⟨c0, c1, c2, c3, c4, c5, c6⟩ := unhide HA w1 hk1
  have HK1 := hide hk1
  clear hk1
  go_wp2_with fail
  refine (amt_impl xsz _).mono ?_
  rintro e w2 ⟨rfl, hk2⟩
  replace HK := hide (HK.out.trans hk2)
  replace HK1 := hide (HK1.out.trans hk2)
  clear hk2 c0 c1 c2 c3 c4 c5 c6
  cases ha : amtB xsz
  · have HZ1 : Hid (v1 = 0) := by show _ = _; rw [← hv1]; exact HZ.out lo (by rw [hb, ha]; rfl)
    have HZ2 : Hid (v2 = 0) := by show _ = _; rw [← hv2]; exact HZ.out hi (by rw [hb, ha]; rfl)
    clear hv1 hv2
    go_wp2_with fail
    go_ret2
    exact ⟨ret_ii HZ1.out.symm HZ2.out.symm, HK.out⟩
  have HD1 := hide (HE.out lo (by rw [hb, ha]; rfl) (.inl rfl)).1
  have HD2 := hide (HE.out hi (by rw [hb, ha]; rfl) (.inr rfl)).1
  have HV1 : Hid (divV xsz lo 100 = v1) := by show _ = _; rw [← hv1]; exact (HE.out lo (by rw [hb, ha]; rfl) (.inl rfl)).2
  have HV2 : Hid (divV xsz hi 100 = v2) := by show _ = _; rw [← hv2]; exact (HE.out hi (by rw [hb, ha]; rfl) (.inr rfl)).2
  clear hv1 hv2 hb ha
  obtain ⟨c0, c1, c2, c3, c4, c5, c6⟩ := unhide HA w2 HK1.out
  go_wp2_with fail
  refine (mulDiv_yes xsz lo 100 _ HD1.out).mono ?_
  rintro e w3 ⟨rfl, hk1⟩
  rw [HV1.out]
  obtain ⟨c0, c1, c2, c3, c4, c5, c6⟩ := unhide HA w3 (HK1.out.trans hk1)
  have HK3 := hide (HK.out.trans hk1)
  clear hk1
  go_wp2_with fail
  refine (mulDiv_yes xsz hi 100 _ HD2.out).mono ?_
  rintro e w4 ⟨rfl, hk2⟩
  rw [HV2.out]
  go_wp2_with fail
  go_ret2
  exact ⟨rfl, HK3.out.trans hk2⟩
set_option maxHeartbeats 4000000 in
theorem ends_spec (c : Chn) (lo hi : Int) (w : World) : Calls Tryz.prog 41 #[c.v, .int .i64 lo, .int .i64 hi] w fun e w' => e = .returned (.tuple #[.int .i64 (endV c.sz lo lo hi), .int .i64 (endV c.sz hi lo hi)]) ∧ Keeps w w' := by
  obtain ⟨xid, xsz, xlo, xre, xba, xpp, xsc⟩ := c
  dsimp only [Chn.v]
  have HA := hide (rowc7 w (.int .i64 xid) (.int .i64 xsz) (.int .i64 xlo) (.int .i64 xre) (.int .i64 xba) (.int .i64 xpp) (.int .i64 xsc) 84)
  have HK := hide (Keeps.alloc (Keeps.refl w) (.cells #[.int .i64 xid, .int .i64 xsz, .int .i64 xlo, .int .i64 xre, .int .i64 xba, .int .i64 xpp, .int .i64 xsc] 84))
  have HE := hide (fun (k : Int) (h : (bandB lo hi && amtB xsz) = true) (hk : k = lo ∨ k = hi) => ends_div h hk)
  have HZ := hide (fun (k : Int) (h : (bandB lo hi && amtB xsz) = false) => endV_no k h)
  generalize hv1 : endV xsz lo lo hi = v1 at *
  generalize hv2 : endV xsz hi lo hi = v2 at *
  go_enter Tryz.func41, Tryz.ntmps41
  go_wp2_with fail
  generalize w.alloc (.cells #[.int .i64 xid, .int .i64 xsz, .int .i64 xlo, .int .i64 xre, .int .i64 xba, .int .i64 xpp, .int .i64 xsc] 84) = W0 at *
  cases hb : bandB lo hi
  · have HZ1 : Hid (v1 = 0) := by show _ = _; rw [← hv1]; exact HZ.out lo (by rw [hb]; rfl)
    have HZ2 : Hid (v2 = 0) := by show _ = _; rw [← hv2]; exact HZ.out hi (by rw [hb]; rfl)
    clear hv1 hv2
    refine (band_spec lo hi _).mono ?_
    rintro e w1 ⟨rfl, hk1⟩
    rw [hb]
    go_wp2_with fail
    go_ret2
    exact ⟨ret_ii HZ1.out.symm HZ2.out.symm, HK.out.trans hk1⟩
  refine (band_spec lo hi _).mono ?_
  rintro e w1 ⟨rfl, hk1⟩
  rw [hb]
  replace HK := hide (HK.out.trans hk1)
  obtain ⟨c0, c1, c2, c3, c4, c5, c6⟩ := unhide HA w1 hk1
  have HK1 := hide hk1
  clear hk1
  go_wp2_with fail
  refine (amt_spec xsz _).mono ?_
  rintro e w2 ⟨rfl, hk2⟩
  replace HK := hide (HK.out.trans hk2)
  replace HK1 := hide (HK1.out.trans hk2)
  clear hk2 c0 c1 c2 c3 c4 c5 c6
  cases ha : amtB xsz
  · have HZ1 : Hid (v1 = 0) := by show _ = _; rw [← hv1]; exact HZ.out lo (by rw [hb, ha]; rfl)
    have HZ2 : Hid (v2 = 0) := by show _ = _; rw [← hv2]; exact HZ.out hi (by rw [hb, ha]; rfl)
    clear hv1 hv2
    go_wp2_with fail
    go_ret2
    exact ⟨ret_ii HZ1.out.symm HZ2.out.symm, HK.out⟩
  have HD1 := hide (HE.out lo (by rw [hb, ha]; rfl) (.inl rfl)).1
  have HD2 := hide (HE.out hi (by rw [hb, ha]; rfl) (.inr rfl)).1
  have HV1 : Hid (divV xsz lo 100 = v1) := by show _ = _; rw [← hv1]; exact (HE.out lo (by rw [hb, ha]; rfl) (.inl rfl)).2
  have HV2 : Hid (divV xsz hi 100 = v2) := by show _ = _; rw [← hv2]; exact (HE.out hi (by rw [hb, ha]; rfl) (.inr rfl)).2
  clear hv1 hv2 hb ha
  obtain ⟨c0, c1, c2, c3, c4, c5, c6⟩ := unhide HA w2 HK1.out
  go_wp2_with fail
  refine (mulDiv_spec xsz lo 100 _).mono ?_
  rintro e w3 ⟨rfl, hw⟩
  rw [HD1.out]
  have hk1 : Keeps w2 w3 := by rw [hw]; exact Keeps.refl _
  clear hw
  rw [HV1.out]
  obtain ⟨c0, c1, c2, c3, c4, c5, c6⟩ := unhide HA w3 (HK1.out.trans hk1)
  have HK3 := hide (HK.out.trans hk1)
  clear hk1
  go_wp2_with fail
  refine (mulDiv_spec xsz hi 100 _).mono ?_
  rintro e w4 ⟨rfl, hw⟩
  rw [HD2.out]
  have hk2 : Keeps w3 w4 := by rw [hw]; exact Keeps.refl _
  clear hw
  rw [HV2.out]
  go_wp2_with fail
  go_ret2
  exact ⟨rfl, HK3.out.trans hk2⟩
end Go.Proofs.YtjdbedlgkngdkaaGreatDoor
namespace Go.Proofs.YtjdbedlgkngdkaaGreatDoor
open Go.RowKit Go.Deep
set_option linter.unusedVariables false
set_option linter.unusedSimpArgs false
set_option maxRecDepth 10000

theorem is_impl (c : Chn) (ch : Int) (p : Nat) (w : World) (h : w.cell? ⟨p, 0, none⟩ = some (.int .i64 ch)) : Calls Tryz.prog 132 #[c.v, .pointer (some ⟨p, 0, none⟩)] w fun e w' => e = .returned (.bool (decide (c.id = ch))) ∧ Keeps w w' := by
  obtain ⟨xid, xsz, xlo, xre, xba, xpp, xsc⟩ := c
  dsimp only [Chn.v]
  have HK := hide (Keeps.alloc (Keeps.refl w) (.cells #[.int .i64 xid, .int .i64 xsz, .int .i64 xlo, .int .i64 xre, .int .i64 xba, .int .i64 xpp, .int .i64 xsc] 84))
  have h1 := HK.out.cell h
  have hp := lt_of_cell h
  by_cases e : xid = ch
  · subst e
    go_enter Tryz.func132, Tryz.ntmps132
    go_wp2_with fail
    go_ret
    exact ⟨ret_b (by simp), HK.out⟩
  · have e' : (xid == ch) = false := by simpa using e
    go_enter Tryz.func132, Tryz.ntmps132
    go_wp2_with fail
    go_ret
    exact ⟨ret_b (by simp [e]), HK.out⟩
set_option maxHeartbeats 2000000 in
theorem index_chan (ch : Int) (p : Nat) (a : Option Addr) (cap : Nat) (C : List Chn) (w : World) (h : w.cell? ⟨p, 0, none⟩ = some (.int .i64 ch)) (hc : Cells w a (chs C)) (hl : C.length ≤ 1048576) :
    Calls Tryz.prog 131 #[.slice a C.length cap, .func (Fn.func 132) #[] #[.pointer (some ⟨p, 0, none⟩)]] w fun e w' => e = .returned (.int .i64 (atI C ch)) ∧ Keeps w w' := by
  have HC := hide (fun w' (hk : Keeps w w') => hc.kept hk)
  have HB := hide (fun w' (hk : Keeps w w') => hk.cell h)
  clear hc h
  go_enter Tryz.func131, Tryz.ntmps131
  go_wp2_with fail
  go_loopw [8] (fun y wr => ∃ k : Nat, k ≤ C.length ∧ y = .int .i64 (k : Int) ∧ Hid (∀ j (hj : j < C.length), j < k → C[j].id ≠ ch) ∧ Hid (Keeps w wr)) (fun y _ => C.length - (intOf y).toNat)
  case atStart => exact ⟨0, by omega, rfl, fun j hj h => absurd h (by omega), Keeps.refl _⟩
  case round =>
    obtain ⟨k, hk, rfl, HG, HKr⟩ := hrel
    by_cases hlt : k < C.length
    · obtain ⟨b, off, ea, c0, c1, c2, c3, c4, c5, c6⟩ := chs_at (unhide HC _ HKr.out) k hlt
      subst ea
      have HQ := hide (fun w1 hb => is_impl C[k] ch p w1 hb)
      have HF : Hid (C[k].id = ch → atI C ch = (k : Int)) := fun h => atI_some (atC_some hlt h (fun j hj hjk => HG.out j hj hjk))
      have HG2 : Hid (C[k].id ≠ ch → ∀ j (hj : j < C.length), j < k + 1 → C[j].id ≠ ch) := fun h j hj h' => by
        by_cases e : j = k
        · subst e; exact h
        · exact HG.out j hj (by omega)
      have hb := unhide HB _ HKr.out
      generalize C[k] = x at *
      obtain ⟨xid, xsz, xlo, xre, xba, xpp, xsc⟩ := x
      dsimp only [Chn.v] at *
      go_wp2_with fail
      refine (unhide HQ _ hb).mono ?_
      rintro e w2 ⟨rfl, hk2⟩
      have HK2 := hide (HKr.out.trans hk2)
      clear hk2 c0 c1 c2 c3 c4 c5 c6 hb
      by_cases hs : xid = ch
      · have HF2 := hide (HF.out hs)
        have hs' : decide (xid = ch) = true := decide_eq_true hs
        rw [hs']
        clear hs hs'
        go_wp2_with fail
        go_ret
        exact ⟨ret_i HF2.out.symm, HK2.out⟩
      · have HG3 := hide (HG2.out hs)
        have hs' : decide (xid = ch) = false := decide_eq_false hs
        rw [hs']
        clear hs hs'
        go_wp2_with fail
        go_roundw
        case rel => exact ⟨k + 1, by omega, by go_num, HG3.out, HK2.out⟩
        case measure => simp [intOf]; omega
    · have HN : Hid (atI C ch = -1) := atI_none (atC_none (fun j hj => HG.out j hj (by omega)))
      go_wp2_with fail
      go_ret
      exact ⟨ret_i HN.out.symm, HKr.out⟩
theorem node_impl (G : Nat) (ca : Option Addr) (cc : Nat) (C : List Chn) (ch : Int) (w : World) (h : w.cell? ⟨G, 0, none⟩ = some (.slice ca C.length cc)) (hc : Cells w ca (chs C)) (hl : C.length ≤ 1048576) :
    Calls Tryz.prog 111 #[.pointer (some ⟨G, 0, none⟩), .int .i64 ch] w fun e w' => e = .returned (.int .i64 (atI C ch + 1)) ∧ Keeps w w' := by
  have HK := hide (Keeps.alloc (Keeps.refl w) (.cells #[.int .i64 ch] 3))
  have HI : Hid (Calls Tryz.prog 131 #[.slice ca C.length cc, .func (Fn.func 132) #[] #[.pointer (some ⟨w.heap.size, 0, none⟩)]] (w.alloc (.cells #[.int .i64 ch] 3)) fun e w' => e = .returned (.int .i64 (atI C ch)) ∧ Keeps (w.alloc (.cells #[.int .i64 ch] 3)) w') := index_chan ch w.heap.size ca cc C _ (by simp) (hc.kept HK.out) hl
  have HB := hide (atI_bound C ch)
  have hg := HK.out.cell h
  have hG := lt_of_cell h
  clear hc
  generalize atI C ch = i at *
  have hw : IntKind.i64.wrap (1 + i) = i + 1 := by rw [IntKind.wrap_i64]; have := HB.out; omega
  go_enter Tryz.func111, Tryz.ntmps111
  go_wp2_with fail
  refine (unhide HI).mono ?_
  rintro e w2 ⟨rfl, hk2⟩
  go_wp2_with fail
  go_ret
  exact ⟨ret_i (by have := HB.out; first | omega | (simp only [wrap64]; omega)), HK.out.trans hk2⟩
end Go.Proofs.YtjdbedlgkngdkaaGreatDoor
namespace Go.Proofs.YtjdbedlgkngdkaaGreatDoor
open Go.RowKit Go.Deep
set_option linter.unusedVariables false
set_option linter.unusedSimpArgs false
set_option maxRecDepth 10000

def row4 (v0 v1 v2 v3 : Value) : Nat → Value := fun i => if i = 0 then v0 else if i = 1 then v1 else if i = 2 then v2 else v3
theorem row4_at (v0 v1 v2 v3 : Value) : ∀ i, i < (#[v0, v1, v2, v3] : Array Value).size → (#[v0, v1, v2, v3] : Array Value)[i]? = some (row4 v0 v1 v2 v3 i)
  | 0, _ => rfl
  | 1, _ => rfl
  | 2, _ => rfl
  | 3, _ => rfl
  | n + 4, h => absurd h (by simp)
set_option maxHeartbeats 4000000 in
theorem lay_1 (w wr : World) (R G : Nat) (ca : Option Addr) (cc : Nat) (C : List Chn) (ea : Option Addr) (ec : Nat) (E : List Edg) (fr tt amt cost : Int) (h : PlS w wr R G 76 (.slice ca C.length cc) ea ec E) (hc : ∀ w', Keeps w w' → Cells w' ca (chs C)) (hl : C.length ≤ 20) (hE : E.length ≤ 1000) :
    Calls Tryz.prog 73 #[.pointer (some ⟨G, 0, none⟩), .int .i64 1, .int .i64 fr, .int .i64 tt, .int .i64 amt, .int .i64 cost] wr fun e w' => e = .returned (.tuple #[]) ∧ ∃ ea' ec', (ea' = none → ec' = 0) ∧ PlS w w' R G 76 (.slice ca C.length cc) ea' ec' (E ++ [⟨0, atI C tt + 1, capV amt, cost⟩]) := by
  have HP := hide h
  have HN := hide (fun x w' (hk : Keeps wr w') => node_impl G ca cc C x w' ((h.kept hk).cell0) (hc w' (h.keep.trans hk)) (by omega))
  have HEL := hide hE
  have HCV : Hid (capV amt = min amt 1000000000) := by show _ = _; unfold capV; split <;> omega
  rw [HCV.out]
  have HR : Hid ((wr.alloc (.cells #[.int .i64 0, .int .i64 0, .int .i64 (min amt 1000000000), .int .i64 cost] 40)).rowIs wr.heap.size 40 4 (row4 (.int .i64 0) (.int .i64 0) (.int .i64 (min amt 1000000000)) (.int .i64 cost))) := World.rowIs_alloc wr #[.int .i64 0, .int .i64 0, .int .i64 (min amt 1000000000), .int .i64 cost] 40 (row4 (.int .i64 0) (.int .i64 0) (.int .i64 (min amt 1000000000)) (.int .i64 cost)) (row4_at _ _ _ _)
  have HKN := hide (Keeps.alloc (Keeps.refl wr) (.cells #[.int .i64 0, .int .i64 0, .int .i64 (min amt 1000000000), .int .i64 cost] 40))
  have HV : Hid (G < wr.heap.size) := h.gr.lt
  clear h hc hE HCV
  go_enter Tryz.func73, Tryz.ntmps73
  go_upto_region 1 with fail
  generalize hcp : min amt 1000000000 = cp at *
  have HCP := hide hcp
  clear hcp
  obtain ⟨V, hV⟩ : ∃ V, V = wr.heap.size := ⟨_, rfl⟩
  have HVV : Hid (wr.heap.size ≤ V) := by show _ ≤ _; omega
  rw [← hV] at HR ⊢
  generalize wr.alloc (.cells #[.int .i64 0, .int .i64 0, .int .i64 cp, .int .i64 cost] 40) = W1 at *
  have HAF := hide (fun x => HN.out x)
  obtain ⟨j1, hj1⟩ : ∃ j1, j1 = atI C fr := ⟨_, rfl⟩
  obtain ⟨j2, hj2⟩ : ∃ j2, j2 = atI C tt := ⟨_, rfl⟩
  have HN1 := hide (HN.out fr)
  have HN2 := hide (HN.out tt)
  rw [← hj1] at HN1
  rw [← hj2] at HN2
  try rw [← hj1]
  try rw [← hj2]
  have HJ1 := hide hj1
  have HJ2 := hide hj2
  clear HN HAF hj1 hj2 hV
  go_wp2_with fail
  refine (unhide HN2 W1 HKN.out).mono ?_
  rintro e W2 ⟨rfl, hk⟩
  replace HKN := hide (HKN.out.trans hk)
  have HRn := hide (hk.rowK HR.out)
  clear hk HR
  have r1 := HRn.out.cell (i := 1) (by decide)
  have f1 := HRn.out.frozen 1
  have hlt := HRn.out.lt
  go_upto_region 8 with fail
  have HR1 := hide ((HRn.out.set 1 (.int .i64 (j2 + 1))).congr (g := row4 (.int .i64 (0)) (.int .i64 (j2 + 1)) (.int .i64 (cp)) (.int .i64 (cost))) (fun i hi => by rcases (show i = 0 ∨ i = 1 ∨ i = 2 ∨ i = 3 by omega) with rfl | rfl | rfl | rfl <;> rfl))
  replace HKN := hide (HKN.out.setCell (p := ⟨V, 1, none⟩) (by dsimp only; have := HVV.out; omega) (.int .i64 (j2 + 1)))
  clear HRn r1 f1 hlt
  generalize W2.setCell ⟨V, 1, none⟩ (.int .i64 (j2 + 1)) = W2' at *
  have HP2 := hide (HP.out.kept HKN.out)
  have d0 := HR1.out.cell (i := 0) (by decide)
  have d1 := HR1.out.cell (i := 1) (by decide)
  have d2 := HR1.out.cell (i := 2) (by decide)
  have d3 := HR1.out.cell (i := 3) (by decide)
  simp only [row4, if_true, if_false, show ¬ (1 : Nat) = 0 by decide, show ¬ (2 : Nat) = 0 by decide, show ¬ (2 : Nat) = 1 by decide, show ¬ (3 : Nat) = 0 by decide, show ¬ (3 : Nat) = 1 by decide, show ¬ (3 : Nat) = 2 by decide] at d0 d1 d2 d3
  have G1 := gr_cell HP2.out.cell1
  have D0 := gr_cell d0
  have D1 := gr_cell d1
  have D2 := gr_cell d2
  have D3 := gr_cell d3
  clear d0 d1 d2 d3
  refine wp_region_app [.u, .f, .f, .f, .f, .h, .b, .t, .t, .t, .t] (by kernel_rfl) (by kernel_rfl) rfl rfl rfl rfl rfl rfl rfl (fun _ _ d _ _ h => by cases d <;> exact h) ?_
  simp only [pkU, pkF, pkH, pkT, pkB]
  refine wpUni_step ?v0 (by rfl) ?f0 ?_
  case f0 =>
    intro w9
    go_simp
    with_reducible rfl
  try simp only [Act.put, List.setIfInBounds_toArray, List.set_cons_zero, List.set_cons_succ]
  refine wpUni_nil ?_
  refine wpFlo_step ?v1 (by rfl) ?f1 ?_
  case f1 =>
    rintro w9 ⟨t9, rfl⟩
    go_simp
    with_reducible rfl
  try simp only [Act.put, List.setIfInBounds_toArray, List.set_cons_zero, List.set_cons_succ]
  refine wpFlo_step ?v2 (by rfl) ?f2 ?_
  case f2 =>
    rintro w9 ⟨t9, rfl⟩
    go_simp
    with_reducible rfl
  try simp only [Act.put, List.setIfInBounds_toArray, List.set_cons_zero, List.set_cons_succ]
  refine wpFlo_step ?v3 (by rfl) ?f3 ?_
  case f3 =>
    rintro w9 ⟨t9, rfl⟩
    go_simp
    with_reducible rfl
  try simp only [Act.put, List.setIfInBounds_toArray, List.set_cons_zero, List.set_cons_succ]
  refine wpFlo_step ?v4 (by rfl) ?f4 ?_
  case f4 =>
    rintro w9 ⟨t9, rfl⟩
    go_simp
    with_reducible rfl
  try simp only [Act.put, List.setIfInBounds_toArray, List.set_cons_zero, List.set_cons_succ]
  refine wpFlo_nil ?_
  repeat (go_big_quiet_step (fail))
  refine wpQuiet_nil ?_
  refine ⟨rfl, ?_⟩
  rintro w9 ⟨t9, rfl⟩ K9 hK9
  go_simp
  refine hK9.out _ _ (gr_gr (Keeps.alloc (Keeps.refl _) _)) ?_
  clear hK9 K9
  have HP9 := hide (HP2.out.kept (gr_keeps W2' t9))
  generalize gr W2' t9 = W9 at *
  have HK9 := hide (Keeps.alloc (Keeps.refl W9) (.cells #[.int .i64 0, .int .i64 (j2 + 1), .int .i64 cp, .int .i64 cost] 40))
  have HM9 := hide (mem_one W9 ⟨0, j2 + 1, cp, cost⟩)
  have HO9 := hide ((HP9.out.kept HK9.out).ow)
  have HB9 : Hid (G + 1 ≤ (W9.alloc (.cells #[.int .i64 0, .int .i64 (j2 + 1), .int .i64 cp, .int .i64 cost] 40)).heap.size) := by show _ ≤ _; have := HP9.out.gr.lt; simp; omega
  dsimp only at HM9
  clear G1 D0 D1 D2 D3
  go_wp2_with (at_builtin; refine app_Edge rfl (.tmp 40) (.tmp 42) rfl (G + 1) _ E [⟨0, j2 + 1, cp, cost⟩] rfl (some ⟨W9.heap.size, 0, none⟩) 1 rfl HM9.out (fun h => nomatch h) HO9.out (by have := HEL.out; simp; omega) HB9.out ?_; intro v' w' ho hg hnn; obtain ⟨ea', ec', rfl, hen, hDG, q1, q2, q3⟩ := HP9.out.grow HK9.out ho hg; have HDG := hide hDG; have HENN := hide hen; clear hDG ho hg hnn hen)
  go_end0
  refine ⟨rfl, ea', ec', HENN.out, ?_⟩
  rw [← HJ2.out, HCP.out]
  exact HDG.out
set_option maxHeartbeats 4000000 in
theorem lay_2 (w wr : World) (R G : Nat) (ca : Option Addr) (cc : Nat) (C : List Chn) (ea : Option Addr) (ec : Nat) (E : List Edg) (fr tt amt cost : Int) (h : PlS w wr R G 76 (.slice ca C.length cc) ea ec E) (hc : ∀ w', Keeps w w' → Cells w' ca (chs C)) (hl : C.length ≤ 20) (hE : E.length ≤ 1000) :
    Calls Tryz.prog 73 #[.pointer (some ⟨G, 0, none⟩), .int .i64 2, .int .i64 fr, .int .i64 tt, .int .i64 amt, .int .i64 cost] wr fun e w' => e = .returned (.tuple #[]) ∧ ∃ ea' ec', (ea' = none → ec' = 0) ∧ PlS w w' R G 76 (.slice ca C.length cc) ea' ec' (E ++ [⟨atI C fr + 1, 0, capV amt, cost⟩]) := by
  have HP := hide h
  have HN := hide (fun x w' (hk : Keeps wr w') => node_impl G ca cc C x w' ((h.kept hk).cell0) (hc w' (h.keep.trans hk)) (by omega))
  have HEL := hide hE
  have HCV : Hid (capV amt = min amt 1000000000) := by show _ = _; unfold capV; split <;> omega
  rw [HCV.out]
  have HR : Hid ((wr.alloc (.cells #[.int .i64 0, .int .i64 0, .int .i64 (min amt 1000000000), .int .i64 cost] 40)).rowIs wr.heap.size 40 4 (row4 (.int .i64 0) (.int .i64 0) (.int .i64 (min amt 1000000000)) (.int .i64 cost))) := World.rowIs_alloc wr #[.int .i64 0, .int .i64 0, .int .i64 (min amt 1000000000), .int .i64 cost] 40 (row4 (.int .i64 0) (.int .i64 0) (.int .i64 (min amt 1000000000)) (.int .i64 cost)) (row4_at _ _ _ _)
  have HKN := hide (Keeps.alloc (Keeps.refl wr) (.cells #[.int .i64 0, .int .i64 0, .int .i64 (min amt 1000000000), .int .i64 cost] 40))
  have HV : Hid (G < wr.heap.size) := h.gr.lt
  clear h hc hE HCV
  go_enter Tryz.func73, Tryz.ntmps73
  go_upto_region 1 with fail
  generalize hcp : min amt 1000000000 = cp at *
  have HCP := hide hcp
  clear hcp
  obtain ⟨V, hV⟩ : ∃ V, V = wr.heap.size := ⟨_, rfl⟩
  have HVV : Hid (wr.heap.size ≤ V) := by show _ ≤ _; omega
  rw [← hV] at HR ⊢
  generalize wr.alloc (.cells #[.int .i64 0, .int .i64 0, .int .i64 cp, .int .i64 cost] 40) = W1 at *
  have HAF := hide (fun x => HN.out x)
  obtain ⟨j1, hj1⟩ : ∃ j1, j1 = atI C fr := ⟨_, rfl⟩
  obtain ⟨j2, hj2⟩ : ∃ j2, j2 = atI C tt := ⟨_, rfl⟩
  have HN1 := hide (HN.out fr)
  have HN2 := hide (HN.out tt)
  rw [← hj1] at HN1
  rw [← hj2] at HN2
  try rw [← hj1]
  try rw [← hj2]
  have HJ1 := hide hj1
  have HJ2 := hide hj2
  clear HN HAF hj1 hj2 hV
  go_wp2_with fail
  refine (unhide HN1 W1 HKN.out).mono ?_
  rintro e W2 ⟨rfl, hk⟩
  replace HKN := hide (HKN.out.trans hk)
  have HRn := hide (hk.rowK HR.out)
  clear hk HR
  have r0 := HRn.out.cell (i := 0) (by decide)
  have f0 := HRn.out.frozen 0
  have hlt := HRn.out.lt
  go_upto_region 8 with fail
  have HR0 := hide ((HRn.out.set 0 (.int .i64 (j1 + 1))).congr (g := row4 (.int .i64 (j1 + 1)) (.int .i64 (0)) (.int .i64 (cp)) (.int .i64 (cost))) (fun i hi => by rcases (show i = 0 ∨ i = 1 ∨ i = 2 ∨ i = 3 by omega) with rfl | rfl | rfl | rfl <;> rfl))
  replace HKN := hide (HKN.out.setCell (p := ⟨V, 0, none⟩) (by dsimp only; have := HVV.out; omega) (.int .i64 (j1 + 1)))
  clear HRn r0 f0 hlt
  generalize W2.setCell ⟨V, 0, none⟩ (.int .i64 (j1 + 1)) = W2' at *
  have HP2 := hide (HP.out.kept HKN.out)
  have d0 := HR0.out.cell (i := 0) (by decide)
  have d1 := HR0.out.cell (i := 1) (by decide)
  have d2 := HR0.out.cell (i := 2) (by decide)
  have d3 := HR0.out.cell (i := 3) (by decide)
  simp only [row4, if_true, if_false, show ¬ (1 : Nat) = 0 by decide, show ¬ (2 : Nat) = 0 by decide, show ¬ (2 : Nat) = 1 by decide, show ¬ (3 : Nat) = 0 by decide, show ¬ (3 : Nat) = 1 by decide, show ¬ (3 : Nat) = 2 by decide] at d0 d1 d2 d3
  have G1 := gr_cell HP2.out.cell1
  have D0 := gr_cell d0
  have D1 := gr_cell d1
  have D2 := gr_cell d2
  have D3 := gr_cell d3
  clear d0 d1 d2 d3
  refine wp_region_app [.u, .f, .f, .f, .f, .h, .b, .t, .t, .t, .t] (by kernel_rfl) (by kernel_rfl) rfl rfl rfl rfl rfl rfl rfl (fun _ _ d _ _ h => by cases d <;> exact h) ?_
  simp only [pkU, pkF, pkH, pkT, pkB]
  refine wpUni_step ?v0 (by rfl) ?f0 ?_
  case f0 =>
    intro w9
    go_simp
    with_reducible rfl
  try simp only [Act.put, List.setIfInBounds_toArray, List.set_cons_zero, List.set_cons_succ]
  refine wpUni_nil ?_
  refine wpFlo_step ?v1 (by rfl) ?f1 ?_
  case f1 =>
    rintro w9 ⟨t9, rfl⟩
    go_simp
    with_reducible rfl
  try simp only [Act.put, List.setIfInBounds_toArray, List.set_cons_zero, List.set_cons_succ]
  refine wpFlo_step ?v2 (by rfl) ?f2 ?_
  case f2 =>
    rintro w9 ⟨t9, rfl⟩
    go_simp
    with_reducible rfl
  try simp only [Act.put, List.setIfInBounds_toArray, List.set_cons_zero, List.set_cons_succ]
  refine wpFlo_step ?v3 (by rfl) ?f3 ?_
  case f3 =>
    rintro w9 ⟨t9, rfl⟩
    go_simp
    with_reducible rfl
  try simp only [Act.put, List.setIfInBounds_toArray, List.set_cons_zero, List.set_cons_succ]
  refine wpFlo_step ?v4 (by rfl) ?f4 ?_
  case f4 =>
    rintro w9 ⟨t9, rfl⟩
    go_simp
    with_reducible rfl
  try simp only [Act.put, List.setIfInBounds_toArray, List.set_cons_zero, List.set_cons_succ]
  refine wpFlo_nil ?_
  repeat (go_big_quiet_step (fail))
  refine wpQuiet_nil ?_
  refine ⟨rfl, ?_⟩
  rintro w9 ⟨t9, rfl⟩ K9 hK9
  go_simp
  refine hK9.out _ _ (gr_gr (Keeps.alloc (Keeps.refl _) _)) ?_
  clear hK9 K9
  have HP9 := hide (HP2.out.kept (gr_keeps W2' t9))
  generalize gr W2' t9 = W9 at *
  have HK9 := hide (Keeps.alloc (Keeps.refl W9) (.cells #[.int .i64 (j1 + 1), .int .i64 0, .int .i64 cp, .int .i64 cost] 40))
  have HM9 := hide (mem_one W9 ⟨j1 + 1, 0, cp, cost⟩)
  have HO9 := hide ((HP9.out.kept HK9.out).ow)
  have HB9 : Hid (G + 1 ≤ (W9.alloc (.cells #[.int .i64 (j1 + 1), .int .i64 0, .int .i64 cp, .int .i64 cost] 40)).heap.size) := by show _ ≤ _; have := HP9.out.gr.lt; simp; omega
  dsimp only at HM9
  clear G1 D0 D1 D2 D3
  go_wp2_with (at_builtin; refine app_Edge rfl (.tmp 40) (.tmp 42) rfl (G + 1) _ E [⟨j1 + 1, 0, cp, cost⟩] rfl (some ⟨W9.heap.size, 0, none⟩) 1 rfl HM9.out (fun h => nomatch h) HO9.out (by have := HEL.out; simp; omega) HB9.out ?_; intro v' w' ho hg hnn; obtain ⟨ea', ec', rfl, hen, hDG, q1, q2, q3⟩ := HP9.out.grow HK9.out ho hg; have HDG := hide hDG; have HENN := hide hen; clear hDG ho hg hnn hen)
  go_end0
  refine ⟨rfl, ea', ec', HENN.out, ?_⟩
  rw [← HJ1.out, HCP.out]
  exact HDG.out
set_option maxHeartbeats 4000000 in
theorem lay_3 (w wr : World) (R G : Nat) (ca : Option Addr) (cc : Nat) (C : List Chn) (ea : Option Addr) (ec : Nat) (E : List Edg) (fr tt amt cost : Int) (h : PlS w wr R G 76 (.slice ca C.length cc) ea ec E) (hc : ∀ w', Keeps w w' → Cells w' ca (chs C)) (hl : C.length ≤ 20) (hE : E.length ≤ 1000) :
    Calls Tryz.prog 73 #[.pointer (some ⟨G, 0, none⟩), .int .i64 3, .int .i64 fr, .int .i64 tt, .int .i64 amt, .int .i64 cost] wr fun e w' => e = .returned (.tuple #[]) ∧ ∃ ea' ec', (ea' = none → ec' = 0) ∧ PlS w w' R G 76 (.slice ca C.length cc) ea' ec' (E ++ [⟨atI C fr + 1, atI C tt + 1, capV amt, cost⟩]) := by
  have HP := hide h
  have HN := hide (fun x w' (hk : Keeps wr w') => node_impl G ca cc C x w' ((h.kept hk).cell0) (hc w' (h.keep.trans hk)) (by omega))
  have HEL := hide hE
  have HCV : Hid (capV amt = min amt 1000000000) := by show _ = _; unfold capV; split <;> omega
  rw [HCV.out]
  have HR : Hid ((wr.alloc (.cells #[.int .i64 0, .int .i64 0, .int .i64 (min amt 1000000000), .int .i64 cost] 40)).rowIs wr.heap.size 40 4 (row4 (.int .i64 0) (.int .i64 0) (.int .i64 (min amt 1000000000)) (.int .i64 cost))) := World.rowIs_alloc wr #[.int .i64 0, .int .i64 0, .int .i64 (min amt 1000000000), .int .i64 cost] 40 (row4 (.int .i64 0) (.int .i64 0) (.int .i64 (min amt 1000000000)) (.int .i64 cost)) (row4_at _ _ _ _)
  have HKN := hide (Keeps.alloc (Keeps.refl wr) (.cells #[.int .i64 0, .int .i64 0, .int .i64 (min amt 1000000000), .int .i64 cost] 40))
  have HV : Hid (G < wr.heap.size) := h.gr.lt
  clear h hc hE HCV
  go_enter Tryz.func73, Tryz.ntmps73
  go_upto_region 1 with fail
  generalize hcp : min amt 1000000000 = cp at *
  have HCP := hide hcp
  clear hcp
  obtain ⟨V, hV⟩ : ∃ V, V = wr.heap.size := ⟨_, rfl⟩
  have HVV : Hid (wr.heap.size ≤ V) := by show _ ≤ _; omega
  rw [← hV] at HR ⊢
  generalize wr.alloc (.cells #[.int .i64 0, .int .i64 0, .int .i64 cp, .int .i64 cost] 40) = W1 at *
  have HAF := hide (fun x => HN.out x)
  obtain ⟨j1, hj1⟩ : ∃ j1, j1 = atI C fr := ⟨_, rfl⟩
  obtain ⟨j2, hj2⟩ : ∃ j2, j2 = atI C tt := ⟨_, rfl⟩
  have HN1 := hide (HN.out fr)
  have HN2 := hide (HN.out tt)
  rw [← hj1] at HN1
  rw [← hj2] at HN2
  try rw [← hj1]
  try rw [← hj2]
  have HJ1 := hide hj1
  have HJ2 := hide hj2
  clear HN HAF hj1 hj2 hV
  go_wp2_with fail
  refine (unhide HN1 W1 HKN.out).mono ?_
  rintro e W2 ⟨rfl, hk⟩
  replace HKN := hide (HKN.out.trans hk)
  have HRn := hide (hk.rowK HR.out)
  clear hk HR
  have r0 := HRn.out.cell (i := 0) (by decide)
  have f0 := HRn.out.frozen 0
  have hlt := HRn.out.lt
  go_upto_region 7 with fail
  have HR0 := hide ((HRn.out.set 0 (.int .i64 (j1 + 1))).congr (g := row4 (.int .i64 (j1 + 1)) (.int .i64 (0)) (.int .i64 (cp)) (.int .i64 (cost))) (fun i hi => by rcases (show i = 0 ∨ i = 1 ∨ i = 2 ∨ i = 3 by omega) with rfl | rfl | rfl | rfl <;> rfl))
  replace HKN := hide (HKN.out.setCell (p := ⟨V, 0, none⟩) (by dsimp only; have := HVV.out; omega) (.int .i64 (j1 + 1)))
  clear HRn r0 f0 hlt
  generalize W2.setCell ⟨V, 0, none⟩ (.int .i64 (j1 + 1)) = W2' at *
  go_wp2_with fail
  refine (unhide HN2 W2' HKN.out).mono ?_
  rintro e W3 ⟨rfl, hk⟩
  replace HKN := hide (HKN.out.trans hk)
  have HRn := hide (hk.rowK HR0.out)
  clear hk HR0
  have r1 := HRn.out.cell (i := 1) (by decide)
  have f1 := HRn.out.frozen 1
  have hlt := HRn.out.lt
  go_upto_region 8 with fail
  have HR1 := hide ((HRn.out.set 1 (.int .i64 (j2 + 1))).congr (g := row4 (.int .i64 (j1 + 1)) (.int .i64 (j2 + 1)) (.int .i64 (cp)) (.int .i64 (cost))) (fun i hi => by rcases (show i = 0 ∨ i = 1 ∨ i = 2 ∨ i = 3 by omega) with rfl | rfl | rfl | rfl <;> rfl))
  replace HKN := hide (HKN.out.setCell (p := ⟨V, 1, none⟩) (by dsimp only; have := HVV.out; omega) (.int .i64 (j2 + 1)))
  clear HRn r1 f1 hlt
  generalize W3.setCell ⟨V, 1, none⟩ (.int .i64 (j2 + 1)) = W3' at *
  have HP2 := hide (HP.out.kept HKN.out)
  have d0 := HR1.out.cell (i := 0) (by decide)
  have d1 := HR1.out.cell (i := 1) (by decide)
  have d2 := HR1.out.cell (i := 2) (by decide)
  have d3 := HR1.out.cell (i := 3) (by decide)
  simp only [row4, if_true, if_false, show ¬ (1 : Nat) = 0 by decide, show ¬ (2 : Nat) = 0 by decide, show ¬ (2 : Nat) = 1 by decide, show ¬ (3 : Nat) = 0 by decide, show ¬ (3 : Nat) = 1 by decide, show ¬ (3 : Nat) = 2 by decide] at d0 d1 d2 d3
  have G1 := gr_cell HP2.out.cell1
  have D0 := gr_cell d0
  have D1 := gr_cell d1
  have D2 := gr_cell d2
  have D3 := gr_cell d3
  clear d0 d1 d2 d3
  refine wp_region_app [.u, .f, .f, .f, .f, .h, .b, .t, .t, .t, .t] (by kernel_rfl) (by kernel_rfl) rfl rfl rfl rfl rfl rfl rfl (fun _ _ d _ _ h => by cases d <;> exact h) ?_
  simp only [pkU, pkF, pkH, pkT, pkB]
  refine wpUni_step ?v0 (by rfl) ?f0 ?_
  case f0 =>
    intro w9
    go_simp
    with_reducible rfl
  try simp only [Act.put, List.setIfInBounds_toArray, List.set_cons_zero, List.set_cons_succ]
  refine wpUni_nil ?_
  refine wpFlo_step ?v1 (by rfl) ?f1 ?_
  case f1 =>
    rintro w9 ⟨t9, rfl⟩
    go_simp
    with_reducible rfl
  try simp only [Act.put, List.setIfInBounds_toArray, List.set_cons_zero, List.set_cons_succ]
  refine wpFlo_step ?v2 (by rfl) ?f2 ?_
  case f2 =>
    rintro w9 ⟨t9, rfl⟩
    go_simp
    with_reducible rfl
  try simp only [Act.put, List.setIfInBounds_toArray, List.set_cons_zero, List.set_cons_succ]
  refine wpFlo_step ?v3 (by rfl) ?f3 ?_
  case f3 =>
    rintro w9 ⟨t9, rfl⟩
    go_simp
    with_reducible rfl
  try simp only [Act.put, List.setIfInBounds_toArray, List.set_cons_zero, List.set_cons_succ]
  refine wpFlo_step ?v4 (by rfl) ?f4 ?_
  case f4 =>
    rintro w9 ⟨t9, rfl⟩
    go_simp
    with_reducible rfl
  try simp only [Act.put, List.setIfInBounds_toArray, List.set_cons_zero, List.set_cons_succ]
  refine wpFlo_nil ?_
  repeat (go_big_quiet_step (fail))
  refine wpQuiet_nil ?_
  refine ⟨rfl, ?_⟩
  rintro w9 ⟨t9, rfl⟩ K9 hK9
  go_simp
  refine hK9.out _ _ (gr_gr (Keeps.alloc (Keeps.refl _) _)) ?_
  clear hK9 K9
  have HP9 := hide (HP2.out.kept (gr_keeps W3' t9))
  generalize gr W3' t9 = W9 at *
  have HK9 := hide (Keeps.alloc (Keeps.refl W9) (.cells #[.int .i64 (j1 + 1), .int .i64 (j2 + 1), .int .i64 cp, .int .i64 cost] 40))
  have HM9 := hide (mem_one W9 ⟨j1 + 1, j2 + 1, cp, cost⟩)
  have HO9 := hide ((HP9.out.kept HK9.out).ow)
  have HB9 : Hid (G + 1 ≤ (W9.alloc (.cells #[.int .i64 (j1 + 1), .int .i64 (j2 + 1), .int .i64 cp, .int .i64 cost] 40)).heap.size) := by show _ ≤ _; have := HP9.out.gr.lt; simp; omega
  dsimp only at HM9
  clear G1 D0 D1 D2 D3
  go_wp2_with (at_builtin; refine app_Edge rfl (.tmp 40) (.tmp 42) rfl (G + 1) _ E [⟨j1 + 1, j2 + 1, cp, cost⟩] rfl (some ⟨W9.heap.size, 0, none⟩) 1 rfl HM9.out (fun h => nomatch h) HO9.out (by have := HEL.out; simp; omega) HB9.out ?_; intro v' w' ho hg hnn; obtain ⟨ea', ec', rfl, hen, hDG, q1, q2, q3⟩ := HP9.out.grow HK9.out ho hg; have HDG := hide hDG; have HENN := hide hen; clear hDG ho hg hnn hen)
  go_end0
  refine ⟨rfl, ea', ec', HENN.out, ?_⟩
  rw [← HJ1.out, ← HJ2.out, HCP.out]
  exact HDG.out
end Go.Proofs.YtjdbedlgkngdkaaGreatDoor
namespace Go.Proofs.YtjdbedlgkngdkaaGreatDoor
open Go.RowKit Go.Deep
set_option linter.unusedVariables false
set_option linter.unusedSimpArgs false
set_option maxRecDepth 10000

set_option maxHeartbeats 4000000 in
theorem above_impl (w wr : World) (R G : Nat) (ca : Option Addr) (cc : Nat) (C : List Chn) (ea : Option Addr) (ec : Nat) (E0 : List Edg) (lo hi : Int) (h : PlS w wr R G 76 (.slice ca C.length cc) ea ec E0) (hen : ea = none → ec = 0) (hc : ∀ w', Keeps w w' → Cells w' ca (chs C)) (hl : C.length ≤ 20) (hE : E0.length ≤ 100) (hid : idsB C = true) (hlo : ∀ k (hk : k < C.length), 0 ≤ C[k].lo ∧ C[k].lo ≤ 1125899906842624) :
    Calls Tryz.prog 33 #[.pointer (some ⟨G, 0, none⟩), .int .i64 lo, .int .i64 hi] wr fun e w' => e = .returned (.tuple #[]) ∧ ∃ ea' ec', (ea' = none → ec' = 0) ∧ PlS w w' R G 76 (.slice ca C.length cc) ea' ec' (E0 ++ overC (aboveE lo hi) C C.length) := by
  have HP0 := hide h
  have HCC := hide hc
  have HE0 := hide hE
  have HID := hide hid
  have HLO := hide hlo
  have HEN0 := hide hen
  
  have g0 := h.cell0
  have hGl := lt_of_cell g0
  clear h hc hE hid hlo hen 
  go_enter Tryz.func33, Tryz.ntmps33
  go_wp2_with fail
  clear g0 hGl
  go_loopw [15] (fun y wq => ∃ (k : Nat) (ea : Option Addr) (ec : Nat), k ≤ C.length ∧ y = .int .i64 (k : Int) ∧ Hid (ea = none → ec = 0) ∧ Hid (PlS w wq R G 76 (.slice ca C.length cc) ea ec (E0 ++ overC (aboveE lo hi) C k))) (fun y _ => C.length - (intOf y).toNat)
  case atStart => exact ⟨0, ea, ec, by omega, rfl, HEN0.out, (by show PlS _ _ _ _ _ _ _ _ _; simpa [overC] using HP0.out)⟩
  case round =>
    clear HP0 HEN0
    obtain ⟨k, ea, ec, hk, rfl, HEN, HP⟩ := hrel
    by_cases hlt : k < C.length
    · obtain ⟨b, off, ea0, c0, c1, c2, c3, c4, c5, c6⟩ := chs_at (unhide HCC _ HP.out.keep) k hlt
      subst ea0
      have HST : Hid (E0 ++ overC (aboveE lo hi) C (k + 1) = (E0 ++ overC (aboveE lo hi) C k) ++ aboveE lo hi k C[k]) := by show _ = _; rw [overC_step (aboveE lo hi) C hlt]; simp only [List.append_assoc]
      have HEN2 : Hid ((E0 ++ overC (aboveE lo hi) C k).length ≤ 100 + k) := by
        show _ ≤ _
        have h1 := overC_len (aboveE_len lo hi) C k
        have h0 := HE0.out
        rw [List.length_append]; omega
      have HAM : Hid (0 ≤ C[k].lo ∧ C[k].lo ≤ 1125899906842624) := HLO.out k hlt
      have HEB := hide (endV_bound (sz := C[k].sz) (lo := lo) (hi := hi) (k := hi) (.inr rfl))
      have HED := hide (fun w1 => ends_impl C[k] lo hi w1)
      have HOW := hide (atI_own HID.out hlt)
      have HAE : Hid (aboveE lo hi k C[k] = if endV C[k].sz hi lo hi < C[k].lo then [⟨0, (k : Int) + 1, capV (C[k].lo - endV C[k].sz hi lo hi), 0⟩] else []) := rfl
      obtain ⟨E1, hE1⟩ : ∃ E1, E1 = E0 ++ overC (aboveE lo hi) C (k + 1) := ⟨_, rfl⟩
      have HE1 := hide hE1
      rw [← hE1] at HST
      clear hE1
      generalize E0 ++ overC (aboveE lo hi) C k = E at *
      generalize aboveE lo hi k C[k] = F at *
      generalize C[k] = x at *
      obtain ⟨xid, xsz, xlo, xre, xba, xpp, xsc⟩ := x
      dsimp only [Chn.v] at *
      generalize endV xsz lo lo hi = v1 at *
      generalize endV xsz hi lo hi = v2 at *
      have HA := hide (rowc7 wr (.int .i64 xid) (.int .i64 xsz) (.int .i64 xlo) (.int .i64 xre) (.int .i64 xba) (.int .i64 xpp) (.int .i64 xsc) 84)
      have HKA := hide (Keeps.alloc (Keeps.refl wr) (.cells #[.int .i64 xid, .int .i64 xsz, .int .i64 xlo, .int .i64 xre, .int .i64 xba, .int .i64 xpp, .int .i64 xsc] 84))
      go_upto_region 3 with fail
      generalize wr.heap.size = V at *
      generalize wr.alloc (.cells #[.int .i64 xid, .int .i64 xsz, .int .i64 xlo, .int .i64 xre, .int .i64 xba, .int .i64 xpp, .int .i64 xsc] 84) = W1 at *
      obtain ⟨d0, d1, d2, d3, d4, d5, d6⟩ := unhide HA W1 (Keeps.refl _)
      clear c0 c1 c2 c3 c4 c5 c6
      go_wp2_with fail
      refine (unhide HED W1).mono ?_
      rintro e W2 ⟨rfl, hk2⟩
      obtain ⟨d0, d1, d2, d3, d4, d5, d6⟩ := unhide HA W2 hk2
      have HP2 := hide ((HP.out.kept HKA.out).kept hk2)
      clear hk2 HP HKA HED HA
      by_cases hc : v2 < xlo
      · rw [if_pos hc] at HAE
        have hw2 : IntKind.i64.wrap (xlo - v2) = xlo - v2 := by rw [IntKind.wrap_i64]; have := HAM.out; have := HEB.out; omega
        skip
        have HLY := hide (lay_1 w W2 R G _ cc C ea ec E 0 xid (xlo - v2) 0 HP2.out HCC.out hl (by have := HEN2.out; omega))
        rw [HOW.out] at HLY
        go_wp2_with fail
        refine (unhide HLY).mono ?_
        rintro e W3 ⟨rfl, ea', ec', hen', hp'⟩
        have HP3 := hide hp'
        have HEN3 := hide hen'
        clear hp' hen' d0 d1 d2 d3 d4 d5 d6
        go_wp2_with fail
        go_roundw
        case rel => exact ⟨k + 1, ea', ec', by omega, by go_num, HEN3.out, by rw [← HE1.out, HST.out, HAE.out]; exact HP3.out⟩
        case measure => simp [intOf]; omega
      · rw [if_neg hc] at HAE
        have HE : Hid (E1 = E) := by show _ = _; rw [HST.out, HAE.out, List.append_nil]
        go_wp2_with fail
        go_roundw
        case rel => exact ⟨k + 1, ea, ec, by omega, by go_num, HEN.out, by rw [← HE1.out, HE.out]; exact HP2.out⟩
        case measure => simp [intOf]; omega
    · have e : k = C.length := by omega
      subst e
      go_wp2_with fail
      go_end0
      exact ⟨rfl, ea, ec, HEN.out, HP.out⟩
set_option maxHeartbeats 4000000 in
theorem lack_impl (w wr : World) (R G : Nat) (ca : Option Addr) (cc : Nat) (C : List Chn) (ea : Option Addr) (ec : Nat) (E0 : List Edg) (lo hi gain : Int) (h : PlS w wr R G 76 (.slice ca C.length cc) ea ec E0) (hen : ea = none → ec = 0) (hc : ∀ w', Keeps w w' → Cells w' ca (chs C)) (hl : C.length ≤ 20) (hE : E0.length ≤ 100) (hid : idsB C = true) (hlo : ∀ k (hk : k < C.length), 0 ≤ C[k].lo ∧ C[k].lo ≤ 1125899906842624) (hgn : 0 ≤ gain ∧ gain ≤ 1000000) :
    Calls Tryz.prog 34 #[.pointer (some ⟨G, 0, none⟩), .int .i64 lo, .int .i64 hi, .int .i64 gain] wr fun e w' => e = .returned (.tuple #[]) ∧ ∃ ea' ec', (ea' = none → ec' = 0) ∧ PlS w w' R G 76 (.slice ca C.length cc) ea' ec' (E0 ++ overC (lackE lo hi gain) C C.length) := by
  have HP0 := hide h
  have HCC := hide hc
  have HE0 := hide hE
  have HID := hide hid
  have HLO := hide hlo
  have HEN0 := hide hen
  have HGB := hide hgn
  have g0 := h.cell0
  have hGl := lt_of_cell g0
  clear h hc hE hid hlo hen hgn
  go_enter Tryz.func34, Tryz.ntmps34
  go_wp2_with fail
  clear g0 hGl
  go_loopw [17] (fun y wq => ∃ (k : Nat) (ea : Option Addr) (ec : Nat), k ≤ C.length ∧ y = .int .i64 (k : Int) ∧ Hid (ea = none → ec = 0) ∧ Hid (PlS w wq R G 76 (.slice ca C.length cc) ea ec (E0 ++ overC (lackE lo hi gain) C k))) (fun y _ => C.length - (intOf y).toNat)
  case atStart => exact ⟨0, ea, ec, by omega, rfl, HEN0.out, (by show PlS _ _ _ _ _ _ _ _ _; simpa [overC] using HP0.out)⟩
  case round =>
    clear HP0 HEN0
    obtain ⟨k, ea, ec, hk, rfl, HEN, HP⟩ := hrel
    by_cases hlt : k < C.length
    · obtain ⟨b, off, ea0, c0, c1, c2, c3, c4, c5, c6⟩ := chs_at (unhide HCC _ HP.out.keep) k hlt
      subst ea0
      have HST : Hid (E0 ++ overC (lackE lo hi gain) C (k + 1) = (E0 ++ overC (lackE lo hi gain) C k) ++ lackE lo hi gain k C[k]) := by show _ = _; rw [overC_step (lackE lo hi gain) C hlt]; simp only [List.append_assoc]
      have HEN2 : Hid ((E0 ++ overC (lackE lo hi gain) C k).length ≤ 100 + k) := by
        show _ ≤ _
        have h1 := overC_len (lackE_len lo hi gain) C k
        have h0 := HE0.out
        rw [List.length_append]; omega
      have HAM : Hid (0 ≤ C[k].lo ∧ C[k].lo ≤ 1125899906842624) := HLO.out k hlt
      have HEB := hide (endV_bound (sz := C[k].sz) (lo := lo) (hi := hi) (k := lo) (.inl rfl))
      have HED := hide (fun w1 => ends_impl C[k] lo hi w1)
      have HOW := hide (atI_own HID.out hlt)
      have HAE : Hid (lackE lo hi gain k C[k] = if C[k].lo < endV C[k].sz lo lo hi then [⟨(k : Int) + 1, 0, capV (endV C[k].sz lo lo hi - C[k].lo), -gain⟩] else []) := rfl
      obtain ⟨E1, hE1⟩ : ∃ E1, E1 = E0 ++ overC (lackE lo hi gain) C (k + 1) := ⟨_, rfl⟩
      have HE1 := hide hE1
      rw [← hE1] at HST
      clear hE1
      generalize E0 ++ overC (lackE lo hi gain) C k = E at *
      generalize lackE lo hi gain k C[k] = F at *
      generalize C[k] = x at *
      obtain ⟨xid, xsz, xlo, xre, xba, xpp, xsc⟩ := x
      dsimp only [Chn.v] at *
      generalize endV xsz lo lo hi = v1 at *
      generalize endV xsz hi lo hi = v2 at *
      have HA := hide (rowc7 wr (.int .i64 xid) (.int .i64 xsz) (.int .i64 xlo) (.int .i64 xre) (.int .i64 xba) (.int .i64 xpp) (.int .i64 xsc) 84)
      have HKA := hide (Keeps.alloc (Keeps.refl wr) (.cells #[.int .i64 xid, .int .i64 xsz, .int .i64 xlo, .int .i64 xre, .int .i64 xba, .int .i64 xpp, .int .i64 xsc] 84))
      go_upto_region 3 with fail
      generalize wr.heap.size = V at *
      generalize wr.alloc (.cells #[.int .i64 xid, .int .i64 xsz, .int .i64 xlo, .int .i64 xre, .int .i64 xba, .int .i64 xpp, .int .i64 xsc] 84) = W1 at *
      obtain ⟨d0, d1, d2, d3, d4, d5, d6⟩ := unhide HA W1 (Keeps.refl _)
      clear c0 c1 c2 c3 c4 c5 c6
      go_wp2_with fail
      refine (unhide HED W1).mono ?_
      rintro e W2 ⟨rfl, hk2⟩
      obtain ⟨d0, d1, d2, d3, d4, d5, d6⟩ := unhide HA W2 hk2
      have HP2 := hide ((HP.out.kept HKA.out).kept hk2)
      clear hk2 HP HKA HED HA
      by_cases hc : xlo < v1
      · rw [if_pos hc] at HAE
        have hw2 : IntKind.i64.wrap (v1 - xlo) = v1 - xlo := by rw [IntKind.wrap_i64]; have := HAM.out; have := HEB.out; omega
        have hw3 : IntKind.i64.wrap (-gain) = -gain := by rw [IntKind.wrap_i64]; have := HGB.out; omega
        have HLY := hide (lay_2 w W2 R G _ cc C ea ec E xid 0 (v1 - xlo) (-gain) HP2.out HCC.out hl (by have := HEN2.out; omega))
        rw [HOW.out] at HLY
        go_wp2_with fail
        refine (unhide HLY).mono ?_
        rintro e W3 ⟨rfl, ea', ec', hen', hp'⟩
        have HP3 := hide hp'
        have HEN3 := hide hen'
        clear hp' hen' d0 d1 d2 d3 d4 d5 d6
        go_wp2_with fail
        go_roundw
        case rel => exact ⟨k + 1, ea', ec', by omega, by go_num, HEN3.out, by rw [← HE1.out, HST.out, HAE.out]; exact HP3.out⟩
        case measure => simp [intOf]; omega
      · rw [if_neg hc] at HAE
        have HE : Hid (E1 = E) := by show _ = _; rw [HST.out, HAE.out, List.append_nil]
        go_wp2_with fail
        go_roundw
        case rel => exact ⟨k + 1, ea, ec, by omega, by go_num, HEN.out, by rw [← HE1.out, HE.out]; exact HP2.out⟩
        case measure => simp [intOf]; omega
    · have e : k = C.length := by omega
      subst e
      go_wp2_with fail
      go_end0
      exact ⟨rfl, ea, ec, HEN.out, HP.out⟩
set_option maxHeartbeats 4000000 in
theorem lprices_impl (w wr : World) (R G : Nat) (ca : Option Addr) (cc : Nat) (C : List Chn) (ea : Option Addr) (ec : Nat) (E0 : List Edg) (a : Option Addr) (cap : Nat) (L : List Prc) (h : PlS w wr R G 76 (.slice ca C.length cc) ea ec E0) (hen : ea = none → ec = 0) (hc : ∀ w', Keeps w w' → Cells w' ca (chs C)) (hl : C.length ≤ 20) (hE : E0.length ≤ 100) (hp : ∀ w', Keeps w w' → Cells w' a (pcs L)) (hL : L.length ≤ 20) :
    Calls Tryz.prog 35 #[.pointer (some ⟨G, 0, none⟩), .slice a L.length cap] wr fun e w' => e = .returned (.tuple #[]) ∧ ∃ ea' ec', (ea' = none → ec' = 0) ∧ PlS w w' R G 76 (.slice ca C.length cc) ea' ec' (E0 ++ L.map (priceE C)) := by
  have HP0 := hide h
  have HCC := hide hc
  have HPP := hide hp
  have HE0 := hide hE
  have HEN0 := hide hen
  clear h hc hE hp hen
  go_enter Tryz.func35, Tryz.ntmps35
  go_wp2_with fail
  go_loopw [8] (fun y wq => ∃ (k : Nat) (ea : Option Addr) (ec : Nat), k ≤ L.length ∧ y = .int .i64 (k : Int) ∧ Hid (ea = none → ec = 0) ∧ Hid (PlS w wq R G 76 (.slice ca C.length cc) ea ec (E0 ++ (L.take k).map (priceE C)))) (fun y _ => L.length - (intOf y).toNat)
  case atStart => exact ⟨0, ea, ec, by omega, rfl, HEN0.out, (by show PlS _ _ _ _ _ _ _ _ _; simpa using HP0.out)⟩
  case round =>
    clear HP0 HEN0
    obtain ⟨k, ea, ec, hk, rfl, HEN, HP⟩ := hrel
    by_cases hlt : k < L.length
    · obtain ⟨b, off, ea0, c0, c1, c2⟩ := pcs_at (unhide HPP _ HP.out.keep) k hlt
      subst ea0
      have HST : Hid (E0 ++ (L.take (k + 1)).map (priceE C) = (E0 ++ (L.take k).map (priceE C)) ++ [priceE C L[k]]) := by show _ = _; rw [List.take_add_one, List.getElem?_eq_getElem hlt, Option.toList_some, List.map_append, List.map_singleton, List.append_assoc]
      have HEN2 : Hid ((E0 ++ (L.take k).map (priceE C)).length ≤ 100 + k) := by
        show _ ≤ _
        have := HE0.out
        rw [List.length_append, List.length_map, List.length_take]
        omega
      have HPE : Hid (priceE C L[k] = ⟨atI C L[k].fr + 1, atI C L[k].to + 1, 1000000000, L[k].pp⟩) := rfl
      obtain ⟨E1, hE1⟩ : ∃ E1, E1 = E0 ++ (L.take (k + 1)).map (priceE C) := ⟨_, rfl⟩
      have HE1 := hide hE1
      rw [← hE1, HPE.out] at HST
      clear hE1 HPE
      generalize E0 ++ (L.take k).map (priceE C) = E at *
      generalize L[k] = x at *
      obtain ⟨xfr, xto, xpp⟩ := x
      dsimp only [Prc.v] at *
      have HA := hide (rowc3 wr (.int .i64 xfr) (.int .i64 xto) (.int .i64 xpp) 69)
      have HKA := hide (Keeps.alloc (Keeps.refl wr) (.cells #[.int .i64 xfr, .int .i64 xto, .int .i64 xpp] 69))
      go_upto_region 3 with fail
      generalize wr.heap.size = V at *
      generalize wr.alloc (.cells #[.int .i64 xfr, .int .i64 xto, .int .i64 xpp] 69) = W2 at *
      obtain ⟨d0, d1, d2⟩ := unhide HA W2 (Keeps.refl _)
      have HP2 := hide (HP.out.kept HKA.out)
      have HLY := hide (lay_3 w W2 R G ca cc C ea ec E xfr xto 1000000000 xpp HP2.out HCC.out hl (by have := HEN2.out; omega))
      rw [show capV 1000000000 = 1000000000 by decide] at HLY
      clear c0 c1 c2 HP HKA HA
      go_wp2_with fail
      refine (unhide HLY).mono ?_
      rintro e W3 ⟨rfl, ea', ec', hen', hp'⟩
      have HP3 := hide hp'
      have HEN3 := hide hen'
      clear hp' hen' d0 d1 d2
      go_wp2_with fail
      go_roundw
      case rel => exact ⟨k + 1, ea', ec', by omega, by go_num, HEN3.out, by rw [← HE1.out, HST.out]; exact HP3.out⟩
      case measure => simp [intOf]; omega
    · have e : k = L.length := by omega
      subst e
      go_wp2_with fail
      go_end0
      refine ⟨rfl, ea, ec, HEN.out, ?_⟩
      have := HP.out
      rwa [List.take_length] at this
end Go.Proofs.YtjdbedlgkngdkaaGreatDoor
