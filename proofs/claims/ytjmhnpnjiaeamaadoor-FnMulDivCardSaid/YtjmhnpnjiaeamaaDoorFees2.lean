/- Contracts of share, feeDown, feeUp, Fee and FeeUp of the program, and of l01Fee, Fee and FeeUp of the model. -/
import Derived.Test.YtjmhnpnjiaeamaaDoorFees
namespace Go.Proofs.YtjmhnpnjiaeamaaDoor
open Go.RowKit
set_option linter.unusedVariables false

def shB (ppm amt : Int) : Bool := decide (ppm ≤ 1000000) && divB amt ppm 1000000
/-- The part of the amount, cut down or up. -/
def part (ppm amt : Int) (up : Bool) : Int := if up = true ∧ 0 < amt * ppm % 1000000 then amt * ppm / 1000000 + 1 else amt * ppm / 1000000
def feeB (base ppm amt : Int) (up : Bool) : Bool := shB ppm amt && addB base (part ppm amt up)
def feeV (base ppm amt : Int) (up : Bool) : Int := if feeB base ppm amt up = true then base + part ppm amt up else 0
theorem part_down (ppm amt : Int) : part ppm amt false = amt * ppm / 1000000 := by simp [part]
theorem part_rest {ppm amt : Int} (h : 0 < amt * ppm % 1000000) : part ppm amt true = amt * ppm / 1000000 + 1 := by simp [part, h]
theorem part_none {ppm amt : Int} (h : ¬ 0 < amt * ppm % 1000000) : part ppm amt true = amt * ppm / 1000000 := by simp [part, h]

theorem share_ok (ppm amt : Int) (w : World) (h : shB ppm amt = true) :
    Calls Tryd.prog 45 #[.int .i64 ppm, .int .i64 amt] w fun e w' => e = .returned (.tuple #[.int .i64 (amt * ppm / 1000000), .int .i64 (amt * ppm % 1000000), .nilIface]) ∧ Keeps w w' := by
  simp only [shB, Bool.and_eq_true, decide_eq_true_eq] at h
  obtain ⟨h1, h2⟩ := h
  have HD := hide (divide_ok amt ppm 1000000 w h2)
  clear h2
  go_enter Tryd.func45, Tryd.ntmps45
  go_wp2_with (first | (go_at_call 37; refine (unhide HD).mono ?_; rintro e w1 ⟨rfl, hk⟩))
  go_ret3
  exact ⟨rfl, hk⟩

theorem share_no (ppm amt : Int) (w : World) (u0 u2 u3 : TypeId) (x0 x2 x3 : Value) (hg0 : w.cell? ⟨0, 0, none⟩ = some (.iface u0 x0)) (hg2 : w.cell? ⟨2, 0, none⟩ = some (.iface u2 x2)) (hg3 : w.cell? ⟨3, 0, none⟩ = some (.iface u3 x3)) (h : shB ppm amt = false) :
    Calls Tryd.prog 45 #[.int .i64 ppm, .int .i64 amt] w fun e w' => (∃ u x, e = .returned (.tuple #[.int .i64 0, .int .i64 0, .iface u x])) ∧ Keeps w w' := by
  by_cases h1 : ppm ≤ 1000000
  · have h2 : divB amt ppm 1000000 = false := by simpa [shB, h1] using h
    have HD := hide (divide_no amt ppm 1000000 w u0 u3 x0 x3 hg0 hg3 h2)
    clear h2 h
    go_enter Tryd.func45, Tryd.ntmps45
    go_wp2_with (first | (go_at_call 37; refine (unhide HD).mono ?_; rintro e w1 ⟨⟨u, x, rfl⟩, hk⟩))
    go_ret3
    exact ⟨⟨_, _, rfl⟩, hk⟩
  · clear h
    go_enter Tryd.func45, Tryd.ntmps45
    go_wp2
    go_quiet (fail)
    go_wp2
    go_ret3
    exact ⟨⟨_, _, rfl⟩, Keeps.drewN (Keeps.refl _) _⟩

/-- The two ends of feeDown and feeUp: what told makes of them. -/
theorem down_ok (base ppm amt : Int) (w : World) (h : feeB base ppm amt false = true) :
    Calls Tryd.prog 33 #[.int .i64 base, .int .i64 ppm, .int .i64 amt] w fun e w' => e = .returned (.tuple #[.int .i64 (base + part ppm amt false), .nilIface]) ∧ Keeps w w' := by
  simp only [feeB, Bool.and_eq_true] at h
  obtain ⟨h1, h2⟩ := h
  rw [part_down] at h2 ⊢
  have HS := hide (share_ok ppm amt w h1)
  have HA := hide (fun w1 => sum_ok base (amt * ppm / 1000000) w1 h2)
  clear h1 h2
  generalize amt * ppm / 1000000 = Q at *
  generalize amt * ppm % 1000000 = R at *
  go_enter Tryd.func33, Tryd.ntmps33
  go_wp2_with (first | (go_at_call 45; refine (unhide HS).mono ?_; rintro e w1 ⟨rfl, hk⟩) | (go_at_call 40; refine (unhide HA _).mono ?_; rintro e w2 ⟨rfl, hw⟩; rw [hw]; clear hw w2))
  go_ret2
  exact ⟨rfl, hk⟩

theorem down_no (base ppm amt : Int) (w : World) (u0 u2 u3 : TypeId) (x0 x2 x3 : Value) (hg0 : w.cell? ⟨0, 0, none⟩ = some (.iface u0 x0)) (hg2 : w.cell? ⟨2, 0, none⟩ = some (.iface u2 x2)) (hg3 : w.cell? ⟨3, 0, none⟩ = some (.iface u3 x3)) (h : feeB base ppm amt false = false) :
    Calls Tryd.prog 33 #[.int .i64 base, .int .i64 ppm, .int .i64 amt] w fun e w' => (∃ u x, e = .returned (.tuple #[.int .i64 0, .iface u x])) ∧ Keeps w w' := by
  cases h1 : shB ppm amt
  · have HS := hide (share_no ppm amt w u0 u2 u3 x0 x2 x3 hg0 hg2 hg3 h1)
    clear h1 h
    go_enter Tryd.func33, Tryd.ntmps33
    go_wp2_with (first | (go_at_call 45; refine (unhide HS).mono ?_; rintro e w1 ⟨⟨u, x, rfl⟩, hk⟩))
    go_ret2
    exact ⟨⟨_, _, rfl⟩, hk⟩
  · have h2 : addB base (part ppm amt false) = false := by simpa [feeB, h1] using h
    rw [part_down] at h2
    have HS := hide (share_ok ppm amt w h1)
    have HA := hide (fun (w1 : World) hg => sum_no base (amt * ppm / 1000000) w1 u0 x0 hg h2)
    clear h1 h2 h
    generalize amt * ppm / 1000000 = Q at *
    generalize amt * ppm % 1000000 = R at *
    go_enter Tryd.func33, Tryd.ntmps33
    go_wp2_with (first | (go_at_call 45; refine (unhide HS).mono ?_; rintro e w1 ⟨rfl, hk⟩) | (go_at_call 40; refine (unhide HA _ (hk.cell hg0)).mono ?_; rintro e w2 ⟨rfl, n, rfl⟩))
    go_ret2
    exact ⟨⟨_, _, rfl⟩, hk.drewN _⟩

theorem up_ok (base ppm amt : Int) (w : World) (h : feeB base ppm amt true = true) :
    Calls Tryd.prog 34 #[.int .i64 base, .int .i64 ppm, .int .i64 amt] w fun e w' => e = .returned (.tuple #[.int .i64 (base + part ppm amt true), .nilIface]) ∧ Keeps w w' := by
  simp only [feeB, Bool.and_eq_true] at h
  obtain ⟨h1, h2⟩ := h
  have hd : 0 ≤ amt * ppm / 1000000 ∧ amt * ppm / 1000000 ≤ 1125899906842624 := by
    simp only [shB, Bool.and_eq_true] at h1
    obtain ⟨ha, hb, _, _, hm⟩ := divB_true h1.2
    exact ⟨Int.ediv_nonneg (Int.mul_nonneg (amtB_true ha).1 (amtB_true hb).1) (by omega), hm⟩
  obtain ⟨d0, d1⟩ := hd
  have HS := hide (share_ok ppm amt w h1)
  by_cases hr : 0 < amt * ppm % 1000000
  · rw [part_rest hr] at h2 ⊢
    have HA := hide (fun w1 => sum_ok base (amt * ppm / 1000000 + 1) w1 h2)
    clear h1 h2
    generalize amt * ppm / 1000000 = Q at *
    generalize amt * ppm % 1000000 = R at *
    go_enter Tryd.func34, Tryd.ntmps34
    go_wp2_with (first | (go_at_call 45; refine (unhide HS).mono ?_; rintro e w1 ⟨rfl, hk⟩) | (go_at_call 40; refine (unhide HA _).mono ?_; rintro e w2 ⟨rfl, hw⟩; rw [hw]; clear hw w2))
    go_ret2
    exact ⟨rfl, hk⟩
  · rw [part_none hr] at h2 ⊢
    have HA := hide (fun w1 => sum_ok base (amt * ppm / 1000000) w1 h2)
    clear h1 h2
    generalize amt * ppm / 1000000 = Q at *
    generalize amt * ppm % 1000000 = R at *
    go_enter Tryd.func34, Tryd.ntmps34
    go_wp2_with (first | (go_at_call 45; refine (unhide HS).mono ?_; rintro e w1 ⟨rfl, hk⟩) | (go_at_call 40; refine (unhide HA _).mono ?_; rintro e w2 ⟨rfl, hw⟩; rw [hw]; clear hw w2))
    go_ret2
    exact ⟨rfl, hk⟩

theorem up_no (base ppm amt : Int) (w : World) (u0 u2 u3 : TypeId) (x0 x2 x3 : Value) (hg0 : w.cell? ⟨0, 0, none⟩ = some (.iface u0 x0)) (hg2 : w.cell? ⟨2, 0, none⟩ = some (.iface u2 x2)) (hg3 : w.cell? ⟨3, 0, none⟩ = some (.iface u3 x3)) (h : feeB base ppm amt true = false) :
    Calls Tryd.prog 34 #[.int .i64 base, .int .i64 ppm, .int .i64 amt] w fun e w' => (∃ u x, e = .returned (.tuple #[.int .i64 0, .iface u x])) ∧ Keeps w w' := by
  cases h1 : shB ppm amt
  · have HS := hide (share_no ppm amt w u0 u2 u3 x0 x2 x3 hg0 hg2 hg3 h1)
    clear h1 h
    go_enter Tryd.func34, Tryd.ntmps34
    go_wp2_with (first | (go_at_call 45; refine (unhide HS).mono ?_; rintro e w1 ⟨⟨u, x, rfl⟩, hk⟩))
    go_ret2
    exact ⟨⟨_, _, rfl⟩, hk⟩
  · have h2 : addB base (part ppm amt true) = false := by simpa [feeB, h1] using h
    have hd : 0 ≤ amt * ppm / 1000000 ∧ amt * ppm / 1000000 ≤ 1125899906842624 := by
      simp only [shB, Bool.and_eq_true] at h1
      obtain ⟨ha, hb, _, _, hm⟩ := divB_true h1.2
      exact ⟨Int.ediv_nonneg (Int.mul_nonneg (amtB_true ha).1 (amtB_true hb).1) (by omega), hm⟩
    obtain ⟨d0, d1⟩ := hd
    have HS := hide (share_ok ppm amt w h1)
    by_cases hr : 0 < amt * ppm % 1000000
    · rw [part_rest hr] at h2
      have HA := hide (fun (w1 : World) hg => sum_no base (amt * ppm / 1000000 + 1) w1 u0 x0 hg h2)
      clear h1 h2 h
      generalize amt * ppm / 1000000 = Q at *
      generalize amt * ppm % 1000000 = R at *
      go_enter Tryd.func34, Tryd.ntmps34
      go_wp2_with (first | (go_at_call 45; refine (unhide HS).mono ?_; rintro e w1 ⟨rfl, hk⟩) | (go_at_call 40; refine (unhide HA _ (hk.cell hg0)).mono ?_; rintro e w2 ⟨rfl, n, rfl⟩))
      go_ret2
      exact ⟨⟨_, _, rfl⟩, hk.drewN _⟩
    · rw [part_none hr] at h2
      have HA := hide (fun (w1 : World) hg => sum_no base (amt * ppm / 1000000) w1 u0 x0 hg h2)
      clear h1 h2 h
      generalize amt * ppm / 1000000 = Q at *
      generalize amt * ppm % 1000000 = R at *
      go_enter Tryd.func34, Tryd.ntmps34
      go_wp2_with (first | (go_at_call 45; refine (unhide HS).mono ?_; rintro e w1 ⟨rfl, hk⟩) | (go_at_call 40; refine (unhide HA _ (hk.cell hg0)).mono ?_; rintro e w2 ⟨rfl, n, rfl⟩))
      go_ret2
      exact ⟨⟨_, _, rfl⟩, hk.drewN _⟩

theorem fee_impl (base ppm amt : Int) (w : World) (u0 u2 u3 : TypeId) (x0 x2 x3 : Value) (hg0 : w.cell? ⟨0, 0, none⟩ = some (.iface u0 x0)) (hg2 : w.cell? ⟨2, 0, none⟩ = some (.iface u2 x2)) (hg3 : w.cell? ⟨3, 0, none⟩ = some (.iface u3 x3)) :
    Calls Tryd.prog 13 #[.int .i64 base, .int .i64 ppm, .int .i64 amt] w fun e w' => e = .returned (.tuple #[.int .i64 (feeV base ppm amt false), .bool (feeB base ppm amt false)]) ∧ Keeps w w' := by
  cases h : feeB base ppm amt false
  · have H : Hid (feeV base ppm amt false = 0) := by show _ = _; simp [feeV, h]
    have HD := hide (down_no base ppm amt w u0 u2 u3 x0 x2 x3 hg0 hg2 hg3 h)
    go_enter Tryd.func13, Tryd.ntmps13
    go_wp2_with (first | (go_at_call 33; refine (unhide HD).mono ?_; rintro e w1 ⟨⟨u, x, rfl⟩, hk⟩) | (go_at_call 32; refine (told_no _ _ _ _).mono ?_; rintro e w' ⟨rfl, rfl⟩))
    go_ret2
    exact ⟨ret_tup H.out.symm rfl, hk⟩
  · have H : Hid (feeV base ppm amt false = base + part ppm amt false) := by show _ = _; simp [feeV, h]
    have HD := hide (down_ok base ppm amt w h)
    go_enter Tryd.func13, Tryd.ntmps13
    go_wp2_with (first | (go_at_call 33; refine (unhide HD).mono ?_; rintro e w1 ⟨rfl, hk⟩) | (go_at_call 32; refine (told_ok _ _).mono ?_; rintro e w' ⟨rfl, rfl⟩))
    go_ret2
    exact ⟨ret_tup H.out.symm rfl, hk⟩

theorem feeUp_impl (base ppm amt : Int) (w : World) (u0 u2 u3 : TypeId) (x0 x2 x3 : Value) (hg0 : w.cell? ⟨0, 0, none⟩ = some (.iface u0 x0)) (hg2 : w.cell? ⟨2, 0, none⟩ = some (.iface u2 x2)) (hg3 : w.cell? ⟨3, 0, none⟩ = some (.iface u3 x3)) :
    Calls Tryd.prog 14 #[.int .i64 base, .int .i64 ppm, .int .i64 amt] w fun e w' => e = .returned (.tuple #[.int .i64 (feeV base ppm amt true), .bool (feeB base ppm amt true)]) ∧ Keeps w w' := by
  cases h : feeB base ppm amt true
  · have H : Hid (feeV base ppm amt true = 0) := by show _ = _; simp [feeV, h]
    have HD := hide (up_no base ppm amt w u0 u2 u3 x0 x2 x3 hg0 hg2 hg3 h)
    go_enter Tryd.func14, Tryd.ntmps14
    go_wp2_with (first | (go_at_call 34; refine (unhide HD).mono ?_; rintro e w1 ⟨⟨u, x, rfl⟩, hk⟩) | (go_at_call 32; refine (told_no _ _ _ _).mono ?_; rintro e w' ⟨rfl, rfl⟩))
    go_ret2
    exact ⟨ret_tup H.out.symm rfl, hk⟩
  · have H : Hid (feeV base ppm amt true = base + part ppm amt true) := by show _ = _; simp [feeV, h]
    have HD := hide (up_ok base ppm amt w h)
    go_enter Tryd.func14, Tryd.ntmps14
    go_wp2_with (first | (go_at_call 34; refine (unhide HD).mono ?_; rintro e w1 ⟨rfl, hk⟩) | (go_at_call 32; refine (told_ok _ _).mono ?_; rintro e w' ⟨rfl, rfl⟩))
    go_ret2
    exact ⟨ret_tup H.out.symm rfl, hk⟩

/-- What the model's l01Fee answers. -/
theorem l01Fee_any (base ppm amt : Int) (up : Bool) (w : World) :
    Calls Tryd.prog 35 #[.int .i64 base, .int .i64 ppm, .int .i64 amt, .bool up] w fun e w' => e = .returned (.tuple #[.int .i64 (feeV base ppm amt up), .bool (feeB base ppm amt up)]) ∧ w' = w := by
  by_cases g : (0 ≤ base ∧ base ≤ 1125899906842624) ∧ (0 ≤ amt ∧ amt ≤ 1125899906842624) ∧ 0 ≤ ppm ∧ ppm ≤ 1000000
  · obtain ⟨⟨a0, a1⟩, ⟨b0, b1⟩, c0, c1⟩ := g
    have HL := hide (l01Div_any amt ppm 1000000 w b0 b1 c0 (by omega) (by omega) (by omega))
    have p0 : 0 ≤ amt * ppm := Int.mul_nonneg b0 c0
    have q0 : 0 ≤ amt * ppm / 1000000 := Int.ediv_nonneg p0 (by omega)
    have H1 : Hid (∀ h : amt * ppm / 1000000 ≤ 1125899906842624, feeB base ppm amt up = addB base (part ppm amt up) ∧ feeV base ppm amt up = addV base (part ppm amt up)) := by
      intro h
      have e : shB ppm amt = true := by simp [shB, divB, amtB_yes b0 b1, amtB_yes c0 (show ppm ≤ 1125899906842624 by omega), c1, h]
      have e2 : feeB base ppm amt up = addB base (part ppm amt up) := by simp [feeB, e]
      exact ⟨e2, by simp [feeV, addV, e2]⟩
    have H2 : Hid (∀ h : 1125899906842624 < amt * ppm / 1000000, feeB base ppm amt up = false ∧ feeV base ppm amt up = 0) := by
      intro h
      have : feeB base ppm amt up = false := by simp [feeB, shB, divB]; omega
      exact ⟨this, by simp [feeV, this]⟩
    cases up
    · have HP := hide (part_down ppm amt)
      generalize amt * ppm / 1000000 = Q at *
      generalize amt * ppm % 1000000 = R at *
      go_enter Tryd.func35, Tryd.ntmps35
      go_wp2_with (first | (go_at_call 39; refine (unhide HL).mono ?_; rintro e w1 ⟨⟨hq, rfl⟩ | ⟨hq, rfl⟩, hw⟩ <;> rw [hw] <;> clear hw w1) | (go_at_call 19; refine (add_spec _ _ _).mono ?_; rintro e w2 ⟨rfl, hw⟩; rw [hw]; clear hw w2) | go_in)
      · go_ret2
        exact ⟨ret_tup (by rw [(H1.out hq).2, HP.out]) (by rw [(H1.out hq).1, HP.out]), rfl⟩
      · go_ret2
        exact ⟨ret_tup (H2.out hq).2.symm (H2.out hq).1.symm, rfl⟩
    · by_cases hr : 0 < amt * ppm % 1000000
      · have HP := hide (part_rest hr)
        generalize amt * ppm / 1000000 = Q at *
        generalize amt * ppm % 1000000 = R at *
        go_enter Tryd.func35, Tryd.ntmps35
        go_wp2_with (first | (go_at_call 39; refine (unhide HL).mono ?_; rintro e w1 ⟨⟨hq, rfl⟩ | ⟨hq, rfl⟩, hw⟩ <;> rw [hw] <;> clear hw w1) | (go_at_call 19; refine (add_spec _ _ _).mono ?_; rintro e w2 ⟨rfl, hw⟩; rw [hw]; clear hw w2) | go_in)
        · go_ret2
          exact ⟨ret_tup (by rw [(H1.out hq).2, HP.out]) (by rw [(H1.out hq).1, HP.out]), rfl⟩
        · go_ret2
          exact ⟨ret_tup (H2.out hq).2.symm (H2.out hq).1.symm, rfl⟩
      · have HP := hide (part_none hr)
        generalize amt * ppm / 1000000 = Q at *
        generalize amt * ppm % 1000000 = R at *
        go_enter Tryd.func35, Tryd.ntmps35
        go_wp2_with (first | (go_at_call 39; refine (unhide HL).mono ?_; rintro e w1 ⟨⟨hq, rfl⟩ | ⟨hq, rfl⟩, hw⟩ <;> rw [hw] <;> clear hw w1) | (go_at_call 19; refine (add_spec _ _ _).mono ?_; rintro e w2 ⟨rfl, hw⟩; rw [hw]; clear hw w2) | go_in)
        · go_ret2
          exact ⟨ret_tup (by rw [(H1.out hq).2, HP.out]) (by rw [(H1.out hq).1, HP.out]), rfl⟩
        · go_ret2
          exact ⟨ret_tup (H2.out hq).2.symm (H2.out hq).1.symm, rfl⟩
  · have e : feeB base ppm amt up = false := by simp [feeB, shB, divB, addB, amtB]; omega
    have E1 : Hid (feeB base ppm amt up = false) := e
    have E2 : Hid (feeV base ppm amt up = 0) := by show _ = _; simp [feeV, e]
    clear e
    have g' : (base < 0 ∨ ¬ base ≤ 1125899906842624) ∨ ((0 ≤ base ∧ base ≤ 1125899906842624) ∧ ((amt < 0 ∨ ¬ amt ≤ 1125899906842624) ∨ ((0 ≤ amt ∧ amt ≤ 1125899906842624) ∧ (ppm < 0 ∨ (0 ≤ ppm ∧ 1000000 < ppm))))) := by omega
    clear g
    rcases g' with (h | h) | ⟨⟨h1, h2⟩, (h | h) | ⟨⟨h3, h4⟩, h | ⟨h5, h⟩⟩⟩
    all_goals
      go_enter Tryd.func35, Tryd.ntmps35
      go_wp2
      go_ret2
      exact ⟨ret_tup E2.out.symm E1.out.symm, rfl⟩

theorem fee_spec (base ppm amt : Int) (w : World) :
    Calls Tryd.prog 15 #[.int .i64 base, .int .i64 ppm, .int .i64 amt] w fun e w' => e = .returned (.tuple #[.int .i64 (feeV base ppm amt false), .bool (feeB base ppm amt false)]) ∧ w' = w := by
  go_enter Tryd.func15, Tryd.ntmps15
  go_wp2_with (go_at_call 35; refine (l01Fee_any base ppm amt false _).mono ?_; rintro e w2 ⟨rfl, hw⟩; rw [hw]; clear hw w2)
  go_ret2
  exact ⟨rfl, rfl⟩
theorem feeUp_spec (base ppm amt : Int) (w : World) :
    Calls Tryd.prog 23 #[.int .i64 base, .int .i64 ppm, .int .i64 amt] w fun e w' => e = .returned (.tuple #[.int .i64 (feeV base ppm amt true), .bool (feeB base ppm amt true)]) ∧ w' = w := by
  go_enter Tryd.func23, Tryd.ntmps23
  go_wp2_with (go_at_call 35; refine (l01Fee_any base ppm amt true _).mono ?_; rintro e w2 ⟨rfl, hw⟩; rw [hw]; clear hw w2)
  go_ret2
  exact ⟨rfl, rfl⟩
end Go.Proofs.YtjmhnpnjiaeamaaDoor
