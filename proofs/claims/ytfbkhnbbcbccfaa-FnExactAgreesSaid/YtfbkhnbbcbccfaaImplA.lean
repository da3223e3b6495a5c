/- The program's hasChannel, accName, AccOk, balanceOk, AmtOk, compareAccs. -/
import Derived.Test.YtfbkhnbbcbccfaaLines
namespace Go.Proofs.Ytfbkhnbbcbccfaa
open Go.RowKit
set_option linter.unusedVariables false

/-- Has the kind a channel? -/
def chA (k : Int) : Bool := decide (k = 6) || decide (k = 7) || decide (k = 8)
theorem chanA_impl (k : Int) (w : World) : Calls Try.prog 76 #[.int .i64 k] w fun e w' => e = .returned (.bool (chA k)) ∧ w' = w := by
  by_cases h6 : k = 6
  · subst h6
    go_enter Try.func76, Try.ntmps76
    go_wp2_with fail
    go_ret
    exact ⟨rfl, rfl⟩
  · by_cases h7 : k = 7
    · subst h7
      go_enter Try.func76, Try.ntmps76
      go_wp2_with fail
      go_ret
      exact ⟨rfl, rfl⟩
    · by_cases h8 : k = 8
      · subst h8
        go_enter Try.func76, Try.ntmps76
        go_wp2_with fail
        go_ret
        exact ⟨rfl, rfl⟩
      · have H : Hid (chA k = false) := by show _ = _; simp [chA, h6, h7, h8]
        have e6 : (k == 6) = false := beq_eq_false_iff_ne.2 h6
        have e7 : (k == 7) = false := beq_eq_false_iff_ne.2 h7
        have e8 : (k == 8) = false := beq_eq_false_iff_ne.2 h8
        clear h6 h7 h8
        go_enter Try.func76, Try.ntmps76
        go_wp2_with fail
        go_ret
        exact ⟨ret_bool H.out.symm, rfl⟩

/-- The word of a kind. -/
def nameA (k : Int) : ByteArray :=
  if k = 1 then ⟨#[119, 97, 108, 108, 101, 116]⟩ else if k = 2 then ⟨#[101, 113, 117, 105, 116, 121]⟩ else if k = 3 then ⟨#[105, 110, 99, 111, 109, 101]⟩ else if k = 4 then ⟨#[114, 101, 98, 97, 108]⟩
  else if k = 5 then ⟨#[99, 104, 97, 105, 110]⟩ else if k = 6 then ⟨#[108, 111, 99, 97, 108]⟩ else if k = 7 then ⟨#[105, 110]⟩ else if k = 8 then ⟨#[111, 117, 116]⟩ else ⟨#[]⟩
theorem kinds (k : Int) : k = 1 ∨ k = 2 ∨ k = 3 ∨ k = 4 ∨ k = 5 ∨ k = 6 ∨ k = 7 ∨ k = 8 ∨ (k < 1 ∨ 8 < k) := by omega
theorem name_impl (k : Int) (w : World) : Calls Try.prog 77 #[.int .i64 k] w fun e w' => e = .returned (.string (nameA k)) ∧ w' = w := by
  rcases kinds k with rfl | rfl | rfl | rfl | rfl | rfl | rfl | rfl | h
  iterate 8
    · go_enter Try.func77, Try.ntmps77
      go_wp2_with fail
      go_ret
      exact ⟨rfl, rfl⟩
  have H : Hid (nameA k = ⟨#[]⟩) := by
    show _ = _
    unfold nameA
    rw [if_neg (by omega), if_neg (by omega), if_neg (by omega), if_neg (by omega), if_neg (by omega), if_neg (by omega), if_neg (by omega), if_neg (by omega)]
  have e1 : (k == 1) = false := beq_eq_false_iff_ne.2 (by omega)
  have e2 : (k == 2) = false := beq_eq_false_iff_ne.2 (by omega)
  have e3 : (k == 3) = false := beq_eq_false_iff_ne.2 (by omega)
  have e4 : (k == 4) = false := beq_eq_false_iff_ne.2 (by omega)
  have e5 : (k == 5) = false := beq_eq_false_iff_ne.2 (by omega)
  have e6 : (k == 6) = false := beq_eq_false_iff_ne.2 (by omega)
  have e7 : (k == 7) = false := beq_eq_false_iff_ne.2 (by omega)
  have e8 : (k == 8) = false := beq_eq_false_iff_ne.2 (by omega)
  clear h
  go_enter Try.func77, Try.ntmps77
  go_wp2_with fail
  go_ret
  exact ⟨by rw [H.out]; rfl, rfl⟩

theorem impl_acc_a (k c : Int) (w : World) : Calls Try.prog 69 #[accV k c] w fun e w' => e = .returned (.bool (accB k c)) ∧ w' = w.alloc (.cells #[.int .i64 k, .int .i64 c] 54) := by
  have HC := hide (fun w1 => chanA_impl k w1)
  have HN := hide (fun w1 => name_impl k w1)
  cases hc : chA k
  · rw [hc] at HC
    have h6 : ¬ (6 ≤ k ∧ k ≤ 8) := by simp [chA] at hc; omega
    clear hc
    by_cases hk : 1 ≤ k ∧ k ≤ 5
    · have HA : Hid (accB k c = decide (c = 0)) := by show _ = _; simp [accB, show k < 6 by omega]; omega
      have hn : ((nameA k).toList == ([] : List UInt8)) = false := by
        rw [ByteArray.toList_eq]
        rcases kinds k with rfl | rfl | rfl | rfl | rfl | rfl | rfl | rfl | h <;> first | rfl | (exfalso; omega)
      clear h6 hk
      generalize nameA k = s at *
      go_enter Try.func69, Try.ntmps69
      go_wp2_with fail
      refine (unhide HC _).mono ?_
      rintro e w1 ⟨rfl, rfl⟩
      go_wp2_with fail
      refine (unhide HN _).mono ?_
      rintro e w2 ⟨rfl, rfl⟩
      go_wp2_with fail
      go_ret
      exact ⟨ret_bool (by rw [HA.out]; rfl), rfl⟩
    · have HA : Hid (accB k c = false) := by show _ = _; simp [accB]; omega
      have hn : nameA k = ⟨#[]⟩ := by
        unfold nameA
        rw [if_neg (by omega), if_neg (by omega), if_neg (by omega), if_neg (by omega), if_neg (by omega), if_neg (by omega), if_neg (by omega), if_neg (by omega)]
      rw [hn] at HN
      clear h6 hk hn
      go_enter Try.func69, Try.ntmps69
      go_wp2_with fail
      refine (unhide HC _).mono ?_
      rintro e w1 ⟨rfl, rfl⟩
      go_wp2_with fail
      refine (unhide HN _).mono ?_
      rintro e w2 ⟨rfl, rfl⟩
      go_wp2_with fail
      go_ret
      exact ⟨ret_bool (by rw [HA.out]), rfl⟩
  · rw [hc] at HC
    have h6 : 6 ≤ k ∧ k ≤ 8 := by simp [chA] at hc; omega
    clear hc
    by_cases h1 : 1 ≤ c
    · have HA : Hid (accB k c = decide (c ≤ 99)) := by show _ = _; simp [accB, show ¬ k < 6 by omega, h1]; omega
      clear h6
      go_enter Try.func69, Try.ntmps69
      go_wp2_with fail
      refine (unhide HC _).mono ?_
      rintro e w1 ⟨rfl, rfl⟩
      go_wp2_with fail
      go_ret
      exact ⟨ret_bool (by rw [HA.out]), rfl⟩
    · have HA : Hid (accB k c = false) := by show _ = _; simp [accB, show ¬ k < 6 by omega]; omega
      clear h6
      go_enter Try.func69, Try.ntmps69
      go_wp2_with fail
      refine (unhide HC _).mono ?_
      rintro e w1 ⟨rfl, rfl⟩
      go_wp2_with fail
      go_ret
      exact ⟨ret_bool (by rw [HA.out]), rfl⟩
theorem impl_acc (k c : Int) (w : World) : Calls Try.prog 69 #[accV k c] w fun e w' => e = .returned (.bool (accB k c)) ∧ Keeps w w' :=
  (impl_acc_a k c w).mono fun _ _ ⟨h, e⟩ => ⟨h, by rw [e]; exact Keeps.alloc (Keeps.refl _) _⟩

theorem bal_impl (n : Int) (w : World) : Calls Try.prog 70 #[.int .i64 n] w fun e w' => e = .returned (.bool (rangeB n)) ∧ w' = w := by
  by_cases h1 : -1125899906842624 ≤ n
  · by_cases h2 : n ≤ 1125899906842624
    · have H : Hid (rangeB n = true) := by show _ = _; simp [rangeB, h1, h2]
      go_enter Try.func70, Try.ntmps70
      go_wp2
      go_ret
      exact ⟨ret_bool H.out.symm, rfl⟩
    · have H : Hid (rangeB n = false) := by show _ = _; simp [rangeB]; omega
      go_enter Try.func70, Try.ntmps70
      go_wp2
      go_ret
      exact ⟨ret_bool (by rw [H.out]), rfl⟩
  · have H : Hid (rangeB n = false) := by show _ = _; simp [rangeB]; omega
    go_enter Try.func70, Try.ntmps70
    go_wp2
    go_ret
    exact ⟨ret_bool (by rw [H.out]), rfl⟩
theorem bal_implk (n : Int) (w : World) : Calls Try.prog 70 #[.int .i64 n] w fun e w' => e = .returned (.bool (rangeB n)) ∧ Keeps w w' :=
  (bal_impl n w).mono fun _ _ ⟨h, e⟩ => ⟨h, by rw [e]; exact Keeps.refl _⟩
theorem amtA_impl (n : Int) (w : World) : Calls Try.prog 44 #[.int .i64 n] w fun e w' => e = .returned (.bool (amtB n)) ∧ w' = w := by
  by_cases h1 : 0 ≤ n
  · by_cases h2 : n ≤ 1125899906842624
    · have H : Hid (amtB n = true) := by show _ = _; simp [amtB, h1, h2]
      go_enter Try.func44, Try.ntmps44
      go_wp2
      go_ret
      exact ⟨ret_bool H.out.symm, rfl⟩
    · have H : Hid (amtB n = false) := by show _ = _; simp [amtB]; omega
      go_enter Try.func44, Try.ntmps44
      go_wp2
      go_ret
      exact ⟨ret_bool (by rw [H.out]), rfl⟩
  · have H : Hid (amtB n = false) := by show _ = _; simp [amtB]; omega
    go_enter Try.func44, Try.ntmps44
    go_wp2
    go_ret
    exact ⟨ret_bool (by rw [H.out]), rfl⟩

/-- cmp.Compare of numbers. -/
def cmpI (x y : Int) : Int := if x < y then -1 else if y < x then 1 else 0
theorem cmp_lib (x y : Int) (w : World) : Calls Try.prog 78 #[.int .i64 x, .int .i64 y] w fun e w' => e = .returned (.int .i64 (cmpI x y)) ∧ w' = w := by
  go_enter Try.func78, Try.ntmps78
  go_wp2
  all_goals (go_ret; refine ⟨?_, rfl⟩; unfold cmpI; (repeat' split) <;> first | rfl | (exfalso; omega))
/-- compareAccs. -/
def cmpA (k c k' c' : Int) : Int := if k = k' then cmpI c c' else cmpI k k'
theorem cmpA_less {k c k' c' : Int} : decide (0 ≤ cmpA k c k' c') = !lessB k c k' c' := by
  unfold cmpA cmpI lessB
  by_cases h : k = k'
  · subst h
    by_cases h1 : c < c'
    · simp [h1]
    · by_cases h2 : c' < c
      · simp [h1, h2]
      · simp [h1, h2]
  · by_cases h1 : k < k'
    · simp [h, h1]
    · simp [h, h1, show k' < k by omega]
theorem cmp_impl (k c k' c' : Int) (w : World) : Calls Try.prog 71 #[accV k c, accV k' c'] w fun e w' => e = .returned (.int .i64 (cmpA k c k' c')) ∧
    w' = (w.alloc (.cells #[.int .i64 k, .int .i64 c] 54)).alloc (.cells #[.int .i64 k', .int .i64 c'] 54) := by
  by_cases h : k = k'
  · subst h
    have HC := hide (fun w1 => cmp_lib c c' w1)
    have HV : Hid (cmpA k c k c' = cmpI c c') := by show _ = _; simp [cmpA]
    generalize cmpI c c' = r at *
    go_enter Try.func71, Try.ntmps71
    go_wp2_with fail
    refine (unhide HC _).mono ?_
    rintro e w1 ⟨rfl, rfl⟩
    go_wp2_with fail
    go_ret
    exact ⟨by rw [HV.out]; rfl, rfl⟩
  · have HC := hide (fun w1 => cmp_lib k k' w1)
    have HV : Hid (cmpA k c k' c' = cmpI k k') := by show _ = _; simp [cmpA, h]
    have h' : (k != k') = true := by rw [bne_iff_ne]; exact h
    clear h
    generalize cmpI k k' = r at *
    go_enter Try.func71, Try.ntmps71
    go_wp2_with fail
    refine (unhide HC _).mono ?_
    rintro e w1 ⟨rfl, rfl⟩
    go_wp2_with fail
    go_ret
    exact ⟨by rw [HV.out]; rfl, rfl⟩
theorem cmp_implk (k c k' c' : Int) (w : World) : Calls Try.prog 71 #[accV k c, accV k' c'] w fun e w' => e = .returned (.int .i64 (cmpA k c k' c')) ∧ Keeps w w' :=
  (cmp_impl k c k' c' w).mono fun _ _ ⟨h, e⟩ => ⟨h, by rw [e]; exact Keeps.alloc (Keeps.alloc (Keeps.refl _) _) _⟩
end Go.Proofs.Ytfbkhnbbcbccfaa
