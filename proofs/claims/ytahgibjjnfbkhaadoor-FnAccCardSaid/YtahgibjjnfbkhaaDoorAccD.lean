/- Accounts: the model's AccOk, the program's hasChannel, accName, AccOk; what the laws do with accounts. -/
import Derived.Test.YtahgibjjnfbkhaaDoorKeep
import Derived.RegionTactic
namespace Go.Proofs.YtahgibjjnfbkhaaDoor
open Go.RowKit
set_option linter.unusedVariables false
abbrev accV (k c : Int) : Value := .agg #[.int .i64 k, .int .i64 c]
/-- Is the account right? -/
def accB (k c : Int) : Bool := decide (1 ≤ k) && decide (k ≤ 8) && (if k < 6 then decide (c = 0) else decide (1 ≤ c) && decide (c ≤ 99))
theorem ret_bool {a b : Bool} (h : a = b) : Ending.returned (.bool a) = .returned (.bool b) := by rw [h]
theorem acc_spec (k c : Int) (w : World) : Calls Tryd.prog 8 #[accV k c] w fun e w' => e = .returned (.bool (accB k c)) ∧ w' = w.alloc (.cells #[.int .i64 k, .int .i64 c] 24) := by
  by_cases h1 : k < 1
  · have H : Hid (accB k c = false) := by show _ = _; simp [accB]; omega
    go_enter Tryd.func8, Tryd.ntmps8
    go_wp2
    go_ret
    exact ⟨ret_bool H.out.symm, rfl⟩
  · by_cases h2 : 8 < k
    · have H : Hid (accB k c = false) := by show _ = _; simp [accB]; omega
      go_enter Tryd.func8, Tryd.ntmps8
      go_wp2
      go_ret
      exact ⟨ret_bool H.out.symm, rfl⟩
    · by_cases h3 : k < 6
      · have H : Hid (accB k c = decide (c = 0)) := by show _ = _; simp [accB, h3]; omega
        go_enter Tryd.func8, Tryd.ntmps8
        go_wp2
        go_ret
        exact ⟨ret_bool (by rw [H.out]; rfl), rfl⟩
      · by_cases h4 : 1 ≤ c
        · have H : Hid (accB k c = decide (c ≤ 99)) := by show _ = _; simp [accB, h3, h4]; omega
          go_enter Tryd.func8, Tryd.ntmps8
          go_wp2
          go_ret
          exact ⟨ret_bool (by rw [H.out]), rfl⟩
        · have H : Hid (accB k c = false) := by show _ = _; simp [accB, h3]; omega
          go_enter Tryd.func8, Tryd.ntmps8
          go_wp2
          go_ret
          exact ⟨ret_bool (by rw [H.out]), rfl⟩
theorem acc_k (k c : Int) (w : World) : Calls Tryd.prog 8 #[accV k c] w fun e w' => e = .returned (.bool (accB k c)) ∧ Keeps w w' :=
  (acc_spec k c w).mono fun _ _ ⟨h, e⟩ => ⟨h, by rw [e]; exact Keeps.alloc (Keeps.refl _) _⟩
theorem toAcc_k (k c : Int) (w : World) : Calls Tryd.prog 11 #[accV k c] w fun e w' => e = .returned (accV k c) ∧ Keeps w w' := by
  go_enter Tryd.func11, Tryd.ntmps11
  go_wp2_with fail
  refine bodyPost_ret (v := accV k c) (by simp [results, Tryd.results11, go_sem]) rfl ⟨rfl, ?_⟩
  exact Keeps.alloc (Keeps.alloc (Keeps.alloc (Keeps.refl _) _) _) _
theorem eqAcc_k (k c k' c' : Int) (w : World) : Calls Tryd.prog 13 #[accV k c, accV k' c'] w fun e w' => e = .returned (.bool (decide (k = k') && decide (c = c'))) ∧ Keeps w w' := by
  have hk : Keeps w ((w.alloc (.cells #[.int .i64 k, .int .i64 c] 24)).alloc (.cells #[.int .i64 k', .int .i64 c'] 24)) := Keeps.alloc (Keeps.alloc (Keeps.refl _) _) _
  have HK := hide hk
  clear hk
  by_cases h1 : k = k'
  · subst h1
    by_cases h2 : c = c'
    · subst h2
      go_enter Tryd.func13, Tryd.ntmps13
      go_wp2_with fail
      go_ret
      exact ⟨ret_bool (by simp), HK.out⟩
    · have h2' : (c != c') = true := by rw [bne_iff_ne]; exact h2
      have H := hide h2
      clear h2
      go_enter Tryd.func13, Tryd.ntmps13
      go_wp2_with fail
      go_ret
      exact ⟨ret_bool (by simp [H.out]), HK.out⟩
  · have h1' : (k != k') = true := by rw [bne_iff_ne]; exact h1
    have H := hide h1
    clear h1
    go_enter Tryd.func13, Tryd.ntmps13
    go_wp2_with fail
    go_ret
    exact ⟨ret_bool (by simp [H.out]), HK.out⟩
/-- Has the kind a channel? -/
def chB (k : Int) : Bool := decide (k = 6) || decide (k = 7) || decide (k = 8)
theorem chan_impl (k : Int) (w : World) : Calls Tryd.prog 17 #[.int .i64 k] w fun e w' => e = .returned (.bool (chB k)) ∧ w' = w := by
  by_cases h6 : k = 6
  · subst h6
    go_enter Tryd.func17, Tryd.ntmps17
    go_wp2_with fail
    go_ret
    exact ⟨rfl, rfl⟩
  · by_cases h7 : k = 7
    · subst h7
      go_enter Tryd.func17, Tryd.ntmps17
      go_wp2_with fail
      go_ret
      exact ⟨rfl, rfl⟩
    · by_cases h8 : k = 8
      · subst h8
        go_enter Tryd.func17, Tryd.ntmps17
        go_wp2_with fail
        go_ret
        exact ⟨rfl, rfl⟩
      · have H : Hid (chB k = false) := by show _ = _; simp [chB, h6, h7, h8]
        have e6 : (k == 6) = false := beq_eq_false_iff_ne.2 h6
        have e7 : (k == 7) = false := beq_eq_false_iff_ne.2 h7
        have e8 : (k == 8) = false := beq_eq_false_iff_ne.2 h8
        clear h6 h7 h8
        go_enter Tryd.func17, Tryd.ntmps17
        go_wp2_with fail
        go_ret
        exact ⟨ret_bool H.out.symm, rfl⟩
/-- The word of a kind. -/
def nameA (k : Int) : ByteArray :=
  if k = 1 then ⟨#[119, 97, 108, 108, 101, 116]⟩ else if k = 2 then ⟨#[101, 113, 117, 105, 116, 121]⟩ else if k = 3 then ⟨#[105, 110, 99, 111, 109, 101]⟩ else if k = 4 then ⟨#[114, 101, 98, 97, 108]⟩
  else if k = 5 then ⟨#[99, 104, 97, 105, 110]⟩ else if k = 6 then ⟨#[108, 111, 99, 97, 108]⟩ else if k = 7 then ⟨#[105, 110]⟩ else if k = 8 then ⟨#[111, 117, 116]⟩ else ⟨#[]⟩
theorem kinds (k : Int) : k = 1 ∨ k = 2 ∨ k = 3 ∨ k = 4 ∨ k = 5 ∨ k = 6 ∨ k = 7 ∨ k = 8 ∨ (k < 1 ∨ 8 < k) := by omega
theorem name_impl (k : Int) (w : World) : Calls Tryd.prog 18 #[.int .i64 k] w fun e w' => e = .returned (.string (nameA k)) ∧ w' = w := by
  rcases kinds k with rfl | rfl | rfl | rfl | rfl | rfl | rfl | rfl | h
  iterate 8
    · go_enter Tryd.func18, Tryd.ntmps18
      go_wp2_with fail
      go_ret
      exact ⟨rfl, rfl⟩
  have H : Hid (nameA k = ⟨#[]⟩) := by
    show _ = _
    unfold nameA
    rw [if_neg (by omega), if_neg (by omega), if_neg (by omega), if_neg (by omega), if_neg (by omega), if_neg (by omega), if_neg (by omega), if_neg (by omega)]
  have e1 : (k == 1) = false := beq_eq_false_iff_ne.2 (by omega)
  have e2 : (k == 2) = false := beq_eq_false_iff_ne.2 (by omega)
  have e3 : (k == 3) = false := beq_eq_false_iff_ne.2 (by omega)
  have e4 : (k == 4) = false := beq_eq_false_iff_ne.2 (by omega)
  have e5 : (k == 5) = false := beq_eq_false_iff_ne.2 (by omega)
  have e6 : (k == 6) = false := beq_eq_false_iff_ne.2 (by omega)
  have e7 : (k == 7) = false := beq_eq_false_iff_ne.2 (by omega)
  have e8 : (k == 8) = false := beq_eq_false_iff_ne.2 (by omega)
  clear h
  go_enter Tryd.func18, Tryd.ntmps18
  go_wp2_with fail
  go_ret
  exact ⟨by rw [H.out]; rfl, rfl⟩
theorem impl_acc_a (k c : Int) (w : World) : Calls Tryd.prog 16 #[accV k c] w fun e w' => e = .returned (.bool (accB k c)) ∧ w' = w.alloc (.cells #[.int .i64 k, .int .i64 c] 24) := by
  have HC := hide (fun w1 => chan_impl k w1)
  have HN := hide (fun w1 => name_impl k w1)
  cases hc : chB k
  · rw [hc] at HC
    have h6 : ¬ (6 ≤ k ∧ k ≤ 8) := by simp [chB] at hc; omega
    clear hc
    by_cases hk : 1 ≤ k ∧ k ≤ 5
    · have HA : Hid (accB k c = decide (c = 0)) := by show _ = _; simp [accB, show k < 6 by omega]; omega
      have hn : ((nameA k).toList == ([] : List UInt8)) = false := by
        rw [ByteArray.toList_eq]
        rcases kinds k with rfl | rfl | rfl | rfl | rfl | rfl | rfl | rfl | h <;> first | rfl | (exfalso; omega)
      clear h6 hk
      generalize nameA k = s at *
      go_enter Tryd.func16, Tryd.ntmps16
      go_wp2_with fail
      refine (unhide HC _).mono ?_
      rintro e w1 ⟨rfl, rfl⟩
      go_wp2_with fail
      refine (unhide HN _).mono ?_
      rintro e w2 ⟨rfl, rfl⟩
      go_wp2_with fail
      go_ret
      exact ⟨ret_bool (by rw [HA.out]; rfl), rfl⟩
    · have HA : Hid (accB k c = false) := by show _ = _; simp [accB]; omega
      have hn : nameA k = ⟨#[]⟩ := by
        unfold nameA
        rw [if_neg (by omega), if_neg (by omega), if_neg (by omega), if_neg (by omega), if_neg (by omega), if_neg (by omega), if_neg (by omega), if_neg (by omega)]
      rw [hn] at HN
      clear h6 hk hn
      go_enter Tryd.func16, Tryd.ntmps16
      go_wp2_with fail
      refine (unhide HC _).mono ?_
      rintro e w1 ⟨rfl, rfl⟩
      go_wp2_with fail
      refine (unhide HN _).mono ?_
      rintro e w2 ⟨rfl, rfl⟩
      go_wp2_with fail
      go_ret
      exact ⟨ret_bool (by rw [HA.out]), rfl⟩
  · rw [hc] at HC
    have h6 : 6 ≤ k ∧ k ≤ 8 := by simp [chB] at hc; omega
    clear hc
    by_cases h1 : 1 ≤ c
    · have HA : Hid (accB k c = decide (c ≤ 99)) := by show _ = _; simp [accB, show ¬ k < 6 by omega, h1]; omega
      clear h6
      go_enter Tryd.func16, Tryd.ntmps16
      go_wp2_with fail
      refine (unhide HC _).mono ?_
      rintro e w1 ⟨rfl, rfl⟩
      go_wp2_with fail
      go_ret
      exact ⟨ret_bool (by rw [HA.out]), rfl⟩
    · have HA : Hid (accB k c = false) := by show _ = _; simp [accB, show ¬ k < 6 by omega]; omega
      clear h6
      go_enter Tryd.func16, Tryd.ntmps16
      go_wp2_with fail
      refine (unhide HC _).mono ?_
      rintro e w1 ⟨rfl, rfl⟩
      go_wp2_with fail
      go_ret
      exact ⟨ret_bool (by rw [HA.out]), rfl⟩
theorem impl_acc (k c : Int) (w : World) : Calls Tryd.prog 16 #[accV k c] w fun e w' => e = .returned (.bool (accB k c)) ∧ Keeps w w' :=
  (impl_acc_a k c w).mono fun _ _ ⟨h, e⟩ => ⟨h, by rw [e]; exact Keeps.alloc (Keeps.refl _) _⟩
end Go.Proofs.YtahgibjjnfbkhaaDoor
