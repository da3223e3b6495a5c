/- Scores: the program's moves by method values, and the model's. -/
import Derived.Test.YteoloapjhlpnjaaGreatDoorKeep
namespace Go.Proofs.YteoloapjhlpnjaaGreatDoor
open Go.RowKit
set_option linter.unusedVariables false

def okS (n : Int) : Bool := decide (-100 ≤ n) && decide (n ≤ 100)
def upS (n : Int) : Int := if okS n = true then min (n + 10) 100 else 0
def downS (n : Int) : Int := if okS n = true then max (n - 15) (-100) else 0
def fadeS (n : Int) : Int := if okS n = true then (if 0 < n then n - 1 else if n < 0 then n + 1 else 0) else 0
theorem okS_yes {n : Int} (h : -100 ≤ n) (h' : n ≤ 100) : okS n = true := by simp [okS]; omega
theorem okS_lo {n : Int} (h : n < -100) : okS n = false := by simp [okS]; omega
theorem okS_hi {n : Int} (h : 100 < n) : okS n = false := by simp [okS]; omega

/-- The model's ScoreOk. -/
theorem sok_spec (n : Int) (w : World) : Calls Tryz.prog 28 #[.int .i64 n] w fun e w' => e = .returned (.bool (okS n)) ∧ Keeps w w' := by
  by_cases h1 : -100 ≤ n
  · by_cases h2 : n ≤ 100
    · go_enter Tryz.func28, Tryz.ntmps28
      go_wp2
      go_ret
      exact ⟨ret_b (okS_yes h1 h2).symm, Keeps.refl _⟩
    · go_enter Tryz.func28, Tryz.ntmps28
      go_wp2
      go_ret
      exact ⟨ret_b (okS_hi (by omega)).symm, Keeps.refl _⟩
  · go_enter Tryz.func28, Tryz.ntmps28
    go_wp2
    go_ret
    exact ⟨ret_b (okS_lo (by omega)).symm, Keeps.refl _⟩
theorem right_impl (n : Int) (w : World) : Calls Tryz.prog 132 #[.int .i64 n] w fun e w' => e = .returned (.bool (okS n)) ∧ Keeps w w' := by
  by_cases h1 : -100 ≤ n
  · by_cases h2 : n ≤ 100
    · go_enter Tryz.func132, Tryz.ntmps132
      go_wp2
      go_ret
      exact ⟨ret_b (okS_yes h1 h2).symm, Keeps.refl _⟩
    · go_enter Tryz.func132, Tryz.ntmps132
      go_wp2
      go_ret
      exact ⟨ret_b (okS_hi (by omega)).symm, Keeps.refl _⟩
  · go_enter Tryz.func132, Tryz.ntmps132
    go_wp2
    go_ret
    exact ⟨ret_b (okS_lo (by omega)).symm, Keeps.refl _⟩
theorem sok_impl (n : Int) (w : World) : Calls Tryz.prog 99 #[.int .i64 n] w fun e w' => e = .returned (.bool (okS n)) ∧ Keeps w w' := by
  go_enter Tryz.func99, Tryz.ntmps99
  go_wp2_with fail
  refine (right_impl n _).mono ?_
  rintro x w1 ⟨rfl, hk⟩
  go_wp2_with fail
  go_ret
  exact ⟨rfl, hk⟩
theorem up_m (n : Int) (h1 : -100 ≤ n) (h2 : n ≤ 100) (w : World) : Calls Tryz.prog 190 #[.int .i64 n] w fun e w' => e = .returned (.int .i64 (min (n + 10) 100)) ∧ Keeps w w' := by
  go_enter Tryz.func190, Tryz.ntmps190
  go_wp2
  all_goals go_ret
  all_goals exact ⟨ret_i (by omega), Keeps.refl _⟩
theorem down_m (n : Int) (h1 : -100 ≤ n) (h2 : n ≤ 100) (w : World) : Calls Tryz.prog 191 #[.int .i64 n] w fun e w' => e = .returned (.int .i64 (max (n - 15) (-100))) ∧ Keeps w w' := by
  go_enter Tryz.func191, Tryz.ntmps191
  go_wp2
  all_goals go_ret
  all_goals exact ⟨ret_i (by omega), Keeps.refl _⟩
theorem fade_m (n : Int) (h1 : -100 ≤ n) (h2 : n ≤ 100) (w : World) : Calls Tryz.prog 192 #[.int .i64 n] w fun e w' => e = .returned (.int .i64 (if 0 < n then n - 1 else if n < 0 then n + 1 else 0)) ∧ Keeps w w' := by
  go_enter Tryz.func192, Tryz.ntmps192
  go_wp2
  all_goals go_ret
  all_goals exact ⟨rfl, Keeps.refl _⟩
theorem okS_true {n : Int} (h : okS n = true) : -100 ≤ n ∧ n ≤ 100 := by simpa [okS] using h
theorem moved_no (n : Int) (h : okS n = false) (w : World) (F : Value) : Calls Tryz.prog 189 #[.int .i64 n, F] w fun e w' => e = .returned (.int .i64 0) ∧ Keeps w w' := by
  go_enter Tryz.func189, Tryz.ntmps189
  go_wp2_with fail
  refine (right_impl n _).mono ?_
  rintro x w1 ⟨rfl, hk⟩
  rw [h]
  go_wp2_with fail
  go_ret
  exact ⟨rfl, hk⟩
theorem moved_up (n : Int) (h : okS n = true) (w : World) : Calls Tryz.prog 189 #[.int .i64 n, .func (Fn.func 190) #[.int .i64 n] #[]] w fun e w' => e = .returned (.int .i64 (min (n + 10) 100)) ∧ Keeps w w' := by
  obtain ⟨h1, h2⟩ := okS_true h
  obtain ⟨v, hv⟩ : ∃ v : Int, v = (min (n + 10) 100) := ⟨_, rfl⟩
  have HF := up_m n h1 h2
  rw [← hv] at HF ⊢
  clear hv
  have HFh := hide HF
  clear HF
  go_enter Tryz.func189, Tryz.ntmps189
  go_wp2_with fail
  refine (right_impl n _).mono ?_
  rintro x w1 ⟨rfl, hk⟩
  rw [h]
  go_wp2_with fail
  refine (HFh.out _).mono ?_
  rintro x w2 ⟨rfl, hk2⟩
  go_wp2_with fail
  go_ret
  exact ⟨rfl, hk.trans hk2⟩
theorem up_impl (n : Int) (w : World) : Calls Tryz.prog 149 #[.int .i64 n] w fun e w' => e = .returned (.int .i64 (upS n)) ∧ Keeps w w' := by
  cases h : okS n
  · obtain ⟨v, hv⟩ : ∃ v : Int, v = upS n := ⟨_, rfl⟩
    have h0 : v = 0 := by rw [hv]; simp [upS, h]
    rw [← hv]; subst h0; clear hv
    go_enter Tryz.func149, Tryz.ntmps149
    go_wp2_with fail
    refine (moved_no n h _ _).mono ?_
    rintro x w1 ⟨rfl, hk⟩
    go_wp2_with fail
    go_ret
    exact ⟨rfl, hk⟩
  · obtain ⟨v, hv⟩ : ∃ v : Int, v = upS n := ⟨_, rfl⟩
    have h0 : v = (min (n + 10) 100) := by rw [hv]; simp [upS, h]
    rw [← hv]
    have HF := hide (moved_up n h)
    rw [← h0] at HF
    clear hv h0
    go_enter Tryz.func149, Tryz.ntmps149
    go_wp2_with fail
    refine (HF.out _).mono ?_
    rintro x w1 ⟨rfl, hk⟩
    go_wp2_with fail
    go_ret
    exact ⟨rfl, hk⟩
theorem moved_down (n : Int) (h : okS n = true) (w : World) : Calls Tryz.prog 189 #[.int .i64 n, .func (Fn.func 191) #[.int .i64 n] #[]] w fun e w' => e = .returned (.int .i64 (max (n - 15) (-100))) ∧ Keeps w w' := by
  obtain ⟨h1, h2⟩ := okS_true h
  obtain ⟨v, hv⟩ : ∃ v : Int, v = (max (n - 15) (-100)) := ⟨_, rfl⟩
  have HF := down_m n h1 h2
  rw [← hv] at HF ⊢
  clear hv
  have HFh := hide HF
  clear HF
  go_enter Tryz.func189, Tryz.ntmps189
  go_wp2_with fail
  refine (right_impl n _).mono ?_
  rintro x w1 ⟨rfl, hk⟩
  rw [h]
  go_wp2_with fail
  refine (HFh.out _).mono ?_
  rintro x w2 ⟨rfl, hk2⟩
  go_wp2_with fail
  go_ret
  exact ⟨rfl, hk.trans hk2⟩
theorem down_impl (n : Int) (w : World) : Calls Tryz.prog 150 #[.int .i64 n] w fun e w' => e = .returned (.int .i64 (downS n)) ∧ Keeps w w' := by
  cases h : okS n
  · obtain ⟨v, hv⟩ : ∃ v : Int, v = downS n := ⟨_, rfl⟩
    have h0 : v = 0 := by rw [hv]; simp [downS, h]
    rw [← hv]; subst h0; clear hv
    go_enter Tryz.func150, Tryz.ntmps150
    go_wp2_with fail
    refine (moved_no n h _ _).mono ?_
    rintro x w1 ⟨rfl, hk⟩
    go_wp2_with fail
    go_ret
    exact ⟨rfl, hk⟩
  · obtain ⟨v, hv⟩ : ∃ v : Int, v = downS n := ⟨_, rfl⟩
    have h0 : v = (max (n - 15) (-100)) := by rw [hv]; simp [downS, h]
    rw [← hv]
    have HF := hide (moved_down n h)
    rw [← h0] at HF
    clear hv h0
    go_enter Tryz.func150, Tryz.ntmps150
    go_wp2_with fail
    refine (HF.out _).mono ?_
    rintro x w1 ⟨rfl, hk⟩
    go_wp2_with fail
    go_ret
    exact ⟨rfl, hk⟩
theorem moved_fade (n : Int) (h : okS n = true) (w : World) : Calls Tryz.prog 189 #[.int .i64 n, .func (Fn.func 192) #[.int .i64 n] #[]] w fun e w' => e = .returned (.int .i64 (if 0 < n then n - 1 else if n < 0 then n + 1 else 0)) ∧ Keeps w w' := by
  obtain ⟨h1, h2⟩ := okS_true h
  obtain ⟨v, hv⟩ : ∃ v : Int, v = (if 0 < n then n - 1 else if n < 0 then n + 1 else 0) := ⟨_, rfl⟩
  have HF := fade_m n h1 h2
  rw [← hv] at HF ⊢
  clear hv
  have HFh := hide HF
  clear HF
  go_enter Tryz.func189, Tryz.ntmps189
  go_wp2_with fail
  refine (right_impl n _).mono ?_
  rintro x w1 ⟨rfl, hk⟩
  rw [h]
  go_wp2_with fail
  refine (HFh.out _).mono ?_
  rintro x w2 ⟨rfl, hk2⟩
  go_wp2_with fail
  go_ret
  exact ⟨rfl, hk.trans hk2⟩
theorem fade_impl (n : Int) (w : World) : Calls Tryz.prog 151 #[.int .i64 n] w fun e w' => e = .returned (.int .i64 (fadeS n)) ∧ Keeps w w' := by
  cases h : okS n
  · obtain ⟨v, hv⟩ : ∃ v : Int, v = fadeS n := ⟨_, rfl⟩
    have h0 : v = 0 := by rw [hv]; simp [fadeS, h]
    rw [← hv]; subst h0; clear hv
    go_enter Tryz.func151, Tryz.ntmps151
    go_wp2_with fail
    refine (moved_no n h _ _).mono ?_
    rintro x w1 ⟨rfl, hk⟩
    go_wp2_with fail
    go_ret
    exact ⟨rfl, hk⟩
  · obtain ⟨v, hv⟩ : ∃ v : Int, v = fadeS n := ⟨_, rfl⟩
    have h0 : v = (if 0 < n then n - 1 else if n < 0 then n + 1 else 0) := by rw [hv]; simp [fadeS, h]
    rw [← hv]
    have HF := hide (moved_fade n h)
    rw [← h0] at HF
    clear hv h0
    go_enter Tryz.func151, Tryz.ntmps151
    go_wp2_with fail
    refine (HF.out _).mono ?_
    rintro x w1 ⟨rfl, hk⟩
    go_wp2_with fail
    go_ret
    exact ⟨rfl, hk⟩
theorem clamp_spec (n : Int) (w : World) : Calls Tryz.prog 78 #[.int .i64 n, .int .i64 (-100), .int .i64 100] w fun e w' => e = .returned (.int .i64 (max (-100) (min n 100))) ∧ Keeps w w' := by
  go_enter Tryz.func78, Tryz.ntmps78
  go_wp2
  all_goals go_ret
  all_goals exact ⟨ret_i (by omega), Keeps.refl _⟩
theorem up_spec (n : Int) (w : World) : Calls Tryz.prog 160 #[.int .i64 n] w fun e w' => e = .returned (.int .i64 (upS n)) ∧ Keeps w w' := by
  obtain ⟨v, hv⟩ : ∃ v : Int, v = upS n := ⟨_, rfl⟩
  rw [← hv]
  cases h : okS n
  · have h0 : v = 0 := by rw [hv]; simp [upS, h]
    subst h0; clear hv
    go_enter Tryz.func160, Tryz.ntmps160
    go_wp2_with fail
    refine (sok_spec n _).mono ?_
    rintro x w1 ⟨rfl, hk⟩
    rw [h]
    go_wp2_with fail
    go_ret
    exact ⟨rfl, hk⟩
  · obtain ⟨h1, h2⟩ := okS_true h
    have h0 : v = max (-100) (min (n + 10) 100) := by rw [hv]; simp only [upS, h, if_true]; omega
    have HF := hide (clamp_spec (n + 10))
    rw [← h0] at HF
    clear hv h0
    go_enter Tryz.func160, Tryz.ntmps160
    go_wp2_with fail
    refine (sok_spec n _).mono ?_
    rintro x w1 ⟨rfl, hk⟩
    rw [h]
    go_wp2_with fail
    refine (HF.out _).mono ?_
    rintro x w2 ⟨rfl, hk2⟩
    go_wp2_with fail
    go_ret
    exact ⟨rfl, hk.trans hk2⟩
theorem down_spec (n : Int) (w : World) : Calls Tryz.prog 161 #[.int .i64 n] w fun e w' => e = .returned (.int .i64 (downS n)) ∧ Keeps w w' := by
  obtain ⟨v, hv⟩ : ∃ v : Int, v = downS n := ⟨_, rfl⟩
  rw [← hv]
  cases h : okS n
  · have h0 : v = 0 := by rw [hv]; simp [downS, h]
    subst h0; clear hv
    go_enter Tryz.func161, Tryz.ntmps161
    go_wp2_with fail
    refine (sok_spec n _).mono ?_
    rintro x w1 ⟨rfl, hk⟩
    rw [h]
    go_wp2_with fail
    go_ret
    exact ⟨rfl, hk⟩
  · obtain ⟨h1, h2⟩ := okS_true h
    have h0 : v = max (-100) (min (n - 15) 100) := by rw [hv]; simp only [downS, h, if_true]; omega
    have HF := hide (clamp_spec (n - 15))
    rw [← h0] at HF
    clear hv h0
    go_enter Tryz.func161, Tryz.ntmps161
    go_wp2_with fail
    refine (sok_spec n _).mono ?_
    rintro x w1 ⟨rfl, hk⟩
    rw [h]
    go_wp2_with fail
    refine (HF.out _).mono ?_
    rintro x w2 ⟨rfl, hk2⟩
    go_wp2_with fail
    go_ret
    exact ⟨rfl, hk.trans hk2⟩
theorem fade_spec (n : Int) (w : World) : Calls Tryz.prog 162 #[.int .i64 n] w fun e w' => e = .returned (.int .i64 (fadeS n)) ∧ Keeps w w' := by
  obtain ⟨v, hv⟩ : ∃ v : Int, v = fadeS n := ⟨_, rfl⟩
  rw [← hv]
  cases h : okS n
  · have h0 : v = 0 := by rw [hv]; simp [fadeS, h]
    subst h0; clear hv
    go_enter Tryz.func162, Tryz.ntmps162
    go_wp2_with fail
    refine (sok_spec n _).mono ?_
    rintro x w1 ⟨rfl, hk⟩
    rw [h]
    go_wp2_with fail
    go_ret
    exact ⟨rfl, hk⟩
  · obtain ⟨h1, h2⟩ := okS_true h
    simp only [fadeS, h, if_true] at hv
    go_enter Tryz.func162, Tryz.ntmps162
    go_wp2_with fail
    refine (sok_spec n _).mono ?_
    rintro x w1 ⟨rfl, hk⟩
    rw [h]
    go_wp2
    all_goals go_ret
    all_goals exact ⟨ret_i (by split at hv <;> (try split at hv) <;> simp_all <;> omega), hk⟩
end Go.Proofs.YteoloapjhlpnjaaGreatDoor
