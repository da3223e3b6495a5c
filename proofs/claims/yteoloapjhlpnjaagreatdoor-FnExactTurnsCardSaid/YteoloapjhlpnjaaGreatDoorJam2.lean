/- Standing and room: amounts, Standing, Allow of the program and of the model. -/
import Derived.Test.YteoloapjhlpnjaaGreatDoorJam
import Derived.Deep.DrawnRows
import Derived.Deep.Heap
namespace Go.Proofs.YteoloapjhlpnjaaGreatDoor
open Go.RowKit Go.Deep
set_option linter.unusedVariables false

theorem amt_impl (n : Int) (w : World) : Calls Tryz.prog 65 #[.int .i64 n] w fun e w' => e = .returned (.bool (amtB n)) ∧ Keeps w w' := by
  by_cases h1 : 0 ≤ n
  · by_cases h2 : n ≤ 1125899906842624
    · go_enter Tryz.func65, Tryz.ntmps65
      go_wp2
      go_ret
      exact ⟨ret_b (amtB_yes h1 h2).symm, Keeps.refl _⟩
    · go_enter Tryz.func65, Tryz.ntmps65
      go_wp2
      go_ret
      exact ⟨ret_b (amtB_no (by omega)).symm, Keeps.refl _⟩
  · go_enter Tryz.func65, Tryz.ntmps65
    go_wp2
    go_ret
    exact ⟨ret_b (amtB_no (by omega)).symm, Keeps.refl _⟩
theorem amt_spec (n : Int) (w : World) : Calls Tryz.prog 26 #[.int .i64 n] w fun e w' => e = .returned (.bool (amtB n)) ∧ Keeps w w' := by
  by_cases h1 : 0 ≤ n
  · by_cases h2 : n ≤ 1125899906842624
    · go_enter Tryz.func26, Tryz.ntmps26
      go_wp2
      go_ret
      exact ⟨ret_b (amtB_yes h1 h2).symm, Keeps.refl _⟩
    · go_enter Tryz.func26, Tryz.ntmps26
      go_wp2
      go_ret
      exact ⟨ret_b (amtB_no (by omega)).symm, Keeps.refl _⟩
  · go_enter Tryz.func26, Tryz.ntmps26
    go_wp2
    go_ret
    exact ⟨ret_b (amtB_no (by omega)).symm, Keeps.refl _⟩
def standS (n : Int) (b : Bool) : Bool := okS n && decide (20 ≤ n) && b
theorem stand_impl (n : Int) (b : Bool) (w : World) : Calls Tryz.prog 147 #[.int .i64 n, .bool b] w fun e w' => e = .returned (.bool (standS n b)) ∧ Keeps w w' := by
  obtain ⟨v, hv⟩ : ∃ v : Bool, v = standS n b := ⟨_, rfl⟩
  rw [← hv]
  cases h : okS n
  · have h0 : v = false := by rw [hv]; simp [standS, h]
    subst h0; clear hv
    go_enter Tryz.func147, Tryz.ntmps147
    go_wp2_with fail
    refine (sok_impl n _).mono ?_
    rintro x w1 ⟨rfl, hk⟩
    rw [h]
    go_wp2_with fail
    go_ret
    exact ⟨rfl, hk⟩
  · simp only [standS, h, Bool.true_and] at hv
    go_enter Tryz.func147, Tryz.ntmps147
    go_wp2_with fail
    refine (sok_impl n _).mono ?_
    rintro x w1 ⟨rfl, hk⟩
    rw [h]
    go_wp2
    all_goals go_ret
    all_goals exact ⟨ret_b (by by_cases hn : 20 ≤ n <;> (try omega) <;> simp [hn, hv]), hk⟩
theorem stand_spec (n : Int) (b : Bool) (w : World) : Calls Tryz.prog 199 #[.int .i64 n, .bool b] w fun e w' => e = .returned (.bool (standS n b)) ∧ Keeps w w' := by
  obtain ⟨v, hv⟩ : ∃ v : Bool, v = standS n b := ⟨_, rfl⟩
  rw [← hv]
  cases h : okS n
  · have h0 : v = false := by rw [hv]; simp [standS, h]
    subst h0; clear hv
    go_enter Tryz.func199, Tryz.ntmps199
    go_wp2_with fail
    refine (sok_spec n _).mono ?_
    rintro x w1 ⟨rfl, hk⟩
    rw [h]
    go_wp2_with fail
    go_ret
    exact ⟨rfl, hk⟩
  · simp only [standS, h, Bool.true_and] at hv
    go_enter Tryz.func199, Tryz.ntmps199
    go_wp2_with fail
    refine (sok_spec n _).mono ?_
    rintro x w1 ⟨rfl, hk⟩
    rw [h]
    go_wp2
    all_goals go_ret
    all_goals exact ⟨ret_b (by by_cases hn : 20 ≤ n <;> (try omega) <;> simp [hn, hv]), hk⟩
def useB (a k : Int) : Bool := amtB a && decide (0 ≤ k)
def withinB (uf sf ua sa : Int) : Bool := decide (uf ≤ ua) && decide (sf ≤ sa)
def placeB (u k n s m : Int) : Bool := decide (k < m) && decide (u + n ≤ s)
def allowV (s uf ua sf sa n : Int) (g : Bool) : Int :=
  if (amtB s && amtB n && useB uf sf && useB ua sa && withinB uf sf ua sa) = true then
    (if placeB ua sa n s 10 = true then (if placeB uf sf n (s / 2) 5 = true then 1 else if g = true then 2 else 0) else 0) else 0
theorem cellA (w : World) (x y : Value) (t : TypeId) : (w.alloc (.cells #[x, y] t)).cell? ⟨w.heap.size, 0, none⟩ = some x ∧ (w.alloc (.cells #[x, y] t)).cell? ⟨w.heap.size, 1, none⟩ = some y := by
  have hB : (w.alloc (.cells #[x, y] t)).heap[w.heap.size]? = some (.cells #[x, y] t (0, 0)) := blk_alloc_new w _
  revert hB
  generalize w.alloc (.cells #[x, y] t) = W
  intro hB
  constructor <;> simp [World.cell?, hB]
theorem size_alloc1 (w : World) (o : Obj) : (w.alloc o).heap.size = w.heap.size + 1 := by simp
theorem keepsA (w : World) (o : Obj) : Keeps w (w.alloc o) := Keeps.alloc (Keeps.refl w) o
theorem uright_impl (a k : Int) (w : World) : Calls Tryz.prog 184 #[.agg #[.int .i64 a, .int .i64 k]] w fun e w' => e = .returned (.bool (useB a k)) ∧ Keeps w w' := by
  obtain ⟨v, hv⟩ : ∃ v : Bool, v = useB a k := ⟨_, rfl⟩
  rw [← hv]
  go_enter Tryz.func184, Tryz.ntmps184
  go_wp2_with fail
  have hcA := cellA w (.int .i64 a) (.int .i64 k) 199
  have hkA := keepsA w (.cells #[.int .i64 a, .int .i64 k] 199)
  refine (amt_impl a _).mono ?_
  rintro x w1 ⟨rfl, hk⟩
  have c1 := hk.cell hcA.2
  have hk1 := hkA.trans hk
  clear hcA hkA hk
  cases h : amtB a
  · simp only [useB, h, Bool.false_and] at hv
    subst hv
    go_wp2_with fail
    go_ret
    exact ⟨rfl, hk1⟩
  · simp only [useB, h, Bool.true_and] at hv
    go_wp2_with fail
    go_ret
    exact ⟨ret_b hv.symm, hk1⟩
theorem within_impl (a k b l : Int) (w : World) : Calls Tryz.prog 185 #[.agg #[.int .i64 a, .int .i64 k], .agg #[.int .i64 b, .int .i64 l]] w fun e w' => e = .returned (.bool (withinB a k b l)) ∧ Keeps w w' := by
  go_enter Tryz.func185, Tryz.ntmps185
  go_wp2
  all_goals go_ret
  · exact ⟨ret_b (by simp [withinB, *]), (keepsA _ _).trans (keepsA _ _)⟩
  · rename_i h
    have h' : ¬ a ≤ b := by omega
    exact ⟨ret_b (by simp [withinB, h']), (keepsA _ _).trans (keepsA _ _)⟩
theorem place_impl (u k n s m : Int) (u0 : 0 ≤ u) (u1 : u ≤ 1125899906842624) (n0 : 0 ≤ n) (n1 : n ≤ 1125899906842624) (w : World) : Calls Tryz.prog 186 #[.agg #[.int .i64 u, .int .i64 k], .int .i64 n, .int .i64 s, .int .i64 m] w fun e w' => e = .returned (.bool (placeB u k n s m)) ∧ Keeps w w' := by
  go_enter Tryz.func186, Tryz.ntmps186
  go_wp2
  all_goals go_ret
  · exact ⟨ret_b (by simp [placeB, *]), keepsA _ _⟩
  · rename_i h
    have h' : ¬ k < m := by omega
    exact ⟨ret_b (by simp [placeB, h']), keepsA _ _⟩
theorem useB_true {a k : Int} (h : useB a k = true) : 0 ≤ a ∧ a ≤ 1125899906842624 := by
  unfold useB at h
  cases h2 : amtB a
  · simp [h2] at h
  · exact amtB_true h2
set_option maxHeartbeats 2000000 in
theorem allow_impl (s uf ua sf sa n : Int) (g : Bool) (w : World) : Calls Tryz.prog 146 #[.int .i64 s, .int .i64 uf, .int .i64 ua, .int .i64 sf, .int .i64 sa, .int .i64 n, .bool g] w fun e w' => e = .returned (.int .i64 (allowV s uf ua sf sa n g)) ∧ Keeps w w' := by
  obtain ⟨v, hv⟩ : ∃ v : Int, v = allowV s uf ua sf sa n g := ⟨_, rfl⟩
  rw [← hv]
  unfold allowV at hv
  replace hv := hide hv
  go_enter Tryz.func146, Tryz.ntmps146
  go_wp2_with fail
  have hA := cellA w (.int .i64 uf) (.int .i64 sf) 199
  have hkA := keepsA w (.cells #[.int .i64 uf, .int .i64 sf] 199)
  have hz := size_alloc1 w (.cells #[.int .i64 uf, .int .i64 sf] 199)
  have hB := cellA (w.alloc (.cells #[.int .i64 uf, .int .i64 sf] 199)) (.int .i64 ua) (.int .i64 sa) 199
  have hkB := keepsA (w.alloc (.cells #[.int .i64 uf, .int .i64 sf] 199)) (.cells #[.int .i64 ua, .int .i64 sa] 199)
  rw [hz] at hB
  have f0 := hkB.cell hA.1
  have f1 := hkB.cell hA.2
  have f2 := hB.1
  have f3 := hB.2
  have hK := hide (hkA.trans hkB)
  clear hA hkA hz hB hkB
  refine (amt_impl s _).mono ?_
  rintro x w1 ⟨rfl, hk⟩
  replace f0 := hk.cell f0
  replace f1 := hk.cell f1
  replace f2 := hk.cell f2
  replace f3 := hk.cell f3
  replace hK := hide (hK.out.trans hk)
  clear hk
  cases h1 : amtB s
  · have h0 := hv.out
    simp [h1] at h0
    subst h0; clear hv
    go_wp2_with fail
    go_ret
    exact ⟨rfl, hK.out⟩
  · skip
    go_wp2_with fail
    refine (amt_impl n _).mono ?_
    rintro x w2 ⟨rfl, hk⟩
    replace f0 := hk.cell f0
    replace f1 := hk.cell f1
    replace f2 := hk.cell f2
    replace f3 := hk.cell f3
    replace hK := hide (hK.out.trans hk)
    clear hk
    cases h2 : amtB n
    · have h0 := hv.out
      simp [h1, h2] at h0
      subst h0; clear hv
      go_wp2_with fail
      go_ret
      exact ⟨rfl, hK.out⟩
    · skip
      go_wp2_with fail
      refine (uright_impl uf sf _).mono ?_
      rintro x w3 ⟨rfl, hk⟩
      replace f0 := hk.cell f0
      replace f1 := hk.cell f1
      replace f2 := hk.cell f2
      replace f3 := hk.cell f3
      replace hK := hide (hK.out.trans hk)
      clear hk
      cases h3 : useB uf sf
      · have h0 := hv.out
        simp [h1, h2, h3] at h0
        subst h0; clear hv
        go_wp2_with fail
        go_ret
        exact ⟨rfl, hK.out⟩
      · skip
        go_wp2_with fail
        refine (uright_impl ua sa _).mono ?_
        rintro x w4 ⟨rfl, hk⟩
        replace f0 := hk.cell f0
        replace f1 := hk.cell f1
        replace f2 := hk.cell f2
        replace f3 := hk.cell f3
        replace hK := hide (hK.out.trans hk)
        clear hk
        cases h4 : useB ua sa
        · have h0 := hv.out
          simp [h1, h2, h3, h4] at h0
          subst h0; clear hv
          go_wp2_with fail
          go_ret
          exact ⟨rfl, hK.out⟩
        · skip
          go_wp2_with fail
          refine (within_impl uf sf ua sa _).mono ?_
          rintro x w5 ⟨rfl, hk⟩
          replace f0 := hk.cell f0
          replace f1 := hk.cell f1
          replace f2 := hk.cell f2
          replace f3 := hk.cell f3
          replace hK := hide (hK.out.trans hk)
          clear hk
          cases h5 : withinB uf sf ua sa
          · have h0 := hv.out
            simp [h1, h2, h3, h4, h5] at h0
            subst h0; clear hv
            go_wp2_with fail
            go_ret
            exact ⟨rfl, hK.out⟩
          · skip
            obtain ⟨s0, s1⟩ := amtB_true h1
            obtain ⟨n0, n1⟩ := amtB_true h2
            obtain ⟨u0, u1⟩ := useB_true h3
            obtain ⟨v0, v1⟩ := useB_true h4
            go_wp2_with fail
            refine (place_impl ua sa n s 10 v0 v1 n0 n1 _).mono ?_
            rintro x w6 ⟨rfl, hk⟩
            replace f0 := hk.cell f0
            replace f1 := hk.cell f1
            replace f2 := hk.cell f2
            replace f3 := hk.cell f3
            replace hK := hide (hK.out.trans hk)
            clear hk
            cases h6 : placeB ua sa n s 10
            · have h0 := hv.out
              simp [h1, h2, h3, h4, h5, h6] at h0
              subst h0; clear hv
              go_wp2_with fail
              go_ret
              exact ⟨rfl, hK.out⟩
            · skip
              go_wp2_with fail
              refine (place_impl uf sf n (s / 2) 5 u0 u1 n0 n1 _).mono ?_
              rintro x w7 ⟨rfl, hk⟩
              replace f0 := hk.cell f0
              replace f1 := hk.cell f1
              replace f2 := hk.cell f2
              replace f3 := hk.cell f3
              replace hK := hide (hK.out.trans hk)
              clear hk
              have h0 := hv.out
              simp only [h1, h2, h3, h4, h5, h6, Bool.and_self, if_true] at h0
              clear hv
              cases h7 : placeB uf sf n (s / 2) 5
              · cases g
                · simp [h7] at h0
                  subst h0
                  go_wp2_with fail
                  go_ret
                  exact ⟨rfl, hK.out⟩
                · simp [h7] at h0
                  subst h0
                  go_wp2_with fail
                  go_ret
                  exact ⟨rfl, hK.out⟩
              · simp [h7] at h0
                subst h0
                go_wp2_with fail
                go_ret
                exact ⟨rfl, hK.out⟩
theorem allowV_no {s uf ua sf sa n : Int} {g : Bool} (h : ¬ (0 ≤ s ∧ s ≤ 1125899906842624 ∧ 0 ≤ uf ∧ uf ≤ 1125899906842624 ∧ 0 ≤ ua ∧ ua ≤ 1125899906842624 ∧ 0 ≤ n ∧ n ≤ 1125899906842624 ∧ 0 ≤ sf ∧ 0 ≤ sa ∧ uf ≤ ua ∧ sf ≤ sa)) : allowV s uf ua sf sa n g = 0 := by
  unfold allowV
  rw [if_neg]
  intro hh
  simp [useB, withinB, amtB] at hh
  omega
theorem allowV_full {s uf ua sf sa n : Int} {g : Bool} (h : ¬ (sa < 10 ∧ ua + n ≤ s)) : allowV s uf ua sf sa n g = 0 := by
  unfold allowV
  split
  · rw [if_neg]
    intro hh
    simp [placeB] at hh
    omega
  · rfl
theorem allowV_yes {s uf ua sf sa n : Int} {g : Bool} (h : 0 ≤ s ∧ s ≤ 1125899906842624 ∧ 0 ≤ uf ∧ uf ≤ 1125899906842624 ∧ 0 ≤ ua ∧ ua ≤ 1125899906842624 ∧ 0 ≤ n ∧ n ≤ 1125899906842624 ∧ 0 ≤ sf ∧ 0 ≤ sa ∧ uf ≤ ua ∧ sf ≤ sa) (h2 : sa < 10 ∧ ua + n ≤ s) : allowV s uf ua sf sa n g = (if sf < 5 ∧ uf + n ≤ s / 2 then 1 else if g = true then 2 else 0) := by
  unfold allowV
  rw [if_pos (by simp [useB, withinB, amtB]; omega), if_pos (by simp [placeB]; omega)]
  simp [placeB]
set_option maxHeartbeats 2000000 in
theorem allow_spec (s uf ua sf sa n : Int) (g : Bool) (w : World) : Calls Tryz.prog 198 #[.int .i64 s, .int .i64 uf, .int .i64 ua, .int .i64 sf, .int .i64 sa, .int .i64 n, .bool g] w fun e w' => e = .returned (.int .i64 (allowV s uf ua sf sa n g)) ∧ Keeps w w' := by
  obtain ⟨v, hv⟩ : ∃ v : Int, v = allowV s uf ua sf sa n g := ⟨_, rfl⟩
  rw [← hv]
  replace hv := hide hv
  go_enter Tryz.func198, Tryz.ntmps198
  go_wp2_with fail
  have hK := hide (Keeps.refl w)
  refine (amt_spec s _).mono ?_
  rintro x w1 ⟨rfl, hk⟩
  replace hK := hide (hK.out.trans hk)
  clear hk
  cases h1 : amtB s
  · have h0 := hv.out
    rw [allowV_no (by have := amtB_false h1; omega)] at h0
    subst h0; clear hv
    go_wp2_with fail
    go_ret
    exact ⟨rfl, hK.out⟩
  · skip
    go_wp2_with fail
    refine (amt_spec uf _).mono ?_
    rintro x w2 ⟨rfl, hk⟩
    replace hK := hide (hK.out.trans hk)
    clear hk
    cases h2 : amtB uf
    · have h0 := hv.out
      rw [allowV_no (by have := amtB_false h2; omega)] at h0
      subst h0; clear hv
      go_wp2_with fail
      go_ret
      exact ⟨rfl, hK.out⟩
    · skip
      go_wp2_with fail
      refine (amt_spec ua _).mono ?_
      rintro x w3 ⟨rfl, hk⟩
      replace hK := hide (hK.out.trans hk)
      clear hk
      cases h3 : amtB ua
      · have h0 := hv.out
        rw [allowV_no (by have := amtB_false h3; omega)] at h0
        subst h0; clear hv
        go_wp2_with fail
        go_ret
        exact ⟨rfl, hK.out⟩
      · skip
        go_wp2_with fail
        refine (amt_spec n _).mono ?_
        rintro x w4 ⟨rfl, hk⟩
        replace hK := hide (hK.out.trans hk)
        clear hk
        cases h4 : amtB n
        · have h0 := hv.out
          rw [allowV_no (by have := amtB_false h4; omega)] at h0
          subst h0; clear hv
          go_wp2_with fail
          go_ret
          exact ⟨rfl, hK.out⟩
        · skip
          obtain ⟨s0, s1⟩ := amtB_true h1
          obtain ⟨uf0, uf1⟩ := amtB_true h2
          obtain ⟨ua0, ua1⟩ := amtB_true h3
          obtain ⟨n0, n1⟩ := amtB_true h4
          by_cases c0 : 0 ≤ sf
          rotate_left
          · have h0 := hv.out
            rw [allowV_no (by omega)] at h0
            subst h0; clear hv
            go_wp2
            all_goals go_ret
            all_goals exact ⟨rfl, hK.out⟩
          by_cases c1 : 0 ≤ sa
          rotate_left
          · have h0 := hv.out
            rw [allowV_no (by omega)] at h0
            subst h0; clear hv
            go_wp2
            all_goals go_ret
            all_goals exact ⟨rfl, hK.out⟩
          by_cases c2 : uf ≤ ua
          rotate_left
          · have h0 := hv.out
            rw [allowV_no (by omega)] at h0
            subst h0; clear hv
            go_wp2
            all_goals go_ret
            all_goals exact ⟨rfl, hK.out⟩
          by_cases c3 : sf ≤ sa
          rotate_left
          · have h0 := hv.out
            rw [allowV_no (by omega)] at h0
            subst h0; clear hv
            go_wp2
            all_goals go_ret
            all_goals exact ⟨rfl, hK.out⟩
          by_cases c4 : sa < 10
          rotate_left
          · have h0 := hv.out
            rw [allowV_full (by omega)] at h0
            subst h0; clear hv
            go_wp2
            all_goals go_ret
            all_goals exact ⟨rfl, hK.out⟩
          by_cases c5 : ua + n ≤ s
          rotate_left
          · have h0 := hv.out
            rw [allowV_full (by omega)] at h0
            subst h0; clear hv
            go_wp2
            all_goals go_ret
            all_goals exact ⟨rfl, hK.out⟩
          have h0 := hv.out
          rw [allowV_yes (by omega) (by omega)] at h0
          clear hv
          cases g
          · go_wp2
            all_goals go_ret
            all_goals exact ⟨ret_i (by split at h0 <;> simp_all <;> omega), hK.out⟩
          · go_wp2
            all_goals go_ret
            all_goals exact ⟨ret_i (by split at h0 <;> simp_all <;> omega), hK.out⟩
end Go.Proofs.YteoloapjhlpnjaaGreatDoor
