/- The contract of TextNum of the model. -/
import Derived.Test.YtjmhnpnjiaeamaaDoorText
namespace Go.Proofs.YtjmhnpnjiaeamaaDoor
open Go.RowKit
set_option linter.unusedVariables false

theorem head_of (s : ByteArray) (h : 0 < s.size) : s.data.toList.head? = some s[0] := by
  rw [List.head?_eq_getElem?]
  have : s.data.toList[0]? = some s.data.toList[0] := List.getElem?_eq_getElem (by simpa using h)
  rw [this]; rfl
theorem at_k (s : ByteArray) (k : Nat) (h : k < s.size) : s.data.toList[k]? = some s[k] := by
  rw [List.getElem?_eq_getElem (by simpa using h)]; rfl
theorem drop_at (s : ByteArray) (t k : Nat) (h : k < s.size) (ht : t ≤ k) : (s.data.toList.drop t)[k - t]? = some s[k] := by
  rw [List.getElem?_drop, show t + (k - t) = k by omega]; exact at_k s k h
theorem step_dig (s : ByteArray) (t k N : Nat) (h : k < s.size) (ht : t ≤ k) (hd : Lib.decFrom 0 ((s.data.toList.drop t).take (k - t)) = some N) (h1 : 48 ≤ (s[k].toNat : Int)) (h2 : (s[k].toNat : Int) ≤ 57) :
    Lib.decFrom 0 ((s.data.toList.drop t).take (k + 1 - t)) = some (N * 10 + (s[k].toNat - 48)) := by
  have e : Lib.digitVal s[k] = some (s[k].toNat - 48) := by unfold Lib.digitVal; rw [if_pos (by omega)]
  rw [show k + 1 - t = (k - t) + 1 by omega]
  exact Lib.decFrom_take _ _ _ _ _ _ hd (drop_at s t k h ht) e
theorem st_one (s : ByteArray) (h : 0 < s.size) (h1 : (s[0].toNat : Int) = 45) : s.data.toList.head? = some 45 := by
  rw [head_of s h]
  congr 1
  apply UInt8.toNat_inj.1
  show _ = 45
  omega
theorem st_zero (s : ByteArray) (h : 0 < s.size) (h1 : ¬ (s[0].toNat : Int) = 45) : ¬ s.data.toList.head? = some 45 := by
  rw [head_of s h]
  intro e
  have := Option.some.inj e
  rw [this] at h1
  exact h1 rfl
theorem bad_dig (s : ByteArray) (t k : Nat) (ht' : t = st s.data.toList) (h : k < s.size) (ht : t ≤ k) (hb : (s[k].toNat : Int) < 48 ∨ 57 < (s[k].toNat : Int)) : Res s.data.toList 0 false := by
  apply res_none
  have e : Lib.digitVal s[k] = none := by unfold Lib.digitVal; rw [if_neg (by omega)]
  unfold spv
  rw [← ht', decFrom_bad (drop_at s t k h ht) e]; rfl
theorem ne_nil (s : ByteArray) (h : 0 < s.size) : s.data.toList ≠ [] := by
  intro e
  have h3 : s.data.toList.length = s.size := by simp
  rw [e] at h3; simp at h3; omega
theorem fin_neg (s : ByteArray) (N : Nat) (hh : s.data.toList.head? = some 45) (hd : Lib.decFrom 0 ((s.data.toList.drop 1).take (s.size - 1)) = some N) : spv s.data.toList = some (-(N : Int)) := by
  rw [List.take_of_length_le (by simp)] at hd
  unfold spv st
  rw [if_pos hh, hd]; simp [hh]
theorem fin_pos (s : ByteArray) (N : Nat) (hh : ¬ s.data.toList.head? = some 45) (hd : Lib.decFrom 0 ((s.data.toList.drop 0).take (s.size - 0)) = some N) : spv s.data.toList = some (N : Int) := by
  rw [List.take_of_length_le (by simp)] at hd
  unfold spv st
  rw [if_neg hh, hd]; simp [hh]

/-- The answer of TextNum. -/
def Tells (l : List UInt8) (e : Ending) : Prop := ∃ v b, Res l v b ∧ e = .returned (.tuple #[.int .i64 v, .bool b])
theorem tells {l : List UInt8} {v : Int} {b : Bool} (h : Res l v b) : Tells l (.returned (.tuple #[.int .i64 v, .bool b])) := ⟨v, b, h, rfl⟩

set_option maxHeartbeats 2000000 in
theorem text_spec (s : ByteArray) (w : World) (hs : s.size ≤ 1048576) :
    Calls Tryd.prog 26 #[.string s] w fun e w' => Tells s.data.toList e ∧ Keeps w w' := by
  by_cases h1 : s.size < 1
  · have H : Hid (Res s.data.toList 0 false) := by
      have : s.data.toList = [] := by
        have h3 : s.data.toList.length = s.size := by simp
        exact List.eq_nil_of_length_eq_zero (by omega)
      show Res _ _ _
      rw [this]; exact res_nil
    go_enter Tryd.func26, Tryd.ntmps26
    go_wp2_with fail
    go_ret2
    exact ⟨tells H.out, Keeps.refl _⟩
  · by_cases h2 : 17 < s.size
    · have H : Hid (Res s.data.toList 0 false) := res_long (by simpa using h2)
      go_enter Tryd.func26, Tryd.ntmps26
      go_wp2_with fail
      go_ret2
      exact ⟨tells H.out, Keeps.refl _⟩
    · have hpos : 0 < s.size := by omega
      have HNE := hide (ne_nil s hpos)
      obtain ⟨t, ht1, HT, HC⟩ : ∃ t : Nat, t ≤ 1 ∧ Hid (t = st s.data.toList) ∧ Hid ((t = 1 ∧ (s[0].toNat : Int) = 45) ∨ (t = 0 ∧ ¬ (s[0].toNat : Int) = 45)) := by
        by_cases h : (s[0].toNat : Int) = 45
        · exact ⟨1, by omega, by show _ = _; simp [st, st_one s hpos h], Or.inl ⟨rfl, h⟩⟩
        · exact ⟨0, by omega, by show _ = _; simp [st, st_zero s hpos h], Or.inr ⟨rfl, h⟩⟩
      go_enter Tryd.func26, Tryd.ntmps26
      go_wp2_with fail
      go_loop [4, 5] (fun x y => ∃ N k : Nat, k ≤ s.size ∧ Hid (Lib.decFrom 0 ((s.data.toList.drop t).take (k - t)) = some N) ∧ x = .int .i64 (N : Int) ∧ y = .int .i64 (k : Int)) (fun _ y => s.size - (intOf y).toNat)
      case atStart => exact ⟨0, 0, by omega, by show _ = _; simp [Lib.decFrom], rfl, rfl⟩
      case round =>
        obtain ⟨N, k, hk, HD, rfl, rfl⟩ := hrel
        by_cases hlt : k < s.size
        · have hN : N < 10000000000000000 := decFrom_small (by simp; omega) HD.out
          by_cases hsign : k = 0 ∧ t = 1
          · obtain ⟨rfl, rfl⟩ := hsign
            have h45 : ((s[0].toNat : Int) == 45) = true := by
              rcases HC.out with ⟨_, h⟩ | ⟨h, _⟩
              · rw [h]; rfl
              · omega
            go_wp2_with fail
            go_round
            case rel => exact ⟨N, 1, by omega, HD.out, rfl, rfl⟩
            case measure => simp [intOf]; omega
          · have htk : t ≤ k := by omega
            have hfirst : (((k : Int) == 0) = false) ∨ (k = 0 ∧ ((s[0].toNat : Int) == 45) = false) := by
              by_cases h0 : k = 0
              · right
                refine ⟨h0, ?_⟩
                rcases HC.out with ⟨h, _⟩ | ⟨_, h⟩
                · omega
                · exact beq_eq_false_iff_ne.2 h
              · left; rw [beq_eq_false_iff_ne]; omega
            by_cases hb1 : (s[k].toNat : Int) < 48
            · have HB := hide (bad_dig s t k HT.out hlt htk (Or.inl hb1))
              rcases hfirst with hf | ⟨rfl, hf⟩
              all_goals
                go_wp2_with fail
                go_ret2
                exact ⟨tells HB.out, Keeps.refl _⟩
            · by_cases hb2 : 57 < (s[k].toNat : Int)
              · have HB := hide (bad_dig s t k HT.out hlt htk (Or.inr hb2))
                rcases hfirst with hf | ⟨rfl, hf⟩
                all_goals
                  go_wp2_with fail
                  go_ret2
                  exact ⟨tells HB.out, Keeps.refl _⟩
              · have HX := hide (step_dig s t k N hlt htk HD.out (by omega) (by omega))
                rcases hfirst with hf | ⟨rfl, hf⟩
                all_goals
                  go_wp2_with fail
                  go_round
                  case rel => exact ⟨_, _, by omega, HX.out, by congr 1; omega, by congr 1⟩
                  case measure => simp [intOf]; omega
        · have hke : k = s.size := by omega
          have hN : N < 100000000000000000 := by
            have a := decFrom_lt _ 0 N 0 (by simp) HD.out
            have b : 10 ^ (0 + ((s.data.toList.drop t).take (k - t)).length) ≤ 10 ^ 17 := Nat.pow_le_pow_right (by omega) (by simp; omega)
            omega
          subst hke
          clear hlt hk
          rcases HC.out with ⟨rfl, h45⟩ | ⟨rfl, h45⟩
          · have HS := hide (fin_neg s N (st_one s hpos h45) HD.out)
            have HN := hide (fun w1 => num_spec (-(N : Int)) w1)
            have hq : ((s[0].toNat : Int) == 45) = true := by rw [h45]; rfl
            clear h45
            cases hb : numT (-(N : Int)) == s.toList
            · have HB := hide (res_diff HS.out (by rw [toList_data] at hb; exact beq_eq_false_iff_ne.1 hb))
              go_wp2_with (go_at_call 24; refine (unhide HN _).mono ?_; rintro e w1 ⟨rfl, hk⟩)
              go_ret2
              exact ⟨tells HB.out, hk⟩
            · have HB := hide (res_yes HNE.out (by rw [toList_data] at hb; exact beq_iff_eq.1 hb))
              go_wp2_with (go_at_call 24; refine (unhide HN _).mono ?_; rintro e w1 ⟨rfl, hk⟩)
              go_ret2
              exact ⟨tells HB.out, hk⟩
          · have HS := hide (fin_pos s N (st_zero s hpos h45) HD.out)
            have HN := hide (fun w1 => num_spec (N : Int) w1)
            have hq : ((s[0].toNat : Int) == 45) = false := beq_eq_false_iff_ne.2 h45
            clear h45
            cases hb : numT (N : Int) == s.toList
            · have HB := hide (res_diff HS.out (by rw [toList_data] at hb; exact beq_eq_false_iff_ne.1 hb))
              go_wp2_with (go_at_call 24; refine (unhide HN _).mono ?_; rintro e w1 ⟨rfl, hk⟩)
              go_ret2
              exact ⟨tells HB.out, hk⟩
            · have HB := hide (res_yes HNE.out (by rw [toList_data] at hb; exact beq_iff_eq.1 hb))
              go_wp2_with (go_at_call 24; refine (unhide HN _).mono ?_; rintro e w1 ⟨rfl, hk⟩)
              go_ret2
              exact ⟨tells HB.out, hk⟩
end Go.Proofs.YtjmhnpnjiaeamaaDoor
