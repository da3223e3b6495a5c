/- Texts of the verifier, joined: Text2K, TsM. -/
import Derived.Test.YtkgpoghoilffhaaGreatDoorSC9
import Derived.Test.YtkgpoghoilffhaaGreatDoorSC24
import Derived.Test.YtkgpoghoilffhaaGreatDoorSC11
namespace Go.Proofs.YtkgpoghoilffhaaGreatDoor
open Go.RowKit
set_option linter.unusedVariables false

theorem head_ofN (s : ByteArray) (h : 0 < s.size) : s.data.toList.head? = some s[0] := by
  rw [List.head?_eq_getElem?]
  have : s.data.toList[0]? = some s.data.toList[0] := List.getElem?_eq_getElem (by simpa using h)
  rw [this]; rfl
theorem at_kN (s : ByteArray) (k : Nat) (h : k < s.size) : s.data.toList[k]? = some s[k] := by
  rw [List.getElem?_eq_getElem (by simpa using h)]; rfl
theorem drop_atN (s : ByteArray) (t k : Nat) (h : k < s.size) (ht : t ≤ k) : (s.data.toList.drop t)[k - t]? = some s[k] := by
  rw [List.getElem?_drop, show t + (k - t) = k by omega]; exact at_kN s k h
theorem step_dig (s : ByteArray) (t k N : Nat) (h : k < s.size) (ht : t ≤ k) (hd : Lib.decFrom 0 ((s.data.toList.drop t).take (k - t)) = some N) (h1 : 48 ≤ (s[k].toNat : Int)) (h2 : (s[k].toNat : Int) ≤ 57) :
    Lib.decFrom 0 ((s.data.toList.drop t).take (k + 1 - t)) = some (N * 10 + (s[k].toNat - 48)) := by
  have e : Lib.digitVal s[k] = some (s[k].toNat - 48) := by unfold Lib.digitVal; rw [if_pos (by omega)]
  rw [show k + 1 - t = (k - t) + 1 by omega]
  exact Lib.decFrom_take _ _ _ _ _ _ hd (drop_atN s t k h ht) e
theorem st_one (s : ByteArray) (h : 0 < s.size) (h1 : (s[0].toNat : Int) = 45) : s.data.toList.head? = some 45 := by
  rw [head_ofN s h]
  congr 1
  apply UInt8.toNat_inj.1
  show _ = 45
  omega
theorem st_zero (s : ByteArray) (h : 0 < s.size) (h1 : ¬ (s[0].toNat : Int) = 45) : ¬ s.data.toList.head? = some 45 := by
  rw [head_ofN s h]
  intro e
  have := Option.some.inj e
  rw [this] at h1
  exact h1 rfl
theorem bad_dig (s : ByteArray) (t k : Nat) (ht' : t = st s.data.toList) (h : k < s.size) (ht : t ≤ k) (hb : (s[k].toNat : Int) < 48 ∨ 57 < (s[k].toNat : Int)) : Res s.data.toList 0 false := by
  apply res_none
  have e : Lib.digitVal s[k] = none := by unfold Lib.digitVal; rw [if_neg (by omega)]
  unfold spv
  rw [← ht', decFrom_bad (drop_atN s t k h ht) e]; rfl
theorem ne_nilN (s : ByteArray) (h : 0 < s.size) : s.data.toList ≠ [] := by
  intro e
  have h3 : s.data.toList.length = s.size := by simp
  rw [e] at h3; simp at h3; omega
theorem fin_neg (s : ByteArray) (N : Nat) (hh : s.data.toList.head? = some 45) (hd : Lib.decFrom 0 ((s.data.toList.drop 1).take (s.size - 1)) = some N) : spv s.data.toList = some (-(N : Int)) := by
  rw [List.take_of_length_le (by simp)] at hd
  unfold spv st
  rw [if_pos hh, hd]; simp [hh]
theorem fin_pos (s : ByteArray) (N : Nat) (hh : ¬ s.data.toList.head? = some 45) (hd : Lib.decFrom 0 ((s.data.toList.drop 0).take (s.size - 0)) = some N) : spv s.data.toList = some (N : Int) := by
  rw [List.take_of_length_le (by simp)] at hd
  unfold spv st
  rw [if_neg hh, hd]; simp [hh]

/-- The answer of TextNum. -/
def Tells (l : List UInt8) (e : Ending) : Prop := ∃ v b, Res l v b ∧ e = .returned (.tuple #[.int .i64 v, .bool b])
theorem tells {l : List UInt8} {v : Int} {b : Bool} (h : Res l v b) : Tells l (.returned (.tuple #[.int .i64 v, .bool b])) := ⟨v, b, h, rfl⟩

set_option maxHeartbeats 2000000 in
theorem text_spec (s : ByteArray) (w : World) (hs : s.size ≤ 1048576) :
    Calls Tryz.prog 34 #[.string s] w fun e w' => Tells s.data.toList e ∧ Keeps w w' := by
  by_cases h1 : s.size < 1
  · have H : Hid (Res s.data.toList 0 false) := by
      have : s.data.toList = [] := by
        have h3 : s.data.toList.length = s.size := by simp
        exact List.eq_nil_of_length_eq_zero (by omega)
      show Res _ _ _
      rw [this]; exact res_nil
    go_enter Tryz.func34, Tryz.ntmps34
    go_wp2_with fail
    go_ret2
    exact ⟨tells H.out, Keeps.refl _⟩
  · by_cases h2 : 17 < s.size
    · have H : Hid (Res s.data.toList 0 false) := res_long (by simpa using h2)
      go_enter Tryz.func34, Tryz.ntmps34
      go_wp2_with fail
      go_ret2
      exact ⟨tells H.out, Keeps.refl _⟩
    · have hpos : 0 < s.size := by omega
      have HNE := hide (ne_nilN s hpos)
      obtain ⟨t, ht1, HT, HC⟩ : ∃ t : Nat, t ≤ 1 ∧ Hid (t = st s.data.toList) ∧ Hid ((t = 1 ∧ (s[0].toNat : Int) = 45) ∨ (t = 0 ∧ ¬ (s[0].toNat : Int) = 45)) := by
        by_cases h : (s[0].toNat : Int) = 45
        · exact ⟨1, by omega, by show _ = _; simp [st, st_one s hpos h], Or.inl ⟨rfl, h⟩⟩
        · exact ⟨0, by omega, by show _ = _; simp [st, st_zero s hpos h], Or.inr ⟨rfl, h⟩⟩
      go_enter Tryz.func34, Tryz.ntmps34
      go_wp2_with fail
      go_loop [4, 5] (fun x y => ∃ N k : Nat, k ≤ s.size ∧ Hid (Lib.decFrom 0 ((s.data.toList.drop t).take (k - t)) = some N) ∧ x = .int .i64 (N : Int) ∧ y = .int .i64 (k : Int)) (fun _ y => s.size - (intOf y).toNat)
      case atStart => exact ⟨0, 0, by omega, by show _ = _; simp [Lib.decFrom], rfl, rfl⟩
      case round =>
        obtain ⟨N, k, hk, HD, rfl, rfl⟩ := hrel
        by_cases hlt : k < s.size
        · have hN : N < 10000000000000000 := decFrom_small (by simp; omega) HD.out
          by_cases hsign : k = 0 ∧ t = 1
          · obtain ⟨rfl, rfl⟩ := hsign
            have h45 : ((s[0].toNat : Int) == 45) = true := by
              rcases HC.out with ⟨_, h⟩ | ⟨h, _⟩
              · rw [h]; rfl
              · omega
            go_wp2_with fail
            go_round
            case rel => exact ⟨N, 1, by omega, HD.out, rfl, rfl⟩
            case measure => simp [intOf]; omega
          · have htk : t ≤ k := by omega
            have hfirst : (((k : Int) == 0) = false) ∨ (k = 0 ∧ ((s[0].toNat : Int) == 45) = false) := by
              by_cases h0 : k = 0
              · right
                refine ⟨h0, ?_⟩
                rcases HC.out with ⟨h, _⟩ | ⟨_, h⟩
                · omega
                · exact beq_eq_false_iff_ne.2 h
              · left; rw [beq_eq_false_iff_ne]; omega
            by_cases hb1 : (s[k].toNat : Int) < 48
            · have HB := hide (bad_dig s t k HT.out hlt htk (Or.inl hb1))
              rcases hfirst with hf | ⟨rfl, hf⟩
              all_goals
                go_wp2_with fail
                go_ret2
                exact ⟨tells HB.out, Keeps.refl _⟩
            · by_cases hb2 : 57 < (s[k].toNat : Int)
              · have HB := hide (bad_dig s t k HT.out hlt htk (Or.inr hb2))
                rcases hfirst with hf | ⟨rfl, hf⟩
                all_goals
                  go_wp2_with fail
                  go_ret2
                  exact ⟨tells HB.out, Keeps.refl _⟩
              · have HX := hide (step_dig s t k N hlt htk HD.out (by omega) (by omega))
                rcases hfirst with hf | ⟨rfl, hf⟩
                all_goals
                  go_wp2_with fail
                  go_round
                  case rel => exact ⟨_, _, by omega, HX.out, by congr 1; omega, by congr 1⟩
                  case measure => simp [intOf]; omega
        · have hke : k = s.size := by omega
          have hN : N < 100000000000000000 := by
            have a := decFrom_lt _ 0 N 0 (by simp) HD.out
            have b : 10 ^ (0 + ((s.data.toList.drop t).take (k - t)).length) ≤ 10 ^ 17 := Nat.pow_le_pow_right (by omega) (by simp; omega)
            omega
          subst hke
          clear hlt hk
          rcases HC.out with ⟨rfl, h45⟩ | ⟨rfl, h45⟩
          · have HS := hide (fin_neg s N (st_one s hpos h45) HD.out)
            have HN := hide (fun w1 => num_spec (-(N : Int)) w1)
            have hq : ((s[0].toNat : Int) == 45) = true := by rw [h45]; rfl
            clear h45
            cases hb : numT (-(N : Int)) == s.toList
            · have HB := hide (res_diff HS.out (by rw [toList_data] at hb; exact beq_eq_false_iff_ne.1 hb))
              go_wp2_with (go_at_call 57; refine (unhide HN _).mono ?_; rintro e w1 ⟨rfl, hk⟩)
              go_ret2
              exact ⟨tells HB.out, hk⟩
            · have HB := hide (res_yes HNE.out (by rw [toList_data] at hb; exact beq_iff_eq.1 hb))
              go_wp2_with (go_at_call 57; refine (unhide HN _).mono ?_; rintro e w1 ⟨rfl, hk⟩)
              go_ret2
              exact ⟨tells HB.out, hk⟩
          · have HS := hide (fin_pos s N (st_zero s hpos h45) HD.out)
            have HN := hide (fun w1 => num_spec (N : Int) w1)
            have hq : ((s[0].toNat : Int) == 45) = false := beq_eq_false_iff_ne.2 h45
            clear h45
            cases hb : numT (N : Int) == s.toList
            · have HB := hide (res_diff HS.out (by rw [toList_data] at hb; exact beq_eq_false_iff_ne.1 hb))
              go_wp2_with (go_at_call 57; refine (unhide HN _).mono ?_; rintro e w1 ⟨rfl, hk⟩)
              go_ret2
              exact ⟨tells HB.out, hk⟩
            · have HB := hide (res_yes HNE.out (by rw [toList_data] at hb; exact beq_iff_eq.1 hb))
              go_wp2_with (go_at_call 57; refine (unhide HN _).mono ?_; rintro e w1 ⟨rfl, hk⟩)
              go_ret2
              exact ⟨tells HB.out, hk⟩
end Go.Proofs.YtkgpoghoilffhaaGreatDoor
namespace Go.Proofs.YtkgpoghoilffhaaGreatDoor
open Go.RowKit
set_option linter.unusedVariables false
set_option linter.unusedSimpArgs false
set_option maxRecDepth 10000
theorem dec_le (u : Nat) : ∀ x ∈ Lib.decDigits u, x.toNat ≤ 57 := by
  induction u using Nat.strongRecOn with
  | ind u ih =>
    intro x hx
    by_cases h10 : u < 10
    · rw [Lib.decDigits_one h10] at hx
      have : x = UInt8.ofNat (48 + u) := by simpa using hx
      rw [this, UInt8.toNat_ofNat']
      omega
    · rw [Lib.decDigits, dif_neg h10] at hx
      rcases List.mem_append.1 hx with h1 | h1
      · exact ih (u / 10) (by omega) x h1
      · have : x = UInt8.ofNat (48 + u % 10) := by simpa using h1
        rw [this, UInt8.toNat_ofNat']
        omega
theorem num_y (n : Int) : (121 : UInt8) ∉ numT n := by
  intro h
  unfold numT at h
  split at h
  · simp at h
  · unfold Lib.itoa at h
    split at h
    · rcases List.mem_cons.1 h with h1 | h1
      · exact absurd h1 (by decide)
      · exact absurd (dec_le _ _ h1) (by decide)
    · exact absurd (dec_le _ _ h) (by decide)
theorem num_yes (n : Int) : (numT n == [121, 101, 115]) = false := by
  apply beq_eq_false_iff_ne.2
  intro h
  exact num_y n (by rw [h]; simp)
/-- The number of the kind whose word it is, among the first i. -/
def kk (x : List UInt8) : Nat → Nat
  | 0 => 0
  | i + 1 => if 0 < i ∧ wordL i = x then i else kk x i
theorem kk_le (x : List UInt8) : ∀ i, kk x i ≤ i - 1
  | 0 => by simp [kk]
  | i + 1 => by
    have := kk_le x i
    unfold kk
    split <;> omega
/-- The model's table: which fields a kind has. -/
def hasT (k : Nat) (i : Nat) : Bool :=
  if k = 1 then hasB false false false true false false i else if k = 2 ∨ k = 4 then hasB false true false true true false i else if k = 3 then hasB false true false false true false i
  else if k = 5 then hasB true true true true false true i else if k = 9 then hasB true true true true true false i else if k = 8 then hasB false false false false false false i else hasB true false false false false false i
theorem has_0 (w : World) : Calls Tryz.prog 63 #[.int .i64 0] w (hasPost true false false false false false w) := by
  go_enter Tryz.func63, Tryz.ntmps63
  go_wp2
  go_ret
  exact ⟨rfl, rfl⟩
theorem has_tab {k : Nat} (h : k ≤ 11) (w : World) : Calls Tryz.prog 63 #[.int .i64 (k : Int)] w (hasPost (hasT k 0) (hasT k 1) (hasT k 2) (hasT k 3) (hasT k 4) (hasT k 5) w) := by
  have hk : k = 0 ∨ k = 1 ∨ k = 2 ∨ k = 3 ∨ k = 4 ∨ k = 5 ∨ k = 6 ∨ k = 7 ∨ k = 8 ∨ k = 9 ∨ k = 10 ∨ k = 11 := by omega
  rcases hk with rfl | rfl | rfl | rfl | rfl | rfl | rfl | rfl | rfl | rfl | rfl | rfl
  · exact has_0 w
  · exact has_1 w
  · exact has_2 w
  · exact has_3 w
  · exact has_4 w
  · exact has_5 w
  · exact has_6 w
  · exact has_7 w
  · exact has_8 w
  · exact has_9 w
  · exact has_10 w
  · exact has_11 w
theorem hasB_eq (k : Nat) : ∀ i, i < 6 → hasB (hasT k 0) (hasT k 1) (hasT k 2) (hasT k 3) (hasT k 4) (hasT k 5) i = hasT k i
  | 0, _ => rfl
  | 1, _ => rfl
  | 2, _ => rfl
  | 3, _ => rfl
  | 4, _ => rfl
  | 5, _ => rfl
def cntH (h : Nat → Bool) : Nat → Nat
  | 0 => 0
  | i + 1 => cntH h i + (if h i = true then 1 else 0)
noncomputable def rdV (h : Nat → Bool) (L : List (List UInt8)) (i : Nat) : Int := if h i = true ∧ 1 + cntH h i < L.length then txN (L.getD (1 + cntH h i) []) else 0
def rdY (L : List (List UInt8)) : Bool := L.getLastD [] == [121, 101, 115]
def rdK (L : List (List UInt8)) : Nat := kk (L.headD []) 12
/-- A right event's words are read as that event. -/
theorem rd_again {k y c t m f : Int} {b : Bool} (h : evB k y c t m f b = true) {L : List (List UInt8)} (hL : L = evW k y c t m f b) :
    ((rdK L : Nat) : Int) = k ∧ rdV (hasT (rdK L)) L 0 = y ∧ rdV (hasT (rdK L)) L 1 = c ∧ rdV (hasT (rdK L)) L 2 = t ∧ rdV (hasT (rdK L)) L 3 = m ∧ rdV (hasT (rdK L)) L 4 = f ∧ rdY L = b := by
  obtain ⟨⟨k1, k2⟩, ⟨y1, y2⟩, ⟨c1, c2⟩, ⟨t1, t2⟩, ⟨m1, m2⟩, ⟨f1, f2⟩⟩ := ev_bounds h
  have ty := tx_num (n := y) (by omega) (by omega)
  have tc := tx_num (n := c) (by omega) (by omega)
  have tt := tx_num (n := t) (by omega) (by omega)
  have tm := tx_num (n := m) (by omega) (by omega)
  have tf := tx_num (n := f) (by omega) (by omega)
  have ny := num_yes
  have hk : k = 1 ∨ k = 2 ∨ k = 3 ∨ k = 4 ∨ k = 5 ∨ k = 6 ∨ k = 7 ∨ k = 8 ∨ k = 9 ∨ k = 10 ∨ k = 11 := by omega
  subst hL
  rcases hk with rfl | rfl | rfl | rfl | rfl | rfl | rfl | rfl | rfl | rfl | rfl
  all_goals
    simp only [evB, fieldB, Bool.and_eq_true, decide_eq_true_eq, Bool.false_eq_true, if_true, if_false, Int.reduceEq, Bool.not_eq_true', or_false, or_true, false_or, true_or, or_self] at h
    simp [rdK, kk, wordL, evW, rdV, hasT, hasB, cntH, rdY, ty, tc, tt, tm, tf, ny]
    try omega
    try (cases b <;> simp_all)
theorem evT_size {k y c t m f : Int} {b : Bool} (h : evB k y c t m f b = true) : 0 < (evT k y c t m f b).length ∧ (evT k y c t m f b).length ≤ 1000 := by
  obtain ⟨⟨k1, k2⟩, _⟩ := ev_bounds h
  have n1 := numT_len y
  have n2 := numT_len c
  have n3 := numT_len t
  have n4 := numT_len m
  have n5 := numT_len f
  have hk : k = 1 ∨ k = 2 ∨ k = 3 ∨ k = 4 ∨ k = 5 ∨ k = 6 ∨ k = 7 ∨ k = 8 ∨ k = 9 ∨ k = 10 ∨ k = 11 := by omega
  rcases hk with rfl | rfl | rfl | rfl | rfl | rfl | rfl | rfl | rfl | rfl | rfl
  all_goals simp [evT, evW, join]
  all_goals try omega
  all_goals (cases b <;> simp <;> omega)
/-- What follows where the text of the event that is read is not s. -/
theorem te_not {s : ByteArray} {ws : List ByteArray} (hs : Spl s ws) (hx : dl s = [] ∨ etL ((rdK (ws.map dl) : Nat) : Int) (rdV (hasT (rdK (ws.map dl))) (ws.map dl) 0) (rdV (hasT (rdK (ws.map dl))) (ws.map dl) 1) (rdV (hasT (rdK (ws.map dl))) (ws.map dl) 2) (rdV (hasT (rdK (ws.map dl))) (ws.map dl) 3) (rdV (hasT (rdK (ws.map dl))) (ws.map dl) 4) (rdY (ws.map dl)) ≠ dl s) :
    TePost s (.returned (.tuple #[evV 0 0 0 0 0 0 false, .bool false])) := by
  refine .inr ⟨fun k y c t m f b h e => ?_, rfl⟩
  rcases hx with hx | hx
  · have h1 := (evT_size h).1
    have e' : evT k y c t m f b = dl s := e
    rw [e', hx] at h1
    simp at h1
  · obtain ⟨h1, h2⟩ := words_len k y c t m f b
    have hw := hs.eq h2 (words_blank k y c t m f b) e
    obtain ⟨e1, e2, e3, e4, e5, e6, e7⟩ := rd_again h hw
    apply hx
    rw [e1, e2, e3, e4, e5, e6, e7]
    unfold etL
    rw [if_pos h]
    exact e
end Go.Proofs.YtkgpoghoilffhaaGreatDoor
