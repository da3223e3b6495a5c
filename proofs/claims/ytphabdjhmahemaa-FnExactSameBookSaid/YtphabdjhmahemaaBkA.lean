/- The program's small words on books: right numbers, the place of a channel. -/
import Derived.Test.YtphabdjhmahemaaBk
namespace Go.Proofs.Ytphabdjhmahemaa
open Go.RowKit Go.Deep
set_option linter.unusedVariables false
set_option maxRecDepth 10000

theorem pos_impl (n : Int) (w : World) : Calls Try.prog 90 #[.int .i64 n] w fun e w' => e = .returned (.bool (posB n)) ∧ Keeps w w' := by
  obtain ⟨v, hv⟩ : ∃ v : Bool, v = posB n := ⟨_, rfl⟩
  rw [← hv]
  unfold posB at hv
  cases h : amtB n
  · rw [h, Bool.false_and] at hv
    subst hv
    go_enter Try.func90, Try.ntmps90
    go_wp2_with fail
    refine (amt_impl n _).mono ?_
    rintro x w1 ⟨rfl, hk⟩
    rw [h]
    go_wp2_with fail
    go_ret
    exact ⟨rfl, hk⟩
  · rw [h, Bool.true_and] at hv
    replace hv := hide hv
    go_enter Try.func90, Try.ntmps90
    go_wp2_with fail
    refine (amt_impl n _).mono ?_
    rintro x w1 ⟨rfl, hk⟩
    rw [h]
    go_wp2_with fail
    go_ret
    exact ⟨ret_b (by rw [hv.out]), hk⟩
theorem key_impl (n : Int) (w : World) : Calls Try.prog 108 #[.int .i64 n] w fun e w' => e = .returned (.bool (keyB n)) ∧ Keeps w w' := by
  by_cases h : 1 ≤ n
  · go_enter Try.func108, Try.ntmps108
    go_wp2
    go_ret
    exact ⟨ret_b (by simp [keyB, h]), Keeps.refl _⟩
  · go_enter Try.func108, Try.ntmps108
    go_wp2
    go_ret
    exact ⟨ret_b (by simp [keyB]; omega), Keeps.refl _⟩
theorem chan_impl (n : Int) (w : World) : Calls Try.prog 110 #[.int .i64 n] w fun e w' => e = .returned (.bool (chB n)) ∧ Keeps w w' := by
  by_cases h : 1 ≤ n
  · go_enter Try.func110, Try.ntmps110
    go_wp2
    go_ret
    exact ⟨ret_b (by simp [chB, h]), Keeps.refl _⟩
  · go_enter Try.func110, Try.ntmps110
    go_wp2
    go_ret
    exact ⟨ret_b (by simp [chB]; omega), Keeps.refl _⟩
theorem ppm_impl (n : Int) (w : World) : Calls Try.prog 111 #[.int .i64 n] w fun e w' => e = .returned (.bool (ppmB n)) ∧ Keeps w w' := by
  by_cases h : 0 ≤ n
  · go_enter Try.func111, Try.ntmps111
    go_wp2
    go_ret
    exact ⟨ret_b (by simp [ppmB, h]), Keeps.refl _⟩
  · go_enter Try.func111, Try.ntmps111
    go_wp2
    go_ret
    exact ⟨ret_b (by simp [ppmB]; omega), Keeps.refl _⟩
/-- Where channel k of a list lies. -/
def placeC (a : Option Addr) (k : Option Nat) : Option Addr := match a, k with
  | some p, some i => some ⟨p.block, p.off + i * 7, none⟩
  | _, _ => none
theorem placeC_none (a : Option Addr) : placeC a none = none := by cases a <;> rfl
set_option maxHeartbeats 1000000 in
theorem channel_impl (p : Nat) (ca : Option Addr) (cc : Nat) (C : List Chn) (ch : Int) (w : World) (hp : w.cell? ⟨p, 3, none⟩ = some (.slice ca C.length cc)) (hc : Cells w ca (chs C)) (hl : C.length ≤ 1048576) :
    Calls Try.prog 117 #[.pointer (some ⟨p, 0, none⟩), .int .i64 ch] w fun e w' => e = .returned (.pointer (placeC ca (atC C ch))) ∧ w' = w := by
  have HC := hide hc
  clear hc
  go_enter Try.func117, Try.ntmps117
  go_wp2_with fail
  go_loop [11] (fun y => ∃ k : Nat, k ≤ C.length ∧ y = .int .i64 (k : Int) ∧ Hid (∀ j (hj : j < C.length), j < k → C[j].id ≠ ch)) (fun y => C.length - (intOf y).toNat)
  case atStart => exact ⟨0, by omega, rfl, fun j hj h => absurd h (by omega)⟩
  case round =>
    obtain ⟨k, hk, rfl, HG⟩ := hrel
    by_cases hlt : k < C.length
    · obtain ⟨b, off, ea, c0, -, -, -, -, -, -⟩ := chs_at HC.out k hlt
      subst ea
      by_cases he : C[k].id = ch
      · have HR : Hid (placeC (some ⟨b, off, none⟩) (atC C ch) = some ⟨b, off + k * 7, none⟩) := by
          show _ = _
          rw [atC_some hlt he HG.out]; rfl
        rw [he] at c0
        clear he HG
        go_wp2_with fail
        go_ret
        exact ⟨by rw [HR.out]; rfl, rfl⟩
      · have HE := hide he
        generalize C[k].id = x at c0 he
        go_wp2_with fail
        go_round
        case rel => exact ⟨k + 1, by omega, by go_num, fun j hj h => by
                      by_cases e : j = k
                      · subst e; exact HE.out
                      · exact HG.out j hj (by omega)⟩
        case measure => simp [intOf]; omega
    · have HR : Hid (placeC ca (atC C ch) = none) := by
        show _ = _
        rw [atC_none (fun j hj => HG.out j hj (by omega)), placeC_none]
      go_wp2_with fail
      go_ret
      exact ⟨by rw [HR.out]; rfl, rfl⟩
theorem placeC_some (b off k : Nat) : placeC (some ⟨b, off, none⟩) (some k) = some ⟨b, off + k * 7, none⟩ := rfl
/-- The place of a channel is nil just where there is none. -/
theorem placeC_at {w : World} {ca : Option Addr} {C : List Chn} (hc : Cells w ca (chs C)) (ch : Int) : (hasC C ch = false ∧ placeC ca (atC C ch) = none) ∨ ∃ b off k, hasC C ch = true ∧ atC C ch = some k ∧ ca = some ⟨b, off, none⟩ ∧ placeC ca (atC C ch) = some ⟨b, off + k * 7, none⟩ := by
  rw [hasC_at]
  cases h : atC C ch with
  | none => exact Or.inl ⟨rfl, placeC_none _⟩
  | some k =>
    obtain ⟨hk, _⟩ := atC_lt h
    obtain ⟨b, off, rfl, _⟩ := chs_at hc k hk
    exact Or.inr ⟨b, off, k, rfl, rfl, rfl, rfl⟩
theorem chanw (p : Nat) (ca : Option Addr) (cc : Nat) (C : List Chn) (ch : Int) {q : Option Addr} (w : World) (hp : w.cell? ⟨p, 3, none⟩ = some (.slice ca C.length cc)) (hc : Cells w ca (chs C)) (hl : C.length ≤ 1048576) (hq : placeC ca (atC C ch) = q) :
    Calls Try.prog 117 #[.pointer (some ⟨p, 0, none⟩), .int .i64 ch] w fun e w' => e = .returned (.pointer q) ∧ Keeps w w' :=
  (channel_impl p ca cc C ch w hp hc hl).mono fun e w' ⟨h1, h2⟩ => ⟨by rw [h1, hq], by rw [h2]; exact Keeps.refl _⟩
set_option maxHeartbeats 1000000 in
theorem two_impl (p : Nat) (ca : Option Addr) (cc : Nat) (C : List Chn) (x y : Int) (w : World) (hp : w.cell? ⟨p, 3, none⟩ = some (.slice ca C.length cc)) (hc : Cells w ca (chs C)) (hl : C.length ≤ 1048576) :
    Calls Try.prog 109 #[.pointer (some ⟨p, 0, none⟩), .int .i64 x, .int .i64 y] w fun e w' => e = .returned (.bool (twoB C x y)) ∧ Keeps w w' := by
  by_cases hxy : x = y
  · have HV : Hid (twoB C x y = false) := by show _ = _; simp [twoB, hxy]
    go_enter Try.func109, Try.ntmps109
    go_wp2_with fail
    go_ret
    exact ⟨ret_b HV.out.symm, Keeps.refl _⟩
  have HC := hide (fun z => channel_impl p ca cc C z w hp hc hl)
  rcases placeC_at hc x with ⟨h1, q1⟩ | ⟨b, off, k, h1, _, ea, q1⟩
  · have HV : Hid (twoB C x y = false) := by show _ = _; simp [twoB, h1]
    clear hc hp h1
    go_enter Try.func109, Try.ntmps109
    go_wp2_with fail
    refine (unhide HC x).mono ?_
    rintro e w1 ⟨rfl, rfl⟩
    rw [q1]
    go_wp2_with fail
    go_ret
    exact ⟨ret_b HV.out.symm, Keeps.refl _⟩
  rcases placeC_at hc y with ⟨h2, q2⟩ | ⟨b', off', k', h2, _, ea', q2⟩
  · have HV : Hid (twoB C x y = false) := by show _ = _; simp [twoB, h2]
    clear hc hp h1 h2
    go_enter Try.func109, Try.ntmps109
    go_wp2_with fail
    refine (unhide HC x).mono ?_
    rintro e w1 ⟨rfl, rfl⟩
    rw [q1]
    go_wp2_with fail
    refine (unhide HC y).mono ?_
    rintro e w1 ⟨rfl, rfl⟩
    rw [q2]
    go_wp2_with fail
    go_ret
    exact ⟨ret_b HV.out.symm, Keeps.refl _⟩
  · have HV : Hid (twoB C x y = true) := by show _ = _; simp [twoB, h1, h2, hxy]
    clear hc hp h1 h2
    go_enter Try.func109, Try.ntmps109
    go_wp2_with fail
    refine (unhide HC x).mono ?_
    rintro e w1 ⟨rfl, rfl⟩
    rw [q1]
    go_wp2_with fail
    refine (unhide HC y).mono ?_
    rintro e w1 ⟨rfl, rfl⟩
    rw [q2]
    go_wp2_with fail
    go_ret
    exact ⟨ret_b (by rw [HV.out]; simpa using hxy), Keeps.refl _⟩
end Go.Proofs.Ytphabdjhmahemaa
