/- The program's small words on books: right numbers, the place of a channel. -/
import Derived.Test.YtjihinkjcplgcaaDoorBk
namespace Go.Proofs.YtjihinkjcplgcaaDoor
open Go.RowKit Go.Deep
set_option linter.unusedVariables false
set_option maxRecDepth 10000

theorem pos_impl (n : Int) (w : World) : Calls Tryd.prog 81 #[.int .i64 n] w fun e w' => e = .returned (.bool (posB n)) ∧ Keeps w w' := by
  obtain ⟨v, hv⟩ : ∃ v : Bool, v = posB n := ⟨_, rfl⟩
  rw [← hv]
  unfold posB at hv
  cases h : amtB n
  · rw [h, Bool.false_and] at hv
    subst hv
    go_enter Tryd.func81, Tryd.ntmps81
    go_wp2_with fail
    refine (amt_impl n _).mono ?_
    rintro x w1 ⟨rfl, hk⟩
    rw [h]
    go_wp2_with fail
    go_ret
    exact ⟨rfl, hk⟩
  · rw [h, Bool.true_and] at hv
    replace hv := hide hv
    go_enter Tryd.func81, Tryd.ntmps81
    go_wp2_with fail
    refine (amt_impl n _).mono ?_
    rintro x w1 ⟨rfl, hk⟩
    rw [h]
    go_wp2_with fail
    go_ret
    exact ⟨ret_b (by rw [hv.out]), hk⟩
theorem key_impl (n : Int) (w : World) : Calls Tryd.prog 91 #[.int .i64 n] w fun e w' => e = .returned (.bool (keyB n)) ∧ Keeps w w' := by
  by_cases h : 1 ≤ n
  · go_enter Tryd.func91, Tryd.ntmps91
    go_wp2
    go_ret
    exact ⟨ret_b (by simp [keyB, h]), Keeps.refl _⟩
  · go_enter Tryd.func91, Tryd.ntmps91
    go_wp2
    go_ret
    exact ⟨ret_b (by simp [keyB]; omega), Keeps.refl _⟩
theorem chan_impl (n : Int) (w : World) : Calls Tryd.prog 84 #[.int .i64 n] w fun e w' => e = .returned (.bool (chB n)) ∧ Keeps w w' := by
  by_cases h : 1 ≤ n
  · go_enter Tryd.func84, Tryd.ntmps84
    go_wp2
    go_ret
    exact ⟨ret_b (by simp [chB, h]), Keeps.refl _⟩
  · go_enter Tryd.func84, Tryd.ntmps84
    go_wp2
    go_ret
    exact ⟨ret_b (by simp [chB]; omega), Keeps.refl _⟩
theorem ppm_impl (n : Int) (w : World) : Calls Tryd.prog 47 #[.int .i64 n] w fun e w' => e = .returned (.bool (ppmB n)) ∧ Keeps w w' := by
  by_cases h : 0 ≤ n
  · go_enter Tryd.func47, Tryd.ntmps47
    go_wp2
    go_ret
    exact ⟨ret_b (by simp [ppmB, h]), Keeps.refl _⟩
  · go_enter Tryd.func47, Tryd.ntmps47
    go_wp2
    go_ret
    exact ⟨ret_b (by simp [ppmB]; omega), Keeps.refl _⟩
/-- Where channel k of a list lies. -/
def placeC (a : Option Addr) (k : Option Nat) : Option Addr := match a, k with
  | some p, some i => some ⟨p.block, p.off + i * 7, none⟩
  | _, _ => none
theorem placeC_none (a : Option Addr) : placeC a none = none := by cases a <;> rfl
theorem placeC_some (b off k : Nat) : placeC (some ⟨b, off, none⟩) (some k) = some ⟨b, off + k * 7, none⟩ := rfl
/-- The place of a channel is nil just where there is none. -/
theorem placeC_at {w : World} {ca : Option Addr} {C : List Chn} (hc : Cells w ca (chs C)) (ch : Int) : (hasC C ch = false ∧ placeC ca (atC C ch) = none) ∨ ∃ b off k, hasC C ch = true ∧ atC C ch = some k ∧ ca = some ⟨b, off, none⟩ ∧ placeC ca (atC C ch) = some ⟨b, off + k * 7, none⟩ := by
  rw [hasC_at]
  cases h : atC C ch with
  | none => exact Or.inl ⟨rfl, placeC_none _⟩
  | some k =>
    obtain ⟨hk, _⟩ := atC_lt h
    obtain ⟨b, off, rfl, _⟩ := chs_at hc k hk
    exact Or.inr ⟨b, off, k, rfl, rfl, rfl, rfl⟩
end Go.Proofs.YtjihinkjcplgcaaDoor
