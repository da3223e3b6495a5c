/- Limits: are they right? -/
import Derived.Test.YtjihinkjcplgcaaDoorPd
import Derived.Test.YtjihinkjcplgcaaDoorBk
namespace Go.Proofs.YtjihinkjcplgcaaDoor
open Go.RowKit Go.Deep
set_option linter.unusedVariables false
set_option linter.unusedSimpArgs false
set_option maxRecDepth 10000

theorem ret_ii {a a' b b' : Int} (h : a = a') (h' : b = b') : Ending.returned (.tuple #[.int .i64 a, .int .i64 b]) = .returned (.tuple #[.int .i64 a', .int .i64 b']) := by rw [h, h']
theorem band_impl (lo hi : Int) (w : World) : Calls Tryd.prog 50 #[.int .i64 lo, .int .i64 hi] w fun e w' => e = .returned (.bool (bandB lo hi)) ∧ Keeps w w' := by
  by_cases h0 : 0 ≤ lo
  · by_cases h1 : lo ≤ hi
    · by_cases h2 : hi ≤ 100
      · have e := bandB_yes h0 h1 h2
        rw [e]
        clear e
        go_enter Tryd.func50, Tryd.ntmps50
        go_wp2
        go_ret
        exact ⟨ret_b (by first | (simp; done) | (simp; omega)), Keeps.refl _⟩
      · have e := bandB_no (lo := lo) (hi := hi) (by omega)
        rw [e]
        clear e
        go_enter Tryd.func50, Tryd.ntmps50
        go_wp2
        go_ret
        exact ⟨ret_b (by first | (simp; done) | (simp; omega)), Keeps.refl _⟩
    · have e := bandB_no (lo := lo) (hi := hi) (by omega)
      rw [e]
      clear e
      go_enter Tryd.func50, Tryd.ntmps50
      go_wp2
      go_ret
      exact ⟨rfl, Keeps.refl _⟩
  · have e := bandB_no (lo := lo) (hi := hi) (by omega)
    rw [e]
    clear e
    go_enter Tryd.func50, Tryd.ntmps50
    go_wp2
    go_ret
    exact ⟨rfl, Keeps.refl _⟩
theorem band_spec (lo hi : Int) (w : World) : Calls Tryd.prog 28 #[.int .i64 lo, .int .i64 hi] w fun e w' => e = .returned (.bool (bandB lo hi)) ∧ Keeps w w' := by
  by_cases h0 : 0 ≤ lo
  · by_cases h1 : lo ≤ hi
    · by_cases h2 : hi ≤ 100
      · have e := bandB_yes h0 h1 h2
        rw [e]
        clear e
        go_enter Tryd.func28, Tryd.ntmps28
        go_wp2
        go_ret
        exact ⟨ret_b (by first | (simp; done) | (simp; omega)), Keeps.refl _⟩
      · have e := bandB_no (lo := lo) (hi := hi) (by omega)
        rw [e]
        clear e
        go_enter Tryd.func28, Tryd.ntmps28
        go_wp2
        go_ret
        exact ⟨ret_b (by first | (simp; done) | (simp; omega)), Keeps.refl _⟩
    · have e := bandB_no (lo := lo) (hi := hi) (by omega)
      rw [e]
      clear e
      go_enter Tryd.func28, Tryd.ntmps28
      go_wp2
      go_ret
      exact ⟨rfl, Keeps.refl _⟩
  · have e := bandB_no (lo := lo) (hi := hi) (by omega)
    rw [e]
    clear e
    go_enter Tryd.func28, Tryd.ntmps28
    go_wp2
    go_ret
    exact ⟨rfl, Keeps.refl _⟩
end Go.Proofs.YtjihinkjcplgcaaDoor
