/- Standing and room: amounts, Standing, Allow of the program and of the model. -/
import Derived.Test.YtjihinkjcplgcaaDoorJam
import Derived.Deep.DrawnRows
import Derived.Deep.Heap
namespace Go.Proofs.YtjihinkjcplgcaaDoor
open Go.RowKit Go.Deep
set_option linter.unusedVariables false

theorem amt_impl (n : Int) (w : World) : Calls Tryd.prog 40 #[.int .i64 n] w fun e w' => e = .returned (.bool (amtB n)) ∧ Keeps w w' := by
  by_cases h1 : 0 ≤ n
  · by_cases h2 : n ≤ 1125899906842624
    · go_enter Tryd.func40, Tryd.ntmps40
      go_wp2
      go_ret
      exact ⟨ret_b (amtB_yes h1 h2).symm, Keeps.refl _⟩
    · go_enter Tryd.func40, Tryd.ntmps40
      go_wp2
      go_ret
      exact ⟨ret_b (amtB_no (by omega)).symm, Keeps.refl _⟩
  · go_enter Tryd.func40, Tryd.ntmps40
    go_wp2
    go_ret
    exact ⟨ret_b (amtB_no (by omega)).symm, Keeps.refl _⟩
theorem amt_spec (n : Int) (w : World) : Calls Tryd.prog 13 #[.int .i64 n] w fun e w' => e = .returned (.bool (amtB n)) ∧ Keeps w w' := by
  by_cases h1 : 0 ≤ n
  · by_cases h2 : n ≤ 1125899906842624
    · go_enter Tryd.func13, Tryd.ntmps13
      go_wp2
      go_ret
      exact ⟨ret_b (amtB_yes h1 h2).symm, Keeps.refl _⟩
    · go_enter Tryd.func13, Tryd.ntmps13
      go_wp2
      go_ret
      exact ⟨ret_b (amtB_no (by omega)).symm, Keeps.refl _⟩
  · go_enter Tryd.func13, Tryd.ntmps13
    go_wp2
    go_ret
    exact ⟨ret_b (amtB_no (by omega)).symm, Keeps.refl _⟩
def standS (n : Int) (b : Bool) : Bool := okS n && decide (20 ≤ n) && b
def useB (a k : Int) : Bool := amtB a && decide (0 ≤ k)
def withinB (uf sf ua sa : Int) : Bool := decide (uf ≤ ua) && decide (sf ≤ sa)
def placeB (u k n s m : Int) : Bool := decide (k < m) && decide (u + n ≤ s)
def allowV (s uf ua sf sa n : Int) (g : Bool) : Int :=
  if (amtB s && amtB n && useB uf sf && useB ua sa && withinB uf sf ua sa) = true then
    (if placeB ua sa n s 10 = true then (if placeB uf sf n (s / 2) 5 = true then 1 else if g = true then 2 else 0) else 0) else 0
theorem cellA (w : World) (x y : Value) (t : TypeId) : (w.alloc (.cells #[x, y] t)).cell? ⟨w.heap.size, 0, none⟩ = some x ∧ (w.alloc (.cells #[x, y] t)).cell? ⟨w.heap.size, 1, none⟩ = some y := by
  have hB : (w.alloc (.cells #[x, y] t)).heap[w.heap.size]? = some (.cells #[x, y] t (0, 0)) := blk_alloc_new w _
  revert hB
  generalize w.alloc (.cells #[x, y] t) = W
  intro hB
  constructor <;> simp [World.cell?, hB]
theorem size_alloc1 (w : World) (o : Obj) : (w.alloc o).heap.size = w.heap.size + 1 := by simp
theorem keepsA (w : World) (o : Obj) : Keeps w (w.alloc o) := Keeps.alloc (Keeps.refl w) o
theorem useB_true {a k : Int} (h : useB a k = true) : 0 ≤ a ∧ a ≤ 1125899906842624 := by
  unfold useB at h
  cases h2 : amtB a
  · simp [h2] at h
  · exact amtB_true h2
theorem allowV_no {s uf ua sf sa n : Int} {g : Bool} (h : ¬ (0 ≤ s ∧ s ≤ 1125899906842624 ∧ 0 ≤ uf ∧ uf ≤ 1125899906842624 ∧ 0 ≤ ua ∧ ua ≤ 1125899906842624 ∧ 0 ≤ n ∧ n ≤ 1125899906842624 ∧ 0 ≤ sf ∧ 0 ≤ sa ∧ uf ≤ ua ∧ sf ≤ sa)) : allowV s uf ua sf sa n g = 0 := by
  unfold allowV
  rw [if_neg]
  intro hh
  simp [useB, withinB, amtB] at hh
  omega
theorem allowV_full {s uf ua sf sa n : Int} {g : Bool} (h : ¬ (sa < 10 ∧ ua + n ≤ s)) : allowV s uf ua sf sa n g = 0 := by
  unfold allowV
  split
  · rw [if_neg]
    intro hh
    simp [placeB] at hh
    omega
  · rfl
theorem allowV_yes {s uf ua sf sa n : Int} {g : Bool} (h : 0 ≤ s ∧ s ≤ 1125899906842624 ∧ 0 ≤ uf ∧ uf ≤ 1125899906842624 ∧ 0 ≤ ua ∧ ua ≤ 1125899906842624 ∧ 0 ≤ n ∧ n ≤ 1125899906842624 ∧ 0 ≤ sf ∧ 0 ≤ sa ∧ uf ≤ ua ∧ sf ≤ sa) (h2 : sa < 10 ∧ ua + n ≤ s) : allowV s uf ua sf sa n g = (if sf < 5 ∧ uf + n ≤ s / 2 then 1 else if g = true then 2 else 0) := by
  unfold allowV
  rw [if_pos (by simp [useB, withinB, amtB]; omega), if_pos (by simp [placeB]; omega)]
  simp [placeB]
end Go.Proofs.YtjihinkjcplgcaaDoor
