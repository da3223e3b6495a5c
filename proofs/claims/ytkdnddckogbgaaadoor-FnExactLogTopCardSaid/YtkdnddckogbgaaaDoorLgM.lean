/- What a log says, by what its disk says. -/
import Derived.Test.YtkdnddckogbgaaaDoorAll
namespace Go.Proofs.YtkdnddckogbgaaaDoor
open Go.RowKit Go.Deep
set_option linter.unusedVariables false

/-- The greatest epoch in the cells ahead of k. -/
def topTo (m : DkM) : Nat → Int
  | 0 => 0
  | k + 1 => if srB (readL m k) = true ∧ topTo m k < srE (readL m k) then srE (readL m k) else topTo m k
def topM (m : DkM) : Int := topTo m m.cells.length
theorem topTo_skip {m : DkM} {k : Nat} (h : srB (readL m k) = false) : topTo m (k + 1) = topTo m k := by simp [topTo, h]
theorem topTo_max {m : DkM} {k : Nat} (h : srB (readL m k) = true) : topTo m (k + 1) = max (topTo m k) (srE (readL m k)) := by
  simp only [topTo, h, true_and]
  split <;> omega
/-- Of a disk that isn't right nothing is read. -/
theorem readL_bad {m : DkM} (h : dokM m = false) (i : Int) : readL m i = [] := by unfold readL; rw [readB_dok h]; rfl
theorem topTo_bad {m : DkM} (h : dokM m = false) : ∀ k, topTo m k = 0
  | 0 => rfl
  | k + 1 => by rw [topTo_skip (by rw [readL_bad h]; rfl)]; exact topTo_bad h k
/-- The epoch ahead of cell k, if all ahead of it fit. -/
def lastE (m : DkM) : Nat → Int
  | 0 => 0
  | k + 1 => srE (readL m k)
/-- Does cell k fit? -/
def fitB (m : DkM) (k : Nat) : Bool := srB (readL m k) && decide (srQ (readL m k) = k) && decide (lastE m k ≤ srE (readL m k))
def fitTo (m : DkM) (k : Nat) : Prop := ∀ j, j < k → fitB m j = true
/-- How many cells fit, from the first on, of those ahead of n. -/
def logTo (m : DkM) : Nat → Nat
  | 0 => 0
  | n + 1 => if logTo m n = n ∧ fitB m n = true then n + 1 else logTo m n
def logN (m : DkM) : Nat := logTo m m.cells.length
theorem logTo_le (m : DkM) : ∀ n, logTo m n ≤ n
  | 0 => Nat.le_refl _
  | n + 1 => by
    unfold logTo
    split
    · exact Nat.le_refl _
    · exact Nat.le_succ_of_le (logTo_le m n)
theorem logTo_all {m : DkM} : ∀ {n : Nat}, fitTo m n → logTo m n = n
  | 0, _ => rfl
  | n + 1, h => by
    unfold logTo
    rw [if_pos ⟨logTo_all (fun j hj => h j (by omega)), h n (by omega)⟩]
theorem logTo_stop {m : DkM} {k : Nat} (hf : fitTo m k) (hn : fitB m k = false) : ∀ {n : Nat}, k ≤ n → logTo m n = k
  | 0, h => by have : k = 0 := by omega
               subst this; rfl
  | n + 1, h => by
    by_cases e : k = n + 1
    · subst e; exact logTo_all hf
    · have h1 := logTo_stop hf hn (n := n) (by omega)
      unfold logTo
      rw [if_neg ?_]
      · exact h1
      · rintro ⟨h2, h3⟩
        have : k = n := by omega
        subst this
        rw [hn] at h3
        exact Bool.noConfusion h3
theorem fitTo_succ {m : DkM} {k : Nat} (h : fitTo m k) (hk : fitB m k = true) : fitTo m (k + 1) := fun j hj => by
  by_cases e : j = k
  · subst e; exact hk
  · exact h j (by omega)
theorem fitTo_log {m : DkM} : ∀ n, fitTo m (logTo m n)
  | 0 => fun j hj => absurd hj (by simp [logTo])
  | n + 1 => by
    unfold logTo
    split
    · next h => 
      have := fitTo_log (m := m) n
      rw [h.1] at this
      exact fitTo_succ this h.2
    · exact fitTo_log n
end Go.Proofs.YtkdnddckogbgaaaDoor
