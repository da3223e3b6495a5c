/- Variables of a law that lie in blocks of their own. -/
import Derived.Test.YtecjjkgdgmjgmaaDoorMem
import Derived.Deep.RegionHeld3
import Derived.Deep.DrawnRows
namespace Go.Proofs.YtecjjkgdgmjgmaaDoor
open Go.RowKit Go.Deep
set_option linter.unusedVariables false
theorem born_alloc (w : World) (c : Array Value) (t : TypeId) : Born w (w.alloc (.cells c t)) [(some ⟨w.heap.size, 0, none⟩, c.toList)] := by
  have hB : (w.alloc (.cells c t)).heap[w.heap.size]? = some (.cells c t (0, 0)) := blk_alloc_new w _
  revert hB
  generalize w.alloc (.cells c t) = W
  intro hB
  refine ⟨⟨?_, ?_, ?_⟩, ?_⟩
  · intro s hs
    rw [List.mem_singleton.1 hs]
    refine Or.inr ⟨_, 0, rfl, fun j hj => ?_⟩
    have hj' : j < c.size := by simpa using hj
    simp [World.cell?, hB, hj']
  · by_cases h0 : c.toList = [] <;> simp [fp, fpS, h0]
  · intro b hb
    by_cases h0 : c.toList = []
    · simp [fp, fpS, h0] at hb
    · simp [fp, fpS, h0] at hb
      subst hb
      intro o
      simp [World.frozen?, hB]
  · intro b hb
    by_cases h0 : c.toList = []
    · simp [fp, fpS, h0] at hb
    · simp [fp, fpS, h0] at hb
      omega
theorem cell_at {w : World} {b : Nat} {xs : List Value} (h : Mem w [(some ⟨b, 0, none⟩, xs)]) (j : Nat) (hj : j < xs.length) : w.cell? ⟨b, 0 + j, none⟩ = some xs[j] := by
  have h' := h (some ⟨b, 0, none⟩, xs) (by simp)
  rcases h' with h' | ⟨g, off, e, h'⟩
  · have : xs = [] := h'
    subst this
    simp at hj
  · have e' := Option.some.inj e
    injection e' with e1 e2
    subst e1 e2
    exact h' j hj
end Go.Proofs.YtecjjkgdgmjgmaaDoor
