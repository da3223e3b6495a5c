/- Variables of a law that lie in blocks of their own. -/
import Derived.Test.YtkdnddckogbgaaaDoorMem
import Derived.Deep.RegionHeld3
import Derived.Deep.DrawnRows
namespace Go.Proofs.YtkdnddckogbgaaaDoor
open Go.RowKit Go.Deep
set_option linter.unusedVariables false
theorem born_alloc (w : World) (c : Array Value) (t : TypeId) : Born w (w.alloc (.cells c t)) [(some ⟨w.heap.size, 0, none⟩, c.toList)] := by
  have hB : (w.alloc (.cells c t)).heap[w.heap.size]? = some (.cells c t (0, 0)) := blk_alloc_new w _
  revert hB
  generalize w.alloc (.cells c t) = W
  intro hB
  refine ⟨⟨?_, ?_, ?_⟩, ?_⟩
  · intro s hs
    rw [List.mem_singleton.1 hs]
    refine Or.inr ⟨_, 0, rfl, fun j hj => ?_⟩
    have hj' : j < c.size := by simpa using hj
    simp [World.cell?, hB, hj']
  · by_cases h0 : c.toList = [] <;> simp [fp, fpS, h0]
  · intro b hb
    by_cases h0 : c.toList = []
    · simp [fp, fpS, h0] at hb
    · simp [fp, fpS, h0] at hb
      subst hb
      intro o
      simp [World.frozen?, hB]
  · intro b hb
    by_cases h0 : c.toList = []
    · simp [fp, fpS, h0] at hb
    · simp [fp, fpS, h0] at hb
      omega
theorem cell_at {w : World} {b : Nat} {xs : List Value} (h : Mem w [(some ⟨b, 0, none⟩, xs)]) (j : Nat) (hj : j < xs.length) : w.cell? ⟨b, 0 + j, none⟩ = some xs[j] := by
  have h' := h (some ⟨b, 0, none⟩, xs) (by simp)
  rcases h' with h' | ⟨g, off, e, h'⟩
  · have : xs = [] := h'
    subst this
    simp at hj
  · have e' := Option.some.inj e
    injection e' with e1 e2
    subst e1 e2
    exact h' j hj
theorem apart_var {S : List Seg} {VB : Nat} {cs : List Value} (hc : cs ≠ []) (h : ∀ b ∈ fp S, b ≠ VB) : (∀ b ∈ fp S, b ∉ fp [((some ⟨VB, 0, none⟩ : Option Addr), cs)]) ∧ (∀ b ∈ fp [((some ⟨VB, 0, none⟩ : Option Addr), cs)], b ∉ fp S) := by
  have e : fp [((some ⟨VB, 0, none⟩ : Option Addr), cs)] = [VB] := by rw [fp_one, fpS_some hc]
  rw [e]
  refine ⟨fun b hb hx => h b hb (by simpa using hx), fun b hb hx => ?_⟩
  have : b = VB := by simpa using hb
  exact h b hx this
/-- A struct variable of two cells is written. -/
theorem var_turn {w : World} {VB : Nat} {t : TypeId} {f : Nat → Value} (hr : w.rowIs VB t 2 f) (x y : Value) : Own ((w.setCell ⟨VB, 0, none⟩ x).setCell ⟨VB, 1, none⟩ y) [(some ⟨VB, 0, none⟩, [x, y])] ∧ Turn [VB] w ((w.setCell ⟨VB, 0, none⟩ x).setCell ⟨VB, 1, none⟩ y) := by
  have r := ((hr.set 0 x).set 1 y)
  have c0 := r.cell (i := 0) (by decide)
  have c1 := r.cell (i := 1) (by decide)
  simp at c0 c1
  refine ⟨⟨?_, by simp [fp, fpS], ?_⟩, (Turn.set (by simp) _).trans' (Turn.set (by simp) _)⟩
  · intro s hs
    rw [List.mem_singleton.1 hs]
    refine Or.inr ⟨VB, 0, rfl, fun j hj => ?_⟩
    match j, hj with
    | 0, _ => exact c0
    | 1, _ => exact c1
  · intro b hb o
    have : b = VB := by simpa [fp, fpS] using hb
    subst this
    exact r.frozen o
theorem Keeps.rowV {w w' : World} (hk : Keeps w w') {b : Nat} {t : TypeId} {n : Nat} {f : Nat → Value} (h : w.rowIs b t n f) : w'.rowIs b t n f := h.of_block (Below.block hk _ h.lt)
theorem row_zero (w : World) (x y : Value) (t : TypeId) : (w.alloc (.cells #[x, y] t)).rowIs w.heap.size t 2 (fun i : Nat => if i = 0 then x else y) := World.rowIs_alloc w #[x, y] t _ (fun i hi => by
  match i, hi with
  | 0, _ => rfl
  | 1, _ => rfl)
end Go.Proofs.YtkdnddckogbgaaaDoor
