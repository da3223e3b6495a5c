/- Struct variables of four cells. -/
import Derived.Test.YtphabdjhmahemaaVars
namespace Go.Proofs.Ytphabdjhmahemaa
open Go.RowKit Go.Deep
set_option linter.unusedVariables false
theorem row_zero4 (w : World) (x y z u : Value) (t : TypeId) : (w.alloc (.cells #[x, y, z, u] t)).rowIs w.heap.size t 4 (fun i : Nat => if i = 0 then x else if i = 1 then y else if i = 2 then z else u) := World.rowIs_alloc w #[x, y, z, u] t _ (fun i hi => by
  match i, hi with
  | 0, _ => rfl
  | 1, _ => rfl
  | 2, _ => rfl
  | 3, _ => rfl)
theorem var_turn4 {w : World} {VB : Nat} {t : TypeId} {f : Nat → Value} (hr : w.rowIs VB t 4 f) (x y z u : Value) : Own ((((w.setCell ⟨VB, 0, none⟩ x).setCell ⟨VB, 1, none⟩ y).setCell ⟨VB, 2, none⟩ z).setCell ⟨VB, 3, none⟩ u) [(some ⟨VB, 0, none⟩, [x, y, z, u])] ∧ Turn [VB] w ((((w.setCell ⟨VB, 0, none⟩ x).setCell ⟨VB, 1, none⟩ y).setCell ⟨VB, 2, none⟩ z).setCell ⟨VB, 3, none⟩ u) := by
  have r := ((((hr.set 0 x).set 1 y).set 2 z).set 3 u)
  have c0 := r.cell (i := 0) (by decide)
  have c1 := r.cell (i := 1) (by decide)
  have c2 := r.cell (i := 2) (by decide)
  have c3 := r.cell (i := 3) (by decide)
  simp at c0 c1 c2 c3
  refine ⟨⟨?_, by simp [fp, fpS], ?_⟩, (((Turn.set (by simp) _).trans' (Turn.set (by simp) _)).trans' (Turn.set (by simp) _)).trans' (Turn.set (by simp) _)⟩
  · intro s hs
    rw [List.mem_singleton.1 hs]
    refine Or.inr ⟨VB, 0, rfl, fun j hj => ?_⟩
    match j, hj with
    | 0, _ => exact c0
    | 1, _ => exact c1
    | 2, _ => exact c2
    | 3, _ => exact c3
  · intro b hb o
    have : b = VB := by simpa [fp, fpS] using hb
    subst this
    exact r.frozen o
/-- What a piece of code leaves is told once, and what follows is walked once. -/
theorem once7 {P : Program} {c : Code} {Q : Exit → Act → World → Prop} {a : Act} {w : World} {α0 α1 α2 α3 α4 α5 α6 : Type} (F : α0 → α1 → α2 → α3 → α4 → α5 → α6 → World → Prop) (A : α0 → α1 → α2 → α3 → α4 → α5 → α6 → Act)
    (h1 : c.wp P (fun e a' w' => e = .normal ∧ ∃ x0 x1 x2 x3 x4 x5 x6, a' = A x0 x1 x2 x3 x4 x5 x6 ∧ F x0 x1 x2 x3 x4 x5 x6 w') a w) (h2 : ∀ x0 x1 x2 x3 x4 x5 x6 w', F x0 x1 x2 x3 x4 x5 x6 w' → Q .normal (A x0 x1 x2 x3 x4 x5 x6) w') : c.wp P Q a w :=
  wp_mono h1 (fun e a' w' ⟨he, x0, x1, x2, x3, x4, x5, x6, ha, hF⟩ => by subst he ha; exact h2 x0 x1 x2 x3 x4 x5 x6 w' hF)
/-- What a piece of code leaves is told once, and what follows is walked once. -/
theorem once13 {P : Program} {c : Code} {Q : Exit → Act → World → Prop} {a : Act} {w : World} {α0 α1 α2 α3 α4 α5 α6 α7 α8 α9 α10 α11 α12 : Type} (F : α0 → α1 → α2 → α3 → α4 → α5 → α6 → α7 → α8 → α9 → α10 → α11 → α12 → World → Prop) (A : α0 → α1 → α2 → α3 → α4 → α5 → α6 → α7 → α8 → α9 → α10 → α11 → α12 → Act)
    (h1 : c.wp P (fun e a' w' => e = .normal ∧ ∃ x0 x1 x2 x3 x4 x5 x6 x7 x8 x9 x10 x11 x12, a' = A x0 x1 x2 x3 x4 x5 x6 x7 x8 x9 x10 x11 x12 ∧ F x0 x1 x2 x3 x4 x5 x6 x7 x8 x9 x10 x11 x12 w') a w) (h2 : ∀ x0 x1 x2 x3 x4 x5 x6 x7 x8 x9 x10 x11 x12 w', F x0 x1 x2 x3 x4 x5 x6 x7 x8 x9 x10 x11 x12 w' → Q .normal (A x0 x1 x2 x3 x4 x5 x6 x7 x8 x9 x10 x11 x12) w') : c.wp P Q a w :=
  wp_mono h1 (fun e a' w' ⟨he, x0, x1, x2, x3, x4, x5, x6, x7, x8, x9, x10, x11, x12, ha, hF⟩ => by subst he ha; exact h2 x0 x1 x2 x3 x4 x5 x6 x7 x8 x9 x10 x11 x12 w' hF)
end Go.Proofs.Ytphabdjhmahemaa
