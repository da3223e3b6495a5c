/- Marks in lists of steps. -/
import Derived.Test.YtkgpoghoilffhaaGreatDoorRS13
namespace Go.Proofs.YtkgpoghoilffhaaGreatDoor
open Go.RowKit Go.Deep
set_option linter.unusedVariables false
set_option linter.unusedSimpArgs false
set_option maxRecDepth 10000
theorem row_get {w : World} {b off k i : Nat} {A B : List Ms} {c : List Value} (h : Own w [(some ⟨b, off, none⟩, mcells A ++ c ++ mcells B)]) (hc : c.length = 14) (hA : A.length = k) (hi : i < 14) : w.cell? ⟨b, off + (k * 14 + i), none⟩ = some (c[i]'(by omega)) := by
  have hl := mcells_len A
  rcases h.one with h' | ⟨b', off', e, h'⟩
  · have : (mcells A ++ c ++ mcells B).length = 0 := by rw [h']; rfl
    simp [hc] at this
  · injection e with e
    injection e with e1 e2 _
    subst e1 e2
    have hj : k * 14 + i < (mcells A ++ c ++ mcells B).length := by simp [hl, hc, hA]; omega
    rw [h' (k * 14 + i) hj]
    congr 1
    rw [List.getElem_append_left (by simp [hl, hc, hA]; omega), List.getElem_append_right (by rw [hl, hA]; omega)]
    simp [hl, hA]
theorem row_ne {A B : List Ms} {c : List Value} (hc : c.length = 14) : mcells A ++ c ++ mcells B ≠ [] := fun e => by
  have : (mcells A ++ c ++ mcells B).length = 0 := by rw [e]; rfl
  simp [hc] at this
theorem row_free {w : World} {b off : Nat} {A B : List Ms} {c : List Value} (h : Own w [(some ⟨b, off, none⟩, mcells A ++ c ++ mcells B)]) (hc : c.length = 14) : ∀ o, w.frozen? ⟨b, o, none⟩ = false :=
  h.free b (by rw [fp_one, fpS_some (row_ne hc)]; simp)
theorem row_put {w : World} {b off k i : Nat} {A B : List Ms} {c : List Value} (h : Own w [(some ⟨b, off, none⟩, mcells A ++ c ++ mcells B)]) (hc : c.length = 14) (hA : A.length = k) (hi : i < 14) (v : Value) : Own (w.setCell ⟨b, off + (k * 14 + i), none⟩ v) [(some ⟨b, off, none⟩, mcells A ++ c.set i v ++ mcells B)] := by
  have hl := mcells_len A
  have h1 := own_set h (k * 14 + i) v (by simp [hl, hc, hA]; omega)
  rw [List.set_append_left _ _ (by simp [hl, hc, hA]; omega), List.set_append_right _ _ (by rw [hl, hA]; omega), hl, hA, show k * 14 + i - k * 14 = i by omega] at h1
  exact h1
theorem ms_row (A B : List Ms) (x : Ms) : mcells (A ++ x :: B) = mcells A ++ x.cells ++ mcells B := by
  rw [mcells_append, List.append_assoc]; rfl
set_option maxHeartbeats 4000000 in
theorem put8 {w : World} {b off k : Nat} {A B : List Ms} {x0 x1 x2 x3 x4 x5 x6 x7 x8 x9 x10 x11 x12 x13 : Value} (h : Own w [(some ⟨b, off, none⟩, mcells A ++ [x0, x1, x2, x3, x4, x5, x6, x7, x8, x9, x10, x11, x12, x13] ++ mcells B)]) (hA : A.length = k) (v0 v1 v2 v3 v4 v5 v6 v7 : Value) :
    (w.cell? ⟨b, off + k * 14, none⟩ = some x0 ∧ (w.setCell ⟨b, off + k * 14, none⟩ v0).cell? ⟨b, off + k * 14 + 1, none⟩ = some x1 ∧ ((w.setCell ⟨b, off + k * 14, none⟩ v0).setCell ⟨b, off + k * 14 + 1, none⟩ v1).cell? ⟨b, off + k * 14 + 1 + 1, none⟩ = some x2 ∧ (((w.setCell ⟨b, off + k * 14, none⟩ v0).setCell ⟨b, off + k * 14 + 1, none⟩ v1).setCell ⟨b, off + k * 14 + 1 + 1, none⟩ v2).cell? ⟨b, off + k * 14 + 1 + 2, none⟩ = some x3 ∧ ((((w.setCell ⟨b, off + k * 14, none⟩ v0).setCell ⟨b, off + k * 14 + 1, none⟩ v1).setCell ⟨b, off + k * 14 + 1 + 1, none⟩ v2).setCell ⟨b, off + k * 14 + 1 + 2, none⟩ v3).cell? ⟨b, off + k * 14 + 1 + 3, none⟩ = some x4 ∧ (((((w.setCell ⟨b, off + k * 14, none⟩ v0).setCell ⟨b, off + k * 14 + 1, none⟩ v1).setCell ⟨b, off + k * 14 + 1 + 1, none⟩ v2).setCell ⟨b, off + k * 14 + 1 + 2, none⟩ v3).setCell ⟨b, off + k * 14 + 1 + 3, none⟩ v4).cell? ⟨b, off + k * 14 + 1 + 4, none⟩ = some x5 ∧ ((((((w.setCell ⟨b, off + k * 14, none⟩ v0).setCell ⟨b, off + k * 14 + 1, none⟩ v1).setCell ⟨b, off + k * 14 + 1 + 1, none⟩ v2).setCell ⟨b, off + k * 14 + 1 + 2, none⟩ v3).setCell ⟨b, off + k * 14 + 1 + 3, none⟩ v4).setCell ⟨b, off + k * 14 + 1 + 4, none⟩ v5).cell? ⟨b, off + k * 14 + 1 + 5, none⟩ = some x6 ∧ (((((((w.setCell ⟨b, off + k * 14, none⟩ v0).setCell ⟨b, off + k * 14 + 1, none⟩ v1).setCell ⟨b, off + k * 14 + 1 + 1, none⟩ v2).setCell ⟨b, off + k * 14 + 1 + 2, none⟩ v3).setCell ⟨b, off + k * 14 + 1 + 3, none⟩ v4).setCell ⟨b, off + k * 14 + 1 + 4, none⟩ v5).setCell ⟨b, off + k * 14 + 1 + 5, none⟩ v6).cell? ⟨b, off + k * 14 + 1 + 6, none⟩ = some x7) ∧ (w.frozen? ⟨b, off + k * 14, none⟩ = false ∧ w.frozen? ⟨b, off + k * 14 + 1, none⟩ = false ∧ w.frozen? ⟨b, off + k * 14 + 1 + 1, none⟩ = false ∧ w.frozen? ⟨b, off + k * 14 + 1 + 2, none⟩ = false ∧ w.frozen? ⟨b, off + k * 14 + 1 + 3, none⟩ = false ∧ w.frozen? ⟨b, off + k * 14 + 1 + 4, none⟩ = false ∧ w.frozen? ⟨b, off + k * 14 + 1 + 5, none⟩ = false ∧ w.frozen? ⟨b, off + k * 14 + 1 + 6, none⟩ = false) ∧ Own ((((((((w.setCell ⟨b, off + k * 14, none⟩ v0).setCell ⟨b, off + k * 14 + 1, none⟩ v1).setCell ⟨b, off + k * 14 + 1 + 1, none⟩ v2).setCell ⟨b, off + k * 14 + 1 + 2, none⟩ v3).setCell ⟨b, off + k * 14 + 1 + 3, none⟩ v4).setCell ⟨b, off + k * 14 + 1 + 4, none⟩ v5).setCell ⟨b, off + k * 14 + 1 + 5, none⟩ v6).setCell ⟨b, off + k * 14 + 1 + 6, none⟩ v7) [(some ⟨b, off, none⟩, mcells A ++ [v0, v1, v2, v3, v4, v5, v6, v7, x8, x9, x10, x11, x12, x13] ++ mcells B)] ∧ Turn [b] w ((((((((w.setCell ⟨b, off + k * 14, none⟩ v0).setCell ⟨b, off + k * 14 + 1, none⟩ v1).setCell ⟨b, off + k * 14 + 1 + 1, none⟩ v2).setCell ⟨b, off + k * 14 + 1 + 2, none⟩ v3).setCell ⟨b, off + k * 14 + 1 + 3, none⟩ v4).setCell ⟨b, off + k * 14 + 1 + 4, none⟩ v5).setCell ⟨b, off + k * 14 + 1 + 5, none⟩ v6).setCell ⟨b, off + k * 14 + 1 + 6, none⟩ v7) := by
  have h0 := h
  have h1 : Own (w.setCell ⟨b, off + k * 14, none⟩ v0) [(some ⟨b, off, none⟩, mcells A ++ [v0, x1, x2, x3, x4, x5, x6, x7, x8, x9, x10, x11, x12, x13] ++ mcells B)] := by
    have h' := row_put h0 rfl hA (i := 0) (by decide) v0
    rw [show off + (k * 14 + 0) = off + k * 14 by omega] at h'
    exact h'
  have h2 : Own ((w.setCell ⟨b, off + k * 14, none⟩ v0).setCell ⟨b, off + k * 14 + 1, none⟩ v1) [(some ⟨b, off, none⟩, mcells A ++ [v0, v1, x2, x3, x4, x5, x6, x7, x8, x9, x10, x11, x12, x13] ++ mcells B)] := by
    have h' := row_put h1 rfl hA (i := 1) (by decide) v1
    rw [show off + (k * 14 + 1) = off + k * 14 + 1 by omega] at h'
    exact h'
  have h3 : Own (((w.setCell ⟨b, off + k * 14, none⟩ v0).setCell ⟨b, off + k * 14 + 1, none⟩ v1).setCell ⟨b, off + k * 14 + 1 + 1, none⟩ v2) [(some ⟨b, off, none⟩, mcells A ++ [v0, v1, v2, x3, x4, x5, x6, x7, x8, x9, x10, x11, x12, x13] ++ mcells B)] := by
    have h' := row_put h2 rfl hA (i := 2) (by decide) v2
    rw [show off + (k * 14 + 2) = off + k * 14 + 1 + 1 by omega] at h'
    exact h'
  have h4 : Own ((((w.setCell ⟨b, off + k * 14, none⟩ v0).setCell ⟨b, off + k * 14 + 1, none⟩ v1).setCell ⟨b, off + k * 14 + 1 + 1, none⟩ v2).setCell ⟨b, off + k * 14 + 1 + 2, none⟩ v3) [(some ⟨b, off, none⟩, mcells A ++ [v0, v1, v2, v3, x4, x5, x6, x7, x8, x9, x10, x11, x12, x13] ++ mcells B)] := by
    have h' := row_put h3 rfl hA (i := 3) (by decide) v3
    rw [show off + (k * 14 + 3) = off + k * 14 + 1 + 2 by omega] at h'
    exact h'
  have h5 : Own (((((w.setCell ⟨b, off + k * 14, none⟩ v0).setCell ⟨b, off + k * 14 + 1, none⟩ v1).setCell ⟨b, off + k * 14 + 1 + 1, none⟩ v2).setCell ⟨b, off + k * 14 + 1 + 2, none⟩ v3).setCell ⟨b, off + k * 14 + 1 + 3, none⟩ v4) [(some ⟨b, off, none⟩, mcells A ++ [v0, v1, v2, v3, v4, x5, x6, x7, x8, x9, x10, x11, x12, x13] ++ mcells B)] := by
    have h' := row_put h4 rfl hA (i := 4) (by decide) v4
    rw [show off + (k * 14 + 4) = off + k * 14 + 1 + 3 by omega] at h'
    exact h'
  have h6 : Own ((((((w.setCell ⟨b, off + k * 14, none⟩ v0).setCell ⟨b, off + k * 14 + 1, none⟩ v1).setCell ⟨b, off + k * 14 + 1 + 1, none⟩ v2).setCell ⟨b, off + k * 14 + 1 + 2, none⟩ v3).setCell ⟨b, off + k * 14 + 1 + 3, none⟩ v4).setCell ⟨b, off + k * 14 + 1 + 4, none⟩ v5) [(some ⟨b, off, none⟩, mcells A ++ [v0, v1, v2, v3, v4, v5, x6, x7, x8, x9, x10, x11, x12, x13] ++ mcells B)] := by
    have h' := row_put h5 rfl hA (i := 5) (by decide) v5
    rw [show off + (k * 14 + 5) = off + k * 14 + 1 + 4 by omega] at h'
    exact h'
  have h7 : Own (((((((w.setCell ⟨b, off + k * 14, none⟩ v0).setCell ⟨b, off + k * 14 + 1, none⟩ v1).setCell ⟨b, off + k * 14 + 1 + 1, none⟩ v2).setCell ⟨b, off + k * 14 + 1 + 2, none⟩ v3).setCell ⟨b, off + k * 14 + 1 + 3, none⟩ v4).setCell ⟨b, off + k * 14 + 1 + 4, none⟩ v5).setCell ⟨b, off + k * 14 + 1 + 5, none⟩ v6) [(some ⟨b, off, none⟩, mcells A ++ [v0, v1, v2, v3, v4, v5, v6, x7, x8, x9, x10, x11, x12, x13] ++ mcells B)] := by
    have h' := row_put h6 rfl hA (i := 6) (by decide) v6
    rw [show off + (k * 14 + 6) = off + k * 14 + 1 + 5 by omega] at h'
    exact h'
  have h8 : Own ((((((((w.setCell ⟨b, off + k * 14, none⟩ v0).setCell ⟨b, off + k * 14 + 1, none⟩ v1).setCell ⟨b, off + k * 14 + 1 + 1, none⟩ v2).setCell ⟨b, off + k * 14 + 1 + 2, none⟩ v3).setCell ⟨b, off + k * 14 + 1 + 3, none⟩ v4).setCell ⟨b, off + k * 14 + 1 + 4, none⟩ v5).setCell ⟨b, off + k * 14 + 1 + 5, none⟩ v6).setCell ⟨b, off + k * 14 + 1 + 6, none⟩ v7) [(some ⟨b, off, none⟩, mcells A ++ [v0, v1, v2, v3, v4, v5, v6, v7, x8, x9, x10, x11, x12, x13] ++ mcells B)] := by
    have h' := row_put h7 rfl hA (i := 7) (by decide) v7
    rw [show off + (k * 14 + 7) = off + k * 14 + 1 + 6 by omega] at h'
    exact h'
  have c0 := row_get h0 rfl hA (i := 0) (by decide)
  rw [show off + (k * 14 + 0) = off + k * 14 by omega] at c0
  have c1 := row_get h1 rfl hA (i := 1) (by decide)
  rw [show off + (k * 14 + 1) = off + k * 14 + 1 by omega] at c1
  have c2 := row_get h2 rfl hA (i := 2) (by decide)
  rw [show off + (k * 14 + 2) = off + k * 14 + 1 + 1 by omega] at c2
  have c3 := row_get h3 rfl hA (i := 3) (by decide)
  rw [show off + (k * 14 + 3) = off + k * 14 + 1 + 2 by omega] at c3
  have c4 := row_get h4 rfl hA (i := 4) (by decide)
  rw [show off + (k * 14 + 4) = off + k * 14 + 1 + 3 by omega] at c4
  have c5 := row_get h5 rfl hA (i := 5) (by decide)
  rw [show off + (k * 14 + 5) = off + k * 14 + 1 + 4 by omega] at c5
  have c6 := row_get h6 rfl hA (i := 6) (by decide)
  rw [show off + (k * 14 + 6) = off + k * 14 + 1 + 5 by omega] at c6
  have c7 := row_get h7 rfl hA (i := 7) (by decide)
  rw [show off + (k * 14 + 7) = off + k * 14 + 1 + 6 by omega] at c7
  have f : ∀ o, w.frozen? ⟨b, o, none⟩ = false := row_free h rfl
  exact ⟨⟨c0, c1, c2, c3, c4, c5, c6, c7⟩, ⟨f _, f _, f _, f _, f _, f _, f _, f _⟩, h8, (((((((Turn.set (by simp) _).trans' (Turn.set (by simp) _)).trans' (Turn.set (by simp) _)).trans' (Turn.set (by simp) _)).trans' (Turn.set (by simp) _)).trans' (Turn.set (by simp) _)).trans' (Turn.set (by simp) _)).trans' (Turn.set (by simp) _)⟩
set_option maxHeartbeats 4000000 in
theorem put5 {w : World} {b off k : Nat} {A B : List Ms} {x0 x1 x2 x3 x4 x5 x6 x7 x8 x9 x10 x11 x12 x13 : Value} (h : Own w [(some ⟨b, off, none⟩, mcells A ++ [x0, x1, x2, x3, x4, x5, x6, x7, x8, x9, x10, x11, x12, x13] ++ mcells B)]) (hA : A.length = k) (v9 v10 v11 v12 v13 : Value) :
    (w.cell? ⟨b, off + k * 14 + 9, none⟩ = some x9 ∧ (w.setCell ⟨b, off + k * 14 + 9, none⟩ v9).cell? ⟨b, off + k * 14 + 9 + 1, none⟩ = some x10 ∧ ((w.setCell ⟨b, off + k * 14 + 9, none⟩ v9).setCell ⟨b, off + k * 14 + 9 + 1, none⟩ v10).cell? ⟨b, off + k * 14 + 9 + 2, none⟩ = some x11 ∧ (((w.setCell ⟨b, off + k * 14 + 9, none⟩ v9).setCell ⟨b, off + k * 14 + 9 + 1, none⟩ v10).setCell ⟨b, off + k * 14 + 9 + 2, none⟩ v11).cell? ⟨b, off + k * 14 + 9 + 3, none⟩ = some x12 ∧ ((((w.setCell ⟨b, off + k * 14 + 9, none⟩ v9).setCell ⟨b, off + k * 14 + 9 + 1, none⟩ v10).setCell ⟨b, off + k * 14 + 9 + 2, none⟩ v11).setCell ⟨b, off + k * 14 + 9 + 3, none⟩ v12).cell? ⟨b, off + k * 14 + 9 + 4, none⟩ = some x13) ∧ (w.frozen? ⟨b, off + k * 14 + 9, none⟩ = false ∧ w.frozen? ⟨b, off + k * 14 + 9 + 1, none⟩ = false ∧ w.frozen? ⟨b, off + k * 14 + 9 + 2, none⟩ = false ∧ w.frozen? ⟨b, off + k * 14 + 9 + 3, none⟩ = false ∧ w.frozen? ⟨b, off + k * 14 + 9 + 4, none⟩ = false) ∧ Own (((((w.setCell ⟨b, off + k * 14 + 9, none⟩ v9).setCell ⟨b, off + k * 14 + 9 + 1, none⟩ v10).setCell ⟨b, off + k * 14 + 9 + 2, none⟩ v11).setCell ⟨b, off + k * 14 + 9 + 3, none⟩ v12).setCell ⟨b, off + k * 14 + 9 + 4, none⟩ v13) [(some ⟨b, off, none⟩, mcells A ++ [x0, x1, x2, x3, x4, x5, x6, x7, x8, v9, v10, v11, v12, v13] ++ mcells B)] ∧ Turn [b] w (((((w.setCell ⟨b, off + k * 14 + 9, none⟩ v9).setCell ⟨b, off + k * 14 + 9 + 1, none⟩ v10).setCell ⟨b, off + k * 14 + 9 + 2, none⟩ v11).setCell ⟨b, off + k * 14 + 9 + 3, none⟩ v12).setCell ⟨b, off + k * 14 + 9 + 4, none⟩ v13) := by
  have h9 := h
  have h10 : Own (w.setCell ⟨b, off + k * 14 + 9, none⟩ v9) [(some ⟨b, off, none⟩, mcells A ++ [x0, x1, x2, x3, x4, x5, x6, x7, x8, v9, x10, x11, x12, x13] ++ mcells B)] := by
    have h' := row_put h9 rfl hA (i := 9) (by decide) v9
    rw [show off + (k * 14 + 9) = off + k * 14 + 9 by omega] at h'
    exact h'
  have h11 : Own ((w.setCell ⟨b, off + k * 14 + 9, none⟩ v9).setCell ⟨b, off + k * 14 + 9 + 1, none⟩ v10) [(some ⟨b, off, none⟩, mcells A ++ [x0, x1, x2, x3, x4, x5, x6, x7, x8, v9, v10, x11, x12, x13] ++ mcells B)] := by
    have h' := row_put h10 rfl hA (i := 10) (by decide) v10
    rw [show off + (k * 14 + 10) = off + k * 14 + 9 + 1 by omega] at h'
    exact h'
  have h12 : Own (((w.setCell ⟨b, off + k * 14 + 9, none⟩ v9).setCell ⟨b, off + k * 14 + 9 + 1, none⟩ v10).setCell ⟨b, off + k * 14 + 9 + 2, none⟩ v11) [(some ⟨b, off, none⟩, mcells A ++ [x0, x1, x2, x3, x4, x5, x6, x7, x8, v9, v10, v11, x12, x13] ++ mcells B)] := by
    have h' := row_put h11 rfl hA (i := 11) (by decide) v11
    rw [show off + (k * 14 + 11) = off + k * 14 + 9 + 2 by omega] at h'
    exact h'
  have h13 : Own ((((w.setCell ⟨b, off + k * 14 + 9, none⟩ v9).setCell ⟨b, off + k * 14 + 9 + 1, none⟩ v10).setCell ⟨b, off + k * 14 + 9 + 2, none⟩ v11).setCell ⟨b, off + k * 14 + 9 + 3, none⟩ v12) [(some ⟨b, off, none⟩, mcells A ++ [x0, x1, x2, x3, x4, x5, x6, x7, x8, v9, v10, v11, v12, x13] ++ mcells B)] := by
    have h' := row_put h12 rfl hA (i := 12) (by decide) v12
    rw [show off + (k * 14 + 12) = off + k * 14 + 9 + 3 by omega] at h'
    exact h'
  have h14 : Own (((((w.setCell ⟨b, off + k * 14 + 9, none⟩ v9).setCell ⟨b, off + k * 14 + 9 + 1, none⟩ v10).setCell ⟨b, off + k * 14 + 9 + 2, none⟩ v11).setCell ⟨b, off + k * 14 + 9 + 3, none⟩ v12).setCell ⟨b, off + k * 14 + 9 + 4, none⟩ v13) [(some ⟨b, off, none⟩, mcells A ++ [x0, x1, x2, x3, x4, x5, x6, x7, x8, v9, v10, v11, v12, v13] ++ mcells B)] := by
    have h' := row_put h13 rfl hA (i := 13) (by decide) v13
    rw [show off + (k * 14 + 13) = off + k * 14 + 9 + 4 by omega] at h'
    exact h'
  have c9 := row_get h9 rfl hA (i := 9) (by decide)
  rw [show off + (k * 14 + 9) = off + k * 14 + 9 by omega] at c9
  have c10 := row_get h10 rfl hA (i := 10) (by decide)
  rw [show off + (k * 14 + 10) = off + k * 14 + 9 + 1 by omega] at c10
  have c11 := row_get h11 rfl hA (i := 11) (by decide)
  rw [show off + (k * 14 + 11) = off + k * 14 + 9 + 2 by omega] at c11
  have c12 := row_get h12 rfl hA (i := 12) (by decide)
  rw [show off + (k * 14 + 12) = off + k * 14 + 9 + 3 by omega] at c12
  have c13 := row_get h13 rfl hA (i := 13) (by decide)
  rw [show off + (k * 14 + 13) = off + k * 14 + 9 + 4 by omega] at c13
  have f : ∀ o, w.frozen? ⟨b, o, none⟩ = false := row_free h rfl
  exact ⟨⟨c9, c10, c11, c12, c13⟩, ⟨f _, f _, f _, f _, f _⟩, h14, ((((Turn.set (by simp) _).trans' (Turn.set (by simp) _)).trans' (Turn.set (by simp) _)).trans' (Turn.set (by simp) _)).trans' (Turn.set (by simp) _)⟩
def totM (ds : List Ms) : Nat := (ds.map fun x => x.D.ks.length).sum
theorem totM_take (ds : List Ms) (k : Nat) (h : k < ds.length) : totM (ds.take (k + 1)) = totM (ds.take k) + ds[k].D.ks.length := by
  rw [List.take_succ_eq_append_getElem h]
  simp only [totM, List.map_append, List.sum_append, List.map_cons, List.map_nil, List.sum_cons, List.sum_nil, Nat.add_zero]
theorem totM_le : ∀ (ds : List Ms), (∀ x ∈ ds, x.D.ks.length ≤ 1048576) → totM ds ≤ 1048576 * ds.length
  | [], _ => by simp [totM]
  | x :: t, h => by
    have h1 := totM_le t (fun y hy => h y (List.mem_cons_of_mem _ hy))
    have h2 := h x (List.mem_cons_self ..)
    simp only [totM, List.map_cons, List.sum_cons, List.length_cons] at h1 ⊢
    omega
/-- One with marks from z on. -/
def markMs (z : Nat) (x : Ms) : Ms := ⟨⟨(z : Int), ⟨(z : Int) + 1, (z : Int) + 1 + 1, (z : Int) + 1 + 1 + 1, (z : Int) + 1 + 1 + 1 + 1, (z : Int) + 1 + 1 + 1 + 1 + 1, (z : Int) + 1 + 1 + 1 + 1 + 1 + 1, decide ((z + 1 + 1 + 1 + 1 + 1 + 1 + 1) % 3 = 0)⟩, marksI (z + 8) x.D.ks.length, ⟨((z + 8 + x.D.ks.length : Nat) : Int), ((z + 8 + x.D.ks.length : Nat) : Int) + 1, ((z + 8 + x.D.ks.length : Nat) : Int) + 1 + 1, ((z + 8 + x.D.ks.length : Nat) : Int) + 1 + 1 + 1, ((z + 8 + x.D.ks.length : Nat) : Int) + 1 + 1 + 1 + 1⟩⟩, x.a, x.c⟩
def markM : Nat → List Ms → List Ms
  | _, [] => []
  | n, x :: t => markMs n x :: markM (n + 13 + x.D.ks.length) t
theorem markM_len : ∀ (n : Nat) (ds : List Ms), (markM n ds).length = ds.length
  | _, [] => rfl
  | n, x :: t => by simp [markM, markM_len _ t]
theorem markM_snoc : ∀ (n : Nat) (A : List Ms) (x : Ms), markM n (A ++ [x]) = markM n A ++ [markMs (n + 13 * A.length + totM A) x]
  | n, [], x => by simp [markM, totM]
  | n, y :: t, x => by
    have := markM_snoc (n + 13 + y.D.ks.length) t x
    rw [show n + 13 + y.D.ks.length + 13 * t.length + totM t = n + 13 * (y :: t).length + totM (y :: t) by simp [totM]; omega] at this
    simp only [List.cons_append, markM, this]
theorem markM_at : ∀ (ds : List Ms) (n k : Nat) (h : k < ds.length), (markM n ds)[k]'(by rw [markM_len]; exact h) = markMs (n + 13 * k + totM (ds.take k)) ds[k]
  | [], _, _, h => absurd h (by simp)
  | x :: t, n, 0, _ => by simp [markM, totM]
  | x :: t, n, k + 1, h => by
    have h' : k < t.length := by simpa using h
    have e : n + 13 + x.D.ks.length + 13 * k + totM (t.take k) = n + 13 * (k + 1) + totM ((x :: t).take (k + 1)) := by simp [totM]; omega
    have := markM_at t (n + 13 + x.D.ks.length) k h'
    rw [e] at this
    simpa [markM] using this
set_option maxHeartbeats 32000000 in
theorem markStepS_k (a : Option Addr) (cap : Nat) (ds : List Ms) (n : Nat) (w : World) (h : Own w ((a, mcells ds) :: ds.map Ms.seg)) (hl : ds.length ≤ 400) (hx : ∀ x ∈ ds, x.D.ks.length ≤ 1048576) (hn : n ≤ 1000) :
    Calls Tryz.prog 11 #[.slice a ds.length cap, .int .i64 (n : Int)] w fun e w' => e = .returned (.int .i64 ((n + 13 * ds.length + totM ds : Nat) : Int)) ∧ Own w' ((a, mcells (markM n ds)) :: (markM n ds).map Ms.seg) ∧ Turn (fp ((a, mcells ds) :: ds.map Ms.seg)) w w' := by
  have HO := hide h
  have HX := hide hx
  have HTL := hide (totM_le ds hx)
  clear h hx
  go_enter Tryz.func11, Tryz.ntmps11
  go_wp2_with fail
  go_loopw [1, 5] (fun x y wr => ∃ (k z : Nat), k ≤ ds.length ∧ Hid (n + 13 * k + totM (ds.take k) = z) ∧ x = .int .i64 (z : Int) ∧ y = .int .i64 (k : Int) ∧ Hid (Own wr ((a, mcells (markM n (ds.take k) ++ ds.drop k)) :: (markM n (ds.take k) ++ ds.drop k).map Ms.seg)) ∧ Hid (fp ((a, mcells (markM n (ds.take k) ++ ds.drop k)) :: (markM n (ds.take k) ++ ds.drop k).map Ms.seg) = fp ((a, mcells ds) :: ds.map Ms.seg)) ∧ Hid (Turn (fp ((a, mcells ds) :: ds.map Ms.seg)) w wr)) (fun _ y _ => ds.length - (intOf y).toNat)
  case atStart => exact ⟨0, n, by omega, by show _ = _; simp [totM], rfl, rfl, by show Own _ _; simpa [markM] using HO.out, by show _ = _; simp [markM], Turn.refl _ _⟩
  case round =>
    obtain ⟨k, z, hk, HZ, rfl, rfl, HOr, HF, HT⟩ := hrel
    by_cases hlt : k < ds.length
    · have hz : z ≤ 900000000 := by
        have h1 := HZ.out
        have h2 := totM_le (ds.take k) (fun x hx => HX.out x (List.mem_of_mem_take hx))
        rw [List.length_take] at h2
        omega
      have hxk := HX.out _ (List.getElem_mem hlt)
      have HZn : Hid (n + 13 * (k + 1) + totM (ds.take (k + 1)) = z + 13 + ds[k].D.ks.length) := by show _ = _; rw [totM_take ds k hlt]; have := HZ.out; omega
      have HDr : Hid (ds.drop k = ds[k] :: ds.drop (k + 1)) := List.drop_eq_getElem_cons hlt
      have HTk : Hid (markM n (ds.take (k + 1)) ++ ds.drop (k + 1) = markM n (ds.take k) ++ markMs z ds[k] :: ds.drop (k + 1)) := by
        show _ = _
        rw [List.take_succ_eq_append_getElem hlt, markM_snoc, List.append_assoc, show (ds.take k).length = k by simp; omega, HZ.out]; rfl
      have HLA : Hid ((markM n (ds.take k)).length = k) := by show _ = _; rw [markM_len]; simp; omega
      rw [HDr.out] at HOr HF
      generalize ds[k] = c at *
      obtain ⟨⟨xk, ⟨ek, ey, ec, et, em, ef, eb⟩, xks, ⟨rlo, rhi, rst, rmi, rma⟩⟩, xa, xc⟩ := c
      dsimp only at HZn hxk
      generalize markM n (ds.take k) = A at *
      generalize hB : ds.drop (k + 1) = B at HTk HDr HOr HF
      have HBB := hide hB
      clear hB HZ
      have hcl : Cells wr a (mcells (A ++ (Ms.mk ⟨xk, ⟨ek, ey, ec, et, em, ef, eb⟩, xks, ⟨rlo, rhi, rst, rmi, rma⟩⟩ xa xc) :: B)) := HOr.out.mem (a, mcells (A ++ (Ms.mk ⟨xk, ⟨ek, ey, ec, et, em, ef, eb⟩, xks, ⟨rlo, rhi, rst, rmi, rma⟩⟩ xa xc) :: B)) (by simp)
      have hkl : k < (A ++ (Ms.mk ⟨xk, ⟨ek, ey, ec, et, em, ef, eb⟩, xks, ⟨rlo, rhi, rst, rmi, rma⟩⟩ xa xc) :: B).length := by have := HLA.out; simp; omega
      obtain ⟨b, off, ea, _⟩ := ms_at hcl k hkl
      subst ea
      have HOo : Hid (Own wr [(some (⟨b, off, none⟩ : Addr), mcells A ++ [.int .i64 xk, .int .i64 ek, .int .i64 ey, .int .i64 ec, .int .i64 et, .int .i64 em, .int .i64 ef, .bool eb, .slice xa xks.length xc, .int .i64 rlo, .int .i64 rhi, .int .i64 rst, .int .i64 rmi, .int .i64 rma] ++ mcells B)]) := by
        have h2 := Own.left (S := [_]) (T := (A ++ (Ms.mk ⟨xk, ⟨ek, ey, ec, et, em, ef, eb⟩, xks, ⟨rlo, rhi, rst, rmi, rma⟩⟩ xa xc) :: B).map Ms.seg) HOr.out
        rw [ms_row] at h2
        exact h2
      obtain ⟨⟨c0, c1, c2, c3, c4, c5, c6, c7⟩, ⟨z0, z1, z2, z3, z4, z5, z6, z7⟩, ho8, ht8⟩ := put8 HOo.out HLA.out (.int .i64 ((z : Int))) (.int .i64 ((z : Int) + 1)) (.int .i64 ((z : Int) + 1 + 1)) (.int .i64 ((z : Int) + 1 + 1 + 1)) (.int .i64 ((z : Int) + 1 + 1 + 1 + 1)) (.int .i64 ((z : Int) + 1 + 1 + 1 + 1 + 1)) (.int .i64 ((z : Int) + 1 + 1 + 1 + 1 + 1 + 1)) (.bool (decide ((z + 1 + 1 + 1 + 1 + 1 + 1 + 1) % 3 = 0)))
      have HR8 : Hid (Own ((((((((wr.setCell ⟨b, off + k * 14, none⟩ (.int .i64 ((z : Int)))).setCell ⟨b, off + k * 14 + 1, none⟩ (.int .i64 ((z : Int) + 1))).setCell ⟨b, off + k * 14 + 1 + 1, none⟩ (.int .i64 ((z : Int) + 1 + 1))).setCell ⟨b, off + k * 14 + 1 + 2, none⟩ (.int .i64 ((z : Int) + 1 + 1 + 1))).setCell ⟨b, off + k * 14 + 1 + 3, none⟩ (.int .i64 ((z : Int) + 1 + 1 + 1 + 1))).setCell ⟨b, off + k * 14 + 1 + 4, none⟩ (.int .i64 ((z : Int) + 1 + 1 + 1 + 1 + 1))).setCell ⟨b, off + k * 14 + 1 + 5, none⟩ (.int .i64 ((z : Int) + 1 + 1 + 1 + 1 + 1 + 1))).setCell ⟨b, off + k * 14 + 1 + 6, none⟩ (.bool (decide ((z + 1 + 1 + 1 + 1 + 1 + 1 + 1) % 3 = 0)))) [(some (⟨b, off, none⟩ : Addr), mcells (A ++ (Ms.mk ⟨(z : Int), ⟨(z : Int) + 1, (z : Int) + 1 + 1, (z : Int) + 1 + 1 + 1, (z : Int) + 1 + 1 + 1 + 1, (z : Int) + 1 + 1 + 1 + 1 + 1, (z : Int) + 1 + 1 + 1 + 1 + 1 + 1, decide ((z + 1 + 1 + 1 + 1 + 1 + 1 + 1) % 3 = 0)⟩, xks, ⟨rlo, rhi, rst, rmi, rma⟩⟩ xa xc) :: B))]) := by show Own _ _; rw [ms_row]; exact ho8
      have hfs : fpS (some (⟨b, off, none⟩ : Addr), mcells (A ++ (Ms.mk ⟨(z : Int), ⟨(z : Int) + 1, (z : Int) + 1 + 1, (z : Int) + 1 + 1 + 1, (z : Int) + 1 + 1 + 1 + 1, (z : Int) + 1 + 1 + 1 + 1 + 1, (z : Int) + 1 + 1 + 1 + 1 + 1 + 1, decide ((z + 1 + 1 + 1 + 1 + 1 + 1 + 1) % 3 = 0)⟩, xks, ⟨rlo, rhi, rst, rmi, rma⟩⟩ xa xc) :: B)) = fpS (some (⟨b, off, none⟩ : Addr), mcells (A ++ (Ms.mk ⟨xk, ⟨ek, ey, ec, et, em, ef, eb⟩, xks, ⟨rlo, rhi, rst, rmi, rma⟩⟩ xa xc) :: B)) := fpS_len (by simp [mcells_len])
      have hfb : fpS (some (⟨b, off, none⟩ : Addr), mcells (A ++ (Ms.mk ⟨xk, ⟨ek, ey, ec, et, em, ef, eb⟩, xks, ⟨rlo, rhi, rst, rmi, rma⟩⟩ xa xc) :: B)) = [b] := fpS_some (by rw [ms_row]; exact row_ne rfl)
      have HFB := hide hfb
      have HO8 : Hid (Own ((((((((wr.setCell ⟨b, off + k * 14, none⟩ (.int .i64 ((z : Int)))).setCell ⟨b, off + k * 14 + 1, none⟩ (.int .i64 ((z : Int) + 1))).setCell ⟨b, off + k * 14 + 1 + 1, none⟩ (.int .i64 ((z : Int) + 1 + 1))).setCell ⟨b, off + k * 14 + 1 + 2, none⟩ (.int .i64 ((z : Int) + 1 + 1 + 1))).setCell ⟨b, off + k * 14 + 1 + 3, none⟩ (.int .i64 ((z : Int) + 1 + 1 + 1 + 1))).setCell ⟨b, off + k * 14 + 1 + 4, none⟩ (.int .i64 ((z : Int) + 1 + 1 + 1 + 1 + 1))).setCell ⟨b, off + k * 14 + 1 + 5, none⟩ (.int .i64 ((z : Int) + 1 + 1 + 1 + 1 + 1 + 1))).setCell ⟨b, off + k * 14 + 1 + 6, none⟩ (.bool (decide ((z + 1 + 1 + 1 + 1 + 1 + 1 + 1) % 3 = 0)))) ((some ⟨b, off, none⟩, mcells (A ++ (Ms.mk ⟨(z : Int), ⟨(z : Int) + 1, (z : Int) + 1 + 1, (z : Int) + 1 + 1 + 1, (z : Int) + 1 + 1 + 1 + 1, (z : Int) + 1 + 1 + 1 + 1 + 1, (z : Int) + 1 + 1 + 1 + 1 + 1 + 1, decide ((z + 1 + 1 + 1 + 1 + 1 + 1 + 1) % 3 = 0)⟩, xks, ⟨rlo, rhi, rst, rmi, rma⟩⟩ xa xc) :: B)) :: (A ++ (Ms.mk ⟨xk, ⟨ek, ey, ec, et, em, ef, eb⟩, xks, ⟨rlo, rhi, rst, rmi, rma⟩⟩ xa xc) :: B).map Ms.seg)) :=
        Own.upd (A := []) HOr.out HR8.out hfs (by rw [fp_one, hfb]; exact ht8)
      have HT8 : Hid (Turn (fp ((some (⟨b, off, none⟩ : Addr), mcells ds) :: ds.map Ms.seg)) w ((((((((wr.setCell ⟨b, off + k * 14, none⟩ (.int .i64 ((z : Int)))).setCell ⟨b, off + k * 14 + 1, none⟩ (.int .i64 ((z : Int) + 1))).setCell ⟨b, off + k * 14 + 1 + 1, none⟩ (.int .i64 ((z : Int) + 1 + 1))).setCell ⟨b, off + k * 14 + 1 + 2, none⟩ (.int .i64 ((z : Int) + 1 + 1 + 1))).setCell ⟨b, off + k * 14 + 1 + 3, none⟩ (.int .i64 ((z : Int) + 1 + 1 + 1 + 1))).setCell ⟨b, off + k * 14 + 1 + 4, none⟩ (.int .i64 ((z : Int) + 1 + 1 + 1 + 1 + 1))).setCell ⟨b, off + k * 14 + 1 + 5, none⟩ (.int .i64 ((z : Int) + 1 + 1 + 1 + 1 + 1 + 1))).setCell ⟨b, off + k * 14 + 1 + 6, none⟩ (.bool (decide ((z + 1 + 1 + 1 + 1 + 1 + 1 + 1) % 3 = 0))))) :=
        HT.out.trans' (ht8.mono (fun x hx => by rw [← HF.out, fp_cons, hfb]; exact List.mem_append_left _ hx))
      have HF8 : Hid (fp ((some (⟨b, off, none⟩ : Addr), mcells (A ++ (Ms.mk ⟨(z : Int), ⟨(z : Int) + 1, (z : Int) + 1 + 1, (z : Int) + 1 + 1 + 1, (z : Int) + 1 + 1 + 1 + 1, (z : Int) + 1 + 1 + 1 + 1 + 1, (z : Int) + 1 + 1 + 1 + 1 + 1 + 1, decide ((z + 1 + 1 + 1 + 1 + 1 + 1 + 1) % 3 = 0)⟩, xks, ⟨rlo, rhi, rst, rmi, rma⟩⟩ xa xc) :: B)) :: (A ++ (Ms.mk ⟨xk, ⟨ek, ey, ec, et, em, ef, eb⟩, xks, ⟨rlo, rhi, rst, rmi, rma⟩⟩ xa xc) :: B).map Ms.seg) = fp ((some (⟨b, off, none⟩ : Addr), mcells ds) :: ds.map Ms.seg)) := by
        show _ = _
        rw [← HF.out, fp_cons, fp_cons, hfs]
      have c8 := row_get ho8 rfl HLA.out (i := 8) (by decide)
      rw [show off + (k * 14 + 8) = off + k * 14 + 8 by omega] at c8
      dsimp only [List.getElem_cons_succ, List.getElem_cons_zero] at c8
      have hm3 : (((z : Int) + 1 + 1 + 1 + 1 + 1 + 1 + 1) % 3 == 0) = decide ((z + 1 + 1 + 1 + 1 + 1 + 1 + 1) % 3 = 0) := by
        by_cases h3 : (z + 1 + 1 + 1 + 1 + 1 + 1 + 1) % 3 = 0
        · rw [decide_eq_true h3]; simp; omega
        · rw [decide_eq_false h3]; simp; omega
      have HE8 : Hid (((z + 8 : Nat) : Int) = (z : Int) + 1 + 1 + 1 + 1 + 1 + 1 + 1 + 1) := by show _ = _; omega
      clear HOo HOr HF HT HR8 hcl hfs ht8 ho8 hfb
      go_wp2_with fail
      generalize ((((((((wr.setCell ⟨b, off + k * 14, none⟩ (.int .i64 ((z : Int)))).setCell ⟨b, off + k * 14 + 1, none⟩ (.int .i64 ((z : Int) + 1))).setCell ⟨b, off + k * 14 + 1 + 1, none⟩ (.int .i64 ((z : Int) + 1 + 1))).setCell ⟨b, off + k * 14 + 1 + 2, none⟩ (.int .i64 ((z : Int) + 1 + 1 + 1))).setCell ⟨b, off + k * 14 + 1 + 3, none⟩ (.int .i64 ((z : Int) + 1 + 1 + 1 + 1))).setCell ⟨b, off + k * 14 + 1 + 4, none⟩ (.int .i64 ((z : Int) + 1 + 1 + 1 + 1 + 1))).setCell ⟨b, off + k * 14 + 1 + 5, none⟩ (.int .i64 ((z : Int) + 1 + 1 + 1 + 1 + 1 + 1))).setCell ⟨b, off + k * 14 + 1 + 6, none⟩ (.bool (decide ((z + 1 + 1 + 1 + 1 + 1 + 1 + 1) % 3 = 0)))) = W1 at *
      have HD : Hid ((some (⟨b, off, none⟩ : Addr), mcells (A ++ (Ms.mk ⟨(z : Int), ⟨(z : Int) + 1, (z : Int) + 1 + 1, (z : Int) + 1 + 1 + 1, (z : Int) + 1 + 1 + 1 + 1, (z : Int) + 1 + 1 + 1 + 1 + 1, (z : Int) + 1 + 1 + 1 + 1 + 1 + 1, decide ((z + 1 + 1 + 1 + 1 + 1 + 1 + 1) % 3 = 0)⟩, xks, ⟨rlo, rhi, rst, rmi, rma⟩⟩ xa xc) :: B)) :: (A ++ (Ms.mk ⟨xk, ⟨ek, ey, ec, et, em, ef, eb⟩, xks, ⟨rlo, rhi, rst, rmi, rma⟩⟩ xa xc) :: B).map Ms.seg = ((some ⟨b, off, none⟩, mcells (A ++ (Ms.mk ⟨(z : Int), ⟨(z : Int) + 1, (z : Int) + 1 + 1, (z : Int) + 1 + 1 + 1, (z : Int) + 1 + 1 + 1 + 1, (z : Int) + 1 + 1 + 1 + 1 + 1, (z : Int) + 1 + 1 + 1 + 1 + 1 + 1, decide ((z + 1 + 1 + 1 + 1 + 1 + 1 + 1) % 3 = 0)⟩, xks, ⟨rlo, rhi, rst, rmi, rma⟩⟩ xa xc) :: B)) :: A.map Ms.seg) ++ (xa, its xks) :: B.map Ms.seg) := by
        show _ = _
        rw [List.map_append, List.map_cons, List.cons_append]; rfl
      have HOk : Hid (Own W1 [(xa, its xks)]) := by
        have h2 := HO8.out
        rw [HD.out] at h2
        exact Own.left (S := [_]) (T := B.map Ms.seg) h2.right
      have HMk := hide (markIntS_k xa xc xks (z + 8) W1 HOk.out hxk (by omega))
      rw [HE8.out] at HMk
      refine (unhide HMk).mono ?_
      rintro e w1 ⟨rfl, ho1, ht1⟩
      have HFS : Hid (fpS (xa, its (marksI (z + 8) xks.length)) = fpS (xa, its xks)) := fpS_len (by simp [its_length, marksI_len])
      have HO1 : Hid (Own w1 (((some ⟨b, off, none⟩, mcells (A ++ (Ms.mk ⟨(z : Int), ⟨(z : Int) + 1, (z : Int) + 1 + 1, (z : Int) + 1 + 1 + 1, (z : Int) + 1 + 1 + 1 + 1, (z : Int) + 1 + 1 + 1 + 1 + 1, (z : Int) + 1 + 1 + 1 + 1 + 1 + 1, decide ((z + 1 + 1 + 1 + 1 + 1 + 1 + 1) % 3 = 0)⟩, xks, ⟨rlo, rhi, rst, rmi, rma⟩⟩ xa xc) :: B)) :: A.map Ms.seg) ++ (xa, its (marksI (z + 8) xks.length)) :: B.map Ms.seg)) := by
        have h2 := HO8.out
        rw [HD.out] at h2
        exact h2.upd ho1 HFS.out ht1
      have HT1 : Hid (Turn (fp ((some (⟨b, off, none⟩ : Addr), mcells ds) :: ds.map Ms.seg)) w w1) := HT8.out.trans' (ht1.mono (fun x hx => by
        rw [← HF8.out, HD.out, fp_append, fp_cons]
        exact List.mem_append_right _ (List.mem_append_left _ (by rw [fp_one] at hx; exact hx))))
      have HXE : Hid (mcells (A ++ (Ms.mk ⟨(z : Int), ⟨(z : Int) + 1, (z : Int) + 1 + 1, (z : Int) + 1 + 1 + 1, (z : Int) + 1 + 1 + 1 + 1, (z : Int) + 1 + 1 + 1 + 1 + 1, (z : Int) + 1 + 1 + 1 + 1 + 1 + 1, decide ((z + 1 + 1 + 1 + 1 + 1 + 1 + 1) % 3 = 0)⟩, xks, ⟨rlo, rhi, rst, rmi, rma⟩⟩ xa xc) :: B) = mcells A ++ [.int .i64 ((z : Int)), .int .i64 ((z : Int) + 1), .int .i64 ((z : Int) + 1 + 1), .int .i64 ((z : Int) + 1 + 1 + 1), .int .i64 ((z : Int) + 1 + 1 + 1 + 1), .int .i64 ((z : Int) + 1 + 1 + 1 + 1 + 1), .int .i64 ((z : Int) + 1 + 1 + 1 + 1 + 1 + 1), .bool (decide ((z + 1 + 1 + 1 + 1 + 1 + 1 + 1) % 3 = 0)), .slice xa xks.length xc, .int .i64 rlo, .int .i64 rhi, .int .i64 rst, .int .i64 rmi, .int .i64 rma] ++ mcells B) := ms_row A B _
      have HR1 : Hid (Own w1 [(some (⟨b, off, none⟩ : Addr), mcells A ++ [.int .i64 ((z : Int)), .int .i64 ((z : Int) + 1), .int .i64 ((z : Int) + 1 + 1), .int .i64 ((z : Int) + 1 + 1 + 1), .int .i64 ((z : Int) + 1 + 1 + 1 + 1), .int .i64 ((z : Int) + 1 + 1 + 1 + 1 + 1), .int .i64 ((z : Int) + 1 + 1 + 1 + 1 + 1 + 1), .bool (decide ((z + 1 + 1 + 1 + 1 + 1 + 1 + 1) % 3 = 0)), .slice xa xks.length xc, .int .i64 rlo, .int .i64 rhi, .int .i64 rst, .int .i64 rmi, .int .i64 rma] ++ mcells B)]) := by
        have h2 := Own.left (S := [_]) (T := A.map Ms.seg) (Own.left HO1.out)
        rw [HXE.out] at h2
        exact h2
      have HU : Hid (n + 13 * (k + 1) + totM (ds.take (k + 1)) = z + 8 + xks.length + 5) := by show _ = _; have := HZn.out; omega
      have hu : z + 8 + xks.length ≤ 950000000 := by omega
      have HMX : Hid (markMs z (Ms.mk ⟨xk, ⟨ek, ey, ec, et, em, ef, eb⟩, xks, ⟨rlo, rhi, rst, rmi, rma⟩⟩ xa xc) = Ms.mk ⟨(z : Int), ⟨(z : Int) + 1, (z : Int) + 1 + 1, (z : Int) + 1 + 1 + 1, (z : Int) + 1 + 1 + 1 + 1, (z : Int) + 1 + 1 + 1 + 1 + 1, (z : Int) + 1 + 1 + 1 + 1 + 1 + 1, decide ((z + 1 + 1 + 1 + 1 + 1 + 1 + 1) % 3 = 0)⟩, marksI (z + 8) xks.length, ⟨((z + 8 + xks.length : Nat) : Int), ((z + 8 + xks.length : Nat) : Int) + 1, ((z + 8 + xks.length : Nat) : Int) + 1 + 1, ((z + 8 + xks.length : Nat) : Int) + 1 + 1 + 1, ((z + 8 + xks.length : Nat) : Int) + 1 + 1 + 1 + 1⟩⟩ xa xc) := rfl
      generalize z + 8 + xks.length = u at *
      obtain ⟨⟨d9, d10, d11, d12, d13⟩, ⟨y9, y10, y11, y12, y13⟩, ho5, ht5⟩ := put5 HR1.out HLA.out (.int .i64 ((u : Int))) (.int .i64 ((u : Int) + 1)) (.int .i64 ((u : Int) + 1 + 1)) (.int .i64 ((u : Int) + 1 + 1 + 1)) (.int .i64 ((u : Int) + 1 + 1 + 1 + 1))
      have HO5 := hide ho5
      have HT5 := hide ht5
      clear ho1 ht1 HO8 HT8 HOk HMk ho5 ht5 c0 c1 c2 c3 c4 c5 c6 c7 c8 z0 z1 z2 z3 z4 z5 z6 z7 hm3 HE8
      go_wp2_with fail
      go_roundw
      case rel =>
        generalize (((((w1.setCell ⟨b, off + k * 14 + 9, none⟩ (.int .i64 ((u : Int)))).setCell ⟨b, off + k * 14 + 9 + 1, none⟩ (.int .i64 ((u : Int) + 1))).setCell ⟨b, off + k * 14 + 9 + 2, none⟩ (.int .i64 ((u : Int) + 1 + 1))).setCell ⟨b, off + k * 14 + 9 + 3, none⟩ (.int .i64 ((u : Int) + 1 + 1 + 1))).setCell ⟨b, off + k * 14 + 9 + 4, none⟩ (.int .i64 ((u : Int) + 1 + 1 + 1 + 1))) = W5 at *
        have hrow : mcells A ++ [.int .i64 ((z : Int)), .int .i64 ((z : Int) + 1), .int .i64 ((z : Int) + 1 + 1), .int .i64 ((z : Int) + 1 + 1 + 1), .int .i64 ((z : Int) + 1 + 1 + 1 + 1), .int .i64 ((z : Int) + 1 + 1 + 1 + 1 + 1), .int .i64 ((z : Int) + 1 + 1 + 1 + 1 + 1 + 1), .bool (decide ((z + 1 + 1 + 1 + 1 + 1 + 1 + 1) % 3 = 0)), .slice xa xks.length xc, .int .i64 ((u : Int)), .int .i64 ((u : Int) + 1), .int .i64 ((u : Int) + 1 + 1), .int .i64 ((u : Int) + 1 + 1 + 1), .int .i64 ((u : Int) + 1 + 1 + 1 + 1)] ++ mcells B = mcells (A ++ markMs z (Ms.mk ⟨xk, ⟨ek, ey, ec, et, em, ef, eb⟩, xks, ⟨rlo, rhi, rst, rmi, rma⟩⟩ xa xc) :: B) := by rw [HMX.out, ms_row]; simp [Ms.cells, marksI_len]
        have hfs5 : fpS (some (⟨b, off, none⟩ : Addr), mcells A ++ [.int .i64 ((z : Int)), .int .i64 ((z : Int) + 1), .int .i64 ((z : Int) + 1 + 1), .int .i64 ((z : Int) + 1 + 1 + 1), .int .i64 ((z : Int) + 1 + 1 + 1 + 1), .int .i64 ((z : Int) + 1 + 1 + 1 + 1 + 1), .int .i64 ((z : Int) + 1 + 1 + 1 + 1 + 1 + 1), .bool (decide ((z + 1 + 1 + 1 + 1 + 1 + 1 + 1) % 3 = 0)), .slice xa xks.length xc, .int .i64 ((u : Int)), .int .i64 ((u : Int) + 1), .int .i64 ((u : Int) + 1 + 1), .int .i64 ((u : Int) + 1 + 1 + 1), .int .i64 ((u : Int) + 1 + 1 + 1 + 1)] ++ mcells B) = fpS (some (⟨b, off, none⟩ : Addr), mcells (A ++ (Ms.mk ⟨(z : Int), ⟨(z : Int) + 1, (z : Int) + 1 + 1, (z : Int) + 1 + 1 + 1, (z : Int) + 1 + 1 + 1 + 1, (z : Int) + 1 + 1 + 1 + 1 + 1, (z : Int) + 1 + 1 + 1 + 1 + 1 + 1, decide ((z + 1 + 1 + 1 + 1 + 1 + 1 + 1) % 3 = 0)⟩, xks, ⟨rlo, rhi, rst, rmi, rma⟩⟩ xa xc) :: B)) := fpS_len (by simp [mcells_len]; omega)
        have hfb5 : fpS (some (⟨b, off, none⟩ : Addr), mcells (A ++ (Ms.mk ⟨(z : Int), ⟨(z : Int) + 1, (z : Int) + 1 + 1, (z : Int) + 1 + 1 + 1, (z : Int) + 1 + 1 + 1 + 1, (z : Int) + 1 + 1 + 1 + 1 + 1, (z : Int) + 1 + 1 + 1 + 1 + 1 + 1, decide ((z + 1 + 1 + 1 + 1 + 1 + 1 + 1) % 3 = 0)⟩, xks, ⟨rlo, rhi, rst, rmi, rma⟩⟩ xa xc) :: B)) = [b] := fpS_some (by rw [ms_row]; exact row_ne rfl)
        have hall : Own W5 ((some ⟨b, off, none⟩, mcells A ++ [.int .i64 ((z : Int)), .int .i64 ((z : Int) + 1), .int .i64 ((z : Int) + 1 + 1), .int .i64 ((z : Int) + 1 + 1 + 1), .int .i64 ((z : Int) + 1 + 1 + 1 + 1), .int .i64 ((z : Int) + 1 + 1 + 1 + 1 + 1), .int .i64 ((z : Int) + 1 + 1 + 1 + 1 + 1 + 1), .bool (decide ((z + 1 + 1 + 1 + 1 + 1 + 1 + 1) % 3 = 0)), .slice xa xks.length xc, .int .i64 ((u : Int)), .int .i64 ((u : Int) + 1), .int .i64 ((u : Int) + 1 + 1), .int .i64 ((u : Int) + 1 + 1 + 1), .int .i64 ((u : Int) + 1 + 1 + 1 + 1)] ++ mcells B) :: (A.map Ms.seg ++ (xa, its (marksI (z + 8) xks.length)) :: B.map Ms.seg)) :=
          Own.upd (A := []) HO1.out HO5.out hfs5 (by rw [fp_one, hfb5]; exact HT5.out)
        have hseg : (A ++ markMs z (Ms.mk ⟨xk, ⟨ek, ey, ec, et, em, ef, eb⟩, xks, ⟨rlo, rhi, rst, rmi, rma⟩⟩ xa xc) :: B).map Ms.seg = A.map Ms.seg ++ (xa, its (marksI (z + 8) xks.length)) :: B.map Ms.seg := by rw [List.map_append, List.map_cons]; rfl
        refine ⟨k + 1, u + 5, by omega, HU, congrArg (Value.int .i64) (by omega), by go_num, ?_, ?_, ?_⟩
        · show Own _ _
          rw [HBB.out, HTk.out, hseg, ← hrow]
          exact hall
        · show _ = _
          rw [HBB.out, HTk.out, hseg, ← hrow, fp_cons, hfs5, ← HF8.out, HD.out, List.cons_append, fp_cons, fp_upd _ _ HFS.out]
        · refine HT1.out.trans' (HT5.out.mono (fun x hx => ?_))
          rw [← HF8.out, fp_cons, hfb5]
          exact List.mem_append_left _ hx
      case measure => simp [intOf]; omega
    · have e : k = ds.length := by omega
      subst e
      have HZ2 : Hid (n + 13 * ds.length + totM ds = z) := by
        have := HZ.out
        rw [List.take_length] at this
        exact this
      go_wp2_with fail
      go_ret
      have h2 := HOr.out
      rw [List.take_length, List.drop_length, List.append_nil] at h2
      exact ⟨congrArg (fun y : Int => Ending.returned (Value.int .i64 y)) (show ((z : Nat) : Int) = _ by have := HZ2.out; omega), h2, HT.out⟩
set_option maxHeartbeats 16000000 in
theorem heldStepS_k (a : Option Addr) (cap : Nat) (ds : List Ms) (n : Nat) (w : World) (hm : Mem w ((a, mcells (markM n ds)) :: (markM n ds).map Ms.seg)) (hl : ds.length ≤ 400) (hx : ∀ x ∈ ds, x.D.ks.length ≤ 1048576) (hn : n ≤ 1000) :
    Calls Tryz.prog 12 #[.slice a ds.length cap, .int .i64 (n : Int)] w fun e w' => e = .returned (.int .i64 ((n + 13 * ds.length + totM ds : Nat) : Int)) ∧ w' = w := by
  have HC : Hid (Cells w a (mcells (markM n ds))) := hm (a, mcells (markM n ds)) (List.mem_cons_self ..)
  have HS : Hid (∀ k (hk : k < ds.length), Cells w (ds[k].a) (its (marksI (n + 13 * k + totM (ds.take k) + 8) ds[k].D.ks.length))) := fun k hk => by
    have := mem_ms (w := w) (xs := markM n ds) (fun s hs => hm s (List.mem_cons_of_mem _ hs)) k (by rw [markM_len]; exact hk)
    rw [markM_at ds n k hk] at this
    exact this
  have HX := hide hx
  clear hm hx
  go_enter Tryz.func12, Tryz.ntmps12
  go_wp2_with fail
  go_loop [1, 5] (fun x y => ∃ (k z : Nat), k ≤ ds.length ∧ Hid (n + 13 * k + totM (ds.take k) = z) ∧ x = .int .i64 (z : Int) ∧ y = .int .i64 (k : Int)) (fun _ y => ds.length - (intOf y).toNat)
  case atStart => exact ⟨0, n, by omega, by show _ = _; simp [totM], rfl, rfl⟩
  case round =>
    obtain ⟨k, z, hk, HZ, rfl, rfl⟩ := hrel
    by_cases hlt : k < ds.length
    · have hz : z ≤ 900000000 := by
        have h1 := HZ.out
        have h2 := totM_le (ds.take k) (fun x hx => HX.out x (List.mem_of_mem_take hx))
        rw [List.length_take] at h2
        omega
      obtain ⟨b, off, ea, c0, c1, c2, c3, c4, c5, c6, c7, c8, c9, c10, c11, c12, c13⟩ := ms_at HC.out k (by rw [markM_len]; exact hlt)
      have HEA := hide ea
      clear ea
      obtain rfl := HEA.out
      rw [markM_at ds n k hlt, HZ.out] at c0 c1 c2 c3 c4 c5 c6 c7 c8 c9 c10 c11 c12 c13
      have HSk := HS.out k hlt
      rw [HZ.out] at HSk
      have hxk := HX.out _ (List.getElem_mem hlt)
      have HZn : Hid (n + 13 * (k + 1) + totM (ds.take (k + 1)) = z + 13 + ds[k].D.ks.length) := by show _ = _; rw [totM_take ds k hlt]; have := HZ.out; omega
      generalize ds[k] = c at *
      obtain ⟨⟨xk, ⟨ek, ey, ec, et, em, ef, eb⟩, xks, ⟨rlo, rhi, rst, rmi, rma⟩⟩, xa, xc⟩ := c
      dsimp only [markMs] at c0 c1 c2 c3 c4 c5 c6 c7 c8 c9 c10 c11 c12 c13 HSk hxk HZn
      rw [marksI_len] at c8
      have HQ := hide (heldIntS_k xa xc xks.length (z + 8) w HSk hxk (by omega))
      have HE8 : Hid (((z + 8 : Nat) : Int) = (z : Int) + 1 + 1 + 1 + 1 + 1 + 1 + 1 + 1) := by show _ = _; omega
      rw [HE8.out] at HQ
      have HU : Hid (n + 13 * (k + 1) + totM (ds.take (k + 1)) = z + 8 + xks.length + 5) := by show _ = _; have := HZn.out; omega
      have hu : z + 8 + xks.length ≤ 950000000 := by omega
      have hng : ¬ (((z + 8 + xks.length : Nat) : Int) < 0) := by omega
      have hm3 : (((z : Int) + 1 + 1 + 1 + 1 + 1 + 1 + 1) % 3 == 0) = decide ((z + 1 + 1 + 1 + 1 + 1 + 1 + 1) % 3 = 0) := by
        by_cases h3 : (z + 1 + 1 + 1 + 1 + 1 + 1 + 1) % 3 = 0
        · rw [decide_eq_true h3]; simp; omega
        · rw [decide_eq_false h3]; simp; omega
      obtain ⟨q, hq⟩ : ∃ q, decide ((z + 1 + 1 + 1 + 1 + 1 + 1 + 1) % 3 = 0) = q := ⟨_, rfl⟩
      rw [hq] at c7 hm3
      generalize z + 8 + xks.length = u at *
      clear hq HSk HZ HE8 HZn
      cases q
      all_goals
        go_wp2_with fail
        refine (unhide HQ).mono ?_
        rintro e w1 ⟨rfl, rfl⟩
        go_wp2_with fail
        go_round
        case rel => exact ⟨k + 1, u + 5, by omega, HU, congrArg (Value.int .i64) (by omega), by go_num⟩
        case measure => simp [intOf]; omega
    · have e : k = ds.length := by omega
      subst e
      have HZ2 : Hid (n + 13 * ds.length + totM ds = z) := by
        have := HZ.out
        rw [List.take_length] at this
        exact this
      go_wp2_with fail
      go_ret
      exact ⟨congrArg (fun y : Int => Ending.returned (Value.int .i64 y)) (show ((z : Nat) : Int) = _ by have := HZ2.out; omega), rfl⟩
end Go.Proofs.YtkgpoghoilffhaaGreatDoor
