/- Lists in memory, and how the readings of arguments give their cells. -/
import Derived.Test.YtkdnddckogbgaaaDoorKeep
import Derived.Deep.Slices
namespace Go.Proofs.YtkdnddckogbgaaaDoor
open Go.RowKit Go.Deep
set_option linter.unusedVariables false

/-- The cells of a list that lies in memory. -/
def Cells (w : World) (a : Option Addr) (xs : List Value) : Prop := xs = [] ∨ ∃ b off, a = some ⟨b, off, none⟩ ∧ ∀ j (h : j < xs.length), w.cell? ⟨b, off + j, none⟩ = some xs[j]
theorem Cells.kept {w w' : World} {a : Option Addr} {xs : List Value} (h : Cells w a xs) (hk : Keeps w w') : Cells w' a xs := by
  rcases h with h | ⟨b, off, e, h⟩
  · exact Or.inl h
  · exact Or.inr ⟨b, off, e, fun j hj => hk.cell (h j hj)⟩

theorem Cells.nil (w : World) (a : Option Addr) : Cells w a [] := Or.inl rfl
theorem cells_add {w : World} {b off : Nat} {xs ys : List Value} (h : ∀ j (hj : j < xs.length), w.cell? ⟨b, off + j, none⟩ = some xs[j]) (h' : ∀ j (hj : j < ys.length), w.cell? ⟨b, off + xs.length + j, none⟩ = some ys[j]) :
    ∀ j (hj : j < (xs ++ ys).length), w.cell? ⟨b, off + j, none⟩ = some (xs ++ ys)[j] := by
  intro j hj
  by_cases hx : j < xs.length
  · rw [List.getElem_append_left hx]; exact h j hx
  · rw [List.getElem_append_right (by omega)]
    have := h' (j - xs.length) (by simp at hj; omega)
    rw [show off + xs.length + (j - xs.length) = off + j by omega] at this
    exact this

section
variable {H : Type} {enc : TypeId × Value → H} {P : Program} {w : World} {base : Nat} {spare : Nat → Bool} {held : Bool}
/-- A slice whose elements have sz cells each: what its cells are. -/
theorem open_cells {t e : TypeId} {sz fuel : Nat} {v : Value} {x : DataW H × List MemPlace} (ht : P.underlying t = some (.slice e)) (hsz : P.cellsOf e = sz) (hpos : 0 < sz)
    (h : DataW.trod enc P w base spare held fuel t [v] = some x) (Q : List Value → Prop) (hQ : ∀ n cs y, DataW.trod enc P w base spare held n e cs = some y → Q cs) :
    ∃ (a : Option Addr) (cap : Nat) (M : List (List Value)), v = .slice a M.length cap ∧ (∀ c ∈ M, c.length = sz ∧ Q c) ∧ Cells w a M.flatten ∧ M.length ≤ cap ∧ cap ≤ maxLen := by
  rcases open_slice ht h with ⟨hv, _⟩ | ⟨a, len, cap, m, n, D, Pl, hv, hb, hl, hm, hmm, hx, he⟩
  · simp at hv
    exact ⟨none, 0, [], hv, fun c hc => absurd hc (by simp), Cells.nil _ _, Nat.le_refl _, Nat.zero_le _⟩
  · simp at hv
    subst hv
    have hlm : len ≤ m := by rw [hmm]; split <;> omega
    by_cases h0 : len = 0
    · subst h0
      exact ⟨some a, cap, [], rfl, fun c hc => absurd hc (by simp), Cells.nil _ _, Nat.zero_le _, hm⟩
    · obtain ⟨b, off, spot⟩ := a
      have hspot : spot = none := by
        obtain ⟨cs', h1, _⟩ := he 0 (by omega)
        rw [hsz] at h1
        obtain ⟨_, _, hcell⟩ := World.cells?_some h1
        have := hcell 0 (by omega)
        have h2 := World.cell?_spot (w := w) (a := _) (v := _) (by rw [this]; exact List.getElem?_eq_getElem (by have := (World.cells?_some h1).2.1; omega))
        simpa [Addr.add] using h2
      subst hspot
      have build : ∀ k, k ≤ len → ∃ M : List (List Value), M.length = k ∧ (∀ c ∈ M, c.length = sz ∧ Q c) ∧ M.flatten.length = k * sz ∧ ∀ j (hj : j < M.flatten.length), w.cell? ⟨b, off + j, none⟩ = some M.flatten[j] := by
        intro k
        induction k with
        | zero => exact fun _ => ⟨[], rfl, fun c hc => absurd hc (by simp), by simp, fun j hj => absurd hj (by simp)⟩
        | succ k ih =>
          intro hk
          obtain ⟨M, hM, hq, hlen, hc⟩ := ih (by omega)
          obtain ⟨cs', h1, h2⟩ := he k (by omega)
          rw [hsz] at h1
          obtain ⟨_, hl', hcell⟩ := World.cells?_some h1
          refine ⟨M ++ [cs'], by simp [hM], ?_, ?_, ?_⟩
          · intro c hc'
            rcases List.mem_append.1 hc' with h | h
            · exact hq c h
            · rw [List.mem_singleton.1 h]; exact ⟨hl', hQ _ _ _ h2⟩
          · simp [hlen, hl', Nat.add_mul]
          · have e : (M ++ [cs']).flatten = M.flatten ++ cs' := by simp
            intro j hj
            have hfin := cells_add hc (ys := cs') (fun j hj => by
              have g := hcell j (by omega)
              rw [List.getElem?_eq_getElem hj] at g
              rw [← g, hlen]
              congr 1
              unfold Addr.add
              by_cases hk0 : k * sz = 0
              · by_cases hj0 : j = 0
                · simp [hk0, hj0]
                · simp [hk0, hj0]
              · by_cases hj0 : j = 0
                · simp [hk0, hj0]
                · simp [hk0, hj0])
            have := hfin j (by rw [← e]; exact hj)
            rw [this]
            simp only [e]
      obtain ⟨M, hM, hq, hlen, hc⟩ := build len (Nat.le_refl _)
      exact ⟨some ⟨b, off, none⟩, cap, M, by rw [hM], hq, Or.inr ⟨b, off, rfl, hc⟩, by omega, hm⟩
end
end Go.Proofs.YtkdnddckogbgaaaDoor
