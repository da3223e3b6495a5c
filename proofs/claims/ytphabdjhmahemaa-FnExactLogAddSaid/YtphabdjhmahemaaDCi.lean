/- land of the program, by contract. -/
import Derived.Test.YtphabdjhmahemaaDC
namespace Go.Proofs.Ytphabdjhmahemaa
open Go.RowKit Go.Deep
set_option linter.unusedVariables false
set_option maxRecDepth 10000

theorem splice_take (cur new : List UInt8) (n : Nat) (hn : n ≤ new.length) : splice (bys cur) 0 (bys (new.take n)) = bys (new.take n ++ cur.drop n) := by
  rw [splice_zero, bys_append, bys_length, List.length_take, Nat.min_eq_left hn]
  simp [bys]
theorem landM_zero (C : List (List UInt8)) (x : Int × List UInt8) : landM C x 0 = C := rfl
/-- The list of cells as the walk has it. -/
theorem LG.slice {w0 w : World} {v : Value} {nb : List Bs} (h : LG 113 1 Bs.cells Bs.seg w0 w v nb) {p : Nat} (hp : p < nb.length) :
    ∃ (g cap : Nat), v = .slice (some ⟨g, 0, none⟩) nb.length cap ∧ v.ownBlock = some g ∧ w.cell? ⟨g, p, none⟩ = some nb[p].v ∧ (∀ o, w.frozen? ⟨g, o, none⟩ = false) ∧ w0.heap.size ≤ g ∧ g < w.heap.size := by
  rcases h.row.2 with ⟨_, h0⟩ | ⟨g, cap, cur, rfl, hb, hg, hn, hm, hs, ht⟩
  · omega
  · obtain ⟨a, c, e, _, hbo⟩ := h.cells
    injection e with e1 e2 e3
    subst e1
    have hc : Cells w (some ⟨g, 0, none⟩) (ccells nb) := hbo.mem _ (List.mem_cons_self ..)
    obtain ⟨b, off, e, c0⟩ := cell1 hc p hp
    have e' := Option.some.inj e
    injection e' with e4 e5
    subst e4 e5
    rw [Nat.zero_add] at c0
    refine ⟨g, cap, rfl, by simp [Value.ownBlock], c0, fun o => by simp [World.frozen?, hg], hb, lt_of_cell c0⟩
end Go.Proofs.Ytphabdjhmahemaa
