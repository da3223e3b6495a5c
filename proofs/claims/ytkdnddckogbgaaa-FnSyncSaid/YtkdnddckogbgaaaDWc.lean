/- copyDisk of the program, by contract. -/
import Derived.Test.YtkdnddckogbgaaaDWr
import Derived.Deep.RegionLaw
import Derived.Deep.Cut
namespace Go.Proofs.Ytkdnddckogbgaaa
open Go.RowKit Go.Deep
set_option linter.unusedVariables false
set_option maxRecDepth 10000

theorem eq_false {a b : Nat} (h : a ≠ b) : ((a : Int) == (b : Int)) = false := by rw [beq_eq_false_iff_ne]; omega
theorem eq_true {a b : Nat} (h : a = b) : ((a : Int) == (b : Int)) = true := by rw [h]; simp
theorem LG.turnedW {α : Type} {T : TypeId} {sz : Nat} {f : α → List Value} {sg : α → Seg} {w0 w w' : World} {v : Value} {nb : List α} {fs : List Nat} (h : LG T sz f sg w0 w v nb) (ht : Turn fs w w') (h1 : ∀ g, v.ownBlock = some g → g ∉ fs) (h2 : ∀ b ∈ fp (nb.map sg), b ∉ fs) (h3 : ∀ b ∈ fs, w0.heap.size ≤ b) : LG T sz f sg w0 w' v nb := by
  refine ⟨⟨h.row.1, ?_⟩, h.inner.turn ht h2, h.apart, ht.keeps h.keeps h3⟩
  rcases h.row.2 with h' | ⟨g, cap, cur, rfl, hb, hg, rest⟩
  · exact .inl h'
  · refine .inr ⟨g, cap, cur, rfl, hb, ?_, rest⟩
    rw [ht.block g (Array.getElem?_eq_some_iff.1 hg).1 (h1 g rfl)]; exact hg
theorem LG.oldW {α : Type} {T : TypeId} {sz : Nat} {f : α → List Value} {sg : α → Seg} {w w0 w' : World} {v : Value} {nb : List α} (h : LG T sz f sg w0 w' v nb) (hk : Keeps w w0) : LG T sz f sg w w' v nb := by
  refine ⟨⟨h.row.1, ?_⟩, h.inner.old hk, h.apart, hk.trans h.keeps⟩
  rcases h.row.2 with h' | ⟨g, cap, cur, rfl, hb, rest⟩
  · exact .inl h'
  · exact .inr ⟨g, cap, cur, rfl, Nat.le_trans hk.size hb, rest⟩
/-- The blocks of a list of structs with lists inside. -/
def lgB {α : Type} (sg : α → Seg) (v : Value) (nb : List α) (b : Nat) : Prop := v.ownBlock = some b ∨ b ∈ fp (nb.map sg)
/-- A disk of two lists of one's own that share no block. -/
theorem diskres_sep {w W : World} {v1 v2 : Value} {nb : List Bs} {nw : List Wr} (hC : LG 54 1 Bs.cells Bs.seg w W v1 nb) (hD : LG 51 2 Wr.cells Wr.seg w W v2 nw) (hs : ∀ b, lgB Bs.seg v1 nb b → lgB Wr.seg v2 nw b → False) (hok : dokM (dat nb nw) = true)
    (nc : ∀ b ∈ nb, b.fit) (nd : ∀ x ∈ nw, x.b.fit) : DiskRes w W (.agg #[v1, v2]) (dat nb nw) := by
  obtain ⟨a1, c1, e1, n1, b1⟩ := hC.cells
  obtain ⟨a2, c2, e2, n2, b2⟩ := hD.writes
  have own1 : ∀ b ∈ fpS (a1, ccells nb), v1.ownBlock = some b := by
    intro b hb
    rw [e1]
    unfold fpS at hb
    split at hb
    · simp at hb
    · cases a1 with
      | none => simp at hb
      | some p => simp at hb; simp [Value.ownBlock, hb]
  have own2 : ∀ b ∈ fpS (a2, wcells nw), v2.ownBlock = some b := by
    intro b hb
    rw [e2]
    unfold fpS at hb
    split at hb
    · simp at hb
    · cases a2 with
      | none => simp at hb
      | some p => simp at hb; simp [Value.ownBlock, hb]
  refine ⟨a1, c1, nb, a2, c2, nw, by rw [e1, e2], rfl, dokM_DOk hok nc nd, n1, n2, ⟨b1.toOwn.append b2.toOwn (fun b hb hb' => ?_), fun b hb => ?_⟩⟩
  · rw [fp_cons] at hb hb'
    refine hs b ?_ ?_
    · rcases List.mem_append.1 hb with hb | hb
      · exact .inl (own1 b hb)
      · exact .inr hb
    · rcases List.mem_append.1 hb' with hb' | hb'
      · exact .inl (own2 b hb')
      · exact .inr hb'
  · unfold dsk at hb
    rw [fp_append] at hb
    rcases List.mem_append.1 hb with hb | hb
    · exact b1.new b hb
    · exact b2.new b hb
end Go.Proofs.Ytkdnddckogbgaaa
