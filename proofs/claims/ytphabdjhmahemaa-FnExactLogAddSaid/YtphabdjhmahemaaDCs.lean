/- DiskSync and DiskCrash of the program, by contract. -/
import Derived.Test.YtphabdjhmahemaaDCi
import Derived.Test.YtphabdjhmahemaaInt0
import Derived.Test.YtphabdjhmahemaaDWr
namespace Go.Proofs.Ytphabdjhmahemaa
open Go.RowKit Go.Deep
set_option linter.unusedVariables false
set_option linter.unusedSimpArgs false
set_option maxRecDepth 10000

/-- A disk of one list that was made, with nothing that waits; then a variable was set. -/
theorem diskres_cells {w w5 w6 W : World} {v1 : Value} {nb : List Bs} {fs : List Nat} (hk : Keeps w w5) (hC : LG 113 1 Bs.cells Bs.seg w5 w6 v1 nb) (hT : Turn fs w6 W) (hfs : ∀ b ∈ fs, b < w5.heap.size) (hok : dokM ⟨nb.map Bs.L, []⟩ = true) (nc : ∀ b ∈ nb, b.fit) :
    DiskRes w W (.agg #[v1, .slice none 0 0]) ⟨nb.map Bs.L, []⟩ := by
  obtain ⟨a1, c1, e1, h1, b1⟩ := hC.cells
  refine ⟨a1, c1, nb, none, 0, [], by rw [e1]; rfl, rfl, dokM_DOk (ds := []) hok nc (fun x hx => by simp at hx), h1, fun _ => rfl, ?_⟩
  have b1' : Born w W ((a1, ccells nb) :: nb.map Bs.seg) := by
    refine (b1.turn hT (fun b hb hx => ?_)).old hk
    have := b1.new b hb
    have := hfs b hx
    omega
  have e2 : fp ([((none : Option Addr), wcells [])] ++ ([] : List Wr).map Wr.seg) = [] := by simp [fp, fpS, wcells]
  have o2 : Own W ([((none : Option Addr), wcells [])] ++ ([] : List Wr).map Wr.seg) :=
    ⟨fun s hs => by
      have : s = (none, wcells []) := by simpa using hs
      rw [this]
      exact Or.inl rfl, by rw [e2]; exact List.nodup_nil, fun b hb => by rw [e2] at hb; simp at hb⟩
  refine ⟨b1'.toOwn.append o2 (fun b hb hb' => ?_), fun b hb => ?_⟩
  · have h : b ∈ fp ([((none : Option Addr), wcells [])] ++ ([] : List Wr).map Wr.seg) := hb'
    rw [e2] at h; simp at h
  · unfold dsk at hb
    rw [fp_append] at hb
    rcases List.mem_append.1 hb with hb | hb
    · exact b1'.new b hb
    · have h : b ∈ fp ([((none : Option Addr), wcells [])] ++ ([] : List Wr).map Wr.seg) := hb
      rw [e2] at h; simp at h
/-- What lies in a write that waits. -/
theorem dirty_at {cs : List Bs} {ds : List Wr} (hok : dokM (dat cs ds) = true) (k : Nat) (hk : k < ds.length) : ∃ p : Nat, ds[k].i = (p : Int) ∧ p < cs.length ∧ ds[k].b.L.length = 128 := by
  have hm : ds[k].key ∈ (dat cs ds).dirty := List.mem_map.2 ⟨ds[k], List.getElem_mem hk, rfl⟩
  obtain ⟨h1, h2, h3⟩ := dokM_dirty hok hm
  refine ⟨ds[k].i.toNat, ?_, ?_, h3⟩
  · show ds[k].i = _
    have : (0 : Int) ≤ ds[k].i := h1
    omega
  · have h4 : ds[k].i < ((dat cs ds).cells.length : Int) := h2
    have h5 : (dat cs ds).cells.length = cs.length := by simp [dat]
    have : (0 : Int) ≤ ds[k].i := h1
    omega
theorem crashTo_next {C : List (List UInt8)} {ds : List Wr} {f : Nat → Nat} {k : Nat} (hk : k < ds.length) : crashTo C (ds.map Wr.key) f (k + 1) = landM (crashTo C (ds.map Wr.key) f k) ds[k].key (f k) := by
  simp [crashTo, hk]
end Go.Proofs.Ytphabdjhmahemaa
