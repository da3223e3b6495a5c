/- DiskSync of the model, by contract. -/
import Derived.Test.YtphabdjhmahemaaDCm
import Derived.Test.YtphabdjhmahemaaItg
namespace Go.Proofs.Ytphabdjhmahemaa
open Go.RowKit Go.Deep
set_option linter.unusedVariables false
set_option linter.unusedSimpArgs false
set_option maxRecDepth 10000

theorem crashTo_congr {C : List (List UInt8)} {D : List (Int × List UInt8)} {f f' : Nat → Nat} (h : ∀ i, i < D.length → f i = f' i) : ∀ k, crashTo C D f k = crashTo C D f' k
  | 0 => rfl
  | k + 1 => by
    simp only [crashTo]
    rw [crashTo_congr h k]
    cases hD : D[k]? with
    | none => rfl
    | some x =>
      obtain ⟨hk, _⟩ := List.getElem?_eq_some_iff.1 hD
      simp only
      rw [h k hk]
theorem crash_sync (cs : List Bs) (ds : List Wr) : crashM (dat cs ds) (keepN (List.replicate ds.length 128)) = crashM (dat cs ds) (fun _ => 128) := by
  have e : ∀ i, i < (dat cs ds).dirty.length → keepN (List.replicate ds.length 128) i = (fun _ => 128) i := fun i hi => by
    have hi' : i < ds.length := by simpa [dat] using hi
    unfold keepN
    rw [List.getElem?_replicate, if_pos hi']
    rfl
  unfold crashM
  rw [crashTo_congr e]
theorem DiskRes.turned {w w1 w2 W : World} {v : Value} {M : DkM} {R : Nat} (h : DiskRes w1 w2 v M) (hk : Keeps w w1) (hT : Turn [R] w2 W) (hR : R < w1.heap.size) : DiskRes w W v M := by
  obtain ⟨ca, cc, cs, da, dc, ds, e1, e2, h1, h2, h3, hb⟩ := h
  refine ⟨ca, cc, cs, da, dc, ds, e1, e2, h1, h2, h3, ?_⟩
  refine (hb.turn hT (fun b hb' hx => ?_)).old hk
  have := hb.new b hb'
  have e : b = R := by simpa using hx
  omega
end Go.Proofs.Ytphabdjhmahemaa
