/- Prices among a law's arguments. -/
import Derived.Test.YtjdbedlgkngdkaaPcG
import Derived.ChangeSame
import Derived.WideShapes
import Derived.Below
namespace Go.Proofs.Ytjdbedlgkngdkaa
open Go.RowKit Go.ChangeShapes Go.WideShapes Go.Deep
set_option linter.unusedVariables false
set_option maxRecDepth 100000

section
variable {H : Type} {enc : TypeId × Value → H} {W : World} {n : Nat} {cs : List Value} {y : DataW H × List MemPlace} {base : Nat} {sp : Nat → Bool} {hd : Bool}
theorem cellsPrice : Try.prog.cellsOf 60 = 3 := by kernel_rfl
theorem open_Price (h : DataW.trod enc Try.prog W base sp hd n 60 cs = some y) : ∃ x : Prc, cs = x.cells := by
  obtain ⟨xs, n, _, _, hl, hlen, hf⟩ := DataW.trod_struct Try.underlying60 h
  rw [cellsPrice] at hl
  match xs, hlen with
  | [x0, x1, x2], _ =>
    match cs, hl with
    | [v0, v1, v2], _ =>
      have h0 := hf 0 _ rfl
      have h1 := hf 1 _ rfl
      have h2 := hf 2 _ rfl
      simp [cellsInt] at h0 h1 h2
      obtain ⟨y0, e0, _, _⟩ := DataW.trod_int Try.underlying3 h0
      obtain ⟨y1, e1, _, _⟩ := DataW.trod_int Try.underlying3 h1
      obtain ⟨y2, e2, _, _⟩ := DataW.trod_int Try.underlying3 h2
      simp at e0 e1 e2
      exact ⟨⟨y0, y1, y2⟩, by rw [e0, e1, e2]; rfl⟩
theorem pcs_of : ∀ M : List (List Value), (∀ c ∈ M, c.length = 3 ∧ ∃ x : Prc, c = x.cells) → ∃ L : List Prc, L.length = M.length ∧ M.flatten = pcs L
  | [], _ => ⟨[], rfl, rfl⟩
  | c :: M, h => by
    obtain ⟨L, hl, hf⟩ := pcs_of M (fun c hc => h c (List.mem_cons_of_mem _ hc))
    obtain ⟨_, x, rfl⟩ := h c (List.mem_cons_self ..)
    exact ⟨x :: L, by simp [hl], by simp [pcs, hf]⟩
theorem open_Prices {v : Value} (h : DataW.trod enc Try.prog W base sp hd n 27 [v] = some y) :
    ∃ (a : Option Addr) (cap : Nat) (L : List Prc), v = .slice a L.length cap ∧ Cells W a (pcs L) ∧ ((a = none → cap = 0) ∧ L.length ≤ cap) ∧ L.length ≤ 9223372036854775807 := by
  obtain ⟨a, cap, M, hv, hq, hc, hn, hl⟩ := open_cells' Try.underlying27 cellsPrice (by decide) h (fun c => ∃ x : Prc, c = x.cells) (fun _ _ _ h => open_Price h)
  obtain ⟨L, e, ef⟩ := pcs_of M hq
  exact ⟨a, cap, L, by rw [hv, e], by rw [← ef]; exact hc, ⟨hn.1, by rw [e]; exact hn.2⟩, by rw [e]; exact hl⟩
variable {v : Value} {d : DataW H} {ps : List MemPlace}
theorem prices_row {b0 : Nat} (hv : Value.okWide Try.prog W .any b0 27 v) (h : DataW.Trod enc Try.prog W base sp hd 27 v d ps) :
    ∃ (a : Option Addr) (cap : Nat) (L : List Prc), v = .slice a L.length cap ∧ Cells W a (pcs L) ∧ ((a = none → cap = 0) ∧ L.length ≤ cap) ∧ L.length ≤ 9223372036854775807 := by
  obtain ⟨a, len, cap, rfl⟩ := okWide_slice Try.underlying27 hv
  obtain ⟨m, h⟩ := h
  exact open_Prices (n := m) (v := .slice a len cap) (by simpa [Value.cells] using h)
end
end Go.Proofs.Ytjdbedlgkngdkaa
