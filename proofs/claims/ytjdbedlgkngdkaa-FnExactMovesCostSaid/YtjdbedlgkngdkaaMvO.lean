/- Moves among a law's arguments. -/
import Derived.Test.YtjdbedlgkngdkaaMvG
import Derived.ChangeSame
import Derived.WideShapes
import Derived.Below
namespace Go.Proofs.Ytjdbedlgkngdkaa
open Go.RowKit Go.ChangeShapes Go.WideShapes Go.Deep
set_option linter.unusedVariables false
set_option maxRecDepth 100000

section
variable {H : Type} {enc : TypeId × Value → H} {W : World} {n : Nat} {cs : List Value} {y : DataW H × List MemPlace} {base : Nat} {sp : Nat → Bool} {hd : Bool}
theorem cellsMove : Try.prog.cellsOf 73 = 4 := by kernel_rfl
theorem open_Move (h : DataW.trod enc Try.prog W base sp hd n 73 cs = some y) : ∃ x : Mov, cs = x.cells := by
  obtain ⟨xs, n, _, _, hl, hlen, hf⟩ := DataW.trod_struct Try.underlying73 h
  rw [cellsMove] at hl
  match xs, hlen with
  | [x0, x1, x2, x3], _ =>
    match cs, hl with
    | [v0, v1, v2, v3], _ =>
      have h0 := hf 0 _ rfl
      have h1 := hf 1 _ rfl
      have h2 := hf 2 _ rfl
      have h3 := hf 3 _ rfl
      simp [cellsInt] at h0 h1 h2 h3
      obtain ⟨y0, e0, _, _⟩ := DataW.trod_int Try.underlying3 h0
      obtain ⟨y1, e1, _, _⟩ := DataW.trod_int Try.underlying3 h1
      obtain ⟨y2, e2, _, _⟩ := DataW.trod_int Try.underlying3 h2
      obtain ⟨y3, e3, _, _⟩ := DataW.trod_int Try.underlying3 h3
      simp at e0 e1 e2 e3
      exact ⟨⟨y0, y1, y2, y3⟩, by rw [e0, e1, e2, e3]; rfl⟩
theorem mvs_of : ∀ M : List (List Value), (∀ c ∈ M, c.length = 4 ∧ ∃ x : Mov, c = x.cells) → ∃ L : List Mov, L.length = M.length ∧ M.flatten = mvs L
  | [], _ => ⟨[], rfl, rfl⟩
  | c :: M, h => by
    obtain ⟨L, hl, hf⟩ := mvs_of M (fun c hc => h c (List.mem_cons_of_mem _ hc))
    obtain ⟨_, x, rfl⟩ := h c (List.mem_cons_self ..)
    exact ⟨x :: L, by simp [hl], by simp [mvs, hf]⟩
theorem open_Moves {v : Value} (h : DataW.trod enc Try.prog W base sp hd n 42 [v] = some y) :
    ∃ (a : Option Addr) (cap : Nat) (L : List Mov), v = .slice a L.length cap ∧ Cells W a (mvs L) ∧ ((a = none → cap = 0) ∧ L.length ≤ cap) ∧ L.length ≤ 9223372036854775807 := by
  obtain ⟨a, cap, M, hv, hq, hc, hn, hl⟩ := open_cells' Try.underlying42 cellsMove (by decide) h (fun c => ∃ x : Mov, c = x.cells) (fun _ _ _ h => open_Move h)
  obtain ⟨L, e, ef⟩ := mvs_of M hq
  exact ⟨a, cap, L, by rw [hv, e], by rw [← ef]; exact hc, ⟨hn.1, by rw [e]; exact hn.2⟩, by rw [e]; exact hl⟩
variable {v : Value} {d : DataW H} {ps : List MemPlace}
theorem moves_row {b0 : Nat} (hv : Value.okWide Try.prog W .any b0 42 v) (h : DataW.Trod enc Try.prog W base sp hd 42 v d ps) :
    ∃ (a : Option Addr) (cap : Nat) (L : List Mov), v = .slice a L.length cap ∧ Cells W a (mvs L) ∧ ((a = none → cap = 0) ∧ L.length ≤ cap) ∧ L.length ≤ 9223372036854775807 := by
  obtain ⟨a, len, cap, rfl⟩ := okWide_slice Try.underlying42 hv
  obtain ⟨m, h⟩ := h
  exact open_Moves (n := m) (v := .slice a len cap) (by simpa [Value.cells] using h)
end
end Go.Proofs.Ytjdbedlgkngdkaa
