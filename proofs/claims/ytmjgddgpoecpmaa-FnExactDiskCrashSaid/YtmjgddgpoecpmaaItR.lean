/- Lists of numbers among a law's arguments. -/
import Derived.Test.YtmjgddgpoecpmaaItg
namespace Go.Proofs.Ytmjgddgpoecpmaa
open Go.RowKit Go.ChangeShapes Go.WideShapes Go.Deep
set_option linter.unusedVariables false
set_option maxRecDepth 100000
section
variable {H : Type} {enc : TypeId × Value → H} {W : World} {n : Nat} {cs : List Value} {y : DataW H × List MemPlace} {base : Nat} {sp : Nat → Bool} {hd : Bool}
theorem ints_of : ∀ M : List (List Value), (∀ c ∈ M, c.length = 1 ∧ ∃ x : Int, c = [.int .i64 x]) → ∃ L : List Int, L.length = M.length ∧ M.flatten = its L
  | [], _ => ⟨[], rfl, rfl⟩
  | c :: M, h => by
    obtain ⟨L, hl, hf⟩ := ints_of M (fun c hc => h c (List.mem_cons_of_mem _ hc))
    obtain ⟨_, x, rfl⟩ := h c (List.mem_cons_self ..)
    exact ⟨x :: L, by simp [hl], by simp [its, hf]⟩
variable {v : Value} {d : DataW H} {ps : List MemPlace}
theorem ints_row {b0 : Nat} (hv : Value.okWide Try.prog W .any b0 48 v) (h : DataW.Trod enc Try.prog W base sp hd 48 v d ps) :
    ∃ (a : Option Addr) (cap : Nat) (L : List Int), v = .slice a L.length cap ∧ Cells W a (its L) ∧ (a = none → cap = 0) ∧ L.length ≤ 9223372036854775807 := by
  obtain ⟨a, len, cap, rfl⟩ := okWide_slice underInts hv
  obtain ⟨m, h⟩ := h
  obtain ⟨a', cap', M, hv', hq, hc, hn, hl⟩ := open_cells' underInts cellsInt (by decide) (v := .slice a len cap) (by simpa [Value.cells] using h) (fun c => ∃ x : Int, c = [.int .i64 x]) (fun _ _ _ h => by
    obtain ⟨k, e, _, _⟩ := DataW.trod_int Try.underlying3 h
    exact ⟨k, e⟩)
  obtain ⟨L, e, ef⟩ := ints_of M hq
  exact ⟨a', cap', L, by rw [hv', ← e], by rw [← ef]; exact hc, hn.1, by rw [e]; exact hl⟩
end
end Go.Proofs.Ytmjgddgpoecpmaa
