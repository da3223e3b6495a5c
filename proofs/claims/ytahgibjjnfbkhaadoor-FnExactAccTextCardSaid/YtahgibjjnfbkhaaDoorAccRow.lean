/- The readings of accounts among a law's arguments. -/
import Derived.Test.YtahgibjjnfbkhaaDoorAccD
import Derived.ChangeSame
import Derived.WideShapes
import Derived.Below
import Derived.Deep.Slices
namespace Go.Proofs.YtahgibjjnfbkhaaDoor
open Go.RowKit Go.ChangeShapes Go.WideShapes Go.Deep
set_option linter.unusedVariables false
set_option maxRecDepth 100000

section
variable {H : Type} {enc : TypeId × Value → H} {W : World} {n : Nat} {cs : List Value} {y : DataW H × List MemPlace} {base : Nat} {sp : Nat → Bool} {hd : Bool}
theorem cellsAcc : Tryd.prog.cellsOf 31 = 2 := by kernel_rfl
theorem cellsInt : Tryd.prog.cellsOf 3 = 1 := by kernel_rfl
theorem open_acc (h : DataW.trod enc Tryd.prog W base sp hd n 31 cs = some y) : ∃ k c : Int, cs = [.int .i64 k, .int .i64 c] := by
  obtain ⟨y0, y1, m, _, hl, h0, h1⟩ := trod_struct2 Tryd.underlying31 h
  rw [cellsAcc] at hl
  match cs, hl with
  | [v0, v1], _ =>
    simp [cellsInt] at h0 h1
    obtain ⟨k, e0, _, _⟩ := DataW.trod_int Tryd.underlying3 h0
    obtain ⟨c, e1, _, _⟩ := DataW.trod_int Tryd.underlying3 h1
    simp at e0 e1
    exact ⟨k, c, by rw [e0, e1]⟩
variable {v : Value} {d : DataW H} {ps : List MemPlace}
theorem acc_row {b0 : Nat} (hv : Value.okWide Tryd.prog W .any b0 31 v) (h : DataW.Trod enc Tryd.prog W base sp hd 31 v d ps) : ∃ k c : Int, v = accV k c := by
  obtain ⟨cs, rfl, _⟩ := okWide_struct Tryd.underlying31 hv
  obtain ⟨m, h⟩ := h
  obtain ⟨k, c, e⟩ := open_acc h
  simp [Value.cells] at e
  exact ⟨k, c, by rw [show cs = #[.int .i64 k, .int .i64 c] from Array.toList_inj.1 e]⟩
theorem lt_row {t : TypeId} (h : DataW.Trod enc Tryd.prog W base sp hd t v d ps) : ∀ x ∈ ps, x.block < W.heap.size := by
  obtain ⟨m, hm⟩ := h
  exact DataW.trod_lt m _ _ _ hm
end
end Go.Proofs.YtahgibjjnfbkhaaDoor
