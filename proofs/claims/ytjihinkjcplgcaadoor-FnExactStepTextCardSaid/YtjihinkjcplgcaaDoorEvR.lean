/- Events among a law's arguments; what the laws do with them. -/
import Derived.Test.YtjihinkjcplgcaaDoorEv
import Derived.ChangeSame
import Derived.WideShapes
import Derived.Below
namespace Go.Proofs.YtjihinkjcplgcaaDoor
open Go.RowKit Go.ChangeShapes Go.WideShapes
set_option linter.unusedVariables false
set_option maxRecDepth 100000

section
variable {H : Type} {enc : TypeId × Value → H} {W : World} {n : Nat} {cs : List Value} {y : DataW H × List MemPlace} {base : Nat} {sp : Nat → Bool} {hd : Bool}
variable {v : Value} {d : DataW H} {ps : List MemPlace}
theorem event_row {b0 : Nat} (hv : Value.okWide Tryd.prog W .any b0 23 v) (h : DataW.Trod enc Tryd.prog W base sp hd 23 v d ps) :
    ∃ (k y c t m f : Int) (b : Bool), v = evV k y c t m f b ∧ (Lit.int .i64 k).wf = true ∧ (Lit.int .i64 y).wf = true ∧ (Lit.int .i64 c).wf = true ∧ (Lit.int .i64 t).wf = true ∧ (Lit.int .i64 m).wf = true ∧ (Lit.int .i64 f).wf = true := by
  have hs : Tryd.prog.cellsOf 23 = 7 := by kernel_rfl
  have hi : Tryd.prog.cellsOf 3 = 1 := by kernel_rfl
  have hb : Tryd.prog.cellsOf 4 = 1 := by kernel_rfl
  obtain ⟨cs, rfl, hz⟩ := okWide_struct Tryd.underlying23 hv
  obtain ⟨m, h⟩ := h
  obtain ⟨xs, n, _, _, hl, hlen, hf⟩ := DataW.trod_struct Tryd.underlying23 h
  rw [hs] at hz
  match xs, hlen with
  | [x0, x1, x2, x3, x4, x5, x6], _ =>
    match cs, hz with
    | ⟨[v0, v1, v2, v3, v4, v5, v6]⟩, _ =>
      have h0 := hf 0 _ rfl
      have h1 := hf 1 _ rfl
      have h2 := hf 2 _ rfl
      have h3 := hf 3 _ rfl
      have h4 := hf 4 _ rfl
      have h5 := hf 5 _ rfl
      have h6 := hf 6 _ rfl
      simp [Value.cells, hi, hb] at h0 h1 h2 h3 h4 h5 h6
      obtain ⟨k, e0, _, w0⟩ := DataW.trod_int Tryd.underlying3 h0
      obtain ⟨y, e1, _, w1⟩ := DataW.trod_int Tryd.underlying3 h1
      obtain ⟨c, e2, _, w2⟩ := DataW.trod_int Tryd.underlying3 h2
      obtain ⟨t, e3, _, w3⟩ := DataW.trod_int Tryd.underlying3 h3
      obtain ⟨m', e4, _, w4⟩ := DataW.trod_int Tryd.underlying3 h4
      obtain ⟨f, e5, _, w5⟩ := DataW.trod_int Tryd.underlying3 h5
      obtain ⟨b, e6, _⟩ := DataW.trod_bool Tryd.underlying4 h6
      simp at e0 e1 e2 e3 e4 e5 e6
      exact ⟨k, y, c, t, m', f, b, by rw [e0, e1, e2, e3, e4, e5, e6], w0, w1, w2, w3, w4, w5⟩
theorem lt_rowE {t : TypeId} (h : DataW.Trod enc Tryd.prog W base sp hd t v d ps) : ∀ x ∈ ps, x.block < W.heap.size := by
  obtain ⟨m, hm⟩ := h
  exact DataW.trod_lt m _ _ _ hm
end
theorem toEvent_k (k y c t m f : Int) (b : Bool) (w : World) : Calls Tryd.prog 16 #[evV k y c t m f b] w fun e w' => e = .returned (evV k y c t m f b) ∧ Keeps w w' := by
  go_enter Tryd.func16, Tryd.ntmps16
  go_wp2_with fail
  refine bodyPost_ret (v := evV k y c t m f b) (by simp [results, Tryd.results16, go_sem]) rfl ⟨rfl, ?_⟩
  repeat (first | exact Keeps.refl _ | refine Keeps.alloc ?_ _ | refine Keeps.setCell ?_ (by simp) _)
end Go.Proofs.YtjihinkjcplgcaaDoor
