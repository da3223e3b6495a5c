/- A rule among a law's arguments. -/
import Derived.Test.YtjihinkjcplgcaaDoorTn
import Derived.ChangeSame
import Derived.WideShapes
import Derived.Below
namespace Go.Proofs.YtjihinkjcplgcaaDoor
open Go.RowKit Go.ChangeShapes Go.WideShapes
set_option linter.unusedVariables false
set_option linter.unusedSimpArgs false
set_option maxRecDepth 100000

theorem toRule_k (x : Rul) (w : World) : Calls Tryd.prog 18 #[x.v] w fun e w' => e = .returned x.v ∧ Keeps w w' := by
  obtain ⟨xlo, xhi, xst, xmi, xma⟩ := x
  dsimp only [Rul.v]
  go_enter Tryd.func18, Tryd.ntmps18
  go_wp2_with fail
  refine bodyPost_ret (v := .agg #[.int .i64 xlo, .int .i64 xhi, .int .i64 xst, .int .i64 xmi, .int .i64 xma]) (by simp [results, Tryd.results18, go_sem]) rfl ⟨rfl, ?_⟩
  repeat (first | exact Keeps.refl _ | refine Keeps.alloc ?_ _ | refine Keeps.setCell ?_ (by simp) _)
section
variable {H : Type} {enc : TypeId × Value → H} {W : World} {base : Nat} {sp : Nat → Bool} {hd : Bool}
variable {v : Value} {d : DataW H} {ps : List MemPlace}
theorem rule_row {b0 : Nat} (hv : Value.okWide Tryd.prog W .any b0 26 v) (h : DataW.Trod enc Tryd.prog W base sp hd 26 v d ps) : ∃ c : Rul, v = c.v := by
  have hs : Tryd.prog.cellsOf 26 = 5 := by kernel_rfl
  have hi : Tryd.prog.cellsOf 3 = 1 := by kernel_rfl
  obtain ⟨cs, rfl, hz⟩ := okWide_struct Tryd.underlying26 hv
  obtain ⟨m, h⟩ := h
  obtain ⟨xs, n, _, _, hl, hlen, hf⟩ := DataW.trod_struct Tryd.underlying26 h
  rw [hs] at hz
  match xs, hlen with
  | [x0, x1, x2, x3, x4], _ =>
    match cs, hz with
    | ⟨[v0, v1, v2, v3, v4]⟩, _ =>
      have h0 := hf 0 _ rfl
      have h1 := hf 1 _ rfl
      have h2 := hf 2 _ rfl
      have h3 := hf 3 _ rfl
      have h4 := hf 4 _ rfl
      simp [Value.cells, hi] at h0 h1 h2 h3 h4
      obtain ⟨y0, e0, _, w0⟩ := DataW.trod_int Tryd.underlying3 h0
      obtain ⟨y1, e1, _, w1⟩ := DataW.trod_int Tryd.underlying3 h1
      obtain ⟨y2, e2, _, w2⟩ := DataW.trod_int Tryd.underlying3 h2
      obtain ⟨y3, e3, _, w3⟩ := DataW.trod_int Tryd.underlying3 h3
      obtain ⟨y4, e4, _, w4⟩ := DataW.trod_int Tryd.underlying3 h4
      simp at e0 e1 e2 e3 e4
      exact ⟨⟨y0, y1, y2, y3, y4⟩, by rw [e0, e1, e2, e3, e4]; rfl⟩
end
end Go.Proofs.YtjihinkjcplgcaaDoor
