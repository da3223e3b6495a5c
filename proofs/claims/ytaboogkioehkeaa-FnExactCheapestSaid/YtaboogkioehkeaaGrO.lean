/- Lists of numbers and graphs among a law's arguments. -/
import Derived.Test.YtaboogkioehkeaaIntL
import Derived.Test.YtaboogkioehkeaaGr
import Derived.ChangeSame
import Derived.WideShapes
import Derived.Below
namespace Go.Proofs.Ytaboogkioehkeaa
open Go.RowKit Go.ChangeShapes Go.WideShapes Go.Deep
set_option linter.unusedVariables false
set_option maxRecDepth 100000
section
variable {H : Type} {enc : TypeId × Value → H} {W : World} {n : Nat} {cs : List Value} {y : DataW H × List MemPlace} {base : Nat} {sp : Nat → Bool} {hd : Bool}
theorem ints_of : ∀ M : List (List Value), (∀ c ∈ M, c.length = 1 ∧ ∃ x : Int, c = [.int .i64 x]) → ∃ L : List Int, L.length = M.length ∧ M.flatten = its L
  | [], _ => ⟨[], rfl, rfl⟩
  | c :: M, h => by
    obtain ⟨L, hl, hf⟩ := ints_of M (fun c hc => h c (List.mem_cons_of_mem _ hc))
    obtain ⟨_, x, rfl⟩ := h c (List.mem_cons_self ..)
    exact ⟨x :: L, by simp [hl], by simp [its, hf]⟩
theorem cellsEdge : Try.prog.cellsOf 88 = 4 := by kernel_rfl
theorem open_Edge (h : DataW.trod enc Try.prog W base sp hd n 88 cs = some y) : ∃ x : Edg, cs = x.cells := by
  obtain ⟨xs, n, _, _, hl, hlen, hf⟩ := DataW.trod_struct Try.underlying88 h
  rw [cellsEdge] at hl
  match xs, hlen with
  | [x0, x1, x2, x3], _ =>
    match cs, hl with
    | [v0, v1, v2, v3], _ =>
      have h0 := hf 0 _ rfl
      have h1 := hf 1 _ rfl
      have h2 := hf 2 _ rfl
      have h3 := hf 3 _ rfl
      simp [cellsInt] at h0 h1 h2 h3
      obtain ⟨y0, e0, _, _⟩ := DataW.trod_int Try.underlying3 h0
      obtain ⟨y1, e1, _, _⟩ := DataW.trod_int Try.underlying3 h1
      obtain ⟨y2, e2, _, _⟩ := DataW.trod_int Try.underlying3 h2
      obtain ⟨y3, e3, _, _⟩ := DataW.trod_int Try.underlying3 h3
      simp at e0 e1 e2 e3
      exact ⟨⟨y0, y1, y2, y3⟩, by rw [e0, e1, e2, e3]; rfl⟩
theorem egs_of : ∀ M : List (List Value), (∀ c ∈ M, c.length = 4 ∧ ∃ x : Edg, c = x.cells) → ∃ L : List Edg, L.length = M.length ∧ M.flatten = egs L
  | [], _ => ⟨[], rfl, rfl⟩
  | c :: M, h => by
    obtain ⟨L, hl, hf⟩ := egs_of M (fun c hc => h c (List.mem_cons_of_mem _ hc))
    obtain ⟨_, x, rfl⟩ := h c (List.mem_cons_self ..)
    exact ⟨x :: L, by simp [hl], by simp [egs, hf]⟩
theorem open_Edges {v : Value} (h : DataW.trod enc Try.prog W base sp hd n 38 [v] = some y) :
    ∃ (a : Option Addr) (cap : Nat) (L : List Edg), v = .slice a L.length cap ∧ Cells W a (egs L) ∧ ((a = none → cap = 0) ∧ L.length ≤ cap) ∧ L.length ≤ 9223372036854775807 := by
  obtain ⟨a, cap, M, hv, hq, hc, hn, hl⟩ := open_cells' Try.underlying38 cellsEdge (by decide) h (fun c => ∃ x : Edg, c = x.cells) (fun _ _ _ h => open_Edge h)
  obtain ⟨L, e, ef⟩ := egs_of M hq
  exact ⟨a, cap, L, by rw [hv, e], by rw [← ef]; exact hc, ⟨hn.1, by rw [e]; exact hn.2⟩, by rw [e]; exact hl⟩
theorem cellsGraph : Try.prog.cellsOf 40 = 2 := by kernel_rfl
theorem cellsEdges : Try.prog.cellsOf 38 = 1 := by kernel_rfl
variable {v : Value} {d : DataW H} {ps : List MemPlace}
theorem ints_row {b0 : Nat} (hv : Value.okWide Try.prog W .any b0 27 v) (h : DataW.Trod enc Try.prog W base sp hd 27 v d ps) :
    ∃ (a : Option Addr) (cap : Nat) (L : List Int), v = .slice a L.length cap ∧ Cells W a (its L) ∧ (a = none → cap = 0) ∧ L.length ≤ 9223372036854775807 := by
  obtain ⟨a, len, cap, rfl⟩ := okWide_slice underInts hv
  obtain ⟨m, h⟩ := h
  obtain ⟨a', cap', M, hv', hq, hc, hn, hl⟩ := open_cells' underInts cellsInt (by decide) (v := .slice a len cap) (by simpa [Value.cells] using h) (fun c => ∃ x : Int, c = [.int .i64 x]) (fun _ _ _ h => by
    obtain ⟨k, e, _, _⟩ := DataW.trod_int Try.underlying3 h
    exact ⟨k, e⟩)
  obtain ⟨L, e, ef⟩ := ints_of M hq
  exact ⟨a', cap', L, by rw [hv', ← e], by rw [← ef]; exact hc, hn.1, by rw [e]; exact hl⟩
theorem graph_row {b0 : Nat} (hv : Value.okWide Try.prog W .any b0 40 v) (h : DataW.Trod enc Try.prog W base sp hd 40 v d ps) :
    ∃ G : Gf, v = G.v ∧ Mem W G.segs ∧ G.fit ∧ G.E.length ≤ 9223372036854775807 := by
  obtain ⟨cs, rfl, hz⟩ := okWide_struct Try.underlying40 hv
  obtain ⟨m, h⟩ := h
  obtain ⟨xs, n, _, _, hl, hlen, hf⟩ := DataW.trod_struct Try.underlying40 h
  rw [cellsGraph] at hz
  match xs, hlen with
  | [x0, x1], _ =>
    match cs, hz with
    | ⟨[v0, v1]⟩, _ =>
      have h0 := hf 0 _ rfl
      have h1 := hf 1 _ rfl
      simp [Value.cells, cellsInt, cellsEdges] at h0 h1
      obtain ⟨nn, e0, _, _⟩ := DataW.trod_int Try.underlying3 h0
      obtain ⟨ea, ec, E, e1, c1, f1, l1⟩ := open_Edges h1
      simp at e0
      exact ⟨⟨nn, ea, ec, E⟩, by rw [e0, e1]; rfl, mem_cons.2 ⟨c1, Mem.nil _⟩, f1, l1⟩
end
end Go.Proofs.Ytaboogkioehkeaa
