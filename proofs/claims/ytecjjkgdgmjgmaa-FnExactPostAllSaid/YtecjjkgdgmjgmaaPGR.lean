/- A list of postings among a law's arguments. -/
import Derived.Test.YtecjjkgdgmjgmaaPGS
namespace Go.Proofs.Ytecjjkgdgmjgmaa
open Go.RowKit Go.ChangeShapes Go.WideShapes Go.Deep
set_option linter.unusedVariables false
set_option maxRecDepth 100000
section
variable {H : Type} {enc : TypeId × Value → H} {W : World} {n : Nat} {cs : List Value} {y : DataW H × List MemPlace} {base : Nat} {sp : Nat → Bool} {hd : Bool} {v : Value} {d : DataW H} {ps : List MemPlace}
theorem open_posting (h : DataW.trod enc Try.prog W base sp hd n 55 cs = some y) : ∃ x : Pg, cs = x.cells ∧ Cells W x.b.a (flat x.b.L) ∧ x.b.L.length ≤ 9223372036854775807 := by
  have hs : Try.prog.cellsOf 55 = 2 := by kernel_rfl
  obtain ⟨y0, y1, m, _, hl, h0, h1⟩ := trod_struct2 Try.underlying55 h
  rw [hs] at hl
  match cs, hl with
  | [v0, v1], _ =>
    simp [cellsLines, cellsInt] at h0 h1
    obtain ⟨i, e0, _, hw⟩ := DataW.trod_int Try.underlying3 h0
    obtain ⟨a, cap, L, e, hc, hl, hm⟩ := open_lines h1
    simp at e0
    exact ⟨⟨i, ⟨a, cap, L⟩⟩, by rw [e0, e]; rfl, hc, Nat.le_trans hl hm⟩
theorem postings_of : ∀ M : List (List Value), (∀ c ∈ M, c.length = 2 ∧ ∃ x : Pg, c = x.cells ∧ Cells W x.b.a (flat x.b.L) ∧ x.b.L.length ≤ 9223372036854775807) → ∃ ds : List Pg, ds.length = M.length ∧ M.flatten = pcells ds ∧ Mem W (ds.map Pg.seg) ∧ ∀ x ∈ ds, x.b.L.length ≤ 9223372036854775807
  | [], _ => ⟨[], rfl, rfl, Mem.nil W, fun b hb => absurd hb (by simp)⟩
  | c :: M, h => by
    obtain ⟨ds, hl, hf, hm, ho⟩ := postings_of M (fun c hc => h c (List.mem_cons_of_mem _ hc))
    obtain ⟨_, b, rfl, hc, hb⟩ := h c (List.mem_cons_self ..)
    refine ⟨b :: ds, by simp [hl], by simp [pcells, hf], mem_cons.2 ⟨hc, hm⟩, ?_⟩
    intro x hx
    rcases List.mem_cons.1 hx with rfl | hx
    · exact hb
    · exact ho x hx
theorem postings_row {b0 : Nat} (hv : Value.okWide Try.prog W .any b0 65 v) (h : DataW.Trod enc Try.prog W base sp hd 65 v d ps) :
    ∃ (a : Option Addr) (cap : Nat) (ds : List Pg), v = .slice a ds.length cap ∧ Cells W a (pcells ds) ∧ Mem W (ds.map Pg.seg) ∧ (∀ x ∈ ds, x.b.L.length ≤ 9223372036854775807) ∧ ds.length ≤ 9223372036854775807 := by
  obtain ⟨a, len, cap, rfl⟩ := okWide_slice Try.underlying65 hv
  obtain ⟨m, h⟩ := h
  have k2 : Try.prog.cellsOf 55 = 2 := by kernel_rfl
  obtain ⟨a', cap', M, e, hq, hc, hl, hm⟩ := open_cells (v := .slice a len cap) Try.underlying65 k2 (by decide) (by simpa [Value.cells] using h) (fun c => ∃ x : Pg, c = x.cells ∧ Cells W x.b.a (flat x.b.L) ∧ x.b.L.length ≤ 9223372036854775807) (fun _ _ _ h => open_posting h)
  obtain ⟨ds, e1, ef, hmm, ho⟩ := postings_of M hq
  exact ⟨a', cap', ds, by rw [e, e1], by rw [← ef]; exact hc, hmm, ho, by rw [e1]; exact Nat.le_trans hl hm⟩
end
end Go.Proofs.Ytecjjkgdgmjgmaa
