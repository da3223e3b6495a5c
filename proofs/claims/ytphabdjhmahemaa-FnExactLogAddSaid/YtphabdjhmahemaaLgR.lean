/- A log as a law's argument. -/
import Derived.Test.YtphabdjhmahemaaLgS
namespace Go.Proofs.Ytphabdjhmahemaa
open Go.RowKit Go.Deep Go.ChangeShapes Go.WideShapes
set_option linter.unusedVariables false
set_option maxRecDepth 10000

section
variable {H : Type} {enc : TypeId × Value → H} {W : World} {n : Nat} {y : DataW H × List MemPlace} {base : Nat} {sp : Nat → Bool} {hd : Bool} {v : Value} {d : DataW H} {ps : List MemPlace}
theorem open_disk {v0 v1 : Value} (h : DataW.trod enc Try.prog W base sp hd n 25 [v0, v1] = some y) :
    ∃ (ca : Option Addr) (cc : Nat) (cs : List Bs) (da : Option Addr) (dc : Nat) (ds : List Wr), v0 = .slice ca cs.length cc ∧ v1 = .slice da ds.length dc ∧ Mem W (dsk ca cs da ds) ∧ Dk.ok ⟨ca, cc, cs, da, dc, ds⟩ := by
  have h1 : Try.prog.cellsOf 22 = 1 := by kernel_rfl
  have h2 : Try.prog.cellsOf 23 = 1 := by kernel_rfl
  have k1 : Try.prog.cellsOf 110 = 1 := by kernel_rfl
  have k2 : Try.prog.cellsOf 112 = 2 := by kernel_rfl
  obtain ⟨y0, y1, n, _, hl, h0, h3⟩ := trod_struct2 Try.underlying25 h
  simp [h1, h2] at h0 h3
  obtain ⟨ca, cc, M, e0, hq, hc, hn, hle⟩ := open_cells' Try.underlying22 k1 (by decide) h0 (fun c => ∃ b : Bs, c = b.cells ∧ Cells W b.a (bys b.L) ∧ b.ok) (fun _ _ _ h => open_cell h)
  obtain ⟨cs, el, ef, hm, ho⟩ := cells_of M hq
  obtain ⟨da, dc, M', e1, hq', hc', hn', hle'⟩ := open_cells' Try.underlying23 k2 (by decide) h3 (fun c => ∃ x : Wr, c = x.cells ∧ Cells W x.b.a (bys x.b.L) ∧ x.b.ok ∧ (Lit.int .i64 x.i).wf = true) (fun _ _ _ h => open_write h)
  obtain ⟨ds, el', ef', hm', ho'⟩ := writes_of M' hq'
  rw [ef] at hc
  rw [ef'] at hc'
  exact ⟨ca, cc, cs, da, dc, ds, by rw [e0, el], by rw [e1, el'], mem_append.2 ⟨mem_cons.2 ⟨hc, hm⟩, mem_cons.2 ⟨hc', hm'⟩⟩, hn.1, hn'.1, by show cs.length ≤ _; rw [el]; exact hle, by show ds.length ≤ _; rw [el']; exact hle', ho, ho'⟩
theorem log_row {b0 : Nat} (hv : Value.okWide Try.prog W .any b0 42 v) (h : DataW.Trod enc Try.prog W base sp hd 42 v d ps) :
    ∃ (ca : Option Addr) (cc : Nat) (cs : List Bs) (da : Option Addr) (dc : Nat) (ds : List Wr) (nx ep : Int), v = logV ca cs.length cc da ds.length dc nx ep ∧ Mem W (dsk ca cs da ds) ∧ Dk.ok ⟨ca, cc, cs, da, dc, ds⟩ ∧ (Lit.int .i64 nx).wf = true ∧ (Lit.int .i64 ep).wf = true := by
  have hs : Try.prog.cellsOf 42 = 4 := by kernel_rfl
  have hdk : Try.prog.cellsOf 25 = 2 := by kernel_rfl
  obtain ⟨cs, rfl, hz⟩ := okWide_struct Try.underlying42 hv
  obtain ⟨m, h⟩ := h
  obtain ⟨y0, y1, y2, n, _, hl, h0, h1, h2⟩ := trod_struct3 Try.underlying42 h
  rw [hs] at hz
  match cs, hz with
  | ⟨[v0, v1, v2, v3]⟩, _ =>
    simp [Value.cells, hdk, cellsInt] at h0 h1 h2
    obtain ⟨ca, cc, cs, da, dc, ds, e0, e1, hm, ho⟩ := open_disk h0
    obtain ⟨nx, e2, _, hw2⟩ := DataW.trod_int Try.underlying3 h1
    obtain ⟨ep, e3, _, hw3⟩ := DataW.trod_int Try.underlying3 h2
    simp at e2 e3
    exact ⟨ca, cc, cs, da, dc, ds, nx, ep, by rw [e0, e1, e2, e3], hm, ho, hw2, hw3⟩
end
end Go.Proofs.Ytphabdjhmahemaa
