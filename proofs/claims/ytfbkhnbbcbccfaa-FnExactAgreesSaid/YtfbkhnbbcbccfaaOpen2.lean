/- The readings of accounts and lists of lines among a law's arguments. -/
import Derived.Test.YtfbkhnbbcbccfaaGlue2
import Derived.Test.YtfbkhnbbcbccfaaLst0
import Derived.ChangeSame
import Derived.WideShapes
import Derived.Below
namespace Go.Proofs.Ytfbkhnbbcbccfaa
open Go.RowKit Go.ChangeShapes Go.WideShapes Go.Deep
set_option linter.unusedVariables false
set_option maxRecDepth 100000

section
variable {H : Type} {enc : TypeId × Value → H} {W : World} {n : Nat} {cs : List Value} {y : DataW H × List MemPlace} {base : Nat} {sp : Nat → Bool} {hd : Bool}
theorem cellsAcc : Try.prog.cellsOf 88 = 2 := by kernel_rfl
theorem cellsLine : Try.prog.cellsOf 90 = 3 := by kernel_rfl
theorem cellsLines : Try.prog.cellsOf 27 = 1 := by kernel_rfl
theorem open_acc (h : DataW.trod enc Try.prog W base sp hd n 88 cs = some y) : ∃ k c : Int, cs = [.int .i64 k, .int .i64 c] := by
  obtain ⟨y0, y1, m, _, hl, h0, h1⟩ := trod_struct2 Try.underlying88 h
  rw [cellsAcc] at hl
  match cs, hl with
  | [v0, v1], _ =>
    simp [cellsInt] at h0 h1
    obtain ⟨k, e0, _, _⟩ := DataW.trod_int Try.underlying3 h0
    obtain ⟨c, e1, _, _⟩ := DataW.trod_int Try.underlying3 h1
    simp at e0 e1
    exact ⟨k, c, by rw [e0, e1]⟩
theorem open_line (h : DataW.trod enc Try.prog W base sp hd n 90 cs = some y) : ∃ x : Ln, cs = [.int .i64 x.k, .int .i64 x.c, .int .i64 x.a] := by
  obtain ⟨y0, y1, m, _, hl, h0, h1⟩ := trod_struct2 Try.underlying90 h
  rw [cellsLine] at hl
  match cs, hl with
  | [v0, v1, v2], _ =>
    simp [cellsInt, cellsAcc] at h0 h1
    obtain ⟨k, c, e0⟩ := open_acc h0
    obtain ⟨a, e1, _, _⟩ := DataW.trod_int Try.underlying3 h1
    simp at e0 e1
    exact ⟨⟨k, c, a⟩, by rw [e0.1, e0.2, e1]⟩
theorem lines_of : ∀ M : List (List Value), (∀ c ∈ M, c.length = 3 ∧ ∃ x : Ln, c = [.int .i64 x.k, .int .i64 x.c, .int .i64 x.a]) → ∃ L : List Ln, L.length = M.length ∧ M.flatten = flat L
  | [], _ => ⟨[], rfl, rfl⟩
  | c :: M, h => by
    obtain ⟨L, hl, hf⟩ := lines_of M (fun c hc => h c (List.mem_cons_of_mem _ hc))
    obtain ⟨_, x, rfl⟩ := h c (List.mem_cons_self ..)
    exact ⟨x :: L, by simp [hl], by simp [flat, hf, Ln.cells]⟩
/-- A list of lines among the arguments. -/
theorem open_lines {v : Value} (h : DataW.trod enc Try.prog W base sp hd n 27 [v] = some y) :
    ∃ (a : Option Addr) (cap : Nat) (L : List Ln), v = .slice a L.length cap ∧ Cells W a (flat L) ∧ L.length ≤ cap ∧ cap ≤ maxLen := by
  obtain ⟨a, cap, M, hv, hq, hc, hl, hm⟩ := open_cells Try.underlying27 cellsLine (by decide) h (fun c => ∃ x : Ln, c = [.int .i64 x.k, .int .i64 x.c, .int .i64 x.a]) (fun _ _ _ h => open_line h)
  obtain ⟨L, e, ef⟩ := lines_of M hq
  exact ⟨a, cap, L, by rw [hv, e], by rw [← ef]; exact hc, by omega, hm⟩
/-! Rows of a law's arguments. -/
variable {v : Value} {d : DataW H} {ps : List MemPlace}
theorem acc_row {b0 : Nat} (hv : Value.okWide Try.prog W .any b0 88 v) (h : DataW.Trod enc Try.prog W base sp hd 88 v d ps) : ∃ k c : Int, v = accV k c := by
  obtain ⟨cs, rfl, _⟩ := okWide_struct Try.underlying88 hv
  obtain ⟨m, h⟩ := h
  obtain ⟨k, c, e⟩ := open_acc h
  simp [Value.cells] at e
  exact ⟨k, c, by rw [show cs = #[.int .i64 k, .int .i64 c] from Array.toList_inj.1 e]⟩
theorem lines_row {b0 : Nat} (hv : Value.okWide Try.prog W .any b0 27 v) (h : DataW.Trod enc Try.prog W base sp hd 27 v d ps) :
    ∃ (a : Option Addr) (cap : Nat) (L : List Ln), v = .slice a L.length cap ∧ Cells W a (flat L) ∧ L.length ≤ 9223372036854775807 := by
  obtain ⟨a, len, cap, rfl⟩ := okWide_slice Try.underlying27 hv
  obtain ⟨m, h⟩ := h
  obtain ⟨a', cap', L, e, hc, hl, hm⟩ := open_lines (v := .slice a len cap) (by simpa [Value.cells] using h)
  exact ⟨a', cap', L, e, hc, Nat.le_trans hl hm⟩
theorem idlines_row {b0 : Nat} {t : TypeId} {f0 f1 : Field} (hu : Try.prog.underlying t = some (.struct #[f0, f1])) (hs : Try.prog.cellsOf t = 2) (o0 : f0.offset = 0) (o1 : f1.offset = 1) (t0 : f0.type = 3) (t1 : f1.type = 27)
    (hv : Value.okWide Try.prog W .any b0 t v) (h : DataW.Trod enc Try.prog W base sp hd t v d ps) :
    ∃ (id : Int) (a : Option Addr) (cap : Nat) (L : List Ln), v = .agg #[.int .i64 id, .slice a L.length cap] ∧ (Lit.int .i64 id).wf = true ∧ Cells W a (flat L) ∧ L.length ≤ 9223372036854775807 := by
  obtain ⟨cs, rfl, hz⟩ := okWide_struct hu hv
  obtain ⟨m, h⟩ := h
  obtain ⟨y0, y1, n, _, hl, h0, h1⟩ := trod_struct2 hu h
  rw [hs] at hz
  match cs, hz with
  | ⟨[v0, v1]⟩, _ =>
    simp [Value.cells, o0, o1, t0, t1, cellsInt, cellsLines] at h0 h1
    obtain ⟨id, e0, _, hw⟩ := DataW.trod_int Try.underlying3 h0
    obtain ⟨a, cap, L, e1, hc, hl, hm⟩ := open_lines h1
    simp at e0
    exact ⟨id, a, cap, L, by rw [e0, e1], hw, hc, Nat.le_trans hl hm⟩
theorem ledger_row {b0 : Nat} (hv : Value.okWide Try.prog W .any b0 29 v) (h : DataW.Trod enc Try.prog W base sp hd 29 v d ps) :
    ∃ (id : Int) (a : Option Addr) (cap : Nat) (L : List Ln), v = .agg #[.int .i64 id, .slice a L.length cap] ∧ (Lit.int .i64 id).wf = true ∧ Cells W a (flat L) ∧ L.length ≤ 9223372036854775807 :=
  idlines_row Try.underlying29 (by kernel_rfl) rfl rfl rfl rfl hv h
end
theorem lnEq_self (x : Ln) : lnEq x x = true := by simp [lnEq]
theorem lsEq_self (L : List Ln) : lsEq L L = true := lsEq_good rfl (fun i hi => by rw [List.getElem?_eq_getElem hi]; exact lnEq_self _)
end Go.Proofs.Ytfbkhnbbcbccfaa
