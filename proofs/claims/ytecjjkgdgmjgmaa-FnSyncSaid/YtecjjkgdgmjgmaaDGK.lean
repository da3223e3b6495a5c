/- What the laws do with disks. -/
import Derived.Test.YtecjjkgdgmjgmaaDGX
namespace Go.Proofs.Ytecjjkgdgmjgmaa
open Go.RowKit Go.Deep Go.ChangeShapes Go.WideShapes
set_option linter.unusedVariables false
set_option maxRecDepth 10000

abbrev dskV (ca : Option Addr) (cn cc : Nat) (da : Option Addr) (dn dc : Nat) : Value := .agg #[.slice ca cn cc, .slice da dn dc]
/-- The lists of a disk. -/
def dsk (ca : Option Addr) (cs : List Bs) (da : Option Addr) (ds : List Wr) : List Seg := ((ca, ccells cs) :: cs.map Bs.seg) ++ ((da, wcells ds) :: ds.map Wr.seg)
theorem dsk_mem {w : World} {ca : Option Addr} {cs : List Bs} {da : Option Addr} {ds : List Wr} (h : Mem w (dsk ca cs da ds)) : Cells w ca (ccells cs) ∧ Mem w (cs.map Bs.seg) ∧ Cells w da (wcells ds) ∧ Mem w (ds.map Wr.seg) := by
  obtain ⟨h1, h2⟩ := mem_append.1 h
  obtain ⟨h3, h4⟩ := mem_cons.1 h1
  obtain ⟨h5, h6⟩ := mem_cons.1 h2
  exact ⟨h3, h4, h5, h6⟩
theorem fp_segC : ∀ (n : Nat) (cs : List Bs), fp ((markC n cs).map Bs.seg) = fp (cs.map Bs.seg)
  | _, [] => rfl
  | n, b :: t => by
    simp only [markC, List.map_cons, fp_cons, fp_segC (n + b.L.length) t]
    congr 1
    exact fpS_len (by simp [bys_length, marksB_length])
theorem fp_markC (n : Nat) (ca : Option Addr) (cs : List Bs) : fp ((ca, ccells cs) :: (markC n cs).map Bs.seg) = fp ((ca, ccells cs) :: cs.map Bs.seg) := by
  rw [fp_cons, fp_cons, fp_segC]
theorem fp_segW : ∀ (n : Nat) (ds : List Wr), fp ((markW n ds).map Wr.seg) = fp (ds.map Wr.seg)
  | _, [] => rfl
  | n, b :: t => by
    simp only [markW, List.map_cons, fp_cons, fp_segW (n + 1 + b.b.L.length) t]
    congr 1
    exact fpS_len (by simp [bys_length, marksB_length])
theorem fp_markW (n : Nat) (da : Option Addr) (ds : List Wr) : fp ((da, wcells (markW n ds)) :: (markW n ds).map Wr.seg) = fp ((da, wcells ds) :: ds.map Wr.seg) := by
  rw [fp_cons, fp_cons, fp_segW]
  congr 1
  exact fpS_len (by simp [wcells_len, markW_len])
section
variable {H : Type} {enc : TypeId × Value → H} {W : World} {n : Nat} {cs : List Value} {y : DataW H × List MemPlace} {base : Nat} {sp : Nat → Bool} {hd : Bool} {v : Value} {d : DataW H} {ps : List MemPlace}
theorem cells_of : ∀ M : List (List Value), (∀ c ∈ M, c.length = 1 ∧ ∃ b : Bs, c = b.cells ∧ Cells W b.a (bys b.L) ∧ b.ok) → ∃ cs : List Bs, cs.length = M.length ∧ M.flatten = ccells cs ∧ Mem W (cs.map Bs.seg) ∧ ∀ b ∈ cs, b.ok
  | [], _ => ⟨[], rfl, rfl, Mem.nil W, fun b hb => absurd hb (by simp)⟩
  | c :: M, h => by
    obtain ⟨cs, hl, hf, hm, ho⟩ := cells_of M (fun c hc => h c (List.mem_cons_of_mem _ hc))
    obtain ⟨_, b, rfl, hc, hb⟩ := h c (List.mem_cons_self ..)
    refine ⟨b :: cs, by simp [hl], by simp [ccells, hf], mem_cons.2 ⟨hc, hm⟩, ?_⟩
    intro x hx
    rcases List.mem_cons.1 hx with rfl | hx
    · exact hb
    · exact ho x hx
theorem writes_of : ∀ M : List (List Value), (∀ c ∈ M, c.length = 2 ∧ ∃ x : Wr, c = x.cells ∧ Cells W x.b.a (bys x.b.L) ∧ x.b.ok ∧ (Lit.int .i64 x.i).wf = true) → ∃ ds : List Wr, ds.length = M.length ∧ M.flatten = wcells ds ∧ Mem W (ds.map Wr.seg) ∧ ∀ x ∈ ds, x.b.ok ∧ (Lit.int .i64 x.i).wf = true
  | [], _ => ⟨[], rfl, rfl, Mem.nil W, fun b hb => absurd hb (by simp)⟩
  | c :: M, h => by
    obtain ⟨ds, hl, hf, hm, ho⟩ := writes_of M (fun c hc => h c (List.mem_cons_of_mem _ hc))
    obtain ⟨_, b, rfl, hc, hb⟩ := h c (List.mem_cons_self ..)
    refine ⟨b :: ds, by simp [hl], by simp [wcells, hf], mem_cons.2 ⟨hc, hm⟩, ?_⟩
    intro x hx
    rcases List.mem_cons.1 hx with rfl | hx
    · exact hb
    · exact ho x hx
end
end Go.Proofs.Ytecjjkgdgmjgmaa
