/- Lists of structs in memory: their cells, and lists that are changed one at a time. -/
import Derived.Test.YtkdnddckogbgaaaDoorLst0
import Derived.Test.YtkdnddckogbgaaaDoorDsk
import Derived.Test.YtkdnddckogbgaaaDoorVars
namespace Go.Proofs.YtkdnddckogbgaaaDoor
open Go.RowKit Go.Deep
set_option linter.unusedVariables false

theorem cell1 {w : World} {a : Option Addr} {cs : List Bs} (h : Cells w a (ccells cs)) (i : Nat) (hi : i < cs.length) : ∃ b off, a = some ⟨b, off, none⟩ ∧ w.cell? ⟨b, off + i, none⟩ = some cs[i].v := by
  obtain ⟨b, off, e, h⟩ := elem_at (f := Bs.cells) (sz := 1) (fun _ => rfl) h i hi (by decide)
  exact ⟨b, off, e, by have g := h 0 (by simp [Bs.cells]); simp only [Nat.mul_one, Nat.add_zero] at g; exact g⟩
theorem cell2 {w : World} {a : Option Addr} {ds : List Wr} (h : Cells w a (wcells ds)) (i : Nat) (hi : i < ds.length) :
    ∃ b off, a = some ⟨b, off, none⟩ ∧ w.cell? ⟨b, off + i * 2, none⟩ = some (.int .i64 ds[i].i) ∧ w.cell? ⟨b, off + i * 2 + 1, none⟩ = some ds[i].b.v := by
  obtain ⟨b, off, e, h⟩ := elem_at (f := Wr.cells) (sz := 2) (fun _ => rfl) h i hi (by decide)
  exact ⟨b, off, e, h 0 (by simp [Wr.cells]), h 1 (by simp [Wr.cells])⟩
theorem ccells_len (cs : List Bs) : (ccells cs).length = cs.length := by
  have := flatMap_len (f := Bs.cells) (sz := 1) (fun _ => rfl) cs
  simpa [ccells] using this
theorem wcells_len (ds : List Wr) : (wcells ds).length = ds.length * 2 := flatMap_len (f := Wr.cells) (sz := 2) (fun _ => rfl) ds
theorem ccells_snoc (cs : List Bs) (b : Bs) : ccells (cs ++ [b]) = ccells cs ++ [b.v] := by simp [ccells, Bs.cells]
theorem wcells_snoc (ds : List Wr) (x : Wr) : wcells (ds ++ [x]) = wcells ds ++ [.int .i64 x.i, x.b.v] := by simp [wcells, Wr.cells]

end Go.Proofs.YtkdnddckogbgaaaDoor
