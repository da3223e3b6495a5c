/- Edges as data. -/
import Derived.Test.YtjdbedlgkngdkaaFlt
namespace Go.Proofs.Ytjdbedlgkngdkaa
open Go.RowKit Go.Deep
set_option linter.unusedVariables false
set_option linter.unusedSimpArgs false
set_option maxRecDepth 10000

structure Edg where
  fr : Int
  to : Int
  cp : Int
  co : Int
def Edg.cells (x : Edg) : List Value := [.int .i64 x.fr, .int .i64 x.to, .int .i64 x.cp, .int .i64 x.co]
def egs (xs : List Edg) : List Value := xs.flatMap Edg.cells
theorem egs_len (xs : List Edg) : (egs xs).length = xs.length * 4 := flatMap_len (f := Edg.cells) (sz := 4) (fun _ => rfl) xs
theorem egs_append (xs ys : List Edg) : egs (xs ++ ys) = egs xs ++ egs ys := by simp [egs]
theorem egs_at {w : World} {a : Option Addr} {xs : List Edg} (h : Cells w a (egs xs)) (k : Nat) (hk : k < xs.length) :
    ∃ b off, a = some ⟨b, off, none⟩ ∧ w.cell? ⟨b, off + k * 4, none⟩ = some (.int .i64 xs[k].fr) ∧ w.cell? ⟨b, off + k * 4 + 1, none⟩ = some (.int .i64 xs[k].to) ∧ w.cell? ⟨b, off + k * 4 + 2, none⟩ = some (.int .i64 xs[k].cp) ∧ w.cell? ⟨b, off + k * 4 + 3, none⟩ = some (.int .i64 xs[k].co) := by
  obtain ⟨b, off, e, h⟩ := elem_at (f := Edg.cells) (sz := 4) (fun _ => rfl) h k hk (by decide)
  exact ⟨b, off, e, h 0 (by simp [Edg.cells]), h 1 (by simp [Edg.cells]), h 2 (by simp [Edg.cells]), h 3 (by simp [Edg.cells])⟩
end Go.Proofs.Ytjdbedlgkngdkaa
