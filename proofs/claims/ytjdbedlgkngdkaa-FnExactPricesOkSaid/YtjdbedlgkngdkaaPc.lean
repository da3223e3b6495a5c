/- Prices as data. -/
import Derived.Test.YtjdbedlgkngdkaaFlt
namespace Go.Proofs.Ytjdbedlgkngdkaa
open Go.RowKit Go.Deep
set_option linter.unusedVariables false
set_option linter.unusedSimpArgs false
set_option maxRecDepth 10000

structure Prc where
  fr : Int
  to : Int
  pp : Int
def Prc.cells (x : Prc) : List Value := [.int .i64 x.fr, .int .i64 x.to, .int .i64 x.pp]
def pcs (xs : List Prc) : List Value := xs.flatMap Prc.cells
theorem pcs_len (xs : List Prc) : (pcs xs).length = xs.length * 3 := flatMap_len (f := Prc.cells) (sz := 3) (fun _ => rfl) xs
theorem pcs_append (xs ys : List Prc) : pcs (xs ++ ys) = pcs xs ++ pcs ys := by simp [pcs]
theorem pcs_at {w : World} {a : Option Addr} {xs : List Prc} (h : Cells w a (pcs xs)) (k : Nat) (hk : k < xs.length) :
    ∃ b off, a = some ⟨b, off, none⟩ ∧ w.cell? ⟨b, off + k * 3, none⟩ = some (.int .i64 xs[k].fr) ∧ w.cell? ⟨b, off + k * 3 + 1, none⟩ = some (.int .i64 xs[k].to) ∧ w.cell? ⟨b, off + k * 3 + 2, none⟩ = some (.int .i64 xs[k].pp) := by
  obtain ⟨b, off, e, h⟩ := elem_at (f := Prc.cells) (sz := 3) (fun _ => rfl) h k hk (by decide)
  exact ⟨b, off, e, h 0 (by simp [Prc.cells]), h 1 (by simp [Prc.cells]), h 2 (by simp [Prc.cells])⟩
end Go.Proofs.Ytjdbedlgkngdkaa
