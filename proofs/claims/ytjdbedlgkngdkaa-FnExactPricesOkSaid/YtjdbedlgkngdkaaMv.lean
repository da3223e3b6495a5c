/- Moves as data. -/
import Derived.Test.YtjdbedlgkngdkaaFlt
namespace Go.Proofs.Ytjdbedlgkngdkaa
open Go.RowKit Go.Deep
set_option linter.unusedVariables false
set_option linter.unusedSimpArgs false
set_option maxRecDepth 10000

structure Mov where
  fr : Int
  to : Int
  am : Int
  pp : Int
def Mov.cells (x : Mov) : List Value := [.int .i64 x.fr, .int .i64 x.to, .int .i64 x.am, .int .i64 x.pp]
def mvs (xs : List Mov) : List Value := xs.flatMap Mov.cells
theorem mvs_len (xs : List Mov) : (mvs xs).length = xs.length * 4 := flatMap_len (f := Mov.cells) (sz := 4) (fun _ => rfl) xs
theorem mvs_append (xs ys : List Mov) : mvs (xs ++ ys) = mvs xs ++ mvs ys := by simp [mvs]
theorem mvs_at {w : World} {a : Option Addr} {xs : List Mov} (h : Cells w a (mvs xs)) (k : Nat) (hk : k < xs.length) :
    ∃ b off, a = some ⟨b, off, none⟩ ∧ w.cell? ⟨b, off + k * 4, none⟩ = some (.int .i64 xs[k].fr) ∧ w.cell? ⟨b, off + k * 4 + 1, none⟩ = some (.int .i64 xs[k].to) ∧ w.cell? ⟨b, off + k * 4 + 2, none⟩ = some (.int .i64 xs[k].am) ∧ w.cell? ⟨b, off + k * 4 + 3, none⟩ = some (.int .i64 xs[k].pp) := by
  obtain ⟨b, off, e, h⟩ := elem_at (f := Mov.cells) (sz := 4) (fun _ => rfl) h k hk (by decide)
  exact ⟨b, off, e, h 0 (by simp [Mov.cells]), h 1 (by simp [Mov.cells]), h 2 (by simp [Mov.cells]), h 3 (by simp [Mov.cells])⟩
end Go.Proofs.Ytjdbedlgkngdkaa
