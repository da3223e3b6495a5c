/- Graphs as data. -/
import Derived.Test.YtjdbedlgkngdkaaEg
namespace Go.Proofs.Ytjdbedlgkngdkaa
open Go.RowKit Go.Deep
set_option linter.unusedVariables false
set_option linter.unusedSimpArgs false
set_option maxRecDepth 10000

/-- A graph in memory. -/
structure Gf where
  nn : Int
  ea : Option Addr
  ec : Nat
  E : List Edg
def Gf.v (G : Gf) : Value := .agg #[.int .i64 G.nn, .slice G.ea G.E.length G.ec]
def Gf.segs (G : Gf) : List Seg := [(G.ea, egs G.E)]
def Gf.d (G : Gf) : Int × List Edg := (G.nn, G.E)
def Gf.len (G : Gf) : Prop := G.E.length ≤ 1048576
def Gf.fit (G : Gf) : Prop := (G.ea = none → G.ec = 0) ∧ G.E.length ≤ G.ec
theorem Gf.memE {w : World} {G : Gf} (h : Mem w G.segs) : Cells w G.ea (egs G.E) := h (G.ea, egs G.E) (by simp [Gf.segs])
/-- A graph lies in a block of its own. -/
def GrAt (w : World) (b : Nat) (G : Gf) : Prop := w.cell? ⟨b, 0, none⟩ = some (.int .i64 G.nn) ∧ w.cell? ⟨b, 1, none⟩ = some (.slice G.ea G.E.length G.ec)
theorem GrAt.kept {w w' : World} {b : Nat} {G : Gf} (h : GrAt w b G) (hk : Keeps w w') : GrAt w' b G := ⟨hk.cell h.1, hk.cell h.2⟩
theorem gr_box (G : Gf) (w : World) (T : TypeId) : GrAt (w.alloc (.cells #[.int .i64 G.nn, .slice G.ea G.E.length G.ec] T)) w.heap.size G := by
  constructor <;> simp
end Go.Proofs.Ytjdbedlgkngdkaa
