/- What the listed sentinels give. -/
import Derived.Test.YtkdnddckogbgaaaDoorKeep
namespace Go.Proofs.YtkdnddckogbgaaaDoor
open Go.RowKit Go.ChangeShapes

theorem cells96 : Tryd.prog.cellsOf 158 = 1 := by kernel_rfl
theorem cells9 : Tryd.prog.cellsOf 9 = 1 := by kernel_rfl
theorem star : "*" ++ "errors.errorString" = "*errors.errorString" := by decide
theorem row94 (u : TypeId) (h : Tryd.prog.typeName? 3 u = some "*errors.errorString") : u = 139 :=
  typeName_ptr_named (nm := "errors.errorString") (by rw [star]; kernel_rfl) (by kernel_rfl) (by decide) u (by rw [star]; exact h)

/-- The head of the list, a sentinel: its variable holds a pointer. -/
theorem sent {n : String} {text : List UInt8} {r : List (String × DataW Unit)} {W : World} {g : Nat} (h : laidMet Tryd.prog ((n, .iface "*errors.errorString" (.ptr (.agg [.lit (.string text)]))) :: r) W)
    (hg : Tryd.prog.globalNamed n = some g) (ht : (Tryd.prog.globals[g]?).map (·.type) = some 111) : ∃ a : Addr, W.var? Tryd.prog n = some #[.iface 139 (.pointer (some a))] := by
  obtain ⟨a, _, h, _⟩ := laid_sentinel h hg ht Tryd.underlying111 row94 Tryd.underlying139 Tryd.underlying158 rfl rfl Tryd.underlying9 cells96 cells9
  exact ⟨a, h⟩
theorem vars_read3 {H : Type} (enc : TypeId × Value → H) {W : World} {n0 n1 n2 : String} {g0 g1 g2 : Nat} {x0 x1 x2 : Value}
    (hg0 : Tryd.prog.globalNamed n0 = some g0) (ht0 : (Tryd.prog.globals[g0]?).map (·.type) = some 111) (h0 : W.var? Tryd.prog n0 = some #[x0]) (i0 : IsIface x0)
    (hg1 : Tryd.prog.globalNamed n1 = some g1) (ht1 : (Tryd.prog.globals[g1]?).map (·.type) = some 111) (h1 : W.var? Tryd.prog n1 = some #[x1]) (i1 : IsIface x1)
    (hg2 : Tryd.prog.globalNamed n2 = some g2) (ht2 : (Tryd.prog.globals[g2]?).map (·.type) = some 111) (h2 : W.var? Tryd.prog n2 = some #[x2]) (i2 : IsIface x2) (sp : Nat → Bool) :
    DataW.TrodVars enc Tryd.prog W sp [n0, n1, n2] [tok enc x0, tok enc x1, tok enc x2] [.cell g0 0, .cell g1 0, .cell g2 0] :=
  ⟨g0, 111, #[x0], 1, [], [.cell g1 0, .cell g2 0], hg0, ht0, h0, trod_held Tryd.underlying111 i0 0, ⟨g1, 111, #[x1], 1, [], [.cell g2 0], hg1, ht1, h1, trod_held Tryd.underlying111 i1 0, ⟨g2, 111, #[x2], 1, [], [], hg2, ht2, h2, trod_held Tryd.underlying111 i2 0, rfl, rfl⟩, rfl⟩, rfl⟩
end Go.Proofs.YtkdnddckogbgaaaDoor
