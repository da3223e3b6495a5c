/- GetNum of the program, where all is there. -/
import Derived.Test.YtkdnddckogbgaaaDoorGM
import Derived.Test.YtkdnddckogbgaaaDoorGC
namespace Go.Proofs.YtkdnddckogbgaaaDoor
open Go.RowKit Go.Deep
set_option linter.unusedVariables false
set_option maxRecDepth 10000

/-- The world where GetNum calls number. -/
abbrev three (w : World) (a : Option Addr) (l cap : Nat) (p : Int) : World := ((w.alloc (Obj.cells #[Value.int IntKind.i64 0] 3)).alloc (Obj.cells #[Value.bool false] 4)).alloc (Obj.cells #[.slice a l cap, .int .i64 p] 96)
theorem three_keeps (w : World) (a : Option Addr) (l cap : Nat) (p : Int) : Keeps w (three w a l cap p) := (((Keeps.refl w).alloc _).alloc _).alloc _
theorem three_rd (w : World) (a : Option Addr) (L : List UInt8) (cap : Nat) (p : Int) : Rd (three w a L.length cap p) (w.heap.size + 1 + 1) a L cap p :=
  ⟨by rw [World.cell?_alloc_at _ _ _ _ (by simp)]; rfl, by rw [World.cell?_alloc_at _ _ _ _ (by simp)]; rfl, by rw [World.frozen?_alloc_at _ _ _ _ (by simp)]⟩
theorem three_a (w : World) (a : Option Addr) (l cap : Nat) (p : Int) : (three w a l cap p).cell? ⟨w.heap.size, 0, none⟩ = some (.int .i64 0) := by
  rw [World.cell?_alloc_past _ _ _ (by simp; omega), World.cell?_alloc_past _ _ _ (by simp), World.cell?_alloc_at _ _ _ _ rfl]; rfl
theorem three_b (w : World) (a : Option Addr) (l cap : Nat) (p : Int) : (three w a l cap p).cell? ⟨w.heap.size + 1, 0, none⟩ = some (.bool false) := by
  rw [World.cell?_alloc_past _ _ _ (by simp), World.cell?_alloc_at _ _ _ _ (by simp)]; rfl
theorem three_za (w : World) (a : Option Addr) (l cap : Nat) (p : Int) : (three w a l cap p).frozen? ⟨w.heap.size, 0, none⟩ = false := by
  rw [World.frozen?_alloc_past _ _ _ (by simp; omega), World.frozen?_alloc_past _ _ _ (by simp), World.frozen?_alloc_at _ _ _ _ rfl]
theorem three_zb (w : World) (a : Option Addr) (l cap : Nat) (p : Int) : (three w a l cap p).frozen? ⟨w.heap.size + 1, 0, none⟩ = false := by
  rw [World.frozen?_alloc_past _ _ _ (by simp), World.frozen?_alloc_at _ _ _ _ (by simp)]

end Go.Proofs.YtkdnddckogbgaaaDoor
