/- GetNum of the program, where all is there. -/
import Derived.Test.YtecjjkgdgmjgmaaDoorGM
import Derived.Test.YtecjjkgdgmjgmaaDoorGC
namespace Go.Proofs.YtecjjkgdgmjgmaaDoor
open Go.RowKit Go.Deep
set_option linter.unusedVariables false
set_option maxRecDepth 10000

/-- The world where GetNum calls number. -/
abbrev three (w : World) (a : Option Addr) (l cap : Nat) (p : Int) : World := ((w.alloc (Obj.cells #[Value.int IntKind.i64 0] 3)).alloc (Obj.cells #[Value.bool false] 4)).alloc (Obj.cells #[.slice a l cap, .int .i64 p] 47)
theorem three_keeps (w : World) (a : Option Addr) (l cap : Nat) (p : Int) : Keeps w (three w a l cap p) := (((Keeps.refl w).alloc _).alloc _).alloc _
theorem three_rd (w : World) (a : Option Addr) (L : List UInt8) (cap : Nat) (p : Int) : Rd (three w a L.length cap p) (w.heap.size + 1 + 1) a L cap p :=
  ⟨by rw [World.cell?_alloc_at _ _ _ _ (by simp)]; rfl, by rw [World.cell?_alloc_at _ _ _ _ (by simp)]; rfl, by rw [World.frozen?_alloc_at _ _ _ _ (by simp)]⟩
theorem three_a (w : World) (a : Option Addr) (l cap : Nat) (p : Int) : (three w a l cap p).cell? ⟨w.heap.size, 0, none⟩ = some (.int .i64 0) := by
  rw [World.cell?_alloc_past _ _ _ (by simp; omega), World.cell?_alloc_past _ _ _ (by simp), World.cell?_alloc_at _ _ _ _ rfl]; rfl
theorem three_b (w : World) (a : Option Addr) (l cap : Nat) (p : Int) : (three w a l cap p).cell? ⟨w.heap.size + 1, 0, none⟩ = some (.bool false) := by
  rw [World.cell?_alloc_past _ _ _ (by simp), World.cell?_alloc_at _ _ _ _ (by simp)]; rfl
theorem three_za (w : World) (a : Option Addr) (l cap : Nat) (p : Int) : (three w a l cap p).frozen? ⟨w.heap.size, 0, none⟩ = false := by
  rw [World.frozen?_alloc_past _ _ _ (by simp; omega), World.frozen?_alloc_past _ _ _ (by simp), World.frozen?_alloc_at _ _ _ _ rfl]
theorem three_zb (w : World) (a : Option Addr) (l cap : Nat) (p : Int) : (three w a l cap p).frozen? ⟨w.heap.size + 1, 0, none⟩ = false := by
  rw [World.frozen?_alloc_past _ _ _ (by simp), World.frozen?_alloc_at _ _ _ _ (by simp)]

set_option maxHeartbeats 4000000 in
theorem getnum_yes (b off : Nat) (L : List UInt8) (cap p s : Nat) (w : World) (hc : Cells w (some ⟨b, off, none⟩) (bys L)) (hl : L.length ≤ 16777216) (hcap : L.length ≤ cap) (hcm : cap ≤ 9223372036854775807) (hs1 : 1 ≤ s) (hs2 : s ≤ 7) (h : p + s ≤ L.length) :
    Calls Tryd.prog 11 #[.slice (some ⟨b, off, none⟩) L.length cap, .int .i64 (p : Int), .int .i64 (s : Int)] w fun e w' => e = .returned (.tuple #[.int .i64 ((numL ((L.drop p).take s) : Nat) : Int), .bool true]) ∧ Keeps w w' := by
  have hmf : ∀ (fn : Fn) (first cap : Array Value) (w : World), (Instr.makeFunc fn first cap).run Tryd.prog w = .ok (.func fn first cap) w := fun _ _ _ _ => rfl
  have hb : b < w.heap.size := by
    rcases hc with hc | ⟨b', off', e, hc⟩
    · rw [bys_nil] at hc; subst hc; simp at h; omega
    · have e' := Option.some.inj e
      injection e' with e1 e2
      subst e1 e2
      exact lt_of_cell (hc 0 (by rw [bys_length]; omega))
  have HC := hide hc
  clear hc
  go_enter_defers Tryd.func11, Tryd.ntmps11
  go_wp2_with fail
  go_at_call 27
  have hk3 := three_keeps w (some ⟨b, off, none⟩) L.length cap (p : Int)
  refine (number_yes _ b off L cap p s _ (three_rd w _ L cap p) (by omega) (Cells.kept HC.out hk3) hl hcap hcm hs1 hs2 h).mono ?_
  rintro e w1 ⟨rfl, n, hw1⟩
  have hk1 : Keeps w w1 := by rw [hw1]; exact (hk3.drewN n).setCell (by show w.heap.size ≤ w.heap.size + 1 + 1; omega) _
  have t0 : w1.cell? ⟨w.heap.size, 0, none⟩ = some (.int .i64 0) := by rw [hw1, World.cell?_setCell_other _ _ _ _ (by simp)]; simpa using three_a w _ L.length cap p
  have t1 : w1.cell? ⟨w.heap.size + 1, 0, none⟩ = some (.bool false) := by rw [hw1, World.cell?_setCell_other _ _ _ _ (by simp)]; simpa using three_b w _ L.length cap p
  have z0 : w1.frozen? ⟨w.heap.size, 0, none⟩ = false := by rw [hw1, frozen_set]; simpa using three_za w _ L.length cap p
  have z1 : w1.frozen? ⟨w.heap.size + 1, 0, none⟩ = false := by rw [hw1, frozen_set]; simpa using three_zb w _ L.length cap p
  clear hw1 hk3
  generalize hN : numL ((L.drop p).take s) = N at *
  have t2 : (w1.setCell ⟨w.heap.size, 0, none⟩ (.int .i64 (N : Int))).cell? ⟨w.heap.size, 0, none⟩ = some (.int .i64 (N : Int)) := World.cell?_setCell_same _ _ _ t0
  go_wp2_with fail
  rw [hN]
  have hk2 := ((hk1.setCell (p := ⟨w.heap.size, 0, none⟩) (Nat.le_refl _) (.int .i64 (N : Int))).setCell (p := ⟨w.heap.size, 0, none⟩) (Nat.le_refl _) (.int .i64 (N : Int))).setCell (p := ⟨w.heap.size + 1, 0, none⟩) (Nat.le_succ _) (.bool true)
  have e0 : (((w1.setCell ⟨w.heap.size, 0, none⟩ (.int .i64 (N : Int))).setCell ⟨w.heap.size, 0, none⟩ (.int .i64 (N : Int))).setCell ⟨w.heap.size + 1, 0, none⟩ (.bool true)).cell? ⟨w.heap.size, 0, none⟩ = some (.int .i64 (N : Int)) := by
    rw [World.cell?_setCell_other _ _ _ _ (by simp)]; exact World.cell?_setCell_same _ _ _ t2
  have e1 : (((w1.setCell ⟨w.heap.size, 0, none⟩ (.int .i64 (N : Int))).setCell ⟨w.heap.size, 0, none⟩ (.int .i64 (N : Int))).setCell ⟨w.heap.size + 1, 0, none⟩ (.bool true)).cell? ⟨w.heap.size + 1, 0, none⟩ = some (.bool true) := by
    refine World.cell?_setCell_same _ _ _ (u := .bool false) ?_
    rw [World.cell?_setCell_other _ _ _ _ (by simp), World.cell?_setCell_other _ _ _ _ (by simp)]; exact t1
  generalize (((w1.setCell ⟨w.heap.size, 0, none⟩ (.int .i64 (N : Int))).setCell ⟨w.heap.size, 0, none⟩ (.int .i64 (N : Int))).setCell ⟨w.heap.size + 1, 0, none⟩ (.bool true)) = w2 at *
  refine leaves_cons (f := 26) (args := #[.pointer (some ⟨w.heap.size, 0, none⟩), .pointer (some ⟨w.heap.size + 1, 0, none⟩)]) (by simp) rfl ?_
  refine (catch_idle _ _ _).mono ?_
  rintro e u' w' ⟨rfl, rfl, rfl⟩
  simp [Leaves, settle, results, Tryd.results11, go_sem, e0, e1, hk2]
end Go.Proofs.YtecjjkgdgmjgmaaDoor
