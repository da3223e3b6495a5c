/- Draws that fill struct variables; rules. -/
import Derived.Test.YtkgpoghoilffhaaGreatDoorSC1
import Derived.Test.YtkgpoghoilffhaaGreatDoorSC7
import Derived.Deep.RegionWith
namespace Go.Proofs.YtkgpoghoilffhaaGreatDoor
open Go.RowKit Go.Deep
set_option linter.unusedVariables false
set_option linter.unusedSimpArgs false
set_option maxRecDepth 10000
/-- Between two steps of a draw: the cursor stands, and of what was there only its block has turned. -/
structure Ds (w : World) (B0 B : Nat) (a : Option Addr) (len cap : Nat) (W : World) : Prop where
  dr : Dr B0 B a len cap W
  gr : w.grownBy W (some B)
  hB : B < w.heap.size
  h0 : B0 ≤ B
section
variable {w W W' : World} {B0 B : Nat} {a : Option Addr} {len cap : Nat}
theorem Ds.start (s : Dr B0 B a len cap w) : Ds w B0 B a len cap w := ⟨s, grown_refl w _, s.lt, s.le⟩
theorem Ds.step (h : Ds w B0 B a len cap W) (d : Dr B0 B a len cap W') (g : W.grownBy W' (some B)) : Ds w B0 B a len cap W' := ⟨d, h.gr.trans g, h.hB, h.h0⟩
theorem Ds.quiet (h : Ds w B0 B a len cap W) (g : W.grownBy W' none) : Ds w B0 B a len cap W' :=
  ⟨h.dr.grown g (by simp) (by simp), h.gr.trans ⟨g.os, g.tape, g.output, g.size, fun k hk _ => g.block k hk (by simp)⟩, h.hB, h.h0⟩
theorem Ds.alloc (h : Ds w B0 B a len cap W) (o : Obj) : Ds w B0 B a len cap (W.alloc o) := h.quiet (grown_alloc (grown_refl W Option.none) o)
theorem Ds.keep (h : Ds w B0 B a len cap W) (hk : Keeps W W') : Ds w B0 B a len cap W' := h.quiet (hk.grows Option.none)
theorem Ds.drew (h : Ds w B0 B a len cap W) : Ds w B0 B a len cap W.drew := h.quiet (grown_drewN (grown_refl W Option.none) 1)
theorem Ds.set (h : Ds w B0 B a len cap W) {b o : Nat} {v : Value} (hb : w.heap.size ≤ b) : Ds w B0 B a len cap (W.setCell ⟨b, o, Option.none⟩ v) :=
  ⟨h.dr.grown (row := some b) (grown_set (grown_refl _ _)) (by have := h.hB; simp; omega) (by intro r hr; have := h.hB; have := h.h0; simp at hr; omega), grown_new h.gr hb, h.hB, h.h0⟩
theorem Ds.le (h : Ds w B0 B a len cap W) : w.heap.size ≤ W.heap.size := h.gr.size
/-- A struct variable of the draw's own stands through a call. -/
theorem Ds.row (h : Ds w B0 B a len cap W) (g : W.grownBy W' (some B)) {R : Nat} {ty : TypeId} {n : Nat} {f : Nat → Value} (hr : W.rowIs R ty n f) (hR : w.heap.size ≤ R) : W'.rowIs R ty n f :=
  grown_row g (by have := h.hB; simp; omega) hr
theorem row_other {R b o : Nat} {ty : TypeId} {n : Nat} {f : Nat → Value} {v : Value} (hr : W.rowIs R ty n f) (hb : b ≠ R) : (W.setCell ⟨b, o, Option.none⟩ v).rowIs R ty n f :=
  hr.of_block (blk_setCell_other _ _ _ _ (fun e => hb e.symm))
theorem row_drew {R : Nat} {ty : TypeId} {n : Nat} {f : Nat → Value} (hr : W.rowIs R ty n f) : W.drew.rowIs R ty n f := hr.of_block rfl
end
set_option maxHeartbeats 4000000 in
theorem Ds.fin5 {w : World} {B0 B : Nat} {a : Option Addr} {len cap : Nat} {R : Nat} {ty : TypeId} {f : Nat → Value} {W : World} (h : Ds w B0 B a len cap W) (hr : W.rowIs R ty 5 f) (hR : w.heap.size ≤ R) (x0 x1 x2 x3 x4 : Value) :
    ((((((W.setCell ⟨R, 0, none⟩ x0).setCell ⟨R, 1, none⟩ x1).setCell ⟨R, 2, none⟩ x2).setCell ⟨R, 3, none⟩ x3).setCell ⟨R, 4, none⟩ x4).cell? ⟨R, 0, none⟩ = some x0 ∧ (((((W.setCell ⟨R, 0, none⟩ x0).setCell ⟨R, 1, none⟩ x1).setCell ⟨R, 2, none⟩ x2).setCell ⟨R, 3, none⟩ x3).setCell ⟨R, 4, none⟩ x4).cell? ⟨R, 1, none⟩ = some x1 ∧ (((((W.setCell ⟨R, 0, none⟩ x0).setCell ⟨R, 1, none⟩ x1).setCell ⟨R, 2, none⟩ x2).setCell ⟨R, 3, none⟩ x3).setCell ⟨R, 4, none⟩ x4).cell? ⟨R, 2, none⟩ = some x2 ∧ (((((W.setCell ⟨R, 0, none⟩ x0).setCell ⟨R, 1, none⟩ x1).setCell ⟨R, 2, none⟩ x2).setCell ⟨R, 3, none⟩ x3).setCell ⟨R, 4, none⟩ x4).cell? ⟨R, 3, none⟩ = some x3 ∧ (((((W.setCell ⟨R, 0, none⟩ x0).setCell ⟨R, 1, none⟩ x1).setCell ⟨R, 2, none⟩ x2).setCell ⟨R, 3, none⟩ x3).setCell ⟨R, 4, none⟩ x4).cell? ⟨R, 4, none⟩ = some x4) ∧ Ds w B0 B a len cap (((((W.setCell ⟨R, 0, none⟩ x0).setCell ⟨R, 1, none⟩ x1).setCell ⟨R, 2, none⟩ x2).setCell ⟨R, 3, none⟩ x3).setCell ⟨R, 4, none⟩ x4) := by
  have r := (((((hr.set 0 x0).set 1 x1).set 2 x2).set 3 x3).set 4 x4)
  have c0 := r.cell (i := 0) (by decide)
  have c1 := r.cell (i := 1) (by decide)
  have c2 := r.cell (i := 2) (by decide)
  have c3 := r.cell (i := 3) (by decide)
  have c4 := r.cell (i := 4) (by decide)
  simp at c0 c1 c2 c3 c4
  exact ⟨⟨c0, c1, c2, c3, c4⟩, (((((h.set hR).set hR).set hR).set hR).set hR)⟩
set_option maxHeartbeats 4000000 in
theorem Ds.fin14 {w : World} {B0 B : Nat} {a : Option Addr} {len cap : Nat} {R : Nat} {ty : TypeId} {f : Nat → Value} {W : World} (h : Ds w B0 B a len cap W) (hr : W.rowIs R ty 14 f) (hR : w.heap.size ≤ R) (x0 x1 x2 x3 x4 x5 x6 x7 x8 x9 x10 x11 x12 x13 : Value) :
    (((((((((((((((W.setCell ⟨R, 0, none⟩ x0).setCell ⟨R, 1, none⟩ x1).setCell ⟨R, 2, none⟩ x2).setCell ⟨R, 3, none⟩ x3).setCell ⟨R, 4, none⟩ x4).setCell ⟨R, 5, none⟩ x5).setCell ⟨R, 6, none⟩ x6).setCell ⟨R, 7, none⟩ x7).setCell ⟨R, 8, none⟩ x8).setCell ⟨R, 9, none⟩ x9).setCell ⟨R, 10, none⟩ x10).setCell ⟨R, 11, none⟩ x11).setCell ⟨R, 12, none⟩ x12).setCell ⟨R, 13, none⟩ x13).cell? ⟨R, 0, none⟩ = some x0 ∧ ((((((((((((((W.setCell ⟨R, 0, none⟩ x0).setCell ⟨R, 1, none⟩ x1).setCell ⟨R, 2, none⟩ x2).setCell ⟨R, 3, none⟩ x3).setCell ⟨R, 4, none⟩ x4).setCell ⟨R, 5, none⟩ x5).setCell ⟨R, 6, none⟩ x6).setCell ⟨R, 7, none⟩ x7).setCell ⟨R, 8, none⟩ x8).setCell ⟨R, 9, none⟩ x9).setCell ⟨R, 10, none⟩ x10).setCell ⟨R, 11, none⟩ x11).setCell ⟨R, 12, none⟩ x12).setCell ⟨R, 13, none⟩ x13).cell? ⟨R, 1, none⟩ = some x1 ∧ ((((((((((((((W.setCell ⟨R, 0, none⟩ x0).setCell ⟨R, 1, none⟩ x1).setCell ⟨R, 2, none⟩ x2).setCell ⟨R, 3, none⟩ x3).setCell ⟨R, 4, none⟩ x4).setCell ⟨R, 5, none⟩ x5).setCell ⟨R, 6, none⟩ x6).setCell ⟨R, 7, none⟩ x7).setCell ⟨R, 8, none⟩ x8).setCell ⟨R, 9, none⟩ x9).setCell ⟨R, 10, none⟩ x10).setCell ⟨R, 11, none⟩ x11).setCell ⟨R, 12, none⟩ x12).setCell ⟨R, 13, none⟩ x13).cell? ⟨R, 2, none⟩ = some x2 ∧ ((((((((((((((W.setCell ⟨R, 0, none⟩ x0).setCell ⟨R, 1, none⟩ x1).setCell ⟨R, 2, none⟩ x2).setCell ⟨R, 3, none⟩ x3).setCell ⟨R, 4, none⟩ x4).setCell ⟨R, 5, none⟩ x5).setCell ⟨R, 6, none⟩ x6).setCell ⟨R, 7, none⟩ x7).setCell ⟨R, 8, none⟩ x8).setCell ⟨R, 9, none⟩ x9).setCell ⟨R, 10, none⟩ x10).setCell ⟨R, 11, none⟩ x11).setCell ⟨R, 12, none⟩ x12).setCell ⟨R, 13, none⟩ x13).cell? ⟨R, 3, none⟩ = some x3 ∧ ((((((((((((((W.setCell ⟨R, 0, none⟩ x0).setCell ⟨R, 1, none⟩ x1).setCell ⟨R, 2, none⟩ x2).setCell ⟨R, 3, none⟩ x3).setCell ⟨R, 4, none⟩ x4).setCell ⟨R, 5, none⟩ x5).setCell ⟨R, 6, none⟩ x6).setCell ⟨R, 7, none⟩ x7).setCell ⟨R, 8, none⟩ x8).setCell ⟨R, 9, none⟩ x9).setCell ⟨R, 10, none⟩ x10).setCell ⟨R, 11, none⟩ x11).setCell ⟨R, 12, none⟩ x12).setCell ⟨R, 13, none⟩ x13).cell? ⟨R, 4, none⟩ = some x4 ∧ ((((((((((((((W.setCell ⟨R, 0, none⟩ x0).setCell ⟨R, 1, none⟩ x1).setCell ⟨R, 2, none⟩ x2).setCell ⟨R, 3, none⟩ x3).setCell ⟨R, 4, none⟩ x4).setCell ⟨R, 5, none⟩ x5).setCell ⟨R, 6, none⟩ x6).setCell ⟨R, 7, none⟩ x7).setCell ⟨R, 8, none⟩ x8).setCell ⟨R, 9, none⟩ x9).setCell ⟨R, 10, none⟩ x10).setCell ⟨R, 11, none⟩ x11).setCell ⟨R, 12, none⟩ x12).setCell ⟨R, 13, none⟩ x13).cell? ⟨R, 5, none⟩ = some x5 ∧ ((((((((((((((W.setCell ⟨R, 0, none⟩ x0).setCell ⟨R, 1, none⟩ x1).setCell ⟨R, 2, none⟩ x2).setCell ⟨R, 3, none⟩ x3).setCell ⟨R, 4, none⟩ x4).setCell ⟨R, 5, none⟩ x5).setCell ⟨R, 6, none⟩ x6).setCell ⟨R, 7, none⟩ x7).setCell ⟨R, 8, none⟩ x8).setCell ⟨R, 9, none⟩ x9).setCell ⟨R, 10, none⟩ x10).setCell ⟨R, 11, none⟩ x11).setCell ⟨R, 12, none⟩ x12).setCell ⟨R, 13, none⟩ x13).cell? ⟨R, 6, none⟩ = some x6 ∧ ((((((((((((((W.setCell ⟨R, 0, none⟩ x0).setCell ⟨R, 1, none⟩ x1).setCell ⟨R, 2, none⟩ x2).setCell ⟨R, 3, none⟩ x3).setCell ⟨R, 4, none⟩ x4).setCell ⟨R, 5, none⟩ x5).setCell ⟨R, 6, none⟩ x6).setCell ⟨R, 7, none⟩ x7).setCell ⟨R, 8, none⟩ x8).setCell ⟨R, 9, none⟩ x9).setCell ⟨R, 10, none⟩ x10).setCell ⟨R, 11, none⟩ x11).setCell ⟨R, 12, none⟩ x12).setCell ⟨R, 13, none⟩ x13).cell? ⟨R, 7, none⟩ = some x7 ∧ ((((((((((((((W.setCell ⟨R, 0, none⟩ x0).setCell ⟨R, 1, none⟩ x1).setCell ⟨R, 2, none⟩ x2).setCell ⟨R, 3, none⟩ x3).setCell ⟨R, 4, none⟩ x4).setCell ⟨R, 5, none⟩ x5).setCell ⟨R, 6, none⟩ x6).setCell ⟨R, 7, none⟩ x7).setCell ⟨R, 8, none⟩ x8).setCell ⟨R, 9, none⟩ x9).setCell ⟨R, 10, none⟩ x10).setCell ⟨R, 11, none⟩ x11).setCell ⟨R, 12, none⟩ x12).setCell ⟨R, 13, none⟩ x13).cell? ⟨R, 8, none⟩ = some x8 ∧ ((((((((((((((W.setCell ⟨R, 0, none⟩ x0).setCell ⟨R, 1, none⟩ x1).setCell ⟨R, 2, none⟩ x2).setCell ⟨R, 3, none⟩ x3).setCell ⟨R, 4, none⟩ x4).setCell ⟨R, 5, none⟩ x5).setCell ⟨R, 6, none⟩ x6).setCell ⟨R, 7, none⟩ x7).setCell ⟨R, 8, none⟩ x8).setCell ⟨R, 9, none⟩ x9).setCell ⟨R, 10, none⟩ x10).setCell ⟨R, 11, none⟩ x11).setCell ⟨R, 12, none⟩ x12).setCell ⟨R, 13, none⟩ x13).cell? ⟨R, 9, none⟩ = some x9 ∧ ((((((((((((((W.setCell ⟨R, 0, none⟩ x0).setCell ⟨R, 1, none⟩ x1).setCell ⟨R, 2, none⟩ x2).setCell ⟨R, 3, none⟩ x3).setCell ⟨R, 4, none⟩ x4).setCell ⟨R, 5, none⟩ x5).setCell ⟨R, 6, none⟩ x6).setCell ⟨R, 7, none⟩ x7).setCell ⟨R, 8, none⟩ x8).setCell ⟨R, 9, none⟩ x9).setCell ⟨R, 10, none⟩ x10).setCell ⟨R, 11, none⟩ x11).setCell ⟨R, 12, none⟩ x12).setCell ⟨R, 13, none⟩ x13).cell? ⟨R, 10, none⟩ = some x10 ∧ ((((((((((((((W.setCell ⟨R, 0, none⟩ x0).setCell ⟨R, 1, none⟩ x1).setCell ⟨R, 2, none⟩ x2).setCell ⟨R, 3, none⟩ x3).setCell ⟨R, 4, none⟩ x4).setCell ⟨R, 5, none⟩ x5).setCell ⟨R, 6, none⟩ x6).setCell ⟨R, 7, none⟩ x7).setCell ⟨R, 8, none⟩ x8).setCell ⟨R, 9, none⟩ x9).setCell ⟨R, 10, none⟩ x10).setCell ⟨R, 11, none⟩ x11).setCell ⟨R, 12, none⟩ x12).setCell ⟨R, 13, none⟩ x13).cell? ⟨R, 11, none⟩ = some x11 ∧ ((((((((((((((W.setCell ⟨R, 0, none⟩ x0).setCell ⟨R, 1, none⟩ x1).setCell ⟨R, 2, none⟩ x2).setCell ⟨R, 3, none⟩ x3).setCell ⟨R, 4, none⟩ x4).setCell ⟨R, 5, none⟩ x5).setCell ⟨R, 6, none⟩ x6).setCell ⟨R, 7, none⟩ x7).setCell ⟨R, 8, none⟩ x8).setCell ⟨R, 9, none⟩ x9).setCell ⟨R, 10, none⟩ x10).setCell ⟨R, 11, none⟩ x11).setCell ⟨R, 12, none⟩ x12).setCell ⟨R, 13, none⟩ x13).cell? ⟨R, 12, none⟩ = some x12 ∧ ((((((((((((((W.setCell ⟨R, 0, none⟩ x0).setCell ⟨R, 1, none⟩ x1).setCell ⟨R, 2, none⟩ x2).setCell ⟨R, 3, none⟩ x3).setCell ⟨R, 4, none⟩ x4).setCell ⟨R, 5, none⟩ x5).setCell ⟨R, 6, none⟩ x6).setCell ⟨R, 7, none⟩ x7).setCell ⟨R, 8, none⟩ x8).setCell ⟨R, 9, none⟩ x9).setCell ⟨R, 10, none⟩ x10).setCell ⟨R, 11, none⟩ x11).setCell ⟨R, 12, none⟩ x12).setCell ⟨R, 13, none⟩ x13).cell? ⟨R, 13, none⟩ = some x13) ∧ Ds w B0 B a len cap ((((((((((((((W.setCell ⟨R, 0, none⟩ x0).setCell ⟨R, 1, none⟩ x1).setCell ⟨R, 2, none⟩ x2).setCell ⟨R, 3, none⟩ x3).setCell ⟨R, 4, none⟩ x4).setCell ⟨R, 5, none⟩ x5).setCell ⟨R, 6, none⟩ x6).setCell ⟨R, 7, none⟩ x7).setCell ⟨R, 8, none⟩ x8).setCell ⟨R, 9, none⟩ x9).setCell ⟨R, 10, none⟩ x10).setCell ⟨R, 11, none⟩ x11).setCell ⟨R, 12, none⟩ x12).setCell ⟨R, 13, none⟩ x13) := by
  have r := ((((((((((((((hr.set 0 x0).set 1 x1).set 2 x2).set 3 x3).set 4 x4).set 5 x5).set 6 x6).set 7 x7).set 8 x8).set 9 x9).set 10 x10).set 11 x11).set 12 x12).set 13 x13)
  have c0 := r.cell (i := 0) (by decide)
  have c1 := r.cell (i := 1) (by decide)
  have c2 := r.cell (i := 2) (by decide)
  have c3 := r.cell (i := 3) (by decide)
  have c4 := r.cell (i := 4) (by decide)
  have c5 := r.cell (i := 5) (by decide)
  have c6 := r.cell (i := 6) (by decide)
  have c7 := r.cell (i := 7) (by decide)
  have c8 := r.cell (i := 8) (by decide)
  have c9 := r.cell (i := 9) (by decide)
  have c10 := r.cell (i := 10) (by decide)
  have c11 := r.cell (i := 11) (by decide)
  have c12 := r.cell (i := 12) (by decide)
  have c13 := r.cell (i := 13) (by decide)
  simp at c0 c1 c2 c3 c4 c5 c6 c7 c8 c9 c10 c11 c12 c13
  exact ⟨⟨c0, c1, c2, c3, c4, c5, c6, c7, c8, c9, c10, c11, c12, c13⟩, ((((((((((((((h.set hR).set hR).set hR).set hR).set hR).set hR).set hR).set hR).set hR).set hR).set hR).set hR).set hR).set hR)⟩
def IsRul (e : Ending) : Prop := ∃ r : Rul, e = .returned r.v
def zR5 : Nat → Value := fun i => if i = 0 then .int .i64 0 else if i = 1 then .int .i64 0 else if i = 2 then .int .i64 0 else if i = 3 then .int .i64 0 else .int .i64 0
def rR5 (r : Rul) : Nat → Value := fun i => if i = 0 then .int .i64 r.lo else if i = 1 then .int .i64 r.hi else if i = 2 then .int .i64 r.st else if i = 3 then .int .i64 r.mi else .int .i64 r.ma
theorem rR5_set1 {W : World} {E : Nat} {ty : TypeId} {r : Rul} (h : W.rowIs E ty 5 (rR5 r)) (z : Int) : (W.setCell ⟨E, 1, none⟩ (.int .i64 z)).rowIs E ty 5 (rR5 { r with hi := z }) := (h.set 1 (.int .i64 z)).congr fun i hi => by
  match i, hi with
  | 0, _ => rfl
  | 1, _ => rfl
  | 2, _ => rfl
  | 3, _ => rfl
  | 4, _ => rfl
  | m + 5, hi => exact absurd hi (by omega)
theorem rR5_set2 {W : World} {E : Nat} {ty : TypeId} {r : Rul} (h : W.rowIs E ty 5 (rR5 r)) (z : Int) : (W.setCell ⟨E, 2, none⟩ (.int .i64 z)).rowIs E ty 5 (rR5 { r with st := z }) := (h.set 2 (.int .i64 z)).congr fun i hi => by
  match i, hi with
  | 0, _ => rfl
  | 1, _ => rfl
  | 2, _ => rfl
  | 3, _ => rfl
  | 4, _ => rfl
  | m + 5, hi => exact absurd hi (by omega)
theorem rR5_set4 {W : World} {E : Nat} {ty : TypeId} {r : Rul} (h : W.rowIs E ty 5 (rR5 r)) (z : Int) : (W.setCell ⟨E, 4, none⟩ (.int .i64 z)).rowIs E ty 5 (rR5 { r with ma := z }) := (h.set 4 (.int .i64 z)).congr fun i hi => by
  match i, hi with
  | 0, _ => rfl
  | 1, _ => rfl
  | 2, _ => rfl
  | 3, _ => rfl
  | 4, _ => rfl
  | m + 5, hi => exact absurd hi (by omega)
set_option maxHeartbeats 8000000 in
theorem rule_any {B0 B : Nat} {a : Option Addr} {len cap : Nat} {w : World} (s : Dr B0 B a len cap w) :
    Calls Tryz.prog 78 #[.pointer (some ⟨B, 0, none⟩)] w fun e w' => IsRul e ∧ Dr B0 B a len cap w' ∧ w.grownBy w' (some B) := by
  have HD := hide ((Ds.start s).alloc (.cells #[.int .i64 0, .int .i64 0, .int .i64 0, .int .i64 0, .int .i64 0] 31))
  have HR : Hid ((w.alloc (.cells #[.int .i64 0, .int .i64 0, .int .i64 0, .int .i64 0, .int .i64 0] 31)).rowIs w.heap.size 31 5 zR5) := row_5 w 31 _ _ _ _ _
  have HN : Hid (w.heap.size ≤ w.heap.size) := Nat.le_refl _
  have hB := s.lt
  clear s
  go_enter Tryz.func78, Tryz.ntmps78
  go_wp2_with fail
  refine (below_any 60 HD.out.dr (by omega) (by omega)).mono ?_
  rintro _ w1 ⟨⟨x, x0, x1, rfl⟩, s1, g1⟩
  replace HR := hide (HD.out.row g1 HR.out HN.out)
  replace HD := hide (HD.out.step s1 g1)
  clear s1 g1
  go_wp2_with fail
  refine (below_any 400 HD.out.dr (by omega) (by omega)).mono ?_
  rintro _ w2 ⟨⟨y, y0, y1, rfl⟩, s1, g1⟩
  replace HR := hide (HD.out.row g1 HR.out HN.out)
  replace HD := hide (HD.out.step s1 g1)
  clear s1 g1
  go_wp2_with fail
  refine (below_any 300 HD.out.dr (by omega) (by omega)).mono ?_
  rintro _ w3 ⟨⟨z, z0, z1, rfl⟩, s1, g1⟩
  replace HR := hide (HD.out.row g1 HR.out HN.out)
  replace HD := hide (HD.out.step s1 g1)
  clear s1 g1
  have HE : Hid ((w3.alloc (.cells #[.int .i64 x, .int .i64 0, .int .i64 y, .int .i64 z, .int .i64 0] 31)).rowIs w3.heap.size 31 5 (rR5 ⟨x, 0, y, z, 0⟩)) := row_5 w3 31 _ _ _ _ _
  have hNR := HR.out.lt
  have HM : Hid (w.heap.size ≤ w3.heap.size) := HD.out.le
  replace HR := hide (HR.out.alloc (.cells #[.int .i64 x, .int .i64 0, .int .i64 y, .int .i64 z, .int .i64 0] 31))
  replace HD := hide (HD.out.alloc (.cells #[.int .i64 x, .int .i64 0, .int .i64 y, .int .i64 z, .int .i64 0] 31))
  go_wp2_with fail
  generalize w3.alloc (.cells #[.int .i64 x, .int .i64 0, .int .i64 y, .int .i64 z, .int .i64 0] 31) = W1 at *
  generalize w3.heap.size = E at *
  have e0 := HE.out.cell (i := 0) (by decide)
  have ef1 := HE.out.frozen 1
  simp [rR5] at e0
  go_region_with (go_at_call 15; first | (refine (below_any 41 HD.out.dr (by omega) (by omega)).mono ?_; rintro _ w5 ⟨⟨tt, tt0, tt1, rfl⟩, s5, g5⟩; have HE5 := hide (HD.out.row g5 HE.out HM.out); have HR5 := hide (HD.out.row g5 HR.out HN.out); have HD5 := hide (HD.out.step s5 g5); have q0 := HE5.out.cell (i := 0) (by decide); have q1 := HE5.out.cell (i := 1) (by decide); have qf := HE5.out.frozen 1; simp [rR5] at q0 q1; clear s5 g5) | (refine (below_any 41 HD.out.drew.dr (by omega) (by omega)).mono ?_; rintro _ w5 ⟨⟨tt, tt0, tt1, rfl⟩, s5, g5⟩; have HE5 := hide (HD.out.drew.row g5 (row_drew HE.out) HM.out); have HR5 := hide (HD.out.drew.row g5 (row_drew HR.out) HN.out); have HD5 := hide (HD.out.drew.step s5 g5); have q0 := HE5.out.cell (i := 0) (by decide); have q1 := HE5.out.cell (i := 1) (by decide); have qf := HE5.out.frozen 1; simp [rR5] at q0 q1; clear s5 g5))
  all_goals
    generalize IntKind.i64.wrap (x + tt) = hi at *
    have HE2 := hide (rR5_set1 HE5.out hi)
    have HR2 := hide (row_other (b := E) (o := 1) (v := .int .i64 hi) HR5.out (by omega))
    have HD2 := hide (HD5.out.set (b := E) (o := 1) (v := .int .i64 hi) HM.out)
    clear HE HR HD HE5 HR5 HD5 q0 q1 qf e0 ef1
    generalize w5.setCell ⟨E, 1, none⟩ (.int .i64 hi) = W2 at *
    have HE := HE2
    have HR := HR2
    have HD := HD2
    clear HE2 HR2 HD2
    dsimp only at HE
    go_wp2_with fail
    have e3 := HE.out.cell (i := 3) (by decide)
    have ef4 := HE.out.frozen 4
    simp [rR5] at e3
    go_region_with (go_at_call 15; first | (refine (below_any 4000 HD.out.dr (by omega) (by omega)).mono ?_; rintro _ w5 ⟨⟨tt, tt0, tt1, rfl⟩, s5, g5⟩; have HE5 := hide (HD.out.row g5 HE.out HM.out); have HR5 := hide (HD.out.row g5 HR.out HN.out); have HD5 := hide (HD.out.step s5 g5); have q0 := HE5.out.cell (i := 3) (by decide); have q1 := HE5.out.cell (i := 4) (by decide); have qf := HE5.out.frozen 4; simp [rR5] at q0 q1; clear s5 g5) | (refine (below_any 4000 HD.out.drew.dr (by omega) (by omega)).mono ?_; rintro _ w5 ⟨⟨tt, tt0, tt1, rfl⟩, s5, g5⟩; have HE5 := hide (HD.out.drew.row g5 (row_drew HE.out) HM.out); have HR5 := hide (HD.out.drew.row g5 (row_drew HR.out) HN.out); have HD5 := hide (HD.out.drew.step s5 g5); have q0 := HE5.out.cell (i := 3) (by decide); have q1 := HE5.out.cell (i := 4) (by decide); have qf := HE5.out.frozen 4; simp [rR5] at q0 q1; clear s5 g5))
    all_goals
      generalize IntKind.i64.wrap (z + tt) = ma at *
      have HE2 := hide (rR5_set4 HE5.out ma)
      have HR2 := hide (row_other (b := E) (o := 4) (v := .int .i64 ma) HR5.out (by omega))
      have HD2 := hide (HD5.out.set (b := E) (o := 4) (v := .int .i64 ma) HM.out)
      clear HE HR HD HE5 HR5 HD5 q0 q1 qf e3 ef4
      generalize w5.setCell ⟨E, 4, none⟩ (.int .i64 ma) = W3 at *
      dsimp only at HE2
      have e0 := HE2.out.cell (i := 0) (by decide)
      have ef0 := HE2.out.frozen 0
      have r0 := HR2.out.cell (i := 0) (by decide)
      have rf0 := HR2.out.frozen 0
      have e1 := HE2.out.cell (i := 1) (by decide)
      have ef1 := HE2.out.frozen 1
      have r1 := HR2.out.cell (i := 1) (by decide)
      have rf1 := HR2.out.frozen 1
      have e2 := HE2.out.cell (i := 2) (by decide)
      have ef2 := HE2.out.frozen 2
      have r2 := HR2.out.cell (i := 2) (by decide)
      have rf2 := HR2.out.frozen 2
      have e3 := HE2.out.cell (i := 3) (by decide)
      have ef3 := HE2.out.frozen 3
      have r3 := HR2.out.cell (i := 3) (by decide)
      have rf3 := HR2.out.frozen 3
      have e4 := HE2.out.cell (i := 4) (by decide)
      have ef4 := HE2.out.frozen 4
      have r4 := HR2.out.cell (i := 4) (by decide)
      have rf4 := HR2.out.frozen 4
      have hle := HE2.out.lt
      have hlr := HR2.out.lt
      simp [rR5] at e0 e1 e2 e3 e4
      simp [zR5] at r0 r1 r2 r3 r4
      go_wp2_with fail
      obtain ⟨⟨o0, o1, o2, o3, o4⟩, hd⟩ := HD2.out.fin5 HR2.out HN.out (.int .i64 x) (.int .i64 hi) (.int .i64 y) (.int .i64 z) (.int .i64 ma)
      refine bodyPost_ret (v := .agg #[.int .i64 x, .int .i64 hi, .int .i64 y, .int .i64 z, .int .i64 ma]) ?_ rfl ⟨⟨⟨x, hi, y, z, ma⟩, rfl⟩, hd.dr, hd.gr⟩
      revert o0 o1 o2 o3 o4
      clear hd e0 e1 e2 e3 e4 ef0 ef1 ef2 ef3 ef4 r0 r1 r2 r3 r4 rf0 rf1 rf2 rf3 rf4 HE2 HR2 HD2
      generalize World.setCell (World.setCell _ _ _) _ _ = WW
      intro o0 o1 o2 o3 o4
      simp [results, Tryz.results78, go_sem, o0, o1, o2, o3, o4]
set_option maxHeartbeats 8000000 in
theorem anyrule_any {B0 B : Nat} {a : Option Addr} {len cap : Nat} {w : World} (s : Dr B0 B a len cap w) :
    Calls Tryz.prog 61 #[.pointer (some ⟨B, 0, none⟩)] w fun e w' => IsRul e ∧ Dr B0 B a len cap w' ∧ w.grownBy w' (some B) := by
  have HD := hide ((Ds.start s).alloc (.cells #[.int .i64 0, .int .i64 0, .int .i64 0, .int .i64 0, .int .i64 0] 31))
  have HR : Hid ((w.alloc (.cells #[.int .i64 0, .int .i64 0, .int .i64 0, .int .i64 0, .int .i64 0] 31)).rowIs w.heap.size 31 5 zR5) := row_5 w 31 _ _ _ _ _
  have HN : Hid (w.heap.size ≤ w.heap.size) := Nat.le_refl _
  have hB := s.lt
  clear s
  go_enter Tryz.func61, Tryz.ntmps61
  go_wp2_with fail
  refine (rule_any HD.out.dr).mono ?_
  rintro _ w1 ⟨⟨⟨lo, hi, st, mi, ma⟩, rfl⟩, s1, g1⟩
  replace HR := hide (HD.out.row g1 HR.out HN.out)
  replace HD := hide (HD.out.step s1 g1)
  clear s1 g1
  have HE : Hid ((w1.alloc (.cells #[.int .i64 lo, .int .i64 hi, .int .i64 st, .int .i64 mi, .int .i64 ma] 31)).rowIs w1.heap.size 31 5 (rR5 ⟨lo, hi, st, mi, ma⟩)) := row_5 w1 31 _ _ _ _ _
  have hNR := HR.out.lt
  have HM : Hid (w.heap.size ≤ w1.heap.size) := HD.out.le
  replace HR := hide (HR.out.alloc (.cells #[.int .i64 lo, .int .i64 hi, .int .i64 st, .int .i64 mi, .int .i64 ma] 31))
  replace HD := hide (HD.out.alloc (.cells #[.int .i64 lo, .int .i64 hi, .int .i64 st, .int .i64 mi, .int .i64 ma] 31))
  simp only [Rul.v]
  go_wp2_with fail
  generalize w1.alloc (.cells #[.int .i64 lo, .int .i64 hi, .int .i64 st, .int .i64 mi, .int .i64 ma] 31) = W1 at *
  generalize w1.heap.size = E at *
  refine (below_any 14 HD.out.dr (by omega) (by omega)).mono ?_
  rintro _ w2 ⟨⟨k, k0, k1, rfl⟩, s1, g1⟩
  replace HE := hide (HD.out.row g1 HE.out HM.out)
  replace HR := hide (HD.out.row g1 HR.out HN.out)
  replace HD := hide (HD.out.step s1 g1)
  clear s1 g1
  by_cases h0 : k = 0
  · subst h0
    obtain ⟨zv, hz⟩ : ∃ zv, IntKind.i64.wrap (lo - 1) = zv := ⟨_, rfl⟩
    have e0 := HE.out.cell (i := 0) (by decide)
    have e3 := HE.out.cell (i := 3) (by decide)
    have eo := HE.out.cell (i := 1) (by decide)
    have ef := HE.out.frozen 1
    simp [rR5] at e0 e3 eo
    have hne : ¬ w.heap.size = E := by omega
    have HE2 := hide (rR5_set1 HE.out zv)
    have HR2 := hide (row_other (b := E) (o := 1) (v := .int .i64 zv) HR.out (by omega))
    have HD2 := hide (HD.out.set (b := E) (o := 1) (v := .int .i64 zv) HM.out)
    clear HE HR HD
    dsimp only at HE2
    have e0 := HE2.out.cell (i := 0) (by decide)
    have ef0 := HE2.out.frozen 0
    have r0 := HR2.out.cell (i := 0) (by decide)
    have rf0 := HR2.out.frozen 0
    have e1 := HE2.out.cell (i := 1) (by decide)
    have ef1 := HE2.out.frozen 1
    have r1 := HR2.out.cell (i := 1) (by decide)
    have rf1 := HR2.out.frozen 1
    have e2 := HE2.out.cell (i := 2) (by decide)
    have ef2 := HE2.out.frozen 2
    have r2 := HR2.out.cell (i := 2) (by decide)
    have rf2 := HR2.out.frozen 2
    have e3 := HE2.out.cell (i := 3) (by decide)
    have ef3 := HE2.out.frozen 3
    have r3 := HR2.out.cell (i := 3) (by decide)
    have rf3 := HR2.out.frozen 3
    have e4 := HE2.out.cell (i := 4) (by decide)
    have ef4 := HE2.out.frozen 4
    have r4 := HR2.out.cell (i := 4) (by decide)
    have rf4 := HR2.out.frozen 4
    have hle := HE2.out.lt
    have hlr := HR2.out.lt
    simp [rR5] at e0 e1 e2 e3 e4
    simp [zR5] at r0 r1 r2 r3 r4
    go_wp2_with fail
    obtain ⟨⟨o0, o1, o2, o3, o4⟩, hd⟩ := HD2.out.fin5 HR2.out HN.out (.int .i64 lo) (.int .i64 zv) (.int .i64 st) (.int .i64 mi) (.int .i64 ma)
    refine bodyPost_ret (v := .agg #[.int .i64 lo, .int .i64 zv, .int .i64 st, .int .i64 mi, .int .i64 ma]) ?_ rfl ⟨⟨⟨lo, zv, st, mi, ma⟩, rfl⟩, hd.dr, hd.gr⟩
    revert o0 o1 o2 o3 o4
    clear hd e0 e1 e2 e3 e4 ef0 ef1 ef2 ef3 ef4 r0 r1 r2 r3 r4 rf0 rf1 rf2 rf3 rf4 HE2 HR2 HD2
    generalize World.setCell (World.setCell _ _ _) _ _ = WW
    intro o0 o1 o2 o3 o4
    simp [results, Tryz.results61, go_sem, o0, o1, o2, o3, o4]
  by_cases h1 : k = 1
  · subst h1
    go_wp2_with fail
    refine (raw_any HD.out.dr).mono ?_
    rintro _ w3 ⟨⟨z, rfl⟩, s1, g1⟩
    replace HE := hide (HD.out.row g1 HE.out HM.out)
    replace HR := hide (HD.out.row g1 HR.out HN.out)
    replace HD := hide (HD.out.step s1 g1)
    clear s1 g1
    have e0 := HE.out.cell (i := 0) (by decide)
    have e3 := HE.out.cell (i := 3) (by decide)
    have eo := HE.out.cell (i := 2) (by decide)
    have ef := HE.out.frozen 2
    simp [rR5] at e0 e3 eo
    have hne : ¬ w.heap.size = E := by omega
    have HE2 := hide (rR5_set2 HE.out z)
    have HR2 := hide (row_other (b := E) (o := 2) (v := .int .i64 z) HR.out (by omega))
    have HD2 := hide (HD.out.set (b := E) (o := 2) (v := .int .i64 z) HM.out)
    clear HE HR HD
    dsimp only at HE2
    have e0 := HE2.out.cell (i := 0) (by decide)
    have ef0 := HE2.out.frozen 0
    have r0 := HR2.out.cell (i := 0) (by decide)
    have rf0 := HR2.out.frozen 0
    have e1 := HE2.out.cell (i := 1) (by decide)
    have ef1 := HE2.out.frozen 1
    have r1 := HR2.out.cell (i := 1) (by decide)
    have rf1 := HR2.out.frozen 1
    have e2 := HE2.out.cell (i := 2) (by decide)
    have ef2 := HE2.out.frozen 2
    have r2 := HR2.out.cell (i := 2) (by decide)
    have rf2 := HR2.out.frozen 2
    have e3 := HE2.out.cell (i := 3) (by decide)
    have ef3 := HE2.out.frozen 3
    have r3 := HR2.out.cell (i := 3) (by decide)
    have rf3 := HR2.out.frozen 3
    have e4 := HE2.out.cell (i := 4) (by decide)
    have ef4 := HE2.out.frozen 4
    have r4 := HR2.out.cell (i := 4) (by decide)
    have rf4 := HR2.out.frozen 4
    have hle := HE2.out.lt
    have hlr := HR2.out.lt
    simp [rR5] at e0 e1 e2 e3 e4
    simp [zR5] at r0 r1 r2 r3 r4
    go_wp2_with fail
    obtain ⟨⟨o0, o1, o2, o3, o4⟩, hd⟩ := HD2.out.fin5 HR2.out HN.out (.int .i64 lo) (.int .i64 hi) (.int .i64 z) (.int .i64 mi) (.int .i64 ma)
    refine bodyPost_ret (v := .agg #[.int .i64 lo, .int .i64 hi, .int .i64 z, .int .i64 mi, .int .i64 ma]) ?_ rfl ⟨⟨⟨lo, hi, z, mi, ma⟩, rfl⟩, hd.dr, hd.gr⟩
    revert o0 o1 o2 o3 o4
    clear hd e0 e1 e2 e3 e4 ef0 ef1 ef2 ef3 ef4 r0 r1 r2 r3 r4 rf0 rf1 rf2 rf3 rf4 HE2 HR2 HD2
    generalize World.setCell (World.setCell _ _ _) _ _ = WW
    intro o0 o1 o2 o3 o4
    simp [results, Tryz.results61, go_sem, o0, o1, o2, o3, o4]
  by_cases h2 : k = 2
  · subst h2
    obtain ⟨zv, hz⟩ : ∃ zv, IntKind.i64.wrap (mi - 1) = zv := ⟨_, rfl⟩
    have e0 := HE.out.cell (i := 0) (by decide)
    have e3 := HE.out.cell (i := 3) (by decide)
    have eo := HE.out.cell (i := 4) (by decide)
    have ef := HE.out.frozen 4
    simp [rR5] at e0 e3 eo
    have hne : ¬ w.heap.size = E := by omega
    have HE2 := hide (rR5_set4 HE.out zv)
    have HR2 := hide (row_other (b := E) (o := 4) (v := .int .i64 zv) HR.out (by omega))
    have HD2 := hide (HD.out.set (b := E) (o := 4) (v := .int .i64 zv) HM.out)
    clear HE HR HD
    dsimp only at HE2
    have e0 := HE2.out.cell (i := 0) (by decide)
    have ef0 := HE2.out.frozen 0
    have r0 := HR2.out.cell (i := 0) (by decide)
    have rf0 := HR2.out.frozen 0
    have e1 := HE2.out.cell (i := 1) (by decide)
    have ef1 := HE2.out.frozen 1
    have r1 := HR2.out.cell (i := 1) (by decide)
    have rf1 := HR2.out.frozen 1
    have e2 := HE2.out.cell (i := 2) (by decide)
    have ef2 := HE2.out.frozen 2
    have r2 := HR2.out.cell (i := 2) (by decide)
    have rf2 := HR2.out.frozen 2
    have e3 := HE2.out.cell (i := 3) (by decide)
    have ef3 := HE2.out.frozen 3
    have r3 := HR2.out.cell (i := 3) (by decide)
    have rf3 := HR2.out.frozen 3
    have e4 := HE2.out.cell (i := 4) (by decide)
    have ef4 := HE2.out.frozen 4
    have r4 := HR2.out.cell (i := 4) (by decide)
    have rf4 := HR2.out.frozen 4
    have hle := HE2.out.lt
    have hlr := HR2.out.lt
    simp [rR5] at e0 e1 e2 e3 e4
    simp [zR5] at r0 r1 r2 r3 r4
    go_wp2_with fail
    obtain ⟨⟨o0, o1, o2, o3, o4⟩, hd⟩ := HD2.out.fin5 HR2.out HN.out (.int .i64 lo) (.int .i64 hi) (.int .i64 st) (.int .i64 mi) (.int .i64 zv)
    refine bodyPost_ret (v := .agg #[.int .i64 lo, .int .i64 hi, .int .i64 st, .int .i64 mi, .int .i64 zv]) ?_ rfl ⟨⟨⟨lo, hi, st, mi, zv⟩, rfl⟩, hd.dr, hd.gr⟩
    revert o0 o1 o2 o3 o4
    clear hd e0 e1 e2 e3 e4 ef0 ef1 ef2 ef3 ef4 r0 r1 r2 r3 r4 rf0 rf1 rf2 rf3 rf4 HE2 HR2 HD2
    generalize World.setCell (World.setCell _ _ _) _ _ = WW
    intro o0 o1 o2 o3 o4
    simp [results, Tryz.results61, go_sem, o0, o1, o2, o3, o4]
  by_cases h3 : k = 3
  · subst h3
    go_wp2_with fail
    refine (raw_any HD.out.dr).mono ?_
    rintro _ w3 ⟨⟨z, rfl⟩, s1, g1⟩
    replace HE := hide (HD.out.row g1 HE.out HM.out)
    replace HR := hide (HD.out.row g1 HR.out HN.out)
    replace HD := hide (HD.out.step s1 g1)
    clear s1 g1
    have e0 := HE.out.cell (i := 0) (by decide)
    have e3 := HE.out.cell (i := 3) (by decide)
    have eo := HE.out.cell (i := 4) (by decide)
    have ef := HE.out.frozen 4
    simp [rR5] at e0 e3 eo
    have hne : ¬ w.heap.size = E := by omega
    have HE2 := hide (rR5_set4 HE.out z)
    have HR2 := hide (row_other (b := E) (o := 4) (v := .int .i64 z) HR.out (by omega))
    have HD2 := hide (HD.out.set (b := E) (o := 4) (v := .int .i64 z) HM.out)
    clear HE HR HD
    dsimp only at HE2
    have e0 := HE2.out.cell (i := 0) (by decide)
    have ef0 := HE2.out.frozen 0
    have r0 := HR2.out.cell (i := 0) (by decide)
    have rf0 := HR2.out.frozen 0
    have e1 := HE2.out.cell (i := 1) (by decide)
    have ef1 := HE2.out.frozen 1
    have r1 := HR2.out.cell (i := 1) (by decide)
    have rf1 := HR2.out.frozen 1
    have e2 := HE2.out.cell (i := 2) (by decide)
    have ef2 := HE2.out.frozen 2
    have r2 := HR2.out.cell (i := 2) (by decide)
    have rf2 := HR2.out.frozen 2
    have e3 := HE2.out.cell (i := 3) (by decide)
    have ef3 := HE2.out.frozen 3
    have r3 := HR2.out.cell (i := 3) (by decide)
    have rf3 := HR2.out.frozen 3
    have e4 := HE2.out.cell (i := 4) (by decide)
    have ef4 := HE2.out.frozen 4
    have r4 := HR2.out.cell (i := 4) (by decide)
    have rf4 := HR2.out.frozen 4
    have hle := HE2.out.lt
    have hlr := HR2.out.lt
    simp [rR5] at e0 e1 e2 e3 e4
    simp [zR5] at r0 r1 r2 r3 r4
    go_wp2_with fail
    obtain ⟨⟨o0, o1, o2, o3, o4⟩, hd⟩ := HD2.out.fin5 HR2.out HN.out (.int .i64 lo) (.int .i64 hi) (.int .i64 st) (.int .i64 mi) (.int .i64 z)
    refine bodyPost_ret (v := .agg #[.int .i64 lo, .int .i64 hi, .int .i64 st, .int .i64 mi, .int .i64 z]) ?_ rfl ⟨⟨⟨lo, hi, st, mi, z⟩, rfl⟩, hd.dr, hd.gr⟩
    revert o0 o1 o2 o3 o4
    clear hd e0 e1 e2 e3 e4 ef0 ef1 ef2 ef3 ef4 r0 r1 r2 r3 r4 rf0 rf1 rf2 rf3 rf4 HE2 HR2 HD2
    generalize World.setCell (World.setCell _ _ _) _ _ = WW
    intro o0 o1 o2 o3 o4
    simp [results, Tryz.results61, go_sem, o0, o1, o2, o3, o4]
  have q0 : (k == 0) = false := beq_eq_false_iff_ne.2 h0
  have q1 : (k == 1) = false := beq_eq_false_iff_ne.2 h1
  have q2 : (k == 2) = false := beq_eq_false_iff_ne.2 h2
  have q3 : (k == 3) = false := beq_eq_false_iff_ne.2 h3
  have e0 := HE.out.cell (i := 0) (by decide)
  have ef0 := HE.out.frozen 0
  have r0 := HR.out.cell (i := 0) (by decide)
  have rf0 := HR.out.frozen 0
  have e1 := HE.out.cell (i := 1) (by decide)
  have ef1 := HE.out.frozen 1
  have r1 := HR.out.cell (i := 1) (by decide)
  have rf1 := HR.out.frozen 1
  have e2 := HE.out.cell (i := 2) (by decide)
  have ef2 := HE.out.frozen 2
  have r2 := HR.out.cell (i := 2) (by decide)
  have rf2 := HR.out.frozen 2
  have e3 := HE.out.cell (i := 3) (by decide)
  have ef3 := HE.out.frozen 3
  have r3 := HR.out.cell (i := 3) (by decide)
  have rf3 := HR.out.frozen 3
  have e4 := HE.out.cell (i := 4) (by decide)
  have ef4 := HE.out.frozen 4
  have r4 := HR.out.cell (i := 4) (by decide)
  have rf4 := HR.out.frozen 4
  have hle := HE.out.lt
  have hlr := HR.out.lt
  simp [rR5] at e0 e1 e2 e3 e4
  simp [zR5] at r0 r1 r2 r3 r4
  go_wp2_with fail
  obtain ⟨⟨o0, o1, o2, o3, o4⟩, hd⟩ := HD.out.fin5 HR.out HN.out (.int .i64 lo) (.int .i64 hi) (.int .i64 st) (.int .i64 mi) (.int .i64 ma)
  refine bodyPost_ret (v := .agg #[.int .i64 lo, .int .i64 hi, .int .i64 st, .int .i64 mi, .int .i64 ma]) ?_ rfl ⟨⟨⟨lo, hi, st, mi, ma⟩, rfl⟩, hd.dr, hd.gr⟩
  revert o0 o1 o2 o3 o4
  clear hd e0 e1 e2 e3 e4 ef0 ef1 ef2 ef3 ef4 r0 r1 r2 r3 r4 rf0 rf1 rf2 rf3 rf4 HE HR HD
  generalize World.setCell (World.setCell _ _ _) _ _ = WW
  intro o0 o1 o2 o3 o4
  simp [results, Tryz.results61, go_sem, o0, o1, o2, o3, o4]
end Go.Proofs.YtkgpoghoilffhaaGreatDoor
