/- The model's draws of events: l04Draw. -/
import Derived.Test.YtkdnddckogbgaaaGreatDoorFO22
import Derived.Test.YtkdnddckogbgaaaGreatDoorFO11
namespace Go.Proofs.YtkdnddckogbgaaaGreatDoor
open Go.RowKit Go.Deep
set_option linter.unusedVariables false
set_option linter.unusedSimpArgs false
set_option maxRecDepth 10000
def evRow (k y c t m f : Int) (b : Bool) (i : Nat) : Value := if i = 0 then .int .i64 k else if i = 1 then .int .i64 y else if i = 2 then .int .i64 c else if i = 3 then .int .i64 t else if i = 4 then .int .i64 m else if i = 5 then .int .i64 f else .bool b
def hasRow (h0 h1 h2 h3 h4 h5 : Bool) (i : Nat) : Value := if i = 0 then .bool h0 else if i = 1 then .bool h1 else if i = 2 then .bool h2 else if i = 3 then .bool h3 else if i = 4 then .bool h4 else .bool h5
theorem ev_row (k y c t m f : Int) (b : Bool) : ∀ i, i < (evCells k y c t m f b).size → (evCells k y c t m f b)[i]? = some (evRow k y c t m f b i)
  | 0, _ => rfl
  | 1, _ => rfl
  | 2, _ => rfl
  | 3, _ => rfl
  | 4, _ => rfl
  | 5, _ => rfl
  | 6, _ => rfl
theorem has_row (h0 h1 h2 h3 h4 h5 : Bool) : ∀ i, i < (#[Value.bool h0, .bool h1, .bool h2, .bool h3, .bool h4, .bool h5] : Array Value).size → (#[Value.bool h0, .bool h1, .bool h2, .bool h3, .bool h4, .bool h5] : Array Value)[i]? = some (hasRow h0 h1 h2 h3 h4 h5 i)
  | 0, _ => rfl
  | 1, _ => rfl
  | 2, _ => rfl
  | 3, _ => rfl
  | 4, _ => rfl
  | 5, _ => rfl
/-- The draw of an event under way: its variable, the table's row, the result. -/
structure EvSt (w : World) (B0 B : Nat) (a : Option Addr) (len cap : Nat) (R E H : Nat) (k y c t m f : Int) (b : Bool) (h0 h1 h2 h3 h4 h5 : Bool) (W : World) : Prop where
  ev : W.rowIs E 30 7 (evRow k y c t m f b)
  has : W.rowIs H 4 6 (hasRow h0 h1 h2 h3 h4 h5)
  res : W.rowIs R 30 7 (evRow 0 0 0 0 0 0 false)
  dr : Dr B0 B a len cap W
  g : w.grownBy W (some B)
  eh : H ≠ E
  er : R ≠ E
  hr : R ≠ H
  ne : w.heap.size ≤ E
  nh : w.heap.size ≤ H
  nr : w.heap.size ≤ R
  hb : B < w.heap.size
  h0 : B0 ≤ B
section
variable {w W W' : World} {B0 B : Nat} {a : Option Addr} {len cap R E H : Nat} {k y c t m f : Int} {b : Bool} {h0 h1 h2 h3 h4 h5 : Bool}
theorem EvSt.step (s : EvSt w B0 B a len cap R E H k y c t m f b h0 h1 h2 h3 h4 h5 W) (d : Dr B0 B a len cap W') (g : W.grownBy W' (some B)) : EvSt w B0 B a len cap R E H k y c t m f b h0 h1 h2 h3 h4 h5 W' :=
  ⟨grown_row g (by have := s.ne; have := s.hb; simp; omega) s.ev, grown_row g (by have := s.nh; have := s.hb; simp; omega) s.has, grown_row g (by have := s.nr; have := s.hb; simp; omega) s.res, d, s.g.trans g, s.eh, s.er, s.hr, s.ne, s.nh, s.nr, s.hb, s.h0⟩
theorem EvSt.drew (s : EvSt w B0 B a len cap R E H k y c t m f b h0 h1 h2 h3 h4 h5 W) : EvSt w B0 B a len cap R E H k y c t m f b h0 h1 h2 h3 h4 h5 W.drew :=
  s.step (s.dr.grown (row := none) ⟨rfl, rfl, rfl, Nat.le_refl _, fun _ _ _ => rfl⟩ (by simp) (by simp)) ⟨rfl, rfl, rfl, Nat.le_refl _, fun _ _ _ => rfl⟩
theorem ev_congr {f g : Nat → Value} (h0 : f 0 = g 0) (h1 : f 1 = g 1) (h2 : f 2 = g 2) (h3 : f 3 = g 3) (h4 : f 4 = g 4) (h5 : f 5 = g 5) (h6 : f 6 = g 6) : ∀ i, i < 7 → f i = g i
  | 0, _ => h0
  | 1, _ => h1
  | 2, _ => h2
  | 3, _ => h3
  | 4, _ => h4
  | 5, _ => h5
  | 6, _ => h6
theorem EvSt.set1 (s : EvSt w B0 B a len cap R E H k y c t m f b h0 h1 h2 h3 h4 h5 W) (z : Int) : EvSt w B0 B a len cap R E H k z c t m f b h0 h1 h2 h3 h4 h5 (W.setCell ⟨E, 1, none⟩ (.int .i64 z)) :=
  ⟨(s.ev.set 1 (.int .i64 z)).congr (ev_congr rfl rfl rfl rfl rfl rfl rfl), s.has.setOther (a := ⟨E, 1, none⟩) s.eh (.int .i64 z), s.res.setOther (a := ⟨E, 1, none⟩) s.er (.int .i64 z), s.dr.set (by have := s.ne; have := s.hb; omega) (by have := s.ne; have := s.hb; have := s.h0; omega) _, grown_new s.g s.ne, s.eh, s.er, s.hr, s.ne, s.nh, s.nr, s.hb, s.h0⟩
theorem EvSt.set2 (s : EvSt w B0 B a len cap R E H k y c t m f b h0 h1 h2 h3 h4 h5 W) (z : Int) : EvSt w B0 B a len cap R E H k y z t m f b h0 h1 h2 h3 h4 h5 (W.setCell ⟨E, 2, none⟩ (.int .i64 z)) :=
  ⟨(s.ev.set 2 (.int .i64 z)).congr (ev_congr rfl rfl rfl rfl rfl rfl rfl), s.has.setOther (a := ⟨E, 2, none⟩) s.eh (.int .i64 z), s.res.setOther (a := ⟨E, 2, none⟩) s.er (.int .i64 z), s.dr.set (by have := s.ne; have := s.hb; omega) (by have := s.ne; have := s.hb; have := s.h0; omega) _, grown_new s.g s.ne, s.eh, s.er, s.hr, s.ne, s.nh, s.nr, s.hb, s.h0⟩
theorem EvSt.set3 (s : EvSt w B0 B a len cap R E H k y c t m f b h0 h1 h2 h3 h4 h5 W) (z : Int) : EvSt w B0 B a len cap R E H k y c z m f b h0 h1 h2 h3 h4 h5 (W.setCell ⟨E, 3, none⟩ (.int .i64 z)) :=
  ⟨(s.ev.set 3 (.int .i64 z)).congr (ev_congr rfl rfl rfl rfl rfl rfl rfl), s.has.setOther (a := ⟨E, 3, none⟩) s.eh (.int .i64 z), s.res.setOther (a := ⟨E, 3, none⟩) s.er (.int .i64 z), s.dr.set (by have := s.ne; have := s.hb; omega) (by have := s.ne; have := s.hb; have := s.h0; omega) _, grown_new s.g s.ne, s.eh, s.er, s.hr, s.ne, s.nh, s.nr, s.hb, s.h0⟩
theorem EvSt.set4 (s : EvSt w B0 B a len cap R E H k y c t m f b h0 h1 h2 h3 h4 h5 W) (z : Int) : EvSt w B0 B a len cap R E H k y c t z f b h0 h1 h2 h3 h4 h5 (W.setCell ⟨E, 4, none⟩ (.int .i64 z)) :=
  ⟨(s.ev.set 4 (.int .i64 z)).congr (ev_congr rfl rfl rfl rfl rfl rfl rfl), s.has.setOther (a := ⟨E, 4, none⟩) s.eh (.int .i64 z), s.res.setOther (a := ⟨E, 4, none⟩) s.er (.int .i64 z), s.dr.set (by have := s.ne; have := s.hb; omega) (by have := s.ne; have := s.hb; have := s.h0; omega) _, grown_new s.g s.ne, s.eh, s.er, s.hr, s.ne, s.nh, s.nr, s.hb, s.h0⟩
theorem EvSt.set5 (s : EvSt w B0 B a len cap R E H k y c t m f b h0 h1 h2 h3 h4 h5 W) (z : Int) : EvSt w B0 B a len cap R E H k y c t m z b h0 h1 h2 h3 h4 h5 (W.setCell ⟨E, 5, none⟩ (.int .i64 z)) :=
  ⟨(s.ev.set 5 (.int .i64 z)).congr (ev_congr rfl rfl rfl rfl rfl rfl rfl), s.has.setOther (a := ⟨E, 5, none⟩) s.eh (.int .i64 z), s.res.setOther (a := ⟨E, 5, none⟩) s.er (.int .i64 z), s.dr.set (by have := s.ne; have := s.hb; omega) (by have := s.ne; have := s.hb; have := s.h0; omega) _, grown_new s.g s.ne, s.eh, s.er, s.hr, s.ne, s.nh, s.nr, s.hb, s.h0⟩
theorem EvSt.set6 (s : EvSt w B0 B a len cap R E H k y c t m f b h0 h1 h2 h3 h4 h5 W) (z : Bool) : EvSt w B0 B a len cap R E H k y c t m f z h0 h1 h2 h3 h4 h5 (W.setCell ⟨E, 6, none⟩ (.bool z)) :=
  ⟨(s.ev.set 6 (.bool z)).congr (ev_congr rfl rfl rfl rfl rfl rfl rfl), s.has.setOther (a := ⟨E, 6, none⟩) s.eh (.bool z), s.res.setOther (a := ⟨E, 6, none⟩) s.er (.bool z), s.dr.set (by have := s.ne; have := s.hb; omega) (by have := s.ne; have := s.hb; have := s.h0; omega) _, grown_new s.g s.ne, s.eh, s.er, s.hr, s.ne, s.nh, s.nr, s.hb, s.h0⟩
theorem EvSt.e0 (s : EvSt w B0 B a len cap R E H k y c t m f b h0 h1 h2 h3 h4 h5 W) : W.cell? ⟨E, 0, none⟩ = some (.int .i64 k) := s.ev.cell (i := 0) (by decide)
theorem EvSt.r0 (s : EvSt w B0 B a len cap R E H k y c t m f b h0 h1 h2 h3 h4 h5 W) : W.cell? ⟨R, 0, none⟩ = some (.int .i64 0) := s.res.cell (i := 0) (by decide)
theorem EvSt.e1 (s : EvSt w B0 B a len cap R E H k y c t m f b h0 h1 h2 h3 h4 h5 W) : W.cell? ⟨E, 1, none⟩ = some (.int .i64 y) := s.ev.cell (i := 1) (by decide)
theorem EvSt.r1 (s : EvSt w B0 B a len cap R E H k y c t m f b h0 h1 h2 h3 h4 h5 W) : W.cell? ⟨R, 1, none⟩ = some (.int .i64 0) := s.res.cell (i := 1) (by decide)
theorem EvSt.e2 (s : EvSt w B0 B a len cap R E H k y c t m f b h0 h1 h2 h3 h4 h5 W) : W.cell? ⟨E, 2, none⟩ = some (.int .i64 c) := s.ev.cell (i := 2) (by decide)
theorem EvSt.r2 (s : EvSt w B0 B a len cap R E H k y c t m f b h0 h1 h2 h3 h4 h5 W) : W.cell? ⟨R, 2, none⟩ = some (.int .i64 0) := s.res.cell (i := 2) (by decide)
theorem EvSt.e3 (s : EvSt w B0 B a len cap R E H k y c t m f b h0 h1 h2 h3 h4 h5 W) : W.cell? ⟨E, 3, none⟩ = some (.int .i64 t) := s.ev.cell (i := 3) (by decide)
theorem EvSt.r3 (s : EvSt w B0 B a len cap R E H k y c t m f b h0 h1 h2 h3 h4 h5 W) : W.cell? ⟨R, 3, none⟩ = some (.int .i64 0) := s.res.cell (i := 3) (by decide)
theorem EvSt.e4 (s : EvSt w B0 B a len cap R E H k y c t m f b h0 h1 h2 h3 h4 h5 W) : W.cell? ⟨E, 4, none⟩ = some (.int .i64 m) := s.ev.cell (i := 4) (by decide)
theorem EvSt.r4 (s : EvSt w B0 B a len cap R E H k y c t m f b h0 h1 h2 h3 h4 h5 W) : W.cell? ⟨R, 4, none⟩ = some (.int .i64 0) := s.res.cell (i := 4) (by decide)
theorem EvSt.e5 (s : EvSt w B0 B a len cap R E H k y c t m f b h0 h1 h2 h3 h4 h5 W) : W.cell? ⟨E, 5, none⟩ = some (.int .i64 f) := s.ev.cell (i := 5) (by decide)
theorem EvSt.r5 (s : EvSt w B0 B a len cap R E H k y c t m f b h0 h1 h2 h3 h4 h5 W) : W.cell? ⟨R, 5, none⟩ = some (.int .i64 0) := s.res.cell (i := 5) (by decide)
theorem EvSt.e6 (s : EvSt w B0 B a len cap R E H k y c t m f b h0 h1 h2 h3 h4 h5 W) : W.cell? ⟨E, 6, none⟩ = some (.bool b) := s.ev.cell (i := 6) (by decide)
theorem EvSt.r6 (s : EvSt w B0 B a len cap R E H k y c t m f b h0 h1 h2 h3 h4 h5 W) : W.cell? ⟨R, 6, none⟩ = some (.bool false) := s.res.cell (i := 6) (by decide)
theorem EvSt.h0' (s : EvSt w B0 B a len cap R E H k y c t m f b h0 h1 h2 h3 h4 h5 W) : W.cell? ⟨H, 0, none⟩ = some (.bool h0) := s.has.cell (i := 0) (by decide)
theorem EvSt.h1' (s : EvSt w B0 B a len cap R E H k y c t m f b h0 h1 h2 h3 h4 h5 W) : W.cell? ⟨H, 1, none⟩ = some (.bool h1) := s.has.cell (i := 1) (by decide)
theorem EvSt.h2' (s : EvSt w B0 B a len cap R E H k y c t m f b h0 h1 h2 h3 h4 h5 W) : W.cell? ⟨H, 2, none⟩ = some (.bool h2) := s.has.cell (i := 2) (by decide)
theorem EvSt.h3' (s : EvSt w B0 B a len cap R E H k y c t m f b h0 h1 h2 h3 h4 h5 W) : W.cell? ⟨H, 3, none⟩ = some (.bool h3) := s.has.cell (i := 3) (by decide)
theorem EvSt.h4' (s : EvSt w B0 B a len cap R E H k y c t m f b h0 h1 h2 h3 h4 h5 W) : W.cell? ⟨H, 4, none⟩ = some (.bool h4) := s.has.cell (i := 4) (by decide)
theorem EvSt.h5' (s : EvSt w B0 B a len cap R E H k y c t m f b h0 h1 h2 h3 h4 h5 W) : W.cell? ⟨H, 5, none⟩ = some (.bool h5) := s.has.cell (i := 5) (by decide)
/-- The result's cells are written. -/
theorem EvSt.fin (s : EvSt w B0 B a len cap R E H k y c t m f b h0 h1 h2 h3 h4 h5 W) {V : World} (hV : V = (((((((W.setCell ⟨R, 0, none⟩ (.int .i64 k)).setCell ⟨R, 1, none⟩ (.int .i64 y)).setCell ⟨R, 2, none⟩ (.int .i64 c)).setCell ⟨R, 3, none⟩ (.int .i64 t)).setCell ⟨R, 4, none⟩ (.int .i64 m)).setCell ⟨R, 5, none⟩ (.int .i64 f)).setCell ⟨R, 6, none⟩ (.bool b))) : (V.cell? ⟨R, 0, none⟩ = some (.int .i64 k) ∧ V.cell? ⟨R, 1, none⟩ = some (.int .i64 y) ∧ V.cell? ⟨R, 2, none⟩ = some (.int .i64 c) ∧ V.cell? ⟨R, 3, none⟩ = some (.int .i64 t) ∧ V.cell? ⟨R, 4, none⟩ = some (.int .i64 m) ∧ V.cell? ⟨R, 5, none⟩ = some (.int .i64 f) ∧ V.cell? ⟨R, 6, none⟩ = some (.bool b)) ∧ Dr B0 B a len cap V ∧ w.grownBy V (some B) := by
  subst hV
  have r : ((((((((W.setCell ⟨R, 0, none⟩ (.int .i64 k)).setCell ⟨R, 1, none⟩ (.int .i64 y)).setCell ⟨R, 2, none⟩ (.int .i64 c)).setCell ⟨R, 3, none⟩ (.int .i64 t)).setCell ⟨R, 4, none⟩ (.int .i64 m)).setCell ⟨R, 5, none⟩ (.int .i64 f)).setCell ⟨R, 6, none⟩ (.bool b))).rowIs R 30 7 (evRow k y c t m f b) := ((((((((s.res.set 0 (.int .i64 k)).set 1 (.int .i64 y)).set 2 (.int .i64 c)).set 3 (.int .i64 t)).set 4 (.int .i64 m)).set 5 (.int .i64 f)).set 6 (.bool b))).congr (ev_congr rfl rfl rfl rfl rfl rfl rfl)
  exact ⟨⟨r.cell (i := 0) (by decide), r.cell (i := 1) (by decide), r.cell (i := 2) (by decide), r.cell (i := 3) (by decide), r.cell (i := 4) (by decide), r.cell (i := 5) (by decide), r.cell (i := 6) (by decide)⟩, (((((((s.dr.set (by have := s.nr; have := s.hb; omega) (by have := s.nr; have := s.hb; have := s.h0; omega) _).set (by have := s.nr; have := s.hb; omega) (by have := s.nr; have := s.hb; have := s.h0; omega) _).set (by have := s.nr; have := s.hb; omega) (by have := s.nr; have := s.hb; have := s.h0; omega) _).set (by have := s.nr; have := s.hb; omega) (by have := s.nr; have := s.hb; have := s.h0; omega) _).set (by have := s.nr; have := s.hb; omega) (by have := s.nr; have := s.hb; have := s.h0; omega) _).set (by have := s.nr; have := s.hb; omega) (by have := s.nr; have := s.hb; have := s.h0; omega) _).set (by have := s.nr; have := s.hb; omega) (by have := s.nr; have := s.hb; have := s.h0; omega) _), (grown_new (grown_new (grown_new (grown_new (grown_new (grown_new (grown_new s.g s.nr) s.nr) s.nr) s.nr) s.nr) s.nr) s.nr)⟩
end
/-- What the table says, of some kind. -/
theorem has_all {k : Int} (h0 : 1 ≤ k) (h1 : k ≤ 11) : (∀ w, Calls Tryz.prog 73 #[.int .i64 k] w (hasPost false false false true false false w)) ∨ (∀ w, Calls Tryz.prog 73 #[.int .i64 k] w (hasPost false true false true true false w)) ∨ (∀ w, Calls Tryz.prog 73 #[.int .i64 k] w (hasPost false true false false true false w)) ∨ (∀ w, Calls Tryz.prog 73 #[.int .i64 k] w (hasPost true true true true false true w)) ∨ (∀ w, Calls Tryz.prog 73 #[.int .i64 k] w (hasPost true true true true true false w)) ∨ (∀ w, Calls Tryz.prog 73 #[.int .i64 k] w (hasPost false false false false false false w)) ∨ (∀ w, Calls Tryz.prog 73 #[.int .i64 k] w (hasPost true false false false false false w)) := by
  have h : k = 1 ∨ k = 2 ∨ k = 3 ∨ k = 4 ∨ k = 5 ∨ k = 6 ∨ k = 7 ∨ k = 8 ∨ k = 9 ∨ k = 10 ∨ k = 11 := by omega
  rcases h with rfl | rfl | rfl | rfl | rfl | rfl | rfl | rfl | rfl | rfl | rfl
  · exact .inl has_1
  · exact .inr (.inl has_2)
  · exact .inr (.inr (.inl has_3))
  · exact .inr (.inl has_4)
  · exact .inr (.inr (.inr (.inl has_5)))
  · exact .inr (.inr (.inr (.inr (.inr (.inr has_6)))))
  · exact .inr (.inr (.inr (.inr (.inr (.inr has_7)))))
  · exact .inr (.inr (.inr (.inr (.inr (.inl has_8)))))
  · exact .inr (.inr (.inr (.inr (.inl has_9))))
  · exact .inr (.inr (.inr (.inr (.inr (.inr has_10)))))
  · exact .inr (.inr (.inr (.inr (.inr (.inr has_11)))))
/-- An event. -/
def IsEv (e : Ending) : Prop := ∃ (k y c t m f : Int) (b : Bool), e = .returned (evV k y c t m f b)
theorem isEv {k y c t m f : Int} {b : Bool} : IsEv (.returned (evV k y c t m f b)) := ⟨k, y, c, t, m, f, b, rfl⟩
end Go.Proofs.YtkdnddckogbgaaaGreatDoor
