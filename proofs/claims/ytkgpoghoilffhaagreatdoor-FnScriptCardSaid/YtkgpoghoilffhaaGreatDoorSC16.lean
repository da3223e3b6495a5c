/- The model's draws of any event: l04Any. -/
import Derived.Test.YtkgpoghoilffhaaGreatDoorSC15
namespace Go.Proofs.YtkgpoghoilffhaaGreatDoor
open Go.RowKit Go.Deep
set_option linter.unusedVariables false
set_option linter.unusedSimpArgs false
set_option maxRecDepth 10000
/-- The draw of any event under way: its variable, the result. -/
structure EaSt (w : World) (B0 B : Nat) (a : Option Addr) (len cap : Nat) (R E : Nat) (k y c t m f : Int) (b : Bool) (W : World) : Prop where
  ev : W.rowIs E 28 7 (evRow k y c t m f b)
  res : W.rowIs R 28 7 (evRow 0 0 0 0 0 0 false)
  dr : Dr B0 B a len cap W
  g : w.grownBy W (some B)
  er : R ≠ E
  ne : w.heap.size ≤ E
  nr : w.heap.size ≤ R
  hb : B < w.heap.size
  h0 : B0 ≤ B
section
variable {w W W' : World} {B0 B : Nat} {a : Option Addr} {len cap R E : Nat} {k y c t m f : Int} {b : Bool}
theorem EaSt.step (s : EaSt w B0 B a len cap R E k y c t m f b W) (d : Dr B0 B a len cap W') (g : W.grownBy W' (some B)) : EaSt w B0 B a len cap R E k y c t m f b W' :=
  ⟨grown_row g (by have := s.ne; have := s.hb; simp; omega) s.ev, grown_row g (by have := s.nr; have := s.hb; simp; omega) s.res, d, s.g.trans g, s.er, s.ne, s.nr, s.hb, s.h0⟩
theorem EaSt.set0 (s : EaSt w B0 B a len cap R E k y c t m f b W) (z : Int) : EaSt w B0 B a len cap R E z y c t m f b (W.setCell ⟨E, 0, none⟩ (.int .i64 z)) :=
  ⟨(s.ev.set 0 (.int .i64 z)).congr (ev_congr rfl rfl rfl rfl rfl rfl rfl), s.res.setOther (a := ⟨E, 0, none⟩) s.er (.int .i64 z), s.dr.set (by have := s.ne; have := s.hb; omega) (by have := s.ne; have := s.hb; have := s.h0; omega) _, grown_new s.g s.ne, s.er, s.ne, s.nr, s.hb, s.h0⟩
theorem EaSt.set1 (s : EaSt w B0 B a len cap R E k y c t m f b W) (z : Int) : EaSt w B0 B a len cap R E k z c t m f b (W.setCell ⟨E, 1, none⟩ (.int .i64 z)) :=
  ⟨(s.ev.set 1 (.int .i64 z)).congr (ev_congr rfl rfl rfl rfl rfl rfl rfl), s.res.setOther (a := ⟨E, 1, none⟩) s.er (.int .i64 z), s.dr.set (by have := s.ne; have := s.hb; omega) (by have := s.ne; have := s.hb; have := s.h0; omega) _, grown_new s.g s.ne, s.er, s.ne, s.nr, s.hb, s.h0⟩
theorem EaSt.set2 (s : EaSt w B0 B a len cap R E k y c t m f b W) (z : Int) : EaSt w B0 B a len cap R E k y z t m f b (W.setCell ⟨E, 2, none⟩ (.int .i64 z)) :=
  ⟨(s.ev.set 2 (.int .i64 z)).congr (ev_congr rfl rfl rfl rfl rfl rfl rfl), s.res.setOther (a := ⟨E, 2, none⟩) s.er (.int .i64 z), s.dr.set (by have := s.ne; have := s.hb; omega) (by have := s.ne; have := s.hb; have := s.h0; omega) _, grown_new s.g s.ne, s.er, s.ne, s.nr, s.hb, s.h0⟩
theorem EaSt.set3 (s : EaSt w B0 B a len cap R E k y c t m f b W) (z : Int) : EaSt w B0 B a len cap R E k y c z m f b (W.setCell ⟨E, 3, none⟩ (.int .i64 z)) :=
  ⟨(s.ev.set 3 (.int .i64 z)).congr (ev_congr rfl rfl rfl rfl rfl rfl rfl), s.res.setOther (a := ⟨E, 3, none⟩) s.er (.int .i64 z), s.dr.set (by have := s.ne; have := s.hb; omega) (by have := s.ne; have := s.hb; have := s.h0; omega) _, grown_new s.g s.ne, s.er, s.ne, s.nr, s.hb, s.h0⟩
theorem EaSt.set4 (s : EaSt w B0 B a len cap R E k y c t m f b W) (z : Int) : EaSt w B0 B a len cap R E k y c t z f b (W.setCell ⟨E, 4, none⟩ (.int .i64 z)) :=
  ⟨(s.ev.set 4 (.int .i64 z)).congr (ev_congr rfl rfl rfl rfl rfl rfl rfl), s.res.setOther (a := ⟨E, 4, none⟩) s.er (.int .i64 z), s.dr.set (by have := s.ne; have := s.hb; omega) (by have := s.ne; have := s.hb; have := s.h0; omega) _, grown_new s.g s.ne, s.er, s.ne, s.nr, s.hb, s.h0⟩
theorem EaSt.set5 (s : EaSt w B0 B a len cap R E k y c t m f b W) (z : Int) : EaSt w B0 B a len cap R E k y c t m z b (W.setCell ⟨E, 5, none⟩ (.int .i64 z)) :=
  ⟨(s.ev.set 5 (.int .i64 z)).congr (ev_congr rfl rfl rfl rfl rfl rfl rfl), s.res.setOther (a := ⟨E, 5, none⟩) s.er (.int .i64 z), s.dr.set (by have := s.ne; have := s.hb; omega) (by have := s.ne; have := s.hb; have := s.h0; omega) _, grown_new s.g s.ne, s.er, s.ne, s.nr, s.hb, s.h0⟩
theorem EaSt.set6 (s : EaSt w B0 B a len cap R E k y c t m f b W) (z : Bool) : EaSt w B0 B a len cap R E k y c t m f z (W.setCell ⟨E, 6, none⟩ (.bool z)) :=
  ⟨(s.ev.set 6 (.bool z)).congr (ev_congr rfl rfl rfl rfl rfl rfl rfl), s.res.setOther (a := ⟨E, 6, none⟩) s.er (.bool z), s.dr.set (by have := s.ne; have := s.hb; omega) (by have := s.ne; have := s.hb; have := s.h0; omega) _, grown_new s.g s.ne, s.er, s.ne, s.nr, s.hb, s.h0⟩
theorem EaSt.e0 (s : EaSt w B0 B a len cap R E k y c t m f b W) : W.cell? ⟨E, 0, none⟩ = some (.int .i64 k) := s.ev.cell (i := 0) (by decide)
theorem EaSt.r0 (s : EaSt w B0 B a len cap R E k y c t m f b W) : W.cell? ⟨R, 0, none⟩ = some (.int .i64 0) := s.res.cell (i := 0) (by decide)
theorem EaSt.e1 (s : EaSt w B0 B a len cap R E k y c t m f b W) : W.cell? ⟨E, 1, none⟩ = some (.int .i64 y) := s.ev.cell (i := 1) (by decide)
theorem EaSt.r1 (s : EaSt w B0 B a len cap R E k y c t m f b W) : W.cell? ⟨R, 1, none⟩ = some (.int .i64 0) := s.res.cell (i := 1) (by decide)
theorem EaSt.e2 (s : EaSt w B0 B a len cap R E k y c t m f b W) : W.cell? ⟨E, 2, none⟩ = some (.int .i64 c) := s.ev.cell (i := 2) (by decide)
theorem EaSt.r2 (s : EaSt w B0 B a len cap R E k y c t m f b W) : W.cell? ⟨R, 2, none⟩ = some (.int .i64 0) := s.res.cell (i := 2) (by decide)
theorem EaSt.e3 (s : EaSt w B0 B a len cap R E k y c t m f b W) : W.cell? ⟨E, 3, none⟩ = some (.int .i64 t) := s.ev.cell (i := 3) (by decide)
theorem EaSt.r3 (s : EaSt w B0 B a len cap R E k y c t m f b W) : W.cell? ⟨R, 3, none⟩ = some (.int .i64 0) := s.res.cell (i := 3) (by decide)
theorem EaSt.e4 (s : EaSt w B0 B a len cap R E k y c t m f b W) : W.cell? ⟨E, 4, none⟩ = some (.int .i64 m) := s.ev.cell (i := 4) (by decide)
theorem EaSt.r4 (s : EaSt w B0 B a len cap R E k y c t m f b W) : W.cell? ⟨R, 4, none⟩ = some (.int .i64 0) := s.res.cell (i := 4) (by decide)
theorem EaSt.e5 (s : EaSt w B0 B a len cap R E k y c t m f b W) : W.cell? ⟨E, 5, none⟩ = some (.int .i64 f) := s.ev.cell (i := 5) (by decide)
theorem EaSt.r5 (s : EaSt w B0 B a len cap R E k y c t m f b W) : W.cell? ⟨R, 5, none⟩ = some (.int .i64 0) := s.res.cell (i := 5) (by decide)
theorem EaSt.e6 (s : EaSt w B0 B a len cap R E k y c t m f b W) : W.cell? ⟨E, 6, none⟩ = some (.bool b) := s.ev.cell (i := 6) (by decide)
theorem EaSt.r6 (s : EaSt w B0 B a len cap R E k y c t m f b W) : W.cell? ⟨R, 6, none⟩ = some (.bool false) := s.res.cell (i := 6) (by decide)
/-- The result's cells are written. -/
theorem EaSt.fin (s : EaSt w B0 B a len cap R E k y c t m f b W) {V : World} (hV : V = (((((((W.setCell ⟨R, 0, none⟩ (.int .i64 k)).setCell ⟨R, 1, none⟩ (.int .i64 y)).setCell ⟨R, 2, none⟩ (.int .i64 c)).setCell ⟨R, 3, none⟩ (.int .i64 t)).setCell ⟨R, 4, none⟩ (.int .i64 m)).setCell ⟨R, 5, none⟩ (.int .i64 f)).setCell ⟨R, 6, none⟩ (.bool b))) : (V.cell? ⟨R, 0, none⟩ = some (.int .i64 k) ∧ V.cell? ⟨R, 1, none⟩ = some (.int .i64 y) ∧ V.cell? ⟨R, 2, none⟩ = some (.int .i64 c) ∧ V.cell? ⟨R, 3, none⟩ = some (.int .i64 t) ∧ V.cell? ⟨R, 4, none⟩ = some (.int .i64 m) ∧ V.cell? ⟨R, 5, none⟩ = some (.int .i64 f) ∧ V.cell? ⟨R, 6, none⟩ = some (.bool b)) ∧ Dr B0 B a len cap V ∧ w.grownBy V (some B) := by
  subst hV
  have r : ((((((((W.setCell ⟨R, 0, none⟩ (.int .i64 k)).setCell ⟨R, 1, none⟩ (.int .i64 y)).setCell ⟨R, 2, none⟩ (.int .i64 c)).setCell ⟨R, 3, none⟩ (.int .i64 t)).setCell ⟨R, 4, none⟩ (.int .i64 m)).setCell ⟨R, 5, none⟩ (.int .i64 f)).setCell ⟨R, 6, none⟩ (.bool b))).rowIs R 28 7 (evRow k y c t m f b) := (((((((s.res.set 0 (.int .i64 k)).set 1 (.int .i64 y)).set 2 (.int .i64 c)).set 3 (.int .i64 t)).set 4 (.int .i64 m)).set 5 (.int .i64 f)).set 6 (.bool b)).congr (ev_congr rfl rfl rfl rfl rfl rfl rfl)
  exact ⟨⟨r.cell (i := 0) (by decide), r.cell (i := 1) (by decide), r.cell (i := 2) (by decide), r.cell (i := 3) (by decide), r.cell (i := 4) (by decide), r.cell (i := 5) (by decide), r.cell (i := 6) (by decide)⟩, (((((((s.dr.set (by have := s.nr; have := s.hb; omega) (by have := s.nr; have := s.hb; have := s.h0; omega) _).set (by have := s.nr; have := s.hb; omega) (by have := s.nr; have := s.hb; have := s.h0; omega) _).set (by have := s.nr; have := s.hb; omega) (by have := s.nr; have := s.hb; have := s.h0; omega) _).set (by have := s.nr; have := s.hb; omega) (by have := s.nr; have := s.hb; have := s.h0; omega) _).set (by have := s.nr; have := s.hb; omega) (by have := s.nr; have := s.hb; have := s.h0; omega) _).set (by have := s.nr; have := s.hb; omega) (by have := s.nr; have := s.hb; have := s.h0; omega) _).set (by have := s.nr; have := s.hb; omega) (by have := s.nr; have := s.hb; have := s.h0; omega) _), (grown_new (grown_new (grown_new (grown_new (grown_new (grown_new (grown_new s.g s.nr) s.nr) s.nr) s.nr) s.nr) s.nr) s.nr)⟩
end
set_option maxHeartbeats 8000000 in
theorem anyevent_any {B0 B : Nat} {a : Option Addr} {len cap : Nat} {w : World} (s : Dr B0 B a len cap w) :
    Calls Tryz.prog 59 #[.pointer (some ⟨B, 0, none⟩)] w fun e w' => IsEv e ∧ Dr B0 B a len cap w' ∧ w.grownBy w' (some B) := by
  have hB := s.lt
  have hB0 := s.le
  have HG0 := hide (World.grownBy_alloc w (.cells (evCells 0 0 0 0 0 0 false) 28) (some B))
  have HS0 := hide (s.grown (World.grownBy_alloc w (.cells (evCells 0 0 0 0 0 0 false) 28) none) (by simp) (by simp))
  have HR0 := hide (World.rowIs_alloc w (evCells 0 0 0 0 0 0 false) 28 _ (ev_row 0 0 0 0 0 0 false))
  clear s
  go_enter Tryz.func59, Tryz.ntmps59
  go_wp2_with fail
  refine (event_any HS0.out).mono ?_
  rintro _ w1 ⟨⟨ek, ey, ec, et, em, ef, eb, rfl⟩, s1, g1⟩
  have HR1 := hide (grown_row g1 (by simp; omega) HR0.out)
  have hz := HR1.out.lt
  have HE : Hid (EaSt w B0 B a len cap w.heap.size w1.heap.size ek ey ec et em ef eb (w1.alloc (.cells (evCells ek ey ec et em ef eb) 28))) := by
    have g : w1.grownBy (w1.alloc (.cells (evCells ek ey ec et em ef eb) 28)) none := grown_alloc (grown_refl w1 none) _
    have hz1 := (HG0.out.trans g1).size
    exact ⟨World.rowIs_alloc w1 (evCells ek ey ec et em ef eb) 28 _ (ev_row ek ey ec et em ef eb), grown_row g (by simp) HR1.out, s1.grown g (by simp) (by simp), (HG0.out.trans g1).trans ⟨g.os, g.tape, g.output, g.size, fun k hk _ => g.block k hk (by simp)⟩, by omega, by omega, Nat.le_refl _, hB, hB0⟩
  clear s1 g1 HS0 HG0 HR0 HR1
  go_wp2_with fail
  generalize w1.alloc (.cells (evCells ek ey ec et em ef eb) 28) = W1 at *
  generalize w1.heap.size = Eb at *
  refine (below_any 16 HE.out.dr (by omega) (by omega)).mono ?_
  rintro _ w2 ⟨⟨k, k0, k16, rfl⟩, s2, g2⟩
  replace HE := hide (HE.out.step s2 g2)
  clear s2 g2
  by_cases h0 : k = 0
  · subst h0
    go_wp2_with fail
    refine (raw_any HE.out.dr).mono ?_
    rintro _ w3 ⟨⟨x, rfl⟩, s3, g3⟩
    replace HE := hide (HE.out.step s3 g3)
    clear s3 g3
    have z0 := HE.out.e0
    have zf0 := HE.out.ev.frozen 0
    have r0 := HE.out.r0
    have rf0 := HE.out.res.frozen 0
    have z1 := HE.out.e1
    have zf1 := HE.out.ev.frozen 1
    have r1 := HE.out.r1
    have rf1 := HE.out.res.frozen 1
    have z2 := HE.out.e2
    have zf2 := HE.out.ev.frozen 2
    have r2 := HE.out.r2
    have rf2 := HE.out.res.frozen 2
    have z3 := HE.out.e3
    have zf3 := HE.out.ev.frozen 3
    have r3 := HE.out.r3
    have rf3 := HE.out.res.frozen 3
    have z4 := HE.out.e4
    have zf4 := HE.out.ev.frozen 4
    have r4 := HE.out.r4
    have rf4 := HE.out.res.frozen 4
    have z5 := HE.out.e5
    have zf5 := HE.out.ev.frozen 5
    have r5 := HE.out.r5
    have rf5 := HE.out.res.frozen 5
    have z6 := HE.out.e6
    have zf6 := HE.out.ev.frozen 6
    have r6 := HE.out.r6
    have rf6 := HE.out.res.frozen 6
    have hne := HE.out.er
    have hlt := HE.out.ev.lt
    have hlr := HE.out.res.lt
    go_wp2_with fail
    obtain ⟨⟨o0, o1, o2, o3, o4, o5, o6⟩, t1, t2⟩ := (HE.out.set0 x).fin rfl
    refine bodyPost_ret (v := evV x ey ec et em ef eb) ?_ rfl ⟨isEv, t1, t2⟩
    revert o0 o1 o2 o3 o4 o5 o6
    clear t1 t2
    generalize World.setCell (World.setCell _ _ _) _ _ = W
    intro o0 o1 o2 o3 o4 o5 o6
    simp [results, Tryz.results59, go_sem, o0, o1, o2, o3, o4, o5, o6]
  have h0' : (k == 0) = false := beq_eq_false_iff_ne.2 h0
  by_cases h1 : k = 1
  · subst h1
    go_wp2_with fail
    refine (raw_any HE.out.dr).mono ?_
    rintro _ w3 ⟨⟨x, rfl⟩, s3, g3⟩
    replace HE := hide (HE.out.step s3 g3)
    clear s3 g3
    have z0 := HE.out.e0
    have zf0 := HE.out.ev.frozen 0
    have r0 := HE.out.r0
    have rf0 := HE.out.res.frozen 0
    have z1 := HE.out.e1
    have zf1 := HE.out.ev.frozen 1
    have r1 := HE.out.r1
    have rf1 := HE.out.res.frozen 1
    have z2 := HE.out.e2
    have zf2 := HE.out.ev.frozen 2
    have r2 := HE.out.r2
    have rf2 := HE.out.res.frozen 2
    have z3 := HE.out.e3
    have zf3 := HE.out.ev.frozen 3
    have r3 := HE.out.r3
    have rf3 := HE.out.res.frozen 3
    have z4 := HE.out.e4
    have zf4 := HE.out.ev.frozen 4
    have r4 := HE.out.r4
    have rf4 := HE.out.res.frozen 4
    have z5 := HE.out.e5
    have zf5 := HE.out.ev.frozen 5
    have r5 := HE.out.r5
    have rf5 := HE.out.res.frozen 5
    have z6 := HE.out.e6
    have zf6 := HE.out.ev.frozen 6
    have r6 := HE.out.r6
    have rf6 := HE.out.res.frozen 6
    have hne := HE.out.er
    have hlt := HE.out.ev.lt
    have hlr := HE.out.res.lt
    go_wp2_with fail
    obtain ⟨⟨o0, o1, o2, o3, o4, o5, o6⟩, t1, t2⟩ := (HE.out.set1 x).fin rfl
    refine bodyPost_ret (v := evV ek x ec et em ef eb) ?_ rfl ⟨isEv, t1, t2⟩
    revert o0 o1 o2 o3 o4 o5 o6
    clear t1 t2
    generalize World.setCell (World.setCell _ _ _) _ _ = W
    intro o0 o1 o2 o3 o4 o5 o6
    simp [results, Tryz.results59, go_sem, o0, o1, o2, o3, o4, o5, o6]
  have h1' : (k == 1) = false := beq_eq_false_iff_ne.2 h1
  by_cases h2 : k = 2
  · subst h2
    go_wp2_with fail
    refine (raw_any HE.out.dr).mono ?_
    rintro _ w3 ⟨⟨x, rfl⟩, s3, g3⟩
    replace HE := hide (HE.out.step s3 g3)
    clear s3 g3
    have z0 := HE.out.e0
    have zf0 := HE.out.ev.frozen 0
    have r0 := HE.out.r0
    have rf0 := HE.out.res.frozen 0
    have z1 := HE.out.e1
    have zf1 := HE.out.ev.frozen 1
    have r1 := HE.out.r1
    have rf1 := HE.out.res.frozen 1
    have z2 := HE.out.e2
    have zf2 := HE.out.ev.frozen 2
    have r2 := HE.out.r2
    have rf2 := HE.out.res.frozen 2
    have z3 := HE.out.e3
    have zf3 := HE.out.ev.frozen 3
    have r3 := HE.out.r3
    have rf3 := HE.out.res.frozen 3
    have z4 := HE.out.e4
    have zf4 := HE.out.ev.frozen 4
    have r4 := HE.out.r4
    have rf4 := HE.out.res.frozen 4
    have z5 := HE.out.e5
    have zf5 := HE.out.ev.frozen 5
    have r5 := HE.out.r5
    have rf5 := HE.out.res.frozen 5
    have z6 := HE.out.e6
    have zf6 := HE.out.ev.frozen 6
    have r6 := HE.out.r6
    have rf6 := HE.out.res.frozen 6
    have hne := HE.out.er
    have hlt := HE.out.ev.lt
    have hlr := HE.out.res.lt
    go_wp2_with fail
    obtain ⟨⟨o0, o1, o2, o3, o4, o5, o6⟩, t1, t2⟩ := (HE.out.set2 x).fin rfl
    refine bodyPost_ret (v := evV ek ey x et em ef eb) ?_ rfl ⟨isEv, t1, t2⟩
    revert o0 o1 o2 o3 o4 o5 o6
    clear t1 t2
    generalize World.setCell (World.setCell _ _ _) _ _ = W
    intro o0 o1 o2 o3 o4 o5 o6
    simp [results, Tryz.results59, go_sem, o0, o1, o2, o3, o4, o5, o6]
  have h2' : (k == 2) = false := beq_eq_false_iff_ne.2 h2
  by_cases h3 : k = 3
  · subst h3
    have z0 := HE.out.e0
    have zf0 := HE.out.ev.frozen 0
    have r0 := HE.out.r0
    have rf0 := HE.out.res.frozen 0
    have z1 := HE.out.e1
    have zf1 := HE.out.ev.frozen 1
    have r1 := HE.out.r1
    have rf1 := HE.out.res.frozen 1
    have z2 := HE.out.e2
    have zf2 := HE.out.ev.frozen 2
    have r2 := HE.out.r2
    have rf2 := HE.out.res.frozen 2
    have z3 := HE.out.e3
    have zf3 := HE.out.ev.frozen 3
    have r3 := HE.out.r3
    have rf3 := HE.out.res.frozen 3
    have z4 := HE.out.e4
    have zf4 := HE.out.ev.frozen 4
    have r4 := HE.out.r4
    have rf4 := HE.out.res.frozen 4
    have z5 := HE.out.e5
    have zf5 := HE.out.ev.frozen 5
    have r5 := HE.out.r5
    have rf5 := HE.out.res.frozen 5
    have z6 := HE.out.e6
    have zf6 := HE.out.ev.frozen 6
    have r6 := HE.out.r6
    have rf6 := HE.out.res.frozen 6
    have hne := HE.out.er
    have hlt := HE.out.ev.lt
    have hlr := HE.out.res.lt
    go_wp2_with fail
    obtain ⟨⟨o0, o1, o2, o3, o4, o5, o6⟩, t1, t2⟩ := (HE.out.set3 ec).fin rfl
    refine bodyPost_ret (v := evV ek ey ec ec em ef eb) ?_ rfl ⟨isEv, t1, t2⟩
    revert o0 o1 o2 o3 o4 o5 o6
    clear t1 t2
    generalize World.setCell (World.setCell _ _ _) _ _ = W
    intro o0 o1 o2 o3 o4 o5 o6
    simp [results, Tryz.results59, go_sem, o0, o1, o2, o3, o4, o5, o6]
  have h3' : (k == 3) = false := beq_eq_false_iff_ne.2 h3
  by_cases h4 : k = 4
  · subst h4
    go_wp2_with fail
    refine (raw_any HE.out.dr).mono ?_
    rintro _ w3 ⟨⟨x, rfl⟩, s3, g3⟩
    replace HE := hide (HE.out.step s3 g3)
    clear s3 g3
    have z0 := HE.out.e0
    have zf0 := HE.out.ev.frozen 0
    have r0 := HE.out.r0
    have rf0 := HE.out.res.frozen 0
    have z1 := HE.out.e1
    have zf1 := HE.out.ev.frozen 1
    have r1 := HE.out.r1
    have rf1 := HE.out.res.frozen 1
    have z2 := HE.out.e2
    have zf2 := HE.out.ev.frozen 2
    have r2 := HE.out.r2
    have rf2 := HE.out.res.frozen 2
    have z3 := HE.out.e3
    have zf3 := HE.out.ev.frozen 3
    have r3 := HE.out.r3
    have rf3 := HE.out.res.frozen 3
    have z4 := HE.out.e4
    have zf4 := HE.out.ev.frozen 4
    have r4 := HE.out.r4
    have rf4 := HE.out.res.frozen 4
    have z5 := HE.out.e5
    have zf5 := HE.out.ev.frozen 5
    have r5 := HE.out.r5
    have rf5 := HE.out.res.frozen 5
    have z6 := HE.out.e6
    have zf6 := HE.out.ev.frozen 6
    have r6 := HE.out.r6
    have rf6 := HE.out.res.frozen 6
    have hne := HE.out.er
    have hlt := HE.out.ev.lt
    have hlr := HE.out.res.lt
    go_wp2_with fail
    obtain ⟨⟨o0, o1, o2, o3, o4, o5, o6⟩, t1, t2⟩ := (HE.out.set4 x).fin rfl
    refine bodyPost_ret (v := evV ek ey ec et x ef eb) ?_ rfl ⟨isEv, t1, t2⟩
    revert o0 o1 o2 o3 o4 o5 o6
    clear t1 t2
    generalize World.setCell (World.setCell _ _ _) _ _ = W
    intro o0 o1 o2 o3 o4 o5 o6
    simp [results, Tryz.results59, go_sem, o0, o1, o2, o3, o4, o5, o6]
  have h4' : (k == 4) = false := beq_eq_false_iff_ne.2 h4
  by_cases h5 : k = 5
  · subst h5
    go_wp2_with fail
    refine (raw_any HE.out.dr).mono ?_
    rintro _ w3 ⟨⟨x, rfl⟩, s3, g3⟩
    replace HE := hide (HE.out.step s3 g3)
    clear s3 g3
    have z0 := HE.out.e0
    have zf0 := HE.out.ev.frozen 0
    have r0 := HE.out.r0
    have rf0 := HE.out.res.frozen 0
    have z1 := HE.out.e1
    have zf1 := HE.out.ev.frozen 1
    have r1 := HE.out.r1
    have rf1 := HE.out.res.frozen 1
    have z2 := HE.out.e2
    have zf2 := HE.out.ev.frozen 2
    have r2 := HE.out.r2
    have rf2 := HE.out.res.frozen 2
    have z3 := HE.out.e3
    have zf3 := HE.out.ev.frozen 3
    have r3 := HE.out.r3
    have rf3 := HE.out.res.frozen 3
    have z4 := HE.out.e4
    have zf4 := HE.out.ev.frozen 4
    have r4 := HE.out.r4
    have rf4 := HE.out.res.frozen 4
    have z5 := HE.out.e5
    have zf5 := HE.out.ev.frozen 5
    have r5 := HE.out.r5
    have rf5 := HE.out.res.frozen 5
    have z6 := HE.out.e6
    have zf6 := HE.out.ev.frozen 6
    have r6 := HE.out.r6
    have rf6 := HE.out.res.frozen 6
    have hne := HE.out.er
    have hlt := HE.out.ev.lt
    have hlr := HE.out.res.lt
    go_wp2_with fail
    obtain ⟨⟨o0, o1, o2, o3, o4, o5, o6⟩, t1, t2⟩ := (HE.out.set5 x).fin rfl
    refine bodyPost_ret (v := evV ek ey ec et em x eb) ?_ rfl ⟨isEv, t1, t2⟩
    revert o0 o1 o2 o3 o4 o5 o6
    clear t1 t2
    generalize World.setCell (World.setCell _ _ _) _ _ = W
    intro o0 o1 o2 o3 o4 o5 o6
    simp [results, Tryz.results59, go_sem, o0, o1, o2, o3, o4, o5, o6]
  have h5' : (k == 5) = false := beq_eq_false_iff_ne.2 h5
  by_cases h6 : k = 6
  · subst h6
    have z0 := HE.out.e0
    have zf0 := HE.out.ev.frozen 0
    have r0 := HE.out.r0
    have rf0 := HE.out.res.frozen 0
    have z1 := HE.out.e1
    have zf1 := HE.out.ev.frozen 1
    have r1 := HE.out.r1
    have rf1 := HE.out.res.frozen 1
    have z2 := HE.out.e2
    have zf2 := HE.out.ev.frozen 2
    have r2 := HE.out.r2
    have rf2 := HE.out.res.frozen 2
    have z3 := HE.out.e3
    have zf3 := HE.out.ev.frozen 3
    have r3 := HE.out.r3
    have rf3 := HE.out.res.frozen 3
    have z4 := HE.out.e4
    have zf4 := HE.out.ev.frozen 4
    have r4 := HE.out.r4
    have rf4 := HE.out.res.frozen 4
    have z5 := HE.out.e5
    have zf5 := HE.out.ev.frozen 5
    have r5 := HE.out.r5
    have rf5 := HE.out.res.frozen 5
    have z6 := HE.out.e6
    have zf6 := HE.out.ev.frozen 6
    have r6 := HE.out.r6
    have rf6 := HE.out.res.frozen 6
    have hne := HE.out.er
    have hlt := HE.out.ev.lt
    have hlr := HE.out.res.lt
    go_wp2_with fail
    obtain ⟨⟨o0, o1, o2, o3, o4, o5, o6⟩, t1, t2⟩ := (HE.out.set6 (!eb)).fin rfl
    refine bodyPost_ret (v := evV ek ey ec et em ef (!eb)) ?_ rfl ⟨isEv, t1, t2⟩
    revert o0 o1 o2 o3 o4 o5 o6
    clear t1 t2
    generalize World.setCell (World.setCell _ _ _) _ _ = W
    intro o0 o1 o2 o3 o4 o5 o6
    simp [results, Tryz.results59, go_sem, o0, o1, o2, o3, o4, o5, o6]
  have h6' : (k == 6) = false := beq_eq_false_iff_ne.2 h6
  have z0 := HE.out.e0
  have zf0 := HE.out.ev.frozen 0
  have r0 := HE.out.r0
  have rf0 := HE.out.res.frozen 0
  have z1 := HE.out.e1
  have zf1 := HE.out.ev.frozen 1
  have r1 := HE.out.r1
  have rf1 := HE.out.res.frozen 1
  have z2 := HE.out.e2
  have zf2 := HE.out.ev.frozen 2
  have r2 := HE.out.r2
  have rf2 := HE.out.res.frozen 2
  have z3 := HE.out.e3
  have zf3 := HE.out.ev.frozen 3
  have r3 := HE.out.r3
  have rf3 := HE.out.res.frozen 3
  have z4 := HE.out.e4
  have zf4 := HE.out.ev.frozen 4
  have r4 := HE.out.r4
  have rf4 := HE.out.res.frozen 4
  have z5 := HE.out.e5
  have zf5 := HE.out.ev.frozen 5
  have r5 := HE.out.r5
  have rf5 := HE.out.res.frozen 5
  have z6 := HE.out.e6
  have zf6 := HE.out.ev.frozen 6
  have r6 := HE.out.r6
  have rf6 := HE.out.res.frozen 6
  have hne := HE.out.er
  have hlt := HE.out.ev.lt
  have hlr := HE.out.res.lt
  go_wp2_with fail
  obtain ⟨⟨o0, o1, o2, o3, o4, o5, o6⟩, t1, t2⟩ := HE.out.fin rfl
  refine bodyPost_ret (v := evV ek ey ec et em ef eb) ?_ rfl ⟨isEv, t1, t2⟩
  revert o0 o1 o2 o3 o4 o5 o6
  clear t1 t2
  generalize World.setCell (World.setCell _ _ _) _ _ = W
  intro o0 o1 o2 o3 o4 o5 o6
  simp [results, Tryz.results59, go_sem, o0, o1, o2, o3, o4, o5, o6]
end Go.Proofs.YtkgpoghoilffhaaGreatDoor
