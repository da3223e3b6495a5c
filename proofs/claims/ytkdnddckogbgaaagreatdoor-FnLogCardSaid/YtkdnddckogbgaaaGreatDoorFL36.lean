/- Texts of the verifier, joined: DrEa, DrLa. -/
import Derived.Test.YtkdnddckogbgaaaGreatDoorFL27
import Derived.Test.YtkdnddckogbgaaaGreatDoorFL35
namespace Go.Proofs.YtkdnddckogbgaaaGreatDoor
open Go.RowKit Go.Deep
set_option linter.unusedVariables false
set_option linter.unusedSimpArgs false
set_option maxRecDepth 10000
/-- The draw of any event under way: its variable, the result. -/
structure EaSt (w : World) (B0 B : Nat) (a : Option Addr) (len cap : Nat) (R E : Nat) (k y c t m f : Int) (b : Bool) (W : World) : Prop where
  ev : W.rowIs E 30 7 (evRow k y c t m f b)
  res : W.rowIs R 30 7 (evRow 0 0 0 0 0 0 false)
  dr : Dr B0 B a len cap W
  g : w.grownBy W (some B)
  er : R ≠ E
  ne : w.heap.size ≤ E
  nr : w.heap.size ≤ R
  hb : B < w.heap.size
  h0 : B0 ≤ B
section
variable {w W W' : World} {B0 B : Nat} {a : Option Addr} {len cap R E : Nat} {k y c t m f : Int} {b : Bool}
theorem EaSt.step (s : EaSt w B0 B a len cap R E k y c t m f b W) (d : Dr B0 B a len cap W') (g : W.grownBy W' (some B)) : EaSt w B0 B a len cap R E k y c t m f b W' :=
  ⟨grown_row g (by have := s.ne; have := s.hb; simp; omega) s.ev, grown_row g (by have := s.nr; have := s.hb; simp; omega) s.res, d, s.g.trans g, s.er, s.ne, s.nr, s.hb, s.h0⟩
theorem EaSt.set0 (s : EaSt w B0 B a len cap R E k y c t m f b W) (z : Int) : EaSt w B0 B a len cap R E z y c t m f b (W.setCell ⟨E, 0, none⟩ (.int .i64 z)) :=
  ⟨(s.ev.set 0 (.int .i64 z)).congr (ev_congr rfl rfl rfl rfl rfl rfl rfl), s.res.setOther (a := ⟨E, 0, none⟩) s.er (.int .i64 z), s.dr.set (by have := s.ne; have := s.hb; omega) (by have := s.ne; have := s.hb; have := s.h0; omega) _, grown_new s.g s.ne, s.er, s.ne, s.nr, s.hb, s.h0⟩
theorem EaSt.set1 (s : EaSt w B0 B a len cap R E k y c t m f b W) (z : Int) : EaSt w B0 B a len cap R E k z c t m f b (W.setCell ⟨E, 1, none⟩ (.int .i64 z)) :=
  ⟨(s.ev.set 1 (.int .i64 z)).congr (ev_congr rfl rfl rfl rfl rfl rfl rfl), s.res.setOther (a := ⟨E, 1, none⟩) s.er (.int .i64 z), s.dr.set (by have := s.ne; have := s.hb; omega) (by have := s.ne; have := s.hb; have := s.h0; omega) _, grown_new s.g s.ne, s.er, s.ne, s.nr, s.hb, s.h0⟩
theorem EaSt.set2 (s : EaSt w B0 B a len cap R E k y c t m f b W) (z : Int) : EaSt w B0 B a len cap R E k y z t m f b (W.setCell ⟨E, 2, none⟩ (.int .i64 z)) :=
  ⟨(s.ev.set 2 (.int .i64 z)).congr (ev_congr rfl rfl rfl rfl rfl rfl rfl), s.res.setOther (a := ⟨E, 2, none⟩) s.er (.int .i64 z), s.dr.set (by have := s.ne; have := s.hb; omega) (by have := s.ne; have := s.hb; have := s.h0; omega) _, grown_new s.g s.ne, s.er, s.ne, s.nr, s.hb, s.h0⟩
theorem EaSt.set3 (s : EaSt w B0 B a len cap R E k y c t m f b W) (z : Int) : EaSt w B0 B a len cap R E k y c z m f b (W.setCell ⟨E, 3, none⟩ (.int .i64 z)) :=
  ⟨(s.ev.set 3 (.int .i64 z)).congr (ev_congr rfl rfl rfl rfl rfl rfl rfl), s.res.setOther (a := ⟨E, 3, none⟩) s.er (.int .i64 z), s.dr.set (by have := s.ne; have := s.hb; omega) (by have := s.ne; have := s.hb; have := s.h0; omega) _, grown_new s.g s.ne, s.er, s.ne, s.nr, s.hb, s.h0⟩
theorem EaSt.set4 (s : EaSt w B0 B a len cap R E k y c t m f b W) (z : Int) : EaSt w B0 B a len cap R E k y c t z f b (W.setCell ⟨E, 4, none⟩ (.int .i64 z)) :=
  ⟨(s.ev.set 4 (.int .i64 z)).congr (ev_congr rfl rfl rfl rfl rfl rfl rfl), s.res.setOther (a := ⟨E, 4, none⟩) s.er (.int .i64 z), s.dr.set (by have := s.ne; have := s.hb; omega) (by have := s.ne; have := s.hb; have := s.h0; omega) _, grown_new s.g s.ne, s.er, s.ne, s.nr, s.hb, s.h0⟩
theorem EaSt.set5 (s : EaSt w B0 B a len cap R E k y c t m f b W) (z : Int) : EaSt w B0 B a len cap R E k y c t m z b (W.setCell ⟨E, 5, none⟩ (.int .i64 z)) :=
  ⟨(s.ev.set 5 (.int .i64 z)).congr (ev_congr rfl rfl rfl rfl rfl rfl rfl), s.res.setOther (a := ⟨E, 5, none⟩) s.er (.int .i64 z), s.dr.set (by have := s.ne; have := s.hb; omega) (by have := s.ne; have := s.hb; have := s.h0; omega) _, grown_new s.g s.ne, s.er, s.ne, s.nr, s.hb, s.h0⟩
theorem EaSt.set6 (s : EaSt w B0 B a len cap R E k y c t m f b W) (z : Bool) : EaSt w B0 B a len cap R E k y c t m f z (W.setCell ⟨E, 6, none⟩ (.bool z)) :=
  ⟨(s.ev.set 6 (.bool z)).congr (ev_congr rfl rfl rfl rfl rfl rfl rfl), s.res.setOther (a := ⟨E, 6, none⟩) s.er (.bool z), s.dr.set (by have := s.ne; have := s.hb; omega) (by have := s.ne; have := s.hb; have := s.h0; omega) _, grown_new s.g s.ne, s.er, s.ne, s.nr, s.hb, s.h0⟩
theorem EaSt.e0 (s : EaSt w B0 B a len cap R E k y c t m f b W) : W.cell? ⟨E, 0, none⟩ = some (.int .i64 k) := s.ev.cell (i := 0) (by decide)
theorem EaSt.r0 (s : EaSt w B0 B a len cap R E k y c t m f b W) : W.cell? ⟨R, 0, none⟩ = some (.int .i64 0) := s.res.cell (i := 0) (by decide)
theorem EaSt.e1 (s : EaSt w B0 B a len cap R E k y c t m f b W) : W.cell? ⟨E, 1, none⟩ = some (.int .i64 y) := s.ev.cell (i := 1) (by decide)
theorem EaSt.r1 (s : EaSt w B0 B a len cap R E k y c t m f b W) : W.cell? ⟨R, 1, none⟩ = some (.int .i64 0) := s.res.cell (i := 1) (by decide)
theorem EaSt.e2 (s : EaSt w B0 B a len cap R E k y c t m f b W) : W.cell? ⟨E, 2, none⟩ = some (.int .i64 c) := s.ev.cell (i := 2) (by decide)
theorem EaSt.r2 (s : EaSt w B0 B a len cap R E k y c t m f b W) : W.cell? ⟨R, 2, none⟩ = some (.int .i64 0) := s.res.cell (i := 2) (by decide)
theorem EaSt.e3 (s : EaSt w B0 B a len cap R E k y c t m f b W) : W.cell? ⟨E, 3, none⟩ = some (.int .i64 t) := s.ev.cell (i := 3) (by decide)
theorem EaSt.r3 (s : EaSt w B0 B a len cap R E k y c t m f b W) : W.cell? ⟨R, 3, none⟩ = some (.int .i64 0) := s.res.cell (i := 3) (by decide)
theorem EaSt.e4 (s : EaSt w B0 B a len cap R E k y c t m f b W) : W.cell? ⟨E, 4, none⟩ = some (.int .i64 m) := s.ev.cell (i := 4) (by decide)
theorem EaSt.r4 (s : EaSt w B0 B a len cap R E k y c t m f b W) : W.cell? ⟨R, 4, none⟩ = some (.int .i64 0) := s.res.cell (i := 4) (by decide)
theorem EaSt.e5 (s : EaSt w B0 B a len cap R E k y c t m f b W) : W.cell? ⟨E, 5, none⟩ = some (.int .i64 f) := s.ev.cell (i := 5) (by decide)
theorem EaSt.r5 (s : EaSt w B0 B a len cap R E k y c t m f b W) : W.cell? ⟨R, 5, none⟩ = some (.int .i64 0) := s.res.cell (i := 5) (by decide)
theorem EaSt.e6 (s : EaSt w B0 B a len cap R E k y c t m f b W) : W.cell? ⟨E, 6, none⟩ = some (.bool b) := s.ev.cell (i := 6) (by decide)
theorem EaSt.r6 (s : EaSt w B0 B a len cap R E k y c t m f b W) : W.cell? ⟨R, 6, none⟩ = some (.bool false) := s.res.cell (i := 6) (by decide)
/-- The result's cells are written. -/
theorem EaSt.fin (s : EaSt w B0 B a len cap R E k y c t m f b W) {V : World} (hV : V = (((((((W.setCell ⟨R, 0, none⟩ (.int .i64 k)).setCell ⟨R, 1, none⟩ (.int .i64 y)).setCell ⟨R, 2, none⟩ (.int .i64 c)).setCell ⟨R, 3, none⟩ (.int .i64 t)).setCell ⟨R, 4, none⟩ (.int .i64 m)).setCell ⟨R, 5, none⟩ (.int .i64 f)).setCell ⟨R, 6, none⟩ (.bool b))) : (V.cell? ⟨R, 0, none⟩ = some (.int .i64 k) ∧ V.cell? ⟨R, 1, none⟩ = some (.int .i64 y) ∧ V.cell? ⟨R, 2, none⟩ = some (.int .i64 c) ∧ V.cell? ⟨R, 3, none⟩ = some (.int .i64 t) ∧ V.cell? ⟨R, 4, none⟩ = some (.int .i64 m) ∧ V.cell? ⟨R, 5, none⟩ = some (.int .i64 f) ∧ V.cell? ⟨R, 6, none⟩ = some (.bool b)) ∧ Dr B0 B a len cap V ∧ w.grownBy V (some B) := by
  subst hV
  have r : ((((((((W.setCell ⟨R, 0, none⟩ (.int .i64 k)).setCell ⟨R, 1, none⟩ (.int .i64 y)).setCell ⟨R, 2, none⟩ (.int .i64 c)).setCell ⟨R, 3, none⟩ (.int .i64 t)).setCell ⟨R, 4, none⟩ (.int .i64 m)).setCell ⟨R, 5, none⟩ (.int .i64 f)).setCell ⟨R, 6, none⟩ (.bool b))).rowIs R 30 7 (evRow k y c t m f b) := (((((((s.res.set 0 (.int .i64 k)).set 1 (.int .i64 y)).set 2 (.int .i64 c)).set 3 (.int .i64 t)).set 4 (.int .i64 m)).set 5 (.int .i64 f)).set 6 (.bool b)).congr (ev_congr rfl rfl rfl rfl rfl rfl rfl)
  exact ⟨⟨r.cell (i := 0) (by decide), r.cell (i := 1) (by decide), r.cell (i := 2) (by decide), r.cell (i := 3) (by decide), r.cell (i := 4) (by decide), r.cell (i := 5) (by decide), r.cell (i := 6) (by decide)⟩, (((((((s.dr.set (by have := s.nr; have := s.hb; omega) (by have := s.nr; have := s.hb; have := s.h0; omega) _).set (by have := s.nr; have := s.hb; omega) (by have := s.nr; have := s.hb; have := s.h0; omega) _).set (by have := s.nr; have := s.hb; omega) (by have := s.nr; have := s.hb; have := s.h0; omega) _).set (by have := s.nr; have := s.hb; omega) (by have := s.nr; have := s.hb; have := s.h0; omega) _).set (by have := s.nr; have := s.hb; omega) (by have := s.nr; have := s.hb; have := s.h0; omega) _).set (by have := s.nr; have := s.hb; omega) (by have := s.nr; have := s.hb; have := s.h0; omega) _).set (by have := s.nr; have := s.hb; omega) (by have := s.nr; have := s.hb; have := s.h0; omega) _), (grown_new (grown_new (grown_new (grown_new (grown_new (grown_new (grown_new s.g s.nr) s.nr) s.nr) s.nr) s.nr) s.nr) s.nr)⟩
end
set_option maxHeartbeats 8000000 in
theorem anyevent_any {B0 B : Nat} {a : Option Addr} {len cap : Nat} {w : World} (s : Dr B0 B a len cap w) :
    Calls Tryz.prog 32 #[.pointer (some ⟨B, 0, none⟩)] w fun e w' => IsEv e ∧ Dr B0 B a len cap w' ∧ w.grownBy w' (some B) := by
  have hB := s.lt
  have hB0 := s.le
  have HG0 := hide (World.grownBy_alloc w (.cells (evCells 0 0 0 0 0 0 false) 30) (some B))
  have HS0 := hide (s.grown (World.grownBy_alloc w (.cells (evCells 0 0 0 0 0 0 false) 30) none) (by simp) (by simp))
  have HR0 := hide (World.rowIs_alloc w (evCells 0 0 0 0 0 0 false) 30 _ (ev_row 0 0 0 0 0 0 false))
  clear s
  go_enter Tryz.func32, Tryz.ntmps32
  go_wp2_with fail
  refine (event_any HS0.out).mono ?_
  rintro _ w1 ⟨⟨ek, ey, ec, et, em, ef, eb, rfl⟩, s1, g1⟩
  have HR1 := hide (grown_row g1 (by simp; omega) HR0.out)
  have hz := HR1.out.lt
  have HE : Hid (EaSt w B0 B a len cap w.heap.size w1.heap.size ek ey ec et em ef eb (w1.alloc (.cells (evCells ek ey ec et em ef eb) 30))) := by
    have g : w1.grownBy (w1.alloc (.cells (evCells ek ey ec et em ef eb) 30)) none := grown_alloc (grown_refl w1 none) _
    have hz1 := (HG0.out.trans g1).size
    exact ⟨World.rowIs_alloc w1 (evCells ek ey ec et em ef eb) 30 _ (ev_row ek ey ec et em ef eb), grown_row g (by simp) HR1.out, s1.grown g (by simp) (by simp), (HG0.out.trans g1).trans ⟨g.os, g.tape, g.output, g.size, fun k hk _ => g.block k hk (by simp)⟩, by omega, by omega, Nat.le_refl _, hB, hB0⟩
  clear s1 g1 HS0 HG0 HR0 HR1
  go_wp2_with fail
  generalize w1.alloc (.cells (evCells ek ey ec et em ef eb) 30) = W1 at *
  generalize w1.heap.size = Eb at *
  refine (below_any 16 HE.out.dr (by omega) (by omega)).mono ?_
  rintro _ w2 ⟨⟨k, k0, k16, rfl⟩, s2, g2⟩
  replace HE := hide (HE.out.step s2 g2)
  clear s2 g2
  by_cases h0 : k = 0
  · subst h0
    go_wp2_with fail
    refine (raw_any HE.out.dr).mono ?_
    rintro _ w3 ⟨⟨x, rfl⟩, s3, g3⟩
    replace HE := hide (HE.out.step s3 g3)
    clear s3 g3
    have z0 := HE.out.e0
    have zf0 := HE.out.ev.frozen 0
    have r0 := HE.out.r0
    have rf0 := HE.out.res.frozen 0
    have z1 := HE.out.e1
    have zf1 := HE.out.ev.frozen 1
    have r1 := HE.out.r1
    have rf1 := HE.out.res.frozen 1
    have z2 := HE.out.e2
    have zf2 := HE.out.ev.frozen 2
    have r2 := HE.out.r2
    have rf2 := HE.out.res.frozen 2
    have z3 := HE.out.e3
    have zf3 := HE.out.ev.frozen 3
    have r3 := HE.out.r3
    have rf3 := HE.out.res.frozen 3
    have z4 := HE.out.e4
    have zf4 := HE.out.ev.frozen 4
    have r4 := HE.out.r4
    have rf4 := HE.out.res.frozen 4
    have z5 := HE.out.e5
    have zf5 := HE.out.ev.frozen 5
    have r5 := HE.out.r5
    have rf5 := HE.out.res.frozen 5
    have z6 := HE.out.e6
    have zf6 := HE.out.ev.frozen 6
    have r6 := HE.out.r6
    have rf6 := HE.out.res.frozen 6
    have hne := HE.out.er
    have hlt := HE.out.ev.lt
    have hlr := HE.out.res.lt
    go_wp2_with fail
    obtain ⟨⟨o0, o1, o2, o3, o4, o5, o6⟩, t1, t2⟩ := (HE.out.set0 x).fin rfl
    refine bodyPost_ret (v := evV x ey ec et em ef eb) ?_ rfl ⟨isEv, t1, t2⟩
    revert o0 o1 o2 o3 o4 o5 o6
    clear t1 t2
    generalize World.setCell (World.setCell _ _ _) _ _ = W
    intro o0 o1 o2 o3 o4 o5 o6
    simp [results, Tryz.results32, go_sem, o0, o1, o2, o3, o4, o5, o6]
  have h0' : (k == 0) = false := beq_eq_false_iff_ne.2 h0
  by_cases h1 : k = 1
  · subst h1
    go_wp2_with fail
    refine (raw_any HE.out.dr).mono ?_
    rintro _ w3 ⟨⟨x, rfl⟩, s3, g3⟩
    replace HE := hide (HE.out.step s3 g3)
    clear s3 g3
    have z0 := HE.out.e0
    have zf0 := HE.out.ev.frozen 0
    have r0 := HE.out.r0
    have rf0 := HE.out.res.frozen 0
    have z1 := HE.out.e1
    have zf1 := HE.out.ev.frozen 1
    have r1 := HE.out.r1
    have rf1 := HE.out.res.frozen 1
    have z2 := HE.out.e2
    have zf2 := HE.out.ev.frozen 2
    have r2 := HE.out.r2
    have rf2 := HE.out.res.frozen 2
    have z3 := HE.out.e3
    have zf3 := HE.out.ev.frozen 3
    have r3 := HE.out.r3
    have rf3 := HE.out.res.frozen 3
    have z4 := HE.out.e4
    have zf4 := HE.out.ev.frozen 4
    have r4 := HE.out.r4
    have rf4 := HE.out.res.frozen 4
    have z5 := HE.out.e5
    have zf5 := HE.out.ev.frozen 5
    have r5 := HE.out.r5
    have rf5 := HE.out.res.frozen 5
    have z6 := HE.out.e6
    have zf6 := HE.out.ev.frozen 6
    have r6 := HE.out.r6
    have rf6 := HE.out.res.frozen 6
    have hne := HE.out.er
    have hlt := HE.out.ev.lt
    have hlr := HE.out.res.lt
    go_wp2_with fail
    obtain ⟨⟨o0, o1, o2, o3, o4, o5, o6⟩, t1, t2⟩ := (HE.out.set1 x).fin rfl
    refine bodyPost_ret (v := evV ek x ec et em ef eb) ?_ rfl ⟨isEv, t1, t2⟩
    revert o0 o1 o2 o3 o4 o5 o6
    clear t1 t2
    generalize World.setCell (World.setCell _ _ _) _ _ = W
    intro o0 o1 o2 o3 o4 o5 o6
    simp [results, Tryz.results32, go_sem, o0, o1, o2, o3, o4, o5, o6]
  have h1' : (k == 1) = false := beq_eq_false_iff_ne.2 h1
  by_cases h2 : k = 2
  · subst h2
    go_wp2_with fail
    refine (raw_any HE.out.dr).mono ?_
    rintro _ w3 ⟨⟨x, rfl⟩, s3, g3⟩
    replace HE := hide (HE.out.step s3 g3)
    clear s3 g3
    have z0 := HE.out.e0
    have zf0 := HE.out.ev.frozen 0
    have r0 := HE.out.r0
    have rf0 := HE.out.res.frozen 0
    have z1 := HE.out.e1
    have zf1 := HE.out.ev.frozen 1
    have r1 := HE.out.r1
    have rf1 := HE.out.res.frozen 1
    have z2 := HE.out.e2
    have zf2 := HE.out.ev.frozen 2
    have r2 := HE.out.r2
    have rf2 := HE.out.res.frozen 2
    have z3 := HE.out.e3
    have zf3 := HE.out.ev.frozen 3
    have r3 := HE.out.r3
    have rf3 := HE.out.res.frozen 3
    have z4 := HE.out.e4
    have zf4 := HE.out.ev.frozen 4
    have r4 := HE.out.r4
    have rf4 := HE.out.res.frozen 4
    have z5 := HE.out.e5
    have zf5 := HE.out.ev.frozen 5
    have r5 := HE.out.r5
    have rf5 := HE.out.res.frozen 5
    have z6 := HE.out.e6
    have zf6 := HE.out.ev.frozen 6
    have r6 := HE.out.r6
    have rf6 := HE.out.res.frozen 6
    have hne := HE.out.er
    have hlt := HE.out.ev.lt
    have hlr := HE.out.res.lt
    go_wp2_with fail
    obtain ⟨⟨o0, o1, o2, o3, o4, o5, o6⟩, t1, t2⟩ := (HE.out.set2 x).fin rfl
    refine bodyPost_ret (v := evV ek ey x et em ef eb) ?_ rfl ⟨isEv, t1, t2⟩
    revert o0 o1 o2 o3 o4 o5 o6
    clear t1 t2
    generalize World.setCell (World.setCell _ _ _) _ _ = W
    intro o0 o1 o2 o3 o4 o5 o6
    simp [results, Tryz.results32, go_sem, o0, o1, o2, o3, o4, o5, o6]
  have h2' : (k == 2) = false := beq_eq_false_iff_ne.2 h2
  by_cases h3 : k = 3
  · subst h3
    have z0 := HE.out.e0
    have zf0 := HE.out.ev.frozen 0
    have r0 := HE.out.r0
    have rf0 := HE.out.res.frozen 0
    have z1 := HE.out.e1
    have zf1 := HE.out.ev.frozen 1
    have r1 := HE.out.r1
    have rf1 := HE.out.res.frozen 1
    have z2 := HE.out.e2
    have zf2 := HE.out.ev.frozen 2
    have r2 := HE.out.r2
    have rf2 := HE.out.res.frozen 2
    have z3 := HE.out.e3
    have zf3 := HE.out.ev.frozen 3
    have r3 := HE.out.r3
    have rf3 := HE.out.res.frozen 3
    have z4 := HE.out.e4
    have zf4 := HE.out.ev.frozen 4
    have r4 := HE.out.r4
    have rf4 := HE.out.res.frozen 4
    have z5 := HE.out.e5
    have zf5 := HE.out.ev.frozen 5
    have r5 := HE.out.r5
    have rf5 := HE.out.res.frozen 5
    have z6 := HE.out.e6
    have zf6 := HE.out.ev.frozen 6
    have r6 := HE.out.r6
    have rf6 := HE.out.res.frozen 6
    have hne := HE.out.er
    have hlt := HE.out.ev.lt
    have hlr := HE.out.res.lt
    go_wp2_with fail
    obtain ⟨⟨o0, o1, o2, o3, o4, o5, o6⟩, t1, t2⟩ := (HE.out.set3 ec).fin rfl
    refine bodyPost_ret (v := evV ek ey ec ec em ef eb) ?_ rfl ⟨isEv, t1, t2⟩
    revert o0 o1 o2 o3 o4 o5 o6
    clear t1 t2
    generalize World.setCell (World.setCell _ _ _) _ _ = W
    intro o0 o1 o2 o3 o4 o5 o6
    simp [results, Tryz.results32, go_sem, o0, o1, o2, o3, o4, o5, o6]
  have h3' : (k == 3) = false := beq_eq_false_iff_ne.2 h3
  by_cases h4 : k = 4
  · subst h4
    go_wp2_with fail
    refine (raw_any HE.out.dr).mono ?_
    rintro _ w3 ⟨⟨x, rfl⟩, s3, g3⟩
    replace HE := hide (HE.out.step s3 g3)
    clear s3 g3
    have z0 := HE.out.e0
    have zf0 := HE.out.ev.frozen 0
    have r0 := HE.out.r0
    have rf0 := HE.out.res.frozen 0
    have z1 := HE.out.e1
    have zf1 := HE.out.ev.frozen 1
    have r1 := HE.out.r1
    have rf1 := HE.out.res.frozen 1
    have z2 := HE.out.e2
    have zf2 := HE.out.ev.frozen 2
    have r2 := HE.out.r2
    have rf2 := HE.out.res.frozen 2
    have z3 := HE.out.e3
    have zf3 := HE.out.ev.frozen 3
    have r3 := HE.out.r3
    have rf3 := HE.out.res.frozen 3
    have z4 := HE.out.e4
    have zf4 := HE.out.ev.frozen 4
    have r4 := HE.out.r4
    have rf4 := HE.out.res.frozen 4
    have z5 := HE.out.e5
    have zf5 := HE.out.ev.frozen 5
    have r5 := HE.out.r5
    have rf5 := HE.out.res.frozen 5
    have z6 := HE.out.e6
    have zf6 := HE.out.ev.frozen 6
    have r6 := HE.out.r6
    have rf6 := HE.out.res.frozen 6
    have hne := HE.out.er
    have hlt := HE.out.ev.lt
    have hlr := HE.out.res.lt
    go_wp2_with fail
    obtain ⟨⟨o0, o1, o2, o3, o4, o5, o6⟩, t1, t2⟩ := (HE.out.set4 x).fin rfl
    refine bodyPost_ret (v := evV ek ey ec et x ef eb) ?_ rfl ⟨isEv, t1, t2⟩
    revert o0 o1 o2 o3 o4 o5 o6
    clear t1 t2
    generalize World.setCell (World.setCell _ _ _) _ _ = W
    intro o0 o1 o2 o3 o4 o5 o6
    simp [results, Tryz.results32, go_sem, o0, o1, o2, o3, o4, o5, o6]
  have h4' : (k == 4) = false := beq_eq_false_iff_ne.2 h4
  by_cases h5 : k = 5
  · subst h5
    go_wp2_with fail
    refine (raw_any HE.out.dr).mono ?_
    rintro _ w3 ⟨⟨x, rfl⟩, s3, g3⟩
    replace HE := hide (HE.out.step s3 g3)
    clear s3 g3
    have z0 := HE.out.e0
    have zf0 := HE.out.ev.frozen 0
    have r0 := HE.out.r0
    have rf0 := HE.out.res.frozen 0
    have z1 := HE.out.e1
    have zf1 := HE.out.ev.frozen 1
    have r1 := HE.out.r1
    have rf1 := HE.out.res.frozen 1
    have z2 := HE.out.e2
    have zf2 := HE.out.ev.frozen 2
    have r2 := HE.out.r2
    have rf2 := HE.out.res.frozen 2
    have z3 := HE.out.e3
    have zf3 := HE.out.ev.frozen 3
    have r3 := HE.out.r3
    have rf3 := HE.out.res.frozen 3
    have z4 := HE.out.e4
    have zf4 := HE.out.ev.frozen 4
    have r4 := HE.out.r4
    have rf4 := HE.out.res.frozen 4
    have z5 := HE.out.e5
    have zf5 := HE.out.ev.frozen 5
    have r5 := HE.out.r5
    have rf5 := HE.out.res.frozen 5
    have z6 := HE.out.e6
    have zf6 := HE.out.ev.frozen 6
    have r6 := HE.out.r6
    have rf6 := HE.out.res.frozen 6
    have hne := HE.out.er
    have hlt := HE.out.ev.lt
    have hlr := HE.out.res.lt
    go_wp2_with fail
    obtain ⟨⟨o0, o1, o2, o3, o4, o5, o6⟩, t1, t2⟩ := (HE.out.set5 x).fin rfl
    refine bodyPost_ret (v := evV ek ey ec et em x eb) ?_ rfl ⟨isEv, t1, t2⟩
    revert o0 o1 o2 o3 o4 o5 o6
    clear t1 t2
    generalize World.setCell (World.setCell _ _ _) _ _ = W
    intro o0 o1 o2 o3 o4 o5 o6
    simp [results, Tryz.results32, go_sem, o0, o1, o2, o3, o4, o5, o6]
  have h5' : (k == 5) = false := beq_eq_false_iff_ne.2 h5
  by_cases h6 : k = 6
  · subst h6
    have z0 := HE.out.e0
    have zf0 := HE.out.ev.frozen 0
    have r0 := HE.out.r0
    have rf0 := HE.out.res.frozen 0
    have z1 := HE.out.e1
    have zf1 := HE.out.ev.frozen 1
    have r1 := HE.out.r1
    have rf1 := HE.out.res.frozen 1
    have z2 := HE.out.e2
    have zf2 := HE.out.ev.frozen 2
    have r2 := HE.out.r2
    have rf2 := HE.out.res.frozen 2
    have z3 := HE.out.e3
    have zf3 := HE.out.ev.frozen 3
    have r3 := HE.out.r3
    have rf3 := HE.out.res.frozen 3
    have z4 := HE.out.e4
    have zf4 := HE.out.ev.frozen 4
    have r4 := HE.out.r4
    have rf4 := HE.out.res.frozen 4
    have z5 := HE.out.e5
    have zf5 := HE.out.ev.frozen 5
    have r5 := HE.out.r5
    have rf5 := HE.out.res.frozen 5
    have z6 := HE.out.e6
    have zf6 := HE.out.ev.frozen 6
    have r6 := HE.out.r6
    have rf6 := HE.out.res.frozen 6
    have hne := HE.out.er
    have hlt := HE.out.ev.lt
    have hlr := HE.out.res.lt
    go_wp2_with fail
    obtain ⟨⟨o0, o1, o2, o3, o4, o5, o6⟩, t1, t2⟩ := (HE.out.set6 (!eb)).fin rfl
    refine bodyPost_ret (v := evV ek ey ec et em ef (!eb)) ?_ rfl ⟨isEv, t1, t2⟩
    revert o0 o1 o2 o3 o4 o5 o6
    clear t1 t2
    generalize World.setCell (World.setCell _ _ _) _ _ = W
    intro o0 o1 o2 o3 o4 o5 o6
    simp [results, Tryz.results32, go_sem, o0, o1, o2, o3, o4, o5, o6]
  have h6' : (k == 6) = false := beq_eq_false_iff_ne.2 h6
  have z0 := HE.out.e0
  have zf0 := HE.out.ev.frozen 0
  have r0 := HE.out.r0
  have rf0 := HE.out.res.frozen 0
  have z1 := HE.out.e1
  have zf1 := HE.out.ev.frozen 1
  have r1 := HE.out.r1
  have rf1 := HE.out.res.frozen 1
  have z2 := HE.out.e2
  have zf2 := HE.out.ev.frozen 2
  have r2 := HE.out.r2
  have rf2 := HE.out.res.frozen 2
  have z3 := HE.out.e3
  have zf3 := HE.out.ev.frozen 3
  have r3 := HE.out.r3
  have rf3 := HE.out.res.frozen 3
  have z4 := HE.out.e4
  have zf4 := HE.out.ev.frozen 4
  have r4 := HE.out.r4
  have rf4 := HE.out.res.frozen 4
  have z5 := HE.out.e5
  have zf5 := HE.out.ev.frozen 5
  have r5 := HE.out.r5
  have rf5 := HE.out.res.frozen 5
  have z6 := HE.out.e6
  have zf6 := HE.out.ev.frozen 6
  have r6 := HE.out.r6
  have rf6 := HE.out.res.frozen 6
  have hne := HE.out.er
  have hlt := HE.out.ev.lt
  have hlr := HE.out.res.lt
  go_wp2_with fail
  obtain ⟨⟨o0, o1, o2, o3, o4, o5, o6⟩, t1, t2⟩ := HE.out.fin rfl
  refine bodyPost_ret (v := evV ek ey ec et em ef eb) ?_ rfl ⟨isEv, t1, t2⟩
  revert o0 o1 o2 o3 o4 o5 o6
  clear t1 t2
  generalize World.setCell (World.setCell _ _ _) _ _ = W
  intro o0 o1 o2 o3 o4 o5 o6
  simp [results, Tryz.results32, go_sem, o0, o1, o2, o3, o4, o5, o6]
end Go.Proofs.YtkdnddckogbgaaaGreatDoor
namespace Go.Proofs.YtkdnddckogbgaaaGreatDoor
open Go.RowKit Go.Deep
set_option linter.unusedVariables false
set_option linter.unusedSimpArgs false
set_option maxRecDepth 10000
/-- A log of the call's own. -/
def AnyLg (w w' : World) (e : Ending) : Prop := ∃ v M nx ep, e = .returned v ∧ LogRes w w' v M nx ep
section
variable {w W W' : World} {B0 B : Nat} {a : Option Addr} {len cap base Lb : Nat} {ca : Option Addr} {cc : Nat} {cs : List Bs} {da : Option Addr} {dc : Nat} {ds : List Wr} {nx ep : Int} {ca' : Option Addr} {cc' : Nat} {cs' : List Bs} {da' : Option Addr} {dc' : Nat} {ds' : List Wr}
theorem four_congr {f g : Nat → Value} (h0 : f 0 = g 0) (h1 : f 1 = g 1) (h2 : f 2 = g 2) (h3 : f 3 = g 3) : ∀ i, i < 4 → f i = g i
  | 0, _ => h0
  | 1, _ => h1
  | 2, _ => h2
  | 3, _ => h3
theorem LoSt.setN (s : LoSt base Lb ca cc cs da dc ds nx ep W) (z : Int) : LoSt base Lb ca cc cs da dc ds z ep (W.setCell ⟨Lb, 2, none⟩ (.int .i64 z)) :=
  ⟨(s.row.set 2 (.int .i64 z)).congr (four_congr rfl rfl rfl rfl), s.own.turn (Turn.set (fs := [Lb]) (by simp) _) (fun b hb hx => (s.far b hb).2 (by simpa using hx)), s.far, s.new, s.ok, s.na, s.nd⟩
theorem LoSt.setE (s : LoSt base Lb ca cc cs da dc ds nx ep W) (z : Int) : LoSt base Lb ca cc cs da dc ds nx z (W.setCell ⟨Lb, 3, none⟩ (.int .i64 z)) :=
  ⟨(s.row.set 3 (.int .i64 z)).congr (four_congr rfl rfl rfl rfl), s.own.turn (Turn.set (fs := [Lb]) (by simp) _) (fun b hb hx => (s.far b hb).2 (by simpa using hx)), s.far, s.new, s.ok, s.na, s.nd⟩
theorem LoSt.setD {B : Nat} (s : LoSt base Lb ca cc cs da dc ds nx ep W) (g : W.grownBy W' (some B)) (hB : B < base) (hb : Born W W' (dsk ca' cs' da' ds')) (ho : DOk cs' ds') (hna : ca' = none → cc' = 0) (hnd : da' = none → dc' = 0) :
    LoSt base Lb ca' cc' cs' da' dc' ds' nx ep ((W'.setCell ⟨Lb, 0, none⟩ (.slice ca' cs'.length cc')).setCell ⟨Lb, 1, none⟩ (.slice da' ds'.length dc')) := by
  have hr := (s.grown g hB).row
  have hlt := s.row.lt
  have hn := s.new
  have hf : ∀ b ∈ fp (dsk ca' cs' da' ds'), base ≤ b ∧ b ≠ Lb := fun b hb' => by
    have h1 := hb.new b hb'
    omega
  have ht : Turn [Lb] W' ((W'.setCell ⟨Lb, 0, none⟩ (.slice ca' cs'.length cc')).setCell ⟨Lb, 1, none⟩ (.slice da' ds'.length dc')) := (Turn.set (by simp) _).trans' (Turn.set (by simp) _)
  exact ⟨((hr.set 0 _).set 1 _).congr (four_congr rfl rfl rfl rfl), hb.toOwn.turn ht (fun b hb' hx => (hf b hb').2 (by simpa using hx)), hf, s.new, ho, hna, hnd⟩
theorem DrSt.set1 (s : DrSt w B0 B a len cap W) {VB o : Nat} (h : w.heap.size + 1 ≤ VB) (x : Value) : DrSt w B0 B a len cap (W.setCell ⟨VB, o, none⟩ x) := by
  have h1 := s.b
  have h2 := s.b0
  exact ⟨s.dr.set (by omega) (by omega) _, grown_new s.g (by omega), s.r.setOther (a := ⟨VB, o, none⟩) (by simp; omega) x, h1, h2⟩
/-- The log is answered. -/
theorem lo_done (hD : LoSt (w.heap.size + 1) Lb ca cc cs da dc ds nx ep W) (hS : DrSt w B0 B a len cap W) {V : World} (hV : V = (((W.setCell ⟨w.heap.size, 0, none⟩ (.slice ca cs.length cc)).setCell ⟨w.heap.size, 1, none⟩ (.slice da ds.length dc)).setCell ⟨w.heap.size, 2, none⟩ (.int .i64 nx)).setCell ⟨w.heap.size, 3, none⟩ (.int .i64 ep)) :
    (V.cell? ⟨w.heap.size, 0, none⟩ = some (.slice ca cs.length cc) ∧ V.cell? ⟨w.heap.size, 1, none⟩ = some (.slice da ds.length dc) ∧ V.cell? ⟨w.heap.size, 2, none⟩ = some (.int .i64 nx) ∧ V.cell? ⟨w.heap.size, 3, none⟩ = some (.int .i64 ep)) ∧ AnyLg w V (.returned (logV ca cs.length cc da ds.length dc nx ep)) ∧ Dr B0 B a len cap V ∧ w.grownBy V (some B) := by
  subst hV
  have hb := hS.b
  have hb0 := hS.b0
  have r := row_four hS.r (.slice ca cs.length cc) (.slice da ds.length dc) (.int .i64 nx) (.int .i64 ep)
  have ht := set_turn W w.heap.size (.slice ca cs.length cc) (.slice da ds.length dc) (.int .i64 nx) (.int .i64 ep)
  refine ⟨⟨r.cell (i := 0) (by decide), r.cell (i := 1) (by decide), r.cell (i := 2) (by decide), r.cell (i := 3) (by decide)⟩, ⟨_, dat cs ds, nx, ep, rfl, ca, cc, cs, da, dc, ds, rfl, rfl, hD.ok, hD.na, hD.nd, ⟨hD.own.turn ht (fun b hb hx => by have h1 := (hD.far b hb).1; have h2 : b = w.heap.size := (by simpa using hx); omega), fun b hb => by have := (hD.far b hb).1; omega⟩⟩, ?_, ?_⟩
  · exact (((hS.dr.set (by omega) (by omega) _).set (by omega) (by omega) _).set (by omega) (by omega) _).set (by omega) (by omega) _
  · exact grown_new (grown_new (grown_new (grown_new hS.g (Nat.le_refl _)) (Nat.le_refl _)) (Nat.le_refl _)) (Nat.le_refl _)
end
set_option maxRecDepth 100000 in
set_option maxHeartbeats 8000000 in
theorem anylog_any {B0 B : Nat} {a : Option Addr} {len cap : Nat} {w : World} (s : Dr B0 B a len cap w) :
    Calls Tryz.prog 31 #[.pointer (some ⟨B, 0, none⟩)] w fun e w' => AnyLg w w' e ∧ Dr B0 B a len cap w' ∧ w.grownBy w' (some B) := by
  have hB := s.lt
  have hB0 := s.le
  have HT0 : Hid (DrSt w B0 B a len cap (w.alloc (.cells #[.slice none 0 0, .slice none 0 0, .int .i64 0, .int .i64 0] 28))) := ⟨s.grown (World.grownBy_alloc w (.cells #[.slice none 0 0, .slice none 0 0, .int .i64 0, .int .i64 0] 28) none) (by simp) (by simp), grown_alloc (grown_refl w (some B)) (.cells #[.slice none 0 0, .slice none 0 0, .int .i64 0, .int .i64 0] 28), World.rowIs_alloc w #[.slice none 0 0, .slice none 0 0, .int .i64 0, .int .i64 0] 28 _ (four_row _ _ _ _), hB, hB0⟩
  clear s
  go_enter Tryz.func31, Tryz.ntmps31
  go_wp2_with fail
  refine (log_any HT0.out.dr).mono ?_
  rintro _ w1 ⟨⟨v, M, nx, ep, rfl, hr, hM⟩, s1, g1⟩
  obtain ⟨ca, cc, cs, da, dc, ds, rfl, he, hok, hna, hnd, hb⟩ := hr
  have hz1 := g1.size
  rw [size_alloc1] at hz1
  have HA := hide (Keeps.alloc (Keeps.refl w1) (.cells #[.slice ca cs.length cc, .slice da ds.length dc, .int .i64 nx, .int .i64 ep] 28))
  have HD : Hid (LoSt (w.heap.size + 1) w1.heap.size ca cc cs da dc ds nx ep (w1.alloc (.cells #[.slice ca cs.length cc, .slice da ds.length dc, .int .i64 nx, .int .i64 ep] 28))) :=
    ⟨World.rowIs_alloc w1 #[.slice ca cs.length cc, .slice da ds.length dc, .int .i64 nx, .int .i64 ep] 28 _ (four_row _ _ _ _), hb.toOwn.kept HA.out, fun b hb' => by have h1 := hb.new b hb'; rw [size_alloc1] at h1; have h2 := hb.mem.lt b hb'; omega, by omega, hok, hna, hnd⟩
  have HT := hide ((HT0.out.drawn s1 g1).kept HA.out)
  clear s1 g1 hb hok hna hnd he hM HT0 HA
  go_wp2_with fail
  generalize w1.alloc (.cells #[.slice ca cs.length cc, .slice da ds.length dc, .int .i64 nx, .int .i64 ep] 28) = W1 at *
  generalize w1.heap.size = Lb at *
  refine (below_any 12 HT.out.dr (by omega) (by omega)).mono ?_
  rintro _ w2 ⟨⟨k, k0, k12, rfl⟩, s2, g2⟩
  replace HD := hide (HD.out.grown g2 (by omega))
  replace HT := hide (HT.out.drawn s2 g2)
  clear s2 g2
  have hLb := HD.out.new
  by_cases h0 : k = 0
  · subst h0
    go_wp2_with fail
    refine (raw_any HT.out.dr).mono ?_
    rintro _ w3 ⟨⟨x, rfl⟩, s3, g3⟩
    replace HD := hide (HD.out.grown g3 (by omega))
    replace HT := hide (HT.out.drawn s3 g3)
    clear s3 g3
    have q0 := HD.out.row.cell (i := 0) (by decide)
    have qf0 := HD.out.row.frozen 0
    have r0 := HT.out.r.cell (i := 0) (by decide)
    have rf0 := HT.out.r.frozen 0
    have q1 := HD.out.row.cell (i := 1) (by decide)
    have qf1 := HD.out.row.frozen 1
    have r1 := HT.out.r.cell (i := 1) (by decide)
    have rf1 := HT.out.r.frozen 1
    have q2 := HD.out.row.cell (i := 2) (by decide)
    have qf2 := HD.out.row.frozen 2
    have r2 := HT.out.r.cell (i := 2) (by decide)
    have rf2 := HT.out.r.frozen 2
    have q3 := HD.out.row.cell (i := 3) (by decide)
    have qf3 := HD.out.row.frozen 3
    have r3 := HT.out.r.cell (i := 3) (by decide)
    have rf3 := HT.out.r.frozen 3
    have ql := HD.out.row.lt
    have rl := HT.out.r.lt
    simp [logRow] at q0 q1 q2 q3 r0 r1 r2 r3
    go_wp2_with fail
    obtain ⟨⟨o0, o1, o2, o3⟩, t0, t1, t2⟩ := lo_done (HD.out.setN x) (HT.out.set1 (by omega) _) rfl
    refine bodyPost_ret (v := _) ?_ rfl ⟨t0, t1, t2⟩
    revert o0 o1 o2 o3
    clear t0 t1 t2 q0 q1 q2 q3 qf0 qf1 qf2 qf3 r0 r1 r2 r3 rf0 rf1 rf2 rf3
    generalize World.setCell (World.setCell _ _ _) _ _ = W
    intro o0 o1 o2 o3
    simp [results, Tryz.results31, go_sem, o0, o1, o2, o3]
  have h0' : (k == 0) = false := beq_eq_false_iff_ne.2 h0
  by_cases h1 : k = 1
  · subst h1
    go_wp2_with fail
    refine (raw_any HT.out.dr).mono ?_
    rintro _ w3 ⟨⟨x, rfl⟩, s3, g3⟩
    replace HD := hide (HD.out.grown g3 (by omega))
    replace HT := hide (HT.out.drawn s3 g3)
    clear s3 g3
    have q0 := HD.out.row.cell (i := 0) (by decide)
    have qf0 := HD.out.row.frozen 0
    have r0 := HT.out.r.cell (i := 0) (by decide)
    have rf0 := HT.out.r.frozen 0
    have q1 := HD.out.row.cell (i := 1) (by decide)
    have qf1 := HD.out.row.frozen 1
    have r1 := HT.out.r.cell (i := 1) (by decide)
    have rf1 := HT.out.r.frozen 1
    have q2 := HD.out.row.cell (i := 2) (by decide)
    have qf2 := HD.out.row.frozen 2
    have r2 := HT.out.r.cell (i := 2) (by decide)
    have rf2 := HT.out.r.frozen 2
    have q3 := HD.out.row.cell (i := 3) (by decide)
    have qf3 := HD.out.row.frozen 3
    have r3 := HT.out.r.cell (i := 3) (by decide)
    have rf3 := HT.out.r.frozen 3
    have ql := HD.out.row.lt
    have rl := HT.out.r.lt
    simp [logRow] at q0 q1 q2 q3 r0 r1 r2 r3
    go_wp2_with fail
    obtain ⟨⟨o0, o1, o2, o3⟩, t0, t1, t2⟩ := lo_done (HD.out.setE x) (HT.out.set1 (by omega) _) rfl
    refine bodyPost_ret (v := _) ?_ rfl ⟨t0, t1, t2⟩
    revert o0 o1 o2 o3
    clear t0 t1 t2 q0 q1 q2 q3 qf0 qf1 qf2 qf3 r0 r1 r2 r3 rf0 rf1 rf2 rf3
    generalize World.setCell (World.setCell _ _ _) _ _ = W
    intro o0 o1 o2 o3
    simp [results, Tryz.results31, go_sem, o0, o1, o2, o3]
  have h1' : (k == 1) = false := beq_eq_false_iff_ne.2 h1
  by_cases h2 : k = 2
  · subst h2
    go_wp2_with fail
    refine (anydisk_any HT.out.dr).mono ?_
    rintro _ w3 ⟨⟨v, M', rfl, hr, _, _⟩, s3, g3⟩
    obtain ⟨ca', cc', cs', da', dc', ds', rfl, he, hok, hna, hnd, hb⟩ := hr
    have HD3 := hide (HD.out.setD g3 (by omega) hb hok hna hnd)
    replace HD := hide (HD.out.grown g3 (by omega))
    replace HT := hide (HT.out.drawn s3 g3)
    clear s3 g3 hb hok hna hnd he
    have q0 := HD.out.row.cell (i := 0) (by decide)
    have qf0 := HD.out.row.frozen 0
    have r0 := HT.out.r.cell (i := 0) (by decide)
    have rf0 := HT.out.r.frozen 0
    have q1 := HD.out.row.cell (i := 1) (by decide)
    have qf1 := HD.out.row.frozen 1
    have r1 := HT.out.r.cell (i := 1) (by decide)
    have rf1 := HT.out.r.frozen 1
    have q2 := HD.out.row.cell (i := 2) (by decide)
    have qf2 := HD.out.row.frozen 2
    have r2 := HT.out.r.cell (i := 2) (by decide)
    have rf2 := HT.out.r.frozen 2
    have q3 := HD.out.row.cell (i := 3) (by decide)
    have qf3 := HD.out.row.frozen 3
    have r3 := HT.out.r.cell (i := 3) (by decide)
    have rf3 := HT.out.r.frozen 3
    have ql := HD.out.row.lt
    have rl := HT.out.r.lt
    simp [logRow] at q0 q1 q2 q3 r0 r1 r2 r3
    go_wp2_with fail
    obtain ⟨⟨o0, o1, o2, o3⟩, t0, t1, t2⟩ := lo_done (HD3.out) ((HT.out.set1 (by omega) _).set1 (by omega) _) rfl
    refine bodyPost_ret (v := _) ?_ rfl ⟨t0, t1, t2⟩
    revert o0 o1 o2 o3
    clear t0 t1 t2 q0 q1 q2 q3 qf0 qf1 qf2 qf3 r0 r1 r2 r3 rf0 rf1 rf2 rf3
    generalize World.setCell (World.setCell _ _ _) _ _ = W
    intro o0 o1 o2 o3
    simp [results, Tryz.results31, go_sem, o0, o1, o2, o3]
  have h2' : (k == 2) = false := beq_eq_false_iff_ne.2 h2
  by_cases h3 : k = 3
  · subst h3
    have q0 := HD.out.row.cell (i := 0) (by decide)
    have qf0 := HD.out.row.frozen 0
    have r0 := HT.out.r.cell (i := 0) (by decide)
    have rf0 := HT.out.r.frozen 0
    have q1 := HD.out.row.cell (i := 1) (by decide)
    have qf1 := HD.out.row.frozen 1
    have r1 := HT.out.r.cell (i := 1) (by decide)
    have rf1 := HT.out.r.frozen 1
    have q2 := HD.out.row.cell (i := 2) (by decide)
    have qf2 := HD.out.row.frozen 2
    have r2 := HT.out.r.cell (i := 2) (by decide)
    have rf2 := HT.out.r.frozen 2
    have q3 := HD.out.row.cell (i := 3) (by decide)
    have qf3 := HD.out.row.frozen 3
    have r3 := HT.out.r.cell (i := 3) (by decide)
    have rf3 := HT.out.r.frozen 3
    have ql := HD.out.row.lt
    have rl := HT.out.r.lt
    simp [logRow] at q0 q1 q2 q3 r0 r1 r2 r3
    go_wp2_with fail
    obtain ⟨⟨o0, o1, o2, o3⟩, t0, t1, t2⟩ := lo_done (HD.out.setN (cs.length : Int)) (HT.out.set1 (by omega) _) rfl
    refine bodyPost_ret (v := _) ?_ rfl ⟨t0, t1, t2⟩
    revert o0 o1 o2 o3
    clear t0 t1 t2 q0 q1 q2 q3 qf0 qf1 qf2 qf3 r0 r1 r2 r3 rf0 rf1 rf2 rf3
    generalize World.setCell (World.setCell _ _ _) _ _ = W
    intro o0 o1 o2 o3
    simp [results, Tryz.results31, go_sem, o0, o1, o2, o3]
  have h3' : (k == 3) = false := beq_eq_false_iff_ne.2 h3
  have q0 := HD.out.row.cell (i := 0) (by decide)
  have qf0 := HD.out.row.frozen 0
  have r0 := HT.out.r.cell (i := 0) (by decide)
  have rf0 := HT.out.r.frozen 0
  have q1 := HD.out.row.cell (i := 1) (by decide)
  have qf1 := HD.out.row.frozen 1
  have r1 := HT.out.r.cell (i := 1) (by decide)
  have rf1 := HT.out.r.frozen 1
  have q2 := HD.out.row.cell (i := 2) (by decide)
  have qf2 := HD.out.row.frozen 2
  have r2 := HT.out.r.cell (i := 2) (by decide)
  have rf2 := HT.out.r.frozen 2
  have q3 := HD.out.row.cell (i := 3) (by decide)
  have qf3 := HD.out.row.frozen 3
  have r3 := HT.out.r.cell (i := 3) (by decide)
  have rf3 := HT.out.r.frozen 3
  have ql := HD.out.row.lt
  have rl := HT.out.r.lt
  simp [logRow] at q0 q1 q2 q3 r0 r1 r2 r3
  go_wp2_with fail
  obtain ⟨⟨o0, o1, o2, o3⟩, t0, t1, t2⟩ := lo_done (HD.out) (HT.out) rfl
  refine bodyPost_ret (v := _) ?_ rfl ⟨t0, t1, t2⟩
  revert o0 o1 o2 o3
  clear t0 t1 t2 q0 q1 q2 q3 qf0 qf1 qf2 qf3 r0 r1 r2 r3 rf0 rf1 rf2 rf3
  generalize World.setCell (World.setCell _ _ _) _ _ = W
  intro o0 o1 o2 o3
  simp [results, Tryz.results31, go_sem, o0, o1, o2, o3]
end Go.Proofs.YtkdnddckogbgaaaGreatDoor
