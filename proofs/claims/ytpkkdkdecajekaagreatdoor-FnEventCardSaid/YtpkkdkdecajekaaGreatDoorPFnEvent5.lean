/- Texts of the verifier, joined: DrEa, DrEb, EB, EvI. -/
import Derived.Test.YtpkkdkdecajekaaGreatDoorPFnEvent4
import Derived.Test.YtpkkdkdecajekaaGreatDoorPFnEvent1
import Derived.Test.YtpkkdkdecajekaaGreatDoorPFnEvent2
import Derived.Laws.StructEq
namespace Go.Proofs.YtpkkdkdecajekaaGreatDoor
open Go.RowKit Go.Deep
set_option linter.unusedVariables false
set_option linter.unusedSimpArgs false
set_option maxRecDepth 10000
/-- The draw of any event under way: its variable, the result. -/
structure EaSt (w : World) (B0 B : Nat) (a : Option Addr) (len cap : Nat) (R E : Nat) (k y c t m f : Int) (b : Bool) (W : World) : Prop where
  ev : W.rowIs E 24 7 (evRow k y c t m f b)
  res : W.rowIs R 24 7 (evRow 0 0 0 0 0 0 false)
  dr : Dr B0 B a len cap W
  g : w.grownBy W (some B)
  er : R ≠ E
  ne : w.heap.size ≤ E
  nr : w.heap.size ≤ R
  hb : B < w.heap.size
  h0 : B0 ≤ B
section
variable {w W W' : World} {B0 B : Nat} {a : Option Addr} {len cap R E : Nat} {k y c t m f : Int} {b : Bool}
theorem EaSt.step (s : EaSt w B0 B a len cap R E k y c t m f b W) (d : Dr B0 B a len cap W') (g : W.grownBy W' (some B)) : EaSt w B0 B a len cap R E k y c t m f b W' :=
  ⟨grown_row g (by have := s.ne; have := s.hb; simp; omega) s.ev, grown_row g (by have := s.nr; have := s.hb; simp; omega) s.res, d, s.g.trans g, s.er, s.ne, s.nr, s.hb, s.h0⟩
theorem EaSt.set0 (s : EaSt w B0 B a len cap R E k y c t m f b W) (z : Int) : EaSt w B0 B a len cap R E z y c t m f b (W.setCell ⟨E, 0, none⟩ (.int .i64 z)) :=
  ⟨(s.ev.set 0 (.int .i64 z)).congr (ev_congr rfl rfl rfl rfl rfl rfl rfl), s.res.setOther (a := ⟨E, 0, none⟩) s.er (.int .i64 z), s.dr.set (by have := s.ne; have := s.hb; omega) (by have := s.ne; have := s.hb; have := s.h0; omega) _, grown_new s.g s.ne, s.er, s.ne, s.nr, s.hb, s.h0⟩
theorem EaSt.set1 (s : EaSt w B0 B a len cap R E k y c t m f b W) (z : Int) : EaSt w B0 B a len cap R E k z c t m f b (W.setCell ⟨E, 1, none⟩ (.int .i64 z)) :=
  ⟨(s.ev.set 1 (.int .i64 z)).congr (ev_congr rfl rfl rfl rfl rfl rfl rfl), s.res.setOther (a := ⟨E, 1, none⟩) s.er (.int .i64 z), s.dr.set (by have := s.ne; have := s.hb; omega) (by have := s.ne; have := s.hb; have := s.h0; omega) _, grown_new s.g s.ne, s.er, s.ne, s.nr, s.hb, s.h0⟩
theorem EaSt.set2 (s : EaSt w B0 B a len cap R E k y c t m f b W) (z : Int) : EaSt w B0 B a len cap R E k y z t m f b (W.setCell ⟨E, 2, none⟩ (.int .i64 z)) :=
  ⟨(s.ev.set 2 (.int .i64 z)).congr (ev_congr rfl rfl rfl rfl rfl rfl rfl), s.res.setOther (a := ⟨E, 2, none⟩) s.er (.int .i64 z), s.dr.set (by have := s.ne; have := s.hb; omega) (by have := s.ne; have := s.hb; have := s.h0; omega) _, grown_new s.g s.ne, s.er, s.ne, s.nr, s.hb, s.h0⟩
theorem EaSt.set3 (s : EaSt w B0 B a len cap R E k y c t m f b W) (z : Int) : EaSt w B0 B a len cap R E k y c z m f b (W.setCell ⟨E, 3, none⟩ (.int .i64 z)) :=
  ⟨(s.ev.set 3 (.int .i64 z)).congr (ev_congr rfl rfl rfl rfl rfl rfl rfl), s.res.setOther (a := ⟨E, 3, none⟩) s.er (.int .i64 z), s.dr.set (by have := s.ne; have := s.hb; omega) (by have := s.ne; have := s.hb; have := s.h0; omega) _, grown_new s.g s.ne, s.er, s.ne, s.nr, s.hb, s.h0⟩
theorem EaSt.set4 (s : EaSt w B0 B a len cap R E k y c t m f b W) (z : Int) : EaSt w B0 B a len cap R E k y c t z f b (W.setCell ⟨E, 4, none⟩ (.int .i64 z)) :=
  ⟨(s.ev.set 4 (.int .i64 z)).congr (ev_congr rfl rfl rfl rfl rfl rfl rfl), s.res.setOther (a := ⟨E, 4, none⟩) s.er (.int .i64 z), s.dr.set (by have := s.ne; have := s.hb; omega) (by have := s.ne; have := s.hb; have := s.h0; omega) _, grown_new s.g s.ne, s.er, s.ne, s.nr, s.hb, s.h0⟩
theorem EaSt.set5 (s : EaSt w B0 B a len cap R E k y c t m f b W) (z : Int) : EaSt w B0 B a len cap R E k y c t m z b (W.setCell ⟨E, 5, none⟩ (.int .i64 z)) :=
  ⟨(s.ev.set 5 (.int .i64 z)).congr (ev_congr rfl rfl rfl rfl rfl rfl rfl), s.res.setOther (a := ⟨E, 5, none⟩) s.er (.int .i64 z), s.dr.set (by have := s.ne; have := s.hb; omega) (by have := s.ne; have := s.hb; have := s.h0; omega) _, grown_new s.g s.ne, s.er, s.ne, s.nr, s.hb, s.h0⟩
theorem EaSt.set6 (s : EaSt w B0 B a len cap R E k y c t m f b W) (z : Bool) : EaSt w B0 B a len cap R E k y c t m f z (W.setCell ⟨E, 6, none⟩ (.bool z)) :=
  ⟨(s.ev.set 6 (.bool z)).congr (ev_congr rfl rfl rfl rfl rfl rfl rfl), s.res.setOther (a := ⟨E, 6, none⟩) s.er (.bool z), s.dr.set (by have := s.ne; have := s.hb; omega) (by have := s.ne; have := s.hb; have := s.h0; omega) _, grown_new s.g s.ne, s.er, s.ne, s.nr, s.hb, s.h0⟩
theorem EaSt.e0 (s : EaSt w B0 B a len cap R E k y c t m f b W) : W.cell? ⟨E, 0, none⟩ = some (.int .i64 k) := s.ev.cell (i := 0) (by decide)
theorem EaSt.r0 (s : EaSt w B0 B a len cap R E k y c t m f b W) : W.cell? ⟨R, 0, none⟩ = some (.int .i64 0) := s.res.cell (i := 0) (by decide)
theorem EaSt.e1 (s : EaSt w B0 B a len cap R E k y c t m f b W) : W.cell? ⟨E, 1, none⟩ = some (.int .i64 y) := s.ev.cell (i := 1) (by decide)
theorem EaSt.r1 (s : EaSt w B0 B a len cap R E k y c t m f b W) : W.cell? ⟨R, 1, none⟩ = some (.int .i64 0) := s.res.cell (i := 1) (by decide)
theorem EaSt.e2 (s : EaSt w B0 B a len cap R E k y c t m f b W) : W.cell? ⟨E, 2, none⟩ = some (.int .i64 c) := s.ev.cell (i := 2) (by decide)
theorem EaSt.r2 (s : EaSt w B0 B a len cap R E k y c t m f b W) : W.cell? ⟨R, 2, none⟩ = some (.int .i64 0) := s.res.cell (i := 2) (by decide)
theorem EaSt.e3 (s : EaSt w B0 B a len cap R E k y c t m f b W) : W.cell? ⟨E, 3, none⟩ = some (.int .i64 t) := s.ev.cell (i := 3) (by decide)
theorem EaSt.r3 (s : EaSt w B0 B a len cap R E k y c t m f b W) : W.cell? ⟨R, 3, none⟩ = some (.int .i64 0) := s.res.cell (i := 3) (by decide)
theorem EaSt.e4 (s : EaSt w B0 B a len cap R E k y c t m f b W) : W.cell? ⟨E, 4, none⟩ = some (.int .i64 m) := s.ev.cell (i := 4) (by decide)
theorem EaSt.r4 (s : EaSt w B0 B a len cap R E k y c t m f b W) : W.cell? ⟨R, 4, none⟩ = some (.int .i64 0) := s.res.cell (i := 4) (by decide)
theorem EaSt.e5 (s : EaSt w B0 B a len cap R E k y c t m f b W) : W.cell? ⟨E, 5, none⟩ = some (.int .i64 f) := s.ev.cell (i := 5) (by decide)
theorem EaSt.r5 (s : EaSt w B0 B a len cap R E k y c t m f b W) : W.cell? ⟨R, 5, none⟩ = some (.int .i64 0) := s.res.cell (i := 5) (by decide)
theorem EaSt.e6 (s : EaSt w B0 B a len cap R E k y c t m f b W) : W.cell? ⟨E, 6, none⟩ = some (.bool b) := s.ev.cell (i := 6) (by decide)
theorem EaSt.r6 (s : EaSt w B0 B a len cap R E k y c t m f b W) : W.cell? ⟨R, 6, none⟩ = some (.bool false) := s.res.cell (i := 6) (by decide)
/-- The result's cells are written. -/
theorem EaSt.fin (s : EaSt w B0 B a len cap R E k y c t m f b W) {V : World} (hV : V = (((((((W.setCell ⟨R, 0, none⟩ (.int .i64 k)).setCell ⟨R, 1, none⟩ (.int .i64 y)).setCell ⟨R, 2, none⟩ (.int .i64 c)).setCell ⟨R, 3, none⟩ (.int .i64 t)).setCell ⟨R, 4, none⟩ (.int .i64 m)).setCell ⟨R, 5, none⟩ (.int .i64 f)).setCell ⟨R, 6, none⟩ (.bool b))) : (V.cell? ⟨R, 0, none⟩ = some (.int .i64 k) ∧ V.cell? ⟨R, 1, none⟩ = some (.int .i64 y) ∧ V.cell? ⟨R, 2, none⟩ = some (.int .i64 c) ∧ V.cell? ⟨R, 3, none⟩ = some (.int .i64 t) ∧ V.cell? ⟨R, 4, none⟩ = some (.int .i64 m) ∧ V.cell? ⟨R, 5, none⟩ = some (.int .i64 f) ∧ V.cell? ⟨R, 6, none⟩ = some (.bool b)) ∧ Dr B0 B a len cap V ∧ w.grownBy V (some B) := by
  subst hV
  have r : ((((((((W.setCell ⟨R, 0, none⟩ (.int .i64 k)).setCell ⟨R, 1, none⟩ (.int .i64 y)).setCell ⟨R, 2, none⟩ (.int .i64 c)).setCell ⟨R, 3, none⟩ (.int .i64 t)).setCell ⟨R, 4, none⟩ (.int .i64 m)).setCell ⟨R, 5, none⟩ (.int .i64 f)).setCell ⟨R, 6, none⟩ (.bool b))).rowIs R 24 7 (evRow k y c t m f b) := (((((((s.res.set 0 (.int .i64 k)).set 1 (.int .i64 y)).set 2 (.int .i64 c)).set 3 (.int .i64 t)).set 4 (.int .i64 m)).set 5 (.int .i64 f)).set 6 (.bool b)).congr (ev_congr rfl rfl rfl rfl rfl rfl rfl)
  exact ⟨⟨r.cell (i := 0) (by decide), r.cell (i := 1) (by decide), r.cell (i := 2) (by decide), r.cell (i := 3) (by decide), r.cell (i := 4) (by decide), r.cell (i := 5) (by decide), r.cell (i := 6) (by decide)⟩, (((((((s.dr.set (by have := s.nr; have := s.hb; omega) (by have := s.nr; have := s.hb; have := s.h0; omega) _).set (by have := s.nr; have := s.hb; omega) (by have := s.nr; have := s.hb; have := s.h0; omega) _).set (by have := s.nr; have := s.hb; omega) (by have := s.nr; have := s.hb; have := s.h0; omega) _).set (by have := s.nr; have := s.hb; omega) (by have := s.nr; have := s.hb; have := s.h0; omega) _).set (by have := s.nr; have := s.hb; omega) (by have := s.nr; have := s.hb; have := s.h0; omega) _).set (by have := s.nr; have := s.hb; omega) (by have := s.nr; have := s.hb; have := s.h0; omega) _).set (by have := s.nr; have := s.hb; omega) (by have := s.nr; have := s.hb; have := s.h0; omega) _), (grown_new (grown_new (grown_new (grown_new (grown_new (grown_new (grown_new s.g s.nr) s.nr) s.nr) s.nr) s.nr) s.nr) s.nr)⟩
end
set_option maxHeartbeats 8000000 in
theorem anyevent_any {B0 B : Nat} {a : Option Addr} {len cap : Nat} {w : World} (s : Dr B0 B a len cap w) :
    Calls Tryz.prog 14 #[.pointer (some ⟨B, 0, none⟩)] w fun e w' => IsEv e ∧ Dr B0 B a len cap w' ∧ w.grownBy w' (some B) := by
  have hB := s.lt
  have hB0 := s.le
  have HG0 := hide (World.grownBy_alloc w (.cells (evCells 0 0 0 0 0 0 false) 24) (some B))
  have HS0 := hide (s.grown (World.grownBy_alloc w (.cells (evCells 0 0 0 0 0 0 false) 24) none) (by simp) (by simp))
  have HR0 := hide (World.rowIs_alloc w (evCells 0 0 0 0 0 0 false) 24 _ (ev_row 0 0 0 0 0 0 false))
  clear s
  go_enter Tryz.func14, Tryz.ntmps14
  go_wp2_with fail
  refine (event_any HS0.out).mono ?_
  rintro _ w1 ⟨⟨ek, ey, ec, et, em, ef, eb, rfl⟩, s1, g1⟩
  have HR1 := hide (grown_row g1 (by simp; omega) HR0.out)
  have hz := HR1.out.lt
  have HE : Hid (EaSt w B0 B a len cap w.heap.size w1.heap.size ek ey ec et em ef eb (w1.alloc (.cells (evCells ek ey ec et em ef eb) 24))) := by
    have g : w1.grownBy (w1.alloc (.cells (evCells ek ey ec et em ef eb) 24)) none := grown_alloc (grown_refl w1 none) _
    have hz1 := (HG0.out.trans g1).size
    exact ⟨World.rowIs_alloc w1 (evCells ek ey ec et em ef eb) 24 _ (ev_row ek ey ec et em ef eb), grown_row g (by simp) HR1.out, s1.grown g (by simp) (by simp), (HG0.out.trans g1).trans ⟨g.os, g.tape, g.output, g.size, fun k hk _ => g.block k hk (by simp)⟩, by omega, by omega, Nat.le_refl _, hB, hB0⟩
  clear s1 g1 HS0 HG0 HR0 HR1
  go_wp2_with fail
  generalize w1.alloc (.cells (evCells ek ey ec et em ef eb) 24) = W1 at *
  generalize w1.heap.size = Eb at *
  refine (below_any 16 HE.out.dr (by omega) (by omega)).mono ?_
  rintro _ w2 ⟨⟨k, k0, k16, rfl⟩, s2, g2⟩
  replace HE := hide (HE.out.step s2 g2)
  clear s2 g2
  by_cases h0 : k = 0
  · subst h0
    go_wp2_with fail
    refine (raw_any HE.out.dr).mono ?_
    rintro _ w3 ⟨⟨x, rfl⟩, s3, g3⟩
    replace HE := hide (HE.out.step s3 g3)
    clear s3 g3
    have z0 := HE.out.e0
    have zf0 := HE.out.ev.frozen 0
    have r0 := HE.out.r0
    have rf0 := HE.out.res.frozen 0
    have z1 := HE.out.e1
    have zf1 := HE.out.ev.frozen 1
    have r1 := HE.out.r1
    have rf1 := HE.out.res.frozen 1
    have z2 := HE.out.e2
    have zf2 := HE.out.ev.frozen 2
    have r2 := HE.out.r2
    have rf2 := HE.out.res.frozen 2
    have z3 := HE.out.e3
    have zf3 := HE.out.ev.frozen 3
    have r3 := HE.out.r3
    have rf3 := HE.out.res.frozen 3
    have z4 := HE.out.e4
    have zf4 := HE.out.ev.frozen 4
    have r4 := HE.out.r4
    have rf4 := HE.out.res.frozen 4
    have z5 := HE.out.e5
    have zf5 := HE.out.ev.frozen 5
    have r5 := HE.out.r5
    have rf5 := HE.out.res.frozen 5
    have z6 := HE.out.e6
    have zf6 := HE.out.ev.frozen 6
    have r6 := HE.out.r6
    have rf6 := HE.out.res.frozen 6
    have hne := HE.out.er
    have hlt := HE.out.ev.lt
    have hlr := HE.out.res.lt
    go_wp2_with fail
    obtain ⟨⟨o0, o1, o2, o3, o4, o5, o6⟩, t1, t2⟩ := (HE.out.set0 x).fin rfl
    refine bodyPost_ret (v := evV x ey ec et em ef eb) ?_ rfl ⟨isEv, t1, t2⟩
    revert o0 o1 o2 o3 o4 o5 o6
    clear t1 t2
    generalize World.setCell (World.setCell _ _ _) _ _ = W
    intro o0 o1 o2 o3 o4 o5 o6
    simp [results, Tryz.results14, go_sem, o0, o1, o2, o3, o4, o5, o6]
  have h0' : (k == 0) = false := beq_eq_false_iff_ne.2 h0
  by_cases h1 : k = 1
  · subst h1
    go_wp2_with fail
    refine (raw_any HE.out.dr).mono ?_
    rintro _ w3 ⟨⟨x, rfl⟩, s3, g3⟩
    replace HE := hide (HE.out.step s3 g3)
    clear s3 g3
    have z0 := HE.out.e0
    have zf0 := HE.out.ev.frozen 0
    have r0 := HE.out.r0
    have rf0 := HE.out.res.frozen 0
    have z1 := HE.out.e1
    have zf1 := HE.out.ev.frozen 1
    have r1 := HE.out.r1
    have rf1 := HE.out.res.frozen 1
    have z2 := HE.out.e2
    have zf2 := HE.out.ev.frozen 2
    have r2 := HE.out.r2
    have rf2 := HE.out.res.frozen 2
    have z3 := HE.out.e3
    have zf3 := HE.out.ev.frozen 3
    have r3 := HE.out.r3
    have rf3 := HE.out.res.frozen 3
    have z4 := HE.out.e4
    have zf4 := HE.out.ev.frozen 4
    have r4 := HE.out.r4
    have rf4 := HE.out.res.frozen 4
    have z5 := HE.out.e5
    have zf5 := HE.out.ev.frozen 5
    have r5 := HE.out.r5
    have rf5 := HE.out.res.frozen 5
    have z6 := HE.out.e6
    have zf6 := HE.out.ev.frozen 6
    have r6 := HE.out.r6
    have rf6 := HE.out.res.frozen 6
    have hne := HE.out.er
    have hlt := HE.out.ev.lt
    have hlr := HE.out.res.lt
    go_wp2_with fail
    obtain ⟨⟨o0, o1, o2, o3, o4, o5, o6⟩, t1, t2⟩ := (HE.out.set1 x).fin rfl
    refine bodyPost_ret (v := evV ek x ec et em ef eb) ?_ rfl ⟨isEv, t1, t2⟩
    revert o0 o1 o2 o3 o4 o5 o6
    clear t1 t2
    generalize World.setCell (World.setCell _ _ _) _ _ = W
    intro o0 o1 o2 o3 o4 o5 o6
    simp [results, Tryz.results14, go_sem, o0, o1, o2, o3, o4, o5, o6]
  have h1' : (k == 1) = false := beq_eq_false_iff_ne.2 h1
  by_cases h2 : k = 2
  · subst h2
    go_wp2_with fail
    refine (raw_any HE.out.dr).mono ?_
    rintro _ w3 ⟨⟨x, rfl⟩, s3, g3⟩
    replace HE := hide (HE.out.step s3 g3)
    clear s3 g3
    have z0 := HE.out.e0
    have zf0 := HE.out.ev.frozen 0
    have r0 := HE.out.r0
    have rf0 := HE.out.res.frozen 0
    have z1 := HE.out.e1
    have zf1 := HE.out.ev.frozen 1
    have r1 := HE.out.r1
    have rf1 := HE.out.res.frozen 1
    have z2 := HE.out.e2
    have zf2 := HE.out.ev.frozen 2
    have r2 := HE.out.r2
    have rf2 := HE.out.res.frozen 2
    have z3 := HE.out.e3
    have zf3 := HE.out.ev.frozen 3
    have r3 := HE.out.r3
    have rf3 := HE.out.res.frozen 3
    have z4 := HE.out.e4
    have zf4 := HE.out.ev.frozen 4
    have r4 := HE.out.r4
    have rf4 := HE.out.res.frozen 4
    have z5 := HE.out.e5
    have zf5 := HE.out.ev.frozen 5
    have r5 := HE.out.r5
    have rf5 := HE.out.res.frozen 5
    have z6 := HE.out.e6
    have zf6 := HE.out.ev.frozen 6
    have r6 := HE.out.r6
    have rf6 := HE.out.res.frozen 6
    have hne := HE.out.er
    have hlt := HE.out.ev.lt
    have hlr := HE.out.res.lt
    go_wp2_with fail
    obtain ⟨⟨o0, o1, o2, o3, o4, o5, o6⟩, t1, t2⟩ := (HE.out.set2 x).fin rfl
    refine bodyPost_ret (v := evV ek ey x et em ef eb) ?_ rfl ⟨isEv, t1, t2⟩
    revert o0 o1 o2 o3 o4 o5 o6
    clear t1 t2
    generalize World.setCell (World.setCell _ _ _) _ _ = W
    intro o0 o1 o2 o3 o4 o5 o6
    simp [results, Tryz.results14, go_sem, o0, o1, o2, o3, o4, o5, o6]
  have h2' : (k == 2) = false := beq_eq_false_iff_ne.2 h2
  by_cases h3 : k = 3
  · subst h3
    have z0 := HE.out.e0
    have zf0 := HE.out.ev.frozen 0
    have r0 := HE.out.r0
    have rf0 := HE.out.res.frozen 0
    have z1 := HE.out.e1
    have zf1 := HE.out.ev.frozen 1
    have r1 := HE.out.r1
    have rf1 := HE.out.res.frozen 1
    have z2 := HE.out.e2
    have zf2 := HE.out.ev.frozen 2
    have r2 := HE.out.r2
    have rf2 := HE.out.res.frozen 2
    have z3 := HE.out.e3
    have zf3 := HE.out.ev.frozen 3
    have r3 := HE.out.r3
    have rf3 := HE.out.res.frozen 3
    have z4 := HE.out.e4
    have zf4 := HE.out.ev.frozen 4
    have r4 := HE.out.r4
    have rf4 := HE.out.res.frozen 4
    have z5 := HE.out.e5
    have zf5 := HE.out.ev.frozen 5
    have r5 := HE.out.r5
    have rf5 := HE.out.res.frozen 5
    have z6 := HE.out.e6
    have zf6 := HE.out.ev.frozen 6
    have r6 := HE.out.r6
    have rf6 := HE.out.res.frozen 6
    have hne := HE.out.er
    have hlt := HE.out.ev.lt
    have hlr := HE.out.res.lt
    go_wp2_with fail
    obtain ⟨⟨o0, o1, o2, o3, o4, o5, o6⟩, t1, t2⟩ := (HE.out.set3 ec).fin rfl
    refine bodyPost_ret (v := evV ek ey ec ec em ef eb) ?_ rfl ⟨isEv, t1, t2⟩
    revert o0 o1 o2 o3 o4 o5 o6
    clear t1 t2
    generalize World.setCell (World.setCell _ _ _) _ _ = W
    intro o0 o1 o2 o3 o4 o5 o6
    simp [results, Tryz.results14, go_sem, o0, o1, o2, o3, o4, o5, o6]
  have h3' : (k == 3) = false := beq_eq_false_iff_ne.2 h3
  by_cases h4 : k = 4
  · subst h4
    go_wp2_with fail
    refine (raw_any HE.out.dr).mono ?_
    rintro _ w3 ⟨⟨x, rfl⟩, s3, g3⟩
    replace HE := hide (HE.out.step s3 g3)
    clear s3 g3
    have z0 := HE.out.e0
    have zf0 := HE.out.ev.frozen 0
    have r0 := HE.out.r0
    have rf0 := HE.out.res.frozen 0
    have z1 := HE.out.e1
    have zf1 := HE.out.ev.frozen 1
    have r1 := HE.out.r1
    have rf1 := HE.out.res.frozen 1
    have z2 := HE.out.e2
    have zf2 := HE.out.ev.frozen 2
    have r2 := HE.out.r2
    have rf2 := HE.out.res.frozen 2
    have z3 := HE.out.e3
    have zf3 := HE.out.ev.frozen 3
    have r3 := HE.out.r3
    have rf3 := HE.out.res.frozen 3
    have z4 := HE.out.e4
    have zf4 := HE.out.ev.frozen 4
    have r4 := HE.out.r4
    have rf4 := HE.out.res.frozen 4
    have z5 := HE.out.e5
    have zf5 := HE.out.ev.frozen 5
    have r5 := HE.out.r5
    have rf5 := HE.out.res.frozen 5
    have z6 := HE.out.e6
    have zf6 := HE.out.ev.frozen 6
    have r6 := HE.out.r6
    have rf6 := HE.out.res.frozen 6
    have hne := HE.out.er
    have hlt := HE.out.ev.lt
    have hlr := HE.out.res.lt
    go_wp2_with fail
    obtain ⟨⟨o0, o1, o2, o3, o4, o5, o6⟩, t1, t2⟩ := (HE.out.set4 x).fin rfl
    refine bodyPost_ret (v := evV ek ey ec et x ef eb) ?_ rfl ⟨isEv, t1, t2⟩
    revert o0 o1 o2 o3 o4 o5 o6
    clear t1 t2
    generalize World.setCell (World.setCell _ _ _) _ _ = W
    intro o0 o1 o2 o3 o4 o5 o6
    simp [results, Tryz.results14, go_sem, o0, o1, o2, o3, o4, o5, o6]
  have h4' : (k == 4) = false := beq_eq_false_iff_ne.2 h4
  by_cases h5 : k = 5
  · subst h5
    go_wp2_with fail
    refine (raw_any HE.out.dr).mono ?_
    rintro _ w3 ⟨⟨x, rfl⟩, s3, g3⟩
    replace HE := hide (HE.out.step s3 g3)
    clear s3 g3
    have z0 := HE.out.e0
    have zf0 := HE.out.ev.frozen 0
    have r0 := HE.out.r0
    have rf0 := HE.out.res.frozen 0
    have z1 := HE.out.e1
    have zf1 := HE.out.ev.frozen 1
    have r1 := HE.out.r1
    have rf1 := HE.out.res.frozen 1
    have z2 := HE.out.e2
    have zf2 := HE.out.ev.frozen 2
    have r2 := HE.out.r2
    have rf2 := HE.out.res.frozen 2
    have z3 := HE.out.e3
    have zf3 := HE.out.ev.frozen 3
    have r3 := HE.out.r3
    have rf3 := HE.out.res.frozen 3
    have z4 := HE.out.e4
    have zf4 := HE.out.ev.frozen 4
    have r4 := HE.out.r4
    have rf4 := HE.out.res.frozen 4
    have z5 := HE.out.e5
    have zf5 := HE.out.ev.frozen 5
    have r5 := HE.out.r5
    have rf5 := HE.out.res.frozen 5
    have z6 := HE.out.e6
    have zf6 := HE.out.ev.frozen 6
    have r6 := HE.out.r6
    have rf6 := HE.out.res.frozen 6
    have hne := HE.out.er
    have hlt := HE.out.ev.lt
    have hlr := HE.out.res.lt
    go_wp2_with fail
    obtain ⟨⟨o0, o1, o2, o3, o4, o5, o6⟩, t1, t2⟩ := (HE.out.set5 x).fin rfl
    refine bodyPost_ret (v := evV ek ey ec et em x eb) ?_ rfl ⟨isEv, t1, t2⟩
    revert o0 o1 o2 o3 o4 o5 o6
    clear t1 t2
    generalize World.setCell (World.setCell _ _ _) _ _ = W
    intro o0 o1 o2 o3 o4 o5 o6
    simp [results, Tryz.results14, go_sem, o0, o1, o2, o3, o4, o5, o6]
  have h5' : (k == 5) = false := beq_eq_false_iff_ne.2 h5
  by_cases h6 : k = 6
  · subst h6
    have z0 := HE.out.e0
    have zf0 := HE.out.ev.frozen 0
    have r0 := HE.out.r0
    have rf0 := HE.out.res.frozen 0
    have z1 := HE.out.e1
    have zf1 := HE.out.ev.frozen 1
    have r1 := HE.out.r1
    have rf1 := HE.out.res.frozen 1
    have z2 := HE.out.e2
    have zf2 := HE.out.ev.frozen 2
    have r2 := HE.out.r2
    have rf2 := HE.out.res.frozen 2
    have z3 := HE.out.e3
    have zf3 := HE.out.ev.frozen 3
    have r3 := HE.out.r3
    have rf3 := HE.out.res.frozen 3
    have z4 := HE.out.e4
    have zf4 := HE.out.ev.frozen 4
    have r4 := HE.out.r4
    have rf4 := HE.out.res.frozen 4
    have z5 := HE.out.e5
    have zf5 := HE.out.ev.frozen 5
    have r5 := HE.out.r5
    have rf5 := HE.out.res.frozen 5
    have z6 := HE.out.e6
    have zf6 := HE.out.ev.frozen 6
    have r6 := HE.out.r6
    have rf6 := HE.out.res.frozen 6
    have hne := HE.out.er
    have hlt := HE.out.ev.lt
    have hlr := HE.out.res.lt
    go_wp2_with fail
    obtain ⟨⟨o0, o1, o2, o3, o4, o5, o6⟩, t1, t2⟩ := (HE.out.set6 (!eb)).fin rfl
    refine bodyPost_ret (v := evV ek ey ec et em ef (!eb)) ?_ rfl ⟨isEv, t1, t2⟩
    revert o0 o1 o2 o3 o4 o5 o6
    clear t1 t2
    generalize World.setCell (World.setCell _ _ _) _ _ = W
    intro o0 o1 o2 o3 o4 o5 o6
    simp [results, Tryz.results14, go_sem, o0, o1, o2, o3, o4, o5, o6]
  have h6' : (k == 6) = false := beq_eq_false_iff_ne.2 h6
  have z0 := HE.out.e0
  have zf0 := HE.out.ev.frozen 0
  have r0 := HE.out.r0
  have rf0 := HE.out.res.frozen 0
  have z1 := HE.out.e1
  have zf1 := HE.out.ev.frozen 1
  have r1 := HE.out.r1
  have rf1 := HE.out.res.frozen 1
  have z2 := HE.out.e2
  have zf2 := HE.out.ev.frozen 2
  have r2 := HE.out.r2
  have rf2 := HE.out.res.frozen 2
  have z3 := HE.out.e3
  have zf3 := HE.out.ev.frozen 3
  have r3 := HE.out.r3
  have rf3 := HE.out.res.frozen 3
  have z4 := HE.out.e4
  have zf4 := HE.out.ev.frozen 4
  have r4 := HE.out.r4
  have rf4 := HE.out.res.frozen 4
  have z5 := HE.out.e5
  have zf5 := HE.out.ev.frozen 5
  have r5 := HE.out.r5
  have rf5 := HE.out.res.frozen 5
  have z6 := HE.out.e6
  have zf6 := HE.out.ev.frozen 6
  have r6 := HE.out.r6
  have rf6 := HE.out.res.frozen 6
  have hne := HE.out.er
  have hlt := HE.out.ev.lt
  have hlr := HE.out.res.lt
  go_wp2_with fail
  obtain ⟨⟨o0, o1, o2, o3, o4, o5, o6⟩, t1, t2⟩ := HE.out.fin rfl
  refine bodyPost_ret (v := evV ek ey ec et em ef eb) ?_ rfl ⟨isEv, t1, t2⟩
  revert o0 o1 o2 o3 o4 o5 o6
  clear t1 t2
  generalize World.setCell (World.setCell _ _ _) _ _ = W
  intro o0 o1 o2 o3 o4 o5 o6
  simp [results, Tryz.results14, go_sem, o0, o1, o2, o3, o4, o5, o6]
end Go.Proofs.YtpkkdkdecajekaaGreatDoor
namespace Go.Proofs.YtpkkdkdecajekaaGreatDoor
open Go.RowKit Go.Deep
set_option linter.unusedVariables false
set_option linter.unusedSimpArgs false
set_option maxRecDepth 10000
theorem seven_cells {w W : World} {R : Nat} (k y c t m f : Int) (b : Bool) {g : Nat → Value} (hR : W.rowIs R 24 7 g) (hK : Keeps w W) (hr : w.heap.size ≤ R) {V : World} (hV : V = (((((((W.setCell ⟨R, 0, none⟩ (.int .i64 k)).setCell ⟨R, 1, none⟩ (.int .i64 y)).setCell ⟨R, 2, none⟩ (.int .i64 c)).setCell ⟨R, 3, none⟩ (.int .i64 t)).setCell ⟨R, 4, none⟩ (.int .i64 m)).setCell ⟨R, 5, none⟩ (.int .i64 f)).setCell ⟨R, 6, none⟩ (.bool b))) :
    (V.cell? ⟨R, 0, none⟩ = some (.int .i64 k) ∧ V.cell? ⟨R, 1, none⟩ = some (.int .i64 y) ∧ V.cell? ⟨R, 2, none⟩ = some (.int .i64 c) ∧ V.cell? ⟨R, 3, none⟩ = some (.int .i64 t) ∧ V.cell? ⟨R, 4, none⟩ = some (.int .i64 m) ∧ V.cell? ⟨R, 5, none⟩ = some (.int .i64 f) ∧ V.cell? ⟨R, 6, none⟩ = some (.bool b)) ∧ Keeps w V := by
  have r := (((((((hR.set 0 (.int .i64 k)).set 1 (.int .i64 y)).set 2 (.int .i64 c)).set 3 (.int .i64 t)).set 4 (.int .i64 m)).set 5 (.int .i64 f)).set 6 (.bool b)).congr (g := evRow k y c t m f b) (ev_congr rfl rfl rfl rfl rfl rfl rfl)
  have hk : Keeps w (((((((W.setCell ⟨R, 0, none⟩ (.int .i64 k)).setCell ⟨R, 1, none⟩ (.int .i64 y)).setCell ⟨R, 2, none⟩ (.int .i64 c)).setCell ⟨R, 3, none⟩ (.int .i64 t)).setCell ⟨R, 4, none⟩ (.int .i64 m)).setCell ⟨R, 5, none⟩ (.int .i64 f)).setCell ⟨R, 6, none⟩ (.bool b)) :=
    ((((((hK.setCell (p := ⟨R, 0, none⟩) hr _).setCell (p := ⟨R, 1, none⟩) hr _).setCell (p := ⟨R, 2, none⟩) hr _).setCell (p := ⟨R, 3, none⟩) hr _).setCell (p := ⟨R, 4, none⟩) hr _).setCell (p := ⟨R, 5, none⟩) hr _).setCell (p := ⟨R, 6, none⟩) hr _
  rw [← hV] at r hk
  exact ⟨⟨r.cell (i := 0) (by decide), r.cell (i := 1) (by decide), r.cell (i := 2) (by decide), r.cell (i := 3) (by decide), r.cell (i := 4) (by decide), r.cell (i := 5) (by decide), r.cell (i := 6) (by decide)⟩, hk⟩
set_option maxRecDepth 100000 in
set_option maxHeartbeats 4000000 in
theorem draw_evb (a : Option Addr) (len cap : Nat) (w : World) (hr : RowAt w.heap.size w a len) (hl : len ≤ 1048576) :
    Calls Tryz.prog 5 #[.slice a len cap] w fun e w' => IsEv e ∧ Keeps w w' := by
  have HK0 := hide (Keeps.alloc (Keeps.refl w) (.cells (evCells 0 0 0 0 0 0 false) 24))
  have HR0 := hide (World.rowIs_alloc w (evCells 0 0 0 0 0 0 false) 24 _ (ev_row 0 0 0 0 0 0 false))
  have HRw := hide (RowAt.up (hr.below HK0.out) HK0.out.size)
  have HZ : Hid ((w.alloc (.cells (evCells 0 0 0 0 0 0 false) 24)).heap.size = w.heap.size + 1) := by show _ = _; simp
  clear hr
  go_enter Tryz.func5, Tryz.ntmps5
  go_wp2_with fail
  refine (new_any a len cap _ HRw.out hl).mono ?_
  rintro x w1 ⟨he, s1, hk1⟩
  rw [HZ.out] at he s1
  have he1 : x = .returned (.pointer (some ⟨w.heap.size + 1, 0, none⟩)) := he
  clear he
  subst he1
  have HS1 := hide s1
  have HK1 := hide (HK0.out.trans hk1)
  have HR1 := hide (Keeps.row hk1 HR0.out)
  clear s1 hk1 HK0 HR0 HRw HZ
  go_wp2_with fail
  refine (anyevent_any HS1.out).mono ?_
  rintro _ w2 ⟨⟨k, y, c, t, m, f, b, rfl⟩, s2, g2⟩
  have HK2 := hide (keeps_of HK1.out g2 (by intro r hr; injection hr with hr; omega))
  have HR2 := hide (grown_row g2 (by intro e; injection e with e; omega) HR1.out)
  clear s2 g2 HS1 HK1 HR1
  have r0 : w2.cell? ⟨w.heap.size, 0, none⟩ = some (.int .i64 0) := HR2.out.cell (i := 0) (by decide)
  have rf0 := HR2.out.frozen 0
  have r1 : w2.cell? ⟨w.heap.size, 1, none⟩ = some (.int .i64 0) := HR2.out.cell (i := 1) (by decide)
  have rf1 := HR2.out.frozen 1
  have r2 : w2.cell? ⟨w.heap.size, 2, none⟩ = some (.int .i64 0) := HR2.out.cell (i := 2) (by decide)
  have rf2 := HR2.out.frozen 2
  have r3 : w2.cell? ⟨w.heap.size, 3, none⟩ = some (.int .i64 0) := HR2.out.cell (i := 3) (by decide)
  have rf3 := HR2.out.frozen 3
  have r4 : w2.cell? ⟨w.heap.size, 4, none⟩ = some (.int .i64 0) := HR2.out.cell (i := 4) (by decide)
  have rf4 := HR2.out.frozen 4
  have r5 : w2.cell? ⟨w.heap.size, 5, none⟩ = some (.int .i64 0) := HR2.out.cell (i := 5) (by decide)
  have rf5 := HR2.out.frozen 5
  have r6 : w2.cell? ⟨w.heap.size, 6, none⟩ = some (.bool false) := HR2.out.cell (i := 6) (by decide)
  have rf6 := HR2.out.frozen 6
  have rl := HR2.out.lt
  go_wp2_with fail
  obtain ⟨⟨o0, o1, o2, o3, o4, o5, o6⟩, hkF⟩ := seven_cells k y c t m f b HR2.out HK2.out (Nat.le_refl _) rfl
  refine bodyPost_ret (v := evV k y c t m f b) ?_ rfl ⟨isEv, Keeps.alloc hkF _⟩
  clear hkF r0 r1 r2 r3 r4 r5 r6 rf0 rf1 rf2 rf3 rf4 rf5 rf6 HR2 HK2
  revert o0 o1 o2 o3 o4 o5 o6
  generalize World.setCell (World.setCell _ _ _) _ _ = V
  intro o0 o1 o2 o3 o4 o5 o6
  have hlt := lt_of_cell o0
  simp [results, Tryz.results5, go_sem, o0, o1, o2, o3, o4, o5, o6, hlt]
end Go.Proofs.YtpkkdkdecajekaaGreatDoor
namespace Go.Proofs.YtpkkdkdecajekaaGreatDoor
open Go.RowKit Go.Deep
set_option linter.unusedVariables false
set_option maxRecDepth 10000
set_option linter.unusedSimpArgs false

def yesL (b : Bool) : List UInt8 := if b then [1] else [0]
/-- The bytes of an event. -/
def bodyL (k y c t m f : Nat) (b : Bool) : List UInt8 := [69] ++ digs k 1 ++ digs y 3 ++ digs c 1 ++ digs t 1 ++ digs m 7 ++ digs f 7 ++ yesL b
def bodyR (k y c t m f : Int) (b : Bool) : List UInt8 := if evB k y c t m f b = true then bodyL k.toNat y.toNat c.toNat t.toNat m.toNat f.toNat b else []
theorem bodyL_length (k y c t m f : Nat) (b : Bool) : (bodyL k y c t m f b).length = 22 := by
  cases b <;> simp [bodyL, digs_length, yesL]
theorem bodyR_length (k y c t m f : Int) (b : Bool) : (bodyR k y c t m f b).length ≤ 22 := by
  unfold bodyR
  split
  · rw [bodyL_length]; exact Nat.le_refl _
  · simp
theorem evB_bounds {k y c t m f : Int} {b : Bool} (h : evB k y c t m f b = true) : (1 ≤ k ∧ k ≤ 11) ∧ (0 ≤ y ∧ y ≤ 1000000) ∧ (0 ≤ c ∧ c ≤ 99) ∧ (0 ≤ t ∧ t ≤ 99) ∧ (0 ≤ m ∧ m ≤ 1125899906842624) ∧ (0 ≤ f ∧ f ≤ 1125899906842624) := by
  unfold evB at h
  split at h
  · simp only [Bool.and_eq_true, fieldB, if_true, if_false, Bool.false_eq_true, decide_eq_true_eq] at h; omega
  · split at h
    · simp only [Bool.and_eq_true, fieldB, if_true, if_false, Bool.false_eq_true, decide_eq_true_eq] at h; omega
    · split at h
      · simp only [Bool.and_eq_true, fieldB, if_true, if_false, Bool.false_eq_true, decide_eq_true_eq] at h; omega
      · split at h
        · simp only [Bool.and_eq_true, fieldB, if_true, if_false, Bool.false_eq_true, decide_eq_true_eq] at h; omega
        · split at h
          · simp only [Bool.and_eq_true, fieldB, if_true, if_false, Bool.false_eq_true, decide_eq_true_eq] at h; omega
          · split at h
            · simp only [Bool.and_eq_true, fieldB, if_true, if_false, Bool.false_eq_true, decide_eq_true_eq] at h; omega
            · split at h
              · simp only [Bool.and_eq_true, fieldB, if_true, if_false, Bool.false_eq_true, decide_eq_true_eq] at h; omega
              · split at h
                · simp only [Bool.and_eq_true, fieldB, if_true, if_false, Bool.false_eq_true, decide_eq_true_eq] at h; omega
                · cases h
def BodyPost (w : World) (k y c t m f : Int) (b : Bool) (x : Ending) (w' : World) : Prop := ∃ v, x = .returned (.tuple #[v, .bool (evB k y c t m f b)]) ∧ OwnsB w' w.heap.size v (bodyR k y c t m f b) ∧ Keeps w w'
theorem BodyPost.no {w w' : World} {k y c t m f : Int} {b : Bool} (h : evB k y c t m f b = false) (hk : Keeps w w') : BodyPost w k y c t m f b (.returned (.tuple #[.slice none 0 0, .bool false])) w' :=
  ⟨_, by rw [h], by unfold bodyR; rw [h]; exact OwnsB.nil _ _, hk⟩
theorem BodyPost.yes {w w' : World} {k y c t m f : Nat} {b : Bool} {v : Value} (h : evB k y c t m f b = true) (ho : OwnsB w' w.heap.size v (bodyL k y c t m f b)) (hk : Keeps w w') : BodyPost w k y c t m f b (.returned (.tuple #[v, .bool true])) w' :=
  ⟨_, by rw [h], by unfold bodyR; rw [if_pos h]; exact ho, hk⟩
theorem OwnsB.allocE {w : World} {base : Nat} {v : Value} {L : List UInt8} (h : OwnsB w base v L) (o : Obj) : OwnsB (w.alloc o) base v L := World.ownsRow.alloc h o
theorem make_22 (w : World) : (Instr.makeSlice 22 (.int .i64 0) (.int .i64 22)).run Tryz.prog w = .ok (.slice (some ⟨w.heap.size, 0, none⟩) 0 22) (w.alloc (.cells (madeCells #[.int .u8 0] 22) 5)) := by
  have hI := infoByte
  cases hi : Tryz.prog.info? 5 with
  | none => rw [hi] at hI; simp at hI
  | some i =>
    rw [hi] at hI
    simp at hI
    obtain ⟨hz, hs, hb⟩ := hI
    have h := run_make (P := Tryz.prog) w 22 5 i _ underBytes hi hz .i64 .i64 0 22 (by omega) (by omega) (by rw [hb]; omega) (by omega)
    rw [hs] at h
    exact h
end Go.Proofs.YtpkkdkdecajekaaGreatDoor
namespace Go.Proofs.YtpkkdkdecajekaaGreatDoor
open Go.RowKit
set_option linter.unusedVariables false
set_option maxRecDepth 10000
def chansB (a b : Int) : Bool := fieldB true a 1 99 && fieldB true b 1 99 && !decide (a = b)
/-- Are two events the same? -/
def evEq (k y c t m f : Int) (b : Bool) (k' y' c' t' m' f' : Int) (b' : Bool) : Bool := decide (k = k') && decide (y = y') && decide (c = c') && decide (t = t') && decide (m = m') && decide (f = f') && decide (b = b')
theorem infoEvent : Tryz.prog.underlying 24 = some (.struct (Tryz.prog.fieldsOf 24)) := by kernel_rfl
set_option maxHeartbeats 2000000 in
theorem ev_eql (k y c t m f : Int) (b : Bool) (k' y' c' t' m' f' : Int) (b' : Bool) (w : World) :
    (binOp .eql 24 (evV k y c t m f b) (evV k' y' c' t' m' f' b')).run Tryz.prog w = .ok (.bool (evEq k y c t m f b k' y' c' t' m' f' b')) w := by
  have hs : Tryz.prog.stoodInHeld 24 = false := by kernel_rfl
  have hf : (Tryz.prog.fieldsOf 24).toList.map (fun f => (f.name, f.type, f.offset)) = [("Kind", 3, 0), ("Key", 3, 1), ("Ch", 3, 2), ("To", 3, 3), ("Amt", 3, 4), ("Fee", 3, 5), ("Yes", 4, 6)] := by kernel_rfl
  rw [run_eql_struct, run_equalIn_agg _ _ _ _ _ infoEvent hs]
  generalize (Tryz.prog.fieldsOf 24).toList = fs at hf
  simp only [List.map_eq_cons_iff, List.map_eq_nil_iff, Prod.mk.injEq] at hf
  obtain ⟨f0, r0, rfl, ⟨n0, t0, o0⟩, f1, r1, rfl, ⟨n1, t1, o1⟩, f2, r2, rfl, ⟨n2, t2, o2⟩, f3, r3, rfl, ⟨n3, t3, o3⟩, f4, r4, rfl, ⟨n4, t4, o4⟩, f5, r5, rfl, ⟨n5, t5, o5⟩, f6, r6, rfl, ⟨n6, t6, o6⟩, rfl⟩ := hf
  have hi : Tryz.prog.underlying 3 = some (.int .i64) := Tryz.underlying3
  have hbo : Tryz.prog.underlying 4 = some .bool := Tryz.underlying4
  by_cases e0 : k = k'
  case neg => simp [Op.eqFields, go_sem, n0, t0, o0, n1, t1, o1, n2, t2, o2, n3, t3, o3, n4, t4, o4, n5, t5, o5, n6, t6, o6, evEq, hi, hbo, e0]
  by_cases e1 : y = y'
  case neg => simp [Op.eqFields, go_sem, n0, t0, o0, n1, t1, o1, n2, t2, o2, n3, t3, o3, n4, t4, o4, n5, t5, o5, n6, t6, o6, evEq, hi, hbo, e0, e1]
  by_cases e2 : c = c'
  case neg => simp [Op.eqFields, go_sem, n0, t0, o0, n1, t1, o1, n2, t2, o2, n3, t3, o3, n4, t4, o4, n5, t5, o5, n6, t6, o6, evEq, hi, hbo, e0, e1, e2]
  by_cases e3 : t = t'
  case neg => simp [Op.eqFields, go_sem, n0, t0, o0, n1, t1, o1, n2, t2, o2, n3, t3, o3, n4, t4, o4, n5, t5, o5, n6, t6, o6, evEq, hi, hbo, e0, e1, e2, e3]
  by_cases e4 : m = m'
  case neg => simp [Op.eqFields, go_sem, n0, t0, o0, n1, t1, o1, n2, t2, o2, n3, t3, o3, n4, t4, o4, n5, t5, o5, n6, t6, o6, evEq, hi, hbo, e0, e1, e2, e3, e4]
  by_cases e5 : f = f'
  case neg => simp [Op.eqFields, go_sem, n0, t0, o0, n1, t1, o1, n2, t2, o2, n3, t3, o3, n4, t4, o4, n5, t5, o5, n6, t6, o6, evEq, hi, hbo, e0, e1, e2, e3, e4, e5]
  by_cases e6 : b = b'
  case neg => simp [Op.eqFields, go_sem, n0, t0, o0, n1, t1, o1, n2, t2, o2, n3, t3, o3, n4, t4, o4, n5, t5, o5, n6, t6, o6, evEq, hi, hbo, e0, e1, e2, e3, e4, e5, e6]
  simp [Op.eqFields, go_sem, n0, t0, o0, n1, t1, o1, n2, t2, o2, n3, t3, o3, n4, t4, o4, n5, t5, o5, n6, t6, o6, evEq, hi, hbo, e0, e1, e2, e3, e4, e5, e6]
theorem AmtOk_k (n : Int) (w : World) : Calls Tryz.prog 104 #[.int .i64 n] w fun e w' => e = .returned (.bool (fieldB true n 0 1125899906842624)) ∧ w' = w := by
  have H : Hid (fieldB true n 0 1125899906842624 = (decide (0 ≤ n) && decide (n ≤ 1125899906842624))) := rfl
  by_cases h1 : 0 ≤ n
  · have H2 : Hid (fieldB true n 0 1125899906842624 = decide (n ≤ 1125899906842624)) := by show _ = _; rw [H.out, decide_eq_true h1, Bool.true_and]
    go_enter Tryz.func104, Tryz.ntmps104
    go_wp2
    go_ret
    exact ⟨ret_ev (by rw [H2.out]), rfl⟩
  · have H2 : Hid (fieldB true n 0 1125899906842624 = false) := by show _ = _; rw [H.out, decide_eq_false h1, Bool.false_and]
    go_enter Tryz.func104, Tryz.ntmps104
    go_wp2
    go_ret
    exact ⟨ret_ev (by rw [H2.out]), rfl⟩
theorem chanOk_k (n : Int) (w : World) : Calls Tryz.prog 111 #[.int .i64 n] w fun e w' => e = .returned (.bool (fieldB true n 1 99)) ∧ w' = w := by
  have H : Hid (fieldB true n 1 99 = (decide (1 ≤ n) && decide (n ≤ 99))) := rfl
  by_cases h1 : 1 ≤ n
  · have H2 : Hid (fieldB true n 1 99 = decide (n ≤ 99)) := by show _ = _; rw [H.out, decide_eq_true h1, Bool.true_and]
    go_enter Tryz.func111, Tryz.ntmps111
    go_wp2
    go_ret
    exact ⟨ret_ev (by rw [H2.out]), rfl⟩
  · have H2 : Hid (fieldB true n 1 99 = false) := by show _ = _; rw [H.out, decide_eq_false h1, Bool.false_and]
    go_enter Tryz.func111, Tryz.ntmps111
    go_wp2
    go_ret
    exact ⟨ret_ev (by rw [H2.out]), rfl⟩
theorem keyOk_k (n : Int) (w : World) : Calls Tryz.prog 119 #[.int .i64 n] w fun e w' => e = .returned (.bool (fieldB true n 1 1000000)) ∧ w' = w := by
  have H : Hid (fieldB true n 1 1000000 = (decide (1 ≤ n) && decide (n ≤ 1000000))) := rfl
  by_cases h1 : 1 ≤ n
  · have H2 : Hid (fieldB true n 1 1000000 = decide (n ≤ 1000000)) := by show _ = _; rw [H.out, decide_eq_true h1, Bool.true_and]
    go_enter Tryz.func119, Tryz.ntmps119
    go_wp2
    go_ret
    exact ⟨ret_ev (by rw [H2.out]), rfl⟩
  · have H2 : Hid (fieldB true n 1 1000000 = false) := by show _ = _; rw [H.out, decide_eq_false h1, Bool.false_and]
    go_enter Tryz.func119, Tryz.ntmps119
    go_wp2
    go_ret
    exact ⟨ret_ev (by rw [H2.out]), rfl⟩
theorem ppmOk_k (n : Int) (w : World) : Calls Tryz.prog 116 #[.int .i64 n] w fun e w' => e = .returned (.bool (fieldB true n 0 1000000)) ∧ w' = w := by
  have H : Hid (fieldB true n 0 1000000 = (decide (0 ≤ n) && decide (n ≤ 1000000))) := rfl
  by_cases h1 : 0 ≤ n
  · have H2 : Hid (fieldB true n 0 1000000 = decide (n ≤ 1000000)) := by show _ = _; rw [H.out, decide_eq_true h1, Bool.true_and]
    go_enter Tryz.func116, Tryz.ntmps116
    go_wp2
    go_ret
    exact ⟨ret_ev (by rw [H2.out]), rfl⟩
  · have H2 : Hid (fieldB true n 0 1000000 = false) := by show _ = _; rw [H.out, decide_eq_false h1, Bool.false_and]
    go_enter Tryz.func116, Tryz.ntmps116
    go_wp2
    go_ret
    exact ⟨ret_ev (by rw [H2.out]), rfl⟩
theorem aboveZero_k (n : Int) (w : World) : Calls Tryz.prog 102 #[.int .i64 n] w fun e w' => e = .returned (.bool (fieldB true n 1 1125899906842624)) ∧ w' = w := by
  have HA := hide (fun w1 => AmtOk_k n w1)
  have H : Hid (fieldB true n 1 1125899906842624 = (fieldB true n 0 1125899906842624 && decide (0 < n))) := by
    show _ = _
    simp only [fieldB, if_true]
    rw [Bool.eq_iff_iff]; simp; omega
  cases h : fieldB true n 0 1125899906842624
  · rw [h] at HA H
    clear h
    go_enter Tryz.func102, Tryz.ntmps102
    go_wp2_with (go_at_call 104; refine (unhide HA _).mono ?_; rintro e w' ⟨rfl, rfl⟩)
    go_ret
    exact ⟨ret_ev (by rw [H.out]; rfl), rfl⟩
  · rw [h] at HA H
    clear h
    go_enter Tryz.func102, Tryz.ntmps102
    go_wp2_with (go_at_call 104; refine (unhide HA _).mono ?_; rintro e w' ⟨rfl, rfl⟩)
    go_ret
    exact ⟨ret_ev (by rw [H.out]; simp), rfl⟩
theorem chansOk_k (x y : Int) (w : World) : Calls Tryz.prog 120 #[.int .i64 x, .int .i64 y] w fun e w' => e = .returned (.bool (chansB x y)) ∧ w' = w := by
  have HA := hide (fun n w1 => chanOk_k n w1)
  cases hx : fieldB true x 1 99
  · have H : Hid (chansB x y = false) := by show _ = _; unfold chansB; rw [hx]; rfl
    go_enter Tryz.func120, Tryz.ntmps120
    go_wp2_with (go_at_call 111; refine (unhide HA _ _).mono ?_; rintro e w' ⟨rfl, rfl⟩)
    go_ret
    exact ⟨ret_ev (by rw [H.out]), rfl⟩
  · cases hy : fieldB true y 1 99
    · have H : Hid (chansB x y = false) := by show _ = _; unfold chansB; rw [hx, hy]; rfl
      go_enter Tryz.func120, Tryz.ntmps120
      go_wp2_with (go_at_call 111; refine (unhide HA _ _).mono ?_; rintro e w' ⟨rfl, rfl⟩)
      go_ret
      exact ⟨ret_ev (by rw [H.out]), rfl⟩
    · have H : Hid (chansB x y = !decide (x = y)) := by show _ = _; unfold chansB; rw [hx, hy]; rfl
      go_enter Tryz.func120, Tryz.ntmps120
      go_wp2_with (go_at_call 111; refine (unhide HA _ _).mono ?_; rintro e w' ⟨rfl, rfl⟩)
      go_ret
      exact ⟨ret_ev (by rw [H.out]; rfl), rfl⟩
theorem right_deposit (m : Int) (w : World) : Calls Tryz.prog 100 #[.agg #[.int .i64 m]] w fun e w' => e = .returned (.bool (fieldB true m 1 1125899906842624)) ∧ Keeps w w' := by
  cases h0 : fieldB true m 1 1125899906842624
  · skip
    go_enter Tryz.func100, Tryz.ntmps100
    go_wp2_with (first | (go_at_call 102; refine (aboveZero_k _ _).mono ?_; rintro e w' ⟨rfl, rfl⟩))
    go_ret
    exact ⟨ret_ev (by simp), Keeps.alloc (Keeps.refl w) _⟩
  · skip
    go_enter Tryz.func100, Tryz.ntmps100
    go_wp2_with (first | (go_at_call 102; refine (aboveZero_k _ _).mono ?_; rintro e w' ⟨rfl, rfl⟩))
    go_ret
    exact ⟨ret_ev (by simp), Keeps.alloc (Keeps.refl w) _⟩
theorem right_open (c m f : Int) (w : World) : Calls Tryz.prog 109 #[.agg #[.int .i64 c, .int .i64 m, .int .i64 f]] w fun e w' => e = .returned (.bool (fieldB true c 1 99 && fieldB true m 1 1125899906842624 && fieldB true f 0 1125899906842624)) ∧ Keeps w w' := by
  cases h0 : fieldB true c 1 99
  · skip
    go_enter Tryz.func109, Tryz.ntmps109
    go_wp2_with (first | (go_at_call 104; refine (AmtOk_k _ _).mono ?_; rintro e w' ⟨rfl, rfl⟩) | (go_at_call 102; refine (aboveZero_k _ _).mono ?_; rintro e w' ⟨rfl, rfl⟩) | (go_at_call 111; refine (chanOk_k _ _).mono ?_; rintro e w' ⟨rfl, rfl⟩))
    go_ret
    exact ⟨ret_ev (by simp), Keeps.alloc (Keeps.refl w) _⟩
  · skip
    cases h1 : fieldB true m 1 1125899906842624
    · skip
      go_enter Tryz.func109, Tryz.ntmps109
      go_wp2_with (first | (go_at_call 104; refine (AmtOk_k _ _).mono ?_; rintro e w' ⟨rfl, rfl⟩) | (go_at_call 102; refine (aboveZero_k _ _).mono ?_; rintro e w' ⟨rfl, rfl⟩) | (go_at_call 111; refine (chanOk_k _ _).mono ?_; rintro e w' ⟨rfl, rfl⟩))
      go_ret
      exact ⟨ret_ev (by simp), Keeps.alloc (Keeps.refl w) _⟩
    · skip
      cases h2 : fieldB true f 0 1125899906842624
      · skip
        go_enter Tryz.func109, Tryz.ntmps109
        go_wp2_with (first | (go_at_call 104; refine (AmtOk_k _ _).mono ?_; rintro e w' ⟨rfl, rfl⟩) | (go_at_call 102; refine (aboveZero_k _ _).mono ?_; rintro e w' ⟨rfl, rfl⟩) | (go_at_call 111; refine (chanOk_k _ _).mono ?_; rintro e w' ⟨rfl, rfl⟩))
        go_ret
        exact ⟨ret_ev (by simp), Keeps.alloc (Keeps.refl w) _⟩
      · skip
        go_enter Tryz.func109, Tryz.ntmps109
        go_wp2_with (first | (go_at_call 104; refine (AmtOk_k _ _).mono ?_; rintro e w' ⟨rfl, rfl⟩) | (go_at_call 102; refine (aboveZero_k _ _).mono ?_; rintro e w' ⟨rfl, rfl⟩) | (go_at_call 111; refine (chanOk_k _ _).mono ?_; rintro e w' ⟨rfl, rfl⟩))
        go_ret
        exact ⟨ret_ev (by simp), Keeps.alloc (Keeps.refl w) _⟩
theorem right_close (c f : Int) (w : World) : Calls Tryz.prog 112 #[.agg #[.int .i64 c, .int .i64 f]] w fun e w' => e = .returned (.bool (fieldB true c 1 99 && fieldB true f 0 1125899906842624)) ∧ Keeps w w' := by
  cases h0 : fieldB true c 1 99
  · skip
    go_enter Tryz.func112, Tryz.ntmps112
    go_wp2_with (first | (go_at_call 104; refine (AmtOk_k _ _).mono ?_; rintro e w' ⟨rfl, rfl⟩) | (go_at_call 111; refine (chanOk_k _ _).mono ?_; rintro e w' ⟨rfl, rfl⟩))
    go_ret
    exact ⟨ret_ev (by simp), Keeps.alloc (Keeps.refl w) _⟩
  · skip
    cases h1 : fieldB true f 0 1125899906842624
    · skip
      go_enter Tryz.func112, Tryz.ntmps112
      go_wp2_with (first | (go_at_call 104; refine (AmtOk_k _ _).mono ?_; rintro e w' ⟨rfl, rfl⟩) | (go_at_call 111; refine (chanOk_k _ _).mono ?_; rintro e w' ⟨rfl, rfl⟩))
      go_ret
      exact ⟨ret_ev (by simp), Keeps.alloc (Keeps.refl w) _⟩
    · skip
      go_enter Tryz.func112, Tryz.ntmps112
      go_wp2_with (first | (go_at_call 104; refine (AmtOk_k _ _).mono ?_; rintro e w' ⟨rfl, rfl⟩) | (go_at_call 111; refine (chanOk_k _ _).mono ?_; rintro e w' ⟨rfl, rfl⟩))
      go_ret
      exact ⟨ret_ev (by simp), Keeps.alloc (Keeps.refl w) _⟩
theorem right_price (c m f : Int) (w : World) : Calls Tryz.prog 114 #[.agg #[.int .i64 c, .int .i64 m, .int .i64 f]] w fun e w' => e = .returned (.bool (fieldB true c 1 99 && fieldB true m 0 1125899906842624 && fieldB true f 0 1000000)) ∧ Keeps w w' := by
  cases h0 : fieldB true c 1 99
  · skip
    go_enter Tryz.func114, Tryz.ntmps114
    go_wp2_with (first | (go_at_call 104; refine (AmtOk_k _ _).mono ?_; rintro e w' ⟨rfl, rfl⟩) | (go_at_call 111; refine (chanOk_k _ _).mono ?_; rintro e w' ⟨rfl, rfl⟩) | (go_at_call 116; refine (ppmOk_k _ _).mono ?_; rintro e w' ⟨rfl, rfl⟩))
    go_ret
    exact ⟨ret_ev (by simp), Keeps.alloc (Keeps.refl w) _⟩
  · skip
    cases h1 : fieldB true m 0 1125899906842624
    · skip
      go_enter Tryz.func114, Tryz.ntmps114
      go_wp2_with (first | (go_at_call 104; refine (AmtOk_k _ _).mono ?_; rintro e w' ⟨rfl, rfl⟩) | (go_at_call 111; refine (chanOk_k _ _).mono ?_; rintro e w' ⟨rfl, rfl⟩) | (go_at_call 116; refine (ppmOk_k _ _).mono ?_; rintro e w' ⟨rfl, rfl⟩))
      go_ret
      exact ⟨ret_ev (by simp), Keeps.alloc (Keeps.refl w) _⟩
    · skip
      cases h2 : fieldB true f 0 1000000
      · skip
        go_enter Tryz.func114, Tryz.ntmps114
        go_wp2_with (first | (go_at_call 104; refine (AmtOk_k _ _).mono ?_; rintro e w' ⟨rfl, rfl⟩) | (go_at_call 111; refine (chanOk_k _ _).mono ?_; rintro e w' ⟨rfl, rfl⟩) | (go_at_call 116; refine (ppmOk_k _ _).mono ?_; rintro e w' ⟨rfl, rfl⟩))
        go_ret
        exact ⟨ret_ev (by simp), Keeps.alloc (Keeps.refl w) _⟩
      · skip
        go_enter Tryz.func114, Tryz.ntmps114
        go_wp2_with (first | (go_at_call 104; refine (AmtOk_k _ _).mono ?_; rintro e w' ⟨rfl, rfl⟩) | (go_at_call 111; refine (chanOk_k _ _).mono ?_; rintro e w' ⟨rfl, rfl⟩) | (go_at_call 116; refine (ppmOk_k _ _).mono ?_; rintro e w' ⟨rfl, rfl⟩))
        go_ret
        exact ⟨ret_ev (by simp), Keeps.alloc (Keeps.refl w) _⟩
theorem right_admit (y c t m : Int) (b : Bool) (w : World) : Calls Tryz.prog 117 #[.agg #[.int .i64 y, .int .i64 c, .int .i64 t, .int .i64 m, .bool b]] w fun e w' => e = .returned (.bool (fieldB true y 1 1000000 && chansB c t && fieldB true m 1 1125899906842624)) ∧ Keeps w w' := by
  cases h0 : fieldB true y 1 1000000
  · skip
    go_enter Tryz.func117, Tryz.ntmps117
    go_wp2_with (first | (go_at_call 102; refine (aboveZero_k _ _).mono ?_; rintro e w' ⟨rfl, rfl⟩) | (go_at_call 120; refine (chansOk_k _ _ _).mono ?_; rintro e w' ⟨rfl, rfl⟩) | (go_at_call 119; refine (keyOk_k _ _).mono ?_; rintro e w' ⟨rfl, rfl⟩))
    go_ret
    exact ⟨ret_ev (by simp), Keeps.alloc (Keeps.refl w) _⟩
  · skip
    cases h1 : chansB c t
    · skip
      go_enter Tryz.func117, Tryz.ntmps117
      go_wp2_with (first | (go_at_call 102; refine (aboveZero_k _ _).mono ?_; rintro e w' ⟨rfl, rfl⟩) | (go_at_call 120; refine (chansOk_k _ _ _).mono ?_; rintro e w' ⟨rfl, rfl⟩) | (go_at_call 119; refine (keyOk_k _ _).mono ?_; rintro e w' ⟨rfl, rfl⟩))
      go_ret
      exact ⟨ret_ev (by simp), Keeps.alloc (Keeps.refl w) _⟩
    · skip
      cases h2 : fieldB true m 1 1125899906842624
      · skip
        go_enter Tryz.func117, Tryz.ntmps117
        go_wp2_with (first | (go_at_call 102; refine (aboveZero_k _ _).mono ?_; rintro e w' ⟨rfl, rfl⟩) | (go_at_call 120; refine (chansOk_k _ _ _).mono ?_; rintro e w' ⟨rfl, rfl⟩) | (go_at_call 119; refine (keyOk_k _ _).mono ?_; rintro e w' ⟨rfl, rfl⟩))
        go_ret
        exact ⟨ret_ev (by simp), Keeps.alloc (Keeps.refl w) _⟩
      · skip
        go_enter Tryz.func117, Tryz.ntmps117
        go_wp2_with (first | (go_at_call 102; refine (aboveZero_k _ _).mono ?_; rintro e w' ⟨rfl, rfl⟩) | (go_at_call 120; refine (chansOk_k _ _ _).mono ?_; rintro e w' ⟨rfl, rfl⟩) | (go_at_call 119; refine (keyOk_k _ _).mono ?_; rintro e w' ⟨rfl, rfl⟩))
        go_ret
        exact ⟨ret_ev (by simp), Keeps.alloc (Keeps.refl w) _⟩
theorem right_fulfill (y : Int) (w : World) : Calls Tryz.prog 121 #[.agg #[.int .i64 y]] w fun e w' => e = .returned (.bool (fieldB true y 1 1000000)) ∧ Keeps w w' := by
  cases h0 : fieldB true y 1 1000000
  · skip
    go_enter Tryz.func121, Tryz.ntmps121
    go_wp2_with (first | (go_at_call 119; refine (keyOk_k _ _).mono ?_; rintro e w' ⟨rfl, rfl⟩))
    go_ret
    exact ⟨ret_ev (by simp), Keeps.alloc (Keeps.refl w) _⟩
  · skip
    go_enter Tryz.func121, Tryz.ntmps121
    go_wp2_with (first | (go_at_call 119; refine (keyOk_k _ _).mono ?_; rintro e w' ⟨rfl, rfl⟩))
    go_ret
    exact ⟨ret_ev (by simp), Keeps.alloc (Keeps.refl w) _⟩
theorem right_fail (y : Int) (w : World) : Calls Tryz.prog 123 #[.agg #[.int .i64 y]] w fun e w' => e = .returned (.bool (fieldB true y 1 1000000)) ∧ Keeps w w' := by
  cases h0 : fieldB true y 1 1000000
  · skip
    go_enter Tryz.func123, Tryz.ntmps123
    go_wp2_with (first | (go_at_call 119; refine (keyOk_k _ _).mono ?_; rintro e w' ⟨rfl, rfl⟩))
    go_ret
    exact ⟨ret_ev (by simp), Keeps.alloc (Keeps.refl w) _⟩
  · skip
    go_enter Tryz.func123, Tryz.ntmps123
    go_wp2_with (first | (go_at_call 119; refine (keyOk_k _ _).mono ?_; rintro e w' ⟨rfl, rfl⟩))
    go_ret
    exact ⟨ret_ev (by simp), Keeps.alloc (Keeps.refl w) _⟩
theorem right_tick (w : World) : Calls Tryz.prog 125 #[.agg #[]] w fun e w' => e = .returned (.bool (true)) ∧ Keeps w w' := by
  go_enter Tryz.func125, Tryz.ntmps125
  go_wp2
  go_ret
  exact ⟨rfl, Keeps.alloc (Keeps.refl w) _⟩
theorem right_launch (y c t m f : Int) (w : World) : Calls Tryz.prog 127 #[.agg #[.int .i64 y, .int .i64 c, .int .i64 t, .int .i64 m, .int .i64 f]] w fun e w' => e = .returned (.bool (fieldB true y 1 1000000 && chansB c t && fieldB true m 1 1125899906842624 && fieldB true f 0 1125899906842624)) ∧ Keeps w w' := by
  cases h0 : fieldB true y 1 1000000
  · skip
    go_enter Tryz.func127, Tryz.ntmps127
    go_wp2_with (first | (go_at_call 104; refine (AmtOk_k _ _).mono ?_; rintro e w' ⟨rfl, rfl⟩) | (go_at_call 102; refine (aboveZero_k _ _).mono ?_; rintro e w' ⟨rfl, rfl⟩) | (go_at_call 120; refine (chansOk_k _ _ _).mono ?_; rintro e w' ⟨rfl, rfl⟩) | (go_at_call 119; refine (keyOk_k _ _).mono ?_; rintro e w' ⟨rfl, rfl⟩))
    go_ret
    exact ⟨ret_ev (by simp), Keeps.alloc (Keeps.refl w) _⟩
  · skip
    cases h1 : chansB c t
    · skip
      go_enter Tryz.func127, Tryz.ntmps127
      go_wp2_with (first | (go_at_call 104; refine (AmtOk_k _ _).mono ?_; rintro e w' ⟨rfl, rfl⟩) | (go_at_call 102; refine (aboveZero_k _ _).mono ?_; rintro e w' ⟨rfl, rfl⟩) | (go_at_call 120; refine (chansOk_k _ _ _).mono ?_; rintro e w' ⟨rfl, rfl⟩) | (go_at_call 119; refine (keyOk_k _ _).mono ?_; rintro e w' ⟨rfl, rfl⟩))
      go_ret
      exact ⟨ret_ev (by simp), Keeps.alloc (Keeps.refl w) _⟩
    · skip
      cases h2 : fieldB true m 1 1125899906842624
      · skip
        go_enter Tryz.func127, Tryz.ntmps127
        go_wp2_with (first | (go_at_call 104; refine (AmtOk_k _ _).mono ?_; rintro e w' ⟨rfl, rfl⟩) | (go_at_call 102; refine (aboveZero_k _ _).mono ?_; rintro e w' ⟨rfl, rfl⟩) | (go_at_call 120; refine (chansOk_k _ _ _).mono ?_; rintro e w' ⟨rfl, rfl⟩) | (go_at_call 119; refine (keyOk_k _ _).mono ?_; rintro e w' ⟨rfl, rfl⟩))
        go_ret
        exact ⟨ret_ev (by simp), Keeps.alloc (Keeps.refl w) _⟩
      · skip
        cases h3 : fieldB true f 0 1125899906842624
        · skip
          go_enter Tryz.func127, Tryz.ntmps127
          go_wp2_with (first | (go_at_call 104; refine (AmtOk_k _ _).mono ?_; rintro e w' ⟨rfl, rfl⟩) | (go_at_call 102; refine (aboveZero_k _ _).mono ?_; rintro e w' ⟨rfl, rfl⟩) | (go_at_call 120; refine (chansOk_k _ _ _).mono ?_; rintro e w' ⟨rfl, rfl⟩) | (go_at_call 119; refine (keyOk_k _ _).mono ?_; rintro e w' ⟨rfl, rfl⟩))
          go_ret
          exact ⟨ret_ev (by simp), Keeps.alloc (Keeps.refl w) _⟩
        · skip
          go_enter Tryz.func127, Tryz.ntmps127
          go_wp2_with (first | (go_at_call 104; refine (AmtOk_k _ _).mono ?_; rintro e w' ⟨rfl, rfl⟩) | (go_at_call 102; refine (aboveZero_k _ _).mono ?_; rintro e w' ⟨rfl, rfl⟩) | (go_at_call 120; refine (chansOk_k _ _ _).mono ?_; rintro e w' ⟨rfl, rfl⟩) | (go_at_call 119; refine (keyOk_k _ _).mono ?_; rintro e w' ⟨rfl, rfl⟩))
          go_ret
          exact ⟨ret_ev (by simp), Keeps.alloc (Keeps.refl w) _⟩
theorem right_arrive (y : Int) (w : World) : Calls Tryz.prog 129 #[.agg #[.int .i64 y]] w fun e w' => e = .returned (.bool (fieldB true y 1 1000000)) ∧ Keeps w w' := by
  cases h0 : fieldB true y 1 1000000
  · skip
    go_enter Tryz.func129, Tryz.ntmps129
    go_wp2_with (first | (go_at_call 119; refine (keyOk_k _ _).mono ?_; rintro e w' ⟨rfl, rfl⟩))
    go_ret
    exact ⟨ret_ev (by simp), Keeps.alloc (Keeps.refl w) _⟩
  · skip
    go_enter Tryz.func129, Tryz.ntmps129
    go_wp2_with (first | (go_at_call 119; refine (keyOk_k _ _).mono ?_; rintro e w' ⟨rfl, rfl⟩))
    go_ret
    exact ⟨ret_ev (by simp), Keeps.alloc (Keeps.refl w) _⟩
theorem right_lost (y : Int) (w : World) : Calls Tryz.prog 131 #[.agg #[.int .i64 y]] w fun e w' => e = .returned (.bool (fieldB true y 1 1000000)) ∧ Keeps w w' := by
  cases h0 : fieldB true y 1 1000000
  · skip
    go_enter Tryz.func131, Tryz.ntmps131
    go_wp2_with (first | (go_at_call 119; refine (keyOk_k _ _).mono ?_; rintro e w' ⟨rfl, rfl⟩))
    go_ret
    exact ⟨ret_ev (by simp), Keeps.alloc (Keeps.refl w) _⟩
  · skip
    go_enter Tryz.func131, Tryz.ntmps131
    go_wp2_with (first | (go_at_call 119; refine (keyOk_k _ _).mono ?_; rintro e w' ⟨rfl, rfl⟩))
    go_ret
    exact ⟨ret_ev (by simp), Keeps.alloc (Keeps.refl w) _⟩
theorem right_unknown (w : World) : Calls Tryz.prog 133 #[.agg #[]] w fun e w' => e = .returned (.bool false) ∧ Keeps w w' := by
  go_enter Tryz.func133, Tryz.ntmps133
  go_wp2
  go_ret
  exact ⟨rfl, Keeps.alloc (Keeps.refl w) _⟩
theorem kindOf_deposit (y c t m f : Int) (b : Bool) (w : World) : Calls Tryz.prog 17 #[evV 1 y c t m f b] w fun e w' => e = .returned (.iface 65 (.agg #[.int .i64 m])) ∧ Keeps w w' := by
  go_enter Tryz.func17, Tryz.ntmps17
  go_wp2
  go_ret
  exact ⟨rfl, Keeps.alloc (Keeps.refl w) _⟩
theorem kindOf_open (y c t m f : Int) (b : Bool) (w : World) : Calls Tryz.prog 17 #[evV 2 y c t m f b] w fun e w' => e = .returned (.iface 67 (.agg #[.int .i64 c, .int .i64 m, .int .i64 f])) ∧ Keeps w w' := by
  go_enter Tryz.func17, Tryz.ntmps17
  go_wp2
  go_ret
  exact ⟨rfl, Keeps.alloc (Keeps.refl w) _⟩
theorem kindOf_close (y c t m f : Int) (b : Bool) (w : World) : Calls Tryz.prog 17 #[evV 3 y c t m f b] w fun e w' => e = .returned (.iface 69 (.agg #[.int .i64 c, .int .i64 f])) ∧ Keeps w w' := by
  go_enter Tryz.func17, Tryz.ntmps17
  go_wp2
  go_ret
  exact ⟨rfl, Keeps.alloc (Keeps.refl w) _⟩
theorem kindOf_price (y c t m f : Int) (b : Bool) (w : World) : Calls Tryz.prog 17 #[evV 4 y c t m f b] w fun e w' => e = .returned (.iface 71 (.agg #[.int .i64 c, .int .i64 m, .int .i64 f])) ∧ Keeps w w' := by
  go_enter Tryz.func17, Tryz.ntmps17
  go_wp2
  go_ret
  exact ⟨rfl, Keeps.alloc (Keeps.refl w) _⟩
theorem kindOf_admit (y c t m f : Int) (b : Bool) (w : World) : Calls Tryz.prog 17 #[evV 5 y c t m f b] w fun e w' => e = .returned (.iface 73 (.agg #[.int .i64 y, .int .i64 c, .int .i64 t, .int .i64 m, .bool b])) ∧ Keeps w w' := by
  go_enter Tryz.func17, Tryz.ntmps17
  go_wp2
  go_ret
  exact ⟨rfl, Keeps.alloc (Keeps.refl w) _⟩
theorem kindOf_fulfill (y c t m f : Int) (b : Bool) (w : World) : Calls Tryz.prog 17 #[evV 6 y c t m f b] w fun e w' => e = .returned (.iface 75 (.agg #[.int .i64 y])) ∧ Keeps w w' := by
  go_enter Tryz.func17, Tryz.ntmps17
  go_wp2
  go_ret
  exact ⟨rfl, Keeps.alloc (Keeps.refl w) _⟩
theorem kindOf_fail (y c t m f : Int) (b : Bool) (w : World) : Calls Tryz.prog 17 #[evV 7 y c t m f b] w fun e w' => e = .returned (.iface 76 (.agg #[.int .i64 y])) ∧ Keeps w w' := by
  go_enter Tryz.func17, Tryz.ntmps17
  go_wp2
  go_ret
  exact ⟨rfl, Keeps.alloc (Keeps.refl w) _⟩
theorem kindOf_tick (y c t m f : Int) (b : Bool) (w : World) : Calls Tryz.prog 17 #[evV 8 y c t m f b] w fun e w' => e = .returned (.iface 78 (.agg #[])) ∧ Keeps w w' := by
  go_enter Tryz.func17, Tryz.ntmps17
  go_wp2
  go_ret
  exact ⟨rfl, Keeps.alloc (Keeps.refl w) _⟩
theorem kindOf_launch (y c t m f : Int) (b : Bool) (w : World) : Calls Tryz.prog 17 #[evV 9 y c t m f b] w fun e w' => e = .returned (.iface 80 (.agg #[.int .i64 y, .int .i64 c, .int .i64 t, .int .i64 m, .int .i64 f])) ∧ Keeps w w' := by
  go_enter Tryz.func17, Tryz.ntmps17
  go_wp2
  go_ret
  exact ⟨rfl, Keeps.alloc (Keeps.refl w) _⟩
theorem kindOf_arrive (y c t m f : Int) (b : Bool) (w : World) : Calls Tryz.prog 17 #[evV 10 y c t m f b] w fun e w' => e = .returned (.iface 81 (.agg #[.int .i64 y])) ∧ Keeps w w' := by
  go_enter Tryz.func17, Tryz.ntmps17
  go_wp2
  go_ret
  exact ⟨rfl, Keeps.alloc (Keeps.refl w) _⟩
theorem kindOf_lost (y c t m f : Int) (b : Bool) (w : World) : Calls Tryz.prog 17 #[evV 11 y c t m f b] w fun e w' => e = .returned (.iface 82 (.agg #[.int .i64 y])) ∧ Keeps w w' := by
  go_enter Tryz.func17, Tryz.ntmps17
  go_wp2
  go_ret
  exact ⟨rfl, Keeps.alloc (Keeps.refl w) _⟩
theorem kindOf_unknown (k y c t m f : Int) (b : Bool) (w : World) (h : k < 1 ∨ 11 < k) : Calls Tryz.prog 17 #[evV k y c t m f b] w fun e w' => e = .returned (.iface 83 (.agg #[])) ∧ Keeps w w' := by
  have n1 : (k == 1) = false := beq_eq_false_iff_ne.2 (by omega)
  have n2 : (k == 2) = false := beq_eq_false_iff_ne.2 (by omega)
  have n3 : (k == 3) = false := beq_eq_false_iff_ne.2 (by omega)
  have n4 : (k == 4) = false := beq_eq_false_iff_ne.2 (by omega)
  have n5 : (k == 5) = false := beq_eq_false_iff_ne.2 (by omega)
  have n6 : (k == 6) = false := beq_eq_false_iff_ne.2 (by omega)
  have n7 : (k == 7) = false := beq_eq_false_iff_ne.2 (by omega)
  have n8 : (k == 8) = false := beq_eq_false_iff_ne.2 (by omega)
  have n9 : (k == 9) = false := beq_eq_false_iff_ne.2 (by omega)
  have n10 : (k == 10) = false := beq_eq_false_iff_ne.2 (by omega)
  have n11 : (k == 11) = false := beq_eq_false_iff_ne.2 (by omega)
  clear h
  go_enter Tryz.func17, Tryz.ntmps17
  go_wp2
  go_ret
  exact ⟨rfl, Keeps.alloc (Keeps.refl w) _⟩
end Go.Proofs.YtpkkdkdecajekaaGreatDoor
