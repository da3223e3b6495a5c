/- The model's draws of events: l04Draw. -/
import Derived.Test.YtkgpoghoilffhaaGreatDoorSC14
import Derived.Deep.RegionWith
namespace Go.Proofs.YtkgpoghoilffhaaGreatDoor
open Go.RowKit Go.Deep
set_option linter.unusedVariables false
set_option linter.unusedSimpArgs false
set_option maxRecDepth 10000
set_option maxHeartbeats 8000000 in
theorem event_any {B0 B : Nat} {a : Option Addr} {len cap : Nat} {w : World} (s : Dr B0 B a len cap w) :
    Calls Tryz.prog 77 #[.pointer (some ⟨B, 0, none⟩)] w fun e w' => IsEv e ∧ Dr B0 B a len cap w' ∧ w.grownBy w' (some B) := by
  have hB := s.lt
  have hB0 := s.le
  have HG0 := hide (World.grownBy_alloc w (.cells (evCells 0 0 0 0 0 0 false) 28) (some B))
  have HS0 := hide (s.grown (World.grownBy_alloc w (.cells (evCells 0 0 0 0 0 0 false) 28) none) (by simp) (by simp))
  have HR0 := hide (World.rowIs_alloc w (evCells 0 0 0 0 0 0 false) 28 _ (ev_row 0 0 0 0 0 0 false))
  clear s
  go_enter Tryz.func77, Tryz.ntmps77
  go_wp2_with fail
  refine (below_any 11 HS0.out (by omega) (by omega)).mono ?_
  rintro _ w1 ⟨⟨x, x0, x1, rfl⟩, s1, g1⟩
  have HR1 := hide (grown_row g1 (by simp; omega) HR0.out)
  have HS1 := hide s1
  have HG1 := hide (HG0.out.trans g1)
  have hz := HR1.out.lt
  clear s1 g1 HS0 HG0 HR0
  have HT := hide (has_all (k := 1 + x) (by omega) (by omega))
  go_wp2_with fail
  rcases HT.out with hh | hh | hh | hh | hh | hh | hh
  · refine (hh _).mono ?_
    rintro _ w2 ⟨rfl, hw2⟩
    have HE : Hid (EvSt w B0 B a len cap w.heap.size w1.heap.size (w1.heap.size + 1) (1 + x) 0 0 0 0 0 false false false false true false false w2) := by
      have g : w1.grownBy w2 none := by rw [hw2]; exact grown_alloc (grown_alloc (grown_refl w1 none) _) _
      have hz1 := HG1.out.size
      have r1 := (World.rowIs_alloc w1 (evCells (1 + x) 0 0 0 0 0 false) 28 _ (ev_row (1 + x) 0 0 0 0 0 false)).alloc (.cells #[.bool false, .bool false, .bool false, .bool true, .bool false, .bool false] 4)
      have r2 := World.rowIs_alloc (w1.alloc (.cells (evCells (1 + x) 0 0 0 0 0 false) 28)) #[.bool false, .bool false, .bool false, .bool true, .bool false, .bool false] 4 _ (has_rowD false false false true false false)
      rw [← hw2] at r1 r2
      rw [World.size_alloc] at r2
      exact ⟨r1, r2, grown_row g (by simp) HR1.out, HS1.out.grown g (by simp) (by simp), HG1.out.trans ⟨g.os, g.tape, g.output, g.size, fun k hk _ => g.block k hk (by simp)⟩, by omega, by omega, by omega, by omega, by omega, Nat.le_refl _, hB, hB0⟩
    clear hw2 HR1 HS1 HG1 HT
    simp only [World.size_alloc]
    generalize w1.heap.size + 1 = Hb at *
    generalize w1.heap.size = Eb at *
    have h0 := HE.out.h0'
    have h1 := HE.out.h1'
    have h2 := HE.out.h2'
    have h3 := HE.out.h3'
    have h4 := HE.out.h4'
    have h5 := HE.out.h5'
    have hne := HE.out.eh
    have hnr := HE.out.er
    have hlt := HE.out.ev.lt
    have hlh := HE.out.has.lt
    go_wp2_with fail
    refine (below_any 400 HE.out.dr (by omega) (by omega)).mono ?_
    rintro _ w3 ⟨⟨am, am0, am1, rfl⟩, s3, g3⟩
    clear h0 h1 h2 h3 h4 h5 hne hnr hlt hlh
    replace HE := hide (HE.out.step s3 g3)
    clear s3 g3
    have e4 := HE.out.e4
    have ef4 := HE.out.ev.frozen 4
    have h0 := HE.out.h0'
    have h1 := HE.out.h1'
    have h2 := HE.out.h2'
    have h3 := HE.out.h3'
    have h4 := HE.out.h4'
    have h5 := HE.out.h5'
    have hne := HE.out.eh
    have hnr := HE.out.er
    have hlt := HE.out.ev.lt
    have hlh := HE.out.has.lt
    replace HE := hide (HE.out.set4 (1 + am * 25))
    have e6 := HE.out.e6
    have ef6 := HE.out.ev.frozen 6
    replace HE := hide (HE.out.set6 false)
    go_wp2_with fail
    refine (below_any 14 HE.out.dr (by omega) (by omega)).mono ?_
    rintro _ w4 ⟨⟨zz, zz0, zz1, rfl⟩, s4, g4⟩
    clear e4 ef4 h0 h1 h2 h3 h4 h5 hne hnr hlt hlh e6 ef6
    replace HE := hide (HE.out.step s4 g4)
    clear s4 g4
    have h0 := HE.out.h0'
    have h1 := HE.out.h1'
    have h2 := HE.out.h2'
    have h3 := HE.out.h3'
    have h4 := HE.out.h4'
    have h5 := HE.out.h5'
    have hne := HE.out.eh
    have hnr := HE.out.er
    have hlt := HE.out.ev.lt
    have hlh := HE.out.has.lt
    by_cases hz : zz = 0
    · subst hz
      go_wp2_with fail
      refine (below_any 2 HE.out.dr (by omega) (by omega)).mono ?_
      rintro _ w5 ⟨⟨uu, uu0, uu1, rfl⟩, s5, g5⟩
      clear h0 h1 h2 h3 h4 h5 hne hnr hlt hlh
      replace HE := hide (HE.out.step s5 g5)
      clear s5 g5
      have e4 := HE.out.e4
      have ef4 := HE.out.ev.frozen 4
      have h0 := HE.out.h0'
      have h1 := HE.out.h1'
      have h2 := HE.out.h2'
      have h3 := HE.out.h3'
      have h4 := HE.out.h4'
      have h5 := HE.out.h5'
      have hne := HE.out.eh
      have hnr := HE.out.er
      have hlt := HE.out.ev.lt
      have hlh := HE.out.has.lt
      replace HE := hide (HE.out.set4 (1125899906842624 - uu))
      have z0 := HE.out.e0
      have z1 := HE.out.e1
      have z2 := HE.out.e2
      have z3 := HE.out.e3
      have z4 := HE.out.e4
      have z5 := HE.out.e5
      have z6 := HE.out.e6
      have r0 := HE.out.r0
      have rf0 := HE.out.res.frozen 0
      have r1 := HE.out.r1
      have rf1 := HE.out.res.frozen 1
      have r2 := HE.out.r2
      have rf2 := HE.out.res.frozen 2
      have r3 := HE.out.r3
      have rf3 := HE.out.res.frozen 3
      have r4 := HE.out.r4
      have rf4 := HE.out.res.frozen 4
      have r5 := HE.out.r5
      have rf5 := HE.out.res.frozen 5
      have r6 := HE.out.r6
      have rf6 := HE.out.res.frozen 6
      have hlr := HE.out.res.lt
      go_wp2_with fail
      obtain ⟨⟨o0, o1, o2, o3, o4, o5, o6⟩, t1, t2⟩ := HE.out.fin rfl
      refine bodyPost_ret (v := evV (1 + x) 0 0 0 (1125899906842624 - uu) 0 false) ?_ rfl ⟨isEv, t1, t2⟩
      revert o0 o1 o2 o3 o4 o5 o6
      clear t1 t2
      generalize World.setCell (World.setCell _ _ _) _ _ = W
      intro o0 o1 o2 o3 o4 o5 o6
      simp [results, Tryz.results77, go_sem, o0, o1, o2, o3, o4, o5, o6]
    · have hz' : (zz == 0) = false := beq_eq_false_iff_ne.2 hz
      have z0 := HE.out.e0
      have z1 := HE.out.e1
      have z2 := HE.out.e2
      have z3 := HE.out.e3
      have z4 := HE.out.e4
      have z5 := HE.out.e5
      have z6 := HE.out.e6
      have r0 := HE.out.r0
      have rf0 := HE.out.res.frozen 0
      have r1 := HE.out.r1
      have rf1 := HE.out.res.frozen 1
      have r2 := HE.out.r2
      have rf2 := HE.out.res.frozen 2
      have r3 := HE.out.r3
      have rf3 := HE.out.res.frozen 3
      have r4 := HE.out.r4
      have rf4 := HE.out.res.frozen 4
      have r5 := HE.out.r5
      have rf5 := HE.out.res.frozen 5
      have r6 := HE.out.r6
      have rf6 := HE.out.res.frozen 6
      have hlr := HE.out.res.lt
      go_wp2_with fail
      obtain ⟨⟨o0, o1, o2, o3, o4, o5, o6⟩, t1, t2⟩ := HE.out.fin rfl
      refine bodyPost_ret (v := evV (1 + x) 0 0 0 (1 + am * 25) 0 false) ?_ rfl ⟨isEv, t1, t2⟩
      revert o0 o1 o2 o3 o4 o5 o6
      clear t1 t2
      generalize World.setCell (World.setCell _ _ _) _ _ = W
      intro o0 o1 o2 o3 o4 o5 o6
      simp [results, Tryz.results77, go_sem, o0, o1, o2, o3, o4, o5, o6]
  · refine (hh _).mono ?_
    rintro _ w2 ⟨rfl, hw2⟩
    have HE : Hid (EvSt w B0 B a len cap w.heap.size w1.heap.size (w1.heap.size + 1) (1 + x) 0 0 0 0 0 false false true false true true false w2) := by
      have g : w1.grownBy w2 none := by rw [hw2]; exact grown_alloc (grown_alloc (grown_refl w1 none) _) _
      have hz1 := HG1.out.size
      have r1 := (World.rowIs_alloc w1 (evCells (1 + x) 0 0 0 0 0 false) 28 _ (ev_row (1 + x) 0 0 0 0 0 false)).alloc (.cells #[.bool false, .bool true, .bool false, .bool true, .bool true, .bool false] 4)
      have r2 := World.rowIs_alloc (w1.alloc (.cells (evCells (1 + x) 0 0 0 0 0 false) 28)) #[.bool false, .bool true, .bool false, .bool true, .bool true, .bool false] 4 _ (has_rowD false true false true true false)
      rw [← hw2] at r1 r2
      rw [World.size_alloc] at r2
      exact ⟨r1, r2, grown_row g (by simp) HR1.out, HS1.out.grown g (by simp) (by simp), HG1.out.trans ⟨g.os, g.tape, g.output, g.size, fun k hk _ => g.block k hk (by simp)⟩, by omega, by omega, by omega, by omega, by omega, Nat.le_refl _, hB, hB0⟩
    clear hw2 HR1 HS1 HG1 HT
    simp only [World.size_alloc]
    generalize w1.heap.size + 1 = Hb at *
    generalize w1.heap.size = Eb at *
    have h0 := HE.out.h0'
    have h1 := HE.out.h1'
    have h2 := HE.out.h2'
    have h3 := HE.out.h3'
    have h4 := HE.out.h4'
    have h5 := HE.out.h5'
    have hne := HE.out.eh
    have hnr := HE.out.er
    have hlt := HE.out.ev.lt
    have hlh := HE.out.has.lt
    go_wp2_with fail
    refine (below_any 4 HE.out.dr (by omega) (by omega)).mono ?_
    rintro _ w3 ⟨⟨ch, ch0, ch1, rfl⟩, s3, g3⟩
    clear h0 h1 h2 h3 h4 h5 hne hnr hlt hlh
    replace HE := hide (HE.out.step s3 g3)
    clear s3 g3
    have e2 := HE.out.e2
    have ef2 := HE.out.ev.frozen 2
    have h0 := HE.out.h0'
    have h1 := HE.out.h1'
    have h2 := HE.out.h2'
    have h3 := HE.out.h3'
    have h4 := HE.out.h4'
    have h5 := HE.out.h5'
    have hne := HE.out.eh
    have hnr := HE.out.er
    have hlt := HE.out.ev.lt
    have hlh := HE.out.has.lt
    replace HE := hide (HE.out.set2 (1 + ch))
    go_wp2_with fail
    refine (below_any 400 HE.out.dr (by omega) (by omega)).mono ?_
    rintro _ w4 ⟨⟨am, am0, am1, rfl⟩, s4, g4⟩
    clear e2 ef2 h0 h1 h2 h3 h4 h5 hne hnr hlt hlh
    replace HE := hide (HE.out.step s4 g4)
    clear s4 g4
    have e4 := HE.out.e4
    have ef4 := HE.out.ev.frozen 4
    have h0 := HE.out.h0'
    have h1 := HE.out.h1'
    have h2 := HE.out.h2'
    have h3 := HE.out.h3'
    have h4 := HE.out.h4'
    have h5 := HE.out.h5'
    have hne := HE.out.eh
    have hnr := HE.out.er
    have hlt := HE.out.ev.lt
    have hlh := HE.out.has.lt
    replace HE := hide (HE.out.set4 (1 + am * 25))
    go_wp2_with fail
    refine (below_any 300 HE.out.dr (by omega) (by omega)).mono ?_
    rintro _ w5 ⟨⟨fe, fe0, fe1, rfl⟩, s5, g5⟩
    clear e4 ef4 h0 h1 h2 h3 h4 h5 hne hnr hlt hlh
    replace HE := hide (HE.out.step s5 g5)
    clear s5 g5
    have e5 := HE.out.e5
    have ef5 := HE.out.ev.frozen 5
    have h0 := HE.out.h0'
    have h1 := HE.out.h1'
    have h2 := HE.out.h2'
    have h3 := HE.out.h3'
    have h4 := HE.out.h4'
    have h5 := HE.out.h5'
    have hne := HE.out.eh
    have hnr := HE.out.er
    have hlt := HE.out.ev.lt
    have hlh := HE.out.has.lt
    replace HE := hide (HE.out.set5 (fe * 7))
    have e6 := HE.out.e6
    have ef6 := HE.out.ev.frozen 6
    replace HE := hide (HE.out.set6 false)
    go_wp2_with fail
    refine (below_any 14 HE.out.dr (by omega) (by omega)).mono ?_
    rintro _ w6 ⟨⟨zz, zz0, zz1, rfl⟩, s6, g6⟩
    clear e5 ef5 h0 h1 h2 h3 h4 h5 hne hnr hlt hlh e6 ef6
    replace HE := hide (HE.out.step s6 g6)
    clear s6 g6
    have h0 := HE.out.h0'
    have h1 := HE.out.h1'
    have h2 := HE.out.h2'
    have h3 := HE.out.h3'
    have h4 := HE.out.h4'
    have h5 := HE.out.h5'
    have hne := HE.out.eh
    have hnr := HE.out.er
    have hlt := HE.out.ev.lt
    have hlh := HE.out.has.lt
    by_cases hz : zz = 0
    · subst hz
      go_wp2_with fail
      refine (below_any 2 HE.out.dr (by omega) (by omega)).mono ?_
      rintro _ w7 ⟨⟨uu, uu0, uu1, rfl⟩, s7, g7⟩
      clear h0 h1 h2 h3 h4 h5 hne hnr hlt hlh
      replace HE := hide (HE.out.step s7 g7)
      clear s7 g7
      have e4 := HE.out.e4
      have ef4 := HE.out.ev.frozen 4
      have h0 := HE.out.h0'
      have h1 := HE.out.h1'
      have h2 := HE.out.h2'
      have h3 := HE.out.h3'
      have h4 := HE.out.h4'
      have h5 := HE.out.h5'
      have hne := HE.out.eh
      have hnr := HE.out.er
      have hlt := HE.out.ev.lt
      have hlh := HE.out.has.lt
      replace HE := hide (HE.out.set4 (1125899906842624 - uu))
      have z0 := HE.out.e0
      have z1 := HE.out.e1
      have z2 := HE.out.e2
      have z3 := HE.out.e3
      have z4 := HE.out.e4
      have z5 := HE.out.e5
      have z6 := HE.out.e6
      have r0 := HE.out.r0
      have rf0 := HE.out.res.frozen 0
      have r1 := HE.out.r1
      have rf1 := HE.out.res.frozen 1
      have r2 := HE.out.r2
      have rf2 := HE.out.res.frozen 2
      have r3 := HE.out.r3
      have rf3 := HE.out.res.frozen 3
      have r4 := HE.out.r4
      have rf4 := HE.out.res.frozen 4
      have r5 := HE.out.r5
      have rf5 := HE.out.res.frozen 5
      have r6 := HE.out.r6
      have rf6 := HE.out.res.frozen 6
      have hlr := HE.out.res.lt
      go_wp2_with fail
      obtain ⟨⟨o0, o1, o2, o3, o4, o5, o6⟩, t1, t2⟩ := HE.out.fin rfl
      refine bodyPost_ret (v := evV (1 + x) 0 (1 + ch) 0 (1125899906842624 - uu) (fe * 7) false) ?_ rfl ⟨isEv, t1, t2⟩
      revert o0 o1 o2 o3 o4 o5 o6
      clear t1 t2
      generalize World.setCell (World.setCell _ _ _) _ _ = W
      intro o0 o1 o2 o3 o4 o5 o6
      simp [results, Tryz.results77, go_sem, o0, o1, o2, o3, o4, o5, o6]
    · have hz' : (zz == 0) = false := beq_eq_false_iff_ne.2 hz
      have z0 := HE.out.e0
      have z1 := HE.out.e1
      have z2 := HE.out.e2
      have z3 := HE.out.e3
      have z4 := HE.out.e4
      have z5 := HE.out.e5
      have z6 := HE.out.e6
      have r0 := HE.out.r0
      have rf0 := HE.out.res.frozen 0
      have r1 := HE.out.r1
      have rf1 := HE.out.res.frozen 1
      have r2 := HE.out.r2
      have rf2 := HE.out.res.frozen 2
      have r3 := HE.out.r3
      have rf3 := HE.out.res.frozen 3
      have r4 := HE.out.r4
      have rf4 := HE.out.res.frozen 4
      have r5 := HE.out.r5
      have rf5 := HE.out.res.frozen 5
      have r6 := HE.out.r6
      have rf6 := HE.out.res.frozen 6
      have hlr := HE.out.res.lt
      go_wp2_with fail
      obtain ⟨⟨o0, o1, o2, o3, o4, o5, o6⟩, t1, t2⟩ := HE.out.fin rfl
      refine bodyPost_ret (v := evV (1 + x) 0 (1 + ch) 0 (1 + am * 25) (fe * 7) false) ?_ rfl ⟨isEv, t1, t2⟩
      revert o0 o1 o2 o3 o4 o5 o6
      clear t1 t2
      generalize World.setCell (World.setCell _ _ _) _ _ = W
      intro o0 o1 o2 o3 o4 o5 o6
      simp [results, Tryz.results77, go_sem, o0, o1, o2, o3, o4, o5, o6]
  · refine (hh _).mono ?_
    rintro _ w2 ⟨rfl, hw2⟩
    have HE : Hid (EvSt w B0 B a len cap w.heap.size w1.heap.size (w1.heap.size + 1) (1 + x) 0 0 0 0 0 false false true false false true false w2) := by
      have g : w1.grownBy w2 none := by rw [hw2]; exact grown_alloc (grown_alloc (grown_refl w1 none) _) _
      have hz1 := HG1.out.size
      have r1 := (World.rowIs_alloc w1 (evCells (1 + x) 0 0 0 0 0 false) 28 _ (ev_row (1 + x) 0 0 0 0 0 false)).alloc (.cells #[.bool false, .bool true, .bool false, .bool false, .bool true, .bool false] 4)
      have r2 := World.rowIs_alloc (w1.alloc (.cells (evCells (1 + x) 0 0 0 0 0 false) 28)) #[.bool false, .bool true, .bool false, .bool false, .bool true, .bool false] 4 _ (has_rowD false true false false true false)
      rw [← hw2] at r1 r2
      rw [World.size_alloc] at r2
      exact ⟨r1, r2, grown_row g (by simp) HR1.out, HS1.out.grown g (by simp) (by simp), HG1.out.trans ⟨g.os, g.tape, g.output, g.size, fun k hk _ => g.block k hk (by simp)⟩, by omega, by omega, by omega, by omega, by omega, Nat.le_refl _, hB, hB0⟩
    clear hw2 HR1 HS1 HG1 HT
    simp only [World.size_alloc]
    generalize w1.heap.size + 1 = Hb at *
    generalize w1.heap.size = Eb at *
    have h0 := HE.out.h0'
    have h1 := HE.out.h1'
    have h2 := HE.out.h2'
    have h3 := HE.out.h3'
    have h4 := HE.out.h4'
    have h5 := HE.out.h5'
    have hne := HE.out.eh
    have hnr := HE.out.er
    have hlt := HE.out.ev.lt
    have hlh := HE.out.has.lt
    go_wp2_with fail
    refine (below_any 4 HE.out.dr (by omega) (by omega)).mono ?_
    rintro _ w3 ⟨⟨ch, ch0, ch1, rfl⟩, s3, g3⟩
    clear h0 h1 h2 h3 h4 h5 hne hnr hlt hlh
    replace HE := hide (HE.out.step s3 g3)
    clear s3 g3
    have e2 := HE.out.e2
    have ef2 := HE.out.ev.frozen 2
    have h0 := HE.out.h0'
    have h1 := HE.out.h1'
    have h2 := HE.out.h2'
    have h3 := HE.out.h3'
    have h4 := HE.out.h4'
    have h5 := HE.out.h5'
    have hne := HE.out.eh
    have hnr := HE.out.er
    have hlt := HE.out.ev.lt
    have hlh := HE.out.has.lt
    replace HE := hide (HE.out.set2 (1 + ch))
    go_wp2_with fail
    refine (below_any 300 HE.out.dr (by omega) (by omega)).mono ?_
    rintro _ w4 ⟨⟨fe, fe0, fe1, rfl⟩, s4, g4⟩
    clear e2 ef2 h0 h1 h2 h3 h4 h5 hne hnr hlt hlh
    replace HE := hide (HE.out.step s4 g4)
    clear s4 g4
    have e5 := HE.out.e5
    have ef5 := HE.out.ev.frozen 5
    have h0 := HE.out.h0'
    have h1 := HE.out.h1'
    have h2 := HE.out.h2'
    have h3 := HE.out.h3'
    have h4 := HE.out.h4'
    have h5 := HE.out.h5'
    have hne := HE.out.eh
    have hnr := HE.out.er
    have hlt := HE.out.ev.lt
    have hlh := HE.out.has.lt
    replace HE := hide (HE.out.set5 (fe * 7))
    have e6 := HE.out.e6
    have ef6 := HE.out.ev.frozen 6
    replace HE := hide (HE.out.set6 false)
    go_wp2_with fail
    refine (below_any 14 HE.out.dr (by omega) (by omega)).mono ?_
    rintro _ w5 ⟨⟨zz, zz0, zz1, rfl⟩, s5, g5⟩
    clear e5 ef5 h0 h1 h2 h3 h4 h5 hne hnr hlt hlh e6 ef6
    replace HE := hide (HE.out.step s5 g5)
    clear s5 g5
    have h0 := HE.out.h0'
    have h1 := HE.out.h1'
    have h2 := HE.out.h2'
    have h3 := HE.out.h3'
    have h4 := HE.out.h4'
    have h5 := HE.out.h5'
    have hne := HE.out.eh
    have hnr := HE.out.er
    have hlt := HE.out.ev.lt
    have hlh := HE.out.has.lt
    by_cases hz : zz = 0
    · subst hz
      have z0 := HE.out.e0
      have z1 := HE.out.e1
      have z2 := HE.out.e2
      have z3 := HE.out.e3
      have z4 := HE.out.e4
      have z5 := HE.out.e5
      have z6 := HE.out.e6
      have r0 := HE.out.r0
      have rf0 := HE.out.res.frozen 0
      have r1 := HE.out.r1
      have rf1 := HE.out.res.frozen 1
      have r2 := HE.out.r2
      have rf2 := HE.out.res.frozen 2
      have r3 := HE.out.r3
      have rf3 := HE.out.res.frozen 3
      have r4 := HE.out.r4
      have rf4 := HE.out.res.frozen 4
      have r5 := HE.out.r5
      have rf5 := HE.out.res.frozen 5
      have r6 := HE.out.r6
      have rf6 := HE.out.res.frozen 6
      have hlr := HE.out.res.lt
      go_wp2_with fail
      obtain ⟨⟨o0, o1, o2, o3, o4, o5, o6⟩, t1, t2⟩ := HE.out.fin rfl
      refine bodyPost_ret (v := evV (1 + x) 0 (1 + ch) 0 0 (fe * 7) false) ?_ rfl ⟨isEv, t1, t2⟩
      revert o0 o1 o2 o3 o4 o5 o6
      clear t1 t2
      generalize World.setCell (World.setCell _ _ _) _ _ = W
      intro o0 o1 o2 o3 o4 o5 o6
      simp [results, Tryz.results77, go_sem, o0, o1, o2, o3, o4, o5, o6]
    · have hz' : (zz == 0) = false := beq_eq_false_iff_ne.2 hz
      have z0 := HE.out.e0
      have z1 := HE.out.e1
      have z2 := HE.out.e2
      have z3 := HE.out.e3
      have z4 := HE.out.e4
      have z5 := HE.out.e5
      have z6 := HE.out.e6
      have r0 := HE.out.r0
      have rf0 := HE.out.res.frozen 0
      have r1 := HE.out.r1
      have rf1 := HE.out.res.frozen 1
      have r2 := HE.out.r2
      have rf2 := HE.out.res.frozen 2
      have r3 := HE.out.r3
      have rf3 := HE.out.res.frozen 3
      have r4 := HE.out.r4
      have rf4 := HE.out.res.frozen 4
      have r5 := HE.out.r5
      have rf5 := HE.out.res.frozen 5
      have r6 := HE.out.r6
      have rf6 := HE.out.res.frozen 6
      have hlr := HE.out.res.lt
      go_wp2_with fail
      obtain ⟨⟨o0, o1, o2, o3, o4, o5, o6⟩, t1, t2⟩ := HE.out.fin rfl
      refine bodyPost_ret (v := evV (1 + x) 0 (1 + ch) 0 0 (fe * 7) false) ?_ rfl ⟨isEv, t1, t2⟩
      revert o0 o1 o2 o3 o4 o5 o6
      clear t1 t2
      generalize World.setCell (World.setCell _ _ _) _ _ = W
      intro o0 o1 o2 o3 o4 o5 o6
      simp [results, Tryz.results77, go_sem, o0, o1, o2, o3, o4, o5, o6]
  · refine (hh _).mono ?_
    rintro _ w2 ⟨rfl, hw2⟩
    have HE : Hid (EvSt w B0 B a len cap w.heap.size w1.heap.size (w1.heap.size + 1) (1 + x) 0 0 0 0 0 false true true true true false true w2) := by
      have g : w1.grownBy w2 none := by rw [hw2]; exact grown_alloc (grown_alloc (grown_refl w1 none) _) _
      have hz1 := HG1.out.size
      have r1 := (World.rowIs_alloc w1 (evCells (1 + x) 0 0 0 0 0 false) 28 _ (ev_row (1 + x) 0 0 0 0 0 false)).alloc (.cells #[.bool true, .bool true, .bool true, .bool true, .bool false, .bool true] 4)
      have r2 := World.rowIs_alloc (w1.alloc (.cells (evCells (1 + x) 0 0 0 0 0 false) 28)) #[.bool true, .bool true, .bool true, .bool true, .bool false, .bool true] 4 _ (has_rowD true true true true false true)
      rw [← hw2] at r1 r2
      rw [World.size_alloc] at r2
      exact ⟨r1, r2, grown_row g (by simp) HR1.out, HS1.out.grown g (by simp) (by simp), HG1.out.trans ⟨g.os, g.tape, g.output, g.size, fun k hk _ => g.block k hk (by simp)⟩, by omega, by omega, by omega, by omega, by omega, Nat.le_refl _, hB, hB0⟩
    clear hw2 HR1 HS1 HG1 HT
    simp only [World.size_alloc]
    generalize w1.heap.size + 1 = Hb at *
    generalize w1.heap.size = Eb at *
    have h0 := HE.out.h0'
    have h1 := HE.out.h1'
    have h2 := HE.out.h2'
    have h3 := HE.out.h3'
    have h4 := HE.out.h4'
    have h5 := HE.out.h5'
    have hne := HE.out.eh
    have hnr := HE.out.er
    have hlt := HE.out.ev.lt
    have hlh := HE.out.has.lt
    go_wp2_with fail
    refine (below_any 6 HE.out.dr (by omega) (by omega)).mono ?_
    rintro _ w3 ⟨⟨ky, ky0, ky1, rfl⟩, s3, g3⟩
    clear h0 h1 h2 h3 h4 h5 hne hnr hlt hlh
    replace HE := hide (HE.out.step s3 g3)
    clear s3 g3
    have e1 := HE.out.e1
    have ef1 := HE.out.ev.frozen 1
    have h0 := HE.out.h0'
    have h1 := HE.out.h1'
    have h2 := HE.out.h2'
    have h3 := HE.out.h3'
    have h4 := HE.out.h4'
    have h5 := HE.out.h5'
    have hne := HE.out.eh
    have hnr := HE.out.er
    have hlt := HE.out.ev.lt
    have hlh := HE.out.has.lt
    replace HE := hide (HE.out.set1 (1 + ky))
    go_wp2_with fail
    refine (below_any 4 HE.out.dr (by omega) (by omega)).mono ?_
    rintro _ w4 ⟨⟨ch, ch0, ch1, rfl⟩, s4, g4⟩
    clear e1 ef1 h0 h1 h2 h3 h4 h5 hne hnr hlt hlh
    replace HE := hide (HE.out.step s4 g4)
    clear s4 g4
    have e2 := HE.out.e2
    have ef2 := HE.out.ev.frozen 2
    have h0 := HE.out.h0'
    have h1 := HE.out.h1'
    have h2 := HE.out.h2'
    have h3 := HE.out.h3'
    have h4 := HE.out.h4'
    have h5 := HE.out.h5'
    have hne := HE.out.eh
    have hnr := HE.out.er
    have hlt := HE.out.ev.lt
    have hlh := HE.out.has.lt
    replace HE := hide (HE.out.set2 (1 + ch))
    go_wp2_with fail
    have e0' := HE.out.e0
    have e2' := HE.out.e2
    have ef3' := HE.out.ev.frozen 3
    go_region_with (go_at_call 15; first | (refine (below_any 3 HE.out.dr (by omega) (by omega)).mono ?_; rintro _ w5 ⟨⟨tt, tt0, tt1, rfl⟩, s5, g5⟩; have HE5 := hide (HE.out.step s5 g5); have q2 := HE5.out.e2; have q3 := HE5.out.e3; have qf3 := HE5.out.ev.frozen 3; have ql := HE5.out.ev.lt; clear s5 g5) | (refine (below_any 3 HE.out.drew.dr (by omega) (by omega)).mono ?_; rintro _ w5 ⟨⟨tt, tt0, tt1, rfl⟩, s5, g5⟩; have HE5 := hide (HE.out.drew.step s5 g5); have q2 := HE5.out.e2; have q3 := HE5.out.e3; have qf3 := HE5.out.ev.frozen 3; have ql := HE5.out.ev.lt; clear s5 g5))
    all_goals
      generalize IntKind.i64.wrap (1 + (IntKind.i64.wrap (1 + ch + tt)).tmod 4) = tv
      generalize (IntKind.i64.wrap (1 + ch + tt)).tmod 4 = tv'
      generalize IntKind.i64.wrap (1 + ch + tt) = tv''
      clear HE e0' e2' ef3' q2 q3 qf3 ql
      clear e2 ef2 h0 h1 h2 h3 h4 h5 hne hnr hlt hlh
      have HE := hide (HE5.out.set3 tv)
      clear HE5
      have h0 := HE.out.h0'
      have h1 := HE.out.h1'
      have h2 := HE.out.h2'
      have h3 := HE.out.h3'
      have h4 := HE.out.h4'
      have h5 := HE.out.h5'
      have hne := HE.out.eh
      have hnr := HE.out.er
      have hlt := HE.out.ev.lt
      have hlh := HE.out.has.lt
      go_wp2_with fail
      refine (below_any 400 HE.out.dr (by omega) (by omega)).mono ?_
      rintro _ w6 ⟨⟨am, am0, am1, rfl⟩, s6, g6⟩
      clear h0 h1 h2 h3 h4 h5 hne hnr hlt hlh
      replace HE := hide (HE.out.step s6 g6)
      clear s6 g6
      have e4 := HE.out.e4
      have ef4 := HE.out.ev.frozen 4
      have h0 := HE.out.h0'
      have h1 := HE.out.h1'
      have h2 := HE.out.h2'
      have h3 := HE.out.h3'
      have h4 := HE.out.h4'
      have h5 := HE.out.h5'
      have hne := HE.out.eh
      have hnr := HE.out.er
      have hlt := HE.out.ev.lt
      have hlh := HE.out.has.lt
      replace HE := hide (HE.out.set4 (1 + am * 25))
      go_wp2_with fail
      refine (below_any 2 HE.out.dr (by omega) (by omega)).mono ?_
      rintro _ w7 ⟨⟨ys, ys0, ys1, rfl⟩, s7, g7⟩
      clear e4 ef4 h0 h1 h2 h3 h4 h5 hne hnr hlt hlh
      replace HE := hide (HE.out.step s7 g7)
      clear s7 g7
      have e6 := HE.out.e6
      have ef6 := HE.out.ev.frozen 6
      have h0 := HE.out.h0'
      have h1 := HE.out.h1'
      have h2 := HE.out.h2'
      have h3 := HE.out.h3'
      have h4 := HE.out.h4'
      have h5 := HE.out.h5'
      have hne := HE.out.eh
      have hnr := HE.out.er
      have hlt := HE.out.ev.lt
      have hlh := HE.out.has.lt
      by_cases hy : ys = 0
      · subst hy
        replace HE := hide (HE.out.set6 true)
        go_wp2_with fail
        refine (below_any 14 HE.out.dr (by omega) (by omega)).mono ?_
        rintro _ w8 ⟨⟨zz, zz0, zz1, rfl⟩, s8, g8⟩
        clear e6 ef6 h0 h1 h2 h3 h4 h5 hne hnr hlt hlh
        replace HE := hide (HE.out.step s8 g8)
        clear s8 g8
        have h0 := HE.out.h0'
        have h1 := HE.out.h1'
        have h2 := HE.out.h2'
        have h3 := HE.out.h3'
        have h4 := HE.out.h4'
        have h5 := HE.out.h5'
        have hne := HE.out.eh
        have hnr := HE.out.er
        have hlt := HE.out.ev.lt
        have hlh := HE.out.has.lt
        by_cases hz : zz = 0
        · subst hz
          go_wp2_with fail
          refine (below_any 2 HE.out.dr (by omega) (by omega)).mono ?_
          rintro _ w9 ⟨⟨uu, uu0, uu1, rfl⟩, s9, g9⟩
          clear h0 h1 h2 h3 h4 h5 hne hnr hlt hlh
          replace HE := hide (HE.out.step s9 g9)
          clear s9 g9
          have e4 := HE.out.e4
          have ef4 := HE.out.ev.frozen 4
          have h0 := HE.out.h0'
          have h1 := HE.out.h1'
          have h2 := HE.out.h2'
          have h3 := HE.out.h3'
          have h4 := HE.out.h4'
          have h5 := HE.out.h5'
          have hne := HE.out.eh
          have hnr := HE.out.er
          have hlt := HE.out.ev.lt
          have hlh := HE.out.has.lt
          replace HE := hide (HE.out.set4 (1125899906842624 - uu))
          have z0 := HE.out.e0
          have z1 := HE.out.e1
          have z2 := HE.out.e2
          have z3 := HE.out.e3
          have z4 := HE.out.e4
          have z5 := HE.out.e5
          have z6 := HE.out.e6
          have r0 := HE.out.r0
          have rf0 := HE.out.res.frozen 0
          have r1 := HE.out.r1
          have rf1 := HE.out.res.frozen 1
          have r2 := HE.out.r2
          have rf2 := HE.out.res.frozen 2
          have r3 := HE.out.r3
          have rf3 := HE.out.res.frozen 3
          have r4 := HE.out.r4
          have rf4 := HE.out.res.frozen 4
          have r5 := HE.out.r5
          have rf5 := HE.out.res.frozen 5
          have r6 := HE.out.r6
          have rf6 := HE.out.res.frozen 6
          have hlr := HE.out.res.lt
          go_wp2_with fail
          obtain ⟨⟨o0, o1, o2, o3, o4, o5, o6⟩, t1, t2⟩ := HE.out.fin rfl
          refine bodyPost_ret (v := evV (1 + x) (1 + ky) (1 + ch) tv (1125899906842624 - uu) 0 true) ?_ rfl ⟨isEv, t1, t2⟩
          revert o0 o1 o2 o3 o4 o5 o6
          clear t1 t2
          generalize World.setCell (World.setCell _ _ _) _ _ = W
          intro o0 o1 o2 o3 o4 o5 o6
          simp [results, Tryz.results77, go_sem, o0, o1, o2, o3, o4, o5, o6]
        · have hz' : (zz == 0) = false := beq_eq_false_iff_ne.2 hz
          have z0 := HE.out.e0
          have z1 := HE.out.e1
          have z2 := HE.out.e2
          have z3 := HE.out.e3
          have z4 := HE.out.e4
          have z5 := HE.out.e5
          have z6 := HE.out.e6
          have r0 := HE.out.r0
          have rf0 := HE.out.res.frozen 0
          have r1 := HE.out.r1
          have rf1 := HE.out.res.frozen 1
          have r2 := HE.out.r2
          have rf2 := HE.out.res.frozen 2
          have r3 := HE.out.r3
          have rf3 := HE.out.res.frozen 3
          have r4 := HE.out.r4
          have rf4 := HE.out.res.frozen 4
          have r5 := HE.out.r5
          have rf5 := HE.out.res.frozen 5
          have r6 := HE.out.r6
          have rf6 := HE.out.res.frozen 6
          have hlr := HE.out.res.lt
          go_wp2_with fail
          obtain ⟨⟨o0, o1, o2, o3, o4, o5, o6⟩, t1, t2⟩ := HE.out.fin rfl
          refine bodyPost_ret (v := evV (1 + x) (1 + ky) (1 + ch) tv (1 + am * 25) 0 true) ?_ rfl ⟨isEv, t1, t2⟩
          revert o0 o1 o2 o3 o4 o5 o6
          clear t1 t2
          generalize World.setCell (World.setCell _ _ _) _ _ = W
          intro o0 o1 o2 o3 o4 o5 o6
          simp [results, Tryz.results77, go_sem, o0, o1, o2, o3, o4, o5, o6]
      · have hy' : (ys == 0) = false := beq_eq_false_iff_ne.2 hy
        replace HE := hide (HE.out.set6 false)
        go_wp2_with fail
        refine (below_any 14 HE.out.dr (by omega) (by omega)).mono ?_
        rintro _ w8 ⟨⟨zz, zz0, zz1, rfl⟩, s8, g8⟩
        clear e6 ef6 h0 h1 h2 h3 h4 h5 hne hnr hlt hlh
        replace HE := hide (HE.out.step s8 g8)
        clear s8 g8
        have h0 := HE.out.h0'
        have h1 := HE.out.h1'
        have h2 := HE.out.h2'
        have h3 := HE.out.h3'
        have h4 := HE.out.h4'
        have h5 := HE.out.h5'
        have hne := HE.out.eh
        have hnr := HE.out.er
        have hlt := HE.out.ev.lt
        have hlh := HE.out.has.lt
        by_cases hz : zz = 0
        · subst hz
          go_wp2_with fail
          refine (below_any 2 HE.out.dr (by omega) (by omega)).mono ?_
          rintro _ w9 ⟨⟨uu, uu0, uu1, rfl⟩, s9, g9⟩
          clear h0 h1 h2 h3 h4 h5 hne hnr hlt hlh
          replace HE := hide (HE.out.step s9 g9)
          clear s9 g9
          have e4 := HE.out.e4
          have ef4 := HE.out.ev.frozen 4
          have h0 := HE.out.h0'
          have h1 := HE.out.h1'
          have h2 := HE.out.h2'
          have h3 := HE.out.h3'
          have h4 := HE.out.h4'
          have h5 := HE.out.h5'
          have hne := HE.out.eh
          have hnr := HE.out.er
          have hlt := HE.out.ev.lt
          have hlh := HE.out.has.lt
          replace HE := hide (HE.out.set4 (1125899906842624 - uu))
          have z0 := HE.out.e0
          have z1 := HE.out.e1
          have z2 := HE.out.e2
          have z3 := HE.out.e3
          have z4 := HE.out.e4
          have z5 := HE.out.e5
          have z6 := HE.out.e6
          have r0 := HE.out.r0
          have rf0 := HE.out.res.frozen 0
          have r1 := HE.out.r1
          have rf1 := HE.out.res.frozen 1
          have r2 := HE.out.r2
          have rf2 := HE.out.res.frozen 2
          have r3 := HE.out.r3
          have rf3 := HE.out.res.frozen 3
          have r4 := HE.out.r4
          have rf4 := HE.out.res.frozen 4
          have r5 := HE.out.r5
          have rf5 := HE.out.res.frozen 5
          have r6 := HE.out.r6
          have rf6 := HE.out.res.frozen 6
          have hlr := HE.out.res.lt
          go_wp2_with fail
          obtain ⟨⟨o0, o1, o2, o3, o4, o5, o6⟩, t1, t2⟩ := HE.out.fin rfl
          refine bodyPost_ret (v := evV (1 + x) (1 + ky) (1 + ch) tv (1125899906842624 - uu) 0 false) ?_ rfl ⟨isEv, t1, t2⟩
          revert o0 o1 o2 o3 o4 o5 o6
          clear t1 t2
          generalize World.setCell (World.setCell _ _ _) _ _ = W
          intro o0 o1 o2 o3 o4 o5 o6
          simp [results, Tryz.results77, go_sem, o0, o1, o2, o3, o4, o5, o6]
        · have hz' : (zz == 0) = false := beq_eq_false_iff_ne.2 hz
          have z0 := HE.out.e0
          have z1 := HE.out.e1
          have z2 := HE.out.e2
          have z3 := HE.out.e3
          have z4 := HE.out.e4
          have z5 := HE.out.e5
          have z6 := HE.out.e6
          have r0 := HE.out.r0
          have rf0 := HE.out.res.frozen 0
          have r1 := HE.out.r1
          have rf1 := HE.out.res.frozen 1
          have r2 := HE.out.r2
          have rf2 := HE.out.res.frozen 2
          have r3 := HE.out.r3
          have rf3 := HE.out.res.frozen 3
          have r4 := HE.out.r4
          have rf4 := HE.out.res.frozen 4
          have r5 := HE.out.r5
          have rf5 := HE.out.res.frozen 5
          have r6 := HE.out.r6
          have rf6 := HE.out.res.frozen 6
          have hlr := HE.out.res.lt
          go_wp2_with fail
          obtain ⟨⟨o0, o1, o2, o3, o4, o5, o6⟩, t1, t2⟩ := HE.out.fin rfl
          refine bodyPost_ret (v := evV (1 + x) (1 + ky) (1 + ch) tv (1 + am * 25) 0 false) ?_ rfl ⟨isEv, t1, t2⟩
          revert o0 o1 o2 o3 o4 o5 o6
          clear t1 t2
          generalize World.setCell (World.setCell _ _ _) _ _ = W
          intro o0 o1 o2 o3 o4 o5 o6
          simp [results, Tryz.results77, go_sem, o0, o1, o2, o3, o4, o5, o6]
  · refine (hh _).mono ?_
    rintro _ w2 ⟨rfl, hw2⟩
    have HE : Hid (EvSt w B0 B a len cap w.heap.size w1.heap.size (w1.heap.size + 1) (1 + x) 0 0 0 0 0 false true true true true true false w2) := by
      have g : w1.grownBy w2 none := by rw [hw2]; exact grown_alloc (grown_alloc (grown_refl w1 none) _) _
      have hz1 := HG1.out.size
      have r1 := (World.rowIs_alloc w1 (evCells (1 + x) 0 0 0 0 0 false) 28 _ (ev_row (1 + x) 0 0 0 0 0 false)).alloc (.cells #[.bool true, .bool true, .bool true, .bool true, .bool true, .bool false] 4)
      have r2 := World.rowIs_alloc (w1.alloc (.cells (evCells (1 + x) 0 0 0 0 0 false) 28)) #[.bool true, .bool true, .bool true, .bool true, .bool true, .bool false] 4 _ (has_rowD true true true true true false)
      rw [← hw2] at r1 r2
      rw [World.size_alloc] at r2
      exact ⟨r1, r2, grown_row g (by simp) HR1.out, HS1.out.grown g (by simp) (by simp), HG1.out.trans ⟨g.os, g.tape, g.output, g.size, fun k hk _ => g.block k hk (by simp)⟩, by omega, by omega, by omega, by omega, by omega, Nat.le_refl _, hB, hB0⟩
    clear hw2 HR1 HS1 HG1 HT
    simp only [World.size_alloc]
    generalize w1.heap.size + 1 = Hb at *
    generalize w1.heap.size = Eb at *
    have h0 := HE.out.h0'
    have h1 := HE.out.h1'
    have h2 := HE.out.h2'
    have h3 := HE.out.h3'
    have h4 := HE.out.h4'
    have h5 := HE.out.h5'
    have hne := HE.out.eh
    have hnr := HE.out.er
    have hlt := HE.out.ev.lt
    have hlh := HE.out.has.lt
    go_wp2_with fail
    refine (below_any 6 HE.out.dr (by omega) (by omega)).mono ?_
    rintro _ w3 ⟨⟨ky, ky0, ky1, rfl⟩, s3, g3⟩
    clear h0 h1 h2 h3 h4 h5 hne hnr hlt hlh
    replace HE := hide (HE.out.step s3 g3)
    clear s3 g3
    have e1 := HE.out.e1
    have ef1 := HE.out.ev.frozen 1
    have h0 := HE.out.h0'
    have h1 := HE.out.h1'
    have h2 := HE.out.h2'
    have h3 := HE.out.h3'
    have h4 := HE.out.h4'
    have h5 := HE.out.h5'
    have hne := HE.out.eh
    have hnr := HE.out.er
    have hlt := HE.out.ev.lt
    have hlh := HE.out.has.lt
    replace HE := hide (HE.out.set1 (1 + ky))
    go_wp2_with fail
    refine (below_any 4 HE.out.dr (by omega) (by omega)).mono ?_
    rintro _ w4 ⟨⟨ch, ch0, ch1, rfl⟩, s4, g4⟩
    clear e1 ef1 h0 h1 h2 h3 h4 h5 hne hnr hlt hlh
    replace HE := hide (HE.out.step s4 g4)
    clear s4 g4
    have e2 := HE.out.e2
    have ef2 := HE.out.ev.frozen 2
    have h0 := HE.out.h0'
    have h1 := HE.out.h1'
    have h2 := HE.out.h2'
    have h3 := HE.out.h3'
    have h4 := HE.out.h4'
    have h5 := HE.out.h5'
    have hne := HE.out.eh
    have hnr := HE.out.er
    have hlt := HE.out.ev.lt
    have hlh := HE.out.has.lt
    replace HE := hide (HE.out.set2 (1 + ch))
    go_wp2_with fail
    have e0' := HE.out.e0
    have e2' := HE.out.e2
    have ef3' := HE.out.ev.frozen 3
    go_region_with (go_at_call 15; first | (refine (below_any 3 HE.out.dr (by omega) (by omega)).mono ?_; rintro _ w5 ⟨⟨tt, tt0, tt1, rfl⟩, s5, g5⟩; have HE5 := hide (HE.out.step s5 g5); have q2 := HE5.out.e2; have q3 := HE5.out.e3; have qf3 := HE5.out.ev.frozen 3; have ql := HE5.out.ev.lt; clear s5 g5) | (refine (below_any 3 HE.out.drew.dr (by omega) (by omega)).mono ?_; rintro _ w5 ⟨⟨tt, tt0, tt1, rfl⟩, s5, g5⟩; have HE5 := hide (HE.out.drew.step s5 g5); have q2 := HE5.out.e2; have q3 := HE5.out.e3; have qf3 := HE5.out.ev.frozen 3; have ql := HE5.out.ev.lt; clear s5 g5))
    all_goals
      generalize IntKind.i64.wrap (1 + (IntKind.i64.wrap (1 + ch + tt)).tmod 4) = tv
      generalize (IntKind.i64.wrap (1 + ch + tt)).tmod 4 = tv'
      generalize IntKind.i64.wrap (1 + ch + tt) = tv''
      clear HE e0' e2' ef3' q2 q3 qf3 ql
      clear e2 ef2 h0 h1 h2 h3 h4 h5 hne hnr hlt hlh
      have HE := hide (HE5.out.set3 tv)
      clear HE5
      have h0 := HE.out.h0'
      have h1 := HE.out.h1'
      have h2 := HE.out.h2'
      have h3 := HE.out.h3'
      have h4 := HE.out.h4'
      have h5 := HE.out.h5'
      have hne := HE.out.eh
      have hnr := HE.out.er
      have hlt := HE.out.ev.lt
      have hlh := HE.out.has.lt
      go_wp2_with fail
      refine (below_any 400 HE.out.dr (by omega) (by omega)).mono ?_
      rintro _ w6 ⟨⟨am, am0, am1, rfl⟩, s6, g6⟩
      clear h0 h1 h2 h3 h4 h5 hne hnr hlt hlh
      replace HE := hide (HE.out.step s6 g6)
      clear s6 g6
      have e4 := HE.out.e4
      have ef4 := HE.out.ev.frozen 4
      have h0 := HE.out.h0'
      have h1 := HE.out.h1'
      have h2 := HE.out.h2'
      have h3 := HE.out.h3'
      have h4 := HE.out.h4'
      have h5 := HE.out.h5'
      have hne := HE.out.eh
      have hnr := HE.out.er
      have hlt := HE.out.ev.lt
      have hlh := HE.out.has.lt
      replace HE := hide (HE.out.set4 (1 + am * 25))
      go_wp2_with fail
      refine (below_any 300 HE.out.dr (by omega) (by omega)).mono ?_
      rintro _ w7 ⟨⟨fe, fe0, fe1, rfl⟩, s7, g7⟩
      clear e4 ef4 h0 h1 h2 h3 h4 h5 hne hnr hlt hlh
      replace HE := hide (HE.out.step s7 g7)
      clear s7 g7
      have e5 := HE.out.e5
      have ef5 := HE.out.ev.frozen 5
      have h0 := HE.out.h0'
      have h1 := HE.out.h1'
      have h2 := HE.out.h2'
      have h3 := HE.out.h3'
      have h4 := HE.out.h4'
      have h5 := HE.out.h5'
      have hne := HE.out.eh
      have hnr := HE.out.er
      have hlt := HE.out.ev.lt
      have hlh := HE.out.has.lt
      replace HE := hide (HE.out.set5 (fe * 7))
      have e6 := HE.out.e6
      have ef6 := HE.out.ev.frozen 6
      replace HE := hide (HE.out.set6 false)
      go_wp2_with fail
      refine (below_any 14 HE.out.dr (by omega) (by omega)).mono ?_
      rintro _ w8 ⟨⟨zz, zz0, zz1, rfl⟩, s8, g8⟩
      clear e5 ef5 h0 h1 h2 h3 h4 h5 hne hnr hlt hlh e6 ef6
      replace HE := hide (HE.out.step s8 g8)
      clear s8 g8
      have h0 := HE.out.h0'
      have h1 := HE.out.h1'
      have h2 := HE.out.h2'
      have h3 := HE.out.h3'
      have h4 := HE.out.h4'
      have h5 := HE.out.h5'
      have hne := HE.out.eh
      have hnr := HE.out.er
      have hlt := HE.out.ev.lt
      have hlh := HE.out.has.lt
      by_cases hz : zz = 0
      · subst hz
        go_wp2_with fail
        refine (below_any 2 HE.out.dr (by omega) (by omega)).mono ?_
        rintro _ w9 ⟨⟨uu, uu0, uu1, rfl⟩, s9, g9⟩
        clear h0 h1 h2 h3 h4 h5 hne hnr hlt hlh
        replace HE := hide (HE.out.step s9 g9)
        clear s9 g9
        have e4 := HE.out.e4
        have ef4 := HE.out.ev.frozen 4
        have h0 := HE.out.h0'
        have h1 := HE.out.h1'
        have h2 := HE.out.h2'
        have h3 := HE.out.h3'
        have h4 := HE.out.h4'
        have h5 := HE.out.h5'
        have hne := HE.out.eh
        have hnr := HE.out.er
        have hlt := HE.out.ev.lt
        have hlh := HE.out.has.lt
        replace HE := hide (HE.out.set4 (1125899906842624 - uu))
        have z0 := HE.out.e0
        have z1 := HE.out.e1
        have z2 := HE.out.e2
        have z3 := HE.out.e3
        have z4 := HE.out.e4
        have z5 := HE.out.e5
        have z6 := HE.out.e6
        have r0 := HE.out.r0
        have rf0 := HE.out.res.frozen 0
        have r1 := HE.out.r1
        have rf1 := HE.out.res.frozen 1
        have r2 := HE.out.r2
        have rf2 := HE.out.res.frozen 2
        have r3 := HE.out.r3
        have rf3 := HE.out.res.frozen 3
        have r4 := HE.out.r4
        have rf4 := HE.out.res.frozen 4
        have r5 := HE.out.r5
        have rf5 := HE.out.res.frozen 5
        have r6 := HE.out.r6
        have rf6 := HE.out.res.frozen 6
        have hlr := HE.out.res.lt
        go_wp2_with fail
        obtain ⟨⟨o0, o1, o2, o3, o4, o5, o6⟩, t1, t2⟩ := HE.out.fin rfl
        refine bodyPost_ret (v := evV (1 + x) (1 + ky) (1 + ch) tv (1125899906842624 - uu) (fe * 7) false) ?_ rfl ⟨isEv, t1, t2⟩
        revert o0 o1 o2 o3 o4 o5 o6
        clear t1 t2
        generalize World.setCell (World.setCell _ _ _) _ _ = W
        intro o0 o1 o2 o3 o4 o5 o6
        simp [results, Tryz.results77, go_sem, o0, o1, o2, o3, o4, o5, o6]
      · have hz' : (zz == 0) = false := beq_eq_false_iff_ne.2 hz
        have z0 := HE.out.e0
        have z1 := HE.out.e1
        have z2 := HE.out.e2
        have z3 := HE.out.e3
        have z4 := HE.out.e4
        have z5 := HE.out.e5
        have z6 := HE.out.e6
        have r0 := HE.out.r0
        have rf0 := HE.out.res.frozen 0
        have r1 := HE.out.r1
        have rf1 := HE.out.res.frozen 1
        have r2 := HE.out.r2
        have rf2 := HE.out.res.frozen 2
        have r3 := HE.out.r3
        have rf3 := HE.out.res.frozen 3
        have r4 := HE.out.r4
        have rf4 := HE.out.res.frozen 4
        have r5 := HE.out.r5
        have rf5 := HE.out.res.frozen 5
        have r6 := HE.out.r6
        have rf6 := HE.out.res.frozen 6
        have hlr := HE.out.res.lt
        go_wp2_with fail
        obtain ⟨⟨o0, o1, o2, o3, o4, o5, o6⟩, t1, t2⟩ := HE.out.fin rfl
        refine bodyPost_ret (v := evV (1 + x) (1 + ky) (1 + ch) tv (1 + am * 25) (fe * 7) false) ?_ rfl ⟨isEv, t1, t2⟩
        revert o0 o1 o2 o3 o4 o5 o6
        clear t1 t2
        generalize World.setCell (World.setCell _ _ _) _ _ = W
        intro o0 o1 o2 o3 o4 o5 o6
        simp [results, Tryz.results77, go_sem, o0, o1, o2, o3, o4, o5, o6]
  · refine (hh _).mono ?_
    rintro _ w2 ⟨rfl, hw2⟩
    have HE : Hid (EvSt w B0 B a len cap w.heap.size w1.heap.size (w1.heap.size + 1) (1 + x) 0 0 0 0 0 false false false false false false false w2) := by
      have g : w1.grownBy w2 none := by rw [hw2]; exact grown_alloc (grown_alloc (grown_refl w1 none) _) _
      have hz1 := HG1.out.size
      have r1 := (World.rowIs_alloc w1 (evCells (1 + x) 0 0 0 0 0 false) 28 _ (ev_row (1 + x) 0 0 0 0 0 false)).alloc (.cells #[.bool false, .bool false, .bool false, .bool false, .bool false, .bool false] 4)
      have r2 := World.rowIs_alloc (w1.alloc (.cells (evCells (1 + x) 0 0 0 0 0 false) 28)) #[.bool false, .bool false, .bool false, .bool false, .bool false, .bool false] 4 _ (has_rowD false false false false false false)
      rw [← hw2] at r1 r2
      rw [World.size_alloc] at r2
      exact ⟨r1, r2, grown_row g (by simp) HR1.out, HS1.out.grown g (by simp) (by simp), HG1.out.trans ⟨g.os, g.tape, g.output, g.size, fun k hk _ => g.block k hk (by simp)⟩, by omega, by omega, by omega, by omega, by omega, Nat.le_refl _, hB, hB0⟩
    clear hw2 HR1 HS1 HG1 HT
    simp only [World.size_alloc]
    generalize w1.heap.size + 1 = Hb at *
    generalize w1.heap.size = Eb at *
    have h0 := HE.out.h0'
    have h1 := HE.out.h1'
    have h2 := HE.out.h2'
    have h3 := HE.out.h3'
    have h4 := HE.out.h4'
    have h5 := HE.out.h5'
    have hne := HE.out.eh
    have hnr := HE.out.er
    have hlt := HE.out.ev.lt
    have hlh := HE.out.has.lt
    have e6 := HE.out.e6
    have ef6 := HE.out.ev.frozen 6
    replace HE := hide (HE.out.set6 false)
    go_wp2_with fail
    refine (below_any 14 HE.out.dr (by omega) (by omega)).mono ?_
    rintro _ w3 ⟨⟨zz, zz0, zz1, rfl⟩, s3, g3⟩
    clear h0 h1 h2 h3 h4 h5 hne hnr hlt hlh e6 ef6
    replace HE := hide (HE.out.step s3 g3)
    clear s3 g3
    have h0 := HE.out.h0'
    have h1 := HE.out.h1'
    have h2 := HE.out.h2'
    have h3 := HE.out.h3'
    have h4 := HE.out.h4'
    have h5 := HE.out.h5'
    have hne := HE.out.eh
    have hnr := HE.out.er
    have hlt := HE.out.ev.lt
    have hlh := HE.out.has.lt
    by_cases hz : zz = 0
    · subst hz
      have z0 := HE.out.e0
      have z1 := HE.out.e1
      have z2 := HE.out.e2
      have z3 := HE.out.e3
      have z4 := HE.out.e4
      have z5 := HE.out.e5
      have z6 := HE.out.e6
      have r0 := HE.out.r0
      have rf0 := HE.out.res.frozen 0
      have r1 := HE.out.r1
      have rf1 := HE.out.res.frozen 1
      have r2 := HE.out.r2
      have rf2 := HE.out.res.frozen 2
      have r3 := HE.out.r3
      have rf3 := HE.out.res.frozen 3
      have r4 := HE.out.r4
      have rf4 := HE.out.res.frozen 4
      have r5 := HE.out.r5
      have rf5 := HE.out.res.frozen 5
      have r6 := HE.out.r6
      have rf6 := HE.out.res.frozen 6
      have hlr := HE.out.res.lt
      go_wp2_with fail
      obtain ⟨⟨o0, o1, o2, o3, o4, o5, o6⟩, t1, t2⟩ := HE.out.fin rfl
      refine bodyPost_ret (v := evV (1 + x) 0 0 0 0 0 false) ?_ rfl ⟨isEv, t1, t2⟩
      revert o0 o1 o2 o3 o4 o5 o6
      clear t1 t2
      generalize World.setCell (World.setCell _ _ _) _ _ = W
      intro o0 o1 o2 o3 o4 o5 o6
      simp [results, Tryz.results77, go_sem, o0, o1, o2, o3, o4, o5, o6]
    · have hz' : (zz == 0) = false := beq_eq_false_iff_ne.2 hz
      have z0 := HE.out.e0
      have z1 := HE.out.e1
      have z2 := HE.out.e2
      have z3 := HE.out.e3
      have z4 := HE.out.e4
      have z5 := HE.out.e5
      have z6 := HE.out.e6
      have r0 := HE.out.r0
      have rf0 := HE.out.res.frozen 0
      have r1 := HE.out.r1
      have rf1 := HE.out.res.frozen 1
      have r2 := HE.out.r2
      have rf2 := HE.out.res.frozen 2
      have r3 := HE.out.r3
      have rf3 := HE.out.res.frozen 3
      have r4 := HE.out.r4
      have rf4 := HE.out.res.frozen 4
      have r5 := HE.out.r5
      have rf5 := HE.out.res.frozen 5
      have r6 := HE.out.r6
      have rf6 := HE.out.res.frozen 6
      have hlr := HE.out.res.lt
      go_wp2_with fail
      obtain ⟨⟨o0, o1, o2, o3, o4, o5, o6⟩, t1, t2⟩ := HE.out.fin rfl
      refine bodyPost_ret (v := evV (1 + x) 0 0 0 0 0 false) ?_ rfl ⟨isEv, t1, t2⟩
      revert o0 o1 o2 o3 o4 o5 o6
      clear t1 t2
      generalize World.setCell (World.setCell _ _ _) _ _ = W
      intro o0 o1 o2 o3 o4 o5 o6
      simp [results, Tryz.results77, go_sem, o0, o1, o2, o3, o4, o5, o6]
  · refine (hh _).mono ?_
    rintro _ w2 ⟨rfl, hw2⟩
    have HE : Hid (EvSt w B0 B a len cap w.heap.size w1.heap.size (w1.heap.size + 1) (1 + x) 0 0 0 0 0 false true false false false false false w2) := by
      have g : w1.grownBy w2 none := by rw [hw2]; exact grown_alloc (grown_alloc (grown_refl w1 none) _) _
      have hz1 := HG1.out.size
      have r1 := (World.rowIs_alloc w1 (evCells (1 + x) 0 0 0 0 0 false) 28 _ (ev_row (1 + x) 0 0 0 0 0 false)).alloc (.cells #[.bool true, .bool false, .bool false, .bool false, .bool false, .bool false] 4)
      have r2 := World.rowIs_alloc (w1.alloc (.cells (evCells (1 + x) 0 0 0 0 0 false) 28)) #[.bool true, .bool false, .bool false, .bool false, .bool false, .bool false] 4 _ (has_rowD true false false false false false)
      rw [← hw2] at r1 r2
      rw [World.size_alloc] at r2
      exact ⟨r1, r2, grown_row g (by simp) HR1.out, HS1.out.grown g (by simp) (by simp), HG1.out.trans ⟨g.os, g.tape, g.output, g.size, fun k hk _ => g.block k hk (by simp)⟩, by omega, by omega, by omega, by omega, by omega, Nat.le_refl _, hB, hB0⟩
    clear hw2 HR1 HS1 HG1 HT
    simp only [World.size_alloc]
    generalize w1.heap.size + 1 = Hb at *
    generalize w1.heap.size = Eb at *
    have h0 := HE.out.h0'
    have h1 := HE.out.h1'
    have h2 := HE.out.h2'
    have h3 := HE.out.h3'
    have h4 := HE.out.h4'
    have h5 := HE.out.h5'
    have hne := HE.out.eh
    have hnr := HE.out.er
    have hlt := HE.out.ev.lt
    have hlh := HE.out.has.lt
    go_wp2_with fail
    refine (below_any 6 HE.out.dr (by omega) (by omega)).mono ?_
    rintro _ w3 ⟨⟨ky, ky0, ky1, rfl⟩, s3, g3⟩
    clear h0 h1 h2 h3 h4 h5 hne hnr hlt hlh
    replace HE := hide (HE.out.step s3 g3)
    clear s3 g3
    have e1 := HE.out.e1
    have ef1 := HE.out.ev.frozen 1
    have h0 := HE.out.h0'
    have h1 := HE.out.h1'
    have h2 := HE.out.h2'
    have h3 := HE.out.h3'
    have h4 := HE.out.h4'
    have h5 := HE.out.h5'
    have hne := HE.out.eh
    have hnr := HE.out.er
    have hlt := HE.out.ev.lt
    have hlh := HE.out.has.lt
    replace HE := hide (HE.out.set1 (1 + ky))
    have e6 := HE.out.e6
    have ef6 := HE.out.ev.frozen 6
    replace HE := hide (HE.out.set6 false)
    go_wp2_with fail
    refine (below_any 14 HE.out.dr (by omega) (by omega)).mono ?_
    rintro _ w4 ⟨⟨zz, zz0, zz1, rfl⟩, s4, g4⟩
    clear e1 ef1 h0 h1 h2 h3 h4 h5 hne hnr hlt hlh e6 ef6
    replace HE := hide (HE.out.step s4 g4)
    clear s4 g4
    have h0 := HE.out.h0'
    have h1 := HE.out.h1'
    have h2 := HE.out.h2'
    have h3 := HE.out.h3'
    have h4 := HE.out.h4'
    have h5 := HE.out.h5'
    have hne := HE.out.eh
    have hnr := HE.out.er
    have hlt := HE.out.ev.lt
    have hlh := HE.out.has.lt
    by_cases hz : zz = 0
    · subst hz
      have z0 := HE.out.e0
      have z1 := HE.out.e1
      have z2 := HE.out.e2
      have z3 := HE.out.e3
      have z4 := HE.out.e4
      have z5 := HE.out.e5
      have z6 := HE.out.e6
      have r0 := HE.out.r0
      have rf0 := HE.out.res.frozen 0
      have r1 := HE.out.r1
      have rf1 := HE.out.res.frozen 1
      have r2 := HE.out.r2
      have rf2 := HE.out.res.frozen 2
      have r3 := HE.out.r3
      have rf3 := HE.out.res.frozen 3
      have r4 := HE.out.r4
      have rf4 := HE.out.res.frozen 4
      have r5 := HE.out.r5
      have rf5 := HE.out.res.frozen 5
      have r6 := HE.out.r6
      have rf6 := HE.out.res.frozen 6
      have hlr := HE.out.res.lt
      go_wp2_with fail
      obtain ⟨⟨o0, o1, o2, o3, o4, o5, o6⟩, t1, t2⟩ := HE.out.fin rfl
      refine bodyPost_ret (v := evV (1 + x) (1 + ky) 0 0 0 0 false) ?_ rfl ⟨isEv, t1, t2⟩
      revert o0 o1 o2 o3 o4 o5 o6
      clear t1 t2
      generalize World.setCell (World.setCell _ _ _) _ _ = W
      intro o0 o1 o2 o3 o4 o5 o6
      simp [results, Tryz.results77, go_sem, o0, o1, o2, o3, o4, o5, o6]
    · have hz' : (zz == 0) = false := beq_eq_false_iff_ne.2 hz
      have z0 := HE.out.e0
      have z1 := HE.out.e1
      have z2 := HE.out.e2
      have z3 := HE.out.e3
      have z4 := HE.out.e4
      have z5 := HE.out.e5
      have z6 := HE.out.e6
      have r0 := HE.out.r0
      have rf0 := HE.out.res.frozen 0
      have r1 := HE.out.r1
      have rf1 := HE.out.res.frozen 1
      have r2 := HE.out.r2
      have rf2 := HE.out.res.frozen 2
      have r3 := HE.out.r3
      have rf3 := HE.out.res.frozen 3
      have r4 := HE.out.r4
      have rf4 := HE.out.res.frozen 4
      have r5 := HE.out.r5
      have rf5 := HE.out.res.frozen 5
      have r6 := HE.out.r6
      have rf6 := HE.out.res.frozen 6
      have hlr := HE.out.res.lt
      go_wp2_with fail
      obtain ⟨⟨o0, o1, o2, o3, o4, o5, o6⟩, t1, t2⟩ := HE.out.fin rfl
      refine bodyPost_ret (v := evV (1 + x) (1 + ky) 0 0 0 0 false) ?_ rfl ⟨isEv, t1, t2⟩
      revert o0 o1 o2 o3 o4 o5 o6
      clear t1 t2
      generalize World.setCell (World.setCell _ _ _) _ _ = W
      intro o0 o1 o2 o3 o4 o5 o6
      simp [results, Tryz.results77, go_sem, o0, o1, o2, o3, o4, o5, o6]
end Go.Proofs.YtkgpoghoilffhaaGreatDoor
