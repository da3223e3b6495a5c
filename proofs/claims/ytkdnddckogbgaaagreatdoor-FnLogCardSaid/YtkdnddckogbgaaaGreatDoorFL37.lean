/- Texts of the verifier, joined: DrAd, LgB, Sent. -/
import Derived.Test.YtkdnddckogbgaaaGreatDoorFL36
import Derived.Test.YtkdnddckogbgaaaGreatDoorFL25
import Derived.Test.YtkdnddckogbgaaaGreatDoorFL1
namespace Go.Proofs.YtkdnddckogbgaaaGreatDoor
open Go.RowKit Go.Deep
set_option linter.unusedVariables false
set_option linter.unusedSimpArgs false
set_option maxRecDepth 10000
/-- A log of the call's own, and an event. -/
def IsAdd (w w' : World) (e : Ending) : Prop := ∃ v M nx ep k y c t m f b, e = .returned (.tuple #[v, evV k y c t m f b]) ∧ LogRes w w' v M nx ep
theorem add_done {w W : World} {Lb : Nat} {ca : Option Addr} {cc : Nat} {cs : List Bs} {da : Option Addr} {dc : Nat} {ds : List Wr} {nx ep : Int} {k y c t m f : Int} {b : Bool} {f1 f2 : Nat → Value} (hD : LoSt (w.heap.size + 3) Lb ca cc cs da dc ds nx ep W) (hK : Keeps w W) (hR : W.rowIs w.heap.size 28 4 f1) (hE : W.rowIs (w.heap.size + 1) 30 7 f2) {V : World} (hV : V = (((((((((((W.setCell ⟨w.heap.size, 0, none⟩ (.slice ca cs.length cc)).setCell ⟨w.heap.size, 1, none⟩ (.slice da ds.length dc)).setCell ⟨w.heap.size, 2, none⟩ (.int .i64 nx)).setCell ⟨w.heap.size, 3, none⟩ (.int .i64 ep)).setCell ⟨w.heap.size + 1, 0, none⟩ (.int .i64 k)).setCell ⟨w.heap.size + 1, 1, none⟩ (.int .i64 y)).setCell ⟨w.heap.size + 1, 2, none⟩ (.int .i64 c)).setCell ⟨w.heap.size + 1, 3, none⟩ (.int .i64 t)).setCell ⟨w.heap.size + 1, 4, none⟩ (.int .i64 m)).setCell ⟨w.heap.size + 1, 5, none⟩ (.int .i64 f)).setCell ⟨w.heap.size + 1, 6, none⟩ (.bool b))) :
    (V.cell? ⟨w.heap.size, 0, none⟩ = some (.slice ca cs.length cc) ∧ V.cell? ⟨w.heap.size, 1, none⟩ = some (.slice da ds.length dc) ∧ V.cell? ⟨w.heap.size, 2, none⟩ = some (.int .i64 nx) ∧ V.cell? ⟨w.heap.size, 3, none⟩ = some (.int .i64 ep) ∧ V.cell? ⟨w.heap.size + 1, 0, none⟩ = some (.int .i64 k) ∧ V.cell? ⟨w.heap.size + 1, 1, none⟩ = some (.int .i64 y) ∧ V.cell? ⟨w.heap.size + 1, 2, none⟩ = some (.int .i64 c) ∧ V.cell? ⟨w.heap.size + 1, 3, none⟩ = some (.int .i64 t) ∧ V.cell? ⟨w.heap.size + 1, 4, none⟩ = some (.int .i64 m) ∧ V.cell? ⟨w.heap.size + 1, 5, none⟩ = some (.int .i64 f) ∧ V.cell? ⟨w.heap.size + 1, 6, none⟩ = some (.bool b)) ∧ IsAdd w V (.returned (.tuple #[logV ca cs.length cc da ds.length dc nx ep, evV k y c t m f b])) ∧ Keeps w V := by
  have r1 := ((((((((row_four hR (.slice ca cs.length cc) (.slice da ds.length dc) (.int .i64 nx) (.int .i64 ep)).setOther (a := ⟨w.heap.size + 1, 0, none⟩) (by simp) (.int .i64 k)).setOther (a := ⟨w.heap.size + 1, 1, none⟩) (by simp) (.int .i64 y)).setOther (a := ⟨w.heap.size + 1, 2, none⟩) (by simp) (.int .i64 c)).setOther (a := ⟨w.heap.size + 1, 3, none⟩) (by simp) (.int .i64 t)).setOther (a := ⟨w.heap.size + 1, 4, none⟩) (by simp) (.int .i64 m)).setOther (a := ⟨w.heap.size + 1, 5, none⟩) (by simp) (.int .i64 f)).setOther (a := ⟨w.heap.size + 1, 6, none⟩) (by simp) (.bool b))
  have r2 := (((((((((((hE.setOther (a := ⟨w.heap.size, 0, none⟩) (by simp) (.slice ca cs.length cc)).setOther (a := ⟨w.heap.size, 1, none⟩) (by simp) (.slice da ds.length dc)).setOther (a := ⟨w.heap.size, 2, none⟩) (by simp) (.int .i64 nx)).setOther (a := ⟨w.heap.size, 3, none⟩) (by simp) (.int .i64 ep)).set 0 (.int .i64 k)).set 1 (.int .i64 y)).set 2 (.int .i64 c)).set 3 (.int .i64 t)).set 4 (.int .i64 m)).set 5 (.int .i64 f)).set 6 (.bool b)).congr (g := evRow k y c t m f b) (ev_congr rfl rfl rfl rfl rfl rfl rfl)
  have ht : Turn [w.heap.size, w.heap.size + 1] W ((((((((((((W.setCell ⟨w.heap.size, 0, none⟩ (.slice ca cs.length cc)).setCell ⟨w.heap.size, 1, none⟩ (.slice da ds.length dc)).setCell ⟨w.heap.size, 2, none⟩ (.int .i64 nx)).setCell ⟨w.heap.size, 3, none⟩ (.int .i64 ep)).setCell ⟨w.heap.size + 1, 0, none⟩ (.int .i64 k)).setCell ⟨w.heap.size + 1, 1, none⟩ (.int .i64 y)).setCell ⟨w.heap.size + 1, 2, none⟩ (.int .i64 c)).setCell ⟨w.heap.size + 1, 3, none⟩ (.int .i64 t)).setCell ⟨w.heap.size + 1, 4, none⟩ (.int .i64 m)).setCell ⟨w.heap.size + 1, 5, none⟩ (.int .i64 f)).setCell ⟨w.heap.size + 1, 6, none⟩ (.bool b))) := (((((((((((Turn.set (by simp) _).trans' (Turn.set (by simp) _)).trans' (Turn.set (by simp) _)).trans' (Turn.set (by simp) _)).trans' (Turn.set (by simp) _)).trans' (Turn.set (by simp) _)).trans' (Turn.set (by simp) _)).trans' (Turn.set (by simp) _)).trans' (Turn.set (by simp) _)).trans' (Turn.set (by simp) _)).trans' (Turn.set (by simp) _))
  have hk : Keeps w ((((((((((((W.setCell ⟨w.heap.size, 0, none⟩ (.slice ca cs.length cc)).setCell ⟨w.heap.size, 1, none⟩ (.slice da ds.length dc)).setCell ⟨w.heap.size, 2, none⟩ (.int .i64 nx)).setCell ⟨w.heap.size, 3, none⟩ (.int .i64 ep)).setCell ⟨w.heap.size + 1, 0, none⟩ (.int .i64 k)).setCell ⟨w.heap.size + 1, 1, none⟩ (.int .i64 y)).setCell ⟨w.heap.size + 1, 2, none⟩ (.int .i64 c)).setCell ⟨w.heap.size + 1, 3, none⟩ (.int .i64 t)).setCell ⟨w.heap.size + 1, 4, none⟩ (.int .i64 m)).setCell ⟨w.heap.size + 1, 5, none⟩ (.int .i64 f)).setCell ⟨w.heap.size + 1, 6, none⟩ (.bool b))) := (((((((((((hK.setCell (p := ⟨w.heap.size, 0, none⟩) (Nat.le_refl _) _).setCell (p := ⟨w.heap.size, 1, none⟩) (Nat.le_refl _) _).setCell (p := ⟨w.heap.size, 2, none⟩) (Nat.le_refl _) _).setCell (p := ⟨w.heap.size, 3, none⟩) (Nat.le_refl _) _).setCell (p := ⟨w.heap.size + 1, 0, none⟩) (Nat.le_succ _) _).setCell (p := ⟨w.heap.size + 1, 1, none⟩) (Nat.le_succ _) _).setCell (p := ⟨w.heap.size + 1, 2, none⟩) (Nat.le_succ _) _).setCell (p := ⟨w.heap.size + 1, 3, none⟩) (Nat.le_succ _) _).setCell (p := ⟨w.heap.size + 1, 4, none⟩) (Nat.le_succ _) _).setCell (p := ⟨w.heap.size + 1, 5, none⟩) (Nat.le_succ _) _).setCell (p := ⟨w.heap.size + 1, 6, none⟩) (Nat.le_succ _) _)
  rw [← hV] at r1 r2 ht hk
  exact ⟨⟨r1.cell (i := 0) (by decide), r1.cell (i := 1) (by decide), r1.cell (i := 2) (by decide), r1.cell (i := 3) (by decide), r2.cell (i := 0) (by decide), r2.cell (i := 1) (by decide), r2.cell (i := 2) (by decide), r2.cell (i := 3) (by decide), r2.cell (i := 4) (by decide), r2.cell (i := 5) (by decide), r2.cell (i := 6) (by decide)⟩, ⟨_, dat cs ds, nx, ep, k, y, c, t, m, f, b, rfl, ca, cc, cs, da, dc, ds, rfl, rfl, hD.ok, hD.na, hD.nd, ⟨hD.own.turn ht (fun x hx hx' => by have h1 := (hD.far x hx).1; have h2 : x = w.heap.size ∨ x = w.heap.size + 1 := (by simpa using hx'); omega), fun x hx => by have := (hD.far x hx).1; omega⟩⟩, hk⟩
set_option maxRecDepth 100000 in
set_option maxHeartbeats 8000000 in
theorem draw_add (a : Option Addr) (len cap : Nat) (w : World) (hr : RowAt w.heap.size w a len) (hl : len ≤ 1048576) :
    Calls Tryz.prog 6 #[.slice a len cap] w fun e w' => IsAdd w w' e ∧ Keeps w w' := by
  have HK0 := hide (Keeps.alloc (Keeps.alloc (Keeps.refl w) (.cells #[.slice none 0 0, .slice none 0 0, .int .i64 0, .int .i64 0] 28)) (.cells (evCells 0 0 0 0 0 0 false) 30))
  have HZ0 : Hid (((w.alloc (.cells #[.slice none 0 0, .slice none 0 0, .int .i64 0, .int .i64 0] 28)).alloc (.cells (evCells 0 0 0 0 0 0 false) 30)).heap.size = w.heap.size + 2) := by show _ = _; rw [size_alloc1, size_alloc1]
  have HR0 := hide ((World.rowIs_alloc w #[.slice none 0 0, .slice none 0 0, .int .i64 0, .int .i64 0] 28 _ (four_row _ _ _ _)).alloc (.cells (evCells 0 0 0 0 0 0 false) 30))
  have HV0 := hide (World.rowIs_alloc (w.alloc (.cells #[.slice none 0 0, .slice none 0 0, .int .i64 0, .int .i64 0] 28)) (evCells 0 0 0 0 0 0 false) 30 _ (ev_row 0 0 0 0 0 0 false))
  rw [size_alloc1] at HV0
  have HRw := hide (RowAt.up (hr.below HK0.out) HK0.out.size)
  clear hr
  go_enter Tryz.func6, Tryz.ntmps6
  go_wp2_with fail
  refine (new_any a len cap _ HRw.out hl).mono ?_
  rintro x w1 ⟨he, s1, hk1⟩
  rw [HZ0.out] at he s1
  have he1 : x = .returned (.pointer (some ⟨w.heap.size + 2, 0, none⟩)) := he
  clear he
  subst he1
  have HS1 := hide s1
  have HK1 := hide (HK0.out.trans hk1)
  have HR1 := hide (Keeps.row hk1 HR0.out)
  have HV1 := hide (Keeps.row hk1 HV0.out)
  have hz1 := s1.lt
  clear s1 hk1 HK0 HR0 HRw HV0 HZ0
  go_wp2_with fail
  refine (anylog_any HS1.out).mono ?_
  rintro _ w2 ⟨⟨v, M, nx, ep, rfl, hr⟩, s2, g2⟩
  obtain ⟨ca, cc, cs, da, dc, ds, rfl, he, hok, hna, hnd, hb⟩ := hr
  have hz2 := g2.size
  have HA := hide (Keeps.alloc (Keeps.refl w2) (.cells #[.slice ca cs.length cc, .slice da ds.length dc, .int .i64 nx, .int .i64 ep] 28))
  have HD : Hid (LoSt (w.heap.size + 3) w2.heap.size ca cc cs da dc ds nx ep (w2.alloc (.cells #[.slice ca cs.length cc, .slice da ds.length dc, .int .i64 nx, .int .i64 ep] 28))) :=
    ⟨World.rowIs_alloc w2 #[.slice ca cs.length cc, .slice da ds.length dc, .int .i64 nx, .int .i64 ep] 28 _ (four_row _ _ _ _), hb.toOwn.kept HA.out, fun b hb' => by have h1 := hb.new b hb'; have h2 := hb.mem.lt b hb'; omega, by omega, hok, hna, hnd⟩
  have HS2 := hide (s2.grown (row := none) (HA.out.grows none) (by simp) (by simp))
  have HK2 := hide ((keeps_of HK1.out g2 (by intro r hr; injection hr with hr; omega)).trans HA.out)
  have HR2 := hide (Keeps.row HA.out (grown_row g2 (by intro e; injection e with e; omega) HR1.out))
  have HV2 := hide (Keeps.row HA.out (grown_row g2 (by intro e; injection e with e; omega) HV1.out))
  clear s2 g2 hb hok hna hnd he HS1 HK1 HR1 HV1 HA
  go_wp2_with fail
  generalize w2.alloc (.cells #[.slice ca cs.length cc, .slice da ds.length dc, .int .i64 nx, .int .i64 ep] 28) = W2 at *
  generalize w2.heap.size = Lb at *
  have q0 := HD.out.row.cell (i := 0) (by decide)
  have q1 := HD.out.row.cell (i := 1) (by decide)
  have q2 := HD.out.row.cell (i := 2) (by decide)
  have q3 := HD.out.row.cell (i := 3) (by decide)
  have ql := HD.out.row.lt
  simp [logRow] at q0 q1 q2 q3
  go_region_with (go_at_call 32
                  (first
                   | (refine (anyevent_any (HS2.out.grown (row := none) (((Keeps.refl W2).drew).grows none) (by simp) (by simp))).mono ?_
                      rintro _ w3 ⟨⟨ek, ey, ec, et, em, ef, eb, rfl⟩, s3, g3⟩
                      have HD3 := hide ((HD.out.kept ((Keeps.refl W2).drew)).grown g3 (by omega))
                      have HK3 := hide (keeps_of (HK2.out.trans ((Keeps.refl W2).drew)) g3 (by intro r hr; injection hr with hr; omega))
                      have HR3 := hide (grown_row g3 (by intro e; injection e with e; omega) (Keeps.row ((Keeps.refl W2).drew) HR2.out))
                      have HV3 := hide (grown_row g3 (by intro e; injection e with e; omega) (Keeps.row ((Keeps.refl W2).drew) HV2.out))
                      clear s3 g3)
                   | (refine (anyevent_any (HS2.out.grown (row := none) ((Keeps.refl W2).grows none) (by simp) (by simp))).mono ?_
                      rintro _ w3 ⟨⟨ek, ey, ec, et, em, ef, eb, rfl⟩, s3, g3⟩
                      have HD3 := hide ((HD.out.kept (Keeps.refl W2)).grown g3 (by omega))
                      have HK3 := hide (keeps_of (HK2.out.trans (Keeps.refl W2)) g3 (by intro r hr; injection hr with hr; omega))
                      have HR3 := hide (grown_row g3 (by intro e; injection e with e; omega) (Keeps.row (Keeps.refl W2) HR2.out))
                      have HV3 := hide (grown_row g3 (by intro e; injection e with e; omega) (Keeps.row (Keeps.refl W2) HV2.out))
                      clear s3 g3))
                  have q0 := HD3.out.row.cell (i := 0) (by decide)
                  have q1 := HD3.out.row.cell (i := 1) (by decide)
                  have q2 := HD3.out.row.cell (i := 2) (by decide)
                  have q3 := HD3.out.row.cell (i := 3) (by decide)
                  have r0 := HR3.out.cell (i := 0) (by decide)
                  have rf0 := HR3.out.frozen 0
                  have r1 := HR3.out.cell (i := 1) (by decide)
                  have rf1 := HR3.out.frozen 1
                  have r2 := HR3.out.cell (i := 2) (by decide)
                  have rf2 := HR3.out.frozen 2
                  have r3 := HR3.out.cell (i := 3) (by decide)
                  have rf3 := HR3.out.frozen 3
                  have e0 := HV3.out.cell (i := 0) (by decide)
                  have ef0 := HV3.out.frozen 0
                  have e1 := HV3.out.cell (i := 1) (by decide)
                  have ef1 := HV3.out.frozen 1
                  have e2 := HV3.out.cell (i := 2) (by decide)
                  have ef2 := HV3.out.frozen 2
                  have e3 := HV3.out.cell (i := 3) (by decide)
                  have ef3 := HV3.out.frozen 3
                  have e4 := HV3.out.cell (i := 4) (by decide)
                  have ef4 := HV3.out.frozen 4
                  have e5 := HV3.out.cell (i := 5) (by decide)
                  have ef5 := HV3.out.frozen 5
                  have e6 := HV3.out.cell (i := 6) (by decide)
                  have ef6 := HV3.out.frozen 6
                  have ql3 := HD3.out.row.lt
                  have rl3 := HR3.out.lt
                  have el3 := HV3.out.lt
                  simp [logRow] at q0 q1 q2 q3 r0 r1 r2 r3
                  simp [evRow] at e0 e1 e2 e3 e4 e5 e6)
  all_goals
    go_wp2_with fail
    obtain ⟨⟨o0, o1, o2, o3, p0, p1, p2, p3, p4, p5, p6⟩, t1, t2⟩ := add_done (k := ek) (y := ey) (c := ec) (t := et) (m := em) (f := ef) (b := eb) HD3.out HK3.out HR3.out HV3.out rfl
    refine bodyPost_ret (v := .tuple #[logV ca cs.length cc da ds.length dc nx ep, evV ek ey ec et em ef eb]) ?_ rfl ⟨t1, t2⟩
    revert o0 o1 o2 o3 p0 p1 p2 p3 p4 p5 p6
    clear t1 t2 q0 q1 q2 q3 r0 r1 r2 r3 rf0 rf1 rf2 rf3 e0 e1 e2 e3 e4 e5 e6 ef0 ef1 ef2 ef3 ef4 ef5 ef6
    generalize World.setCell (World.setCell _ _ _) _ _ = V
    intro o0 o1 o2 o3 p0 p1 p2 p3 p4 p5 p6
    simp [results, Tryz.results6, go_sem, o0, o1, o2, o3, p0, p1, p2, p3, p4, p5, p6]
end Go.Proofs.YtkdnddckogbgaaaGreatDoor
namespace Go.Proofs.YtkdnddckogbgaaaGreatDoor
open Go.RowKit Go.Deep
set_option linter.unusedVariables false
set_option maxRecDepth 10000

set_option maxHeartbeats 8000000 in
theorem logadd_impl (ca : Option Addr) (cc : Nat) (cs : List Bs) (da : Option Addr) (dc : Nat) (ds : List Wr) (nx ep : Int) (k y c t m f : Int) (b : Bool) (w : World) (hm : Mem w (dsk ca cs da ds)) (h : DOk cs ds) :
    Calls Tryz.prog 7 #[logV ca cs.length cc da ds.length dc nx ep, evV k y c t m f b] w (AddPost w (dat cs ds) nx ep (evB k y c t m f b) (bodyR k y c t m f b)) := by
  have HKA := hide (Keeps.alloc (Keeps.alloc (Keeps.alloc (Keeps.refl w) (.cells #[.slice ca cs.length cc, .slice da ds.length dc, .int .i64 nx, .int .i64 ep] 28)) (.cells (evCells k y c t m f b) 30)) (.cells #[.slice none 0 0, .slice none 0 0, .int .i64 0, .int .i64 0] 28))
  have HM := hide (hm.kept HKA.out)
  have HDO := hide h
  have hcl := h.c
  have hdl := h.d
  have HLC : Hid ((dat cs ds).cells.length = cs.length ∧ (dat cs ds).dirty.length = ds.length) := by show _ ∧ _; simp [dat]
  have HR := hide (row_new ((w.alloc (.cells #[.slice ca cs.length cc, .slice da ds.length dc, .int .i64 nx, .int .i64 ep] 28)).alloc (.cells (evCells k y c t m f b) 30)) #[.slice none 0 0, .slice none 0 0, .int .i64 0, .int .i64 0] 28)
  have HS : Hid (((w.alloc (.cells #[.slice ca cs.length cc, .slice da ds.length dc, .int .i64 nx, .int .i64 ep] 28)).alloc (.cells (evCells k y c t m f b) 30)).heap.size = w.heap.size + 1 + 1 ∧ (((w.alloc (.cells #[.slice ca cs.length cc, .slice da ds.length dc, .int .i64 nx, .int .i64 ep] 28)).alloc (.cells (evCells k y c t m f b) 30)).alloc (.cells #[.slice none 0 0, .slice none 0 0, .int .i64 0, .int .i64 0] 28)).heap.size = w.heap.size + 1 + 1 + 1) := by show _ ∧ _; exact ⟨by simp, by simp⟩
  rw [HS.out.1] at HR
  have HD : Hid (∀ w', Keeps (((w.alloc (.cells #[.slice ca cs.length cc, .slice da ds.length dc, .int .i64 nx, .int .i64 ep] 28)).alloc (.cells (evCells k y c t m f b) 30)).alloc (.cells #[.slice none 0 0, .slice none 0 0, .int .i64 0, .int .i64 0] 28)) w' → w'.cell? ⟨w.heap.size, 0, none⟩ = some (.slice ca cs.length cc) ∧ w'.cell? ⟨w.heap.size, 1, none⟩ = some (.slice da ds.length dc) ∧ w'.cell? ⟨w.heap.size, 2, none⟩ = some (.int .i64 nx) ∧ w'.cell? ⟨w.heap.size, 3, none⟩ = some (.int .i64 ep)) := by
    have h0 : Keeps (w.alloc (.cells #[.slice ca cs.length cc, .slice da ds.length dc, .int .i64 nx, .int .i64 ep] 28)) (((w.alloc (.cells #[.slice ca cs.length cc, .slice da ds.length dc, .int .i64 nx, .int .i64 ep] 28)).alloc (.cells (evCells k y c t m f b) 30)).alloc (.cells #[.slice none 0 0, .slice none 0 0, .int .i64 0, .int .i64 0] 28)) := Keeps.alloc (Keeps.alloc (Keeps.refl _) _) _
    exact fun w' hk => ⟨(h0.trans hk).cell (by simp), (h0.trans hk).cell (by simp), (h0.trans hk).cell (by simp), (h0.trans hk).cell (by simp)⟩
  have HE : Hid (∀ w', Keeps (((w.alloc (.cells #[.slice ca cs.length cc, .slice da ds.length dc, .int .i64 nx, .int .i64 ep] 28)).alloc (.cells (evCells k y c t m f b) 30)).alloc (.cells #[.slice none 0 0, .slice none 0 0, .int .i64 0, .int .i64 0] 28)) w' → w'.cell? ⟨w.heap.size + 1, 0, none⟩ = some (.int .i64 k) ∧ w'.cell? ⟨w.heap.size + 1, 1, none⟩ = some (.int .i64 y) ∧ w'.cell? ⟨w.heap.size + 1, 2, none⟩ = some (.int .i64 c) ∧ w'.cell? ⟨w.heap.size + 1, 3, none⟩ = some (.int .i64 t) ∧ w'.cell? ⟨w.heap.size + 1, 4, none⟩ = some (.int .i64 m) ∧ w'.cell? ⟨w.heap.size + 1, 5, none⟩ = some (.int .i64 f) ∧ w'.cell? ⟨w.heap.size + 1, 6, none⟩ = some (.bool b)) := by
    have h0 : Keeps ((w.alloc (.cells #[.slice ca cs.length cc, .slice da ds.length dc, .int .i64 nx, .int .i64 ep] 28)).alloc (.cells (evCells k y c t m f b) 30)) (((w.alloc (.cells #[.slice ca cs.length cc, .slice da ds.length dc, .int .i64 nx, .int .i64 ep] 28)).alloc (.cells (evCells k y c t m f b) 30)).alloc (.cells #[.slice none 0 0, .slice none 0 0, .int .i64 0, .int .i64 0] 28)) := Keeps.alloc (Keeps.refl _) _
    have hn := (born_alloc (w.alloc (.cells #[.slice ca cs.length cc, .slice da ds.length dc, .int .i64 nx, .int .i64 ep] 28)) (evCells k y c t m f b) 30).toOwn
    intro w' hk
    have hn2 := hn.kept (h0.trans hk)
    simp only [World.size_alloc] at hn2
    exact ⟨cell_at hn2.mem 0 (by simp), cell_at hn2.mem 1 (by simp), cell_at hn2.mem 2 (by simp), cell_at hn2.mem 3 (by simp), cell_at hn2.mem 4 (by simp), cell_at hn2.mem 5 (by simp), cell_at hn2.mem 6 (by simp)⟩
  have HT := hide (body_impl k y c t m f b (((w.alloc (.cells #[.slice ca cs.length cc, .slice da ds.length dc, .int .i64 nx, .int .i64 ep] 28)).alloc (.cells (evCells k y c t m f b) 30)).alloc (.cells #[.slice none 0 0, .slice none 0 0, .int .i64 0, .int .i64 0] 28)))
  obtain ⟨eb, heb⟩ : ∃ eb, evB k y c t m f b = eb := ⟨_, rfl⟩
  have HEB := hide heb
  clear hm h heb
  have hk0 := Keeps.refl (((w.alloc (.cells #[.slice ca cs.length cc, .slice da ds.length dc, .int .i64 nx, .int .i64 ep] 28)).alloc (.cells (evCells k y c t m f b) 30)).alloc (.cells #[.slice none 0 0, .slice none 0 0, .int .i64 0, .int .i64 0] 28))
  obtain ⟨d0, d1, d2, d3⟩ := HD.out _ hk0
  obtain ⟨e0, e1, e2, e3, e4, e5, e6⟩ := HE.out _ hk0
  clear hk0
  go_enter Tryz.func7, Tryz.ntmps7
  go_wp2_with fail
  have HSz := hide HS.out.2
  generalize (((w.alloc (.cells #[.slice ca cs.length cc, .slice da ds.length dc, .int .i64 nx, .int .i64 ep] 28)).alloc (.cells (evCells k y c t m f b) 30)).alloc (.cells #[.slice none 0 0, .slice none 0 0, .int .i64 0, .int .i64 0] 28)) = W0 at *
  refine (unhide HT).mono ?_
  rintro x w1 ⟨v, rfl, ho, hk⟩
  rw [HEB.out]
  obtain ⟨ba, bc, rfl, hbn, hbo⟩ := Born.of_owns ho
  clear d0 d1 d2 d3 e0 e1 e2 e3 e4 e5 e6 HT ho HS
  obtain ⟨d0, d1, d2, d3⟩ := HD.out _ hk
  obtain ⟨e0, e1, e2, e3, e4, e5, e6⟩ := HE.out _ hk
  replace HR := hide (hk.row HR.out)
  have HK1 := hide hk
  have hz : w.heap.size + 1 + 1 + 1 ≤ w1.heap.size := by have := hk.size; have := HSz.out; omega
  have q0 := HR.out.cell (i := 0) (by decide)
  have q1 := HR.out.cell (i := 1) (by decide)
  have q2 := HR.out.cell (i := 2) (by decide)
  have q3 := HR.out.cell (i := 3) (by decide)
  have g0 := HR.out.frozen 0
  have g1 := HR.out.frozen 1
  have g2 := HR.out.frozen 2
  have g3 := HR.out.frozen 3
  simp only [Array.getD] at q0 q1 q2 q3
  simp at q0 q1 q2 q3
  have HBo := hide hbo
  have HBn := hide hbn.1
  clear hk hbo hbn
  cases eb
  · go_wp2_with fail
    have r9 := ((((HR.out.set 0 (.slice none 0 0)).set 1 (.slice none 0 0)).set 2 (.int .i64 0)).set 3 (.int .i64 0))
    have c0 := r9.cell (i := 0) (by decide)
    have c1 := r9.cell (i := 1) (by decide)
    have c2 := r9.cell (i := 2) (by decide)
    have c3 := r9.cell (i := 3) (by decide)
    simp at c0 c1 c2 c3
    have HSs : Hid (Turn [w.heap.size + 1 + 1] w1 ((((w1.setCell ⟨w.heap.size + 1 + 1, 0, none⟩ (.slice none 0 0)).setCell ⟨w.heap.size + 1 + 1, 1, none⟩ (.slice none 0 0)).setCell ⟨w.heap.size + 1 + 1, 2, none⟩ (.int .i64 0)).setCell ⟨w.heap.size + 1 + 1, 3, none⟩ (.int .i64 0))) := ((((Turn.set (by simp) _).trans' (Turn.set (by simp) _)).trans' (Turn.set (by simp) _)).trans' (Turn.set (by simp) _))
    clear r9 HR q0 q1 q2 q3 g0 g1 g2 g3
    revert c0 c1 c2 c3 HSs
    generalize World.setCell _ _ _ = W
    intro c0 c1 c2 c3 HSs
    refine bodyPost_ret (v := .tuple #[.agg #[.slice none 0 0, .slice none 0 0, .int .i64 0, .int .i64 0], .int .i64 1]) ?_ rfl (AddPost.no (addC_one (by rw [HEB.out, Bool.and_false])) (by decide) ?_)
    · simp [results, Tryz.results7, go_sem, c0, c1, c2, c3]
    · exact HSs.out.keeps (HKA.out.trans HK1.out) (fun b hb => by simp at hb; omega)
  · have HT := hide (logok_impl ca cc cs da dc ds nx ep w1 (HM.out.kept HK1.out) HDO.out)
    obtain ⟨lb, hlb⟩ : ∃ lb, logB (dat cs ds) nx ep = lb := ⟨_, rfl⟩
    rw [hlb] at HT
    have HLB := hide hlb
    clear hlb
    go_wp2_with fail
    refine (unhide HT).mono ?_
    rintro x w2 ⟨rfl, hk⟩
    clear d0 d1 d2 d3 e0 e1 e2 e3 e4 e5 e6 q0 q1 q2 q3 g0 g1 g2 g3 HT
    obtain ⟨d0, d1, d2, d3⟩ := HD.out _ (HK1.out.trans hk)
    obtain ⟨e0, e1, e2, e3, e4, e5, e6⟩ := HE.out _ (HK1.out.trans hk)
    replace HR := hide (hk.row HR.out)
    have HK2 := hide (HK1.out.trans hk)
    replace hz : w.heap.size + 1 + 1 + 1 ≤ w2.heap.size := by have := hk.size; omega
    replace HBo := hide (HBo.out.kept hk)
    have q0 := HR.out.cell (i := 0) (by decide)
    have q1 := HR.out.cell (i := 1) (by decide)
    have q2 := HR.out.cell (i := 2) (by decide)
    have q3 := HR.out.cell (i := 3) (by decide)
    have g0 := HR.out.frozen 0
    have g1 := HR.out.frozen 1
    have g2 := HR.out.frozen 2
    have g3 := HR.out.frozen 3
    simp only [Array.getD] at q0 q1 q2 q3
    simp at q0 q1 q2 q3
    clear hk
    cases lb
    · go_wp2_with fail
      have r9 := ((((HR.out.set 0 (.slice none 0 0)).set 1 (.slice none 0 0)).set 2 (.int .i64 0)).set 3 (.int .i64 0))
      have c0 := r9.cell (i := 0) (by decide)
      have c1 := r9.cell (i := 1) (by decide)
      have c2 := r9.cell (i := 2) (by decide)
      have c3 := r9.cell (i := 3) (by decide)
      simp at c0 c1 c2 c3
      have HSs : Hid (Turn [w.heap.size + 1 + 1] w2 ((((w2.setCell ⟨w.heap.size + 1 + 1, 0, none⟩ (.slice none 0 0)).setCell ⟨w.heap.size + 1 + 1, 1, none⟩ (.slice none 0 0)).setCell ⟨w.heap.size + 1 + 1, 2, none⟩ (.int .i64 0)).setCell ⟨w.heap.size + 1 + 1, 3, none⟩ (.int .i64 0))) := ((((Turn.set (by simp) _).trans' (Turn.set (by simp) _)).trans' (Turn.set (by simp) _)).trans' (Turn.set (by simp) _))
      clear r9 HR q0 q1 q2 q3 g0 g1 g2 g3
      revert c0 c1 c2 c3 HSs
      generalize World.setCell _ _ _ = W
      intro c0 c1 c2 c3 HSs
      refine bodyPost_ret (v := .tuple #[.agg #[.slice none 0 0, .slice none 0 0, .int .i64 0, .int .i64 0], .int .i64 1]) ?_ rfl (AddPost.no (addC_one (by rw [HLB.out]; rfl)) (by decide) ?_)
      · simp [results, Tryz.results7, go_sem, c0, c1, c2, c3]
      · exact HSs.out.keeps (HKA.out.trans HK2.out) (fun b hb => by simp at hb; omega)
    · obtain ⟨hok, hn0, hn1, he0, he1⟩ := logB_true HLB.out
      rw [HLC.out.1] at hn1
      have HOKM := hide hok
      have hd6 := (dokM_len hok).2.2
      rw [HLC.out.2] at hd6
      clear hok
      by_cases h1 : nx = (cs.length : Int)
      · go_wp2_with fail
        have r9 := ((((HR.out.set 0 (.slice none 0 0)).set 1 (.slice none 0 0)).set 2 (.int .i64 0)).set 3 (.int .i64 0))
        have c0 := r9.cell (i := 0) (by decide)
        have c1 := r9.cell (i := 1) (by decide)
        have c2 := r9.cell (i := 2) (by decide)
        have c3 := r9.cell (i := 3) (by decide)
        simp at c0 c1 c2 c3
        have HSs : Hid (Turn [w.heap.size + 1 + 1] w2 ((((w2.setCell ⟨w.heap.size + 1 + 1, 0, none⟩ (.slice none 0 0)).setCell ⟨w.heap.size + 1 + 1, 1, none⟩ (.slice none 0 0)).setCell ⟨w.heap.size + 1 + 1, 2, none⟩ (.int .i64 0)).setCell ⟨w.heap.size + 1 + 1, 3, none⟩ (.int .i64 0))) := ((((Turn.set (by simp) _).trans' (Turn.set (by simp) _)).trans' (Turn.set (by simp) _)).trans' (Turn.set (by simp) _))
        clear r9 HR q0 q1 q2 q3 g0 g1 g2 g3
        revert c0 c1 c2 c3 HSs
        generalize World.setCell _ _ _ = W
        intro c0 c1 c2 c3 HSs
        refine bodyPost_ret (v := .tuple #[.agg #[.slice none 0 0, .slice none 0 0, .int .i64 0, .int .i64 0], .int .i64 2]) ?_ rfl (AddPost.no (addC_two HLB.out HEB.out (.inl (by rw [HLC.out.1]; exact h1))) (by decide) ?_)
        · simp [results, Tryz.results7, go_sem, c0, c1, c2, c3]
        · exact HSs.out.keeps (HKA.out.trans HK2.out) (fun b hb => by simp at hb; omega)
      · by_cases h2 : ds.length = 600
        · go_wp2_with fail
          have r9 := ((((HR.out.set 0 (.slice none 0 0)).set 1 (.slice none 0 0)).set 2 (.int .i64 0)).set 3 (.int .i64 0))
          have c0 := r9.cell (i := 0) (by decide)
          have c1 := r9.cell (i := 1) (by decide)
          have c2 := r9.cell (i := 2) (by decide)
          have c3 := r9.cell (i := 3) (by decide)
          simp at c0 c1 c2 c3
          have HSs : Hid (Turn [w.heap.size + 1 + 1] w2 ((((w2.setCell ⟨w.heap.size + 1 + 1, 0, none⟩ (.slice none 0 0)).setCell ⟨w.heap.size + 1 + 1, 1, none⟩ (.slice none 0 0)).setCell ⟨w.heap.size + 1 + 1, 2, none⟩ (.int .i64 0)).setCell ⟨w.heap.size + 1 + 1, 3, none⟩ (.int .i64 0))) := ((((Turn.set (by simp) _).trans' (Turn.set (by simp) _)).trans' (Turn.set (by simp) _)).trans' (Turn.set (by simp) _))
          clear r9 HR q0 q1 q2 q3 g0 g1 g2 g3
          revert c0 c1 c2 c3 HSs
          generalize World.setCell _ _ _ = W
          intro c0 c1 c2 c3 HSs
          refine bodyPost_ret (v := .tuple #[.agg #[.slice none 0 0, .slice none 0 0, .int .i64 0, .int .i64 0], .int .i64 2]) ?_ rfl (AddPost.no (addC_two HLB.out HEB.out (.inr (by rw [HLC.out.2]; omega))) (by decide) ?_)
          · simp [results, Tryz.results7, go_sem, c0, c1, c2, c3]
          · exact HSs.out.keeps (HKA.out.trans HK2.out) (fun b hb => by simp at hb; omega)
        · have hq1 : (nx == (cs.length : Int)) = false := beq_eq_false_iff_ne.2 h1
          have hq2 : ((ds.length : Int) == 600) = false := beq_eq_false_iff_ne.2 (by omega)
          have HT := hide (with_impl ca cc cs da dc ds nx ep ba bc (bodyR k y c t m f b) w2 (HM.out.kept HK2.out) HDO.out HBo.out.toOwn.one HBn.out (Nat.le_trans (bodyR_length k y c t m f b) (by decide)) hn0 (by omega))
          go_wp2_with fail
          refine (unhide HT).mono ?_
          rintro x w3 ⟨v, rfl, hr, hk⟩
          obtain ⟨ca3, cc3, cs3, da3, dc3, ds3, rfl, he, hok, hna, hnd, hb⟩ := hr
          clear d0 d1 d2 d3 e0 e1 e2 e3 e4 e5 e6 q0 q1 q2 q3 g0 g1 g2 g3 HT
          replace HR := hide (hk.row HR.out)
          have HK3 := hide (HK2.out.trans hk)
          replace hz : w.heap.size + 1 + 1 + 1 ≤ w3.heap.size := by have := hk.size; omega
          have q0 := HR.out.cell (i := 0) (by decide)
          have q1 := HR.out.cell (i := 1) (by decide)
          have q2 := HR.out.cell (i := 2) (by decide)
          have q3 := HR.out.cell (i := 3) (by decide)
          have g0 := HR.out.frozen 0
          have g1 := HR.out.frozen 1
          have g2 := HR.out.frozen 2
          have g3 := HR.out.frozen 3
          simp only [Array.getD] at q0 q1 q2 q3
          simp at q0 q1 q2 q3
          have HBN : Hid (∀ b ∈ fp (dsk ca3 cs3 da3 ds3), w.heap.size + 1 + 1 + 1 ≤ b) := fun b hb1 => by have := hb.new b hb1; have := HK2.out.size; have := HSz.out; omega
          have HB := hide (hb.old (HKA.out.trans HK2.out))
          have HF := hide (⟨he, hok, hna, hnd⟩ : _ ∧ _ ∧ _ ∧ _)
          clear hk hb he hok hna hnd
          go_wp2_with fail
          have r9 := ((((HR.out.set 0 (.slice ca3 cs3.length cc3)).set 1 (.slice da3 ds3.length dc3)).set 2 (.int .i64 (nx + 1))).set 3 (.int .i64 ep))
          have c0 := r9.cell (i := 0) (by decide)
          have c1 := r9.cell (i := 1) (by decide)
          have c2 := r9.cell (i := 2) (by decide)
          have c3 := r9.cell (i := 3) (by decide)
          simp at c0 c1 c2 c3
          have HSs : Hid (Turn [w.heap.size + 1 + 1] w3 ((((w3.setCell ⟨w.heap.size + 1 + 1, 0, none⟩ (.slice ca3 cs3.length cc3)).setCell ⟨w.heap.size + 1 + 1, 1, none⟩ (.slice da3 ds3.length dc3)).setCell ⟨w.heap.size + 1 + 1, 2, none⟩ (.int .i64 (nx + 1))).setCell ⟨w.heap.size + 1 + 1, 3, none⟩ (.int .i64 ep))) := ((((Turn.set (by simp) _).trans' (Turn.set (by simp) _)).trans' (Turn.set (by simp) _)).trans' (Turn.set (by simp) _))
          clear r9 HR q0 q1 q2 q3 g0 g1 g2 g3
          revert c0 c1 c2 c3 HSs
          generalize World.setCell _ _ _ = W
          intro c0 c1 c2 c3 HSs
          refine bodyPost_ret (v := .tuple #[logV ca3 cs3.length cc3 da3 ds3.length dc3 (nx + 1) ep, .int .i64 0]) ?_ rfl (AddPost.yes (addC_zero HLB.out HEB.out (fun hx => by rw [HLC.out.1, HLC.out.2] at hx; omega)) ⟨ca3, cc3, cs3, da3, dc3, ds3, rfl, HF.out.1, HF.out.2.1, HF.out.2.2.1, HF.out.2.2.2, ?_⟩ ?_)
          · simp [results, Tryz.results7, go_sem, c0, c1, c2, c3]
          · refine HB.out.turn HSs.out ?_
            intro b hb hx
            have := HBN.out b hb
            simp at hx
            omega
          · refine HSs.out.keeps (HKA.out.trans HK3.out) ?_
            intro b hb
            simp at hb
            omega
end Go.Proofs.YtkdnddckogbgaaaGreatDoor
namespace Go.Proofs.YtkdnddckogbgaaaGreatDoor
open Go.RowKit Go.ChangeShapes

theorem cells96 : Tryz.prog.cellsOf 192 = 1 := by kernel_rfl
theorem cells9 : Tryz.prog.cellsOf 9 = 1 := by kernel_rfl
theorem star : "*" ++ "errors.errorString" = "*errors.errorString" := by decide
theorem row94 (u : TypeId) (h : Tryz.prog.typeName? 3 u = some "*errors.errorString") : u = 173 :=
  typeName_ptr_named (nm := "errors.errorString") (by rw [star]; kernel_rfl) (by kernel_rfl) (by decide) u (by rw [star]; exact h)

/-- The head of the list, a sentinel: its variable holds a pointer. -/
theorem sent {n : String} {text : List UInt8} {r : List (String × DataW Unit)} {W : World} {g : Nat} (h : laidMet Tryz.prog ((n, .iface "*errors.errorString" (.ptr (.agg [.lit (.string text)]))) :: r) W)
    (hg : Tryz.prog.globalNamed n = some g) (ht : (Tryz.prog.globals[g]?).map (·.type) = some 168) : ∃ a : Addr, W.var? Tryz.prog n = some #[.iface 173 (.pointer (some a))] := by
  obtain ⟨a, _, h, _⟩ := laid_sentinel h hg ht Tryz.underlying168 row94 Tryz.underlying173 Tryz.underlying192 rfl rfl Tryz.underlying9 cells96 cells9
  exact ⟨a, h⟩
end Go.Proofs.YtkdnddckogbgaaaGreatDoor
