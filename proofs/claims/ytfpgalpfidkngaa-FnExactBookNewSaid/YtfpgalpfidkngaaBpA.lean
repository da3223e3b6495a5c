/- Pick and BookNew, the program's and the model's. -/
import Derived.Test.YtfpgalpfidkngaaBsD
import Derived.Test.YtfpgalpfidkngaaBgC
import Derived.Deep.Cut
namespace Go.Proofs.Ytfpgalpfidkngaa
open Go.RowKit Go.Deep
set_option linter.unusedVariables false
set_option linter.unusedSimpArgs false
set_option maxRecDepth 10000

/-- The channel that is picked, and whether. -/
def pickC (B : Bk) (ch : Int) : Chn := if bookB B = true then (match atC B.C ch with | some k => B.C.getD k ⟨0, 0, 0, 0, 0, 0, 0⟩ | none => ⟨0, 0, 0, 0, 0, 0, 0⟩) else ⟨0, 0, 0, 0, 0, 0, 0⟩
def pickB (B : Bk) (ch : Int) : Bool := bookB B && hasC B.C ch
theorem pick_no {B : Bk} {ch : Int} (h : bookB B = false) : pickC B ch = ⟨0, 0, 0, 0, 0, 0, 0⟩ ∧ pickB B ch = false := by simp [pickC, pickB, h]
theorem pick_none {B : Bk} {ch : Int} (h : atC B.C ch = none) : pickC B ch = ⟨0, 0, 0, 0, 0, 0, 0⟩ ∧ pickB B ch = false := by
  simp [pickC, pickB, hasC_at, h]
theorem pick_some {B : Bk} {ch : Int} {k : Nat} (hb : bookB B = true) (h : atC B.C ch = some k) (hk : k < B.C.length) : pickC B ch = B.C[k] ∧ pickB B ch = true := by
  simp [pickC, pickB, hasC_at, h, hb, List.getD_eq_getElem?_getD, List.getElem?_eq_getElem hk]
def rowZ (v0 v1 v2 v3 v4 v5 v6 : Value) : Nat → Value := fun i => if i = 0 then v0 else if i = 1 then v1 else if i = 2 then v2 else if i = 3 then v3 else if i = 4 then v4 else if i = 5 then v5 else v6
theorem rowZ_at (v0 v1 v2 v3 v4 v5 v6 : Value) : ∀ i, i < (#[v0, v1, v2, v3, v4, v5, v6] : Array Value).size → (#[v0, v1, v2, v3, v4, v5, v6] : Array Value)[i]? = some (rowZ v0 v1 v2 v3 v4 v5 v6 i)
  | 0, _ => rfl
  | 1, _ => rfl
  | 2, _ => rfl
  | 3, _ => rfl
  | 4, _ => rfl
  | 5, _ => rfl
  | 6, _ => rfl
  | n + 7, h => absurd h (by simp)
/-- The answer's block of seven cells is written. -/
theorem res7 {w W : World} {R : Nat} {T : TypeId} {f : Nat → Value} (hR : W.rowIs R T 7 f) (hK : Keeps w W) (hr : w.heap.size ≤ R) (v0 v1 v2 v3 v4 v5 v6 : Value) {V : World}
    (hV : V = (((((((W.setCell ⟨R, 0, none⟩ v0).setCell ⟨R, 1, none⟩ v1).setCell ⟨R, 2, none⟩ v2).setCell ⟨R, 3, none⟩ v3).setCell ⟨R, 4, none⟩ v4).setCell ⟨R, 5, none⟩ v5).setCell ⟨R, 6, none⟩ v6)) :
    (V.cell? ⟨R, 0, none⟩ = some v0 ∧ V.cell? ⟨R, 1, none⟩ = some v1 ∧ V.cell? ⟨R, 2, none⟩ = some v2 ∧ V.cell? ⟨R, 3, none⟩ = some v3 ∧ V.cell? ⟨R, 4, none⟩ = some v4 ∧ V.cell? ⟨R, 5, none⟩ = some v5 ∧ V.cell? ⟨R, 6, none⟩ = some v6) ∧ Keeps w V := by
  have r := (((((((hR.set 0 v0).set 1 v1).set 2 v2).set 3 v3).set 4 v4).set 5 v5).set 6 v6)
  have ht : Turn [R] W (((((((W.setCell ⟨R, 0, none⟩ v0).setCell ⟨R, 1, none⟩ v1).setCell ⟨R, 2, none⟩ v2).setCell ⟨R, 3, none⟩ v3).setCell ⟨R, 4, none⟩ v4).setCell ⟨R, 5, none⟩ v5).setCell ⟨R, 6, none⟩ v6) :=
    ((((((Turn.set (by simp) _).trans' (Turn.set (by simp) _)).trans' (Turn.set (by simp) _)).trans' (Turn.set (by simp) _)).trans' (Turn.set (by simp) _)).trans' (Turn.set (by simp) _)).trans' (Turn.set (by simp) _)
  rw [← hV] at r ht
  have c0 := r.cell (i := 0) (by decide)
  have c1 := r.cell (i := 1) (by decide)
  have c2 := r.cell (i := 2) (by decide)
  have c3 := r.cell (i := 3) (by decide)
  have c4 := r.cell (i := 4) (by decide)
  have c5 := r.cell (i := 5) (by decide)
  have c6 := r.cell (i := 6) (by decide)
  simp at c0 c1 c2 c3 c4 c5 c6
  exact ⟨⟨c0, c1, c2, c3, c4, c5, c6⟩, ht.keeps hK (by simpa using hr)⟩
set_option maxHeartbeats 4000000 in
theorem pick_impl (B : Bo) (ch : Int) (w : World) (hm : Mem w B.segs) (hl : B.len) : Calls Try.prog 16 #[B.v, .int .i64 ch] w fun e w' => e = .returned (.tuple #[(pickC B.d ch).v, .bool (pickB B.d ch)]) ∧ Keeps w w' := by
  have H1 := hide (fun w' (hk : Keeps w w') => bookok_impl B w' (hm.kept hk) hl)
  have H2 := hide (fun p w' (hk : Keeps w w') hp => channel_impl p B.ca B.cc B.C ch w' hp (Bo.memC (hm.kept hk)) hl.1)
  have H3 := hide (fun w' (hk : Keeps w w') => Bo.memC (hm.kept hk))
  obtain ⟨tk, nx, wa, ca, cc, C, ha, hc, Hs, ra, rc, R⟩ := B
  dsimp only [Bo.v] at *
  have HBA := hide (book_box ⟨tk, nx, wa, ca, cc, C, ha, hc, Hs, ra, rc, R⟩ w 33)
  have HKA := hide (Keeps.alloc (Keeps.refl w) (.cells #[.int .i64 tk, .int .i64 nx, .int .i64 wa, .slice ca C.length cc, .slice ha Hs.length hc, .slice ra R.length rc] 33))
  have hz : (w.alloc (.cells #[.int .i64 tk, .int .i64 nx, .int .i64 wa, .slice ca C.length cc, .slice ha Hs.length hc, .slice ra R.length rc] 33)).heap.size = w.heap.size + 1 := by simp
  have HRr := hide (World.rowIs_alloc (w.alloc (.cells #[.int .i64 tk, .int .i64 nx, .int .i64 wa, .slice ca C.length cc, .slice ha Hs.length hc, .slice ra R.length rc] 33)) #[.int .i64 0, .int .i64 0, .int .i64 0, .int .i64 0, .int .i64 0, .int .i64 0, .int .i64 0] 41 (rowZ (.int .i64 0) (.int .i64 0) (.int .i64 0) (.int .i64 0) (.int .i64 0) (.int .i64 0) (.int .i64 0)) (rowZ_at _ _ _ _ _ _ _))
  have HKz := hide (Keeps.alloc (Keeps.refl (w.alloc (.cells #[.int .i64 tk, .int .i64 nx, .int .i64 wa, .slice ca C.length cc, .slice ha Hs.length hc, .slice ra R.length rc] 33))) (.cells #[.int .i64 0, .int .i64 0, .int .i64 0, .int .i64 0, .int .i64 0, .int .i64 0, .int .i64 0] 41))
  rw [hz] at HRr
  clear hz hm hl
  go_enter Try.func16, Try.ntmps16
  go_upto_region 1 with fail
  generalize w.alloc (.cells #[.int .i64 tk, .int .i64 nx, .int .i64 wa, .slice ca C.length cc, .slice ha Hs.length hc, .slice ra R.length rc] 33) = W0 at *
  generalize W0.alloc (.cells #[.int .i64 0, .int .i64 0, .int .i64 0, .int .i64 0, .int .i64 0, .int .i64 0, .int .i64 0] 41) = W1 at *
  have HRr : Hid (W1.rowIs (w.heap.size + 1) 41 7 (rowZ (.int .i64 0) (.int .i64 0) (.int .i64 0) (.int .i64 0) (.int .i64 0) (.int .i64 0) (.int .i64 0))) := HRr.out
  have HKr := hide (HKA.out.trans HKz.out)
  replace HBA := hide (HBA.out.kept HKz.out)
  clear HKz HKA
  obtain ⟨b0, b1, b2, b3, b4, b5⟩ := HBA.out
  dsimp only at b0 b1 b2 b3 b4 b5
  go_wp2_with fail
  refine (unhide H1 W1 HKr.out).mono ?_
  rintro e w2 ⟨rfl, hk⟩
  clear b0 b1 b2 b3 b4 b5
  replace HRr := hide (hk.rowK HRr.out)
  replace HKr := hide (HKr.out.trans hk)
  replace HBA := hide (HBA.out.kept hk)
  clear hk
  dsimp only [Bo.d] at *
  cases hb : bookB (⟨tk, nx, wa, C, Hs, R⟩ : Bk)
  · obtain ⟨q1, q2⟩ := pick_no (ch := ch) hb
    have HQ : Hid (Ending.returned (.tuple #[.agg #[.int .i64 0, .int .i64 0, .int .i64 0, .int .i64 0, .int .i64 0, .int .i64 0, .int .i64 0], .bool false]) = .returned (.tuple #[(pickC (⟨tk, nx, wa, C, Hs, R⟩ : Bk) ch).v, .bool (pickB (⟨tk, nx, wa, C, Hs, R⟩ : Bk) ch)])) := by show _ = _; rw [q1, q2]; rfl
    clear q1 q2
    have r0 := HRr.out.cell (i := 0) (by decide)
    have f0 := HRr.out.frozen 0
    have r1 := HRr.out.cell (i := 1) (by decide)
    have f1 := HRr.out.frozen 1
    have r2 := HRr.out.cell (i := 2) (by decide)
    have f2 := HRr.out.frozen 2
    have r3 := HRr.out.cell (i := 3) (by decide)
    have f3 := HRr.out.frozen 3
    have r4 := HRr.out.cell (i := 4) (by decide)
    have f4 := HRr.out.frozen 4
    have r5 := HRr.out.cell (i := 5) (by decide)
    have f5 := HRr.out.frozen 5
    have r6 := HRr.out.cell (i := 6) (by decide)
    have f6 := HRr.out.frozen 6
    have rl := HRr.out.lt
    go_wp2_with fail
    obtain ⟨⟨p0, p1, p2, p3, p4, p5, p6⟩, hkF⟩ := res7 HRr.out HKr.out (Nat.le_succ _) (.int .i64 0) (.int .i64 0) (.int .i64 0) (.int .i64 0) (.int .i64 0) (.int .i64 0) (.int .i64 0) rfl
    clear r0 f0 r1 f1 r2 f2 r3 f3 r4 f4 r5 f5 r6 f6 rl
    refine bodyPost_ret (v := .tuple #[.agg #[.int .i64 0, .int .i64 0, .int .i64 0, .int .i64 0, .int .i64 0, .int .i64 0, .int .i64 0], .bool false]) ?_ rfl ⟨HQ.out, hkF⟩
    clear hkF
    revert p0 p1 p2 p3 p4 p5 p6
    generalize World.setCell (World.setCell _ _ _) _ _ = WW
    intro p0 p1 p2 p3 p4 p5 p6
    simp [results, Try.results16, go_sem, p0, p1, p2, p3, p4, p5, p6]
  have b3 := HBA.out.2.2.2.1
  dsimp only at b3
  go_wp2_with fail
  refine (unhide H2 w.heap.size w2 HKr.out b3).mono ?_
  rintro e w3 ⟨rfl, hw⟩
  obtain rfl := Eq.symm hw
  clear hw
  have HC := hide (unhide H3 w2 HKr.out)
  rcases placeC_at HC.out ch with ⟨h1, q⟩ | ⟨b, off, k, h1, hat, ea, q⟩
  · have hno : atC C ch = none := by
      have := hasC_at C ch
      rw [h1] at this
      cases h : atC C ch with
      | none => rfl
      | some k => rw [h] at this; simp at this
    obtain ⟨q1, q2⟩ := pick_none (B := (⟨tk, nx, wa, C, Hs, R⟩ : Bk)) hno
    have HQ : Hid (Ending.returned (.tuple #[.agg #[.int .i64 0, .int .i64 0, .int .i64 0, .int .i64 0, .int .i64 0, .int .i64 0, .int .i64 0], .bool false]) = .returned (.tuple #[(pickC (⟨tk, nx, wa, C, Hs, R⟩ : Bk) ch).v, .bool (pickB (⟨tk, nx, wa, C, Hs, R⟩ : Bk) ch)])) := by show _ = _; rw [q1, q2]; rfl
    rw [q]
    clear q1 q2 hno h1 q b3
    have r0 := HRr.out.cell (i := 0) (by decide)
    have f0 := HRr.out.frozen 0
    have r1 := HRr.out.cell (i := 1) (by decide)
    have f1 := HRr.out.frozen 1
    have r2 := HRr.out.cell (i := 2) (by decide)
    have f2 := HRr.out.frozen 2
    have r3 := HRr.out.cell (i := 3) (by decide)
    have f3 := HRr.out.frozen 3
    have r4 := HRr.out.cell (i := 4) (by decide)
    have f4 := HRr.out.frozen 4
    have r5 := HRr.out.cell (i := 5) (by decide)
    have f5 := HRr.out.frozen 5
    have r6 := HRr.out.cell (i := 6) (by decide)
    have f6 := HRr.out.frozen 6
    have rl := HRr.out.lt
    go_wp2_with fail
    obtain ⟨⟨p0, p1, p2, p3, p4, p5, p6⟩, hkF⟩ := res7 HRr.out HKr.out (Nat.le_succ _) (.int .i64 0) (.int .i64 0) (.int .i64 0) (.int .i64 0) (.int .i64 0) (.int .i64 0) (.int .i64 0) rfl
    clear r0 f0 r1 f1 r2 f2 r3 f3 r4 f4 r5 f5 r6 f6 rl
    refine bodyPost_ret (v := .tuple #[.agg #[.int .i64 0, .int .i64 0, .int .i64 0, .int .i64 0, .int .i64 0, .int .i64 0, .int .i64 0], .bool false]) ?_ rfl ⟨HQ.out, hkF⟩
    clear hkF
    revert p0 p1 p2 p3 p4 p5 p6
    generalize World.setCell (World.setCell _ _ _) _ _ = WW
    intro p0 p1 p2 p3 p4 p5 p6
    simp [results, Try.results16, go_sem, p0, p1, p2, p3, p4, p5, p6]
  · obtain ⟨hk, -⟩ := atC_lt hat
    obtain ⟨b', off', ea', c0, c1, c2, c3, c4, c5, c6⟩ := chs_at HC.out k hk
    rw [ea] at ea'
    have ea2 := Option.some.inj ea'
    injection ea2 with e1 e2
    subst e1 e2
    obtain ⟨q1, q2⟩ := pick_some (B := (⟨tk, nx, wa, C, Hs, R⟩ : Bk)) hb hat hk
    dsimp only at q1
    have HQ : Hid (Ending.returned (.tuple #[C[k].v, .bool true]) = .returned (.tuple #[(pickC (⟨tk, nx, wa, C, Hs, R⟩ : Bk) ch).v, .bool (pickB (⟨tk, nx, wa, C, Hs, R⟩ : Bk) ch)])) := by show _ = _; rw [q1, q2]
    rw [q]
    have hlt : b < w.heap.size := by
      obtain ⟨b2, off2, ea3, z0, -⟩ := chs_at (unhide H3 w (Keeps.refl w)) k hk
      have ea4 := Option.some.inj (ea.symm.trans ea3)
      injection ea4 with e1 e2
      subst e1
      exact lt_of_cell z0
    have hne : b ≠ w.heap.size + 1 := by omega
    clear q1 q2 hat h1 q b3 ea ea' HC
    generalize C[k] = x at *
    obtain ⟨xid, xsz, xlo, xre, xba, xpp, xsc⟩ := x
    dsimp only [Chn.v] at *
    have r0 := HRr.out.cell (i := 0) (by decide)
    have f0 := HRr.out.frozen 0
    have r1 := HRr.out.cell (i := 1) (by decide)
    have f1 := HRr.out.frozen 1
    have r2 := HRr.out.cell (i := 2) (by decide)
    have f2 := HRr.out.frozen 2
    have r3 := HRr.out.cell (i := 3) (by decide)
    have f3 := HRr.out.frozen 3
    have r4 := HRr.out.cell (i := 4) (by decide)
    have f4 := HRr.out.frozen 4
    have r5 := HRr.out.cell (i := 5) (by decide)
    have f5 := HRr.out.frozen 5
    have r6 := HRr.out.cell (i := 6) (by decide)
    have f6 := HRr.out.frozen 6
    have rl := HRr.out.lt
    go_wp2_with fail
    obtain ⟨⟨p0, p1, p2, p3, p4, p5, p6⟩, hkF⟩ := res7 HRr.out HKr.out (Nat.le_succ _) (.int .i64 xid) (.int .i64 xsz) (.int .i64 xlo) (.int .i64 xre) (.int .i64 xba) (.int .i64 xpp) (.int .i64 xsc) rfl
    clear r0 f0 r1 f1 r2 f2 r3 f3 r4 f4 r5 f5 r6 f6 rl
    refine bodyPost_ret (v := .tuple #[.agg #[.int .i64 xid, .int .i64 xsz, .int .i64 xlo, .int .i64 xre, .int .i64 xba, .int .i64 xpp, .int .i64 xsc], .bool true]) ?_ rfl ⟨HQ.out, hkF⟩
    clear hkF
    revert p0 p1 p2 p3 p4 p5 p6
    generalize World.setCell (World.setCell _ _ _) _ _ = WW
    intro p0 p1 p2 p3 p4 p5 p6
    simp [results, Try.results16, go_sem, p0, p1, p2, p3, p4, p5, p6]
set_option maxHeartbeats 4000000 in
theorem pick_spec (B : Bo) (ch : Int) (w : World) (hm : Mem w B.segs) (hl : B.len) : Calls Try.prog 15 #[B.v, .int .i64 ch] w fun e w' => e = .returned (.tuple #[(pickC B.d ch).v, .bool (pickB B.d ch)]) ∧ Keeps w w' := by
  have H1 := hide (fun w' (hk : Keeps w w') => bookok_spec B w' (hm.kept hk) hl)
  have H2 := hide (fun w' (hk : Keeps w w') => at_spec B ch w' (hm.kept hk) hl.1)
  have H3 := hide (fun w' (hk : Keeps w w') => Bo.memC (hm.kept hk))
  have hCl := hl.1
  obtain ⟨tk, nx, wa, ca, cc, C, ha, hc, Hs, ra, rc, R⟩ := B
  dsimp only [Bo.v] at *
  have HBA := hide (book_box ⟨tk, nx, wa, ca, cc, C, ha, hc, Hs, ra, rc, R⟩ w 33)
  have HKA := hide (Keeps.alloc (Keeps.refl w) (.cells #[.int .i64 tk, .int .i64 nx, .int .i64 wa, .slice ca C.length cc, .slice ha Hs.length hc, .slice ra R.length rc] 33))
  have hz : (w.alloc (.cells #[.int .i64 tk, .int .i64 nx, .int .i64 wa, .slice ca C.length cc, .slice ha Hs.length hc, .slice ra R.length rc] 33)).heap.size = w.heap.size + 1 := by simp
  have HRr := hide (World.rowIs_alloc (w.alloc (.cells #[.int .i64 tk, .int .i64 nx, .int .i64 wa, .slice ca C.length cc, .slice ha Hs.length hc, .slice ra R.length rc] 33)) #[.int .i64 0, .int .i64 0, .int .i64 0, .int .i64 0, .int .i64 0, .int .i64 0, .int .i64 0] 41 (rowZ (.int .i64 0) (.int .i64 0) (.int .i64 0) (.int .i64 0) (.int .i64 0) (.int .i64 0) (.int .i64 0)) (rowZ_at _ _ _ _ _ _ _))
  have HKz := hide (Keeps.alloc (Keeps.refl (w.alloc (.cells #[.int .i64 tk, .int .i64 nx, .int .i64 wa, .slice ca C.length cc, .slice ha Hs.length hc, .slice ra R.length rc] 33))) (.cells #[.int .i64 0, .int .i64 0, .int .i64 0, .int .i64 0, .int .i64 0, .int .i64 0, .int .i64 0] 41))
  rw [hz] at HRr
  clear hz hm hl
  go_enter Try.func15, Try.ntmps15
  go_upto_region 1 with fail
  generalize w.alloc (.cells #[.int .i64 tk, .int .i64 nx, .int .i64 wa, .slice ca C.length cc, .slice ha Hs.length hc, .slice ra R.length rc] 33) = W0 at *
  generalize W0.alloc (.cells #[.int .i64 0, .int .i64 0, .int .i64 0, .int .i64 0, .int .i64 0, .int .i64 0, .int .i64 0] 41) = W1 at *
  have HRr : Hid (W1.rowIs (w.heap.size + 1) 41 7 (rowZ (.int .i64 0) (.int .i64 0) (.int .i64 0) (.int .i64 0) (.int .i64 0) (.int .i64 0) (.int .i64 0))) := HRr.out
  have HKr := hide (HKA.out.trans HKz.out)
  replace HBA := hide (HBA.out.kept HKz.out)
  clear HKz HKA
  obtain ⟨b0, b1, b2, b3, b4, b5⟩ := HBA.out
  dsimp only at b0 b1 b2 b3 b4 b5
  go_wp2_with fail
  refine (unhide H2 W1 HKr.out).mono ?_
  rintro e w2 ⟨rfl, hk⟩
  clear b0 b1 b2 b3 b4 b5
  replace HRr := hide (hk.rowK HRr.out)
  replace HKr := hide (HKr.out.trans hk)
  replace HBA := hide (HBA.out.kept hk)
  clear hk
  dsimp only [Bo.d] at *
  obtain ⟨b0, b1, b2, b3, b4, b5⟩ := HBA.out
  dsimp only at b0 b1 b2 b3 b4 b5
  go_wp2_with fail
  refine (unhide H1 w2 HKr.out).mono ?_
  rintro e w3 ⟨rfl, hk⟩
  clear b0 b1 b2 b3 b4 b5
  replace HRr := hide (hk.rowK HRr.out)
  replace HKr := hide (HKr.out.trans hk)
  replace HBA := hide (HBA.out.kept hk)
  clear hk
  cases hb : bookB (⟨tk, nx, wa, C, Hs, R⟩ : Bk)
  · obtain ⟨q1, q2⟩ := pick_no (ch := ch) hb
    have HQ : Hid (Ending.returned (.tuple #[.agg #[.int .i64 0, .int .i64 0, .int .i64 0, .int .i64 0, .int .i64 0, .int .i64 0, .int .i64 0], .bool false]) = .returned (.tuple #[(pickC (⟨tk, nx, wa, C, Hs, R⟩ : Bk) ch).v, .bool (pickB (⟨tk, nx, wa, C, Hs, R⟩ : Bk) ch)])) := by show _ = _; rw [q1, q2]; rfl
    clear q1 q2
    have r0 := HRr.out.cell (i := 0) (by decide)
    have f0 := HRr.out.frozen 0
    have r1 := HRr.out.cell (i := 1) (by decide)
    have f1 := HRr.out.frozen 1
    have r2 := HRr.out.cell (i := 2) (by decide)
    have f2 := HRr.out.frozen 2
    have r3 := HRr.out.cell (i := 3) (by decide)
    have f3 := HRr.out.frozen 3
    have r4 := HRr.out.cell (i := 4) (by decide)
    have f4 := HRr.out.frozen 4
    have r5 := HRr.out.cell (i := 5) (by decide)
    have f5 := HRr.out.frozen 5
    have r6 := HRr.out.cell (i := 6) (by decide)
    have f6 := HRr.out.frozen 6
    have rl := HRr.out.lt
    go_wp2_with fail
    obtain ⟨⟨p0, p1, p2, p3, p4, p5, p6⟩, hkF⟩ := res7 HRr.out HKr.out (Nat.le_succ _) (.int .i64 0) (.int .i64 0) (.int .i64 0) (.int .i64 0) (.int .i64 0) (.int .i64 0) (.int .i64 0) rfl
    clear r0 f0 r1 f1 r2 f2 r3 f3 r4 f4 r5 f5 r6 f6 rl
    refine bodyPost_ret (v := .tuple #[.agg #[.int .i64 0, .int .i64 0, .int .i64 0, .int .i64 0, .int .i64 0, .int .i64 0, .int .i64 0], .bool false]) ?_ rfl ⟨HQ.out, hkF⟩
    clear hkF
    revert p0 p1 p2 p3 p4 p5 p6
    generalize World.setCell (World.setCell _ _ _) _ _ = WW
    intro p0 p1 p2 p3 p4 p5 p6
    simp [results, Try.results15, go_sem, p0, p1, p2, p3, p4, p5, p6]
  have HC := hide (unhide H3 w3 HKr.out)
  rcases hat : atC C ch with _ | k
  · obtain ⟨q1, q2⟩ := pick_none (B := (⟨tk, nx, wa, C, Hs, R⟩ : Bk)) hat
    have HQ : Hid (Ending.returned (.tuple #[.agg #[.int .i64 0, .int .i64 0, .int .i64 0, .int .i64 0, .int .i64 0, .int .i64 0, .int .i64 0], .bool false]) = .returned (.tuple #[(pickC (⟨tk, nx, wa, C, Hs, R⟩ : Bk) ch).v, .bool (pickB (⟨tk, nx, wa, C, Hs, R⟩ : Bk) ch)])) := by show _ = _; rw [q1, q2]; rfl
    rw [atI_none hat]
    clear q1 q2 hat
    have r0 := HRr.out.cell (i := 0) (by decide)
    have f0 := HRr.out.frozen 0
    have r1 := HRr.out.cell (i := 1) (by decide)
    have f1 := HRr.out.frozen 1
    have r2 := HRr.out.cell (i := 2) (by decide)
    have f2 := HRr.out.frozen 2
    have r3 := HRr.out.cell (i := 3) (by decide)
    have f3 := HRr.out.frozen 3
    have r4 := HRr.out.cell (i := 4) (by decide)
    have f4 := HRr.out.frozen 4
    have r5 := HRr.out.cell (i := 5) (by decide)
    have f5 := HRr.out.frozen 5
    have r6 := HRr.out.cell (i := 6) (by decide)
    have f6 := HRr.out.frozen 6
    have rl := HRr.out.lt
    go_wp2_with fail
    obtain ⟨⟨p0, p1, p2, p3, p4, p5, p6⟩, hkF⟩ := res7 HRr.out HKr.out (Nat.le_succ _) (.int .i64 0) (.int .i64 0) (.int .i64 0) (.int .i64 0) (.int .i64 0) (.int .i64 0) (.int .i64 0) rfl
    clear r0 f0 r1 f1 r2 f2 r3 f3 r4 f4 r5 f5 r6 f6 rl
    refine bodyPost_ret (v := .tuple #[.agg #[.int .i64 0, .int .i64 0, .int .i64 0, .int .i64 0, .int .i64 0, .int .i64 0, .int .i64 0], .bool false]) ?_ rfl ⟨HQ.out, hkF⟩
    clear hkF
    revert p0 p1 p2 p3 p4 p5 p6
    generalize World.setCell (World.setCell _ _ _) _ _ = WW
    intro p0 p1 p2 p3 p4 p5 p6
    simp [results, Try.results15, go_sem, p0, p1, p2, p3, p4, p5, p6]
  · obtain ⟨hk, -⟩ := atC_lt hat
    obtain ⟨b, off, ea, c0, c1, c2, c3, c4, c5, c6⟩ := chs_at HC.out k hk
    obtain ⟨q1, q2⟩ := pick_some (B := (⟨tk, nx, wa, C, Hs, R⟩ : Bk)) hb hat hk
    dsimp only at q1
    have HQ : Hid (Ending.returned (.tuple #[C[k].v, .bool true]) = .returned (.tuple #[(pickC (⟨tk, nx, wa, C, Hs, R⟩ : Bk) ch).v, .bool (pickB (⟨tk, nx, wa, C, Hs, R⟩ : Bk) ch)])) := by show _ = _; rw [q1, q2]
    rw [atI_some hat]
    have hlt : b < w.heap.size := by
      obtain ⟨b2, off2, ea3, z0, -⟩ := chs_at (unhide H3 w (Keeps.refl w)) k hk
      have ea4 := Option.some.inj (ea.symm.trans ea3)
      injection ea4 with e1 e2
      subst e1
      exact lt_of_cell z0
    have hne : b ≠ w.heap.size + 1 := by omega
    have b3 := HBA.out.2.2.2.1
    dsimp only at b3
    have HEA := hide ea
    clear q1 q2 hat ea HC
    obtain rfl := HEA.out
    generalize C[k] = x at *
    obtain ⟨xid, xsz, xlo, xre, xba, xpp, xsc⟩ := x
    dsimp only [Chn.v] at *
    have r0 := HRr.out.cell (i := 0) (by decide)
    have f0 := HRr.out.frozen 0
    have r1 := HRr.out.cell (i := 1) (by decide)
    have f1 := HRr.out.frozen 1
    have r2 := HRr.out.cell (i := 2) (by decide)
    have f2 := HRr.out.frozen 2
    have r3 := HRr.out.cell (i := 3) (by decide)
    have f3 := HRr.out.frozen 3
    have r4 := HRr.out.cell (i := 4) (by decide)
    have f4 := HRr.out.frozen 4
    have r5 := HRr.out.cell (i := 5) (by decide)
    have f5 := HRr.out.frozen 5
    have r6 := HRr.out.cell (i := 6) (by decide)
    have f6 := HRr.out.frozen 6
    have rl := HRr.out.lt
    go_wp2_with fail
    obtain ⟨⟨p0, p1, p2, p3, p4, p5, p6⟩, hkF⟩ := res7 HRr.out HKr.out (Nat.le_succ _) (.int .i64 xid) (.int .i64 xsz) (.int .i64 xlo) (.int .i64 xre) (.int .i64 xba) (.int .i64 xpp) (.int .i64 xsc) rfl
    clear r0 f0 r1 f1 r2 f2 r3 f3 r4 f4 r5 f5 r6 f6 rl
    refine bodyPost_ret (v := .tuple #[.agg #[.int .i64 xid, .int .i64 xsz, .int .i64 xlo, .int .i64 xre, .int .i64 xba, .int .i64 xpp, .int .i64 xsc], .bool true]) ?_ rfl ⟨HQ.out, hkF⟩
    clear hkF
    revert p0 p1 p2 p3 p4 p5 p6
    generalize World.setCell (World.setCell _ _ _) _ _ = WW
    intro p0 p1 p2 p3 p4 p5 p6
    simp [results, Try.results15, go_sem, p0, p1, p2, p3, p4, p5, p6]
theorem new_impl (w : World) : Calls Try.prog 12 #[] w fun e w' => e = .returned (.agg #[.int .i64 0, .int .i64 1, .int .i64 0, .slice none 0 0, .slice none 0 0, .slice none 0 0]) ∧ Keeps w w' := by
  go_enter Try.func12, Try.ntmps12
  go_wp2_with fail
  refine bodyPost_ret (v := .agg #[.int .i64 0, .int .i64 1, .int .i64 0, .slice none 0 0, .slice none 0 0, .slice none 0 0]) (by simp [results, Try.results12, go_sem]) rfl ⟨rfl, ?_⟩
  repeat (first | exact Keeps.refl _ | refine Keeps.alloc ?_ _ | refine Keeps.setCell ?_ (by simp) _)
theorem new_spec (w : World) : Calls Try.prog 11 #[] w fun e w' => e = .returned (.agg #[.int .i64 0, .int .i64 1, .int .i64 0, .slice none 0 0, .slice none 0 0, .slice none 0 0]) ∧ Keeps w w' := by
  go_enter Try.func11, Try.ntmps11
  go_wp2_with fail
  refine bodyPost_ret (v := .agg #[.int .i64 0, .int .i64 1, .int .i64 0, .slice none 0 0, .slice none 0 0, .slice none 0 0]) (by simp [results, Try.results11, go_sem]) rfl ⟨rfl, ?_⟩
  repeat (first | exact Keeps.refl _ | refine Keeps.alloc ?_ _ | refine Keeps.setCell ?_ (by simp) _)
end Go.Proofs.Ytfpgalpfidkngaa
