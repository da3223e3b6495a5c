/- The model's draws of a ledger and a posting: DrawPost. -/
import Derived.Test.YtecjjkgdgmjgmaaDrP
import Derived.Deep.RegionWith
namespace Go.Proofs.Ytecjjkgdgmjgmaa
open Go.RowKit Go.Deep
set_option linter.unusedVariables false
set_option linter.unusedSimpArgs false
attribute [local go_sem ↓] Go.wp_at_zero Go.wp_at_succ
theorem set2_cell {W : World} {p : Addr} {v : Value} {b : Nat} {x y : Value} (hb : p.block ≠ b) (h : W.cell? p = some v) : ((W.setCell ⟨b, 0, none⟩ x).setCell ⟨b, 1, none⟩ y).cell? p = some v := by
  rw [World.cell?_setCell_other _ _ _ _ (fun e => hb (by rw [← e])), World.cell?_setCell_other _ _ _ _ (fun e => hb (by rw [← e]))]
  exact h
theorem set2_drew {W : World} {p : Addr} {v : Value} {b : Nat} {x y : Value} (hb : p.block ≠ b) (h : W.cell? p = some v) : ((W.setCell ⟨b, 0, none⟩ x).setCell ⟨b, 1, none⟩ y).drew.cell? p = some v := set2_cell hb h
theorem LSt.turnB {W W' : World} {base Lb : Nat} {id : Int} {a : Option Addr} {cap : Nat} {M : List Ln} (s : LSt base Lb id a cap M W) {B : Nat} (g : Turn [B] W W') (hB : B < base) : LSt base Lb id a cap M W' :=
  ⟨s.row.of_block (g.block Lb s.row.lt (by have := s.new; simp; omega)), s.own.turn g (fun b hb hx => by have := (s.far b hb).1; have h2 : b = B := (by simpa using hx); omega), s.far, s.nil, s.new, s.fit⟩
theorem own_born {w' : World} {base : Nat} {p : Option Addr} {c : Nat} {L : List Ln} (h : OwnsL w' base (.slice p L.length c) L) : Own w' [(p, flat L)] ∧ (p = none → c = 0) ∧ L.length ≤ c ∧ ∀ b ∈ fp [(p, flat L)], base ≤ b := by
  obtain ⟨a, c', e, hl, _, hn, ho, hb⟩ := Own.of_owns h
  injection e with e1 e2 e3
  subst e1 e3
  exact ⟨ho, hn, hl, hb⟩
/-- While a posting is drawn: its variable's block, its lines. -/
structure QSt (base : Nat) (Lb : Nat) (id : Int) (a : Option Addr) (cap : Nat) (M : List Ln) (W : World) : Prop where
  row : W.rowIs Lb 27 2 (fun i : Nat => if i = 0 then .int .i64 id else .slice a M.length cap)
  own : Own W [(a, flat M)]
  far : ∀ b ∈ fp [(a, flat M)], base ≤ b ∧ b ≠ Lb
  nil : a = none → cap = 0
  new : base ≤ Lb
  fit : M.length ≤ cap
theorem QSt.turnB {W W' : World} {base Lb : Nat} {id : Int} {a : Option Addr} {cap : Nat} {M : List Ln} (s : QSt base Lb id a cap M W) {B : Nat} (g : Turn [B] W W') (hB : B < base) : QSt base Lb id a cap M W' :=
  ⟨s.row.of_block (g.block Lb s.row.lt (by have := s.new; simp; omega)), s.own.turn g (fun b hb hx => by have := (s.far b hb).1; have h2 : b = B := (by simpa using hx); omega), s.far, s.nil, s.new, s.fit⟩
/-- A ledger and a posting that were drawn. -/
def DrawnLP (w w' : World) (e : Ending) : Prop := ∃ (id pid : Int) (p pp : Option Addr) (c pc : Nat) (L P : List Ln), L.length ≤ 320 ∧ P.length ≤ 8 ∧ e = .returned (.tuple #[.agg #[.int .i64 id, .slice p L.length c], .agg #[.int .i64 pid, .slice pp P.length pc]]) ∧ Hid ((p = none → c = 0) ∧ (pp = none → pc = 0) ∧ Own w' [(p, flat L)] ∧ Own w' [(pp, flat P)] ∧ L.length ≤ c ∧ P.length ≤ pc) ∧ Keeps w w'
theorem drawn_done {w W : World} {S3 Lb Nb : Nat} {id pid : Int} {av pp : Option Addr} {cv pc : Nat} {M P : List Ln} (hL : LSt (w.heap.size + 3) Lb id av cv M W) (hQ : QSt S3 Nb pid pp pc P W) (hm : M.length ≤ 320) (hp : P.length ≤ 8) (hK : Keeps w W) (hs : w.heap.size + 3 ≤ S3) :
    DrawnLP w ((((W.setCell ⟨w.heap.size, 0, none⟩ (.int .i64 id)).setCell ⟨w.heap.size, 1, none⟩ (.slice av M.length cv)).setCell ⟨w.heap.size + 1, 0, none⟩ (.int .i64 pid)).setCell ⟨w.heap.size + 1, 1, none⟩ (.slice pp P.length pc)).drew (.returned (.tuple #[.agg #[.int .i64 id, .slice av M.length cv], .agg #[.int .i64 pid, .slice pp P.length pc]])) := by
  have hT : Turn [w.heap.size, w.heap.size + 1] W ((((W.setCell ⟨w.heap.size, 0, none⟩ (.int .i64 id)).setCell ⟨w.heap.size, 1, none⟩ (.slice av M.length cv)).setCell ⟨w.heap.size + 1, 0, none⟩ (.int .i64 pid)).setCell ⟨w.heap.size + 1, 1, none⟩ (.slice pp P.length pc)) :=
    (((Turn.set (by simp) _).trans' (Turn.set (by simp) _)).trans' (Turn.set (by simp) _)).trans' (Turn.set (by simp) _)
  have hin : ∀ b ∈ [w.heap.size, w.heap.size + 1], b = w.heap.size ∨ b = w.heap.size + 1 := fun b hb => by simpa using hb
  have hd : Keeps _ (World.drew _) := (Keeps.refl ((((W.setCell ⟨w.heap.size, 0, none⟩ (.int .i64 id)).setCell ⟨w.heap.size, 1, none⟩ (.slice av M.length cv)).setCell ⟨w.heap.size + 1, 0, none⟩ (.int .i64 pid)).setCell ⟨w.heap.size + 1, 1, none⟩ (.slice pp P.length pc))).drew
  refine ⟨id, pid, av, pp, cv, pc, M, P, hm, hp, rfl, ⟨hL.nil, hQ.nil, (hL.own.turn hT fun b hb hx => ?_).kept hd, (hQ.own.turn hT fun b hb hx => ?_).kept hd, hL.fit, hQ.fit⟩, (Turn.keeps hT hK fun b hb => ?_).trans hd⟩
  · have h1 := (hL.far b hb).1
    have h2 := hin b hx
    omega
  · have h1 := (hQ.far b hb).1
    have h2 := hin b hx
    omega
  · have h2 := hin b hb
    omega
theorem drawn_cells {W : World} {b : Nat} {id pid : Int} {av pp : Option Addr} {n cv m pc : Nat} {x y : Nat → Value} (hC : W.rowIs b 25 2 x) (hD : W.rowIs (b + 1) 27 2 y) :
    ((((W.setCell ⟨b, 0, none⟩ (.int .i64 id)).setCell ⟨b, 1, none⟩ (.slice av n cv)).setCell ⟨b + 1, 0, none⟩ (.int .i64 pid)).setCell ⟨b + 1, 1, none⟩ (.slice pp m pc)).drew.cell? ⟨b, 0, none⟩ = some (.int .i64 id)
    ∧ ((((W.setCell ⟨b, 0, none⟩ (.int .i64 id)).setCell ⟨b, 1, none⟩ (.slice av n cv)).setCell ⟨b + 1, 0, none⟩ (.int .i64 pid)).setCell ⟨b + 1, 1, none⟩ (.slice pp m pc)).drew.cell? ⟨b, 1, none⟩ = some (.slice av n cv)
    ∧ ((((W.setCell ⟨b, 0, none⟩ (.int .i64 id)).setCell ⟨b, 1, none⟩ (.slice av n cv)).setCell ⟨b + 1, 0, none⟩ (.int .i64 pid)).setCell ⟨b + 1, 1, none⟩ (.slice pp m pc)).drew.cell? ⟨b + 1, 0, none⟩ = some (.int .i64 pid)
    ∧ ((((W.setCell ⟨b, 0, none⟩ (.int .i64 id)).setCell ⟨b, 1, none⟩ (.slice av n cv)).setCell ⟨b + 1, 0, none⟩ (.int .i64 pid)).setCell ⟨b + 1, 1, none⟩ (.slice pp m pc)).drew.cell? ⟨b + 1, 1, none⟩ = some (.slice pp m pc) := by
  have r1 := ((row_two hC (.int .i64 id) (.slice av n cv)).setOther (a := ⟨b + 1, 0, none⟩) (by simp) (.int .i64 pid)).setOther (a := ⟨b + 1, 1, none⟩) (by simp) (.slice pp m pc)
  have r2 := row_two ((hD.setOther (a := ⟨b, 0, none⟩) (by simp) (.int .i64 id)).setOther (a := ⟨b, 1, none⟩) (by simp) (.slice av n cv)) (.int .i64 pid) (.slice pp m pc)
  have s1 := Keeps.row ((Keeps.refl _).drew) r1
  have s2 := Keeps.row ((Keeps.refl _).drew) r2
  have o0 := s1.cell (i := 0) (by decide)
  have o1 := s1.cell (i := 1) (by decide)
  have o2 := s2.cell (i := 0) (by decide)
  have o3 := s2.cell (i := 1) (by decide)
  simp only [if_true, Nat.one_ne_zero, if_false] at o0 o1 o2 o3
  exact ⟨o0, o1, o2, o3⟩
set_option maxRecDepth 100000 in
set_option maxHeartbeats 16000000 in
theorem draw_post (a : Option Addr) (len cap : Nat) (w : World) (hr : RowAt w.heap.size w a len) (hl : len ≤ 1048576) :
    Calls Try.prog 8 #[.slice a len cap] w fun e w' => DrawnLP w w' e := by
  have HK0 := hide (Keeps.alloc (Keeps.alloc (Keeps.refl w) (.cells #[.int .i64 0, .slice none 0 0] 25)) (.cells #[.int .i64 0, .slice none 0 0] 27))
  have HRw : Hid (RowAt ((w.alloc (.cells #[.int .i64 0, .slice none 0 0] 25)).alloc (.cells #[.int .i64 0, .slice none 0 0] 27)).heap.size ((w.alloc (.cells #[.int .i64 0, .slice none 0 0] 25)).alloc (.cells #[.int .i64 0, .slice none 0 0] 27)) a len) := RowAt.monoQ (hr.below HK0.out) HK0.out.size
  have HR1 := hide (Keeps.row (Keeps.alloc (Keeps.refl _) (.cells #[.int .i64 0, .slice none 0 0] 27)) (row_zero w (.int .i64 0) (.slice none 0 0) 25))
  have HR2 : Hid (((w.alloc (.cells #[.int .i64 0, .slice none 0 0] 25)).alloc (.cells #[.int .i64 0, .slice none 0 0] 27)).rowIs (w.heap.size + 1) 27 2 (fun i : Nat => if i = 0 then .int .i64 0 else .slice none 0 0)) := by
    have r := row_zero (w.alloc (.cells #[.int .i64 0, .slice none 0 0] 25)) (.int .i64 0) (.slice none 0 0) 27
    rw [World.size_alloc] at r
    exact r
  clear hr
  go_enter Try.func8, Try.ntmps8
  go_wp2_with fail
  refine (new_any a len cap _ HRw.out hl).mono ?_
  rintro x w1 ⟨he, s1, hk1⟩
  have he1 : x = .returned (.pointer (some ⟨w.heap.size + 2, 0, none⟩)) := by rw [he]; simp
  clear he
  subst he1
  have hz : ((w.alloc (.cells #[.int .i64 0, .slice none 0 0] 25)).alloc (.cells #[.int .i64 0, .slice none 0 0] 27)).heap.size = w.heap.size + 2 := by simp
  have hz1 := hk1.size
  rw [hz] at s1 hz1
  have HS1 := hide s1
  have HK1 := hide (HK0.out.trans hk1)
  have HRa := hide (Keeps.row hk1 HR1.out)
  have HRb := hide (Keeps.row hk1 HR2.out)
  have hlt1 := s1.lt
  clear s1 hk1 HRw HR1 HR2 hz HK0
  go_wp2_with fail
  refine (anyledger_any HS1.out).mono ?_
  rintro e w2 ⟨⟨id, av, cv, M, hm, rfl, hn, hb, hcv⟩, s2, g2⟩
  have hz2 := g2.size
  have HA := hide (Keeps.alloc (Keeps.refl w2) (.cells #[.int .i64 id, .slice av M.length cv] 25))
  have HL : Hid (LSt (w.heap.size + 3) w2.heap.size id av cv M (w2.alloc (.cells #[.int .i64 id, .slice av M.length cv] 25))) :=
    ⟨row_zero w2 (.int .i64 id) (.slice av M.length cv) 25, hb.toOwn.kept HA.out, fun b hb' => by have h1 := hb.new b hb'; have h2 := hb.mem.lt b hb'; omega, hn, by omega, hcv⟩
  have HS := hide (s2.grown (row := none) (HA.out.grows none) (by simp) (by simp))
  have HK2 := hide ((keeps_of HK1.out g2 (by intro r hr; injection hr with hr; omega)).trans HA.out)
  have HRc := hide (Keeps.row HA.out (grown_row g2 (by intro e; injection e with e; omega) HRa.out))
  have HRd := hide (Keeps.row HA.out (grown_row g2 (by intro e; injection e with e; omega) HRb.out))
  clear s2 g2 hb hn hcv HS1 HK1 HRa HRb HA
  go_wp2_with fail
  generalize hB : w.heap.size + 2 = B at *
  generalize w2.heap.size = Lb at *
  generalize w2.alloc (.cells #[.int .i64 id, .slice av M.length cv] 25) = w3 at *
  have q0 := HL.out.row.cell (i := 0) (by decide)
  have lL := HL.out.row.lt
  have hLb := HL.out.new
  have HLt := hide HL.out.own.mem.lt
  simp at q0
  go_region_held3 (fun w' => w'.cell? ⟨Lb, 0, none⟩ = some (.int .i64 id))
    (first | go_keep | (rw [World.cell?_setCell_other _ _ _ _ (by simp <;> omega), World.cell?_setCell_other _ _ _ _ (by simp <;> omega)]; assumption))
    (first
       | (go_at_call 38
          first
             | (refine (below_any 8 (HS.out.grown (row := none) (((Keeps.refl w3).drew).grows none) (by simp) (by simp)) (by omega) (by omega)).mono ?_
                rintro e w4 ⟨⟨x, x0, x3, rfl⟩, s4, g4⟩
                have h34 : w3.heap.size ≤ w4.heap.size := Nat.le_trans ((Keeps.refl w3).drew).size g4.size
                have HS4 := hide s4
                have HT4 := hide ((Turn.of_keeps ((Keeps.refl w3).drew) [B]).trans' (Turn.of_grown (fs := [B]) g4 (by simp)))
                have HL4 := hide (HL.out.turnB HT4.out (by omega))
                have t0 := HL4.out.row.cell (i := 0) (by decide)
                have lL4 := HL4.out.row.lt
                simp at t0
                clear s4 g4)
             | (refine (below_any 8 (HS.out.grown (row := none) (((Keeps.alloc (Keeps.refl w3) (.cells #[.int .i64 0, .slice none 0 0] 27)).drew).grows none) (by simp) (by simp)) (by omega) (by omega)).mono ?_
                rintro e w4 ⟨⟨x, x0, x3, rfl⟩, s4, g4⟩
                have h34 : w3.heap.size ≤ w4.heap.size := Nat.le_trans ((Keeps.alloc (Keeps.refl w3) (.cells #[.int .i64 0, .slice none 0 0] 27)).drew).size g4.size
                have h34n : w3.heap.size + 1 ≤ w4.heap.size := by have h := g4.size; simp [World.drew] at h; omega
                have HS4 := hide s4
                have HT4 := hide ((Turn.of_keeps ((Keeps.alloc (Keeps.refl w3) (.cells #[.int .i64 0, .slice none 0 0] 27)).drew) [B]).trans' (Turn.of_grown (fs := [B]) g4 (by simp)))
                have HRV := hide (grown_row g4 (by intro e; injection e with e; omega) (Keeps.row ((Keeps.refl _).drew) (row_zero w3 (.int .i64 0) (.slice none 0 0) 27)))
                have HL4 := hide (HL.out.turnB HT4.out (by omega))
                have t0 := HL4.out.row.cell (i := 0) (by decide)
                have lL4 := HL4.out.row.lt
                simp at t0
                clear s4 g4)
         )
       | (go_at_call 37
          first
             | (have hrv := HRV.out
                clear hrv
                refine (posting_any _ (HS4.out.grown (row := none) ((Keeps.refl w4).grows none) (by simp) (by simp))).mono ?_
                rintro e w5 ⟨⟨pp, pl, pc, P, hp8, rfl, HO⟩, s5, g5⟩
                obtain ⟨rfl, hpo⟩ := HO.out
                have h45 : w4.heap.size ≤ w5.heap.size := Nat.le_trans (Keeps.refl w4).size g5.size
                have HS5 := hide s5
                have HT5 := hide (HT4.out.trans' ((Turn.of_keeps (Keeps.refl w4) [B]).trans' (Turn.of_grown (fs := [B]) g5 (by simp))))
                have HL5 := hide (HL.out.turnB HT5.out (by omega))
                have HP5 := hide (own_born hpo)
                replace HRV := hide (grown_row g5 (by intro e; injection e with e; omega) HRV.out)
                have HVB := hide (fun b (hb1 : _ ∈ fp [(pp, flat P)]) => HP5.out.2.2.2 b hb1)
                have r0 := HL5.out.row.cell (i := 0) (by decide)
                have lL5 := HL5.out.row.lt
                simp at r0
                have zV0 := HRV.out.cell (i := 0) (by decide)
                have zV1 := HRV.out.cell (i := 1) (by decide)
                have fV0 := HRV.out.frozen 0
                have fV1 := HRV.out.frozen 1
                have lV := HRV.out.lt
                simp at zV0 zV1
                clear s5 g5 hpo HO)
             | (refine (posting_any _ (HS4.out.grown (row := none) ((Keeps.refl w4).grows none) (by simp) (by simp))).mono ?_
                rintro e w5 ⟨⟨pp, pl, pc, P, hp8, rfl, HO⟩, s5, g5⟩
                obtain ⟨rfl, hpo⟩ := HO.out
                have h45 : w4.heap.size ≤ w5.heap.size := Nat.le_trans (Keeps.refl w4).size g5.size
                have HS5 := hide s5
                have HT5 := hide (HT4.out.trans' ((Turn.of_keeps (Keeps.refl w4) [B]).trans' (Turn.of_grown (fs := [B]) g5 (by simp))))
                have HL5 := hide (HL.out.turnB HT5.out (by omega))
                have HP5 := hide (own_born hpo)
                have r0 := HL5.out.row.cell (i := 0) (by decide)
                have lL5 := HL5.out.row.lt
                simp at r0
                clear s5 g5 hpo HO)
             | (refine (posting_any _ (HS4.out.grown (row := none) ((Keeps.alloc (Keeps.refl w4) (.cells #[.int .i64 0, .slice none 0 0] 27)).grows none) (by simp) (by simp))).mono ?_
                rintro e w5 ⟨⟨pp, pl, pc, P, hp8, rfl, HO⟩, s5, g5⟩
                obtain ⟨rfl, hpo⟩ := HO.out
                have h45 : w4.heap.size ≤ w5.heap.size := Nat.le_trans (Keeps.alloc (Keeps.refl w4) (.cells #[.int .i64 0, .slice none 0 0] 27)).size g5.size
                have HS5 := hide s5
                have HT5 := hide (HT4.out.trans' ((Turn.of_keeps (Keeps.alloc (Keeps.refl w4) (.cells #[.int .i64 0, .slice none 0 0] 27)) [B]).trans' (Turn.of_grown (fs := [B]) g5 (by simp))))
                have HL5 := hide (HL.out.turnB HT5.out (by omega))
                have HP5 := hide (own_born hpo)
                have HRV := hide (grown_row g5 (by intro e; injection e with e; omega) (row_zero w4 (.int .i64 0) (.slice none 0 0) 27))
                have HVB := hide (fun b (hb1 : _ ∈ fp [(pp, flat P)]) => HP5.out.2.2.2 b hb1)
                have r0 := HL5.out.row.cell (i := 0) (by decide)
                have lL5 := HL5.out.row.lt
                simp at r0
                have zV0 := HRV.out.cell (i := 0) (by decide)
                have zV1 := HRV.out.cell (i := 1) (by decide)
                have fV0 := HRV.out.frozen 0
                have fV1 := HRV.out.frozen 1
                have lV := HRV.out.lt
                simp at zV0 zV1
                clear s5 g5 hpo HO)
         ))

  all_goals
    have HRc5 := hide (HRc.out.of_block (HT5.out.block w.heap.size HRc.out.lt (by simp; omega)))
    have HRd5 := hide (HRd.out.of_block (HT5.out.block (w.heap.size + 1) HRd.out.lt (by simp; omega)))
    have lc5 := HRc5.out.lt
    have ld5 := HRd5.out.lt
    obtain ⟨S3, hS3⟩ : ∃ n, n = w3.heap.size := ⟨_, rfl⟩
    clear q0 t0 r0
    generalize (IntKind.i64.wrap (IntKind.i64.wrap (id + 1) - IntKind.i64.wrap (x.tdiv 7))) = pid at *
    first
      | (have hrv : w5.rowIs w3.heap.size _ _ _ := HRV.out
         have hlv := hrv.lt
         obtain ⟨Nb, hNb⟩ : ∃ n, n = w3.heap.size := ⟨_, rfl⟩
         rw [← hNb] at hrv hlv ⊢
         have hT : Turn [Nb] w5 ((w5.setCell ⟨Nb, 0, none⟩ (.int .i64 pid)).setCell ⟨Nb, 1, none⟩ (.slice pp P.length pc)) := (Turn.set (by simp) _).trans' (Turn.set (by simp) _)
         have hL7 := (HL5.out.set (N := Nb) (o := 0) (by omega) (fun b hb e => by have := HLt.out b hb; omega) (.int .i64 pid)).set (N := Nb) (o := 1) (by omega) (fun b hb e => by have := HLt.out b hb; omega) (.slice pp P.length pc)
         have hVB : ∀ b ∈ fp [(pp, flat P)], Nb < b := fun b hb => by have h1 := HVB.out b hb; (try simp at h1); omega
         have hQ7 : QSt S3 Nb pid pp pc P ((w5.setCell ⟨Nb, 0, none⟩ (.int .i64 pid)).setCell ⟨Nb, 1, none⟩ (.slice pp P.length pc)) :=
           ⟨row_two hrv _ _, HP5.out.1.turn hT (fun b hb hx => by have h1 := hVB b hb; have h2 : b = Nb := (by simpa using hx); omega), fun b hb => by have h1 := hVB b hb; omega, HP5.out.2.1, by omega, HP5.out.2.2.1⟩
         have hS7 := (HS5.out.setL (b := Nb) (o := 0) (by omega) (by omega) (.int .i64 pid)).setL (b := Nb) (o := 1) (by omega) (by omega) (.slice pp P.length pc)
         have hK7 : Keeps w _ := Turn.keeps hT (HT5.out.keeps HK2.out (fun b hb => by have h2 : b = B := (by simpa using hb); omega)) (fun b hb => by have h2 : b = Nb := (by simpa using hb); omega)
         have hc7 := (HRc5.out.setOther (a := ⟨Nb, 0, none⟩) (by simp; omega) (.int .i64 pid)).setOther (a := ⟨Nb, 1, none⟩) (by simp; omega) (.slice pp P.length pc)
         have hd7 := (HRd5.out.setOther (a := ⟨Nb, 0, none⟩) (by simp; omega) (.int .i64 pid)).setOther (a := ⟨Nb, 1, none⟩) (by simp; omega) (.slice pp P.length pc)
         clear zV0 zV1 fV0 fV1 lV HRV HVB hrv hlv hT hVB hNb
         generalize (w5.setCell ⟨Nb, 0, none⟩ (.int .i64 pid)).setCell ⟨Nb, 1, none⟩ (.slice pp P.length pc) = V7 at *)
      | (have hrv : w5.rowIs w4.heap.size _ _ _ := HRV.out
         have hlv := hrv.lt
         obtain ⟨Nb, hNb⟩ : ∃ n, n = w4.heap.size := ⟨_, rfl⟩
         rw [← hNb] at hrv hlv ⊢
         have hT : Turn [Nb] w5 ((w5.setCell ⟨Nb, 0, none⟩ (.int .i64 pid)).setCell ⟨Nb, 1, none⟩ (.slice pp P.length pc)) := (Turn.set (by simp) _).trans' (Turn.set (by simp) _)
         have hL7 := (HL5.out.set (N := Nb) (o := 0) (by omega) (fun b hb e => by have := HLt.out b hb; omega) (.int .i64 pid)).set (N := Nb) (o := 1) (by omega) (fun b hb e => by have := HLt.out b hb; omega) (.slice pp P.length pc)
         have hVB : ∀ b ∈ fp [(pp, flat P)], Nb < b := fun b hb => by have h1 := HVB.out b hb; (try simp at h1); omega
         have hQ7 : QSt S3 Nb pid pp pc P ((w5.setCell ⟨Nb, 0, none⟩ (.int .i64 pid)).setCell ⟨Nb, 1, none⟩ (.slice pp P.length pc)) :=
           ⟨row_two hrv _ _, HP5.out.1.turn hT (fun b hb hx => by have h1 := hVB b hb; have h2 : b = Nb := (by simpa using hx); omega), fun b hb => by have h1 := hVB b hb; omega, HP5.out.2.1, by omega, HP5.out.2.2.1⟩
         have hS7 := (HS5.out.setL (b := Nb) (o := 0) (by omega) (by omega) (.int .i64 pid)).setL (b := Nb) (o := 1) (by omega) (by omega) (.slice pp P.length pc)
         have hK7 : Keeps w _ := Turn.keeps hT (HT5.out.keeps HK2.out (fun b hb => by have h2 : b = B := (by simpa using hb); omega)) (fun b hb => by have h2 : b = Nb := (by simpa using hb); omega)
         have hc7 := (HRc5.out.setOther (a := ⟨Nb, 0, none⟩) (by simp; omega) (.int .i64 pid)).setOther (a := ⟨Nb, 1, none⟩) (by simp; omega) (.slice pp P.length pc)
         have hd7 := (HRd5.out.setOther (a := ⟨Nb, 0, none⟩) (by simp; omega) (.int .i64 pid)).setOther (a := ⟨Nb, 1, none⟩) (by simp; omega) (.slice pp P.length pc)
         clear zV0 zV1 fV0 fV1 lV HRV HVB hrv hlv hT hVB hNb
         generalize (w5.setCell ⟨Nb, 0, none⟩ (.int .i64 pid)).setCell ⟨Nb, 1, none⟩ (.slice pp P.length pc) = V7 at *)
      | (have kV := Keeps.alloc (Keeps.refl w5) (.cells #[.int .i64 pid, .slice pp P.length pc] 27)
         have hL7 := HL5.out.kept kV
         have hQ7 : QSt S3 w5.heap.size pid pp pc P (w5.alloc (.cells #[.int .i64 pid, .slice pp P.length pc] 27)) :=
           ⟨row_zero w5 (.int .i64 pid) (.slice pp P.length pc) 27, HP5.out.1.kept kV, fun b hb => by have h1 := HP5.out.2.2.2 b hb; have h2 := HP5.out.1.mem.lt b hb; omega, HP5.out.2.1, by omega, HP5.out.2.2.1⟩
         have hS7 := HS5.out.grown (row := none) (kV.grows none) (by simp) (by simp)
         have hK7 := (HT5.out.keeps HK2.out (fun b hb => by have h2 : b = B := (by simpa using hb); omega)).trans kV
         have hc7 := Keeps.row kV HRc5.out
         have hd7 := Keeps.row kV HRd5.out
         clear kV
         generalize w5.alloc (.cells #[.int .i64 pid, .slice pp P.length pc] 27) = V7 at *
         generalize w5.heap.size = Nb at hQ7 ⊢)
    have HL7 := hide hL7
    have HQ7 := hide hQ7
    have HS7 := hide hS7
    have HK7 := hide hK7
    have HC7 := hide hc7
    have HD7 := hide hd7
    have hNs := hQ7.new
    have hLS : Lb < S3 := by omega
    have HLS : Hid (∀ b ∈ fp [(av, flat M)], b < S3) := fun b hb => by have := HLt.out b hb; omega
    clear hL7 hQ7 hS7 hK7 hc7 hd7 HL5 HP5 HS5 HT5 HT4 HL4 HS4 HL HS HK2 HRc HRd HRc5 HRd5 HLt
    go_wp2_with fail
    refine (below_any 10 HS7.out (by omega) (by omega)).mono ?_
    rintro e w8 ⟨⟨k, k0, k10, rfl⟩, s8, g8⟩
    have hT8 := Turn.of_grown (fs := [B]) g8 (by simp)
    have HS8 := hide s8
    have HL8 := hide (HL7.out.turnB hT8 (by omega))
    have HQ8 := hide (HQ7.out.turnB hT8 (by omega))
    have HC8 := hide (HC7.out.of_block (hT8.block w.heap.size HC7.out.lt (by simp; omega)))
    have HD8 := hide (HD7.out.of_block (hT8.block (w.heap.size + 1) HD7.out.lt (by simp; omega)))
    have HK8 := hide (hT8.keeps HK7.out (fun b hb => by have h2 : b = B := (by simpa using hb); omega))
    clear s8 g8 hT8 HS7 HL7 HQ7 HC7 HD7 HK7
    have lL8 := HL8.out.row.lt
    have lN8 := HQ8.out.row.lt
    by_cases e0 : k = 0
    · subst e0
      have y1 := HQ8.out.row.cell (i := 1) (by decide)
      simp at y1
      go_wp2_with fail
      refine (any_any pp pc P HS8.out HQ8.out.own (fun b hb => by have h1 := (HQ8.out.far b hb).1; have h2 := HS8.out.le; omega) (by omega) HQ8.out.fit).mono ?_
      rintro e w9 ⟨⟨P', hP', rfl, ho9, ht9⟩, s9⟩
      have hfs : ∀ b ∈ B :: fp [(pp, flat P)], b = B ∨ S3 ≤ b := fun b hb => by
        rcases List.mem_cons.1 hb with h | h
        · exact .inl h
        · exact .inr (HQ8.out.far b h).1
      have hNn : Nb ∉ B :: fp [(pp, flat P)] := fun hx => by
        rcases List.mem_cons.1 hx with h | h
        · omega
        · exact (HQ8.out.far Nb h).2 rfl
      have hrow9 : w9.rowIs Nb 27 2 (fun i : Nat => if i = 0 then .int .i64 pid else .slice pp P.length pc) := HQ8.out.row.of_block (ht9.block Nb HQ8.out.row.lt hNn)
      have hL9 : LSt (w.heap.size + 3) Lb id av cv M w9 := ⟨HL8.out.row.of_block (ht9.block Lb HL8.out.row.lt (fun hx => by rcases hfs _ hx with h | h <;> omega)), HL8.out.own.turn ht9 (fun b hb hx => by have h1 := HLS.out b hb; have h2 := (HL8.out.far b hb).1; rcases hfs _ hx with h | h <;> omega), HL8.out.far, HL8.out.nil, HL8.out.new, HL8.out.fit⟩
      have HL9 := hide (hL9.set (N := Nb) (o := 1) (by omega) (fun b hb e => by have := HLS.out b hb; omega) (.slice pp P'.length pc))
      have HQ9 : Hid (QSt S3 Nb pid pp pc P' (w9.setCell ⟨Nb, 1, none⟩ (.slice pp P'.length pc))) :=
        ⟨(hrow9.set 1 (.slice pp P'.length pc)).congr (fun i hi => by match i, hi with | 0, _ => simp | 1, _ => simp), ho9.turn (Turn.set (fs := [Nb]) (by simp) _) (fun b hb hx => (HQ8.out.far b (fp_take hP' b hb)).2 (by simpa using hx)), fun b hb => HQ8.out.far b (fp_take hP' b hb), HQ8.out.nil, HQ8.out.new, Nat.le_trans hP' HQ8.out.fit⟩
      have HC9 := hide ((HC8.out.of_block (ht9.block w.heap.size HC8.out.lt (fun hx => by rcases hfs _ hx with h | h <;> omega))).setOther (a := ⟨Nb, 1, none⟩) (by simp; omega) (.slice pp P'.length pc))
      have HD9 := hide ((HD8.out.of_block (ht9.block (w.heap.size + 1) HD8.out.lt (fun hx => by rcases hfs _ hx with h | h <;> omega))).setOther (a := ⟨Nb, 1, none⟩) (by simp; omega) (.slice pp P'.length pc))
      have HK9 := hide (Turn.keeps ((Turn.set (by simp) _ : Turn [Nb] w9 (w9.setCell ⟨Nb, 1, none⟩ (.slice pp P'.length pc)))) (ht9.keeps HK8.out (fun b hb => by rcases hfs _ hb with h | h <;> omega)) (fun b hb => by have h2 : b = Nb := (by simpa using hb); omega))
      have z1 := hrow9.cell (i := 1) (by decide)
      have zf1 := hrow9.frozen 1
      simp at z1
      have hp9 : P'.length ≤ 8 := by omega
      clear y1 ho9 ht9 s9 hfs hNn hrow9 hL9 HL8 HQ8 HC8 HD8 HK8 HS8 HLS
      go_wp2_with fail
      generalize w9.setCell ⟨Nb, 1, none⟩ (.slice pp P'.length pc) = W9 at *
      clear z1 zf1
      have a0 := HL9.out.row.cell (i := 0) (by decide)
      have a1 := HL9.out.row.cell (i := 1) (by decide)
      have b0 := HQ9.out.row.cell (i := 0) (by decide)
      have b1 := HQ9.out.row.cell (i := 1) (by decide)
      have c0 := HC9.out.cell (i := 0) (by decide)
      have c1 := HC9.out.cell (i := 1) (by decide)
      have cf0 := HC9.out.frozen 0
      have cf1 := HC9.out.frozen 1
      have d0 := HD9.out.cell (i := 0) (by decide)
      have d1 := HD9.out.cell (i := 1) (by decide)
      have df0 := HD9.out.frozen 0
      have df1 := HD9.out.frozen 1
      have lL9 := HL9.out.row.lt
      have lN9 := HQ9.out.row.lt
      simp at a0 a1 b0 b1 c0 c1 d0 d1
      try go_wp2_with fail
      go_region_with (fail)
      all_goals
        clear a0 a1 b0 b1 c0 c1 d0 d1 cf0 cf1 df0 df1
        go_wp2_with fail
        refine bodyPost_ret (v := .tuple #[.agg #[.int .i64 id, .slice av M.length cv], .agg #[.int .i64 pid, .slice pp P'.length pc]]) ?_ rfl (drawn_done HL9.out HQ9.out hm (hp9) HK9.out (by omega))
        obtain ⟨o0, o1, o2, o3⟩ := drawn_cells (id := id) (pid := pid) (av := av) (pp := pp) (n := M.length) (cv := cv) (m := P'.length) (pc := pc) HC9.out HD9.out
        revert o0 o1 o2 o3
        generalize World.drew _ = W'
        intro o0 o1 o2 o3
        simp [results, Try.results8, go_sem, o0, o1, o2, o3]
    · by_cases e1 : k = 1
      · subst e1
        go_wp2_with fail
        refine (raw_any HS8.out).mono ?_
        rintro e w9 ⟨⟨n, rfl⟩, s9, g9⟩
        have hT9 := Turn.of_grown (fs := [B]) g9 (by simp)
        have hQ9 := HQ8.out.turnB hT9 (by omega)
        have HL9 := hide ((HL8.out.turnB hT9 (by omega)).set (N := Nb) (o := 0) (by omega) (fun b hb e => by have := HLS.out b hb; omega) (.int .i64 n))
        have HQ9 : Hid (QSt S3 Nb n pp pc P (w9.setCell ⟨Nb, 0, none⟩ (.int .i64 n))) :=
          ⟨(hQ9.row.set 0 (.int .i64 n)).congr (fun i hi => by match i, hi with | 0, _ => simp | 1, _ => simp), hQ9.own.turn (Turn.set (fs := [Nb]) (by simp) _) (fun b hb hx => (hQ9.far b hb).2 (by simpa using hx)), hQ9.far, hQ9.nil, hQ9.new, hQ9.fit⟩
        have HC9 := hide ((HC8.out.of_block (hT9.block w.heap.size HC8.out.lt (by simp; omega))).setOther (a := ⟨Nb, 0, none⟩) (by simp; omega) (.int .i64 n))
        have HD9 := hide ((HD8.out.of_block (hT9.block (w.heap.size + 1) HD8.out.lt (by simp; omega))).setOther (a := ⟨Nb, 0, none⟩) (by simp; omega) (.int .i64 n))
        have HK9 := hide (Turn.keeps ((Turn.set (by simp) _ : Turn [Nb] w9 (w9.setCell ⟨Nb, 0, none⟩ (.int .i64 n)))) (hT9.keeps HK8.out (fun b hb => by have h2 : b = B := (by simpa using hb); omega)) (fun b hb => by have h2 : b = Nb := (by simpa using hb); omega))
        have z0 := hQ9.row.cell (i := 0) (by decide)
        have zf0 := hQ9.row.frozen 0
        simp at z0
        clear s9 g9 hT9 hQ9 HL8 HQ8 HC8 HD8 HK8 HS8 HLS
        go_wp2_with fail
        generalize w9.setCell ⟨Nb, 0, none⟩ (.int .i64 n) = W9 at *
        clear z0 zf0
        have a0 := HL9.out.row.cell (i := 0) (by decide)
        have a1 := HL9.out.row.cell (i := 1) (by decide)
        have b0 := HQ9.out.row.cell (i := 0) (by decide)
        have b1 := HQ9.out.row.cell (i := 1) (by decide)
        have c0 := HC9.out.cell (i := 0) (by decide)
        have c1 := HC9.out.cell (i := 1) (by decide)
        have cf0 := HC9.out.frozen 0
        have cf1 := HC9.out.frozen 1
        have d0 := HD9.out.cell (i := 0) (by decide)
        have d1 := HD9.out.cell (i := 1) (by decide)
        have df0 := HD9.out.frozen 0
        have df1 := HD9.out.frozen 1
        have lL9 := HL9.out.row.lt
        have lN9 := HQ9.out.row.lt
        simp at a0 a1 b0 b1 c0 c1 d0 d1
        try go_wp2_with fail
        go_region_with (fail)
        all_goals
          clear a0 a1 b0 b1 c0 c1 d0 d1 cf0 cf1 df0 df1
          go_wp2_with fail
          refine bodyPost_ret (v := .tuple #[.agg #[.int .i64 id, .slice av M.length cv], .agg #[.int .i64 n, .slice pp P.length pc]]) ?_ rfl (drawn_done HL9.out HQ9.out hm (hp8) HK9.out (by omega))
          obtain ⟨o0, o1, o2, o3⟩ := drawn_cells (id := id) (pid := n) (av := av) (pp := pp) (n := M.length) (cv := cv) (m := P.length) (pc := pc) HC9.out HD9.out
          revert o0 o1 o2 o3
          generalize World.drew _ = W'
          intro o0 o1 o2 o3
          simp [results, Try.results8, go_sem, o0, o1, o2, o3]
      · have k0' : (k == 0) = false := by rw [beq_eq_false_iff_ne]; exact e0
        have k1' : (k == 1) = false := by rw [beq_eq_false_iff_ne]; exact e1
        clear e0 e1
        have a0 := HL8.out.row.cell (i := 0) (by decide)
        have a1 := HL8.out.row.cell (i := 1) (by decide)
        have b0 := HQ8.out.row.cell (i := 0) (by decide)
        have b1 := HQ8.out.row.cell (i := 1) (by decide)
        have c0 := HC8.out.cell (i := 0) (by decide)
        have c1 := HC8.out.cell (i := 1) (by decide)
        have cf0 := HC8.out.frozen 0
        have cf1 := HC8.out.frozen 1
        have d0 := HD8.out.cell (i := 0) (by decide)
        have d1 := HD8.out.cell (i := 1) (by decide)
        have df0 := HD8.out.frozen 0
        have df1 := HD8.out.frozen 1
        have lL9 := HL8.out.row.lt
        have lN9 := HQ8.out.row.lt
        simp at a0 a1 b0 b1 c0 c1 d0 d1
        try go_wp2_with fail
        go_region_with (fail)
        all_goals
          clear a0 a1 b0 b1 c0 c1 d0 d1 cf0 cf1 df0 df1
          go_wp2_with fail
          refine bodyPost_ret (v := .tuple #[.agg #[.int .i64 id, .slice av M.length cv], .agg #[.int .i64 pid, .slice pp P.length pc]]) ?_ rfl (drawn_done HL8.out HQ8.out hm (hp8) HK8.out (by omega))
          obtain ⟨o0, o1, o2, o3⟩ := drawn_cells (id := id) (pid := pid) (av := av) (pp := pp) (n := M.length) (cv := cv) (m := P.length) (pc := pc) HC8.out HD8.out
          revert o0 o1 o2 o3
          generalize World.drew _ = W'
          intro o0 o1 o2 o3
          simp [results, Try.results8, go_sem, o0, o1, o2, o3]
end Go.Proofs.Ytecjjkgdgmjgmaa
