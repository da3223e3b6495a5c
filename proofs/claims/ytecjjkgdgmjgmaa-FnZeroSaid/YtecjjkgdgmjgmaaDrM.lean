/- The model's draws of ledgers: l02Ledger, l02Any, l02AnyLedger, DrawPost. -/
import Derived.Test.YtecjjkgdgmjgmaaDrL
import Derived.Deep.RegionWith
namespace Go.Proofs.Ytecjjkgdgmjgmaa
open Go.RowKit Go.Deep
set_option linter.unusedVariables false
set_option linter.unusedSimpArgs false
attribute [local go_sem ↓] Go.wp_at_zero Go.wp_at_succ
theorem Dr.drewL {B0 B : Nat} {a : Option Addr} {len cap : Nat} {w : World} (s : Dr B0 B a len cap w) : Dr B0 B a len cap w.drew := s.grown (row := none) ⟨rfl, rfl, rfl, Nat.le_refl _, fun _ _ _ => rfl⟩ (by simp) (by simp)
theorem grown_drewL {w w1 : World} {row : Option Nat} (h : w.grownBy w1 row) : w.grownBy w1.drew row := ⟨h.os, h.tape, h.output, h.size, h.block⟩
/-- While a ledger is drawn: its variable's block, its lines. -/
structure LSt (base : Nat) (Lb : Nat) (id : Int) (a : Option Addr) (cap : Nat) (M : List Ln) (W : World) : Prop where
  row : W.rowIs Lb 25 2 (fun i : Nat => if i = 0 then .int .i64 id else .slice a M.length cap)
  own : Own W [(a, flat M)]
  far : ∀ b ∈ fp [(a, flat M)], base ≤ b ∧ b ≠ Lb
  nil : a = none → cap = 0
  new : base ≤ Lb
  fit : M.length ≤ cap
section
variable {W W' : World} {base Lb : Nat} {id : Int} {a : Option Addr} {cap : Nat} {M : List Ln}
theorem LSt.kept (s : LSt base Lb id a cap M W) (hk : Keeps W W') : LSt base Lb id a cap M W' := ⟨Keeps.row hk s.row, s.own.kept hk, s.far, s.nil, s.new, s.fit⟩
theorem LSt.grown (s : LSt base Lb id a cap M W) {B : Nat} (g : W.grownBy W' (some B)) (hB : B < base) : LSt base Lb id a cap M W' :=
  ⟨grown_row g (by have := s.new; intro e; injection e with e; omega) s.row, s.own.turn (Turn.of_grown (fs := [B]) g (by simp)) (fun b hb hx => by have := (s.far b hb).1; have h2 : b = B := (by simpa using hx); omega), s.far, s.nil, s.new, s.fit⟩
end
theorem own_cells' {w : World} {base : Nat} {p : Option Addr} {c : Nat} {L : List Ln} (h : OwnsL w base (.slice p L.length c) L) : Cells w p (flat L) := by
  obtain ⟨a, c', e, hc⟩ := own_cells h
  injection e with e1 e2 e3
  subst e1
  exact hc
/-- A ledger of the call's own. -/
def IsLedger (w w' : World) (e : Ending) : Prop := ∃ (id : Int) (p : Option Addr) (c : Nat) (L : List Ln), L.length ≤ 320 ∧ e = .returned (.agg #[.int .i64 id, .slice p L.length c]) ∧ (p = none → c = 0) ∧ Born w w' [(p, flat L)] ∧ L.length ≤ c
theorem pL_len' (id : Int) (L : List Ln) (pid : Int) (P : List Ln) : (pL id L pid P).length ≤ 320 := by
  unfold pL
  split
  · rename_i h
    unfold pcode at h
    split at h
    · simp at h
    · split at h
      · simp at h
      · split at h
        · simp at h
        · rename_i h3
          simp [ledgB] at h3
          omega
  · simp
theorem post_weak (id pid : Int) (a a' : Option Addr) (cap cap' : Nat) (L P : List Ln) (w : World) (hc : Cells w a (flat L)) (hc' : Cells w a' (flat P)) (hn : a = none → cap = 0) (hl : L.length ≤ 1048576) (hl' : P.length ≤ 1048576) :
    Calls Try.prog 10 #[.agg #[.int .i64 id, .slice a L.length cap], .agg #[.int .i64 pid, .slice a' P.length cap']] w fun e w' => (∃ (rid : Int) (R : List Ln) (rc : Int) (a6 : Option Addr) (c6 : Nat), e = .returned (.tuple #[.agg #[.int .i64 rid, .slice a6 R.length c6], .int .i64 rc]) ∧ R.length ≤ 320 ∧ (a6 = none → c6 = 0) ∧ Born w w' [(a6, flat R)] ∧ R.length ≤ c6) ∧ Keeps w w' := by
  refine (post_specC id pid a a' cap cap' L P w hc hc' hn hl hl').mono ?_
  rintro e w' ⟨⟨a6, c6, he, hn6, hb6, hc6⟩, hk⟩
  exact ⟨⟨_, _, _, a6, c6, he, pL_len' _ _ _ _, hn6, hb6, hc6⟩, hk⟩
theorem LSt.set {W : World} {base Lb : Nat} {id : Int} {a : Option Addr} {cap : Nat} {M : List Ln} (s : LSt base Lb id a cap M W) {N o : Nat} (hN : N ≠ Lb) (hf : ∀ b ∈ fp [(a, flat M)], b ≠ N) (v : Value) : LSt base Lb id a cap M (W.setCell ⟨N, o, none⟩ v) :=
  ⟨s.row.setOther (by simp; omega) _, s.own.turn (Turn.set (fs := [N]) (by simp) _) (fun b hb hx => hf b hb (by simpa using hx)), s.far, s.nil, s.new, s.fit⟩
theorem LSt.put' {V : World} {base Lb : Nat} {id id' : Int} {a a' : Option Addr} {cap cap' : Nat} {M M' : List Ln} (s : LSt base Lb id a cap M V) (ho : Own V [(a', flat M')]) (hf : ∀ b ∈ fp [(a', flat M')], base ≤ b ∧ b ≠ Lb) (hn : a' = none → cap' = 0) (hc : M'.length ≤ cap') :
    LSt base Lb id' a' cap' M' ((V.setCell ⟨Lb, 0, none⟩ (.int .i64 id')).setCell ⟨Lb, 1, none⟩ (.slice a' M'.length cap')) :=
  ⟨row_two s.row _ _, ho.turn ((Turn.set (fs := [Lb]) (by simp) _).trans' (Turn.set (fs := [Lb]) (by simp) _)) (fun b hb' hx => (hf b hb').2 (by simpa using hx)), hf, hn, s.new, hc⟩
set_option maxRecDepth 100000 in
set_option maxHeartbeats 16000000 in
theorem ledger_any {B0 B : Nat} {a : Option Addr} {len cap : Nat} {w : World} (s : Dr B0 B a len cap w) :
    Calls Try.prog 62 #[.pointer (some ⟨B, 0, none⟩)] w fun e w' => IsLedger w w' e ∧ Dr B0 B a len cap w' ∧ w.grownBy w' (some B) := by
  have hB := s.lt
  have hB0 := s.le
  have kA := Keeps.alloc (Keeps.alloc (Keeps.refl w) (.cells #[.int .i64 0, .slice none 0 0] 25)) (.cells #[.int .i64 0, .slice none 0 0] 25)
  have HS0 := hide (s.grown (row := none) (kA.grows none) (by simp) (by simp))
  have HG0 := hide ((grown_refl w (some B)).trans (kA.grows (some B)))
  have HR0 := hide (Keeps.row (Keeps.alloc (Keeps.refl _) (.cells #[.int .i64 0, .slice none 0 0] 25)) (row_zero w (.int .i64 0) (.slice none 0 0) 25))
  have HL0 : Hid (LSt (w.heap.size + 1) (w.heap.size + 1) 0 none 0 [] ((w.alloc (.cells #[.int .i64 0, .slice none 0 0] 25)).alloc (.cells #[.int .i64 0, .slice none 0 0] 25))) := by
    have r := row_zero (w.alloc (.cells #[.int .i64 0, .slice none 0 0] 25)) (.int .i64 0) (.slice none 0 0) 25
    rw [World.size_alloc] at r
    exact ⟨r, (born_none w _).toOwn, fun b hb => absurd hb (by simp [fp, fpS]), fun _ => rfl, Nat.le_refl _, by simp⟩
  clear s kA
  go_enter Try.func62, Try.ntmps62
  go_wp2_with fail
  generalize (w.alloc (.cells #[.int .i64 0, .slice none 0 0] 25)).alloc (.cells #[.int .i64 0, .slice none 0 0] 25) = W0 at *
  generalize hLb : w.heap.size + 1 = Lb at HL0 ⊢
  refine (below_any 7 HS0.out (by omega) (by omega)).mono ?_
  rintro e w1 ⟨⟨y, y0, y7, rfl⟩, s1, g1⟩
  have HS1 := hide s1
  have HG1 := hide (HG0.out.trans g1)
  have HR1 := hide (grown_row g1 (by intro e; injection e with e; omega) HR0.out)
  have HL1 := hide (HL0.out.grown g1 (by omega))
  obtain ⟨n0, rfl⟩ := Int.eq_ofNat_of_zero_le y0
  clear s1 g1 HS0 HG0 HR0 HL0
  go_wp2_with fail
  go_loopw [4] (fun y wr => ∃ (n : Nat) (id : Int) (av : Option Addr) (cv : Nat) (M : List Ln), n ≤ 6 ∧ y = .int .i64 (n : Int) ∧ Hid (M.length ≤ 320) ∧ Hid (LSt Lb Lb id av cv M wr) ∧ Hid (Dr B0 B a len cap wr) ∧ Hid (w.grownBy wr (some B)) ∧ Hid (wr.rowIs w.heap.size 25 2 (fun i : Nat => if i = 0 then .int .i64 0 else .slice none 0 0))) (fun y _ => (intOf y).toNat)
  case atStart => exact ⟨n0, 0, none, 0, [], by omega, rfl, by simp [Hid], HL1, HS1, HG1, HR1⟩
  case round =>
    clear HL1 HS1 HG1 HR1
    obtain ⟨n, id, av, cv, M, hn, rfl, HM, HL, HS, HG, HR⟩ := hrel
    generalize wr = w3 at *
    have q0 := HL.out.row.cell (i := 0) (by decide)
    have q1 := HL.out.row.cell (i := 1) (by decide)
    have lL := HL.out.row.lt
    simp at q0 q1
    by_cases hlt : 0 < n
    · have HLt := hide HL.out.own.mem.lt
      go_wp2_with fail
      go_region_held3 (fun w' => w'.cell? ⟨Lb, 0, none⟩ = some (.int .i64 id) ∧ w'.cell? ⟨Lb, 1, none⟩ = some (.slice av M.length cv))
        (first | go_keep | (refine ⟨?_, ?_⟩ <;> (rw [World.cell?_setCell_other _ _ _ _ (by simp <;> omega), World.cell?_setCell_other _ _ _ _ (by simp <;> omega)]; assumption)))
        (first
           | (go_at_call 38
              first
                | (refine (below_any 3 (HS.out.grown (row := none) (((Keeps.refl w3).drew).grows none) (by simp) (by simp)) (by omega) (by omega)).mono ?_
                   rintro e w4 ⟨⟨x, x0, x3, rfl⟩, s4, g4⟩
                   have h34 : w3.heap.size ≤ w4.heap.size := Nat.le_trans ((Keeps.refl w3).drew).size g4.size
                   have HS4 := hide s4
                   have HG4 := hide ((HG.out.trans (((Keeps.refl w3).drew).grows (some B))).trans g4)
                   have HR4 := hide (grown_row g4 (by intro e; injection e with e; omega) (Keeps.row ((Keeps.refl w3).drew) HR.out))
                   have HL4 := hide ((HL.out.kept ((Keeps.refl w3).drew)).grown g4 (by omega))
                   have t0 := HL4.out.row.cell (i := 0) (by decide)
                   have t1 := HL4.out.row.cell (i := 1) (by decide)
                   have lL4 := HL4.out.row.lt
                   simp at t0 t1
                   clear s4 g4)
                | (refine (below_any 3 (HS.out.grown (row := none) (((Keeps.alloc (Keeps.refl w3) (.cells #[.int .i64 0, .slice none 0 0] 25)).drew).grows none) (by simp) (by simp)) (by omega) (by omega)).mono ?_
                   rintro e w4 ⟨⟨x, x0, x3, rfl⟩, s4, g4⟩
                   have h34 : w3.heap.size ≤ w4.heap.size := Nat.le_trans ((Keeps.alloc (Keeps.refl w3) (.cells #[.int .i64 0, .slice none 0 0] 25)).drew).size g4.size
                   have HS4 := hide s4
                   have HG4 := hide ((HG.out.trans (((Keeps.alloc (Keeps.refl w3) (.cells #[.int .i64 0, .slice none 0 0] 25)).drew).grows (some B))).trans g4)
                   have HR4 := hide (grown_row g4 (by intro e; injection e with e; omega) (Keeps.row ((Keeps.alloc (Keeps.refl w3) (.cells #[.int .i64 0, .slice none 0 0] 25)).drew) HR.out))
                   have HL4 := hide ((HL.out.kept ((Keeps.alloc (Keeps.refl w3) (.cells #[.int .i64 0, .slice none 0 0] 25)).drew)).grown g4 (by omega))
                   have HRV := hide (grown_row g4 (by intro e; injection e with e; omega) (Keeps.row ((Keeps.refl _).drew) (row_zero w3 (.int .i64 0) (.slice none 0 0) 25)))
                   have hNb : w.heap.size + 1 ≤ w3.heap.size := by have := HR.out.lt; omega
                   have t0 := HL4.out.row.cell (i := 0) (by decide)
                   have t1 := HL4.out.row.cell (i := 1) (by decide)
                   have lL4 := HL4.out.row.lt
                   simp at t0 t1
                   clear s4 g4)
             )
           | (go_at_call 37
              first
                | (have hrv := HRV.out
                   clear hrv
                   refine (posting_any _ (HS4.out.grown (row := none) ((Keeps.refl w4).grows none) (by simp) (by simp))).mono ?_
                   rintro e w5 ⟨⟨pp, pl, pc, P, hp8, rfl, HO⟩, s5, g5⟩
                   obtain ⟨rfl, hpo⟩ := HO.out
                   have h45 : w4.heap.size ≤ w5.heap.size := Nat.le_trans (Keeps.refl w4).size g5.size
                   have HS5 := hide s5
                   have HG5 := hide ((HG4.out.trans ((Keeps.refl w4).grows (some B))).trans g5)
                   have HR5 := hide (grown_row g5 (by intro e; injection e with e; omega) (Keeps.row (Keeps.refl w4) HR4.out))
                   have HL5 := hide ((HL4.out.kept (Keeps.refl w4)).grown g5 (by omega))
                   have HP5 := hide (own_cells' hpo)
                   replace HRV := hide (grown_row g5 (by intro e; injection e with e; omega) HRV.out)
                   have r0 := HL5.out.row.cell (i := 0) (by decide)
                   have r1 := HL5.out.row.cell (i := 1) (by decide)
                   have lL5 := HL5.out.row.lt
                   simp at r0 r1
                   clear s5 g5 hpo HO)
                | (refine (posting_any _ (HS4.out.grown (row := none) ((Keeps.refl w4).grows none) (by simp) (by simp))).mono ?_
                   rintro e w5 ⟨⟨pp, pl, pc, P, hp8, rfl, HO⟩, s5, g5⟩
                   obtain ⟨rfl, hpo⟩ := HO.out
                   have h45 : w4.heap.size ≤ w5.heap.size := Nat.le_trans (Keeps.refl w4).size g5.size
                   have HS5 := hide s5
                   have HG5 := hide ((HG4.out.trans ((Keeps.refl w4).grows (some B))).trans g5)
                   have HR5 := hide (grown_row g5 (by intro e; injection e with e; omega) (Keeps.row (Keeps.refl w4) HR4.out))
                   have HL5 := hide ((HL4.out.kept (Keeps.refl w4)).grown g5 (by omega))
                   have HP5 := hide (own_cells' hpo)
                   have r0 := HL5.out.row.cell (i := 0) (by decide)
                   have r1 := HL5.out.row.cell (i := 1) (by decide)
                   have lL5 := HL5.out.row.lt
                   simp at r0 r1
                   clear s5 g5 hpo HO)
                | (refine (posting_any _ (HS4.out.grown (row := none) ((Keeps.alloc (Keeps.refl w4) (.cells #[.int .i64 0, .slice none 0 0] 25)).grows none) (by simp) (by simp))).mono ?_
                   rintro e w5 ⟨⟨pp, pl, pc, P, hp8, rfl, HO⟩, s5, g5⟩
                   obtain ⟨rfl, hpo⟩ := HO.out
                   have h45 : w4.heap.size ≤ w5.heap.size := Nat.le_trans (Keeps.alloc (Keeps.refl w4) (.cells #[.int .i64 0, .slice none 0 0] 25)).size g5.size
                   have HS5 := hide s5
                   have HG5 := hide ((HG4.out.trans ((Keeps.alloc (Keeps.refl w4) (.cells #[.int .i64 0, .slice none 0 0] 25)).grows (some B))).trans g5)
                   have HR5 := hide (grown_row g5 (by intro e; injection e with e; omega) (Keeps.row (Keeps.alloc (Keeps.refl w4) (.cells #[.int .i64 0, .slice none 0 0] 25)) HR4.out))
                   have HL5 := hide ((HL4.out.kept (Keeps.alloc (Keeps.refl w4) (.cells #[.int .i64 0, .slice none 0 0] 25))).grown g5 (by omega))
                   have HP5 := hide (own_cells' hpo)
                   have HRV := hide (grown_row g5 (by intro e; injection e with e; have := HG4.out.size; omega) (row_zero w4 (.int .i64 0) (.slice none 0 0) 25))
                   have hNb : w.heap.size + 1 ≤ w4.heap.size := by have := HR4.out.lt; omega
                   have r0 := HL5.out.row.cell (i := 0) (by decide)
                   have r1 := HL5.out.row.cell (i := 1) (by decide)
                   have lL5 := HL5.out.row.lt
                   simp at r0 r1
                   clear s5 g5 hpo HO)
             )
           | (go_at_call 10
              first
                | (have hrv := HRV.out
                   clear hrv
                   refine (post_weak id _ av pp cv pc M P _ (HL5.out.own.one.kept (Keeps.refl w5)) (HP5.out.kept (Keeps.refl w5)) HL5.out.nil (by have := HM.out; omega) (by omega)).mono ?_
                   rintro e w6 ⟨⟨rid, R, rc, a6, c6, rfl, hR6, hn6, hb6, hc6⟩, hk6⟩
                   have HC6 := hide hc6
                   have HR6 := hide hR6
                   have HVB := hide (fun b hb1 => Nat.lt_of_lt_of_le HRV.out.lt (hb6.new b hb1))
                   replace HRV := hide (Keeps.row hk6 HRV.out)
                   have HKc := hide (Keeps.refl w5)
                   have HB6 := hide hb6
                   have HK6 := hide hk6
                   have HN6 := hide hn6
                   have r6 := Keeps.row ((Keeps.refl w5).trans hk6) HL5.out.row
                   have u0 := r6.cell (i := 0) (by decide)
                   have u1 := r6.cell (i := 1) (by decide)
                   have uf0 := r6.frozen 0
                   have uf1 := r6.frozen 1
                   have lL6 := r6.lt
                   simp at u0 u1
                   have zV0 := HRV.out.cell (i := 0) (by decide)
                   have zV1 := HRV.out.cell (i := 1) (by decide)
                   have fV0 := HRV.out.frozen 0
                   have fV1 := HRV.out.frozen 1
                   have lV := HRV.out.lt
                   simp at zV0 zV1
                   clear hb6 hk6 hn6 r6 hR6 hc6)
                | (refine (post_weak id _ av pp cv pc M P _ (HL5.out.own.one.kept (Keeps.refl w5)) (HP5.out.kept (Keeps.refl w5)) HL5.out.nil (by have := HM.out; omega) (by omega)).mono ?_
                   rintro e w6 ⟨⟨rid, R, rc, a6, c6, rfl, hR6, hn6, hb6, hc6⟩, hk6⟩
                   have HC6 := hide hc6
                   have HR6 := hide hR6
                   have HKc := hide (Keeps.refl w5)
                   have HB6 := hide hb6
                   have HK6 := hide hk6
                   have HN6 := hide hn6
                   have r6 := Keeps.row ((Keeps.refl w5).trans hk6) HL5.out.row
                   have u0 := r6.cell (i := 0) (by decide)
                   have u1 := r6.cell (i := 1) (by decide)
                   have uf0 := r6.frozen 0
                   have uf1 := r6.frozen 1
                   have lL6 := r6.lt
                   simp at u0 u1
                   clear hb6 hk6 hn6 r6 hR6 hc6)
                | (refine (post_weak id _ av pp cv pc M P _ (HL5.out.own.one.kept (Keeps.alloc (Keeps.refl w5) (.cells #[.int .i64 0, .slice none 0 0] 25))) (HP5.out.kept (Keeps.alloc (Keeps.refl w5) (.cells #[.int .i64 0, .slice none 0 0] 25))) HL5.out.nil (by have := HM.out; omega) (by omega)).mono ?_
                   rintro e w6 ⟨⟨rid, R, rc, a6, c6, rfl, hR6, hn6, hb6, hc6⟩, hk6⟩
                   have HC6 := hide hc6
                   have HR6 := hide hR6
                   have HVB := hide (fun b hb1 => Nat.lt_of_lt_of_le (row_zero w5 (.int .i64 0) (.slice none 0 0) 25).lt (hb6.new b hb1))
                   have HRV := hide (Keeps.row hk6 (row_zero w5 (.int .i64 0) (.slice none 0 0) 25))
                   have hNb : w.heap.size + 1 ≤ w5.heap.size := by have := HR5.out.lt; omega
                   have HKc := hide (Keeps.alloc (Keeps.refl w5) (.cells #[.int .i64 0, .slice none 0 0] 25))
                   have HB6 := hide hb6
                   have HK6 := hide hk6
                   have HN6 := hide hn6
                   have r6 := Keeps.row ((Keeps.alloc (Keeps.refl w5) (.cells #[.int .i64 0, .slice none 0 0] 25)).trans hk6) HL5.out.row
                   have u0 := r6.cell (i := 0) (by decide)
                   have u1 := r6.cell (i := 1) (by decide)
                   have uf0 := r6.frozen 0
                   have uf1 := r6.frozen 1
                   have lL6 := r6.lt
                   simp at u0 u1
                   have zV0 := HRV.out.cell (i := 0) (by decide)
                   have zV1 := HRV.out.cell (i := 1) (by decide)
                   have fV0 := HRV.out.frozen 0
                   have fV1 := HRV.out.frozen 1
                   have lV := HRV.out.lt
                   simp at zV0 zV1
                   clear hb6 hk6 hn6 r6 hR6 hc6)
             ))
      all_goals
        have HL6 := hide (HL5.out.kept (HKc.out.trans HK6.out))
        have HS6 := hide (HS5.out.grown (row := none) ((HKc.out.trans HK6.out).grows none) (by simp) (by simp))
        have HG6 := hide (HG5.out.trans ((HKc.out.trans HK6.out).grows (some B)))
        have HR6' := hide (Keeps.row (HKc.out.trans HK6.out) HR5.out)
        have HO6 := hide HB6.out.toOwn
        have h5c := HKc.out.size
        have HF6 : Hid (∀ b ∈ fp [(a6, flat R)], Lb ≤ b ∧ b ≠ Lb) := fun b hb => by have h1 := HB6.out.new b hb; omega
        clear u0 u1 uf0 uf1 t0 t1 r0 r1 q0 q1
        first
          | (have hrv : w6.rowIs w3.heap.size _ _ _ := HRV.out
             have hlv := hrv.lt
             have hL7 := (HL6.out.set (N := w3.heap.size) (o := 0) (by omega) (fun b hb e => by have := HLt.out b hb; omega) (.int .i64 rid)).set (N := w3.heap.size) (o := 1) (by omega) (fun b hb e => by have := HLt.out b hb; omega) (.slice a6 R.length c6)
             have hT : Turn [w3.heap.size] w6 ((w6.setCell ⟨w3.heap.size, 0, none⟩ (.int .i64 rid)).setCell ⟨w3.heap.size, 1, none⟩ (.slice a6 R.length c6)) := (Turn.set (by simp) _).trans' (Turn.set (by simp) _)
             have hO7 := HO6.out.turn hT (fun b hb hx => by have h1 := HVB.out b hb; have h2 : b = w3.heap.size := (by simpa using hx); omega)
             have hS7 := (HS6.out.setL (b := w3.heap.size) (o := 0) (by omega) (by omega) (.int .i64 rid)).setL (b := w3.heap.size) (o := 1) (by omega) (by omega) (.slice a6 R.length c6)
             have hG7 := grown_new (b := w3.heap.size) (o := 1) (v := (.slice a6 R.length c6)) (grown_new (b := w3.heap.size) (o := 0) (v := .int .i64 rid) HG6.out (by omega)) (by omega)
             have hR7 := (HR6'.out.setOther (a := ⟨w3.heap.size, 0, none⟩) (by simp; omega) (.int .i64 rid)).setOther (a := ⟨w3.heap.size, 1, none⟩) (by simp; omega) (.slice a6 R.length c6)
             have hn7 := row_two hrv (.int .i64 rid) (.slice a6 R.length c6)
             have HN7 : Hid (w3.heap.size ≠ Lb ∧ w3.heap.size ≠ w.heap.size) := ⟨by omega, by omega⟩
             clear zV0 zV1 fV0 fV1 lV HRV HVB hrv hlv hT
             generalize (w6.setCell ⟨w3.heap.size, 0, none⟩ (.int .i64 rid)).setCell ⟨w3.heap.size, 1, none⟩ (.slice a6 R.length c6) = V7 at *
             generalize w3.heap.size = Nb at hn7 HN7 ⊢)
          | (have hrv : w6.rowIs w4.heap.size _ _ _ := HRV.out
             have hlv := hrv.lt
             have hL7 := (HL6.out.set (N := w4.heap.size) (o := 0) (by omega) (fun b hb e => by have := HLt.out b hb; omega) (.int .i64 rid)).set (N := w4.heap.size) (o := 1) (by omega) (fun b hb e => by have := HLt.out b hb; omega) (.slice a6 R.length c6)
             have hT : Turn [w4.heap.size] w6 ((w6.setCell ⟨w4.heap.size, 0, none⟩ (.int .i64 rid)).setCell ⟨w4.heap.size, 1, none⟩ (.slice a6 R.length c6)) := (Turn.set (by simp) _).trans' (Turn.set (by simp) _)
             have hO7 := HO6.out.turn hT (fun b hb hx => by have h1 := HVB.out b hb; have h2 : b = w4.heap.size := (by simpa using hx); omega)
             have hS7 := (HS6.out.setL (b := w4.heap.size) (o := 0) (by omega) (by omega) (.int .i64 rid)).setL (b := w4.heap.size) (o := 1) (by omega) (by omega) (.slice a6 R.length c6)
             have hG7 := grown_new (b := w4.heap.size) (o := 1) (v := (.slice a6 R.length c6)) (grown_new (b := w4.heap.size) (o := 0) (v := .int .i64 rid) HG6.out (by omega)) (by omega)
             have hR7 := (HR6'.out.setOther (a := ⟨w4.heap.size, 0, none⟩) (by simp; omega) (.int .i64 rid)).setOther (a := ⟨w4.heap.size, 1, none⟩) (by simp; omega) (.slice a6 R.length c6)
             have hn7 := row_two hrv (.int .i64 rid) (.slice a6 R.length c6)
             have HN7 : Hid (w4.heap.size ≠ Lb ∧ w4.heap.size ≠ w.heap.size) := ⟨by omega, by omega⟩
             clear zV0 zV1 fV0 fV1 lV HRV HVB hrv hlv hT
             generalize (w6.setCell ⟨w4.heap.size, 0, none⟩ (.int .i64 rid)).setCell ⟨w4.heap.size, 1, none⟩ (.slice a6 R.length c6) = V7 at *
             generalize w4.heap.size = Nb at hn7 HN7 ⊢)
          | (have hrv : w6.rowIs w5.heap.size _ _ _ := HRV.out
             have hlv := hrv.lt
             have hL7 := (HL6.out.set (N := w5.heap.size) (o := 0) (by omega) (fun b hb e => by have := HLt.out b hb; omega) (.int .i64 rid)).set (N := w5.heap.size) (o := 1) (by omega) (fun b hb e => by have := HLt.out b hb; omega) (.slice a6 R.length c6)
             have hT : Turn [w5.heap.size] w6 ((w6.setCell ⟨w5.heap.size, 0, none⟩ (.int .i64 rid)).setCell ⟨w5.heap.size, 1, none⟩ (.slice a6 R.length c6)) := (Turn.set (by simp) _).trans' (Turn.set (by simp) _)
             have hO7 := HO6.out.turn hT (fun b hb hx => by have h1 := HVB.out b hb; have h2 : b = w5.heap.size := (by simpa using hx); omega)
             have hS7 := (HS6.out.setL (b := w5.heap.size) (o := 0) (by omega) (by omega) (.int .i64 rid)).setL (b := w5.heap.size) (o := 1) (by omega) (by omega) (.slice a6 R.length c6)
             have hG7 := grown_new (b := w5.heap.size) (o := 1) (v := (.slice a6 R.length c6)) (grown_new (b := w5.heap.size) (o := 0) (v := .int .i64 rid) HG6.out (by omega)) (by omega)
             have hR7 := (HR6'.out.setOther (a := ⟨w5.heap.size, 0, none⟩) (by simp; omega) (.int .i64 rid)).setOther (a := ⟨w5.heap.size, 1, none⟩) (by simp; omega) (.slice a6 R.length c6)
             have hn7 := row_two hrv (.int .i64 rid) (.slice a6 R.length c6)
             have HN7 : Hid (w5.heap.size ≠ Lb ∧ w5.heap.size ≠ w.heap.size) := ⟨by omega, by omega⟩
             clear zV0 zV1 fV0 fV1 lV HRV HVB hrv hlv hT
             generalize (w6.setCell ⟨w5.heap.size, 0, none⟩ (.int .i64 rid)).setCell ⟨w5.heap.size, 1, none⟩ (.slice a6 R.length c6) = V7 at *
             generalize w5.heap.size = Nb at hn7 HN7 ⊢)
          | (have kV := Keeps.alloc (Keeps.refl w6) (.cells #[.int .i64 rid, .slice a6 R.length c6] 25)
             have hL7 := HL6.out.kept kV
             have hO7 := HO6.out.kept kV
             have hS7 := HS6.out.grown (row := none) (kV.grows none) (by simp) (by simp)
             have hG7 := HG6.out.trans (kV.grows (some B))
             have hR7 := Keeps.row kV HR6'.out
             have hn7 := row_zero w6 (.int .i64 rid) (.slice a6 R.length c6) 25
             have HN7 : Hid (w6.heap.size ≠ Lb ∧ w6.heap.size ≠ w.heap.size) := ⟨by omega, by have := HR6'.out.lt; omega⟩
             clear kV
             generalize w6.alloc (.cells #[.int .i64 rid, .slice a6 R.length c6] 25) = V7 at *
             generalize w6.heap.size = Nb at hn7 HN7 ⊢)
        have HL7 := hide hL7
        have HO7 := hide hO7
        have HS7 := hide hS7
        have HG7 := hide hG7
        have HR7 := hide hR7
        have n0' := hn7.cell (i := 0) (by decide)
        have n1' := hn7.cell (i := 1) (by decide)
        have lN := hn7.lt
        have u0 := hL7.row.cell (i := 0) (by decide)
        have u1 := hL7.row.cell (i := 1) (by decide)
        have uf0 := hL7.row.frozen 0
        have uf1 := hL7.row.frozen 1
        have lL7 := hL7.row.lt
        simp at n0' n1' u0 u1
        clear hL7 hO7 hS7 hG7 hR7 hn7 HL HS HG HR HL4 HS4 HG4 HR4 HL5 HS5 HG5 HR5 HB6 HK6 HKc HL6 HS6 HG6 HR6' HO6 HP5 HLt
        by_cases hz : rc = 0
        · subst hz
          go_wp2_with fail
          go_roundw
          case rel => exact ⟨n - 1, rid, a6, c6, R, by omega, by congr 1; omega, HR6, HL7.out.put' HO7.out HF6.out HN6.out HC6.out, (HS7.out.setL (by omega) (by omega) _).setL (by omega) (by omega) _, grown_new (grown_new HG7.out (by omega)) (by omega), (HR7.out.setOther (by simp; omega) _).setOther (by simp; omega) _⟩
          case measure => simp [intOf]; omega
        · have hz' : (rc == 0) = false := by rw [beq_eq_false_iff_ne]; exact hz
          clear hz
          go_wp2_with fail
          go_roundw
          case rel => exact ⟨n - 1, id, av, cv, M, by omega, by congr 1; omega, HM, HL7, HS7, HG7, HR7⟩
          case measure => simp [intOf]; omega
    · have e : n = 0 := by omega
      subst e
      have z0 := HR.out.cell (i := 0) (by decide)
      have z1 := HR.out.cell (i := 1) (by decide)
      have f0 := HR.out.frozen 0
      have f1 := HR.out.frozen 1
      simp at z0 z1
      go_wp2_with fail
      have r9 := row_two HR.out (.int .i64 id) (.slice av M.length cv)
      have o0 := r9.cell (i := 0) (by decide)
      have o1 := r9.cell (i := 1) (by decide)
      simp only [if_true, Nat.one_ne_zero, if_false] at o0 o1
      have ht : Turn [w.heap.size] w3 ((w3.setCell ⟨w.heap.size, 0, none⟩ (.int .i64 id)).setCell ⟨w.heap.size, 1, none⟩ (.slice av M.length cv)) := (Turn.set (by simp) _).trans' (Turn.set (by simp) _)
      have hBn : Born w ((w3.setCell ⟨w.heap.size, 0, none⟩ (.int .i64 id)).setCell ⟨w.heap.size, 1, none⟩ (.slice av M.length cv)) [(av, flat M)] :=
        ⟨HL.out.own.turn ht (fun b hb hx => by have h1 := (HL.out.far b hb).1; have h2 : b = w.heap.size := (by simpa using hx); omega), fun b hb => by have := (HL.out.far b hb).1; omega⟩
      refine bodyPost_ret (v := .agg #[.int .i64 id, .slice av M.length cv]) ?_ rfl ⟨⟨id, av, cv, M, HM.out, rfl, HL.out.nil, hBn, HL.out.fit⟩, (HS.out.setL (by omega) (by omega) _).setL (by omega) (by omega) _, grown_new (grown_new HG.out (Nat.le_refl _)) (Nat.le_refl _)⟩
      clear hBn ht r9 HL HM HS HG HR q0 q1 z0 z1 f0 f1
      revert o0 o1
      generalize World.setCell _ _ _ = W'
      intro o0 o1
      simp [results, Try.results62, go_sem, o0, o1]
end Go.Proofs.Ytecjjkgdgmjgmaa
