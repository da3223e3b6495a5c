/- The model's draws of accounts: l02Acc, l02AnyAcc. -/
import Derived.Test.YtecjjkgdgmjgmaaDrG
import Derived.Test.YtecjjkgdgmjgmaaPSp
namespace Go.Proofs.Ytecjjkgdgmjgmaa
open Go.RowKit
set_option linter.unusedVariables false
/-- A right account; some account. -/
def IsAcc (e : Ending) : Prop := ∃ k c : Int, accB k c = true ∧ e = .returned (accV k c)
def AnyAcc (e : Ending) : Prop := ∃ k c : Int, e = .returned (accV k c)
theorem isAcc {k c : Int} (h : accB k c = true) : IsAcc (.returned (accV k c)) := ⟨k, c, h, rfl⟩
theorem anyAcc {k c : Int} : AnyAcc (.returned (accV k c)) := ⟨k, c, rfl⟩
theorem two_rowQ (x y : Value) : ∀ i, i < (#[x, y] : Array Value).size → (#[x, y] : Array Value)[i]? = some ((fun i : Nat => if i = 0 then x else y) i)
  | 0, _ => rfl
  | 1, _ => rfl
  | n + 2, h => absurd h (by simp)
theorem row2_outQ {w : World} {b : Nat} {t : TypeId} {f : Nat → Value} (r : w.rowIs b t 2 f) (x y : Value) :
    ((w.setCell ⟨b, 0, none⟩ x).setCell ⟨b, 1, none⟩ y).cell? ⟨b, 0, none⟩ = some x ∧ ((w.setCell ⟨b, 0, none⟩ x).setCell ⟨b, 1, none⟩ y).cell? ⟨b, 1, none⟩ = some y := by
  have r3 := (r.set 0 x).set 1 y
  have c0 := r3.cell (i := 0) (by decide)
  have c1 := r3.cell (i := 1) (by decide)
  simp at c0 c1
  exact ⟨c0, c1⟩

theorem Keeps.rowQ {w w' : World} (hk : Keeps w w') {b : Nat} {t : TypeId} {n : Nat} {f : Nat → Value} (h : w.rowIs b t n f) : w'.rowIs b t n f := h.of_block (Below.block hk b h.lt)
set_option maxHeartbeats 2000000 in
theorem acc_any {B0 B : Nat} {a : Option Addr} {len cap : Nat} {w : World} (s : Dr B0 B a len cap w) :
    Calls Try.prog 80 #[.pointer (some ⟨B, 0, none⟩)] w fun e w' => IsAcc e ∧ Dr B0 B a len cap w' ∧ w.grownBy w' (some B) := by
  have hB := s.lt
  have hB0 := s.le
  have HS := hide s
  have HG0 := hide (World.grownBy_alloc w (.cells #[.int .i64 0, .int .i64 0] 33) (some B))
  have HS0 := hide (s.grown (World.grownBy_alloc w (.cells #[.int .i64 0, .int .i64 0] 33) none) (by simp) (by simp))
  have HR0 := hide (World.rowIs_alloc w #[.int .i64 0, .int .i64 0] 33 _ (two_rowQ _ _))
  clear s
  go_enter Try.func80, Try.ntmps80
  go_wp2_with fail
  refine (below_any 8 HS0.out (by omega) (by omega)).mono ?_
  rintro e w1 ⟨⟨x, x0, x1, rfl⟩, s1, g1⟩
  have HR1 := hide (grown_row g1 (by simp; omega) HR0.out)
  have hz1 := HR1.out.lt
  have HS1 := hide (s1.grown (World.grownBy_alloc w1 (.cells #[.int .i64 (1 + x), .int .i64 0] 33) none) (by simp) (by simp))
  have HS1w := hide s1
  have HG1w := hide (HG0.out.trans g1)
  have HG1 := hide (grown_alloc (HG0.out.trans g1) (.cells #[.int .i64 (1 + x), .int .i64 0] 33))
  have HR1a := hide (HR1.out.alloc (.cells #[.int .i64 (1 + x), .int .i64 0] 33))
  have HA1 := hide (World.rowIs_alloc w1 #[.int .i64 (1 + x), .int .i64 0] 33 _ (two_rowQ _ _))
  clear s1 g1 HS HS0 HG0 HR0
  by_cases h6 : 6 ≤ 1 + x
  · go_wp2_with fail
    refine (below_any 3 HS1.out (by omega) (by omega)).mono ?_
    rintro e w2 ⟨⟨y, y0, y1, rfl⟩, s2, g2⟩
    have HR2 := hide ((grown_row g2 (by simp; omega) HR1a.out).setOther (a := ⟨w1.heap.size, 1, none⟩) (by simp; omega) (.int .i64 (1 + y)))
    have rA2 := grown_row g2 (by simp; omega) HA1.out
    have HA2 := hide (rA2.set 1 (.int .i64 (1 + y)))
    have a0 := rA2.cell (i := 0) (by simp)
    have a1 := rA2.cell (i := 1) (by simp)
    have af := rA2.frozen 1
    simp at a0 a1
    have HS2 := hide (s2.grown (grown_set (B := w1.heap.size) (o := 1) (v := .int .i64 (1 + y)) (grown_refl w2 _)) (by simp; omega) (by intro r hr; injection hr with hr; omega))
    have HG2 := hide (grown_new (o := 1) (v := .int .i64 (1 + y)) (HG1.out.trans g2) (show w.heap.size ≤ w1.heap.size by omega))
    clear s2 g2 rA2 HS1 HG1 HR1a HA1 HR1
    go_wp2_with fail
    refine (below_any 12 HS2.out (by omega) (by omega)).mono ?_
    rintro e w3 ⟨⟨z, z0, z1, rfl⟩, s3, g3⟩
    have HR3 := hide (grown_row g3 (by simp; omega) HR2.out)
    have rA3 := grown_row g3 (by simp; omega) HA2.out
    have HA3 := hide rA3
    have b0 := rA3.cell (i := 0) (by simp)
    have b1 := rA3.cell (i := 1) (by simp)
    have bf := rA3.frozen 1
    simp at b0 b1
    have r0 := HR3.out.cell (i := 0) (by simp)
    have r1 := HR3.out.cell (i := 1) (by simp)
    have rf0 := HR3.out.frozen 0
    have rf1 := HR3.out.frozen 1
    simp at r0 r1
    have HS3 := hide s3
    have HG3 := hide (HG2.out.trans g3)
    clear s3 g3 rA3 HS2 HG2 HR2 HA2 a0 a1 af
    have hne : w1.heap.size ≠ w.heap.size := by omega
    by_cases hz : z = 0
    · subst hz
      go_wp2_with fail
      obtain ⟨o0, o1⟩ := row2_outQ (HR3.out.setOther (a := ⟨w1.heap.size, 1, none⟩) (by simp; omega) (.int .i64 99)) (.int .i64 (1 + x)) (.int .i64 99)
      refine bodyPost_ret (v := accV (1 + x) 99) ?_ rfl ⟨isAcc (by simp [accB, show ¬ (1 + x < 6) by omega]; omega), (HS3.out.grown (grown_set (B := w1.heap.size) (o := 1) (v := .int .i64 99) (grown_refl w3 _)) (by simp; omega) (by intro r hr; injection hr with hr; omega)).grown (grown_set (grown_set (grown_refl _ (some w.heap.size)))) (by simp; omega) (by intro r hr; injection hr with hr; omega), grown_new (grown_new (grown_new (o := 1) (v := .int .i64 99) HG3.out (show w.heap.size ≤ w1.heap.size by omega)) (Nat.le_refl _)) (Nat.le_refl _)⟩
      revert o0 o1
      clear HR3 HS3 HG3 b0 b1 bf r0 r1 rf0 rf1 HA3
      generalize World.setCell (World.setCell _ _ _) _ _ = W
      intro o0 o1
      simp [results, Try.results80, go_sem, o0, o1]
    · have hz' : (z == 0) = false := beq_eq_false_iff_ne.2 hz
      clear hz
      go_wp2_with fail
      obtain ⟨o0, o1⟩ := row2_outQ HR3.out (.int .i64 (1 + x)) (.int .i64 (1 + y))
      refine bodyPost_ret (v := accV (1 + x) (1 + y)) ?_ rfl ⟨isAcc (by simp [accB, show ¬ (1 + x < 6) by omega]; omega), HS3.out.grown (grown_set (grown_set (grown_refl w3 (some w.heap.size)))) (by simp; omega) (by intro r hr; injection hr with hr; omega), grown_new (grown_new HG3.out (Nat.le_refl _)) (Nat.le_refl _)⟩
      revert o0 o1
      clear HR3 HS3 HG3 b0 b1 bf r0 r1 rf0 rf1 HA3
      generalize World.setCell _ _ _ = W
      intro o0 o1
      simp [results, Try.results80, go_sem, o0, o1]
  · have r0 := HR1.out.cell (i := 0) (by simp)
    have r1 := HR1.out.cell (i := 1) (by simp)
    have rf0 := HR1.out.frozen 0
    have rf1 := HR1.out.frozen 1
    simp at r0 r1
    go_wp2_with fail
    obtain ⟨o0', o1'⟩ := row2_outQ HR1.out (.int .i64 (1 + x)) (.int .i64 0)
    have o0 := (Keeps.alloc (Keeps.refl _) (.cells #[.int .i64 (1 + x), .int .i64 0] 33)).cell o0'
    have o1 := (Keeps.alloc (Keeps.refl _) (.cells #[.int .i64 (1 + x), .int .i64 0] 33)).cell o1'
    refine bodyPost_ret (v := accV (1 + x) 0) ?_ rfl ⟨isAcc (by simp [accB, show 1 + x < 6 by omega]; omega), ?_, ?_⟩
    · revert o0 o1
      clear HR1 HR1a HS1 HG1 HA1 r0 r1 rf0 rf1 o0' o1'
      generalize World.alloc (World.setCell _ _ _) _ = W
      intro o0 o1
      simp [results, Try.results80, go_sem, o0, o1]
    · exact ((HS1w.out.grown (grown_set (grown_set (grown_refl w1 (some w.heap.size)))) (by simp; omega) (by intro r hr; injection hr with hr; omega)).grown (World.grownBy_alloc _ _ none) (by simp) (by simp))
    · exact grown_alloc (grown_new (grown_new HG1w.out (Nat.le_refl _)) (Nat.le_refl _)) _

set_option maxHeartbeats 2000000 in
theorem anyacc_any {B0 B : Nat} {a : Option Addr} {len cap : Nat} {w : World} (s : Dr B0 B a len cap w) :
    Calls Try.prog 65 #[.pointer (some ⟨B, 0, none⟩)] w fun e w' => AnyAcc e ∧ Dr B0 B a len cap w' ∧ w.grownBy w' (some B) := by
  have hB := s.lt
  have hB0 := s.le
  have HG0 := hide (World.grownBy_alloc w (.cells #[.int .i64 0, .int .i64 0] 33) (some B))
  have HS0 := hide (s.grown (World.grownBy_alloc w (.cells #[.int .i64 0, .int .i64 0] 33) none) (by simp) (by simp))
  have HR0 := hide (World.rowIs_alloc w #[.int .i64 0, .int .i64 0] 33 _ (two_rowQ _ _))
  clear s
  go_enter Try.func65, Try.ntmps65
  go_wp2_with fail
  refine (acc_any HS0.out).mono ?_
  rintro e w1 ⟨⟨k, c, _, rfl⟩, s1, g1⟩
  have HR1 := hide (grown_row g1 (by simp; omega) HR0.out)
  have hz1 := HR1.out.lt
  have HS1 := hide (s1.grown (World.grownBy_alloc w1 (.cells #[.int .i64 k, .int .i64 c] 33) none) (by simp) (by simp))
  have HG1 := hide (grown_alloc (HG0.out.trans g1) (.cells #[.int .i64 k, .int .i64 c] 33))
  have HR1a := hide (HR1.out.alloc (.cells #[.int .i64 k, .int .i64 c] 33))
  have HA1 := hide (World.rowIs_alloc w1 #[.int .i64 k, .int .i64 c] 33 _ (two_rowQ _ _))
  clear s1 g1 HS0 HG0 HR0 HR1
  go_wp2_with fail
  refine (below_any 8 HS1.out (by omega) (by omega)).mono ?_
  rintro e w2 ⟨⟨q, q0, q1, rfl⟩, s2, g2⟩
  have HR2 := hide (grown_row g2 (by simp; omega) HR1a.out)
  have HA2 := hide (grown_row g2 (by simp; omega) HA1.out)
  have HS2 := hide s2
  have HG2 := hide (HG1.out.trans g2)
  have hne : w1.heap.size ≠ w.heap.size := by omega
  clear s2 g2 HS1 HG1 HR1a HA1
  by_cases hq : q = 0
  · subst hq
    go_wp2_with fail
    refine (raw_any HS2.out).mono ?_
    rintro e w3 ⟨⟨z, rfl⟩, s3, g3⟩
    have HR3 := hide (grown_row g3 (by simp; omega) HR2.out)
    have rA3 := grown_row g3 (by simp; omega) HA2.out
    have b0 := rA3.cell (i := 0) (by simp)
    have b1 := rA3.cell (i := 1) (by simp)
    have bf0 := rA3.frozen 0
    have bf1 := rA3.frozen 1
    simp at b0 b1
    have r0 := HR3.out.cell (i := 0) (by simp)
    have r1 := HR3.out.cell (i := 1) (by simp)
    have rf0 := HR3.out.frozen 0
    have rf1 := HR3.out.frozen 1
    simp at r0 r1
    have HS3 := hide s3
    have HG3 := hide (HG2.out.trans g3)
    clear s3 g3 rA3 HS2 HG2 HR2 HA2
    go_wp2_with fail
    obtain ⟨o0, o1⟩ := row2_outQ (HR3.out.setOther (a := ⟨w1.heap.size, 0, none⟩) (by simp; omega) (.int .i64 z)) (.int .i64 z) (.int .i64 c)
    refine bodyPost_ret (v := accV z c) ?_ rfl ⟨anyAcc, (HS3.out.grown (grown_set (B := w1.heap.size) (o := 0) (v := .int .i64 z) (grown_refl w3 _)) (by simp; omega) (by intro r hr; injection hr with hr; omega)).grown (grown_set (grown_set (grown_refl _ (some w.heap.size)))) (by simp; omega) (by intro r hr; injection hr with hr; omega), grown_new (grown_new (grown_new (o := 0) (v := .int .i64 z) HG3.out (show w.heap.size ≤ w1.heap.size by omega)) (Nat.le_refl _)) (Nat.le_refl _)⟩
    revert o0 o1
    clear HR3 HS3 HG3 b0 b1 bf0 bf1 r0 r1 rf0 rf1
    generalize World.setCell (World.setCell _ _ _) _ _ = W
    intro o0 o1
    simp [results, Try.results65, go_sem, o0, o1]
  · have hq0 : (q == 0) = false := beq_eq_false_iff_ne.2 hq
    clear hq
    by_cases hq : q = 1
    · subst hq
      go_wp2_with fail
      refine (raw_any HS2.out).mono ?_
      rintro e w3 ⟨⟨z, rfl⟩, s3, g3⟩
      have HR3 := hide (grown_row g3 (by simp; omega) HR2.out)
      have rA3 := grown_row g3 (by simp; omega) HA2.out
      have b0 := rA3.cell (i := 0) (by simp)
      have b1 := rA3.cell (i := 1) (by simp)
      have bf0 := rA3.frozen 0
      have bf1 := rA3.frozen 1
      simp at b0 b1
      have r0 := HR3.out.cell (i := 0) (by simp)
      have r1 := HR3.out.cell (i := 1) (by simp)
      have rf0 := HR3.out.frozen 0
      have rf1 := HR3.out.frozen 1
      simp at r0 r1
      have HS3 := hide s3
      have HG3 := hide (HG2.out.trans g3)
      clear s3 g3 rA3 HS2 HG2 HR2 HA2
      go_wp2_with fail
      obtain ⟨o0, o1⟩ := row2_outQ (HR3.out.setOther (a := ⟨w1.heap.size, 1, none⟩) (by simp; omega) (.int .i64 z)) (.int .i64 k) (.int .i64 z)
      refine bodyPost_ret (v := accV k z) ?_ rfl ⟨anyAcc, (HS3.out.grown (grown_set (B := w1.heap.size) (o := 1) (v := .int .i64 z) (grown_refl w3 _)) (by simp; omega) (by intro r hr; injection hr with hr; omega)).grown (grown_set (grown_set (grown_refl _ (some w.heap.size)))) (by simp; omega) (by intro r hr; injection hr with hr; omega), grown_new (grown_new (grown_new (o := 1) (v := .int .i64 z) HG3.out (show w.heap.size ≤ w1.heap.size by omega)) (Nat.le_refl _)) (Nat.le_refl _)⟩
      revert o0 o1
      clear HR3 HS3 HG3 b0 b1 bf0 bf1 r0 r1 rf0 rf1
      generalize World.setCell (World.setCell _ _ _) _ _ = W
      intro o0 o1
      simp [results, Try.results65, go_sem, o0, o1]
    · have hq1 : (q == 1) = false := beq_eq_false_iff_ne.2 hq
      have b0 := HA2.out.cell (i := 0) (by simp)
      have b1 := HA2.out.cell (i := 1) (by simp)
      simp at b0 b1
      have r0 := HR2.out.cell (i := 0) (by simp)
      have r1 := HR2.out.cell (i := 1) (by simp)
      have rf0 := HR2.out.frozen 0
      have rf1 := HR2.out.frozen 1
      simp at r0 r1
      clear hq
      go_wp2_with fail
      obtain ⟨o0, o1⟩ := row2_outQ HR2.out (.int .i64 k) (.int .i64 c)
      refine bodyPost_ret (v := accV k c) ?_ rfl ⟨anyAcc, HS2.out.grown (grown_set (grown_set (grown_refl w2 (some w.heap.size)))) (by simp; omega) (by intro r hr; injection hr with hr; omega), grown_new (grown_new HG2.out (Nat.le_refl _)) (Nat.le_refl _)⟩
      revert o0 o1
      clear HR2 HS2 HG2 HA2 b0 b1 r0 r1 rf0 rf1
      generalize World.setCell (World.setCell _ _ _) _ _ = W
      intro o0 o1
      simp [results, Try.results65, go_sem, o0, o1]

theorem RowAt.monoQ {B0 B1 : Nat} {w : World} {a : Option Addr} {len : Nat} (h : RowAt B0 w a len) (hb : B0 ≤ B1) : RowAt B1 w a len := by
  intro j hj
  obtain ⟨b, off, n, e, hl, n0, n1, hc⟩ := h j hj
  exact ⟨b, off, n, e, by omega, n0, n1, hc⟩

end Go.Proofs.Ytecjjkgdgmjgmaa
