/- Texts of the verifier, joined: DrG, DrB, DrS. -/
import Derived.Test.YtkdnddckogbgaaaGreatDoorFO1
import Derived.WalkLawsBesides
import Derived.Laws.OwnMore
import Derived.Maps.Range
import Derived.Deep.OwnRows
import Derived.OpenShut
import Derived.Test.YtkdnddckogbgaaaGreatDoorFO9
import Derived.Test.YtkdnddckogbgaaaGreatDoorFO2
namespace Go.Proofs.YtkdnddckogbgaaaGreatDoor
open Go.RowKit
set_option linter.unusedVariables false

def RowAt (B0 : Nat) (w : World) (a : Option Addr) (len : Nat) : Prop := ∀ j, j < len → ∃ b off n, a = some ⟨b, off, none⟩ ∧ b < B0 ∧ 0 ≤ n ∧ n ≤ 255 ∧ w.cell? ⟨b, off + j, none⟩ = some (.int .u8 n)
/-- The cursor of a draw: a block of three cells that the call has made. -/
def Cur (B0 : Nat) (w : World) (B : Nat) (a : Option Addr) (len cap : Nat) : Prop :=
  B0 ≤ B ∧ ∃ (i : Nat) (h : Int), i ≤ len ∧ w.cell? ⟨B, 0, none⟩ = some (.slice a len cap) ∧ w.cell? ⟨B, 1, none⟩ = some (.int .i64 (i : Int)) ∧ w.cell? ⟨B, 2, none⟩ = some (.int .i64 h) ∧ w.frozen? ⟨B, 1, none⟩ = false ∧ w.frozen? ⟨B, 2, none⟩ = false


theorem Cur.drewN {B0 B : Nat} {w : World} {a : Option Addr} {len cap : Nat} (h : Cur B0 w B a len cap) (n : Nat) : Cur B0 (w.drewN n) B a len cap := h

theorem RowAt.below {B0 : Nat} {w w' : World} {a : Option Addr} {len : Nat} (h : RowAt B0 w a len) (hb : Below B0 w w') : RowAt B0 w' a len := by
  intro j hj
  obtain ⟨b, off, n, e, hlt, n0, n1, hc⟩ := h j hj
  exact ⟨b, off, n, e, hlt, n0, n1, by rw [Below.cell hb (p := ⟨b, off + j, none⟩) hlt]; exact hc⟩

/-- While a law draws: the cursor, the bytes. -/
structure Dr (B0 B : Nat) (a : Option Addr) (len cap : Nat) (w : World) : Prop where
  cur : Cur B0 w B a len cap
  row : RowAt B0 w a len
  small : len ≤ 1048576
theorem grown_refl (w : World) (row : Option Nat) : w.grownBy w row := ⟨rfl, rfl, rfl, Nat.le_refl _, fun _ _ _ => rfl⟩
theorem grown_set {w w1 : World} {B o : Nat} {v : Value} (h : w.grownBy w1 (some B)) : w.grownBy (w1.setCell ⟨B, o, none⟩ v) (some B) :=
  ⟨h.os, h.tape, h.output, by simpa [World.setCell] using h.size, fun k hk hne => by rw [Deep.blk_setCell_other _ _ _ _ (fun e => hne (by rw [e]))]; exact h.block k hk hne⟩
theorem grown_new {w w1 : World} {row : Option Nat} {b o : Nat} {v : Value} (h : w.grownBy w1 row) (hb : w.heap.size ≤ b) : w.grownBy (w1.setCell ⟨b, o, none⟩ v) row :=
  ⟨h.os, h.tape, h.output, by simpa [World.setCell] using h.size, fun k hk hne => by rw [Deep.blk_setCell_other _ _ _ _ (by show k ≠ b; omega)]; exact h.block k hk hne⟩
theorem grown_drewN {w w1 : World} {row : Option Nat} (h : w.grownBy w1 row) (n : Nat) : w.grownBy (w1.drewN n) row := ⟨h.os, h.tape, h.output, h.size, h.block⟩
theorem grown_alloc {w w1 : World} {row : Option Nat} (h : w.grownBy w1 row) (o : Obj) : w.grownBy (w1.alloc o) row :=
  h.andThen (World.grownBy_alloc w1 o none) (fun j hj => by cases hj)
theorem grown_row {w w1 : World} {r : Option Nat} (h : w.grownBy w1 r) {b : Nat} (hb : some b ≠ r) {t : TypeId} {n : Nat} {f : Nat → Value} (hr : w.rowIs b t n f) : w1.rowIs b t n f := hr.of_block (h.block b hr.lt hb)
theorem Keeps.grows {w w' : World} (h : Keeps w w') (row : Option Nat) : w.grownBy w' row := ⟨h.os, h.tape, h.output, h.size, fun k hk _ => h.block k hk⟩
theorem keeps_of {w0 w1 w2 : World} {row : Option Nat} (h : Keeps w0 w1) (g : w1.grownBy w2 row) (hr : ∀ r, row = some r → w0.heap.size ≤ r) : Keeps w0 w2 :=
  ⟨g.os.trans h.os, g.tape.trans h.tape, g.output.trans h.output, Nat.le_trans h.size g.size, fun k hk => (g.block k (Nat.lt_of_lt_of_le hk h.size) (fun e => by have := hr k e.symm; omega)).trans (h.block k hk)⟩
theorem Dr.lt {B0 B : Nat} {a : Option Addr} {len cap : Nat} {w : World} (s : Dr B0 B a len cap w) : B < w.heap.size := by
  obtain ⟨⟨_, i, h, _, c0, _⟩, _, _⟩ := s
  exact lt_of_cell c0
theorem Dr.le {B0 B : Nat} {a : Option Addr} {len cap : Nat} {w : World} (s : Dr B0 B a len cap w) : B0 ≤ B := s.cur.1
/-- The draw stands where it stood while other blocks of the call's own are written. -/
theorem Dr.grown {B0 B : Nat} {a : Option Addr} {len cap : Nat} {w w' : World} {row : Option Nat} (s : Dr B0 B a len cap w) (g : w.grownBy w' row) (hB : some B ≠ row) (hr : ∀ r, row = some r → B0 ≤ r) : Dr B0 B a len cap w' := by
  have hlt := s.lt
  obtain ⟨⟨hB0, i, h, hi, c0, c1, c2, f1, f2⟩, rw, sm⟩ := s
  have eb := g.block B hlt hB
  refine ⟨⟨hB0, i, h, hi, ?_, ?_, ?_, ?_, ?_⟩, ?_, sm⟩
  · rw [World.cell?_of_block (w := w) eb]; exact c0
  · rw [World.cell?_of_block (w := w) eb]; exact c1
  · rw [World.cell?_of_block (w := w) eb]; exact c2
  · rw [World.frozen?_of_block (w := w) eb]; exact f1
  · rw [World.frozen?_of_block (w := w) eb]; exact f2
  · intro j hj
    obtain ⟨b, off, n, e, hb, n0, n1, hc⟩ := rw j hj
    have hbl := g.block b (by omega) (fun e => by have := hr b e.symm; omega)
    exact ⟨b, off, n, e, hb, n0, n1, by rw [World.cell?_of_block (w := w) hbl]; exact hc⟩

theorem cur_two {B0 B : Nat} {a : Option Addr} {len cap k : Nat} {h h' : Int} {w : World} (n k' : Nat) (hB0 : B0 ≤ B) (hk : k' ≤ len)
   (c0 : w.cell? ⟨B, 0, none⟩ = some (.slice a len cap)) (c1 : w.cell? ⟨B, 1, none⟩ = some (.int .i64 (k : Int))) (c2 : w.cell? ⟨B, 2, none⟩ = some (.int .i64 h))
   (f1 : w.frozen? ⟨B, 1, none⟩ = false) (f2 : w.frozen? ⟨B, 2, none⟩ = false) :
    Cur B0 (((w.setCell ⟨B, 2, none⟩ (.int .i64 h')).drewN n).setCell ⟨B, 1, none⟩ (.int .i64 (k' : Int))) B a len cap := by
  have d1 : (w.setCell ⟨B, 2, none⟩ (.int .i64 h')).cell? ⟨B, 1, none⟩ = some (.int .i64 (k : Int)) := by rw [World.cell?_setCell_other _ _ _ _ (by simp)]; exact c1
  have d0 : (w.setCell ⟨B, 2, none⟩ (.int .i64 h')).cell? ⟨B, 0, none⟩ = some (.slice a len cap) := by rw [World.cell?_setCell_other _ _ _ _ (by simp)]; exact c0
  have d2 : (w.setCell ⟨B, 2, none⟩ (.int .i64 h')).cell? ⟨B, 2, none⟩ = some (.int .i64 h') := World.cell?_setCell_same _ _ _ c2
  refine ⟨hB0, k', h', hk, ?_, ?_, ?_, ?_, ?_⟩
  · rw [World.cell?_setCell_other _ _ _ _ (by simp)]; exact d0
  · exact World.cell?_setCell_same _ _ _ d1
  · rw [World.cell?_setCell_other _ _ _ _ (by simp)]; exact d2
  · simpa using f1
  · simpa using f2
theorem cur_one {B0 B : Nat} {a : Option Addr} {len cap k : Nat} {h h' : Int} {w : World} (n : Nat) (hB0 : B0 ≤ B) (hk : k ≤ len)
   (c0 : w.cell? ⟨B, 0, none⟩ = some (.slice a len cap)) (c1 : w.cell? ⟨B, 1, none⟩ = some (.int .i64 (k : Int))) (c2 : w.cell? ⟨B, 2, none⟩ = some (.int .i64 h))
   (f1 : w.frozen? ⟨B, 1, none⟩ = false) (f2 : w.frozen? ⟨B, 2, none⟩ = false) :
    Cur B0 ((w.setCell ⟨B, 2, none⟩ (.int .i64 h')).drewN n) B a len cap := by
  refine ⟨hB0, k, h', hk, ?_, ?_, ?_, ?_, ?_⟩
  · show (w.setCell ⟨B, 2, none⟩ (.int .i64 h')).cell? ⟨B, 0, none⟩ = _
    rw [World.cell?_setCell_other _ _ _ _ (by simp)]; exact c0
  · show (w.setCell ⟨B, 2, none⟩ (.int .i64 h')).cell? ⟨B, 1, none⟩ = _
    rw [World.cell?_setCell_other _ _ _ _ (by simp)]; exact c1
  · exact World.cell?_setCell_same _ _ _ c2
  · simpa using f1
  · simpa using f2

/-- A byte of a draw. -/
def IsByte (e : Ending) : Prop := ∃ x : Int, 0 ≤ x ∧ x ≤ 255 ∧ e = .returned (.int .i64 x)
theorem isByte {x : Int} (h0 : 0 ≤ x) (h1 : x ≤ 255) : IsByte (.returned (.int .i64 x)) := ⟨x, h0, h1, rfl⟩

set_option maxHeartbeats 1000000 in
theorem byte_more (B0 B b off : Nat) (k : Nat) (n h : Int) (len cap : Nat) (w : World) (hB0 : B0 ≤ B) (hB : b < B0) (hk : k < len) (hlen : len ≤ 1048576) (n0 : 0 ≤ n) (n1 : n ≤ 255)
   (c0 : w.cell? ⟨B, 0, none⟩ = some (.slice (some ⟨b, off, none⟩) len cap)) (c1 : w.cell? ⟨B, 1, none⟩ = some (.int .i64 (k : Int))) (c2 : w.cell? ⟨B, 2, none⟩ = some (.int .i64 h))
   (f1 : w.frozen? ⟨B, 1, none⟩ = false) (f2 : w.frozen? ⟨B, 2, none⟩ = false) (cr : w.cell? ⟨b, off + k, none⟩ = some (.int .u8 n)) :
    Calls Tryz.prog 88 #[.pointer (some ⟨B, 0, none⟩)] w fun e w' => IsByte e ∧ Cur B0 w' B (some ⟨b, off, none⟩) len cap ∧ w.grownBy w' (some B) := by
  have hne : b ≠ B := by omega
  obtain ⟨h', eh⟩ : ∃ h', wrap64 (wrap64 (h * 6364136223846793005) + 1442695040888963407) = h' := ⟨_, rfl⟩
  obtain ⟨x, ex⟩ : ∃ x, bits BinOp.and IntKind.i64 (bits BinOp.xor IntKind.i64 (h' / 8589934592) (h' / 35184372088832)) 255 = x := ⟨_, rfl⟩
  have hx := and_mask (bits BinOp.xor IntKind.i64 (h' / 8589934592) (h' / 35184372088832)) 255 (by omega) (by omega)
  rw [ex] at hx
  obtain ⟨hx0, hx1⟩ := hx
  have hy := and_mask (x + n) 255 (by omega) (by omega)
  generalize ey : bits BinOp.and IntKind.i64 (x + n) 255 = y at *
  obtain ⟨hy0, hy1⟩ := hy
  go_enter Tryz.func88, Tryz.ntmps88
  go_wp2_with fail
  go_quiet (fail)
  go_wp2_with fail
  go_quiet (fail)
  go_wp2_with fail
  go_quiet (fail)
  go_wp2_with fail
  go_ret
  refine ⟨isByte hy0 hy1, ?_, ?_⟩
  · exact cur_two _ (k + 1) hB0 (by omega) c0 c1 c2 f1 f2
  · exact grown_set (grown_drewN (grown_set (grown_refl _ _)) _)

set_option maxHeartbeats 1000000 in
theorem byte_none (B0 B : Nat) (a : Option Addr) (k : Nat) (h : Int) (len cap : Nat) (w : World) (hB0 : B0 ≤ B) (hk : k = len) (hlen : len ≤ 1048576)
   (c0 : w.cell? ⟨B, 0, none⟩ = some (.slice a len cap)) (c1 : w.cell? ⟨B, 1, none⟩ = some (.int .i64 (k : Int))) (c2 : w.cell? ⟨B, 2, none⟩ = some (.int .i64 h))
   (f1 : w.frozen? ⟨B, 1, none⟩ = false) (f2 : w.frozen? ⟨B, 2, none⟩ = false) :
    Calls Tryz.prog 88 #[.pointer (some ⟨B, 0, none⟩)] w fun e w' => IsByte e ∧ Cur B0 w' B a len cap ∧ w.grownBy w' (some B) := by
  subst hk
  obtain ⟨h', eh⟩ : ∃ h', wrap64 (wrap64 (h * 6364136223846793005) + 1442695040888963407) = h' := ⟨_, rfl⟩
  obtain ⟨x, ex⟩ : ∃ x, bits BinOp.and IntKind.i64 (bits BinOp.xor IntKind.i64 (h' / 8589934592) (h' / 35184372088832)) 255 = x := ⟨_, rfl⟩
  have hx := and_mask (bits BinOp.xor IntKind.i64 (h' / 8589934592) (h' / 35184372088832)) 255 (by omega) (by omega)
  rw [ex] at hx
  obtain ⟨hx0, hx1⟩ := hx
  go_enter Tryz.func88, Tryz.ntmps88
  go_wp2_with fail
  go_quiet (fail)
  go_wp2_with fail
  go_quiet (fail)
  go_wp2_with fail
  go_ret
  refine ⟨isByte hx0 hx1, ?_, ?_⟩
  · refine Cur.drewN ?_ _
    exact cur_one _ hB0 (Nat.le_refl _) c0 c1 c2 f1 f2
  · exact grown_drewN (grown_drewN (grown_set (grown_refl _ _)) _) _

theorem row_grown {B0 B : Nat} {a : Option Addr} {len : Nat} {w w' : World} (h : RowAt B0 w a len) (g : w.grownBy w' (some B)) (hB : B0 ≤ B) (hs : B < w.heap.size) : RowAt B0 w' a len := by
  intro j hj
  obtain ⟨b, off, n, e, hb, n0, n1, hc⟩ := h j hj
  have hbl := g.block b (by omega) (fun e => by injection e with e; omega)
  exact ⟨b, off, n, e, hb, n0, n1, by rw [World.cell?_of_block (w := w) hbl]; exact hc⟩
theorem byte_any {B0 B : Nat} {a : Option Addr} {len cap : Nat} {w : World} (s : Dr B0 B a len cap w) :
    Calls Tryz.prog 88 #[.pointer (some ⟨B, 0, none⟩)] w fun e w' => IsByte e ∧ Dr B0 B a len cap w' ∧ w.grownBy w' (some B) := by
  have hlt := s.lt
  obtain ⟨⟨hB0, k, h, hk, c0, c1, c2, f1, f2⟩, row, small⟩ := s
  by_cases hl : k < len
  · obtain ⟨b, off, n, rfl, hb, n0, n1, cr⟩ := row k hl
    refine (byte_more B0 B b off k n h len cap w hB0 hb hl small n0 n1 c0 c1 c2 f1 f2 cr).mono ?_
    rintro e w' ⟨he, hc, hg⟩
    exact ⟨he, ⟨hc, row_grown row hg hB0 hlt, small⟩, hg⟩
  · refine (byte_none B0 B a k h len cap w hB0 (by omega) small c0 c1 c2 f1 f2).mono ?_
    rintro e w' ⟨he, hc, hg⟩
    exact ⟨he, ⟨hc, row_grown row hg hB0 hlt, small⟩, hg⟩

/-- A number of a draw. -/
def IsInt (e : Ending) : Prop := ∃ x : Int, e = .returned (.int .i64 x)
theorem isInt {x : Int} : IsInt (.returned (.int .i64 x)) := ⟨x, rfl⟩
/-- A number of a draw, below n. -/
def IsBelow (n : Int) (e : Ending) : Prop := ∃ x : Int, 0 ≤ x ∧ x < n ∧ e = .returned (.int .i64 x)
theorem isBelow {n x : Int} (h0 : 0 ≤ x) (h1 : x < n) : IsBelow n (.returned (.int .i64 x)) := ⟨x, h0, h1, rfl⟩

theorem below_any {B0 B : Nat} {a : Option Addr} {len cap : Nat} {w : World} (n : Int) (s : Dr B0 B a len cap w) (h0 : 0 < n) (h1 : n ≤ 1000000000) :
    Calls Tryz.prog 52 #[.pointer (some ⟨B, 0, none⟩), .int .i64 n] w fun e w' => IsBelow n e ∧ Dr B0 B a len cap w' ∧ w.grownBy w' (some B) := by
  have HS := hide s
  clear s
  by_cases hs : n ≤ 256
  · go_enter Tryz.func52, Tryz.ntmps52
    go_wp2_with (go_at_call 88; refine (byte_any HS.out).mono ?_; rintro e w1 ⟨⟨x, x0, x1, rfl⟩, s1, g1⟩)
    go_ret
    exact ⟨isBelow (Int.emod_nonneg _ (by omega)) (Int.emod_lt_of_pos _ h0), s1, g1⟩
  · go_enter Tryz.func52, Tryz.ntmps52
    go_wp2_with fail
    refine (byte_any HS.out).mono ?_
    rintro e w1 ⟨⟨x, x0, x1, rfl⟩, s1, g1⟩
    have S1 := hide s1
    have G1 := hide g1
    clear s1 g1
    go_wp2_with fail
    refine (byte_any S1.out).mono ?_
    rintro e w2 ⟨⟨y, y0, y1, rfl⟩, s2, g2⟩
    have S2 := hide s2
    have G2 := hide (G1.out.trans g2)
    clear s2 g2
    go_wp2_with fail
    refine (byte_any S2.out).mono ?_
    rintro e w3 ⟨⟨z, z0, z1, rfl⟩, s3, g3⟩
    have S3 := hide s3
    have G3 := hide (G2.out.trans g3)
    clear s3 g3
    go_wp2_with fail
    refine (byte_any S3.out).mono ?_
    rintro e w4 ⟨⟨u, u0, u1, rfl⟩, s4, g4⟩
    have S4 := hide s4
    have G4 := hide (G3.out.trans g4)
    clear s4 g4
    go_wp2_with fail
    go_ret
    exact ⟨isBelow (Int.emod_nonneg _ (by omega)) (Int.emod_lt_of_pos _ h0), S4.out, G4.out⟩

set_option maxHeartbeats 2000000 in
theorem raw_any {B0 B : Nat} {a : Option Addr} {len cap : Nat} {w : World} (s : Dr B0 B a len cap w) :
    Calls Tryz.prog 67 #[.pointer (some ⟨B, 0, none⟩)] w fun e w' => IsInt e ∧ Dr B0 B a len cap w' ∧ w.grownBy w' (some B) := by
  have HS := hide s
  clear s
  go_enter Tryz.func67, Tryz.ntmps67
  go_wp2_with fail
  refine (below_any 11 HS.out (by omega) (by omega)).mono ?_
  rintro e w1 ⟨⟨k, k0, k1, rfl⟩, s1, g1⟩
  have S1 := hide s1
  have G1 := hide g1
  clear s1 g1 HS
  go_wp2_with (first | (go_at_call 52; refine (below_any _ S2.out (by omega) (by omega)).mono ?_; rintro e w3 ⟨⟨y, y0, y1, rfl⟩, s3, g3⟩; have S3 := hide s3; have G3 := hide (G2.out.trans g3); clear s3 g3) | (go_at_call 52; refine (below_any _ S1.out (by omega) (by omega)).mono ?_; rintro e w2 ⟨⟨x, x0, x1, rfl⟩, s2, g2⟩; have S2 := hide s2; have G2 := hide (G1.out.trans g2); clear s2 g2))
  all_goals
    go_ret
    first
      | exact ⟨isInt, S3.out, G3.out⟩
      | exact ⟨isInt, S2.out, G2.out⟩
      | exact ⟨isInt, S1.out, G1.out⟩

/-- A pointer to a new cursor. -/
def IsCur (B : Nat) (e : Ending) : Prop := e = .returned (.pointer (some ⟨B, 0, none⟩))
theorem new_dr {w : World} {a : Option Addr} {len cap : Nat} {h : Int} (hr : RowAt w.heap.size w a len) (hl : len ≤ 1048576) :
    Dr w.heap.size w.heap.size a len cap (w.alloc (.cells #[.slice a len cap, .int .i64 0, .int .i64 h] 107)) := by
  have e := fun j => World.cell?_alloc_mark w #[.slice a len cap, .int .i64 0, .int .i64 h] 107 (0, 0) j
  have f : ∀ j, (w.alloc (.cells #[.slice a len cap, .int .i64 0, .int .i64 h] 107)).frozen? ⟨w.heap.size, j, none⟩ = false := by
    intro j
    rw [frozen?_alloc_cells]
    simp [World.frozen?]
  have hb : Below w.heap.size w (w.alloc (.cells #[.slice a len cap, .int .i64 0, .int .i64 h] 107)) := Below.alloc (Below.refl _ _) (Nat.le_refl _) _
  exact ⟨⟨Nat.le_refl _, 0, h, Nat.zero_le _, e 0, e 1, e 2, f 1, f 2⟩, hr.below hb, hl⟩
set_option maxRecDepth 100000 in
set_option maxHeartbeats 2000000 in
theorem new_any (a : Option Addr) (len cap : Nat) (w : World) (hr : RowAt w.heap.size w a len) (hl : len ≤ 1048576) :
    Calls Tryz.prog 30 #[.slice a len cap] w fun e w' => IsCur w.heap.size e ∧ Dr w.heap.size w.heap.size a len cap w' ∧ Keeps w w' := by
  have HR := hide hr
  clear hr
  go_enter Tryz.func30, Tryz.ntmps30
  go_wp2_with fail
  go_loop [3, 4] (fun x y => ∃ (h : Int) (k : Nat), k ≤ len ∧ x = .int .i64 h ∧ y = .int .i64 (k : Int)) (fun _ y => len - (intOf y).toNat)
  case atStart => exact ⟨_, 0, Nat.zero_le _, rfl, rfl⟩
  case round =>
    obtain ⟨h, k, hk, rfl, rfl⟩ := hrel
    by_cases hlt : k < len
    · by_cases hm : k < 4000
      · obtain ⟨b, off, n, rfl, hb, n0, n1, hc⟩ := HR.out k hlt
        go_wp2_with fail
        go_round
        case rel => exact ⟨_, k + 1, by omega, rfl, by go_num⟩
        case measure => simp [intOf]; omega
      · go_wp2_with fail
        go_ret
        exact ⟨rfl, new_dr HR.out hl, Keeps.alloc (Keeps.refl _) _⟩
    · go_wp2_with fail
      go_ret
      exact ⟨rfl, new_dr HR.out hl, Keeps.alloc (Keeps.refl _) _⟩
theorem row_nil {W : World} : RowAt W.heap.size W none 0 := fun j hj => absurd hj (Nat.not_lt_zero j)
theorem row_of {W : World} {x : Addr} {len cap : Nat} {zs : List Int} (hl : len ≤ cap) (hz : zs.length = cap) (hcell : ∀ i, i < zs.length → W.cell? (x.add i) = some (.int .u8 (zs.getD i 0))) (hwz : ∀ n ∈ zs, (Lit.int .u8 n).wf = true) :
    RowAt W.heap.size W (some x) len := by
  intro j hj
  have hc := hcell j (by omega)
  obtain ⟨b, off, spot⟩ := x
  have hspot : spot = none := by simpa [Addr.add] using World.cell?_spot (hcell 0 (by omega))
  subst hspot
  have hc' : W.cell? ⟨b, off + j, none⟩ = some (.int .u8 (zs.getD j 0)) := by
    by_cases hj0 : j = 0
    · subst hj0; simpa [Addr.add] using hc
    · simpa [Addr.add, hj0] using hc
  have hm : zs.getD j 0 ∈ zs := by
    rw [List.getD_eq_getElem?_getD, List.getElem?_eq_getElem (by omega)]
    exact List.getElem_mem _
  have hb := hwz _ hm
  have hb2 : 0 ≤ zs.getD j 0 ∧ zs.getD j 0 ≤ 255 := by
    exact bounds_u8 hb
  exact ⟨b, off, zs.getD j 0, rfl, lt_of_cell hc', hb2.1, hb2.2, hc'⟩
end Go.Proofs.YtkdnddckogbgaaaGreatDoor
namespace Go.Proofs.YtkdnddckogbgaaaGreatDoor
open Go.RowKit
set_option linter.unusedVariables false
/-- Bytes of the call's own, no more than n. -/
def IsBytes (base : Nat) (n : Nat) (w' : World) (e : Ending) : Prop := ∃ (p : Option Addr) (l c : Nat) (L : List UInt8), l ≤ n ∧ e = .returned (.slice p l c) ∧ Hid (L.length = l ∧ OwnsB w' base (.slice p l c) L)
theorem isBytes {base n : Nat} {w' : World} {v : Value} {L : List UInt8} (h : L.length ≤ n) (ho : OwnsB w' base v L) : IsBytes base n w' (.returned v) := by
  obtain ⟨p, c, rfl, _⟩ := Own.of_owns ho
  exact ⟨p, L.length, c, L, h, rfl, rfl, ho⟩
theorem OwnsB.grows {w w' : World} {base B : Nat} {v : Value} {L : List UInt8} (h : OwnsB w base v L) (g : w.grownBy w' (some B)) (hB : B < base) : OwnsB w' base v L :=
  World.ownsRow.kept h g (.inr fun e => by have := (h.lt B e).1; omega)
theorem byte_of {x : Int} (h0 : 0 ≤ x) (h1 : x ≤ 255) : ∃ u : UInt8, Value.int .u8 x = byV u := by
  refine ⟨UInt8.ofNat x.toNat, ?_⟩
  simp only [byV]
  congr 1
  simp
  omega
set_option maxHeartbeats 1000000 in
theorem bytes_any {B0 B : Nat} {a : Option Addr} {len cap : Nat} {w : World} (m : Nat) (s : Dr B0 B a len cap w) (hm : m ≤ 1000) :
    Calls Tryz.prog 119 #[.pointer (some ⟨B, 0, none⟩), .int .i64 (m : Int)] w fun e w' => IsBytes w.heap.size m w' e ∧ Dr B0 B a len cap w' ∧ w.grownBy w' (some B) := by
  have hB := s.lt
  have hB0 := s.le
  have HS := hide s
  clear s
  go_enter Tryz.func119, Tryz.ntmps119
  go_wp2_with fail
  refine (below_any _ HS.out (by omega) (by omega)).mono ?_
  rintro e w1 ⟨⟨x, x0, x1, rfl⟩, s1, g1⟩
  have hz := g1.size
  have HS1 := hide (s1.grown (World.grownBy_alloc w1 (.cells #[] 5) none) (by simp) (by simp))
  have HG1 := hide (grown_alloc g1 (.cells #[] 5))
  have HO1 : Hid (OwnsB (w1.alloc (.cells #[] 5)) w.heap.size (.slice (some ⟨w1.heap.size, 0, none⟩) 0 0) []) := World.ownsRow_made (base := w.heap.size) (e := 5) (size := 1) w1 #[] 0 hz (by decide) rfl
  clear s1 g1 HS
  obtain ⟨n, rfl⟩ := Int.eq_ofNat_of_zero_le x0
  go_wp2_with fail
  go_loopw [6, 7] (fun x y wr => ∃ (k : Nat) (L : List UInt8), k ≤ n ∧ y = .int .i64 (k : Int) ∧ Hid (L.length = k) ∧ Hid (OwnsB wr w.heap.size x L) ∧ w.heap.size ≤ wr.heap.size ∧ Hid (Dr B0 B a len cap wr) ∧ Hid (w.grownBy wr (some B))) (fun _ y _ => n - (intOf y).toNat)
  case atStart => exact ⟨0, [], by omega, rfl, rfl, HO1, by simp; omega, HS1, HG1⟩
  case round =>
    clear HO1 HS1 HG1
    obtain ⟨k, L, hk, rfl, HL, HOr, hbr, HSr, HGr⟩ := hrel
    by_cases hlt : k < n
    · go_wp2_with fail
      refine (byte_any HSr.out).mono ?_
      rintro e w2 ⟨⟨x, x0, x1, rfl⟩, s2, g2⟩
      obtain ⟨u, eu⟩ := byte_of x0 x1
      have ex : x % 256 = x := Int.emod_eq_of_lt x0 (by omega)
      have HO2 := hide (OwnsB.alloc (HOr.out.grows g2 hB) (.cells #[.int .u8 x] 5))
      have HC2 : Hid (Cells (w2.alloc (.cells #[.int .u8 x] 5)) (some ⟨w2.heap.size, 0, none⟩) (bys [u])) := by
        show Cells _ _ _
        rw [eu]
        exact cells_one w2 _
      have HS2 := hide (s2.grown (World.grownBy_alloc w2 (.cells #[.int .u8 x] 5) none) (by simp) (by simp))
      have HG2 := hide (grown_alloc (HGr.out.trans g2) (.cells #[.int .u8 x] 5))
      have hz2 := g2.size
      have HL2 : Hid (L.length + [u].length ≤ 4194304) := by show _ ≤ _; have := HL.out; simp; omega
      clear s2 g2 HSr HGr HOr eu
      go_wp2_with (at_builtin; refine app_bys rfl (.tmp 18) (.tmp 22) rfl w.heap.size _ L [u] rfl (some ⟨w2.heap.size, 0, none⟩) 1 (by simp [go_sem]) HC2.out (fun e => nomatch e) (by simpa [go_sem] using HO2.out) HL2.out (by simp; omega) ?_; intro v' w' ho hg)
      have hlo : ∀ r, u6.ownBlock = some r → w.heap.size ≤ r := fun r hr => (HO2.out.lt r hr).1
      have hg' : (w2.alloc (.cells #[.int .u8 x] 5)).grownBy w' u6.ownBlock := by simpa [go_sem] using hg
      refine ⟨⟨k + 1, L ++ [u], by omega, by congr 1, ?_, ho, ?_, ?_, ?_⟩, ?_⟩
      · show _ = _
        have := HL.out
        simp; omega
      · have := hg'.size
        simp at this
        omega
      · exact HS2.out.grown hg' (fun e => by have := hlo B e.symm; omega) (fun r hr => by have := hlo r hr; omega)
      · exact HG2.out.andThen hg' (fun j hj => .inl (hlo j hj))
      · simp [intOf]; omega
    · have e : k = n := by omega
      subst e
      go_wp2_with fail
      go_ret
      exact ⟨isBytes (by have := HL.out; omega) HOr.out, HSr.out, HGr.out⟩
end Go.Proofs.YtkdnddckogbgaaaGreatDoor
namespace Go.Proofs.YtkdnddckogbgaaaGreatDoor
open Go.RowKit
set_option linter.unusedVariables false
/-- A right sector with a body of the call's own; some sector. -/
def IsSec (base : Nat) (w' : World) (x : Ending) : Prop := ∃ (q e : Int) (p : Option Addr) (l c : Nat) (L : List UInt8), secB q e l = true ∧ x = .returned (.agg #[.int .i64 q, .int .i64 e, .slice p l c]) ∧ Hid (L.length = l ∧ OwnsB w' base (.slice p l c) L)
theorem isSec {base : Nat} {w' : World} {q e : Int} {p : Option Addr} {l c : Nat} {L : List UInt8} (h : secB q e l = true) (hl : L.length = l) (ho : OwnsB w' base (.slice p l c) L) : IsSec base w' (.returned (.agg #[.int .i64 q, .int .i64 e, .slice p l c])) := ⟨q, e, p, l, c, L, h, rfl, hl, ho⟩
theorem three_row (x y z : Value) : ∀ i, i < (#[x, y, z] : Array Value).size → (#[x, y, z] : Array Value)[i]? = some ((fun i : Nat => if i = 0 then x else if i = 1 then y else z) i)
  | 0, _ => rfl
  | 1, _ => rfl
  | 2, _ => rfl
  | n + 3, h => absurd h (by simp)
theorem row3_out {w : World} {b : Nat} {t : TypeId} {f : Nat → Value} (r : w.rowIs b t 3 f) (x y z : Value) :
    (((w.setCell ⟨b, 0, none⟩ x).setCell ⟨b, 1, none⟩ y).setCell ⟨b, 2, none⟩ z).cell? ⟨b, 0, none⟩ = some x ∧ (((w.setCell ⟨b, 0, none⟩ x).setCell ⟨b, 1, none⟩ y).setCell ⟨b, 2, none⟩ z).cell? ⟨b, 1, none⟩ = some y ∧ (((w.setCell ⟨b, 0, none⟩ x).setCell ⟨b, 1, none⟩ y).setCell ⟨b, 2, none⟩ z).cell? ⟨b, 2, none⟩ = some z := by
  have r3 := ((r.set 0 x).set 1 y).set 2 z
  have c0 := r3.cell (i := 0) (by decide)
  have c1 := r3.cell (i := 1) (by decide)
  have c2 := r3.cell (i := 2) (by decide)
  simp at c0 c1 c2
  exact ⟨c0, c1, c2⟩
theorem OwnsB.other {w : World} {base b o : Nat} {v x : Value} {L : List UInt8} (h : OwnsB w base v L) (hb : v.ownBlock ≠ some b) : OwnsB (w.setCell ⟨b, o, none⟩ x) base v L :=
  World.ownsRow.kept h (grown_set (grown_refl w (some b))) (.inr hb)
theorem OwnsB.ne {w : World} {base b : Nat} {v : Value} {L : List UInt8} (h : OwnsB w base v L) (hb : b < base ∨ w.heap.size ≤ b) : v.ownBlock ≠ some b := fun e => by have := h.lt b e; omega
theorem secB_of {q e : Int} {n : Nat} (h0 : 0 ≤ q) (h1 : q < 600) (h2 : 1 ≤ e) (h3 : e ≤ 16000000) (h4 : n ≤ 100) : secB q e n = true := by simp [secB, h0, h1, h2, h3, h4]
/-- The result's three cells are written: all else stands. -/
theorem three_out {w V : World} {B0 B b : Nat} {a : Option Addr} {len cap : Nat} {v : Value} {L : List UInt8} (hb : b = w.heap.size) (hB : B < w.heap.size) (hB0 : B0 ≤ B) (ho : OwnsB V (w.heap.size + 1) v L) (s : Dr B0 B a len cap V) (g : w.grownBy V (some B)) (x y z : Value) :
    OwnsB (((V.setCell ⟨b, 0, none⟩ x).setCell ⟨b, 1, none⟩ y).setCell ⟨b, 2, none⟩ z) w.heap.size v L ∧ Dr B0 B a len cap (((V.setCell ⟨b, 0, none⟩ x).setCell ⟨b, 1, none⟩ y).setCell ⟨b, 2, none⟩ z) ∧ w.grownBy (((V.setCell ⟨b, 0, none⟩ x).setCell ⟨b, 1, none⟩ y).setCell ⟨b, 2, none⟩ z) (some B) := by
  subst hb
  have hne : v.ownBlock ≠ some w.heap.size := ho.ne (.inl (by omega))
  refine ⟨(((OwnsB.other ho hne).other hne).other hne).older (by omega), ?_, ?_⟩
  · exact s.grown (grown_set (grown_set (grown_set (grown_refl V (some w.heap.size))))) (by simp; omega) (by intro r hr; injection hr with hr; omega)
  · exact grown_new (grown_new (grown_new g (Nat.le_refl _)) (Nat.le_refl _)) (Nat.le_refl _)
theorem Dr.set {B0 B b o : Nat} {a : Option Addr} {len cap : Nat} {w : World} (s : Dr B0 B a len cap w) (hb : b ≠ B) (h0 : B0 ≤ b) (v : Value) : Dr B0 B a len cap (w.setCell ⟨b, o, none⟩ v) :=
  s.grown (grown_set (grown_refl w (some b))) (by simp; omega) (by intro r hr; injection hr with hr; omega)
set_option maxHeartbeats 2000000 in
theorem sector_any {B0 B : Nat} {a : Option Addr} {len cap : Nat} {w : World} (s : Dr B0 B a len cap w) :
    Calls Tryz.prog 110 #[.pointer (some ⟨B, 0, none⟩)] w fun e w' => IsSec w.heap.size w' e ∧ Dr B0 B a len cap w' ∧ w.grownBy w' (some B) := by
  have hB := s.lt
  have hB0 := s.le
  have HG0 := hide (World.grownBy_alloc w (.cells #[.int .i64 0, .int .i64 0, .slice none 0 0] 72) (some B))
  have HS0 := hide (s.grown (World.grownBy_alloc w (.cells #[.int .i64 0, .int .i64 0, .slice none 0 0] 72) none) (by simp) (by simp))
  have HR0 := hide (World.rowIs_alloc w #[.int .i64 0, .int .i64 0, .slice none 0 0] 72 _ (three_row _ _ _))
  clear s
  go_enter Tryz.func110, Tryz.ntmps110
  go_wp2_with fail
  refine (below_any 5 HS0.out (by omega) (by omega)).mono ?_
  rintro x w1 ⟨⟨q, q0, q1, rfl⟩, s1, g1⟩
  have HR1 := hide (grown_row g1 (by simp; omega) HR0.out)
  have HS1 := hide s1
  have HG1 := hide (HG0.out.trans g1)
  clear s1 g1 HS0 HG0 HR0
  go_wp2_with fail
  refine (below_any 3 HS1.out (by omega) (by omega)).mono ?_
  rintro x w2 ⟨⟨e, e0, e1, rfl⟩, s2, g2⟩
  have HR2 := hide (grown_row g2 (by simp; omega) HR1.out)
  have HS2 := hide s2
  have HG2 := hide (HG1.out.trans g2)
  clear s2 g2 HS1 HG1 HR1
  have hz2 := HR2.out.lt
  go_wp2_with fail
  refine (bytes_any 12 HS2.out (by omega)).mono ?_
  rintro x w3 ⟨⟨p, l, c, L, hl, rfl, HO⟩, s3, g3⟩
  have hL := hide HO.out.1
  have ho3 := HO.out.2
  clear HO
  have HR3 := hide (grown_row g3 (by simp; omega) HR2.out)
  have hz3 := HR3.out.lt
  have hw3 := g3.size
  have HS3 := hide (s3.grown (World.grownBy_alloc w3 (.cells #[.int .i64 q, .int .i64 (1 + e), .slice p l c] 72) none) (by simp) (by simp))
  have HG3 := hide (grown_alloc (HG2.out.trans g3) (.cells #[.int .i64 q, .int .i64 (1 + e), .slice p l c] 72))
  have HR3a := hide (HR3.out.alloc (.cells #[.int .i64 q, .int .i64 (1 + e), .slice p l c] 72))
  have HA3 := hide (World.rowIs_alloc w3 #[.int .i64 q, .int .i64 (1 + e), .slice p l c] 72 _ (three_row _ _ _))
  have HO3 := hide ((OwnsB.older ho3 (base' := w.heap.size + 1) (by omega)).alloc (.cells #[.int .i64 q, .int .i64 (1 + e), .slice p l c] 72))
  have hv3 : (Value.slice p l c).ownBlock ≠ some w3.heap.size := ho3.ne (.inr (Nat.le_refl _))
  clear s3 g3 ho3 HS2 HG2 HR2 HR3
  go_wp2_with fail
  refine (below_any 12 HS3.out (by omega) (by omega)).mono ?_
  rintro x w4 ⟨⟨k, k0, k1, rfl⟩, s4, g4⟩
  have HR4 := hide (grown_row g4 (by simp; omega) HR3a.out)
  have HA4 := hide (grown_row g4 (by simp; omega) HA3.out)
  have HO4 := hide (HO3.out.grows g4 (by omega))
  have HS4 := hide s4
  have HG4 := hide (HG3.out.trans g4)
  have hne : w3.heap.size ≠ w.heap.size := by omega
  have hz4 := HA4.out.lt
  clear s4 g4 HS3 HG3 HR3a HA3 HO3
  have a0 := HA4.out.cell (i := 0) (by simp)
  have a1 := HA4.out.cell (i := 1) (by simp)
  have a2 := HA4.out.cell (i := 2) (by simp)
  have af0 := HA4.out.frozen 0
  have af1 := HA4.out.frozen 1
  have af2 := HA4.out.frozen 2
  have r0 := HR4.out.cell (i := 0) (by simp)
  have r1 := HR4.out.cell (i := 1) (by simp)
  have r2 := HR4.out.cell (i := 2) (by simp)
  have rf0 := HR4.out.frozen 0
  have rf1 := HR4.out.frozen 1
  have rf2 := HR4.out.frozen 2
  simp at a0 a1 a2 r0 r1 r2
  by_cases hk0 : k = 0
  · subst hk0
    clear a0 a1 a2 af0 af1 af2 r0 r1 r2 rf0 rf1 rf2
    go_wp2_with fail
    refine (bytes_any 100 HS4.out (by omega)).mono ?_
    rintro x w5 ⟨⟨p', l', c', L', hl', rfl, HO'⟩, s5, g5⟩
    have hw5 := g5.size
    have hL' := hide HO'.out.1
    have HO5 := hide (OwnsB.older HO'.out.2 (base' := w.heap.size + 1) (by omega))
    have hv5 : (Value.slice p' l' c').ownBlock ≠ some w3.heap.size := OwnsB.ne HO'.out.2 (.inl (by omega))
    have HR5 := hide (grown_row g5 (by simp; omega) HR4.out)
    have HA5 := hide (grown_row g5 (by simp; omega) HA4.out)
    have HS5 := hide s5
    have HG5 := hide (HG4.out.trans g5)
    clear s5 g5 HO' HS4 HG4 HR4 HA4 HO4
    have a0 := HA5.out.cell (i := 0) (by simp)
    have a1 := HA5.out.cell (i := 1) (by simp)
    have a2 := HA5.out.cell (i := 2) (by simp)
    have af0 := HA5.out.frozen 0
    have af1 := HA5.out.frozen 1
    have af2 := HA5.out.frozen 2
    have r0 := HR5.out.cell (i := 0) (by simp)
    have r1 := HR5.out.cell (i := 1) (by simp)
    have r2 := HR5.out.cell (i := 2) (by simp)
    have rf0 := HR5.out.frozen 0
    have rf1 := HR5.out.frozen 1
    have rf2 := HR5.out.frozen 2
    simp at a0 a1 a2 r0 r1 r2
    go_wp2_with fail
    obtain ⟨o0, o1, o2⟩ := row3_out (HR5.out.setOther (a := ⟨w3.heap.size, 2, none⟩) (by simp; omega) (.slice p' l' c')) (.int .i64 q) (.int .i64 (1 + e)) (.slice p' l' c')
    obtain ⟨t0, t1, t2⟩ := three_out rfl hB hB0 (HO5.out.other hv5) (HS5.out.set (by omega) (by omega) _) (grown_new HG5.out (by omega)) (.int .i64 q) (.int .i64 (1 + e)) (.slice p' l' c')
    refine bodyPost_ret (v := .agg #[.int .i64 q, .int .i64 (1 + e), .slice p' l' c']) ?_ rfl ⟨isSec (secB_of (by omega) (by omega) (by omega) (by omega) (by omega)) hL'.out t0, t1, t2⟩
    revert o0 o1 o2
    clear t0 t1 t2 HR5 HS5 HG5 HA5 HO5 a0 a1 a2 af0 af1 af2 r0 r1 r2 rf0 rf1 rf2
    generalize World.setCell (World.setCell _ _ _) _ _ = W
    intro o0 o1 o2
    simp [results, Tryz.results110, go_sem, o0, o1, o2]
  · have hk0' : (k == 0) = false := beq_eq_false_iff_ne.2 hk0
    by_cases hk1 : k = 1
    · subst hk1
      clear hk0 hk0'
      go_wp2_with fail
      obtain ⟨o0, o1, o2⟩ := row3_out ((HR4.out.setOther (a := ⟨w3.heap.size, 0, none⟩) (by simp; omega) (.int .i64 599)).setOther (a := ⟨w3.heap.size, 1, none⟩) (by simp; omega) (.int .i64 16000000)) (.int .i64 599) (.int .i64 16000000) (.slice p l c)
      obtain ⟨t0, t1, t2⟩ := three_out rfl hB hB0 ((HO4.out.other hv3).other hv3) ((HS4.out.set (by omega) (by omega) _).set (by omega) (by omega) _) (grown_new (grown_new HG4.out (by omega)) (by omega)) (.int .i64 599) (.int .i64 16000000) (.slice p l c)
      refine bodyPost_ret (v := .agg #[.int .i64 599, .int .i64 16000000, .slice p l c]) ?_ rfl ⟨isSec (secB_of (by omega) (by omega) (by omega) (by omega) (by omega)) hL.out t0, t1, t2⟩
      revert o0 o1 o2
      clear t0 t1 t2 HR4 HS4 HG4 HA4 HO4 a0 a1 a2 af0 af1 af2 r0 r1 r2 rf0 rf1 rf2
      generalize World.setCell (World.setCell _ _ _) _ _ = W
      intro o0 o1 o2
      simp [results, Tryz.results110, go_sem, o0, o1, o2]
    · have hk1' : (k == 1) = false := beq_eq_false_iff_ne.2 hk1
      clear hk0 hk1
      go_wp2_with fail
      obtain ⟨o0, o1, o2⟩ := row3_out HR4.out (.int .i64 q) (.int .i64 (1 + e)) (.slice p l c)
      refine bodyPost_ret (v := .agg #[.int .i64 q, .int .i64 (1 + e), .slice p l c]) ?_ rfl ⟨isSec (secB_of q0 (by omega) (by omega) (by omega) (by omega)) hL.out ?_, ?_, ?_⟩
      · revert o0 o1 o2
        clear HR4 HS4 HG4 HA4 HO4 a0 a1 a2 af0 af1 af2 r0 r1 r2 rf0 rf1 rf2
        generalize World.setCell (World.setCell _ _ _) _ _ = W
        intro o0 o1 o2
        simp [results, Tryz.results110, go_sem, o0, o1, o2]
      · exact (three_out rfl hB hB0 HO4.out HS4.out HG4.out _ _ _).1
      · exact (three_out rfl hB hB0 HO4.out HS4.out HG4.out _ _ _).2.1
      · exact (three_out rfl hB hB0 HO4.out HS4.out HG4.out _ _ _).2.2
theorem RowAt.up {B0 B1 : Nat} {w : World} {a : Option Addr} {len : Nat} (h : RowAt B0 w a len) (hb : B0 ≤ B1) : RowAt B1 w a len := by
  intro j hj
  obtain ⟨b, off, n, e, hlt, r⟩ := h j hj
  exact ⟨b, off, n, e, by omega, r⟩
end Go.Proofs.YtkdnddckogbgaaaGreatDoor
