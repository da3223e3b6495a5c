/- Contracts of the model's draws (l01Byte, l01Below): each returns some number, and turns the cursor's block alone. -/
import Derived.Test.YtkdnddckogbgaaaKeep
import Derived.WalkLawsBesides
import Derived.Laws.OwnMore
import Derived.Maps.Range
import Derived.Deep.OwnRows
import Derived.OpenShut
namespace Go.Proofs.Ytkdnddckogbgaaa
open Go.RowKit
set_option linter.unusedVariables false

def RowAt (B0 : Nat) (w : World) (a : Option Addr) (len : Nat) : Prop := ∀ j, j < len → ∃ b off n, a = some ⟨b, off, none⟩ ∧ b < B0 ∧ 0 ≤ n ∧ n ≤ 255 ∧ w.cell? ⟨b, off + j, none⟩ = some (.int .u8 n)
/-- The cursor of a draw: a block of three cells that the call has made. -/
def Cur (B0 : Nat) (w : World) (B : Nat) (a : Option Addr) (len cap : Nat) : Prop :=
  B0 ≤ B ∧ ∃ (i : Nat) (h : Int), i ≤ len ∧ w.cell? ⟨B, 0, none⟩ = some (.slice a len cap) ∧ w.cell? ⟨B, 1, none⟩ = some (.int .i64 (i : Int)) ∧ w.cell? ⟨B, 2, none⟩ = some (.int .i64 h) ∧ w.frozen? ⟨B, 1, none⟩ = false ∧ w.frozen? ⟨B, 2, none⟩ = false


theorem Cur.drewN {B0 B : Nat} {w : World} {a : Option Addr} {len cap : Nat} (h : Cur B0 w B a len cap) (n : Nat) : Cur B0 (w.drewN n) B a len cap := h

theorem RowAt.below {B0 : Nat} {w w' : World} {a : Option Addr} {len : Nat} (h : RowAt B0 w a len) (hb : Below B0 w w') : RowAt B0 w' a len := by
  intro j hj
  obtain ⟨b, off, n, e, hlt, n0, n1, hc⟩ := h j hj
  exact ⟨b, off, n, e, hlt, n0, n1, by rw [Below.cell hb (p := ⟨b, off + j, none⟩) hlt]; exact hc⟩

/-- While a law draws: the cursor, the bytes. -/
structure Dr (B0 B : Nat) (a : Option Addr) (len cap : Nat) (w : World) : Prop where
  cur : Cur B0 w B a len cap
  row : RowAt B0 w a len
  small : len ≤ 1048576
theorem grown_refl (w : World) (row : Option Nat) : w.grownBy w row := ⟨rfl, rfl, rfl, Nat.le_refl _, fun _ _ _ => rfl⟩
theorem grown_set {w w1 : World} {B o : Nat} {v : Value} (h : w.grownBy w1 (some B)) : w.grownBy (w1.setCell ⟨B, o, none⟩ v) (some B) :=
  ⟨h.os, h.tape, h.output, by simpa [World.setCell] using h.size, fun k hk hne => by rw [Deep.blk_setCell_other _ _ _ _ (fun e => hne (by rw [e]))]; exact h.block k hk hne⟩
theorem grown_new {w w1 : World} {row : Option Nat} {b o : Nat} {v : Value} (h : w.grownBy w1 row) (hb : w.heap.size ≤ b) : w.grownBy (w1.setCell ⟨b, o, none⟩ v) row :=
  ⟨h.os, h.tape, h.output, by simpa [World.setCell] using h.size, fun k hk hne => by rw [Deep.blk_setCell_other _ _ _ _ (by show k ≠ b; omega)]; exact h.block k hk hne⟩
theorem grown_drewN {w w1 : World} {row : Option Nat} (h : w.grownBy w1 row) (n : Nat) : w.grownBy (w1.drewN n) row := ⟨h.os, h.tape, h.output, h.size, h.block⟩
theorem grown_alloc {w w1 : World} {row : Option Nat} (h : w.grownBy w1 row) (o : Obj) : w.grownBy (w1.alloc o) row :=
  h.andThen (World.grownBy_alloc w1 o none) (fun j hj => by cases hj)
theorem grown_row {w w1 : World} {r : Option Nat} (h : w.grownBy w1 r) {b : Nat} (hb : some b ≠ r) {t : TypeId} {n : Nat} {f : Nat → Value} (hr : w.rowIs b t n f) : w1.rowIs b t n f := hr.of_block (h.block b hr.lt hb)
theorem Keeps.grows {w w' : World} (h : Keeps w w') (row : Option Nat) : w.grownBy w' row := ⟨h.os, h.tape, h.output, h.size, fun k hk _ => h.block k hk⟩
theorem keeps_of {w0 w1 w2 : World} {row : Option Nat} (h : Keeps w0 w1) (g : w1.grownBy w2 row) (hr : ∀ r, row = some r → w0.heap.size ≤ r) : Keeps w0 w2 :=
  ⟨g.os.trans h.os, g.tape.trans h.tape, g.output.trans h.output, Nat.le_trans h.size g.size, fun k hk => (g.block k (Nat.lt_of_lt_of_le hk h.size) (fun e => by have := hr k e.symm; omega)).trans (h.block k hk)⟩
theorem Dr.lt {B0 B : Nat} {a : Option Addr} {len cap : Nat} {w : World} (s : Dr B0 B a len cap w) : B < w.heap.size := by
  obtain ⟨⟨_, i, h, _, c0, _⟩, _, _⟩ := s
  exact lt_of_cell c0
theorem Dr.le {B0 B : Nat} {a : Option Addr} {len cap : Nat} {w : World} (s : Dr B0 B a len cap w) : B0 ≤ B := s.cur.1
/-- The draw stands where it stood while other blocks of the call's own are written. -/
theorem Dr.grown {B0 B : Nat} {a : Option Addr} {len cap : Nat} {w w' : World} {row : Option Nat} (s : Dr B0 B a len cap w) (g : w.grownBy w' row) (hB : some B ≠ row) (hr : ∀ r, row = some r → B0 ≤ r) : Dr B0 B a len cap w' := by
  have hlt := s.lt
  obtain ⟨⟨hB0, i, h, hi, c0, c1, c2, f1, f2⟩, rw, sm⟩ := s
  have eb := g.block B hlt hB
  refine ⟨⟨hB0, i, h, hi, ?_, ?_, ?_, ?_, ?_⟩, ?_, sm⟩
  · rw [World.cell?_of_block (w := w) eb]; exact c0
  · rw [World.cell?_of_block (w := w) eb]; exact c1
  · rw [World.cell?_of_block (w := w) eb]; exact c2
  · rw [World.frozen?_of_block (w := w) eb]; exact f1
  · rw [World.frozen?_of_block (w := w) eb]; exact f2
  · intro j hj
    obtain ⟨b, off, n, e, hb, n0, n1, hc⟩ := rw j hj
    have hbl := g.block b (by omega) (fun e => by have := hr b e.symm; omega)
    exact ⟨b, off, n, e, hb, n0, n1, by rw [World.cell?_of_block (w := w) hbl]; exact hc⟩

theorem cur_two {B0 B : Nat} {a : Option Addr} {len cap k : Nat} {h h' : Int} {w : World} (n k' : Nat) (hB0 : B0 ≤ B) (hk : k' ≤ len)
   (c0 : w.cell? ⟨B, 0, none⟩ = some (.slice a len cap)) (c1 : w.cell? ⟨B, 1, none⟩ = some (.int .i64 (k : Int))) (c2 : w.cell? ⟨B, 2, none⟩ = some (.int .i64 h))
   (f1 : w.frozen? ⟨B, 1, none⟩ = false) (f2 : w.frozen? ⟨B, 2, none⟩ = false) :
    Cur B0 (((w.setCell ⟨B, 2, none⟩ (.int .i64 h')).drewN n).setCell ⟨B, 1, none⟩ (.int .i64 (k' : Int))) B a len cap := by
  have d1 : (w.setCell ⟨B, 2, none⟩ (.int .i64 h')).cell? ⟨B, 1, none⟩ = some (.int .i64 (k : Int)) := by rw [World.cell?_setCell_other _ _ _ _ (by simp)]; exact c1
  have d0 : (w.setCell ⟨B, 2, none⟩ (.int .i64 h')).cell? ⟨B, 0, none⟩ = some (.slice a len cap) := by rw [World.cell?_setCell_other _ _ _ _ (by simp)]; exact c0
  have d2 : (w.setCell ⟨B, 2, none⟩ (.int .i64 h')).cell? ⟨B, 2, none⟩ = some (.int .i64 h') := World.cell?_setCell_same _ _ _ c2
  refine ⟨hB0, k', h', hk, ?_, ?_, ?_, ?_, ?_⟩
  · rw [World.cell?_setCell_other _ _ _ _ (by simp)]; exact d0
  · exact World.cell?_setCell_same _ _ _ d1
  · rw [World.cell?_setCell_other _ _ _ _ (by simp)]; exact d2
  · simpa using f1
  · simpa using f2
theorem cur_one {B0 B : Nat} {a : Option Addr} {len cap k : Nat} {h h' : Int} {w : World} (n : Nat) (hB0 : B0 ≤ B) (hk : k ≤ len)
   (c0 : w.cell? ⟨B, 0, none⟩ = some (.slice a len cap)) (c1 : w.cell? ⟨B, 1, none⟩ = some (.int .i64 (k : Int))) (c2 : w.cell? ⟨B, 2, none⟩ = some (.int .i64 h))
   (f1 : w.frozen? ⟨B, 1, none⟩ = false) (f2 : w.frozen? ⟨B, 2, none⟩ = false) :
    Cur B0 ((w.setCell ⟨B, 2, none⟩ (.int .i64 h')).drewN n) B a len cap := by
  refine ⟨hB0, k, h', hk, ?_, ?_, ?_, ?_, ?_⟩
  · show (w.setCell ⟨B, 2, none⟩ (.int .i64 h')).cell? ⟨B, 0, none⟩ = _
    rw [World.cell?_setCell_other _ _ _ _ (by simp)]; exact c0
  · show (w.setCell ⟨B, 2, none⟩ (.int .i64 h')).cell? ⟨B, 1, none⟩ = _
    rw [World.cell?_setCell_other _ _ _ _ (by simp)]; exact c1
  · exact World.cell?_setCell_same _ _ _ c2
  · simpa using f1
  · simpa using f2

/-- A byte of a draw. -/
def IsByte (e : Ending) : Prop := ∃ x : Int, 0 ≤ x ∧ x ≤ 255 ∧ e = .returned (.int .i64 x)
theorem isByte {x : Int} (h0 : 0 ≤ x) (h1 : x ≤ 255) : IsByte (.returned (.int .i64 x)) := ⟨x, h0, h1, rfl⟩

set_option maxHeartbeats 1000000 in
theorem byte_more (B0 B b off : Nat) (k : Nat) (n h : Int) (len cap : Nat) (w : World) (hB0 : B0 ≤ B) (hB : b < B0) (hk : k < len) (hlen : len ≤ 1048576) (n0 : 0 ≤ n) (n1 : n ≤ 255)
   (c0 : w.cell? ⟨B, 0, none⟩ = some (.slice (some ⟨b, off, none⟩) len cap)) (c1 : w.cell? ⟨B, 1, none⟩ = some (.int .i64 (k : Int))) (c2 : w.cell? ⟨B, 2, none⟩ = some (.int .i64 h))
   (f1 : w.frozen? ⟨B, 1, none⟩ = false) (f2 : w.frozen? ⟨B, 2, none⟩ = false) (cr : w.cell? ⟨b, off + k, none⟩ = some (.int .u8 n)) :
    Calls Try.prog 52 #[.pointer (some ⟨B, 0, none⟩)] w fun e w' => IsByte e ∧ Cur B0 w' B (some ⟨b, off, none⟩) len cap ∧ w.grownBy w' (some B) := by
  have hne : b ≠ B := by omega
  obtain ⟨h', eh⟩ : ∃ h', wrap64 (wrap64 (h * 6364136223846793005) + 1442695040888963407) = h' := ⟨_, rfl⟩
  obtain ⟨x, ex⟩ : ∃ x, bits BinOp.and IntKind.i64 (bits BinOp.xor IntKind.i64 (h' / 8589934592) (h' / 35184372088832)) 255 = x := ⟨_, rfl⟩
  have hx := and_mask (bits BinOp.xor IntKind.i64 (h' / 8589934592) (h' / 35184372088832)) 255 (by omega) (by omega)
  rw [ex] at hx
  obtain ⟨hx0, hx1⟩ := hx
  have hy := and_mask (x + n) 255 (by omega) (by omega)
  generalize ey : bits BinOp.and IntKind.i64 (x + n) 255 = y at *
  obtain ⟨hy0, hy1⟩ := hy
  go_enter Try.func52, Try.ntmps52
  go_wp2_with fail
  go_quiet (fail)
  go_wp2_with fail
  go_quiet (fail)
  go_wp2_with fail
  go_quiet (fail)
  go_wp2_with fail
  go_ret
  refine ⟨isByte hy0 hy1, ?_, ?_⟩
  · exact cur_two _ (k + 1) hB0 (by omega) c0 c1 c2 f1 f2
  · exact grown_set (grown_drewN (grown_set (grown_refl _ _)) _)

set_option maxHeartbeats 1000000 in
theorem byte_none (B0 B : Nat) (a : Option Addr) (k : Nat) (h : Int) (len cap : Nat) (w : World) (hB0 : B0 ≤ B) (hk : k = len) (hlen : len ≤ 1048576)
   (c0 : w.cell? ⟨B, 0, none⟩ = some (.slice a len cap)) (c1 : w.cell? ⟨B, 1, none⟩ = some (.int .i64 (k : Int))) (c2 : w.cell? ⟨B, 2, none⟩ = some (.int .i64 h))
   (f1 : w.frozen? ⟨B, 1, none⟩ = false) (f2 : w.frozen? ⟨B, 2, none⟩ = false) :
    Calls Try.prog 52 #[.pointer (some ⟨B, 0, none⟩)] w fun e w' => IsByte e ∧ Cur B0 w' B a len cap ∧ w.grownBy w' (some B) := by
  subst hk
  obtain ⟨h', eh⟩ : ∃ h', wrap64 (wrap64 (h * 6364136223846793005) + 1442695040888963407) = h' := ⟨_, rfl⟩
  obtain ⟨x, ex⟩ : ∃ x, bits BinOp.and IntKind.i64 (bits BinOp.xor IntKind.i64 (h' / 8589934592) (h' / 35184372088832)) 255 = x := ⟨_, rfl⟩
  have hx := and_mask (bits BinOp.xor IntKind.i64 (h' / 8589934592) (h' / 35184372088832)) 255 (by omega) (by omega)
  rw [ex] at hx
  obtain ⟨hx0, hx1⟩ := hx
  go_enter Try.func52, Try.ntmps52
  go_wp2_with fail
  go_quiet (fail)
  go_wp2_with fail
  go_quiet (fail)
  go_wp2_with fail
  go_ret
  refine ⟨isByte hx0 hx1, ?_, ?_⟩
  · refine Cur.drewN ?_ _
    exact cur_one _ hB0 (Nat.le_refl _) c0 c1 c2 f1 f2
  · exact grown_drewN (grown_drewN (grown_set (grown_refl _ _)) _) _

theorem row_grown {B0 B : Nat} {a : Option Addr} {len : Nat} {w w' : World} (h : RowAt B0 w a len) (g : w.grownBy w' (some B)) (hB : B0 ≤ B) (hs : B < w.heap.size) : RowAt B0 w' a len := by
  intro j hj
  obtain ⟨b, off, n, e, hb, n0, n1, hc⟩ := h j hj
  have hbl := g.block b (by omega) (fun e => by injection e with e; omega)
  exact ⟨b, off, n, e, hb, n0, n1, by rw [World.cell?_of_block (w := w) hbl]; exact hc⟩
theorem byte_any {B0 B : Nat} {a : Option Addr} {len cap : Nat} {w : World} (s : Dr B0 B a len cap w) :
    Calls Try.prog 52 #[.pointer (some ⟨B, 0, none⟩)] w fun e w' => IsByte e ∧ Dr B0 B a len cap w' ∧ w.grownBy w' (some B) := by
  have hlt := s.lt
  obtain ⟨⟨hB0, k, h, hk, c0, c1, c2, f1, f2⟩, row, small⟩ := s
  by_cases hl : k < len
  · obtain ⟨b, off, n, rfl, hb, n0, n1, cr⟩ := row k hl
    refine (byte_more B0 B b off k n h len cap w hB0 hb hl small n0 n1 c0 c1 c2 f1 f2 cr).mono ?_
    rintro e w' ⟨he, hc, hg⟩
    exact ⟨he, ⟨hc, row_grown row hg hB0 hlt, small⟩, hg⟩
  · refine (byte_none B0 B a k h len cap w hB0 (by omega) small c0 c1 c2 f1 f2).mono ?_
    rintro e w' ⟨he, hc, hg⟩
    exact ⟨he, ⟨hc, row_grown row hg hB0 hlt, small⟩, hg⟩

/-- A number of a draw. -/
def IsInt (e : Ending) : Prop := ∃ x : Int, e = .returned (.int .i64 x)
theorem isInt {x : Int} : IsInt (.returned (.int .i64 x)) := ⟨x, rfl⟩
/-- A number of a draw, below n. -/
def IsBelow (n : Int) (e : Ending) : Prop := ∃ x : Int, 0 ≤ x ∧ x < n ∧ e = .returned (.int .i64 x)
theorem isBelow {n x : Int} (h0 : 0 ≤ x) (h1 : x < n) : IsBelow n (.returned (.int .i64 x)) := ⟨x, h0, h1, rfl⟩

theorem below_any {B0 B : Nat} {a : Option Addr} {len cap : Nat} {w : World} (n : Int) (s : Dr B0 B a len cap w) (h0 : 0 < n) (h1 : n ≤ 1000000000) :
    Calls Try.prog 36 #[.pointer (some ⟨B, 0, none⟩), .int .i64 n] w fun e w' => IsBelow n e ∧ Dr B0 B a len cap w' ∧ w.grownBy w' (some B) := by
  have HS := hide s
  clear s
  by_cases hs : n ≤ 256
  · go_enter Try.func36, Try.ntmps36
    go_wp2_with (go_at_call 52; refine (byte_any HS.out).mono ?_; rintro e w1 ⟨⟨x, x0, x1, rfl⟩, s1, g1⟩)
    go_ret
    exact ⟨isBelow (Int.emod_nonneg _ (by omega)) (Int.emod_lt_of_pos _ h0), s1, g1⟩
  · go_enter Try.func36, Try.ntmps36
    go_wp2_with fail
    refine (byte_any HS.out).mono ?_
    rintro e w1 ⟨⟨x, x0, x1, rfl⟩, s1, g1⟩
    have S1 := hide s1
    have G1 := hide g1
    clear s1 g1
    go_wp2_with fail
    refine (byte_any S1.out).mono ?_
    rintro e w2 ⟨⟨y, y0, y1, rfl⟩, s2, g2⟩
    have S2 := hide s2
    have G2 := hide (G1.out.trans g2)
    clear s2 g2
    go_wp2_with fail
    refine (byte_any S2.out).mono ?_
    rintro e w3 ⟨⟨z, z0, z1, rfl⟩, s3, g3⟩
    have S3 := hide s3
    have G3 := hide (G2.out.trans g3)
    clear s3 g3
    go_wp2_with fail
    refine (byte_any S3.out).mono ?_
    rintro e w4 ⟨⟨u, u0, u1, rfl⟩, s4, g4⟩
    have S4 := hide s4
    have G4 := hide (G3.out.trans g4)
    clear s4 g4
    go_wp2_with fail
    go_ret
    exact ⟨isBelow (Int.emod_nonneg _ (by omega)) (Int.emod_lt_of_pos _ h0), S4.out, G4.out⟩

set_option maxHeartbeats 2000000 in
theorem raw_any {B0 B : Nat} {a : Option Addr} {len cap : Nat} {w : World} (s : Dr B0 B a len cap w) :
    Calls Try.prog 37 #[.pointer (some ⟨B, 0, none⟩)] w fun e w' => IsInt e ∧ Dr B0 B a len cap w' ∧ w.grownBy w' (some B) := by
  have HS := hide s
  clear s
  go_enter Try.func37, Try.ntmps37
  go_wp2_with fail
  refine (below_any 11 HS.out (by omega) (by omega)).mono ?_
  rintro e w1 ⟨⟨k, k0, k1, rfl⟩, s1, g1⟩
  have S1 := hide s1
  have G1 := hide g1
  clear s1 g1 HS
  go_wp2_with (first | (go_at_call 36; refine (below_any _ S2.out (by omega) (by omega)).mono ?_; rintro e w3 ⟨⟨y, y0, y1, rfl⟩, s3, g3⟩; have S3 := hide s3; have G3 := hide (G2.out.trans g3); clear s3 g3) | (go_at_call 36; refine (below_any _ S1.out (by omega) (by omega)).mono ?_; rintro e w2 ⟨⟨x, x0, x1, rfl⟩, s2, g2⟩; have S2 := hide s2; have G2 := hide (G1.out.trans g2); clear s2 g2))
  all_goals
    go_ret
    first
      | exact ⟨isInt, S3.out, G3.out⟩
      | exact ⟨isInt, S2.out, G2.out⟩
      | exact ⟨isInt, S1.out, G1.out⟩

/-- A pointer to a new cursor. -/
def IsCur (B : Nat) (e : Ending) : Prop := e = .returned (.pointer (some ⟨B, 0, none⟩))
theorem new_dr {w : World} {a : Option Addr} {len cap : Nat} {h : Int} (hr : RowAt w.heap.size w a len) (hl : len ≤ 1048576) :
    Dr w.heap.size w.heap.size a len cap (w.alloc (.cells #[.slice a len cap, .int .i64 0, .int .i64 h] 68)) := by
  have e := fun j => World.cell?_alloc_mark w #[.slice a len cap, .int .i64 0, .int .i64 h] 68 (0, 0) j
  have f : ∀ j, (w.alloc (.cells #[.slice a len cap, .int .i64 0, .int .i64 h] 68)).frozen? ⟨w.heap.size, j, none⟩ = false := by
    intro j
    rw [frozen?_alloc_cells]
    simp [World.frozen?]
  have hb : Below w.heap.size w (w.alloc (.cells #[.slice a len cap, .int .i64 0, .int .i64 h] 68)) := Below.alloc (Below.refl _ _) (Nat.le_refl _) _
  exact ⟨⟨Nat.le_refl _, 0, h, Nat.zero_le _, e 0, e 1, e 2, f 1, f 2⟩, hr.below hb, hl⟩
set_option maxRecDepth 100000 in
set_option maxHeartbeats 2000000 in
theorem new_any (a : Option Addr) (len cap : Nat) (w : World) (hr : RowAt w.heap.size w a len) (hl : len ≤ 1048576) :
    Calls Try.prog 19 #[.slice a len cap] w fun e w' => IsCur w.heap.size e ∧ Dr w.heap.size w.heap.size a len cap w' ∧ Keeps w w' := by
  have HR := hide hr
  clear hr
  go_enter Try.func19, Try.ntmps19
  go_wp2_with fail
  go_loop [3, 4] (fun x y => ∃ (h : Int) (k : Nat), k ≤ len ∧ x = .int .i64 h ∧ y = .int .i64 (k : Int)) (fun _ y => len - (intOf y).toNat)
  case atStart => exact ⟨_, 0, Nat.zero_le _, rfl, rfl⟩
  case round =>
    obtain ⟨h, k, hk, rfl, rfl⟩ := hrel
    by_cases hlt : k < len
    · by_cases hm : k < 4000
      · obtain ⟨b, off, n, rfl, hb, n0, n1, hc⟩ := HR.out k hlt
        go_wp2_with fail
        go_round
        case rel => exact ⟨_, k + 1, by omega, rfl, by go_num⟩
        case measure => simp [intOf]; omega
      · go_wp2_with fail
        go_ret
        exact ⟨rfl, new_dr HR.out hl, Keeps.alloc (Keeps.refl _) _⟩
    · go_wp2_with fail
      go_ret
      exact ⟨rfl, new_dr HR.out hl, Keeps.alloc (Keeps.refl _) _⟩
theorem row_nil {W : World} : RowAt W.heap.size W none 0 := fun j hj => absurd hj (Nat.not_lt_zero j)
theorem row_of {W : World} {x : Addr} {len cap : Nat} {zs : List Int} (hl : len ≤ cap) (hz : zs.length = cap) (hcell : ∀ i, i < zs.length → W.cell? (x.add i) = some (.int .u8 (zs.getD i 0))) (hwz : ∀ n ∈ zs, (Lit.int .u8 n).wf = true) :
    RowAt W.heap.size W (some x) len := by
  intro j hj
  have hc := hcell j (by omega)
  obtain ⟨b, off, spot⟩ := x
  have hspot : spot = none := by simpa [Addr.add] using World.cell?_spot (hcell 0 (by omega))
  subst hspot
  have hc' : W.cell? ⟨b, off + j, none⟩ = some (.int .u8 (zs.getD j 0)) := by
    by_cases hj0 : j = 0
    · subst hj0; simpa [Addr.add] using hc
    · simpa [Addr.add, hj0] using hc
  have hm : zs.getD j 0 ∈ zs := by
    rw [List.getD_eq_getElem?_getD, List.getElem?_eq_getElem (by omega)]
    exact List.getElem_mem _
  have hb := hwz _ hm
  have hb2 : 0 ≤ zs.getD j 0 ∧ zs.getD j 0 ≤ 255 := by
    exact bounds_u8 hb
  exact ⟨b, off, zs.getD j 0, rfl, lt_of_cell hc', hb2.1, hb2.2, hc'⟩
end Go.Proofs.Ytkdnddckogbgaaa
