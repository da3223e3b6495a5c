/- Contracts of the model's draws (l01Byte, l01Below, l01Raw, l01Amt, l01Two, l01New): each returns some numbers, and writes nothing that was there. -/
import Derived.Test.YtjmhnpnjiaeamaaDoorFees2
import Derived.WalkLawsBesides
namespace Go.Proofs.YtjmhnpnjiaeamaaDoor
open Go.RowKit
set_option linter.unusedVariables false

def RowAt (B0 : Nat) (w : World) (a : Option Addr) (len : Nat) : Prop := ∀ j, j < len → ∃ b off n, a = some ⟨b, off, none⟩ ∧ b < B0 ∧ 0 ≤ n ∧ n ≤ 255 ∧ w.cell? ⟨b, off + j, none⟩ = some (.int .u8 n)
theorem and_mask (x m : Int) (h0 : 0 ≤ m) (h1 : m < 9223372036854775808) : 0 ≤ bits .and .i64 x m ∧ bits .and .i64 x m ≤ m := by
  obtain ⟨n, rfl⟩ := Int.eq_ofNat_of_zero_le h0
  have h2 : (BitVec.ofInt 64 (n : Int)).toNat = n := by
    rw [BitVec.ofInt_natCast, BitVec.toNat_ofNat]; exact Nat.mod_eq_of_lt (by omega)
  have e : bits .and .i64 x (n : Int) = IntKind.i64.wrap ((BitVec.ofInt 64 x &&& BitVec.ofInt 64 (n : Int)).toNat : Int) := rfl
  rw [e, BitVec.toNat_and, h2]
  have h3 : (BitVec.ofInt 64 x).toNat &&& n ≤ n := Nat.and_le_right
  generalize (BitVec.ofInt 64 x).toNat &&& n = r at *
  simp [IntKind.wrap, IntKind.bits, IntKind.signed]
  omega

/-- The cursor of a draw: a block of three cells that the call has made. -/
def Cur (B0 : Nat) (w : World) (B : Nat) (a : Option Addr) (len cap : Nat) : Prop :=
  B0 ≤ B ∧ ∃ (i : Nat) (h : Int), i ≤ len ∧ w.cell? ⟨B, 0, none⟩ = some (.slice a len cap) ∧ w.cell? ⟨B, 1, none⟩ = some (.int .i64 (i : Int)) ∧ w.cell? ⟨B, 2, none⟩ = some (.int .i64 h) ∧ w.frozen? ⟨B, 1, none⟩ = false ∧ w.frozen? ⟨B, 2, none⟩ = false


theorem Cur.drewN {B0 B : Nat} {w : World} {a : Option Addr} {len cap : Nat} (h : Cur B0 w B a len cap) (n : Nat) : Cur B0 (w.drewN n) B a len cap := h

theorem RowAt.below {B0 : Nat} {w w' : World} {a : Option Addr} {len : Nat} (h : RowAt B0 w a len) (hb : Below B0 w w') : RowAt B0 w' a len := by
  intro j hj
  obtain ⟨b, off, n, e, hlt, n0, n1, hc⟩ := h j hj
  exact ⟨b, off, n, e, hlt, n0, n1, by rw [Below.cell hb (p := ⟨b, off + j, none⟩) hlt]; exact hc⟩

/-- While a law draws: the cursor, the bytes, what was there. -/
structure St (B0 B : Nat) (a : Option Addr) (len cap : Nat) (w0 w : World) : Prop where
  cur : Cur B0 w B a len cap
  row : RowAt B0 w a len
  below : Below B0 w0 w
  small : len ≤ 1048576

theorem cur_two {B0 B : Nat} {a : Option Addr} {len cap k : Nat} {h h' : Int} {w : World} (n k' : Nat) (hB0 : B0 ≤ B) (hk : k' ≤ len)
   (c0 : w.cell? ⟨B, 0, none⟩ = some (.slice a len cap)) (c1 : w.cell? ⟨B, 1, none⟩ = some (.int .i64 (k : Int))) (c2 : w.cell? ⟨B, 2, none⟩ = some (.int .i64 h))
   (f1 : w.frozen? ⟨B, 1, none⟩ = false) (f2 : w.frozen? ⟨B, 2, none⟩ = false) :
    Cur B0 (((w.setCell ⟨B, 2, none⟩ (.int .i64 h')).drewN n).setCell ⟨B, 1, none⟩ (.int .i64 (k' : Int))) B a len cap := by
  have d1 : (w.setCell ⟨B, 2, none⟩ (.int .i64 h')).cell? ⟨B, 1, none⟩ = some (.int .i64 (k : Int)) := by rw [World.cell?_setCell_other _ _ _ _ (by simp)]; exact c1
  have d0 : (w.setCell ⟨B, 2, none⟩ (.int .i64 h')).cell? ⟨B, 0, none⟩ = some (.slice a len cap) := by rw [World.cell?_setCell_other _ _ _ _ (by simp)]; exact c0
  have d2 : (w.setCell ⟨B, 2, none⟩ (.int .i64 h')).cell? ⟨B, 2, none⟩ = some (.int .i64 h') := World.cell?_setCell_same _ _ _ c2
  refine ⟨hB0, k', h', hk, ?_, ?_, ?_, ?_, ?_⟩
  · rw [World.cell?_setCell_other _ _ _ _ (by simp)]; exact d0
  · exact World.cell?_setCell_same _ _ _ d1
  · rw [World.cell?_setCell_other _ _ _ _ (by simp)]; exact d2
  · simpa using f1
  · simpa using f2
theorem cur_one {B0 B : Nat} {a : Option Addr} {len cap k : Nat} {h h' : Int} {w : World} (n : Nat) (hB0 : B0 ≤ B) (hk : k ≤ len)
   (c0 : w.cell? ⟨B, 0, none⟩ = some (.slice a len cap)) (c1 : w.cell? ⟨B, 1, none⟩ = some (.int .i64 (k : Int))) (c2 : w.cell? ⟨B, 2, none⟩ = some (.int .i64 h))
   (f1 : w.frozen? ⟨B, 1, none⟩ = false) (f2 : w.frozen? ⟨B, 2, none⟩ = false) :
    Cur B0 ((w.setCell ⟨B, 2, none⟩ (.int .i64 h')).drewN n) B a len cap := by
  refine ⟨hB0, k, h', hk, ?_, ?_, ?_, ?_, ?_⟩
  · show (w.setCell ⟨B, 2, none⟩ (.int .i64 h')).cell? ⟨B, 0, none⟩ = _
    rw [World.cell?_setCell_other _ _ _ _ (by simp)]; exact c0
  · show (w.setCell ⟨B, 2, none⟩ (.int .i64 h')).cell? ⟨B, 1, none⟩ = _
    rw [World.cell?_setCell_other _ _ _ _ (by simp)]; exact c1
  · exact World.cell?_setCell_same _ _ _ c2
  · simpa using f1
  · simpa using f2

/-- A byte of a draw. -/
def IsByte (e : Ending) : Prop := ∃ x : Int, 0 ≤ x ∧ x ≤ 255 ∧ e = .returned (.int .i64 x)
theorem isByte {x : Int} (h0 : 0 ≤ x) (h1 : x ≤ 255) : IsByte (.returned (.int .i64 x)) := ⟨x, h0, h1, rfl⟩

set_option maxHeartbeats 1000000 in
theorem byte_more (B0 B b off : Nat) (k : Nat) (n h : Int) (len cap : Nat) (w : World) (hB0 : B0 ≤ B) (hB : b < B0) (hk : k < len) (hlen : len ≤ 1048576) (n0 : 0 ≤ n) (n1 : n ≤ 255)
   (c0 : w.cell? ⟨B, 0, none⟩ = some (.slice (some ⟨b, off, none⟩) len cap)) (c1 : w.cell? ⟨B, 1, none⟩ = some (.int .i64 (k : Int))) (c2 : w.cell? ⟨B, 2, none⟩ = some (.int .i64 h))
   (f1 : w.frozen? ⟨B, 1, none⟩ = false) (f2 : w.frozen? ⟨B, 2, none⟩ = false) (cr : w.cell? ⟨b, off + k, none⟩ = some (.int .u8 n)) :
    Calls Tryd.prog 44 #[.pointer (some ⟨B, 0, none⟩)] w fun e w' => IsByte e ∧ Cur B0 w' B (some ⟨b, off, none⟩) len cap ∧ Below B0 w w' := by
  have hne : b ≠ B := by omega
  obtain ⟨h', eh⟩ : ∃ h', wrap64 (wrap64 (h * 6364136223846793005) + 1442695040888963407) = h' := ⟨_, rfl⟩
  obtain ⟨x, ex⟩ : ∃ x, bits BinOp.and IntKind.i64 (bits BinOp.xor IntKind.i64 (h' / 8589934592) (h' / 35184372088832)) 255 = x := ⟨_, rfl⟩
  have hx := and_mask (bits BinOp.xor IntKind.i64 (h' / 8589934592) (h' / 35184372088832)) 255 (by omega) (by omega)
  rw [ex] at hx
  obtain ⟨hx0, hx1⟩ := hx
  have hy := and_mask (x + n) 255 (by omega) (by omega)
  generalize ey : bits BinOp.and IntKind.i64 (x + n) 255 = y at *
  obtain ⟨hy0, hy1⟩ := hy
  go_enter Tryd.func44, Tryd.ntmps44
  go_wp2_with fail
  go_quiet (fail)
  go_wp2_with fail
  go_quiet (fail)
  go_wp2_with fail
  go_quiet (fail)
  go_wp2_with fail
  go_ret
  refine ⟨isByte hy0 hy1, ?_, ?_⟩
  · exact cur_two _ (k + 1) hB0 (by omega) c0 c1 c2 f1 f2
  · exact Below.setCell (below_drewN (Below.setCell (Below.refl _ _) hB0 _) _) hB0 _

set_option maxHeartbeats 1000000 in
theorem byte_none (B0 B : Nat) (a : Option Addr) (k : Nat) (h : Int) (len cap : Nat) (w : World) (hB0 : B0 ≤ B) (hk : k = len) (hlen : len ≤ 1048576)
   (c0 : w.cell? ⟨B, 0, none⟩ = some (.slice a len cap)) (c1 : w.cell? ⟨B, 1, none⟩ = some (.int .i64 (k : Int))) (c2 : w.cell? ⟨B, 2, none⟩ = some (.int .i64 h))
   (f1 : w.frozen? ⟨B, 1, none⟩ = false) (f2 : w.frozen? ⟨B, 2, none⟩ = false) :
    Calls Tryd.prog 44 #[.pointer (some ⟨B, 0, none⟩)] w fun e w' => IsByte e ∧ Cur B0 w' B a len cap ∧ Below B0 w w' := by
  subst hk
  obtain ⟨h', eh⟩ : ∃ h', wrap64 (wrap64 (h * 6364136223846793005) + 1442695040888963407) = h' := ⟨_, rfl⟩
  obtain ⟨x, ex⟩ : ∃ x, bits BinOp.and IntKind.i64 (bits BinOp.xor IntKind.i64 (h' / 8589934592) (h' / 35184372088832)) 255 = x := ⟨_, rfl⟩
  have hx := and_mask (bits BinOp.xor IntKind.i64 (h' / 8589934592) (h' / 35184372088832)) 255 (by omega) (by omega)
  rw [ex] at hx
  obtain ⟨hx0, hx1⟩ := hx
  go_enter Tryd.func44, Tryd.ntmps44
  go_wp2_with fail
  go_quiet (fail)
  go_wp2_with fail
  go_quiet (fail)
  go_wp2_with fail
  go_ret
  refine ⟨isByte hx0 hx1, ?_, ?_⟩
  · refine Cur.drewN ?_ _
    exact cur_one _ hB0 (Nat.le_refl _) c0 c1 c2 f1 f2
  · refine below_drewN ?_ _
    exact below_drewN (Below.setCell (Below.refl _ _) hB0 _) _

theorem byte_any {B0 B : Nat} {a : Option Addr} {len cap : Nat} {w0 w : World} (s : St B0 B a len cap w0 w) :
    Calls Tryd.prog 44 #[.pointer (some ⟨B, 0, none⟩)] w fun e w' => IsByte e ∧ St B0 B a len cap w0 w' := by
  obtain ⟨⟨hB0, k, h, hk, c0, c1, c2, f1, f2⟩, row, below, small⟩ := s
  by_cases hlt : k < len
  · obtain ⟨b, off, n, rfl, hb, n0, n1, cr⟩ := row k hlt
    refine (byte_more B0 B b off k n h len cap w hB0 hb hlt small n0 n1 c0 c1 c2 f1 f2 cr).mono ?_
    rintro e w' ⟨he, hc, hbl⟩
    exact ⟨he, hc, row.below hbl, below.trans hbl, small⟩
  · refine (byte_none B0 B a k h len cap w hB0 (by omega) small c0 c1 c2 f1 f2).mono ?_
    rintro e w' ⟨he, hc, hbl⟩
    exact ⟨he, hc, row.below hbl, below.trans hbl, small⟩

/-- A number of a draw. -/
def IsInt (e : Ending) : Prop := ∃ x : Int, e = .returned (.int .i64 x)
theorem isInt {x : Int} : IsInt (.returned (.int .i64 x)) := ⟨x, rfl⟩
/-- A number of a draw, below n. -/
def IsBelow (n : Int) (e : Ending) : Prop := ∃ x : Int, 0 ≤ x ∧ x < n ∧ e = .returned (.int .i64 x)
theorem isBelow {n x : Int} (h0 : 0 ≤ x) (h1 : x < n) : IsBelow n (.returned (.int .i64 x)) := ⟨x, h0, h1, rfl⟩

theorem below_any {B0 B : Nat} {a : Option Addr} {len cap : Nat} {w0 w : World} (n : Int) (s : St B0 B a len cap w0 w) (h0 : 0 < n) (h1 : n ≤ 1000000000) :
    Calls Tryd.prog 30 #[.pointer (some ⟨B, 0, none⟩), .int .i64 n] w fun e w' => IsBelow n e ∧ St B0 B a len cap w0 w' := by
  by_cases hs : n ≤ 256
  · go_enter Tryd.func30, Tryd.ntmps30
    go_wp2_with (go_at_call 44; refine (byte_any s).mono ?_; rintro e w1 ⟨⟨x, x0, x1, rfl⟩, s1⟩)
    go_ret
    exact ⟨isBelow (Int.emod_nonneg _ (by omega)) (Int.emod_lt_of_pos _ h0), s1⟩
  · go_enter Tryd.func30, Tryd.ntmps30
    go_wp2_with fail
    refine (byte_any s).mono ?_
    rintro e w1 ⟨⟨x, x0, x1, rfl⟩, s1⟩
    go_wp2_with fail
    refine (byte_any s1).mono ?_
    rintro e w2 ⟨⟨y, y0, y1, rfl⟩, s2⟩
    go_wp2_with fail
    refine (byte_any s2).mono ?_
    rintro e w3 ⟨⟨z, z0, z1, rfl⟩, s3⟩
    go_wp2_with fail
    refine (byte_any s3).mono ?_
    rintro e w4 ⟨⟨u, u0, u1, rfl⟩, s4⟩
    go_wp2_with fail
    go_ret
    exact ⟨isBelow (Int.emod_nonneg _ (by omega)) (Int.emod_lt_of_pos _ h0), s4⟩
end Go.Proofs.YtjmhnpnjiaeamaaDoor
