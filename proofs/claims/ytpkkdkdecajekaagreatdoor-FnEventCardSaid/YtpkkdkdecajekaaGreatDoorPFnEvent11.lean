/- Texts of the verifier, joined: GI, GT, GM, GG, BEM, RdT, BEI. -/
import Derived.Test.YtpkkdkdecajekaaGreatDoorPFnEvent10
import Derived.Test.YtpkkdkdecajekaaGreatDoorPFnEvent1
import Derived.Deep.RegionWith
import Derived.WalkLawsBesides
import Derived.Deep.RegionHeld3
import Derived.Deep.DrawnRows
import Derived.Tactics2
import Derived.Defers
import Derived.Recover
import Derived.Laws.Pointers
import Derived.Test.YtpkkdkdecajekaaGreatDoorPFnEvent5
import Derived.Test.YtpkkdkdecajekaaGreatDoorPFnEvent7
import Derived.Test.YtpkkdkdecajekaaGreatDoorPFnEvent6
namespace Go.Proofs.YtpkkdkdecajekaaGreatDoor
open Go.RowKit Go.Deep
set_option linter.unusedVariables false
set_option maxRecDepth 10000

theorem insist_yes (w : World) : Calls Tryz.prog 32 #[.bool true] w fun e w' => e = .returned (.tuple #[]) ∧ w' = w := by
  go_enter Tryz.func32, Tryz.ntmps32
  go_wp2
  go_end0
  exact ⟨rfl, rfl⟩
theorem insist_no (w : World) (u : TypeId) (pv : Value) (hv : w.cell? ⟨0, 0, none⟩ = some (.iface u pv)) : Calls Tryz.prog 32 #[.bool false] w fun e w' => e = .panicked [{ v := .iface u pv, recovered := false }] ∧ w' = w := by
  go_enter Tryz.func32, Tryz.ntmps32
  go_wp2
  exact ⟨rfl, rfl, rfl⟩
/-- A reader: its bytes and its place. -/
structure Rd (w : World) (B : Nat) (a : Option Addr) (L : List UInt8) (cap : Nat) (p : Int) : Prop where
  data : w.cell? ⟨B, 0, none⟩ = some (.slice a L.length cap)
  place : w.cell? ⟨B, 1, none⟩ = some (.int .i64 p)
  free : w.frozen? ⟨B, 1, none⟩ = false
theorem Rd.drewN {w : World} {B : Nat} {a : Option Addr} {L : List UInt8} {cap : Nat} {p : Int} (h : Rd w B a L cap p) (n : Nat) : Rd (w.drewN n) B a L cap p := ⟨by simpa using h.data, by simpa using h.place, by simpa using h.free⟩
end Go.Proofs.YtpkkdkdecajekaaGreatDoor
namespace Go.Proofs.YtpkkdkdecajekaaGreatDoor
open Go.RowKit Go.Deep
set_option linter.unusedVariables false
set_option maxRecDepth 10000
attribute [local go_sem ↓] Go.wp_at_zero Go.wp_at_succ
set_option maxHeartbeats 8000000 in
theorem take_yes (B b off : Nat) (L : List UInt8) (cap p c : Nat) (w : World) (hr : Rd w B (some ⟨b, off, none⟩) L cap p) (hl : L.length ≤ 16777216) (hcap : L.length ≤ cap) (hcm : cap ≤ 9223372036854775807) (hc1 : c ≤ 1000) (h : p + c ≤ L.length) (hpc : p < cap) :
    Calls Tryz.prog 39 #[.pointer (some ⟨B, 0, none⟩), .int .i64 (c : Int)] w fun e w' => e = .returned (.slice (some ⟨b, off + p, none⟩) c (cap - p)) ∧ ∃ n, w' = (w.drewN n).setCell ⟨B, 1, none⟩ (.int .i64 ((p + c : Nat) : Int)) := by
  obtain ⟨d0, d1, d2⟩ := hr
  have hp0 : (0 : Int) ≤ (p : Int) := by omega
  have hwr : IntKind.i64.wrap ((L.length : Int) - (c : Int)) = (L.length : Int) - c := by rw [IntKind.wrap_i64]; omega
  have hdec : decide ((p : Int) ≤ (L.length : Int) - (c : Int)) = true := decide_eq_true (by omega)
  have hdp : decide ((0 : Int) ≤ (p : Int)) = true := decide_eq_true hp0
  have hadd : IntKind.i64.wrap ((p : Int) + (c : Int)) = (p : Int) + c := by rw [IntKind.wrap_i64]; omega
  have hs0 : (p : Int) ≤ (cap : Int) := by omega
  have hs3 : (p : Int) < (cap : Int) := by omega
  have hs1 : (p : Int) ≤ (p : Int) + (c : Int) := by omega
  have hs2 : (p : Int) + (c : Int) ≤ (cap : Int) := by omega
  go_enter Tryz.func39, Tryz.ntmps39
  go_wp2_with fail
  go_region_held3 (fun w' => w'.cell? ⟨B, 0, none⟩ = some (.slice (some ⟨b, off, none⟩) L.length cap) ∧ w'.cell? ⟨B, 1, none⟩ = some (.int .i64 (p : Int))) (go_keep) ((go_at_call 32; refine (insist_yes _).mono ?_; rintro e w' ⟨rfl, rfl⟩))
  go_wp2_with fail
  go_region_held3 (fun w' => w'.cell? ⟨B, 0, none⟩ = some (.slice (some ⟨b, off, none⟩) L.length cap) ∧ w'.cell? ⟨B, 1, none⟩ = some (.int .i64 (p : Int))) (go_keep) (fail)
  go_wp2_with fail
  go_ret
  have hcn : ((p : Int) + (c : Int)).toNat - p = c := by omega
  refine ⟨?_, 2, rfl⟩
  show Ending.returned (Value.slice (some ⟨b, off + p, none⟩) (((p : Int) + (c : Int)).toNat - p) (cap - p)) = _
  rw [hcn]

/-- The number in bytes, the highest first. -/
def numL (L : List UInt8) : Nat := L.foldl (fun n b => n * 256 + b.toNat) 0
theorem numL_snoc (L : List UInt8) (b : UInt8) : numL (L ++ [b]) = numL L * 256 + b.toNat := by simp [numL, List.foldl_append]
theorem fold_lt : ∀ (L : List UInt8) (n : Nat), L.foldl (fun n b => n * 256 + b.toNat) n < (n + 1) * 256 ^ L.length
  | [], n => by simp
  | b :: t, n => by
    have h := fold_lt t (n * 256 + b.toNat)
    have hb := b.toNat_lt
    rw [List.foldl_cons, List.length_cons, Nat.pow_succ]
    refine Nat.lt_of_lt_of_le h ?_
    rw [Nat.mul_comm (256 ^ t.length) 256, ← Nat.mul_assoc]
    exact Nat.mul_le_mul_right _ (by omega)
theorem numL_lt (L : List UInt8) : numL L < 256 ^ L.length := by have := fold_lt L 0; simpa [numL] using this
end Go.Proofs.YtpkkdkdecajekaaGreatDoor
namespace Go.Proofs.YtpkkdkdecajekaaGreatDoor
open Go.RowKit Go.Deep
set_option linter.unusedVariables false
set_option maxRecDepth 10000
theorem or_byte (n : Nat) (x : UInt8) (hn : n < 281474976710656) : bits .or .i64 ((n : Int) * 256) (x.toNat : Int) = ((n * 256 + x.toNat : Nat) : Int) := by
  have hx := x.toNat_lt
  have e : bits .or .i64 ((n : Int) * 256) (x.toNat : Int) = IntKind.i64.wrap ((BitVec.ofInt 64 ((n : Int) * 256) ||| BitVec.ofInt 64 (x.toNat : Int)).toNat : Int) := rfl
  have h1 : (BitVec.ofInt 64 ((n : Int) * 256)).toNat = n * 256 := by
    rw [show (n : Int) * 256 = ((n * 256 : Nat) : Int) by simp, BitVec.ofInt_natCast, BitVec.toNat_ofNat]; exact Nat.mod_eq_of_lt (by omega)
  have h2 : (BitVec.ofInt 64 (x.toNat : Int)).toNat = x.toNat := by
    rw [BitVec.ofInt_natCast, BitVec.toNat_ofNat]; exact Nat.mod_eq_of_lt (by omega)
  have h3 : n * 256 ||| x.toNat = n * 256 + x.toNat := by
    have := Nat.shiftLeft_add_eq_or_of_lt (i := 8) (b := x.toNat) (by simpa using hx) n
    rw [Nat.shiftLeft_eq] at this
    exact this.symm
  rw [e, BitVec.toNat_or, h1, h2, h3, IntKind.wrap_i64]
  omega
set_option maxHeartbeats 8000000 in
theorem number_yes (B b off : Nat) (L : List UInt8) (cap p s : Nat) (w : World) (hr : Rd w B (some ⟨b, off, none⟩) L cap p) (hB : b ≠ B) (hc : Cells w (some ⟨b, off, none⟩) (bys L)) (hl : L.length ≤ 16777216) (hcap : L.length ≤ cap) (hcm : cap ≤ 9223372036854775807) (hs1 : 1 ≤ s) (hs2 : s ≤ 7) (h : p + s ≤ L.length) :
    Calls Tryz.prog 33 #[.pointer (some ⟨B, 0, none⟩), .int .i64 (s : Int)] w fun e w' => e = .returned (.int .i64 (numL ((L.drop p).take s) : Nat)) ∧ ∃ n, w' = (w.drewN n).setCell ⟨B, 1, none⟩ (.int .i64 ((p + s : Nat) : Int)) := by
  have HS := hide (sizeok_k (s : Int) w)
  rw [show (decide (1 ≤ (s : Int)) && decide ((s : Int) ≤ 7)) = true by simp; omega] at HS
  have HT := hide (take_yes B b off L cap p s w hr hl hcap hcm (by omega) h (by omega))
  have HC : Hid (∀ k, k < s → ∀ n, ((w.drewN n).setCell ⟨B, 1, none⟩ (.int .i64 ((p + s : Nat) : Int))).cell? ⟨b, off + p + k, none⟩ = some (.int .u8 ((L.getD (p + k) 0).toNat : Int))) := by
    intro k hk n
    rw [World.cell?_setCell_other _ _ _ _ (by simp)]
    obtain ⟨b', off', e, hcell⟩ := bys_at hc (p + k) (by omega)
    have e' := Option.some.inj e
    injection e' with e1 e2
    subst e1 e2
    rw [← Nat.add_assoc] at hcell
    have : L.getD (p + k) 0 = L[p + k]'(by omega) := by rw [List.getD_eq_getElem?_getD, List.getElem?_eq_getElem (by omega)]; rfl
    rw [this]
    simpa using hcell
  clear hr hc
  go_enter Tryz.func33, Tryz.ntmps33
  go_wp2_with (first | (go_at_call 38; refine (unhide HS).mono ?_; rintro e w' ⟨rfl, hw'⟩; obtain rfl := Eq.symm hw') | (go_at_call 32; refine (insist_yes _).mono ?_; rintro e w' ⟨rfl, hw'⟩; obtain rfl := Eq.symm hw') | (go_at_call 39; refine (unhide HT).mono ?_; rintro e w1 ⟨rfl, n, hw1⟩; have HW1 := hide hw1; have HC1 : Hid (∀ k, k < s → w1.cell? ⟨b, off + p + k, none⟩ = some (.int .u8 ((L.getD (p + k) 0).toNat : Int))) := fun k hk => (by rw [hw1]; exact HC.out k hk n); clear hw1 HC))
  go_loop [5, 15] (fun x y => ∃ k : Nat, k ≤ s ∧ x = .int .i64 ((numL ((L.drop p).take k) : Nat) : Int) ∧ y = .int .i64 (k : Int)) (fun _ y => s - (intOf y).toNat)
  case atStart => exact ⟨0, by omega, by simp [numL], rfl⟩
  case round =>
    obtain ⟨k, hk, rfl, rfl⟩ := hrel
    by_cases hlt : k < s
    · have c0 := HC1.out k hlt
      have hb0 := byte_nn (L.getD (p + k) 0)
      have hb1 := byte_lt (L.getD (p + k) 0)
      have HN : Hid (numL ((L.drop p).take (k + 1)) = numL ((L.drop p).take k) * 256 + (L.getD (p + k) 0).toNat) := by
        show _ = _
        have hd : k < (L.drop p).length := by rw [List.length_drop]; omega
        rw [List.take_succ_eq_append_getElem hd, numL_snoc]
        congr 2
        rw [List.getElem_drop, List.getD_eq_getElem?_getD, List.getElem?_eq_getElem (by omega)]; rfl
      have hlt2 : numL ((L.drop p).take k) < 281474976710656 := by
        refine Nat.lt_of_lt_of_le (numL_lt _) ?_
        refine Nat.le_trans (Nat.pow_le_pow_right (by decide) (show ((L.drop p).take k).length ≤ 6 by rw [List.length_take]; omega)) (by decide)
      have hor := or_byte (numL ((L.drop p).take k)) (L.getD (p + k) 0) hlt2
      have HOr := hide hor
      clear hor
      generalize L.getD (p + k) 0 = x at *
      generalize numL ((L.drop p).take k) = m at *
      go_wp2_with fail
      go_round
      case rel => exact ⟨k + 1, by omega, by rw [HN.out]; exact congrArg (Value.int .i64) HOr.out, by go_num⟩
      case measure => simp [intOf]; omega
    · have e : k = s := by omega
      subst e
      go_wp2_with fail
      go_ret
      exact ⟨rfl, n, HW1.out⟩

end Go.Proofs.YtpkkdkdecajekaaGreatDoor
namespace Go.Proofs.YtpkkdkdecajekaaGreatDoor
open Go.RowKit Go.Deep
set_option linter.unusedVariables false
set_option maxRecDepth 10000

/-- The world where GetNum calls number. -/
abbrev three (w : World) (a : Option Addr) (l cap : Nat) (p : Int) : World := ((w.alloc (Obj.cells #[Value.int IntKind.i64 0] 3)).alloc (Obj.cells #[Value.bool false] 4)).alloc (Obj.cells #[.slice a l cap, .int .i64 p] 48)
end Go.Proofs.YtpkkdkdecajekaaGreatDoor
namespace Go.Proofs.YtpkkdkdecajekaaGreatDoor
open Go.RowKit Go.Deep
set_option linter.unusedVariables false
set_option linter.unusedSimpArgs false

theorem digs_snoc (n s : Nat) : digs n (s + 1) = digs (n / 256) s ++ [UInt8.ofNat n] := by
  unfold digs
  rw [digsTo_succ]
  congr 1
  · unfold digsTo
    refine List.map_congr_left fun i hi => ?_
    have hi' : i < s := List.mem_range.1 hi
    rw [Nat.div_div_eq_div_mul, ← Nat.pow_succ']
    congr 3
    omega
  · simp
/-- The piece of s bytes from p on. -/
def cut (L : List UInt8) (p s : Nat) : List UInt8 := (L.drop p).take s
theorem numL_one (z : UInt8) : numL [z] = z.toNat := by simp [numL]
/-- Is there an event in the bytes? -/
def ebB (L : List UInt8) : Bool := decide (L.length = 22) && decide (numL (cut L 0 1) = 69) && decide (numL (cut L 21 1) ≤ 1) && evB (numL (cut L 1 1) : Nat) (numL (cut L 2 3) : Nat) (numL (cut L 5 1) : Nat) (numL (cut L 6 1) : Nat) (numL (cut L 7 7) : Nat) (numL (cut L 14 7) : Nat) (decide (numL (cut L 21 1) = 1))
/-- The event in the bytes, or none. -/
def ebV (L : List UInt8) : Value := if ebB L = true then evV (numL (cut L 1 1) : Nat) (numL (cut L 2 3) : Nat) (numL (cut L 5 1) : Nat) (numL (cut L 6 1) : Nat) (numL (cut L 7 7) : Nat) (numL (cut L 14 7) : Nat) (decide (numL (cut L 21 1) = 1)) else evV 0 0 0 0 0 0 false
end Go.Proofs.YtpkkdkdecajekaaGreatDoor
namespace Go.Proofs.YtpkkdkdecajekaaGreatDoor
open Go.RowKit Go.Deep
set_option linter.unusedVariables false
set_option linter.unusedSimpArgs false
set_option maxRecDepth 10000

theorem own_set {w : World} {V : Nat} {xs : List Value} (h : Own w [(some ⟨V, 0, none⟩, xs)]) (i : Nat) (hi : i < xs.length) (v : Value) : Own (w.setCell ⟨V, i, none⟩ v) [(some ⟨V, 0, none⟩, xs.set i v)] := by
  refine h.wrote (by simp) (Or.inr ⟨V, 0, rfl, fun j hj => ?_⟩) (fun p => frozen_set _ _ _ _)
  rw [List.length_set] at hj
  have hc : ∀ j (hj : j < xs.length), w.cell? ⟨V, 0 + j, none⟩ = some xs[j] := by
    rcases h.one with h' | ⟨b, off, e, h'⟩
    · rw [h'] at hi; simp at hi
    · have e' := Option.some.inj e
      injection e' with e1 e2
      subst e1 e2
      exact h'
  simp only [Nat.zero_add] at hc ⊢
  rw [List.getElem_set]
  by_cases e : i = j
  · subst e
    rw [if_pos rfl]
    exact World.cell?_setCell_same _ _ _ (hc i hi)
  · rw [if_neg e, World.cell?_setCell_other _ _ _ _ (fun h => e (by injection h))]
    exact hc j hj
theorem Turn.setNew {fs : List Nat} {W w : World} (h : Turn fs W w) {a : Addr} (ha : W.heap.size ≤ a.block) (v : Value) : Turn fs W (w.setCell a v) :=
  ⟨h.os, h.tape, h.output, by rw [nblk_setCell]; exact h.size, fun k hk hn => by
    rw [blk_setCell_other _ _ _ _ (fun e => by rw [e] at hk; omega)]
    exact h.block k hk hn⟩
theorem number_t (B b off : Nat) (L : List UInt8) (cap p s n : Nat) (hn : numL (cut L p s) = n) (w : World) (hr : Rd w B (some ⟨b, off, none⟩) L cap p) (hB : b ≠ B) (hc : Cells w (some ⟨b, off, none⟩) (bys L)) (hl : L.length ≤ 16777216) (hcap : L.length ≤ cap) (hcm : cap ≤ 9223372036854775807) (hs1 : 1 ≤ s) (hs2 : s ≤ 7) (h : p + s ≤ L.length) :
    Calls Tryz.prog 33 #[.pointer (some ⟨B, 0, none⟩), .int .i64 (s : Int)] w fun e w' => e = .returned (.int .i64 (n : Int)) ∧ Rd w' B (some ⟨b, off, none⟩) L cap (p + s : Nat) ∧ Turn [B] w w' := by
  refine (number_yes B b off L cap p s w hr hB hc hl hcap hcm hs1 hs2 h).mono ?_
  rintro e w' ⟨rfl, m, rfl⟩
  refine ⟨by rw [← hn]; rfl, ⟨?_, ?_, ?_⟩, ?_⟩
  · rw [World.cell?_setCell_other _ _ _ _ (by simp)]; simpa using hr.data
  · exact World.cell?_setCell_same _ _ _ (u := .int .i64 p) (by simpa using hr.place)
  · rw [frozen_set]; simpa using hr.free
  · exact Turn.trans' (Turn.of_keeps ((Keeps.refl w).drewN m) [B]) (Turn.set (by simp) _)
/-- A reader over bytes that were there, and a struct of the call's own, made since W. -/
structure RS (W w : World) (B b off : Nat) (L : List UInt8) (cap : Nat) (p : Nat) (V : Nat) (xs : List Value) : Prop where
  rd : Rd w B (some ⟨b, off, none⟩) L cap p
  cells : Cells w (some ⟨b, off, none⟩) (bys L)
  own : Own w [(some ⟨V, 0, none⟩, xs)]
  turn : Turn [B] W w
  newV : W.heap.size ≤ V
  oldB : B < W.heap.size
  oldb : b < W.heap.size
  ne : b ≠ B
section
variable {W w w' : World} {B b off : Nat} {L : List UInt8} {cap p V : Nat} {xs ys : List Value}
theorem RS.num (h : RS W w B b off L cap p V xs) {q : Nat} (hr : Rd w' B (some ⟨b, off, none⟩) L cap q) (ht : Turn [B] w w') : RS W w' B b off L cap q V xs :=
  ⟨hr, Cells.turn (s := (some ⟨b, off, none⟩, bys L)) h.cells ht (fun x hx hb => by
      have h1 : x = B := by simpa using hb
      subst h1
      by_cases h0 : bys L = []
      · simp [fpS, h0] at hx
      · rw [fpS_some h0] at hx
        exact h.ne ((show x = b by simpa using hx).symm)),
    h.own.turn ht (fun x hx hb => by
      have h1 : x = B := by simpa using hb
      subst h1
      rw [fp_one] at hx
      by_cases h0 : xs = []
      · simp [fpS, h0] at hx
      · rw [fpS_some h0] at hx
        have h2 : x = V := by simpa using hx
        have := h.newV
        have := h.oldB
        omega), h.turn.trans' ht, h.newV, h.oldB, h.oldb, h.ne⟩
theorem RS.set (h : RS W w B b off L cap p V xs) (i : Nat) (hi : i < xs.length) (v : Value) (hy : ys = xs.set i v) : RS W (w.setCell ⟨V, i, none⟩ v) B b off L cap p V ys := by
  have h1 := h.newV
  have h2 := h.oldB
  have h3 := h.oldb
  refine ⟨⟨?_, ?_, ?_⟩, ?_, by rw [hy]; exact own_set h.own i hi v, h.turn.setNew h.newV v, h1, h2, h3, h.ne⟩
  · rw [World.cell?_setCell_other _ _ _ _ (fun e => by injection e; omega)]; exact h.rd.data
  · rw [World.cell?_setCell_other _ _ _ _ (fun e => by injection e; omega)]; exact h.rd.place
  · rw [frozen_set]; exact h.rd.free
  · refine Cells.turn (s := (some ⟨b, off, none⟩, bys L)) h.cells (Turn.set (fs := [V]) (by simp) v) (fun x hx hb => ?_)
    have e1 : x = V := by simpa using hb
    by_cases h0 : bys L = []
    · simp [fpS, h0] at hx
    · rw [fpS_some h0] at hx
      have e2 : x = b := by simpa using hx
      omega
theorem RS.other (h : RS W w B b off L cap p V xs) {V' i : Nat} (hne : V' ≠ V) (hnew : W.heap.size ≤ V') (v : Value) : RS W (w.setCell ⟨V', i, none⟩ v) B b off L cap p V xs := by
  have h1 := h.newV
  have h2 := h.oldB
  have h3 := h.oldb
  refine ⟨⟨?_, ?_, ?_⟩, ?_, ?_, h.turn.setNew hnew v, h1, h2, h3, h.ne⟩
  · rw [World.cell?_setCell_other _ _ _ _ (fun e => by injection e; omega)]; exact h.rd.data
  · rw [World.cell?_setCell_other _ _ _ _ (fun e => by injection e; omega)]; exact h.rd.place
  · rw [frozen_set]; exact h.rd.free
  · refine Cells.turn (s := (some ⟨b, off, none⟩, bys L)) h.cells (Turn.set (fs := [V']) (by simp) v) (fun x hx hb => ?_)
    have e1 : x = V' := by simpa using hb
    by_cases h0 : bys L = []
    · simp [fpS, h0] at hx
    · rw [fpS_some h0] at hx
      have e2 : x = b := by simpa using hx
      omega
  · refine h.own.turn (Turn.set (fs := [V']) (by simp) v) (fun x hx hb => ?_)
    have e1 : x = V' := by simpa using hb
    rw [fp_one] at hx
    by_cases h0 : xs = []
    · simp [fpS, h0] at hx
    · rw [fpS_some h0] at hx
      exact hne (e1.symm.trans (by simpa using hx))
theorem RS.cell (h : RS W w B b off L cap p V xs) (i : Nat) (hi : i < xs.length) {v : Value} (hv : xs[i] = v) : w.cell? ⟨V, i, none⟩ = some v := by
  have := cell_at h.own.mem i hi
  rw [Nat.zero_add, hv] at this
  exact this
theorem RS.free (h : RS W w B b off L cap p V xs) (hx : xs ≠ []) : ∀ i, w.frozen? ⟨V, i, none⟩ = false := h.own.free V (by rw [fp_one, fpS_some hx]; simp)
theorem RS.drew (h : RS W w B b off L cap p V xs) : RS W w.drew B b off L cap p V xs :=
  ⟨⟨by simpa using h.rd.data, by simpa using h.rd.place, by simpa using h.rd.free⟩, h.cells.kept (Keeps.drew (Keeps.refl w)), h.own.kept (Keeps.drew (Keeps.refl w)), h.turn.trans' (Turn.of_keeps (Keeps.drew (Keeps.refl w)) _), h.newV, h.oldB, h.oldb, h.ne⟩
theorem RS.kept (h : RS W w B b off L cap p V xs) (hk : Keeps w w') : RS W w' B b off L cap p V xs :=
  ⟨⟨hk.cell h.rd.data, hk.cell h.rd.place, by rw [hk.oldF _ _ (lt_of_cell h.rd.place)]; exact h.rd.free⟩, h.cells.kept hk, h.own.kept hk, h.turn.trans' (Turn.of_keeps hk _), h.newV, h.oldB, h.oldb, h.ne⟩
end
end Go.Proofs.YtpkkdkdecajekaaGreatDoor
namespace Go.Proofs.YtpkkdkdecajekaaGreatDoor
open Go.RowKit Go.Deep
set_option linter.unusedVariables false
set_option linter.unusedSimpArgs false
set_option maxRecDepth 10000
theorem evok_is (k y c t m f : Int) (b r : Bool) (hr : evB k y c t m f b = r) (w : World) : Calls Tryz.prog 15 #[evV k y c t m f b] w fun e w' => e = .returned (.bool r) ∧ Keeps w w' := by
  rw [← hr]; exact evok_impl k y c t m f b w
set_option maxHeartbeats 4000000 in
theorem event_yes (B b off : Nat) (L : List UInt8) (cap : Nat) (w : World) (u : TypeId) (pv : Value) (hv : w.cell? ⟨0, 0, none⟩ = some (.iface u pv)) (hgB : 0 ≠ B) (hr : Rd w B (some ⟨b, off, none⟩) L cap (0 : Nat)) (hB : b ≠ B) (hBl : B < w.heap.size) (hbl : b < w.heap.size) (hc : Cells w (some ⟨b, off, none⟩) (bys L)) (hcap : L.length ≤ cap) (hcm : cap ≤ 9223372036854775807) (h22 : L.length = 22) (z k y c t m f q : Nat) (ez : numL (cut L 0 1) = z) (ek : numL (cut L 1 1) = k) (ey : numL (cut L 2 3) = y) (ec : numL (cut L 5 1) = c) (et : numL (cut L 6 1) = t) (em : numL (cut L 7 7) = m) (ef : numL (cut L 14 7) = f) (eq : numL (cut L 21 1) = q) (hz : z = 69) (hq : q ≤ 1) (hev : evB k y c t m f (decide (q = 1)) = true) :
    Calls Tryz.prog 21 #[.pointer (some ⟨B, 0, none⟩)] w fun e w' => e = .returned (evV k y c t m f (decide (q = 1))) ∧ Turn [B] w w' := by
  have hb := born_alloc w #[.int .i64 0, .int .i64 0, .int .i64 0, .int .i64 0, .int .i64 0, .int .i64 0, .bool false] 24
  dsimp only at hb
  have hk := Keeps.alloc (Keeps.refl w) (.cells #[.int .i64 0, .int .i64 0, .int .i64 0, .int .i64 0, .int .i64 0, .int .i64 0, .bool false] 24)
  have HG := hide (fun (w' : World) (ht : Turn [B] w w') => ht.cell (p := ⟨0, 0, none⟩) (by simpa using hgB) hv)
  have HS : Hid (RS w (w.alloc (.cells #[.int .i64 0, .int .i64 0, .int .i64 0, .int .i64 0, .int .i64 0, .int .i64 0, .bool false] 24)) B b off L cap 0 w.heap.size [.int .i64 0, .int .i64 0, .int .i64 0, .int .i64 0, .int .i64 0, .int .i64 0, .bool false]) :=
    ⟨⟨hk.cell hr.data, hk.cell hr.place, by rw [hk.oldF _ _ hBl]; exact hr.free⟩, hc.kept hk, hb.toOwn, Turn.of_keeps hk [B], Nat.le_refl _, hBl, hbl, hB⟩
  have HCap := hide hcap
  have HCm := hide hcm
  clear hb hk hv hr hc hgB hcap hcm
  have hn : ((L.length : Int) == 22) = true := by rw [h22]; rfl
  have HL : Hid (L.length ≤ 16777216) := by show _ ≤ _; omega
  have HP : Hid (∀ p s : Nat, p + s ≤ 22 → p + s ≤ L.length) := fun p s h => by omega
  have d0 := HS.out.rd.data
  have Nz := hide ez
  have Nk := hide ek
  have Ny := hide ey
  have Nc := hide ec
  have Nt := hide et
  have Nm := hide em
  have Nf := hide ef
  have Nq := hide eq
  have HEV := hide hev
  clear hev
  clear h22 ez ek ey ec et em ef eq
  have hz2 : ((z : Int) == 69) = true := by rw [hz]; rfl
  clear hz
  go_enter Tryz.func21, Tryz.ntmps21
  go_wp2_with fail
  go_at_call 33
  refine (number_t B b off L cap 0 1 z Nz.out _ HS.out.rd hB HS.out.cells HL.out HCap.out HCm.out (by decide) (by decide) (HP.out 0 1 (by decide))).mono ?_
  rintro e w1 ⟨rfl, hr1, ht1⟩
  replace HS := hide (HS.out.num hr1 ht1)
  have hz12 : w.heap.size < w1.heap.size := by have := ht1.size; simp at this; omega
  clear hr1 ht1 d0
  simp only [Nat.zero_add] at HS
  go_wp2_with fail
  go_at_call 32
  refine (insist_yes _).mono ?_
  rintro e w' ⟨rfl, hw'⟩
  obtain rfl := Eq.symm hw'
  clear hw'
  have hbV := born_alloc w1 #[.int .i64 0, .int .i64 0, .int .i64 0, .int .i64 0, .int .i64 0, .int .i64 0, .bool false] 24
  dsimp only at hbV
  have hkV := Keeps.alloc (Keeps.refl w1) (.cells #[.int .i64 0, .int .i64 0, .int .i64 0, .int .i64 0, .int .i64 0, .int .i64 0, .bool false] 24)
  have HT : Hid (RS w (w1.alloc (.cells #[.int .i64 0, .int .i64 0, .int .i64 0, .int .i64 0, .int .i64 0, .int .i64 0, .bool false] 24)) B b off L cap 1 w1.heap.size [.int .i64 0, .int .i64 0, .int .i64 0, .int .i64 0, .int .i64 0, .int .i64 0, .bool false]) :=
    ⟨(HS.out.kept hkV).rd, (HS.out.kept hkV).cells, hbV.toOwn, (HS.out.kept hkV).turn, Nat.le_trans (Nat.le_of_lt hz12) (Nat.le_refl _), HS.out.oldB, HS.out.oldb, HS.out.ne⟩
  replace HS := hide (HS.out.kept hkV)
  clear hbV hkV
  go_wp2_with fail
  generalize w1.alloc (.cells #[.int .i64 0, .int .i64 0, .int .i64 0, .int .i64 0, .int .i64 0, .int .i64 0, .bool false] 24) = w2 at *
  generalize hV : w1.heap.size = V at *
  clear hV w1
  go_at_call 33
  refine (number_t B b off L cap 1 1 k Nk.out _ HS.out.rd hB HS.out.cells HL.out HCap.out HCm.out (by decide) (by decide) (HP.out 1 1 (by decide))).mono ?_
  rintro e w3 ⟨rfl, hr1, ht1⟩
  replace HS := hide (HS.out.num hr1 ht1)
  replace HT := hide (HT.out.num hr1 ht1)
  clear hr1 ht1
  simp only [Nat.reduceAdd] at HS HT
  have cV := HT.out.cell 0 (by simp) (v := .int .i64 0) rfl
  have fV := HT.out.free (by simp) 0
  replace HT := hide (HT.out.set 0 (by simp) (.int .i64 (k : Int)) (ys := [.int .i64 (k : Int), .int .i64 0, .int .i64 0, .int .i64 0, .int .i64 0, .int .i64 0, .bool false]) rfl)
  replace HS := hide (HS.out.other (V' := V) (i := 0) (Nat.ne_of_gt hz12) (Nat.le_of_lt hz12) (.int .i64 (k : Int)))
  go_wp2_with fail
  clear cV fV
  generalize w3.setCell ⟨V, 0, none⟩ (.int .i64 (k : Int)) = w4 at *
  clear w2 w3
  go_at_call 33
  refine (number_t B b off L cap 2 3 y Ny.out _ HS.out.rd hB HS.out.cells HL.out HCap.out HCm.out (by decide) (by decide) (HP.out 2 3 (by decide))).mono ?_
  rintro e w5 ⟨rfl, hr1, ht1⟩
  replace HS := hide (HS.out.num hr1 ht1)
  replace HT := hide (HT.out.num hr1 ht1)
  clear hr1 ht1
  simp only [Nat.reduceAdd] at HS HT
  have cV := HT.out.cell 1 (by simp) (v := .int .i64 0) rfl
  have fV := HT.out.free (by simp) 1
  replace HT := hide (HT.out.set 1 (by simp) (.int .i64 (y : Int)) (ys := [.int .i64 (k : Int), .int .i64 (y : Int), .int .i64 0, .int .i64 0, .int .i64 0, .int .i64 0, .bool false]) rfl)
  replace HS := hide (HS.out.other (V' := V) (i := 1) (Nat.ne_of_gt hz12) (Nat.le_of_lt hz12) (.int .i64 (y : Int)))
  go_wp2_with fail
  clear cV fV
  generalize w5.setCell ⟨V, 1, none⟩ (.int .i64 (y : Int)) = w6 at *
  clear w4 w5
  go_at_call 33
  refine (number_t B b off L cap 5 1 c Nc.out _ HS.out.rd hB HS.out.cells HL.out HCap.out HCm.out (by decide) (by decide) (HP.out 5 1 (by decide))).mono ?_
  rintro e w7 ⟨rfl, hr1, ht1⟩
  replace HS := hide (HS.out.num hr1 ht1)
  replace HT := hide (HT.out.num hr1 ht1)
  clear hr1 ht1
  simp only [Nat.reduceAdd] at HS HT
  have cV := HT.out.cell 2 (by simp) (v := .int .i64 0) rfl
  have fV := HT.out.free (by simp) 2
  replace HT := hide (HT.out.set 2 (by simp) (.int .i64 (c : Int)) (ys := [.int .i64 (k : Int), .int .i64 (y : Int), .int .i64 (c : Int), .int .i64 0, .int .i64 0, .int .i64 0, .bool false]) rfl)
  replace HS := hide (HS.out.other (V' := V) (i := 2) (Nat.ne_of_gt hz12) (Nat.le_of_lt hz12) (.int .i64 (c : Int)))
  go_wp2_with fail
  clear cV fV
  generalize w7.setCell ⟨V, 2, none⟩ (.int .i64 (c : Int)) = w8 at *
  clear w6 w7
  go_at_call 33
  refine (number_t B b off L cap 6 1 t Nt.out _ HS.out.rd hB HS.out.cells HL.out HCap.out HCm.out (by decide) (by decide) (HP.out 6 1 (by decide))).mono ?_
  rintro e w9 ⟨rfl, hr1, ht1⟩
  replace HS := hide (HS.out.num hr1 ht1)
  replace HT := hide (HT.out.num hr1 ht1)
  clear hr1 ht1
  simp only [Nat.reduceAdd] at HS HT
  have cV := HT.out.cell 3 (by simp) (v := .int .i64 0) rfl
  have fV := HT.out.free (by simp) 3
  replace HT := hide (HT.out.set 3 (by simp) (.int .i64 (t : Int)) (ys := [.int .i64 (k : Int), .int .i64 (y : Int), .int .i64 (c : Int), .int .i64 (t : Int), .int .i64 0, .int .i64 0, .bool false]) rfl)
  replace HS := hide (HS.out.other (V' := V) (i := 3) (Nat.ne_of_gt hz12) (Nat.le_of_lt hz12) (.int .i64 (t : Int)))
  go_wp2_with fail
  clear cV fV
  generalize w9.setCell ⟨V, 3, none⟩ (.int .i64 (t : Int)) = w10 at *
  clear w8 w9
  go_at_call 33
  refine (number_t B b off L cap 7 7 m Nm.out _ HS.out.rd hB HS.out.cells HL.out HCap.out HCm.out (by decide) (by decide) (HP.out 7 7 (by decide))).mono ?_
  rintro e w11 ⟨rfl, hr1, ht1⟩
  replace HS := hide (HS.out.num hr1 ht1)
  replace HT := hide (HT.out.num hr1 ht1)
  clear hr1 ht1
  simp only [Nat.reduceAdd] at HS HT
  have cV := HT.out.cell 4 (by simp) (v := .int .i64 0) rfl
  have fV := HT.out.free (by simp) 4
  replace HT := hide (HT.out.set 4 (by simp) (.int .i64 (m : Int)) (ys := [.int .i64 (k : Int), .int .i64 (y : Int), .int .i64 (c : Int), .int .i64 (t : Int), .int .i64 (m : Int), .int .i64 0, .bool false]) rfl)
  replace HS := hide (HS.out.other (V' := V) (i := 4) (Nat.ne_of_gt hz12) (Nat.le_of_lt hz12) (.int .i64 (m : Int)))
  go_wp2_with fail
  clear cV fV
  generalize w11.setCell ⟨V, 4, none⟩ (.int .i64 (m : Int)) = w12 at *
  clear w10 w11
  go_at_call 33
  refine (number_t B b off L cap 14 7 f Nf.out _ HS.out.rd hB HS.out.cells HL.out HCap.out HCm.out (by decide) (by decide) (HP.out 14 7 (by decide))).mono ?_
  rintro e w13 ⟨rfl, hr1, ht1⟩
  replace HS := hide (HS.out.num hr1 ht1)
  replace HT := hide (HT.out.num hr1 ht1)
  clear hr1 ht1
  simp only [Nat.reduceAdd] at HS HT
  have cV := HT.out.cell 5 (by simp) (v := .int .i64 0) rfl
  have fV := HT.out.free (by simp) 5
  replace HT := hide (HT.out.set 5 (by simp) (.int .i64 (f : Int)) (ys := [.int .i64 (k : Int), .int .i64 (y : Int), .int .i64 (c : Int), .int .i64 (t : Int), .int .i64 (m : Int), .int .i64 (f : Int), .bool false]) rfl)
  replace HS := hide (HS.out.other (V' := V) (i := 5) (Nat.ne_of_gt hz12) (Nat.le_of_lt hz12) (.int .i64 (f : Int)))
  go_wp2_with fail
  clear cV fV
  generalize w13.setCell ⟨V, 5, none⟩ (.int .i64 (f : Int)) = w14 at *
  clear w12 w13
  go_at_call 33
  refine (number_t B b off L cap 21 1 q Nq.out _ HS.out.rd hB HS.out.cells HL.out HCap.out HCm.out (by decide) (by decide) (HP.out 21 1 (by decide))).mono ?_
  rintro e w15 ⟨rfl, hr1, ht1⟩
  replace HS := hide (HS.out.num hr1 ht1)
  replace HT := hide (HT.out.num hr1 ht1)
  clear hr1 ht1
  simp only [Nat.reduceAdd] at HS HT
  have hq2 : (q : Int) ≤ 1 := by omega
  clear hq
  go_wp2_with fail
  go_at_call 32
  refine (insist_yes _).mono ?_
  rintro e w' ⟨rfl, hw'⟩
  obtain rfl := Eq.symm hw'
  clear hw'
  have hqb : ((q : Int) == 1) = decide (q = 1) := by rw [Bool.eq_iff_iff]; simp; omega
  generalize hb1 : decide (q = 1) = b1 at *
  have HB1 := hide hb1
  clear hb1
  have cV := HT.out.cell 6 (by simp) (v := .bool false) rfl
  have fV := HT.out.free (by simp) 6
  replace HT := hide (HT.out.set 6 (by simp) (.bool b1) (ys := [.int .i64 (k : Int), .int .i64 (y : Int), .int .i64 (c : Int), .int .i64 (t : Int), .int .i64 (m : Int), .int .i64 (f : Int), .bool b1]) rfl)
  replace HS := hide (HS.out.other (V' := V) (i := 6) (Nat.ne_of_gt hz12) (Nat.le_of_lt hz12) (.bool b1))
  have e0 := HT.out.cell 0 (by simp) (v := .int .i64 (k : Int)) rfl
  have e1 := HT.out.cell 1 (by simp) (v := .int .i64 (y : Int)) rfl
  have e2 := HT.out.cell 2 (by simp) (v := .int .i64 (c : Int)) rfl
  have e3 := HT.out.cell 3 (by simp) (v := .int .i64 (t : Int)) rfl
  have e4 := HT.out.cell 4 (by simp) (v := .int .i64 (m : Int)) rfl
  have e5 := HT.out.cell 5 (by simp) (v := .int .i64 (f : Int)) rfl
  have e6 := HT.out.cell 6 (by simp) (v := .bool b1) rfl
  go_wp2_with fail
  clear cV fV
  generalize w15.setCell ⟨V, 6, none⟩ (.bool b1) = w16 at *
  clear w14 w15
  go_at_call 15
  refine (evok_is k y c t m f b1 _ HEV.out _).mono ?_
  rintro e w17 ⟨rfl, hk⟩
  replace HS := hide (HS.out.kept hk)
  replace HT := hide (HT.out.kept hk)
  clear hk e0 e1 e2 e3 e4 e5 e6
  go_wp2_with fail
  go_at_call 32
  refine (insist_yes _).mono ?_
  rintro e w' ⟨rfl, hw'⟩
  obtain rfl := Eq.symm hw'
  clear hw'
  have e0 := HT.out.cell 0 (by simp) (v := .int .i64 (k : Int)) rfl
  have e1 := HT.out.cell 1 (by simp) (v := .int .i64 (y : Int)) rfl
  have e2 := HT.out.cell 2 (by simp) (v := .int .i64 (c : Int)) rfl
  have e3 := HT.out.cell 3 (by simp) (v := .int .i64 (t : Int)) rfl
  have e4 := HT.out.cell 4 (by simp) (v := .int .i64 (m : Int)) rfl
  have e5 := HT.out.cell 5 (by simp) (v := .int .i64 (f : Int)) rfl
  have e6 := HT.out.cell 6 (by simp) (v := .bool b1) rfl
  have c0 := HS.out.cell 0 (by simp) (v := .int .i64 0) rfl
  have c1 := HS.out.cell 1 (by simp) (v := .int .i64 0) rfl
  have c2 := HS.out.cell 2 (by simp) (v := .int .i64 0) rfl
  have c3 := HS.out.cell 3 (by simp) (v := .int .i64 0) rfl
  have c4 := HS.out.cell 4 (by simp) (v := .int .i64 0) rfl
  have c5 := HS.out.cell 5 (by simp) (v := .int .i64 0) rfl
  have c6 := HS.out.cell 6 (by simp) (v := .bool false) rfl
  have fS := HS.out.free (by simp)
  have HS0 := HS.out.set 0 (by simp) (.int .i64 (k : Int)) (ys := [.int .i64 (k : Int), .int .i64 0, .int .i64 0, .int .i64 0, .int .i64 0, .int .i64 0, .bool false]) rfl
  have HS1 := HS0.set 1 (by simp) (.int .i64 (y : Int)) (ys := [.int .i64 (k : Int), .int .i64 (y : Int), .int .i64 0, .int .i64 0, .int .i64 0, .int .i64 0, .bool false]) rfl
  have HS2 := HS1.set 2 (by simp) (.int .i64 (c : Int)) (ys := [.int .i64 (k : Int), .int .i64 (y : Int), .int .i64 (c : Int), .int .i64 0, .int .i64 0, .int .i64 0, .bool false]) rfl
  have HS3 := HS2.set 3 (by simp) (.int .i64 (t : Int)) (ys := [.int .i64 (k : Int), .int .i64 (y : Int), .int .i64 (c : Int), .int .i64 (t : Int), .int .i64 0, .int .i64 0, .bool false]) rfl
  have HS4 := HS3.set 4 (by simp) (.int .i64 (m : Int)) (ys := [.int .i64 (k : Int), .int .i64 (y : Int), .int .i64 (c : Int), .int .i64 (t : Int), .int .i64 (m : Int), .int .i64 0, .bool false]) rfl
  have HS5 := HS4.set 5 (by simp) (.int .i64 (f : Int)) (ys := [.int .i64 (k : Int), .int .i64 (y : Int), .int .i64 (c : Int), .int .i64 (t : Int), .int .i64 (m : Int), .int .i64 (f : Int), .bool false]) rfl
  have HS6 := HS5.set 6 (by simp) (.bool b1) (ys := [.int .i64 (k : Int), .int .i64 (y : Int), .int .i64 (c : Int), .int .i64 (t : Int), .int .i64 (m : Int), .int .i64 (f : Int), .bool b1]) rfl
  have HF := hide HS6
  clear HS0 HS1 HS2 HS3 HS4 HS5 HS6
  go_wp2_with fail
  clear c0 e0 c1 e1 c2 e2 c3 e3 c4 e4 c5 e5 c6 e6 fS
  generalize (((((((w17.setCell ⟨w.heap.size, 0, none⟩ (.int .i64 (k : Int))).setCell ⟨w.heap.size, 1, none⟩ (.int .i64 (y : Int))).setCell ⟨w.heap.size, 2, none⟩ (.int .i64 (c : Int))).setCell ⟨w.heap.size, 3, none⟩ (.int .i64 (t : Int))).setCell ⟨w.heap.size, 4, none⟩ (.int .i64 (m : Int))).setCell ⟨w.heap.size, 5, none⟩ (.int .i64 (f : Int))).setCell ⟨w.heap.size, 6, none⟩ (.bool b1)) = wF at *
  have c0 := HF.out.cell 0 (by simp) (v := .int .i64 (k : Int)) rfl
  have c1 := HF.out.cell 1 (by simp) (v := .int .i64 (y : Int)) rfl
  have c2 := HF.out.cell 2 (by simp) (v := .int .i64 (c : Int)) rfl
  have c3 := HF.out.cell 3 (by simp) (v := .int .i64 (t : Int)) rfl
  have c4 := HF.out.cell 4 (by simp) (v := .int .i64 (m : Int)) rfl
  have c5 := HF.out.cell 5 (by simp) (v := .int .i64 (f : Int)) rfl
  have c6 := HF.out.cell 6 (by simp) (v := .bool b1) rfl
  refine bodyPost_ret (v := evV k y c t m f b1) ?_ rfl ⟨by rw [HB1.out], HF.out.turn⟩
  simp [results, Tryz.results21, go_sem, c0, c1, c2, c3, c4, c5, c6]
set_option maxHeartbeats 4000000 in
theorem event_first (B b off : Nat) (L : List UInt8) (cap : Nat) (w : World) (u : TypeId) (pv : Value) (hv : w.cell? ⟨0, 0, none⟩ = some (.iface u pv)) (hgB : 0 ≠ B) (hr : Rd w B (some ⟨b, off, none⟩) L cap (0 : Nat)) (hB : b ≠ B) (hBl : B < w.heap.size) (hbl : b < w.heap.size) (hc : Cells w (some ⟨b, off, none⟩) (bys L)) (hcap : L.length ≤ cap) (hcm : cap ≤ 9223372036854775807) (h22 : L.length = 22) (z k y c t m f q : Nat) (ez : numL (cut L 0 1) = z) (ek : numL (cut L 1 1) = k) (ey : numL (cut L 2 3) = y) (ec : numL (cut L 5 1) = c) (et : numL (cut L 6 1) = t) (em : numL (cut L 7 7) = m) (ef : numL (cut L 14 7) = f) (eq : numL (cut L 21 1) = q) (hz : z ≠ 69) :
    Calls Tryz.prog 21 #[.pointer (some ⟨B, 0, none⟩)] w fun e w' => e = .panicked [{ v := .iface u pv, recovered := false }] ∧ Turn [B] w w' := by
  have hb := born_alloc w #[.int .i64 0, .int .i64 0, .int .i64 0, .int .i64 0, .int .i64 0, .int .i64 0, .bool false] 24
  dsimp only at hb
  have hk := Keeps.alloc (Keeps.refl w) (.cells #[.int .i64 0, .int .i64 0, .int .i64 0, .int .i64 0, .int .i64 0, .int .i64 0, .bool false] 24)
  have HG := hide (fun (w' : World) (ht : Turn [B] w w') => ht.cell (p := ⟨0, 0, none⟩) (by simpa using hgB) hv)
  have HS : Hid (RS w (w.alloc (.cells #[.int .i64 0, .int .i64 0, .int .i64 0, .int .i64 0, .int .i64 0, .int .i64 0, .bool false] 24)) B b off L cap 0 w.heap.size [.int .i64 0, .int .i64 0, .int .i64 0, .int .i64 0, .int .i64 0, .int .i64 0, .bool false]) :=
    ⟨⟨hk.cell hr.data, hk.cell hr.place, by rw [hk.oldF _ _ hBl]; exact hr.free⟩, hc.kept hk, hb.toOwn, Turn.of_keeps hk [B], Nat.le_refl _, hBl, hbl, hB⟩
  have HCap := hide hcap
  have HCm := hide hcm
  clear hb hk hv hr hc hgB hcap hcm
  have hn : ((L.length : Int) == 22) = true := by rw [h22]; rfl
  have HL : Hid (L.length ≤ 16777216) := by show _ ≤ _; omega
  have HP : Hid (∀ p s : Nat, p + s ≤ 22 → p + s ≤ L.length) := fun p s h => by omega
  have d0 := HS.out.rd.data
  have Nz := hide ez
  have Nk := hide ek
  have Ny := hide ey
  have Nc := hide ec
  have Nt := hide et
  have Nm := hide em
  have Nf := hide ef
  have Nq := hide eq
  clear h22 ez ek ey ec et em ef eq
  have hz2 : ((z : Int) == 69) = false := beq_eq_false_iff_ne.2 (by omega)
  clear hz
  go_enter Tryz.func21, Tryz.ntmps21
  go_wp2_with fail
  go_at_call 33
  refine (number_t B b off L cap 0 1 z Nz.out _ HS.out.rd hB HS.out.cells HL.out HCap.out HCm.out (by decide) (by decide) (HP.out 0 1 (by decide))).mono ?_
  rintro e w1 ⟨rfl, hr1, ht1⟩
  replace HS := hide (HS.out.num hr1 ht1)
  have hz12 : w.heap.size < w1.heap.size := by have := ht1.size; simp at this; omega
  clear hr1 ht1 d0
  simp only [Nat.zero_add] at HS
  go_wp2_with fail
  go_at_call 32
  refine (insist_no _ u pv (HG.out _ HS.out.turn)).mono ?_
  rintro e w' ⟨rfl, rfl⟩
  exact ⟨rfl, rfl, HS.out.turn⟩
set_option maxHeartbeats 4000000 in
theorem event_last (B b off : Nat) (L : List UInt8) (cap : Nat) (w : World) (u : TypeId) (pv : Value) (hv : w.cell? ⟨0, 0, none⟩ = some (.iface u pv)) (hgB : 0 ≠ B) (hr : Rd w B (some ⟨b, off, none⟩) L cap (0 : Nat)) (hB : b ≠ B) (hBl : B < w.heap.size) (hbl : b < w.heap.size) (hc : Cells w (some ⟨b, off, none⟩) (bys L)) (hcap : L.length ≤ cap) (hcm : cap ≤ 9223372036854775807) (h22 : L.length = 22) (z k y c t m f q : Nat) (ez : numL (cut L 0 1) = z) (ek : numL (cut L 1 1) = k) (ey : numL (cut L 2 3) = y) (ec : numL (cut L 5 1) = c) (et : numL (cut L 6 1) = t) (em : numL (cut L 7 7) = m) (ef : numL (cut L 14 7) = f) (eq : numL (cut L 21 1) = q) (hz : z = 69) (hq : ¬ q ≤ 1) :
    Calls Tryz.prog 21 #[.pointer (some ⟨B, 0, none⟩)] w fun e w' => e = .panicked [{ v := .iface u pv, recovered := false }] ∧ Turn [B] w w' := by
  have hb := born_alloc w #[.int .i64 0, .int .i64 0, .int .i64 0, .int .i64 0, .int .i64 0, .int .i64 0, .bool false] 24
  dsimp only at hb
  have hk := Keeps.alloc (Keeps.refl w) (.cells #[.int .i64 0, .int .i64 0, .int .i64 0, .int .i64 0, .int .i64 0, .int .i64 0, .bool false] 24)
  have HG := hide (fun (w' : World) (ht : Turn [B] w w') => ht.cell (p := ⟨0, 0, none⟩) (by simpa using hgB) hv)
  have HS : Hid (RS w (w.alloc (.cells #[.int .i64 0, .int .i64 0, .int .i64 0, .int .i64 0, .int .i64 0, .int .i64 0, .bool false] 24)) B b off L cap 0 w.heap.size [.int .i64 0, .int .i64 0, .int .i64 0, .int .i64 0, .int .i64 0, .int .i64 0, .bool false]) :=
    ⟨⟨hk.cell hr.data, hk.cell hr.place, by rw [hk.oldF _ _ hBl]; exact hr.free⟩, hc.kept hk, hb.toOwn, Turn.of_keeps hk [B], Nat.le_refl _, hBl, hbl, hB⟩
  have HCap := hide hcap
  have HCm := hide hcm
  clear hb hk hv hr hc hgB hcap hcm
  have hn : ((L.length : Int) == 22) = true := by rw [h22]; rfl
  have HL : Hid (L.length ≤ 16777216) := by show _ ≤ _; omega
  have HP : Hid (∀ p s : Nat, p + s ≤ 22 → p + s ≤ L.length) := fun p s h => by omega
  have d0 := HS.out.rd.data
  have Nz := hide ez
  have Nk := hide ek
  have Ny := hide ey
  have Nc := hide ec
  have Nt := hide et
  have Nm := hide em
  have Nf := hide ef
  have Nq := hide eq
  clear h22 ez ek ey ec et em ef eq
  have hz2 : ((z : Int) == 69) = true := by rw [hz]; rfl
  clear hz
  go_enter Tryz.func21, Tryz.ntmps21
  go_wp2_with fail
  go_at_call 33
  refine (number_t B b off L cap 0 1 z Nz.out _ HS.out.rd hB HS.out.cells HL.out HCap.out HCm.out (by decide) (by decide) (HP.out 0 1 (by decide))).mono ?_
  rintro e w1 ⟨rfl, hr1, ht1⟩
  replace HS := hide (HS.out.num hr1 ht1)
  have hz12 : w.heap.size < w1.heap.size := by have := ht1.size; simp at this; omega
  clear hr1 ht1 d0
  simp only [Nat.zero_add] at HS
  go_wp2_with fail
  go_at_call 32
  refine (insist_yes _).mono ?_
  rintro e w' ⟨rfl, hw'⟩
  obtain rfl := Eq.symm hw'
  clear hw'
  have hbV := born_alloc w1 #[.int .i64 0, .int .i64 0, .int .i64 0, .int .i64 0, .int .i64 0, .int .i64 0, .bool false] 24
  dsimp only at hbV
  have hkV := Keeps.alloc (Keeps.refl w1) (.cells #[.int .i64 0, .int .i64 0, .int .i64 0, .int .i64 0, .int .i64 0, .int .i64 0, .bool false] 24)
  have HT : Hid (RS w (w1.alloc (.cells #[.int .i64 0, .int .i64 0, .int .i64 0, .int .i64 0, .int .i64 0, .int .i64 0, .bool false] 24)) B b off L cap 1 w1.heap.size [.int .i64 0, .int .i64 0, .int .i64 0, .int .i64 0, .int .i64 0, .int .i64 0, .bool false]) :=
    ⟨(HS.out.kept hkV).rd, (HS.out.kept hkV).cells, hbV.toOwn, (HS.out.kept hkV).turn, Nat.le_trans (Nat.le_of_lt hz12) (Nat.le_refl _), HS.out.oldB, HS.out.oldb, HS.out.ne⟩
  replace HS := hide (HS.out.kept hkV)
  clear hbV hkV
  go_wp2_with fail
  generalize w1.alloc (.cells #[.int .i64 0, .int .i64 0, .int .i64 0, .int .i64 0, .int .i64 0, .int .i64 0, .bool false] 24) = w2 at *
  generalize hV : w1.heap.size = V at *
  clear hV w1
  go_at_call 33
  refine (number_t B b off L cap 1 1 k Nk.out _ HS.out.rd hB HS.out.cells HL.out HCap.out HCm.out (by decide) (by decide) (HP.out 1 1 (by decide))).mono ?_
  rintro e w3 ⟨rfl, hr1, ht1⟩
  replace HS := hide (HS.out.num hr1 ht1)
  replace HT := hide (HT.out.num hr1 ht1)
  clear hr1 ht1
  simp only [Nat.reduceAdd] at HS HT
  have cV := HT.out.cell 0 (by simp) (v := .int .i64 0) rfl
  have fV := HT.out.free (by simp) 0
  replace HT := hide (HT.out.set 0 (by simp) (.int .i64 (k : Int)) (ys := [.int .i64 (k : Int), .int .i64 0, .int .i64 0, .int .i64 0, .int .i64 0, .int .i64 0, .bool false]) rfl)
  replace HS := hide (HS.out.other (V' := V) (i := 0) (Nat.ne_of_gt hz12) (Nat.le_of_lt hz12) (.int .i64 (k : Int)))
  go_wp2_with fail
  clear cV fV
  generalize w3.setCell ⟨V, 0, none⟩ (.int .i64 (k : Int)) = w4 at *
  clear w2 w3
  go_at_call 33
  refine (number_t B b off L cap 2 3 y Ny.out _ HS.out.rd hB HS.out.cells HL.out HCap.out HCm.out (by decide) (by decide) (HP.out 2 3 (by decide))).mono ?_
  rintro e w5 ⟨rfl, hr1, ht1⟩
  replace HS := hide (HS.out.num hr1 ht1)
  replace HT := hide (HT.out.num hr1 ht1)
  clear hr1 ht1
  simp only [Nat.reduceAdd] at HS HT
  have cV := HT.out.cell 1 (by simp) (v := .int .i64 0) rfl
  have fV := HT.out.free (by simp) 1
  replace HT := hide (HT.out.set 1 (by simp) (.int .i64 (y : Int)) (ys := [.int .i64 (k : Int), .int .i64 (y : Int), .int .i64 0, .int .i64 0, .int .i64 0, .int .i64 0, .bool false]) rfl)
  replace HS := hide (HS.out.other (V' := V) (i := 1) (Nat.ne_of_gt hz12) (Nat.le_of_lt hz12) (.int .i64 (y : Int)))
  go_wp2_with fail
  clear cV fV
  generalize w5.setCell ⟨V, 1, none⟩ (.int .i64 (y : Int)) = w6 at *
  clear w4 w5
  go_at_call 33
  refine (number_t B b off L cap 5 1 c Nc.out _ HS.out.rd hB HS.out.cells HL.out HCap.out HCm.out (by decide) (by decide) (HP.out 5 1 (by decide))).mono ?_
  rintro e w7 ⟨rfl, hr1, ht1⟩
  replace HS := hide (HS.out.num hr1 ht1)
  replace HT := hide (HT.out.num hr1 ht1)
  clear hr1 ht1
  simp only [Nat.reduceAdd] at HS HT
  have cV := HT.out.cell 2 (by simp) (v := .int .i64 0) rfl
  have fV := HT.out.free (by simp) 2
  replace HT := hide (HT.out.set 2 (by simp) (.int .i64 (c : Int)) (ys := [.int .i64 (k : Int), .int .i64 (y : Int), .int .i64 (c : Int), .int .i64 0, .int .i64 0, .int .i64 0, .bool false]) rfl)
  replace HS := hide (HS.out.other (V' := V) (i := 2) (Nat.ne_of_gt hz12) (Nat.le_of_lt hz12) (.int .i64 (c : Int)))
  go_wp2_with fail
  clear cV fV
  generalize w7.setCell ⟨V, 2, none⟩ (.int .i64 (c : Int)) = w8 at *
  clear w6 w7
  go_at_call 33
  refine (number_t B b off L cap 6 1 t Nt.out _ HS.out.rd hB HS.out.cells HL.out HCap.out HCm.out (by decide) (by decide) (HP.out 6 1 (by decide))).mono ?_
  rintro e w9 ⟨rfl, hr1, ht1⟩
  replace HS := hide (HS.out.num hr1 ht1)
  replace HT := hide (HT.out.num hr1 ht1)
  clear hr1 ht1
  simp only [Nat.reduceAdd] at HS HT
  have cV := HT.out.cell 3 (by simp) (v := .int .i64 0) rfl
  have fV := HT.out.free (by simp) 3
  replace HT := hide (HT.out.set 3 (by simp) (.int .i64 (t : Int)) (ys := [.int .i64 (k : Int), .int .i64 (y : Int), .int .i64 (c : Int), .int .i64 (t : Int), .int .i64 0, .int .i64 0, .bool false]) rfl)
  replace HS := hide (HS.out.other (V' := V) (i := 3) (Nat.ne_of_gt hz12) (Nat.le_of_lt hz12) (.int .i64 (t : Int)))
  go_wp2_with fail
  clear cV fV
  generalize w9.setCell ⟨V, 3, none⟩ (.int .i64 (t : Int)) = w10 at *
  clear w8 w9
  go_at_call 33
  refine (number_t B b off L cap 7 7 m Nm.out _ HS.out.rd hB HS.out.cells HL.out HCap.out HCm.out (by decide) (by decide) (HP.out 7 7 (by decide))).mono ?_
  rintro e w11 ⟨rfl, hr1, ht1⟩
  replace HS := hide (HS.out.num hr1 ht1)
  replace HT := hide (HT.out.num hr1 ht1)
  clear hr1 ht1
  simp only [Nat.reduceAdd] at HS HT
  have cV := HT.out.cell 4 (by simp) (v := .int .i64 0) rfl
  have fV := HT.out.free (by simp) 4
  replace HT := hide (HT.out.set 4 (by simp) (.int .i64 (m : Int)) (ys := [.int .i64 (k : Int), .int .i64 (y : Int), .int .i64 (c : Int), .int .i64 (t : Int), .int .i64 (m : Int), .int .i64 0, .bool false]) rfl)
  replace HS := hide (HS.out.other (V' := V) (i := 4) (Nat.ne_of_gt hz12) (Nat.le_of_lt hz12) (.int .i64 (m : Int)))
  go_wp2_with fail
  clear cV fV
  generalize w11.setCell ⟨V, 4, none⟩ (.int .i64 (m : Int)) = w12 at *
  clear w10 w11
  go_at_call 33
  refine (number_t B b off L cap 14 7 f Nf.out _ HS.out.rd hB HS.out.cells HL.out HCap.out HCm.out (by decide) (by decide) (HP.out 14 7 (by decide))).mono ?_
  rintro e w13 ⟨rfl, hr1, ht1⟩
  replace HS := hide (HS.out.num hr1 ht1)
  replace HT := hide (HT.out.num hr1 ht1)
  clear hr1 ht1
  simp only [Nat.reduceAdd] at HS HT
  have cV := HT.out.cell 5 (by simp) (v := .int .i64 0) rfl
  have fV := HT.out.free (by simp) 5
  replace HT := hide (HT.out.set 5 (by simp) (.int .i64 (f : Int)) (ys := [.int .i64 (k : Int), .int .i64 (y : Int), .int .i64 (c : Int), .int .i64 (t : Int), .int .i64 (m : Int), .int .i64 (f : Int), .bool false]) rfl)
  replace HS := hide (HS.out.other (V' := V) (i := 5) (Nat.ne_of_gt hz12) (Nat.le_of_lt hz12) (.int .i64 (f : Int)))
  go_wp2_with fail
  clear cV fV
  generalize w13.setCell ⟨V, 5, none⟩ (.int .i64 (f : Int)) = w14 at *
  clear w12 w13
  go_at_call 33
  refine (number_t B b off L cap 21 1 q Nq.out _ HS.out.rd hB HS.out.cells HL.out HCap.out HCm.out (by decide) (by decide) (HP.out 21 1 (by decide))).mono ?_
  rintro e w15 ⟨rfl, hr1, ht1⟩
  replace HS := hide (HS.out.num hr1 ht1)
  replace HT := hide (HT.out.num hr1 ht1)
  clear hr1 ht1
  simp only [Nat.reduceAdd] at HS HT
  have hq2 : decide ((q : Int) ≤ 1) = false := decide_eq_false (by omega)
  clear hq
  go_wp2_with fail
  go_at_call 32
  refine (insist_no _ u pv (HG.out _ HS.out.turn)).mono ?_
  rintro e w' ⟨rfl, rfl⟩
  exact ⟨rfl, rfl, HS.out.turn⟩
set_option maxHeartbeats 4000000 in
theorem event_bad (B b off : Nat) (L : List UInt8) (cap : Nat) (w : World) (u : TypeId) (pv : Value) (hv : w.cell? ⟨0, 0, none⟩ = some (.iface u pv)) (hgB : 0 ≠ B) (hr : Rd w B (some ⟨b, off, none⟩) L cap (0 : Nat)) (hB : b ≠ B) (hBl : B < w.heap.size) (hbl : b < w.heap.size) (hc : Cells w (some ⟨b, off, none⟩) (bys L)) (hcap : L.length ≤ cap) (hcm : cap ≤ 9223372036854775807) (h22 : L.length = 22) (z k y c t m f q : Nat) (ez : numL (cut L 0 1) = z) (ek : numL (cut L 1 1) = k) (ey : numL (cut L 2 3) = y) (ec : numL (cut L 5 1) = c) (et : numL (cut L 6 1) = t) (em : numL (cut L 7 7) = m) (ef : numL (cut L 14 7) = f) (eq : numL (cut L 21 1) = q) (hz : z = 69) (hq : q ≤ 1) (hev : evB k y c t m f (decide (q = 1)) = false) :
    Calls Tryz.prog 21 #[.pointer (some ⟨B, 0, none⟩)] w fun e w' => e = .panicked [{ v := .iface u pv, recovered := false }] ∧ Turn [B] w w' := by
  have hb := born_alloc w #[.int .i64 0, .int .i64 0, .int .i64 0, .int .i64 0, .int .i64 0, .int .i64 0, .bool false] 24
  dsimp only at hb
  have hk := Keeps.alloc (Keeps.refl w) (.cells #[.int .i64 0, .int .i64 0, .int .i64 0, .int .i64 0, .int .i64 0, .int .i64 0, .bool false] 24)
  have HG := hide (fun (w' : World) (ht : Turn [B] w w') => ht.cell (p := ⟨0, 0, none⟩) (by simpa using hgB) hv)
  have HS : Hid (RS w (w.alloc (.cells #[.int .i64 0, .int .i64 0, .int .i64 0, .int .i64 0, .int .i64 0, .int .i64 0, .bool false] 24)) B b off L cap 0 w.heap.size [.int .i64 0, .int .i64 0, .int .i64 0, .int .i64 0, .int .i64 0, .int .i64 0, .bool false]) :=
    ⟨⟨hk.cell hr.data, hk.cell hr.place, by rw [hk.oldF _ _ hBl]; exact hr.free⟩, hc.kept hk, hb.toOwn, Turn.of_keeps hk [B], Nat.le_refl _, hBl, hbl, hB⟩
  have HCap := hide hcap
  have HCm := hide hcm
  clear hb hk hv hr hc hgB hcap hcm
  have hn : ((L.length : Int) == 22) = true := by rw [h22]; rfl
  have HL : Hid (L.length ≤ 16777216) := by show _ ≤ _; omega
  have HP : Hid (∀ p s : Nat, p + s ≤ 22 → p + s ≤ L.length) := fun p s h => by omega
  have d0 := HS.out.rd.data
  have Nz := hide ez
  have Nk := hide ek
  have Ny := hide ey
  have Nc := hide ec
  have Nt := hide et
  have Nm := hide em
  have Nf := hide ef
  have Nq := hide eq
  have HEV := hide hev
  clear hev
  clear h22 ez ek ey ec et em ef eq
  have hz2 : ((z : Int) == 69) = true := by rw [hz]; rfl
  clear hz
  go_enter Tryz.func21, Tryz.ntmps21
  go_wp2_with fail
  go_at_call 33
  refine (number_t B b off L cap 0 1 z Nz.out _ HS.out.rd hB HS.out.cells HL.out HCap.out HCm.out (by decide) (by decide) (HP.out 0 1 (by decide))).mono ?_
  rintro e w1 ⟨rfl, hr1, ht1⟩
  replace HS := hide (HS.out.num hr1 ht1)
  have hz12 : w.heap.size < w1.heap.size := by have := ht1.size; simp at this; omega
  clear hr1 ht1 d0
  simp only [Nat.zero_add] at HS
  go_wp2_with fail
  go_at_call 32
  refine (insist_yes _).mono ?_
  rintro e w' ⟨rfl, hw'⟩
  obtain rfl := Eq.symm hw'
  clear hw'
  have hbV := born_alloc w1 #[.int .i64 0, .int .i64 0, .int .i64 0, .int .i64 0, .int .i64 0, .int .i64 0, .bool false] 24
  dsimp only at hbV
  have hkV := Keeps.alloc (Keeps.refl w1) (.cells #[.int .i64 0, .int .i64 0, .int .i64 0, .int .i64 0, .int .i64 0, .int .i64 0, .bool false] 24)
  have HT : Hid (RS w (w1.alloc (.cells #[.int .i64 0, .int .i64 0, .int .i64 0, .int .i64 0, .int .i64 0, .int .i64 0, .bool false] 24)) B b off L cap 1 w1.heap.size [.int .i64 0, .int .i64 0, .int .i64 0, .int .i64 0, .int .i64 0, .int .i64 0, .bool false]) :=
    ⟨(HS.out.kept hkV).rd, (HS.out.kept hkV).cells, hbV.toOwn, (HS.out.kept hkV).turn, Nat.le_trans (Nat.le_of_lt hz12) (Nat.le_refl _), HS.out.oldB, HS.out.oldb, HS.out.ne⟩
  replace HS := hide (HS.out.kept hkV)
  clear hbV hkV
  go_wp2_with fail
  generalize w1.alloc (.cells #[.int .i64 0, .int .i64 0, .int .i64 0, .int .i64 0, .int .i64 0, .int .i64 0, .bool false] 24) = w2 at *
  generalize hV : w1.heap.size = V at *
  clear hV w1
  go_at_call 33
  refine (number_t B b off L cap 1 1 k Nk.out _ HS.out.rd hB HS.out.cells HL.out HCap.out HCm.out (by decide) (by decide) (HP.out 1 1 (by decide))).mono ?_
  rintro e w3 ⟨rfl, hr1, ht1⟩
  replace HS := hide (HS.out.num hr1 ht1)
  replace HT := hide (HT.out.num hr1 ht1)
  clear hr1 ht1
  simp only [Nat.reduceAdd] at HS HT
  have cV := HT.out.cell 0 (by simp) (v := .int .i64 0) rfl
  have fV := HT.out.free (by simp) 0
  replace HT := hide (HT.out.set 0 (by simp) (.int .i64 (k : Int)) (ys := [.int .i64 (k : Int), .int .i64 0, .int .i64 0, .int .i64 0, .int .i64 0, .int .i64 0, .bool false]) rfl)
  replace HS := hide (HS.out.other (V' := V) (i := 0) (Nat.ne_of_gt hz12) (Nat.le_of_lt hz12) (.int .i64 (k : Int)))
  go_wp2_with fail
  clear cV fV
  generalize w3.setCell ⟨V, 0, none⟩ (.int .i64 (k : Int)) = w4 at *
  clear w2 w3
  go_at_call 33
  refine (number_t B b off L cap 2 3 y Ny.out _ HS.out.rd hB HS.out.cells HL.out HCap.out HCm.out (by decide) (by decide) (HP.out 2 3 (by decide))).mono ?_
  rintro e w5 ⟨rfl, hr1, ht1⟩
  replace HS := hide (HS.out.num hr1 ht1)
  replace HT := hide (HT.out.num hr1 ht1)
  clear hr1 ht1
  simp only [Nat.reduceAdd] at HS HT
  have cV := HT.out.cell 1 (by simp) (v := .int .i64 0) rfl
  have fV := HT.out.free (by simp) 1
  replace HT := hide (HT.out.set 1 (by simp) (.int .i64 (y : Int)) (ys := [.int .i64 (k : Int), .int .i64 (y : Int), .int .i64 0, .int .i64 0, .int .i64 0, .int .i64 0, .bool false]) rfl)
  replace HS := hide (HS.out.other (V' := V) (i := 1) (Nat.ne_of_gt hz12) (Nat.le_of_lt hz12) (.int .i64 (y : Int)))
  go_wp2_with fail
  clear cV fV
  generalize w5.setCell ⟨V, 1, none⟩ (.int .i64 (y : Int)) = w6 at *
  clear w4 w5
  go_at_call 33
  refine (number_t B b off L cap 5 1 c Nc.out _ HS.out.rd hB HS.out.cells HL.out HCap.out HCm.out (by decide) (by decide) (HP.out 5 1 (by decide))).mono ?_
  rintro e w7 ⟨rfl, hr1, ht1⟩
  replace HS := hide (HS.out.num hr1 ht1)
  replace HT := hide (HT.out.num hr1 ht1)
  clear hr1 ht1
  simp only [Nat.reduceAdd] at HS HT
  have cV := HT.out.cell 2 (by simp) (v := .int .i64 0) rfl
  have fV := HT.out.free (by simp) 2
  replace HT := hide (HT.out.set 2 (by simp) (.int .i64 (c : Int)) (ys := [.int .i64 (k : Int), .int .i64 (y : Int), .int .i64 (c : Int), .int .i64 0, .int .i64 0, .int .i64 0, .bool false]) rfl)
  replace HS := hide (HS.out.other (V' := V) (i := 2) (Nat.ne_of_gt hz12) (Nat.le_of_lt hz12) (.int .i64 (c : Int)))
  go_wp2_with fail
  clear cV fV
  generalize w7.setCell ⟨V, 2, none⟩ (.int .i64 (c : Int)) = w8 at *
  clear w6 w7
  go_at_call 33
  refine (number_t B b off L cap 6 1 t Nt.out _ HS.out.rd hB HS.out.cells HL.out HCap.out HCm.out (by decide) (by decide) (HP.out 6 1 (by decide))).mono ?_
  rintro e w9 ⟨rfl, hr1, ht1⟩
  replace HS := hide (HS.out.num hr1 ht1)
  replace HT := hide (HT.out.num hr1 ht1)
  clear hr1 ht1
  simp only [Nat.reduceAdd] at HS HT
  have cV := HT.out.cell 3 (by simp) (v := .int .i64 0) rfl
  have fV := HT.out.free (by simp) 3
  replace HT := hide (HT.out.set 3 (by simp) (.int .i64 (t : Int)) (ys := [.int .i64 (k : Int), .int .i64 (y : Int), .int .i64 (c : Int), .int .i64 (t : Int), .int .i64 0, .int .i64 0, .bool false]) rfl)
  replace HS := hide (HS.out.other (V' := V) (i := 3) (Nat.ne_of_gt hz12) (Nat.le_of_lt hz12) (.int .i64 (t : Int)))
  go_wp2_with fail
  clear cV fV
  generalize w9.setCell ⟨V, 3, none⟩ (.int .i64 (t : Int)) = w10 at *
  clear w8 w9
  go_at_call 33
  refine (number_t B b off L cap 7 7 m Nm.out _ HS.out.rd hB HS.out.cells HL.out HCap.out HCm.out (by decide) (by decide) (HP.out 7 7 (by decide))).mono ?_
  rintro e w11 ⟨rfl, hr1, ht1⟩
  replace HS := hide (HS.out.num hr1 ht1)
  replace HT := hide (HT.out.num hr1 ht1)
  clear hr1 ht1
  simp only [Nat.reduceAdd] at HS HT
  have cV := HT.out.cell 4 (by simp) (v := .int .i64 0) rfl
  have fV := HT.out.free (by simp) 4
  replace HT := hide (HT.out.set 4 (by simp) (.int .i64 (m : Int)) (ys := [.int .i64 (k : Int), .int .i64 (y : Int), .int .i64 (c : Int), .int .i64 (t : Int), .int .i64 (m : Int), .int .i64 0, .bool false]) rfl)
  replace HS := hide (HS.out.other (V' := V) (i := 4) (Nat.ne_of_gt hz12) (Nat.le_of_lt hz12) (.int .i64 (m : Int)))
  go_wp2_with fail
  clear cV fV
  generalize w11.setCell ⟨V, 4, none⟩ (.int .i64 (m : Int)) = w12 at *
  clear w10 w11
  go_at_call 33
  refine (number_t B b off L cap 14 7 f Nf.out _ HS.out.rd hB HS.out.cells HL.out HCap.out HCm.out (by decide) (by decide) (HP.out 14 7 (by decide))).mono ?_
  rintro e w13 ⟨rfl, hr1, ht1⟩
  replace HS := hide (HS.out.num hr1 ht1)
  replace HT := hide (HT.out.num hr1 ht1)
  clear hr1 ht1
  simp only [Nat.reduceAdd] at HS HT
  have cV := HT.out.cell 5 (by simp) (v := .int .i64 0) rfl
  have fV := HT.out.free (by simp) 5
  replace HT := hide (HT.out.set 5 (by simp) (.int .i64 (f : Int)) (ys := [.int .i64 (k : Int), .int .i64 (y : Int), .int .i64 (c : Int), .int .i64 (t : Int), .int .i64 (m : Int), .int .i64 (f : Int), .bool false]) rfl)
  replace HS := hide (HS.out.other (V' := V) (i := 5) (Nat.ne_of_gt hz12) (Nat.le_of_lt hz12) (.int .i64 (f : Int)))
  go_wp2_with fail
  clear cV fV
  generalize w13.setCell ⟨V, 5, none⟩ (.int .i64 (f : Int)) = w14 at *
  clear w12 w13
  go_at_call 33
  refine (number_t B b off L cap 21 1 q Nq.out _ HS.out.rd hB HS.out.cells HL.out HCap.out HCm.out (by decide) (by decide) (HP.out 21 1 (by decide))).mono ?_
  rintro e w15 ⟨rfl, hr1, ht1⟩
  replace HS := hide (HS.out.num hr1 ht1)
  replace HT := hide (HT.out.num hr1 ht1)
  clear hr1 ht1
  simp only [Nat.reduceAdd] at HS HT
  have hq2 : (q : Int) ≤ 1 := by omega
  clear hq
  go_wp2_with fail
  go_at_call 32
  refine (insist_yes _).mono ?_
  rintro e w' ⟨rfl, hw'⟩
  obtain rfl := Eq.symm hw'
  clear hw'
  have hqb : ((q : Int) == 1) = decide (q = 1) := by rw [Bool.eq_iff_iff]; simp; omega
  generalize hb1 : decide (q = 1) = b1 at *
  have HB1 := hide hb1
  clear hb1
  have cV := HT.out.cell 6 (by simp) (v := .bool false) rfl
  have fV := HT.out.free (by simp) 6
  replace HT := hide (HT.out.set 6 (by simp) (.bool b1) (ys := [.int .i64 (k : Int), .int .i64 (y : Int), .int .i64 (c : Int), .int .i64 (t : Int), .int .i64 (m : Int), .int .i64 (f : Int), .bool b1]) rfl)
  replace HS := hide (HS.out.other (V' := V) (i := 6) (Nat.ne_of_gt hz12) (Nat.le_of_lt hz12) (.bool b1))
  have e0 := HT.out.cell 0 (by simp) (v := .int .i64 (k : Int)) rfl
  have e1 := HT.out.cell 1 (by simp) (v := .int .i64 (y : Int)) rfl
  have e2 := HT.out.cell 2 (by simp) (v := .int .i64 (c : Int)) rfl
  have e3 := HT.out.cell 3 (by simp) (v := .int .i64 (t : Int)) rfl
  have e4 := HT.out.cell 4 (by simp) (v := .int .i64 (m : Int)) rfl
  have e5 := HT.out.cell 5 (by simp) (v := .int .i64 (f : Int)) rfl
  have e6 := HT.out.cell 6 (by simp) (v := .bool b1) rfl
  go_wp2_with fail
  clear cV fV
  generalize w15.setCell ⟨V, 6, none⟩ (.bool b1) = w16 at *
  clear w14 w15
  go_at_call 15
  refine (evok_is k y c t m f b1 _ HEV.out _).mono ?_
  rintro e w17 ⟨rfl, hk⟩
  replace HS := hide (HS.out.kept hk)
  replace HT := hide (HT.out.kept hk)
  clear hk e0 e1 e2 e3 e4 e5 e6
  go_wp2_with fail
  go_at_call 32
  refine (insist_no _ u pv (HG.out _ HS.out.turn)).mono ?_
  rintro e w' ⟨rfl, rfl⟩
  exact ⟨rfl, rfl, HS.out.turn⟩
theorem event_len (B : Nat) (ad : Option Addr) (n cap : Nat) (w : World) (u : TypeId) (pv : Value) (hv : w.cell? ⟨0, 0, none⟩ = some (.iface u pv)) (hd : w.cell? ⟨B, 0, none⟩ = some (.slice ad n cap)) (hl : n ≤ 16777216) (h22 : n ≠ 22) :
    Calls Tryz.prog 21 #[.pointer (some ⟨B, 0, none⟩)] w fun e w' => e = .panicked [{ v := .iface u pv, recovered := false }] ∧ Turn [B] w w' := by
  have hn : ((n : Int) == 22) = false := beq_eq_false_iff_ne.2 (by omega)
  have hk := Keeps.alloc (Keeps.refl w) (.cells #[.int .i64 0, .int .i64 0, .int .i64 0, .int .i64 0, .int .i64 0, .int .i64 0, .bool false] 24)
  have d0 := hk.cell hd
  have HV := hide (hk.cell hv)
  have HK := hide hk
  clear h22 hk hd hv
  go_enter Tryz.func21, Tryz.ntmps21
  go_wp2_with fail
  go_at_call 32
  refine (insist_no _ u pv HV.out).mono ?_
  rintro e w' ⟨rfl, rfl⟩
  exact ⟨rfl, rfl, Turn.of_keeps HK.out _⟩
end Go.Proofs.YtpkkdkdecajekaaGreatDoor
