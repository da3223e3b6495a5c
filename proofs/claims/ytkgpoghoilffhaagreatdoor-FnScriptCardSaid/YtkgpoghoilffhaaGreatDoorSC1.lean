/- Texts of the verifier, joined: Keep, DrG, Pd, Open, Mem, Lst0. -/
import Derived.Test.YtkgpoghoilffhaaGreatDoorProg
import GoSem.Claim
import GoSem.ClaimJoined
import GoSem.ClaimMapViews
import Derived.JoinedTies
import Derived.KernelRfl
import Derived.WalkKit
import Derived.WalkSpells
import Derived.WalkSmall
import Derived.Deep.QuietTactic
import Derived.BigQuiet
import Derived.RowKit3
import Derived.Stop.LaidErr
import Derived.MakeChecks
import Derived.WalkLawsBesides
import Derived.Laws.OwnMore
import Derived.Maps.Range
import Derived.Deep.OwnRows
import Derived.OpenShut
import Derived.Deep.Slices
import Derived.ChangeSame
import Derived.WideShapes
import Derived.Below
import Derived.Deep.Strs
namespace Go.Proofs.YtkgpoghoilffhaaGreatDoor
open Go.RowKit Go.ChangeShapes

/-- What was there is as it was. -/
def Keeps (w w' : World) : Prop := Below w.heap.size w w'
theorem Keeps.refl (w : World) : Keeps w w := Below.refl _ _
theorem Keeps.trans {a b c : World} (h : Keeps a b) (k : Keeps b c) : Keeps a c := Below.trans h (Below.mono k h.size)
theorem Keeps.drewN {a b : World} (h : Keeps a b) (n : Nat) : Keeps a (b.drewN n) := below_drewN h n
theorem Keeps.cell {w w' : World} (h : Keeps w w') {p : Addr} {v : Value} (hc : w.cell? p = some v) : w'.cell? p = some v := by
  have hlt : p.block < w.heap.size := by
    rcases Nat.lt_or_ge p.block w.heap.size with h' | h'
    · exact h'
    · simp [World.cell?, Array.getElem?_eq_none h'] at hc
  rw [← hc]; exact Below.cell h hlt

theorem cell_of_var {W : World} {n : String} {g : Nat} {v : Value} (hg : Tryz.prog.globalNamed n = some g) (h : W.var? Tryz.prog n = some #[v]) : W.cell? ⟨g, 0, none⟩ = some v := by
  simpa using World.var?_cell hg h 0
theorem var_kept {W W' : World} (h : Keeps W W') {n : String} {cs : Array Value} (hv : W.var? Tryz.prog n = some cs) : W'.var? Tryz.prog n = some cs := by
  unfold World.var? at hv ⊢
  cases hg : Tryz.prog.globalNamed n with
  | none => simp [hg] at hv
  | some g =>
    simp only [hg, Option.bind_some] at hv ⊢
    have hlt : g < W.heap.size := by
      rcases Nat.lt_or_ge g W.heap.size with h' | h'
      · exact h'
      · simp [Array.getElem?_eq_none h'] at hv
    rw [Below.block h g hlt]; exact hv
theorem hide {p : Prop} (h : p) : Hid p := h
theorem unhide {p : Prop} (h : Hid p) : p := h
theorem Keeps.alloc {a b : World} (h : Keeps a b) (o : Obj) : Keeps a (b.alloc o) := Below.alloc h h.size o
theorem Keeps.setCell {a b : World} (h : Keeps a b) {p : Addr} (hp : a.heap.size ≤ p.block) (u : Value) : Keeps a (b.setCell p u) := Below.setCell h hp u
theorem Keeps.drew {a b : World} (h : Keeps a b) : Keeps a b.drew := Below.drew h
theorem Keeps.old {W w1 : World} (hb : Keeps W w1) : ∀ b o, b < W.heap.size → w1.cell? ⟨b, o, none⟩ = W.cell? ⟨b, o, none⟩ := fun b o h => Below.cell (p := ⟨b, o, none⟩) hb h
theorem lt_of_cell {w : World} {g o : Nat} {v : Value} (hg : w.cell? ⟨g, o, none⟩ = some v) : g < w.heap.size := by
  rcases Nat.lt_or_ge g w.heap.size with h' | h'
  · exact h'
  · simp [World.cell?, Array.getElem?_eq_none h'] at hg
theorem and_mask (x m : Int) (h0 : 0 ≤ m) (h1 : m < 9223372036854775808) : 0 ≤ bits .and .i64 x m ∧ bits .and .i64 x m ≤ m := by
  obtain ⟨n, rfl⟩ := Int.eq_ofNat_of_zero_le h0
  have h2 : (BitVec.ofInt 64 (n : Int)).toNat = n := by
    rw [BitVec.ofInt_natCast, BitVec.toNat_ofNat]; exact Nat.mod_eq_of_lt (by omega)
  have e : bits .and .i64 x (n : Int) = IntKind.i64.wrap ((BitVec.ofInt 64 x &&& BitVec.ofInt 64 (n : Int)).toNat : Int) := rfl
  rw [e, BitVec.toNat_and, h2]
  have h3 : (BitVec.ofInt 64 x).toNat &&& n ≤ n := Nat.and_le_right
  generalize (BitVec.ofInt 64 x).toNat &&& n = r at *
  simp [IntKind.wrap, IntKind.bits, IntKind.signed]
  omega

/-! A region that draws its order, whose operations only read and whose callees make new memory at most: walked once, in the order of the text. -/
abbrev Gt : Type := List (Option Obj)
def Gt.more (t : Gt) : Array Obj := (t.filterMap id).toArray
def Gt.count (t : Gt) : Nat := (t.filter Option.isNone).length
def gt (m : Array Obj) (d : Nat) : Gt := m.toList.map some ++ List.replicate d none
theorem gt_more (m : Array Obj) (d : Nat) : Gt.more (gt m d) = m := by
  simp [Gt.more, gt, List.filterMap_append, List.filterMap_map]
theorem gt_count (m : Array Obj) (d : Nat) : Gt.count (gt m d) = d := by
  simp [Gt.count, gt, List.filter_append, List.filter_map]
def gr (W : World) (t : Gt) : World := { W with heap := W.heap ++ Gt.more t, drawn := Gt.count t }
theorem gr_keeps (W : World) (t : Gt) : Keeps W (gr W t) :=
  ⟨rfl, rfl, rfl, by simp [gr], fun i hi => by
    show (W.heap ++ Gt.more t)[i]? = W.heap[i]?
    rw [Array.getElem?_append_left hi]⟩
theorem keeps_gr {W w' : World} (h : Keeps W w') : ∃ t, w' = gr W t := by
  refine ⟨gt (w'.heap.extract W.heap.size w'.heap.size) w'.drawn, ?_⟩
  have e : w'.heap = W.heap ++ w'.heap.extract W.heap.size w'.heap.size := by
    apply Array.ext_getElem?
    intro i
    by_cases hi : i < W.heap.size
    · rw [Array.getElem?_append_left hi]; exact h.block i hi
    · rw [Array.getElem?_append_right (by omega), Array.getElem?_extract]
      by_cases hj : i < w'.heap.size
      · rw [if_pos (by omega)]; congr 1; omega
      · rw [if_neg (by omega), Array.getElem?_eq_none (by omega)]
  have h1 := h.os; have h2 := h.tape; have h3 := h.output
  cases w' with
  | mk heap tape drawn os output =>
    simp only at e h1 h2 h3
    unfold gr
    simp only [gt_more, gt_count, ← h1, ← h2, ← h3, ← e]
theorem gr_gr {W w' : World} {t : Gt} (h : Keeps (gr W t) w') : ∃ t, w' = gr W t := keeps_gr ((gr_keeps W t).trans h)
theorem gr_cell {W : World} {p : Addr} {v : Value} (h : W.cell? p = some v) (t : Gt) : (gr W t).cell? p = some v := (gr_keeps W t).cell h
theorem Keeps.of_gr {W w' : World} (h : ∃ t, w' = gr W t) : Keeps W w' := by
  obtain ⟨t, rfl⟩ := h
  exact gr_keeps W t
theorem gr_call {P : Program} {f : FuncId} {args : Array Value} {W : World} {t : Gt} {v : Value}
    (h : Calls P f args (gr W t) fun e w' => e = .returned v ∧ Keeps (gr W t) w') : Calls P f args (gr W t) fun e w'' => e = .returned v ∧ ∃ t, w'' = gr W t :=
  h.mono fun _ _ ⟨he, hk⟩ => ⟨he, gr_gr hk⟩
theorem region_gr {P : Program} {id : Nat} {Q : Exit → Act → World → Prop} {a : Act} {w : World} {l : List Oper} (hm : P.follows .mixedOrders = true) (hB : Region.lexB .any l.toArray = true)
    (h : wpQuiet P l.toArray (fun w' => ∃ t, w' = gr w t) (fun a' => ∀ w', (∃ t, w' = gr w t) → Q .normal a' w') l a) : (Code.region id l.toArray true).wp P Q a w :=
  wp_region_quiet (C := fun w' => ∃ t, w' = gr w t) hm hB ⟨gt #[] (w.drawn + 1), by simp [gr, gt_more, gt_count]⟩ (by simpa using h)

/-- Is it an amount? -/
def amtB (n : Int) : Bool := decide (0 ≤ n) && decide (n ≤ 1125899906842624)
theorem amtB_yes {n : Int} (h : 0 ≤ n) (h' : n ≤ 1125899906842624) : amtB n = true := by simp [amtB]; omega
theorem amtB_no {n : Int} (h : n < 0 ∨ 1125899906842624 < n) : amtB n = false := by simp [amtB]; omega
theorem ret_b {b b' : Bool} (h : b = b') : Ending.returned (.bool b) = .returned (.bool b') := by rw [h]
end Go.Proofs.YtkgpoghoilffhaaGreatDoor
namespace Go.Proofs.YtkgpoghoilffhaaGreatDoor
open Go.RowKit
set_option linter.unusedVariables false

def RowAt (B0 : Nat) (w : World) (a : Option Addr) (len : Nat) : Prop := ∀ j, j < len → ∃ b off n, a = some ⟨b, off, none⟩ ∧ b < B0 ∧ 0 ≤ n ∧ n ≤ 255 ∧ w.cell? ⟨b, off + j, none⟩ = some (.int .u8 n)
/-- The cursor of a draw: a block of three cells that the call has made. -/
def Cur (B0 : Nat) (w : World) (B : Nat) (a : Option Addr) (len cap : Nat) : Prop :=
  B0 ≤ B ∧ ∃ (i : Nat) (h : Int), i ≤ len ∧ w.cell? ⟨B, 0, none⟩ = some (.slice a len cap) ∧ w.cell? ⟨B, 1, none⟩ = some (.int .i64 (i : Int)) ∧ w.cell? ⟨B, 2, none⟩ = some (.int .i64 h) ∧ w.frozen? ⟨B, 1, none⟩ = false ∧ w.frozen? ⟨B, 2, none⟩ = false


theorem Cur.drewN {B0 B : Nat} {w : World} {a : Option Addr} {len cap : Nat} (h : Cur B0 w B a len cap) (n : Nat) : Cur B0 (w.drewN n) B a len cap := h

theorem RowAt.below {B0 : Nat} {w w' : World} {a : Option Addr} {len : Nat} (h : RowAt B0 w a len) (hb : Below B0 w w') : RowAt B0 w' a len := by
  intro j hj
  obtain ⟨b, off, n, e, hlt, n0, n1, hc⟩ := h j hj
  exact ⟨b, off, n, e, hlt, n0, n1, by rw [Below.cell hb (p := ⟨b, off + j, none⟩) hlt]; exact hc⟩

/-- While a law draws: the cursor, the bytes. -/
structure Dr (B0 B : Nat) (a : Option Addr) (len cap : Nat) (w : World) : Prop where
  cur : Cur B0 w B a len cap
  row : RowAt B0 w a len
  small : len ≤ 1048576
theorem grown_refl (w : World) (row : Option Nat) : w.grownBy w row := ⟨rfl, rfl, rfl, Nat.le_refl _, fun _ _ _ => rfl⟩
theorem grown_set {w w1 : World} {B o : Nat} {v : Value} (h : w.grownBy w1 (some B)) : w.grownBy (w1.setCell ⟨B, o, none⟩ v) (some B) :=
  ⟨h.os, h.tape, h.output, by simpa [World.setCell] using h.size, fun k hk hne => by rw [Deep.blk_setCell_other _ _ _ _ (fun e => hne (by rw [e]))]; exact h.block k hk hne⟩
theorem grown_new {w w1 : World} {row : Option Nat} {b o : Nat} {v : Value} (h : w.grownBy w1 row) (hb : w.heap.size ≤ b) : w.grownBy (w1.setCell ⟨b, o, none⟩ v) row :=
  ⟨h.os, h.tape, h.output, by simpa [World.setCell] using h.size, fun k hk hne => by rw [Deep.blk_setCell_other _ _ _ _ (by show k ≠ b; omega)]; exact h.block k hk hne⟩
theorem grown_drewN {w w1 : World} {row : Option Nat} (h : w.grownBy w1 row) (n : Nat) : w.grownBy (w1.drewN n) row := ⟨h.os, h.tape, h.output, h.size, h.block⟩
theorem grown_alloc {w w1 : World} {row : Option Nat} (h : w.grownBy w1 row) (o : Obj) : w.grownBy (w1.alloc o) row :=
  h.andThen (World.grownBy_alloc w1 o none) (fun j hj => by cases hj)
theorem grown_row {w w1 : World} {r : Option Nat} (h : w.grownBy w1 r) {b : Nat} (hb : some b ≠ r) {t : TypeId} {n : Nat} {f : Nat → Value} (hr : w.rowIs b t n f) : w1.rowIs b t n f := hr.of_block (h.block b hr.lt hb)
theorem Keeps.grows {w w' : World} (h : Keeps w w') (row : Option Nat) : w.grownBy w' row := ⟨h.os, h.tape, h.output, h.size, fun k hk _ => h.block k hk⟩
theorem keeps_of {w0 w1 w2 : World} {row : Option Nat} (h : Keeps w0 w1) (g : w1.grownBy w2 row) (hr : ∀ r, row = some r → w0.heap.size ≤ r) : Keeps w0 w2 :=
  ⟨g.os.trans h.os, g.tape.trans h.tape, g.output.trans h.output, Nat.le_trans h.size g.size, fun k hk => (g.block k (Nat.lt_of_lt_of_le hk h.size) (fun e => by have := hr k e.symm; omega)).trans (h.block k hk)⟩
theorem Dr.lt {B0 B : Nat} {a : Option Addr} {len cap : Nat} {w : World} (s : Dr B0 B a len cap w) : B < w.heap.size := by
  obtain ⟨⟨_, i, h, _, c0, _⟩, _, _⟩ := s
  exact lt_of_cell c0
theorem Dr.le {B0 B : Nat} {a : Option Addr} {len cap : Nat} {w : World} (s : Dr B0 B a len cap w) : B0 ≤ B := s.cur.1
/-- The draw stands where it stood while other blocks of the call's own are written. -/
theorem Dr.grown {B0 B : Nat} {a : Option Addr} {len cap : Nat} {w w' : World} {row : Option Nat} (s : Dr B0 B a len cap w) (g : w.grownBy w' row) (hB : some B ≠ row) (hr : ∀ r, row = some r → B0 ≤ r) : Dr B0 B a len cap w' := by
  have hlt := s.lt
  obtain ⟨⟨hB0, i, h, hi, c0, c1, c2, f1, f2⟩, rw, sm⟩ := s
  have eb := g.block B hlt hB
  refine ⟨⟨hB0, i, h, hi, ?_, ?_, ?_, ?_, ?_⟩, ?_, sm⟩
  · rw [World.cell?_of_block (w := w) eb]; exact c0
  · rw [World.cell?_of_block (w := w) eb]; exact c1
  · rw [World.cell?_of_block (w := w) eb]; exact c2
  · rw [World.frozen?_of_block (w := w) eb]; exact f1
  · rw [World.frozen?_of_block (w := w) eb]; exact f2
  · intro j hj
    obtain ⟨b, off, n, e, hb, n0, n1, hc⟩ := rw j hj
    have hbl := g.block b (by omega) (fun e => by have := hr b e.symm; omega)
    exact ⟨b, off, n, e, hb, n0, n1, by rw [World.cell?_of_block (w := w) hbl]; exact hc⟩

theorem cur_two {B0 B : Nat} {a : Option Addr} {len cap k : Nat} {h h' : Int} {w : World} (n k' : Nat) (hB0 : B0 ≤ B) (hk : k' ≤ len)
   (c0 : w.cell? ⟨B, 0, none⟩ = some (.slice a len cap)) (c1 : w.cell? ⟨B, 1, none⟩ = some (.int .i64 (k : Int))) (c2 : w.cell? ⟨B, 2, none⟩ = some (.int .i64 h))
   (f1 : w.frozen? ⟨B, 1, none⟩ = false) (f2 : w.frozen? ⟨B, 2, none⟩ = false) :
    Cur B0 (((w.setCell ⟨B, 2, none⟩ (.int .i64 h')).drewN n).setCell ⟨B, 1, none⟩ (.int .i64 (k' : Int))) B a len cap := by
  have d1 : (w.setCell ⟨B, 2, none⟩ (.int .i64 h')).cell? ⟨B, 1, none⟩ = some (.int .i64 (k : Int)) := by rw [World.cell?_setCell_other _ _ _ _ (by simp)]; exact c1
  have d0 : (w.setCell ⟨B, 2, none⟩ (.int .i64 h')).cell? ⟨B, 0, none⟩ = some (.slice a len cap) := by rw [World.cell?_setCell_other _ _ _ _ (by simp)]; exact c0
  have d2 : (w.setCell ⟨B, 2, none⟩ (.int .i64 h')).cell? ⟨B, 2, none⟩ = some (.int .i64 h') := World.cell?_setCell_same _ _ _ c2
  refine ⟨hB0, k', h', hk, ?_, ?_, ?_, ?_, ?_⟩
  · rw [World.cell?_setCell_other _ _ _ _ (by simp)]; exact d0
  · exact World.cell?_setCell_same _ _ _ d1
  · rw [World.cell?_setCell_other _ _ _ _ (by simp)]; exact d2
  · simpa using f1
  · simpa using f2
theorem cur_one {B0 B : Nat} {a : Option Addr} {len cap k : Nat} {h h' : Int} {w : World} (n : Nat) (hB0 : B0 ≤ B) (hk : k ≤ len)
   (c0 : w.cell? ⟨B, 0, none⟩ = some (.slice a len cap)) (c1 : w.cell? ⟨B, 1, none⟩ = some (.int .i64 (k : Int))) (c2 : w.cell? ⟨B, 2, none⟩ = some (.int .i64 h))
   (f1 : w.frozen? ⟨B, 1, none⟩ = false) (f2 : w.frozen? ⟨B, 2, none⟩ = false) :
    Cur B0 ((w.setCell ⟨B, 2, none⟩ (.int .i64 h')).drewN n) B a len cap := by
  refine ⟨hB0, k, h', hk, ?_, ?_, ?_, ?_, ?_⟩
  · show (w.setCell ⟨B, 2, none⟩ (.int .i64 h')).cell? ⟨B, 0, none⟩ = _
    rw [World.cell?_setCell_other _ _ _ _ (by simp)]; exact c0
  · show (w.setCell ⟨B, 2, none⟩ (.int .i64 h')).cell? ⟨B, 1, none⟩ = _
    rw [World.cell?_setCell_other _ _ _ _ (by simp)]; exact c1
  · exact World.cell?_setCell_same _ _ _ c2
  · simpa using f1
  · simpa using f2

/-- A byte of a draw. -/
def IsByte (e : Ending) : Prop := ∃ x : Int, 0 ≤ x ∧ x ≤ 255 ∧ e = .returned (.int .i64 x)
theorem isByte {x : Int} (h0 : 0 ≤ x) (h1 : x ≤ 255) : IsByte (.returned (.int .i64 x)) := ⟨x, h0, h1, rfl⟩

set_option maxHeartbeats 1000000 in
theorem byte_more (B0 B b off : Nat) (k : Nat) (n h : Int) (len cap : Nat) (w : World) (hB0 : B0 ≤ B) (hB : b < B0) (hk : k < len) (hlen : len ≤ 1048576) (n0 : 0 ≤ n) (n1 : n ≤ 255)
   (c0 : w.cell? ⟨B, 0, none⟩ = some (.slice (some ⟨b, off, none⟩) len cap)) (c1 : w.cell? ⟨B, 1, none⟩ = some (.int .i64 (k : Int))) (c2 : w.cell? ⟨B, 2, none⟩ = some (.int .i64 h))
   (f1 : w.frozen? ⟨B, 1, none⟩ = false) (f2 : w.frozen? ⟨B, 2, none⟩ = false) (cr : w.cell? ⟨b, off + k, none⟩ = some (.int .u8 n)) :
    Calls Tryz.prog 31 #[.pointer (some ⟨B, 0, none⟩)] w fun e w' => IsByte e ∧ Cur B0 w' B (some ⟨b, off, none⟩) len cap ∧ w.grownBy w' (some B) := by
  have hne : b ≠ B := by omega
  obtain ⟨h', eh⟩ : ∃ h', wrap64 (wrap64 (h * 6364136223846793005) + 1442695040888963407) = h' := ⟨_, rfl⟩
  obtain ⟨x, ex⟩ : ∃ x, bits BinOp.and IntKind.i64 (bits BinOp.xor IntKind.i64 (h' / 8589934592) (h' / 35184372088832)) 255 = x := ⟨_, rfl⟩
  have hx := and_mask (bits BinOp.xor IntKind.i64 (h' / 8589934592) (h' / 35184372088832)) 255 (by omega) (by omega)
  rw [ex] at hx
  obtain ⟨hx0, hx1⟩ := hx
  have hy := and_mask (x + n) 255 (by omega) (by omega)
  generalize ey : bits BinOp.and IntKind.i64 (x + n) 255 = y at *
  obtain ⟨hy0, hy1⟩ := hy
  go_enter Tryz.func31, Tryz.ntmps31
  go_wp2_with fail
  go_quiet (fail)
  go_wp2_with fail
  go_quiet (fail)
  go_wp2_with fail
  go_quiet (fail)
  go_wp2_with fail
  go_ret
  refine ⟨isByte hy0 hy1, ?_, ?_⟩
  · exact cur_two _ (k + 1) hB0 (by omega) c0 c1 c2 f1 f2
  · exact grown_set (grown_drewN (grown_set (grown_refl _ _)) _)

set_option maxHeartbeats 1000000 in
theorem byte_none (B0 B : Nat) (a : Option Addr) (k : Nat) (h : Int) (len cap : Nat) (w : World) (hB0 : B0 ≤ B) (hk : k = len) (hlen : len ≤ 1048576)
   (c0 : w.cell? ⟨B, 0, none⟩ = some (.slice a len cap)) (c1 : w.cell? ⟨B, 1, none⟩ = some (.int .i64 (k : Int))) (c2 : w.cell? ⟨B, 2, none⟩ = some (.int .i64 h))
   (f1 : w.frozen? ⟨B, 1, none⟩ = false) (f2 : w.frozen? ⟨B, 2, none⟩ = false) :
    Calls Tryz.prog 31 #[.pointer (some ⟨B, 0, none⟩)] w fun e w' => IsByte e ∧ Cur B0 w' B a len cap ∧ w.grownBy w' (some B) := by
  subst hk
  obtain ⟨h', eh⟩ : ∃ h', wrap64 (wrap64 (h * 6364136223846793005) + 1442695040888963407) = h' := ⟨_, rfl⟩
  obtain ⟨x, ex⟩ : ∃ x, bits BinOp.and IntKind.i64 (bits BinOp.xor IntKind.i64 (h' / 8589934592) (h' / 35184372088832)) 255 = x := ⟨_, rfl⟩
  have hx := and_mask (bits BinOp.xor IntKind.i64 (h' / 8589934592) (h' / 35184372088832)) 255 (by omega) (by omega)
  rw [ex] at hx
  obtain ⟨hx0, hx1⟩ := hx
  go_enter Tryz.func31, Tryz.ntmps31
  go_wp2_with fail
  go_quiet (fail)
  go_wp2_with fail
  go_quiet (fail)
  go_wp2_with fail
  go_ret
  refine ⟨isByte hx0 hx1, ?_, ?_⟩
  · refine Cur.drewN ?_ _
    exact cur_one _ hB0 (Nat.le_refl _) c0 c1 c2 f1 f2
  · exact grown_drewN (grown_drewN (grown_set (grown_refl _ _)) _) _

theorem row_grown {B0 B : Nat} {a : Option Addr} {len : Nat} {w w' : World} (h : RowAt B0 w a len) (g : w.grownBy w' (some B)) (hB : B0 ≤ B) (hs : B < w.heap.size) : RowAt B0 w' a len := by
  intro j hj
  obtain ⟨b, off, n, e, hb, n0, n1, hc⟩ := h j hj
  have hbl := g.block b (by omega) (fun e => by injection e with e; omega)
  exact ⟨b, off, n, e, hb, n0, n1, by rw [World.cell?_of_block (w := w) hbl]; exact hc⟩
theorem byte_any {B0 B : Nat} {a : Option Addr} {len cap : Nat} {w : World} (s : Dr B0 B a len cap w) :
    Calls Tryz.prog 31 #[.pointer (some ⟨B, 0, none⟩)] w fun e w' => IsByte e ∧ Dr B0 B a len cap w' ∧ w.grownBy w' (some B) := by
  have hlt := s.lt
  obtain ⟨⟨hB0, k, h, hk, c0, c1, c2, f1, f2⟩, row, small⟩ := s
  by_cases hl : k < len
  · obtain ⟨b, off, n, rfl, hb, n0, n1, cr⟩ := row k hl
    refine (byte_more B0 B b off k n h len cap w hB0 hb hl small n0 n1 c0 c1 c2 f1 f2 cr).mono ?_
    rintro e w' ⟨he, hc, hg⟩
    exact ⟨he, ⟨hc, row_grown row hg hB0 hlt, small⟩, hg⟩
  · refine (byte_none B0 B a k h len cap w hB0 (by omega) small c0 c1 c2 f1 f2).mono ?_
    rintro e w' ⟨he, hc, hg⟩
    exact ⟨he, ⟨hc, row_grown row hg hB0 hlt, small⟩, hg⟩

/-- A number of a draw. -/
def IsInt (e : Ending) : Prop := ∃ x : Int, e = .returned (.int .i64 x)
theorem isInt {x : Int} : IsInt (.returned (.int .i64 x)) := ⟨x, rfl⟩
/-- A number of a draw, below n. -/
def IsBelow (n : Int) (e : Ending) : Prop := ∃ x : Int, 0 ≤ x ∧ x < n ∧ e = .returned (.int .i64 x)
theorem isBelow {n x : Int} (h0 : 0 ≤ x) (h1 : x < n) : IsBelow n (.returned (.int .i64 x)) := ⟨x, h0, h1, rfl⟩

theorem below_any {B0 B : Nat} {a : Option Addr} {len cap : Nat} {w : World} (n : Int) (s : Dr B0 B a len cap w) (h0 : 0 < n) (h1 : n ≤ 1000000000) :
    Calls Tryz.prog 15 #[.pointer (some ⟨B, 0, none⟩), .int .i64 n] w fun e w' => IsBelow n e ∧ Dr B0 B a len cap w' ∧ w.grownBy w' (some B) := by
  have HS := hide s
  clear s
  by_cases hs : n ≤ 256
  · go_enter Tryz.func15, Tryz.ntmps15
    go_wp2_with (go_at_call 31; refine (byte_any HS.out).mono ?_; rintro e w1 ⟨⟨x, x0, x1, rfl⟩, s1, g1⟩)
    go_ret
    exact ⟨isBelow (Int.emod_nonneg _ (by omega)) (Int.emod_lt_of_pos _ h0), s1, g1⟩
  · go_enter Tryz.func15, Tryz.ntmps15
    go_wp2_with fail
    refine (byte_any HS.out).mono ?_
    rintro e w1 ⟨⟨x, x0, x1, rfl⟩, s1, g1⟩
    have S1 := hide s1
    have G1 := hide g1
    clear s1 g1
    go_wp2_with fail
    refine (byte_any S1.out).mono ?_
    rintro e w2 ⟨⟨y, y0, y1, rfl⟩, s2, g2⟩
    have S2 := hide s2
    have G2 := hide (G1.out.trans g2)
    clear s2 g2
    go_wp2_with fail
    refine (byte_any S2.out).mono ?_
    rintro e w3 ⟨⟨z, z0, z1, rfl⟩, s3, g3⟩
    have S3 := hide s3
    have G3 := hide (G2.out.trans g3)
    clear s3 g3
    go_wp2_with fail
    refine (byte_any S3.out).mono ?_
    rintro e w4 ⟨⟨u, u0, u1, rfl⟩, s4, g4⟩
    have S4 := hide s4
    have G4 := hide (G3.out.trans g4)
    clear s4 g4
    go_wp2_with fail
    go_ret
    exact ⟨isBelow (Int.emod_nonneg _ (by omega)) (Int.emod_lt_of_pos _ h0), S4.out, G4.out⟩

set_option maxHeartbeats 2000000 in
theorem raw_any {B0 B : Nat} {a : Option Addr} {len cap : Nat} {w : World} (s : Dr B0 B a len cap w) :
    Calls Tryz.prog 60 #[.pointer (some ⟨B, 0, none⟩)] w fun e w' => IsInt e ∧ Dr B0 B a len cap w' ∧ w.grownBy w' (some B) := by
  have HS := hide s
  clear s
  go_enter Tryz.func60, Tryz.ntmps60
  go_wp2_with fail
  refine (below_any 11 HS.out (by omega) (by omega)).mono ?_
  rintro e w1 ⟨⟨k, k0, k1, rfl⟩, s1, g1⟩
  have S1 := hide s1
  have G1 := hide g1
  clear s1 g1 HS
  go_wp2_with (first | (go_at_call 15; refine (below_any _ S2.out (by omega) (by omega)).mono ?_; rintro e w3 ⟨⟨y, y0, y1, rfl⟩, s3, g3⟩; have S3 := hide s3; have G3 := hide (G2.out.trans g3); clear s3 g3) | (go_at_call 15; refine (below_any _ S1.out (by omega) (by omega)).mono ?_; rintro e w2 ⟨⟨x, x0, x1, rfl⟩, s2, g2⟩; have S2 := hide s2; have G2 := hide (G1.out.trans g2); clear s2 g2))
  all_goals
    go_ret
    first
      | exact ⟨isInt, S3.out, G3.out⟩
      | exact ⟨isInt, S2.out, G2.out⟩
      | exact ⟨isInt, S1.out, G1.out⟩

/-- A pointer to a new cursor. -/
def IsCur (B : Nat) (e : Ending) : Prop := e = .returned (.pointer (some ⟨B, 0, none⟩))
theorem new_dr {w : World} {a : Option Addr} {len cap : Nat} {h : Int} (hr : RowAt w.heap.size w a len) (hl : len ≤ 1048576) :
    Dr w.heap.size w.heap.size a len cap (w.alloc (.cells #[.slice a len cap, .int .i64 0, .int .i64 h] 59)) := by
  have e := fun j => World.cell?_alloc_mark w #[.slice a len cap, .int .i64 0, .int .i64 h] 59 (0, 0) j
  have f : ∀ j, (w.alloc (.cells #[.slice a len cap, .int .i64 0, .int .i64 h] 59)).frozen? ⟨w.heap.size, j, none⟩ = false := by
    intro j
    rw [frozen?_alloc_cells]
    simp [World.frozen?]
  have hb : Below w.heap.size w (w.alloc (.cells #[.slice a len cap, .int .i64 0, .int .i64 h] 59)) := Below.alloc (Below.refl _ _) (Nat.le_refl _) _
  exact ⟨⟨Nat.le_refl _, 0, h, Nat.zero_le _, e 0, e 1, e 2, f 1, f 2⟩, hr.below hb, hl⟩
set_option maxRecDepth 100000 in
set_option maxHeartbeats 2000000 in
theorem new_any (a : Option Addr) (len cap : Nat) (w : World) (hr : RowAt w.heap.size w a len) (hl : len ≤ 1048576) :
    Calls Tryz.prog 13 #[.slice a len cap] w fun e w' => IsCur w.heap.size e ∧ Dr w.heap.size w.heap.size a len cap w' ∧ Keeps w w' := by
  have HR := hide hr
  clear hr
  go_enter Tryz.func13, Tryz.ntmps13
  go_wp2_with fail
  go_loop [3, 4] (fun x y => ∃ (h : Int) (k : Nat), k ≤ len ∧ x = .int .i64 h ∧ y = .int .i64 (k : Int)) (fun _ y => len - (intOf y).toNat)
  case atStart => exact ⟨_, 0, Nat.zero_le _, rfl, rfl⟩
  case round =>
    obtain ⟨h, k, hk, rfl, rfl⟩ := hrel
    by_cases hlt : k < len
    · by_cases hm : k < 4000
      · obtain ⟨b, off, n, rfl, hb, n0, n1, hc⟩ := HR.out k hlt
        go_wp2_with fail
        go_round
        case rel => exact ⟨_, k + 1, by omega, rfl, by go_num⟩
        case measure => simp [intOf]; omega
      · go_wp2_with fail
        go_ret
        exact ⟨rfl, new_dr HR.out hl, Keeps.alloc (Keeps.refl _) _⟩
    · go_wp2_with fail
      go_ret
      exact ⟨rfl, new_dr HR.out hl, Keeps.alloc (Keeps.refl _) _⟩
theorem row_nil {W : World} : RowAt W.heap.size W none 0 := fun j hj => absurd hj (Nat.not_lt_zero j)
theorem row_of {W : World} {x : Addr} {len cap : Nat} {zs : List Int} (hl : len ≤ cap) (hz : zs.length = cap) (hcell : ∀ i, i < zs.length → W.cell? (x.add i) = some (.int .u8 (zs.getD i 0))) (hwz : ∀ n ∈ zs, (Lit.int .u8 n).wf = true) :
    RowAt W.heap.size W (some x) len := by
  intro j hj
  have hc := hcell j (by omega)
  obtain ⟨b, off, spot⟩ := x
  have hspot : spot = none := by simpa [Addr.add] using World.cell?_spot (hcell 0 (by omega))
  subst hspot
  have hc' : W.cell? ⟨b, off + j, none⟩ = some (.int .u8 (zs.getD j 0)) := by
    by_cases hj0 : j = 0
    · subst hj0; simpa [Addr.add] using hc
    · simpa [Addr.add, hj0] using hc
  have hm : zs.getD j 0 ∈ zs := by
    rw [List.getD_eq_getElem?_getD, List.getElem?_eq_getElem (by omega)]
    exact List.getElem_mem _
  have hb := hwz _ hm
  have hb2 : 0 ≤ zs.getD j 0 ∧ zs.getD j 0 ≤ 255 := by
    exact bounds_u8 hb
  exact ⟨b, off, zs.getD j 0, rfl, lt_of_cell hc', hb2.1, hb2.2, hc'⟩
end Go.Proofs.YtkgpoghoilffhaaGreatDoor
namespace Go.Proofs.YtkgpoghoilffhaaGreatDoor
open Go.RowKit
set_option linter.unusedVariables false
set_option linter.unusedSimpArgs false
set_option maxRecDepth 10000

/-- Are these limits? -/
def bandB (lo hi : Int) : Bool := decide (0 ≤ lo) && decide (lo ≤ hi) && decide (hi ≤ 100)
theorem bandB_true {lo hi : Int} (h : bandB lo hi = true) : 0 ≤ lo ∧ lo ≤ hi ∧ hi ≤ 100 := by simp [bandB] at h; omega
theorem bandB_yes {lo hi : Int} (h0 : 0 ≤ lo) (h1 : lo ≤ hi) (h2 : hi ≤ 100) : bandB lo hi = true := by simp [bandB]; omega
theorem bandB_no {lo hi : Int} (h : lo < 0 ∨ hi < lo ∨ 100 < hi) : bandB lo hi = false := by
  cases e : bandB lo hi
  · rfl
  · have := bandB_true e; omega
end Go.Proofs.YtkgpoghoilffhaaGreatDoor
namespace Go.Proofs.YtkgpoghoilffhaaGreatDoor
open Go.RowKit Go.Deep
set_option linter.unusedVariables false

/-- The cells of a list that lies in memory. -/
def Cells (w : World) (a : Option Addr) (xs : List Value) : Prop := xs = [] ∨ ∃ b off, a = some ⟨b, off, none⟩ ∧ ∀ j (h : j < xs.length), w.cell? ⟨b, off + j, none⟩ = some xs[j]
theorem Cells.kept {w w' : World} {a : Option Addr} {xs : List Value} (h : Cells w a xs) (hk : Keeps w w') : Cells w' a xs := by
  rcases h with h | ⟨b, off, e, h⟩
  · exact Or.inl h
  · exact Or.inr ⟨b, off, e, fun j hj => hk.cell (h j hj)⟩

theorem Cells.nil (w : World) (a : Option Addr) : Cells w a [] := Or.inl rfl
section
variable {H : Type} {enc : TypeId × Value → H} {P : Program} {w : World} {base : Nat} {spare : Nat → Bool} {held : Bool}
end
end Go.Proofs.YtkgpoghoilffhaaGreatDoor
namespace Go.Proofs.YtkgpoghoilffhaaGreatDoor
open Go.RowKit Go.Deep
set_option linter.unusedVariables false

/-- Of what was there only blocks of fs have turned. -/
structure Turn (fs : List Nat) (w w' : World) : Prop where
  os : w'.os = w.os
  tape : w'.tape = w.tape
  output : w'.output = w.output
  size : w.heap.size ≤ w'.heap.size
  block : ∀ k, k < w.heap.size → k ∉ fs → w'.heap[k]? = w.heap[k]?
theorem Turn.refl (fs : List Nat) (w : World) : Turn fs w w := ⟨rfl, rfl, rfl, Nat.le_refl _, fun _ _ _ => rfl⟩
theorem Turn.of_keeps {w w' : World} (h : Keeps w w') (fs : List Nat) : Turn fs w w' := ⟨h.os, h.tape, h.output, h.size, fun k hk _ => h.block k hk⟩
theorem Turn.trans {fs gs : List Nat} {a b c : World} (h : Turn fs a b) (k : Turn gs b c) : Turn (fs ++ gs) a c :=
  ⟨k.os.trans h.os, k.tape.trans h.tape, k.output.trans h.output, Nat.le_trans h.size k.size, fun i hi hn => by
    simp only [List.mem_append, not_or] at hn
    exact (k.block i (Nat.lt_of_lt_of_le hi h.size) hn.2).trans (h.block i hi hn.1)⟩
theorem Turn.mono {fs gs : List Nat} {a b : World} (h : Turn fs a b) (hs : ∀ x ∈ fs, x ∈ gs) : Turn gs a b :=
  ⟨h.os, h.tape, h.output, h.size, fun i hi hn => h.block i hi (fun hx => hn (hs i hx))⟩
theorem Turn.trans' {fs : List Nat} {a b c : World} (h : Turn fs a b) (k : Turn fs b c) : Turn fs a c := (h.trans k).mono (by simp)
theorem Turn.keeps {fs : List Nat} {W w w' : World} (h : Turn fs w w') (hk : Keeps W w) (hf : ∀ b ∈ fs, W.heap.size ≤ b) : Keeps W w' :=
  ⟨h.os.trans hk.os, h.tape.trans hk.tape, h.output.trans hk.output, Nat.le_trans hk.size h.size, fun i hi =>
    (h.block i (Nat.lt_of_lt_of_le hi hk.size) (fun hx => by have := hf i hx; omega)).trans (hk.block i hi)⟩
theorem Turn.set {fs : List Nat} {w : World} {a : Addr} (ha : a.block ∈ fs) (v : Value) : Turn fs w (w.setCell a v) :=
  ⟨rfl, rfl, rfl, by rw [nblk_setCell]; exact Nat.le_refl _, fun k hk hn => blk_setCell_other _ _ _ _ (fun e => hn (e ▸ ha))⟩
theorem Turn.of_grown {w w' : World} {row : Option Nat} (h : w.grownBy w' row) {fs : List Nat} (hr : ∀ k, row = some k → k ∈ fs) : Turn fs w w' :=
  ⟨h.os, h.tape, h.output, h.size, fun k hk hn => h.block k hk (fun e => hn (hr k e.symm))⟩
theorem Turn.cell {fs : List Nat} {w w' : World} (h : Turn fs w w') {p : Addr} (hp : p.block ∉ fs) {v : Value} (hc : w.cell? p = some v) : w'.cell? p = some v := by
  rw [← hc]
  refine World.cell?_of_block (w := w) (h.block p.block ?_ hp)
  rcases Nat.lt_or_ge p.block w.heap.size with h' | h'
  · exact h'
  · simp [World.cell?, Array.getElem?_eq_none h'] at hc

/-- A list in memory: where, and its cells. -/
abbrev Seg := Option Addr × List Value
def fpS (s : Seg) : List Nat := if s.2 = [] then [] else match s.1 with | some p => [p.block] | none => []
/-- The blocks on which the lists stand. -/
def fp (S : List Seg) : List Nat := S.flatMap fpS
theorem fp_cons (s : Seg) (S : List Seg) : fp (s :: S) = fpS s ++ fp S := rfl
theorem fp_append (S T : List Seg) : fp (S ++ T) = fp S ++ fp T := by simp [fp]
def Mem (w : World) (S : List Seg) : Prop := ∀ s ∈ S, Cells w s.1 s.2
theorem Mem.nil (w : World) : Mem w [] := fun s h => absurd h (by simp)
theorem mem_append {w : World} {S T : List Seg} : Mem w (S ++ T) ↔ Mem w S ∧ Mem w T := by
  simp only [Mem, List.mem_append]
  exact ⟨fun h => ⟨fun s hs => h s (Or.inl hs), fun s hs => h s (Or.inr hs)⟩, fun h s hs => hs.elim (h.1 s) (h.2 s)⟩
theorem Cells.turn {w w' : World} {s : Seg} (h : Cells w s.1 s.2) {fs : List Nat} (hk : Turn fs w w') (hd : ∀ b ∈ fpS s, b ∉ fs) : Cells w' s.1 s.2 := by
  rcases h with h | ⟨b, off, e, h⟩
  · exact Or.inl h
  · by_cases h0 : s.2 = []
    · exact Or.inl h0
    · refine Or.inr ⟨b, off, e, fun j hj => hk.cell (hd b ?_) (h j hj)⟩
      simp [fpS, h0, e]
theorem Mem.turn {w w' : World} {S : List Seg} (h : Mem w S) {fs : List Nat} (hk : Turn fs w w') (hd : ∀ b ∈ fp S, b ∉ fs) : Mem w' S :=
  fun s hs => (h s hs).turn hk (fun b hb => hd b (List.mem_flatMap.2 ⟨s, hs, hb⟩))
theorem Mem.kept {w w' : World} {S : List Seg} (h : Mem w S) (hk : Keeps w w') : Mem w' S := fun s hs => (h s hs).kept hk
theorem Cells.lt {w : World} {s : Seg} (h : Cells w s.1 s.2) : ∀ b ∈ fpS s, b < w.heap.size := by
  intro b hb
  rcases h with h | ⟨g, off, e, h⟩
  · simp [fpS, h] at hb
  · by_cases h0 : s.2 = []
    · simp [fpS, h0] at hb
    · simp [fpS, h0, e] at hb
      subst hb
      exact lt_of_cell (h 0 (List.length_pos_iff.2 h0))
theorem Mem.lt {w : World} {S : List Seg} (h : Mem w S) : ∀ b ∈ fp S, b < w.heap.size := by
  intro b hb
  obtain ⟨s, hs, hb⟩ := List.mem_flatMap.1 hb
  exact (h s hs).lt b hb

/-- None of the blocks is frozen. -/
def Free (w : World) (fs : List Nat) : Prop := ∀ b ∈ fs, ∀ o, w.frozen? ⟨b, o, none⟩ = false
theorem Free.turn {w w' : World} {fs gs : List Nat} (h : Free w fs) (hk : Turn gs w w') (hd : ∀ b ∈ fs, b ∉ gs) (hl : ∀ b ∈ fs, b < w.heap.size) : Free w' fs := fun b hb o => by
  rw [← h b hb o]
  exact World.frozen?_of_block (w := w) (hk.block b (hl b hb) (hd b hb))
/-- Lists of one's own: no two share a block, none is frozen. -/
structure Own (w : World) (S : List Seg) : Prop where
  mem : Mem w S
  nd : (fp S).Nodup
  free : Free w (fp S)
theorem Own.nil (w : World) : Own w [] := ⟨Mem.nil w, by simp [fp], fun b hb => absurd hb (by simp [fp])⟩
theorem Own.turn {w w' : World} {S : List Seg} (h : Own w S) {fs : List Nat} (hk : Turn fs w w') (hd : ∀ b ∈ fp S, b ∉ fs) : Own w' S :=
  ⟨h.mem.turn hk hd, h.nd, h.free.turn hk hd h.mem.lt⟩
theorem Own.kept {w w' : World} {S : List Seg} (h : Own w S) (hk : Keeps w w') : Own w' S := h.turn (Turn.of_keeps hk []) (by simp)
theorem Own.left {w : World} {S T : List Seg} (h : Own w (S ++ T)) : Own w S :=
  ⟨(mem_append.1 h.mem).1, by have := h.nd; rw [fp_append] at this; exact (List.nodup_append.1 this).1, fun b hb => h.free b (by rw [fp_append]; exact List.mem_append_left _ hb)⟩
theorem Own.right {w : World} {S T : List Seg} (h : Own w (S ++ T)) : Own w T :=
  ⟨(mem_append.1 h.mem).2, by have := h.nd; rw [fp_append] at this; exact (List.nodup_append.1 this).2.1, fun b hb => h.free b (by rw [fp_append]; exact List.mem_append_right _ hb)⟩
theorem Own.apart {w : World} {S T : List Seg} (h : Own w (S ++ T)) : ∀ b ∈ fp S, b ∉ fp T := by
  have := h.nd
  rw [fp_append] at this
  exact fun b hb hb' => (List.nodup_append.1 this).2.2 b hb b hb' rfl
theorem Own.append {w : World} {S T : List Seg} (h : Own w S) (k : Own w T) (hd : ∀ b ∈ fp S, b ∉ fp T) : Own w (S ++ T) :=
  ⟨mem_append.2 ⟨h.mem, k.mem⟩, by rw [fp_append]; exact List.nodup_append.2 ⟨h.nd, k.nd, fun a ha b hb e => hd a ha (e ▸ hb)⟩, fun b hb => by
    rw [fp_append] at hb
    rcases List.mem_append.1 hb with hb | hb
    · exact h.free b hb
    · exact k.free b hb⟩
/-- Lists of one's own that were made behind w. -/
structure Born (w w' : World) (S : List Seg) : Prop extends Own w' S where
  new : ∀ b ∈ fp S, w.heap.size ≤ b
theorem Born.nil (w w' : World) : Born w w' [] := ⟨Own.nil w', fun b hb => absurd hb (by simp [fp])⟩
theorem Born.kept {w w' w'' : World} {S : List Seg} (h : Born w w' S) (hk : Keeps w' w'') : Born w w'' S := ⟨h.toOwn.kept hk, h.new⟩
theorem Born.turn {w w' w'' : World} {S : List Seg} (h : Born w w' S) {fs : List Nat} (hk : Turn fs w' w'') (hd : ∀ b ∈ fp S, b ∉ fs) : Born w w'' S := ⟨h.toOwn.turn hk hd, h.new⟩
theorem fp_one (a : Option Addr) (xs : List Value) : fp [(a, xs)] = fpS (a, xs) := by simp [fp]
theorem fpS_some {b off : Nat} {xs : List Value} (h : xs ≠ []) : fpS (some ⟨b, off, none⟩, xs) = [b] := by simp [fpS, h]
/-- A row that the call itself made, as a segment. -/
theorem Own.of_owns {w : World} {base n : Nat} {e : TypeId} {sz : Nat} {v : Value} {xs : List Value} (h : w.ownsRow base e sz v n xs) :
    ∃ (a : Option Addr) (cap : Nat), v = .slice a n cap ∧ n ≤ cap ∧ cap ≤ maxLen ∧ (a = none → cap = 0) ∧ Own w [(a, xs)] ∧ ∀ b ∈ fp [(a, xs)], base ≤ b := by
  rcases h.2 with ⟨rfl, h'⟩ | ⟨g, cap, cur, rfl, hb, hg, hn, hm, hsz, ht⟩
  · have hx : xs = [] := List.length_eq_zero_iff.1 (by rw [h.1, h']; simp)
    subst hx h'
    refine ⟨none, 0, rfl, Nat.le_refl _, Nat.zero_le _, fun _ => rfl, ⟨?_, by simp [fp, fpS], fun b hb => absurd hb (by simp [fp, fpS])⟩, fun b hb => absurd hb (by simp [fp, fpS])⟩
    intro s hs
    rw [List.mem_singleton.1 hs]
    exact Cells.nil _ _
  · have hfz : ∀ o, w.frozen? ⟨g, o, none⟩ = false := fun o => by simp [World.frozen?, hg]
    refine ⟨_, cap, rfl, hn, hm, fun e => (nomatch e), ⟨?_, ?_, ?_⟩, ?_⟩
    · intro s hs
      rw [List.mem_singleton.1 hs]
      refine Or.inr ⟨g, 0, rfl, fun j hj => ?_⟩
      rw [Nat.zero_add]
      have h1 : w.cell? ⟨g, j, none⟩ = cur[j]? := by simp [World.cell?, hg]
      have hj' : j < xs.length := hj
      rw [h1, ← List.getElem?_eq_getElem hj]
      show _ = xs[j]?
      rw [← ht, List.getElem?_take]
      rw [h.1] at hj'
      rw [if_pos hj']
      simp
    · by_cases h0 : xs = [] <;> simp [fp, fpS, h0]
    · intro b hb'
      by_cases h0 : xs = []
      · simp [fp, fpS, h0] at hb'
      · simp [fp, fpS, h0] at hb'
        subst hb'
        exact hfz
    · intro b hb'
      by_cases h0 : xs = []
      · simp [fp, fpS, h0] at hb'
      · simp [fp, fpS, h0] at hb'
        subst hb'
        exact hb
theorem Own.one {w : World} {a : Option Addr} {xs : List Value} (h : Own w [(a, xs)]) : Cells w a xs := h.mem (a, xs) (by simp)
/-- A row that the call itself made since w, as a segment. -/
theorem Born.of_owns {w w' : World} {n : Nat} {e : TypeId} {sz : Nat} {v : Value} {xs : List Value} (h : w'.ownsRow w.heap.size e sz v n xs) :
    ∃ (a : Option Addr) (cap : Nat), v = .slice a n cap ∧ ((a = none → cap = 0) ∧ n ≤ cap) ∧ Born w w' [(a, xs)] := by
  obtain ⟨a, cap, hv, hl, _, hn, ho, hb⟩ := Own.of_owns h
  exact ⟨a, cap, hv, ⟨hn, hl⟩, ho, hb⟩
end Go.Proofs.YtkgpoghoilffhaaGreatDoor
namespace Go.Proofs.YtkgpoghoilffhaaGreatDoor
open Go.RowKit Go.ChangeShapes Go.WideShapes Go.Deep
set_option linter.unusedVariables false
set_option maxRecDepth 100000

section
variable {α : Type} {f : α → List Value} {sz : Nat}
theorem flatMap_len (hf : ∀ x, (f x).length = sz) (xs : List α) : (xs.flatMap f).length = xs.length * sz := by
  induction xs with
  | nil => simp
  | cons x t ih => simp [ih, hf, Nat.add_mul]; omega
theorem flatMap_at (hf : ∀ x, (f x).length = sz) : ∀ (xs : List α) (i : Nat) (hi : i < xs.length) (r : Nat), r < sz → (xs.flatMap f)[i * sz + r]? = (f xs[i])[r]?
  | [], i, h, _, _ => absurd h (Nat.not_lt_zero i)
  | x :: t, 0, h, r, hr => by
    simp only [List.flatMap_cons, Nat.zero_mul, Nat.zero_add, List.getElem_cons_zero]
    exact List.getElem?_append_left (by rw [hf]; exact hr)
  | x :: t, i + 1, h, r, hr => by
    have := flatMap_at hf t i (by simpa using h) r hr
    simp only [List.flatMap_cons, List.getElem_cons_succ]
    rw [List.getElem?_append_right (by rw [hf, Nat.add_mul]; omega), hf, show (i + 1) * sz + r - sz = i * sz + r by rw [Nat.add_mul]; omega]
    exact this
/-- Cell r of element i of a list in memory. -/
theorem elem_at {w : World} {a : Option Addr} {xs : List α} (hf : ∀ x, (f x).length = sz) (h : Cells w a (xs.flatMap f)) (i : Nat) (hi : i < xs.length) (hs : 0 < sz) :
    ∃ b off, a = some ⟨b, off, none⟩ ∧ ∀ r (hr : r < (f xs[i]).length), w.cell? ⟨b, off + i * sz + r, none⟩ = some ((f xs[i])[r]) := by
  have hl := flatMap_len hf xs
  have hle : i * sz + sz ≤ xs.length * sz := by
    have := Nat.mul_le_mul_right sz (show i + 1 ≤ xs.length from hi)
    rw [Nat.add_mul] at this; omega
  rcases h with h | ⟨b, off, e, h⟩
  · rw [h] at hl
    simp at hl
    omega
  · refine ⟨b, off, e, fun r hr => ?_⟩
    have hr' : r < sz := by rw [hf] at hr; exact hr
    have g := flatMap_at hf xs i hi r hr'
    rw [List.getElem?_eq_getElem hr, List.getElem?_eq_getElem (by omega)] at g
    rw [Nat.add_assoc, h (i * sz + r) (by omega)]
    exact g
end
/-- What was kept behind an append to a list of the call's own. -/
theorem Keeps.grown {W0 wr w' : World} {row : Option Nat} (hk : Keeps W0 wr) (hg : wr.grownBy w' row) (hr : ∀ k, row = some k → W0.heap.size ≤ k) : Keeps W0 w' :=
  Below.grown hk hg hk.size hr
section
variable {H : Type} {enc : TypeId × Value → H} {W : World} {n : Nat} {cs : List Value} {y : DataW H × List MemPlace} {base : Nat} {sp : Nat → Bool} {hd : Bool}
variable {v : Value} {d : DataW H} {ps : List MemPlace}
end
end Go.Proofs.YtkgpoghoilffhaaGreatDoor
