/- What a call keeps of the world; its variables. -/
import Derived.Test.YtkdnddckogbgaaaDoorProg
import GoSem.Claim
import GoSem.ClaimJoined
import GoSem.ClaimMapViews
import Derived.JoinedTies
import Derived.KernelRfl
import Derived.WalkKit
import Derived.WalkSpells
import Derived.WalkSmall
import Derived.Deep.QuietTactic
import Derived.BigQuiet
import Derived.RowKit3
import Derived.Stop.LaidErr
import Derived.MakeChecks
namespace Go.Proofs.YtkdnddckogbgaaaDoor
open Go.RowKit Go.ChangeShapes

/-- What was there is as it was. -/
def Keeps (w w' : World) : Prop := Below w.heap.size w w'
theorem Keeps.refl (w : World) : Keeps w w := Below.refl _ _
theorem Keeps.trans {a b c : World} (h : Keeps a b) (k : Keeps b c) : Keeps a c := Below.trans h (Below.mono k h.size)
theorem Keeps.drewN {a b : World} (h : Keeps a b) (n : Nat) : Keeps a (b.drewN n) := below_drewN h n
theorem Keeps.cell {w w' : World} (h : Keeps w w') {p : Addr} {v : Value} (hc : w.cell? p = some v) : w'.cell? p = some v := by
  have hlt : p.block < w.heap.size := by
    rcases Nat.lt_or_ge p.block w.heap.size with h' | h'
    · exact h'
    · simp [World.cell?, Array.getElem?_eq_none h'] at hc
  rw [← hc]; exact Below.cell h hlt

theorem cell_of_var {W : World} {n : String} {g : Nat} {v : Value} (hg : Tryd.prog.globalNamed n = some g) (h : W.var? Tryd.prog n = some #[v]) : W.cell? ⟨g, 0, none⟩ = some v := by
  simpa using World.var?_cell hg h 0
theorem var_kept {W W' : World} (h : Keeps W W') {n : String} {cs : Array Value} (hv : W.var? Tryd.prog n = some cs) : W'.var? Tryd.prog n = some cs := by
  unfold World.var? at hv ⊢
  cases hg : Tryd.prog.globalNamed n with
  | none => simp [hg] at hv
  | some g =>
    simp only [hg, Option.bind_some] at hv ⊢
    have hlt : g < W.heap.size := by
      rcases Nat.lt_or_ge g W.heap.size with h' | h'
      · exact h'
      · simp [Array.getElem?_eq_none h'] at hv
    rw [Below.block h g hlt]; exact hv
theorem hide {p : Prop} (h : p) : Hid p := h
theorem unhide {p : Prop} (h : Hid p) : p := h
theorem Keeps.alloc {a b : World} (h : Keeps a b) (o : Obj) : Keeps a (b.alloc o) := Below.alloc h h.size o
theorem Keeps.setCell {a b : World} (h : Keeps a b) {p : Addr} (hp : a.heap.size ≤ p.block) (u : Value) : Keeps a (b.setCell p u) := Below.setCell h hp u
theorem Keeps.drew {a b : World} (h : Keeps a b) : Keeps a b.drew := Below.drew h
theorem Keeps.old {W w1 : World} (hb : Keeps W w1) : ∀ b o, b < W.heap.size → w1.cell? ⟨b, o, none⟩ = W.cell? ⟨b, o, none⟩ := fun b o h => Below.cell (p := ⟨b, o, none⟩) hb h
theorem Keeps.oldF {W w1 : World} (hb : Keeps W w1) : ∀ b o, b < W.heap.size → w1.frozen? ⟨b, o, none⟩ = W.frozen? ⟨b, o, none⟩ := fun b o h => Below.frozen (p := ⟨b, o, none⟩) hb h
theorem lt_of_cell {w : World} {g o : Nat} {v : Value} (hg : w.cell? ⟨g, o, none⟩ = some v) : g < w.heap.size := by
  rcases Nat.lt_or_ge g w.heap.size with h' | h'
  · exact h'
  · simp [World.cell?, Array.getElem?_eq_none h'] at hg
theorem and_mask (x m : Int) (h0 : 0 ≤ m) (h1 : m < 9223372036854775808) : 0 ≤ bits .and .i64 x m ∧ bits .and .i64 x m ≤ m := by
  obtain ⟨n, rfl⟩ := Int.eq_ofNat_of_zero_le h0
  have h2 : (BitVec.ofInt 64 (n : Int)).toNat = n := by
    rw [BitVec.ofInt_natCast, BitVec.toNat_ofNat]; exact Nat.mod_eq_of_lt (by omega)
  have e : bits .and .i64 x (n : Int) = IntKind.i64.wrap ((BitVec.ofInt 64 x &&& BitVec.ofInt 64 (n : Int)).toNat : Int) := rfl
  rw [e, BitVec.toNat_and, h2]
  have h3 : (BitVec.ofInt 64 x).toNat &&& n ≤ n := Nat.and_le_right
  generalize (BitVec.ofInt 64 x).toNat &&& n = r at *
  simp [IntKind.wrap, IntKind.bits, IntKind.signed]
  omega

/-! A region that draws its order, whose operations only read and whose callees make new memory at most: walked once, in the order of the text. -/
abbrev Gt : Type := List (Option Obj)
def Gt.more (t : Gt) : Array Obj := (t.filterMap id).toArray
def Gt.count (t : Gt) : Nat := (t.filter Option.isNone).length
def gt (m : Array Obj) (d : Nat) : Gt := m.toList.map some ++ List.replicate d none
theorem gt_more (m : Array Obj) (d : Nat) : Gt.more (gt m d) = m := by
  simp [Gt.more, gt, List.filterMap_append, List.filterMap_map]
theorem gt_count (m : Array Obj) (d : Nat) : Gt.count (gt m d) = d := by
  simp [Gt.count, gt, List.filter_append, List.filter_map]
def gr (W : World) (t : Gt) : World := { W with heap := W.heap ++ Gt.more t, drawn := Gt.count t }
theorem gr_keeps (W : World) (t : Gt) : Keeps W (gr W t) :=
  ⟨rfl, rfl, rfl, by simp [gr], fun i hi => by
    show (W.heap ++ Gt.more t)[i]? = W.heap[i]?
    rw [Array.getElem?_append_left hi]⟩
theorem keeps_gr {W w' : World} (h : Keeps W w') : ∃ t, w' = gr W t := by
  refine ⟨gt (w'.heap.extract W.heap.size w'.heap.size) w'.drawn, ?_⟩
  have e : w'.heap = W.heap ++ w'.heap.extract W.heap.size w'.heap.size := by
    apply Array.ext_getElem?
    intro i
    by_cases hi : i < W.heap.size
    · rw [Array.getElem?_append_left hi]; exact h.block i hi
    · rw [Array.getElem?_append_right (by omega), Array.getElem?_extract]
      by_cases hj : i < w'.heap.size
      · rw [if_pos (by omega)]; congr 1; omega
      · rw [if_neg (by omega), Array.getElem?_eq_none (by omega)]
  have h1 := h.os; have h2 := h.tape; have h3 := h.output
  cases w' with
  | mk heap tape drawn os output =>
    simp only at e h1 h2 h3
    unfold gr
    simp only [gt_more, gt_count, ← h1, ← h2, ← h3, ← e]
theorem gr_gr {W w' : World} {t : Gt} (h : Keeps (gr W t) w') : ∃ t, w' = gr W t := keeps_gr ((gr_keeps W t).trans h)
theorem gr_cell {W : World} {p : Addr} {v : Value} (h : W.cell? p = some v) (t : Gt) : (gr W t).cell? p = some v := (gr_keeps W t).cell h
theorem Keeps.of_gr {W w' : World} (h : ∃ t, w' = gr W t) : Keeps W w' := by
  obtain ⟨t, rfl⟩ := h
  exact gr_keeps W t
theorem gr_call {P : Program} {f : FuncId} {args : Array Value} {W : World} {t : Gt} {v : Value}
    (h : Calls P f args (gr W t) fun e w' => e = .returned v ∧ Keeps (gr W t) w') : Calls P f args (gr W t) fun e w'' => e = .returned v ∧ ∃ t, w'' = gr W t :=
  h.mono fun _ _ ⟨he, hk⟩ => ⟨he, gr_gr hk⟩
theorem region_gr {P : Program} {id : Nat} {Q : Exit → Act → World → Prop} {a : Act} {w : World} {l : List Oper} (hm : P.follows .mixedOrders = true) (hB : Region.lexB .any l.toArray = true)
    (h : wpQuiet P l.toArray (fun w' => ∃ t, w' = gr w t) (fun a' => ∀ w', (∃ t, w' = gr w t) → Q .normal a' w') l a) : (Code.region id l.toArray true).wp P Q a w :=
  wp_region_quiet (C := fun w' => ∃ t, w' = gr w t) hm hB ⟨gt #[] (w.drawn + 1), by simp [gr, gt_more, gt_count]⟩ (by simpa using h)

/-- Is it an amount? -/
def amtB (n : Int) : Bool := decide (0 ≤ n) && decide (n ≤ 1125899906842624)
theorem amtB_true {n : Int} (h : amtB n = true) : 0 ≤ n ∧ n ≤ 1125899906842624 := by simpa [amtB] using h
theorem amtB_false {n : Int} (h : amtB n = false) : n < 0 ∨ 1125899906842624 < n := by simp [amtB] at h; omega
theorem amtB_yes {n : Int} (h : 0 ≤ n) (h' : n ≤ 1125899906842624) : amtB n = true := by simp [amtB]; omega
theorem amtB_no {n : Int} (h : n < 0 ∨ 1125899906842624 < n) : amtB n = false := by simp [amtB]; omega
/-- The sum of two amounts, and whether it is one. -/
def addB (a b : Int) : Bool := amtB a && amtB b && amtB (a + b)
def addV (a b : Int) : Int := if addB a b = true then a + b else 0
def subB (a b : Int) : Bool := amtB a && amtB b && amtB (a - b)
def subV (a b : Int) : Int := if subB a b = true then a - b else 0
theorem ret_tup {a a' : Int} {b b' : Bool} (h : a = a') (h' : b = b') : Ending.returned (.tuple #[.int .i64 a, .bool b]) = .returned (.tuple #[.int .i64 a', .bool b']) := by rw [h, h']
theorem ret_b {b b' : Bool} (h : b = b') : Ending.returned (.bool b) = .returned (.bool b') := by rw [h]
theorem ret_i {a a' : Int} (h : a = a') : Ending.returned (.int .i64 a) = .returned (.int .i64 a') := by rw [h]
end Go.Proofs.YtkdnddckogbgaaaDoor
