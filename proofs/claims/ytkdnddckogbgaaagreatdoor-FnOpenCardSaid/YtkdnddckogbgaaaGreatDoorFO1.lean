/- Texts of the verifier, joined: Keep, Open, Mem, Byt, Lst0, Apn, Dsk. -/
import Derived.Test.YtkdnddckogbgaaaGreatDoorProg
import GoSem.Claim
import GoSem.ClaimJoined
import GoSem.ClaimMapViews
import Derived.JoinedTies
import Derived.KernelRfl
import Derived.WalkKit
import Derived.WalkSpells
import Derived.WalkSmall
import Derived.Deep.QuietTactic
import Derived.BigQuiet
import Derived.RowKit3
import Derived.Stop.LaidErr
import Derived.MakeChecks
import Derived.Deep.Slices
import Derived.Deep.OwnRows
import Derived.Laws.OwnMore
import Derived.OpenShut
import Derived.RegionTactic
import Derived.ChangeSame
import Derived.WideShapes
import Derived.Below
import Derived.Deep.Strs
import Derived.OwnWalk
import Derived.Laws.AppendOwnNone
namespace Go.Proofs.YtkdnddckogbgaaaGreatDoor
open Go.RowKit Go.ChangeShapes

/-- What was there is as it was. -/
def Keeps (w w' : World) : Prop := Below w.heap.size w w'
theorem Keeps.refl (w : World) : Keeps w w := Below.refl _ _
theorem Keeps.trans {a b c : World} (h : Keeps a b) (k : Keeps b c) : Keeps a c := Below.trans h (Below.mono k h.size)
theorem Keeps.drewN {a b : World} (h : Keeps a b) (n : Nat) : Keeps a (b.drewN n) := below_drewN h n
theorem Keeps.cell {w w' : World} (h : Keeps w w') {p : Addr} {v : Value} (hc : w.cell? p = some v) : w'.cell? p = some v := by
  have hlt : p.block < w.heap.size := by
    rcases Nat.lt_or_ge p.block w.heap.size with h' | h'
    · exact h'
    · simp [World.cell?, Array.getElem?_eq_none h'] at hc
  rw [← hc]; exact Below.cell h hlt

theorem cell_of_var {W : World} {n : String} {g : Nat} {v : Value} (hg : Tryz.prog.globalNamed n = some g) (h : W.var? Tryz.prog n = some #[v]) : W.cell? ⟨g, 0, none⟩ = some v := by
  simpa using World.var?_cell hg h 0
theorem var_kept {W W' : World} (h : Keeps W W') {n : String} {cs : Array Value} (hv : W.var? Tryz.prog n = some cs) : W'.var? Tryz.prog n = some cs := by
  unfold World.var? at hv ⊢
  cases hg : Tryz.prog.globalNamed n with
  | none => simp [hg] at hv
  | some g =>
    simp only [hg, Option.bind_some] at hv ⊢
    have hlt : g < W.heap.size := by
      rcases Nat.lt_or_ge g W.heap.size with h' | h'
      · exact h'
      · simp [Array.getElem?_eq_none h'] at hv
    rw [Below.block h g hlt]; exact hv
theorem hide {p : Prop} (h : p) : Hid p := h
theorem unhide {p : Prop} (h : Hid p) : p := h
theorem Keeps.alloc {a b : World} (h : Keeps a b) (o : Obj) : Keeps a (b.alloc o) := Below.alloc h h.size o
theorem Keeps.setCell {a b : World} (h : Keeps a b) {p : Addr} (hp : a.heap.size ≤ p.block) (u : Value) : Keeps a (b.setCell p u) := Below.setCell h hp u
theorem Keeps.drew {a b : World} (h : Keeps a b) : Keeps a b.drew := Below.drew h
theorem Keeps.oldF {W w1 : World} (hb : Keeps W w1) : ∀ b o, b < W.heap.size → w1.frozen? ⟨b, o, none⟩ = W.frozen? ⟨b, o, none⟩ := fun b o h => Below.frozen (p := ⟨b, o, none⟩) hb h
theorem lt_of_cell {w : World} {g o : Nat} {v : Value} (hg : w.cell? ⟨g, o, none⟩ = some v) : g < w.heap.size := by
  rcases Nat.lt_or_ge g w.heap.size with h' | h'
  · exact h'
  · simp [World.cell?, Array.getElem?_eq_none h'] at hg
theorem and_mask (x m : Int) (h0 : 0 ≤ m) (h1 : m < 9223372036854775808) : 0 ≤ bits .and .i64 x m ∧ bits .and .i64 x m ≤ m := by
  obtain ⟨n, rfl⟩ := Int.eq_ofNat_of_zero_le h0
  have h2 : (BitVec.ofInt 64 (n : Int)).toNat = n := by
    rw [BitVec.ofInt_natCast, BitVec.toNat_ofNat]; exact Nat.mod_eq_of_lt (by omega)
  have e : bits .and .i64 x (n : Int) = IntKind.i64.wrap ((BitVec.ofInt 64 x &&& BitVec.ofInt 64 (n : Int)).toNat : Int) := rfl
  rw [e, BitVec.toNat_and, h2]
  have h3 : (BitVec.ofInt 64 x).toNat &&& n ≤ n := Nat.and_le_right
  generalize (BitVec.ofInt 64 x).toNat &&& n = r at *
  simp [IntKind.wrap, IntKind.bits, IntKind.signed]
  omega

/-! A region that draws its order, whose operations only read and whose callees make new memory at most: walked once, in the order of the text. -/
abbrev Gt : Type := List (Option Obj)
def Gt.more (t : Gt) : Array Obj := (t.filterMap id).toArray
def Gt.count (t : Gt) : Nat := (t.filter Option.isNone).length
def gt (m : Array Obj) (d : Nat) : Gt := m.toList.map some ++ List.replicate d none
theorem gt_more (m : Array Obj) (d : Nat) : Gt.more (gt m d) = m := by
  simp [Gt.more, gt, List.filterMap_append, List.filterMap_map]
theorem gt_count (m : Array Obj) (d : Nat) : Gt.count (gt m d) = d := by
  simp [Gt.count, gt, List.filter_append, List.filter_map]
def gr (W : World) (t : Gt) : World := { W with heap := W.heap ++ Gt.more t, drawn := Gt.count t }
theorem gr_keeps (W : World) (t : Gt) : Keeps W (gr W t) :=
  ⟨rfl, rfl, rfl, by simp [gr], fun i hi => by
    show (W.heap ++ Gt.more t)[i]? = W.heap[i]?
    rw [Array.getElem?_append_left hi]⟩
theorem keeps_gr {W w' : World} (h : Keeps W w') : ∃ t, w' = gr W t := by
  refine ⟨gt (w'.heap.extract W.heap.size w'.heap.size) w'.drawn, ?_⟩
  have e : w'.heap = W.heap ++ w'.heap.extract W.heap.size w'.heap.size := by
    apply Array.ext_getElem?
    intro i
    by_cases hi : i < W.heap.size
    · rw [Array.getElem?_append_left hi]; exact h.block i hi
    · rw [Array.getElem?_append_right (by omega), Array.getElem?_extract]
      by_cases hj : i < w'.heap.size
      · rw [if_pos (by omega)]; congr 1; omega
      · rw [if_neg (by omega), Array.getElem?_eq_none (by omega)]
  have h1 := h.os; have h2 := h.tape; have h3 := h.output
  cases w' with
  | mk heap tape drawn os output =>
    simp only at e h1 h2 h3
    unfold gr
    simp only [gt_more, gt_count, ← h1, ← h2, ← h3, ← e]
theorem gr_gr {W w' : World} {t : Gt} (h : Keeps (gr W t) w') : ∃ t, w' = gr W t := keeps_gr ((gr_keeps W t).trans h)
theorem gr_cell {W : World} {p : Addr} {v : Value} (h : W.cell? p = some v) (t : Gt) : (gr W t).cell? p = some v := (gr_keeps W t).cell h
theorem Keeps.of_gr {W w' : World} (h : ∃ t, w' = gr W t) : Keeps W w' := by
  obtain ⟨t, rfl⟩ := h
  exact gr_keeps W t
theorem gr_call {P : Program} {f : FuncId} {args : Array Value} {W : World} {t : Gt} {v : Value}
    (h : Calls P f args (gr W t) fun e w' => e = .returned v ∧ Keeps (gr W t) w') : Calls P f args (gr W t) fun e w'' => e = .returned v ∧ ∃ t, w'' = gr W t :=
  h.mono fun _ _ ⟨he, hk⟩ => ⟨he, gr_gr hk⟩
theorem region_gr {P : Program} {id : Nat} {Q : Exit → Act → World → Prop} {a : Act} {w : World} {l : List Oper} (hm : P.follows .mixedOrders = true) (hB : Region.lexB .any l.toArray = true)
    (h : wpQuiet P l.toArray (fun w' => ∃ t, w' = gr w t) (fun a' => ∀ w', (∃ t, w' = gr w t) → Q .normal a' w') l a) : (Code.region id l.toArray true).wp P Q a w :=
  wp_region_quiet (C := fun w' => ∃ t, w' = gr w t) hm hB ⟨gt #[] (w.drawn + 1), by simp [gr, gt_more, gt_count]⟩ (by simpa using h)

theorem ret_b {b b' : Bool} (h : b = b') : Ending.returned (.bool b) = .returned (.bool b') := by rw [h]
end Go.Proofs.YtkdnddckogbgaaaGreatDoor
namespace Go.Proofs.YtkdnddckogbgaaaGreatDoor
open Go.RowKit Go.Deep
set_option linter.unusedVariables false

/-- The cells of a list that lies in memory. -/
def Cells (w : World) (a : Option Addr) (xs : List Value) : Prop := xs = [] ∨ ∃ b off, a = some ⟨b, off, none⟩ ∧ ∀ j (h : j < xs.length), w.cell? ⟨b, off + j, none⟩ = some xs[j]
theorem Cells.kept {w w' : World} {a : Option Addr} {xs : List Value} (h : Cells w a xs) (hk : Keeps w w') : Cells w' a xs := by
  rcases h with h | ⟨b, off, e, h⟩
  · exact Or.inl h
  · exact Or.inr ⟨b, off, e, fun j hj => hk.cell (h j hj)⟩

theorem Cells.nil (w : World) (a : Option Addr) : Cells w a [] := Or.inl rfl
section
variable {H : Type} {enc : TypeId × Value → H} {P : Program} {w : World} {base : Nat} {spare : Nat → Bool} {held : Bool}
end
end Go.Proofs.YtkdnddckogbgaaaGreatDoor
namespace Go.Proofs.YtkdnddckogbgaaaGreatDoor
open Go.RowKit Go.Deep
set_option linter.unusedVariables false

/-- Of what was there only blocks of fs have turned. -/
structure Turn (fs : List Nat) (w w' : World) : Prop where
  os : w'.os = w.os
  tape : w'.tape = w.tape
  output : w'.output = w.output
  size : w.heap.size ≤ w'.heap.size
  block : ∀ k, k < w.heap.size → k ∉ fs → w'.heap[k]? = w.heap[k]?
theorem Turn.refl (fs : List Nat) (w : World) : Turn fs w w := ⟨rfl, rfl, rfl, Nat.le_refl _, fun _ _ _ => rfl⟩
theorem Turn.of_keeps {w w' : World} (h : Keeps w w') (fs : List Nat) : Turn fs w w' := ⟨h.os, h.tape, h.output, h.size, fun k hk _ => h.block k hk⟩
theorem Turn.trans {fs gs : List Nat} {a b c : World} (h : Turn fs a b) (k : Turn gs b c) : Turn (fs ++ gs) a c :=
  ⟨k.os.trans h.os, k.tape.trans h.tape, k.output.trans h.output, Nat.le_trans h.size k.size, fun i hi hn => by
    simp only [List.mem_append, not_or] at hn
    exact (k.block i (Nat.lt_of_lt_of_le hi h.size) hn.2).trans (h.block i hi hn.1)⟩
theorem Turn.mono {fs gs : List Nat} {a b : World} (h : Turn fs a b) (hs : ∀ x ∈ fs, x ∈ gs) : Turn gs a b :=
  ⟨h.os, h.tape, h.output, h.size, fun i hi hn => h.block i hi (fun hx => hn (hs i hx))⟩
theorem Turn.trans' {fs : List Nat} {a b c : World} (h : Turn fs a b) (k : Turn fs b c) : Turn fs a c := (h.trans k).mono (by simp)
theorem Turn.keeps {fs : List Nat} {W w w' : World} (h : Turn fs w w') (hk : Keeps W w) (hf : ∀ b ∈ fs, W.heap.size ≤ b) : Keeps W w' :=
  ⟨h.os.trans hk.os, h.tape.trans hk.tape, h.output.trans hk.output, Nat.le_trans hk.size h.size, fun i hi =>
    (h.block i (Nat.lt_of_lt_of_le hi hk.size) (fun hx => by have := hf i hx; omega)).trans (hk.block i hi)⟩
theorem Turn.set {fs : List Nat} {w : World} {a : Addr} (ha : a.block ∈ fs) (v : Value) : Turn fs w (w.setCell a v) :=
  ⟨rfl, rfl, rfl, by rw [nblk_setCell]; exact Nat.le_refl _, fun k hk hn => blk_setCell_other _ _ _ _ (fun e => hn (e ▸ ha))⟩
theorem Turn.of_grown {w w' : World} {row : Option Nat} (h : w.grownBy w' row) {fs : List Nat} (hr : ∀ k, row = some k → k ∈ fs) : Turn fs w w' :=
  ⟨h.os, h.tape, h.output, h.size, fun k hk hn => h.block k hk (fun e => hn (hr k e.symm))⟩
theorem Turn.cell {fs : List Nat} {w w' : World} (h : Turn fs w w') {p : Addr} (hp : p.block ∉ fs) {v : Value} (hc : w.cell? p = some v) : w'.cell? p = some v := by
  rw [← hc]
  refine World.cell?_of_block (w := w) (h.block p.block ?_ hp)
  rcases Nat.lt_or_ge p.block w.heap.size with h' | h'
  · exact h'
  · simp [World.cell?, Array.getElem?_eq_none h'] at hc

/-- A list in memory: where, and its cells. -/
abbrev Seg := Option Addr × List Value
def fpS (s : Seg) : List Nat := if s.2 = [] then [] else match s.1 with | some p => [p.block] | none => []
/-- The blocks on which the lists stand. -/
def fp (S : List Seg) : List Nat := S.flatMap fpS
theorem fp_cons (s : Seg) (S : List Seg) : fp (s :: S) = fpS s ++ fp S := rfl
theorem fp_append (S T : List Seg) : fp (S ++ T) = fp S ++ fp T := by simp [fp]
def Mem (w : World) (S : List Seg) : Prop := ∀ s ∈ S, Cells w s.1 s.2
theorem Mem.nil (w : World) : Mem w [] := fun s h => absurd h (by simp)
theorem mem_cons {w : World} {s : Seg} {S : List Seg} : Mem w (s :: S) ↔ Cells w s.1 s.2 ∧ Mem w S := by simp [Mem]
theorem mem_append {w : World} {S T : List Seg} : Mem w (S ++ T) ↔ Mem w S ∧ Mem w T := by
  simp only [Mem, List.mem_append]
  exact ⟨fun h => ⟨fun s hs => h s (Or.inl hs), fun s hs => h s (Or.inr hs)⟩, fun h s hs => hs.elim (h.1 s) (h.2 s)⟩
theorem Cells.turn {w w' : World} {s : Seg} (h : Cells w s.1 s.2) {fs : List Nat} (hk : Turn fs w w') (hd : ∀ b ∈ fpS s, b ∉ fs) : Cells w' s.1 s.2 := by
  rcases h with h | ⟨b, off, e, h⟩
  · exact Or.inl h
  · by_cases h0 : s.2 = []
    · exact Or.inl h0
    · refine Or.inr ⟨b, off, e, fun j hj => hk.cell (hd b ?_) (h j hj)⟩
      simp [fpS, h0, e]
theorem Mem.turn {w w' : World} {S : List Seg} (h : Mem w S) {fs : List Nat} (hk : Turn fs w w') (hd : ∀ b ∈ fp S, b ∉ fs) : Mem w' S :=
  fun s hs => (h s hs).turn hk (fun b hb => hd b (List.mem_flatMap.2 ⟨s, hs, hb⟩))
theorem Mem.kept {w w' : World} {S : List Seg} (h : Mem w S) (hk : Keeps w w') : Mem w' S := fun s hs => (h s hs).kept hk
theorem Cells.lt {w : World} {s : Seg} (h : Cells w s.1 s.2) : ∀ b ∈ fpS s, b < w.heap.size := by
  intro b hb
  rcases h with h | ⟨g, off, e, h⟩
  · simp [fpS, h] at hb
  · by_cases h0 : s.2 = []
    · simp [fpS, h0] at hb
    · simp [fpS, h0, e] at hb
      subst hb
      exact lt_of_cell (h 0 (List.length_pos_iff.2 h0))
theorem Mem.lt {w : World} {S : List Seg} (h : Mem w S) : ∀ b ∈ fp S, b < w.heap.size := by
  intro b hb
  obtain ⟨s, hs, hb⟩ := List.mem_flatMap.1 hb
  exact (h s hs).lt b hb

/-- None of the blocks is frozen. -/
def Free (w : World) (fs : List Nat) : Prop := ∀ b ∈ fs, ∀ o, w.frozen? ⟨b, o, none⟩ = false
theorem Free.turn {w w' : World} {fs gs : List Nat} (h : Free w fs) (hk : Turn gs w w') (hd : ∀ b ∈ fs, b ∉ gs) (hl : ∀ b ∈ fs, b < w.heap.size) : Free w' fs := fun b hb o => by
  rw [← h b hb o]
  exact World.frozen?_of_block (w := w) (hk.block b (hl b hb) (hd b hb))
theorem frozen_set (w : World) (a p : Addr) (v : Value) : (w.setCell a v).frozen? p = w.frozen? p := by simp
/-- Lists of one's own: no two share a block, none is frozen. -/
structure Own (w : World) (S : List Seg) : Prop where
  mem : Mem w S
  nd : (fp S).Nodup
  free : Free w (fp S)
theorem Own.nil (w : World) : Own w [] := ⟨Mem.nil w, by simp [fp], fun b hb => absurd hb (by simp [fp])⟩
theorem Own.turn {w w' : World} {S : List Seg} (h : Own w S) {fs : List Nat} (hk : Turn fs w w') (hd : ∀ b ∈ fp S, b ∉ fs) : Own w' S :=
  ⟨h.mem.turn hk hd, h.nd, h.free.turn hk hd h.mem.lt⟩
theorem Own.kept {w w' : World} {S : List Seg} (h : Own w S) (hk : Keeps w w') : Own w' S := h.turn (Turn.of_keeps hk []) (by simp)
theorem Own.left {w : World} {S T : List Seg} (h : Own w (S ++ T)) : Own w S :=
  ⟨(mem_append.1 h.mem).1, by have := h.nd; rw [fp_append] at this; exact (List.nodup_append.1 this).1, fun b hb => h.free b (by rw [fp_append]; exact List.mem_append_left _ hb)⟩
theorem Own.right {w : World} {S T : List Seg} (h : Own w (S ++ T)) : Own w T :=
  ⟨(mem_append.1 h.mem).2, by have := h.nd; rw [fp_append] at this; exact (List.nodup_append.1 this).2.1, fun b hb => h.free b (by rw [fp_append]; exact List.mem_append_right _ hb)⟩
theorem Own.apart {w : World} {S T : List Seg} (h : Own w (S ++ T)) : ∀ b ∈ fp S, b ∉ fp T := by
  have := h.nd
  rw [fp_append] at this
  exact fun b hb hb' => (List.nodup_append.1 this).2.2 b hb b hb' rfl
theorem Own.append {w : World} {S T : List Seg} (h : Own w S) (k : Own w T) (hd : ∀ b ∈ fp S, b ∉ fp T) : Own w (S ++ T) :=
  ⟨mem_append.2 ⟨h.mem, k.mem⟩, by rw [fp_append]; exact List.nodup_append.2 ⟨h.nd, k.nd, fun a ha b hb e => hd a ha (e ▸ hb)⟩, fun b hb => by
    rw [fp_append] at hb
    rcases List.mem_append.1 hb with hb | hb
    · exact h.free b hb
    · exact k.free b hb⟩
/-- Lists of one's own that were made behind w. -/
structure Born (w w' : World) (S : List Seg) : Prop extends Own w' S where
  new : ∀ b ∈ fp S, w.heap.size ≤ b
theorem Born.nil (w w' : World) : Born w w' [] := ⟨Own.nil w', fun b hb => absurd hb (by simp [fp])⟩
theorem Born.old {w0 w w' : World} {S : List Seg} (h : Born w w' S) (hk : Keeps w0 w) : Born w0 w' S := ⟨h.toOwn, fun b hb => Nat.le_trans hk.size (h.new b hb)⟩
theorem Born.kept {w w' w'' : World} {S : List Seg} (h : Born w w' S) (hk : Keeps w' w'') : Born w w'' S := ⟨h.toOwn.kept hk, h.new⟩
theorem Born.turn {w w' w'' : World} {S : List Seg} (h : Born w w' S) {fs : List Nat} (hk : Turn fs w' w'') (hd : ∀ b ∈ fp S, b ∉ fs) : Born w w'' S := ⟨h.toOwn.turn hk hd, h.new⟩
/-- What was there ahead of a birth shares no block with what was born. -/
theorem Born.apart {w w' : World} {S T : List Seg} (h : Born w w' S) (k : Mem w T) : ∀ b ∈ fp T, b ∉ fp S := fun b hb hb' => by
  have := h.new b hb'
  have := k.lt b hb
  omega
theorem Born.join {w w1 w2 : World} {S T : List Seg} (h : Born w w1 S) (hk : Keeps w1 w2) (hw : Keeps w w1) (k : Born w1 w2 T) : Born w w2 (S ++ T) :=
  ⟨(h.toOwn.kept hk).append k.toOwn (k.apart h.mem), fun b hb => by
    rw [fp_append] at hb
    rcases List.mem_append.1 hb with hb | hb
    · exact h.new b hb
    · exact Nat.le_trans hw.size (k.new b hb)⟩
theorem fp_one (a : Option Addr) (xs : List Value) : fp [(a, xs)] = fpS (a, xs) := by simp [fp]
theorem fpS_some {b off : Nat} {xs : List Value} (h : xs ≠ []) : fpS (some ⟨b, off, none⟩, xs) = [b] := by simp [fpS, h]
theorem fpS_len {a : Option Addr} {xs ys : List Value} (h : xs.length = ys.length) : fpS (a, xs) = fpS (a, ys) := by
  unfold fpS
  by_cases h0 : xs = []
  · have : ys = [] := List.length_eq_zero_iff.1 (by rw [← h, h0]; rfl)
    simp [h0, this]
  · have : ys ≠ [] := fun e => h0 (List.length_eq_zero_iff.1 (by rw [h, e]; rfl))
    simp [h0, this]
/-- A row that the call itself made, as a segment. -/
theorem Own.of_owns {w : World} {base n : Nat} {e : TypeId} {sz : Nat} {v : Value} {xs : List Value} (h : w.ownsRow base e sz v n xs) :
    ∃ (a : Option Addr) (cap : Nat), v = .slice a n cap ∧ n ≤ cap ∧ cap ≤ maxLen ∧ (a = none → cap = 0) ∧ Own w [(a, xs)] ∧ ∀ b ∈ fp [(a, xs)], base ≤ b := by
  rcases h.2 with ⟨rfl, h'⟩ | ⟨g, cap, cur, rfl, hb, hg, hn, hm, hsz, ht⟩
  · have hx : xs = [] := List.length_eq_zero_iff.1 (by rw [h.1, h']; simp)
    subst hx h'
    refine ⟨none, 0, rfl, Nat.le_refl _, Nat.zero_le _, fun _ => rfl, ⟨?_, by simp [fp, fpS], fun b hb => absurd hb (by simp [fp, fpS])⟩, fun b hb => absurd hb (by simp [fp, fpS])⟩
    intro s hs
    rw [List.mem_singleton.1 hs]
    exact Cells.nil _ _
  · have hfz : ∀ o, w.frozen? ⟨g, o, none⟩ = false := fun o => by simp [World.frozen?, hg]
    refine ⟨_, cap, rfl, hn, hm, fun e => (nomatch e), ⟨?_, ?_, ?_⟩, ?_⟩
    · intro s hs
      rw [List.mem_singleton.1 hs]
      refine Or.inr ⟨g, 0, rfl, fun j hj => ?_⟩
      rw [Nat.zero_add]
      have h1 : w.cell? ⟨g, j, none⟩ = cur[j]? := by simp [World.cell?, hg]
      have hj' : j < xs.length := hj
      rw [h1, ← List.getElem?_eq_getElem hj]
      show _ = xs[j]?
      rw [← ht, List.getElem?_take]
      rw [h.1] at hj'
      rw [if_pos hj']
      simp
    · by_cases h0 : xs = [] <;> simp [fp, fpS, h0]
    · intro b hb'
      by_cases h0 : xs = []
      · simp [fp, fpS, h0] at hb'
      · simp [fp, fpS, h0] at hb'
        subst hb'
        exact hfz
    · intro b hb'
      by_cases h0 : xs = []
      · simp [fp, fpS, h0] at hb'
      · simp [fp, fpS, h0] at hb'
        subst hb'
        exact hb
theorem Own.one {w : World} {a : Option Addr} {xs : List Value} (h : Own w [(a, xs)]) : Cells w a xs := h.mem (a, xs) (by simp)
/-- A row that the call itself made since w, as a segment. -/
theorem Born.of_owns {w w' : World} {n : Nat} {e : TypeId} {sz : Nat} {v : Value} {xs : List Value} (h : w'.ownsRow w.heap.size e sz v n xs) :
    ∃ (a : Option Addr) (cap : Nat), v = .slice a n cap ∧ ((a = none → cap = 0) ∧ n ≤ cap) ∧ Born w w' [(a, xs)] := by
  obtain ⟨a, cap, hv, hl, _, hn, ho, hb⟩ := Own.of_owns h
  exact ⟨a, cap, hv, ⟨hn, hl⟩, ho, hb⟩
end Go.Proofs.YtkdnddckogbgaaaGreatDoor
namespace Go.Proofs.YtkdnddckogbgaaaGreatDoor
open Go.RowKit Go.Deep
set_option linter.unusedVariables false

def byV (x : UInt8) : Value := .int .u8 (x.toNat : Int)
def bys (L : List UInt8) : List Value := L.map byV
theorem bys_length (L : List UInt8) : (bys L).length = L.length := by simp [bys]
theorem bys_nil {L : List UInt8} : bys L = [] ↔ L = [] := by simp [bys]
theorem bys_append (L M : List UInt8) : bys (L ++ M) = bys L ++ bys M := by simp [bys]
theorem byte_lt (x : UInt8) : (x.toNat : Int) < 256 := by have := x.toNat_lt; omega
theorem byte_nn (x : UInt8) : (0 : Int) ≤ (x.toNat : Int) := by omega
theorem bys_at {w : World} {a : Option Addr} {L : List UInt8} (h : Cells w a (bys L)) (i : Nat) (hi : i < L.length) :
    ∃ b off, a = some ⟨b, off, none⟩ ∧ w.cell? ⟨b, off + i, none⟩ = some (.int .u8 (L[i].toNat : Int)) := by
  rcases h with h | ⟨b, off, e, h⟩
  · rw [bys_nil] at h; subst h; simp at hi
  · refine ⟨b, off, e, ?_⟩
    rw [h i (by rw [bys_length]; exact hi)]
    simp [bys, byV]
theorem infoByte : (Tryz.prog.info? 5).map (fun i => (i.zero, i.size, i.bytes)) = some (some (.int .u8 0), 1, 1) := by kernel_rfl
theorem underBytes : Tryz.prog.underlying 22 = some (.slice 5) := by kernel_rfl
theorem make_bytes (n : Nat) (hn : n ≤ 1048576) (w : World) : (Instr.makeSlice 22 (.int .i64 (n : Int)) (.int .i64 (n : Int))).run Tryz.prog w = .ok (.slice (some ⟨w.heap.size, 0, none⟩) n n) (w.alloc (.cells (madeCells #[.int .u8 0] n) 5)) :=
  run_make_row' 22 5 (.int .u8 0) 1 underBytes infoByte rfl .i64 .i64 n (by omega) (by omega) w

theorem byV_ofNat (k : Nat) : byV (UInt8.ofNat k) = .int .u8 ((k : Int) % 256) := by
  simp [byV]
/-- A list that is written cell by cell: what became of it. -/
theorem Own.wrote {w w' : World} {a : Option Addr} {xs ys : List Value} (h : Own w [(a, xs)]) (hl : ys.length = xs.length) (hc : Cells w' a ys) (hf : ∀ p, w'.frozen? p = w.frozen? p) : Own w' [(a, ys)] := by
  have e : fp [(a, ys)] = fp [(a, xs)] := by rw [fp_one, fp_one]; exact fpS_len hl
  refine ⟨?_, by rw [e]; exact h.nd, ?_⟩
  · intro s hs
    rw [List.mem_singleton.1 hs]; exact hc
  · rw [e]
    intro b hb o
    rw [hf]; exact h.free b hb o

end Go.Proofs.YtkdnddckogbgaaaGreatDoor
namespace Go.Proofs.YtkdnddckogbgaaaGreatDoor
open Go.RowKit Go.ChangeShapes Go.WideShapes Go.Deep
set_option linter.unusedVariables false
set_option maxRecDepth 100000

section
variable {α : Type} {f : α → List Value} {sz : Nat}
theorem flatMap_len (hf : ∀ x, (f x).length = sz) (xs : List α) : (xs.flatMap f).length = xs.length * sz := by
  induction xs with
  | nil => simp
  | cons x t ih => simp [ih, hf, Nat.add_mul]; omega
theorem flatMap_at (hf : ∀ x, (f x).length = sz) : ∀ (xs : List α) (i : Nat) (hi : i < xs.length) (r : Nat), r < sz → (xs.flatMap f)[i * sz + r]? = (f xs[i])[r]?
  | [], i, h, _, _ => absurd h (Nat.not_lt_zero i)
  | x :: t, 0, h, r, hr => by
    simp only [List.flatMap_cons, Nat.zero_mul, Nat.zero_add, List.getElem_cons_zero]
    exact List.getElem?_append_left (by rw [hf]; exact hr)
  | x :: t, i + 1, h, r, hr => by
    have := flatMap_at hf t i (by simpa using h) r hr
    simp only [List.flatMap_cons, List.getElem_cons_succ]
    rw [List.getElem?_append_right (by rw [hf, Nat.add_mul]; omega), hf, show (i + 1) * sz + r - sz = i * sz + r by rw [Nat.add_mul]; omega]
    exact this
/-- Cell r of element i of a list in memory. -/
theorem elem_at {w : World} {a : Option Addr} {xs : List α} (hf : ∀ x, (f x).length = sz) (h : Cells w a (xs.flatMap f)) (i : Nat) (hi : i < xs.length) (hs : 0 < sz) :
    ∃ b off, a = some ⟨b, off, none⟩ ∧ ∀ r (hr : r < (f xs[i]).length), w.cell? ⟨b, off + i * sz + r, none⟩ = some ((f xs[i])[r]) := by
  have hl := flatMap_len hf xs
  have hle : i * sz + sz ≤ xs.length * sz := by
    have := Nat.mul_le_mul_right sz (show i + 1 ≤ xs.length from hi)
    rw [Nat.add_mul] at this; omega
  rcases h with h | ⟨b, off, e, h⟩
  · rw [h] at hl
    simp at hl
    omega
  · refine ⟨b, off, e, fun r hr => ?_⟩
    have hr' : r < sz := by rw [hf] at hr; exact hr
    have g := flatMap_at hf xs i hi r hr'
    rw [List.getElem?_eq_getElem hr, List.getElem?_eq_getElem (by omega)] at g
    rw [Nat.add_assoc, h (i * sz + r) (by omega)]
    exact g
end
/-- One list of many has turned. -/
theorem Own.upd {w w' : World} {A B : List Seg} {s s' : Seg} (h : Own w (A ++ s :: B)) (hs : Own w' [s']) (hf : fpS s' = fpS s) (ht : Turn (fp [s]) w w') : Own w' (A ++ s' :: B) := by
  have hA := h.left
  have hB : Own w (s :: B) := h.right
  have hsB : Own w ([s] ++ B) := hB
  have e1 : fp [s] = fpS s := by simp [fp]
  have dA : ∀ b ∈ fp A, b ∉ fp [s] := fun b hb hb' => h.apart b hb (by rw [show s :: B = [s] ++ B from rfl, fp_append]; exact List.mem_append_left _ hb')
  have dB : ∀ b ∈ fp B, b ∉ fp [s] := fun b hb hb' => hsB.apart b hb' hb
  have hA' := hA.turn ht dA
  have hB' := hsB.right.turn ht dB
  have e2 : fp [s'] = fp [s] := by simp [fp, hf]
  have hsB' : Own w' ([s'] ++ B) := hs.append hB' (fun b hb => by rw [e2] at hb; exact hsB.apart b hb)
  refine hA'.append hsB' (fun b hb hb' => ?_)
  refine h.apart b hb ?_
  rw [fp_cons] at hb' ⊢
  rw [← hf]; exact hb'
/-- A block of one's own, cell by cell. -/
structure Room (w : World) (b n : Nat) : Prop where
  cell : ∀ j, j < n → ∃ u, w.cell? ⟨b, j, none⟩ = some u
  free : ∀ o, w.frozen? ⟨b, o, none⟩ = false
theorem Room.of_row {w : World} {b : Nat} {t : TypeId} {n : Nat} {f : Nat → Value} (h : w.rowIs b t n f) : Room w b n := ⟨fun j hj => ⟨_, h.cell hj⟩, h.frozen⟩
theorem Room.kept {w w' : World} {b n : Nat} (h : Room w b n) (hk : Keeps w w') (hb : b < w.heap.size) : Room w' b n :=
  ⟨fun j hj => by obtain ⟨u, hu⟩ := h.cell j hj; exact ⟨u, hk.cell hu⟩, fun o => by rw [hk.oldF b o hb]; exact h.free o⟩
theorem Room.set {w : World} {b n : Nat} (h : Room w b n) (j : Nat) (v : Value) : Room (w.setCell ⟨b, j, none⟩ v) b n := by
  refine ⟨fun i hi => ?_, fun o => by rw [frozen_set]; exact h.free o⟩
  by_cases e : i = j
  · subst e
    obtain ⟨u, hu⟩ := h.cell i hi
    exact ⟨v, World.cell?_setCell_same _ _ _ hu⟩
  · obtain ⟨u, hu⟩ := h.cell i hi
    exact ⟨u, by rw [World.cell?_setCell_other _ _ _ _ (by simp)]; exact hu⟩
/-- What was kept behind an append to a list of the call's own. -/
theorem Keeps.grown {W0 wr w' : World} {row : Option Nat} (hk : Keeps W0 wr) (hg : wr.grownBy w' row) (hr : ∀ k, row = some k → W0.heap.size ≤ k) : Keeps W0 w' :=
  Below.grown hk hg hk.size hr
section
variable {H : Type} {enc : TypeId × Value → H} {W : World} {n : Nat} {cs : List Value} {y : DataW H × List MemPlace} {base : Nat} {sp : Nat → Bool} {hd : Bool}
variable {v : Value} {d : DataW H} {ps : List MemPlace}
end
end Go.Proofs.YtkdnddckogbgaaaGreatDoor
namespace Go.Proofs.YtkdnddckogbgaaaGreatDoor
open Go.RowKit Go.Deep
set_option linter.unusedVariables false
set_option maxRecDepth 10000

abbrev OwnsB (w : World) (base : Nat) (v : Value) (L : List UInt8) : Prop := w.ownsRow base 5 1 v L.length (bys L)
theorem one_cells {u : Value} {L : List UInt8} (h : u ∈ bys L) : u.oneCell' = true := by
  unfold bys at h
  obtain ⟨x, _, rfl⟩ := List.mem_map.1 h
  rfl
theorem add_at (b off j : Nat) : (⟨b, off, none⟩ : Addr).add j = ⟨b, off + j, none⟩ := by
  unfold Addr.add
  by_cases h0 : j = 0 <;> simp [h0]
/-- append of a list of bytes to one of the call's own. -/
theorem app_bys {ops : Array Oper} {rest : List Oper} {o : Oper} {a : Act} {Q : Exit → Act → World → Prop} {wr : World} (hgd : o.guard = none) (s x : Operand)
    (ho : o.op = .call { callee := .builtin .append, args := #[s, x], argTypes := #[22, 22] }) (base : Nat) (v : Value) (L M : List UInt8) (hs : a.eval s = v) (xa : Option Addr) (c : Nat)
    (hx : a.eval x = .slice xa M.length c) (hM : Cells wr xa (bys M)) (hn : xa = none → c = 0) (hown : OwnsB wr base v L) (hl : L.length + M.length ≤ 4194304) (hbase : base ≤ wr.heap.size)
    (h : ∀ v' w', OwnsB w' base v' (L ++ M) → wr.grownBy w' v.ownBlock → wpList Tryz.prog ops Q rest (a.put o.dst v') w') :
    wpList Tryz.prog ops Q (o :: rest) a wr := by
  have hI := infoByte
  cases hi : Tryz.prog.info? 5 with
  | none => rw [hi] at hI; simp at hI
  | some i =>
    rw [hi] at hI
    simp at hI
    obtain ⟨hz, hsz, hby⟩ := hI
    cases xa with
    | none =>
      obtain rfl := hn rfl
      have hM0 : M = [] := by
        rcases hM with hM | ⟨_, _, e, _⟩
        · exact bys_nil.1 hM
        · cases e
      subst hM0
      refine wpList_append_own_none hgd s x 22 ho base 5 i 1 underBytes hi v L.length (bys L) hs hown hx ?_
      exact h v wr (by simpa using hown) ⟨rfl, rfl, rfl, Nat.le_refl _, fun _ _ _ => rfl⟩
    | some p =>
      refine wpList_append_own _ hgd s x 22 ho base 5 i _ 1 1 underBytes hi hz hsz hby rfl (by decide) v L.length (bys L) hs hown p M.length c (bys M) hx (by simp [bys_length]) ?_ (fun u hu => one_cells hu) ?_ ?_ hbase ?_
      · intro j u hj
        rcases hM with hM | ⟨b, off, e, hM⟩
        · rw [hM] at hj; simp at hj
        · obtain rfl := Option.some.inj e
          obtain ⟨hj', e'⟩ := List.getElem?_eq_some_iff.1 hj
          have := hM j hj'
          rw [e'] at this
          rw [← this, add_at]
      · simp only [maxLen]; omega
      · omega
      · intro v' w' h1 h2 _
        exact h v' w' (by unfold OwnsB; rw [bys_append, List.length_append]; exact h1) h2
theorem OwnsB.nil (w : World) (base : Nat) : OwnsB w base (.slice none 0 0) [] := by unfold OwnsB; exact World.ownsRow_nil w base 5 1
theorem cells_one (w : World) (x : UInt8) : Cells (w.alloc (.cells #[byV x] 5)) (some ⟨w.heap.size, 0, none⟩) (bys [x]) := by
  refine Or.inr ⟨_, 0, rfl, fun j hj => ?_⟩
  have : j = 0 := by simp [bys] at hj; omega
  subst this
  simp [bys]
theorem OwnsB.older {w : World} {base base' : Nat} {v : Value} {L : List UInt8} (h : OwnsB w base v L) (hb : base' ≤ base) : OwnsB w base' v L := by
  refine ⟨h.1, ?_⟩
  rcases h.2 with h' | ⟨g, cap, cur, rfl, hb', rest⟩
  · exact .inl h'
  · exact .inr ⟨g, cap, cur, rfl, by omega, rest⟩

theorem clone_k (a : Option Addr) (cap : Nat) (L : List UInt8) (w : World) (hc : Cells w a (bys L)) (hn : a = none → cap = 0) (hl : L.length ≤ 4194304) :
    Calls Tryz.prog 84 #[.slice a L.length cap] w fun e w' => ∃ v, e = .returned v ∧ OwnsB w' w.heap.size v L ∧ Keeps w w' := by
  have q22 : ∀ (w : World) (a : Option Addr) (n c : Nat), (binOp .eql 22 (.slice a n c) (.slice none 0 0)).run Tryz.prog w = .ok (.bool a.isNone) w := fun w a n c => Lib.run_eql_slice_nil w _ _ a n c 0 0 underBytes
  cases a with
  | none =>
    obtain rfl := hn rfl
    have h0 : L = [] := by
      rcases hc with h | ⟨_, _, e, _⟩
      · exact bys_nil.1 h
      · cases e
    subst h0
    clear hl hc hn
    go_enter Tryz.func84, Tryz.ntmps84
    go_wp2_with fail
    go_ret
    exact ⟨_, rfl, OwnsB.nil _ _, Keeps.refl _⟩
  | some p =>
    have HC := hide (hc.kept (Keeps.alloc (Keeps.refl w) (.cells #[] 5)))
    have HO := hide (World.ownsRow_made (base := w.heap.size) (e := 5) (size := 1) w #[] 0 (Nat.le_refl _) (by decide) rfl)
    have HL : Hid (([] : List UInt8).length + L.length ≤ 4194304) := by show _ ≤ _; simpa using hl
    clear hc hn hl
    go_enter Tryz.func84, Tryz.ntmps84
    go_wp2_with (at_builtin; refine app_bys rfl (.tmp 5) (.tmp 6) rfl w.heap.size _ [] L rfl (some p) cap rfl HC.out (fun e => nomatch e) HO.out HL.out (by simp) ?_; intro v' w' ho hg)
    go_ret
    refine ⟨_, rfl, by simpa using ho, ?_⟩
    exact Keeps.grown (Keeps.alloc (Keeps.refl w) _) hg (fun k hk => (HO.out.lt k hk).1)

/-- The digits of base 256, the highest first: the first k of s. -/
def digsTo (n s k : Nat) : List UInt8 := (List.range k).map fun i => UInt8.ofNat (n / 256 ^ (s - 1 - i))
def digs (n s : Nat) : List UInt8 := digsTo n s s
theorem digsTo_succ (n s k : Nat) : digsTo n s (k + 1) = digsTo n s k ++ [UInt8.ofNat (n / 256 ^ (s - 1 - k))] := by simp [digsTo, List.range_succ]
theorem digsTo_length (n s k : Nat) : (digsTo n s k).length = k := by simp [digsTo]
theorem digs_length (n s : Nat) : (digs n s).length = s := digsTo_length n s s
theorem pow_le6 {k : Nat} (h : k ≤ 6) : 256 ^ k ≤ 281474976710656 := Nat.le_trans (Nat.pow_le_pow_right (by decide) h) (by decide)

theorem pow_spec (s : Nat) (hs : s ≤ 7) (w : World) : Calls Tryz.prog 107 #[.int .i64 (s : Int)] w fun e w' => e = .returned (.int .i64 ((256 ^ s : Nat) : Int)) ∧ w' = w := by
  go_enter Tryz.func107, Tryz.ntmps107
  go_wp2_with fail
  go_loop [3, 4] (fun x y => ∃ k : Nat, k ≤ s ∧ x = .int .i64 ((256 ^ k : Nat) : Int) ∧ y = .int .i64 (k : Int)) (fun _ y => s - (intOf y).toNat)
  case atStart => exact ⟨0, by omega, rfl, rfl⟩
  case round =>
    obtain ⟨k, hk, rfl, rfl⟩ := hrel
    by_cases hlt : k < s
    · have hp := pow_le6 (k := k) (by omega)
      have HN : Hid (256 ^ (k + 1) = 256 ^ k * 256) := Nat.pow_succ ..
      generalize 256 ^ k = p at *
      go_wp2_with fail
      go_round
      case rel => exact ⟨k + 1, by omega, by rw [HN.out]; go_num, by go_num⟩
      case measure => simp [intOf]; omega
    · have e : k = s := by omega
      subst e
      go_wp2_with fail
      go_ret
      exact ⟨rfl, rfl⟩

theorem sizeok_k (s : Int) (w : World) : Calls Tryz.prog 117 #[.int .i64 s] w fun e w' => e = .returned (.bool (decide (1 ≤ s) && decide (s ≤ 7))) ∧ w' = w := by
  by_cases h1 : 1 ≤ s
  · have H : Hid ((decide (1 ≤ s) && decide (s ≤ 7)) = decide (s ≤ 7)) := by show _ = _; rw [decide_eq_true h1, Bool.true_and]
    go_enter Tryz.func117, Tryz.ntmps117
    go_wp2
    go_ret
    exact ⟨ret_b H.out.symm, rfl⟩
  · have H : Hid ((decide (1 ≤ s) && decide (s ≤ 7)) = false) := by show _ = _; rw [decide_eq_false h1, Bool.false_and]
    go_enter Tryz.func117, Tryz.ntmps117
    go_wp2
    go_ret
    exact ⟨ret_b H.out.symm, rfl⟩

/-- Is there a text of size bytes for n? -/
def putB (n size : Int) : Bool := decide (1 ≤ size) && decide (size ≤ 7) && decide (0 ≤ n) && decide (n < ((256 ^ size.toNat : Nat) : Int))
def putL (L : List UInt8) (n size : Int) : List UInt8 := if putB n size = true then L ++ digs n.toNat size.toNat else []

theorem digV (n j : Nat) : byV (UInt8.ofNat (n / 256 ^ j)) = .int .u8 ((n : Int) / 2 ^ (8 * j) % 256) := by
  rw [byV_ofNat]
  congr 1
  rw [show (2 : Int) ^ (8 * j) = ((2 ^ (8 * j) : Nat) : Int) by simp, Nat.pow_mul]
  rfl
set_option maxHeartbeats 1000000 in
theorem appnum_k (v : Value) (L : List UInt8) (n s base : Nat) (w : World) (hs : s ≤ 7) (hs1 : 1 ≤ s) (hn : n < 9223372036854775808) (hl : L.length ≤ 2097152) (ho : OwnsB w base v L) (hb : base ≤ w.heap.size) (W0 : World) (hb0 : W0.heap.size ≤ base) (hk0 : Keeps W0 w) :
    Calls Tryz.prog 70 #[v, .int .i64 (n : Int), .int .i64 (s : Int)] w fun e w' => ∃ v', e = .returned v' ∧ OwnsB w' base v' (L ++ digs n s) ∧ base ≤ w'.heap.size ∧ Keeps W0 w' := by
  have HO := hide ho
  have HK := hide hk0
  clear ho hk0
  go_enter Tryz.func70, Tryz.ntmps70
  go_wp2_with fail
  go_loopw [0, 7] (fun x y wr => ∃ k : Nat, k ≤ s ∧ y = .int .i64 (8 * ((s : Int) - 1 - k)) ∧ Hid (OwnsB wr base x (L ++ digsTo n s k)) ∧ base ≤ wr.heap.size ∧ Hid (Keeps W0 wr)) (fun _ y _ => (intOf y + 8).toNat)
  case atStart => exact ⟨0, by omega, by simp, by show OwnsB _ _ _ _; simpa [digsTo] using HO.out, hb, HK⟩
  case round =>
    obtain ⟨k, hk, rfl, HOr, hbr, HKr⟩ := hrel
    by_cases hlt : k < s
    · have hz : (0 : Int) ≤ 8 * ((s : Int) - 1 - k) := by omega
      have hz2 : 8 * ((s : Int) - 1 - k) ≤ 48 := by omega
      have hl2 : (L ++ digsTo n s k).length + [UInt8.ofNat (n / 256 ^ (s - 1 - k))].length ≤ 4194304 := by simp [digsTo_length]; omega
      have HL2 := hide hl2
      have HC1 : Hid (Cells (wr.alloc (.cells #[.int .u8 ((n : Int) / 2 ^ (8 * (s - 1 - k)) % 256)] 5)) (some ⟨wr.heap.size, 0, none⟩) (bys [UInt8.ofNat (n / 256 ^ (s - 1 - k))])) := by
        show Cells _ _ _
        rw [← digV]
        exact cells_one wr _
      have HO1 := hide (HOr.out.alloc (.cells #[.int .u8 ((n : Int) / 2 ^ (8 * (s - 1 - k)) % 256)] 5))
      have HK1 := hide (Keeps.alloc HKr.out (.cells #[.int .u8 ((n : Int) / 2 ^ (8 * (s - 1 - k)) % 256)] 5))
      clear hl2
      go_wp2_with (at_builtin; refine app_bys rfl (.tmp 15) (.tmp 20) rfl base _ (L ++ digsTo n s k) [UInt8.ofNat (n / 256 ^ (s - 1 - k))] rfl (some ⟨wr.heap.size, 0, none⟩) 1 rfl HC1.out (fun e => nomatch e) HO1.out HL2.out (by simp; omega) ?_; intro v' w' ho hg)
      go_roundw
      case rel =>
        refine ⟨k + 1, by omega, by congr 1; omega, ?_, ?_, Keeps.grown HK1.out hg (fun j hj => Nat.le_trans hb0 (HO1.out.lt j hj).1)⟩
        · show OwnsB _ _ _ _
          rw [digsTo_succ, ← List.append_assoc]; exact ho
        · have := hg.size
          simp at this
          omega
      case measure => simp [intOf]; omega
    · have e : k = s := by omega
      subst e
      go_wp2_with fail
      go_ret
      exact ⟨_, rfl, HOr.out, hbr, HKr.out⟩
end Go.Proofs.YtkdnddckogbgaaaGreatDoor
namespace Go.Proofs.YtkdnddckogbgaaaGreatDoor
open Go.RowKit Go.ChangeShapes Go.WideShapes Go.Deep
set_option linter.unusedVariables false
set_option maxRecDepth 100000

/-- A list of bytes: where it lies, and its bytes. -/
structure Bs where
  a : Option Addr
  cap : Nat
  L : List UInt8
def Bs.v (b : Bs) : Value := .slice b.a b.L.length b.cap
def Bs.cells (b : Bs) : List Value := [b.v]
def Bs.seg (b : Bs) : Seg := (b.a, bys b.L)
def ccells (cs : List Bs) : List Value := cs.flatMap Bs.cells
def Bs.fit (b : Bs) : Prop := (b.a = none → b.cap = 0) ∧ b.L.length ≤ b.cap
/-- A write that waits. -/
structure Wr where
  i : Int
  b : Bs
def Wr.cells (x : Wr) : List Value := [.int .i64 x.i, x.b.v]
def wcells (ds : List Wr) : List Value := ds.flatMap Wr.cells
/-- What a disk says. -/
structure DkM where
  cells : List (List UInt8)
  dirty : List (Int × List UInt8)
section
variable {H : Type} {enc : TypeId × Value → H} {W : World} {n : Nat} {cs : List Value} {y : DataW H × List MemPlace} {base : Nat} {sp : Nat → Bool} {hd : Bool}
variable {v : Value} {d : DataW H} {ps : List MemPlace}
end
end Go.Proofs.YtkdnddckogbgaaaGreatDoor
