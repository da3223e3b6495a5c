/- Texts of the verifier, joined: Keep, Pd, Open, Mem, Lst0, Int0, Jam2, Bk, Tn, Pf, BkA, BkB, TnR. -/
import Derived.Test.YtkgpoghoilffhaaGreatDoorProg
import GoSem.Claim
import GoSem.ClaimJoined
import GoSem.ClaimMapViews
import Derived.JoinedTies
import Derived.KernelRfl
import Derived.WalkKit
import Derived.WalkSpells
import Derived.WalkSmall
import Derived.Deep.QuietTactic
import Derived.BigQuiet
import Derived.RowKit3
import Derived.Stop.LaidErr
import Derived.MakeChecks
import Derived.Deep.Slices
import Derived.Deep.OwnRows
import Derived.Laws.OwnMore
import Derived.OpenShut
import Derived.ChangeSame
import Derived.WideShapes
import Derived.Below
import Derived.Deep.Strs
import Derived.Deep.DrawnRows
import Derived.Deep.Heap
namespace Go.Proofs.YtkgpoghoilffhaaGreatDoor
open Go.RowKit Go.ChangeShapes

/-- What was there is as it was. -/
def Keeps (w w' : World) : Prop := Below w.heap.size w w'
theorem Keeps.refl (w : World) : Keeps w w := Below.refl _ _
theorem Keeps.trans {a b c : World} (h : Keeps a b) (k : Keeps b c) : Keeps a c := Below.trans h (Below.mono k h.size)
theorem Keeps.drewN {a b : World} (h : Keeps a b) (n : Nat) : Keeps a (b.drewN n) := below_drewN h n
theorem Keeps.cell {w w' : World} (h : Keeps w w') {p : Addr} {v : Value} (hc : w.cell? p = some v) : w'.cell? p = some v := by
  have hlt : p.block < w.heap.size := by
    rcases Nat.lt_or_ge p.block w.heap.size with h' | h'
    · exact h'
    · simp [World.cell?, Array.getElem?_eq_none h'] at hc
  rw [← hc]; exact Below.cell h hlt

theorem cell_of_var {W : World} {n : String} {g : Nat} {v : Value} (hg : Tryz.prog.globalNamed n = some g) (h : W.var? Tryz.prog n = some #[v]) : W.cell? ⟨g, 0, none⟩ = some v := by
  simpa using World.var?_cell hg h 0
theorem var_kept {W W' : World} (h : Keeps W W') {n : String} {cs : Array Value} (hv : W.var? Tryz.prog n = some cs) : W'.var? Tryz.prog n = some cs := by
  unfold World.var? at hv ⊢
  cases hg : Tryz.prog.globalNamed n with
  | none => simp [hg] at hv
  | some g =>
    simp only [hg, Option.bind_some] at hv ⊢
    have hlt : g < W.heap.size := by
      rcases Nat.lt_or_ge g W.heap.size with h' | h'
      · exact h'
      · simp [Array.getElem?_eq_none h'] at hv
    rw [Below.block h g hlt]; exact hv
theorem hide {p : Prop} (h : p) : Hid p := h
theorem unhide {p : Prop} (h : Hid p) : p := h
theorem Keeps.alloc {a b : World} (h : Keeps a b) (o : Obj) : Keeps a (b.alloc o) := Below.alloc h h.size o
theorem Keeps.setCell {a b : World} (h : Keeps a b) {p : Addr} (hp : a.heap.size ≤ p.block) (u : Value) : Keeps a (b.setCell p u) := Below.setCell h hp u
theorem Keeps.drew {a b : World} (h : Keeps a b) : Keeps a b.drew := Below.drew h
theorem Keeps.old {W w1 : World} (hb : Keeps W w1) : ∀ b o, b < W.heap.size → w1.cell? ⟨b, o, none⟩ = W.cell? ⟨b, o, none⟩ := fun b o h => Below.cell (p := ⟨b, o, none⟩) hb h
theorem lt_of_cell {w : World} {g o : Nat} {v : Value} (hg : w.cell? ⟨g, o, none⟩ = some v) : g < w.heap.size := by
  rcases Nat.lt_or_ge g w.heap.size with h' | h'
  · exact h'
  · simp [World.cell?, Array.getElem?_eq_none h'] at hg
/-! A region that draws its order, whose operations only read and whose callees make new memory at most: walked once, in the order of the text. -/
abbrev Gt : Type := List (Option Obj)
def Gt.more (t : Gt) : Array Obj := (t.filterMap id).toArray
def Gt.count (t : Gt) : Nat := (t.filter Option.isNone).length
def gt (m : Array Obj) (d : Nat) : Gt := m.toList.map some ++ List.replicate d none
theorem gt_more (m : Array Obj) (d : Nat) : Gt.more (gt m d) = m := by
  simp [Gt.more, gt, List.filterMap_append, List.filterMap_map]
theorem gt_count (m : Array Obj) (d : Nat) : Gt.count (gt m d) = d := by
  simp [Gt.count, gt, List.filter_append, List.filter_map]
def gr (W : World) (t : Gt) : World := { W with heap := W.heap ++ Gt.more t, drawn := Gt.count t }
theorem gr_keeps (W : World) (t : Gt) : Keeps W (gr W t) :=
  ⟨rfl, rfl, rfl, by simp [gr], fun i hi => by
    show (W.heap ++ Gt.more t)[i]? = W.heap[i]?
    rw [Array.getElem?_append_left hi]⟩
theorem keeps_gr {W w' : World} (h : Keeps W w') : ∃ t, w' = gr W t := by
  refine ⟨gt (w'.heap.extract W.heap.size w'.heap.size) w'.drawn, ?_⟩
  have e : w'.heap = W.heap ++ w'.heap.extract W.heap.size w'.heap.size := by
    apply Array.ext_getElem?
    intro i
    by_cases hi : i < W.heap.size
    · rw [Array.getElem?_append_left hi]; exact h.block i hi
    · rw [Array.getElem?_append_right (by omega), Array.getElem?_extract]
      by_cases hj : i < w'.heap.size
      · rw [if_pos (by omega)]; congr 1; omega
      · rw [if_neg (by omega), Array.getElem?_eq_none (by omega)]
  have h1 := h.os; have h2 := h.tape; have h3 := h.output
  cases w' with
  | mk heap tape drawn os output =>
    simp only at e h1 h2 h3
    unfold gr
    simp only [gt_more, gt_count, ← h1, ← h2, ← h3, ← e]
theorem gr_gr {W w' : World} {t : Gt} (h : Keeps (gr W t) w') : ∃ t, w' = gr W t := keeps_gr ((gr_keeps W t).trans h)
theorem gr_cell {W : World} {p : Addr} {v : Value} (h : W.cell? p = some v) (t : Gt) : (gr W t).cell? p = some v := (gr_keeps W t).cell h
theorem Keeps.of_gr {W w' : World} (h : ∃ t, w' = gr W t) : Keeps W w' := by
  obtain ⟨t, rfl⟩ := h
  exact gr_keeps W t
theorem gr_call {P : Program} {f : FuncId} {args : Array Value} {W : World} {t : Gt} {v : Value}
    (h : Calls P f args (gr W t) fun e w' => e = .returned v ∧ Keeps (gr W t) w') : Calls P f args (gr W t) fun e w'' => e = .returned v ∧ ∃ t, w'' = gr W t :=
  h.mono fun _ _ ⟨he, hk⟩ => ⟨he, gr_gr hk⟩
theorem region_gr {P : Program} {id : Nat} {Q : Exit → Act → World → Prop} {a : Act} {w : World} {l : List Oper} (hm : P.follows .mixedOrders = true) (hB : Region.lexB .any l.toArray = true)
    (h : wpQuiet P l.toArray (fun w' => ∃ t, w' = gr w t) (fun a' => ∀ w', (∃ t, w' = gr w t) → Q .normal a' w') l a) : (Code.region id l.toArray true).wp P Q a w :=
  wp_region_quiet (C := fun w' => ∃ t, w' = gr w t) hm hB ⟨gt #[] (w.drawn + 1), by simp [gr, gt_more, gt_count]⟩ (by simpa using h)

/-- Is it an amount? -/
def amtB (n : Int) : Bool := decide (0 ≤ n) && decide (n ≤ 1125899906842624)
theorem amtB_yes {n : Int} (h : 0 ≤ n) (h' : n ≤ 1125899906842624) : amtB n = true := by simp [amtB]; omega
theorem amtB_no {n : Int} (h : n < 0 ∨ 1125899906842624 < n) : amtB n = false := by simp [amtB]; omega
theorem ret_b {b b' : Bool} (h : b = b') : Ending.returned (.bool b) = .returned (.bool b') := by rw [h]
end Go.Proofs.YtkgpoghoilffhaaGreatDoor
namespace Go.Proofs.YtkgpoghoilffhaaGreatDoor
open Go.RowKit
set_option linter.unusedVariables false
set_option linter.unusedSimpArgs false
set_option maxRecDepth 10000

/-- Are these limits? -/
def bandB (lo hi : Int) : Bool := decide (0 ≤ lo) && decide (lo ≤ hi) && decide (hi ≤ 100)
theorem bandB_true {lo hi : Int} (h : bandB lo hi = true) : 0 ≤ lo ∧ lo ≤ hi ∧ hi ≤ 100 := by simp [bandB] at h; omega
theorem bandB_yes {lo hi : Int} (h0 : 0 ≤ lo) (h1 : lo ≤ hi) (h2 : hi ≤ 100) : bandB lo hi = true := by simp [bandB]; omega
theorem bandB_no {lo hi : Int} (h : lo < 0 ∨ hi < lo ∨ 100 < hi) : bandB lo hi = false := by
  cases e : bandB lo hi
  · rfl
  · have := bandB_true e; omega
end Go.Proofs.YtkgpoghoilffhaaGreatDoor
namespace Go.Proofs.YtkgpoghoilffhaaGreatDoor
open Go.RowKit Go.Deep
set_option linter.unusedVariables false

/-- The cells of a list that lies in memory. -/
def Cells (w : World) (a : Option Addr) (xs : List Value) : Prop := xs = [] ∨ ∃ b off, a = some ⟨b, off, none⟩ ∧ ∀ j (h : j < xs.length), w.cell? ⟨b, off + j, none⟩ = some xs[j]
theorem Cells.kept {w w' : World} {a : Option Addr} {xs : List Value} (h : Cells w a xs) (hk : Keeps w w') : Cells w' a xs := by
  rcases h with h | ⟨b, off, e, h⟩
  · exact Or.inl h
  · exact Or.inr ⟨b, off, e, fun j hj => hk.cell (h j hj)⟩

theorem Cells.nil (w : World) (a : Option Addr) : Cells w a [] := Or.inl rfl
section
variable {H : Type} {enc : TypeId × Value → H} {P : Program} {w : World} {base : Nat} {spare : Nat → Bool} {held : Bool}
end
end Go.Proofs.YtkgpoghoilffhaaGreatDoor
namespace Go.Proofs.YtkgpoghoilffhaaGreatDoor
open Go.RowKit Go.Deep
set_option linter.unusedVariables false

/-- Of what was there only blocks of fs have turned. -/
structure Turn (fs : List Nat) (w w' : World) : Prop where
  os : w'.os = w.os
  tape : w'.tape = w.tape
  output : w'.output = w.output
  size : w.heap.size ≤ w'.heap.size
  block : ∀ k, k < w.heap.size → k ∉ fs → w'.heap[k]? = w.heap[k]?
theorem Turn.refl (fs : List Nat) (w : World) : Turn fs w w := ⟨rfl, rfl, rfl, Nat.le_refl _, fun _ _ _ => rfl⟩
theorem Turn.of_keeps {w w' : World} (h : Keeps w w') (fs : List Nat) : Turn fs w w' := ⟨h.os, h.tape, h.output, h.size, fun k hk _ => h.block k hk⟩
theorem Turn.trans {fs gs : List Nat} {a b c : World} (h : Turn fs a b) (k : Turn gs b c) : Turn (fs ++ gs) a c :=
  ⟨k.os.trans h.os, k.tape.trans h.tape, k.output.trans h.output, Nat.le_trans h.size k.size, fun i hi hn => by
    simp only [List.mem_append, not_or] at hn
    exact (k.block i (Nat.lt_of_lt_of_le hi h.size) hn.2).trans (h.block i hi hn.1)⟩
theorem Turn.mono {fs gs : List Nat} {a b : World} (h : Turn fs a b) (hs : ∀ x ∈ fs, x ∈ gs) : Turn gs a b :=
  ⟨h.os, h.tape, h.output, h.size, fun i hi hn => h.block i hi (fun hx => hn (hs i hx))⟩
theorem Turn.trans' {fs : List Nat} {a b c : World} (h : Turn fs a b) (k : Turn fs b c) : Turn fs a c := (h.trans k).mono (by simp)
theorem Turn.keeps {fs : List Nat} {W w w' : World} (h : Turn fs w w') (hk : Keeps W w) (hf : ∀ b ∈ fs, W.heap.size ≤ b) : Keeps W w' :=
  ⟨h.os.trans hk.os, h.tape.trans hk.tape, h.output.trans hk.output, Nat.le_trans hk.size h.size, fun i hi =>
    (h.block i (Nat.lt_of_lt_of_le hi hk.size) (fun hx => by have := hf i hx; omega)).trans (hk.block i hi)⟩
theorem Turn.set {fs : List Nat} {w : World} {a : Addr} (ha : a.block ∈ fs) (v : Value) : Turn fs w (w.setCell a v) :=
  ⟨rfl, rfl, rfl, by rw [nblk_setCell]; exact Nat.le_refl _, fun k hk hn => blk_setCell_other _ _ _ _ (fun e => hn (e ▸ ha))⟩
theorem Turn.of_grown {w w' : World} {row : Option Nat} (h : w.grownBy w' row) {fs : List Nat} (hr : ∀ k, row = some k → k ∈ fs) : Turn fs w w' :=
  ⟨h.os, h.tape, h.output, h.size, fun k hk hn => h.block k hk (fun e => hn (hr k e.symm))⟩
theorem Turn.cell {fs : List Nat} {w w' : World} (h : Turn fs w w') {p : Addr} (hp : p.block ∉ fs) {v : Value} (hc : w.cell? p = some v) : w'.cell? p = some v := by
  rw [← hc]
  refine World.cell?_of_block (w := w) (h.block p.block ?_ hp)
  rcases Nat.lt_or_ge p.block w.heap.size with h' | h'
  · exact h'
  · simp [World.cell?, Array.getElem?_eq_none h'] at hc

/-- A list in memory: where, and its cells. -/
abbrev Seg := Option Addr × List Value
def fpS (s : Seg) : List Nat := if s.2 = [] then [] else match s.1 with | some p => [p.block] | none => []
/-- The blocks on which the lists stand. -/
def fp (S : List Seg) : List Nat := S.flatMap fpS
theorem fp_cons (s : Seg) (S : List Seg) : fp (s :: S) = fpS s ++ fp S := rfl
theorem fp_append (S T : List Seg) : fp (S ++ T) = fp S ++ fp T := by simp [fp]
def Mem (w : World) (S : List Seg) : Prop := ∀ s ∈ S, Cells w s.1 s.2
theorem Mem.nil (w : World) : Mem w [] := fun s h => absurd h (by simp)
theorem mem_append {w : World} {S T : List Seg} : Mem w (S ++ T) ↔ Mem w S ∧ Mem w T := by
  simp only [Mem, List.mem_append]
  exact ⟨fun h => ⟨fun s hs => h s (Or.inl hs), fun s hs => h s (Or.inr hs)⟩, fun h s hs => hs.elim (h.1 s) (h.2 s)⟩
theorem Cells.turn {w w' : World} {s : Seg} (h : Cells w s.1 s.2) {fs : List Nat} (hk : Turn fs w w') (hd : ∀ b ∈ fpS s, b ∉ fs) : Cells w' s.1 s.2 := by
  rcases h with h | ⟨b, off, e, h⟩
  · exact Or.inl h
  · by_cases h0 : s.2 = []
    · exact Or.inl h0
    · refine Or.inr ⟨b, off, e, fun j hj => hk.cell (hd b ?_) (h j hj)⟩
      simp [fpS, h0, e]
theorem Mem.turn {w w' : World} {S : List Seg} (h : Mem w S) {fs : List Nat} (hk : Turn fs w w') (hd : ∀ b ∈ fp S, b ∉ fs) : Mem w' S :=
  fun s hs => (h s hs).turn hk (fun b hb => hd b (List.mem_flatMap.2 ⟨s, hs, hb⟩))
theorem Cells.lt {w : World} {s : Seg} (h : Cells w s.1 s.2) : ∀ b ∈ fpS s, b < w.heap.size := by
  intro b hb
  rcases h with h | ⟨g, off, e, h⟩
  · simp [fpS, h] at hb
  · by_cases h0 : s.2 = []
    · simp [fpS, h0] at hb
    · simp [fpS, h0, e] at hb
      subst hb
      exact lt_of_cell (h 0 (List.length_pos_iff.2 h0))
theorem Mem.lt {w : World} {S : List Seg} (h : Mem w S) : ∀ b ∈ fp S, b < w.heap.size := by
  intro b hb
  obtain ⟨s, hs, hb⟩ := List.mem_flatMap.1 hb
  exact (h s hs).lt b hb

/-- None of the blocks is frozen. -/
def Free (w : World) (fs : List Nat) : Prop := ∀ b ∈ fs, ∀ o, w.frozen? ⟨b, o, none⟩ = false
theorem Free.turn {w w' : World} {fs gs : List Nat} (h : Free w fs) (hk : Turn gs w w') (hd : ∀ b ∈ fs, b ∉ gs) (hl : ∀ b ∈ fs, b < w.heap.size) : Free w' fs := fun b hb o => by
  rw [← h b hb o]
  exact World.frozen?_of_block (w := w) (hk.block b (hl b hb) (hd b hb))
theorem frozen_set (w : World) (a p : Addr) (v : Value) : (w.setCell a v).frozen? p = w.frozen? p := by simp
/-- Lists of one's own: no two share a block, none is frozen. -/
structure Own (w : World) (S : List Seg) : Prop where
  mem : Mem w S
  nd : (fp S).Nodup
  free : Free w (fp S)
theorem Own.nil (w : World) : Own w [] := ⟨Mem.nil w, by simp [fp], fun b hb => absurd hb (by simp [fp])⟩
theorem Own.turn {w w' : World} {S : List Seg} (h : Own w S) {fs : List Nat} (hk : Turn fs w w') (hd : ∀ b ∈ fp S, b ∉ fs) : Own w' S :=
  ⟨h.mem.turn hk hd, h.nd, h.free.turn hk hd h.mem.lt⟩
theorem Own.kept {w w' : World} {S : List Seg} (h : Own w S) (hk : Keeps w w') : Own w' S := h.turn (Turn.of_keeps hk []) (by simp)
theorem Own.left {w : World} {S T : List Seg} (h : Own w (S ++ T)) : Own w S :=
  ⟨(mem_append.1 h.mem).1, by have := h.nd; rw [fp_append] at this; exact (List.nodup_append.1 this).1, fun b hb => h.free b (by rw [fp_append]; exact List.mem_append_left _ hb)⟩
theorem Own.right {w : World} {S T : List Seg} (h : Own w (S ++ T)) : Own w T :=
  ⟨(mem_append.1 h.mem).2, by have := h.nd; rw [fp_append] at this; exact (List.nodup_append.1 this).2.1, fun b hb => h.free b (by rw [fp_append]; exact List.mem_append_right _ hb)⟩
theorem Own.apart {w : World} {S T : List Seg} (h : Own w (S ++ T)) : ∀ b ∈ fp S, b ∉ fp T := by
  have := h.nd
  rw [fp_append] at this
  exact fun b hb hb' => (List.nodup_append.1 this).2.2 b hb b hb' rfl
theorem Own.append {w : World} {S T : List Seg} (h : Own w S) (k : Own w T) (hd : ∀ b ∈ fp S, b ∉ fp T) : Own w (S ++ T) :=
  ⟨mem_append.2 ⟨h.mem, k.mem⟩, by rw [fp_append]; exact List.nodup_append.2 ⟨h.nd, k.nd, fun a ha b hb e => hd a ha (e ▸ hb)⟩, fun b hb => by
    rw [fp_append] at hb
    rcases List.mem_append.1 hb with hb | hb
    · exact h.free b hb
    · exact k.free b hb⟩
/-- Lists of one's own that were made behind w. -/
structure Born (w w' : World) (S : List Seg) : Prop extends Own w' S where
  new : ∀ b ∈ fp S, w.heap.size ≤ b
theorem Born.nil (w w' : World) : Born w w' [] := ⟨Own.nil w', fun b hb => absurd hb (by simp [fp])⟩
theorem Born.old {w0 w w' : World} {S : List Seg} (h : Born w w' S) (hk : Keeps w0 w) : Born w0 w' S := ⟨h.toOwn, fun b hb => Nat.le_trans hk.size (h.new b hb)⟩
theorem Born.kept {w w' w'' : World} {S : List Seg} (h : Born w w' S) (hk : Keeps w' w'') : Born w w'' S := ⟨h.toOwn.kept hk, h.new⟩
theorem Born.turn {w w' w'' : World} {S : List Seg} (h : Born w w' S) {fs : List Nat} (hk : Turn fs w' w'') (hd : ∀ b ∈ fp S, b ∉ fs) : Born w w'' S := ⟨h.toOwn.turn hk hd, h.new⟩
/-- What was there ahead of a birth shares no block with what was born. -/
theorem Born.apart {w w' : World} {S T : List Seg} (h : Born w w' S) (k : Mem w T) : ∀ b ∈ fp T, b ∉ fp S := fun b hb hb' => by
  have := h.new b hb'
  have := k.lt b hb
  omega
theorem Born.apart' {w w' : World} {S T : List Seg} (h : Born w w' S) (k : Mem w T) : ∀ b ∈ fp S, b ∉ fp T := fun b hb hb' => h.apart k b hb' hb
theorem fp_one (a : Option Addr) (xs : List Value) : fp [(a, xs)] = fpS (a, xs) := by simp [fp]
theorem fpS_some {b off : Nat} {xs : List Value} (h : xs ≠ []) : fpS (some ⟨b, off, none⟩, xs) = [b] := by simp [fpS, h]
theorem fpS_len {a : Option Addr} {xs ys : List Value} (h : xs.length = ys.length) : fpS (a, xs) = fpS (a, ys) := by
  unfold fpS
  by_cases h0 : xs = []
  · have : ys = [] := List.length_eq_zero_iff.1 (by rw [← h, h0]; rfl)
    simp [h0, this]
  · have : ys ≠ [] := fun e => h0 (List.length_eq_zero_iff.1 (by rw [h, e]; rfl))
    simp [h0, this]
/-- A row that the call itself made, as a segment. -/
theorem Own.of_owns {w : World} {base n : Nat} {e : TypeId} {sz : Nat} {v : Value} {xs : List Value} (h : w.ownsRow base e sz v n xs) :
    ∃ (a : Option Addr) (cap : Nat), v = .slice a n cap ∧ n ≤ cap ∧ cap ≤ maxLen ∧ (a = none → cap = 0) ∧ Own w [(a, xs)] ∧ ∀ b ∈ fp [(a, xs)], base ≤ b := by
  rcases h.2 with ⟨rfl, h'⟩ | ⟨g, cap, cur, rfl, hb, hg, hn, hm, hsz, ht⟩
  · have hx : xs = [] := List.length_eq_zero_iff.1 (by rw [h.1, h']; simp)
    subst hx h'
    refine ⟨none, 0, rfl, Nat.le_refl _, Nat.zero_le _, fun _ => rfl, ⟨?_, by simp [fp, fpS], fun b hb => absurd hb (by simp [fp, fpS])⟩, fun b hb => absurd hb (by simp [fp, fpS])⟩
    intro s hs
    rw [List.mem_singleton.1 hs]
    exact Cells.nil _ _
  · have hfz : ∀ o, w.frozen? ⟨g, o, none⟩ = false := fun o => by simp [World.frozen?, hg]
    refine ⟨_, cap, rfl, hn, hm, fun e => (nomatch e), ⟨?_, ?_, ?_⟩, ?_⟩
    · intro s hs
      rw [List.mem_singleton.1 hs]
      refine Or.inr ⟨g, 0, rfl, fun j hj => ?_⟩
      rw [Nat.zero_add]
      have h1 : w.cell? ⟨g, j, none⟩ = cur[j]? := by simp [World.cell?, hg]
      have hj' : j < xs.length := hj
      rw [h1, ← List.getElem?_eq_getElem hj]
      show _ = xs[j]?
      rw [← ht, List.getElem?_take]
      rw [h.1] at hj'
      rw [if_pos hj']
      simp
    · by_cases h0 : xs = [] <;> simp [fp, fpS, h0]
    · intro b hb'
      by_cases h0 : xs = []
      · simp [fp, fpS, h0] at hb'
      · simp [fp, fpS, h0] at hb'
        subst hb'
        exact hfz
    · intro b hb'
      by_cases h0 : xs = []
      · simp [fp, fpS, h0] at hb'
      · simp [fp, fpS, h0] at hb'
        subst hb'
        exact hb
theorem Own.one {w : World} {a : Option Addr} {xs : List Value} (h : Own w [(a, xs)]) : Cells w a xs := h.mem (a, xs) (by simp)
/-- A row that the call itself made since w, as a segment. -/
theorem Born.of_owns {w w' : World} {n : Nat} {e : TypeId} {sz : Nat} {v : Value} {xs : List Value} (h : w'.ownsRow w.heap.size e sz v n xs) :
    ∃ (a : Option Addr) (cap : Nat), v = .slice a n cap ∧ ((a = none → cap = 0) ∧ n ≤ cap) ∧ Born w w' [(a, xs)] := by
  obtain ⟨a, cap, hv, hl, _, hn, ho, hb⟩ := Own.of_owns h
  exact ⟨a, cap, hv, ⟨hn, hl⟩, ho, hb⟩
end Go.Proofs.YtkgpoghoilffhaaGreatDoor
namespace Go.Proofs.YtkgpoghoilffhaaGreatDoor
open Go.RowKit Go.ChangeShapes Go.WideShapes Go.Deep
set_option linter.unusedVariables false
set_option maxRecDepth 100000

section
variable {α : Type} {f : α → List Value} {sz : Nat}
theorem flatMap_len (hf : ∀ x, (f x).length = sz) (xs : List α) : (xs.flatMap f).length = xs.length * sz := by
  induction xs with
  | nil => simp
  | cons x t ih => simp [ih, hf, Nat.add_mul]; omega
theorem flatMap_at (hf : ∀ x, (f x).length = sz) : ∀ (xs : List α) (i : Nat) (hi : i < xs.length) (r : Nat), r < sz → (xs.flatMap f)[i * sz + r]? = (f xs[i])[r]?
  | [], i, h, _, _ => absurd h (Nat.not_lt_zero i)
  | x :: t, 0, h, r, hr => by
    simp only [List.flatMap_cons, Nat.zero_mul, Nat.zero_add, List.getElem_cons_zero]
    exact List.getElem?_append_left (by rw [hf]; exact hr)
  | x :: t, i + 1, h, r, hr => by
    have := flatMap_at hf t i (by simpa using h) r hr
    simp only [List.flatMap_cons, List.getElem_cons_succ]
    rw [List.getElem?_append_right (by rw [hf, Nat.add_mul]; omega), hf, show (i + 1) * sz + r - sz = i * sz + r by rw [Nat.add_mul]; omega]
    exact this
/-- Cell r of element i of a list in memory. -/
theorem elem_at {w : World} {a : Option Addr} {xs : List α} (hf : ∀ x, (f x).length = sz) (h : Cells w a (xs.flatMap f)) (i : Nat) (hi : i < xs.length) (hs : 0 < sz) :
    ∃ b off, a = some ⟨b, off, none⟩ ∧ ∀ r (hr : r < (f xs[i]).length), w.cell? ⟨b, off + i * sz + r, none⟩ = some ((f xs[i])[r]) := by
  have hl := flatMap_len hf xs
  have hle : i * sz + sz ≤ xs.length * sz := by
    have := Nat.mul_le_mul_right sz (show i + 1 ≤ xs.length from hi)
    rw [Nat.add_mul] at this; omega
  rcases h with h | ⟨b, off, e, h⟩
  · rw [h] at hl
    simp at hl
    omega
  · refine ⟨b, off, e, fun r hr => ?_⟩
    have hr' : r < sz := by rw [hf] at hr; exact hr
    have g := flatMap_at hf xs i hi r hr'
    rw [List.getElem?_eq_getElem hr, List.getElem?_eq_getElem (by omega)] at g
    rw [Nat.add_assoc, h (i * sz + r) (by omega)]
    exact g
end
/-- One list of many has turned. -/
theorem Own.upd {w w' : World} {A B : List Seg} {s s' : Seg} (h : Own w (A ++ s :: B)) (hs : Own w' [s']) (hf : fpS s' = fpS s) (ht : Turn (fp [s]) w w') : Own w' (A ++ s' :: B) := by
  have hA := h.left
  have hB : Own w (s :: B) := h.right
  have hsB : Own w ([s] ++ B) := hB
  have e1 : fp [s] = fpS s := by simp [fp]
  have dA : ∀ b ∈ fp A, b ∉ fp [s] := fun b hb hb' => h.apart b hb (by rw [show s :: B = [s] ++ B from rfl, fp_append]; exact List.mem_append_left _ hb')
  have dB : ∀ b ∈ fp B, b ∉ fp [s] := fun b hb hb' => hsB.apart b hb' hb
  have hA' := hA.turn ht dA
  have hB' := hsB.right.turn ht dB
  have e2 : fp [s'] = fp [s] := by simp [fp, hf]
  have hsB' : Own w' ([s'] ++ B) := hs.append hB' (fun b hb => by rw [e2] at hb; exact hsB.apart b hb)
  refine hA'.append hsB' (fun b hb hb' => ?_)
  refine h.apart b hb ?_
  rw [fp_cons] at hb' ⊢
  rw [← hf]; exact hb'
theorem fp_upd (A B : List Seg) {s s' : Seg} (hf : fpS s' = fpS s) : fp (A ++ s' :: B) = fp (A ++ s :: B) := by
  rw [fp_append, fp_append, fp_cons, fp_cons, hf]
/-- What was kept behind an append to a list of the call's own. -/
theorem Keeps.grown {W0 wr w' : World} {row : Option Nat} (hk : Keeps W0 wr) (hg : wr.grownBy w' row) (hr : ∀ k, row = some k → W0.heap.size ≤ k) : Keeps W0 w' :=
  Below.grown hk hg hk.size hr
section
variable {H : Type} {enc : TypeId × Value → H} {W : World} {n : Nat} {cs : List Value} {y : DataW H × List MemPlace} {base : Nat} {sp : Nat → Bool} {hd : Bool}
variable {v : Value} {d : DataW H} {ps : List MemPlace}
end
end Go.Proofs.YtkgpoghoilffhaaGreatDoor
namespace Go.Proofs.YtkgpoghoilffhaaGreatDoor
open Go.RowKit Go.Deep
set_option linter.unusedVariables false
set_option maxRecDepth 10000

def its (K : List Int) : List Value := K.map fun k => .int .i64 k
theorem its_length (K : List Int) : (its K).length = K.length := by simp [its]
theorem its_at {w : World} {a : Option Addr} {K : List Int} (h : Cells w a (its K)) (i : Nat) (hi : i < K.length) : ∃ b off, a = some ⟨b, off, none⟩ ∧ w.cell? ⟨b, off + i, none⟩ = some (.int .i64 K[i]) := by
  rcases h with h | ⟨b, off, e, h⟩
  · have : K = [] := by simpa [its] using h
    subst this; simp at hi
  · refine ⟨b, off, e, ?_⟩
    rw [h i (by rw [its_length]; exact hi)]
    simp [its]
theorem its_nil {K : List Int} : its K = [] ↔ K = [] := by simp [its]
theorem its_append (K M : List Int) : its (K ++ M) = its K ++ its M := by simp [its]
theorem infoInt : (Tryz.prog.info? 3).map (fun i => (i.zero, i.size, i.bytes)) = some (some (.int .i64 0), 1, 8) := by kernel_rfl
theorem underInts : Tryz.prog.underlying 29 = some (.slice 3) := by kernel_rfl
abbrev OwnsI (w : World) (base : Nat) (v : Value) (L : List Int) : Prop := w.ownsRow base 3 1 v L.length (its L)
/-- append of a list of numbers to one of the call's own. -/
theorem app_its {ops : Array Oper} {rest : List Oper} {o : Oper} {a : Act} {Q : Exit → Act → World → Prop} {wr : World} (hgd : o.guard = none) (s x : Operand)
    (ho : o.op = .call { callee := .builtin .append, args := #[s, x], argTypes := #[29, 29] }) (base : Nat) (v : Value) (L M : List Int) (hs : a.eval s = v) (p : Addr) (c : Nat)
    (hx : a.eval x = .slice (some p) M.length c) (hM : ∀ j u, (its M)[j]? = some u → wr.cell? (p.add j) = some u) (hown : OwnsI wr base v L) (hl : L.length + M.length ≤ 1048576) (hbase : base ≤ wr.heap.size)
    (h : ∀ v' w', OwnsI w' base v' (L ++ M) → wr.grownBy w' v.ownBlock → (v ≠ .slice none 0 0 → v' ≠ .slice none 0 0) → wpList Tryz.prog ops Q rest (a.put o.dst v') w') :
    wpList Tryz.prog ops Q (o :: rest) a wr := by
  have hI := infoInt
  cases hi : Tryz.prog.info? 3 with
  | none => rw [hi] at hI; simp at hI
  | some i =>
    rw [hi] at hI
    simp at hI
    obtain ⟨hz, hsz, hby⟩ := hI
    refine wpList_append_own _ hgd s x 29 ho base 3 i _ 1 8 underInts hi hz hsz hby rfl (by decide) v L.length (its L) hs hown p M.length c (its M) hx (by simp [its_length]) hM (fun u hu => ?_) ?_ ?_ hbase ?_
    · unfold its at hu
      obtain ⟨k, _, rfl⟩ := List.mem_map.1 hu
      rfl
    · simp only [maxLen]; omega
    · omega
    · intro v' w' h1 h2 h3
      exact h v' w' (by unfold OwnsI; rw [its_append, List.length_append]; exact h1) h2 (fun hn he => hn (h3.1 he).1)
end Go.Proofs.YtkgpoghoilffhaaGreatDoor
namespace Go.Proofs.YtkgpoghoilffhaaGreatDoor
open Go.RowKit Go.Deep
set_option linter.unusedVariables false

theorem amt_impl (n : Int) (w : World) : Calls Tryz.prog 67 #[.int .i64 n] w fun e w' => e = .returned (.bool (amtB n)) ∧ Keeps w w' := by
  by_cases h1 : 0 ≤ n
  · by_cases h2 : n ≤ 1125899906842624
    · go_enter Tryz.func67, Tryz.ntmps67
      go_wp2
      go_ret
      exact ⟨ret_b (amtB_yes h1 h2).symm, Keeps.refl _⟩
    · go_enter Tryz.func67, Tryz.ntmps67
      go_wp2
      go_ret
      exact ⟨ret_b (amtB_no (by omega)).symm, Keeps.refl _⟩
  · go_enter Tryz.func67, Tryz.ntmps67
    go_wp2
    go_ret
    exact ⟨ret_b (amtB_no (by omega)).symm, Keeps.refl _⟩
theorem amt_spec (n : Int) (w : World) : Calls Tryz.prog 56 #[.int .i64 n] w fun e w' => e = .returned (.bool (amtB n)) ∧ Keeps w w' := by
  by_cases h1 : 0 ≤ n
  · by_cases h2 : n ≤ 1125899906842624
    · go_enter Tryz.func56, Tryz.ntmps56
      go_wp2
      go_ret
      exact ⟨ret_b (amtB_yes h1 h2).symm, Keeps.refl _⟩
    · go_enter Tryz.func56, Tryz.ntmps56
      go_wp2
      go_ret
      exact ⟨ret_b (amtB_no (by omega)).symm, Keeps.refl _⟩
  · go_enter Tryz.func56, Tryz.ntmps56
    go_wp2
    go_ret
    exact ⟨ret_b (amtB_no (by omega)).symm, Keeps.refl _⟩
end Go.Proofs.YtkgpoghoilffhaaGreatDoor
namespace Go.Proofs.YtkgpoghoilffhaaGreatDoor
open Go.RowKit Go.Deep
set_option linter.unusedVariables false
set_option maxRecDepth 10000

def ppmB (k : Int) : Bool := decide (0 ≤ k) && decide (k ≤ 1000000)
def posB (n : Int) : Bool := amtB n && decide (0 < n)
end Go.Proofs.YtkgpoghoilffhaaGreatDoor
namespace Go.Proofs.YtkgpoghoilffhaaGreatDoor
open Go.RowKit Go.Deep
set_option linter.unusedVariables false
set_option linter.unusedSimpArgs false
set_option maxRecDepth 10000

structure Rul where
  lo : Int
  hi : Int
  st : Int
  mi : Int
  ma : Int
def Rul.v (r : Rul) : Value := .agg #[.int .i64 r.lo, .int .i64 r.hi, .int .i64 r.st, .int .i64 r.mi, .int .i64 r.ma]
def ruleB (r : Rul) : Bool := bandB r.lo r.hi && ppmB r.st && ppmB r.mi && ppmB r.ma && decide (r.mi ≤ r.ma)
theorem ppmB_true {n : Int} (h : ppmB n = true) : 0 ≤ n ∧ n ≤ 1000000 := by simpa [ppmB] using h
theorem ruleB_true {r : Rul} (h : ruleB r = true) : bandB r.lo r.hi = true ∧ (0 ≤ r.st ∧ r.st ≤ 1000000) ∧ (0 ≤ r.mi ∧ r.mi ≤ 1000000) ∧ (0 ≤ r.ma ∧ r.ma ≤ 1000000) ∧ r.mi ≤ r.ma := by
  simp only [ruleB, Bool.and_eq_true, decide_eq_true_eq] at h
  exact ⟨h.1.1.1.1, ppmB_true h.1.1.1.2, ppmB_true h.1.1.2, ppmB_true h.1.2, h.2⟩
end Go.Proofs.YtkgpoghoilffhaaGreatDoor
namespace Go.Proofs.YtkgpoghoilffhaaGreatDoor
open Go.RowKit Go.Deep
set_option linter.unusedVariables false
set_option linter.unusedSimpArgs false
set_option maxRecDepth 10000

theorem band_impl (lo hi : Int) (w : World) : Calls Tryz.prog 91 #[.int .i64 lo, .int .i64 hi] w fun e w' => e = .returned (.bool (bandB lo hi)) ∧ Keeps w w' := by
  by_cases h0 : 0 ≤ lo
  · by_cases h1 : lo ≤ hi
    · by_cases h2 : hi ≤ 100
      · have e := bandB_yes h0 h1 h2
        rw [e]
        clear e
        go_enter Tryz.func91, Tryz.ntmps91
        go_wp2
        go_ret
        exact ⟨ret_b (by first | (simp; done) | (simp; omega)), Keeps.refl _⟩
      · have e := bandB_no (lo := lo) (hi := hi) (by omega)
        rw [e]
        clear e
        go_enter Tryz.func91, Tryz.ntmps91
        go_wp2
        go_ret
        exact ⟨ret_b (by first | (simp; done) | (simp; omega)), Keeps.refl _⟩
    · have e := bandB_no (lo := lo) (hi := hi) (by omega)
      rw [e]
      clear e
      go_enter Tryz.func91, Tryz.ntmps91
      go_wp2
      go_ret
      exact ⟨rfl, Keeps.refl _⟩
  · have e := bandB_no (lo := lo) (hi := hi) (by omega)
    rw [e]
    clear e
    go_enter Tryz.func91, Tryz.ntmps91
    go_wp2
    go_ret
    exact ⟨rfl, Keeps.refl _⟩
theorem band_spec (lo hi : Int) (w : World) : Calls Tryz.prog 80 #[.int .i64 lo, .int .i64 hi] w fun e w' => e = .returned (.bool (bandB lo hi)) ∧ Keeps w w' := by
  by_cases h0 : 0 ≤ lo
  · by_cases h1 : lo ≤ hi
    · by_cases h2 : hi ≤ 100
      · have e := bandB_yes h0 h1 h2
        rw [e]
        clear e
        go_enter Tryz.func80, Tryz.ntmps80
        go_wp2
        go_ret
        exact ⟨ret_b (by first | (simp; done) | (simp; omega)), Keeps.refl _⟩
      · have e := bandB_no (lo := lo) (hi := hi) (by omega)
        rw [e]
        clear e
        go_enter Tryz.func80, Tryz.ntmps80
        go_wp2
        go_ret
        exact ⟨ret_b (by first | (simp; done) | (simp; omega)), Keeps.refl _⟩
    · have e := bandB_no (lo := lo) (hi := hi) (by omega)
      rw [e]
      clear e
      go_enter Tryz.func80, Tryz.ntmps80
      go_wp2
      go_ret
      exact ⟨rfl, Keeps.refl _⟩
  · have e := bandB_no (lo := lo) (hi := hi) (by omega)
    rw [e]
    clear e
    go_enter Tryz.func80, Tryz.ntmps80
    go_wp2
    go_ret
    exact ⟨rfl, Keeps.refl _⟩
end Go.Proofs.YtkgpoghoilffhaaGreatDoor
namespace Go.Proofs.YtkgpoghoilffhaaGreatDoor
open Go.RowKit Go.Deep
set_option linter.unusedVariables false
set_option maxRecDepth 10000

theorem pos_impl (n : Int) (w : World) : Calls Tryz.prog 147 #[.int .i64 n] w fun e w' => e = .returned (.bool (posB n)) ∧ Keeps w w' := by
  obtain ⟨v, hv⟩ : ∃ v : Bool, v = posB n := ⟨_, rfl⟩
  rw [← hv]
  unfold posB at hv
  cases h : amtB n
  · rw [h, Bool.false_and] at hv
    subst hv
    go_enter Tryz.func147, Tryz.ntmps147
    go_wp2_with fail
    refine (amt_impl n _).mono ?_
    rintro x w1 ⟨rfl, hk⟩
    rw [h]
    go_wp2_with fail
    go_ret
    exact ⟨rfl, hk⟩
  · rw [h, Bool.true_and] at hv
    replace hv := hide hv
    go_enter Tryz.func147, Tryz.ntmps147
    go_wp2_with fail
    refine (amt_impl n _).mono ?_
    rintro x w1 ⟨rfl, hk⟩
    rw [h]
    go_wp2_with fail
    go_ret
    exact ⟨ret_b (by rw [hv.out]), hk⟩
theorem ppm_impl (n : Int) (w : World) : Calls Tryz.prog 84 #[.int .i64 n] w fun e w' => e = .returned (.bool (ppmB n)) ∧ Keeps w w' := by
  by_cases h : 0 ≤ n
  · go_enter Tryz.func84, Tryz.ntmps84
    go_wp2
    go_ret
    exact ⟨ret_b (by simp [ppmB, h]), Keeps.refl _⟩
  · go_enter Tryz.func84, Tryz.ntmps84
    go_wp2
    go_ret
    exact ⟨ret_b (by simp [ppmB]; omega), Keeps.refl _⟩
end Go.Proofs.YtkgpoghoilffhaaGreatDoor
namespace Go.Proofs.YtkgpoghoilffhaaGreatDoor
open Go.RowKit Go.Deep
set_option linter.unusedVariables false
set_option linter.unusedSimpArgs false
set_option maxRecDepth 10000

theorem rowc5 (w : World) (v0 v1 v2 v3 v4 : Value) (t : TypeId) : ∀ w', Keeps (w.alloc (.cells #[v0, v1, v2, v3, v4] t)) w' → w'.cell? ⟨w.heap.size, 0, none⟩ = some v0 ∧ w'.cell? ⟨w.heap.size, 1, none⟩ = some v1 ∧ w'.cell? ⟨w.heap.size, 2, none⟩ = some v2 ∧ w'.cell? ⟨w.heap.size, 3, none⟩ = some v3 ∧ w'.cell? ⟨w.heap.size, 4, none⟩ = some v4 := by
  intro w' hk
  have hB : (w.alloc (.cells #[v0, v1, v2, v3, v4] t)).heap[w.heap.size]? = some (.cells #[v0, v1, v2, v3, v4] t (0, 0)) := blk_alloc_new w _
  revert hB hk
  generalize w.alloc (.cells #[v0, v1, v2, v3, v4] t) = W
  intro hk hB
  refine ⟨?_, ?_, ?_, ?_, ?_⟩ <;> (refine hk.cell ?_; simp [World.cell?, hB])
end Go.Proofs.YtkgpoghoilffhaaGreatDoor
namespace Go.Proofs.YtkgpoghoilffhaaGreatDoor
open Go.RowKit Go.Deep
set_option linter.unusedVariables false
set_option linter.unusedSimpArgs false
set_option maxRecDepth 10000

theorem turner_impl (r : Rul) (w : World) : Calls Tryz.prog 68 #[r.v] w fun e w' => e = .returned r.v ∧ Keeps w w' := by
  obtain ⟨xlo, xhi, xst, xmi, xma⟩ := r
  dsimp only [Rul.v]
  go_enter Tryz.func68, Tryz.ntmps68
  go_wp2_with fail
  refine bodyPost_ret (v := .agg #[.int .i64 xlo, .int .i64 xhi, .int .i64 xst, .int .i64 xmi, .int .i64 xma]) (by simp [results, Tryz.results68, go_sem]) rfl ⟨rfl, ?_⟩
  repeat (first | exact Keeps.refl _ | refine Keeps.alloc ?_ _ | refine Keeps.setCell ?_ (by simp) _)
theorem limited_impl (lo hi : Int) (w : World) : Calls Tryz.prog 83 #[.agg #[.int .i64 lo, .int .i64 hi]] w fun e w' => e = .returned (.bool (bandB lo hi)) ∧ Keeps w w' := by
  have HK := hide (Keeps.alloc (Keeps.refl w) (.cells #[.int .i64 lo, .int .i64 hi] 105))
  go_enter Tryz.func83, Tryz.ntmps83
  go_wp2_with fail
  refine (band_impl lo hi _).mono ?_
  rintro e w1 ⟨rfl, hk⟩
  go_wp2_with fail
  go_ret
  exact ⟨rfl, HK.out.trans hk⟩
set_option maxHeartbeats 4000000 in
theorem tright_impl (r : Rul) (w : World) : Calls Tryz.prog 69 #[r.v] w fun e w' => e = .returned (.bool (ruleB r)) ∧ Keeps w w' := by
  obtain ⟨xlo, xhi, xst, xmi, xma⟩ := r
  dsimp only [Rul.v]
  have HA := hide (rowc5 w (.int .i64 xlo) (.int .i64 xhi) (.int .i64 xst) (.int .i64 xmi) (.int .i64 xma) 107)
  have HK := hide (Keeps.alloc (Keeps.refl w) (.cells #[.int .i64 xlo, .int .i64 xhi, .int .i64 xst, .int .i64 xmi, .int .i64 xma] 107))
  obtain ⟨v, hv⟩ : ∃ v : Bool, v = ruleB ⟨xlo, xhi, xst, xmi, xma⟩ := ⟨_, rfl⟩
  rw [← hv]
  replace hv := hide hv
  go_enter Tryz.func69, Tryz.ntmps69
  go_wp2_with fail
  generalize w.alloc (.cells #[.int .i64 xlo, .int .i64 xhi, .int .i64 xst, .int .i64 xmi, .int .i64 xma] 107) = W0 at *
  have HKc := hide (Keeps.refl W0)
  refine (limited_impl xlo xhi _).mono ?_
  rintro e w1 ⟨rfl, hk⟩
  replace HKc := hide (HKc.out.trans hk)
  clear hk
  obtain ⟨d0, d1, d2, d3, d4⟩ := unhide HA w1 HKc.out
  cases h0 : bandB xlo xhi
  · have HV : Hid (v = false) := by show _ = _; rw [hv.out]; simp [ruleB, h0]
    go_wp2_with fail
    go_ret
    exact ⟨ret_b HV.out.symm, HK.out.trans HKc.out⟩
  go_wp2_with fail
  refine (ppm_impl xst _).mono ?_
  rintro e w2 ⟨rfl, hk⟩
  replace HKc := hide (HKc.out.trans hk)
  clear hk d0 d1 d2 d3 d4
  obtain ⟨d0, d1, d2, d3, d4⟩ := unhide HA w2 HKc.out
  cases h1 : ppmB xst
  · have HV : Hid (v = false) := by show _ = _; rw [hv.out]; simp [ruleB, h0, h1]
    go_wp2_with fail
    go_ret
    exact ⟨ret_b HV.out.symm, HK.out.trans HKc.out⟩
  go_wp2_with fail
  refine (ppm_impl xmi _).mono ?_
  rintro e w3 ⟨rfl, hk⟩
  replace HKc := hide (HKc.out.trans hk)
  clear hk d0 d1 d2 d3 d4
  obtain ⟨d0, d1, d2, d3, d4⟩ := unhide HA w3 HKc.out
  cases h2 : ppmB xmi
  · have HV : Hid (v = false) := by show _ = _; rw [hv.out]; simp [ruleB, h0, h1, h2]
    go_wp2_with fail
    go_ret
    exact ⟨ret_b HV.out.symm, HK.out.trans HKc.out⟩
  go_wp2_with fail
  refine (ppm_impl xma _).mono ?_
  rintro e w4 ⟨rfl, hk⟩
  replace HKc := hide (HKc.out.trans hk)
  clear hk d0 d1 d2 d3 d4
  obtain ⟨d0, d1, d2, d3, d4⟩ := unhide HA w4 HKc.out
  cases h3 : ppmB xma
  · have HV : Hid (v = false) := by show _ = _; rw [hv.out]; simp [ruleB, h0, h1, h2, h3]
    go_wp2_with fail
    go_ret
    exact ⟨ret_b HV.out.symm, HK.out.trans HKc.out⟩
  have HV : Hid (v = decide (xmi ≤ xma)) := by show _ = _; rw [hv.out]; simp [ruleB, h0, h1, h2, h3]
  go_wp2_with fail
  go_ret
  exact ⟨ret_b HV.out.symm, HK.out.trans HKc.out⟩
theorem rule_impl (r : Rul) (w : World) : Calls Tryz.prog 38 #[r.v] w fun e w' => e = .returned (.bool (ruleB r)) ∧ Keeps w w' := by
  have HT := hide (fun w' => turner_impl r w')
  have HR := hide (fun w' => tright_impl r w')
  generalize ruleB r = v at *
  obtain ⟨xlo, xhi, xst, xmi, xma⟩ := r
  dsimp only [Rul.v] at *
  have HA := hide (rowc5 w (.int .i64 xlo) (.int .i64 xhi) (.int .i64 xst) (.int .i64 xmi) (.int .i64 xma) 31)
  have HK := hide (Keeps.alloc (Keeps.refl w) (.cells #[.int .i64 xlo, .int .i64 xhi, .int .i64 xst, .int .i64 xmi, .int .i64 xma] 31))
  go_enter Tryz.func38, Tryz.ntmps38
  go_wp2_with fail
  generalize w.alloc (.cells #[.int .i64 xlo, .int .i64 xhi, .int .i64 xst, .int .i64 xmi, .int .i64 xma] 31) = W0 at *
  refine (unhide HT _).mono ?_
  rintro e w1 ⟨rfl, hk⟩
  have HK1 := hide hk
  clear hk
  go_wp2_with fail
  refine (unhide HR _).mono ?_
  rintro e w2 ⟨rfl, hk⟩
  go_wp2_with fail
  go_ret
  exact ⟨rfl, (HK.out.trans HK1.out).trans hk⟩
theorem part_spec (n : Int) (w : World) : Calls Tryz.prog 81 #[.int .i64 n] w fun e w' => e = .returned (.bool (ppmB n)) ∧ Keeps w w' := by
  by_cases h : 0 ≤ n
  · go_enter Tryz.func81, Tryz.ntmps81
    go_wp2
    go_ret
    exact ⟨ret_b (by simp [ppmB, h]), Keeps.refl _⟩
  · go_enter Tryz.func81, Tryz.ntmps81
    go_wp2
    go_ret
    exact ⟨ret_b (by simp [ppmB]; omega), Keeps.refl _⟩
set_option maxHeartbeats 4000000 in
theorem rule_spec (r : Rul) (w : World) : Calls Tryz.prog 58 #[r.v] w fun e w' => e = .returned (.bool (ruleB r)) ∧ Keeps w w' := by
  obtain ⟨xlo, xhi, xst, xmi, xma⟩ := r
  dsimp only [Rul.v]
  have HA := hide (rowc5 w (.int .i64 xlo) (.int .i64 xhi) (.int .i64 xst) (.int .i64 xmi) (.int .i64 xma) 31)
  have HK := hide (Keeps.alloc (Keeps.refl w) (.cells #[.int .i64 xlo, .int .i64 xhi, .int .i64 xst, .int .i64 xmi, .int .i64 xma] 31))
  obtain ⟨v, hv⟩ : ∃ v : Bool, v = ruleB ⟨xlo, xhi, xst, xmi, xma⟩ := ⟨_, rfl⟩
  rw [← hv]
  replace hv := hide hv
  go_enter Tryz.func58, Tryz.ntmps58
  go_wp2_with fail
  generalize w.alloc (.cells #[.int .i64 xlo, .int .i64 xhi, .int .i64 xst, .int .i64 xmi, .int .i64 xma] 31) = W0 at *
  have HKc := hide (Keeps.refl W0)
  refine (band_spec xlo xhi _).mono ?_
  rintro e w1 ⟨rfl, hk⟩
  replace HKc := hide (HKc.out.trans hk)
  clear hk
  obtain ⟨d0, d1, d2, d3, d4⟩ := unhide HA w1 HKc.out
  cases h0 : bandB xlo xhi
  · have HV : Hid (v = false) := by show _ = _; rw [hv.out]; simp [ruleB, h0]
    go_wp2_with fail
    go_ret
    exact ⟨ret_b HV.out.symm, HK.out.trans HKc.out⟩
  go_wp2_with fail
  refine (part_spec xst _).mono ?_
  rintro e w2 ⟨rfl, hk⟩
  replace HKc := hide (HKc.out.trans hk)
  clear hk d0 d1 d2 d3 d4
  obtain ⟨d0, d1, d2, d3, d4⟩ := unhide HA w2 HKc.out
  cases h1 : ppmB xst
  · have HV : Hid (v = false) := by show _ = _; rw [hv.out]; simp [ruleB, h0, h1]
    go_wp2_with fail
    go_ret
    exact ⟨ret_b HV.out.symm, HK.out.trans HKc.out⟩
  go_wp2_with fail
  refine (part_spec xmi _).mono ?_
  rintro e w3 ⟨rfl, hk⟩
  replace HKc := hide (HKc.out.trans hk)
  clear hk d0 d1 d2 d3 d4
  obtain ⟨d0, d1, d2, d3, d4⟩ := unhide HA w3 HKc.out
  cases h2 : ppmB xmi
  · have HV : Hid (v = false) := by show _ = _; rw [hv.out]; simp [ruleB, h0, h1, h2]
    go_wp2_with fail
    go_ret
    exact ⟨ret_b HV.out.symm, HK.out.trans HKc.out⟩
  go_wp2_with fail
  refine (part_spec xma _).mono ?_
  rintro e w4 ⟨rfl, hk⟩
  replace HKc := hide (HKc.out.trans hk)
  clear hk d0 d1 d2 d3 d4
  obtain ⟨d0, d1, d2, d3, d4⟩ := unhide HA w4 HKc.out
  cases h3 : ppmB xma
  · have HV : Hid (v = false) := by show _ = _; rw [hv.out]; simp [ruleB, h0, h1, h2, h3]
    go_wp2_with fail
    go_ret
    exact ⟨ret_b HV.out.symm, HK.out.trans HKc.out⟩
  have HV : Hid (v = decide (xmi ≤ xma)) := by show _ = _; rw [hv.out]; simp [ruleB, h0, h1, h2, h3]
  go_wp2_with fail
  go_ret
  exact ⟨ret_b HV.out.symm, HK.out.trans HKc.out⟩
end Go.Proofs.YtkgpoghoilffhaaGreatDoor
