/- What a call keeps of the world; its variables. -/
import Derived.Test.YtdlgoccbmemjgaaGreatDoorRows
import Derived.WalkKit
import Derived.WalkSpells
import Derived.WalkSmall
import Derived.Deep.QuietTactic
import Derived.BigQuiet
import Derived.RowKit3
import Derived.Stop.LaidErr
import Derived.MakeChecks
import Derived.Deep.Slices
import Derived.Deep.OwnRows
import Derived.Laws.OwnMore
import Derived.OpenShut
import Derived.RegionTactic
import Derived.OwnWalk
import Derived.Laws.AppendOwnNone
import Derived.ChangeSame
import Derived.WideShapes
import Derived.Below
import Derived.Deep.Strs
namespace Go.Proofs.YtdlgoccbmemjgaaGreatDoor
open Go.RowKit Go.ChangeShapes

/-- What was there is as it was. -/
def Keeps (w w' : World) : Prop := Below w.heap.size w w'
theorem Keeps.refl (w : World) : Keeps w w := Below.refl _ _
theorem Keeps.trans {a b c : World} (h : Keeps a b) (k : Keeps b c) : Keeps a c := Below.trans h (Below.mono k h.size)
theorem Keeps.drewN {a b : World} (h : Keeps a b) (n : Nat) : Keeps a (b.drewN n) := below_drewN h n
theorem Keeps.cell {w w' : World} (h : Keeps w w') {p : Addr} {v : Value} (hc : w.cell? p = some v) : w'.cell? p = some v := by
  have hlt : p.block < w.heap.size := by
    rcases Nat.lt_or_ge p.block w.heap.size with h' | h'
    · exact h'
    · simp [World.cell?, Array.getElem?_eq_none h'] at hc
  rw [← hc]; exact Below.cell h hlt

theorem cell_of_var {W : World} {n : String} {g : Nat} {v : Value} (hg : Tryz.prog.globalNamed n = some g) (h : W.var? Tryz.prog n = some #[v]) : W.cell? ⟨g, 0, none⟩ = some v := by
  simpa using World.var?_cell hg h 0
theorem var_kept {W W' : World} (h : Keeps W W') {n : String} {cs : Array Value} (hv : W.var? Tryz.prog n = some cs) : W'.var? Tryz.prog n = some cs := by
  unfold World.var? at hv ⊢
  cases hg : Tryz.prog.globalNamed n with
  | none => simp [hg] at hv
  | some g =>
    simp only [hg, Option.bind_some] at hv ⊢
    have hlt : g < W.heap.size := by
      rcases Nat.lt_or_ge g W.heap.size with h' | h'
      · exact h'
      · simp [Array.getElem?_eq_none h'] at hv
    rw [Below.block h g hlt]; exact hv
theorem hide {p : Prop} (h : p) : Hid p := h
theorem unhide {p : Prop} (h : Hid p) : p := h
theorem Keeps.alloc {a b : World} (h : Keeps a b) (o : Obj) : Keeps a (b.alloc o) := Below.alloc h h.size o
theorem Keeps.setCell {a b : World} (h : Keeps a b) {p : Addr} (hp : a.heap.size ≤ p.block) (u : Value) : Keeps a (b.setCell p u) := Below.setCell h hp u
theorem Keeps.drew {a b : World} (h : Keeps a b) : Keeps a b.drew := Below.drew h
theorem Keeps.old {W w1 : World} (hb : Keeps W w1) : ∀ b o, b < W.heap.size → w1.cell? ⟨b, o, none⟩ = W.cell? ⟨b, o, none⟩ := fun b o h => Below.cell (p := ⟨b, o, none⟩) hb h
theorem Keeps.oldF {W w1 : World} (hb : Keeps W w1) : ∀ b o, b < W.heap.size → w1.frozen? ⟨b, o, none⟩ = W.frozen? ⟨b, o, none⟩ := fun b o h => Below.frozen (p := ⟨b, o, none⟩) hb h
theorem lt_of_cell {w : World} {g o : Nat} {v : Value} (hg : w.cell? ⟨g, o, none⟩ = some v) : g < w.heap.size := by
  rcases Nat.lt_or_ge g w.heap.size with h' | h'
  · exact h'
  · simp [World.cell?, Array.getElem?_eq_none h'] at hg
theorem and_mask (x m : Int) (h0 : 0 ≤ m) (h1 : m < 9223372036854775808) : 0 ≤ bits .and .i64 x m ∧ bits .and .i64 x m ≤ m := by
  obtain ⟨n, rfl⟩ := Int.eq_ofNat_of_zero_le h0
  have h2 : (BitVec.ofInt 64 (n : Int)).toNat = n := by
    rw [BitVec.ofInt_natCast, BitVec.toNat_ofNat]; exact Nat.mod_eq_of_lt (by omega)
  have e : bits .and .i64 x (n : Int) = IntKind.i64.wrap ((BitVec.ofInt 64 x &&& BitVec.ofInt 64 (n : Int)).toNat : Int) := rfl
  rw [e, BitVec.toNat_and, h2]
  have h3 : (BitVec.ofInt 64 x).toNat &&& n ≤ n := Nat.and_le_right
  generalize (BitVec.ofInt 64 x).toNat &&& n = r at *
  simp [IntKind.wrap, IntKind.bits, IntKind.signed]
  omega

/-! A region that draws its order, whose operations only read and whose callees make new memory at most: walked once, in the order of the text. -/
abbrev Gt : Type := List (Option Obj)
def Gt.more (t : Gt) : Array Obj := (t.filterMap id).toArray
def Gt.count (t : Gt) : Nat := (t.filter Option.isNone).length
def gt (m : Array Obj) (d : Nat) : Gt := m.toList.map some ++ List.replicate d none
theorem gt_more (m : Array Obj) (d : Nat) : Gt.more (gt m d) = m := by
  simp [Gt.more, gt, List.filterMap_append, List.filterMap_map]
theorem gt_count (m : Array Obj) (d : Nat) : Gt.count (gt m d) = d := by
  simp [Gt.count, gt, List.filter_append, List.filter_map]
def gr (W : World) (t : Gt) : World := { W with heap := W.heap ++ Gt.more t, drawn := Gt.count t }
theorem gr_keeps (W : World) (t : Gt) : Keeps W (gr W t) :=
  ⟨rfl, rfl, rfl, by simp [gr], fun i hi => by
    show (W.heap ++ Gt.more t)[i]? = W.heap[i]?
    rw [Array.getElem?_append_left hi]⟩
theorem keeps_gr {W w' : World} (h : Keeps W w') : ∃ t, w' = gr W t := by
  refine ⟨gt (w'.heap.extract W.heap.size w'.heap.size) w'.drawn, ?_⟩
  have e : w'.heap = W.heap ++ w'.heap.extract W.heap.size w'.heap.size := by
    apply Array.ext_getElem?
    intro i
    by_cases hi : i < W.heap.size
    · rw [Array.getElem?_append_left hi]; exact h.block i hi
    · rw [Array.getElem?_append_right (by omega), Array.getElem?_extract]
      by_cases hj : i < w'.heap.size
      · rw [if_pos (by omega)]; congr 1; omega
      · rw [if_neg (by omega), Array.getElem?_eq_none (by omega)]
  have h1 := h.os; have h2 := h.tape; have h3 := h.output
  cases w' with
  | mk heap tape drawn os output =>
    simp only at e h1 h2 h3
    unfold gr
    simp only [gt_more, gt_count, ← h1, ← h2, ← h3, ← e]
theorem gr_gr {W w' : World} {t : Gt} (h : Keeps (gr W t) w') : ∃ t, w' = gr W t := keeps_gr ((gr_keeps W t).trans h)
theorem gr_cell {W : World} {p : Addr} {v : Value} (h : W.cell? p = some v) (t : Gt) : (gr W t).cell? p = some v := (gr_keeps W t).cell h
theorem Keeps.of_gr {W w' : World} (h : ∃ t, w' = gr W t) : Keeps W w' := by
  obtain ⟨t, rfl⟩ := h
  exact gr_keeps W t
theorem gr_call {P : Program} {f : FuncId} {args : Array Value} {W : World} {t : Gt} {v : Value}
    (h : Calls P f args (gr W t) fun e w' => e = .returned v ∧ Keeps (gr W t) w') : Calls P f args (gr W t) fun e w'' => e = .returned v ∧ ∃ t, w'' = gr W t :=
  h.mono fun _ _ ⟨he, hk⟩ => ⟨he, gr_gr hk⟩
theorem region_gr {P : Program} {id : Nat} {Q : Exit → Act → World → Prop} {a : Act} {w : World} {l : List Oper} (hm : P.follows .mixedOrders = true) (hB : Region.lexB .any l.toArray = true)
    (h : wpQuiet P l.toArray (fun w' => ∃ t, w' = gr w t) (fun a' => ∀ w', (∃ t, w' = gr w t) → Q .normal a' w') l a) : (Code.region id l.toArray true).wp P Q a w :=
  wp_region_quiet (C := fun w' => ∃ t, w' = gr w t) hm hB ⟨gt #[] (w.drawn + 1), by simp [gr, gt_more, gt_count]⟩ (by simpa using h)

/-- Is it an amount? -/
def amtB (n : Int) : Bool := decide (0 ≤ n) && decide (n ≤ 1125899906842624)
theorem amtB_true {n : Int} (h : amtB n = true) : 0 ≤ n ∧ n ≤ 1125899906842624 := by simpa [amtB] using h
theorem amtB_false {n : Int} (h : amtB n = false) : n < 0 ∨ 1125899906842624 < n := by simp [amtB] at h; omega
theorem amtB_yes {n : Int} (h : 0 ≤ n) (h' : n ≤ 1125899906842624) : amtB n = true := by simp [amtB]; omega
theorem amtB_no {n : Int} (h : n < 0 ∨ 1125899906842624 < n) : amtB n = false := by simp [amtB]; omega
/-- The sum of two amounts, and whether it is one. -/
def addB (a b : Int) : Bool := amtB a && amtB b && amtB (a + b)
def addV (a b : Int) : Int := if addB a b = true then a + b else 0
def subB (a b : Int) : Bool := amtB a && amtB b && amtB (a - b)
def subV (a b : Int) : Int := if subB a b = true then a - b else 0
theorem ret_tup {a a' : Int} {b b' : Bool} (h : a = a') (h' : b = b') : Ending.returned (.tuple #[.int .i64 a, .bool b]) = .returned (.tuple #[.int .i64 a', .bool b']) := by rw [h, h']
end Go.Proofs.YtdlgoccbmemjgaaGreatDoor

/- Lists in memory, and how the readings of arguments give their cells. -/
namespace Go.Proofs.YtdlgoccbmemjgaaGreatDoor
open Go.RowKit Go.Deep
set_option linter.unusedVariables false

/-- The cells of a list that lies in memory. -/
def Cells (w : World) (a : Option Addr) (xs : List Value) : Prop := xs = [] ∨ ∃ b off, a = some ⟨b, off, none⟩ ∧ ∀ j (h : j < xs.length), w.cell? ⟨b, off + j, none⟩ = some xs[j]
theorem Cells.kept {w w' : World} {a : Option Addr} {xs : List Value} (h : Cells w a xs) (hk : Keeps w w') : Cells w' a xs := by
  rcases h with h | ⟨b, off, e, h⟩
  · exact Or.inl h
  · exact Or.inr ⟨b, off, e, fun j hj => hk.cell (h j hj)⟩

theorem Cells.nil (w : World) (a : Option Addr) : Cells w a [] := Or.inl rfl
theorem cells_add {w : World} {b off : Nat} {xs ys : List Value} (h : ∀ j (hj : j < xs.length), w.cell? ⟨b, off + j, none⟩ = some xs[j]) (h' : ∀ j (hj : j < ys.length), w.cell? ⟨b, off + xs.length + j, none⟩ = some ys[j]) :
    ∀ j (hj : j < (xs ++ ys).length), w.cell? ⟨b, off + j, none⟩ = some (xs ++ ys)[j] := by
  intro j hj
  by_cases hx : j < xs.length
  · rw [List.getElem_append_left hx]; exact h j hx
  · rw [List.getElem_append_right (by omega)]
    have := h' (j - xs.length) (by simp at hj; omega)
    rw [show off + xs.length + (j - xs.length) = off + j by omega] at this
    exact this

section
variable {H : Type} {enc : TypeId × Value → H} {P : Program} {w : World} {base : Nat} {spare : Nat → Bool} {held : Bool}
/-- A slice whose elements have sz cells each: what its cells are. -/
theorem open_cells {t e : TypeId} {sz fuel : Nat} {v : Value} {x : DataW H × List MemPlace} (ht : P.underlying t = some (.slice e)) (hsz : P.cellsOf e = sz) (hpos : 0 < sz)
    (h : DataW.trod enc P w base spare held fuel t [v] = some x) (Q : List Value → Prop) (hQ : ∀ n cs y, DataW.trod enc P w base spare held n e cs = some y → Q cs) :
    ∃ (a : Option Addr) (cap : Nat) (M : List (List Value)), v = .slice a M.length cap ∧ (∀ c ∈ M, c.length = sz ∧ Q c) ∧ Cells w a M.flatten ∧ M.length ≤ cap ∧ cap ≤ maxLen := by
  rcases open_slice ht h with ⟨hv, _⟩ | ⟨a, len, cap, m, n, D, Pl, hv, hb, hl, hm, hmm, hx, he⟩
  · simp at hv
    exact ⟨none, 0, [], hv, fun c hc => absurd hc (by simp), Cells.nil _ _, Nat.le_refl _, Nat.zero_le _⟩
  · simp at hv
    subst hv
    have hlm : len ≤ m := by rw [hmm]; split <;> omega
    by_cases h0 : len = 0
    · subst h0
      exact ⟨some a, cap, [], rfl, fun c hc => absurd hc (by simp), Cells.nil _ _, Nat.zero_le _, hm⟩
    · obtain ⟨b, off, spot⟩ := a
      have hspot : spot = none := by
        obtain ⟨cs', h1, _⟩ := he 0 (by omega)
        rw [hsz] at h1
        obtain ⟨_, _, hcell⟩ := World.cells?_some h1
        have := hcell 0 (by omega)
        have h2 := World.cell?_spot (w := w) (a := _) (v := _) (by rw [this]; exact List.getElem?_eq_getElem (by have := (World.cells?_some h1).2.1; omega))
        simpa [Addr.add] using h2
      subst hspot
      have build : ∀ k, k ≤ len → ∃ M : List (List Value), M.length = k ∧ (∀ c ∈ M, c.length = sz ∧ Q c) ∧ M.flatten.length = k * sz ∧ ∀ j (hj : j < M.flatten.length), w.cell? ⟨b, off + j, none⟩ = some M.flatten[j] := by
        intro k
        induction k with
        | zero => exact fun _ => ⟨[], rfl, fun c hc => absurd hc (by simp), by simp, fun j hj => absurd hj (by simp)⟩
        | succ k ih =>
          intro hk
          obtain ⟨M, hM, hq, hlen, hc⟩ := ih (by omega)
          obtain ⟨cs', h1, h2⟩ := he k (by omega)
          rw [hsz] at h1
          obtain ⟨_, hl', hcell⟩ := World.cells?_some h1
          refine ⟨M ++ [cs'], by simp [hM], ?_, ?_, ?_⟩
          · intro c hc'
            rcases List.mem_append.1 hc' with h | h
            · exact hq c h
            · rw [List.mem_singleton.1 h]; exact ⟨hl', hQ _ _ _ h2⟩
          · simp [hlen, hl', Nat.add_mul]
          · have e : (M ++ [cs']).flatten = M.flatten ++ cs' := by simp
            intro j hj
            have hfin := cells_add hc (ys := cs') (fun j hj => by
              have g := hcell j (by omega)
              rw [List.getElem?_eq_getElem hj] at g
              rw [← g, hlen]
              congr 1
              unfold Addr.add
              by_cases hk0 : k * sz = 0
              · by_cases hj0 : j = 0
                · simp [hk0, hj0]
                · simp [hk0, hj0]
              · by_cases hj0 : j = 0
                · simp [hk0, hj0]
                · simp [hk0, hj0])
            have := hfin j (by rw [← e]; exact hj)
            rw [this]
            simp only [e]
      obtain ⟨M, hM, hq, hlen, hc⟩ := build len (Nat.le_refl _)
      exact ⟨some ⟨b, off, none⟩, cap, M, by rw [hM], hq, Or.inr ⟨b, off, rfl, hc⟩, by omega, hm⟩
end
end Go.Proofs.YtdlgoccbmemjgaaGreatDoor

/- Memory told by segments: lists in memory, the blocks on which they stand, and worlds that part in some blocks alone. -/
namespace Go.Proofs.YtdlgoccbmemjgaaGreatDoor
open Go.RowKit Go.Deep
set_option linter.unusedVariables false

/-- Of what was there only blocks of fs have turned. -/
structure Turn (fs : List Nat) (w w' : World) : Prop where
  os : w'.os = w.os
  tape : w'.tape = w.tape
  output : w'.output = w.output
  size : w.heap.size ≤ w'.heap.size
  block : ∀ k, k < w.heap.size → k ∉ fs → w'.heap[k]? = w.heap[k]?
theorem Turn.refl (fs : List Nat) (w : World) : Turn fs w w := ⟨rfl, rfl, rfl, Nat.le_refl _, fun _ _ _ => rfl⟩
theorem Turn.of_keeps {w w' : World} (h : Keeps w w') (fs : List Nat) : Turn fs w w' := ⟨h.os, h.tape, h.output, h.size, fun k hk _ => h.block k hk⟩
theorem Turn.to_keeps {w w' : World} (h : Turn [] w w') : Keeps w w' := ⟨h.os, h.tape, h.output, h.size, fun k hk => h.block k hk (by simp)⟩
theorem Turn.trans {fs gs : List Nat} {a b c : World} (h : Turn fs a b) (k : Turn gs b c) : Turn (fs ++ gs) a c :=
  ⟨k.os.trans h.os, k.tape.trans h.tape, k.output.trans h.output, Nat.le_trans h.size k.size, fun i hi hn => by
    simp only [List.mem_append, not_or] at hn
    exact (k.block i (Nat.lt_of_lt_of_le hi h.size) hn.2).trans (h.block i hi hn.1)⟩
theorem Turn.mono {fs gs : List Nat} {a b : World} (h : Turn fs a b) (hs : ∀ x ∈ fs, x ∈ gs) : Turn gs a b :=
  ⟨h.os, h.tape, h.output, h.size, fun i hi hn => h.block i hi (fun hx => hn (hs i hx))⟩
theorem Turn.trans' {fs : List Nat} {a b c : World} (h : Turn fs a b) (k : Turn fs b c) : Turn fs a c := (h.trans k).mono (by simp)
theorem Turn.keeps {fs : List Nat} {W w w' : World} (h : Turn fs w w') (hk : Keeps W w) (hf : ∀ b ∈ fs, W.heap.size ≤ b) : Keeps W w' :=
  ⟨h.os.trans hk.os, h.tape.trans hk.tape, h.output.trans hk.output, Nat.le_trans hk.size h.size, fun i hi =>
    (h.block i (Nat.lt_of_lt_of_le hi hk.size) (fun hx => by have := hf i hx; omega)).trans (hk.block i hi)⟩
theorem Turn.set {fs : List Nat} {w : World} {a : Addr} (ha : a.block ∈ fs) (v : Value) : Turn fs w (w.setCell a v) :=
  ⟨rfl, rfl, rfl, by rw [nblk_setCell]; exact Nat.le_refl _, fun k hk hn => blk_setCell_other _ _ _ _ (fun e => hn (e ▸ ha))⟩
theorem Turn.of_grown {w w' : World} {row : Option Nat} (h : w.grownBy w' row) {fs : List Nat} (hr : ∀ k, row = some k → k ∈ fs) : Turn fs w w' :=
  ⟨h.os, h.tape, h.output, h.size, fun k hk hn => h.block k hk (fun e => hn (hr k e.symm))⟩
theorem Turn.cell {fs : List Nat} {w w' : World} (h : Turn fs w w') {p : Addr} (hp : p.block ∉ fs) {v : Value} (hc : w.cell? p = some v) : w'.cell? p = some v := by
  rw [← hc]
  refine World.cell?_of_block (w := w) (h.block p.block ?_ hp)
  rcases Nat.lt_or_ge p.block w.heap.size with h' | h'
  · exact h'
  · simp [World.cell?, Array.getElem?_eq_none h'] at hc

/-- A list in memory: where, and its cells. -/
abbrev Seg := Option Addr × List Value
def fpS (s : Seg) : List Nat := if s.2 = [] then [] else match s.1 with | some p => [p.block] | none => []
/-- The blocks on which the lists stand. -/
def fp (S : List Seg) : List Nat := S.flatMap fpS
theorem fp_nil : fp [] = [] := rfl
theorem fp_cons (s : Seg) (S : List Seg) : fp (s :: S) = fpS s ++ fp S := rfl
theorem fp_append (S T : List Seg) : fp (S ++ T) = fp S ++ fp T := by simp [fp]
def Mem (w : World) (S : List Seg) : Prop := ∀ s ∈ S, Cells w s.1 s.2
theorem Mem.nil (w : World) : Mem w [] := fun s h => absurd h (by simp)
theorem mem_cons {w : World} {s : Seg} {S : List Seg} : Mem w (s :: S) ↔ Cells w s.1 s.2 ∧ Mem w S := by simp [Mem]
theorem mem_append {w : World} {S T : List Seg} : Mem w (S ++ T) ↔ Mem w S ∧ Mem w T := by
  simp only [Mem, List.mem_append]
  exact ⟨fun h => ⟨fun s hs => h s (Or.inl hs), fun s hs => h s (Or.inr hs)⟩, fun h s hs => hs.elim (h.1 s) (h.2 s)⟩
theorem Cells.turn {w w' : World} {s : Seg} (h : Cells w s.1 s.2) {fs : List Nat} (hk : Turn fs w w') (hd : ∀ b ∈ fpS s, b ∉ fs) : Cells w' s.1 s.2 := by
  rcases h with h | ⟨b, off, e, h⟩
  · exact Or.inl h
  · by_cases h0 : s.2 = []
    · exact Or.inl h0
    · refine Or.inr ⟨b, off, e, fun j hj => hk.cell (hd b ?_) (h j hj)⟩
      simp [fpS, h0, e]
theorem Mem.turn {w w' : World} {S : List Seg} (h : Mem w S) {fs : List Nat} (hk : Turn fs w w') (hd : ∀ b ∈ fp S, b ∉ fs) : Mem w' S :=
  fun s hs => (h s hs).turn hk (fun b hb => hd b (List.mem_flatMap.2 ⟨s, hs, hb⟩))
theorem Mem.kept {w w' : World} {S : List Seg} (h : Mem w S) (hk : Keeps w w') : Mem w' S := fun s hs => (h s hs).kept hk
theorem Cells.lt {w : World} {s : Seg} (h : Cells w s.1 s.2) : ∀ b ∈ fpS s, b < w.heap.size := by
  intro b hb
  rcases h with h | ⟨g, off, e, h⟩
  · simp [fpS, h] at hb
  · by_cases h0 : s.2 = []
    · simp [fpS, h0] at hb
    · simp [fpS, h0, e] at hb
      subst hb
      exact lt_of_cell (h 0 (List.length_pos_iff.2 h0))
theorem Mem.lt {w : World} {S : List Seg} (h : Mem w S) : ∀ b ∈ fp S, b < w.heap.size := by
  intro b hb
  obtain ⟨s, hs, hb⟩ := List.mem_flatMap.1 hb
  exact (h s hs).lt b hb

/-- None of the blocks is frozen. -/
def Free (w : World) (fs : List Nat) : Prop := ∀ b ∈ fs, ∀ o, w.frozen? ⟨b, o, none⟩ = false
theorem Free.turn {w w' : World} {fs gs : List Nat} (h : Free w fs) (hk : Turn gs w w') (hd : ∀ b ∈ fs, b ∉ gs) (hl : ∀ b ∈ fs, b < w.heap.size) : Free w' fs := fun b hb o => by
  rw [← h b hb o]
  exact World.frozen?_of_block (w := w) (hk.block b (hl b hb) (hd b hb))
theorem frozen_set (w : World) (a p : Addr) (v : Value) : (w.setCell a v).frozen? p = w.frozen? p := by simp
/-- Lists of one's own: no two share a block, none is frozen. -/
structure Own (w : World) (S : List Seg) : Prop where
  mem : Mem w S
  nd : (fp S).Nodup
  free : Free w (fp S)
theorem Own.nil (w : World) : Own w [] := ⟨Mem.nil w, by simp [fp], fun b hb => absurd hb (by simp [fp])⟩
theorem Own.turn {w w' : World} {S : List Seg} (h : Own w S) {fs : List Nat} (hk : Turn fs w w') (hd : ∀ b ∈ fp S, b ∉ fs) : Own w' S :=
  ⟨h.mem.turn hk hd, h.nd, h.free.turn hk hd h.mem.lt⟩
theorem Own.kept {w w' : World} {S : List Seg} (h : Own w S) (hk : Keeps w w') : Own w' S := h.turn (Turn.of_keeps hk []) (by simp)
theorem Own.left {w : World} {S T : List Seg} (h : Own w (S ++ T)) : Own w S :=
  ⟨(mem_append.1 h.mem).1, by have := h.nd; rw [fp_append] at this; exact (List.nodup_append.1 this).1, fun b hb => h.free b (by rw [fp_append]; exact List.mem_append_left _ hb)⟩
theorem Own.right {w : World} {S T : List Seg} (h : Own w (S ++ T)) : Own w T :=
  ⟨(mem_append.1 h.mem).2, by have := h.nd; rw [fp_append] at this; exact (List.nodup_append.1 this).2.1, fun b hb => h.free b (by rw [fp_append]; exact List.mem_append_right _ hb)⟩
theorem Own.apart {w : World} {S T : List Seg} (h : Own w (S ++ T)) : ∀ b ∈ fp S, b ∉ fp T := by
  have := h.nd
  rw [fp_append] at this
  exact fun b hb hb' => (List.nodup_append.1 this).2.2 b hb b hb' rfl
theorem Own.append {w : World} {S T : List Seg} (h : Own w S) (k : Own w T) (hd : ∀ b ∈ fp S, b ∉ fp T) : Own w (S ++ T) :=
  ⟨mem_append.2 ⟨h.mem, k.mem⟩, by rw [fp_append]; exact List.nodup_append.2 ⟨h.nd, k.nd, fun a ha b hb e => hd a ha (e ▸ hb)⟩, fun b hb => by
    rw [fp_append] at hb
    rcases List.mem_append.1 hb with hb | hb
    · exact h.free b hb
    · exact k.free b hb⟩
/-- Lists of one's own that were made behind w. -/
structure Born (w w' : World) (S : List Seg) : Prop extends Own w' S where
  new : ∀ b ∈ fp S, w.heap.size ≤ b
theorem Born.nil (w w' : World) : Born w w' [] := ⟨Own.nil w', fun b hb => absurd hb (by simp [fp])⟩
theorem Born.old {w0 w w' : World} {S : List Seg} (h : Born w w' S) (hk : Keeps w0 w) : Born w0 w' S := ⟨h.toOwn, fun b hb => Nat.le_trans hk.size (h.new b hb)⟩
theorem Born.kept {w w' w'' : World} {S : List Seg} (h : Born w w' S) (hk : Keeps w' w'') : Born w w'' S := ⟨h.toOwn.kept hk, h.new⟩
theorem Born.turn {w w' w'' : World} {S : List Seg} (h : Born w w' S) {fs : List Nat} (hk : Turn fs w' w'') (hd : ∀ b ∈ fp S, b ∉ fs) : Born w w'' S := ⟨h.toOwn.turn hk hd, h.new⟩
/-- What was there ahead of a birth shares no block with what was born. -/
theorem Born.apart {w w' : World} {S T : List Seg} (h : Born w w' S) (k : Mem w T) : ∀ b ∈ fp T, b ∉ fp S := fun b hb hb' => by
  have := h.new b hb'
  have := k.lt b hb
  omega
theorem Born.apart' {w w' : World} {S T : List Seg} (h : Born w w' S) (k : Mem w T) : ∀ b ∈ fp S, b ∉ fp T := fun b hb hb' => h.apart k b hb' hb
theorem Born.join {w w1 w2 : World} {S T : List Seg} (h : Born w w1 S) (hk : Keeps w1 w2) (hw : Keeps w w1) (k : Born w1 w2 T) : Born w w2 (S ++ T) :=
  ⟨(h.toOwn.kept hk).append k.toOwn (k.apart h.mem), fun b hb => by
    rw [fp_append] at hb
    rcases List.mem_append.1 hb with hb | hb
    · exact h.new b hb
    · exact Nat.le_trans hw.size (k.new b hb)⟩
theorem fp_one (a : Option Addr) (xs : List Value) : fp [(a, xs)] = fpS (a, xs) := by simp [fp]
theorem fpS_some {b off : Nat} {xs : List Value} (h : xs ≠ []) : fpS (some ⟨b, off, none⟩, xs) = [b] := by simp [fpS, h]
theorem fpS_len {a : Option Addr} {xs ys : List Value} (h : xs.length = ys.length) : fpS (a, xs) = fpS (a, ys) := by
  unfold fpS
  by_cases h0 : xs = []
  · have : ys = [] := List.length_eq_zero_iff.1 (by rw [← h, h0]; rfl)
    simp [h0, this]
  · have : ys ≠ [] := fun e => h0 (List.length_eq_zero_iff.1 (by rw [h, e]; rfl))
    simp [h0, this]
/-- A row that the call itself made, as a segment. -/
theorem Own.of_owns {w : World} {base n : Nat} {e : TypeId} {sz : Nat} {v : Value} {xs : List Value} (h : w.ownsRow base e sz v n xs) :
    ∃ (a : Option Addr) (cap : Nat), v = .slice a n cap ∧ n ≤ cap ∧ cap ≤ maxLen ∧ (a = none → cap = 0) ∧ Own w [(a, xs)] ∧ ∀ b ∈ fp [(a, xs)], base ≤ b := by
  rcases h.2 with ⟨rfl, h'⟩ | ⟨g, cap, cur, rfl, hb, hg, hn, hm, hsz, ht⟩
  · have hx : xs = [] := List.length_eq_zero_iff.1 (by rw [h.1, h']; simp)
    subst hx h'
    refine ⟨none, 0, rfl, Nat.le_refl _, Nat.zero_le _, fun _ => rfl, ⟨?_, by simp [fp, fpS], fun b hb => absurd hb (by simp [fp, fpS])⟩, fun b hb => absurd hb (by simp [fp, fpS])⟩
    intro s hs
    rw [List.mem_singleton.1 hs]
    exact Cells.nil _ _
  · have hfz : ∀ o, w.frozen? ⟨g, o, none⟩ = false := fun o => by simp [World.frozen?, hg]
    refine ⟨_, cap, rfl, hn, hm, fun e => (nomatch e), ⟨?_, ?_, ?_⟩, ?_⟩
    · intro s hs
      rw [List.mem_singleton.1 hs]
      refine Or.inr ⟨g, 0, rfl, fun j hj => ?_⟩
      rw [Nat.zero_add]
      have h1 : w.cell? ⟨g, j, none⟩ = cur[j]? := by simp [World.cell?, hg]
      have hj' : j < xs.length := hj
      rw [h1, ← List.getElem?_eq_getElem hj]
      show _ = xs[j]?
      rw [← ht, List.getElem?_take]
      rw [h.1] at hj'
      rw [if_pos hj']
      simp
    · by_cases h0 : xs = [] <;> simp [fp, fpS, h0]
    · intro b hb'
      by_cases h0 : xs = []
      · simp [fp, fpS, h0] at hb'
      · simp [fp, fpS, h0] at hb'
        subst hb'
        exact hfz
    · intro b hb'
      by_cases h0 : xs = []
      · simp [fp, fpS, h0] at hb'
      · simp [fp, fpS, h0] at hb'
        subst hb'
        exact hb
theorem Own.one {w : World} {a : Option Addr} {xs : List Value} (h : Own w [(a, xs)]) : Cells w a xs := h.mem (a, xs) (by simp)
/-- A row that the call itself made since w, as a segment. -/
theorem Born.of_owns {w w' : World} {n : Nat} {e : TypeId} {sz : Nat} {v : Value} {xs : List Value} (h : w'.ownsRow w.heap.size e sz v n xs) :
    ∃ (a : Option Addr) (cap : Nat), v = .slice a n cap ∧ ((a = none → cap = 0) ∧ n ≤ cap) ∧ Born w w' [(a, xs)] := by
  obtain ⟨a, cap, hv, hl, _, hn, ho, hb⟩ := Own.of_owns h
  exact ⟨a, cap, hv, ⟨hn, hl⟩, ho, hb⟩
theorem int_lt {n : Int} (h : (Lit.int .i64 n).wf = true) : n < 9223372036854775808 := by
  have := (bounds_i64 h).2
  omega
theorem int_ge {n : Int} (h : (Lit.int .i64 n).wf = true) : -9223372036854775808 ≤ n := (bounds_i64 h).1
end Go.Proofs.YtdlgoccbmemjgaaGreatDoor

/- Lists of bytes: what the laws do with them (toByteS, eqByteS, markByteS, heldByteS, szByteS). -/
namespace Go.Proofs.YtdlgoccbmemjgaaGreatDoor
open Go.RowKit Go.Deep
set_option linter.unusedVariables false

def byV (x : UInt8) : Value := .int .u8 (x.toNat : Int)
def bys (L : List UInt8) : List Value := L.map byV
theorem bys_length (L : List UInt8) : (bys L).length = L.length := by simp [bys]
theorem bys_nil {L : List UInt8} : bys L = [] ↔ L = [] := by simp [bys]
theorem bys_append (L M : List UInt8) : bys (L ++ M) = bys L ++ bys M := by simp [bys]
theorem byte_lt (x : UInt8) : (x.toNat : Int) < 256 := by have := x.toNat_lt; omega
theorem byte_nn (x : UInt8) : (0 : Int) ≤ (x.toNat : Int) := by omega
theorem bys_at {w : World} {a : Option Addr} {L : List UInt8} (h : Cells w a (bys L)) (i : Nat) (hi : i < L.length) :
    ∃ b off, a = some ⟨b, off, none⟩ ∧ w.cell? ⟨b, off + i, none⟩ = some (.int .u8 (L[i].toNat : Int)) := by
  rcases h with h | ⟨b, off, e, h⟩
  · rw [bys_nil] at h; subst h; simp at hi
  · refine ⟨b, off, e, ?_⟩
    rw [h i (by rw [bys_length]; exact hi)]
    simp [bys, byV]
theorem bys_inj {L M : List UInt8} (h : bys L = bys M) : L = M := by
  unfold bys at h
  refine List.map_inj_right ?_ |>.1 h
  intro x y e
  simp only [byV, Value.int.injEq, true_and] at e
  exact UInt8.toNat_inj.1 (by omega)

theorem ret_b {a b : Bool} (h : a = b) : Ending.returned (.bool a) = .returned (.bool b) := by rw [h]
theorem Own.of_row {w : World} {b : Nat} {t : TypeId} {n : Nat} {f : Nat → Value} (h : w.rowIs b t n f) (xs : List Value) (hx : xs.length ≤ n) (hf : ∀ j (hj : j < xs.length), f j = xs[j]) : Own w [(some ⟨b, 0, none⟩, xs)] := by
  refine ⟨?_, ?_, ?_⟩
  · intro s hs
    rw [List.mem_singleton.1 hs]
    refine Or.inr ⟨b, 0, rfl, fun j hj => ?_⟩
    have hj' : j < xs.length := hj
    rw [Nat.zero_add, h.cell (by omega), hf j hj']
  · by_cases h0 : xs = [] <;> simp [fp, fpS, h0]
  · intro g hg
    by_cases h0 : xs = []
    · simp [fp, fpS, h0] at hg
    · simp [fp, fpS, h0] at hg
      subst hg
      exact h.frozen
theorem Born.of_row {W w : World} {b : Nat} {t : TypeId} {n : Nat} {f : Nat → Value} (h : w.rowIs b t n f) (xs : List Value) (hx : xs.length ≤ n) (hf : ∀ j (hj : j < xs.length), f j = xs[j]) (hb : W.heap.size ≤ b) : Born W w [(some ⟨b, 0, none⟩, xs)] :=
  ⟨Own.of_row h xs hx hf, fun g hg => by
    by_cases h0 : xs = []
    · simp [fp, fpS, h0] at hg
    · simp [fp, fpS, h0] at hg
      omega⟩

theorem infoByte : (Tryz.prog.info? 5).map (fun i => (i.zero, i.size, i.bytes)) = some (some (.int .u8 0), 1, 1) := by kernel_rfl
theorem underBytes : Tryz.prog.underlying 22 = some (.slice 5) := by kernel_rfl
theorem make_bytes (n : Nat) (hn : n ≤ 1048576) (w : World) : (Instr.makeSlice 22 (.int .i64 (n : Int)) (.int .i64 (n : Int))).run Tryz.prog w = .ok (.slice (some ⟨w.heap.size, 0, none⟩) n n) (w.alloc (.cells (madeCells #[.int .u8 0] n) 5)) :=
  run_make_row' 22 5 (.int .u8 0) 1 underBytes infoByte rfl .i64 .i64 n (by omega) (by omega) w

/-- The row of a new list of bytes while it is filled. -/
def rowB (L : List UInt8) (k : Nat) : Nat → Value := fun j => if j < k then (bys L).getD j (.int .u8 0) else .int .u8 0
theorem rowB_step (L : List UInt8) (k : Nat) (h : k < L.length) (j : Nat) : (if j = k then (.int .u8 (L[k].toNat : Int) : Value) else rowB L k j) = rowB L (k + 1) j := by
  unfold rowB
  by_cases e : j = k
  · subst e
    rw [if_pos rfl, if_pos (by omega), List.getD_eq_getElem?_getD]
    simp [bys, byV, h]
  · rw [if_neg e]
    by_cases hlt : j < k
    · rw [if_pos hlt, if_pos (by omega)]
    · rw [if_neg hlt, if_neg (by omega)]
theorem rowB_end (L : List UInt8) (j : Nat) (hj : j < (bys L).length) : rowB L L.length j = (bys L)[j] := by
  rw [bys_length] at hj
  unfold rowB
  rw [if_pos hj, List.getD_eq_getElem?_getD, List.getElem?_eq_getElem (by rw [bys_length]; exact hj)]
  rfl

theorem toByteS_k (a : Option Addr) (cap : Nat) (L : List UInt8) (w : World) (hc : Cells w a (bys L)) (hl : L.length ≤ 1048576) :
    Calls Tryz.prog 113 #[.slice a L.length cap] w fun e w' => ∃ b, e = .returned (.slice (some ⟨b, 0, none⟩) L.length L.length) ∧ Born w w' [(some ⟨b, 0, none⟩, bys L)] ∧ Keeps w w' := by
  have HC := hide hc
  clear hc
  have hmk := make_bytes L.length hl
  have HR := hide ((World.rowIs_made w (.int .u8 0) L.length 5).congr (g := rowB L 0) (fun i _ => by simp [rowB]))
  have HKA := hide (Keeps.alloc (Keeps.refl w) (.cells (madeCells #[.int .u8 0] L.length) 5))
  go_enter Tryz.func113, Tryz.ntmps113
  go_wp2_with fail
  clear hmk
  go_loopw [4] (fun y w1 => ∃ k : Nat, k ≤ L.length ∧ y = .int .i64 (k : Int) ∧ w1.rowIs w.heap.size 5 L.length (rowB L k) ∧ Keeps w w1) (fun y _ => L.length - (intOf y).toNat)
  case atStart => exact ⟨0, by omega, rfl, HR.out, HKA.out⟩
  case round =>
    obtain ⟨k, hk, rfl, hr, hkw⟩ := hrel
    clear HR HKA
    by_cases hlt : k < L.length
    · obtain ⟨b, off, ea, c0⟩ := bys_at (HC.out.kept hkw) k hlt
      subst ea
      have HS := hide (rowB_step L k hlt)
      have d0 := hr.cell (i := k) (by omega)
      have f0 := hr.frozen k
      have HRR := hide hr
      have HKW := hide hkw
      have hb0 := byte_nn L[k]
      have hb1 := byte_lt L[k]
      clear hr hkw
      generalize (L[k].toNat : Int) = x at *
      go_wp2_with fail
      go_roundw
      case rel => exact ⟨k + 1, by omega, by go_num, (HRR.out.set k (.int .u8 x)).congr (fun j _ => HS.out j), Keeps.setCell HKW.out (Nat.le_refl _) _⟩
      case measure => simp [intOf]; omega
    · have e : k = L.length := by omega
      subst e
      go_wp2_with fail
      go_ret
      exact ⟨_, rfl, Born.of_row hr (bys L) (by rw [bys_length]; exact Nat.le_refl _) (fun j hj => rowB_end L j hj) (Nat.le_refl _), hkw⟩

theorem szByteS_k (a : Option Addr) (len cap : Nat) (left : Int) (w : World) (h0 : 0 ≤ left) (h1 : left ≤ 1048576) (hl : len ≤ 9223372036854775807) :
    Calls Tryz.prog 112 #[.slice a len cap, .int .i64 left] w fun e w' => e = .returned (.int .i64 (if (len : Int) ≤ left then left - len else -1)) ∧ w' = w := by
  by_cases h : (len : Int) ≤ left
  · have H : Hid ((if (len : Int) ≤ left then left - len else -1) = left - len) := if_pos h
    go_enter Tryz.func112, Tryz.ntmps112
    go_wp2_with fail
    go_ret
    exact ⟨rfl, rfl⟩
  · have H : Hid ((if (len : Int) ≤ left then left - len else -1) = -1) := if_neg h
    go_enter Tryz.func112, Tryz.ntmps112
    go_wp2_with fail
    go_ret
    exact ⟨rfl, rfl⟩

theorem eqByteS_k (a a' : Option Addr) (cap cap' : Nat) (L M : List UInt8) (w : World) (hc : Cells w a (bys L)) (hc' : Cells w a' (bys M)) (hl : L.length ≤ 16777216) (hl' : M.length ≤ 16777216) :
    Calls Tryz.prog 114 #[.slice a L.length cap, .slice a' M.length cap'] w fun e w' => e = .returned (.bool (decide (L = M))) ∧ Keeps w w' := by
  have HC := hide hc
  have HC' := hide hc'
  clear hc hc'
  by_cases hn : L.length = M.length
  · have hn' : ((L.length : Int) != (M.length : Int)) = false := by rw [hn]; simp
    have HN := hide hn
    clear hn
    go_enter Tryz.func114, Tryz.ntmps114
    go_wp2_with fail
    go_loopw [5] (fun y w1 => ∃ k : Nat, k ≤ L.length ∧ Hid (L.take k = M.take k) ∧ y = .int .i64 (k : Int) ∧ Keeps w w1) (fun y _ => L.length - (intOf y).toNat)
    case atStart => exact ⟨0, by omega, by show _ = _; simp, rfl, Keeps.refl _⟩
    case round =>
      obtain ⟨k, hk, HO, rfl, hkw⟩ := hrel
      by_cases hlt : k < L.length
      · have hlt' : k < M.length := by have := HN.out; omega
        obtain ⟨b, off, ea, c0⟩ := bys_at (HC.out.kept hkw) k hlt
        obtain ⟨b', off', ea', d0⟩ := bys_at (HC'.out.kept hkw) k hlt'
        subst ea ea'
        have HT : Hid (L.take (k + 1) = L.take k ++ [L[k]] ∧ M.take (k + 1) = M.take k ++ [M[k]]) := ⟨List.take_succ_eq_append_getElem hlt, List.take_succ_eq_append_getElem hlt'⟩
        have HX : Hid (L = M → L[k] = M[k]) := fun e => by subst e; rfl
        have hb0 := byte_nn L[k]
        have hb1 := byte_lt L[k]
        have hb2 := byte_nn M[k]
        have hb3 := byte_lt M[k]
        generalize L[k] = x at *
        generalize M[k] = y at *
        by_cases hq : x = y
        · subst hq
          go_wp2_with fail
          go_quiet (fail)
          go_wp2_with fail
          go_roundw
          case rel => exact ⟨k + 1, by omega, by show _ = _; rw [HT.out.1, HT.out.2, HO.out], by go_num, hkw.drewN _⟩
          case measure => simp [intOf]; omega
        · have hq' : ((x.toNat : Int) != (y.toNat : Int)) = true := by
            rw [bne_iff_ne]; exact fun e => hq (UInt8.toNat_inj.1 (by omega))
          have HNQ := hide hq
          clear hq
          go_wp2_with fail
          go_quiet (fail)
          go_wp2_with fail
          go_ret
          exact ⟨ret_b (decide_eq_false (fun e => HNQ.out (HX.out e))).symm, hkw.drewN _⟩
      · have e : k = L.length := by omega
        subst e
        have HQ : Hid (L = M) := by have h := HO.out; rw [List.take_of_length_le (Nat.le_refl _), List.take_of_length_le (by have := HN.out; omega)] at h; exact h
        go_wp2_with fail
        go_ret
        exact ⟨ret_b (decide_eq_true HQ.out).symm, hkw⟩
  · have hn' : ((L.length : Int) != (M.length : Int)) = true := by rw [bne_iff_ne]; omega
    have H : Hid (decide (L = M) = false) := decide_eq_false (fun e => hn (by rw [e]))
    clear hn
    go_enter Tryz.func114, Tryz.ntmps114
    go_wp2_with fail
    go_ret
    exact ⟨ret_b H.out.symm, Keeps.refl _⟩

/-- The marks from n on. -/
def marksB (n m : Nat) : List UInt8 := (List.range m).map fun i => UInt8.ofNat (n + i)
theorem marksB_length (n m : Nat) : (marksB n m).length = m := by simp [marksB]
theorem marksB_at (n m i : Nat) (h : i < m) : (marksB n m)[i]? = some (UInt8.ofNat (n + i)) := by simp [marksB, h]
theorem byV_ofNat (k : Nat) : byV (UInt8.ofNat k) = .int .u8 ((k : Int) % 256) := by
  simp [byV]
/-- A list that is written cell by cell: what became of it. -/
theorem Own.wrote {w w' : World} {a : Option Addr} {xs ys : List Value} (h : Own w [(a, xs)]) (hl : ys.length = xs.length) (hc : Cells w' a ys) (hf : ∀ p, w'.frozen? p = w.frozen? p) : Own w' [(a, ys)] := by
  have e : fp [(a, ys)] = fp [(a, xs)] := by rw [fp_one, fp_one]; exact fpS_len hl
  refine ⟨?_, by rw [e]; exact h.nd, ?_⟩
  · intro s hs
    rw [List.mem_singleton.1 hs]; exact hc
  · rw [e]
    intro b hb o
    rw [hf]; exact h.free b hb o

set_option maxHeartbeats 2000000 in
theorem markByteS_k (a : Option Addr) (cap : Nat) (L : List UInt8) (n : Nat) (w : World) (h : Own w [(a, bys L)]) (hl : L.length ≤ 16777216) (hn : n ≤ 1000000000000) :
    Calls Tryz.prog 99 #[.slice a L.length cap, .int .i64 (n : Int)] w fun e w' => e = .returned (.int .i64 ((n + L.length : Nat) : Int)) ∧ Own w' [(a, bys (marksB n L.length))] ∧ Turn (fp [(a, bys L)]) w w' := by
  have HO := hide h
  by_cases h0 : L = []
  · subst h0
    clear h
    go_enter Tryz.func99, Tryz.ntmps99
    go_wp2_with fail
    refine wp_loop_rounds 1 ?_
    rw [rounds_succ]
    go_wp2_with fail
    go_ret
    exact ⟨by simp, by simpa [marksB] using HO.out, Turn.refl _ _⟩
  · have hc : Cells w a (bys L) := h.mem (a, bys L) (by simp)
    rcases hc with hc | ⟨g, off, rfl, hc⟩
    · exact absurd (bys_nil.1 hc) h0
    have hfp : fp [(some (⟨g, off, none⟩ : Addr), bys L)] = [g] := by rw [fp_one]; exact fpS_some (fun e => h0 (bys_nil.1 e))
    have HF : Hid (∀ o, w.frozen? ⟨g, o, none⟩ = false) := fun o => h.free g (by rw [hfp]; simp) o
    rw [hfp]
    have HC := hide hc
    clear hc h h0 hfp
    go_enter Tryz.func99, Tryz.ntmps99
    go_wp2_with fail
    go_loopw [1, 5] (fun x y wr => ∃ k : Nat, k ≤ L.length ∧ x = .int .i64 ((n + k : Nat) : Int) ∧ y = .int .i64 (k : Int) ∧ Hid (∀ j, j < L.length → ∃ u, wr.cell? ⟨g, off + j, none⟩ = some u) ∧ Hid (∀ j, j < k → wr.cell? ⟨g, off + j, none⟩ = some (byV (UInt8.ofNat (n + j)))) ∧ Hid (∀ p, wr.frozen? p = w.frozen? p) ∧ Hid (Turn [g] w wr)) (fun _ y _ => L.length - (intOf y).toNat)
    case atStart => exact ⟨0, by omega, by simp, rfl, fun j hj => ⟨_, HC.out j (by rw [bys_length]; exact hj)⟩, fun j hj => absurd hj (by omega), fun _ => rfl, Turn.refl _ _⟩
    case round =>
      obtain ⟨k, hk, rfl, rfl, HE, HM, HFr, HG⟩ := hrel
      by_cases hlt : k < L.length
      · obtain ⟨u0, c0⟩ := HE.out k hlt
        have f0 : wr.frozen? ⟨g, off + k, none⟩ = false := by rw [HFr.out]; exact HF.out _
        go_wp2_with fail
        go_roundw
        case rel =>
          have hs : (wr.setCell ⟨g, off + k, none⟩ (.int .u8 (((n : Int) + (k : Int)) % 256))).cell? ⟨g, off + k, none⟩ = some (.int .u8 (((n : Int) + (k : Int)) % 256)) := World.cell?_setCell_same _ _ _ c0
          have ho : ∀ j, j ≠ k → (wr.setCell ⟨g, off + k, none⟩ (.int .u8 (((n : Int) + (k : Int)) % 256))).cell? ⟨g, off + j, none⟩ = wr.cell? ⟨g, off + j, none⟩ := fun j hj => World.cell?_setCell_other _ _ _ _ (by simp)
          refine ⟨k + 1, by omega, by go_num, by go_num, ?_, ?_, ?_, HG.out.trans' (Turn.set (by simp) _)⟩
          · intro j hj
            by_cases e : j = k
            · subst e; exact ⟨_, hs⟩
            · rw [ho j e]; exact HE.out j hj
          · intro j hj
            by_cases e : j = k
            · subst e; rw [hs, byV_ofNat]; congr 2
            · rw [ho j e]; exact HM.out j (by omega)
          · intro p
            rw [frozen_set]; exact HFr.out p
        case measure => simp [intOf]; omega
      · have e : k = L.length := by omega
        subst e
        go_wp2_with fail
        go_ret
        refine ⟨rfl, HO.out.wrote (by simp [marksB_length, bys_length]) (Or.inr ⟨g, off, rfl, fun j hj => ?_⟩) HFr.out, HG.out⟩
        have hj' : j < L.length := by simpa [bys_length, marksB_length] using hj
        rw [HM.out j hj']
        simp [bys, marksB]

theorem heldByteS_k (a : Option Addr) (cap : Nat) (m : Nat) (n : Nat) (w : World) (hc : Cells w a (bys (marksB n m))) (hl : m ≤ 16777216) (hn : n ≤ 1000000000000) :
    Calls Tryz.prog 115 #[.slice a m cap, .int .i64 (n : Int)] w fun e w' => e = .returned (.int .i64 ((n + m : Nat) : Int)) ∧ w' = w := by
  have HC := hide hc
  clear hc
  go_enter Tryz.func115, Tryz.ntmps115
  go_wp2_with fail
  go_loop [1, 5] (fun x y => ∃ k : Nat, k ≤ m ∧ x = .int .i64 ((n + k : Nat) : Int) ∧ y = .int .i64 (k : Int)) (fun _ y => m - (intOf y).toNat)
  case atStart => exact ⟨0, by omega, by simp, rfl⟩
  case round =>
    obtain ⟨k, hk, rfl, rfl⟩ := hrel
    by_cases hlt : k < m
    · obtain ⟨b, off, ea, c0⟩ := bys_at HC.out k (by rw [marksB_length]; exact hlt)
      subst ea
      have e0 : (((marksB n m)[k]'(by rw [marksB_length]; exact hlt)).toNat : Int) = ((n : Int) + (k : Int)) % 256 := by simp [marksB]
      rw [e0] at c0
      clear e0
      go_wp2_with fail
      go_round
      case rel => exact ⟨k + 1, by omega, by go_num, by go_num⟩
      case measure => simp [intOf]; omega
    · have e : k = m := by omega
      subst e
      go_wp2_with fail
      go_ret
      exact ⟨rfl, rfl⟩
end Go.Proofs.YtdlgoccbmemjgaaGreatDoor

/- Lists of bytes that a call makes by append; numbers as bytes: bytes.Clone, l03Pow, appendNum, PutNum. -/
namespace Go.Proofs.YtdlgoccbmemjgaaGreatDoor
open Go.RowKit Go.Deep
set_option linter.unusedVariables false
set_option maxRecDepth 10000

abbrev OwnsB (w : World) (base : Nat) (v : Value) (L : List UInt8) : Prop := w.ownsRow base 5 1 v L.length (bys L)
theorem one_cells {u : Value} {L : List UInt8} (h : u ∈ bys L) : u.oneCell' = true := by
  unfold bys at h
  obtain ⟨x, _, rfl⟩ := List.mem_map.1 h
  rfl
theorem add_at (b off j : Nat) : (⟨b, off, none⟩ : Addr).add j = ⟨b, off + j, none⟩ := by
  unfold Addr.add
  by_cases h0 : j = 0 <;> simp [h0]
/-- append of a list of bytes to one of the call's own. -/
theorem app_bys {ops : Array Oper} {rest : List Oper} {o : Oper} {a : Act} {Q : Exit → Act → World → Prop} {wr : World} (hgd : o.guard = none) (s x : Operand)
    (ho : o.op = .call { callee := .builtin .append, args := #[s, x], argTypes := #[22, 22] }) (base : Nat) (v : Value) (L M : List UInt8) (hs : a.eval s = v) (xa : Option Addr) (c : Nat)
    (hx : a.eval x = .slice xa M.length c) (hM : Cells wr xa (bys M)) (hn : xa = none → c = 0) (hown : OwnsB wr base v L) (hl : L.length + M.length ≤ 4194304) (hbase : base ≤ wr.heap.size)
    (h : ∀ v' w', OwnsB w' base v' (L ++ M) → wr.grownBy w' v.ownBlock → wpList Tryz.prog ops Q rest (a.put o.dst v') w') :
    wpList Tryz.prog ops Q (o :: rest) a wr := by
  have hI := infoByte
  cases hi : Tryz.prog.info? 5 with
  | none => rw [hi] at hI; simp at hI
  | some i =>
    rw [hi] at hI
    simp at hI
    obtain ⟨hz, hsz, hby⟩ := hI
    cases xa with
    | none =>
      obtain rfl := hn rfl
      have hM0 : M = [] := by
        rcases hM with hM | ⟨_, _, e, _⟩
        · exact bys_nil.1 hM
        · cases e
      subst hM0
      refine wpList_append_own_none hgd s x 22 ho base 5 i 1 underBytes hi v L.length (bys L) hs hown hx ?_
      exact h v wr (by simpa using hown) ⟨rfl, rfl, rfl, Nat.le_refl _, fun _ _ _ => rfl⟩
    | some p =>
      refine wpList_append_own _ hgd s x 22 ho base 5 i _ 1 1 underBytes hi hz hsz hby rfl (by decide) v L.length (bys L) hs hown p M.length c (bys M) hx (by simp [bys_length]) ?_ (fun u hu => one_cells hu) ?_ ?_ hbase ?_
      · intro j u hj
        rcases hM with hM | ⟨b, off, e, hM⟩
        · rw [hM] at hj; simp at hj
        · obtain rfl := Option.some.inj e
          obtain ⟨hj', e'⟩ := List.getElem?_eq_some_iff.1 hj
          have := hM j hj'
          rw [e'] at this
          rw [← this, add_at]
      · simp only [maxLen]; omega
      · omega
      · intro v' w' h1 h2 _
        exact h v' w' (by unfold OwnsB; rw [bys_append, List.length_append]; exact h1) h2
theorem OwnsB.nil (w : World) (base : Nat) : OwnsB w base (.slice none 0 0) [] := by unfold OwnsB; exact World.ownsRow_nil w base 5 1
theorem cells_one (w : World) (x : UInt8) : Cells (w.alloc (.cells #[byV x] 5)) (some ⟨w.heap.size, 0, none⟩) (bys [x]) := by
  refine Or.inr ⟨_, 0, rfl, fun j hj => ?_⟩
  have : j = 0 := by simp [bys] at hj; omega
  subst this
  simp [bys]
/-- What was kept behind an append to a list of the call's own. -/
theorem Keeps.grown {W0 wr w' : World} {row : Option Nat} (hk : Keeps W0 wr) (hg : wr.grownBy w' row) (hr : ∀ k, row = some k → W0.heap.size ≤ k) : Keeps W0 w' :=
  Below.grown hk hg hk.size hr
theorem OwnsB.from {w : World} {base : Nat} {v : Value} {L : List UInt8} (h : OwnsB w base v L) : ∀ k, v.ownBlock = some k → base ≤ k := fun k hk => (h.lt k hk).1

theorem OwnsB.older {w : World} {base base' : Nat} {v : Value} {L : List UInt8} (h : OwnsB w base v L) (hb : base' ≤ base) : OwnsB w base' v L := by
  refine ⟨h.1, ?_⟩
  rcases h.2 with h' | ⟨g, cap, cur, rfl, hb', rest⟩
  · exact .inl h'
  · exact .inr ⟨g, cap, cur, rfl, by omega, rest⟩

theorem clone_k (a : Option Addr) (cap : Nat) (L : List UInt8) (w : World) (hc : Cells w a (bys L)) (hn : a = none → cap = 0) (hl : L.length ≤ 4194304) :
    Calls Tryz.prog 84 #[.slice a L.length cap] w fun e w' => ∃ v, e = .returned v ∧ OwnsB w' w.heap.size v L ∧ Keeps w w' := by
  have q22 : ∀ (w : World) (a : Option Addr) (n c : Nat), (binOp .eql 22 (.slice a n c) (.slice none 0 0)).run Tryz.prog w = .ok (.bool a.isNone) w := fun w a n c => Lib.run_eql_slice_nil w _ _ a n c 0 0 underBytes
  cases a with
  | none =>
    obtain rfl := hn rfl
    have h0 : L = [] := by
      rcases hc with h | ⟨_, _, e, _⟩
      · exact bys_nil.1 h
      · cases e
    subst h0
    clear hl hc hn
    go_enter Tryz.func84, Tryz.ntmps84
    go_wp2_with fail
    go_ret
    exact ⟨_, rfl, OwnsB.nil _ _, Keeps.refl _⟩
  | some p =>
    have HC := hide (hc.kept (Keeps.alloc (Keeps.refl w) (.cells #[] 5)))
    have HO := hide (World.ownsRow_made (base := w.heap.size) (e := 5) (size := 1) w #[] 0 (Nat.le_refl _) (by decide) rfl)
    have HL : Hid (([] : List UInt8).length + L.length ≤ 4194304) := by show _ ≤ _; simpa using hl
    clear hc hn hl
    go_enter Tryz.func84, Tryz.ntmps84
    go_wp2_with (at_builtin; refine app_bys rfl (.tmp 5) (.tmp 6) rfl w.heap.size _ [] L rfl (some p) cap rfl HC.out (fun e => nomatch e) HO.out HL.out (by simp) ?_; intro v' w' ho hg)
    go_ret
    refine ⟨_, rfl, by simpa using ho, ?_⟩
    exact Keeps.grown (Keeps.alloc (Keeps.refl w) _) hg (fun k hk => (HO.out.lt k hk).1)

/-- The digits of base 256, the highest first: the first k of s. -/
def digsTo (n s k : Nat) : List UInt8 := (List.range k).map fun i => UInt8.ofNat (n / 256 ^ (s - 1 - i))
def digs (n s : Nat) : List UInt8 := digsTo n s s
theorem digsTo_succ (n s k : Nat) : digsTo n s (k + 1) = digsTo n s k ++ [UInt8.ofNat (n / 256 ^ (s - 1 - k))] := by simp [digsTo, List.range_succ]
theorem digsTo_length (n s k : Nat) : (digsTo n s k).length = k := by simp [digsTo]
theorem digs_length (n s : Nat) : (digs n s).length = s := digsTo_length n s s
theorem pow_le6 {k : Nat} (h : k ≤ 6) : 256 ^ k ≤ 281474976710656 := Nat.le_trans (Nat.pow_le_pow_right (by decide) h) (by decide)

theorem pow_spec (s : Nat) (hs : s ≤ 7) (w : World) : Calls Tryz.prog 106 #[.int .i64 (s : Int)] w fun e w' => e = .returned (.int .i64 ((256 ^ s : Nat) : Int)) ∧ w' = w := by
  go_enter Tryz.func106, Tryz.ntmps106
  go_wp2_with fail
  go_loop [3, 4] (fun x y => ∃ k : Nat, k ≤ s ∧ x = .int .i64 ((256 ^ k : Nat) : Int) ∧ y = .int .i64 (k : Int)) (fun _ y => s - (intOf y).toNat)
  case atStart => exact ⟨0, by omega, rfl, rfl⟩
  case round =>
    obtain ⟨k, hk, rfl, rfl⟩ := hrel
    by_cases hlt : k < s
    · have hp := pow_le6 (k := k) (by omega)
      have HN : Hid (256 ^ (k + 1) = 256 ^ k * 256) := Nat.pow_succ ..
      generalize 256 ^ k = p at *
      go_wp2_with fail
      go_round
      case rel => exact ⟨k + 1, by omega, by rw [HN.out]; go_num, by go_num⟩
      case measure => simp [intOf]; omega
    · have e : k = s := by omega
      subst e
      go_wp2_with fail
      go_ret
      exact ⟨rfl, rfl⟩

theorem sizeok_k (s : Int) (w : World) : Calls Tryz.prog 116 #[.int .i64 s] w fun e w' => e = .returned (.bool (decide (1 ≤ s) && decide (s ≤ 7))) ∧ w' = w := by
  by_cases h1 : 1 ≤ s
  · have H : Hid ((decide (1 ≤ s) && decide (s ≤ 7)) = decide (s ≤ 7)) := by show _ = _; rw [decide_eq_true h1, Bool.true_and]
    go_enter Tryz.func116, Tryz.ntmps116
    go_wp2
    go_ret
    exact ⟨ret_b H.out.symm, rfl⟩
  · have H : Hid ((decide (1 ≤ s) && decide (s ≤ 7)) = false) := by show _ = _; rw [decide_eq_false h1, Bool.false_and]
    go_enter Tryz.func116, Tryz.ntmps116
    go_wp2
    go_ret
    exact ⟨ret_b H.out.symm, rfl⟩

/-- Is there a text of size bytes for n? -/
def putB (n size : Int) : Bool := decide (1 ≤ size) && decide (size ≤ 7) && decide (0 ≤ n) && decide (n < ((256 ^ size.toNat : Nat) : Int))
def putL (L : List UInt8) (n size : Int) : List UInt8 := if putB n size = true then L ++ digs n.toNat size.toNat else []

theorem digV (n j : Nat) : byV (UInt8.ofNat (n / 256 ^ j)) = .int .u8 ((n : Int) / 2 ^ (8 * j) % 256) := by
  rw [byV_ofNat]
  congr 1
  rw [show (2 : Int) ^ (8 * j) = ((2 ^ (8 * j) : Nat) : Int) by simp, Nat.pow_mul]
  rfl
set_option maxHeartbeats 1000000 in
theorem appnum_k (v : Value) (L : List UInt8) (n s base : Nat) (w : World) (hs : s ≤ 7) (hs1 : 1 ≤ s) (hn : n < 9223372036854775808) (hl : L.length ≤ 2097152) (ho : OwnsB w base v L) (hb : base ≤ w.heap.size) (W0 : World) (hb0 : W0.heap.size ≤ base) (hk0 : Keeps W0 w) :
    Calls Tryz.prog 70 #[v, .int .i64 (n : Int), .int .i64 (s : Int)] w fun e w' => ∃ v', e = .returned v' ∧ OwnsB w' base v' (L ++ digs n s) ∧ base ≤ w'.heap.size ∧ Keeps W0 w' := by
  have HO := hide ho
  have HK := hide hk0
  clear ho hk0
  go_enter Tryz.func70, Tryz.ntmps70
  go_wp2_with fail
  go_loopw [0, 7] (fun x y wr => ∃ k : Nat, k ≤ s ∧ y = .int .i64 (8 * ((s : Int) - 1 - k)) ∧ Hid (OwnsB wr base x (L ++ digsTo n s k)) ∧ base ≤ wr.heap.size ∧ Hid (Keeps W0 wr)) (fun _ y _ => (intOf y + 8).toNat)
  case atStart => exact ⟨0, by omega, by simp, by show OwnsB _ _ _ _; simpa [digsTo] using HO.out, hb, HK⟩
  case round =>
    obtain ⟨k, hk, rfl, HOr, hbr, HKr⟩ := hrel
    by_cases hlt : k < s
    · have hz : (0 : Int) ≤ 8 * ((s : Int) - 1 - k) := by omega
      have hz2 : 8 * ((s : Int) - 1 - k) ≤ 48 := by omega
      have hl2 : (L ++ digsTo n s k).length + [UInt8.ofNat (n / 256 ^ (s - 1 - k))].length ≤ 4194304 := by simp [digsTo_length]; omega
      have HL2 := hide hl2
      have HC1 : Hid (Cells (wr.alloc (.cells #[.int .u8 ((n : Int) / 2 ^ (8 * (s - 1 - k)) % 256)] 5)) (some ⟨wr.heap.size, 0, none⟩) (bys [UInt8.ofNat (n / 256 ^ (s - 1 - k))])) := by
        show Cells _ _ _
        rw [← digV]
        exact cells_one wr _
      have HO1 := hide (HOr.out.alloc (.cells #[.int .u8 ((n : Int) / 2 ^ (8 * (s - 1 - k)) % 256)] 5))
      have HK1 := hide (Keeps.alloc HKr.out (.cells #[.int .u8 ((n : Int) / 2 ^ (8 * (s - 1 - k)) % 256)] 5))
      clear hl2
      go_wp2_with (at_builtin; refine app_bys rfl (.tmp 15) (.tmp 20) rfl base _ (L ++ digsTo n s k) [UInt8.ofNat (n / 256 ^ (s - 1 - k))] rfl (some ⟨wr.heap.size, 0, none⟩) 1 rfl HC1.out (fun e => nomatch e) HO1.out HL2.out (by simp; omega) ?_; intro v' w' ho hg)
      go_roundw
      case rel =>
        refine ⟨k + 1, by omega, by congr 1; omega, ?_, ?_, Keeps.grown HK1.out hg (fun j hj => Nat.le_trans hb0 (HO1.out.lt j hj).1)⟩
        · show OwnsB _ _ _ _
          rw [digsTo_succ, ← List.append_assoc]; exact ho
        · have := hg.size
          simp at this
          omega
      case measure => simp [intOf]; omega
    · have e : k = s := by omega
      subst e
      go_wp2_with fail
      go_ret
      exact ⟨_, rfl, HOr.out, hbr, HKr.out⟩
end Go.Proofs.YtdlgoccbmemjgaaGreatDoor

/- Sectors and disks in memory: their lists, and what a law reads of its arguments. -/
namespace Go.Proofs.YtdlgoccbmemjgaaGreatDoor
open Go.RowKit Go.ChangeShapes Go.WideShapes Go.Deep
set_option linter.unusedVariables false
set_option maxRecDepth 100000

/-- A list of bytes: where it lies, and its bytes. -/
structure Bs where
  a : Option Addr
  cap : Nat
  L : List UInt8
def Bs.v (b : Bs) : Value := .slice b.a b.L.length b.cap
def Bs.cells (b : Bs) : List Value := [b.v]
def Bs.seg (b : Bs) : Seg := (b.a, bys b.L)
def ccells (cs : List Bs) : List Value := cs.flatMap Bs.cells
def Bs.fit (b : Bs) : Prop := (b.a = none → b.cap = 0) ∧ b.L.length ≤ b.cap
def Bs.ok (b : Bs) : Prop := b.fit ∧ b.L.length ≤ 9223372036854775807
/-- A write that waits. -/
structure Wr where
  i : Int
  b : Bs
def Wr.cells (x : Wr) : List Value := [.int .i64 x.i, x.b.v]
def wcells (ds : List Wr) : List Value := ds.flatMap Wr.cells
/-- A disk: its two lists and what lies in them. -/
structure Dk where
  ca : Option Addr
  cc : Nat
  cs : List Bs
  da : Option Addr
  dc : Nat
  ds : List Wr
def Dk.v (d : Dk) : Value := .agg #[.slice d.ca d.cs.length d.cc, .slice d.da d.ds.length d.dc]
def Dk.csegs (d : Dk) : List Seg := (d.ca, ccells d.cs) :: d.cs.map Bs.seg
def Dk.dsegs (d : Dk) : List Seg := (d.da, wcells d.ds) :: d.ds.map (fun x => x.b.seg)
def Dk.segs (d : Dk) : List Seg := d.csegs ++ d.dsegs
def Dk.ok (d : Dk) : Prop := (d.ca = none → d.cc = 0) ∧ (d.da = none → d.dc = 0) ∧ d.cs.length ≤ 9223372036854775807 ∧ d.ds.length ≤ 9223372036854775807 ∧ (∀ b ∈ d.cs, b.ok) ∧ (∀ x ∈ d.ds, x.b.ok ∧ (Lit.int .i64 x.i).wf = true)
/-- What a disk says. -/
structure DkM where
  cells : List (List UInt8)
  dirty : List (Int × List UInt8)
def Dk.dat (d : Dk) : DkM := ⟨d.cs.map Bs.L, d.ds.map fun x => (x.i, x.b.L)⟩

section
variable {H : Type} {enc : TypeId × Value → H} {W : World} {n : Nat} {cs : List Value} {y : DataW H × List MemPlace} {base : Nat} {sp : Nat → Bool} {hd : Bool}
theorem cellsByte : Tryz.prog.cellsOf 5 = 1 := by kernel_rfl
theorem cellsBytes : Tryz.prog.cellsOf 22 = 1 := by kernel_rfl
theorem cellsInt : Tryz.prog.cellsOf 3 = 1 := by kernel_rfl
theorem open_byte (h : DataW.trod enc Tryz.prog W base sp hd n 5 cs = some y) : ∃ x : UInt8, cs = [byV x] := by
  obtain ⟨k, e, _, hw⟩ := DataW.trod_int Tryz.underlying5 h
  have hb : 0 ≤ k ∧ k ≤ 255 := by simpa [Lit.wf, IntKind.min, IntKind.max, IntKind.signed, IntKind.bits] using hw
  refine ⟨UInt8.ofNat k.toNat, ?_⟩
  rw [e, byV_ofNat]
  congr 2
  omega
theorem open_cells' {P : Program} {t e : TypeId} {sz fuel : Nat} {v : Value} {x : DataW H × List MemPlace} (ht : P.underlying t = some (.slice e)) (hsz : P.cellsOf e = sz) (hpos : 0 < sz)
    (h : DataW.trod enc P W base sp hd fuel t [v] = some x) (Q : List Value → Prop) (hQ : ∀ n cs y, DataW.trod enc P W base sp hd n e cs = some y → Q cs) :
    ∃ (a : Option Addr) (cap : Nat) (M : List (List Value)), v = .slice a M.length cap ∧ (∀ c ∈ M, c.length = sz ∧ Q c) ∧ Cells W a M.flatten ∧ ((a = none → cap = 0) ∧ M.length ≤ cap) ∧ M.length ≤ 9223372036854775807 := by
  obtain ⟨a, cap, M, hv, h1, h2, h3, h4⟩ := open_cells ht hsz hpos h Q hQ
  refine ⟨a, cap, M, hv, h1, h2, ⟨?_, h3⟩, Nat.le_trans h3 h4⟩
  rcases open_slice ht h with ⟨hv', _⟩ | ⟨a', len, cap', m, n, D, Pl, hv', _⟩
  · simp at hv'
    rw [hv'] at hv
    intro _
    injection hv with _ _ e
    exact e.symm
  · simp at hv'
    rw [hv'] at hv
    intro e
    subst e
    injection hv with e _ _
    cases e
theorem bytes_of : ∀ M : List (List Value), (∀ c ∈ M, c.length = 1 ∧ ∃ x : UInt8, c = [byV x]) → ∃ L : List UInt8, L.length = M.length ∧ M.flatten = bys L
  | [], _ => ⟨[], rfl, rfl⟩
  | c :: M, h => by
    obtain ⟨L, hl, hf⟩ := bytes_of M (fun c hc => h c (List.mem_cons_of_mem _ hc))
    obtain ⟨_, x, rfl⟩ := h c (List.mem_cons_self ..)
    exact ⟨x :: L, by simp [hl], by simp [bys, hf]⟩
/-- A list of bytes among what is read. -/
theorem open_bytes {v : Value} (h : DataW.trod enc Tryz.prog W base sp hd n 22 [v] = some y) : ∃ b : Bs, v = b.v ∧ Cells W b.a (bys b.L) ∧ b.ok := by
  obtain ⟨a, cap, M, hv, hq, hc, hn, hl⟩ := open_cells' underBytes cellsByte (by decide) h (fun c => ∃ x : UInt8, c = [byV x]) (fun _ _ _ h => open_byte h)
  obtain ⟨L, e, ef⟩ := bytes_of M hq
  exact ⟨⟨a, cap, L⟩, by rw [hv, ← e]; rfl, by rw [← ef]; exact hc, ⟨hn.1, by show L.length ≤ cap; rw [e]; exact hn.2⟩, by show L.length ≤ _; rw [e]; exact hl⟩
variable {v : Value} {d : DataW H} {ps : List MemPlace}
theorem bytes_row {b0 : Nat} (hv : Value.okWide Tryz.prog W .any b0 22 v) (h : DataW.Trod enc Tryz.prog W base sp hd 22 v d ps) :
    ∃ (a : Option Addr) (cap : Nat) (L : List UInt8), v = .slice a L.length cap ∧ Cells W a (bys L) ∧ (a = none → cap = 0) ∧ L.length ≤ 9223372036854775807 := by
  obtain ⟨a, len, cap, rfl⟩ := okWide_slice underBytes hv
  obtain ⟨m, h⟩ := h
  obtain ⟨b, e, hc, ho⟩ := open_bytes (v := .slice a len cap) (by simpa [Value.cells] using h)
  exact ⟨b.a, b.cap, b.L, e, hc, ho.1.1, ho.2⟩
theorem lt_row {t : TypeId} (h : DataW.Trod enc Tryz.prog W base sp hd t v d ps) : ∀ x ∈ ps, x.block < W.heap.size := by
  obtain ⟨m, hm⟩ := h
  exact DataW.trod_lt m _ _ _ hm
end
end Go.Proofs.YtdlgoccbmemjgaaGreatDoor
