/- Texts of the verifier, joined: Keep, Open, Mem, Lst0, Int0, Jam, Jam2, Bk, BkA. -/
import Derived.Test.YtjdbedlgkngdkaaGreatDoorRows
import Derived.WalkKit
import Derived.WalkSpells
import Derived.WalkSmall
import Derived.Deep.QuietTactic
import Derived.BigQuiet
import Derived.RowKit3
import Derived.Stop.LaidErr
import Derived.MakeChecks
import Derived.Deep.Slices
import Derived.Deep.OwnRows
import Derived.Laws.OwnMore
import Derived.OpenShut
import Derived.ChangeSame
import Derived.WideShapes
import Derived.Below
import Derived.Deep.Strs
import Derived.Deep.DrawnRows
import Derived.Deep.Heap
namespace Go.Proofs.YtjdbedlgkngdkaaGreatDoor
open Go.RowKit Go.ChangeShapes

/-- What was there is as it was. -/
def Keeps (w w' : World) : Prop := Below w.heap.size w w'
theorem Keeps.refl (w : World) : Keeps w w := Below.refl _ _
theorem Keeps.trans {a b c : World} (h : Keeps a b) (k : Keeps b c) : Keeps a c := Below.trans h (Below.mono k h.size)
theorem Keeps.drewN {a b : World} (h : Keeps a b) (n : Nat) : Keeps a (b.drewN n) := below_drewN h n
theorem Keeps.cell {w w' : World} (h : Keeps w w') {p : Addr} {v : Value} (hc : w.cell? p = some v) : w'.cell? p = some v := by
  have hlt : p.block < w.heap.size := by
    rcases Nat.lt_or_ge p.block w.heap.size with h' | h'
    · exact h'
    · simp [World.cell?, Array.getElem?_eq_none h'] at hc
  rw [← hc]; exact Below.cell h hlt

theorem cell_of_var {W : World} {n : String} {g : Nat} {v : Value} (hg : Tryz.prog.globalNamed n = some g) (h : W.var? Tryz.prog n = some #[v]) : W.cell? ⟨g, 0, none⟩ = some v := by
  simpa using World.var?_cell hg h 0
theorem var_kept {W W' : World} (h : Keeps W W') {n : String} {cs : Array Value} (hv : W.var? Tryz.prog n = some cs) : W'.var? Tryz.prog n = some cs := by
  unfold World.var? at hv ⊢
  cases hg : Tryz.prog.globalNamed n with
  | none => simp [hg] at hv
  | some g =>
    simp only [hg, Option.bind_some] at hv ⊢
    have hlt : g < W.heap.size := by
      rcases Nat.lt_or_ge g W.heap.size with h' | h'
      · exact h'
      · simp [Array.getElem?_eq_none h'] at hv
    rw [Below.block h g hlt]; exact hv
theorem hide {p : Prop} (h : p) : Hid p := h
theorem unhide {p : Prop} (h : Hid p) : p := h
theorem Keeps.alloc {a b : World} (h : Keeps a b) (o : Obj) : Keeps a (b.alloc o) := Below.alloc h h.size o
theorem Keeps.setCell {a b : World} (h : Keeps a b) {p : Addr} (hp : a.heap.size ≤ p.block) (u : Value) : Keeps a (b.setCell p u) := Below.setCell h hp u
theorem Keeps.drew {a b : World} (h : Keeps a b) : Keeps a b.drew := Below.drew h
theorem Keeps.old {W w1 : World} (hb : Keeps W w1) : ∀ b o, b < W.heap.size → w1.cell? ⟨b, o, none⟩ = W.cell? ⟨b, o, none⟩ := fun b o h => Below.cell (p := ⟨b, o, none⟩) hb h
theorem Keeps.oldF {W w1 : World} (hb : Keeps W w1) : ∀ b o, b < W.heap.size → w1.frozen? ⟨b, o, none⟩ = W.frozen? ⟨b, o, none⟩ := fun b o h => Below.frozen (p := ⟨b, o, none⟩) hb h
theorem lt_of_cell {w : World} {g o : Nat} {v : Value} (hg : w.cell? ⟨g, o, none⟩ = some v) : g < w.heap.size := by
  rcases Nat.lt_or_ge g w.heap.size with h' | h'
  · exact h'
  · simp [World.cell?, Array.getElem?_eq_none h'] at hg
/-! A region that draws its order, whose operations only read and whose callees make new memory at most: walked once, in the order of the text. -/
abbrev Gt : Type := List (Option Obj)
def Gt.more (t : Gt) : Array Obj := (t.filterMap id).toArray
def Gt.count (t : Gt) : Nat := (t.filter Option.isNone).length
def gt (m : Array Obj) (d : Nat) : Gt := m.toList.map some ++ List.replicate d none
theorem gt_more (m : Array Obj) (d : Nat) : Gt.more (gt m d) = m := by
  simp [Gt.more, gt, List.filterMap_append, List.filterMap_map]
theorem gt_count (m : Array Obj) (d : Nat) : Gt.count (gt m d) = d := by
  simp [Gt.count, gt, List.filter_append, List.filter_map]
def gr (W : World) (t : Gt) : World := { W with heap := W.heap ++ Gt.more t, drawn := Gt.count t }
theorem gr_keeps (W : World) (t : Gt) : Keeps W (gr W t) :=
  ⟨rfl, rfl, rfl, by simp [gr], fun i hi => by
    show (W.heap ++ Gt.more t)[i]? = W.heap[i]?
    rw [Array.getElem?_append_left hi]⟩
theorem keeps_gr {W w' : World} (h : Keeps W w') : ∃ t, w' = gr W t := by
  refine ⟨gt (w'.heap.extract W.heap.size w'.heap.size) w'.drawn, ?_⟩
  have e : w'.heap = W.heap ++ w'.heap.extract W.heap.size w'.heap.size := by
    apply Array.ext_getElem?
    intro i
    by_cases hi : i < W.heap.size
    · rw [Array.getElem?_append_left hi]; exact h.block i hi
    · rw [Array.getElem?_append_right (by omega), Array.getElem?_extract]
      by_cases hj : i < w'.heap.size
      · rw [if_pos (by omega)]; congr 1; omega
      · rw [if_neg (by omega), Array.getElem?_eq_none (by omega)]
  have h1 := h.os; have h2 := h.tape; have h3 := h.output
  cases w' with
  | mk heap tape drawn os output =>
    simp only at e h1 h2 h3
    unfold gr
    simp only [gt_more, gt_count, ← h1, ← h2, ← h3, ← e]
theorem gr_gr {W w' : World} {t : Gt} (h : Keeps (gr W t) w') : ∃ t, w' = gr W t := keeps_gr ((gr_keeps W t).trans h)
theorem gr_cell {W : World} {p : Addr} {v : Value} (h : W.cell? p = some v) (t : Gt) : (gr W t).cell? p = some v := (gr_keeps W t).cell h
theorem Keeps.of_gr {W w' : World} (h : ∃ t, w' = gr W t) : Keeps W w' := by
  obtain ⟨t, rfl⟩ := h
  exact gr_keeps W t
theorem gr_call {P : Program} {f : FuncId} {args : Array Value} {W : World} {t : Gt} {v : Value}
    (h : Calls P f args (gr W t) fun e w' => e = .returned v ∧ Keeps (gr W t) w') : Calls P f args (gr W t) fun e w'' => e = .returned v ∧ ∃ t, w'' = gr W t :=
  h.mono fun _ _ ⟨he, hk⟩ => ⟨he, gr_gr hk⟩
theorem region_gr {P : Program} {id : Nat} {Q : Exit → Act → World → Prop} {a : Act} {w : World} {l : List Oper} (hm : P.follows .mixedOrders = true) (hB : Region.lexB .any l.toArray = true)
    (h : wpQuiet P l.toArray (fun w' => ∃ t, w' = gr w t) (fun a' => ∀ w', (∃ t, w' = gr w t) → Q .normal a' w') l a) : (Code.region id l.toArray true).wp P Q a w :=
  wp_region_quiet (C := fun w' => ∃ t, w' = gr w t) hm hB ⟨gt #[] (w.drawn + 1), by simp [gr, gt_more, gt_count]⟩ (by simpa using h)

/-- Is it an amount? -/
def amtB (n : Int) : Bool := decide (0 ≤ n) && decide (n ≤ 1125899906842624)
theorem amtB_true {n : Int} (h : amtB n = true) : 0 ≤ n ∧ n ≤ 1125899906842624 := by simpa [amtB] using h
theorem amtB_yes {n : Int} (h : 0 ≤ n) (h' : n ≤ 1125899906842624) : amtB n = true := by simp [amtB]; omega
theorem amtB_no {n : Int} (h : n < 0 ∨ 1125899906842624 < n) : amtB n = false := by simp [amtB]; omega
theorem ret_tup {a a' : Int} {b b' : Bool} (h : a = a') (h' : b = b') : Ending.returned (.tuple #[.int .i64 a, .bool b]) = .returned (.tuple #[.int .i64 a', .bool b']) := by rw [h, h']
theorem ret_b {b b' : Bool} (h : b = b') : Ending.returned (.bool b) = .returned (.bool b') := by rw [h]
theorem ret_i {a a' : Int} (h : a = a') : Ending.returned (.int .i64 a) = .returned (.int .i64 a') := by rw [h]
end Go.Proofs.YtjdbedlgkngdkaaGreatDoor
namespace Go.Proofs.YtjdbedlgkngdkaaGreatDoor
open Go.RowKit Go.Deep
set_option linter.unusedVariables false

/-- The cells of a list that lies in memory. -/
def Cells (w : World) (a : Option Addr) (xs : List Value) : Prop := xs = [] ∨ ∃ b off, a = some ⟨b, off, none⟩ ∧ ∀ j (h : j < xs.length), w.cell? ⟨b, off + j, none⟩ = some xs[j]
theorem Cells.kept {w w' : World} {a : Option Addr} {xs : List Value} (h : Cells w a xs) (hk : Keeps w w') : Cells w' a xs := by
  rcases h with h | ⟨b, off, e, h⟩
  · exact Or.inl h
  · exact Or.inr ⟨b, off, e, fun j hj => hk.cell (h j hj)⟩

theorem Cells.nil (w : World) (a : Option Addr) : Cells w a [] := Or.inl rfl
theorem cells_add {w : World} {b off : Nat} {xs ys : List Value} (h : ∀ j (hj : j < xs.length), w.cell? ⟨b, off + j, none⟩ = some xs[j]) (h' : ∀ j (hj : j < ys.length), w.cell? ⟨b, off + xs.length + j, none⟩ = some ys[j]) :
    ∀ j (hj : j < (xs ++ ys).length), w.cell? ⟨b, off + j, none⟩ = some (xs ++ ys)[j] := by
  intro j hj
  by_cases hx : j < xs.length
  · rw [List.getElem_append_left hx]; exact h j hx
  · rw [List.getElem_append_right (by omega)]
    have := h' (j - xs.length) (by simp at hj; omega)
    rw [show off + xs.length + (j - xs.length) = off + j by omega] at this
    exact this

section
variable {H : Type} {enc : TypeId × Value → H} {P : Program} {w : World} {base : Nat} {spare : Nat → Bool} {held : Bool}
/-- A slice whose elements have sz cells each: what its cells are. -/
theorem open_cells {t e : TypeId} {sz fuel : Nat} {v : Value} {x : DataW H × List MemPlace} (ht : P.underlying t = some (.slice e)) (hsz : P.cellsOf e = sz) (hpos : 0 < sz)
    (h : DataW.trod enc P w base spare held fuel t [v] = some x) (Q : List Value → Prop) (hQ : ∀ n cs y, DataW.trod enc P w base spare held n e cs = some y → Q cs) :
    ∃ (a : Option Addr) (cap : Nat) (M : List (List Value)), v = .slice a M.length cap ∧ (∀ c ∈ M, c.length = sz ∧ Q c) ∧ Cells w a M.flatten ∧ M.length ≤ cap ∧ cap ≤ maxLen := by
  rcases open_slice ht h with ⟨hv, _⟩ | ⟨a, len, cap, m, n, D, Pl, hv, hb, hl, hm, hmm, hx, he⟩
  · simp at hv
    exact ⟨none, 0, [], hv, fun c hc => absurd hc (by simp), Cells.nil _ _, Nat.le_refl _, Nat.zero_le _⟩
  · simp at hv
    subst hv
    have hlm : len ≤ m := by rw [hmm]; split <;> omega
    by_cases h0 : len = 0
    · subst h0
      exact ⟨some a, cap, [], rfl, fun c hc => absurd hc (by simp), Cells.nil _ _, Nat.zero_le _, hm⟩
    · obtain ⟨b, off, spot⟩ := a
      have hspot : spot = none := by
        obtain ⟨cs', h1, _⟩ := he 0 (by omega)
        rw [hsz] at h1
        obtain ⟨_, _, hcell⟩ := World.cells?_some h1
        have := hcell 0 (by omega)
        have h2 := World.cell?_spot (w := w) (a := _) (v := _) (by rw [this]; exact List.getElem?_eq_getElem (by have := (World.cells?_some h1).2.1; omega))
        simpa [Addr.add] using h2
      subst hspot
      have build : ∀ k, k ≤ len → ∃ M : List (List Value), M.length = k ∧ (∀ c ∈ M, c.length = sz ∧ Q c) ∧ M.flatten.length = k * sz ∧ ∀ j (hj : j < M.flatten.length), w.cell? ⟨b, off + j, none⟩ = some M.flatten[j] := by
        intro k
        induction k with
        | zero => exact fun _ => ⟨[], rfl, fun c hc => absurd hc (by simp), by simp, fun j hj => absurd hj (by simp)⟩
        | succ k ih =>
          intro hk
          obtain ⟨M, hM, hq, hlen, hc⟩ := ih (by omega)
          obtain ⟨cs', h1, h2⟩ := he k (by omega)
          rw [hsz] at h1
          obtain ⟨_, hl', hcell⟩ := World.cells?_some h1
          refine ⟨M ++ [cs'], by simp [hM], ?_, ?_, ?_⟩
          · intro c hc'
            rcases List.mem_append.1 hc' with h | h
            · exact hq c h
            · rw [List.mem_singleton.1 h]; exact ⟨hl', hQ _ _ _ h2⟩
          · simp [hlen, hl', Nat.add_mul]
          · have e : (M ++ [cs']).flatten = M.flatten ++ cs' := by simp
            intro j hj
            have hfin := cells_add hc (ys := cs') (fun j hj => by
              have g := hcell j (by omega)
              rw [List.getElem?_eq_getElem hj] at g
              rw [← g, hlen]
              congr 1
              unfold Addr.add
              by_cases hk0 : k * sz = 0
              · by_cases hj0 : j = 0
                · simp [hk0, hj0]
                · simp [hk0, hj0]
              · by_cases hj0 : j = 0
                · simp [hk0, hj0]
                · simp [hk0, hj0])
            have := hfin j (by rw [← e]; exact hj)
            rw [this]
            simp only [e]
      obtain ⟨M, hM, hq, hlen, hc⟩ := build len (Nat.le_refl _)
      exact ⟨some ⟨b, off, none⟩, cap, M, by rw [hM], hq, Or.inr ⟨b, off, rfl, hc⟩, by omega, hm⟩
end
end Go.Proofs.YtjdbedlgkngdkaaGreatDoor
namespace Go.Proofs.YtjdbedlgkngdkaaGreatDoor
open Go.RowKit Go.Deep
set_option linter.unusedVariables false

/-- Of what was there only blocks of fs have turned. -/
structure Turn (fs : List Nat) (w w' : World) : Prop where
  os : w'.os = w.os
  tape : w'.tape = w.tape
  output : w'.output = w.output
  size : w.heap.size ≤ w'.heap.size
  block : ∀ k, k < w.heap.size → k ∉ fs → w'.heap[k]? = w.heap[k]?
theorem Turn.refl (fs : List Nat) (w : World) : Turn fs w w := ⟨rfl, rfl, rfl, Nat.le_refl _, fun _ _ _ => rfl⟩
theorem Turn.of_keeps {w w' : World} (h : Keeps w w') (fs : List Nat) : Turn fs w w' := ⟨h.os, h.tape, h.output, h.size, fun k hk _ => h.block k hk⟩
theorem Turn.trans {fs gs : List Nat} {a b c : World} (h : Turn fs a b) (k : Turn gs b c) : Turn (fs ++ gs) a c :=
  ⟨k.os.trans h.os, k.tape.trans h.tape, k.output.trans h.output, Nat.le_trans h.size k.size, fun i hi hn => by
    simp only [List.mem_append, not_or] at hn
    exact (k.block i (Nat.lt_of_lt_of_le hi h.size) hn.2).trans (h.block i hi hn.1)⟩
theorem Turn.mono {fs gs : List Nat} {a b : World} (h : Turn fs a b) (hs : ∀ x ∈ fs, x ∈ gs) : Turn gs a b :=
  ⟨h.os, h.tape, h.output, h.size, fun i hi hn => h.block i hi (fun hx => hn (hs i hx))⟩
theorem Turn.trans' {fs : List Nat} {a b c : World} (h : Turn fs a b) (k : Turn fs b c) : Turn fs a c := (h.trans k).mono (by simp)
theorem Turn.keeps {fs : List Nat} {W w w' : World} (h : Turn fs w w') (hk : Keeps W w) (hf : ∀ b ∈ fs, W.heap.size ≤ b) : Keeps W w' :=
  ⟨h.os.trans hk.os, h.tape.trans hk.tape, h.output.trans hk.output, Nat.le_trans hk.size h.size, fun i hi =>
    (h.block i (Nat.lt_of_lt_of_le hi hk.size) (fun hx => by have := hf i hx; omega)).trans (hk.block i hi)⟩
theorem Turn.set {fs : List Nat} {w : World} {a : Addr} (ha : a.block ∈ fs) (v : Value) : Turn fs w (w.setCell a v) :=
  ⟨rfl, rfl, rfl, by rw [nblk_setCell]; exact Nat.le_refl _, fun k hk hn => blk_setCell_other _ _ _ _ (fun e => hn (e ▸ ha))⟩
theorem Turn.of_grown {w w' : World} {row : Option Nat} (h : w.grownBy w' row) {fs : List Nat} (hr : ∀ k, row = some k → k ∈ fs) : Turn fs w w' :=
  ⟨h.os, h.tape, h.output, h.size, fun k hk hn => h.block k hk (fun e => hn (hr k e.symm))⟩
theorem Turn.cell {fs : List Nat} {w w' : World} (h : Turn fs w w') {p : Addr} (hp : p.block ∉ fs) {v : Value} (hc : w.cell? p = some v) : w'.cell? p = some v := by
  rw [← hc]
  refine World.cell?_of_block (w := w) (h.block p.block ?_ hp)
  rcases Nat.lt_or_ge p.block w.heap.size with h' | h'
  · exact h'
  · simp [World.cell?, Array.getElem?_eq_none h'] at hc

/-- A list in memory: where, and its cells. -/
abbrev Seg := Option Addr × List Value
def fpS (s : Seg) : List Nat := if s.2 = [] then [] else match s.1 with | some p => [p.block] | none => []
/-- The blocks on which the lists stand. -/
def fp (S : List Seg) : List Nat := S.flatMap fpS
theorem fp_cons (s : Seg) (S : List Seg) : fp (s :: S) = fpS s ++ fp S := rfl
theorem fp_append (S T : List Seg) : fp (S ++ T) = fp S ++ fp T := by simp [fp]
def Mem (w : World) (S : List Seg) : Prop := ∀ s ∈ S, Cells w s.1 s.2
theorem Mem.nil (w : World) : Mem w [] := fun s h => absurd h (by simp)
theorem mem_cons {w : World} {s : Seg} {S : List Seg} : Mem w (s :: S) ↔ Cells w s.1 s.2 ∧ Mem w S := by simp [Mem]
theorem mem_append {w : World} {S T : List Seg} : Mem w (S ++ T) ↔ Mem w S ∧ Mem w T := by
  simp only [Mem, List.mem_append]
  exact ⟨fun h => ⟨fun s hs => h s (Or.inl hs), fun s hs => h s (Or.inr hs)⟩, fun h s hs => hs.elim (h.1 s) (h.2 s)⟩
theorem Cells.turn {w w' : World} {s : Seg} (h : Cells w s.1 s.2) {fs : List Nat} (hk : Turn fs w w') (hd : ∀ b ∈ fpS s, b ∉ fs) : Cells w' s.1 s.2 := by
  rcases h with h | ⟨b, off, e, h⟩
  · exact Or.inl h
  · by_cases h0 : s.2 = []
    · exact Or.inl h0
    · refine Or.inr ⟨b, off, e, fun j hj => hk.cell (hd b ?_) (h j hj)⟩
      simp [fpS, h0, e]
theorem Mem.turn {w w' : World} {S : List Seg} (h : Mem w S) {fs : List Nat} (hk : Turn fs w w') (hd : ∀ b ∈ fp S, b ∉ fs) : Mem w' S :=
  fun s hs => (h s hs).turn hk (fun b hb => hd b (List.mem_flatMap.2 ⟨s, hs, hb⟩))
theorem Mem.kept {w w' : World} {S : List Seg} (h : Mem w S) (hk : Keeps w w') : Mem w' S := fun s hs => (h s hs).kept hk
theorem Cells.lt {w : World} {s : Seg} (h : Cells w s.1 s.2) : ∀ b ∈ fpS s, b < w.heap.size := by
  intro b hb
  rcases h with h | ⟨g, off, e, h⟩
  · simp [fpS, h] at hb
  · by_cases h0 : s.2 = []
    · simp [fpS, h0] at hb
    · simp [fpS, h0, e] at hb
      subst hb
      exact lt_of_cell (h 0 (List.length_pos_iff.2 h0))
theorem Mem.lt {w : World} {S : List Seg} (h : Mem w S) : ∀ b ∈ fp S, b < w.heap.size := by
  intro b hb
  obtain ⟨s, hs, hb⟩ := List.mem_flatMap.1 hb
  exact (h s hs).lt b hb

/-- None of the blocks is frozen. -/
def Free (w : World) (fs : List Nat) : Prop := ∀ b ∈ fs, ∀ o, w.frozen? ⟨b, o, none⟩ = false
theorem Free.turn {w w' : World} {fs gs : List Nat} (h : Free w fs) (hk : Turn gs w w') (hd : ∀ b ∈ fs, b ∉ gs) (hl : ∀ b ∈ fs, b < w.heap.size) : Free w' fs := fun b hb o => by
  rw [← h b hb o]
  exact World.frozen?_of_block (w := w) (hk.block b (hl b hb) (hd b hb))
theorem frozen_set (w : World) (a p : Addr) (v : Value) : (w.setCell a v).frozen? p = w.frozen? p := by simp
/-- Lists of one's own: no two share a block, none is frozen. -/
structure Own (w : World) (S : List Seg) : Prop where
  mem : Mem w S
  nd : (fp S).Nodup
  free : Free w (fp S)
theorem Own.nil (w : World) : Own w [] := ⟨Mem.nil w, by simp [fp], fun b hb => absurd hb (by simp [fp])⟩
theorem Own.turn {w w' : World} {S : List Seg} (h : Own w S) {fs : List Nat} (hk : Turn fs w w') (hd : ∀ b ∈ fp S, b ∉ fs) : Own w' S :=
  ⟨h.mem.turn hk hd, h.nd, h.free.turn hk hd h.mem.lt⟩
theorem Own.kept {w w' : World} {S : List Seg} (h : Own w S) (hk : Keeps w w') : Own w' S := h.turn (Turn.of_keeps hk []) (by simp)
theorem Own.left {w : World} {S T : List Seg} (h : Own w (S ++ T)) : Own w S :=
  ⟨(mem_append.1 h.mem).1, by have := h.nd; rw [fp_append] at this; exact (List.nodup_append.1 this).1, fun b hb => h.free b (by rw [fp_append]; exact List.mem_append_left _ hb)⟩
theorem Own.right {w : World} {S T : List Seg} (h : Own w (S ++ T)) : Own w T :=
  ⟨(mem_append.1 h.mem).2, by have := h.nd; rw [fp_append] at this; exact (List.nodup_append.1 this).2.1, fun b hb => h.free b (by rw [fp_append]; exact List.mem_append_right _ hb)⟩
theorem Own.apart {w : World} {S T : List Seg} (h : Own w (S ++ T)) : ∀ b ∈ fp S, b ∉ fp T := by
  have := h.nd
  rw [fp_append] at this
  exact fun b hb hb' => (List.nodup_append.1 this).2.2 b hb b hb' rfl
theorem Own.append {w : World} {S T : List Seg} (h : Own w S) (k : Own w T) (hd : ∀ b ∈ fp S, b ∉ fp T) : Own w (S ++ T) :=
  ⟨mem_append.2 ⟨h.mem, k.mem⟩, by rw [fp_append]; exact List.nodup_append.2 ⟨h.nd, k.nd, fun a ha b hb e => hd a ha (e ▸ hb)⟩, fun b hb => by
    rw [fp_append] at hb
    rcases List.mem_append.1 hb with hb | hb
    · exact h.free b hb
    · exact k.free b hb⟩
/-- Lists of one's own that were made behind w. -/
structure Born (w w' : World) (S : List Seg) : Prop extends Own w' S where
  new : ∀ b ∈ fp S, w.heap.size ≤ b
theorem Born.nil (w w' : World) : Born w w' [] := ⟨Own.nil w', fun b hb => absurd hb (by simp [fp])⟩
theorem Born.old {w0 w w' : World} {S : List Seg} (h : Born w w' S) (hk : Keeps w0 w) : Born w0 w' S := ⟨h.toOwn, fun b hb => Nat.le_trans hk.size (h.new b hb)⟩
theorem Born.kept {w w' w'' : World} {S : List Seg} (h : Born w w' S) (hk : Keeps w' w'') : Born w w'' S := ⟨h.toOwn.kept hk, h.new⟩
theorem Born.turn {w w' w'' : World} {S : List Seg} (h : Born w w' S) {fs : List Nat} (hk : Turn fs w' w'') (hd : ∀ b ∈ fp S, b ∉ fs) : Born w w'' S := ⟨h.toOwn.turn hk hd, h.new⟩
/-- What was there ahead of a birth shares no block with what was born. -/
theorem Born.apart {w w' : World} {S T : List Seg} (h : Born w w' S) (k : Mem w T) : ∀ b ∈ fp T, b ∉ fp S := fun b hb hb' => by
  have := h.new b hb'
  have := k.lt b hb
  omega
theorem Born.apart' {w w' : World} {S T : List Seg} (h : Born w w' S) (k : Mem w T) : ∀ b ∈ fp S, b ∉ fp T := fun b hb hb' => h.apart k b hb' hb
theorem fp_one (a : Option Addr) (xs : List Value) : fp [(a, xs)] = fpS (a, xs) := by simp [fp]
theorem fpS_some {b off : Nat} {xs : List Value} (h : xs ≠ []) : fpS (some ⟨b, off, none⟩, xs) = [b] := by simp [fpS, h]
theorem fpS_len {a : Option Addr} {xs ys : List Value} (h : xs.length = ys.length) : fpS (a, xs) = fpS (a, ys) := by
  unfold fpS
  by_cases h0 : xs = []
  · have : ys = [] := List.length_eq_zero_iff.1 (by rw [← h, h0]; rfl)
    simp [h0, this]
  · have : ys ≠ [] := fun e => h0 (List.length_eq_zero_iff.1 (by rw [h, e]; rfl))
    simp [h0, this]
/-- A row that the call itself made, as a segment. -/
theorem Own.of_owns {w : World} {base n : Nat} {e : TypeId} {sz : Nat} {v : Value} {xs : List Value} (h : w.ownsRow base e sz v n xs) :
    ∃ (a : Option Addr) (cap : Nat), v = .slice a n cap ∧ n ≤ cap ∧ cap ≤ maxLen ∧ (a = none → cap = 0) ∧ Own w [(a, xs)] ∧ ∀ b ∈ fp [(a, xs)], base ≤ b := by
  rcases h.2 with ⟨rfl, h'⟩ | ⟨g, cap, cur, rfl, hb, hg, hn, hm, hsz, ht⟩
  · have hx : xs = [] := List.length_eq_zero_iff.1 (by rw [h.1, h']; simp)
    subst hx h'
    refine ⟨none, 0, rfl, Nat.le_refl _, Nat.zero_le _, fun _ => rfl, ⟨?_, by simp [fp, fpS], fun b hb => absurd hb (by simp [fp, fpS])⟩, fun b hb => absurd hb (by simp [fp, fpS])⟩
    intro s hs
    rw [List.mem_singleton.1 hs]
    exact Cells.nil _ _
  · have hfz : ∀ o, w.frozen? ⟨g, o, none⟩ = false := fun o => by simp [World.frozen?, hg]
    refine ⟨_, cap, rfl, hn, hm, fun e => (nomatch e), ⟨?_, ?_, ?_⟩, ?_⟩
    · intro s hs
      rw [List.mem_singleton.1 hs]
      refine Or.inr ⟨g, 0, rfl, fun j hj => ?_⟩
      rw [Nat.zero_add]
      have h1 : w.cell? ⟨g, j, none⟩ = cur[j]? := by simp [World.cell?, hg]
      have hj' : j < xs.length := hj
      rw [h1, ← List.getElem?_eq_getElem hj]
      show _ = xs[j]?
      rw [← ht, List.getElem?_take]
      rw [h.1] at hj'
      rw [if_pos hj']
      simp
    · by_cases h0 : xs = [] <;> simp [fp, fpS, h0]
    · intro b hb'
      by_cases h0 : xs = []
      · simp [fp, fpS, h0] at hb'
      · simp [fp, fpS, h0] at hb'
        subst hb'
        exact hfz
    · intro b hb'
      by_cases h0 : xs = []
      · simp [fp, fpS, h0] at hb'
      · simp [fp, fpS, h0] at hb'
        subst hb'
        exact hb
theorem Own.one {w : World} {a : Option Addr} {xs : List Value} (h : Own w [(a, xs)]) : Cells w a xs := h.mem (a, xs) (by simp)
/-- A row that the call itself made since w, as a segment. -/
theorem Born.of_owns {w w' : World} {n : Nat} {e : TypeId} {sz : Nat} {v : Value} {xs : List Value} (h : w'.ownsRow w.heap.size e sz v n xs) :
    ∃ (a : Option Addr) (cap : Nat), v = .slice a n cap ∧ ((a = none → cap = 0) ∧ n ≤ cap) ∧ Born w w' [(a, xs)] := by
  obtain ⟨a, cap, hv, hl, _, hn, ho, hb⟩ := Own.of_owns h
  exact ⟨a, cap, hv, ⟨hn, hl⟩, ho, hb⟩
end Go.Proofs.YtjdbedlgkngdkaaGreatDoor
namespace Go.Proofs.YtjdbedlgkngdkaaGreatDoor
open Go.RowKit Go.ChangeShapes Go.WideShapes Go.Deep
set_option linter.unusedVariables false
set_option maxRecDepth 100000

section
variable {α : Type} {f : α → List Value} {sz : Nat}
theorem flatMap_len (hf : ∀ x, (f x).length = sz) (xs : List α) : (xs.flatMap f).length = xs.length * sz := by
  induction xs with
  | nil => simp
  | cons x t ih => simp [ih, hf, Nat.add_mul]; omega
theorem flatMap_at (hf : ∀ x, (f x).length = sz) : ∀ (xs : List α) (i : Nat) (hi : i < xs.length) (r : Nat), r < sz → (xs.flatMap f)[i * sz + r]? = (f xs[i])[r]?
  | [], i, h, _, _ => absurd h (Nat.not_lt_zero i)
  | x :: t, 0, h, r, hr => by
    simp only [List.flatMap_cons, Nat.zero_mul, Nat.zero_add, List.getElem_cons_zero]
    exact List.getElem?_append_left (by rw [hf]; exact hr)
  | x :: t, i + 1, h, r, hr => by
    have := flatMap_at hf t i (by simpa using h) r hr
    simp only [List.flatMap_cons, List.getElem_cons_succ]
    rw [List.getElem?_append_right (by rw [hf, Nat.add_mul]; omega), hf, show (i + 1) * sz + r - sz = i * sz + r by rw [Nat.add_mul]; omega]
    exact this
/-- Cell r of element i of a list in memory. -/
theorem elem_at {w : World} {a : Option Addr} {xs : List α} (hf : ∀ x, (f x).length = sz) (h : Cells w a (xs.flatMap f)) (i : Nat) (hi : i < xs.length) (hs : 0 < sz) :
    ∃ b off, a = some ⟨b, off, none⟩ ∧ ∀ r (hr : r < (f xs[i]).length), w.cell? ⟨b, off + i * sz + r, none⟩ = some ((f xs[i])[r]) := by
  have hl := flatMap_len hf xs
  have hle : i * sz + sz ≤ xs.length * sz := by
    have := Nat.mul_le_mul_right sz (show i + 1 ≤ xs.length from hi)
    rw [Nat.add_mul] at this; omega
  rcases h with h | ⟨b, off, e, h⟩
  · rw [h] at hl
    simp at hl
    omega
  · refine ⟨b, off, e, fun r hr => ?_⟩
    have hr' : r < sz := by rw [hf] at hr; exact hr
    have g := flatMap_at hf xs i hi r hr'
    rw [List.getElem?_eq_getElem hr, List.getElem?_eq_getElem (by omega)] at g
    rw [Nat.add_assoc, h (i * sz + r) (by omega)]
    exact g
end
/-- One list of many has turned. -/
theorem Own.upd {w w' : World} {A B : List Seg} {s s' : Seg} (h : Own w (A ++ s :: B)) (hs : Own w' [s']) (hf : fpS s' = fpS s) (ht : Turn (fp [s]) w w') : Own w' (A ++ s' :: B) := by
  have hA := h.left
  have hB : Own w (s :: B) := h.right
  have hsB : Own w ([s] ++ B) := hB
  have e1 : fp [s] = fpS s := by simp [fp]
  have dA : ∀ b ∈ fp A, b ∉ fp [s] := fun b hb hb' => h.apart b hb (by rw [show s :: B = [s] ++ B from rfl, fp_append]; exact List.mem_append_left _ hb')
  have dB : ∀ b ∈ fp B, b ∉ fp [s] := fun b hb hb' => hsB.apart b hb' hb
  have hA' := hA.turn ht dA
  have hB' := hsB.right.turn ht dB
  have e2 : fp [s'] = fp [s] := by simp [fp, hf]
  have hsB' : Own w' ([s'] ++ B) := hs.append hB' (fun b hb => by rw [e2] at hb; exact hsB.apart b hb)
  refine hA'.append hsB' (fun b hb hb' => ?_)
  refine h.apart b hb ?_
  rw [fp_cons] at hb' ⊢
  rw [← hf]; exact hb'
/-- A block of one's own, cell by cell. -/
structure Room (w : World) (b n : Nat) : Prop where
  cell : ∀ j, j < n → ∃ u, w.cell? ⟨b, j, none⟩ = some u
  free : ∀ o, w.frozen? ⟨b, o, none⟩ = false
theorem Room.kept {w w' : World} {b n : Nat} (h : Room w b n) (hk : Keeps w w') (hb : b < w.heap.size) : Room w' b n :=
  ⟨fun j hj => by obtain ⟨u, hu⟩ := h.cell j hj; exact ⟨u, hk.cell hu⟩, fun o => by rw [hk.oldF b o hb]; exact h.free o⟩
theorem Room.set {w : World} {b n : Nat} (h : Room w b n) (j : Nat) (v : Value) : Room (w.setCell ⟨b, j, none⟩ v) b n := by
  refine ⟨fun i hi => ?_, fun o => by rw [frozen_set]; exact h.free o⟩
  by_cases e : i = j
  · subst e
    obtain ⟨u, hu⟩ := h.cell i hi
    exact ⟨v, World.cell?_setCell_same _ _ _ hu⟩
  · obtain ⟨u, hu⟩ := h.cell i hi
    exact ⟨u, by rw [World.cell?_setCell_other _ _ _ _ (by simp)]; exact hu⟩
theorem Room.own {w : World} {b n : Nat} (h : Room w b n) {xs : List Value} (hc : ∀ j (hj : j < xs.length), w.cell? ⟨b, j, none⟩ = some xs[j]) : Own w [(some ⟨b, 0, none⟩, xs)] := by
  refine ⟨?_, ?_, ?_⟩
  · intro s hs
    rw [List.mem_singleton.1 hs]
    exact Or.inr ⟨b, 0, rfl, fun j hj => by rw [Nat.zero_add]; exact hc j hj⟩
  · by_cases h0 : xs = [] <;> simp [fp, fpS, h0]
  · intro g hg
    by_cases h0 : xs = []
    · simp [fp, fpS, h0] at hg
    · simp [fp, fpS, h0] at hg
      subst hg
      exact h.free
/-- What was kept behind an append to a list of the call's own. -/
theorem Keeps.grown {W0 wr w' : World} {row : Option Nat} (hk : Keeps W0 wr) (hg : wr.grownBy w' row) (hr : ∀ k, row = some k → W0.heap.size ≤ k) : Keeps W0 w' :=
  Below.grown hk hg hk.size hr
theorem cellsInt : Tryz.prog.cellsOf 3 = 1 := by kernel_rfl
section
variable {H : Type} {enc : TypeId × Value → H} {W : World} {n : Nat} {cs : List Value} {y : DataW H × List MemPlace} {base : Nat} {sp : Nat → Bool} {hd : Bool}
theorem open_cells' {P : Program} {t e : TypeId} {sz fuel : Nat} {v : Value} {x : DataW H × List MemPlace} (ht : P.underlying t = some (.slice e)) (hsz : P.cellsOf e = sz) (hpos : 0 < sz)
    (h : DataW.trod enc P W base sp hd fuel t [v] = some x) (Q : List Value → Prop) (hQ : ∀ n cs y, DataW.trod enc P W base sp hd n e cs = some y → Q cs) :
    ∃ (a : Option Addr) (cap : Nat) (M : List (List Value)), v = .slice a M.length cap ∧ (∀ c ∈ M, c.length = sz ∧ Q c) ∧ Cells W a M.flatten ∧ ((a = none → cap = 0) ∧ M.length ≤ cap) ∧ M.length ≤ 9223372036854775807 := by
  obtain ⟨a, cap, M, hv, h1, h2, h3, h4⟩ := open_cells ht hsz hpos h Q hQ
  refine ⟨a, cap, M, hv, h1, h2, ⟨?_, h3⟩, Nat.le_trans h3 h4⟩
  rcases open_slice ht h with ⟨hv', _⟩ | ⟨a', len, cap', m, n, D, Pl, hv', _⟩
  · simp at hv'
    rw [hv'] at hv
    intro _
    injection hv with _ _ e
    exact e.symm
  · simp at hv'
    rw [hv'] at hv
    intro e
    subst e
    injection hv with e _ _
    cases e
variable {v : Value} {d : DataW H} {ps : List MemPlace}
end
end Go.Proofs.YtjdbedlgkngdkaaGreatDoor
namespace Go.Proofs.YtjdbedlgkngdkaaGreatDoor
open Go.RowKit Go.Deep
set_option linter.unusedVariables false
set_option maxRecDepth 10000

def its (K : List Int) : List Value := K.map fun k => .int .i64 k
theorem its_length (K : List Int) : (its K).length = K.length := by simp [its]
theorem its_at {w : World} {a : Option Addr} {K : List Int} (h : Cells w a (its K)) (i : Nat) (hi : i < K.length) : ∃ b off, a = some ⟨b, off, none⟩ ∧ w.cell? ⟨b, off + i, none⟩ = some (.int .i64 K[i]) := by
  rcases h with h | ⟨b, off, e, h⟩
  · have : K = [] := by simpa [its] using h
    subst this; simp at hi
  · refine ⟨b, off, e, ?_⟩
    rw [h i (by rw [its_length]; exact hi)]
    simp [its]
theorem its_nil {K : List Int} : its K = [] ↔ K = [] := by simp [its]
theorem its_append (K M : List Int) : its (K ++ M) = its K ++ its M := by simp [its]
theorem infoInt : (Tryz.prog.info? 3).map (fun i => (i.zero, i.size, i.bytes)) = some (some (.int .i64 0), 1, 8) := by kernel_rfl
theorem underInts : Tryz.prog.underlying 65 = some (.slice 3) := by kernel_rfl
theorem make_ints (n : Nat) (hn : n ≤ 1048576) (w : World) : (Instr.makeSlice 65 (.int .i64 (n : Int)) (.int .i64 (n : Int))).run Tryz.prog w = .ok (.slice (some ⟨w.heap.size, 0, none⟩) n n) (w.alloc (.cells (madeCells #[.int .i64 0] n) 3)) :=
  run_make_row' 65 3 (.int .i64 0) 8 underInts infoInt rfl .i64 .i64 n (by omega) (by omega) w
abbrev OwnsI (w : World) (base : Nat) (v : Value) (L : List Int) : Prop := w.ownsRow base 3 1 v L.length (its L)
/-- append of a list of numbers to one of the call's own. -/
theorem app_its {ops : Array Oper} {rest : List Oper} {o : Oper} {a : Act} {Q : Exit → Act → World → Prop} {wr : World} (hgd : o.guard = none) (s x : Operand)
    (ho : o.op = .call { callee := .builtin .append, args := #[s, x], argTypes := #[65, 65] }) (base : Nat) (v : Value) (L M : List Int) (hs : a.eval s = v) (p : Addr) (c : Nat)
    (hx : a.eval x = .slice (some p) M.length c) (hM : ∀ j u, (its M)[j]? = some u → wr.cell? (p.add j) = some u) (hown : OwnsI wr base v L) (hl : L.length + M.length ≤ 1048576) (hbase : base ≤ wr.heap.size)
    (h : ∀ v' w', OwnsI w' base v' (L ++ M) → wr.grownBy w' v.ownBlock → (v ≠ .slice none 0 0 → v' ≠ .slice none 0 0) → wpList Tryz.prog ops Q rest (a.put o.dst v') w') :
    wpList Tryz.prog ops Q (o :: rest) a wr := by
  have hI := infoInt
  cases hi : Tryz.prog.info? 3 with
  | none => rw [hi] at hI; simp at hI
  | some i =>
    rw [hi] at hI
    simp at hI
    obtain ⟨hz, hsz, hby⟩ := hI
    refine wpList_append_own _ hgd s x 65 ho base 3 i _ 1 8 underInts hi hz hsz hby rfl (by decide) v L.length (its L) hs hown p M.length c (its M) hx (by simp [its_length]) hM (fun u hu => ?_) ?_ ?_ hbase ?_
    · unfold its at hu
      obtain ⟨k, _, rfl⟩ := List.mem_map.1 hu
      rfl
    · simp only [maxLen]; omega
    · omega
    · intro v' w' h1 h2 h3
      exact h v' w' (by unfold OwnsI; rw [its_append, List.length_append]; exact h1) h2 (fun hn he => hn (h3.1 he).1)
end Go.Proofs.YtjdbedlgkngdkaaGreatDoor
namespace Go.Proofs.YtjdbedlgkngdkaaGreatDoor
open Go.RowKit
set_option linter.unusedVariables false

def okS (n : Int) : Bool := decide (-100 ≤ n) && decide (n ≤ 100)
theorem okS_yes {n : Int} (h : -100 ≤ n) (h' : n ≤ 100) : okS n = true := by simp [okS]; omega
theorem okS_lo {n : Int} (h : n < -100) : okS n = false := by simp [okS]; omega
theorem okS_hi {n : Int} (h : 100 < n) : okS n = false := by simp [okS]; omega

/-- The model's ScoreOk. -/
theorem sok_spec (n : Int) (w : World) : Calls Tryz.prog 113 #[.int .i64 n] w fun e w' => e = .returned (.bool (okS n)) ∧ Keeps w w' := by
  by_cases h1 : -100 ≤ n
  · by_cases h2 : n ≤ 100
    · go_enter Tryz.func113, Tryz.ntmps113
      go_wp2
      go_ret
      exact ⟨ret_b (okS_yes h1 h2).symm, Keeps.refl _⟩
    · go_enter Tryz.func113, Tryz.ntmps113
      go_wp2
      go_ret
      exact ⟨ret_b (okS_hi (by omega)).symm, Keeps.refl _⟩
  · go_enter Tryz.func113, Tryz.ntmps113
    go_wp2
    go_ret
    exact ⟨ret_b (okS_lo (by omega)).symm, Keeps.refl _⟩
theorem right_impl (n : Int) (w : World) : Calls Tryz.prog 141 #[.int .i64 n] w fun e w' => e = .returned (.bool (okS n)) ∧ Keeps w w' := by
  by_cases h1 : -100 ≤ n
  · by_cases h2 : n ≤ 100
    · go_enter Tryz.func141, Tryz.ntmps141
      go_wp2
      go_ret
      exact ⟨ret_b (okS_yes h1 h2).symm, Keeps.refl _⟩
    · go_enter Tryz.func141, Tryz.ntmps141
      go_wp2
      go_ret
      exact ⟨ret_b (okS_hi (by omega)).symm, Keeps.refl _⟩
  · go_enter Tryz.func141, Tryz.ntmps141
    go_wp2
    go_ret
    exact ⟨ret_b (okS_lo (by omega)).symm, Keeps.refl _⟩
theorem sok_impl (n : Int) (w : World) : Calls Tryz.prog 127 #[.int .i64 n] w fun e w' => e = .returned (.bool (okS n)) ∧ Keeps w w' := by
  go_enter Tryz.func127, Tryz.ntmps127
  go_wp2_with fail
  refine (right_impl n _).mono ?_
  rintro x w1 ⟨rfl, hk⟩
  go_wp2_with fail
  go_ret
  exact ⟨rfl, hk⟩
end Go.Proofs.YtjdbedlgkngdkaaGreatDoor
namespace Go.Proofs.YtjdbedlgkngdkaaGreatDoor
open Go.RowKit Go.Deep
set_option linter.unusedVariables false

theorem amt_impl (n : Int) (w : World) : Calls Tryz.prog 101 #[.int .i64 n] w fun e w' => e = .returned (.bool (amtB n)) ∧ Keeps w w' := by
  by_cases h1 : 0 ≤ n
  · by_cases h2 : n ≤ 1125899906842624
    · go_enter Tryz.func101, Tryz.ntmps101
      go_wp2
      go_ret
      exact ⟨ret_b (amtB_yes h1 h2).symm, Keeps.refl _⟩
    · go_enter Tryz.func101, Tryz.ntmps101
      go_wp2
      go_ret
      exact ⟨ret_b (amtB_no (by omega)).symm, Keeps.refl _⟩
  · go_enter Tryz.func101, Tryz.ntmps101
    go_wp2
    go_ret
    exact ⟨ret_b (amtB_no (by omega)).symm, Keeps.refl _⟩
theorem amt_spec (n : Int) (w : World) : Calls Tryz.prog 76 #[.int .i64 n] w fun e w' => e = .returned (.bool (amtB n)) ∧ Keeps w w' := by
  by_cases h1 : 0 ≤ n
  · by_cases h2 : n ≤ 1125899906842624
    · go_enter Tryz.func76, Tryz.ntmps76
      go_wp2
      go_ret
      exact ⟨ret_b (amtB_yes h1 h2).symm, Keeps.refl _⟩
    · go_enter Tryz.func76, Tryz.ntmps76
      go_wp2
      go_ret
      exact ⟨ret_b (amtB_no (by omega)).symm, Keeps.refl _⟩
  · go_enter Tryz.func76, Tryz.ntmps76
    go_wp2
    go_ret
    exact ⟨ret_b (amtB_no (by omega)).symm, Keeps.refl _⟩
end Go.Proofs.YtjdbedlgkngdkaaGreatDoor
namespace Go.Proofs.YtjdbedlgkngdkaaGreatDoor
open Go.RowKit Go.Deep
set_option linter.unusedVariables false
set_option maxRecDepth 10000

structure Chn where
  id : Int
  sz : Int
  lo : Int
  re : Int
  ba : Int
  pp : Int
  sc : Int
def Chn.cells (x : Chn) : List Value := [.int .i64 x.id, .int .i64 x.sz, .int .i64 x.lo, .int .i64 x.re, .int .i64 x.ba, .int .i64 x.pp, .int .i64 x.sc]
def chs (xs : List Chn) : List Value := xs.flatMap Chn.cells
theorem chs_len (xs : List Chn) : (chs xs).length = xs.length * 7 := flatMap_len (f := Chn.cells) (sz := 7) (fun _ => rfl) xs
theorem chs_append (xs ys : List Chn) : chs (xs ++ ys) = chs xs ++ chs ys := by simp [chs]
theorem chs_at {w : World} {a : Option Addr} {xs : List Chn} (h : Cells w a (chs xs)) (k : Nat) (hk : k < xs.length) :
    ∃ b off, a = some ⟨b, off, none⟩ ∧ w.cell? ⟨b, off + k * 7, none⟩ = some (.int .i64 xs[k].id) ∧ w.cell? ⟨b, off + k * 7 + 1, none⟩ = some (.int .i64 xs[k].sz) ∧ w.cell? ⟨b, off + k * 7 + 2, none⟩ = some (.int .i64 xs[k].lo) ∧ w.cell? ⟨b, off + k * 7 + 3, none⟩ = some (.int .i64 xs[k].re) ∧ w.cell? ⟨b, off + k * 7 + 4, none⟩ = some (.int .i64 xs[k].ba) ∧ w.cell? ⟨b, off + k * 7 + 5, none⟩ = some (.int .i64 xs[k].pp) ∧ w.cell? ⟨b, off + k * 7 + 6, none⟩ = some (.int .i64 xs[k].sc) := by
  obtain ⟨b, off, e, h⟩ := elem_at (f := Chn.cells) (sz := 7) (fun _ => rfl) h k hk (by decide)
  exact ⟨b, off, e, h 0 (by simp [Chn.cells]), h 1 (by simp [Chn.cells]), h 2 (by simp [Chn.cells]), h 3 (by simp [Chn.cells]), h 4 (by simp [Chn.cells]), h 5 (by simp [Chn.cells]), h 6 (by simp [Chn.cells])⟩
structure Htl where
  ky : Int
  inn : Int
  out : Int
  ai : Int
  ao : Int
  kp : Bool
  ag : Int
def Htl.cells (x : Htl) : List Value := [.int .i64 x.ky, .int .i64 x.inn, .int .i64 x.out, .int .i64 x.ai, .int .i64 x.ao, .bool x.kp, .int .i64 x.ag]
def hts (xs : List Htl) : List Value := xs.flatMap Htl.cells
theorem hts_len (xs : List Htl) : (hts xs).length = xs.length * 7 := flatMap_len (f := Htl.cells) (sz := 7) (fun _ => rfl) xs
theorem hts_append (xs ys : List Htl) : hts (xs ++ ys) = hts xs ++ hts ys := by simp [hts]
theorem hts_at {w : World} {a : Option Addr} {xs : List Htl} (h : Cells w a (hts xs)) (k : Nat) (hk : k < xs.length) :
    ∃ b off, a = some ⟨b, off, none⟩ ∧ w.cell? ⟨b, off + k * 7, none⟩ = some (.int .i64 xs[k].ky) ∧ w.cell? ⟨b, off + k * 7 + 1, none⟩ = some (.int .i64 xs[k].inn) ∧ w.cell? ⟨b, off + k * 7 + 2, none⟩ = some (.int .i64 xs[k].out) ∧ w.cell? ⟨b, off + k * 7 + 3, none⟩ = some (.int .i64 xs[k].ai) ∧ w.cell? ⟨b, off + k * 7 + 4, none⟩ = some (.int .i64 xs[k].ao) ∧ w.cell? ⟨b, off + k * 7 + 5, none⟩ = some (.bool xs[k].kp) ∧ w.cell? ⟨b, off + k * 7 + 6, none⟩ = some (.int .i64 xs[k].ag) := by
  obtain ⟨b, off, e, h⟩ := elem_at (f := Htl.cells) (sz := 7) (fun _ => rfl) h k hk (by decide)
  exact ⟨b, off, e, h 0 (by simp [Htl.cells]), h 1 (by simp [Htl.cells]), h 2 (by simp [Htl.cells]), h 3 (by simp [Htl.cells]), h 4 (by simp [Htl.cells]), h 5 (by simp [Htl.cells]), h 6 (by simp [Htl.cells])⟩
structure Crc where
  ky : Int
  fr : Int
  to : Int
  am : Int
  fe : Int
def Crc.cells (x : Crc) : List Value := [.int .i64 x.ky, .int .i64 x.fr, .int .i64 x.to, .int .i64 x.am, .int .i64 x.fe]
def crs (xs : List Crc) : List Value := xs.flatMap Crc.cells
theorem crs_len (xs : List Crc) : (crs xs).length = xs.length * 5 := flatMap_len (f := Crc.cells) (sz := 5) (fun _ => rfl) xs
theorem crs_append (xs ys : List Crc) : crs (xs ++ ys) = crs xs ++ crs ys := by simp [crs]
theorem crs_at {w : World} {a : Option Addr} {xs : List Crc} (h : Cells w a (crs xs)) (k : Nat) (hk : k < xs.length) :
    ∃ b off, a = some ⟨b, off, none⟩ ∧ w.cell? ⟨b, off + k * 5, none⟩ = some (.int .i64 xs[k].ky) ∧ w.cell? ⟨b, off + k * 5 + 1, none⟩ = some (.int .i64 xs[k].fr) ∧ w.cell? ⟨b, off + k * 5 + 2, none⟩ = some (.int .i64 xs[k].to) ∧ w.cell? ⟨b, off + k * 5 + 3, none⟩ = some (.int .i64 xs[k].am) ∧ w.cell? ⟨b, off + k * 5 + 4, none⟩ = some (.int .i64 xs[k].fe) := by
  obtain ⟨b, off, e, h⟩ := elem_at (f := Crc.cells) (sz := 5) (fun _ => rfl) h k hk (by decide)
  exact ⟨b, off, e, h 0 (by simp [Crc.cells]), h 1 (by simp [Crc.cells]), h 2 (by simp [Crc.cells]), h 3 (by simp [Crc.cells]), h 4 (by simp [Crc.cells])⟩
/-- A book: what it says. -/
structure Bk where
  tk : Int
  nx : Int
  wa : Int
  C : List Chn
  Hs : List Htl
  R : List Crc
/-- A book in memory. -/
structure Bo where
  tk : Int
  nx : Int
  wa : Int
  ca : Option Addr
  cc : Nat
  C : List Chn
  ha : Option Addr
  hc : Nat
  Hs : List Htl
  ra : Option Addr
  rc : Nat
  R : List Crc
def Bo.v (B : Bo) : Value := .agg #[.int .i64 B.tk, .int .i64 B.nx, .int .i64 B.wa, .slice B.ca B.C.length B.cc, .slice B.ha B.Hs.length B.hc, .slice B.ra B.R.length B.rc]
def Bo.segs (B : Bo) : List Seg := [(B.ca, chs B.C), (B.ha, hts B.Hs), (B.ra, crs B.R)]
def Bo.d (B : Bo) : Bk := ⟨B.tk, B.nx, B.wa, B.C, B.Hs, B.R⟩
/-- Of moderate size. -/
def Bo.fit (B : Bo) : Prop := (B.ca = none → B.cc = 0) ∧ (B.ha = none → B.hc = 0) ∧ (B.ra = none → B.rc = 0) ∧ B.C.length ≤ B.cc ∧ B.Hs.length ≤ B.hc ∧ B.R.length ≤ B.rc
def Bo.len (B : Bo) : Prop := B.C.length ≤ 1048576 ∧ B.Hs.length ≤ 1048576 ∧ B.R.length ≤ 1048576
theorem Bo.memC {B : Bo} {w : World} (h : Mem w B.segs) : Cells w B.ca (chs B.C) := h (B.ca, chs B.C) (by simp [Bo.segs])
theorem Bo.memH {B : Bo} {w : World} (h : Mem w B.segs) : Cells w B.ha (hts B.Hs) := h (B.ha, hts B.Hs) (by simp [Bo.segs])
theorem Bo.memR {B : Bo} {w : World} (h : Mem w B.segs) : Cells w B.ra (crs B.R) := h (B.ra, crs B.R) (by simp [Bo.segs])

/-- Is there such a channel? -/
def hasC (C : List Chn) (ch : Int) : Bool := C.any fun c => decide (c.id = ch)
def atC (C : List Chn) (ch : Int) : Option Nat := C.findIdx? fun c => decide (c.id = ch)
theorem atC_none {C : List Chn} {ch : Int} (h : ∀ j (hj : j < C.length), C[j].id ≠ ch) : atC C ch = none := by
  unfold atC
  rw [List.findIdx?_eq_none_iff]
  intro c hc
  obtain ⟨j, hj, rfl⟩ := List.getElem_of_mem hc
  simpa using h j hj
theorem atC_some {C : List Chn} {ch : Int} {k : Nat} (hk : k < C.length) (he : C[k].id = ch) (h : ∀ j (hj : j < C.length), j < k → C[j].id ≠ ch) : atC C ch = some k := by
  unfold atC
  rw [List.findIdx?_eq_some_iff_getElem]
  exact ⟨hk, by simpa using he, fun j hj => by simpa using h j (by omega) hj⟩
theorem atC_lt {C : List Chn} {ch : Int} {k : Nat} (h : atC C ch = some k) : ∃ hk : k < C.length, C[k].id = ch := by
  unfold atC at h
  rw [List.findIdx?_eq_some_iff_getElem] at h
  obtain ⟨hk, he, _⟩ := h
  exact ⟨hk, by simpa using he⟩
theorem hasC_at (C : List Chn) (ch : Int) : hasC C ch = (atC C ch).isSome := by
  unfold hasC atC
  rw [List.findIdx?_isSome]
/-- Two channels that are there, and differ. -/
def twoB (C : List Chn) (x y : Int) : Bool := decide (x ≠ y) && hasC C x && hasC C y
/-- What is under way out of a channel, and in. -/
def outH (H : List Htl) (ch : Int) : Int := (H.map fun h => if h.out = ch then h.ao else 0).sum
def outR (R : List Crc) (ch : Int) : Int := (R.map fun c => if c.fr = ch then c.am + c.fe else 0).sum
def inH (H : List Htl) (ch : Int) : Int := (H.map fun h => if h.inn = ch then h.ai else 0).sum
def inR (R : List Crc) (ch : Int) : Int := (R.map fun c => if c.to = ch then c.am else 0).sum
def outV (B : Bk) (ch : Int) : Int := outH B.Hs ch + outR B.R ch
def inV (B : Bk) (ch : Int) : Int := inH B.Hs ch + inR B.R ch
def keyB (k : Int) : Bool := decide (1 ≤ k) && decide (k ≤ 1000000)
def chB (k : Int) : Bool := decide (1 ≤ k) && decide (k ≤ 99)
def ppmB (k : Int) : Bool := decide (0 ≤ k) && decide (k ≤ 1000000)
def posB (n : Int) : Bool := amtB n && decide (0 < n)
def htB (C : List Chn) (h : Htl) : Bool := posB h.ao && amtB h.ai && decide (h.ao ≤ h.ai) && amtB h.ag && twoB C h.inn h.out
def crB (C : List Chn) (c : Crc) : Bool := posB c.am && amtB c.fe && twoB C c.fr c.to
def keysL (B : Bk) : List Int := B.Hs.map Htl.ky ++ B.R.map Crc.ky
def keysB (L : List Int) : Bool := L.all keyB && decide L.Nodup
/-- Channel k's number is right, and above the one ahead of it. -/
def idAt (C : List Chn) (k : Nat) : Bool := match C[k]? with
  | none => true
  | some c => chB c.id && (decide (k = 0) || match C[k - 1]? with | none => true | some p => decide (p.id < c.id))
def idsB (C : List Chn) : Bool := (List.range C.length).all (idAt C)
def fieldsB (c : Chn) : Bool := amtB c.lo && amtB c.re && amtB c.ba && ppmB c.pp && okS c.sc
def sizeB (B : Bk) (c : Chn) : Bool := amtB c.sz && decide (c.sz = c.lo + c.re + outV B c.id + inV B c.id)
def chanB (B : Bk) (c : Chn) : Bool := fieldsB c && sizeB B c
def headB (B : Bk) : Bool := amtB B.tk && amtB B.wa && posB B.nx && decide (B.C.length ≤ 20) && decide (B.Hs.length ≤ 60) && decide (B.R.length ≤ 20)
def underB (B : Bk) : Bool := B.Hs.all (htB B.C) && B.R.all (crB B.C) && keysB (keysL B)
/-- Is the book right? -/
def bookB (B : Bk) : Bool := headB B && underB B && idsB B.C && B.C.all (chanB B)
theorem all_no {α : Type} {p : α → Bool} {xs : List α} {k : Nat} (hk : k < xs.length) (h : p xs[k] = false) : xs.all p = false := by
  rw [List.all_eq_false]; exact ⟨_, List.getElem_mem hk, by simp [h]⟩
theorem all_yes {α : Type} {p : α → Bool} {xs : List α} (h : ∀ j (hj : j < xs.length), p xs[j] = true) : xs.all p = true := by
  rw [List.all_eq_true]; intro x hx
  obtain ⟨j, hj, rfl⟩ := List.getElem_of_mem hx
  exact h j hj
theorem sum_take_succ {α : Type} (f : α → Int) (xs : List α) (k : Nat) (hk : k < xs.length) : ((xs.take (k + 1)).map f).sum = ((xs.take k).map f).sum + f xs[k] := by
  rw [List.take_add_one, List.getElem?_eq_getElem hk, Option.toList_some, List.map_append, List.sum_append]; simp
/-- Sums of numbers from 0 to M. -/
theorem sum_bound {α : Type} (f : α → Int) (M : Int) : ∀ (xs : List α), (∀ x ∈ xs, 0 ≤ f x ∧ f x ≤ M) → 0 ≤ (xs.map f).sum ∧ (xs.map f).sum ≤ M * xs.length
  | [], _ => by simp
  | x :: t, h => by
    have h1 := sum_bound f M t (fun y hy => h y (List.mem_cons_of_mem _ hy))
    have h2 := h x (List.mem_cons_self ..)
    simp only [List.map_cons, List.sum_cons, List.length_cons]
    have e : M * ((t.length + 1 : Nat) : Int) = M * t.length + M := by rw [Int.natCast_add, Int.mul_add]; simp
    rw [e]
    omega
end Go.Proofs.YtjdbedlgkngdkaaGreatDoor
namespace Go.Proofs.YtjdbedlgkngdkaaGreatDoor
open Go.RowKit Go.Deep
set_option linter.unusedVariables false
set_option maxRecDepth 10000

theorem pos_impl (n : Int) (w : World) : Calls Tryz.prog 102 #[.int .i64 n] w fun e w' => e = .returned (.bool (posB n)) ∧ Keeps w w' := by
  obtain ⟨v, hv⟩ : ∃ v : Bool, v = posB n := ⟨_, rfl⟩
  rw [← hv]
  unfold posB at hv
  cases h : amtB n
  · rw [h, Bool.false_and] at hv
    subst hv
    go_enter Tryz.func102, Tryz.ntmps102
    go_wp2_with fail
    refine (amt_impl n _).mono ?_
    rintro x w1 ⟨rfl, hk⟩
    rw [h]
    go_wp2_with fail
    go_ret
    exact ⟨rfl, hk⟩
  · rw [h, Bool.true_and] at hv
    replace hv := hide hv
    go_enter Tryz.func102, Tryz.ntmps102
    go_wp2_with fail
    refine (amt_impl n _).mono ?_
    rintro x w1 ⟨rfl, hk⟩
    rw [h]
    go_wp2_with fail
    go_ret
    exact ⟨ret_b (by rw [hv.out]), hk⟩
theorem key_impl (n : Int) (w : World) : Calls Tryz.prog 125 #[.int .i64 n] w fun e w' => e = .returned (.bool (keyB n)) ∧ Keeps w w' := by
  by_cases h : 1 ≤ n
  · go_enter Tryz.func125, Tryz.ntmps125
    go_wp2
    go_ret
    exact ⟨ret_b (by simp [keyB, h]), Keeps.refl _⟩
  · go_enter Tryz.func125, Tryz.ntmps125
    go_wp2
    go_ret
    exact ⟨ret_b (by simp [keyB]; omega), Keeps.refl _⟩
theorem chan_impl (n : Int) (w : World) : Calls Tryz.prog 126 #[.int .i64 n] w fun e w' => e = .returned (.bool (chB n)) ∧ Keeps w w' := by
  by_cases h : 1 ≤ n
  · go_enter Tryz.func126, Tryz.ntmps126
    go_wp2
    go_ret
    exact ⟨ret_b (by simp [chB, h]), Keeps.refl _⟩
  · go_enter Tryz.func126, Tryz.ntmps126
    go_wp2
    go_ret
    exact ⟨ret_b (by simp [chB]; omega), Keeps.refl _⟩
theorem ppm_impl (n : Int) (w : World) : Calls Tryz.prog 32 #[.int .i64 n] w fun e w' => e = .returned (.bool (ppmB n)) ∧ Keeps w w' := by
  by_cases h : 0 ≤ n
  · go_enter Tryz.func32, Tryz.ntmps32
    go_wp2
    go_ret
    exact ⟨ret_b (by simp [ppmB, h]), Keeps.refl _⟩
  · go_enter Tryz.func32, Tryz.ntmps32
    go_wp2
    go_ret
    exact ⟨ret_b (by simp [ppmB]; omega), Keeps.refl _⟩
/-- Where channel k of a list lies. -/
def placeC (a : Option Addr) (k : Option Nat) : Option Addr := match a, k with
  | some p, some i => some ⟨p.block, p.off + i * 7, none⟩
  | _, _ => none
theorem placeC_none (a : Option Addr) : placeC a none = none := by cases a <;> rfl
set_option maxHeartbeats 1000000 in
theorem channel_impl (p : Nat) (ca : Option Addr) (cc : Nat) (C : List Chn) (ch : Int) (w : World) (hp : w.cell? ⟨p, 3, none⟩ = some (.slice ca C.length cc)) (hc : Cells w ca (chs C)) (hl : C.length ≤ 1048576) :
    Calls Tryz.prog 108 #[.pointer (some ⟨p, 0, none⟩), .int .i64 ch] w fun e w' => e = .returned (.pointer (placeC ca (atC C ch))) ∧ w' = w := by
  have HC := hide hc
  clear hc
  go_enter Tryz.func108, Tryz.ntmps108
  go_wp2_with fail
  go_loop [11] (fun y => ∃ k : Nat, k ≤ C.length ∧ y = .int .i64 (k : Int) ∧ Hid (∀ j (hj : j < C.length), j < k → C[j].id ≠ ch)) (fun y => C.length - (intOf y).toNat)
  case atStart => exact ⟨0, by omega, rfl, fun j hj h => absurd h (by omega)⟩
  case round =>
    obtain ⟨k, hk, rfl, HG⟩ := hrel
    by_cases hlt : k < C.length
    · obtain ⟨b, off, ea, c0, -, -, -, -, -, -⟩ := chs_at HC.out k hlt
      subst ea
      by_cases he : C[k].id = ch
      · have HR : Hid (placeC (some ⟨b, off, none⟩) (atC C ch) = some ⟨b, off + k * 7, none⟩) := by
          show _ = _
          rw [atC_some hlt he HG.out]; rfl
        rw [he] at c0
        clear he HG
        go_wp2_with fail
        go_ret
        exact ⟨by rw [HR.out]; rfl, rfl⟩
      · have HE := hide he
        generalize C[k].id = x at c0 he
        go_wp2_with fail
        go_round
        case rel => exact ⟨k + 1, by omega, by go_num, fun j hj h => by
                      by_cases e : j = k
                      · subst e; exact HE.out
                      · exact HG.out j hj (by omega)⟩
        case measure => simp [intOf]; omega
    · have HR : Hid (placeC ca (atC C ch) = none) := by
        show _ = _
        rw [atC_none (fun j hj => HG.out j hj (by omega)), placeC_none]
      go_wp2_with fail
      go_ret
      exact ⟨by rw [HR.out]; rfl, rfl⟩
/-- The place of a channel is nil just where there is none. -/
theorem placeC_at {w : World} {ca : Option Addr} {C : List Chn} (hc : Cells w ca (chs C)) (ch : Int) : (hasC C ch = false ∧ placeC ca (atC C ch) = none) ∨ ∃ b off k, hasC C ch = true ∧ atC C ch = some k ∧ ca = some ⟨b, off, none⟩ ∧ placeC ca (atC C ch) = some ⟨b, off + k * 7, none⟩ := by
  rw [hasC_at]
  cases h : atC C ch with
  | none => exact Or.inl ⟨rfl, placeC_none _⟩
  | some k =>
    obtain ⟨hk, _⟩ := atC_lt h
    obtain ⟨b, off, rfl, _⟩ := chs_at hc k hk
    exact Or.inr ⟨b, off, k, rfl, rfl, rfl, rfl⟩
set_option maxHeartbeats 1000000 in
theorem two_impl (p : Nat) (ca : Option Addr) (cc : Nat) (C : List Chn) (x y : Int) (w : World) (hp : w.cell? ⟨p, 3, none⟩ = some (.slice ca C.length cc)) (hc : Cells w ca (chs C)) (hl : C.length ≤ 1048576) :
    Calls Tryz.prog 69 #[.pointer (some ⟨p, 0, none⟩), .int .i64 x, .int .i64 y] w fun e w' => e = .returned (.bool (twoB C x y)) ∧ Keeps w w' := by
  by_cases hxy : x = y
  · have HV : Hid (twoB C x y = false) := by show _ = _; simp [twoB, hxy]
    go_enter Tryz.func69, Tryz.ntmps69
    go_wp2_with fail
    go_ret
    exact ⟨ret_b HV.out.symm, Keeps.refl _⟩
  have HC := hide (fun z => channel_impl p ca cc C z w hp hc hl)
  rcases placeC_at hc x with ⟨h1, q1⟩ | ⟨b, off, k, h1, _, ea, q1⟩
  · have HV : Hid (twoB C x y = false) := by show _ = _; simp [twoB, h1]
    clear hc hp h1
    go_enter Tryz.func69, Tryz.ntmps69
    go_wp2_with fail
    refine (unhide HC x).mono ?_
    rintro e w1 ⟨rfl, rfl⟩
    rw [q1]
    go_wp2_with fail
    go_ret
    exact ⟨ret_b HV.out.symm, Keeps.refl _⟩
  rcases placeC_at hc y with ⟨h2, q2⟩ | ⟨b', off', k', h2, _, ea', q2⟩
  · have HV : Hid (twoB C x y = false) := by show _ = _; simp [twoB, h2]
    clear hc hp h1 h2
    go_enter Tryz.func69, Tryz.ntmps69
    go_wp2_with fail
    refine (unhide HC x).mono ?_
    rintro e w1 ⟨rfl, rfl⟩
    rw [q1]
    go_wp2_with fail
    refine (unhide HC y).mono ?_
    rintro e w1 ⟨rfl, rfl⟩
    rw [q2]
    go_wp2_with fail
    go_ret
    exact ⟨ret_b HV.out.symm, Keeps.refl _⟩
  · have HV : Hid (twoB C x y = true) := by show _ = _; simp [twoB, h1, h2, hxy]
    clear hc hp h1 h2
    go_enter Tryz.func69, Tryz.ntmps69
    go_wp2_with fail
    refine (unhide HC x).mono ?_
    rintro e w1 ⟨rfl, rfl⟩
    rw [q1]
    go_wp2_with fail
    refine (unhide HC y).mono ?_
    rintro e w1 ⟨rfl, rfl⟩
    rw [q2]
    go_wp2_with fail
    go_ret
    exact ⟨ret_b (by rw [HV.out]; simpa using hxy), Keeps.refl _⟩
end Go.Proofs.YtjdbedlgkngdkaaGreatDoor
