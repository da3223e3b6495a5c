/- Memory told by segments: lists in memory, the blocks on which they stand, and worlds that part in some blocks alone. -/
import Derived.Test.YtkdnddckogbgaaaDoorOpen
import Derived.Deep.OwnRows
import Derived.Laws.OwnMore
import Derived.OpenShut
namespace Go.Proofs.YtkdnddckogbgaaaDoor
open Go.RowKit Go.Deep
set_option linter.unusedVariables false

/-- Of what was there only blocks of fs have turned. -/
structure Turn (fs : List Nat) (w w' : World) : Prop where
  os : w'.os = w.os
  tape : w'.tape = w.tape
  output : w'.output = w.output
  size : w.heap.size ≤ w'.heap.size
  block : ∀ k, k < w.heap.size → k ∉ fs → w'.heap[k]? = w.heap[k]?
theorem Turn.refl (fs : List Nat) (w : World) : Turn fs w w := ⟨rfl, rfl, rfl, Nat.le_refl _, fun _ _ _ => rfl⟩
theorem Turn.of_keeps {w w' : World} (h : Keeps w w') (fs : List Nat) : Turn fs w w' := ⟨h.os, h.tape, h.output, h.size, fun k hk _ => h.block k hk⟩
theorem Turn.to_keeps {w w' : World} (h : Turn [] w w') : Keeps w w' := ⟨h.os, h.tape, h.output, h.size, fun k hk => h.block k hk (by simp)⟩
theorem Turn.trans {fs gs : List Nat} {a b c : World} (h : Turn fs a b) (k : Turn gs b c) : Turn (fs ++ gs) a c :=
  ⟨k.os.trans h.os, k.tape.trans h.tape, k.output.trans h.output, Nat.le_trans h.size k.size, fun i hi hn => by
    simp only [List.mem_append, not_or] at hn
    exact (k.block i (Nat.lt_of_lt_of_le hi h.size) hn.2).trans (h.block i hi hn.1)⟩
theorem Turn.mono {fs gs : List Nat} {a b : World} (h : Turn fs a b) (hs : ∀ x ∈ fs, x ∈ gs) : Turn gs a b :=
  ⟨h.os, h.tape, h.output, h.size, fun i hi hn => h.block i hi (fun hx => hn (hs i hx))⟩
theorem Turn.trans' {fs : List Nat} {a b c : World} (h : Turn fs a b) (k : Turn fs b c) : Turn fs a c := (h.trans k).mono (by simp)
theorem Turn.keeps {fs : List Nat} {W w w' : World} (h : Turn fs w w') (hk : Keeps W w) (hf : ∀ b ∈ fs, W.heap.size ≤ b) : Keeps W w' :=
  ⟨h.os.trans hk.os, h.tape.trans hk.tape, h.output.trans hk.output, Nat.le_trans hk.size h.size, fun i hi =>
    (h.block i (Nat.lt_of_lt_of_le hi hk.size) (fun hx => by have := hf i hx; omega)).trans (hk.block i hi)⟩
theorem Turn.set {fs : List Nat} {w : World} {a : Addr} (ha : a.block ∈ fs) (v : Value) : Turn fs w (w.setCell a v) :=
  ⟨rfl, rfl, rfl, by rw [nblk_setCell]; exact Nat.le_refl _, fun k hk hn => blk_setCell_other _ _ _ _ (fun e => hn (e ▸ ha))⟩
theorem Turn.of_grown {w w' : World} {row : Option Nat} (h : w.grownBy w' row) {fs : List Nat} (hr : ∀ k, row = some k → k ∈ fs) : Turn fs w w' :=
  ⟨h.os, h.tape, h.output, h.size, fun k hk hn => h.block k hk (fun e => hn (hr k e.symm))⟩
theorem Turn.cell {fs : List Nat} {w w' : World} (h : Turn fs w w') {p : Addr} (hp : p.block ∉ fs) {v : Value} (hc : w.cell? p = some v) : w'.cell? p = some v := by
  rw [← hc]
  refine World.cell?_of_block (w := w) (h.block p.block ?_ hp)
  rcases Nat.lt_or_ge p.block w.heap.size with h' | h'
  · exact h'
  · simp [World.cell?, Array.getElem?_eq_none h'] at hc

/-- A list in memory: where, and its cells. -/
abbrev Seg := Option Addr × List Value
def fpS (s : Seg) : List Nat := if s.2 = [] then [] else match s.1 with | some p => [p.block] | none => []
/-- The blocks on which the lists stand. -/
def fp (S : List Seg) : List Nat := S.flatMap fpS
theorem fp_nil : fp [] = [] := rfl
theorem fp_cons (s : Seg) (S : List Seg) : fp (s :: S) = fpS s ++ fp S := rfl
theorem fp_append (S T : List Seg) : fp (S ++ T) = fp S ++ fp T := by simp [fp]
def Mem (w : World) (S : List Seg) : Prop := ∀ s ∈ S, Cells w s.1 s.2
theorem Mem.nil (w : World) : Mem w [] := fun s h => absurd h (by simp)
theorem mem_cons {w : World} {s : Seg} {S : List Seg} : Mem w (s :: S) ↔ Cells w s.1 s.2 ∧ Mem w S := by simp [Mem]
theorem mem_append {w : World} {S T : List Seg} : Mem w (S ++ T) ↔ Mem w S ∧ Mem w T := by
  simp only [Mem, List.mem_append]
  exact ⟨fun h => ⟨fun s hs => h s (Or.inl hs), fun s hs => h s (Or.inr hs)⟩, fun h s hs => hs.elim (h.1 s) (h.2 s)⟩
theorem Cells.turn {w w' : World} {s : Seg} (h : Cells w s.1 s.2) {fs : List Nat} (hk : Turn fs w w') (hd : ∀ b ∈ fpS s, b ∉ fs) : Cells w' s.1 s.2 := by
  rcases h with h | ⟨b, off, e, h⟩
  · exact Or.inl h
  · by_cases h0 : s.2 = []
    · exact Or.inl h0
    · refine Or.inr ⟨b, off, e, fun j hj => hk.cell (hd b ?_) (h j hj)⟩
      simp [fpS, h0, e]
theorem Mem.turn {w w' : World} {S : List Seg} (h : Mem w S) {fs : List Nat} (hk : Turn fs w w') (hd : ∀ b ∈ fp S, b ∉ fs) : Mem w' S :=
  fun s hs => (h s hs).turn hk (fun b hb => hd b (List.mem_flatMap.2 ⟨s, hs, hb⟩))
theorem Mem.kept {w w' : World} {S : List Seg} (h : Mem w S) (hk : Keeps w w') : Mem w' S := fun s hs => (h s hs).kept hk
theorem Cells.lt {w : World} {s : Seg} (h : Cells w s.1 s.2) : ∀ b ∈ fpS s, b < w.heap.size := by
  intro b hb
  rcases h with h | ⟨g, off, e, h⟩
  · simp [fpS, h] at hb
  · by_cases h0 : s.2 = []
    · simp [fpS, h0] at hb
    · simp [fpS, h0, e] at hb
      subst hb
      exact lt_of_cell (h 0 (List.length_pos_iff.2 h0))
theorem Mem.lt {w : World} {S : List Seg} (h : Mem w S) : ∀ b ∈ fp S, b < w.heap.size := by
  intro b hb
  obtain ⟨s, hs, hb⟩ := List.mem_flatMap.1 hb
  exact (h s hs).lt b hb

/-- None of the blocks is frozen. -/
def Free (w : World) (fs : List Nat) : Prop := ∀ b ∈ fs, ∀ o, w.frozen? ⟨b, o, none⟩ = false
theorem Free.turn {w w' : World} {fs gs : List Nat} (h : Free w fs) (hk : Turn gs w w') (hd : ∀ b ∈ fs, b ∉ gs) (hl : ∀ b ∈ fs, b < w.heap.size) : Free w' fs := fun b hb o => by
  rw [← h b hb o]
  exact World.frozen?_of_block (w := w) (hk.block b (hl b hb) (hd b hb))
theorem frozen_set (w : World) (a p : Addr) (v : Value) : (w.setCell a v).frozen? p = w.frozen? p := by simp
/-- Lists of one's own: no two share a block, none is frozen. -/
structure Own (w : World) (S : List Seg) : Prop where
  mem : Mem w S
  nd : (fp S).Nodup
  free : Free w (fp S)
theorem Own.nil (w : World) : Own w [] := ⟨Mem.nil w, by simp [fp], fun b hb => absurd hb (by simp [fp])⟩
theorem Own.turn {w w' : World} {S : List Seg} (h : Own w S) {fs : List Nat} (hk : Turn fs w w') (hd : ∀ b ∈ fp S, b ∉ fs) : Own w' S :=
  ⟨h.mem.turn hk hd, h.nd, h.free.turn hk hd h.mem.lt⟩
theorem Own.kept {w w' : World} {S : List Seg} (h : Own w S) (hk : Keeps w w') : Own w' S := h.turn (Turn.of_keeps hk []) (by simp)
theorem Own.left {w : World} {S T : List Seg} (h : Own w (S ++ T)) : Own w S :=
  ⟨(mem_append.1 h.mem).1, by have := h.nd; rw [fp_append] at this; exact (List.nodup_append.1 this).1, fun b hb => h.free b (by rw [fp_append]; exact List.mem_append_left _ hb)⟩
theorem Own.right {w : World} {S T : List Seg} (h : Own w (S ++ T)) : Own w T :=
  ⟨(mem_append.1 h.mem).2, by have := h.nd; rw [fp_append] at this; exact (List.nodup_append.1 this).2.1, fun b hb => h.free b (by rw [fp_append]; exact List.mem_append_right _ hb)⟩
theorem Own.apart {w : World} {S T : List Seg} (h : Own w (S ++ T)) : ∀ b ∈ fp S, b ∉ fp T := by
  have := h.nd
  rw [fp_append] at this
  exact fun b hb hb' => (List.nodup_append.1 this).2.2 b hb b hb' rfl
theorem Own.append {w : World} {S T : List Seg} (h : Own w S) (k : Own w T) (hd : ∀ b ∈ fp S, b ∉ fp T) : Own w (S ++ T) :=
  ⟨mem_append.2 ⟨h.mem, k.mem⟩, by rw [fp_append]; exact List.nodup_append.2 ⟨h.nd, k.nd, fun a ha b hb e => hd a ha (e ▸ hb)⟩, fun b hb => by
    rw [fp_append] at hb
    rcases List.mem_append.1 hb with hb | hb
    · exact h.free b hb
    · exact k.free b hb⟩
/-- Lists of one's own that were made behind w. -/
structure Born (w w' : World) (S : List Seg) : Prop extends Own w' S where
  new : ∀ b ∈ fp S, w.heap.size ≤ b
theorem Born.nil (w w' : World) : Born w w' [] := ⟨Own.nil w', fun b hb => absurd hb (by simp [fp])⟩
theorem Born.old {w0 w w' : World} {S : List Seg} (h : Born w w' S) (hk : Keeps w0 w) : Born w0 w' S := ⟨h.toOwn, fun b hb => Nat.le_trans hk.size (h.new b hb)⟩
theorem Born.kept {w w' w'' : World} {S : List Seg} (h : Born w w' S) (hk : Keeps w' w'') : Born w w'' S := ⟨h.toOwn.kept hk, h.new⟩
theorem Born.turn {w w' w'' : World} {S : List Seg} (h : Born w w' S) {fs : List Nat} (hk : Turn fs w' w'') (hd : ∀ b ∈ fp S, b ∉ fs) : Born w w'' S := ⟨h.toOwn.turn hk hd, h.new⟩
/-- What was there ahead of a birth shares no block with what was born. -/
theorem Born.apart {w w' : World} {S T : List Seg} (h : Born w w' S) (k : Mem w T) : ∀ b ∈ fp T, b ∉ fp S := fun b hb hb' => by
  have := h.new b hb'
  have := k.lt b hb
  omega
theorem Born.apart' {w w' : World} {S T : List Seg} (h : Born w w' S) (k : Mem w T) : ∀ b ∈ fp S, b ∉ fp T := fun b hb hb' => h.apart k b hb' hb
theorem Born.join {w w1 w2 : World} {S T : List Seg} (h : Born w w1 S) (hk : Keeps w1 w2) (hw : Keeps w w1) (k : Born w1 w2 T) : Born w w2 (S ++ T) :=
  ⟨(h.toOwn.kept hk).append k.toOwn (k.apart h.mem), fun b hb => by
    rw [fp_append] at hb
    rcases List.mem_append.1 hb with hb | hb
    · exact h.new b hb
    · exact Nat.le_trans hw.size (k.new b hb)⟩
theorem fp_one (a : Option Addr) (xs : List Value) : fp [(a, xs)] = fpS (a, xs) := by simp [fp]
theorem fpS_some {b off : Nat} {xs : List Value} (h : xs ≠ []) : fpS (some ⟨b, off, none⟩, xs) = [b] := by simp [fpS, h]
theorem fpS_len {a : Option Addr} {xs ys : List Value} (h : xs.length = ys.length) : fpS (a, xs) = fpS (a, ys) := by
  unfold fpS
  by_cases h0 : xs = []
  · have : ys = [] := List.length_eq_zero_iff.1 (by rw [← h, h0]; rfl)
    simp [h0, this]
  · have : ys ≠ [] := fun e => h0 (List.length_eq_zero_iff.1 (by rw [h, e]; rfl))
    simp [h0, this]
/-- A row that the call itself made, as a segment. -/
theorem Own.of_owns {w : World} {base n : Nat} {e : TypeId} {sz : Nat} {v : Value} {xs : List Value} (h : w.ownsRow base e sz v n xs) :
    ∃ (a : Option Addr) (cap : Nat), v = .slice a n cap ∧ n ≤ cap ∧ cap ≤ maxLen ∧ (a = none → cap = 0) ∧ Own w [(a, xs)] ∧ ∀ b ∈ fp [(a, xs)], base ≤ b := by
  rcases h.2 with ⟨rfl, h'⟩ | ⟨g, cap, cur, rfl, hb, hg, hn, hm, hsz, ht⟩
  · have hx : xs = [] := List.length_eq_zero_iff.1 (by rw [h.1, h']; simp)
    subst hx h'
    refine ⟨none, 0, rfl, Nat.le_refl _, Nat.zero_le _, fun _ => rfl, ⟨?_, by simp [fp, fpS], fun b hb => absurd hb (by simp [fp, fpS])⟩, fun b hb => absurd hb (by simp [fp, fpS])⟩
    intro s hs
    rw [List.mem_singleton.1 hs]
    exact Cells.nil _ _
  · have hfz : ∀ o, w.frozen? ⟨g, o, none⟩ = false := fun o => by simp [World.frozen?, hg]
    refine ⟨_, cap, rfl, hn, hm, fun e => (nomatch e), ⟨?_, ?_, ?_⟩, ?_⟩
    · intro s hs
      rw [List.mem_singleton.1 hs]
      refine Or.inr ⟨g, 0, rfl, fun j hj => ?_⟩
      rw [Nat.zero_add]
      have h1 : w.cell? ⟨g, j, none⟩ = cur[j]? := by simp [World.cell?, hg]
      have hj' : j < xs.length := hj
      rw [h1, ← List.getElem?_eq_getElem hj]
      show _ = xs[j]?
      rw [← ht, List.getElem?_take]
      rw [h.1] at hj'
      rw [if_pos hj']
      simp
    · by_cases h0 : xs = [] <;> simp [fp, fpS, h0]
    · intro b hb'
      by_cases h0 : xs = []
      · simp [fp, fpS, h0] at hb'
      · simp [fp, fpS, h0] at hb'
        subst hb'
        exact hfz
    · intro b hb'
      by_cases h0 : xs = []
      · simp [fp, fpS, h0] at hb'
      · simp [fp, fpS, h0] at hb'
        subst hb'
        exact hb
theorem Own.one {w : World} {a : Option Addr} {xs : List Value} (h : Own w [(a, xs)]) : Cells w a xs := h.mem (a, xs) (by simp)
/-- A row that the call itself made since w, as a segment. -/
theorem Born.of_owns {w w' : World} {n : Nat} {e : TypeId} {sz : Nat} {v : Value} {xs : List Value} (h : w'.ownsRow w.heap.size e sz v n xs) :
    ∃ (a : Option Addr) (cap : Nat), v = .slice a n cap ∧ ((a = none → cap = 0) ∧ n ≤ cap) ∧ Born w w' [(a, xs)] := by
  obtain ⟨a, cap, hv, hl, _, hn, ho, hb⟩ := Own.of_owns h
  exact ⟨a, cap, hv, ⟨hn, hl⟩, ho, hb⟩
theorem int_lt {n : Int} (h : (Lit.int .i64 n).wf = true) : n < 9223372036854775808 := by
  have := (bounds_i64 h).2
  omega
theorem int_ge {n : Int} (h : (Lit.int .i64 n).wf = true) : -9223372036854775808 ≤ n := (bounds_i64 h).1
end Go.Proofs.YtkdnddckogbgaaaDoor
