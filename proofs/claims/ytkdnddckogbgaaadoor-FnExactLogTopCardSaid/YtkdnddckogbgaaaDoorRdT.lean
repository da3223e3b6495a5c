/- A reader and a struct of the call's own beside it. -/
import Derived.Test.YtkdnddckogbgaaaDoorBEM
import Derived.Test.YtkdnddckogbgaaaDoorVars
namespace Go.Proofs.YtkdnddckogbgaaaDoor
open Go.RowKit Go.Deep
set_option linter.unusedVariables false
set_option linter.unusedSimpArgs false
set_option maxRecDepth 10000

theorem own_set {w : World} {V : Nat} {xs : List Value} (h : Own w [(some ⟨V, 0, none⟩, xs)]) (i : Nat) (hi : i < xs.length) (v : Value) : Own (w.setCell ⟨V, i, none⟩ v) [(some ⟨V, 0, none⟩, xs.set i v)] := by
  refine h.wrote (by simp) (Or.inr ⟨V, 0, rfl, fun j hj => ?_⟩) (fun p => frozen_set _ _ _ _)
  rw [List.length_set] at hj
  have hc : ∀ j (hj : j < xs.length), w.cell? ⟨V, 0 + j, none⟩ = some xs[j] := by
    rcases h.one with h' | ⟨b, off, e, h'⟩
    · rw [h'] at hi; simp at hi
    · have e' := Option.some.inj e
      injection e' with e1 e2
      subst e1 e2
      exact h'
  simp only [Nat.zero_add] at hc ⊢
  rw [List.getElem_set]
  by_cases e : i = j
  · subst e
    rw [if_pos rfl]
    exact World.cell?_setCell_same _ _ _ (hc i hi)
  · rw [if_neg e, World.cell?_setCell_other _ _ _ _ (fun h => e (by injection h))]
    exact hc j hj
theorem Turn.setNew {fs : List Nat} {W w : World} (h : Turn fs W w) {a : Addr} (ha : W.heap.size ≤ a.block) (v : Value) : Turn fs W (w.setCell a v) :=
  ⟨h.os, h.tape, h.output, by rw [nblk_setCell]; exact h.size, fun k hk hn => by
    rw [blk_setCell_other _ _ _ _ (fun e => by rw [e] at hk; omega)]
    exact h.block k hk hn⟩
theorem number_t (B b off : Nat) (L : List UInt8) (cap p s n : Nat) (hn : numL (cut L p s) = n) (w : World) (hr : Rd w B (some ⟨b, off, none⟩) L cap p) (hB : b ≠ B) (hc : Cells w (some ⟨b, off, none⟩) (bys L)) (hl : L.length ≤ 16777216) (hcap : L.length ≤ cap) (hcm : cap ≤ 9223372036854775807) (hs1 : 1 ≤ s) (hs2 : s ≤ 7) (h : p + s ≤ L.length) :
    Calls Tryd.prog 70 #[.pointer (some ⟨B, 0, none⟩), .int .i64 (s : Int)] w fun e w' => e = .returned (.int .i64 (n : Int)) ∧ Rd w' B (some ⟨b, off, none⟩) L cap (p + s : Nat) ∧ Turn [B] w w' := by
  refine (number_yes B b off L cap p s w hr hB hc hl hcap hcm hs1 hs2 h).mono ?_
  rintro e w' ⟨rfl, m, rfl⟩
  refine ⟨by rw [← hn]; rfl, ⟨?_, ?_, ?_⟩, ?_⟩
  · rw [World.cell?_setCell_other _ _ _ _ (by simp)]; simpa using hr.data
  · exact World.cell?_setCell_same _ _ _ (u := .int .i64 p) (by simpa using hr.place)
  · rw [frozen_set]; simpa using hr.free
  · exact Turn.trans' (Turn.of_keeps ((Keeps.refl w).drewN m) [B]) (Turn.set (by simp) _)
/-- A reader over bytes that were there, and a struct of the call's own, made since W. -/
structure RS (W w : World) (B b off : Nat) (L : List UInt8) (cap : Nat) (p : Nat) (V : Nat) (xs : List Value) : Prop where
  rd : Rd w B (some ⟨b, off, none⟩) L cap p
  cells : Cells w (some ⟨b, off, none⟩) (bys L)
  own : Own w [(some ⟨V, 0, none⟩, xs)]
  turn : Turn [B] W w
  newV : W.heap.size ≤ V
  oldB : B < W.heap.size
  oldb : b < W.heap.size
  ne : b ≠ B
theorem cut_zero (L : List UInt8) (p : Nat) : cut L p 0 = [] := by simp [cut]
section
variable {W w w' : World} {B b off : Nat} {L : List UInt8} {cap p V : Nat} {xs ys : List Value}
theorem RS.num (h : RS W w B b off L cap p V xs) {q : Nat} (hr : Rd w' B (some ⟨b, off, none⟩) L cap q) (ht : Turn [B] w w') : RS W w' B b off L cap q V xs :=
  ⟨hr, Cells.turn (s := (some ⟨b, off, none⟩, bys L)) h.cells ht (fun x hx hb => by
      have h1 : x = B := by simpa using hb
      subst h1
      by_cases h0 : bys L = []
      · simp [fpS, h0] at hx
      · rw [fpS_some h0] at hx
        exact h.ne ((show x = b by simpa using hx).symm)),
    h.own.turn ht (fun x hx hb => by
      have h1 : x = B := by simpa using hb
      subst h1
      rw [fp_one] at hx
      by_cases h0 : xs = []
      · simp [fpS, h0] at hx
      · rw [fpS_some h0] at hx
        have h2 : x = V := by simpa using hx
        have := h.newV
        have := h.oldB
        omega), h.turn.trans' ht, h.newV, h.oldB, h.oldb, h.ne⟩
theorem RS.set (h : RS W w B b off L cap p V xs) (i : Nat) (hi : i < xs.length) (v : Value) (hy : ys = xs.set i v) : RS W (w.setCell ⟨V, i, none⟩ v) B b off L cap p V ys := by
  have h1 := h.newV
  have h2 := h.oldB
  have h3 := h.oldb
  refine ⟨⟨?_, ?_, ?_⟩, ?_, by rw [hy]; exact own_set h.own i hi v, h.turn.setNew h.newV v, h1, h2, h3, h.ne⟩
  · rw [World.cell?_setCell_other _ _ _ _ (fun e => by injection e; omega)]; exact h.rd.data
  · rw [World.cell?_setCell_other _ _ _ _ (fun e => by injection e; omega)]; exact h.rd.place
  · rw [frozen_set]; exact h.rd.free
  · refine Cells.turn (s := (some ⟨b, off, none⟩, bys L)) h.cells (Turn.set (fs := [V]) (by simp) v) (fun x hx hb => ?_)
    have e1 : x = V := by simpa using hb
    by_cases h0 : bys L = []
    · simp [fpS, h0] at hx
    · rw [fpS_some h0] at hx
      have e2 : x = b := by simpa using hx
      omega
theorem RS.other (h : RS W w B b off L cap p V xs) {V' i : Nat} (hne : V' ≠ V) (hnew : W.heap.size ≤ V') (v : Value) : RS W (w.setCell ⟨V', i, none⟩ v) B b off L cap p V xs := by
  have h1 := h.newV
  have h2 := h.oldB
  have h3 := h.oldb
  refine ⟨⟨?_, ?_, ?_⟩, ?_, ?_, h.turn.setNew hnew v, h1, h2, h3, h.ne⟩
  · rw [World.cell?_setCell_other _ _ _ _ (fun e => by injection e; omega)]; exact h.rd.data
  · rw [World.cell?_setCell_other _ _ _ _ (fun e => by injection e; omega)]; exact h.rd.place
  · rw [frozen_set]; exact h.rd.free
  · refine Cells.turn (s := (some ⟨b, off, none⟩, bys L)) h.cells (Turn.set (fs := [V']) (by simp) v) (fun x hx hb => ?_)
    have e1 : x = V' := by simpa using hb
    by_cases h0 : bys L = []
    · simp [fpS, h0] at hx
    · rw [fpS_some h0] at hx
      have e2 : x = b := by simpa using hx
      omega
  · refine h.own.turn (Turn.set (fs := [V']) (by simp) v) (fun x hx hb => ?_)
    have e1 : x = V' := by simpa using hb
    rw [fp_one] at hx
    by_cases h0 : xs = []
    · simp [fpS, h0] at hx
    · rw [fpS_some h0] at hx
      exact hne (e1.symm.trans (by simpa using hx))
theorem RS.cell (h : RS W w B b off L cap p V xs) (i : Nat) (hi : i < xs.length) {v : Value} (hv : xs[i] = v) : w.cell? ⟨V, i, none⟩ = some v := by
  have := cell_at h.own.mem i hi
  rw [Nat.zero_add, hv] at this
  exact this
theorem RS.free (h : RS W w B b off L cap p V xs) (hx : xs ≠ []) : ∀ i, w.frozen? ⟨V, i, none⟩ = false := h.own.free V (by rw [fp_one, fpS_some hx]; simp)
theorem RS.drew (h : RS W w B b off L cap p V xs) : RS W w.drew B b off L cap p V xs :=
  ⟨⟨by simpa using h.rd.data, by simpa using h.rd.place, by simpa using h.rd.free⟩, h.cells.kept (Keeps.drew (Keeps.refl w)), h.own.kept (Keeps.drew (Keeps.refl w)), h.turn.trans' (Turn.of_keeps (Keeps.drew (Keeps.refl w)) _), h.newV, h.oldB, h.oldb, h.ne⟩
theorem RS.kept (h : RS W w B b off L cap p V xs) (hk : Keeps w w') : RS W w' B b off L cap p V xs :=
  ⟨⟨hk.cell h.rd.data, hk.cell h.rd.place, by rw [hk.oldF _ _ (lt_of_cell h.rd.place)]; exact h.rd.free⟩, h.cells.kept hk, h.own.kept hk, h.turn.trans' (Turn.of_keeps hk _), h.newV, h.oldB, h.oldb, h.ne⟩
end
end Go.Proofs.YtkdnddckogbgaaaDoor
