/- Lists of structs in memory, whatever the struct: their cells, and lists that are changed one at a time; what a law reads of a list. -/
import Derived.Test.YtkdnddckogbgaaaDoorMem
import Derived.ChangeSame
import Derived.WideShapes
import Derived.Below
import Derived.Deep.Strs
namespace Go.Proofs.YtkdnddckogbgaaaDoor
open Go.RowKit Go.ChangeShapes Go.WideShapes Go.Deep
set_option linter.unusedVariables false
set_option maxRecDepth 100000

section
variable {α : Type} {f : α → List Value} {sz : Nat}
theorem flatMap_len (hf : ∀ x, (f x).length = sz) (xs : List α) : (xs.flatMap f).length = xs.length * sz := by
  induction xs with
  | nil => simp
  | cons x t ih => simp [ih, hf, Nat.add_mul]; omega
theorem flatMap_at (hf : ∀ x, (f x).length = sz) : ∀ (xs : List α) (i : Nat) (hi : i < xs.length) (r : Nat), r < sz → (xs.flatMap f)[i * sz + r]? = (f xs[i])[r]?
  | [], i, h, _, _ => absurd h (Nat.not_lt_zero i)
  | x :: t, 0, h, r, hr => by
    simp only [List.flatMap_cons, Nat.zero_mul, Nat.zero_add, List.getElem_cons_zero]
    exact List.getElem?_append_left (by rw [hf]; exact hr)
  | x :: t, i + 1, h, r, hr => by
    have := flatMap_at hf t i (by simpa using h) r hr
    simp only [List.flatMap_cons, List.getElem_cons_succ]
    rw [List.getElem?_append_right (by rw [hf, Nat.add_mul]; omega), hf, show (i + 1) * sz + r - sz = i * sz + r by rw [Nat.add_mul]; omega]
    exact this
/-- Cell r of element i of a list in memory. -/
theorem elem_at {w : World} {a : Option Addr} {xs : List α} (hf : ∀ x, (f x).length = sz) (h : Cells w a (xs.flatMap f)) (i : Nat) (hi : i < xs.length) (hs : 0 < sz) :
    ∃ b off, a = some ⟨b, off, none⟩ ∧ ∀ r (hr : r < (f xs[i]).length), w.cell? ⟨b, off + i * sz + r, none⟩ = some ((f xs[i])[r]) := by
  have hl := flatMap_len hf xs
  have hle : i * sz + sz ≤ xs.length * sz := by
    have := Nat.mul_le_mul_right sz (show i + 1 ≤ xs.length from hi)
    rw [Nat.add_mul] at this; omega
  rcases h with h | ⟨b, off, e, h⟩
  · rw [h] at hl
    simp at hl
    omega
  · refine ⟨b, off, e, fun r hr => ?_⟩
    have hr' : r < sz := by rw [hf] at hr; exact hr
    have g := flatMap_at hf xs i hi r hr'
    rw [List.getElem?_eq_getElem hr, List.getElem?_eq_getElem (by omega)] at g
    rw [Nat.add_assoc, h (i * sz + r) (by omega)]
    exact g
end
/-- One list of many has turned. -/
theorem Own.upd {w w' : World} {A B : List Seg} {s s' : Seg} (h : Own w (A ++ s :: B)) (hs : Own w' [s']) (hf : fpS s' = fpS s) (ht : Turn (fp [s]) w w') : Own w' (A ++ s' :: B) := by
  have hA := h.left
  have hB : Own w (s :: B) := h.right
  have hsB : Own w ([s] ++ B) := hB
  have e1 : fp [s] = fpS s := by simp [fp]
  have dA : ∀ b ∈ fp A, b ∉ fp [s] := fun b hb hb' => h.apart b hb (by rw [show s :: B = [s] ++ B from rfl, fp_append]; exact List.mem_append_left _ hb')
  have dB : ∀ b ∈ fp B, b ∉ fp [s] := fun b hb hb' => hsB.apart b hb' hb
  have hA' := hA.turn ht dA
  have hB' := hsB.right.turn ht dB
  have e2 : fp [s'] = fp [s] := by simp [fp, hf]
  have hsB' : Own w' ([s'] ++ B) := hs.append hB' (fun b hb => by rw [e2] at hb; exact hsB.apart b hb)
  refine hA'.append hsB' (fun b hb hb' => ?_)
  refine h.apart b hb ?_
  rw [fp_cons] at hb' ⊢
  rw [← hf]; exact hb'
theorem fp_upd (A B : List Seg) {s s' : Seg} (hf : fpS s' = fpS s) : fp (A ++ s' :: B) = fp (A ++ s :: B) := by
  rw [fp_append, fp_append, fp_cons, fp_cons, hf]
theorem Own.perm {w : World} {S T : List Seg} (h : Own w (S ++ T)) : Own w (T ++ S) := h.right.append h.left (fun b hb hb' => h.apart b hb' hb)
/-- A block of one's own, cell by cell. -/
structure Room (w : World) (b n : Nat) : Prop where
  cell : ∀ j, j < n → ∃ u, w.cell? ⟨b, j, none⟩ = some u
  free : ∀ o, w.frozen? ⟨b, o, none⟩ = false
theorem Room.of_row {w : World} {b : Nat} {t : TypeId} {n : Nat} {f : Nat → Value} (h : w.rowIs b t n f) : Room w b n := ⟨fun j hj => ⟨_, h.cell hj⟩, h.frozen⟩
theorem Room.kept {w w' : World} {b n : Nat} (h : Room w b n) (hk : Keeps w w') (hb : b < w.heap.size) : Room w' b n :=
  ⟨fun j hj => by obtain ⟨u, hu⟩ := h.cell j hj; exact ⟨u, hk.cell hu⟩, fun o => by rw [hk.oldF b o hb]; exact h.free o⟩
theorem Room.set {w : World} {b n : Nat} (h : Room w b n) (j : Nat) (v : Value) : Room (w.setCell ⟨b, j, none⟩ v) b n := by
  refine ⟨fun i hi => ?_, fun o => by rw [frozen_set]; exact h.free o⟩
  by_cases e : i = j
  · subst e
    obtain ⟨u, hu⟩ := h.cell i hi
    exact ⟨v, World.cell?_setCell_same _ _ _ hu⟩
  · obtain ⟨u, hu⟩ := h.cell i hi
    exact ⟨u, by rw [World.cell?_setCell_other _ _ _ _ (by simp)]; exact hu⟩
theorem Room.own {w : World} {b n : Nat} (h : Room w b n) {xs : List Value} (hc : ∀ j (hj : j < xs.length), w.cell? ⟨b, j, none⟩ = some xs[j]) : Own w [(some ⟨b, 0, none⟩, xs)] := by
  refine ⟨?_, ?_, ?_⟩
  · intro s hs
    rw [List.mem_singleton.1 hs]
    exact Or.inr ⟨b, 0, rfl, fun j hj => by rw [Nat.zero_add]; exact hc j hj⟩
  · by_cases h0 : xs = [] <;> simp [fp, fpS, h0]
  · intro g hg
    by_cases h0 : xs = []
    · simp [fp, fpS, h0] at hg
    · simp [fp, fpS, h0] at hg
      subst hg
      exact h.free
/-- What was kept behind an append to a list of the call's own. -/
theorem Keeps.grown {W0 wr w' : World} {row : Option Nat} (hk : Keeps W0 wr) (hg : wr.grownBy w' row) (hr : ∀ k, row = some k → W0.heap.size ≤ k) : Keeps W0 w' :=
  Below.grown hk hg hk.size hr
theorem cellsInt : Tryd.prog.cellsOf 3 = 1 := by kernel_rfl
section
variable {H : Type} {enc : TypeId × Value → H} {W : World} {n : Nat} {cs : List Value} {y : DataW H × List MemPlace} {base : Nat} {sp : Nat → Bool} {hd : Bool}
theorem open_cells' {P : Program} {t e : TypeId} {sz fuel : Nat} {v : Value} {x : DataW H × List MemPlace} (ht : P.underlying t = some (.slice e)) (hsz : P.cellsOf e = sz) (hpos : 0 < sz)
    (h : DataW.trod enc P W base sp hd fuel t [v] = some x) (Q : List Value → Prop) (hQ : ∀ n cs y, DataW.trod enc P W base sp hd n e cs = some y → Q cs) :
    ∃ (a : Option Addr) (cap : Nat) (M : List (List Value)), v = .slice a M.length cap ∧ (∀ c ∈ M, c.length = sz ∧ Q c) ∧ Cells W a M.flatten ∧ ((a = none → cap = 0) ∧ M.length ≤ cap) ∧ M.length ≤ 9223372036854775807 := by
  obtain ⟨a, cap, M, hv, h1, h2, h3, h4⟩ := open_cells ht hsz hpos h Q hQ
  refine ⟨a, cap, M, hv, h1, h2, ⟨?_, h3⟩, Nat.le_trans h3 h4⟩
  rcases open_slice ht h with ⟨hv', _⟩ | ⟨a', len, cap', m, n, D, Pl, hv', _⟩
  · simp at hv'
    rw [hv'] at hv
    intro _
    injection hv with _ _ e
    exact e.symm
  · simp at hv'
    rw [hv'] at hv
    intro e
    subst e
    injection hv with e _ _
    cases e
variable {v : Value} {d : DataW H} {ps : List MemPlace}
theorem lt_row {t : TypeId} (h : DataW.Trod enc Tryd.prog W base sp hd t v d ps) : ∀ x ∈ ps, x.block < W.heap.size := by
  obtain ⟨m, hm⟩ := h
  exact DataW.trod_lt m _ _ _ hm
end
end Go.Proofs.YtkdnddckogbgaaaDoor
