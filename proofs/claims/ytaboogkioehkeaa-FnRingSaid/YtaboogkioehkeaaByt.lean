/- Lists of bytes: what the laws do with them (toByteS, eqByteS, markByteS, heldByteS, szByteS). -/
import Derived.Test.YtaboogkioehkeaaMem
import Derived.RegionTactic
namespace Go.Proofs.Ytaboogkioehkeaa
open Go.RowKit Go.Deep
set_option linter.unusedVariables false

def byV (x : UInt8) : Value := .int .u8 (x.toNat : Int)
def bys (L : List UInt8) : List Value := L.map byV
theorem bys_length (L : List UInt8) : (bys L).length = L.length := by simp [bys]
theorem bys_nil {L : List UInt8} : bys L = [] ↔ L = [] := by simp [bys]
theorem bys_append (L M : List UInt8) : bys (L ++ M) = bys L ++ bys M := by simp [bys]
theorem byte_lt (x : UInt8) : (x.toNat : Int) < 256 := by have := x.toNat_lt; omega
theorem byte_nn (x : UInt8) : (0 : Int) ≤ (x.toNat : Int) := by omega
theorem bys_at {w : World} {a : Option Addr} {L : List UInt8} (h : Cells w a (bys L)) (i : Nat) (hi : i < L.length) :
    ∃ b off, a = some ⟨b, off, none⟩ ∧ w.cell? ⟨b, off + i, none⟩ = some (.int .u8 (L[i].toNat : Int)) := by
  rcases h with h | ⟨b, off, e, h⟩
  · rw [bys_nil] at h; subst h; simp at hi
  · refine ⟨b, off, e, ?_⟩
    rw [h i (by rw [bys_length]; exact hi)]
    simp [bys, byV]
theorem bys_inj {L M : List UInt8} (h : bys L = bys M) : L = M := by
  unfold bys at h
  refine List.map_inj_right ?_ |>.1 h
  intro x y e
  simp only [byV, Value.int.injEq, true_and] at e
  exact UInt8.toNat_inj.1 (by omega)

theorem Own.of_row {w : World} {b : Nat} {t : TypeId} {n : Nat} {f : Nat → Value} (h : w.rowIs b t n f) (xs : List Value) (hx : xs.length ≤ n) (hf : ∀ j (hj : j < xs.length), f j = xs[j]) : Own w [(some ⟨b, 0, none⟩, xs)] := by
  refine ⟨?_, ?_, ?_⟩
  · intro s hs
    rw [List.mem_singleton.1 hs]
    refine Or.inr ⟨b, 0, rfl, fun j hj => ?_⟩
    have hj' : j < xs.length := hj
    rw [Nat.zero_add, h.cell (by omega), hf j hj']
  · by_cases h0 : xs = [] <;> simp [fp, fpS, h0]
  · intro g hg
    by_cases h0 : xs = []
    · simp [fp, fpS, h0] at hg
    · simp [fp, fpS, h0] at hg
      subst hg
      exact h.frozen
theorem Born.of_row {W w : World} {b : Nat} {t : TypeId} {n : Nat} {f : Nat → Value} (h : w.rowIs b t n f) (xs : List Value) (hx : xs.length ≤ n) (hf : ∀ j (hj : j < xs.length), f j = xs[j]) (hb : W.heap.size ≤ b) : Born W w [(some ⟨b, 0, none⟩, xs)] :=
  ⟨Own.of_row h xs hx hf, fun g hg => by
    by_cases h0 : xs = []
    · simp [fp, fpS, h0] at hg
    · simp [fp, fpS, h0] at hg
      omega⟩

theorem infoByte : (Try.prog.info? 5).map (fun i => (i.zero, i.size, i.bytes)) = some (some (.int .u8 0), 1, 1) := by kernel_rfl
theorem underBytes : Try.prog.underlying 22 = some (.slice 5) := by kernel_rfl
theorem make_bytes (n : Nat) (hn : n ≤ 1048576) (w : World) : (Instr.makeSlice 22 (.int .i64 (n : Int)) (.int .i64 (n : Int))).run Try.prog w = .ok (.slice (some ⟨w.heap.size, 0, none⟩) n n) (w.alloc (.cells (madeCells #[.int .u8 0] n) 5)) :=
  run_make_row' 22 5 (.int .u8 0) 1 underBytes infoByte rfl .i64 .i64 n (by omega) (by omega) w

/-- The row of a new list of bytes while it is filled. -/
def rowB (L : List UInt8) (k : Nat) : Nat → Value := fun j => if j < k then (bys L).getD j (.int .u8 0) else .int .u8 0
theorem rowB_step (L : List UInt8) (k : Nat) (h : k < L.length) (j : Nat) : (if j = k then (.int .u8 (L[k].toNat : Int) : Value) else rowB L k j) = rowB L (k + 1) j := by
  unfold rowB
  by_cases e : j = k
  · subst e
    rw [if_pos rfl, if_pos (by omega), List.getD_eq_getElem?_getD]
    simp [bys, byV, h]
  · rw [if_neg e]
    by_cases hlt : j < k
    · rw [if_pos hlt, if_pos (by omega)]
    · rw [if_neg hlt, if_neg (by omega)]
theorem rowB_end (L : List UInt8) (j : Nat) (hj : j < (bys L).length) : rowB L L.length j = (bys L)[j] := by
  rw [bys_length] at hj
  unfold rowB
  rw [if_pos hj, List.getD_eq_getElem?_getD, List.getElem?_eq_getElem (by rw [bys_length]; exact hj)]
  rfl

/-- The marks from n on. -/
def marksB (n m : Nat) : List UInt8 := (List.range m).map fun i => UInt8.ofNat (n + i)
theorem marksB_length (n m : Nat) : (marksB n m).length = m := by simp [marksB]
theorem marksB_at (n m i : Nat) (h : i < m) : (marksB n m)[i]? = some (UInt8.ofNat (n + i)) := by simp [marksB, h]
theorem byV_ofNat (k : Nat) : byV (UInt8.ofNat k) = .int .u8 ((k : Int) % 256) := by
  simp [byV]
/-- A list that is written cell by cell: what became of it. -/
theorem Own.wrote {w w' : World} {a : Option Addr} {xs ys : List Value} (h : Own w [(a, xs)]) (hl : ys.length = xs.length) (hc : Cells w' a ys) (hf : ∀ p, w'.frozen? p = w.frozen? p) : Own w' [(a, ys)] := by
  have e : fp [(a, ys)] = fp [(a, xs)] := by rw [fp_one, fp_one]; exact fpS_len hl
  refine ⟨?_, by rw [e]; exact h.nd, ?_⟩
  · intro s hs
    rw [List.mem_singleton.1 hs]; exact hc
  · rw [e]
    intro b hb o
    rw [hf]; exact h.free b hb o

end Go.Proofs.Ytaboogkioehkeaa
