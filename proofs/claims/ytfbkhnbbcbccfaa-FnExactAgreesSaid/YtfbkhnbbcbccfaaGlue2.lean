/- The list of lines that the laws make out of their argument: toLineS. -/
import Derived.Test.YtfbkhnbbcbccfaaGlue
namespace Go.Proofs.Ytfbkhnbbcbccfaa
open Go.RowKit
set_option linter.unusedVariables false

theorem infoLine : (Try.prog.info? 76).map (fun i => (i.zero, i.size, i.bytes)) = some (some (.agg #[.int .i64 0, .int .i64 0, .int .i64 0]), 3, 24) := by kernel_rfl
theorem underLines : Try.prog.underlying 39 = some (.slice 76) := by kernel_rfl
theorem made_row (w : World) (n : Nat) (t : TypeId) : (w.alloc (.cells (madeCells (Value.agg #[.int .i64 0, .int .i64 0, .int .i64 0]).cells n) t)).rowIs w.heap.size t n (fun _ => .int .i64 0) := by
  have h := World.rowIs_alloc w (madeCells (Value.agg #[.int .i64 0, .int .i64 0, .int .i64 0]).cells n) t (fun _ => .int .i64 0) (by
    intro i hi
    rw [size_madeCells] at hi
    simp only [madeCells, Value.cells, Array.getElem?_map, Array.getElem?_range]
    rw [if_pos hi]
    have h3 : i % 3 < 3 := Nat.mod_lt _ (by decide)
    show some ((#[Value.int .i64 0, .int .i64 0, .int .i64 0] : Array Value)[i % 3]!) = _
    generalize i % 3 = r at *
    match r, h3 with
    | 0, _ => rfl
    | 1, _ => rfl
    | 2, _ => rfl)
  rw [size_madeCells] at h
  exact h
theorem make_lines (n : Nat) (hn : n ≤ 1048576) (w : World) : (Instr.makeSlice 39 (.int .i64 (n : Int)) (.int .i64 (n : Int))).run Try.prog w = .ok (.slice (some ⟨w.heap.size, 0, none⟩) n n) (w.alloc (.cells (madeCells (Value.agg #[.int .i64 0, .int .i64 0, .int .i64 0]).cells (n * 3)) 76)) := by
  have hI := infoLine
  cases hi : Try.prog.info? 76 with
  | none => rw [hi] at hI; simp at hI
  | some i =>
    rw [hi] at hI
    simp at hI
    obtain ⟨hz, hs, hb⟩ := hI
    have h := run_make (P := Try.prog) w 39 76 i _ underLines hi hz .i64 .i64 n n (by omega) (Int.le_refl _) (by rw [hb]; omega) (by omega)
    rw [hs] at h
    simpa using h

/-- The row of the new list while it is filled. -/
def rowF (L : List Ln) (k : Nat) : Nat → Value := fun j => if j < 3 * k then (flat L).getD j (.int .i64 0) else .int .i64 0

theorem rowF_step (L : List Ln) (k : Nat) (h : k < L.length) (j : Nat) : (if j = k * 3 + 2 then (.int .i64 L[k].a : Value) else if j = k * 3 + 1 then (.int .i64 L[k].c : Value) else if j = k * 3 then (.int .i64 L[k].k : Value) else rowF L k j) = rowF L (k + 1) j := by
  obtain ⟨e0, e1, e2⟩ := flat_at L k h
  rw [show 3 * k = k * 3 by omega] at e0 e1 e2
  unfold rowF
  by_cases h2 : j = k * 3 + 2
  · subst h2; rw [if_pos rfl, if_pos (by omega), List.getD_eq_getElem?_getD, e2]; rfl
  · rw [if_neg h2]
    by_cases h1 : j = k * 3 + 1
    · subst h1; simp only [if_true]; rw [if_pos (by omega), List.getD_eq_getElem?_getD, e1]; rfl
    · simp only [if_neg h1]
      by_cases h0 : j = k * 3
      · subst h0; rw [if_pos rfl, if_pos (by omega), List.getD_eq_getElem?_getD, e0]; rfl
      · rw [if_neg h0]
        by_cases hlt : j < 3 * k
        · rw [if_pos hlt, if_pos (by omega)]
        · rw [if_neg hlt, if_neg (by omega)]

theorem rowF_end {L : List Ln} {w : World} {b : Nat} {t : TypeId} (h : w.rowIs b t (L.length * 3) (rowF L L.length)) : Cells w (some ⟨b, 0, none⟩) (flat L) := by
  refine Or.inr ⟨b, 0, rfl, fun j hj => ?_⟩
  have hj' := hj
  rw [flat_length] at hj'
  have h' := h.cell (i := j) (by omega)
  rw [Nat.zero_add, h']
  unfold rowF
  rw [if_pos hj', List.getD_eq_getElem?_getD, List.getElem?_eq_getElem hj]
  rfl

theorem toLineS_k (a : Option Addr) (cap : Nat) (L : List Ln) (w : World) (hc : Cells w a (flat L)) (hl : L.length ≤ 1048576) :
    Calls Try.prog 24 #[.slice a L.length cap] w fun e w' => ∃ b, e = .returned (.slice (some ⟨b, 0, none⟩) L.length L.length) ∧ w.heap.size ≤ b ∧ Cells w' (some ⟨b, 0, none⟩) (flat L) ∧ Keeps w w' := by
  have HC := hide hc
  clear hc
  have hmk := make_lines L.length hl
  have HR := hide ((made_row w (L.length * 3) 76).congr (g := rowF L 0) (fun i _ => by simp [rowF]))
  have hkA : Keeps w (w.alloc (.cells (madeCells (Value.agg #[.int .i64 0, .int .i64 0, .int .i64 0]).cells (L.length * 3)) 76)) := Keeps.alloc (Keeps.refl _) _
  have HKA := hide hkA
  clear hkA
  go_enter Try.func24, Try.ntmps24
  go_wp2_with fail
  clear hmk
  go_loopw [4] (fun y w1 => ∃ k : Nat, k ≤ L.length ∧ y = .int .i64 (k : Int) ∧ w1.rowIs w.heap.size 76 (L.length * 3) (rowF L k) ∧ Keeps w w1) (fun y _ => L.length - (intOf y).toNat)
  case atStart => exact ⟨0, by omega, rfl, HR.out, HKA.out⟩
  case round =>
    obtain ⟨k, hk, rfl, hr, hkw⟩ := hrel
    clear HR HKA
    by_cases hlt : k < L.length
    · obtain ⟨b, off, ea, c0, c1, c2⟩ := cells_at (HC.out.kept hkw) k hlt
      subst ea
      have HQ := hide (fun w1 => toLine_k L[k] w1)
      have HS := hide (rowF_step L k hlt)
      have HRR := hide hr
      have HKW := hide hkw
      clear hr hkw
      generalize L[k] = x at *
      go_wp2_with fail
      refine (unhide HQ _).mono ?_
      rintro e w2 ⟨rfl, hk2⟩
      have r2 := hk2.row HRR.out
      have d0 := r2.cell (i := k * 3) (by omega)
      have d1 := r2.cell (i := k * 3 + 1) (by omega)
      have d2 := r2.cell (i := k * 3 + 2) (by omega)
      have f0 := r2.frozen (k * 3)
      have f1 := r2.frozen (k * 3 + 1)
      have f2 := r2.frozen (k * 3 + 2)
      have HR2 := hide r2
      have HK2 := hide (HKW.out.trans hk2)
      clear r2 hk2
      go_wp2_with fail
      go_roundw
      case rel => exact ⟨k + 1, by omega, by go_num, (((HR2.out.set (k * 3) (.int .i64 x.k)).set (k * 3 + 1) (.int .i64 x.c)).set (k * 3 + 2) (.int .i64 x.a)).congr (fun j _ => HS.out j), Keeps.setCell (Keeps.setCell (Keeps.setCell HK2.out (Nat.le_refl _) _) (Nat.le_refl _) _) (Nat.le_refl _) _⟩
      case measure => simp [intOf]; omega
    · have e : k = L.length := by omega
      subst e
      go_wp2_with fail
      go_ret
      exact ⟨_, rfl, Nat.le_refl _, rowF_end hr, hkw⟩
end Go.Proofs.Ytfbkhnbbcbccfaa
