/- Lists of numbers in memory; append of numbers. -/
import Derived.Test.YtkdnddckogbgaaaLst0
import Derived.Deep.DrawnRows
namespace Go.Proofs.Ytkdnddckogbgaaa
open Go.RowKit Go.Deep
set_option linter.unusedVariables false
set_option maxRecDepth 10000

def its (K : List Int) : List Value := K.map fun k => .int .i64 k
theorem its_length (K : List Int) : (its K).length = K.length := by simp [its]
theorem its_at {w : World} {a : Option Addr} {K : List Int} (h : Cells w a (its K)) (i : Nat) (hi : i < K.length) : ∃ b off, a = some ⟨b, off, none⟩ ∧ w.cell? ⟨b, off + i, none⟩ = some (.int .i64 K[i]) := by
  rcases h with h | ⟨b, off, e, h⟩
  · have : K = [] := by simpa [its] using h
    subst this; simp at hi
  · refine ⟨b, off, e, ?_⟩
    rw [h i (by rw [its_length]; exact hi)]
    simp [its]
theorem its_nil {K : List Int} : its K = [] ↔ K = [] := by simp [its]
theorem its_append (K M : List Int) : its (K ++ M) = its K ++ its M := by simp [its]
theorem infoInt : (Try.prog.info? 3).map (fun i => (i.zero, i.size, i.bytes)) = some (some (.int .i64 0), 1, 8) := by kernel_rfl
theorem underInts : Try.prog.underlying 31 = some (.slice 3) := by kernel_rfl
theorem make_ints (n : Nat) (hn : n ≤ 1048576) (w : World) : (Instr.makeSlice 31 (.int .i64 (n : Int)) (.int .i64 (n : Int))).run Try.prog w = .ok (.slice (some ⟨w.heap.size, 0, none⟩) n n) (w.alloc (.cells (madeCells #[.int .i64 0] n) 3)) :=
  run_make_row' 31 3 (.int .i64 0) 8 underInts infoInt rfl .i64 .i64 n (by omega) (by omega) w
def rowI (K : List Int) (k : Nat) : Nat → Value := fun j => if j < k then (its K).getD j (.int .i64 0) else .int .i64 0
theorem rowI_step (K : List Int) (k : Nat) (h : k < K.length) (j : Nat) : (if j = k then (.int .i64 K[k] : Value) else rowI K k j) = rowI K (k + 1) j := by
  unfold rowI
  by_cases e : j = k
  · subst e
    rw [if_pos rfl, if_pos (by omega), List.getD_eq_getElem?_getD]
    simp [its, h]
  · rw [if_neg e]
    by_cases hlt : j < k
    · rw [if_pos hlt, if_pos (by omega)]
    · rw [if_neg hlt, if_neg (by omega)]
theorem rowI_end (K : List Int) (j : Nat) (hj : j < (its K).length) : rowI K K.length j = (its K)[j] := by
  rw [its_length] at hj
  unfold rowI
  rw [if_pos hj, List.getD_eq_getElem?_getD, List.getElem?_eq_getElem (by rw [its_length]; exact hj)]
  rfl
abbrev OwnsI (w : World) (base : Nat) (v : Value) (L : List Int) : Prop := w.ownsRow base 3 1 v L.length (its L)
/-- append of a list of numbers to one of the call's own. -/
theorem app_its {ops : Array Oper} {rest : List Oper} {o : Oper} {a : Act} {Q : Exit → Act → World → Prop} {wr : World} (hgd : o.guard = none) (s x : Operand)
    (ho : o.op = .call { callee := .builtin .append, args := #[s, x], argTypes := #[31, 31] }) (base : Nat) (v : Value) (L M : List Int) (hs : a.eval s = v) (p : Addr) (c : Nat)
    (hx : a.eval x = .slice (some p) M.length c) (hM : ∀ j u, (its M)[j]? = some u → wr.cell? (p.add j) = some u) (hown : OwnsI wr base v L) (hl : L.length + M.length ≤ 1048576) (hbase : base ≤ wr.heap.size)
    (h : ∀ v' w', OwnsI w' base v' (L ++ M) → wr.grownBy w' v.ownBlock → (v ≠ .slice none 0 0 → v' ≠ .slice none 0 0) → wpList Try.prog ops Q rest (a.put o.dst v') w') :
    wpList Try.prog ops Q (o :: rest) a wr := by
  have hI := infoInt
  cases hi : Try.prog.info? 3 with
  | none => rw [hi] at hI; simp at hI
  | some i =>
    rw [hi] at hI
    simp at hI
    obtain ⟨hz, hsz, hby⟩ := hI
    refine wpList_append_own _ hgd s x 31 ho base 3 i _ 1 8 underInts hi hz hsz hby rfl (by decide) v L.length (its L) hs hown p M.length c (its M) hx (by simp [its_length]) hM (fun u hu => ?_) ?_ ?_ hbase ?_
    · unfold its at hu
      obtain ⟨k, _, rfl⟩ := List.mem_map.1 hu
      rfl
    · simp only [maxLen]; omega
    · omega
    · intro v' w' h1 h2 h3
      exact h v' w' (by unfold OwnsI; rw [its_append, List.length_append]; exact h1) h2 (fun hn he => hn (h3.1 he).1)
end Go.Proofs.Ytkdnddckogbgaaa
