/- Lists of lines that a call makes by append: the model's l02Add. -/
import Derived.Test.YtfbkhnbbcbccfaaBals
import Derived.OwnWalk
import Derived.Laws.OwnMore
namespace Go.Proofs.Ytfbkhnbbcbccfaa
open Go.RowKit
set_option linter.unusedVariables false

theorem flat_snoc (M : List Ln) (y : Ln) : flat (M ++ [y]) = flat M ++ [.int .i64 y.k, .int .i64 y.c, .int .i64 y.a] := by
  simp [flat, Ln.cells]
theorem app_line {ops : Array Oper} {rest : List Oper} {o : Oper} {a : Act} {Q : Exit → Act → World → Prop} {wr W0 : World} (hgd : o.guard = none) (s x : Operand)
    (ho : o.op = .call { callee := .builtin .append, args := #[s, x], argTypes := #[39, 39] }) (base : Nat) (v : Value) (M : List Ln) (y : Ln) (hs : a.eval s = v)
    (hx : a.eval x = .slice (some ⟨wr.heap.size, 0, none⟩) 1 1) (hown : wr.ownsRow base 76 3 v M.length (flat M)) (hM : M.length ≤ 4194304) (hb0 : W0.heap.size ≤ base) (hbase : base ≤ wr.heap.size) (hk : Keeps W0 wr)
    (h : ∀ v' w', w'.ownsRow base 76 3 v' (M ++ [y]).length (flat (M ++ [y])) → Keeps W0 w' → (∀ p u, wr.cell? p = some u → (∀ k, v.ownBlock = some k → k ≠ p.block) → w'.cell? p = some u) → wpList Try.prog ops Q rest (a.put o.dst v') w') :
    wpList Try.prog ops Q (o :: rest) a (wr.alloc (.cells #[.int .i64 y.k, .int .i64 y.c, .int .i64 y.a] 76)) := by
  have hI := infoLine
  cases hi : Try.prog.info? 76 with
  | none => rw [hi] at hI; simp at hI
  | some i =>
    rw [hi] at hI
    simp at hI
    obtain ⟨hz, hsz, hby⟩ := hI
    refine wpList_append_own _ hgd s x 39 ho base 76 i _ 3 24 underLines hi hz hsz hby rfl (by decide) v M.length (flat M) hs (hown.alloc _) ⟨wr.heap.size, 0, none⟩ 1 1 [.int .i64 y.k, .int .i64 y.c, .int .i64 y.a] hx rfl ?_ ?_ ?_ ?_ ?_ ?_
    · intro j u hj
      match j, hj with
      | 0, hj => simp at hj; subst hj; simp [Addr.add]
      | 1, hj => simp at hj; subst hj; simp [Addr.add]
      | 2, hj => simp at hj; subst hj; simp [Addr.add]
      | n + 3, hj => simp at hj
    · intro u hu
      simp at hu
      rcases hu with rfl | rfl | rfl <;> rfl
    · simp only [maxLen]; omega
    · omega
    · simp; omega
    · intro v' w' h1 h2 h3
      refine h v' w' ?_ ?_ ?_
      · rw [flat_snoc, List.length_append]; exact h1
      · refine Below.grown (Keeps.alloc hk _) h2 ?_ ?_
        · have := hk.size; simp; omega
        · intro k hk'
          have := (hown.lt k hk').1
          omega
      · intro p u hp hne
        refine h2.cell ((Keeps.alloc (Keeps.refl wr) _).cell hp) (fun e => hne p.block e.symm rfl)

theorem Keeps.owns {w w' : World} (hk : Keeps w w') {base n : Nat} {e : TypeId} {sz : Nat} {v : Value} {xs : List Value} (h : w.ownsRow base e sz v n xs) : w'.ownsRow base e sz v n xs := by
  refine ⟨h.1, ?_⟩
  rcases h.2 with h' | ⟨g, cap, cur, rfl, hb, hg, rest⟩
  · exact .inl h'
  · refine .inr ⟨g, cap, cur, rfl, hb, ?_, rest⟩
    rw [Below.block hk g (Array.getElem?_eq_some_iff.1 hg).1]; exact hg
theorem owns_mono {w : World} {base base' n : Nat} {e : TypeId} {sz : Nat} {v : Value} {xs : List Value} (h : w.ownsRow base e sz v n xs) (hb : base' ≤ base) : w.ownsRow base' e sz v n xs := by
  refine ⟨h.1, ?_⟩
  rcases h.2 with h' | ⟨g, cap, cur, rfl, hb', rest⟩
  · exact .inl h'
  · exact .inr ⟨g, cap, cur, rfl, by omega, rest⟩
/-- An own list of lines: where it lies. -/
theorem own_cells {w : World} {base : Nat} {v : Value} {M : List Ln} (h : w.ownsRow base 76 3 v M.length (flat M)) :
    ∃ (a : Option Addr) (cap : Nat), v = .slice a M.length cap ∧ Cells w a (flat M) := by
  rcases h.2 with ⟨rfl, h'⟩ | ⟨g, cap, cur, rfl, hb, hg, hn, _, hsz, ht⟩
  · have : M = [] := List.length_eq_zero_iff.1 h'
    subst this
    exact ⟨none, 0, rfl, Cells.nil _ _⟩
  · refine ⟨_, cap, rfl, Or.inr ⟨g, 0, rfl, fun j hj => ?_⟩⟩
    rw [Nat.zero_add]
    have h1 : w.cell? ⟨g, j, none⟩ = cur[j]? := by simp [World.cell?, hg]
    rw [h1, ← List.getElem?_eq_getElem hj, ← ht, List.getElem?_take]
    rw [flat_length] at hj
    rw [if_pos (by omega)]
    simp

/-- A line added to a list in order; done: it is in already. -/
def addG (x : Ln) : Bool → List Ln → List Ln
  | true, L => L
  | false, [] => [x]
  | false, y :: L => if lessB y.k y.c x.k x.c = true then y :: addG x false L else if y.k = x.k ∧ y.c = x.c then (if y.a + x.a = 0 then L else ⟨y.k, y.c, y.a + x.a⟩ :: L) else x :: y :: L
theorem addG_true (x : Ln) (L : List Ln) : addG x true L = L := by cases L <;> rfl

end Go.Proofs.Ytfbkhnbbcbccfaa
