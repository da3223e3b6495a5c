/- Graphs, flows and their costs, told of data alone. -/
import Derived.Test.YtaboogkioehkeaaGq
import Derived.Test.YtaboogkioehkeaaInt0
import Derived.Deep.Cut
namespace Go.Proofs.Ytaboogkioehkeaa
open Go.RowKit Go.Deep
set_option linter.unusedVariables false
set_option linter.unusedSimpArgs false
set_option maxRecDepth 10000

/-- Is it a right edge? -/
def edgeB (N : Int) (x : Edg) : Bool := decide (0 ≤ x.fr) && decide (x.fr < N) && decide (0 ≤ x.to) && decide (x.to < N) && decide (x.fr ≠ x.to) && decide (0 ≤ x.cp) && decide (x.cp ≤ 1000000000) && decide (-1000000 ≤ x.co) && decide (x.co ≤ 1000000)
theorem edgeB_true {N : Int} {x : Edg} (h : edgeB N x = true) : 0 ≤ x.fr ∧ x.fr < N ∧ 0 ≤ x.to ∧ x.to < N ∧ x.fr ≠ x.to ∧ 0 ≤ x.cp ∧ x.cp ≤ 1000000000 ∧ -1000000 ≤ x.co ∧ x.co ≤ 1000000 := by
  simp [edgeB] at h; omega
theorem edgeB_yes {N : Int} {x : Edg} (h1 : 0 ≤ x.fr) (h2 : x.fr < N) (h3 : 0 ≤ x.to) (h4 : x.to < N) (h5 : x.fr ≠ x.to) (h6 : 0 ≤ x.cp) (h7 : x.cp ≤ 1000000000) (h8 : -1000000 ≤ x.co) (h9 : x.co ≤ 1000000) : edgeB N x = true := by
  simp [edgeB]; omega
theorem edgeB_no {N : Int} {x : Edg} (h : x.fr < 0 ∨ N ≤ x.fr ∨ x.to < 0 ∨ N ≤ x.to ∨ x.fr = x.to ∨ x.cp < 0 ∨ 1000000000 < x.cp ∨ x.co < -1000000 ∨ 1000000 < x.co) : edgeB N x = false := by
  cases hb : edgeB N x
  · rfl
  · have := edgeB_true hb; omega
def graphB (N : Int) (E : List Edg) : Bool := decide (1 ≤ N) && decide (N ≤ 24) && decide (E.length ≤ 60) && E.all (edgeB N)
theorem graphB_true {N : Int} {E : List Edg} (h : graphB N E = true) : 1 ≤ N ∧ N ≤ 24 ∧ E.length ≤ 60 ∧ ∀ j (hj : j < E.length), edgeB N E[j] = true := by
  simp only [graphB, Bool.and_eq_true, decide_eq_true_eq, List.all_eq_true] at h
  exact ⟨h.1.1.1, h.1.1.2, h.1.2, fun j hj => h.2 _ (List.getElem_mem hj)⟩
theorem graphB_yes {N : Int} {E : List Edg} (h1 : 1 ≤ N) (h2 : N ≤ 24) (h3 : E.length ≤ 60) (h4 : ∀ j (hj : j < E.length), edgeB N E[j] = true) : graphB N E = true := by
  simp only [graphB, Bool.and_eq_true, decide_eq_true_eq, List.all_eq_true]
  refine ⟨⟨⟨h1, h2⟩, h3⟩, fun x hx => ?_⟩
  obtain ⟨j, hj, rfl⟩ := List.getElem_of_mem hx
  exact h4 j hj
theorem graphB_no {N : Int} {E : List Edg} (h : N < 1 ∨ 24 < N ∨ 60 < E.length ∨ ∃ j, ∃ hj : j < E.length, edgeB N E[j] = false) : graphB N E = false := by
  cases hb : graphB N E
  · rfl
  · obtain ⟨a, b, c, d⟩ := graphB_true hb
    rcases h with h | h | h | ⟨j, hj, h⟩
    · omega
    · omega
    · omega
    · rw [d j hj] at h; cases h
theorem graph_cases (N : Int) (E : List Edg) : (N < 1 ∧ graphB N E = false) ∨ (1 ≤ N ∧ 24 < N ∧ graphB N E = false) ∨ (1 ≤ N ∧ N ≤ 24 ∧ 60 < E.length ∧ graphB N E = false) ∨ (1 ≤ N ∧ N ≤ 24 ∧ E.length ≤ 60) := by
  rcases Int.lt_or_le N 1 with h1 | h1
  · exact Or.inl ⟨h1, graphB_no (Or.inl h1)⟩
  rcases Int.lt_or_le 24 N with h2 | h2
  · exact Or.inr (Or.inl ⟨h1, h2, graphB_no (Or.inr (Or.inl h2))⟩)
  rcases Nat.lt_or_ge 60 E.length with h3 | h3
  · exact Or.inr (Or.inr (Or.inl ⟨h1, h2, h3, graphB_no (Or.inr (Or.inr (Or.inl h3)))⟩))
  · exact Or.inr (Or.inr (Or.inr ⟨h1, h2, h3⟩))

/-- What comes into node v less what goes out of it, over the first k edges. -/
def bal (E : List Edg) (f : List Int) : Nat → Nat → Int
  | 0, _ => 0
  | k + 1, v => bal E f k v - (if (E.getD k ⟨0, 0, 0, 0⟩).fr = (v : Int) then f.getD k 0 else 0) + (if (E.getD k ⟨0, 0, 0, 0⟩).to = (v : Int) then f.getD k 0 else 0)
theorem bal_step {E : List Edg} {f : List Int} {k : Nat} (hk : k < E.length) (hf : k < f.length) (v : Nat) : bal E f (k + 1) v = bal E f k v - (if E[k].fr = (v : Int) then f[k] else 0) + (if E[k].to = (v : Int) then f[k] else 0) := by
  simp [bal, List.getD_eq_getElem?_getD, hk, hf]
/-- Each number is within its edge. -/
def inCap (E : List Edg) (f : List Int) : Prop := ∀ j (hj : j < E.length) (hf : j < f.length), 0 ≤ f[j] ∧ f[j] ≤ E[j].cp
noncomputable def flowB (N : Int) (E : List Edg) (f : List Int) : Bool := graphB N E && decide (f.length = E.length) && (@decide (inCap E f ∧ ∀ v : Nat, (v : Int) < N → bal E f E.length v = 0) (Classical.propDecidable _))
theorem flowB_true {N : Int} {E : List Edg} {f : List Int} (h : flowB N E f = true) : graphB N E = true ∧ f.length = E.length ∧ inCap E f ∧ ∀ v : Nat, (v : Int) < N → bal E f E.length v = 0 := by
  simp only [flowB, Bool.and_eq_true, decide_eq_true_eq] at h
  exact ⟨h.1.1, h.1.2, h.2.1, h.2.2⟩
theorem flowB_yes {N : Int} {E : List Edg} {f : List Int} (h1 : graphB N E = true) (h2 : f.length = E.length) (h3 : inCap E f) (h4 : ∀ v : Nat, (v : Int) < N → bal E f E.length v = 0) : flowB N E f = true := by
  simp only [flowB, Bool.and_eq_true, decide_eq_true_eq]
  exact ⟨⟨h1, h2⟩, h3, h4⟩
theorem flowB_no {N : Int} {E : List Edg} {f : List Int} (h : graphB N E = false ∨ f.length ≠ E.length ∨ ¬ inCap E f ∨ ∃ v : Nat, (v : Int) < N ∧ bal E f E.length v ≠ 0) : flowB N E f = false := by
  cases hb : flowB N E f
  · rfl
  · obtain ⟨a, b, c, d⟩ := flowB_true hb
    rcases h with h | h | h | ⟨v, hv, h⟩
    · rw [a] at h; cases h
    · exact absurd b h
    · exact absurd c h
    · exact absurd (d v hv) h
theorem bal_bound {E : List Edg} {f : List Int} {B : Int} (hB : 0 ≤ B) (k : Nat) (hf : ∀ j (hj : j < f.length), j < k → 0 ≤ f[j] ∧ f[j] ≤ B) (v : Nat) : -(B * k) ≤ bal E f k v ∧ bal E f k v ≤ B * k := by
  induction k with
  | zero => simp [bal]
  | succ k ih =>
    have ih' := ih (fun j hj h => hf j hj (by omega))
    have hx : 0 ≤ f.getD k 0 ∧ f.getD k 0 ≤ B := by
      rw [List.getD_eq_getElem?_getD]
      by_cases h : k < f.length
      · rw [List.getElem?_eq_getElem h]; exact hf k h (by omega)
      · rw [List.getElem?_eq_none (by omega)]; simp; exact hB
    have e : B * ((k + 1 : Nat) : Int) = B * k + B := by rw [Int.natCast_add, Int.mul_add]; simp
    rw [e, bal]
    generalize f.getD k 0 = x at *
    split <;> split <;> omega
/-- The cost over the first k edges. -/
def costTo (E : List Edg) (f : List Int) : Nat → Int
  | 0 => 0
  | k + 1 => costTo E f k + (E.getD k ⟨0, 0, 0, 0⟩).co * f.getD k 0
theorem costTo_step {E : List Edg} {f : List Int} {k : Nat} (hk : k < E.length) (hf : k < f.length) : costTo E f (k + 1) = costTo E f k + E[k].co * f[k] := by
  simp [costTo, List.getD_eq_getElem?_getD, hk, hf]
theorem mul_bound {c y : Int} (h1 : -1000000 ≤ c) (h2 : c ≤ 1000000) (h3 : 0 ≤ y) (h4 : y ≤ 1000000000) : -1000000000000000 ≤ c * y ∧ c * y ≤ 1000000000000000 := by
  have a := Int.mul_le_mul_of_nonneg_right h1 h3
  have b := Int.mul_le_mul_of_nonneg_right h2 h3
  omega
theorem cost_bound {E : List Edg} {f : List Int} {k : Nat} (h : ∀ j (hj : j < E.length) (hf : j < f.length), j < k → -1000000 ≤ E[j].co ∧ E[j].co ≤ 1000000 ∧ 0 ≤ f[j] ∧ f[j] ≤ 1000000000) (hE : k ≤ E.length) (hF : k ≤ f.length) : -(1000000000000000 * (k : Int)) ≤ costTo E f k ∧ costTo E f k ≤ 1000000000000000 * (k : Int) := by
  induction k with
  | zero => simp [costTo]
  | succ k ih =>
    have ih' := ih (fun j hj hf hlt => h j hj hf (by omega)) (by omega) (by omega)
    obtain ⟨a1, a2, a3, a4⟩ := h k (by omega) (by omega) (by omega)
    have b := mul_bound a1 a2 a3 a4
    rw [costTo_step (by omega) (by omega)]
    omega
noncomputable def costV (N : Int) (E : List Edg) (f : List Int) : Int := if flowB N E f = true then costTo E f E.length else 0
end Go.Proofs.Ytaboogkioehkeaa
