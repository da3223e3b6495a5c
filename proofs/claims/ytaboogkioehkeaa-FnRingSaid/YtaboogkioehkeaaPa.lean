/- Pushing along arcs, told of data alone. -/
import Derived.Test.YtaboogkioehkeaaRb
namespace Go.Proofs.Ytaboogkioehkeaa
open Go.RowKit Go.Deep
set_option linter.unusedVariables false
set_option linter.unusedSimpArgs false
set_option maxRecDepth 10000

/-- The rest of the arc of a name, over the first j arcs (0: there is none). -/
def restTo (A : List Arc) : Nat → Nat → Int
  | 0, _ => 0
  | j + 1, id => if (A.getD j arc0).nm = (id : Int) then (A.getD j arc0).rs else restTo A j id
def restV (A : List Arc) (id : Nat) : Int := restTo A A.length id
theorem restTo_step {A : List Arc} {j : Nat} (hj : j < A.length) (id : Nat) : restTo A (j + 1) id = if A[j].nm = (id : Int) then A[j].rs else restTo A j id := by
  simp [restTo, List.getD_eq_getElem?_getD, hj]
theorem restTo_no {A : List Arc} {id : Nat} (h : ∀ a ∈ A, a.nm ≠ (id : Int)) : ∀ j, j ≤ A.length → restTo A j id = 0
  | 0, _ => rfl
  | j + 1, hj => by
    rw [restTo_step (by omega), if_neg (h _ (List.getElem_mem (by omega)))]
    exact restTo_no h j (by omega)
theorem restTo_at {A : List Arc} (hp : A.Pairwise (fun a b => a.nm < b.nm)) {i : Nat} (hi : i < A.length) (h0 : 0 ≤ A[i].nm) : ∀ j, j ≤ A.length → i < j → restTo A j A[i].nm.toNat = A[i].rs
  | 0, _, h => absurd h (by omega)
  | j + 1, hj, hij => by
    rw [restTo_step (by omega)]
    by_cases e : j = i
    · subst e
      rw [if_pos (by omega)]
    · have := List.pairwise_iff_getElem.1 hp i j hi (by omega) (by omega)
      rw [if_neg (by omega)]
      exact restTo_at hp hi h0 j (by omega) (by omega)
/-- Arcs of a right flow: their rests by name. -/
theorem rest_iff {n : Nat} {E : List Edg} {f : List Int} (h : flowB (n : Int) E f = true) (id : Nat) : (restV (arcs E f) id ≠ 0 ↔ ∃ a ∈ arcs E f, a.nm = (id : Int)) ∧ 0 ≤ restV (arcs E f) id ∧ restV (arcs E f) id ≤ 1000000000 := by
  have hle := (flowB_true h).2.1
  by_cases hx : ∃ a ∈ arcs E f, a.nm = (id : Int)
  · obtain ⟨a, ha, e⟩ := hx
    obtain ⟨i, hi, rfl⟩ := List.getElem_of_mem ha
    have hok := arc_ok h (List.getElem_mem hi)
    have hr : restV (arcs E f) id = (arcs E f)[i].rs := by
      have h1 : restTo (arcs E f) (arcs E f).length (arcs E f)[i].nm.toNat = (arcs E f)[i].rs := restTo_at (arcs_names (E := E) (f := f) (Nat.le_refl _) (by omega)) hi hok.2.2.2.2.2.2.2.2.2.1 (arcs E f).length (Nat.le_refl _) hi
      rw [e, Int.toNat_natCast] at h1
      exact h1
    rw [hr]
    exact ⟨⟨fun _ => ⟨_, ha, e⟩, fun _ => by omega⟩, by omega, by omega⟩
  · have hr : restV (arcs E f) id = 0 := restTo_no (fun a ha e => hx ⟨a, ha, e⟩) _ (Nat.le_refl _)
    rw [hr]
    exact ⟨⟨fun h => absurd rfl h, fun h => absurd h hx⟩, by omega, by omega⟩
theorem rest_of {n : Nat} {E : List Edg} {f : List Int} (h : flowB (n : Int) E f = true) {a : Arc} (ha : a ∈ arcs E f) : restV (arcs E f) a.nm.toNat = a.rs := by
  have hle := (flowB_true h).2.1
  obtain ⟨i, hi, rfl⟩ := List.getElem_of_mem ha
  have hok := arc_ok h (List.getElem_mem hi)
  exact restTo_at (arcs_names (E := E) (f := f) (Nat.le_refl _) (by omega)) hi hok.2.2.2.2.2.2.2.2.2.1 (arcs E f).length (Nat.le_refl _) hi
/-- Name i of a ring is an arc's, and new. -/
def okAt (A : List Arc) (R : List Int) (i : Nat) : Prop := (∃ a ∈ A, a.nm = R.getD i (-1)) ∧ ∀ k, k < i → R.getD k (-1) ≠ R.getD i (-1)
def vld (A : List Arc) (R : List Int) (i : Nat) : Prop := ∀ j, j < i → okAt A R j
theorem vld_succ {A : List Arc} {R : List Int} {i : Nat} (h : vld A R i) (h' : okAt A R i) : vld A R (i + 1) := fun j hj => by
  by_cases e : j = i
  · subst e; exact h'
  · exact h j (by omega)
theorem getD_at {R : List Int} {i : Nat} (hi : i < R.length) : R.getD i (-1) = R[i] := by simp [List.getD_eq_getElem?_getD, hi]
/-- The rests that are left when i names are used up. -/
def rstTo (A : List Arc) (R : List Int) : Nat → Nat → Int
  | 0, id => restV A id
  | i + 1, id => if R.getD i (-1) = (id : Int) then 0 else rstTo A R i id
theorem rstTo_eq (A : List Arc) (R : List Int) (id : Nat) : ∀ i, rstTo A R i id = restV A id ∨ (rstTo A R i id = 0 ∧ ∃ k, k < i ∧ R.getD k (-1) = (id : Int))
  | 0 => Or.inl rfl
  | i + 1 => by
    unfold rstTo
    split
    · next h => exact Or.inr ⟨rfl, i, by omega, h⟩
    · rcases rstTo_eq A R id i with h | ⟨h, k, hk, e⟩
      · exact Or.inl h
      · exact Or.inr ⟨h, k, by omega, e⟩
theorem rstTo_used {A : List Arc} {R : List Int} {id k : Nat} : ∀ i, k < i → R.getD k (-1) = (id : Int) → rstTo A R i id = 0
  | 0, h, _ => absurd h (by omega)
  | i + 1, h, e => by
    unfold rstTo
    split
    · rfl
    · by_cases ek : k = i
      · subst ek; contradiction
      · exact rstTo_used i (by omega) e
theorem rst_ok {n : Nat} {E : List Edg} {f : List Int} (h : flowB (n : Int) E f = true) {R : List Int} {i id : Nat} (hid : R.getD i (-1) = (id : Int)) : (rstTo (arcs E f) R i id ≠ 0 ↔ okAt (arcs E f) R i) ∧ (rstTo (arcs E f) R i id ≠ 0 → rstTo (arcs E f) R i id = restV (arcs E f) id) ∧ 0 ≤ rstTo (arcs E f) R i id ∧ rstTo (arcs E f) R i id ≤ 1000000000 := by
  have hr := rest_iff h id
  rcases rstTo_eq (arcs E f) R id i with e | ⟨e, k, hk, ek⟩
  · rw [e]
    refine ⟨⟨fun hne => ?_, fun ho => ?_⟩, fun _ => rfl, hr.2.1, hr.2.2⟩
    · refine ⟨by rw [hid]; exact hr.1.1 hne, fun k hk ek => ?_⟩
      have := rstTo_used (A := arcs E f) i hk (ek.trans hid)
      omega
    · refine hr.1.2 ?_
      have := ho.1
      rw [hid] at this; exact this
  · rw [e]
    refine ⟨⟨fun hne => absurd rfl hne, fun ho => absurd (ek.trans hid.symm) (ho.2 k hk)⟩, fun hne => absurd rfl hne, by omega, by omega⟩
/-- The least rest of the first i names. -/
def lst (A : List Arc) (R : List Int) : Nat → Int
  | 0 => 1000000000
  | i + 1 => min (lst A R i) (restV A (R.getD i (-1)).toNat)
theorem lst_bound {n : Nat} {E : List Edg} {f : List Int} (h : flowB (n : Int) E f = true) (R : List Int) : ∀ i, 0 ≤ lst (arcs E f) R i ∧ lst (arcs E f) R i ≤ 1000000000
  | 0 => by simp [lst]
  | i + 1 => by
    have h1 := lst_bound h R i
    have h2 := (rest_iff h (R.getD i (-1)).toNat).2
    unfold lst
    omega
/-- The numbers when amt is put on the first i arcs. -/
def psh (f : List Int) (R : List Int) (amt : Int) : Nat → List Int
  | 0 => f
  | i + 1 => (psh f R amt i).set (R.getD i (-1) / 2).toNat (if R.getD i (-1) % 2 = 0 then (psh f R amt i).getD (R.getD i (-1) / 2).toNat 0 + amt else (psh f R amt i).getD (R.getD i (-1) / 2).toNat 0 - amt)
theorem psh_len (f R : List Int) (amt : Int) : ∀ i, (psh f R amt i).length = f.length
  | 0 => rfl
  | i + 1 => by unfold psh; rw [List.length_set]; exact psh_len f R amt i
theorem psh_bound {f R : List Int} {amt : Int} (hf : ∀ j (hj : j < f.length), 0 ≤ f[j] ∧ f[j] ≤ 1000000000) (h0 : 0 ≤ amt) (h1 : amt ≤ 1000000000) : ∀ i j (hj : j < (psh f R amt i).length), -(1000000000 * (i : Int)) ≤ (psh f R amt i)[j] ∧ (psh f R amt i)[j] ≤ 1000000000 * ((i : Int) + 1)
  | 0, j, hj => by have := hf j hj; simp [psh]; omega
  | i + 1, j, hj => by
    have hl := psh_len f R amt i
    have hl' := psh_len f R amt (i + 1)
    have ih := psh_bound hf h0 h1 (R := R) i
    simp only [psh, List.getElem_set]
    split
    · next e =>
      have hp : (R.getD i (-1) / 2).toNat < (psh f R amt i).length := by omega
      have hg : (psh f R amt i).getD (R.getD i (-1) / 2).toNat 0 = (psh f R amt i)[(R.getD i (-1) / 2).toNat] := by rw [List.getD_eq_getElem?_getD, List.getElem?_eq_getElem hp]; rfl
      rw [hg]
      have := ih _ hp
      split <;> omega
    · have := ih j (by omega)
      omega
/-- Does the push go, and what comes. -/
def pushP (N : Int) (E : List Edg) (f R : List Int) : Prop := flowB N E f = true ∧ R ≠ [] ∧ vld (arcs E f) R R.length ∧ flowB N E (psh f R (lst (arcs E f) R R.length) R.length) = true
noncomputable def pushOk (N : Int) (E : List Edg) (f R : List Int) : Bool := @decide (pushP N E f R) (Classical.propDecidable _)
noncomputable def pushV (N : Int) (E : List Edg) (f R : List Int) : List Int := if pushOk N E f R = true then psh f R (lst (arcs E f) R R.length) R.length else []
theorem push_no {N : Int} {E : List Edg} {f R : List Int} (h : ¬ pushP N E f R) : pushOk N E f R = false ∧ pushV N E f R = [] := by
  have e : pushOk N E f R = false := by simp only [pushOk, decide_eq_false_iff_not]; exact h
  exact ⟨e, by simp [pushV, e]⟩
theorem push_yes {N : Int} {E : List Edg} {f R : List Int} (h : pushP N E f R) : pushOk N E f R = true ∧ pushV N E f R = psh f R (lst (arcs E f) R R.length) R.length := by
  have e : pushOk N E f R = true := by simp only [pushOk, decide_eq_true_eq]; exact h
  exact ⟨e, by simp [pushV, e]⟩
theorem ok_range {n : Nat} {E : List Edg} {f R : List Int} {i : Nat} (h : flowB (n : Int) E f = true) (ho : okAt (arcs E f) R i) : 0 ≤ R.getD i (-1) ∧ R.getD i (-1) < 2 * (E.length : Int) := by
  obtain ⟨⟨a, ha, e⟩, _⟩ := ho
  have := arc_ok h ha
  omega
end Go.Proofs.Ytaboogkioehkeaa
