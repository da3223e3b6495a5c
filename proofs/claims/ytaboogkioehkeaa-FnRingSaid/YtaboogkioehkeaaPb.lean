/- How the model looks for an arc of a name. -/
import Derived.Test.YtaboogkioehkeaaPa
namespace Go.Proofs.Ytaboogkioehkeaa
open Go.RowKit Go.Deep
set_option linter.unusedVariables false
set_option linter.unusedSimpArgs false
set_option maxRecDepth 10000

/-- The least so far and whether the name was met, over the first j arcs. -/
def scanL (A : List Arc) (id l0 : Int) : Nat → Int
  | 0 => l0
  | j + 1 => if (A.getD j arc0).nm = id then (if (A.getD j arc0).rs < scanL A id l0 j then (A.getD j arc0).rs else scanL A id l0 j) else scanL A id l0 j
def scanB (A : List Arc) (id : Int) : Nat → Bool
  | 0 => false
  | j + 1 => if (A.getD j arc0).nm = id then true else scanB A id j
theorem scanL_step {A : List Arc} {id l0 : Int} {j : Nat} (hj : j < A.length) : scanL A id l0 (j + 1) = if A[j].nm = id then (if A[j].rs < scanL A id l0 j then A[j].rs else scanL A id l0 j) else scanL A id l0 j := by
  simp [scanL, List.getD_eq_getElem?_getD, hj]
theorem scanB_step {A : List Arc} {id : Int} {j : Nat} (hj : j < A.length) : scanB A id (j + 1) = if A[j].nm = id then true else scanB A id j := by
  simp [scanB, List.getD_eq_getElem?_getD, hj]
theorem scanB_iff {A : List Arc} {id : Int} : ∀ j, j ≤ A.length → (scanB A id j = true ↔ ∃ i, ∃ hi : i < A.length, i < j ∧ A[i].nm = id)
  | 0, _ => ⟨fun h => by simp [scanB] at h, fun ⟨i, _, h, _⟩ => absurd h (by omega)⟩
  | j + 1, hj => by
    rw [scanB_step (by omega)]
    have ih := scanB_iff (A := A) (id := id) j (by omega)
    split
    · next h => exact ⟨fun _ => ⟨j, by omega, by omega, h⟩, fun _ => rfl⟩
    · next h =>
      rw [ih]
      constructor
      · rintro ⟨i, hi, h1, h2⟩; exact ⟨i, hi, by omega, h2⟩
      · rintro ⟨i, hi, h1, h2⟩
        by_cases e : i = j
        · subst e; contradiction
        · exact ⟨i, hi, by omega, h2⟩
theorem scan_none {A : List Arc} {id l0 : Int} : ∀ j, j ≤ A.length → scanB A id j = false → scanL A id l0 j = l0
  | 0, _, _ => rfl
  | j + 1, hj, h => by
    rw [scanB_step (by omega)] at h
    rw [scanL_step (by omega)]
    split at h
    · cases h
    · next hn => rw [if_neg hn]; exact scan_none j (by omega) h
theorem scan_some {A : List Arc} {l0 : Int} (hp : A.Pairwise (fun a b => a.nm < b.nm)) {p : Nat} : ∀ j, j ≤ A.length → scanB A (p : Int) j = true → scanL A (p : Int) l0 j = min l0 (restTo A j p)
  | 0, _, h => by simp [scanB] at h
  | j + 1, hj, h => by
    rw [scanB_step (by omega)] at h
    rw [scanL_step (by omega), restTo_step (by omega)]
    split at h
    · next hn =>
      rw [if_pos hn, if_pos hn]
      have hb : scanB A (p : Int) j = false := by
        cases hc : scanB A (p : Int) j
        · rfl
        · obtain ⟨i, hi, h1, h2⟩ := (scanB_iff j (by omega)).1 hc
          have := List.pairwise_iff_getElem.1 hp i j hi (by omega) h1
          omega
      rw [scan_none j (by omega) hb]
      split <;> omega
    · next hn =>
      rw [if_neg hn, if_neg hn]
      exact scan_some hp j (by omega) h
/-- Was the name there among the first k. -/
def dup (Q : List Int) (id : Int) : Nat → Bool
  | 0 => false
  | k + 1 => if Q.getD k (-1) = id then true else dup Q id k
theorem dup_iff {Q : List Int} {id : Int} : ∀ k, (dup Q id k = true ↔ ∃ i, i < k ∧ Q.getD i (-1) = id)
  | 0 => ⟨fun h => by simp [dup] at h, fun ⟨i, h, _⟩ => absurd h (by omega)⟩
  | k + 1 => by
    have ih := dup_iff (Q := Q) (id := id) k
    unfold dup
    split
    · next h => exact ⟨fun _ => ⟨k, by omega, h⟩, fun _ => rfl⟩
    · next h =>
      rw [ih]
      constructor
      · rintro ⟨i, h1, h2⟩; exact ⟨i, by omega, h2⟩
      · rintro ⟨i, h1, h2⟩
        by_cases e : i = k
        · subst e; contradiction
        · exact ⟨i, by omega, h2⟩
theorem okAt_iff {A : List Arc} {Q : List Int} {i : Nat} : okAt A Q i ↔ (scanB A (Q.getD i (-1)) A.length && !dup Q (Q.getD i (-1)) i) = true := by
  rw [Bool.and_eq_true, Bool.not_eq_true', ← Bool.not_eq_true, dup_iff, scanB_iff _ (Nat.le_refl _)]
  unfold okAt
  constructor
  · rintro ⟨⟨a, ha, e⟩, h⟩
    obtain ⟨j, hj, rfl⟩ := List.getElem_of_mem ha
    exact ⟨⟨j, hj, hj, e⟩, fun ⟨k, hk, ek⟩ => h k hk ek⟩
  · rintro ⟨⟨j, hj, _, e⟩, h⟩
    exact ⟨⟨A[j], List.getElem_mem hj, e⟩, fun k hk ek => h ⟨k, hk, ek⟩⟩
/-- The model's least begins one higher. -/
def lstM (A : List Arc) (Q : List Int) : Nat → Int
  | 0 => 1000000001
  | i + 1 => lst A Q (i + 1)
theorem lstM_step {n : Nat} {E : List Edg} {f : List Int} (h : flowB (n : Int) E f = true) {Q : List Int} {i : Nat} (ho : okAt (arcs E f) Q i) : scanL (arcs E f) (Q.getD i (-1)) (lstM (arcs E f) Q i) (arcs E f).length = lstM (arcs E f) Q (i + 1) := by
  have hle := (flowB_true h).2.1
  have hr := ok_range h ho
  obtain ⟨p, hp⟩ : ∃ p : Nat, Q.getD i (-1) = (p : Int) := ⟨(Q.getD i (-1)).toNat, by omega⟩
  have hb := (okAt_iff.1 ho)
  rw [Bool.and_eq_true] at hb
  rw [hp] at hb ⊢
  have hpw : (arcs E f).Pairwise (fun a b => a.nm < b.nm) := arcs_names (E := E) (f := f) (Nat.le_refl _) (by omega)
  rw [scan_some hpw _ (Nat.le_refl _) hb.1]
  have h2 := (rest_iff h p).2
  show min _ (restV (arcs E f) p) = lst (arcs E f) Q (i + 1)
  unfold lst
  rw [hp, Int.toNat_natCast]
  cases i with
  | zero => simp only [lstM, lst]; omega
  | succ i => rfl
theorem lstM_bound {n : Nat} {E : List Edg} {f : List Int} (h : flowB (n : Int) E f = true) (Q : List Int) (i : Nat) : 0 ≤ lstM (arcs E f) Q i ∧ lstM (arcs E f) Q i ≤ 1000000001 := by
  cases i with
  | zero => simp [lstM]
  | succ i => have := lst_bound h Q (i + 1); simp only [lstM]; omega
end Go.Proofs.Ytaboogkioehkeaa
