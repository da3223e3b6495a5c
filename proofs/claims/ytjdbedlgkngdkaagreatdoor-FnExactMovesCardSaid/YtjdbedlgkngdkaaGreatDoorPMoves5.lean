/- Texts of the verifier, joined: Rb, Rc, Sa, FgS. -/
import Derived.Test.YtjdbedlgkngdkaaGreatDoorPMoves4
import Derived.Deep.Cut
import Derived.BigRegion
import Derived.Deep.RegionHeld3
import Derived.Deep.AppendLies
namespace Go.Proofs.YtjdbedlgkngdkaaGreatDoor
open Go.RowKit Go.Deep
set_option linter.unusedVariables false
set_option linter.unusedSimpArgs false
set_option maxRecDepth 10000

/-- The last arc of a node. -/
def pa (A : List Arc) (S : Srch) (v : Nat) : Arc := A.getD (S.k v) arc0
/-- Right arcs. -/
def ArcsOk (N : Nat) (A : List Arc) : Prop := A.length ≤ 120 ∧ ∀ a ∈ A, 0 ≤ a.fr ∧ a.fr < (N : Int) ∧ 0 ≤ a.to ∧ a.to < (N : Int) ∧ a.fr ≠ a.to ∧ -1000000 ≤ a.co ∧ a.co ≤ 1000000
structure SInv (A : List Arc) (n j : Nat) (S : Srch) : Prop where
  set : ∀ v, S.s v = true → S.k v < A.length ∧ (pa A S v).to.toNat = v ∧ 1 ≤ S.r v ∧ S.r v ≤ S.r (pa A S v).fr.toNat + 1 ∧ ((S.t (pa A S v).fr.toNat < S.t v ∧ S.d v = S.d (pa A S v).fr.toNat + (pa A S v).co) ∨ S.d (pa A S v).fr.toNat + (pa A S v).co < S.d v)
  tim : ∀ v, S.t v ≤ n * 1000 + j
  rnd : ∀ v, S.r v ≤ n ∧ (1 ≤ S.r v → S.s v = true)
  arc : ∀ i (hi : i < A.length), S.d A[i].to.toNat ≤ S.d A[i].fr.toNat + A[i].co ∨ (if i < j then n else n - 1) ≤ S.r A[i].fr.toNat
  bnd : ∀ v, S.d v ≤ 0 ∧ -(1000000 * (((n - 1) * 120 + j : Nat) : Int)) ≤ S.d v
  non : S.e = -1 → ∀ i (hi : i < A.length), i < j → S.d A[i].to.toNat ≤ S.d A[i].fr.toNat + A[i].co
  fin : S.e ≠ -1 → 0 ≤ S.e ∧ S.s S.e.toNat = true ∧ S.r S.e.toNat = n ∧ ∃ a ∈ A, a.to = S.e
theorem pa_at {A : List Arc} {S : Srch} {v : Nat} (h : S.k v < A.length) : pa A S v = A[S.k v] := by simp [pa, List.getD_eq_getElem?_getD, h]
theorem pa_mem {A : List Arc} {S : Srch} {v : Nat} (h : S.k v < A.length) : pa A S v ∈ A := by rw [pa_at h]; exact List.getElem_mem h
theorem relax_no {n j : Nat} {a : Arc} {S : Srch} (h : ¬ S.d a.fr.toNat + a.co < S.d a.to.toNat) : relax n j a S = S := by simp only [relax, if_neg h]
theorem relax_yes {n j : Nat} {a : Arc} {S : Srch} (h : S.d a.fr.toNat + a.co < S.d a.to.toNat) : relax n j a S = ⟨upd S.d a.to.toNat (S.d a.fr.toNat + a.co), upd S.k a.to.toNat j, upd S.s a.to.toNat true, upd S.r a.to.toNat n, upd S.t a.to.toNat (n * 1000 + j + 1), a.to⟩ := by simp only [relax, if_pos h]
theorem SInv.step {N : Nat} {A : List Arc} {n j : Nat} {S : Srch} (hA : ArcsOk N A) (hn : 1 ≤ n) (h : SInv A n j S) (hj : j < A.length) : SInv A n (j + 1) (relax n j A[j] S) := by
  have hmem := hA.2 A[j] (List.getElem_mem hj)
  obtain ⟨a0, -, a2, -, a4, a5, a6⟩ := hmem
  by_cases hc : S.d A[j].fr.toNat + A[j].co < S.d A[j].to.toNat
  · rw [relax_yes hc]
    have hrj : n - 1 ≤ S.r A[j].fr.toNat := by
      rcases h.arc j hj with h1 | h1
      · omega
      · simpa using h1
    generalize hu : A[j].fr.toNat = u at *
    generalize hv : A[j].to.toNat = v at *
    have huv : u ≠ v := by omega
    have hdu := h.bnd u
    have htu := h.tim u
    have htj := h.rnd u
    refine ⟨?_, ?_, ?_, ?_, ?_, ?_, ?_⟩
    · intro x hx
      by_cases ex : x = v
      · subst ex
        have hk : (pa A ⟨upd S.d x (S.d u + A[j].co), upd S.k x j, upd S.s x true, upd S.r x n, upd S.t x (n * 1000 + j + 1), A[j].to⟩ x) = A[j] := by
          simp [pa, upd_same, List.getD_eq_getElem?_getD, hj]
        rw [hk]
        simp only [upd_same, hu, hv, upd_other _ huv]
        refine ⟨hj, trivial, hn, by omega, Or.inl ⟨by omega, trivial⟩⟩
      · have hx' : S.s x = true := by simpa [upd_other _ ex] using hx
        obtain ⟨q1, q2, q3, q4, q5⟩ := h.set x hx'
        have hk : (pa A ⟨upd S.d v (S.d u + A[j].co), upd S.k v j, upd S.s v true, upd S.r v n, upd S.t v (n * 1000 + j + 1), A[j].to⟩ x) = pa A S x := by
          simp [pa, upd_other _ ex]
        rw [hk]
        simp only [upd_other _ ex]
        by_cases ey : (pa A S x).fr.toNat = v
        · rw [ey] at q4 q5 ⊢
          simp only [upd_same]
          have hrv := (h.rnd x).1
          refine ⟨q1, q2, q3, by omega, Or.inr ?_⟩
          rcases q5 with ⟨_, q⟩ | q <;> omega
        · simp only [upd_other _ ey]
          exact ⟨q1, q2, q3, q4, q5⟩
    · intro x
      by_cases ex : x = v
      · subst ex; simp only [upd_same]; omega
      · simp only [upd_other _ ex]; have := h.tim x; omega
    · intro x
      by_cases ex : x = v
      · subst ex; simp only [upd_same]; exact ⟨Nat.le_refl _, fun _ => trivial⟩
      · simp only [upd_other _ ex]; exact h.rnd x
    · intro i hi
      have hio := hA.2 A[i] (List.getElem_mem hi)
      by_cases ef : A[i].fr.toNat = v
      · right
        rw [ef]; simp only [upd_same]; split <;> omega
      · simp only [upd_other _ ef]
        by_cases ei : i = j
        · subst ei
          left
          rw [hv, hu]
          simp only [upd_same]
          omega
        · by_cases et : A[i].to.toNat = v
          · rw [et]
            simp only [upd_same]
            rcases h.arc i hi with h1 | h1
            · left; rw [et] at h1; omega
            · right
              by_cases hlt : i < j
              · rw [if_pos hlt] at h1; rw [if_pos (by omega)]; exact h1
              · rw [if_neg hlt] at h1; rw [if_neg (by omega)]; exact h1
          · simp only [upd_other _ et]
            rcases h.arc i hi with h1 | h1
            · exact Or.inl h1
            · right
              by_cases hlt : i < j
              · rw [if_pos hlt] at h1; rw [if_pos (by omega)]; exact h1
              · rw [if_neg hlt] at h1; rw [if_neg (by omega)]; exact h1
    · intro x
      by_cases ex : x = v
      · subst ex; simp only [upd_same]
        have := h.bnd x
        omega
      · simp only [upd_other _ ex]; have := h.bnd x; omega
    · intro he
      dsimp only at he
      omega
    · intro _
      dsimp only
      rw [hv]
      simp only [upd_same]
      exact ⟨a2, trivial, trivial, A[j], List.getElem_mem hj, rfl⟩
  · rw [relax_no hc]
    refine ⟨h.set, fun v => by have := h.tim v; omega, h.rnd, ?_, fun v => by have := h.bnd v; omega, ?_, h.fin⟩
    · intro i hi
      by_cases ei : i = j
      · subst ei; left; omega
      · rcases h.arc i hi with h1 | h1
        · exact Or.inl h1
        · right
          by_cases hlt : i < j
          · rw [if_pos hlt] at h1; rw [if_pos (by omega)]; exact h1
          · rw [if_neg hlt] at h1; rw [if_neg (by omega)]; exact h1
    · intro he i hi hlt
      by_cases ei : i = j
      · subst ei; omega
      · exact h.non he i hi (by omega)
theorem SInv.next {N : Nat} {A : List Arc} {n : Nat} {S : Srch} (hA : ArcsOk N A) (hn : 1 ≤ n) (h : SInv A n A.length S) : SInv A (n + 1) 0 { S with e := -1 } := by
  have h120 := hA.1
  refine ⟨h.set, fun v => by have := h.tim v; dsimp only; omega, fun v => by have := h.rnd v; exact ⟨by dsimp only; omega, this.2⟩, ?_, ?_, fun _ i hi hlt => absurd hlt (by omega), fun h => absurd rfl h⟩
  · intro i hi
    rcases h.arc i hi with h1 | h1
    · exact Or.inl h1
    · right
      rw [if_pos hi] at h1
      simpa using h1
  · intro v
    have := h.bnd v
    dsimp only
    have e : (n + 1 - 1) * 120 + 0 = (n - 1) * 120 + 120 := by omega
    rw [e]
    omega
theorem SInv.first (A : List Arc) : SInv A 1 0 { turns A 0 with e := -1 } := by
  refine ⟨fun v hv => absurd hv (by simp [turns]), fun v => by simp [turns], fun v => ⟨by simp [turns], fun h => absurd h (by simp [turns])⟩, fun i hi => Or.inr (by simp), fun v => by simp [turns], fun _ i hi hlt => absurd hlt (by omega), fun h => absurd rfl h⟩
theorem SInv.upto {N : Nat} {A : List Arc} {n : Nat} {S : Srch} (hA : ArcsOk N A) (hn : 1 ≤ n) (h : SInv A n 0 { S with e := -1 }) : ∀ j, j ≤ A.length → SInv A n j (turnTo A n S j)
  | 0, _ => h
  | j + 1, hj => by
    rw [turnTo_step (by omega)]
    exact (SInv.upto hA hn h j (by omega)).step hA hn (by omega)
theorem turns_inv0 {N : Nat} {A : List Arc} (hA : ArcsOk N A) : ∀ n, SInv A (n + 1) 0 { turns A n with e := -1 }
  | 0 => SInv.first A
  | n + 1 => ((turns_inv0 hA n).upto hA (by omega) A.length (Nat.le_refl _)).next hA (by omega)
/-- What holds in the midst of a time. -/
theorem turns_mid {N : Nat} {A : List Arc} (hA : ArcsOk N A) (n j : Nat) (hj : j ≤ A.length) : SInv A (n + 1) j (turnTo A (n + 1) (turns A n) j) := (turns_inv0 hA n).upto hA (by omega) j hj
theorem turns_inv {N : Nat} {A : List Arc} (hA : ArcsOk N A) (n : Nat) : SInv A (n + 1) A.length (turns A (n + 1)) := turns_mid hA n A.length (Nat.le_refl _)

/-- Where no arc shortens anything, nothing turns. -/
theorem turnTo_still {A : List Arc} {S : Srch} (h : ∀ i (hi : i < A.length), S.d A[i].to.toNat ≤ S.d A[i].fr.toNat + A[i].co) (n : Nat) : ∀ j, j ≤ A.length → turnTo A n S j = { S with e := -1 }
  | 0, _ => rfl
  | j + 1, hj => by
    rw [turnTo_step (by omega), turnTo_still h n j (by omega)]
    exact relax_no (by have := h j (by omega); dsimp only; omega)
theorem turns_still {N : Nat} {A : List Arc} (hA : ArcsOk N A) {n : Nat} (h : (turns A (n + 1)).e = -1) : ∀ m, (turns A (n + 1 + m)).e = -1 ∧ (turns A (n + 1 + m)).d = (turns A (n + 1)).d
  | 0 => ⟨h, rfl⟩
  | m + 1 => by
    have h0 := (turns_inv hA n).non h
    obtain ⟨h1, h2⟩ := turns_still hA h m
    have h3 : ∀ i (hi : i < A.length), (turns A (n + 1 + m)).d A[i].to.toNat ≤ (turns A (n + 1 + m)).d A[i].fr.toNat + A[i].co := by
      rw [h2]; exact fun i hi => h0 i hi hi
    have e : turns A (n + 1 + (m + 1)) = turnTo A (n + 1 + m + 1) (turns A (n + 1 + m)) A.length := rfl
    rw [e, turnTo_still h3 _ _ (Nat.le_refl _)]
    exact ⟨rfl, h2⟩

/-- i steps back from a node. -/
def bk (A : List Arc) (S : Srch) : Nat → Nat → Nat
  | 0, v => v
  | i + 1, v => (pa A S (bk A S i v)).fr.toNat
theorem bk_add (A : List Arc) (S : Srch) (i : Nat) (v : Nat) : ∀ j, bk A S (i + j) v = bk A S j (bk A S i v)
  | 0 => rfl
  | j + 1 => by
    show (pa A S (bk A S (i + j) v)).fr.toNat = (pa A S (bk A S j (bk A S i v))).fr.toNat
    rw [bk_add A S i v j]
theorem pigeon : ∀ (N : Nat) (g : Nat → Nat), (∀ i, i ≤ N → g i < N) → ∃ i j, i < j ∧ j ≤ N ∧ g i = g j
  | 0, g, h => absurd (h 0 (Nat.le_refl _)) (by omega)
  | N + 1, g, h => by
    by_cases hx : ∃ i, i ≤ N ∧ g i = g (N + 1)
    · obtain ⟨i, hi, e⟩ := hx
      exact ⟨i, N + 1, by omega, Nat.le_refl _, e⟩
    · have hx' : ∀ i, i ≤ N → g i ≠ g (N + 1) := fun i hi e => hx ⟨i, hi, e⟩
      obtain ⟨i, j, hij, hj, e⟩ := pigeon N (fun i => if g i < g (N + 1) then g i else g i - 1) (fun i hi => by
        have h1 := h i (by omega)
        have h2 := h (N + 1) (Nat.le_refl _)
        have h3 := hx' i hi
        split <;> omega)
      refine ⟨i, j, hij, by omega, ?_⟩
      have h3 := hx' i (by omega)
      have h4 := hx' j hj
      split at e <;> split at e <;> omega
theorem least {P : Nat → Prop} (h : ∃ m, P m) : ∃ m, P m ∧ ∀ q, q < m → ¬ P q := by
  obtain ⟨m, hm⟩ := h
  induction m using Nat.strongRecOn with
  | ind m ih =>
    by_cases hx : ∃ q, q < m ∧ P q
    · obtain ⟨q, hq, hp⟩ := hx
      exact ih q hq hp
    · exact ⟨m, hm, fun q hq hp => hx ⟨q, hq, hp⟩⟩
/-- A node on a ring of last arcs: the least number of steps that lead back. -/
structure OnRing (N : Nat) (A : List Arc) (S : Srch) (b m : Nat) : Prop where
  pos : 1 ≤ m
  le : m ≤ N
  back : bk A S m b = b
  first : ∀ q, 1 ≤ q → q < m → bk A S q b ≠ b
  set : ∀ q, S.s (bk A S q b) = true
  lt : ∀ q, bk A S q b < N
theorem on_ring {N : Nat} {A : List Arc} {S : Srch} (hA : ArcsOk N A) (hN : 1 ≤ N) (h : SInv A N A.length S) (he : S.e ≠ -1) : (∀ i, i < N → S.s (bk A S i S.e.toNat) = true) ∧ (∀ i, i ≤ N → bk A S i S.e.toNat < N) ∧ ∃ m, OnRing N A S (bk A S N S.e.toNat) m := by
  obtain ⟨e0, e1, e2, a, ha, e3⟩ := h.fin he
  have hr : ∀ i, i ≤ N → N ≤ S.r (bk A S i S.e.toNat) + i := by
    intro i
    induction i with
    | zero => intro _; show N ≤ S.r S.e.toNat + 0; omega
    | succ i ih =>
      intro hi
      have h1 := ih (by omega)
      have hs := (h.rnd (bk A S i S.e.toNat)).2 (by omega)
      have h2 := (h.set _ hs).2.2.2.1
      show N ≤ S.r (pa A S (bk A S i S.e.toNat)).fr.toNat + (i + 1)
      omega
  have hset : ∀ i, i < N → S.s (bk A S i S.e.toNat) = true := fun i hi => (h.rnd _).2 (by have := hr i (by omega); omega)
  have hlt : ∀ i, i ≤ N → bk A S i S.e.toNat < N := by
    intro i hi
    cases i with
    | zero => have := hA.2 a ha; show S.e.toNat < N; omega
    | succ i =>
      have hk := (h.set _ (hset i (by omega))).1
      have := hA.2 _ (pa_mem hk)
      show (pa A S (bk A S i S.e.toNat)).fr.toNat < N
      omega
  refine ⟨hset, hlt, ?_⟩
  obtain ⟨i, j, hij, hj, hb⟩ := pigeon N (fun i => bk A S i S.e.toNat) hlt
  have hper : ∀ m, i ≤ m → bk A S (m + (j - i)) S.e.toNat = bk A S m S.e.toNat := by
    intro m hm
    have e1 : m + (j - i) = j + (m - i) := by omega
    have e2 : m = i + (m - i) := by omega
    rw [e1, bk_add, ← hb, ← bk_add, ← e2]
  have hall : ∀ m, i ≤ m → ∃ q, q < N ∧ bk A S m S.e.toNat = bk A S q S.e.toNat := by
    intro m
    induction m using Nat.strongRecOn with
    | ind m ih =>
      intro hm
      by_cases hlt' : m < j
      · exact ⟨m, by omega, rfl⟩
      · obtain ⟨q, hq, e⟩ := ih (m - (j - i)) (by omega) (by omega)
        refine ⟨q, hq, ?_⟩
        rw [← e, ← hper (m - (j - i)) (by omega)]
        congr 1
        omega
  have hbq : ∀ q, bk A S q (bk A S N S.e.toNat) = bk A S (N + q) S.e.toNat := fun q => (bk_add A S N _ q).symm
  obtain ⟨m, ⟨hm1, hm2⟩, hm3⟩ := least (P := fun m => 1 ≤ m ∧ bk A S m (bk A S N S.e.toNat) = bk A S N S.e.toNat) ⟨j - i, by omega, by rw [hbq]; exact hper N (by omega)⟩
  have hmle : m ≤ j - i := by
    rcases Nat.lt_or_ge (j - i) m with h' | h'
    · exact absurd ⟨by omega, by rw [hbq]; exact hper N (by omega)⟩ (hm3 (j - i) h')
    · exact h'
  refine ⟨m, hm1, by omega, hm2, fun q h1 h2 h3 => hm3 q h2 ⟨h1, h3⟩, fun q => ?_, fun q => ?_⟩
  · rw [hbq]
    obtain ⟨x, hx, e⟩ := hall (N + q) (by omega)
    rw [e]; exact hset x hx
  · rw [hbq]
    obtain ⟨x, hx, e⟩ := hall (N + q) (by omega)
    rw [e]; exact hlt x (by omega)
theorem OnRing.uniq {N : Nat} {A : List Arc} {S : Srch} {b m m' : Nat} (h : OnRing N A S b m) (h' : OnRing N A S b m') : m = m' := by
  rcases Nat.lt_trichotomy m m' with hl | hl | hl
  · exact absurd h.back (h'.first m h.pos hl)
  · exact hl
  · exact absurd h'.back (h.first m' h'.pos hl)
/-- The names of m arcs, from a node back. -/
def ringL (A : List Arc) (S : Srch) (b m : Nat) : List Int := (List.range m).map fun q => (pa A S (bk A S q b)).nm
theorem ringL_len (A : List Arc) (S : Srch) (b m : Nat) : (ringL A S b m).length = m := by simp [ringL]
theorem ringL_succ (A : List Arc) (S : Srch) (b m : Nat) : ringL A S b (m + 1) = ringL A S b m ++ [(pa A S (bk A S m b)).nm] := by simp [ringL, List.range_succ]
/-- Is there a ring, and which. -/
noncomputable def ringOk (N : Int) (E : List Edg) (f : List Int) : Bool := flowB N E f && decide ((turns (arcs E f) N.toNat).e ≠ -1)
noncomputable def per (N : Nat) (A : List Arc) (S : Srch) (b : Nat) : Nat := @dite _ (∃ m, OnRing N A S b m) (Classical.propDecidable _) (fun h => h.choose) (fun _ => 0)
theorem per_eq {N : Nat} {A : List Arc} {S : Srch} {b m : Nat} (h : OnRing N A S b m) : per N A S b = m := by
  unfold per
  rw [dif_pos ⟨m, h⟩]
  exact ((⟨m, h⟩ : ∃ m, OnRing N A S b m).choose_spec).uniq h
noncomputable def ringV (N : Int) (E : List Edg) (f : List Int) : List Int :=
  if ringOk N E f = true then
    ringL (arcs E f) (turns (arcs E f) N.toNat) (bk (arcs E f) (turns (arcs E f) N.toNat) N.toNat (turns (arcs E f) N.toNat).e.toNat) (per N.toNat (arcs E f) (turns (arcs E f) N.toNat) (bk (arcs E f) (turns (arcs E f) N.toNat) N.toNat (turns (arcs E f) N.toNat).e.toNat))
  else []
theorem arcs_ok {n : Nat} {E : List Edg} {f : List Int} (h : flowB (n : Int) E f = true) : ArcsOk n (arcs E f) := by
  obtain ⟨hg, hl, _, _⟩ := flowB_true h
  obtain ⟨_, _, g3, _⟩ := graphB_true hg
  refine ⟨?_, fun a ha => ?_⟩
  · have := arcsTo_len E f E.length
    unfold arcs; omega
  · have := arc_ok h ha
    omega
theorem arcs_pre (E : List Edg) (f : List Int) {k : Nat} (hk : k ≤ E.length) : ∃ R, arcs E f = arcsTo E f k ++ R := by
  have h : ∀ m, k ≤ m → ∃ R, arcsTo E f m = arcsTo E f k ++ R := by
    intro m
    induction m with
    | zero => intro h; exact ⟨[], by rw [show k = 0 by omega]; simp⟩
    | succ m ih =>
      intro h
      by_cases e : k = m + 1
      · exact ⟨[], by rw [e]; simp⟩
      · obtain ⟨R, hR⟩ := ih (by omega)
        exact ⟨R ++ arcA m (E.getD m ⟨0, 0, 0, 0⟩) (f.getD m 0) ++ arcZ m (E.getD m ⟨0, 0, 0, 0⟩) (f.getD m 0), by simp only [arcsTo]; rw [hR]; simp⟩
  exact h E.length hk
theorem at_pre {L R : List Arc} {a : Arc} {A : List Arc} (h : A = L ++ [a] ++ R) : ∃ hj : L.length < A.length, A[L.length] = a := by
  subst h
  exact ⟨by simp, by simp⟩
theorem arcs_a {E : List Edg} {f : List Int} {k : Nat} (hk : k < E.length) (hf : k < f.length) (h : f[k] < E[k].cp) : ∃ hj : (arcsTo E f k).length < (arcs E f).length, (arcs E f)[(arcsTo E f k).length] = ⟨2 * (k : Int), E[k].fr, E[k].to, E[k].cp - f[k], E[k].co⟩ := by
  obtain ⟨R, hR⟩ := arcs_pre E f (k := k + 1) (by omega)
  rw [arcsTo_step hk hf] at hR
  refine at_pre (R := arcZ k E[k] f[k] ++ R) ?_
  rw [hR]
  simp [arcA, h]
theorem arcs_z {E : List Edg} {f : List Int} {k : Nat} (hk : k < E.length) (hf : k < f.length) (h : 0 < f[k]) : ∃ hj : (arcsTo E f k ++ arcA k E[k] f[k]).length < (arcs E f).length, (arcs E f)[(arcsTo E f k ++ arcA k E[k] f[k]).length] = ⟨2 * (k : Int) + 1, E[k].to, E[k].fr, f[k], -E[k].co⟩ := by
  obtain ⟨R, hR⟩ := arcs_pre E f (k := k + 1) (by omega)
  rw [arcsTo_step hk hf] at hR
  refine at_pre (R := R) ?_
  rw [hR]
  simp [arcZ, h]
end Go.Proofs.YtjdbedlgkngdkaaGreatDoor
namespace Go.Proofs.YtjdbedlgkngdkaaGreatDoor
open Go.RowKit Go.Deep
set_option linter.unusedVariables false
set_option linter.unusedSimpArgs false
set_option maxRecDepth 10000

def Arc.cells (x : Arc) : List Value := [.int .i64 x.nm, .int .i64 x.fr, .int .i64 x.to, .int .i64 x.rs, .int .i64 x.co]
def Arc.v (x : Arc) : Value := .agg #[.int .i64 x.nm, .int .i64 x.fr, .int .i64 x.to, .int .i64 x.rs, .int .i64 x.co]
def Arc.cell (x : Arc) (r : Nat) : Value := if r = 0 then .int .i64 x.nm else if r = 1 then .int .i64 x.fr else if r = 2 then .int .i64 x.to else if r = 3 then .int .i64 x.rs else .int .i64 x.co
/-- The row of last arcs. -/
def laV (A : List Arc) (S : Srch) (i : Nat) : Value := if S.s (i / 5) = true then (pa A S (i / 5)).cell (i % 5) else .int .i64 0
structure WkR (w : World) (wb D La n : Nat) (A : List Arc) (S : Srch) : Prop where
  c0 : w.cell? ⟨wb, 0, none⟩ = some (.slice (some ⟨D, 0, none⟩) n n)
  c1 : w.cell? ⟨wb, 1, none⟩ = some (.slice (some ⟨La, 0, none⟩) n n)
  rd : w.rowIs D 3 n (fun v => .int .i64 (S.d v))
  rl : w.rowIs La 147 (n * 5) (laV A S)
  n1 : wb ≠ D
  n2 : wb ≠ La
  n3 : D ≠ La
theorem WkR.kept {w w' : World} {wb D La n : Nat} {A : List Arc} {S : Srch} (h : WkR w wb D La n A S) (hk : Keeps w w') : WkR w' wb D La n A S :=
  ⟨hk.cell h.c0, hk.cell h.c1, hk.rowK h.rd, hk.rowK h.rl, h.n1, h.n2, h.n3⟩
theorem laV_upd {A : List Arc} {S : Srch} {j v : Nat} (hj : j < A.length) (d : Nat → Int) (r t : Nat → Nat) (e : Int) (i : Nat) :
    laV A ⟨d, upd S.k v j, upd S.s v true, r, t, e⟩ i = if i / 5 = v then A[j].cell (i % 5) else laV A S i := by
  unfold laV
  by_cases h : i / 5 = v
  · rw [if_pos h, h]
    simp [upd_same, pa, List.getD_eq_getElem?_getD, hj]
  · rw [if_neg h]
    simp [upd_other _ h, pa]
theorem arc_box (w : World) (a : Arc) (t : TypeId) : (w.alloc (.cells #[.int .i64 a.nm, .int .i64 a.fr, .int .i64 a.to, .int .i64 a.rs, .int .i64 a.co] t)).cell? ⟨w.heap.size, 0, none⟩ = some (.int .i64 a.nm) ∧ (w.alloc (.cells #[.int .i64 a.nm, .int .i64 a.fr, .int .i64 a.to, .int .i64 a.rs, .int .i64 a.co] t)).cell? ⟨w.heap.size, 1, none⟩ = some (.int .i64 a.fr) ∧ (w.alloc (.cells #[.int .i64 a.nm, .int .i64 a.fr, .int .i64 a.to, .int .i64 a.rs, .int .i64 a.co] t)).cell? ⟨w.heap.size, 2, none⟩ = some (.int .i64 a.to) ∧ (w.alloc (.cells #[.int .i64 a.nm, .int .i64 a.fr, .int .i64 a.to, .int .i64 a.rs, .int .i64 a.co] t)).cell? ⟨w.heap.size, 3, none⟩ = some (.int .i64 a.rs) ∧ (w.alloc (.cells #[.int .i64 a.nm, .int .i64 a.fr, .int .i64 a.to, .int .i64 a.rs, .int .i64 a.co] t)).cell? ⟨w.heap.size, 4, none⟩ = some (.int .i64 a.co) := by
  simp
set_option maxHeartbeats 4000000 in
theorem shortens_k (wb D La n : Nat) (A : List Arc) (S : Srch) (a : Arc) (w : World) (h : WkR w wb D La n A S) (h0 : 0 ≤ a.fr) (h1 : a.fr < (n : Int)) (h2 : 0 ≤ a.to) (h3 : a.to < (n : Int)) (hn : n ≤ 24)
    (hb : ∀ v, S.d v ≤ 0 ∧ -4000000000 ≤ S.d v) (hc : -1000000 ≤ a.co ∧ a.co ≤ 1000000) :
    Calls Tryz.prog 94 #[.pointer (some ⟨wb, 0, none⟩), a.v] w fun e w' => e = .returned (.bool (decide (S.d a.fr.toNat + a.co < S.d a.to.toNat))) ∧ Keeps w w' := by
  have HB := hide (arc_box w a 147)
  have HK := hide (Keeps.alloc (Keeps.refl w) (.cells #[.int .i64 a.nm, .int .i64 a.fr, .int .i64 a.to, .int .i64 a.rs, .int .i64 a.co] 147))
  obtain ⟨rb, hrb⟩ : ∃ rb : Bool, rb = decide (S.d a.fr.toNat + a.co < S.d a.to.toNat) := ⟨_, rfl⟩
  rw [← hrb]
  have hrb : rb = true ↔ S.d a.fr.toNat + a.co < S.d a.to.toNat := by rw [hrb, decide_eq_true_eq]
  obtain ⟨nm, fr, to, rs, co⟩ := a
  dsimp only [Arc.v] at *
  obtain ⟨u, rfl⟩ : ∃ u : Nat, fr = (u : Int) := ⟨fr.toNat, by omega⟩
  obtain ⟨v, rfl⟩ : ∃ v : Nat, to = (v : Int) := ⟨to.toNat, by omega⟩
  simp only [Int.toNat_natCast] at hrb
  have hu := hb u
  have hv := hb v
  have q0 := HK.out.cell h.c0
  have r0 := HK.out.cell (h.rd.cell (i := u) (by omega))
  have r1 := HK.out.cell (h.rd.cell (i := v) (by omega))
  have hul : u < n := by omega
  have hvl : v < n := by omega
  generalize S.d u = du at *
  generalize S.d v = dv at *
  have w0 : IntKind.i64.wrap (du + co) = du + co := by rw [IntKind.wrap_i64]; omega
  have HRB := hide hrb
  clear h hb hc hu hv hrb
  go_enter Tryz.func94, Tryz.ntmps94
  go_upto_region 1 with fail
  obtain ⟨v0, v1, v2, v3, v4⟩ := HB.out
  generalize w.alloc (.cells #[.int .i64 nm, .int .i64 (u : Int), .int .i64 (v : Int), .int .i64 rs, .int .i64 co] 147) = W1 at *
  go_quiet (fail)
  go_wp2_with fail
  go_ret
  exact ⟨ret_b (Bool.eq_iff_iff.2 (by rw [decide_eq_true_eq]; exact HRB.out.symm)), HK.out.drewN _⟩
set_option maxHeartbeats 4000000 in
theorem take_k (wb D La n : Nat) (A : List Arc) (S : Srch) (j q : Nat) (hj : j < A.length) (w : World) (h : WkR w wb D La n A S) (h0 : 0 ≤ A[j].fr) (h1 : A[j].fr < (n : Int)) (h2 : 0 ≤ A[j].to) (h3 : A[j].to < (n : Int)) (hn : n ≤ 24)
    (hb : ∀ v, S.d v ≤ 0 ∧ -4000000000 ≤ S.d v) (hc : -1000000 ≤ A[j].co ∧ A[j].co ≤ 1000000) (hlt : S.d A[j].fr.toNat + A[j].co < S.d A[j].to.toNat) :
    Calls Tryz.prog 95 #[.pointer (some ⟨wb, 0, none⟩), A[j].v] w fun e w' => e = .returned (.tuple #[]) ∧ WkR w' wb D La n A (relax q j A[j] S) ∧ Turn [D, La] w w' := by
  have HB := hide (arc_box w A[j] 147)
  have HK := hide (Keeps.alloc (Keeps.refl w) (.cells #[.int .i64 A[j].nm, .int .i64 A[j].fr, .int .i64 A[j].to, .int .i64 A[j].rs, .int .i64 A[j].co] 147))
  have HLA := hide (fun i => laV_upd (S := S) (v := A[j].to.toNat) hj (upd S.d A[j].to.toNat (S.d A[j].fr.toNat + A[j].co)) (upd S.r A[j].to.toNat q) (upd S.t A[j].to.toNat (q * 1000 + j + 1)) A[j].to i)
  rw [relax_yes hlt]
  clear hlt
  have HG : Hid (∀ x : Arc, x = A[j] → x = A[j]) := fun _ h => h
  generalize A[j] = a at *
  obtain ⟨nm, fr, to, rs, co⟩ := a
  dsimp only [Arc.v] at *
  obtain ⟨u, rfl⟩ : ∃ u : Nat, fr = (u : Int) := ⟨fr.toNat, by omega⟩
  obtain ⟨v, rfl⟩ : ∃ v : Nat, to = (v : Int) := ⟨to.toNat, by omega⟩
  simp only [Int.toNat_natCast] at HLA ⊢
  have hu := hb u
  have hul : u < n := by omega
  have hvl : v < n := by omega
  have n1 := h.n1
  have n2 := h.n2
  have n3 := h.n3
  have hDl := h.rd.lt
  have hLl := h.rl.lt
  have HW := hide (h.kept HK.out)
  have w0 : IntKind.i64.wrap (S.d u + co) = S.d u + co := by rw [IntKind.wrap_i64]; omega
  have HSZ : Hid (w.heap.size ≠ D ∧ w.heap.size ≠ La) := ⟨by omega, by omega⟩
  clear h hb hc hu
  go_enter Tryz.func95, Tryz.ntmps95
  go_upto_region 1 with fail
  obtain ⟨v0, v1, v2, v3, v4⟩ := HB.out
  obtain ⟨s1, s2⟩ := HSZ.out
  have HT := hide (Turn.of_keeps HK.out [D, La])
  generalize w.alloc (.cells #[.int .i64 nm, .int .i64 (u : Int), .int .i64 (v : Int), .int .i64 rs, .int .i64 co] 147) = W1 at *
  have q0 := HW.out.c0
  have r0 := HW.out.rd.cell (i := u) hul
  have r1 := HW.out.rd.cell (i := v) hvl
  have f1 := HW.out.rd.frozen v
  clear HB
  go_big_region
  have ht2 : Turn [D, La] W1 (W1.setCell ⟨D, v, none⟩ (.int .i64 (S.d u + co))).drew := (Turn.set (by simp) _).trans' (Turn.of_keeps ((Keeps.refl _).drew) _)
  have HRD := hide ((((Keeps.refl _).drew).rowK (HW.out.rd.set v (.int .i64 (S.d u + co)))).congr (g := fun x => .int .i64 (upd S.d v (S.d u + co) x)) (fun i _ => by
    by_cases e : i = v
    · subst e; simp [upd_same]
    · simp [e, upd_other _ e]))
  have HRL := hide (((Keeps.refl _).drew).rowK (HW.out.rl.setOther (a := ⟨D, v, none⟩) (Ne.symm n3) (.int .i64 (S.d u + co))))
  replace v0 := ht2.cell (by simp; omega) v0
  replace v1 := ht2.cell (by simp; omega) v1
  replace v2 := ht2.cell (by simp; omega) v2
  replace v3 := ht2.cell (by simp; omega) v3
  replace v4 := ht2.cell (by simp; omega) v4
  replace q0 := ht2.cell (by simp; omega) q0
  have q1 := ht2.cell (by simp; omega) HW.out.c1
  replace HT := hide (HT.out.trans' ht2)
  clear r0 r1 f1 HW ht2
  generalize (W1.setCell ⟨D, v, none⟩ (.int .i64 (S.d u + co))).drew = W2 at *
  go_upto_region 2 with fail
  have l0 := HRL.out.cell (i := v * 5) (by omega)
  have l1 := HRL.out.cell (i := v * 5 + 1) (by omega)
  have l2 := HRL.out.cell (i := v * 5 + 2) (by omega)
  have l3 := HRL.out.cell (i := v * 5 + 3) (by omega)
  have l4 := HRL.out.cell (i := v * 5 + 4) (by omega)
  have g0 := HRL.out.frozen (v * 5)
  have g1 := HRL.out.frozen (v * 5 + 1)
  have g2 := HRL.out.frozen (v * 5 + 2)
  have g3 := HRL.out.frozen (v * 5 + 3)
  have g4 := HRL.out.frozen (v * 5 + 4)
  go_big_region
  have hr := (((((HRL.out.set (v * 5) (.int .i64 nm)).set (v * 5 + 1) (.int .i64 (u : Int))).set (v * 5 + 2) (.int .i64 (v : Int))).set (v * 5 + 3) (.int .i64 rs)).set (v * 5 + 4) (.int .i64 co))
  have ht3 : Turn [La] W2 (((((W2.setCell ⟨La, v * 5, none⟩ (.int .i64 nm)).setCell ⟨La, v * 5 + 1, none⟩ (.int .i64 (u : Int))).setCell ⟨La, v * 5 + 2, none⟩ (.int .i64 (v : Int))).setCell ⟨La, v * 5 + 3, none⟩ (.int .i64 rs)).setCell ⟨La, v * 5 + 4, none⟩ (.int .i64 co)).drew := (((((Turn.set (by simp) _).trans' (Turn.set (by simp) _)).trans' (Turn.set (by simp) _)).trans' (Turn.set (by simp) _)).trans' (Turn.set (by simp) _)).trans' (Turn.of_keeps ((Keeps.refl _).drew) _)
  have HR3 := hide ((((Keeps.refl _).drew).rowK hr).congr (g := laV A ⟨upd S.d v (S.d u + co), upd S.k v j, upd S.s v true, upd S.r v q, upd S.t v (q * 1000 + j + 1), (v : Int)⟩) (fun i hi => by
    rw [HLA.out i]
    by_cases e4 : i = v * 5 + 4
    · subst e4; rw [if_pos rfl, if_pos (by omega), show (v * 5 + 4) % 5 = 4 by omega]; rfl
    rw [if_neg e4]
    by_cases e3 : i = v * 5 + 3
    · subst e3; rw [if_pos rfl, if_pos (by omega), show (v * 5 + 3) % 5 = 3 by omega]; rfl
    rw [if_neg e3]
    by_cases e2 : i = v * 5 + 2
    · subst e2; rw [if_pos rfl, if_pos (by omega), show (v * 5 + 2) % 5 = 2 by omega]; rfl
    rw [if_neg e2]
    by_cases e1 : i = v * 5 + 1
    · subst e1; rw [if_pos rfl, if_pos (by omega), show (v * 5 + 1) % 5 = 1 by omega]; rfl
    rw [if_neg e1]
    by_cases e0 : i = v * 5
    · subst e0; rw [if_pos rfl, if_pos (by omega), show (v * 5) % 5 = 0 by omega]; rfl
    rw [if_neg e0, if_neg (by omega)]))
  have HD3 := hide (HRD.out.of_block (ht3.block D HRD.out.lt (by simp; omega)))
  replace q0 := ht3.cell (by simp; omega) q0
  replace q1 := ht3.cell (by simp; omega) q1
  replace HT := hide (HT.out.trans' (ht3.mono (by simp)))
  have HQ : Hid (WkR (((((W2.setCell ⟨La, v * 5, none⟩ (.int .i64 nm)).setCell ⟨La, v * 5 + 1, none⟩ (.int .i64 (u : Int))).setCell ⟨La, v * 5 + 2, none⟩ (.int .i64 (v : Int))).setCell ⟨La, v * 5 + 3, none⟩ (.int .i64 rs)).setCell ⟨La, v * 5 + 4, none⟩ (.int .i64 co)).drew wb D La n A ⟨upd S.d v (S.d u + co), upd S.k v j, upd S.s v true, upd S.r v q, upd S.t v (q * 1000 + j + 1), (v : Int)⟩) := ⟨q0, q1, HD3.out, HR3.out, n1, n2, n3⟩
  clear ht3 hr l0 l1 l2 l3 l4 g0 g1 g2 g3 g4 q0 q1 v0 v1 v2 v3 v4
  generalize (((((W2.setCell ⟨La, v * 5, none⟩ (.int .i64 nm)).setCell ⟨La, v * 5 + 1, none⟩ (.int .i64 (u : Int))).setCell ⟨La, v * 5 + 2, none⟩ (.int .i64 (v : Int))).setCell ⟨La, v * 5 + 3, none⟩ (.int .i64 rs)).setCell ⟨La, v * 5 + 4, none⟩ (.int .i64 co)).drew = W3 at *
  go_wp2_with fail
  go_end0
  exact ⟨rfl, HQ.out, HT.out⟩
end Go.Proofs.YtjdbedlgkngdkaaGreatDoor
namespace Go.Proofs.YtjdbedlgkngdkaaGreatDoor
open Go.RowKit Go.Deep
set_option linter.unusedVariables false
set_option linter.unusedSimpArgs false
set_option maxRecDepth 10000

def ars (xs : List Arc) : List Value := xs.flatMap Arc.cells
theorem ars_len (xs : List Arc) : (ars xs).length = xs.length * 5 := flatMap_len (f := Arc.cells) (sz := 5) (fun _ => rfl) xs
theorem ars_append (xs ys : List Arc) : ars (xs ++ ys) = ars xs ++ ars ys := by simp [ars]
theorem ars_at {w : World} {a : Option Addr} {xs : List Arc} (h : Cells w a (ars xs)) (k : Nat) (hk : k < xs.length) :
    ∃ b off, a = some ⟨b, off, none⟩ ∧ w.cell? ⟨b, off + k * 5, none⟩ = some (.int .i64 xs[k].nm) ∧ w.cell? ⟨b, off + k * 5 + 1, none⟩ = some (.int .i64 xs[k].fr) ∧ w.cell? ⟨b, off + k * 5 + 2, none⟩ = some (.int .i64 xs[k].to) ∧ w.cell? ⟨b, off + k * 5 + 3, none⟩ = some (.int .i64 xs[k].rs) ∧ w.cell? ⟨b, off + k * 5 + 4, none⟩ = some (.int .i64 xs[k].co) := by
  obtain ⟨b, off, e, h⟩ := elem_at (f := Arc.cells) (sz := 5) (fun _ => rfl) h k hk (by decide)
  exact ⟨b, off, e, h 0 (by simp [Arc.cells]), h 1 (by simp [Arc.cells]), h 2 (by simp [Arc.cells]), h 3 (by simp [Arc.cells]), h 4 (by simp [Arc.cells])⟩
abbrev OwnsA (w : World) (base : Nat) (v : Value) (L : List Arc) : Prop := w.ownsRow base 156 5 v L.length (ars L)
theorem infoArcS : (Tryz.prog.info? 156).map (fun i => (i.zero, i.size, i.bytes)) = some (some (.agg #[.int .i64 0, .int .i64 0, .int .i64 0, .int .i64 0, .int .i64 0]), 5, 40) := by kernel_rfl
theorem underArcsS : Tryz.prog.underlying 153 = some (.slice 156) := by kernel_rfl
theorem ownsA_kept {w w' : World} {base : Nat} {v : Value} {L : List Arc} (h : OwnsA w base v L) (hk : Keeps w w') : OwnsA w' base v L := by
  refine ⟨h.1, ?_⟩
  rcases h.2 with h2 | ⟨g, cap, cur, e, h3, h4, h5⟩
  · exact .inl h2
  · exact .inr ⟨g, cap, cur, e, h3, by rw [Below.block hk g (h.lt g (by rw [e]; rfl)).2]; exact h4, h5⟩
theorem born_ars {W w : World} {base g cap : Nat} {L : List Arc} (h : OwnsA w base (.slice (some ⟨g, 0, none⟩) L.length cap) L) (hb : W.heap.size ≤ base) : Born W w [(some ⟨g, 0, none⟩, ars L)] := by
  refine ⟨⟨?_, ?_, ?_⟩, ?_⟩
  · intro s hs
    rw [List.mem_singleton.1 hs]
    refine Or.inr ⟨g, 0, rfl, fun j hj => ?_⟩
    have hj' : j < (ars L).length := hj
    have hl := ars_len L
    rw [Nat.zero_add, h.cellAt j (by omega), List.getElem?_eq_getElem hj']
  · by_cases h0 : ars L = [] <;> simp [fp, fpS, h0]
  · intro b hb'
    by_cases h0 : ars L = []
    · simp [fp, fpS, h0] at hb'
    · simp [fp, fpS, h0] at hb'
      subst hb'
      exact fun o => h.frozenAt o
  · intro b hb'
    by_cases h0 : ars L = []
    · simp [fp, fpS, h0] at hb'
    · simp [fp, fpS, h0] at hb'
      subst hb'
      have := (h.lt b rfl).1
      omega
theorem step_arc {w W : World} {ops : Array Oper} {o : Oper} {a : Act} {K : Act → World → Prop} {Q : Exit → Act → World → Prop} {E' : Prop} (hgd : o.guard = none) (s x : Operand)
    (ho : o.op = .call { callee := .builtin .append, args := #[s, x], argTypes := #[153, 153] }) (base g cap : Nat) (L : List Arc) (y : Arc) (hs : a.eval s = .slice (some ⟨g, 0, none⟩) L.length cap) (hx : a.eval x = .slice (some ⟨W.heap.size, 0, none⟩) 1 1)
    (hW : w = (W.alloc (.cells #[.int .i64 y.nm, .int .i64 y.fr, .int .i64 y.to, .int .i64 y.rs, .int .i64 y.co] 156)).drew) (hown : OwnsA W base (.slice (some ⟨g, 0, none⟩) L.length cap) L) (hl : L.length ≤ 1000) (hbase : base ≤ W.heap.size)
    (h : ∀ g' cap' w', OwnsA w' base (.slice (some ⟨g', 0, none⟩) (L.length + 1) cap') (L ++ [y]) → Turn [g] W w' → (g' = g ∨ W.heap.size ≤ g') → K (a.put o.dst (.slice (some ⟨g', 0, none⟩) (L.length + 1) cap')) w') :
    if Region.wanted o (yielded ops a.tmps) = true then Oper.wp Tryz.prog o a w K Q else E' := by
  have hI := infoArcS
  have hk : Keeps W w := by rw [hW]; exact ((Keeps.alloc (Keeps.refl W) _).drew)
  have hsz : w.heap.size = W.heap.size + 1 := by rw [hW]; simp
  have hc : ∀ j u, (ars [y])[j]? = some u → w.cell? ((⟨W.heap.size, 0, none⟩ : Addr).add j) = some u := by
    intro j u hj
    rw [addr_at, Nat.zero_add]
    have hj5 : j < 5 := by
      rcases Nat.lt_or_ge j 5 with h' | h'
      · exact h'
      · rw [List.getElem?_eq_none (by rw [ars_len]; simpa using h')] at hj; cases hj
    rw [hW]
    rcases (show j = 0 ∨ j = 1 ∨ j = 2 ∨ j = 3 ∨ j = 4 by omega) with rfl | rfl | rfl | rfl | rfl <;> (simp [ars, Arc.cells] at hj; subst hj; simp)
  cases hi : Tryz.prog.info? 156 with
  | none => rw [hi] at hI; simp at hI
  | some i =>
    rw [hi] at hI
    simp at hI
    obtain ⟨hz, hsz', hby⟩ := hI
    refine step_append_lies w hgd s x 153 ho base 156 i _ 5 40 underArcsS hi hz hsz' hby rfl (by decide) _ L.length (ars L) hs (ownsA_kept hown hk) ⟨W.heap.size, 0, none⟩ 1 1 (ars [y]) hx (by rw [ars_len]; rfl) hc (fun u hu => ?_) (by decide) ?_ ?_ (by omega) _ rfl ?_
    · simp [ars, Arc.cells] at hu
      rcases hu with rfl | rfl | rfl | rfl | rfl <;> rfl
    · simp only [maxLen]; omega
    · omega
    · intro g' cap' w' h1 h2 h3 h4
      refine h g' cap' w' ?_ ((Turn.of_keeps hk _).trans' (Turn.of_grown h2 (fun k hk => by cases hk; simp))) (by
        rcases h3 with h3 | h3
        · left; cases h3; rfl
        · right; omega)
      unfold OwnsA
      rw [ars_append, List.length_append]
      exact h1
set_option maxHeartbeats 8000000 in
theorem arcs_spec (G : Gf) (n : Nat) (fa : Option Addr) (fc : Nat) (f : List Int) (w : World) (hnn : G.nn = (n : Int)) (hflow : flowB (n : Int) G.E f = true) (hm : Mem w G.segs) (hf : Cells w fa (its f)) :
    Calls Tryz.prog 100 #[G.v, .slice fa G.E.length fc] w fun e w' => ∃ g cap, e = .returned (.slice (some ⟨g, 0, none⟩) (arcs G.E f).length cap) ∧ Born w w' [(some ⟨g, 0, none⟩, ars (arcs G.E f))] ∧ Keeps w w' := by
  obtain ⟨nn, ea, ec, E⟩ := G
  dsimp only [Gf.v, Gf.segs] at *
  subst hnn
  have HM := hide hm
  have HF := hide hf
  have HKB := hide (Keeps.alloc (Keeps.refl w) (.cells #[.int .i64 (n : Int), .slice ea E.length ec] 36))
  obtain ⟨hg, hle, hcap, hbal⟩ := flowB_true hflow
  obtain ⟨g1, g2, g3, g4⟩ := graphB_true hg
  have HL := hide hle
  have HG4 := hide g4
  have HCP := hide hcap
  clear hm hf hg hcap hbal g4 hflow hle
  have HS0 : Hid ((w.alloc (.cells #[.int .i64 (n : Int), .slice ea E.length ec] 36)).heap.size = w.heap.size + 1) := by show _ = _; simp
  have HO0 : Hid (OwnsA ((w.alloc (.cells #[.int .i64 (n : Int), .slice ea E.length ec] 36)).alloc (.cells #[] 156)) (w.heap.size + 1) (.slice (some ⟨w.heap.size + 1, 0, none⟩) 0 0) []) := by
    have h := World.ownsRow_made (base := w.heap.size + 1) (e := 156) (size := 5) (w.alloc (.cells #[.int .i64 (n : Int), .slice ea E.length ec] 36)) #[] 0 (by simp) (by decide) (by simp)
    rw [HS0.out] at h
    exact h
  have HK0 := hide (HKB.out.alloc (.cells #[] 156))
  have q1 : ((w.alloc (.cells #[.int .i64 (n : Int), .slice ea E.length ec] 36)).alloc (.cells #[] 156)).cell? ⟨w.heap.size, 1, none⟩ = some (.slice ea E.length ec) := by simp
  go_enter Tryz.func100, Tryz.ntmps100
  go_wp2_with fail
  clear q1
  generalize (w.alloc (.cells #[.int .i64 (n : Int), .slice ea E.length ec] 36)).alloc (.cells #[] 156) = W0 at *
  go_loopw [5, 12] (fun v y wr => ∃ k g cap, k ≤ E.length ∧ v = .slice (some ⟨g, 0, none⟩) (arcsTo E f k).length cap ∧ y = .int .i64 (k : Int) ∧ Hid (OwnsA wr (w.heap.size + 1) (.slice (some ⟨g, 0, none⟩) (arcsTo E f k).length cap) (arcsTo E f k)) ∧ Hid (Keeps w wr)) (fun _ y _ => E.length - (intOf y).toNat)
  case atStart => exact ⟨0, _, _, by omega, rfl, rfl, HO0.out, HK0.out⟩
  case round =>
    obtain ⟨k, g, cap, hk, rfl, rfl, HO, HK⟩ := hrel
    clear HO0 HK0
    by_cases hlt : k < E.length
    · have hkf : k < f.length := by rw [HL.out]; exact hlt
      obtain ⟨eb0, eoff, ea', c0, c1, c2, c3⟩ := egs_at ((HM.out.kept HK.out) (ea, egs E) (by simp)) k hlt
      obtain ⟨fb, foff, fa', y0⟩ := its_at HF.out k hkf
      have hfl := lt_of_cell y0
      replace y0 := HK.out.cell y0
      have he := edgeB_true (HG4.out k hlt)
      have hcy := HCP.out k hlt hkf
      have HAS : Hid (arcsTo E f (k + 1) = arcsTo E f k ++ (if f[k] < E[k].cp then [(⟨2 * (k : Int), E[k].fr, E[k].to, E[k].cp - f[k], E[k].co⟩ : Arc)] else []) ++ (if 0 < f[k] then [(⟨2 * (k : Int) + 1, E[k].to, E[k].fr, f[k], -E[k].co⟩ : Arc)] else [])) := by
        show _ = _; rw [arcsTo_step hlt hkf]; rfl
      generalize E[k] = x at *
      generalize f[k] = y at *
      obtain ⟨xfr, xto, xcp, xco⟩ := x
      dsimp only at c0 c1 c2 c3 he hcy HAS
      have HX := hide ea'
      obtain rfl := fa'
      clear ea'
      obtain rfl := HX.out
      obtain ⟨-, -, -, -, -, e5, e6, e7, e8⟩ := he
      have w0 : IntKind.i64.wrap (2 * (k : Int)) = 2 * (k : Int) := by rw [IntKind.wrap_i64]; omega
      have w1 : IntKind.i64.wrap (2 * (k : Int) + 1) = 2 * (k : Int) + 1 := by rw [IntKind.wrap_i64]; omega
      have w2 : IntKind.i64.wrap (xcp - y) = xcp - y := by rw [IntKind.wrap_i64]; omega
      have w3 : IntKind.i64.wrap (-xco) = -xco := by rw [IntKind.wrap_i64]; omega
      go_upto_region 5 with fail
      have HKA := hide (Keeps.alloc (Keeps.refl wr) (.cells #[.int .i64 xfr, .int .i64 xto, .int .i64 xcp, .int .i64 xco] 40))
      have v0 : (wr.alloc (.cells #[.int .i64 xfr, .int .i64 xto, .int .i64 xcp, .int .i64 xco] 40)).cell? ⟨wr.heap.size, 0, none⟩ = some (.int .i64 xfr) := by simp
      have v1 : (wr.alloc (.cells #[.int .i64 xfr, .int .i64 xto, .int .i64 xcp, .int .i64 xco] 40)).cell? ⟨wr.heap.size, 1, none⟩ = some (.int .i64 xto) := by simp
      have v2 : (wr.alloc (.cells #[.int .i64 xfr, .int .i64 xto, .int .i64 xcp, .int .i64 xco] 40)).cell? ⟨wr.heap.size, 2, none⟩ = some (.int .i64 xcp) := by simp
      have v3 : (wr.alloc (.cells #[.int .i64 xfr, .int .i64 xto, .int .i64 xcp, .int .i64 xco] 40)).cell? ⟨wr.heap.size, 3, none⟩ = some (.int .i64 xco) := by simp
      replace y0 := HKA.out.cell y0
      have HGL := hide (HO.out.lt g rfl)
      replace HO := hide (ownsA_kept HO.out HKA.out)
      replace HK := hide (HK.out.trans HKA.out)
      obtain ⟨V, hV⟩ : ∃ V, V = wr.heap.size := ⟨_, rfl⟩
      rw [← hV] at v0 v1 v2 v3 HGL ⊢
      clear hV c0 c1 c2 c3 HKA
      generalize wr.alloc (.cells #[.int .i64 xfr, .int .i64 xto, .int .i64 xcp, .int .i64 xco] 40) = W2 at *
      have HVG : Hid (V ∉ [g]) := by have := HGL.out; show ¬ _; simp; omega
      have HFG : Hid (fb ∉ [g]) := by have := HGL.out; show ¬ _; simp; omega
      have HVF : Hid (w.heap.size + 1 ≤ V ∧ fb < w.heap.size) := ⟨by have := HGL.out; omega, hfl⟩
      clear hfl
      by_cases hy1 : y < xcp
      · have hd : decide (y < xcp) = true := by simp [hy1]
        rw [if_pos hy1] at HAS
        go_quiet (fail)
        have hk3 := (Keeps.refl W2).drewN nq
        replace v0 := hk3.cell v0
        replace v1 := hk3.cell v1
        replace v2 := hk3.cell v2
        replace v3 := hk3.cell v3
        replace y0 := hk3.cell y0
        replace HO := hide (ownsA_kept HO.out hk3)
        replace HK := hide (HK.out.trans hk3)
        clear hk3
        generalize W2.drewN nq = W3 at *
        have HBS : Hid (w.heap.size + 1 ≤ W3.heap.size) := by show _ ≤ _; have := (HO.out.lt g rfl).2; have := (HO.out.lt g rfl).1; omega
        have HBL : Hid ((arcsTo E f k).length ≤ 1000) := by show _ ≤ _; have := arcsTo_len E f k; omega
        go_upto_region 6 with fail
        go_region_held3 (fun w' => w'.cell? ⟨V, 0, none⟩ = some (.int .i64 xfr) ∧ w'.cell? ⟨V, 1, none⟩ = some (.int .i64 xto) ∧ w'.cell? ⟨V, 2, none⟩ = some (.int .i64 xcp) ∧ w'.cell? ⟨V, 3, none⟩ = some (.int .i64 xco) ∧ w'.cell? ⟨fb, foff + k, none⟩ = some (.int .i64 y)) (first | (go_keep; done) | exact ⟨v0, v1, v2, v3, y0⟩)
          (first
            | (refine step_arc (W := W3) (by rfl) (.tmp 24) (.tmp 41) (by rfl) (w.heap.size + 1) _ _ _ ⟨2 * (k : Int), xfr, xto, xcp - y, xco⟩ (by rfl) (by rfl) (by rfl) HO.out HBL.out HBS.out ?_
               intro g2 cap2 w4 ho ht hgg
               have hgV : w.heap.size + 1 ≤ g := (HO.out.lt _ rfl).1
               have hVW : V < W3.heap.size := lt_of_cell v0
               have hg2 : w.heap.size + 1 ≤ g2 := (ho.lt _ rfl).1
               replace HO := hide ho
               replace v0 := ht.cell (HVG.out) v0
               replace v1 := ht.cell (HVG.out) v1
               replace v2 := ht.cell (HVG.out) v2
               replace v3 := ht.cell (HVG.out) v3
               replace y0 := ht.cell (HFG.out) y0
               replace HK := hide (ht.keeps HK.out (by simp; omega))
               replace HVG : Hid (V ∉ [g2]) := by have h1 := HVG.out; show ¬ _; simp at h1 ⊢; omega
               replace HFG : Hid (fb ∉ [g2]) := by have h1 := HVF.out.2; show ¬ _; simp; omega
               clear ho ht hgV hgg hVW hg2))
        have HO' : Hid (OwnsA w4 (w.heap.size + 1) (.slice (some ⟨g2, 0, none⟩) (arcsTo E f k ++ [(⟨2 * (k : Int), xfr, xto, xcp - y, xco⟩ : Arc)]).length cap2) (arcsTo E f k ++ [(⟨2 * (k : Int), xfr, xto, xcp - y, xco⟩ : Arc)])) := by show OwnsA _ _ _ _; rw [List.length_append]; exact HO.out
        have HLL : Hid ((arcsTo E f k).length + 1 = (arcsTo E f k ++ [(⟨2 * (k : Int), xfr, xto, xcp - y, xco⟩ : Arc)]).length) := by show _ = _; simp
        rw [HLL.out]
        have HBL : Hid ((arcsTo E f k ++ [(⟨2 * (k : Int), xfr, xto, xcp - y, xco⟩ : Arc)]).length ≤ 1000) := by show _ ≤ _; have := arcsTo_len E f k; simp; omega
        clear HO HLL
        generalize arcsTo E f k ++ [(⟨2 * (k : Int), xfr, xto, xcp - y, xco⟩ : Arc)] = LA at *
        have HO := hide HO'.out
        clear HO'
        by_cases hy2 : 0 < y
        · have hp : decide (0 < y) = true := by simp [hy2]
          rw [if_pos hy2] at HAS
          have HBS : Hid (w.heap.size + 1 ≤ w4.heap.size) := by show _ ≤ _; have := (HO.out.lt g2 rfl).2; have := (HO.out.lt g2 rfl).1; omega
          go_upto_region 8 with fail
          go_region_held3 (fun w' => w'.cell? ⟨V, 0, none⟩ = some (.int .i64 xfr) ∧ w'.cell? ⟨V, 1, none⟩ = some (.int .i64 xto) ∧ w'.cell? ⟨V, 2, none⟩ = some (.int .i64 xcp) ∧ w'.cell? ⟨V, 3, none⟩ = some (.int .i64 xco) ∧ w'.cell? ⟨fb, foff + k, none⟩ = some (.int .i64 y)) (first | (go_keep; done) | exact ⟨v0, v1, v2, v3, y0⟩)
            (first
              | (refine step_arc (W := w4) (by rfl) (.tmp 48) (.tmp 64) (by rfl) (w.heap.size + 1) _ _ _ ⟨2 * (k : Int) + 1, xto, xfr, y, -xco⟩ (by rfl) (by rfl) (by rfl) HO.out HBL.out HBS.out ?_
                 intro g3 cap3 w6 ho ht hgg
                 have hgV : w.heap.size + 1 ≤ g2 := (HO.out.lt _ rfl).1
                 have hVW : V < w4.heap.size := lt_of_cell v0
                 have hg2 : w.heap.size + 1 ≤ g3 := (ho.lt _ rfl).1
                 replace HO := hide ho
                 replace v0 := ht.cell (HVG.out) v0
                 replace v1 := ht.cell (HVG.out) v1
                 replace v2 := ht.cell (HVG.out) v2
                 replace v3 := ht.cell (HVG.out) v3
                 replace y0 := ht.cell (HFG.out) y0
                 replace HK := hide (ht.keeps HK.out (by simp; omega))
                 replace HVG : Hid (V ∉ [g3]) := by have h1 := HVG.out; show ¬ _; simp at h1 ⊢; omega
                 replace HFG : Hid (fb ∉ [g3]) := by have h1 := HVF.out.2; show ¬ _; simp; omega
                 clear ho ht hgV hgg hVW hg2))
          go_wp2_with fail
          go_roundw
          case rel => exact ⟨k + 1, g3, cap3, by omega, by rw [HAS.out]; simp, by go_num, by show OwnsA _ _ _ _; rw [HAS.out, List.length_append]; exact HO.out, HK.out⟩
          case measure => simp [intOf]; omega
        · have hp : decide (0 < y) = false := by simp; omega
          rw [if_neg hy2, List.append_nil] at HAS
          go_wp2_with fail
          go_roundw
          case rel => exact ⟨k + 1, g2, cap2, by omega, by rw [HAS.out], by go_num, by show OwnsA _ _ _ _; rw [HAS.out]; exact HO.out, HK.out⟩
          case measure => simp [intOf]; omega
      · have hd : decide (y < xcp) = false := by simp; omega
        rw [if_neg hy1, List.append_nil] at HAS
        go_quiet (fail)
        have hk3 := (Keeps.refl W2).drewN nq
        replace v0 := hk3.cell v0
        replace v1 := hk3.cell v1
        replace v2 := hk3.cell v2
        replace v3 := hk3.cell v3
        replace y0 := hk3.cell y0
        have HO' := hide (ownsA_kept HO.out hk3)
        replace HK := hide (HK.out.trans hk3)
        clear hk3 HO
        generalize W2.drewN nq = W3 at *
        have HBL : Hid ((arcsTo E f k).length ≤ 1000) := by show _ ≤ _; have := arcsTo_len E f k; omega
        generalize arcsTo E f k = LA at *
        have HO := hide HO'.out
        clear HO'
        by_cases hy2 : 0 < y
        · have hp : decide (0 < y) = true := by simp [hy2]
          rw [if_pos hy2] at HAS
          have HBS : Hid (w.heap.size + 1 ≤ W3.heap.size) := by show _ ≤ _; have := (HO.out.lt g rfl).2; have := (HO.out.lt g rfl).1; omega
          go_upto_region 8 with fail
          go_region_held3 (fun w' => w'.cell? ⟨V, 0, none⟩ = some (.int .i64 xfr) ∧ w'.cell? ⟨V, 1, none⟩ = some (.int .i64 xto) ∧ w'.cell? ⟨V, 2, none⟩ = some (.int .i64 xcp) ∧ w'.cell? ⟨V, 3, none⟩ = some (.int .i64 xco) ∧ w'.cell? ⟨fb, foff + k, none⟩ = some (.int .i64 y)) (first | (go_keep; done) | exact ⟨v0, v1, v2, v3, y0⟩)
            (first
              | (refine step_arc (W := W3) (by rfl) (.tmp 48) (.tmp 64) (by rfl) (w.heap.size + 1) _ _ _ ⟨2 * (k : Int) + 1, xto, xfr, y, -xco⟩ (by rfl) (by rfl) (by rfl) HO.out HBL.out HBS.out ?_
                 intro g3 cap3 w6 ho ht hgg
                 have hgV : w.heap.size + 1 ≤ g := (HO.out.lt _ rfl).1
                 have hVW : V < W3.heap.size := lt_of_cell v0
                 have hg2 : w.heap.size + 1 ≤ g3 := (ho.lt _ rfl).1
                 replace HO := hide ho
                 replace v0 := ht.cell (HVG.out) v0
                 replace v1 := ht.cell (HVG.out) v1
                 replace v2 := ht.cell (HVG.out) v2
                 replace v3 := ht.cell (HVG.out) v3
                 replace y0 := ht.cell (HFG.out) y0
                 replace HK := hide (ht.keeps HK.out (by simp; omega))
                 replace HVG : Hid (V ∉ [g3]) := by have h1 := HVG.out; show ¬ _; simp at h1 ⊢; omega
                 replace HFG : Hid (fb ∉ [g3]) := by have h1 := HVF.out.2; show ¬ _; simp; omega
                 clear ho ht hgV hgg hVW hg2))
          go_wp2_with fail
          go_roundw
          case rel => exact ⟨k + 1, g3, cap3, by omega, by rw [HAS.out]; simp, by go_num, by show OwnsA _ _ _ _; rw [HAS.out, List.length_append]; exact HO.out, HK.out⟩
          case measure => simp [intOf]; omega
        · have hp : decide (0 < y) = false := by simp; omega
          rw [if_neg hy2, List.append_nil] at HAS
          go_wp2_with fail
          go_roundw
          case rel => exact ⟨k + 1, g, cap, by omega, by rw [HAS.out], by go_num, by show OwnsA _ _ _ _; rw [HAS.out]; exact HO.out, HK.out⟩
          case measure => simp [intOf]; omega
    · have e : k = E.length := by omega
      subst e
      go_wp2_with fail
      go_ret
      exact ⟨g, cap, rfl, born_ars HO.out (Nat.le_succ _), HK.out⟩
end Go.Proofs.YtjdbedlgkngdkaaGreatDoor
namespace Go.Proofs.YtjdbedlgkngdkaaGreatDoor
open Go.RowKit Go.Deep
set_option linter.unusedVariables false
set_option linter.unusedSimpArgs false
set_option maxRecDepth 10000

set_option maxHeartbeats 4000000 in
theorem graph_spec (G : Gf) (w : World) (hm : Mem w G.segs) (hl : G.len) : Calls Tryz.prog 65 #[G.v] w fun e w' => e = .returned (.bool (graphB G.nn G.E)) ∧ Keeps w w' := by
  obtain ⟨nn, ea, ec, E⟩ := G
  have HC := hide (fun w' (hk : Keeps w w') => Gf.memE (hm.kept hk))
  have HB := hide (gr_box ⟨nn, ea, ec, E⟩ w 36)
  have HK := hide (Keeps.alloc (Keeps.refl w) (.cells #[.int .i64 nn, .slice ea E.length ec] 36))
  dsimp only [Gf.v, Gf.len] at *
  clear hm
  rcases graph_cases nn E with ⟨h1, hr⟩ | ⟨h1, h2, hr⟩ | ⟨h1, h2, h3, hr⟩ | ⟨h1, h2, h3⟩
  rotate_left 3
  · go_enter Tryz.func65, Tryz.ntmps65
    go_wp2_with fail
    generalize w.alloc (.cells #[.int .i64 nn, .slice ea E.length ec] 36) = W0 at *
    go_loopw [22] (fun y wr => ∃ k : Nat, k ≤ E.length ∧ y = .int .i64 (k : Int) ∧ Hid (∀ j (hj : j < E.length), j < k → edgeB nn E[j] = true) ∧ Hid (Keeps W0 wr)) (fun y _ => E.length - (intOf y).toNat)
    case atStart => exact ⟨0, by omega, rfl, fun j hj h => absurd h (by omega), Keeps.refl _⟩
    case round =>
      obtain ⟨k, hk, rfl, HG, HKr⟩ := hrel
      by_cases hlt : k < E.length
      · obtain ⟨b, off, ea', c0, c1, c2, c3⟩ := egs_at (unhide HC _ (HK.out.trans HKr.out)) k hlt
        obtain ⟨q0, q1⟩ := HB.out.kept HKr.out
        have HX := hide ea'
        dsimp only at q0 q1
        have lb := lt_of_cell q0
        clear ea'
        have HN : Hid (edgeB nn E[k] = false → graphB nn E = false) := fun h => graphB_no (Or.inr (Or.inr (Or.inr ⟨k, hlt, h⟩)))
        have HG' : Hid (edgeB nn E[k] = true → ∀ j (hj : j < E.length), j < k + 1 → edgeB nn E[j] = true) := fun h j hj h' => by
          by_cases e : j = k
          · subst e; exact h
          · exact HG.out j hj (by omega)
        generalize E[k] = x at *
        obtain ⟨xfr, xto, xcp, xco⟩ := x
        dsimp only at c0 c1 c2 c3
        have HKA := hide (Keeps.alloc HKr.out (.cells #[.int .i64 xfr, .int .i64 xto, .int .i64 xcp, .int .i64 xco] 40))
        obtain rfl := HX.out
        clear HG
        by_cases hs0 : 0 ≤ xfr
        rotate_left
        · skip
          go_wp2_with fail
          go_ret
          exact ⟨ret_b (HN.out (edgeB_no (by simp only []; omega))).symm, HK.out.trans HKA.out⟩
        by_cases hs1 : xfr < nn
        rotate_left
        · skip
          go_wp2_with fail
          go_ret
          exact ⟨ret_b (HN.out (edgeB_no (by simp only []; omega))).symm, HK.out.trans HKA.out⟩
        by_cases hs2 : 0 ≤ xto
        rotate_left
        · skip
          go_wp2_with fail
          go_ret
          exact ⟨ret_b (HN.out (edgeB_no (by simp only []; omega))).symm, HK.out.trans HKA.out⟩
        by_cases hs3 : xto < nn
        rotate_left
        · skip
          go_wp2_with fail
          go_ret
          exact ⟨ret_b (HN.out (edgeB_no (by simp only []; omega))).symm, HK.out.trans HKA.out⟩
        by_cases hs4 : xfr ≠ xto
        rotate_left
        · have hq : (xfr == xto) = true := by simp; omega
          go_wp2_with fail
          go_ret
          exact ⟨ret_b (HN.out (edgeB_no (by simp only []; omega))).symm, HK.out.trans HKA.out⟩
        by_cases hs5 : 0 ≤ xcp
        rotate_left
        · have hq : (xfr == xto) = false := by simp [hs4]
          go_wp2_with fail
          go_ret
          exact ⟨ret_b (HN.out (edgeB_no (by simp only []; omega))).symm, HK.out.trans HKA.out⟩
        by_cases hs6 : xcp ≤ 1000000000
        rotate_left
        · have hq : (xfr == xto) = false := by simp [hs4]
          go_wp2_with fail
          go_ret
          exact ⟨ret_b (HN.out (edgeB_no (by simp only []; omega))).symm, HK.out.trans HKA.out⟩
        by_cases hs7 : -1000000 ≤ xco
        rotate_left
        · have hq : (xfr == xto) = false := by simp [hs4]
          go_wp2_with fail
          go_ret
          exact ⟨ret_b (HN.out (edgeB_no (by simp only []; omega))).symm, HK.out.trans HKA.out⟩
        by_cases hs8 : xco ≤ 1000000
        rotate_left
        · have hq : (xfr == xto) = false := by simp [hs4]
          go_wp2_with fail
          go_ret
          exact ⟨ret_b (HN.out (edgeB_no (by simp only []; omega))).symm, HK.out.trans HKA.out⟩
        have hq : (xfr == xto) = false := by simp [hs4]
        go_wp2_with fail
        go_roundw
        case rel => exact ⟨k + 1, by omega, by go_num, HG'.out (edgeB_yes hs0 hs1 hs2 hs3 hs4 hs5 hs6 hs7 hs8), HKA.out⟩
        case measure => simp [intOf]; omega
      · have e : k = E.length := by omega
        subst e
        go_wp2_with fail
        go_ret
        exact ⟨ret_b (graphB_yes h1 h2 h3 (fun j hj => HG.out j hj hj)).symm, HK.out.trans HKr.out⟩
  · go_enter Tryz.func65, Tryz.ntmps65
    go_wp2_with fail
    go_ret
    exact ⟨ret_b hr.symm, HK.out⟩
  · go_enter Tryz.func65, Tryz.ntmps65
    go_wp2_with fail
    go_ret
    exact ⟨ret_b hr.symm, HK.out⟩
  · go_enter Tryz.func65, Tryz.ntmps65
    go_wp2_with fail
    go_ret
    exact ⟨ret_b hr.symm, HK.out⟩
end Go.Proofs.YtjdbedlgkngdkaaGreatDoor
