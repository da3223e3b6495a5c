/- The search for a ring: what it keeps to, and where it ends. -/
import Derived.Test.YtaboogkioehkeaaRa
namespace Go.Proofs.Ytaboogkioehkeaa
open Go.RowKit Go.Deep
set_option linter.unusedVariables false
set_option linter.unusedSimpArgs false
set_option maxRecDepth 10000

/-- The last arc of a node. -/
def pa (A : List Arc) (S : Srch) (v : Nat) : Arc := A.getD (S.k v) arc0
/-- Right arcs. -/
def ArcsOk (N : Nat) (A : List Arc) : Prop := A.length ≤ 120 ∧ ∀ a ∈ A, 0 ≤ a.fr ∧ a.fr < (N : Int) ∧ 0 ≤ a.to ∧ a.to < (N : Int) ∧ a.fr ≠ a.to ∧ -1000000 ≤ a.co ∧ a.co ≤ 1000000
structure SInv (A : List Arc) (n j : Nat) (S : Srch) : Prop where
  set : ∀ v, S.s v = true → S.k v < A.length ∧ (pa A S v).to.toNat = v ∧ 1 ≤ S.r v ∧ S.r v ≤ S.r (pa A S v).fr.toNat + 1 ∧ ((S.t (pa A S v).fr.toNat < S.t v ∧ S.d v = S.d (pa A S v).fr.toNat + (pa A S v).co) ∨ S.d (pa A S v).fr.toNat + (pa A S v).co < S.d v)
  tim : ∀ v, S.t v ≤ n * 1000 + j
  rnd : ∀ v, S.r v ≤ n ∧ (1 ≤ S.r v → S.s v = true)
  arc : ∀ i (hi : i < A.length), S.d A[i].to.toNat ≤ S.d A[i].fr.toNat + A[i].co ∨ (if i < j then n else n - 1) ≤ S.r A[i].fr.toNat
  bnd : ∀ v, S.d v ≤ 0 ∧ -(1000000 * (((n - 1) * 120 + j : Nat) : Int)) ≤ S.d v
  non : S.e = -1 → ∀ i (hi : i < A.length), i < j → S.d A[i].to.toNat ≤ S.d A[i].fr.toNat + A[i].co
  fin : S.e ≠ -1 → 0 ≤ S.e ∧ S.s S.e.toNat = true ∧ S.r S.e.toNat = n ∧ ∃ a ∈ A, a.to = S.e
theorem pa_at {A : List Arc} {S : Srch} {v : Nat} (h : S.k v < A.length) : pa A S v = A[S.k v] := by simp [pa, List.getD_eq_getElem?_getD, h]
theorem pa_mem {A : List Arc} {S : Srch} {v : Nat} (h : S.k v < A.length) : pa A S v ∈ A := by rw [pa_at h]; exact List.getElem_mem h
theorem relax_no {n j : Nat} {a : Arc} {S : Srch} (h : ¬ S.d a.fr.toNat + a.co < S.d a.to.toNat) : relax n j a S = S := by simp only [relax, if_neg h]
theorem relax_yes {n j : Nat} {a : Arc} {S : Srch} (h : S.d a.fr.toNat + a.co < S.d a.to.toNat) : relax n j a S = ⟨upd S.d a.to.toNat (S.d a.fr.toNat + a.co), upd S.k a.to.toNat j, upd S.s a.to.toNat true, upd S.r a.to.toNat n, upd S.t a.to.toNat (n * 1000 + j + 1), a.to⟩ := by simp only [relax, if_pos h]
theorem SInv.step {N : Nat} {A : List Arc} {n j : Nat} {S : Srch} (hA : ArcsOk N A) (hn : 1 ≤ n) (h : SInv A n j S) (hj : j < A.length) : SInv A n (j + 1) (relax n j A[j] S) := by
  have hmem := hA.2 A[j] (List.getElem_mem hj)
  obtain ⟨a0, -, a2, -, a4, a5, a6⟩ := hmem
  by_cases hc : S.d A[j].fr.toNat + A[j].co < S.d A[j].to.toNat
  · rw [relax_yes hc]
    have hrj : n - 1 ≤ S.r A[j].fr.toNat := by
      rcases h.arc j hj with h1 | h1
      · omega
      · simpa using h1
    generalize hu : A[j].fr.toNat = u at *
    generalize hv : A[j].to.toNat = v at *
    have huv : u ≠ v := by omega
    have hdu := h.bnd u
    have htu := h.tim u
    have htj := h.rnd u
    refine ⟨?_, ?_, ?_, ?_, ?_, ?_, ?_⟩
    · intro x hx
      by_cases ex : x = v
      · subst ex
        have hk : (pa A ⟨upd S.d x (S.d u + A[j].co), upd S.k x j, upd S.s x true, upd S.r x n, upd S.t x (n * 1000 + j + 1), A[j].to⟩ x) = A[j] := by
          simp [pa, upd_same, List.getD_eq_getElem?_getD, hj]
        rw [hk]
        simp only [upd_same, hu, hv, upd_other _ huv]
        refine ⟨hj, trivial, hn, by omega, Or.inl ⟨by omega, trivial⟩⟩
      · have hx' : S.s x = true := by simpa [upd_other _ ex] using hx
        obtain ⟨q1, q2, q3, q4, q5⟩ := h.set x hx'
        have hk : (pa A ⟨upd S.d v (S.d u + A[j].co), upd S.k v j, upd S.s v true, upd S.r v n, upd S.t v (n * 1000 + j + 1), A[j].to⟩ x) = pa A S x := by
          simp [pa, upd_other _ ex]
        rw [hk]
        simp only [upd_other _ ex]
        by_cases ey : (pa A S x).fr.toNat = v
        · rw [ey] at q4 q5 ⊢
          simp only [upd_same]
          have hrv := (h.rnd x).1
          refine ⟨q1, q2, q3, by omega, Or.inr ?_⟩
          rcases q5 with ⟨_, q⟩ | q <;> omega
        · simp only [upd_other _ ey]
          exact ⟨q1, q2, q3, q4, q5⟩
    · intro x
      by_cases ex : x = v
      · subst ex; simp only [upd_same]; omega
      · simp only [upd_other _ ex]; have := h.tim x; omega
    · intro x
      by_cases ex : x = v
      · subst ex; simp only [upd_same]; exact ⟨Nat.le_refl _, fun _ => trivial⟩
      · simp only [upd_other _ ex]; exact h.rnd x
    · intro i hi
      have hio := hA.2 A[i] (List.getElem_mem hi)
      by_cases ef : A[i].fr.toNat = v
      · right
        rw [ef]; simp only [upd_same]; split <;> omega
      · simp only [upd_other _ ef]
        by_cases ei : i = j
        · subst ei
          left
          rw [hv, hu]
          simp only [upd_same]
          omega
        · by_cases et : A[i].to.toNat = v
          · rw [et]
            simp only [upd_same]
            rcases h.arc i hi with h1 | h1
            · left; rw [et] at h1; omega
            · right
              by_cases hlt : i < j
              · rw [if_pos hlt] at h1; rw [if_pos (by omega)]; exact h1
              · rw [if_neg hlt] at h1; rw [if_neg (by omega)]; exact h1
          · simp only [upd_other _ et]
            rcases h.arc i hi with h1 | h1
            · exact Or.inl h1
            · right
              by_cases hlt : i < j
              · rw [if_pos hlt] at h1; rw [if_pos (by omega)]; exact h1
              · rw [if_neg hlt] at h1; rw [if_neg (by omega)]; exact h1
    · intro x
      by_cases ex : x = v
      · subst ex; simp only [upd_same]
        have := h.bnd x
        omega
      · simp only [upd_other _ ex]; have := h.bnd x; omega
    · intro he
      dsimp only at he
      omega
    · intro _
      dsimp only
      rw [hv]
      simp only [upd_same]
      exact ⟨a2, trivial, trivial, A[j], List.getElem_mem hj, rfl⟩
  · rw [relax_no hc]
    refine ⟨h.set, fun v => by have := h.tim v; omega, h.rnd, ?_, fun v => by have := h.bnd v; omega, ?_, h.fin⟩
    · intro i hi
      by_cases ei : i = j
      · subst ei; left; omega
      · rcases h.arc i hi with h1 | h1
        · exact Or.inl h1
        · right
          by_cases hlt : i < j
          · rw [if_pos hlt] at h1; rw [if_pos (by omega)]; exact h1
          · rw [if_neg hlt] at h1; rw [if_neg (by omega)]; exact h1
    · intro he i hi hlt
      by_cases ei : i = j
      · subst ei; omega
      · exact h.non he i hi (by omega)
theorem SInv.next {N : Nat} {A : List Arc} {n : Nat} {S : Srch} (hA : ArcsOk N A) (hn : 1 ≤ n) (h : SInv A n A.length S) : SInv A (n + 1) 0 { S with e := -1 } := by
  have h120 := hA.1
  refine ⟨h.set, fun v => by have := h.tim v; dsimp only; omega, fun v => by have := h.rnd v; exact ⟨by dsimp only; omega, this.2⟩, ?_, ?_, fun _ i hi hlt => absurd hlt (by omega), fun h => absurd rfl h⟩
  · intro i hi
    rcases h.arc i hi with h1 | h1
    · exact Or.inl h1
    · right
      rw [if_pos hi] at h1
      simpa using h1
  · intro v
    have := h.bnd v
    dsimp only
    have e : (n + 1 - 1) * 120 + 0 = (n - 1) * 120 + 120 := by omega
    rw [e]
    omega
theorem SInv.first (A : List Arc) : SInv A 1 0 { turns A 0 with e := -1 } := by
  refine ⟨fun v hv => absurd hv (by simp [turns]), fun v => by simp [turns], fun v => ⟨by simp [turns], fun h => absurd h (by simp [turns])⟩, fun i hi => Or.inr (by simp), fun v => by simp [turns], fun _ i hi hlt => absurd hlt (by omega), fun h => absurd rfl h⟩
theorem SInv.upto {N : Nat} {A : List Arc} {n : Nat} {S : Srch} (hA : ArcsOk N A) (hn : 1 ≤ n) (h : SInv A n 0 { S with e := -1 }) : ∀ j, j ≤ A.length → SInv A n j (turnTo A n S j)
  | 0, _ => h
  | j + 1, hj => by
    rw [turnTo_step (by omega)]
    exact (SInv.upto hA hn h j (by omega)).step hA hn (by omega)
theorem turns_inv0 {N : Nat} {A : List Arc} (hA : ArcsOk N A) : ∀ n, SInv A (n + 1) 0 { turns A n with e := -1 }
  | 0 => SInv.first A
  | n + 1 => ((turns_inv0 hA n).upto hA (by omega) A.length (Nat.le_refl _)).next hA (by omega)
/-- What holds in the midst of a time. -/
theorem turns_mid {N : Nat} {A : List Arc} (hA : ArcsOk N A) (n j : Nat) (hj : j ≤ A.length) : SInv A (n + 1) j (turnTo A (n + 1) (turns A n) j) := (turns_inv0 hA n).upto hA (by omega) j hj
theorem turns_inv {N : Nat} {A : List Arc} (hA : ArcsOk N A) (n : Nat) : SInv A (n + 1) A.length (turns A (n + 1)) := turns_mid hA n A.length (Nat.le_refl _)

/-- Where no arc shortens anything, nothing turns. -/
theorem turnTo_still {A : List Arc} {S : Srch} (h : ∀ i (hi : i < A.length), S.d A[i].to.toNat ≤ S.d A[i].fr.toNat + A[i].co) (n : Nat) : ∀ j, j ≤ A.length → turnTo A n S j = { S with e := -1 }
  | 0, _ => rfl
  | j + 1, hj => by
    rw [turnTo_step (by omega), turnTo_still h n j (by omega)]
    exact relax_no (by have := h j (by omega); dsimp only; omega)
theorem turns_still {N : Nat} {A : List Arc} (hA : ArcsOk N A) {n : Nat} (h : (turns A (n + 1)).e = -1) : ∀ m, (turns A (n + 1 + m)).e = -1 ∧ (turns A (n + 1 + m)).d = (turns A (n + 1)).d
  | 0 => ⟨h, rfl⟩
  | m + 1 => by
    have h0 := (turns_inv hA n).non h
    obtain ⟨h1, h2⟩ := turns_still hA h m
    have h3 : ∀ i (hi : i < A.length), (turns A (n + 1 + m)).d A[i].to.toNat ≤ (turns A (n + 1 + m)).d A[i].fr.toNat + A[i].co := by
      rw [h2]; exact fun i hi => h0 i hi hi
    have e : turns A (n + 1 + (m + 1)) = turnTo A (n + 1 + m + 1) (turns A (n + 1 + m)) A.length := rfl
    rw [e, turnTo_still h3 _ _ (Nat.le_refl _)]
    exact ⟨rfl, h2⟩

/-- i steps back from a node. -/
def bk (A : List Arc) (S : Srch) : Nat → Nat → Nat
  | 0, v => v
  | i + 1, v => (pa A S (bk A S i v)).fr.toNat
theorem bk_add (A : List Arc) (S : Srch) (i : Nat) (v : Nat) : ∀ j, bk A S (i + j) v = bk A S j (bk A S i v)
  | 0 => rfl
  | j + 1 => by
    show (pa A S (bk A S (i + j) v)).fr.toNat = (pa A S (bk A S j (bk A S i v))).fr.toNat
    rw [bk_add A S i v j]
theorem pigeon : ∀ (N : Nat) (g : Nat → Nat), (∀ i, i ≤ N → g i < N) → ∃ i j, i < j ∧ j ≤ N ∧ g i = g j
  | 0, g, h => absurd (h 0 (Nat.le_refl _)) (by omega)
  | N + 1, g, h => by
    by_cases hx : ∃ i, i ≤ N ∧ g i = g (N + 1)
    · obtain ⟨i, hi, e⟩ := hx
      exact ⟨i, N + 1, by omega, Nat.le_refl _, e⟩
    · have hx' : ∀ i, i ≤ N → g i ≠ g (N + 1) := fun i hi e => hx ⟨i, hi, e⟩
      obtain ⟨i, j, hij, hj, e⟩ := pigeon N (fun i => if g i < g (N + 1) then g i else g i - 1) (fun i hi => by
        have h1 := h i (by omega)
        have h2 := h (N + 1) (Nat.le_refl _)
        have h3 := hx' i hi
        split <;> omega)
      refine ⟨i, j, hij, by omega, ?_⟩
      have h3 := hx' i (by omega)
      have h4 := hx' j hj
      split at e <;> split at e <;> omega
theorem least {P : Nat → Prop} (h : ∃ m, P m) : ∃ m, P m ∧ ∀ q, q < m → ¬ P q := by
  obtain ⟨m, hm⟩ := h
  induction m using Nat.strongRecOn with
  | ind m ih =>
    by_cases hx : ∃ q, q < m ∧ P q
    · obtain ⟨q, hq, hp⟩ := hx
      exact ih q hq hp
    · exact ⟨m, hm, fun q hq hp => hx ⟨q, hq, hp⟩⟩
/-- A node on a ring of last arcs: the least number of steps that lead back. -/
structure OnRing (N : Nat) (A : List Arc) (S : Srch) (b m : Nat) : Prop where
  pos : 1 ≤ m
  le : m ≤ N
  back : bk A S m b = b
  first : ∀ q, 1 ≤ q → q < m → bk A S q b ≠ b
  set : ∀ q, S.s (bk A S q b) = true
  lt : ∀ q, bk A S q b < N
theorem on_ring {N : Nat} {A : List Arc} {S : Srch} (hA : ArcsOk N A) (hN : 1 ≤ N) (h : SInv A N A.length S) (he : S.e ≠ -1) : (∀ i, i < N → S.s (bk A S i S.e.toNat) = true) ∧ (∀ i, i ≤ N → bk A S i S.e.toNat < N) ∧ ∃ m, OnRing N A S (bk A S N S.e.toNat) m := by
  obtain ⟨e0, e1, e2, a, ha, e3⟩ := h.fin he
  have hr : ∀ i, i ≤ N → N ≤ S.r (bk A S i S.e.toNat) + i := by
    intro i
    induction i with
    | zero => intro _; show N ≤ S.r S.e.toNat + 0; omega
    | succ i ih =>
      intro hi
      have h1 := ih (by omega)
      have hs := (h.rnd (bk A S i S.e.toNat)).2 (by omega)
      have h2 := (h.set _ hs).2.2.2.1
      show N ≤ S.r (pa A S (bk A S i S.e.toNat)).fr.toNat + (i + 1)
      omega
  have hset : ∀ i, i < N → S.s (bk A S i S.e.toNat) = true := fun i hi => (h.rnd _).2 (by have := hr i (by omega); omega)
  have hlt : ∀ i, i ≤ N → bk A S i S.e.toNat < N := by
    intro i hi
    cases i with
    | zero => have := hA.2 a ha; show S.e.toNat < N; omega
    | succ i =>
      have hk := (h.set _ (hset i (by omega))).1
      have := hA.2 _ (pa_mem hk)
      show (pa A S (bk A S i S.e.toNat)).fr.toNat < N
      omega
  refine ⟨hset, hlt, ?_⟩
  obtain ⟨i, j, hij, hj, hb⟩ := pigeon N (fun i => bk A S i S.e.toNat) hlt
  have hper : ∀ m, i ≤ m → bk A S (m + (j - i)) S.e.toNat = bk A S m S.e.toNat := by
    intro m hm
    have e1 : m + (j - i) = j + (m - i) := by omega
    have e2 : m = i + (m - i) := by omega
    rw [e1, bk_add, ← hb, ← bk_add, ← e2]
  have hall : ∀ m, i ≤ m → ∃ q, q < N ∧ bk A S m S.e.toNat = bk A S q S.e.toNat := by
    intro m
    induction m using Nat.strongRecOn with
    | ind m ih =>
      intro hm
      by_cases hlt' : m < j
      · exact ⟨m, by omega, rfl⟩
      · obtain ⟨q, hq, e⟩ := ih (m - (j - i)) (by omega) (by omega)
        refine ⟨q, hq, ?_⟩
        rw [← e, ← hper (m - (j - i)) (by omega)]
        congr 1
        omega
  have hbq : ∀ q, bk A S q (bk A S N S.e.toNat) = bk A S (N + q) S.e.toNat := fun q => (bk_add A S N _ q).symm
  obtain ⟨m, ⟨hm1, hm2⟩, hm3⟩ := least (P := fun m => 1 ≤ m ∧ bk A S m (bk A S N S.e.toNat) = bk A S N S.e.toNat) ⟨j - i, by omega, by rw [hbq]; exact hper N (by omega)⟩
  have hmle : m ≤ j - i := by
    rcases Nat.lt_or_ge (j - i) m with h' | h'
    · exact absurd ⟨by omega, by rw [hbq]; exact hper N (by omega)⟩ (hm3 (j - i) h')
    · exact h'
  refine ⟨m, hm1, by omega, hm2, fun q h1 h2 h3 => hm3 q h2 ⟨h1, h3⟩, fun q => ?_, fun q => ?_⟩
  · rw [hbq]
    obtain ⟨x, hx, e⟩ := hall (N + q) (by omega)
    rw [e]; exact hset x hx
  · rw [hbq]
    obtain ⟨x, hx, e⟩ := hall (N + q) (by omega)
    rw [e]; exact hlt x (by omega)
theorem OnRing.uniq {N : Nat} {A : List Arc} {S : Srch} {b m m' : Nat} (h : OnRing N A S b m) (h' : OnRing N A S b m') : m = m' := by
  rcases Nat.lt_trichotomy m m' with hl | hl | hl
  · exact absurd h.back (h'.first m h.pos hl)
  · exact hl
  · exact absurd h'.back (h.first m' h'.pos hl)
/-- The names of m arcs, from a node back. -/
def ringL (A : List Arc) (S : Srch) (b m : Nat) : List Int := (List.range m).map fun q => (pa A S (bk A S q b)).nm
theorem ringL_len (A : List Arc) (S : Srch) (b m : Nat) : (ringL A S b m).length = m := by simp [ringL]
theorem ringL_succ (A : List Arc) (S : Srch) (b m : Nat) : ringL A S b (m + 1) = ringL A S b m ++ [(pa A S (bk A S m b)).nm] := by simp [ringL, List.range_succ]
/-- Is there a ring, and which. -/
noncomputable def ringOk (N : Int) (E : List Edg) (f : List Int) : Bool := flowB N E f && decide ((turns (arcs E f) N.toNat).e ≠ -1)
noncomputable def per (N : Nat) (A : List Arc) (S : Srch) (b : Nat) : Nat := @dite _ (∃ m, OnRing N A S b m) (Classical.propDecidable _) (fun h => h.choose) (fun _ => 0)
theorem per_eq {N : Nat} {A : List Arc} {S : Srch} {b m : Nat} (h : OnRing N A S b m) : per N A S b = m := by
  unfold per
  rw [dif_pos ⟨m, h⟩]
  exact ((⟨m, h⟩ : ∃ m, OnRing N A S b m).choose_spec).uniq h
noncomputable def ringV (N : Int) (E : List Edg) (f : List Int) : List Int :=
  if ringOk N E f = true then
    ringL (arcs E f) (turns (arcs E f) N.toNat) (bk (arcs E f) (turns (arcs E f) N.toNat) N.toNat (turns (arcs E f) N.toNat).e.toNat) (per N.toNat (arcs E f) (turns (arcs E f) N.toNat) (bk (arcs E f) (turns (arcs E f) N.toNat) N.toNat (turns (arcs E f) N.toNat).e.toNat))
  else []
theorem arcs_ok {n : Nat} {E : List Edg} {f : List Int} (h : flowB (n : Int) E f = true) : ArcsOk n (arcs E f) := by
  obtain ⟨hg, hl, _, _⟩ := flowB_true h
  obtain ⟨_, _, g3, _⟩ := graphB_true hg
  refine ⟨?_, fun a ha => ?_⟩
  · have := arcsTo_len E f E.length
    unfold arcs; omega
  · have := arc_ok h ha
    omega
theorem arcs_pre (E : List Edg) (f : List Int) {k : Nat} (hk : k ≤ E.length) : ∃ R, arcs E f = arcsTo E f k ++ R := by
  have h : ∀ m, k ≤ m → ∃ R, arcsTo E f m = arcsTo E f k ++ R := by
    intro m
    induction m with
    | zero => intro h; exact ⟨[], by rw [show k = 0 by omega]; simp⟩
    | succ m ih =>
      intro h
      by_cases e : k = m + 1
      · exact ⟨[], by rw [e]; simp⟩
      · obtain ⟨R, hR⟩ := ih (by omega)
        exact ⟨R ++ arcA m (E.getD m ⟨0, 0, 0, 0⟩) (f.getD m 0) ++ arcZ m (E.getD m ⟨0, 0, 0, 0⟩) (f.getD m 0), by simp only [arcsTo]; rw [hR]; simp⟩
  exact h E.length hk
theorem at_pre {L R : List Arc} {a : Arc} {A : List Arc} (h : A = L ++ [a] ++ R) : ∃ hj : L.length < A.length, A[L.length] = a := by
  subst h
  exact ⟨by simp, by simp⟩
theorem arcs_a {E : List Edg} {f : List Int} {k : Nat} (hk : k < E.length) (hf : k < f.length) (h : f[k] < E[k].cp) : ∃ hj : (arcsTo E f k).length < (arcs E f).length, (arcs E f)[(arcsTo E f k).length] = ⟨2 * (k : Int), E[k].fr, E[k].to, E[k].cp - f[k], E[k].co⟩ := by
  obtain ⟨R, hR⟩ := arcs_pre E f (k := k + 1) (by omega)
  rw [arcsTo_step hk hf] at hR
  refine at_pre (R := arcZ k E[k] f[k] ++ R) ?_
  rw [hR]
  simp [arcA, h]
theorem arcs_z {E : List Edg} {f : List Int} {k : Nat} (hk : k < E.length) (hf : k < f.length) (h : 0 < f[k]) : ∃ hj : (arcsTo E f k ++ arcA k E[k] f[k]).length < (arcs E f).length, (arcs E f)[(arcsTo E f k ++ arcA k E[k] f[k]).length] = ⟨2 * (k : Int) + 1, E[k].to, E[k].fr, f[k], -E[k].co⟩ := by
  obtain ⟨R, hR⟩ := arcs_pre E f (k := k + 1) (by omega)
  rw [arcsTo_step hk hf] at hR
  refine at_pre (R := R) ?_
  rw [hR]
  simp [arcZ, h]
end Go.Proofs.Ytaboogkioehkeaa
