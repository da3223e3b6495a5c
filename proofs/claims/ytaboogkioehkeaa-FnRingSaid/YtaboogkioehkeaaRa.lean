/- Rest arcs, told of data alone; how the search goes through them. -/
import Derived.Test.YtaboogkioehkeaaFm
namespace Go.Proofs.Ytaboogkioehkeaa
open Go.RowKit Go.Deep
set_option linter.unusedVariables false
set_option linter.unusedSimpArgs false
set_option maxRecDepth 10000

/-- A rest arc: its name, its ends, its rest, its cost. -/
structure Arc where
  nm : Int
  fr : Int
  to : Int
  rs : Int
  co : Int
def arcA (k : Nat) (e : Edg) (x : Int) : List Arc := if x < e.cp then [⟨2 * (k : Int), e.fr, e.to, e.cp - x, e.co⟩] else []
def arcZ (k : Nat) (e : Edg) (x : Int) : List Arc := if 0 < x then [⟨2 * (k : Int) + 1, e.to, e.fr, x, -e.co⟩] else []
/-- The rest arcs of the first k edges. -/
def arcsTo (E : List Edg) (f : List Int) : Nat → List Arc
  | 0 => []
  | k + 1 => arcsTo E f k ++ arcA k (E.getD k ⟨0, 0, 0, 0⟩) (f.getD k 0) ++ arcZ k (E.getD k ⟨0, 0, 0, 0⟩) (f.getD k 0)
def arcs (E : List Edg) (f : List Int) : List Arc := arcsTo E f E.length
theorem arcsTo_step {E : List Edg} {f : List Int} {k : Nat} (hk : k < E.length) (hf : k < f.length) : arcsTo E f (k + 1) = arcsTo E f k ++ arcA k E[k] f[k] ++ arcZ k E[k] f[k] := by
  simp [arcsTo, List.getD_eq_getElem?_getD, hk, hf]
theorem arcA_len (k : Nat) (e : Edg) (x : Int) : (arcA k e x).length ≤ 1 := by unfold arcA; split <;> simp
theorem arcZ_len (k : Nat) (e : Edg) (x : Int) : (arcZ k e x).length ≤ 1 := by unfold arcZ; split <;> simp
theorem arcsTo_len (E : List Edg) (f : List Int) (k : Nat) : (arcsTo E f k).length ≤ 2 * k := by
  induction k with
  | zero => simp [arcsTo]
  | succ k ih =>
    have h1 := arcA_len k (E.getD k ⟨0, 0, 0, 0⟩) (f.getD k 0)
    have h2 := arcZ_len k (E.getD k ⟨0, 0, 0, 0⟩) (f.getD k 0)
    simp only [arcsTo, List.length_append]
    omega
/-- What a right arc is: one of an edge's two. -/
def ArcOf (E : List Edg) (f : List Int) (a : Arc) : Prop := ∃ k, ∃ hk : k < E.length, ∃ hf : k < f.length,
  (f[k] < E[k].cp ∧ a = ⟨2 * (k : Int), E[k].fr, E[k].to, E[k].cp - f[k], E[k].co⟩) ∨ (0 < f[k] ∧ a = ⟨2 * (k : Int) + 1, E[k].to, E[k].fr, f[k], -E[k].co⟩)
theorem arcsTo_mem {E : List Edg} {f : List Int} {k : Nat} (hE : k ≤ E.length) (hF : k ≤ f.length) {a : Arc} (h : a ∈ arcsTo E f k) : ∃ i, i < k ∧ ∃ hi : i < E.length, ∃ hf : i < f.length,
    (f[i] < E[i].cp ∧ a = ⟨2 * (i : Int), E[i].fr, E[i].to, E[i].cp - f[i], E[i].co⟩) ∨ (0 < f[i] ∧ a = ⟨2 * (i : Int) + 1, E[i].to, E[i].fr, f[i], -E[i].co⟩) := by
  induction k with
  | zero => simp [arcsTo] at h
  | succ k ih =>
    rw [arcsTo_step (by omega) (by omega)] at h
    rcases List.mem_append.1 h with h | h
    · rcases List.mem_append.1 h with h | h
      · obtain ⟨i, hi, h⟩ := ih (by omega) (by omega) h
        exact ⟨i, by omega, h⟩
      · unfold arcA at h
        split at h
        · next hc => exact ⟨k, by omega, by omega, by omega, Or.inl ⟨hc, List.mem_singleton.1 h⟩⟩
        · simp at h
    · unfold arcZ at h
      split at h
      · next hc => exact ⟨k, by omega, by omega, by omega, Or.inr ⟨hc, List.mem_singleton.1 h⟩⟩
      · simp at h
theorem arcs_of {E : List Edg} {f : List Int} (hl : f.length = E.length) {a : Arc} (h : a ∈ arcs E f) : ArcOf E f a := by
  obtain ⟨i, _, hi, hf, h⟩ := arcsTo_mem (Nat.le_refl _) (by omega) h
  exact ⟨i, hi, hf, h⟩
theorem arcsTo_sub {E : List Edg} {f : List Int} {a : Arc} {k m : Nat} (hkm : k ≤ m) (h : a ∈ arcsTo E f k) : a ∈ arcsTo E f m := by
  induction m with
  | zero => rw [show k = 0 by omega] at h; exact h
  | succ m ih =>
    by_cases e : k = m + 1
    · rw [← e]; exact h
    · simp only [arcsTo]
      exact List.mem_append_left _ (List.mem_append_left _ (ih (by omega)))
theorem of_arcs {E : List Edg} {f : List Int} {a : Arc} (h : ArcOf E f a) : a ∈ arcs E f := by
  obtain ⟨k, hk, hf, h⟩ := h
  refine arcsTo_sub (k := k + 1) (by omega) ?_
  rw [arcsTo_step hk hf]
  rcases h with ⟨hc, rfl⟩ | ⟨hc, rfl⟩
  · exact List.mem_append_left _ (List.mem_append_right _ (by simp [arcA, hc]))
  · exact List.mem_append_right _ (by simp [arcZ, hc])
/-- A right arc of a right flow: its numbers. -/
theorem arc_ok {N : Int} {E : List Edg} {f : List Int} (h : flowB N E f = true) {a : Arc} (ha : a ∈ arcs E f) : 0 ≤ a.fr ∧ a.fr < N ∧ 0 ≤ a.to ∧ a.to < N ∧ a.fr ≠ a.to ∧ 1 ≤ a.rs ∧ a.rs ≤ 1000000000 ∧ -1000000 ≤ a.co ∧ a.co ≤ 1000000 ∧ 0 ≤ a.nm ∧ a.nm < 2 * (E.length : Int) := by
  obtain ⟨hg, hl, hc, _⟩ := flowB_true h
  obtain ⟨g1, g2, g3, g4⟩ := graphB_true hg
  obtain ⟨k, hk, hf, h⟩ := arcs_of hl ha
  have e := edgeB_true (g4 k hk)
  have c := hc k hk hf
  rcases h with ⟨h1, rfl⟩ | ⟨h1, rfl⟩
  · dsimp only; omega
  · dsimp only; omega
theorem arcs_names {E : List Edg} {f : List Int} {k : Nat} (hE : k ≤ E.length) (hF : k ≤ f.length) : (arcsTo E f k).Pairwise (fun a b => a.nm < b.nm) := by
  induction k with
  | zero => simp [arcsTo]
  | succ k ih =>
    have ih' := ih (by omega) (by omega)
    rw [arcsTo_step (by omega) (by omega)]
    have hlt : ∀ a ∈ arcsTo E f k, a.nm < 2 * (k : Int) := fun a ha => by
      obtain ⟨i, hi, _, _, h⟩ := arcsTo_mem (by omega) (by omega) ha
      rcases h with ⟨_, rfl⟩ | ⟨_, rfl⟩ <;> (dsimp only; omega)
    refine List.pairwise_append.2 ⟨List.pairwise_append.2 ⟨ih', ?_, ?_⟩, ?_, ?_⟩
    · unfold arcA; split <;> simp
    · intro a ha b hb
      have := hlt a ha
      unfold arcA at hb
      split at hb
      · rw [List.mem_singleton.1 hb]; dsimp only; omega
      · simp at hb
    · unfold arcZ; split <;> simp
    · intro a ha b hb
      unfold arcZ at hb
      split at hb
      · rw [List.mem_singleton.1 hb]; dsimp only
        rcases List.mem_append.1 ha with ha | ha
        · have := hlt a ha; omega
        · unfold arcA at ha
          split at ha
          · rw [List.mem_singleton.1 ha]; dsimp only; omega
          · simp at ha
      · simp at hb
/-- An arc is known by its name. -/
theorem name_inj {E : List Edg} {f : List Int} (hl : f.length = E.length) {a b : Arc} (ha : a ∈ arcs E f) (hb : b ∈ arcs E f) (h : a.nm = b.nm) : a = b := by
  obtain ⟨i, hi, hif, h1⟩ := arcs_of hl ha
  obtain ⟨j, hj, hjf, h2⟩ := arcs_of hl hb
  rcases h1 with ⟨_, rfl⟩ | ⟨_, rfl⟩ <;> rcases h2 with ⟨_, rfl⟩ | ⟨_, rfl⟩
  · dsimp only at h; obtain rfl : i = j := by omega
    rfl
  · dsimp only at h; omega
  · dsimp only at h; omega
  · dsimp only at h; obtain rfl : i = j := by omega
    rfl

/-- How the search stands: each node's distance, the number of its last arc, whether it has one, its last time; the end of what changed last in this time (-1: none). -/
structure Srch where
  d : Nat → Int
  k : Nat → Nat
  s : Nat → Bool
  r : Nat → Nat
  t : Nat → Nat
  e : Int
def upd {α : Type} (g : Nat → α) (v : Nat) (x : α) : Nat → α := fun i => if i = v then x else g i
theorem upd_same {α : Type} (g : Nat → α) (v : Nat) (x : α) : upd g v x v = x := by simp [upd]
theorem upd_other {α : Type} (g : Nat → α) {v i : Nat} (h : i ≠ v) (x : α) : upd g v x i = g i := by simp [upd, h]
def arc0 : Arc := ⟨0, 0, 0, 0, 0⟩
/-- One arc (number j, in time n) is looked at. -/
def relax (n j : Nat) (a : Arc) (S : Srch) : Srch := if S.d a.fr.toNat + a.co < S.d a.to.toNat then ⟨upd S.d a.to.toNat (S.d a.fr.toNat + a.co), upd S.k a.to.toNat j, upd S.s a.to.toNat true, upd S.r a.to.toNat n, upd S.t a.to.toNat (n * 1000 + j + 1), a.to⟩ else S
/-- The first j arcs, in time n. -/
def turnTo (A : List Arc) (n : Nat) (S : Srch) : Nat → Srch
  | 0 => { S with e := -1 }
  | j + 1 => relax n j (A.getD j arc0) (turnTo A n S j)
theorem turnTo_step {A : List Arc} {n : Nat} {S : Srch} {j : Nat} (hj : j < A.length) : turnTo A n S (j + 1) = relax n j A[j] (turnTo A n S j) := by
  simp [turnTo, List.getD_eq_getElem?_getD, hj]
/-- n times through all arcs. -/
def turns (A : List Arc) : Nat → Srch
  | 0 => ⟨fun _ => 0, fun _ => 0, fun _ => false, fun _ => 0, fun _ => 0, -1⟩
  | n + 1 => turnTo A (n + 1) (turns A n) A.length
end Go.Proofs.Ytaboogkioehkeaa
