/- What is pushed along a ring is a flow that costs less; where there is no ring, no flow costs less. -/
import Derived.Test.YtaboogkioehkeaaCh
namespace Go.Proofs.Ytaboogkioehkeaa
open Go.RowKit Go.Deep
set_option linter.unusedVariables false
set_option linter.unusedSimpArgs false
set_option maxRecDepth 10000

/-- One number of many is another: what goes in and out, and the cost. -/
theorem bal_set (E : List Edg) (f : List Int) (p : Nat) (hp : p < f.length) (hE : p < E.length) (x : Int) (v : Nat) : ∀ k, bal E (f.set p x) k v = bal E f k v + (if p < k then (if E[p].to = (v : Int) then x - f[p] else 0) - (if E[p].fr = (v : Int) then x - f[p] else 0) else 0)
  | 0 => by simp [bal]
  | k + 1 => by
    have ih := bal_set E f p hp hE x v k
    simp only [bal]
    rw [ih]
    by_cases e : k = p
    · subst e
      have h1 : (f.set k x).getD k 0 = x := by simp [List.getD_eq_getElem?_getD, hp]
      have h2 : f.getD k 0 = f[k] := by simp [List.getD_eq_getElem?_getD, hp]
      have h3 : E.getD k ⟨0, 0, 0, 0⟩ = E[k] := by simp [List.getD_eq_getElem?_getD, hE]
      rw [h1, h2, h3, if_neg (show ¬ k < k by omega), if_pos (show k < k + 1 by omega)]
      split <;> split <;> omega
    · have h1 : (f.set p x).getD k 0 = f.getD k 0 := by simp [List.getD_eq_getElem?_getD, List.getElem?_set_ne (Ne.symm e)]
      rw [h1]
      by_cases hk : p < k
      · rw [if_pos hk, if_pos (show p < k + 1 by omega)]; omega
      · rw [if_neg hk, if_neg (show ¬ p < k + 1 by omega)]; omega
theorem cost_set (E : List Edg) (f : List Int) (p : Nat) (hp : p < f.length) (hE : p < E.length) (x : Int) : ∀ k, costTo E (f.set p x) k = costTo E f k + (if p < k then E[p].co * (x - f[p]) else 0)
  | 0 => by simp [costTo]
  | k + 1 => by
    have ih := cost_set E f p hp hE x k
    simp only [costTo]
    rw [ih]
    by_cases e : k = p
    · subst e
      have h1 : (f.set k x).getD k 0 = x := by simp [List.getD_eq_getElem?_getD, hp]
      have h2 : f.getD k 0 = f[k] := by simp [List.getD_eq_getElem?_getD, hp]
      have h3 : E.getD k ⟨0, 0, 0, 0⟩ = E[k] := by simp [List.getD_eq_getElem?_getD, hE]
      rw [h1, h2, h3, if_neg (by omega), if_pos (by omega), Int.mul_sub]
      omega
    · have h1 : (f.set p x).getD k 0 = f.getD k 0 := by simp [List.getD_eq_getElem?_getD, List.getElem?_set_ne (Ne.symm e)]
      rw [h1]
      by_cases hk : p < k
      · rw [if_pos hk, if_pos (by omega)]; omega
      · rw [if_neg hk, if_neg (by omega)]; omega
/-- One step of a push, of an arc. -/
theorem push_step {n : Nat} {E : List Edg} {f : List Int} (h : flowB (n : Int) E f = true) {R : List Int} {amt : Int} {q : Nat} {a : Arc} (ha : a ∈ arcs E f) (hn : R.getD q (-1) = a.nm) :
    (∀ v : Nat, bal E (psh f R amt (q + 1)) E.length v = bal E (psh f R amt q) E.length v + (if a.to = (v : Int) then amt else 0) - (if a.fr = (v : Int) then amt else 0)) ∧ costTo E (psh f R amt (q + 1)) E.length = costTo E (psh f R amt q) E.length + a.co * amt := by
  have hle := (flowB_true h).2.1
  obtain ⟨p, hp, hpf, hc⟩ := arcs_of hle ha
  have hl := psh_len f R amt q
  have hpl : p < (psh f R amt q).length := by omega
  rcases hc with ⟨_, rfl⟩ | ⟨_, rfl⟩
  · dsimp only at hn ⊢
    have e1 : (R.getD q (-1) / 2).toNat = p := by rw [hn]; omega
    have e2 : R.getD q (-1) % 2 = 0 := by rw [hn]; omega
    have e3 : (psh f R amt q).getD p 0 = (psh f R amt q)[p] := by rw [List.getD_eq_getElem?_getD, List.getElem?_eq_getElem hpl]; rfl
    have e4 : psh f R amt (q + 1) = (psh f R amt q).set p ((psh f R amt q)[p] + amt) := by
      show (psh f R amt q).set _ _ = _
      rw [e1, if_pos e2, e3]
    rw [e4]
    refine ⟨fun v => ?_, ?_⟩
    · rw [bal_set E _ p hpl hp _ v E.length, if_pos hp]
      have e5 : (psh f R amt q)[p] + amt - (psh f R amt q)[p] = amt := by omega
      rw [e5]; omega
    · rw [cost_set E _ p hpl hp _ E.length, if_pos hp]
      have e5 : (psh f R amt q)[p] + amt - (psh f R amt q)[p] = amt := by omega
      rw [e5]
  · dsimp only at hn ⊢
    have e1 : (R.getD q (-1) / 2).toNat = p := by rw [hn]; omega
    have e2 : ¬ R.getD q (-1) % 2 = 0 := by rw [hn]; omega
    have e3 : (psh f R amt q).getD p 0 = (psh f R amt q)[p] := by rw [List.getD_eq_getElem?_getD, List.getElem?_eq_getElem hpl]; rfl
    have e4 : psh f R amt (q + 1) = (psh f R amt q).set p ((psh f R amt q)[p] - amt) := by
      show (psh f R amt q).set _ _ = _
      rw [e1, if_neg e2, e3]
    rw [e4]
    refine ⟨fun v => ?_, ?_⟩
    · rw [bal_set E _ p hpl hp _ v E.length, if_pos hp]
      have e5 : (psh f R amt q)[p] - amt - (psh f R amt q)[p] = -amt := by omega
      rw [e5]
      split <;> split <;> omega
    · rw [cost_set E _ p hpl hp _ E.length, if_pos hp]
      have e5 : (psh f R amt q)[p] - amt - (psh f R amt q)[p] = -amt := by omega
      rw [e5, Int.neg_mul, Int.mul_neg]
theorem dup_succ (Q : List Int) (id : Int) (k : Nat) : dup Q id (k + 1) = if Q.getD k (-1) = id then true else dup Q id k := rfl
/-- Each number when q arcs were pushed along. -/
theorem psh_at {n : Nat} {E : List Edg} {f : List Int} (h : flowB (n : Int) E f = true) {R : List Int} {amt : Int} : ∀ q, vld (arcs E f) R q → ∀ i (hi : i < f.length), (psh f R amt q)[i]'(by rw [psh_len]; exact hi) = f[i] + (if dup R (2 * (i : Int)) q = true then amt else 0) - (if dup R (2 * (i : Int) + 1) q = true then amt else 0)
  | 0, _, i, hi => by simp [psh, dup]
  | q + 1, hv, i, hi => by
    have ih := psh_at h (R := R) (amt := amt) q (fun j hj => hv j (by omega)) i hi
    have ho := hv q (by omega)
    have hr := ok_range h ho
    have hd : dup R (R.getD q (-1)) q = false := by
      cases hc : dup R (R.getD q (-1)) q
      · rfl
      · obtain ⟨k, hk, e⟩ := (dup_iff q).1 hc
        exact absurd e (ho.2 k hk)
    have hl := psh_len f R amt q
    have hil : i < (psh f R amt q).length := by omega
    rw [dup_succ, dup_succ]
    generalize hx : R.getD q (-1) = x at *
    have hs : ∀ (hj : i < (psh f R amt (q + 1)).length), (psh f R amt (q + 1))[i] = if (x / 2).toNat = i then (if x % 2 = 0 then (psh f R amt q).getD (x / 2).toNat 0 + amt else (psh f R amt q).getD (x / 2).toNat 0 - amt) else (psh f R amt q)[i] := by
      intro hj
      simp only [psh, List.getElem_set, hx]
    rw [hs]
    by_cases e : (x / 2).toNat = i
    · rw [if_pos e, e]
      have e3 : (psh f R amt q).getD i 0 = (psh f R amt q)[i] := by rw [List.getD_eq_getElem?_getD, List.getElem?_eq_getElem hil]; rfl
      rw [e3, ih]
      by_cases e2 : x % 2 = 0
      · have ex : x = 2 * (i : Int) := by omega
        rw [if_pos e2, if_pos ex, if_neg (show ¬ x = 2 * (i : Int) + 1 by omega)]
        rw [ex] at hd
        rw [hd]
        simp
        omega
      · have ex : x = 2 * (i : Int) + 1 := by omega
        rw [if_neg e2, if_pos ex, if_neg (show ¬ x = 2 * (i : Int) by omega)]
        rw [ex] at hd
        rw [hd]
        simp
    · rw [if_neg e, ih, if_neg (show ¬ x = 2 * (i : Int) by omega), if_neg (show ¬ x = 2 * (i : Int) + 1 by omega)]
theorem lst_le {A : List Arc} {R : List Int} : ∀ q k, k < q → lst A R q ≤ restV A (R.getD k (-1)).toNat
  | 0, k, h => absurd h (by omega)
  | q + 1, k, h => by
    unfold lst
    by_cases e : k = q
    · subst e; omega
    · have := lst_le (A := A) (R := R) q k (by omega); omega
theorem lst_pos {n : Nat} {E : List Edg} {f : List Int} (h : flowB (n : Int) E f = true) {R : List Int} : ∀ q, vld (arcs E f) R q → 1 ≤ lst (arcs E f) R q
  | 0, _ => by simp [lst]
  | q + 1, hv => by
    have ih := lst_pos h (R := R) q (fun j hj => hv j (by omega))
    obtain ⟨⟨a, ha, e⟩, _⟩ := hv q (by omega)
    have h1 := rest_of h ha
    have h2 := arc_ok h ha
    unfold lst
    rw [← e, h1]
    omega
/-- Right names with nothing in or out over all: the push goes. -/
theorem push_fits {n : Nat} {E : List Edg} {f : List Int} (h : flowB (n : Int) E f = true) {R : List Int} (hv : vld (arcs E f) R R.length) : inCap E (psh f R (lst (arcs E f) R R.length) R.length) := by
  intro i hi hif
  have hle := (flowB_true h).2.1
  have hcap := (flowB_true h).2.2.1 i hi (by omega)
  rw [psh_at h R.length hv i (by omega)]
  have hp := lst_pos h R.length hv
  have hA : dup R (2 * (i : Int)) R.length = true → lst (arcs E f) R R.length ≤ E[i].cp - f[i]'(by omega) := fun hd => by
    obtain ⟨k, hk, e⟩ := (dup_iff R.length).1 hd
    have h1 := lst_le (A := arcs E f) (R := R) R.length k hk
    obtain ⟨⟨a, ha, ea⟩, _⟩ := hv k hk
    rw [← ea, rest_of h ha] at h1
    obtain ⟨j, hj, hjf, hc⟩ := arcs_of hle ha
    rcases hc with ⟨_, rfl⟩ | ⟨_, rfl⟩
    · dsimp only at ea h1
      obtain rfl : j = i := by omega
      exact h1
    · dsimp only at ea; omega
  have hZ : dup R (2 * (i : Int) + 1) R.length = true → lst (arcs E f) R R.length ≤ f[i]'(by omega) := fun hd => by
    obtain ⟨k, hk, e⟩ := (dup_iff R.length).1 hd
    have h1 := lst_le (A := arcs E f) (R := R) R.length k hk
    obtain ⟨⟨a, ha, ea⟩, _⟩ := hv k hk
    rw [← ea, rest_of h ha] at h1
    obtain ⟨j, hj, hjf, hc⟩ := arcs_of hle ha
    rcases hc with ⟨_, rfl⟩ | ⟨_, rfl⟩
    · dsimp only at ea; omega
    · dsimp only at ea h1
      obtain rfl : j = i := by omega
      exact h1
  by_cases a : dup R (2 * (i : Int)) R.length = true
  · have := hA a
    rw [if_pos a]
    by_cases z : dup R (2 * (i : Int) + 1) R.length = true
    · have := hZ z; rw [if_pos z]; omega
    · rw [if_neg z]; omega
  · rw [if_neg a]
    by_cases z : dup R (2 * (i : Int) + 1) R.length = true
    · have := hZ z; rw [if_pos z]; omega
    · rw [if_neg z]; omega
/-- The costs of the arcs of a ring. -/
def csum (A : List Arc) (S : Srch) (b : Nat) : Nat → Int
  | 0 => 0
  | q + 1 => csum A S b q + (pa A S (bk A S q b)).co
theorem csum_low {N n j : Nat} {A : List Arc} {S : Srch} {b m : Nat} (h : SInv A n j S) (hr : OnRing N A S b m) : ∀ q, 1 ≤ q → (csum A S b q = S.d b - S.d (bk A S q b) ∧ S.t (bk A S q b) < S.t b) ∨ csum A S b q < S.d b - S.d (bk A S q b)
  | 0, h1 => absurd h1 (by omega)
  | 1, _ => by
    have h1 := (h.set _ (hr.set 0)).2.2.2.2
    show (0 + _ = _ ∧ _) ∨ _
    simp only [csum, bk] at h1 ⊢
    rcases h1 with ⟨a, e⟩ | e
    · exact Or.inl ⟨by omega, a⟩
    · exact Or.inr (by omega)
  | q + 2, _ => by
    have ih := csum_low h hr (q + 1) (by omega)
    have h1 := (h.set _ (hr.set (q + 1))).2.2.2.2
    have e1 : csum A S b (q + 2) = csum A S b (q + 1) + (pa A S (bk A S (q + 1) b)).co := rfl
    have e2 : bk A S (q + 2) b = (pa A S (bk A S (q + 1) b)).fr.toNat := rfl
    rw [e1, e2]
    rcases ih with ⟨a, e⟩ | e <;> rcases h1 with ⟨a', e'⟩ | e'
    · exact Or.inl ⟨by omega, by omega⟩
    · exact Or.inr (by omega)
    · exact Or.inr (by omega)
    · exact Or.inr (by omega)
theorem ring_arc {N n j : Nat} {A : List Arc} {S : Srch} {b m : Nat} (h : SInv A n j S) (hr : OnRing N A S b m) (q : Nat) : pa A S (bk A S q b) ∈ A ∧ (pa A S (bk A S q b)).to.toNat = bk A S q b ∧ (pa A S (bk A S q b)).fr.toNat = bk A S (q + 1) b :=
  ⟨pa_mem (h.set _ (hr.set q)).1, (h.set _ (hr.set q)).2.1, rfl⟩
theorem ringL_getD {A : List Arc} {S : Srch} {b m q : Nat} (hq : q < m) : (ringL A S b m).getD q (-1) = (pa A S (bk A S q b)).nm := by
  simp [ringL, List.getD_eq_getElem?_getD, hq]
/-- Pushing along the ring that is found: it goes, it is a flow, it costs less. -/
theorem ring_push {N : Int} {E : List Edg} {f : List Int} (hro : ringOk N E f = true) : pushP N E f (ringV N E f) ∧ costTo E (psh f (ringV N E f) (lst (arcs E f) (ringV N E f) (ringV N E f).length) (ringV N E f).length) E.length < costTo E f E.length := by
  have hf : flowB N E f = true := by simp [ringOk] at hro; exact hro.1
  have he : (turns (arcs E f) N.toNat).e ≠ -1 := by simp [ringOk] at hro; exact hro.2
  obtain ⟨hg, hle, _, hbal⟩ := flowB_true hf
  obtain ⟨g1, g2, _, _⟩ := graphB_true hg
  obtain ⟨n, rfl⟩ : ∃ n : Nat, N = (n : Int) := ⟨N.toNat, by omega⟩
  simp only [Int.toNat_natCast] at he
  have hsi : SInv (arcs E f) n (arcs E f).length (turns (arcs E f) n) := by have := turns_inv (arcs_ok hf) (n - 1); rw [show n - 1 + 1 = n by omega] at this; exact this
  obtain ⟨_, _, m, hor⟩ := on_ring (arcs_ok hf) (by omega) hsi he
  rw [(ring_yes hf he hor).2]
  generalize hb0 : bk (arcs E f) (turns (arcs E f) n) n (turns (arcs E f) n).e.toNat = b at hor ⊢
  generalize turns (arcs E f) n = S at *
  have hpos := hor.pos
  have hra := fun q => ring_arc hsi hor q
  have hv : vld (arcs E f) (ringL (arcs E f) S b m) (ringL (arcs E f) S b m).length := by
    intro q hq
    rw [ringL_len] at hq
    refine ⟨⟨_, (hra q).1, by rw [ringL_getD hq]⟩, fun k hk e => ?_⟩
    rw [ringL_getD hq, ringL_getD (by omega)] at e
    have e1 := name_inj hle (hra k).1 (hra q).1 e
    have e2 : bk (arcs E f) S k b = bk (arcs E f) S q b := by rw [← (hra k).2.1, ← (hra q).2.1, e1]
    have e3 : bk (arcs E f) S (k + (m - q)) b = b := by
      rw [bk_add, e2, ← bk_add, show q + (m - q) = m by omega]; exact hor.back
    exact hor.first (k + (m - q)) (by omega) (by omega) e3
  have hlen := ringL_len (arcs E f) S b m
  have hall : ∀ q, q ≤ m → ∀ amt, (∀ v : Nat, bal E (psh f (ringL (arcs E f) S b m) amt q) E.length v = bal E f E.length v + (if b = v then amt else 0) - (if bk (arcs E f) S q b = v then amt else 0)) ∧ costTo E (psh f (ringL (arcs E f) S b m) amt q) E.length = costTo E f E.length + csum (arcs E f) S b q * amt := by
    intro q
    induction q with
    | zero =>
      intro _ amt
      refine ⟨fun v => ?_, ?_⟩
      · show bal E f E.length v = bal E f E.length v + _ - (if b = v then amt else 0); omega
      · show costTo E f E.length = costTo E f E.length + 0 * amt; omega
    | succ q ih =>
      intro hq amt
      obtain ⟨ih1, ih2⟩ := ih (by omega) amt
      obtain ⟨s1, s2⟩ := push_step hf (amt := amt) (hra q).1 (ringL_getD (m := m) (by omega))
      have hok := arc_ok hf (hra q).1
      have r1 := (hra q).2.1
      have r2 := (hra q).2.2
      refine ⟨fun v => ?_, ?_⟩
      · rw [s1 v, ih1 v]
        have e1 : ((pa (arcs E f) S (bk (arcs E f) S q b)).to = (v : Int)) ↔ bk (arcs E f) S q b = v := by omega
        have e2 : ((pa (arcs E f) S (bk (arcs E f) S q b)).fr = (v : Int)) ↔ bk (arcs E f) S (q + 1) b = v := by omega
        simp only [e1, e2]
        omega
      · rw [s2, ih2]
        show _ = costTo E f E.length + (csum (arcs E f) S b q + (pa (arcs E f) S (bk (arcs E f) S q b)).co) * amt
        rw [Int.add_mul]
        omega
  obtain ⟨h1, h2⟩ := hall m (Nat.le_refl _) (lst (arcs E f) (ringL (arcs E f) S b m) (ringL (arcs E f) S b m).length)
  have hp := lst_pos hf (ringL (arcs E f) S b m).length hv
  have hc : csum (arcs E f) S b m < 0 := by
    have hc := csum_low hsi hor m hpos
    rw [hor.back] at hc
    rcases hc with ⟨_, ht⟩ | hc
    · omega
    · omega
  refine ⟨⟨hf, fun e => by rw [e] at hlen; simp at hlen; omega, hv, ?_⟩, ?_⟩
  · refine flowB_yes hg (by rw [psh_len]; exact hle) (push_fits hf hv) (fun v hvn => ?_)
    rw [hlen] at h1 ⊢
    rw [h1 v, hbal v hvn, hor.back]
    omega
  · rw [hlen] at h2 hp ⊢
    rw [h2]
    have : csum (arcs E f) S b m * lst (arcs E f) (ringL (arcs E f) S b m) m < 0 := Int.mul_neg_of_neg_of_pos hc (by omega)
    omega
end Go.Proofs.Ytaboogkioehkeaa
