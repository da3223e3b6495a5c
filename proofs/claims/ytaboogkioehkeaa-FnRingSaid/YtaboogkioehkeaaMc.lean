/- Where there is no ring, no flow costs less. -/
import Derived.Test.YtaboogkioehkeaaMr
namespace Go.Proofs.Ytaboogkioehkeaa
open Go.RowKit Go.Deep
set_option linter.unusedVariables false
set_option linter.unusedSimpArgs false
set_option maxRecDepth 10000

def sumV (d : Nat → Int) (b : Nat → Int) : Nat → Int
  | 0 => 0
  | n + 1 => sumV d b n + d n * b n
theorem sumV_add (d b : Nat → Int) (u : Nat) (x : Int) : ∀ n, sumV d (fun v => b v + (if u = v then x else 0)) n = sumV d b n + (if u < n then d u * x else 0)
  | 0 => by simp [sumV]
  | n + 1 => by
    simp only [sumV]
    rw [sumV_add d b u x n]
    by_cases e : u = n
    · subst e
      rw [if_neg (show ¬ u < u by omega), if_pos rfl, if_pos (show u < u + 1 by omega), Int.mul_add]
      omega
    · rw [if_neg e]
      by_cases h : u < n
      · rw [if_pos h, if_pos (show u < n + 1 by omega)]; simp only [Int.add_zero]; omega
      · rw [if_neg h, if_neg (show ¬ u < n + 1 by omega)]; simp only [Int.add_zero]
theorem sumV_zero (d b : Nat → Int) : ∀ n, (∀ v, v < n → b v = 0) → sumV d b n = 0
  | 0, _ => rfl
  | n + 1, h => by simp only [sumV]; rw [sumV_zero d b n (fun v hv => h v (by omega)), h n (by omega)]; simp
/-- What the numbers weigh by the nodes' distances. -/
def pot (d : Nat → Int) (E : List Edg) (f : List Int) : Nat → Int
  | 0 => 0
  | k + 1 => pot d E f k + (d (E.getD k ⟨0, 0, 0, 0⟩).to.toNat - d (E.getD k ⟨0, 0, 0, 0⟩).fr.toNat) * f.getD k 0
theorem pot_sum {n : Nat} {E : List Edg} (hg : ∀ j (hj : j < E.length), edgeB (n : Int) E[j] = true) (d : Nat → Int) (f : List Int) : ∀ k, k ≤ E.length → pot d E f k = sumV d (bal E f k) n
  | 0, _ => (sumV_zero d (bal E f 0) n (fun v _ => rfl)).symm
  | k + 1, hk => by
    have ih := pot_sum hg d f k (by omega)
    have he := edgeB_true (hg k (by omega))
    have hgd : E.getD k ⟨0, 0, 0, 0⟩ = E[k] := by simp [List.getD_eq_getElem?_getD, show k < E.length by omega]
    have hb : bal E f (k + 1) = fun v => (fun v => bal E f k v + (if E[k].fr.toNat = v then -(f.getD k 0) else 0)) v + (if E[k].to.toNat = v then f.getD k 0 else 0) := by
      funext v
      simp only [bal, hgd]
      have e1 : (E[k].fr = (v : Int)) ↔ E[k].fr.toNat = v := by omega
      have e2 : (E[k].to = (v : Int)) ↔ E[k].to.toNat = v := by omega
      simp only [e1, e2]
      split <;> split <;> omega
    rw [hb, sumV_add, sumV_add, if_pos (by omega), if_pos (by omega), ← ih]
    simp only [pot, hgd]
    rw [Int.sub_mul, Int.mul_neg]
    omega
theorem mul_ge {c p x y : Int} (h1 : x < y → p ≤ c) (h2 : y < x → c ≤ p) : p * y - p * x ≤ c * y - c * x := by
  rw [← Int.mul_sub, ← Int.mul_sub]
  rcases Int.lt_trichotomy x y with h | h | h
  · exact Int.mul_le_mul_of_nonneg_right (h1 h) (by omega)
  · subst h; simp
  · have a := Int.mul_le_mul_of_nonneg_right (h2 h) (show 0 ≤ x - y by omega)
    have e1 : p * (y - x) = -(p * (x - y)) := by rw [← Int.mul_neg]; congr 1; omega
    have e2 : c * (y - x) = -(c * (x - y)) := by rw [← Int.mul_neg]; congr 1; omega
    rw [e1, e2]; omega
/-- No flow costs less than one without a ring. -/
theorem least_cost {N : Int} {E : List Edg} {f g : List Int} (hf : flowB N E f = true) (hr : ringOk N E f = false) (hgf : flowB N E g = true) : costTo E f E.length ≤ costTo E g E.length := by
  obtain ⟨hg, hle, hcf, hbf⟩ := flowB_true hf
  obtain ⟨_, hlg, hcg, hbg⟩ := flowB_true hgf
  obtain ⟨g1, g2, _, g4⟩ := graphB_true hg
  obtain ⟨n, rfl⟩ : ∃ n : Nat, N = (n : Int) := ⟨N.toNat, by omega⟩
  have he : (turns (arcs E f) n).e = -1 := by simpa [ringOk, hf] using hr
  have hsi : SInv (arcs E f) n (arcs E f).length (turns (arcs E f) n) := by have := turns_inv (arcs_ok hf) (n - 1); rw [show n - 1 + 1 = n by omega] at this; exact this
  have hsat := hsi.non he
  generalize (turns (arcs E f) n).d = d at hsat
  have hsat' : ∀ a ∈ arcs E f, d a.to.toNat ≤ d a.fr.toNat + a.co := fun a ha => by
    obtain ⟨i, hi, rfl⟩ := List.getElem_of_mem ha
    exact hsat i hi hi
  have hk : ∀ k, k ≤ E.length → pot d E g k - pot d E f k ≤ costTo E g k - costTo E f k := by
    intro k
    induction k with
    | zero => intro _; simp [pot, costTo]
    | succ k ih =>
      intro hk
      have ih' := ih (by omega)
      have hgd : E.getD k ⟨0, 0, 0, 0⟩ = E[k] := by simp [List.getD_eq_getElem?_getD, show k < E.length by omega]
      have hfd : f.getD k 0 = f[k]'(by omega) := by simp [List.getD_eq_getElem?_getD, show k < f.length by omega]
      have hgd2 : g.getD k 0 = g[k]'(by omega) := by simp [List.getD_eq_getElem?_getD, show k < g.length by omega]
      simp only [pot, costTo, hgd, hfd, hgd2]
      have c1 := hcf k (by omega) (by omega)
      have c2 := hcg k (by omega) (by omega)
      have hm := mul_ge (c := E[k].co) (p := d E[k].to.toNat - d E[k].fr.toNat) (x := f[k]'(by omega)) (y := g[k]'(by omega)) (fun h => by
        have := hsat' _ (of_arcs ⟨k, by omega, by omega, Or.inl ⟨by omega, rfl⟩⟩)
        dsimp only at this
        omega) (fun h => by
        have := hsat' _ (of_arcs ⟨k, by omega, by omega, Or.inr ⟨by omega, rfl⟩⟩)
        dsimp only at this
        omega)
      omega
  have h1 := hk E.length (Nat.le_refl _)
  rw [pot_sum g4 d g E.length (Nat.le_refl _), pot_sum g4 d f E.length (Nat.le_refl _), sumV_zero d _ n (fun v hv => hbg v (by omega)), sumV_zero d _ n (fun v hv => hbf v (by omega))] at h1
  omega
theorem zero_flow {N : Int} {E : List Edg} (hg : graphB N E = true) : flowB N E (List.replicate E.length 0) = true ∧ costTo E (List.replicate E.length 0) E.length = 0 := by
  obtain ⟨_, _, _, g4⟩ := graphB_true hg
  have hz : ∀ k, (List.replicate E.length (0 : Int)).getD k 0 = 0 := fun k => by
    rw [List.getD_eq_getElem?_getD]
    by_cases h : k < E.length
    · simp [h]
    · simp [h]
  have hb : ∀ k v, bal E (List.replicate E.length 0) k v = 0 := by
    intro k v
    induction k with
    | zero => rfl
    | succ k ih => simp only [bal, hz, ih]; simp
  have hc : ∀ k, costTo E (List.replicate E.length 0) k = 0 := by
    intro k
    induction k with
    | zero => rfl
    | succ k ih => simp only [costTo, hz, ih]; simp
  refine ⟨flowB_yes hg (by simp) (fun j hj hf => ?_) (fun v _ => hb _ v), hc _⟩
  have := edgeB_true (g4 j hj)
  simp
  omega
theorem chGo_flow {N : Int} {E : List Edg} : ∀ m f g, flowB N E f = true → chGo N E m f = some g → flowB N E g = true ∧ ringOk N E g = false
  | 0, f, g, hf, h => by
    unfold chGo at h
    split at h
    · cases h
    · next hn => cases h; exact ⟨hf, by simpa using hn⟩
  | m + 1, f, g, hf, h => by
    unfold chGo at h
    split at h
    · next hy =>
      obtain ⟨hp, _⟩ := ring_push hy
      have hv := (push_yes hp).2
      refine chGo_flow m _ g ?_ h
      rw [hv]; exact hp.2.2.2
    · next hn => cases h; exact ⟨hf, by simpa using hn⟩
/-- The cheapest flow: a flow, no ring, at most 0, none costs less. -/
theorem cheap_best {N : Int} {E : List Edg} (h : chOk N E = true) : flowB N E (chV N E) = true ∧ ringOk N E (chV N E) = false ∧ costV N E (chV N E) ≤ 0 ∧ ∀ g, flowB N E g = true → costV N E (chV N E) ≤ costV N E g := by
  cases hr : chRes N E with
  | none => rw [(ch_no hr).1] at h; cases h
  | some f =>
    have hv := (ch_yes hr).2
    unfold chRes at hr
    split at hr
    · next hg =>
      obtain ⟨hz1, hz2⟩ := zero_flow hg
      obtain ⟨h1, h2⟩ := chGo_flow 400 _ f hz1 hr
      rw [hv]
      have hcv : ∀ x, flowB N E x = true → costV N E x = costTo E x E.length := fun x hx => by simp [costV, hx]
      refine ⟨h1, h2, ?_, fun g hg' => ?_⟩
      · rw [hcv f h1, ← hz2]; exact least_cost h1 h2 hz1
      · rw [hcv f h1, hcv g hg']; exact least_cost h1 h2 hg'
    · cases hr
theorem ring_less {N : Int} {E : List Edg} {f : List Int} (h : ringOk N E f = true) : pushOk N E f (ringV N E f) = true ∧ flowB N E (pushV N E f (ringV N E f)) = true ∧ costV N E (pushV N E f (ringV N E f)) < costV N E f := by
  obtain ⟨hp, hc⟩ := ring_push h
  obtain ⟨h1, h2⟩ := push_yes hp
  rw [h2]
  refine ⟨h1, hp.2.2.2, ?_⟩
  simp only [costV, hp.2.2.2, hp.1, if_true]
  exact hc
end Go.Proofs.Ytaboogkioehkeaa
