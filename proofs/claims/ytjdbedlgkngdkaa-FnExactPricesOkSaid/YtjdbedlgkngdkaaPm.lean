/- Where room is lacking, told of data alone: limits, prices, the plan's edges, moves, their cost. -/
import Derived.Test.YtjdbedlgkngdkaaBk
import Derived.Test.YtjdbedlgkngdkaaBsA
import Derived.Test.YtjdbedlgkngdkaaBkC
import Derived.Test.YtjdbedlgkngdkaaPc
import Derived.Test.YtjdbedlgkngdkaaPn
import Derived.Test.YtjdbedlgkngdkaaGq
namespace Go.Proofs.Ytjdbedlgkngdkaa
open Go.RowKit Go.Deep
set_option linter.unusedVariables false
set_option linter.unusedSimpArgs false
set_option maxRecDepth 10000

/-- Are these limits? -/
def bandB (lo hi : Int) : Bool := decide (0 ≤ lo) && decide (lo ≤ hi) && decide (hi ≤ 100)
theorem bandB_true {lo hi : Int} (h : bandB lo hi = true) : 0 ≤ lo ∧ lo ≤ hi ∧ hi ≤ 100 := by simp [bandB] at h; omega
theorem bandB_yes {lo hi : Int} (h0 : 0 ≤ lo) (h1 : lo ≤ hi) (h2 : hi ≤ 100) : bandB lo hi = true := by simp [bandB]; omega
theorem bandB_no {lo hi : Int} (h : lo < 0 ∨ hi < lo ∨ 100 < hi) : bandB lo hi = false := by
  cases e : bandB lo hi
  · rfl
  · have := bandB_true e; omega
/-- A part of a size that the limit gives. -/
def endV (sz k lo hi : Int) : Int := if (bandB lo hi && amtB sz) = true then sz * k / 100 else 0
theorem endV_no {sz lo hi : Int} (k : Int) (h : (bandB lo hi && amtB sz) = false) : endV sz k lo hi = 0 := by simp [endV, h]
theorem endV_yes {sz lo hi : Int} (k : Int) (h : (bandB lo hi && amtB sz) = true) : endV sz k lo hi = sz * k / 100 := by simp [endV, h]
theorem part_bound {sz k : Int} (h0 : 0 ≤ sz) (h1 : sz ≤ 1125899906842624) (k0 : 0 ≤ k) (k1 : k ≤ 100) : 0 ≤ sz * k / 100 ∧ sz * k / 100 ≤ sz := by
  have a : 0 ≤ sz * k := Int.mul_nonneg h0 k0
  have b : sz * k ≤ sz * 100 := Int.mul_le_mul_of_nonneg_left k1 h0
  generalize sz * k = X at *
  omega
theorem endV_bound {sz lo hi k : Int} (hk : k = lo ∨ k = hi) : 0 ≤ endV sz k lo hi ∧ endV sz k lo hi ≤ 1125899906842624 := by
  cases h : bandB lo hi && amtB sz
  · rw [endV_no k h]; omega
  · rw [endV_yes k h]
    rw [Bool.and_eq_true] at h
    obtain ⟨b1, b2, b3⟩ := bandB_true h.1
    obtain ⟨s0, s1⟩ := amtB_true h.2
    have := part_bound s0 s1 (k := k) (by omega) (by omega)
    omega
def sameP (p q : Prc) : Bool := decide (p.fr = q.fr) && decide (p.to = q.to)
/-- Price k is right, and its way is new. -/
def prAt (C : List Chn) (L : List Prc) (k : Nat) : Bool := match L[k]? with
  | none => true
  | some p => twoB C p.fr p.to && ppmB p.pp && !((L.take k).any (sameP p))
def pricesB (B : Bk) (L : List Prc) : Bool := bookB B && decide (L.length ≤ 20) && (List.range L.length).all (prAt B.C L)
theorem prAt_at {C : List Chn} {L : List Prc} {k : Nat} (hk : k < L.length) : prAt C L k = (twoB C L[k].fr L[k].to && ppmB L[k].pp && !((L.take k).any (sameP L[k]))) := by
  unfold prAt; rw [List.getElem?_eq_getElem hk]
theorem prices_yes {B : Bk} {L : List Prc} (h0 : bookB B = true) (h1 : L.length ≤ 20) (h : ∀ j, j < L.length → prAt B.C L j = true) : pricesB B L = true := by
  simp only [pricesB, h0, h1, decide_true, Bool.true_and, List.all_eq_true, List.mem_range]
  exact h
theorem prices_no {B : Bk} {L : List Prc} {k : Nat} (hk : k < L.length) (h : prAt B.C L k = false) : pricesB B L = false := by
  have : (List.range L.length).all (prAt B.C L) = false := by
    rw [List.all_eq_false]; exact ⟨k, by simpa using hk, by simp [h]⟩
  simp [pricesB, this]
theorem prices_book {B : Bk} {L : List Prc} (h : bookB B = false) : pricesB B L = false := by simp [pricesB, h]
theorem prices_len {B : Bk} {L : List Prc} (h : 20 < L.length) : pricesB B L = false := by
  have : ¬ L.length ≤ 20 := by omega
  simp [pricesB, this]
theorem prices_true {B : Bk} {L : List Prc} (h : pricesB B L = true) : bookB B = true ∧ L.length ≤ 20 ∧ ∀ j (hj : j < L.length), twoB B.C L[j].fr L[j].to = true ∧ ppmB L[j].pp = true := by
  simp only [pricesB, Bool.and_eq_true, decide_eq_true_eq, List.all_eq_true, List.mem_range] at h
  refine ⟨h.1.1, h.1.2, fun j hj => ?_⟩
  have := h.2 j hj
  rw [prAt_at hj] at this
  simp only [Bool.and_eq_true] at this
  exact ⟨this.1.1, this.1.2⟩
/-- What is above MaxCap becomes MaxCap. -/
def capV (n : Int) : Int := if n ≤ 1000000000 then n else 1000000000
def aboveE (lo hi : Int) (k : Nat) (c : Chn) : List Edg := if endV c.sz hi lo hi < c.lo then [⟨0, (k : Int) + 1, capV (c.lo - endV c.sz hi lo hi), 0⟩] else []
def lackE (lo hi gain : Int) (k : Nat) (c : Chn) : List Edg := if c.lo < endV c.sz lo lo hi then [⟨(k : Int) + 1, 0, capV (endV c.sz lo lo hi - c.lo), -gain⟩] else []
/-- The edges of the first k channels. -/
def overC (f : Nat → Chn → List Edg) (C : List Chn) : Nat → List Edg
  | 0 => []
  | k + 1 => overC f C k ++ (match C[k]? with | some c => f k c | none => [])
theorem overC_step (f : Nat → Chn → List Edg) (C : List Chn) {k : Nat} (hk : k < C.length) : overC f C (k + 1) = overC f C k ++ f k C[k] := by
  simp [overC, List.getElem?_eq_getElem hk]
def priceE (C : List Chn) (p : Prc) : Edg := ⟨atI C p.fr + 1, atI C p.to + 1, 1000000000, p.pp⟩
def planE (C : List Chn) (lo hi gain : Int) (L : List Prc) : List Edg := overC (aboveE lo hi) C C.length ++ overC (lackE lo hi gain) C C.length ++ L.map (priceE C)
def planB (B : Bk) (lo hi gain : Int) (L : List Prc) : Bool := pricesB B L && bandB lo hi && ppmB gain
def planN (B : Bk) (lo hi gain : Int) (L : List Prc) : Int := if planB B lo hi gain L = true then (B.C.length : Int) + 1 else 0
def planV (B : Bk) (lo hi gain : Int) (L : List Prc) : List Edg := if planB B lo hi gain L = true then planE B.C lo hi gain L else []
theorem aboveE_len (lo hi : Int) (k : Nat) (c : Chn) : (aboveE lo hi k c).length ≤ 1 := by unfold aboveE; split <;> simp
theorem lackE_len (lo hi gain : Int) (k : Nat) (c : Chn) : (lackE lo hi gain k c).length ≤ 1 := by unfold lackE; split <;> simp
theorem overC_len {f : Nat → Chn → List Edg} (hf : ∀ k c, (f k c).length ≤ 1) (C : List Chn) : ∀ k, (overC f C k).length ≤ k
  | 0 => by simp [overC]
  | k + 1 => by
    have := overC_len hf C k
    unfold overC
    rw [List.length_append]
    cases C[k]? with
    | none => simp; omega
    | some c => have := hf k c; simp only []; omega
theorem plan_len {B : Bk} {lo hi gain : Int} {L : List Prc} (h : planB B lo hi gain L = true) : (planE B.C lo hi gain L).length ≤ 60 ∧ L.length ≤ (planE B.C lo hi gain L).length := by
  simp only [planB, Bool.and_eq_true] at h
  obtain ⟨hb, hl, _⟩ := prices_true h.1.1
  have hc : B.C.length ≤ 20 := by
    simp only [bookB, headB, Bool.and_eq_true, decide_eq_true_eq] at hb
    omega
  have h1 := overC_len (aboveE_len lo hi) B.C B.C.length
  have h2 := overC_len (lackE_len lo hi gain) B.C B.C.length
  unfold planE
  simp only [List.length_append, List.length_map]
  omega
theorem planV_len (B : Bk) (lo hi gain : Int) (L : List Prc) : (planV B lo hi gain L).length ≤ 60 := by
  unfold planV
  split
  · next h => exact (plan_len h).1
  · simp
/-- Numbers rise, so a channel is found at its place. -/
theorem atC_own {C : List Chn} (h : idsB C = true) {k : Nat} (hk : k < C.length) : atC C C[k].id = some k := by
  refine atC_some hk rfl (fun j hj hlt => ?_)
  have hs : ∀ i, i + 1 < C.length → ∀ (h1 : i < C.length) (h2 : i + 1 < C.length), C[i].id < C[i + 1].id := by
    intro i hi h1 h2
    simp only [idsB, List.all_eq_true, List.mem_range] at h
    have := h (i + 1) hi
    unfold idAt at this
    rw [List.getElem?_eq_getElem h2, show i + 1 - 1 = i by omega, List.getElem?_eq_getElem h1] at this
    simp at this
    exact this.2
  have up : ∀ d i, (hi : i < C.length) → (hd : i + d + 1 < C.length) → C[i].id < (C[i + d + 1]'hd).id := by
    intro d
    induction d with
    | zero => intro i hi hd; exact hs i hd hi hd
    | succ d ih =>
      intro i hi hd
      have a := ih i hi (by omega)
      have b := hs (i + d + 1) (by omega) (by omega) (by omega)
      have e : i + (d + 1) + 1 = i + d + 1 + 1 := by omega
      simp only [e] at *
      exact Int.lt_trans a b
  have := up (k - j - 1) j hj (by omega)
  have e : j + (k - j - 1) + 1 = k := by omega
  simp only [e] at this
  omega
theorem atI_own {C : List Chn} (h : idsB C = true) {k : Nat} (hk : k < C.length) : atI C C[k].id = (k : Int) := atI_some (atC_own h hk)
/-- The move of a price with n on its edge. -/
def moveP (p : Prc) (n : Int) : List Mov := if 0 < n then [⟨p.fr, p.to, n, p.pp⟩] else []
/-- The moves of the first k prices, whose edges begin at s. -/
def movesTo (L : List Prc) (F : List Int) (s : Nat) : Nat → List Mov
  | 0 => []
  | k + 1 => movesTo L F s k ++ (match L[k]?, F[s + k]? with | some p, some n => moveP p n | _, _ => [])
theorem movesTo_step {L : List Prc} {F : List Int} {s k : Nat} (hk : k < L.length) (hf : s + k < F.length) : movesTo L F s (k + 1) = movesTo L F s k ++ moveP L[k] F[s + k] := by
  simp [movesTo, List.getElem?_eq_getElem hk, List.getElem?_eq_getElem hf]
theorem movesTo_len (L : List Prc) (F : List Int) (s : Nat) : ∀ k, (movesTo L F s k).length ≤ k
  | 0 => by simp [movesTo]
  | k + 1 => by
    have := movesTo_len L F s k
    unfold movesTo
    rw [List.length_append]
    cases L[k]? with
    | none => simp; omega
    | some p =>
      cases F[s + k]? with
      | none => simp; omega
      | some n =>
        simp only [moveP]
        split <;> simp <;> omega
end Go.Proofs.Ytjdbedlgkngdkaa
