/- What a posting does to what is owned; a posting and its reverse. -/
import Derived.Test.YtecjjkgdgmjgmaaPSp
import Derived.Test.YtecjjkgdgmjgmaaLedg
import Derived.Test.YtecjjkgdgmjgmaaWorths
namespace Go.Proofs.Ytecjjkgdgmjgmaa
set_option linter.unusedVariables false
theorem sumW_cons (x : Ln) (L : List Ln) : sumW (x :: L) = (if ownB x = true then x.a else 0) + sumW L := by
  unfold sumW
  rw [List.map_cons, List.foldl_cons, foldl_add]
  omega
theorem sumW_addG (x : Ln) : ∀ (L : List Ln), sumW (addG x false L) = sumW L + (if ownB x = true then x.a else 0)
  | [] => by simp only [addG, sumW_cons]; omega
  | y :: L => by
    have ih := sumW_addG x L
    simp only [addG]
    split
    · rw [sumW_cons, sumW_cons, ih]; omega
    · split
      · rename_i he
        have ho : ownB y = ownB x := by unfold ownB; rw [he.1]
        split
        · rename_i hz
          rw [sumW_cons, ho]
          split <;> omega
        · rw [sumW_cons, sumW_cons, ← ho]
          have h1 : ownB ⟨y.k, y.c, y.a + x.a⟩ = ownB y := rfl
          rw [h1]
          split <;> (try dsimp only) <;> omega
      · rw [sumW_cons, sumW_cons]; omega
theorem addAll_worth : ∀ (P : List Ln) (L : List Ln), sumW (addAll L P) = sumW L + sumW P
  | [], L => by simp [addAll, sumW]
  | x :: P, L => by
    have ih := addAll_worth P (addG x false L)
    have e : addAll L (x :: P) = addAll (addG x false L) P := rfl
    rw [e, ih, sumW_addG, sumW_cons]; omega
/-- What the other accounts bear. -/
def othB (x : Ln) : Bool := decide (x.k = 2) || decide (x.k = 3) || decide (x.k = 4) || decide (x.k = 5)
def sumN (L : List Ln) : Int := (L.map fun x => if othB x = true then x.a else 0).foldl (· + ·) 0
theorem sumN_cons (x : Ln) (L : List Ln) : sumN (x :: L) = (if othB x = true then x.a else 0) + sumN L := by
  unfold sumN
  rw [List.map_cons, List.foldl_cons, foldl_add]
  omega
theorem sumN_take (L : List Ln) (k : Nat) (h : k < L.length) : sumN (L.take (k + 1)) = sumN (L.take k) + (if othB L[k] = true then L[k].a else 0) := by
  unfold sumN
  rw [List.take_succ_eq_append_getElem h, List.map_append, List.foldl_append]; rfl
theorem sum_split : ∀ (P : List Ln), (∀ x ∈ P, accB x.k x.c = true) → sumL P = sumW P + sumN P
  | [], _ => rfl
  | x :: P, h => by
    have ih := sum_split P (fun y hy => h y (List.mem_cons_of_mem _ hy))
    have hx := accB_bounds (h x (List.mem_cons_self ..))
    rw [sumL_cons, sumW_cons, sumN_cons, ih]
    by_cases h1 : ownB x = true
    · have h2 : othB x = false := by simp [ownB, othB] at h1 ⊢; omega
      rw [if_pos h1, h2]; simp; omega
    · have h2 : othB x = true := by simp [ownB, othB] at h1 ⊢; omega
      rw [if_neg h1, if_pos h2]; omega
theorem sumW_bound : ∀ (L : List Ln), (∀ x ∈ L, -1125899906842624 ≤ x.a ∧ x.a ≤ 1125899906842624) → -1125899906842624 * (L.length : Int) ≤ sumW L ∧ sumW L ≤ 1125899906842624 * (L.length : Int)
  | [], _ => by simp [sumW]
  | x :: L, h => by
    have ih := sumW_bound L (fun y hy => h y (List.mem_cons_of_mem _ hy))
    have hx := h x (List.mem_cons_self ..)
    rw [sumW_cons, List.length_cons]
    push_cast
    split <;> omega
theorem sumN_bound : ∀ (L : List Ln), (∀ x ∈ L, -1125899906842624 ≤ x.a ∧ x.a ≤ 1125899906842624) → -1125899906842624 * (L.length : Int) ≤ sumN L ∧ sumN L ≤ 1125899906842624 * (L.length : Int)
  | [], _ => by simp [sumN]
  | x :: L, h => by
    have ih := sumN_bound L (fun y hy => h y (List.mem_cons_of_mem _ hy))
    have hx := h x (List.mem_cons_self ..)
    rw [sumN_cons, List.length_cons]
    push_cast
    split <;> omega
theorem lines_amt {L : List Ln} (h : linesB L = true) : ∀ x ∈ L, -1125899906842624 ≤ x.a ∧ x.a ≤ 1125899906842624 := fun x hx => by
  have := lines_mem_range h x hx
  simpa [rangeB] using this
theorem code0 {id : Int} {L : List Ln} {pid : Int} {P : List Ln} (h : pcode id L pid P = 0) : ledgB id L = true ∧ postB pid P = true ∧ id < pid ∧ ledgB pid (addAll L P) = true := by
  unfold pcode at h
  split at h
  · simp at h
  · rename_i h1
    split at h
    · simp at h
    · split at h
      · simp at h
      · rename_i h2 h3
        simp at h1 h3
        exact ⟨h1.1, h1.2, by omega, h3⟩
theorem worth_moves {id : Int} {L : List Ln} {pid : Int} {P : List Ln} (h : pcode id L pid P = 0) : worthV pid (addAll L P) = worthV id L - sumN P ∧ -1125899906842624 * 320 ≤ worthV id L ∧ worthV id L ≤ 1125899906842624 * 320 := by
  obtain ⟨h1, h2, h3, h4⟩ := code0 h
  obtain ⟨p1, p2, p3, p4, p5⟩ := post_parts h2
  have hs := lines_sum p5
  have hsp := sum_split P (fun x hx => ((lines_good p5).2 x hx).1)
  have hb := sumW_bound L (lines_amt (ledgB_lines h1).1)
  have hn := (ledgB_lines h1).2
  unfold worthV
  rw [if_pos h1, if_pos h4, addAll_worth]
  refine ⟨by omega, ?_, ?_⟩ <;> omega
theorem sumN_small {pid : Int} {P : List Ln} (h : postB pid P = true) (k : Nat) (hk : k ≤ P.length) : -9007199254740992 ≤ sumN (P.take k) ∧ sumN (P.take k) ≤ 9007199254740992 := by
  obtain ⟨p1, p2, p3, p4, p5⟩ := post_parts h
  have hb := sumN_bound (P.take k) (fun x hx => lines_amt p5 x (List.mem_of_mem_take hx))
  have hl : (P.take k).length ≤ 8 := by rw [List.length_take]; omega
  omega
/-- The same lines, the other way round. -/
def negL (P : List Ln) : List Ln := P.map fun x => ⟨x.k, x.c, -x.a⟩
theorem good_ext {L M : List Ln} (hL : Good L) (hM : Good M) (h : ∀ k c, balF k c L = balF k c M) : L = M := by
  refine sorted_is hM ?_ (hL.1.imp fun {x y} hxy => ?_)
  · rw [List.perm_ext_iff_of_nodup (good_nodup hL) (good_nodup hM)]
    intro x
    constructor
    · intro hx
      have hb := mem_bal hL hx
      have hne : balF x.k x.c M ≠ 0 := by rw [← h, hb]; exact (hL.2 x hx).2
      have := bal_mem hne
      rw [← h, hb] at this
      exact this
    · intro hx
      have hb := mem_bal hM hx
      have hne : balF x.k x.c L ≠ 0 := by rw [h, hb]; exact (hM.2 x hx).2
      have := bal_mem hne
      rw [h, hb] at this
      exact this
  · rw [Bool.eq_false_iff]
    intro h2
    rw [less_iff] at hxy h2
    omega
theorem neg_good {P : List Ln} (h : Good P) : Good (negL P) := by
  refine ⟨?_, ?_⟩
  · unfold negL
    rw [List.pairwise_map]
    exact h.1
  · intro x hx
    obtain ⟨y, hy, rfl⟩ := List.mem_map.1 hx
    have := h.2 y hy
    exact ⟨this.1, by have := this.2; dsimp only; omega⟩
theorem neg_sum : ∀ (P : List Ln), sumL (negL P) = - sumL P
  | [] => rfl
  | x :: P => by
    have ih := neg_sum P
    have e : negL (x :: P) = ⟨x.k, x.c, -x.a⟩ :: negL P := rfl
    rw [e, sumL_cons, sumL_cons, ih]; dsimp only; omega
theorem neg_lines {P : List Ln} (h : linesB P = true) : linesB (negL P) = true := by
  rw [lines_iff] at h ⊢
  refine ⟨neg_good h.1, ?_, by rw [neg_sum, h.2.2]; rfl⟩
  intro x hx
  obtain ⟨y, hy, rfl⟩ := List.mem_map.1 hx
  have := h.2.1 y hy
  simp [rangeB] at this ⊢
  omega
theorem neg_bal (k c : Int) : ∀ (P : List Ln), balF k c (negL P) = - balF k c P
  | [] => rfl
  | x :: P => by
    have ih := neg_bal k c P
    have e : negL (x :: P) = ⟨x.k, x.c, -x.a⟩ :: negL P := rfl
    rw [e]
    simp only [balF]
    split <;> simp_all
theorem back_again {L P : List Ln} (hL : Good L) (hP : Good P) : addAll (addAll L P) (negL P) = L := by
  have h1 := addAll_good hP.2 hL
  have h2 := addAll_good (neg_good hP).2 h1
  refine good_ext h2 hL fun k c => ?_
  rw [addAll_bal k c (neg_good hP) h1, addAll_bal k c hP hL, neg_bal]
  omega
theorem neg_len (P : List Ln) : (negL P).length = P.length := by simp [negL]
/-- What a posting's reverse says. -/
theorem code_back {id : Int} {L : List Ln} {pid : Int} {P : List Ln} (h : pcode id L pid P = 0) : (pid < 1125899906842624 → pcode pid (addAll L P) (pid + 1) (negL P) = 0 ∧ pL pid (addAll L P) (pid + 1) (negL P) = L) ∧ (pid = 1125899906842624 → pcode pid (addAll L P) (pid + 1) (negL P) = 1) := by
  obtain ⟨h1, h2, h3, h4⟩ := code0 h
  obtain ⟨p1, p2, p3, p4, p5⟩ := post_parts h2
  constructor
  · intro hp
    have hq : postB (pid + 1) (negL P) = true := by
      simp only [postB, Bool.and_eq_true, decide_eq_true_eq, neg_len]
      exact ⟨⟨⟨⟨by omega, by omega⟩, p3⟩, p4⟩, neg_lines p5⟩
    have hb : addAll (addAll L P) (negL P) = L := back_again (lines_good (ledgB_lines h1).1) (lines_good p5)
    have h0 : ledgB (pid + 1) L = true := by
      simp only [ledgB, Bool.and_eq_true, decide_eq_true_eq]
      exact ⟨⟨⟨by omega, by omega⟩, (ledgB_lines h1).2⟩, (ledgB_lines h1).1⟩
    have hc : pcode pid (addAll L P) (pid + 1) (negL P) = 0 := by
      unfold pcode
      rw [h4, hq, hb, h0, if_neg (by simp), if_neg (by omega), if_neg (by simp)]
    refine ⟨hc, ?_⟩
    unfold pL
    rw [if_pos hc, hb]
  · intro hp
    unfold pcode
    rw [if_pos]
    right
    simp [postB, hp]
end Go.Proofs.Ytecjjkgdgmjgmaa
