/- Lines in order: what a posting does to a ledger. -/
import Derived.Test.YtfbkhnbbcbccfaaAddMath
namespace Go.Proofs.Ytfbkhnbbcbccfaa
set_option linter.unusedVariables false
/-- Accounts in order, right, no amount 0. -/
def Good (L : List Ln) : Prop := L.Pairwise (fun x y => lessB x.k x.c y.k y.c = true) ∧ ∀ x ∈ L, accB x.k x.c = true ∧ x.a ≠ 0
theorem less_iff {k c k' c' : Int} : lessB k c k' c' = true ↔ k < k' ∨ (k = k' ∧ c < c') := by simp [lessB]
theorem less_trans {a b c d e f : Int} (h : lessB a b c d = true) (h' : lessB c d e f = true) : lessB a b e f = true := by
  rw [less_iff] at *; omega
theorem Good.tail {x : Ln} {L : List Ln} (h : Good (x :: L)) : Good L := ⟨(List.pairwise_cons.1 h.1).2, fun y hy => h.2 y (List.mem_cons_of_mem _ hy)⟩
theorem Good.head {x : Ln} {L : List Ln} (h : Good (x :: L)) : ∀ y ∈ L, lessB x.k x.c y.k y.c = true := (List.pairwise_cons.1 h.1).1
theorem Good.nil : Good [] := ⟨List.Pairwise.nil, by simp⟩
def rank (x : Ln) : Int := if x.k < 6 then x.k else 5 + (x.k - 6) * 99 + x.c
theorem rank_pos {x : Ln} (h : accB x.k x.c = true) : 1 ≤ rank x ∧ rank x ≤ 302 := by
  unfold accB at h; unfold rank
  by_cases h6 : x.k < 6
  · simp [h6] at h ⊢; omega
  · simp [h6] at h ⊢; omega
theorem rank_less {x y : Ln} (hx : accB x.k x.c = true) (hy : accB y.k y.c = true) (h : lessB x.k x.c y.k y.c = true) : rank x < rank y := by
  rw [less_iff] at h
  unfold accB at hx hy; unfold rank
  by_cases h6 : x.k < 6
  · by_cases h7 : y.k < 6
    · simp [h6, h7] at hx hy ⊢; omega
    · simp [h6, h7] at hx hy ⊢; omega
  · by_cases h7 : y.k < 6
    · simp [h6, h7] at hx hy ⊢; omega
    · simp [h6, h7] at hx hy ⊢; omega
theorem good_rank : ∀ (L : List Ln), Good L → ∀ x ∈ L, (L.length : Int) ≤ 302 ∧ ∀ b : Int, (∀ y ∈ L, b < rank y) → b + L.length ≤ 302
  | [], _ => by simp
  | x :: L, h => by
    have hx := h.2 x (List.mem_cons_self ..)
    have hrx := rank_pos hx.1
    have key : ∀ b : Int, (∀ y ∈ x :: L, b < rank y) → b + ((x :: L).length : Int) ≤ 302 := by
      intro b hb
      have h1 := hb x (List.mem_cons_self ..)
      cases L with
      | nil => simp; omega
      | cons z M =>
        have h2 := (good_rank (z :: M) h.tail z (List.mem_cons_self ..)).2 (rank x) (fun y hy => rank_less hx.1 (h.tail.2 y hy).1 (h.head y hy))
        simp at h2 ⊢
        omega
    intro y hy
    refine ⟨?_, key⟩
    have := key 0 (fun y hy => by have := rank_pos (h.2 y hy).1; omega)
    omega
theorem good_len {L : List Ln} (h : Good L) : L.length ≤ 302 := by
  cases L with
  | nil => simp
  | cons x L => have := (good_rank _ h x (List.mem_cons_self ..)).1; omega
theorem good_take {L : List Ln} (h : Good L) (n : Nat) : Good (L.take n) := ⟨h.1.sublist (List.take_sublist _ _), fun x hx => h.2 x ((List.take_sublist _ _).subset hx)⟩
theorem good_of_ok {L : List Ln} {n : Nat} (hn : n ≤ L.length) (h : ∀ j, j < n → okAt L j = true) : Good (L.take n) := by
  have adj : ∀ j (hj : j + 1 < n), lessB (L[j]'(by omega)).k (L[j]'(by omega)).c (L[j + 1]'(by omega)).k (L[j + 1]'(by omega)).c = true := by
    intro j hj
    have := h (j + 1) hj
    rw [okAt_gen (by omega)] at this
    simp only [Bool.and_eq_true] at this
    have h2 := this.1.1.1.2
    simpa using h2
  have far : ∀ d j (hj : j + d + 1 < n), lessB (L[j]'(by omega)).k (L[j]'(by omega)).c (L[j + d + 1]'(by omega)).k (L[j + d + 1]'(by omega)).c = true := by
    intro d
    induction d with
    | zero => intro j hj; exact adj j hj
    | succ d ih =>
      intro j hj
      exact less_trans (ih j (by omega)) (adj (j + d + 1) (by omega))
  constructor
  · rw [List.pairwise_iff_getElem]
    intro i j hi hj hij
    simp only [List.length_take] at hi hj
    rw [List.getElem_take, List.getElem_take]
    have := far (j - i - 1) i (by omega)
    have e : i + (j - i - 1) + 1 = j := by omega
    simp only [e] at this
    exact this
  · intro x hx
    obtain ⟨i, hi, rfl⟩ := List.getElem_of_mem hx
    simp only [List.length_take] at hi
    rw [List.getElem_take]
    have := h i (by omega)
    rw [okAt_gen (by omega)] at this
    simp only [Bool.and_eq_true, decide_eq_true_eq] at this
    exact ⟨this.1.1.1.1, this.1.2⟩
theorem lines_good {L : List Ln} (h : linesB L = true) : Good L := by
  have := good_of_ok (Nat.le_refl L.length) (fun j hj => linesB_at h j hj)
  rwa [List.take_length] at this
theorem lines_mem_range {L : List Ln} (h : linesB L = true) : ∀ x ∈ L, rangeB x.a = true := by
  intro x hx
  obtain ⟨i, hi, rfl⟩ := List.getElem_of_mem hx
  have := linesB_at h i hi
  rw [okAt_gen hi] at this
  simp only [Bool.and_eq_true] at this
  exact this.1.1.2
theorem lines_sum {L : List Ln} (h : linesB L = true) : sumL L = 0 := by
  unfold linesB at h
  simp only [Bool.and_eq_true, decide_eq_true_eq] at h
  exact h.2
theorem good_ok {L : List Ln} (h : Good L) (hr : ∀ x ∈ L, rangeB x.a = true) : ∀ j, j < L.length → okAt L j = true := by
  have hl := good_len h
  intro j hj
  rw [okAt_gen hj]
  have h1 := h.2 L[j] (List.getElem_mem hj)
  have h2 := hr L[j] (List.getElem_mem hj)
  have h3 : (decide (j = 0) || lessB L[j - 1].k L[j - 1].c L[j].k L[j].c) = true := by
    by_cases h0 : j = 0
    · simp [h0]
    · have := (List.pairwise_iff_getElem.1 h.1) (j - 1) j (by omega) hj (by omega)
      simp [this]
  rw [h1.1, h2, h3]
  simp [h1.2]; omega
theorem lines_iff {L : List Ln} : linesB L = true ↔ Good L ∧ (∀ x ∈ L, rangeB x.a = true) ∧ sumL L = 0 :=
  ⟨fun h => ⟨lines_good h, lines_mem_range h, lines_sum h⟩, fun ⟨h, hr, hs⟩ => by rw [linesB_good (good_ok h hr), hs]; rfl⟩
theorem foldl_add (L : List Int) : ∀ a : Int, L.foldl (· + ·) a = a + L.foldl (· + ·) 0 := by
  induction L with
  | nil => intro a; simp
  | cons x t ih => intro a; simp only [List.foldl_cons]; rw [ih (a + x), ih (0 + x)]; omega
theorem sumL_cons (x : Ln) (L : List Ln) : sumL (x :: L) = x.a + sumL L := by
  unfold sumL
  simp only [List.map_cons, List.foldl_cons]
  rw [foldl_add]; omega
theorem mem_addG {x z : Ln} : ∀ {L : List Ln}, z ∈ addG x false L → (z.k = x.k ∧ z.c = x.c) ∨ z ∈ L
  | [], h => by simp [addG] at h; subst h; exact Or.inl ⟨rfl, rfl⟩
  | y :: L, h => by
    simp only [addG] at h
    split at h
    · rcases List.mem_cons.1 h with rfl | h
      · exact Or.inr (List.mem_cons_self ..)
      · rcases mem_addG h with h | h
        · exact Or.inl h
        · exact Or.inr (List.mem_cons_of_mem _ h)
    · split at h
      · rename_i hc
        split at h
        · exact Or.inr (List.mem_cons_of_mem _ h)
        · rcases List.mem_cons.1 h with rfl | h
          · exact Or.inl hc
          · exact Or.inr (List.mem_cons_of_mem _ h)
      · rcases List.mem_cons.1 h with rfl | h
        · exact Or.inl ⟨rfl, rfl⟩
        · exact Or.inr h
theorem good_cons {x : Ln} {L : List Ln} (h : Good L) (hx : accB x.k x.c = true) (h0 : x.a ≠ 0) (hl : ∀ y ∈ L, lessB x.k x.c y.k y.c = true) : Good (x :: L) :=
  ⟨List.pairwise_cons.2 ⟨hl, h.1⟩, fun y hy => by
    rcases List.mem_cons.1 hy with rfl | hy
    · exact ⟨hx, h0⟩
    · exact h.2 y hy⟩
theorem less_of_not {a b c d : Int} (h : ¬ lessB a b c d = true) (hne : ¬ (a = c ∧ b = d)) : lessB c d a b = true := by
  rw [less_iff] at *; omega
theorem addG_good {x : Ln} (hx : accB x.k x.c = true) (h0 : x.a ≠ 0) : ∀ {L : List Ln}, Good L → Good (addG x false L)
  | [], _ => ⟨by simp [addG], by intro z hz; simp [addG] at hz; subst hz; exact ⟨hx, h0⟩⟩
  | y :: L, h => by
    have ih := addG_good hx h0 h.tail
    have hy := h.2 y (List.mem_cons_self ..)
    simp only [addG]
    split
    · rename_i hl
      refine good_cons ih hy.1 hy.2 (fun z hz => ?_)
      rcases mem_addG hz with ⟨e1, e2⟩ | hz
      · rw [e1, e2]; exact hl
      · exact h.head z hz
    · rename_i hl
      split
      · split
        · exact h.tail
        · rename_i hne
          exact good_cons h.tail hy.1 hne h.head
      · rename_i hne
        have hxy := less_of_not hl hne
        refine good_cons h hx h0 (fun z hz => ?_)
        rcases List.mem_cons.1 hz with rfl | hz
        · exact hxy
        · exact less_trans hxy (h.head z hz)
theorem sumL_addG (x : Ln) : ∀ (L : List Ln), sumL (addG x false L) = sumL L + x.a
  | [] => by simp [addG, sumL]
  | y :: L => by
    have ih := sumL_addG x L
    simp only [addG]
    split
    · rw [sumL_cons, sumL_cons, ih]; omega
    · split
      · split
        · rw [sumL_cons]; omega
        · rw [sumL_cons, sumL_cons]; dsimp only; omega
      · rw [sumL_cons, sumL_cons]; omega
theorem balF_none {k c : Int} : ∀ {L : List Ln}, (∀ y ∈ L, ¬ (y.k = k ∧ y.c = c)) → balF k c L = 0
  | [], _ => rfl
  | y :: L, h => by
    unfold balF
    rw [if_neg (h y (List.mem_cons_self ..))]
    exact balF_none (fun z hz => h z (List.mem_cons_of_mem _ hz))
theorem not_same {a b c d : Int} (h : lessB a b c d = true) : ¬ (c = a ∧ d = b) := by
  rw [less_iff] at h; omega
theorem balF_addG {x : Ln} (k c : Int) : ∀ {L : List Ln}, Good L → balF k c (addG x false L) = balF k c L + (if x.k = k ∧ x.c = c then x.a else 0)
  | [], _ => by simp [addG, balF]
  | y :: L, h => by
    have ih := balF_addG (x := x) k c h.tail
    simp only [addG]
    split
    · rename_i hl
      simp only [balF]
      by_cases hy : y.k = k ∧ y.c = c
      · obtain ⟨rfl, rfl⟩ := hy
        have := not_same hl
        simp [this]
      · rw [if_neg hy, if_neg hy, ih]
    · split
      · rename_i hxy
        obtain ⟨e1, e2⟩ := hxy
        split
        · rename_i hz
          by_cases hy : y.k = k ∧ y.c = c
          · obtain ⟨rfl, rfl⟩ := hy
            rw [balF_none (fun z hz => not_same (h.head z hz))]
            simp [balF, e1, e2]; omega
          · have hx : ¬ (x.k = k ∧ x.c = c) := by rw [← e1, ← e2]; exact hy
            simp only [balF]
            rw [if_neg hy, if_neg hx]; omega
        · by_cases hy : y.k = k ∧ y.c = c
          · obtain ⟨rfl, rfl⟩ := hy
            simp [balF, e1, e2]
          · have hx : ¬ (x.k = k ∧ x.c = c) := by rw [← e1, ← e2]; exact hy
            simp only [balF]
            rw [if_neg hy, if_neg hx]; simp [hy]
      · rename_i hl hne
        have hxy := less_of_not hl hne
        by_cases hx : x.k = k ∧ x.c = c
        · obtain ⟨rfl, rfl⟩ := hx
          have : balF x.k x.c (y :: L) = 0 := balF_none (fun z hz => by
            rcases List.mem_cons.1 hz with rfl | hz
            · exact not_same hxy
            · exact not_same (less_trans hxy (h.head z hz)))
          rw [this]
          simp [balF]
        · have : balF k c (x :: y :: L) = balF k c (y :: L) := by rw [balF, if_neg hx]
          rw [this, if_neg hx]; omega
theorem mem_bal {x : Ln} : ∀ {L : List Ln}, Good L → x ∈ L → balF x.k x.c L = x.a
  | [], _, h => by simp at h
  | y :: L, h, hx => by
    unfold balF
    rcases List.mem_cons.1 hx with rfl | hx
    · simp
    · rw [if_neg (fun e => not_same (h.head x hx) ⟨e.1.symm, e.2.symm⟩)]
      exact mem_bal h.tail hx
theorem bal_mem {k c : Int} : ∀ {L : List Ln}, balF k c L ≠ 0 → ⟨k, c, balF k c L⟩ ∈ L
  | [], h => by simp [balF] at h
  | y :: L, h => by
    unfold balF at h ⊢
    by_cases hy : y.k = k ∧ y.c = c
    · obtain ⟨rfl, rfl⟩ := hy
      simp
    · rw [if_neg hy] at h ⊢
      exact List.mem_cons_of_mem _ (bal_mem h)
theorem len_addG {x : Ln} (h0 : x.a ≠ 0) : ∀ {L : List Ln}, Good L → ((addG x false L).length : Int) = L.length + (if balF x.k x.c L = 0 then 1 else if balF x.k x.c L + x.a = 0 then -1 else 0)
  | [], _ => by simp [addG, balF]
  | y :: L, h => by
    have ih := len_addG h0 h.tail
    have hy := h.2 y (List.mem_cons_self ..)
    simp only [addG]
    split
    · rename_i hl
      have : balF x.k x.c (y :: L) = balF x.k x.c L := by rw [balF, if_neg (fun e => not_same hl ⟨e.1.symm, e.2.symm⟩)]
      rw [this]
      simp only [List.length_cons]
      omega
    · split
      · rename_i hxy
        have : balF x.k x.c (y :: L) = y.a := by rw [balF, if_pos hxy]
        rw [this, if_neg hy.2]
        split
        · simp; omega
        · simp
      · rename_i hl hne
        have hxy := less_of_not hl hne
        have : balF x.k x.c (y :: L) = 0 := balF_none (fun z hz => by
            rcases List.mem_cons.1 hz with rfl | hz
            · exact not_same hxy
            · exact not_same (less_trans hxy (h.head z hz)))
        rw [this, if_pos rfl]; simp
theorem addAll_good : ∀ {P : List Ln} {L : List Ln}, (∀ x ∈ P, accB x.k x.c = true ∧ x.a ≠ 0) → Good L → Good (addAll L P)
  | [], L, _, h => h
  | x :: P, L, hp, h => by
    have hx := hp x (List.mem_cons_self ..)
    exact addAll_good (P := P) (fun y hy => hp y (List.mem_cons_of_mem _ hy)) (addG_good hx.1 hx.2 h)
theorem addAll_sum : ∀ (P : List Ln) (L : List Ln), sumL (addAll L P) = sumL L + sumL P
  | [], L => by simp [addAll, sumL]
  | x :: P, L => by
    have := addAll_sum P (addG x false L)
    rw [sumL_addG] at this
    show sumL (addAll (addG x false L) P) = _
    rw [this, sumL_cons]; omega
theorem addAll_bal (k c : Int) : ∀ {P : List Ln} {L : List Ln}, Good P → Good L → balF k c (addAll L P) = balF k c L + balF k c P
  | [], L, _, h => by simp [addAll, balF]
  | x :: P, L, hp, h => by
    have hx := hp.2 x (List.mem_cons_self ..)
    have ih := addAll_bal k c hp.tail (addG_good hx.1 hx.2 h)
    show balF k c (addAll (addG x false L) P) = _
    rw [ih, balF_addG k c h]
    simp only [balF]
    by_cases e : x.k = k ∧ x.c = c
    · obtain ⟨rfl, rfl⟩ := e
      rw [balF_none (L := P) (fun z hz => not_same (hp.head z hz))]
      simp
    · rw [if_neg e, if_neg e]; omega
theorem take_bal {P : List Ln} (hp : Good P) {n : Nat} (hn : n < P.length) : balF P[n].k P[n].c (P.take n) = 0 := by
  refine balF_none (fun y hy => ?_)
  obtain ⟨i, hi, rfl⟩ := List.getElem_of_mem hy
  simp only [List.length_take] at hi
  rw [List.getElem_take]
  have := (List.pairwise_iff_getElem.1 hp.1) i n (by omega) hn (by omega)
  rw [less_iff] at this; omega
theorem addAll_at {P L : List Ln} (hp : Good P) (hl : Good L) {n : Nat} (hn : n < P.length) : balF P[n].k P[n].c (addAll L (P.take n)) = balF P[n].k P[n].c L := by
  rw [addAll_bal _ _ (good_take hp n) hl, take_bal hp hn]; omega
theorem range_zero : rangeB 0 = true := rfl
/-- When the ledger behind a posting is right. -/
theorem post_iff {id : Int} {L P : List Ln} (h0 : 0 ≤ id) (h1 : id ≤ 1125899906842624) (hL : linesB L = true) (hP : linesB P = true) :
    ledgB id (addAll L P) = true ↔ ∀ x ∈ P, rangeB (balF x.k x.c L + x.a) = true := by
  obtain ⟨gL, rL, sL⟩ := lines_iff.1 hL
  obtain ⟨gP, rP, sP⟩ := lines_iff.1 hP
  have gA := addAll_good gP.2 gL
  have hlen := good_len gA
  have hs : sumL (addAll L P) = 0 := by rw [addAll_sum, sL, sP]; rfl
  constructor
  · intro h x hx
    unfold ledgB at h
    simp only [Bool.and_eq_true] at h
    have hr := lines_mem_range h.2
    have e : balF x.k x.c (addAll L P) = balF x.k x.c L + x.a := by rw [addAll_bal _ _ gP gL, mem_bal gP hx]
    by_cases hz : balF x.k x.c L + x.a = 0
    · rw [hz]; rfl
    · rw [← e] at hz ⊢
      exact hr _ (bal_mem hz)
  · intro h
    have : linesB (addAll L P) = true := by
      refine lines_iff.2 ⟨gA, fun z hz => ?_, hs⟩
      have e := mem_bal gA hz
      rw [addAll_bal _ _ gP gL] at e
      by_cases hp : balF z.k z.c P = 0
      · rw [hp, Int.add_zero] at e
        rw [← e]
        have : balF z.k z.c L ≠ 0 := by rw [e]; exact (gA.2 z hz).2
        exact rL _ (bal_mem this)
      · have hm := bal_mem hp
        have := h _ hm
        dsimp only at this
        rw [e] at this
        exact this
    unfold ledgB
    rw [this]
    simp
    omega
end Go.Proofs.Ytfbkhnbbcbccfaa
