/- A sector that is torn over another. -/
import Derived.Test.YtecjjkgdgmjgmaaDoorSeM
namespace Go.Proofs.YtecjjkgdgmjgmaaDoor
open Go.RowKit Go.Deep
set_option linter.unusedVariables false
set_option linter.unusedSimpArgs false
theorem cut_get {L : List UInt8} {p s j : Nat} (h : j < s) : (cut L p s)[j]? = L[p + j]? := by
  unfold cut
  rw [List.getElem?_take, if_pos h, List.getElem?_drop]
theorem digs_inj {m n s : Nat} (hm : m < 256 ^ s) (hn : n < 256 ^ s) (h : digs m s = digs n s) : m = n := by
  rw [← numL_digs s m hm, ← numL_digs s n hn, h]
/-- The first n bytes of Q, then P's. -/
def mixL (P Q : List UInt8) (n : Nat) : List UInt8 := Q.take n ++ P.drop n
theorem mix_get {P Q : List UInt8} {n i : Nat} (hl : P.length = Q.length) (hn : n ≤ Q.length) : (mixL P Q n)[i]? = if i < n then Q[i]? else P[i]? := by
  unfold mixL
  rw [List.getElem?_append, List.length_take, Nat.min_eq_left hn]
  split
  · rw [List.getElem?_take, if_pos (by assumption)]
  · rw [List.getElem?_drop]; congr 1; omega
theorem mix_len {P Q : List UInt8} {n : Nat} (hl : P.length = Q.length) (hn : n ≤ Q.length) : (mixL P Q n).length = P.length := by
  unfold mixL
  rw [List.length_append, List.length_take, List.length_drop]
  omega
theorem sec_cuts (q e : Nat) (L : List UInt8) (hl : L.length ≤ 100) :
    cut (secL q e L) 0 4 = [74] ++ digs q 3 ∧ cut (secL q e L) 4 3 = digs e 3 ∧ cut (secL q e L) 125 3 = digs e 3 := by
  refine ⟨?_, ?_, ?_⟩
  · exact cut_at (A := []) (C := digs e 3 ++ digs L.length 1 ++ L ++ List.replicate (114 - L.length) 0 ++ digs q 3 ++ digs e 3) (by simp [secL, List.append_assoc]) rfl (by simp [digs_length])
  · exact cut_at (A := [74] ++ digs q 3) (C := digs L.length 1 ++ L ++ List.replicate (114 - L.length) 0 ++ digs q 3 ++ digs e 3) (by simp [secL, List.append_assoc]) (by simp [digs_length]) (digs_length _ _)
  · exact cut_at (A := [74] ++ digs q 3 ++ digs e 3 ++ digs L.length 1 ++ L ++ List.replicate (114 - L.length) 0 ++ digs q 3) (C := []) (by simp [secL, List.append_assoc]) (by simp [digs_length]; omega) (digs_length _ _)
/-- What is read of the mix is the old or the new. -/
theorem mix_read {q e f : Nat} {L M : List UInt8} {n : Nat} (hL : L.length ≤ 100) (hM : M.length ≤ 100) (hn : n ≤ 128) (he : e < 16777216) (hf : f < 16777216) (hef : e ≠ f)
    (h : srB (mixL (secL q e L) (secL q f M) n) = true) : mixL (secL q e L) (secL q f M) n = secL q e L ∨ mixL (secL q e L) (secL q f M) n = secL q f M := by
  obtain ⟨p0, p4, p125⟩ := sec_cuts q e L hL
  obtain ⟨q0, q4, q125⟩ := sec_cuts q f M hM
  have lP := secL_length (q := q) (e := e) hL
  have lQ := secL_length (q := q) (e := f) hM
  generalize secL q e L = P at *
  generalize secL q f M = Q at *
  have hlen : P.length = Q.length := by omega
  have hg := fun i => mix_get (P := P) (Q := Q) (n := n) (i := i) hlen (by omega)
  have hlm := mix_len (P := P) (Q := Q) (n := n) hlen (by omega)
  generalize mixL P Q n = X at *
  have hE : cut X 125 3 = cut X 4 3 := by
    unfold srB at h
    simp only [Bool.and_eq_true, decide_eq_true_eq] at h
    exact num_inj (by rw [cut_length (by omega), cut_length (by omega)]) h.1.2
  have hc : ∀ p s, (∀ j, j < s → X[p + j]? = P[p + j]?) → cut X p s = cut P p s := by
    intro p s hh
    apply List.ext_getElem?
    intro j
    by_cases hj : j < s
    · rw [cut_get hj, cut_get hj]; exact hh j hj
    · unfold cut; rw [List.getElem?_take, List.getElem?_take, if_neg hj, if_neg hj]
  have hd : ∀ p s, (∀ j, j < s → X[p + j]? = Q[p + j]?) → cut X p s = cut Q p s := by
    intro p s hh
    apply List.ext_getElem?
    intro j
    by_cases hj : j < s
    · rw [cut_get hj, cut_get hj]; exact hh j hj
    · unfold cut; rw [List.getElem?_take, List.getElem?_take, if_neg hj, if_neg hj]
  by_cases h125 : n ≤ 125
  · have t : cut X 125 3 = digs e 3 := by rw [hc 125 3 (fun j hj => by rw [hg, if_neg (by omega)]), p125]
    rw [t] at hE
    by_cases h7 : 7 ≤ n
    · have t2 : cut X 4 3 = digs f 3 := by rw [hd 4 3 (fun j hj => by rw [hg, if_pos (by omega)]), q4]
      rw [t2] at hE
      exact absurd (digs_inj (by omega) (by omega) hE) hef
    · left
      apply List.ext_getElem?
      intro i
      by_cases hi : i < n
      · by_cases h4 : i < 4
        · have a1 : (cut P 0 4)[i]? = (cut Q 0 4)[i]? := by rw [p0, q0]
          rw [cut_get h4, cut_get h4, Nat.zero_add] at a1
          rw [hg, if_pos hi, a1]
        · have a1 : (cut X 4 3)[i - 4]? = (cut P 4 3)[i - 4]? := by rw [← hE, p4]
          rw [cut_get (by omega), cut_get (by omega), show 4 + (i - 4) = i by omega] at a1
          exact a1
      · rw [hg, if_neg hi]
  · right
    have t : cut X 4 3 = digs f 3 := by rw [hd 4 3 (fun j hj => by rw [hg, if_pos (by omega)]), q4]
    rw [t] at hE
    apply List.ext_getElem?
    intro i
    by_cases hi : i < n
    · rw [hg, if_pos hi]
    · by_cases h128 : i < 128
      · have a1 : (cut X 125 3)[i - 125]? = (cut Q 125 3)[i - 125]? := by rw [hE, q125]
        rw [cut_get (by omega), cut_get (by omega), show 125 + (i - 125) = i by omega] at a1
        exact a1
      · rw [List.getElem?_eq_none (by omega), List.getElem?_eq_none (by omega)]
theorem mix_full {P Q : List UInt8} {n : Nat} (hl : P.length = Q.length) (hn : n = Q.length) : mixL P Q n = Q := by
  unfold mixL
  subst hn
  rw [List.take_length, ← hl, List.drop_length, List.append_nil]
theorem two_sec (w1 : World) (x0 x1 x2 y0 y1 y2 : Value) (t : TypeId) {W : World} (hW : W = (w1.alloc (.cells #[x0, x1, x2] t)).alloc (.cells #[y0, y1, y2] t)) :
    W.cell? ⟨w1.heap.size, 0, none⟩ = some x0 ∧ W.cell? ⟨w1.heap.size, 1, none⟩ = some x1 ∧ W.cell? ⟨w1.heap.size, 2, none⟩ = some x2 ∧ W.cell? ⟨w1.heap.size + 1, 0, none⟩ = some y0 ∧ W.cell? ⟨w1.heap.size + 1, 1, none⟩ = some y1 ∧ W.cell? ⟨w1.heap.size + 1, 2, none⟩ = some y2 := by
  subst hW
  simp
theorem OwnsB.read {w : World} {base : Nat} {p : Option Addr} {l c : Nat} {L : List UInt8} (ho : OwnsB w base (.slice p l c) L) : Cells w p (bys L) ∧ (p = none → c = 0) := by
  obtain ⟨a, cap, h, _, _, hn, hown, _⟩ := Own.of_owns ho
  injection h with e1 e2 e3
  subst e1 e3
  exact ⟨hown.one, hn⟩
/-- The bytes of a right sector. -/
theorem secb_right {q e : Int} {p : Option Addr} {l c : Nat} {L : List UInt8} (W : World) (hq : secB q e l = true) (hL : L.length = l) (hc : Cells W p (bys L)) (hn : p = none → c = 0) :
    Calls Tryd.prog 6 #[.agg #[.int .i64 q, .int .i64 e, .slice p l c]] W fun x w' => ∃ (g cp : Nat), x = .returned (.tuple #[.slice (some ⟨g, 0, none⟩) 128 cp, .bool true]) ∧ 128 ≤ cp ∧ cp ≤ 9223372036854775807 ∧ Hid (Cells w' (some ⟨g, 0, none⟩) (bys (secL q.toNat e.toNat L)) ∧ Keeps W w') := by
  subst hL
  have hl := (secB_true hq).2.2.2.2
  have hM : secR q e L = secL q.toNat e.toNat L := by unfold secR; rw [if_pos hq]
  have hlen := secL_length (q := q.toNat) (e := e.toNat) hl
  refine (secbytes_impl q e p c L W hc hn (by omega)).mono ?_
  rintro x w' ⟨v, rfl, ho, hk⟩
  rw [hM] at ho
  obtain ⟨a, cp, rfl, h1, h2, _, hown, _⟩ := Own.of_owns ho
  rw [hlen] at h1
  rcases hown.one with h' | ⟨g, o, rfl, h'⟩
  · rw [bys_nil] at h'; rw [h'] at hlen; simp at hlen
  · have h0 : o = 0 := by
      rcases ho.2 with ⟨hh, _⟩ | ⟨g', c', _, hh, _⟩
      · cases hh
      · cases hh; rfl
    subst h0
    rw [hq, hlen]
    exact ⟨g, cp, rfl, h1, by unfold maxLen at h2; omega, .inr ⟨g, 0, rfl, h'⟩, hk⟩
theorem step_append_run {P : Program} {w : World} {ops : Array Oper} {o : Oper} {a : Act} {K : Act → World → Prop} {Q : Exit → Act → World → Prop} {E : Prop} (hgd : o.guard = none) (s x : Operand) (t tn : TypeId)
    (ho : o.op = .call { callee := .builtin .append, args := #[s, x], argTypes := #[t, tn] }) (vs vx : Value) (hs : a.eval s = vs) (hx : a.eval x = vx)
    (v' : Value) (w' : World) (hr : (Builtin.append_ #[t, tn] o.type #[vs, vx]).run P w = .ok v' w') (h : K (a.put o.dst v') w') : if Region.wanted o (yielded ops a.tmps) = true then Oper.wp P o a w K Q else E := by
  have hw : Region.wanted o (yielded ops a.tmps) = true := by simp [Region.wanted, hgd]
  rw [if_pos hw]
  exact Lib.wp_append_run w s x t tn ho vs vx hs hx v' w' hr h
theorem run_app {w : World} {base : Nat} {v : Value} {L M : List UInt8} (ty : TypeId) (p : Addr) (c : Nat) (hM : Cells w (some p) (bys M)) (hown : OwnsB w base v L) (hl : L.length + M.length ≤ 4194304) (hbase : base ≤ w.heap.size) :
    ∃ v' w', (Builtin.append_ #[22, 22] ty #[v, .slice (some p) M.length c]).run Tryd.prog w = .ok v' w' ∧ OwnsB w' base v' (L ++ M) ∧ w.grownBy w' v.ownBlock := by
  have hI := infoByte
  cases hi : Tryd.prog.info? 5 with
  | none => rw [hi] at hI; simp at hI
  | some i =>
    rw [hi] at hI
    simp at hI
    obtain ⟨hz, hsz, hby⟩ := hI
    obtain ⟨v', w', h1, h2, h3, _⟩ := run_append_own (P := Tryd.prog) w base 22 ty 5 i _ 1 1 underBytes hi hz hsz hby rfl (by decide) v L.length (bys L) hown p M.length c (bys M) (by simp [bys_length]) (by
      intro j u hj
      rcases hM with hM | ⟨b, off, e, hM⟩
      · rw [hM] at hj; simp at hj
      · obtain rfl := Option.some.inj e
        obtain ⟨hj', e'⟩ := List.getElem?_eq_some_iff.1 hj
        have := hM j hj'
        rw [e'] at this
        rw [← this, add_at]) (fun u hu => one_cells hu) (by simp only [maxLen]; omega) (by omega) hbase
    exact ⟨v', w', h1, by unfold OwnsB; rw [bys_append, List.length_append]; exact h2, h3⟩
theorem cells_take {w : World} {g : Nat} {L : List UInt8} (n : Nat) (h : Cells w (some ⟨g, 0, none⟩) (bys L)) : Cells w (some ⟨g, 0, none⟩) (bys (L.take n)) := by
  rcases h with h | ⟨b, off, e, h⟩
  · rw [bys_nil] at h; subst h; exact .inl (by simp [bys])
  · refine .inr ⟨b, off, e, fun j hj => ?_⟩
    have hj2 : j < (bys L).length := by rw [bys_length] at hj ⊢; rw [List.length_take] at hj; omega
    rw [h j hj2]
    congr 1
    simp [bys]
theorem cells_drop {w : World} {g : Nat} {L : List UInt8} (n : Nat) (h : Cells w (some ⟨g, 0, none⟩) (bys L)) : Cells w (some ⟨g, n, none⟩) (bys (L.drop n)) := by
  rcases h with h | ⟨b, off, e, h⟩
  · rw [bys_nil] at h; subst h; exact .inl (by simp [bys])
  · have e2 := Option.some.inj e
    injection e2 with e3 e4
    subst e3 e4
    refine .inr ⟨g, n, rfl, fun j hj => ?_⟩
    have hj2 : n + j < (bys L).length := by rw [bys_length] at hj ⊢; rw [List.length_drop] at hj; omega
    have h2 := h (n + j) hj2
    rw [Nat.zero_add] at h2
    rw [h2]
    congr 1
    simp [bys]
theorem slice_hi {g cp n : Nat} (hn : n ≤ cp) (V : World) : (Instr.slice 22 (.slice (some ⟨g, 0, none⟩) 128 cp) none (some (.int .i64 (n : Int))) none).run Tryd.prog V = .ok (.slice (some ⟨g, 0, none⟩) n cp) V := by
  have h0 : (0 : Int) ≤ (n : Int) := by omega
  have h1 : (n : Int) ≤ (cp : Int) := by omega
  simp [Instr.slice, Instr.sliceBounds, Instr.sliceBound, go_sem, run_underlying underBytes, h0, h1, Addr.add]
  intro hh
  exact absurd hh (by omega)
theorem slice_lo {g cp n : Nat} (hn : n ≤ 128) (V : World) : (Instr.slice 22 (.slice (some ⟨g, 0, none⟩) 128 cp) (some (.int .i64 (n : Int))) none none).run Tryd.prog V = .ok (.slice (some (if cp = n then ⟨g, 0, none⟩ else ⟨g, n, none⟩)) (128 - n) (cp - n)) V := by
  have h0 : (0 : Int) ≤ (n : Int) := by omega
  have h1 : (n : Int) ≤ 128 := by omega
  by_cases h : cp = n
  · simp [Instr.slice, Instr.sliceBounds, Instr.sliceBound, go_sem, run_underlying underBytes, h0, h1, h]
    intro hh
    exact absurd hh (by omega)
  · have ha := add_at g 0 n
    rw [Nat.zero_add] at ha
    simp [Instr.slice, Instr.sliceBounds, Instr.sliceBound, go_sem, run_underlying underBytes, h0, h1, h, ha]
    intro hh
    exact absurd hh (by omega)
theorem cells_lo {w : World} {g cp n : Nat} {P : List UInt8} (h : Cells w (some ⟨g, 0, none⟩) (bys P)) (lP : P.length = 128) (hcp : 128 ≤ cp) (hn : n ≤ 128) : Cells w (some (if cp = n then ⟨g, 0, none⟩ else ⟨g, n, none⟩)) (bys (P.drop n)) := by
  by_cases he : cp = n
  · have h0 : P.drop n = [] := List.drop_eq_nil_of_le (by omega)
    rw [h0]
    exact Cells.nil _ _
  · rw [if_neg he]
    exact cells_drop n h
/-- Two appends: the first n bytes of Q, then P's. -/
theorem mix_run (w : World) (ty ty' : TypeId) {g' cp cp' n : Nat} {P Q : List UInt8} {p2 : Addr} (hP : Cells w (some p2) (bys (P.drop n))) (hQ : Cells w (some ⟨g', 0, none⟩) (bys Q)) (lP : P.length = 128) (lQ : Q.length = 128) (hn : n ≤ 128) :
    ∃ v1 W1 v2 W2, (Builtin.append_ #[22, 22] ty #[.slice (some ⟨w.heap.size, 0, none⟩) 0 0, .slice (some ⟨g', 0, none⟩) n cp']).run Tryd.prog (w.alloc (.cells #[] 5)).drew = .ok v1 W1 ∧ (Builtin.append_ #[22, 22] ty' #[v1, .slice (some p2) (128 - n) (cp - n)]).run Tryd.prog W1 = .ok v2 W2 ∧ OwnsB W2 w.heap.size v2 (mixL P Q n) ∧ Keeps w W2 := by
  have hka : Keeps w (w.alloc (.cells #[] 5)).drew := by
    have h := Keeps.alloc (Keeps.refl w) (.cells #[] 5)
    exact ⟨h.os, h.tape, h.output, h.size, h.block⟩
  have hown : OwnsB (w.alloc (.cells #[] 5)).drew w.heap.size (.slice (some ⟨w.heap.size, 0, none⟩) 0 0) [] := World.ownsRow_made (base := w.heap.size) (e := 5) (size := 1) w #[] 0 (Nat.le_refl _) (by decide) rfl
  have l1 : (Q.take n).length = n := by rw [List.length_take]; omega
  have l2 : (P.drop n).length = 128 - n := by rw [List.length_drop]; omega
  obtain ⟨v1, W1, h1, o1, g1⟩ := run_app ty ⟨g', 0, none⟩ cp' (cells_take n (hQ.kept hka)) hown (by rw [l1]; simp; omega) hka.size
  rw [l1] at h1
  rw [List.nil_append] at o1
  have hk1 : Keeps w W1 := Keeps.grown hka g1 (fun k hk => (hown.lt k hk).1)
  obtain ⟨v2, W2, h2, o2, g2⟩ := run_app ty' p2 (cp - n) (hP.kept hk1) o1 (by rw [l1, l2]; omega) hk1.size
  rw [l2] at h2
  exact ⟨v1, W1, v2, W2, h1, h2, o2, Keeps.grown hk1 g2 (fun k hk => (o1.lt k hk).1)⟩
end Go.Proofs.YtecjjkgdgmjgmaaDoor
