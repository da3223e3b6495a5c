/- The program's ledger: the journal's map, told in order. -/
import Derived.Test.YtecjjkgdgmjgmaaSorts
namespace Go.Proofs.Ytecjjkgdgmjgmaa
open Go.RowKit Go.Maps
set_option linter.unusedVariables false

/-- What a range over the map has told so far. -/
structure Coll (M : List Ln) (D : DataW Unit) (left : Lit → Bool) (C : List Ln) : Prop where
  sub : ∀ x ∈ C, x ∈ M ∧ left (klit x.k x.c) = false
  apart : C.Pairwise (fun x y => ¬ (x.k = y.k ∧ x.c = y.c))
  all : ∀ x ∈ M, left (klit x.k x.c) = false → x ∈ C
  has : ∀ l, left l = true → Maps.has D l = true
theorem coll_start {M : List Ln} {D : DataW Unit} (hg : Good M) (h : Rep D M) : Coll M D (Maps.has D) [] := by
  refine ⟨fun x hx => by simp at hx, List.Pairwise.nil, fun x hx hl => ?_, fun l hl => hl⟩
  have hx' := hg.2 x hx
  rw [h.has _ _ hx'.1, mem_bal hg hx] at hl
  simp [hx'.2] at hl
theorem coll_step {M C : List Ln} {D : DataW Unit} {left : Lit → Bool} {k c a : Int} {kl : Lit} {y : DataW Unit × List MemPlace} (hg : Good M) (h : Rep D M) (hC : Coll M D left C) (hkey : keyOf Try.prog 33 (accV k c) = some kl) (hl : left kl = true)
    (hv : plainElem Try.prog 3 (.int .i64 a) = some y) (hat : ∀ zd, D.atKey kl zd = y.1) : Coll M D (fun z => left z && !z.sameKey kl) (C ++ [⟨k, c, a⟩]) ∧ a = balF k c M := by
  obtain ⟨k', c', ha, e⟩ := h.acc kl (hC.has kl hl)
  have e1 := accKeyed.inj (e ▸ hkey) (key_ok ha)
  obtain ⟨rfl, rfl⟩ : k = k' ∧ c = c' := by simpa using e1
  subst e
  obtain ⟨a', ea, ey, _⟩ := plainElem_int_inv Try.underlying3 hv
  obtain rfl : a = a' := by simpa using ea
  have hb : balF k c M = a := by
    have h1 := h.at' k c ha
    rw [hat, ey] at h1
    simpa using h1.symm
  have hn : balF k c M ≠ 0 := by
    have := h.has k c ha
    rw [hC.has _ hl] at this
    simpa using this.symm
  have hm : (⟨k, c, a⟩ : Ln) ∈ M := by have := bal_mem hn; rwa [hb] at this
  refine ⟨⟨fun x hx => ?_, ?_, fun x hx hl' => ?_, fun l hl' => ?_⟩, hb.symm⟩
  · rcases List.mem_append.1 hx with hx | hx
    · have := hC.sub x hx
      exact ⟨this.1, by simp [this.2]⟩
    · rw [List.mem_singleton.1 hx]
      refine ⟨hm, ?_⟩
      show (left (klit k c) && !(klit k c).sameKey (klit k c)) = false
      rw [WideAt.sameKey_self (klit_key ha)]; simp
  · rw [List.pairwise_append]
    refine ⟨hC.apart, by simp, fun x hx y hy => ?_⟩
    rw [List.mem_singleton.1 hy]
    rintro ⟨e1, e2⟩
    have := (hC.sub x hx).2
    dsimp only at e1 e2
    rw [e1, e2, hl] at this
    cases this
  · by_cases hx' : left (klit x.k x.c) = false
    · exact List.mem_append_left _ (hC.all x hx hx')
    · have hs : (klit x.k x.c).sameKey (klit k c) = true := by
        simp at hl' hx'
        exact hl' hx'
      have := klit_inj (hg.2 x hx).1 ha (WideAt.sameKey_eq hs)
      have hxa := mem_bal hg hx
      rw [this.1, this.2, hb] at hxa
      refine List.mem_append_right _ (List.mem_singleton.2 ?_)
      obtain ⟨xk, xc, xa⟩ := x
      dsimp only at this hxa
      rw [this.1, this.2, hxa]
  · simp at hl'
    exact hC.has l hl'.1
theorem nodup_of_apart {C : List Ln} (h : C.Pairwise (fun x y => ¬ (x.k = y.k ∧ x.c = y.c))) : C.Nodup := h.imp (fun h e => h (by rw [e]; exact ⟨rfl, rfl⟩))
theorem good_nodup {M : List Ln} (h : Good M) : M.Nodup := h.1.imp (fun h e => by rw [e, less_iff] at h; omega)
theorem coll_perm {M C : List Ln} {D : DataW Unit} {left : Lit → Bool} (hg : Good M) (hC : Coll M D left C) (hl : ∀ l, left l = false) : C.Perm M :=
  (List.perm_ext_iff_of_nodup (nodup_of_apart hC.apart) (good_nodup hg)).2 (fun x => ⟨fun h => (hC.sub x h).1, fun h => hC.all x h (hl _)⟩)
theorem sorted_is {M C' : List Ln} (hg : Good M) (hp : C'.Perm M) (hs : C'.Pairwise (fun x y => lessB y.k y.c x.k x.c = false)) : C' = M := by
  refine List.Perm.eq_of_pairwise (le := fun x y => lessB y.k y.c x.k x.c = false) ?_ hs (hg.1.imp ?_) hp
  · intro x y hx hy h1 h2
    have hx' := hp.mem_iff.1 hx
    rw [Bool.eq_false_iff, Ne, less_iff] at h1 h2
    have e1 : x.k = y.k := by omega
    have e2 : x.c = y.c := by omega
    have b1 := mem_bal hg hx'
    have b2 := mem_bal hg hy
    obtain ⟨xk, xc, xa⟩ := x
    obtain ⟨yk, yc, ya⟩ := y
    dsimp only at e1 e2 b1 b2
    subst e1 e2
    rw [← b1, ← b2]
  · intro x y h
    rw [less_iff] at h
    rw [Bool.eq_false_iff, Ne, less_iff]
    omega

theorem app_lineG {ops : Array Oper} {rest : List Oper} {o : Oper} {a : Act} {Q : Exit → Act → World → Prop} {wr : World} (hgd : o.guard = none) (s x : Operand)
    (ho : o.op = .call { callee := .builtin .append, args := #[s, x], argTypes := #[23, 23] }) (base : Nat) (v : Value) (M : List Ln) (y : Ln) (hs : a.eval s = v)
    (hx : a.eval x = .slice (some ⟨wr.heap.size, 0, none⟩) 1 1) (hown : wr.ownsRow base 35 3 v M.length (flat M)) (hM : M.length ≤ 4194304) (hbase : base ≤ wr.heap.size)
    (h : ∀ v' w', w'.ownsRow base 35 3 v' (M ++ [y]).length (flat (M ++ [y])) → (wr.alloc (.cells #[.int .i64 y.k, .int .i64 y.c, .int .i64 y.a] 35)).grownBy w' v.ownBlock → v' ≠ .slice none 0 0 → wpList Try.prog ops Q rest (a.put o.dst v') w') :
    wpList Try.prog ops Q (o :: rest) a (wr.alloc (.cells #[.int .i64 y.k, .int .i64 y.c, .int .i64 y.a] 35)) := by
  have hI := infoLine
  cases hi : Try.prog.info? 35 with
  | none => rw [hi] at hI; simp at hI
  | some i =>
    rw [hi] at hI
    simp at hI
    obtain ⟨hz, hsz, hby⟩ := hI
    refine wpList_append_own _ hgd s x 23 ho base 35 i _ 3 24 underLines hi hz hsz hby rfl (by decide) v M.length (flat M) hs (hown.alloc _) ⟨wr.heap.size, 0, none⟩ 1 1 [.int .i64 y.k, .int .i64 y.c, .int .i64 y.a] hx rfl ?_ ?_ ?_ ?_ ?_ ?_
    · intro j u hj
      match j, hj with
      | 0, hj => simp at hj; subst hj; simp [Addr.add]
      | 1, hj => simp at hj; subst hj; simp [Addr.add]
      | 2, hj => simp at hj; subst hj; simp [Addr.add]
      | n + 3, hj => simp at hj
    · intro u hu
      simp at hu
      rcases hu with rfl | rfl | rfl <;> rfl
    · simp only [maxLen]; omega
    · omega
    · simp; omega
    · intro v' w' h1 h2 h3
      refine h v' w' ?_ h2 ?_
      · rw [flat_snoc, List.length_append]; exact h1
      · intro e
        have := (h3.1 e).2
        omega
theorem own_not_map {w : World} {base e sz n : Nat} {v : Value} {xs : List Value} {b m : Nat} {D : DataW Unit} (h : w.ownsRow base e sz v n xs) (hO : OwnsJ w b m D) : some b ≠ v.ownBlock := by
  intro he
  rcases h.2 with ⟨rfl, _⟩ | ⟨g, cap, cur, rfl, _, hg, _⟩
  · cases he
  · simp [Value.ownBlock] at he
    subst he
    obtain ⟨es, clock, hb, _⟩ := hO
    rw [hb] at hg; cases hg
theorem own_not_iter {w : World} {base e sz n : Nat} {v : Value} {xs : List Value} {b r m cnt : Nat} {D : DataW Unit} {left : Lit → Bool} (h : w.ownsRow base e sz v n xs) (hr : w.ranges Try.prog 33 (plainElem Try.prog 3) b r m D left cnt) : some r ≠ v.ownBlock := by
  intro he
  rcases h.2 with ⟨rfl, _⟩ | ⟨g, cap, cur, rfl, _, hg, _⟩
  · cases he
  · simp [Value.ownBlock] at he
    subst he
    obtain ⟨es, clock, since, seen, c0, hb, F, hs, hd, hit, _⟩ := hr
    rw [hit] at hg; cases hg
end Go.Proofs.Ytecjjkgdgmjgmaa
