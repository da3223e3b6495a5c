/- Accounts as keys of a map; a map that holds the lines of a ledger. -/
import Derived.Test.YtfbkhnbbcbccfaaImplC
import Derived.Maps.OwnSet
import Derived.Maps.RangeWalk
import Derived.Maps.Ext
import Derived.DeepKeys4
namespace Go.Proofs.Ytfbkhnbbcbccfaa
open Go.RowKit Go.Maps
set_option linter.unusedVariables false
set_option maxRecDepth 100000

theorem mapLaidOut : laidOutB Try.prog = true := by kernel_rfl
theorem accRowT : (54 : TypeId) < Try.prog.types.size := of_decide_eq_true (by kernel_rfl)
theorem accWide : (match Try.prog.underlying 54 with | some (.array _ _) | some (.struct _) => true | _ => false) = true := by rw [Try.underlying54]
theorem accKeyed : Keyed Try.prog 54 := Keyed.of_law (deep_law_laid mapLaidOut (m := 3) (by omega) accRowT (by kernel_rfl) accWide)
/-- What an account reads as, as a key. -/
def klit (k c : Int) : Lit := .string (keyBytes [.int .i64 k, .int .i64 c])
theorem accType : Try.prog.keyType 54 = true := by kernel_rfl
theorem accCells : Try.prog.cellsOf 54 = 2 := by kernel_rfl
theorem intCells : Try.prog.cellsOf 3 = 1 := by kernel_rfl
theorem typesSz : ∃ m, Try.prog.types.size = m + 1 := Nat.exists_eq_add_one_of_ne_zero (Nat.ne_of_gt (Nat.lt_of_le_of_lt (Nat.zero_le _) accRowT))
section
variable {P : Program} {t i : TypeId} {f0 f1 : Field}
theorem key_gen (hu : P.underlying t = some (.struct #[f0, f1])) (hi : P.underlying i = some (.int .i64)) (kt : P.keyType t = true) (ct : P.cellsOf t = 2) (ci : P.cellsOf i = 1) (t0 : f0.type = i) (t1 : f1.type = i) (o0 : f0.offset = 0) (o1 : f1.offset = 1)
    (n0 : (f0.name != "_") = true) (n1 : (f1.name != "_") = true) (hm : ∃ m, P.types.size = m + 1) {k c : Int} (hk : (Lit.int .i64 k).wf = true) (hc : (Lit.int .i64 c).wf = true) : keyOf P t (accV k c) = some (klit k c) := by
  obtain ⟨m, hm⟩ := hm
  unfold keyOf
  rw [hu]
  have n0' : ¬ f0.name = "_" := by simpa using n0
  have n1' : ¬ f1.name = "_" := by simpa using n1
  simp [kt, Value.formed, hu, ct, Value.cells, hm, Program.keyLits, hi, ci, t0, t1, o0, o1, n0', n1', hk, hc, klit]
theorem key_geninv (hu : P.underlying t = some (.struct #[f0, f1])) (hi : P.underlying i = some (.int .i64)) (kt : P.keyType t = true) (ct : P.cellsOf t = 2) (ci : P.cellsOf i = 1) (t0 : f0.type = i) (t1 : f1.type = i) (o0 : f0.offset = 0) (o1 : f1.offset = 1)
    (n0 : (f0.name != "_") = true) (n1 : (f1.name != "_") = true) (hm : ∃ m, P.types.size = m + 1) {v : Value} {l : Lit} (h : keyOf P t v = some l) : ∃ k c : Int, v = accV k c ∧ (Lit.int .i64 k).wf = true ∧ (Lit.int .i64 c).wf = true := by
  obtain ⟨m, hm⟩ := hm
  unfold keyOf at h
  rw [hu] at h
  have n0' : ¬ f0.name = "_" := by simpa using n0
  have n1' : ¬ f1.name = "_" := by simpa using n1
  cases v <;> simp [kt, Value.formed, hu, ct] at h
  rename_i cs
  obtain ⟨hs, ls, h, _⟩ := h
  match cs, hs with
  | ⟨[x, y]⟩, _ =>
    simp [Value.cells, hm, Program.keyLits, hu, ct, ci, t0, t1, o0, o1, n0', n1', hi] at h
    cases x with
    | int q0 k =>
      by_cases e0 : q0 = .i64 ∧ (Lit.int .i64 k).wf = true
      · obtain ⟨rfl, w0⟩ := e0
        cases y with
        | int q1 c =>
          by_cases e1 : q1 = .i64 ∧ (Lit.int .i64 c).wf = true
          · obtain ⟨rfl, w1⟩ := e1
            exact ⟨k, c, rfl, w0, w1⟩
          · simp [w0, e1] at h
        | _ => simp [w0] at h
      · simp [e0] at h
    | _ => simp at h
end
theorem key_acc {k c : Int} (hk : (Lit.int .i64 k).wf = true) (hc : (Lit.int .i64 c).wf = true) : keyOf Try.prog 54 (accV k c) = some (klit k c) :=
  key_gen Try.underlying54 Try.underlying3 accType accCells intCells rfl rfl rfl rfl (by decide) (by decide) typesSz hk hc
theorem key_inv {v : Value} {l : Lit} (h : keyOf Try.prog 54 v = some l) : ∃ k c : Int, v = accV k c ∧ (Lit.int .i64 k).wf = true ∧ (Lit.int .i64 c).wf = true :=
  key_geninv Try.underlying54 Try.underlying3 accType accCells intCells rfl rfl rfl rfl (by decide) (by decide) typesSz h

theorem wf_of {n : Int} (h0 : -9223372036854775808 ≤ n) (h1 : n ≤ 9223372036854775807) : (Lit.int .i64 n).wf = true := WalkArith.wf_i64 ⟨h0, h1⟩
theorem accB_bounds {k c : Int} (h : accB k c = true) : 1 ≤ k ∧ k ≤ 8 ∧ 0 ≤ c ∧ c ≤ 99 := by
  unfold accB at h
  by_cases h6 : k < 6
  · simp [h6] at h; omega
  · simp [h6] at h; omega
theorem key_ok {k c : Int} (h : accB k c = true) : keyOf Try.prog 54 (accV k c) = some (klit k c) := by
  have := accB_bounds h
  exact key_acc (wf_of (by omega) (by omega)) (wf_of (by omega) (by omega))
theorem klit_key {k c : Int} (h : accB k c = true) : WideAt.IsKeyLit (klit k c) := accKeyed.key (key_ok h)
theorem klit_inj {k c k' c' : Int} (h : accB k c = true) (h' : accB k' c' = true) (e : klit k c = klit k' c') : k = k' ∧ c = c' := by
  have := accKeyed.inj (key_ok h) (e ▸ key_ok h')
  simpa using this
abbrev zI : DataW Unit := .lit (.int .i64 0)
/-- The map holds the lines. -/
structure Rep (D : DataW Unit) (M : List Ln) : Prop where
  has : ∀ k c, accB k c = true → Maps.has D (klit k c) = decide (balF k c M ≠ 0)
  at' : ∀ k c, accB k c = true → D.atKey (klit k c) zI = .lit (.int .i64 (balF k c M))
  acc : ∀ l, Maps.has D l = true → ∃ k c, accB k c = true ∧ l = klit k c
  size : Maps.size D = M.length
  tidy : Tidy D
theorem rep_nil : Rep (.map []) [] := ⟨fun _ _ _ => rfl, fun _ _ _ => rfl, fun l h => (by cases h), rfl, tidy_empty⟩
/-- A line is put at an account that has none, or has one: what is read then. -/
theorem rep_put {D : DataW Unit} {M M' : List Ln} {x : Ln} (h : Rep D M) (hx : accB x.k x.c = true) (h0 : x.a ≠ 0)
    (hb : ∀ k c, balF k c M' = if x.k = k ∧ x.c = c then x.a else balF k c M) (hl : M'.length = if balF x.k x.c M = 0 then M.length + 1 else M.length) : Rep (D.put (klit x.k x.c) (.lit (.int .i64 x.a))) M' := by
  have hm := h.tidy.isMap
  have hk := klit_key hx
  refine ⟨fun k c ha => ?_, fun k c ha => ?_, fun l hl' => ?_, ?_, h.tidy.put hk _⟩
  · by_cases e : x.k = k ∧ x.c = c
    · obtain ⟨rfl, rfl⟩ := e
      rw [has_put_same hm hk, hb, if_pos ⟨rfl, rfl⟩]
      simp [h0]
    · rw [has_put_other (fun e' => e (by have := klit_inj ha hx e'; exact ⟨this.1.symm, this.2.symm⟩)), h.has k c ha, hb, if_neg e]
  · by_cases e : x.k = k ∧ x.c = c
    · obtain ⟨rfl, rfl⟩ := e
      rw [atKey_put_same hm hk, hb, if_pos ⟨rfl, rfl⟩]
    · rw [atKey_put_other (fun e' => e (by have := klit_inj ha hx e'; exact ⟨this.1.symm, this.2.symm⟩)), h.at' k c ha, hb, if_neg e]
  · by_cases e : l = klit x.k x.c
    · exact ⟨x.k, x.c, hx, e⟩
    · rw [has_put_other e] at hl'
      exact h.acc l hl'
  · rw [size_put h.tidy, h.has _ _ hx, hl, h.size]
    by_cases e : balF x.k x.c M = 0
    · simp [e]
    · simp [e]
theorem rep_del {D : DataW Unit} {M M' : List Ln} {k0 c0 : Int} (h : Rep D M) (hx : accB k0 c0 = true) (hn : balF k0 c0 M ≠ 0)
    (hb : ∀ k c, balF k c M' = if k0 = k ∧ c0 = c then 0 else balF k c M) (hl : M'.length + 1 = M.length) : Rep (D.del (klit k0 c0)) M' := by
  refine ⟨fun k c ha => ?_, fun k c ha => ?_, fun l hl' => ?_, ?_, h.tidy.del _⟩
  · by_cases e : k0 = k ∧ c0 = c
    · obtain ⟨rfl, rfl⟩ := e
      rw [has_del_same, hb, if_pos ⟨rfl, rfl⟩]; rfl
    · rw [has_del_other (fun e' => e (by have := klit_inj ha hx e'; exact ⟨this.1.symm, this.2.symm⟩)), h.has k c ha, hb, if_neg e]
  · by_cases e : k0 = k ∧ c0 = c
    · obtain ⟨rfl, rfl⟩ := e
      rw [atKey_del_same, hb, if_pos ⟨rfl, rfl⟩]
    · rw [atKey_del_other (fun e' => e (by have := klit_inj ha hx e'; exact ⟨this.1.symm, this.2.symm⟩)), h.at' k c ha, hb, if_neg e]
  · by_cases e : l = klit k0 c0
    · exact ⟨k0, c0, hx, e⟩
    · rw [has_del_other e] at hl'
      exact h.acc l hl'
  · have := size_del (k := klit k0 c0) h.tidy
    rw [h.has _ _ hx, h.size] at this
    simp [hn] at this
    omega
theorem balF_app_none {k c : Int} {x : Ln} : ∀ {A : List Ln}, (∀ y ∈ A, ¬ (y.k = k ∧ y.c = c)) → balF k c (A ++ [x]) = if x.k = k ∧ x.c = c then x.a else 0
  | [], _ => rfl
  | y :: A, h => by
    show (if y.k = k ∧ y.c = c then y.a else balF k c (A ++ [x])) = _
    rw [if_neg (h y (List.mem_cons_self ..)), balF_app_none (fun z hz => h z (List.mem_cons_of_mem _ hz))]
theorem balF_app_other {k c : Int} {x : Ln} (hx : ¬ (x.k = k ∧ x.c = c)) : ∀ {A : List Ln}, balF k c (A ++ [x]) = balF k c A
  | [] => by show (if x.k = k ∧ x.c = c then x.a else 0) = 0; rw [if_neg hx]
  | y :: A => by
    show (if y.k = k ∧ y.c = c then y.a else balF k c (A ++ [x])) = (if y.k = k ∧ y.c = c then y.a else balF k c A)
    rw [balF_app_other hx]
/-- One line more, behind all others. -/
theorem rep_snoc {D : DataW Unit} {L : List Ln} {n : Nat} (hg : Good L) (hn : n < L.length) (h : Rep D (L.take n)) : Rep (D.put (klit L[n].k L[n].c) (.lit (.int .i64 L[n].a))) (L.take (n + 1)) := by
  have hx := hg.2 L[n] (List.getElem_mem hn)
  have h0 := take_bal hg hn
  have e : L.take (n + 1) = L.take n ++ [L[n]] := List.take_succ_eq_append_getElem hn
  refine rep_put h hx.1 hx.2 (fun k c => ?_) ?_
  · rw [e]
    by_cases hk : L[n].k = k ∧ L[n].c = c
    · obtain ⟨rfl, rfl⟩ := hk
      have hno : ∀ y ∈ L.take n, ¬ (y.k = L[n].k ∧ y.c = L[n].c) := by
        intro y hy
        obtain ⟨i, hi, rfl⟩ := List.getElem_of_mem hy
        simp only [List.length_take] at hi
        rw [List.getElem_take]
        have := (List.pairwise_iff_getElem.1 hg.1) i n (by omega) hn (by omega)
        rw [less_iff] at this; omega
      rw [balF_app_none hno]; simp
    · rw [if_neg hk, balF_app_other hk]
  · rw [h0, if_pos rfl]; simp; omega
/-- One line added. -/
theorem rep_add_put {D : DataW Unit} {M : List Ln} {x : Ln} (hg : Good M) (h : Rep D M) (hx : accB x.k x.c = true) (hn : balF x.k x.c M + x.a ≠ 0) (h0 : x.a ≠ 0) :
    Rep (D.put (klit x.k x.c) (.lit (.int .i64 (balF x.k x.c M + x.a)))) (addG x false M) := by
  refine rep_put (x := ⟨x.k, x.c, balF x.k x.c M + x.a⟩) h hx hn (fun k c => ?_) ?_
  · rw [balF_addG k c hg]
    by_cases e : x.k = k ∧ x.c = c
    · obtain ⟨rfl, rfl⟩ := e; simp
    · simp [e]
  · have := len_addG h0 hg
    dsimp only
    by_cases e : balF x.k x.c M = 0
    · rw [if_pos e] at this ⊢; omega
    · rw [if_neg e, if_neg hn] at this; rw [if_neg e]; omega
theorem rep_add_del {D : DataW Unit} {M : List Ln} {x : Ln} (hg : Good M) (h : Rep D M) (hx : accB x.k x.c = true) (hn : balF x.k x.c M + x.a = 0) (h0 : x.a ≠ 0) : Rep (D.del (klit x.k x.c)) (addG x false M) := by
  have hb : balF x.k x.c M ≠ 0 := fun e => h0 (by omega)
  refine rep_del h hx hb (fun k c => ?_) ?_
  · rw [balF_addG k c hg]
    by_cases e : x.k = k ∧ x.c = c
    · obtain ⟨rfl, rfl⟩ := e; simp [hn]
    · simp [e]
  · have := len_addG h0 hg
    rw [if_neg hb, if_pos hn] at this
    omega
end Go.Proofs.Ytfbkhnbbcbccfaa
