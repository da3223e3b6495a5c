/- DiskCrash: what it says; a cell of a list that is made anew. -/
import Derived.Test.YtkdnddckogbgaaaCpC
namespace Go.Proofs.Ytkdnddckogbgaaa
open Go.RowKit Go.Deep
set_option linter.unusedVariables false
set_option maxRecDepth 10000

/-- A write comes to its cell: its first n bytes. -/
def landL (old new : List UInt8) (n : Nat) : List UInt8 := new.take n ++ (fullL old).drop n
def landM (C : List (List UInt8)) (x : Int × List UInt8) (n : Nat) : List (List UInt8) := if n = 0 then C else C.set x.1.toNat (landL (C.getD x.1.toNat []) x.2 n)
/-- How many bytes come of write i. -/
def keepN (K : List Int) (i : Nat) : Nat := match K[i]? with | none => 0 | some k => if k < 0 then 0 else if 128 < k then 128 else k.toNat
def crashTo (C : List (List UInt8)) (D : List (Int × List UInt8)) (f : Nat → Nat) : Nat → List (List UInt8)
  | 0 => C
  | k + 1 => match D[k]? with | none => crashTo C D f k | some x => landM (crashTo C D f k) x (f k)
def crashM (m : DkM) (f : Nat → Nat) : DkM := if dokM m = true then ⟨crashTo m.cells m.dirty f m.dirty.length, []⟩ else noneM
theorem landM_len (C : List (List UInt8)) (x : Int × List UInt8) (n : Nat) : (landM C x n).length = C.length := by unfold landM; split <;> simp
theorem crashTo_len (C : List (List UInt8)) (D : List (Int × List UInt8)) (f : Nat → Nat) : ∀ k, (crashTo C D f k).length = C.length
  | 0 => rfl
  | k + 1 => by
    simp only [crashTo]
    split
    · exact crashTo_len C D f k
    · rw [landM_len]; exact crashTo_len C D f k
theorem landL_len {old new : List UInt8} {n : Nat} (ho : old.length = 0 ∨ old.length = 128) (hn : new.length = 128) (h : n ≤ 128) : (landL old new n).length = 128 := by
  have hf : (fullL old).length = 128 := by
    unfold fullL
    split
    · simp
    · rename_i h0
      rcases ho with ho | ho
      · exact absurd (List.length_eq_zero_iff.1 ho) h0
      · exact ho
  unfold landL
  rw [List.length_append, List.length_take, List.length_drop, hf, hn]; omega
theorem keepN_le (K : List Int) (i : Nat) : keepN K i ≤ 128 := by
  unfold keepN
  split
  · omega
  · split
    · omega
    · split
      · omega
      · omega
def okC (C : List (List UInt8)) : Prop := ∀ L ∈ C, L.length = 0 ∨ L.length = 128
theorem landM_ok {C : List (List UInt8)} {x : Int × List UInt8} {n : Nat} (h : okC C) (hx : x.2.length = 128) (h0 : 0 ≤ x.1) (h1 : x.1 < C.length) (hn : n ≤ 128) : okC (landM C x n) := by
  unfold landM
  split
  · exact h
  · intro L hL
    rcases List.mem_or_eq_of_mem_set hL with hL | rfl
    · exact h L hL
    · refine Or.inr (landL_len ?_ hx hn)
      rw [List.getD_eq_getElem?_getD, List.getElem?_eq_getElem (show x.1.toNat < C.length by omega)]
      exact h _ (List.getElem_mem _)
theorem crashTo_ok {m : DkM} (h : dokM m = true) {f : Nat → Nat} (hf : ∀ i, f i ≤ 128) : ∀ k, okC (crashTo m.cells m.dirty f k)
  | 0 => fun L hL => dokM_cell h hL
  | k + 1 => by
    simp only [crashTo]
    split
    · exact crashTo_ok h hf k
    · rename_i x hx
      obtain ⟨h1, h2, h3⟩ := dokM_dirty h (List.mem_of_getElem? hx)
      exact landM_ok (crashTo_ok h hf k) h3 h1 (by rw [crashTo_len]; exact h2) (hf k)
theorem crash_dok {m : DkM} (h : dokM m = true) {f : Nat → Nat} (hf : ∀ i, f i ≤ 128) (k : Nat) : dokM ⟨crashTo m.cells m.dirty f k, []⟩ = true := by
  obtain ⟨h1, h2, _⟩ := dokM_len h
  have ho := crashTo_ok h hf k
  unfold dokM
  simp only [crashTo_len, List.length_nil, List.all_nil, Bool.and_true]
  rw [decide_eq_true h1, decide_eq_true h2]
  simp only [Bool.true_and, Nat.zero_le, decide_true]
  rw [List.all_eq_true]
  intro L hL
  rcases ho L hL with e | e <;> simp [e]
section
variable {w0 w : World} {v : Value} {nb : List Bs}
theorem ccells_set (nb : List Bs) (j : Nat) (x : Bs) : ccells (nb.set j x) = (ccells nb).set j x.v := by
  induction nb generalizing j with
  | nil => simp [ccells]
  | cons b t ih =>
    cases j with
    | zero => simp [ccells, Bs.cells]
    | succ j =>
      have := ih j
      simp only [ccells, List.set_cons_succ, List.flatMap_cons, Bs.cells, List.singleton_append] at this ⊢
      rw [this]
/-- One cell of a list of cells gets a new list of bytes. -/
theorem LG.upd (h : LG 54 1 Bs.cells Bs.seg w0 w v nb) {j g : Nat} (hj : j < nb.length) (hg : v.ownBlock = some g) {x : Bs} (hx : Own w [x.seg]) (hn : ∀ b ∈ fp [x.seg], w0.heap.size ≤ b ∧ b ≠ g ∧ b ∉ fp (nb.map Bs.seg)) : LG 54 1 Bs.cells Bs.seg w0 (w.setCell ⟨g, j, none⟩ x.v) v (nb.set j x) := by
  have ht : Turn [g] w (w.setCell ⟨g, j, none⟩ x.v) := Turn.set (by simp) _
  have hw0 := (h.row.lt g hg).1
  have e : nb.map Bs.seg = (nb.take j).map Bs.seg ++ nb[j].seg :: (nb.drop (j + 1)).map Bs.seg := by
    rw [← List.map_cons, ← List.map_append, ← List.drop_eq_getElem_cons hj, List.take_append_drop]
  have e' : (nb.set j x).map Bs.seg = (nb.take j).map Bs.seg ++ x.seg :: (nb.drop (j + 1)).map Bs.seg := by
    rw [List.set_eq_take_append_cons_drop, if_pos hj, List.map_append, List.map_cons]
  have hI := h.inner.toOwn
  rw [e] at hI
  have hA := hI.left
  have hB : Own w (nb[j].seg :: (nb.drop (j + 1)).map Bs.seg) := hI.right
  have hB2 : Own w ((nb.drop (j + 1)).map Bs.seg) := Own.right (S := [nb[j].seg]) hB
  have hAB : ∀ b ∈ fp ((nb.take j).map Bs.seg), b ∉ fp ((nb.drop (j + 1)).map Bs.seg) := fun b hb hb' => hI.apart b hb (by rw [fp_cons]; exact List.mem_append_right _ hb')
  have mA : ∀ b ∈ fp ((nb.take j).map Bs.seg), b ∈ fp (nb.map Bs.seg) := fun b hb => by rw [e, fp_append]; exact List.mem_append_left _ hb
  have mB : ∀ b ∈ fp ((nb.drop (j + 1)).map Bs.seg), b ∈ fp (nb.map Bs.seg) := fun b hb => by rw [e, fp_append, fp_cons]; exact List.mem_append_right _ (List.mem_append_right _ hb)
  have hnew : Own w ((nb.set j x).map Bs.seg) := by
    rw [e']
    refine hA.append (Own.append (S := [x.seg]) hx hB2 (fun b hb hb' => (hn b hb).2.2 (mB b hb'))) (fun b hb hb' => ?_)
    rw [fp_cons] at hb'
    rcases List.mem_append.1 hb' with hb' | hb'
    · exact (hn b (by rw [fp_one]; exact hb')).2.2 (mA b hb)
    · exact hAB b hb hb'
  have hfg : ∀ b ∈ fp ((nb.set j x).map Bs.seg), b ≠ g ∧ w0.heap.size ≤ b := by
    intro b hb
    rw [e', fp_append, fp_cons] at hb
    rcases List.mem_append.1 hb with hb | hb
    · exact ⟨fun eq => h.apart g hg (eq ▸ mA b hb), h.inner.new b (mA b hb)⟩
    · rcases List.mem_append.1 hb with hb | hb
      · have := hn b (by rw [fp_one]; exact hb); exact ⟨this.2.1, this.1⟩
      · exact ⟨fun eq => h.apart g hg (eq ▸ mB b hb), h.inner.new b (mB b hb)⟩
  refine ⟨?_, ⟨hnew.turn ht (fun b hb hx => (hfg b hb).1 (by simpa using hx)), fun b hb => (hfg b hb).2⟩, ?_, ht.keeps h.keeps (fun b hb => by simp at hb; omega)⟩
  · rcases h.row.2 with ⟨rfl, h0⟩ | ⟨g', cap, cur, rfl, hb, hgg, hnc, hcm, hcs, htk⟩
    · omega
    · have : g' = g := by simpa [Value.ownBlock] using hg
      subst this
      refine ⟨by have := h.row.1; rw [List.length_set]; show (ccells (nb.set j x)).length = _; rw [ccells_len]; simp, .inr ⟨g', cap, cur.setIfInBounds j x.v, by rw [List.length_set], hb, ?_, by rw [List.length_set]; exact hnc, hcm, by simpa using hcs, ?_⟩⟩
      · simp [World.setCell, Array.getElem?_modify, hgg]
      · show _ = ccells (nb.set j x)
        rw [ccells_set, List.length_set]
        have : (cur.setIfInBounds j x.v).toList = cur.toList.set j x.v := by simp
        rw [this, List.take_set]
        rw [htk]; rfl
  · intro g' hg' hb
    have : g' = g := by rw [hg] at hg'; exact (Option.some.inj hg').symm
    exact (hfg g' hb).1 this
end
end Go.Proofs.Ytkdnddckogbgaaa
