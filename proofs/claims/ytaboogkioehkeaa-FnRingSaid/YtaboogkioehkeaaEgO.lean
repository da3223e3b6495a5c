/- Lists of edges of one's own. -/
import Derived.Test.YtaboogkioehkeaaEgM
import Derived.OwnWalk
import Derived.Laws.OwnMore
import Derived.Laws.AppendOwnNone
namespace Go.Proofs.Ytaboogkioehkeaa
open Go.RowKit Go.Deep
set_option linter.unusedVariables false
set_option linter.unusedSimpArgs false
set_option maxRecDepth 10000

/-- A list of Edge of one's own. -/
abbrev OwnsEdge (w : World) (base : Nat) (v : Value) (L : List Edg) : Prop := w.ownsRow base 66 4 v L.length (egs L)
theorem OwnsEdge.at {w : World} {base g cap : Nat} {L : List Edg} (h : OwnsEdge w base (.slice (some ⟨g, 0, none⟩) L.length cap) L) (k : Nat) (hk : k < L.length) :
    w.cell? ⟨g, k * 4, none⟩ = some (.int .i64 L[k].fr) ∧ w.cell? ⟨g, k * 4 + 1, none⟩ = some (.int .i64 L[k].to) ∧ w.cell? ⟨g, k * 4 + 2, none⟩ = some (.int .i64 L[k].cp) ∧ w.cell? ⟨g, k * 4 + 3, none⟩ = some (.int .i64 L[k].co) := by
  have hz := Nat.mul_le_mul_right 4 (show k + 1 ≤ L.length from hk)
  have ha := fun r (hr : r < 4) => flatMap_at (f := Edg.cells) (sz := 4) (fun _ => rfl) L k hk r hr
  refine ⟨?_, ?_, ?_, ?_⟩
  · rw [h.cellAt (k * 4) (by omega)]
    have e := ha 0 (by decide)
    simp only [Nat.add_zero] at e
    unfold egs
    rw [e]; rfl
  · rw [h.cellAt (k * 4 + 1) (by omega)]
    have e := ha 1 (by decide)
    skip
    unfold egs
    rw [e]; rfl
  · rw [h.cellAt (k * 4 + 2) (by omega)]
    have e := ha 2 (by decide)
    skip
    unfold egs
    rw [e]; rfl
  · rw [h.cellAt (k * 4 + 3) (by omega)]
    have e := ha 3 (by decide)
    skip
    unfold egs
    rw [e]; rfl
theorem OwnsEdge.frz {w : World} {base g cap : Nat} {L : List Edg} (h : OwnsEdge w base (.slice (some ⟨g, 0, none⟩) L.length cap) L) (j : Nat) : w.frozen? ⟨g, j, none⟩ = false := h.frozenAt j
theorem OwnsEdge.set0 {w : World} {base g cap : Nat} {L : List Edg} (h : OwnsEdge w base (.slice (some ⟨g, 0, none⟩) L.length cap) L) (k : Nat) (hk : k < L.length) (u : Int) :
    OwnsEdge (w.setCell ⟨g, k * 4, none⟩ (.int .i64 u)) base (.slice (some ⟨g, 0, none⟩) (L.set k ⟨u, L[k].to, L[k].cp, L[k].co⟩).length cap) (L.set k ⟨u, L[k].to, L[k].cp, L[k].co⟩) ∧ w.grownBy (w.setCell ⟨g, k * 4, none⟩ (.int .i64 u)) (some g) := by
  have h1 := h.stored (k * 4) (.int .i64 u)
  have e : L = L.take k ++ L[k] :: L.drop (k + 1) := by rw [← List.drop_eq_getElem_cons hk, List.take_append_drop]
  have es : (egs L).set (k * 4) (.int .i64 u) = egs (L.set k ⟨u, L[k].to, L[k].cp, L[k].co⟩) := by
    have hl : (L.take k).length = k := by rw [List.length_take]; omega
    have e2 : L.set k ⟨u, L[k].to, L[k].cp, L[k].co⟩ = L.take k ++ ⟨u, L[k].to, L[k].cp, L[k].co⟩ :: L.drop (k + 1) := by rw [List.set_eq_take_append_cons_drop, if_pos hk]
    rw [e2]
    conv => lhs; rw [e]
    exact egs_set0 (L.take k) (L.drop (k + 1)) L[k] u hl
  refine ⟨?_, h1.2⟩
  unfold OwnsEdge
  rw [List.length_set, ← es]
  exact h1.1
theorem OwnsEdge.set1 {w : World} {base g cap : Nat} {L : List Edg} (h : OwnsEdge w base (.slice (some ⟨g, 0, none⟩) L.length cap) L) (k : Nat) (hk : k < L.length) (u : Int) :
    OwnsEdge (w.setCell ⟨g, k * 4 + 1, none⟩ (.int .i64 u)) base (.slice (some ⟨g, 0, none⟩) (L.set k ⟨L[k].fr, u, L[k].cp, L[k].co⟩).length cap) (L.set k ⟨L[k].fr, u, L[k].cp, L[k].co⟩) ∧ w.grownBy (w.setCell ⟨g, k * 4 + 1, none⟩ (.int .i64 u)) (some g) := by
  have h1 := h.stored (k * 4 + 1) (.int .i64 u)
  have e : L = L.take k ++ L[k] :: L.drop (k + 1) := by rw [← List.drop_eq_getElem_cons hk, List.take_append_drop]
  have es : (egs L).set (k * 4 + 1) (.int .i64 u) = egs (L.set k ⟨L[k].fr, u, L[k].cp, L[k].co⟩) := by
    have hl : (L.take k).length = k := by rw [List.length_take]; omega
    have e2 : L.set k ⟨L[k].fr, u, L[k].cp, L[k].co⟩ = L.take k ++ ⟨L[k].fr, u, L[k].cp, L[k].co⟩ :: L.drop (k + 1) := by rw [List.set_eq_take_append_cons_drop, if_pos hk]
    rw [e2]
    conv => lhs; rw [e]
    exact egs_set1 (L.take k) (L.drop (k + 1)) L[k] u hl
  refine ⟨?_, h1.2⟩
  unfold OwnsEdge
  rw [List.length_set, ← es]
  exact h1.1
theorem OwnsEdge.set2 {w : World} {base g cap : Nat} {L : List Edg} (h : OwnsEdge w base (.slice (some ⟨g, 0, none⟩) L.length cap) L) (k : Nat) (hk : k < L.length) (u : Int) :
    OwnsEdge (w.setCell ⟨g, k * 4 + 2, none⟩ (.int .i64 u)) base (.slice (some ⟨g, 0, none⟩) (L.set k ⟨L[k].fr, L[k].to, u, L[k].co⟩).length cap) (L.set k ⟨L[k].fr, L[k].to, u, L[k].co⟩) ∧ w.grownBy (w.setCell ⟨g, k * 4 + 2, none⟩ (.int .i64 u)) (some g) := by
  have h1 := h.stored (k * 4 + 2) (.int .i64 u)
  have e : L = L.take k ++ L[k] :: L.drop (k + 1) := by rw [← List.drop_eq_getElem_cons hk, List.take_append_drop]
  have es : (egs L).set (k * 4 + 2) (.int .i64 u) = egs (L.set k ⟨L[k].fr, L[k].to, u, L[k].co⟩) := by
    have hl : (L.take k).length = k := by rw [List.length_take]; omega
    have e2 : L.set k ⟨L[k].fr, L[k].to, u, L[k].co⟩ = L.take k ++ ⟨L[k].fr, L[k].to, u, L[k].co⟩ :: L.drop (k + 1) := by rw [List.set_eq_take_append_cons_drop, if_pos hk]
    rw [e2]
    conv => lhs; rw [e]
    exact egs_set2 (L.take k) (L.drop (k + 1)) L[k] u hl
  refine ⟨?_, h1.2⟩
  unfold OwnsEdge
  rw [List.length_set, ← es]
  exact h1.1
theorem OwnsEdge.set3 {w : World} {base g cap : Nat} {L : List Edg} (h : OwnsEdge w base (.slice (some ⟨g, 0, none⟩) L.length cap) L) (k : Nat) (hk : k < L.length) (u : Int) :
    OwnsEdge (w.setCell ⟨g, k * 4 + 3, none⟩ (.int .i64 u)) base (.slice (some ⟨g, 0, none⟩) (L.set k ⟨L[k].fr, L[k].to, L[k].cp, u⟩).length cap) (L.set k ⟨L[k].fr, L[k].to, L[k].cp, u⟩) ∧ w.grownBy (w.setCell ⟨g, k * 4 + 3, none⟩ (.int .i64 u)) (some g) := by
  have h1 := h.stored (k * 4 + 3) (.int .i64 u)
  have e : L = L.take k ++ L[k] :: L.drop (k + 1) := by rw [← List.drop_eq_getElem_cons hk, List.take_append_drop]
  have es : (egs L).set (k * 4 + 3) (.int .i64 u) = egs (L.set k ⟨L[k].fr, L[k].to, L[k].cp, u⟩) := by
    have hl : (L.take k).length = k := by rw [List.length_take]; omega
    have e2 : L.set k ⟨L[k].fr, L[k].to, L[k].cp, u⟩ = L.take k ++ ⟨L[k].fr, L[k].to, L[k].cp, u⟩ :: L.drop (k + 1) := by rw [List.set_eq_take_append_cons_drop, if_pos hk]
    rw [e2]
    conv => lhs; rw [e]
    exact egs_set3 (L.take k) (L.drop (k + 1)) L[k] u hl
  refine ⟨?_, h1.2⟩
  unfold OwnsEdge
  rw [List.length_set, ← es]
  exact h1.1
theorem cells_Edge {L : List Edg} : egs L = [] ↔ L = [] := by
  constructor
  · intro h
    have := egs_len L
    rw [h] at this
    simp only [List.length_nil] at this
    exact List.length_eq_zero_iff.1 (by omega)
  · rintro rfl; rfl
theorem cell_one_Edge {L : List Edg} {u : Value} (h : u ∈ egs L) : u.oneCell' = true := by
  unfold egs at h
  obtain ⟨x, _, hx⟩ := List.mem_flatMap.1 h
  simp only [Edg.cells, List.mem_cons, List.mem_nil_iff, or_false] at hx
  rcases hx with rfl | rfl | rfl | rfl <;> rfl
/-- append to a list of one's own, whatever list is appended. -/
theorem app_Edge {ops : Array Oper} {rest : List Oper} {o : Oper} {a : Act} {Q : Exit → Act → World → Prop} {wr : World} (hgd : o.guard = none) (s x : Operand)
    (ho : o.op = .call { callee := .builtin .append, args := #[s, x], argTypes := #[23, 23] }) (base : Nat) (v : Value) (L M : List Edg) (hs : a.eval s = v) (xa : Option Addr) (c : Nat)
    (hx : a.eval x = .slice xa M.length c) (hM : Cells wr xa (egs M)) (hn : xa = none → c = 0) (hown : OwnsEdge wr base v L) (hl : L.length + M.length ≤ 4194304) (hbase : base ≤ wr.heap.size)
    (h : ∀ v' w', OwnsEdge w' base v' (L ++ M) → wr.grownBy w' v.ownBlock → (v ≠ .slice none 0 0 → v' ≠ .slice none 0 0) → wpList Try.prog ops Q rest (a.put o.dst v') w') :
    wpList Try.prog ops Q (o :: rest) a wr := by
  have hI := infoEdge
  cases hi : Try.prog.info? 66 with
  | none => rw [hi] at hI; simp at hI
  | some i =>
    rw [hi] at hI
    simp at hI
    obtain ⟨hz, hsz, hby⟩ := hI
    cases xa with
    | none =>
      obtain rfl := hn rfl
      have hM0 : M = [] := by
        rcases hM with hM | ⟨_, _, e, _⟩
        · exact cells_Edge.1 hM
        · cases e
      subst hM0
      refine wpList_append_own_none hgd s x 23 ho base 66 i 4 underEdges hi v L.length (egs L) hs hown hx ?_
      exact h v wr (by simpa using hown) ⟨rfl, rfl, rfl, Nat.le_refl _, fun _ _ _ => rfl⟩ (fun h => h)
    | some p =>
      refine wpList_append_own _ hgd s x 23 ho base 66 i _ 4 32 underEdges hi hz hsz hby rfl (by decide) v L.length (egs L) hs hown p M.length c (egs M) hx (by rw [egs_len]) ?_ (fun u hu => cell_one_Edge hu) ?_ ?_ hbase ?_
      · intro j u hj
        rcases hM with hM | ⟨b, off, e, hM⟩
        · rw [hM] at hj; simp at hj
        · obtain rfl := Option.some.inj e
          obtain ⟨hj', e'⟩ := List.getElem?_eq_some_iff.1 hj
          have := hM j hj'
          rw [e'] at this
          rw [← this, addr_at]
      · simp only [maxLen]; omega
      · omega
      · intro v' w' h1 h2 h3
        exact h v' w' (by unfold OwnsEdge; rw [egs_append, List.length_append]; exact h1) h2 (fun hn he => hn (h3.1 he).1)
end Go.Proofs.Ytaboogkioehkeaa
