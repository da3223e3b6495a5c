/- Lists of events of one's own. -/
import Derived.Test.YteoloapjhlpnjaaGreatDoorEvM
import Derived.Laws.AppendOwnNone
namespace Go.Proofs.YteoloapjhlpnjaaGreatDoor
open Go.RowKit Go.Deep
set_option linter.unusedVariables false
set_option linter.unusedSimpArgs false
set_option maxRecDepth 10000

/-- A list of Event of one's own. -/
abbrev OwnsEvent (w : World) (base : Nat) (v : Value) (L : List Ev) : Prop := w.ownsRow base 41 7 v L.length (ecells L)
theorem OwnsEvent.at {w : World} {base g cap : Nat} {L : List Ev} (h : OwnsEvent w base (.slice (some ⟨g, 0, none⟩) L.length cap) L) (k : Nat) (hk : k < L.length) :
    w.cell? ⟨g, k * 7, none⟩ = some (.int .i64 L[k].k) ∧ w.cell? ⟨g, k * 7 + 1, none⟩ = some (.int .i64 L[k].y) ∧ w.cell? ⟨g, k * 7 + 2, none⟩ = some (.int .i64 L[k].c) ∧ w.cell? ⟨g, k * 7 + 3, none⟩ = some (.int .i64 L[k].t) ∧ w.cell? ⟨g, k * 7 + 4, none⟩ = some (.int .i64 L[k].m) ∧ w.cell? ⟨g, k * 7 + 5, none⟩ = some (.int .i64 L[k].f) ∧ w.cell? ⟨g, k * 7 + 6, none⟩ = some (.bool L[k].b) := by
  have hz := Nat.mul_le_mul_right 7 (show k + 1 ≤ L.length from hk)
  have ha := fun r (hr : r < 7) => flatMap_at (f := Ev.cells) (sz := 7) (fun _ => rfl) L k hk r hr
  refine ⟨?_, ?_, ?_, ?_, ?_, ?_, ?_⟩
  · rw [h.cellAt (k * 7) (by omega)]
    have e := ha 0 (by decide)
    simp only [Nat.add_zero] at e
    unfold ecells
    rw [e]; rfl
  · rw [h.cellAt (k * 7 + 1) (by omega)]
    have e := ha 1 (by decide)
    skip
    unfold ecells
    rw [e]; rfl
  · rw [h.cellAt (k * 7 + 2) (by omega)]
    have e := ha 2 (by decide)
    skip
    unfold ecells
    rw [e]; rfl
  · rw [h.cellAt (k * 7 + 3) (by omega)]
    have e := ha 3 (by decide)
    skip
    unfold ecells
    rw [e]; rfl
  · rw [h.cellAt (k * 7 + 4) (by omega)]
    have e := ha 4 (by decide)
    skip
    unfold ecells
    rw [e]; rfl
  · rw [h.cellAt (k * 7 + 5) (by omega)]
    have e := ha 5 (by decide)
    skip
    unfold ecells
    rw [e]; rfl
  · rw [h.cellAt (k * 7 + 6) (by omega)]
    have e := ha 6 (by decide)
    skip
    unfold ecells
    rw [e]; rfl
theorem OwnsEvent.frz {w : World} {base g cap : Nat} {L : List Ev} (h : OwnsEvent w base (.slice (some ⟨g, 0, none⟩) L.length cap) L) (j : Nat) : w.frozen? ⟨g, j, none⟩ = false := h.frozenAt j
theorem OwnsEvent.set0 {w : World} {base g cap : Nat} {L : List Ev} (h : OwnsEvent w base (.slice (some ⟨g, 0, none⟩) L.length cap) L) (k : Nat) (hk : k < L.length) (u : Int) :
    OwnsEvent (w.setCell ⟨g, k * 7, none⟩ (.int .i64 u)) base (.slice (some ⟨g, 0, none⟩) (L.set k ⟨u, L[k].y, L[k].c, L[k].t, L[k].m, L[k].f, L[k].b⟩).length cap) (L.set k ⟨u, L[k].y, L[k].c, L[k].t, L[k].m, L[k].f, L[k].b⟩) ∧ w.grownBy (w.setCell ⟨g, k * 7, none⟩ (.int .i64 u)) (some g) := by
  have h1 := h.stored (k * 7) (.int .i64 u)
  have e : L = L.take k ++ L[k] :: L.drop (k + 1) := by rw [← List.drop_eq_getElem_cons hk, List.take_append_drop]
  have es : (ecells L).set (k * 7) (.int .i64 u) = ecells (L.set k ⟨u, L[k].y, L[k].c, L[k].t, L[k].m, L[k].f, L[k].b⟩) := by
    have hl : (L.take k).length = k := by rw [List.length_take]; omega
    have e2 : L.set k ⟨u, L[k].y, L[k].c, L[k].t, L[k].m, L[k].f, L[k].b⟩ = L.take k ++ ⟨u, L[k].y, L[k].c, L[k].t, L[k].m, L[k].f, L[k].b⟩ :: L.drop (k + 1) := by rw [List.set_eq_take_append_cons_drop, if_pos hk]
    rw [e2]
    conv => lhs; rw [e]
    exact ecells_set0 (L.take k) (L.drop (k + 1)) L[k] u hl
  refine ⟨?_, h1.2⟩
  unfold OwnsEvent
  rw [List.length_set, ← es]
  exact h1.1
theorem OwnsEvent.set1 {w : World} {base g cap : Nat} {L : List Ev} (h : OwnsEvent w base (.slice (some ⟨g, 0, none⟩) L.length cap) L) (k : Nat) (hk : k < L.length) (u : Int) :
    OwnsEvent (w.setCell ⟨g, k * 7 + 1, none⟩ (.int .i64 u)) base (.slice (some ⟨g, 0, none⟩) (L.set k ⟨L[k].k, u, L[k].c, L[k].t, L[k].m, L[k].f, L[k].b⟩).length cap) (L.set k ⟨L[k].k, u, L[k].c, L[k].t, L[k].m, L[k].f, L[k].b⟩) ∧ w.grownBy (w.setCell ⟨g, k * 7 + 1, none⟩ (.int .i64 u)) (some g) := by
  have h1 := h.stored (k * 7 + 1) (.int .i64 u)
  have e : L = L.take k ++ L[k] :: L.drop (k + 1) := by rw [← List.drop_eq_getElem_cons hk, List.take_append_drop]
  have es : (ecells L).set (k * 7 + 1) (.int .i64 u) = ecells (L.set k ⟨L[k].k, u, L[k].c, L[k].t, L[k].m, L[k].f, L[k].b⟩) := by
    have hl : (L.take k).length = k := by rw [List.length_take]; omega
    have e2 : L.set k ⟨L[k].k, u, L[k].c, L[k].t, L[k].m, L[k].f, L[k].b⟩ = L.take k ++ ⟨L[k].k, u, L[k].c, L[k].t, L[k].m, L[k].f, L[k].b⟩ :: L.drop (k + 1) := by rw [List.set_eq_take_append_cons_drop, if_pos hk]
    rw [e2]
    conv => lhs; rw [e]
    exact ecells_set1 (L.take k) (L.drop (k + 1)) L[k] u hl
  refine ⟨?_, h1.2⟩
  unfold OwnsEvent
  rw [List.length_set, ← es]
  exact h1.1
theorem OwnsEvent.set2 {w : World} {base g cap : Nat} {L : List Ev} (h : OwnsEvent w base (.slice (some ⟨g, 0, none⟩) L.length cap) L) (k : Nat) (hk : k < L.length) (u : Int) :
    OwnsEvent (w.setCell ⟨g, k * 7 + 2, none⟩ (.int .i64 u)) base (.slice (some ⟨g, 0, none⟩) (L.set k ⟨L[k].k, L[k].y, u, L[k].t, L[k].m, L[k].f, L[k].b⟩).length cap) (L.set k ⟨L[k].k, L[k].y, u, L[k].t, L[k].m, L[k].f, L[k].b⟩) ∧ w.grownBy (w.setCell ⟨g, k * 7 + 2, none⟩ (.int .i64 u)) (some g) := by
  have h1 := h.stored (k * 7 + 2) (.int .i64 u)
  have e : L = L.take k ++ L[k] :: L.drop (k + 1) := by rw [← List.drop_eq_getElem_cons hk, List.take_append_drop]
  have es : (ecells L).set (k * 7 + 2) (.int .i64 u) = ecells (L.set k ⟨L[k].k, L[k].y, u, L[k].t, L[k].m, L[k].f, L[k].b⟩) := by
    have hl : (L.take k).length = k := by rw [List.length_take]; omega
    have e2 : L.set k ⟨L[k].k, L[k].y, u, L[k].t, L[k].m, L[k].f, L[k].b⟩ = L.take k ++ ⟨L[k].k, L[k].y, u, L[k].t, L[k].m, L[k].f, L[k].b⟩ :: L.drop (k + 1) := by rw [List.set_eq_take_append_cons_drop, if_pos hk]
    rw [e2]
    conv => lhs; rw [e]
    exact ecells_set2 (L.take k) (L.drop (k + 1)) L[k] u hl
  refine ⟨?_, h1.2⟩
  unfold OwnsEvent
  rw [List.length_set, ← es]
  exact h1.1
theorem OwnsEvent.set3 {w : World} {base g cap : Nat} {L : List Ev} (h : OwnsEvent w base (.slice (some ⟨g, 0, none⟩) L.length cap) L) (k : Nat) (hk : k < L.length) (u : Int) :
    OwnsEvent (w.setCell ⟨g, k * 7 + 3, none⟩ (.int .i64 u)) base (.slice (some ⟨g, 0, none⟩) (L.set k ⟨L[k].k, L[k].y, L[k].c, u, L[k].m, L[k].f, L[k].b⟩).length cap) (L.set k ⟨L[k].k, L[k].y, L[k].c, u, L[k].m, L[k].f, L[k].b⟩) ∧ w.grownBy (w.setCell ⟨g, k * 7 + 3, none⟩ (.int .i64 u)) (some g) := by
  have h1 := h.stored (k * 7 + 3) (.int .i64 u)
  have e : L = L.take k ++ L[k] :: L.drop (k + 1) := by rw [← List.drop_eq_getElem_cons hk, List.take_append_drop]
  have es : (ecells L).set (k * 7 + 3) (.int .i64 u) = ecells (L.set k ⟨L[k].k, L[k].y, L[k].c, u, L[k].m, L[k].f, L[k].b⟩) := by
    have hl : (L.take k).length = k := by rw [List.length_take]; omega
    have e2 : L.set k ⟨L[k].k, L[k].y, L[k].c, u, L[k].m, L[k].f, L[k].b⟩ = L.take k ++ ⟨L[k].k, L[k].y, L[k].c, u, L[k].m, L[k].f, L[k].b⟩ :: L.drop (k + 1) := by rw [List.set_eq_take_append_cons_drop, if_pos hk]
    rw [e2]
    conv => lhs; rw [e]
    exact ecells_set3 (L.take k) (L.drop (k + 1)) L[k] u hl
  refine ⟨?_, h1.2⟩
  unfold OwnsEvent
  rw [List.length_set, ← es]
  exact h1.1
theorem OwnsEvent.set4 {w : World} {base g cap : Nat} {L : List Ev} (h : OwnsEvent w base (.slice (some ⟨g, 0, none⟩) L.length cap) L) (k : Nat) (hk : k < L.length) (u : Int) :
    OwnsEvent (w.setCell ⟨g, k * 7 + 4, none⟩ (.int .i64 u)) base (.slice (some ⟨g, 0, none⟩) (L.set k ⟨L[k].k, L[k].y, L[k].c, L[k].t, u, L[k].f, L[k].b⟩).length cap) (L.set k ⟨L[k].k, L[k].y, L[k].c, L[k].t, u, L[k].f, L[k].b⟩) ∧ w.grownBy (w.setCell ⟨g, k * 7 + 4, none⟩ (.int .i64 u)) (some g) := by
  have h1 := h.stored (k * 7 + 4) (.int .i64 u)
  have e : L = L.take k ++ L[k] :: L.drop (k + 1) := by rw [← List.drop_eq_getElem_cons hk, List.take_append_drop]
  have es : (ecells L).set (k * 7 + 4) (.int .i64 u) = ecells (L.set k ⟨L[k].k, L[k].y, L[k].c, L[k].t, u, L[k].f, L[k].b⟩) := by
    have hl : (L.take k).length = k := by rw [List.length_take]; omega
    have e2 : L.set k ⟨L[k].k, L[k].y, L[k].c, L[k].t, u, L[k].f, L[k].b⟩ = L.take k ++ ⟨L[k].k, L[k].y, L[k].c, L[k].t, u, L[k].f, L[k].b⟩ :: L.drop (k + 1) := by rw [List.set_eq_take_append_cons_drop, if_pos hk]
    rw [e2]
    conv => lhs; rw [e]
    exact ecells_set4 (L.take k) (L.drop (k + 1)) L[k] u hl
  refine ⟨?_, h1.2⟩
  unfold OwnsEvent
  rw [List.length_set, ← es]
  exact h1.1
theorem OwnsEvent.set5 {w : World} {base g cap : Nat} {L : List Ev} (h : OwnsEvent w base (.slice (some ⟨g, 0, none⟩) L.length cap) L) (k : Nat) (hk : k < L.length) (u : Int) :
    OwnsEvent (w.setCell ⟨g, k * 7 + 5, none⟩ (.int .i64 u)) base (.slice (some ⟨g, 0, none⟩) (L.set k ⟨L[k].k, L[k].y, L[k].c, L[k].t, L[k].m, u, L[k].b⟩).length cap) (L.set k ⟨L[k].k, L[k].y, L[k].c, L[k].t, L[k].m, u, L[k].b⟩) ∧ w.grownBy (w.setCell ⟨g, k * 7 + 5, none⟩ (.int .i64 u)) (some g) := by
  have h1 := h.stored (k * 7 + 5) (.int .i64 u)
  have e : L = L.take k ++ L[k] :: L.drop (k + 1) := by rw [← List.drop_eq_getElem_cons hk, List.take_append_drop]
  have es : (ecells L).set (k * 7 + 5) (.int .i64 u) = ecells (L.set k ⟨L[k].k, L[k].y, L[k].c, L[k].t, L[k].m, u, L[k].b⟩) := by
    have hl : (L.take k).length = k := by rw [List.length_take]; omega
    have e2 : L.set k ⟨L[k].k, L[k].y, L[k].c, L[k].t, L[k].m, u, L[k].b⟩ = L.take k ++ ⟨L[k].k, L[k].y, L[k].c, L[k].t, L[k].m, u, L[k].b⟩ :: L.drop (k + 1) := by rw [List.set_eq_take_append_cons_drop, if_pos hk]
    rw [e2]
    conv => lhs; rw [e]
    exact ecells_set5 (L.take k) (L.drop (k + 1)) L[k] u hl
  refine ⟨?_, h1.2⟩
  unfold OwnsEvent
  rw [List.length_set, ← es]
  exact h1.1
theorem OwnsEvent.set6 {w : World} {base g cap : Nat} {L : List Ev} (h : OwnsEvent w base (.slice (some ⟨g, 0, none⟩) L.length cap) L) (k : Nat) (hk : k < L.length) (u : Bool) :
    OwnsEvent (w.setCell ⟨g, k * 7 + 6, none⟩ (.bool u)) base (.slice (some ⟨g, 0, none⟩) (L.set k ⟨L[k].k, L[k].y, L[k].c, L[k].t, L[k].m, L[k].f, u⟩).length cap) (L.set k ⟨L[k].k, L[k].y, L[k].c, L[k].t, L[k].m, L[k].f, u⟩) ∧ w.grownBy (w.setCell ⟨g, k * 7 + 6, none⟩ (.bool u)) (some g) := by
  have h1 := h.stored (k * 7 + 6) (.bool u)
  have e : L = L.take k ++ L[k] :: L.drop (k + 1) := by rw [← List.drop_eq_getElem_cons hk, List.take_append_drop]
  have es : (ecells L).set (k * 7 + 6) (.bool u) = ecells (L.set k ⟨L[k].k, L[k].y, L[k].c, L[k].t, L[k].m, L[k].f, u⟩) := by
    have hl : (L.take k).length = k := by rw [List.length_take]; omega
    have e2 : L.set k ⟨L[k].k, L[k].y, L[k].c, L[k].t, L[k].m, L[k].f, u⟩ = L.take k ++ ⟨L[k].k, L[k].y, L[k].c, L[k].t, L[k].m, L[k].f, u⟩ :: L.drop (k + 1) := by rw [List.set_eq_take_append_cons_drop, if_pos hk]
    rw [e2]
    conv => lhs; rw [e]
    exact ecells_set6 (L.take k) (L.drop (k + 1)) L[k] u hl
  refine ⟨?_, h1.2⟩
  unfold OwnsEvent
  rw [List.length_set, ← es]
  exact h1.1
theorem cells_Event {L : List Ev} : ecells L = [] ↔ L = [] := by
  constructor
  · intro h
    have := ecells_len L
    rw [h] at this
    simp only [List.length_nil] at this
    exact List.length_eq_zero_iff.1 (by omega)
  · rintro rfl; rfl
theorem cell_one_Event {L : List Ev} {u : Value} (h : u ∈ ecells L) : u.oneCell' = true := by
  unfold ecells at h
  obtain ⟨x, _, hx⟩ := List.mem_flatMap.1 h
  simp only [Ev.cells, List.mem_cons, List.mem_nil_iff, or_false] at hx
  rcases hx with rfl | rfl | rfl | rfl | rfl | rfl | rfl <;> rfl
/-- append to a list of one's own, whatever list is appended. -/
theorem app_Event {ops : Array Oper} {rest : List Oper} {o : Oper} {a : Act} {Q : Exit → Act → World → Prop} {wr : World} (hgd : o.guard = none) (s x : Operand)
    (ho : o.op = .call { callee := .builtin .append, args := #[s, x], argTypes := #[34, 34] }) (base : Nat) (v : Value) (L M : List Ev) (hs : a.eval s = v) (xa : Option Addr) (c : Nat)
    (hx : a.eval x = .slice xa M.length c) (hM : Cells wr xa (ecells M)) (hn : xa = none → c = 0) (hown : OwnsEvent wr base v L) (hl : L.length + M.length ≤ 4194304) (hbase : base ≤ wr.heap.size)
    (h : ∀ v' w', OwnsEvent w' base v' (L ++ M) → wr.grownBy w' v.ownBlock → (v ≠ .slice none 0 0 → v' ≠ .slice none 0 0) → wpList Tryz.prog ops Q rest (a.put o.dst v') w') :
    wpList Tryz.prog ops Q (o :: rest) a wr := by
  have hI := infoEvent
  cases hi : Tryz.prog.info? 41 with
  | none => rw [hi] at hI; simp at hI
  | some i =>
    rw [hi] at hI
    simp at hI
    obtain ⟨hz, hsz, hby⟩ := hI
    cases xa with
    | none =>
      obtain rfl := hn rfl
      have hM0 : M = [] := by
        rcases hM with hM | ⟨_, _, e, _⟩
        · exact cells_Event.1 hM
        · cases e
      subst hM0
      refine wpList_append_own_none hgd s x 34 ho base 41 i 7 underEvents hi v L.length (ecells L) hs hown hx ?_
      exact h v wr (by simpa using hown) ⟨rfl, rfl, rfl, Nat.le_refl _, fun _ _ _ => rfl⟩ (fun h => h)
    | some p =>
      refine wpList_append_own _ hgd s x 34 ho base 41 i _ 7 56 underEvents hi hz hsz hby rfl (by decide) v L.length (ecells L) hs hown p M.length c (ecells M) hx (by rw [ecells_len]) ?_ (fun u hu => cell_one_Event hu) ?_ ?_ hbase ?_
      · intro j u hj
        rcases hM with hM | ⟨b, off, e, hM⟩
        · rw [hM] at hj; simp at hj
        · obtain rfl := Option.some.inj e
          obtain ⟨hj', e'⟩ := List.getElem?_eq_some_iff.1 hj
          have := hM j hj'
          rw [e'] at this
          rw [← this, addr_at]
      · simp only [maxLen]; omega
      · omega
      · intro v' w' h1 h2 h3
        exact h v' w' (by unfold OwnsEvent; rw [ecells_append, List.length_append]; exact h1) h2 (fun hn he => hn (h3.1 he).1)
end Go.Proofs.YteoloapjhlpnjaaGreatDoor
