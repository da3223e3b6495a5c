/- The turns of a list of channels, told of data alone. -/
import Derived.Test.YteoloapjhlpnjaaGreatDoorTnN
import Derived.Test.YteoloapjhlpnjaaGreatDoorEvX
namespace Go.Proofs.YteoloapjhlpnjaaGreatDoor
open Go.RowKit Go.Deep
set_option linter.unusedVariables false
set_option linter.unusedSimpArgs false
set_option maxRecDepth 10000

def turnP (c : Chn) (r : Rul) : List Ev := if nextV c r = c.pp then [] else [⟨4, 0, c.id, 0, c.ba, nextV c r, false⟩]
def turnsTo (C : List Chn) (r : Rul) (k : Nat) : List Ev := (C.take k).flatMap fun c => turnP c r
theorem turnsTo_step {C : List Chn} {r : Rul} {k : Nat} (h : k < C.length) : turnsTo C r (k + 1) = turnsTo C r k ++ turnP C[k] r := by
  unfold turnsTo
  rw [List.take_add_one, List.getElem?_eq_getElem h]
  simp only [Option.toList_some, List.flatMap_append, List.flatMap_cons, List.flatMap_nil, List.append_nil]
theorem turnsTo_len (C : List Chn) (r : Rul) : ∀ k, (turnsTo C r k).length ≤ k
  | 0 => by simp [turnsTo]
  | k + 1 => by
    have ih := turnsTo_len C r k
    by_cases h : k < C.length
    · rw [turnsTo_step h, List.length_append]
      have : (turnP C[k] r).length ≤ 1 := by unfold turnP; split <;> simp
      omega
    · have e : turnsTo C r (k + 1) = turnsTo C r k := by
        unfold turnsTo
        rw [List.take_of_length_le (by omega), List.take_of_length_le (by omega)]
      rw [e]; omega
def turnOk (B : Bk) (r : Rul) : Bool := bookB B && ruleB r
def turnsV (B : Bk) (r : Rul) : List Ev := if turnOk B r = true then turnsTo B.C r B.C.length else []
theorem turns_no {B : Bk} {r : Rul} (h : turnOk B r = false) : turnsV B r = [] := by simp [turnsV, h]
theorem turns_yes {B : Bk} {r : Rul} (h : turnOk B r = true) : turnsV B r = turnsTo B.C r B.C.length := by simp [turnsV, h]
theorem book_chans {B : Bk} (h : bookB B = true) : B.C.length ≤ 20 ∧ ∀ j (hj : j < B.C.length), chanB B B.C[j] = true := by
  simp only [bookB, headB, Bool.and_eq_true, decide_eq_true_eq] at h
  exact ⟨h.1.1.1.1.1.2, fun j hj => (List.all_eq_true.1 h.2) _ (List.getElem_mem hj)⟩
theorem turnsV_len (B : Bk) (r : Rul) : (turnsV B r).length ≤ 20 := by
  unfold turnsV
  split
  · rename_i h
    simp only [turnOk, Bool.and_eq_true] at h
    exact Nat.le_trans (turnsTo_len _ _ _) (book_chans h.1).1
  · simp
theorem next_fits {B : Bk} {r : Rul} (h : turnOk B r = true) (j : Nat) (hj : j < B.C.length) : ruleB r = true ∧ ppmB B.C[j].pp = true ∧ nppV B.C[j] r = nextV B.C[j] r := by
  simp only [turnOk, Bool.and_eq_true] at h
  have hn := chanB_npp ((book_chans h.1).2 j hj) h.2
  have hn' := hn
  simp only [nppB, Bool.and_eq_true] at hn'
  exact ⟨h.2, hn'.2, by simp [nppV, hn]⟩
theorem bornE {W w : World} {base : Nat} {v : Value} {L : List Ev} (h : OwnsEvent w base v L) (hb : W.heap.size ≤ base) : ∃ a c, v = .slice a L.length c ∧ (a = none → c = 0) ∧ Born W w [(a, ecells L)] := by
  obtain ⟨a, cap, hv, hl, _, hn, ho, hb'⟩ := Own.of_owns h
  exact ⟨a, cap, hv, hn, ho, fun b hx => Nat.le_trans hb (hb' b hx)⟩
theorem one_Event (W : World) (y : Ev) : Cells (W.alloc (.cells #[.int .i64 y.k, .int .i64 y.y, .int .i64 y.c, .int .i64 y.t, .int .i64 y.m, .int .i64 y.f, .bool y.b] 41)) (some ⟨W.heap.size, 0, none⟩) (ecells [y]) := Or.inr ⟨W.heap.size, 0, rfl, fun j hj => by
  have hj' : j < 7 := by have h4 := ecells_len [y]; rw [h4] at hj; simpa using hj
  rcases (show j = 0 ∨ j = 1 ∨ j = 2 ∨ j = 3 ∨ j = 4 ∨ j = 5 ∨ j = 6 by omega) with rfl | rfl | rfl | rfl | rfl | rfl | rfl <;> simp [ecells, Ev.cells]⟩
theorem OwnsEvent.kept' {w w' : World} {base : Nat} {v : Value} {L : List Ev} (h : OwnsEvent w base v L) (hk : Keeps w w') : OwnsEvent w' base v L := by
  refine ⟨h.1, ?_⟩
  rcases h.2 with h2 | ⟨g, cap, cur, e, h3, h4, h5⟩
  · exact .inl h2
  · exact .inr ⟨g, cap, cur, e, h3, by rw [Below.block hk g (h.lt g (by rw [e]; rfl)).2]; exact h4, h5⟩
end Go.Proofs.YteoloapjhlpnjaaGreatDoor
