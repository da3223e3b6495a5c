/- DiskCrash of the model, by contract. -/
import Derived.Test.YtphabdjhmahemaaDCs
import Derived.Test.YtphabdjhmahemaaDWs
namespace Go.Proofs.Ytphabdjhmahemaa
open Go.RowKit Go.Deep
set_option linter.unusedVariables false
set_option linter.unusedSimpArgs false
set_option maxRecDepth 10000

theorem own_byte {w : World} {G : Nat} {Y : List UInt8} (h : Own w [(some ⟨G, 0, none⟩, bys Y)]) (i : Nat) (hi : i < Y.length) (x : UInt8) : Own (w.setCell ⟨G, i, none⟩ (byV x)) [(some ⟨G, 0, none⟩, bys (Y.set i x))] := by
  have hc : ∀ j (hj : j < (bys Y).length), w.cell? ⟨G, j, none⟩ = some (bys Y)[j] := by
    intro j hj
    have := cell_at h.mem j hj
    rwa [Nat.zero_add] at this
  have e : bys (Y.set i x) = (bys Y).set i (byV x) := by simp [bys, List.map_set]
  rw [e]
  refine h.wrote (by simp) (Or.inr ⟨G, 0, rfl, fun j hj => ?_⟩) (fun p => frozen_set _ _ _ _)
  rw [List.length_set] at hj
  rw [Nat.zero_add, List.getElem_set]
  by_cases e : i = j
  · subst e
    rw [if_pos rfl]
    exact World.cell?_setCell_same _ _ _ (hc i hj)
  · rw [if_neg e, World.cell?_setCell_other _ _ _ _ (fun h => e (by injection h))]
    exact hc j hj
theorem own_other {w : World} {S : List Seg} (h : Own w S) {a : Addr} (v : Value) (hn : ∀ x ∈ fp S, x ≠ a.block) : Own (w.setCell a v) S := h.turn (Turn.set (fs := [a.block]) (by simp) v) (fun x hx hb => hn x hx (by simpa using hb))
theorem fp_single {R : Nat} {xs : List Value} : ∀ x ∈ fp [((some ⟨R, 0, none⟩ : Option Addr), xs)], x = R := fun x hx => by
  rw [fp_one] at hx
  by_cases h0 : xs = []
  · simp [fpS, h0] at hx
  · rw [fpS_some h0] at hx
    simpa using hx
theorem land_step {X F : List UInt8} {j : Nat} (hX : X.length = 128) (hF : F.length = 128) (hj : j < 128) : (X.take j ++ F.drop j).set j (X[j]'(by omega)) = X.take (j + 1) ++ F.drop (j + 1) := by
  have h1 : (X.take j).length = j := by rw [List.length_take]; omega
  have e1 : F.drop j = F[j]'(by omega) :: F.drop (j + 1) := List.drop_eq_getElem_cons (by omega)
  have e2 : X.take (j + 1) = X.take j ++ [X[j]'(by omega)] := List.take_succ_eq_append_getElem (by omega)
  rw [List.set_append_right _ _ (by omega), h1, Nat.sub_self, e1, List.set_cons_zero, e2, List.append_assoc]
  rfl
theorem fullL_len {L : List UInt8} (h : L.length = 0 ∨ L.length = 128) : (fullL L).length = 128 := by
  unfold fullL
  split
  · simp
  · rename_i hne
    rcases h with h | h
    · exact absurd (List.length_eq_zero_iff.1 h) hne
    · exact h
theorem keepN_pos {K : List Int} {k : Nat} (h : k < K.length) (h1 : 1 ≤ K[k]) : (keepN K k : Int) = (if 128 < K[k] then 128 else K[k]) := by
  unfold keepN
  rw [List.getElem?_eq_getElem h]
  simp only
  rw [if_neg (by omega)]
  by_cases h2 : 128 < K[k]
  · rw [if_pos h2, if_pos h2]; rfl
  · rw [if_neg h2, if_neg h2]; omega
theorem keepN_zero {K : List Int} {k : Nat} (h : k < K.length → K[k]! < 1) : keepN K k = 0 := by
  unfold keepN
  by_cases hk : k < K.length
  · have h1 := h hk
    rw [getElem!_pos K k hk] at h1
    rw [List.getElem?_eq_getElem hk]
    simp only
    by_cases h2 : K[k] < 0
    · rw [if_pos h2]
    · rw [if_neg h2, if_neg (by omega)]; omega
  · rw [List.getElem?_eq_none (by omega)]

end Go.Proofs.Ytphabdjhmahemaa
