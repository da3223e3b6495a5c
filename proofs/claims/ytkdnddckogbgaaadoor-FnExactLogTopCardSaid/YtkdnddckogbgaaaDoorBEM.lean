/- An event out of bytes: what is read, and when. -/
import Derived.Test.YtkdnddckogbgaaaDoorEB
import Derived.Test.YtkdnddckogbgaaaDoorGW
namespace Go.Proofs.YtkdnddckogbgaaaDoor
open Go.RowKit Go.Deep
set_option linter.unusedVariables false
set_option linter.unusedSimpArgs false

theorem digs_snoc (n s : Nat) : digs n (s + 1) = digs (n / 256) s ++ [UInt8.ofNat n] := by
  unfold digs
  rw [digsTo_succ]
  congr 1
  · unfold digsTo
    refine List.map_congr_left fun i hi => ?_
    have hi' : i < s := List.mem_range.1 hi
    rw [Nat.div_div_eq_div_mul, ← Nat.pow_succ']
    congr 3
    omega
  · simp
theorem digs_num' : ∀ (s : Nat) (X : List UInt8), X.length = s → digs (numL X) s = X
  | 0, X, h => by
    have e := List.length_eq_zero_iff.1 h
    subst e
    rfl
  | s + 1, X, h => by
    have hne : X ≠ [] := fun e => by rw [e] at h; simp at h
    have e := List.dropLast_concat_getLast hne
    have hl : X.dropLast.length = s := by rw [List.length_dropLast, h]; rfl
    generalize X.dropLast = Y at e hl
    generalize X.getLast hne = b at e
    rw [← e, digs_snoc, numL_snoc]
    have hb := b.toNat_lt
    have e1 : (numL Y * 256 + b.toNat) / 256 = numL Y := by omega
    have e2 : UInt8.ofNat (numL Y * 256 + b.toNat) = b := by
      apply UInt8.toNat_inj.1
      simp
    rw [e1, e2, digs_num' s Y hl]
theorem digs_num {X : List UInt8} {s : Nat} (h : X.length = s) : digs (numL X) s = X := digs_num' s X h
/-- The piece of s bytes from p on. -/
def cut (L : List UInt8) (p s : Nat) : List UInt8 := (L.drop p).take s
theorem cut_length {L : List UInt8} {p s : Nat} (h : p + s ≤ L.length) : (cut L p s).length = s := by
  unfold cut; rw [List.length_take, List.length_drop]; omega
theorem cut_next (L : List UInt8) (p s : Nat) : L.drop p = cut L p s ++ L.drop (p + s) := by
  unfold cut; rw [← List.drop_drop, List.take_append_drop]
theorem getV_cut {L : List UInt8} {p s : Nat} (h1 : 1 ≤ s) (h2 : s ≤ 7) (h : p + s ≤ L.length) : getV L p s = (numL (cut L p s) : Nat) := by
  have hB : getB L p s = true := decide_eq_true (by omega)
  unfold getV cut
  rw [if_pos hB]
  simp
theorem numL_one (z : UInt8) : numL [z] = z.toNat := by simp [numL]
/-- What is read of 22 bytes, written again: the same bytes where the first is E and the last 0 or 1. -/
theorem body_again {L : List UInt8} (hl : L.length = 22) :
    bodyL (numL (cut L 1 1)) (numL (cut L 2 3)) (numL (cut L 5 1)) (numL (cut L 6 1)) (numL (cut L 7 7)) (numL (cut L 14 7)) (decide (numL (cut L 21 1) = 1)) = L ↔ numL (cut L 0 1) = 69 ∧ numL (cut L 21 1) ≤ 1 := by
  have eL : L = cut L 0 1 ++ cut L 1 1 ++ cut L 2 3 ++ cut L 5 1 ++ cut L 6 1 ++ cut L 7 7 ++ cut L 14 7 ++ cut L 21 1 := by
    have h0 := cut_next L 0 1
    have h1 := cut_next L 1 1
    have h2 := cut_next L 2 3
    have h3 := cut_next L 5 1
    have h4 := cut_next L 6 1
    have h5 := cut_next L 7 7
    have h6 := cut_next L 14 7
    have h7 := cut_next L 21 1
    have h8 : L.drop 22 = [] := List.drop_eq_nil_of_le (by omega)
    simp only [Nat.reduceAdd, List.drop_zero] at h0 h1 h2 h3 h4 h5 h6 h7
    rw [h8, List.append_nil] at h7
    rw [h7] at h6; rw [h6] at h5; rw [h5] at h4; rw [h4] at h3; rw [h3] at h2; rw [h2] at h1; rw [h1] at h0
    simpa [List.append_assoc] using h0
  have l0 : (cut L 0 1).length = 1 := cut_length (by omega)
  have l7 : (cut L 21 1).length = 1 := cut_length (by omega)
  obtain ⟨x, ex⟩ := List.length_eq_one_iff.1 l0
  obtain ⟨z, ez⟩ := List.length_eq_one_iff.1 l7
  have hb : bodyL (numL (cut L 1 1)) (numL (cut L 2 3)) (numL (cut L 5 1)) (numL (cut L 6 1)) (numL (cut L 7 7)) (numL (cut L 14 7)) (decide (numL (cut L 21 1) = 1)) = [69] ++ cut L 1 1 ++ cut L 2 3 ++ cut L 5 1 ++ cut L 6 1 ++ cut L 7 7 ++ cut L 14 7 ++ yesL (decide (numL (cut L 21 1) = 1)) := by
    unfold bodyL
    rw [digs_num (cut_length (by omega)), digs_num (cut_length (by omega)), digs_num (cut_length (by omega)), digs_num (cut_length (by omega)), digs_num (cut_length (by omega)), digs_num (cut_length (by omega))]
  rw [hb, ex, ez, numL_one, numL_one]
  have hz := z.toNat_lt
  constructor
  · intro h
    rw [ex, ez] at eL
    have h' := h.trans eL
    simp only [List.append_assoc, List.singleton_append] at h'
    obtain ⟨h1, h2⟩ := List.cons_eq_cons.1 h'
    have h3 := List.append_cancel_left (List.append_cancel_left (List.append_cancel_left (List.append_cancel_left (List.append_cancel_left (List.append_cancel_left h2)))))
    refine ⟨by rw [← h1]; rfl, ?_⟩
    by_cases e : z.toNat = 1
    · omega
    · rw [decide_eq_false e] at h3
      simp [yesL] at h3
      rw [← h3]; decide
  · rintro ⟨h1, h2⟩
    rw [ex, ez] at eL
    have e1 : x = 69 := UInt8.toNat_inj.1 (by rw [h1]; rfl)
    have e2 : yesL (decide (z.toNat = 1)) = [z] := by
      by_cases e : z.toNat = 1
      · rw [decide_eq_true e]
        have : z = 1 := UInt8.toNat_inj.1 (by rw [e]; rfl)
        rw [this]; rfl
      · rw [decide_eq_false e]
        have : z = 0 := UInt8.toNat_inj.1 (by show z.toNat = 0; omega)
        rw [this]; rfl
    rw [e2, ← e1]
    exact eL.symm
/-- Is there an event in the bytes? -/
def ebB (L : List UInt8) : Bool := decide (L.length = 22) && decide (numL (cut L 0 1) = 69) && decide (numL (cut L 21 1) ≤ 1) && evB (numL (cut L 1 1) : Nat) (numL (cut L 2 3) : Nat) (numL (cut L 5 1) : Nat) (numL (cut L 6 1) : Nat) (numL (cut L 7 7) : Nat) (numL (cut L 14 7) : Nat) (decide (numL (cut L 21 1) = 1))
/-- The event in the bytes, or none. -/
def ebV (L : List UInt8) : Value := if ebB L = true then evV (numL (cut L 1 1) : Nat) (numL (cut L 2 3) : Nat) (numL (cut L 5 1) : Nat) (numL (cut L 6 1) : Nat) (numL (cut L 7 7) : Nat) (numL (cut L 14 7) : Nat) (decide (numL (cut L 21 1) = 1)) else evV 0 0 0 0 0 0 false
end Go.Proofs.YtkdnddckogbgaaaDoor
