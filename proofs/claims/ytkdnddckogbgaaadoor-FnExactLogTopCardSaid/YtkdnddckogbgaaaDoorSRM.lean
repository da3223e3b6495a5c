/- A sector out of bytes: what is read, and when. -/
import Derived.Test.YtkdnddckogbgaaaDoorSB
import Derived.Test.YtkdnddckogbgaaaDoorRdT
namespace Go.Proofs.YtkdnddckogbgaaaDoor
open Go.RowKit Go.Deep
set_option linter.unusedVariables false
set_option linter.unusedSimpArgs false

theorem num_inj {X Y : List UInt8} (h : X.length = Y.length) (e : numL X = numL Y) : X = Y := by
  rw [← digs_num (X := X) rfl, ← digs_num (X := Y) rfl, e, h]
theorem digs_len1 {X : List UInt8} (h : X.length = 1) : numL X < 256 := by have := numL_lt X; rw [h] at this; simpa using this
/-- What is read of 128 bytes, written again: the same bytes where all ends fit. -/
theorem sec_again {L : List UInt8} {n : Nat} (hl : L.length = 128) (hn : numL (cut L 7 1) = n) (h100 : n ≤ 100) :
    secL (numL (cut L 1 3)) (numL (cut L 4 3)) (cut L 8 n) = L ↔ numL (cut L 0 1) = 74 ∧ cut L (8 + n) (114 - n) = List.replicate (114 - n) 0 ∧ numL (cut L 122 3) = numL (cut L 1 3) ∧ numL (cut L 125 3) = numL (cut L 4 3) := by
  have eL : L = cut L 0 1 ++ cut L 1 3 ++ cut L 4 3 ++ cut L 7 1 ++ cut L 8 n ++ cut L (8 + n) (114 - n) ++ cut L 122 3 ++ cut L 125 3 := by
    have h0 := cut_next L 0 1
    have h1 := cut_next L 1 3
    have h2 := cut_next L 4 3
    have h3 := cut_next L 7 1
    have h4 := cut_next L 8 n
    have h5 := cut_next L (8 + n) (114 - n)
    have h6 := cut_next L 122 3
    have h7 := cut_next L 125 3
    have h8 : L.drop 128 = [] := List.drop_eq_nil_of_le (by omega)
    rw [show 8 + n + (114 - n) = 122 by omega] at h5
    simp only [Nat.reduceAdd, List.drop_zero] at h0 h1 h2 h3 h6 h7
    rw [h8, List.append_nil] at h7
    rw [h7] at h6; rw [h6] at h5; rw [h5] at h4; rw [h4] at h3; rw [h3] at h2; rw [h2] at h1; rw [h1] at h0
    simpa [List.append_assoc] using h0
  have l8 : (cut L 8 n).length = n := cut_length (by omega)
  have l5 : (cut L (8 + n) (114 - n)).length = 114 - n := cut_length (by omega)
  have l0 : (cut L 0 1).length = 1 := cut_length (by omega)
  obtain ⟨x, ex⟩ := List.length_eq_one_iff.1 l0
  have hb : secL (numL (cut L 1 3)) (numL (cut L 4 3)) (cut L 8 n) = [74] ++ cut L 1 3 ++ cut L 4 3 ++ cut L 7 1 ++ cut L 8 n ++ List.replicate (114 - n) 0 ++ cut L 1 3 ++ cut L 4 3 := by
    unfold secL
    rw [l8, ← hn, digs_num (cut_length (by omega)), digs_num (cut_length (by omega)), digs_num (cut_length (by omega))]
  rw [hb]
  constructor
  · intro h
    have h' := h.trans eL
    rw [ex] at h'
    simp only [List.append_assoc, List.singleton_append] at h'
    obtain ⟨h1, h2⟩ := List.cons_eq_cons.1 h'
    have h3 := List.append_cancel_left (List.append_cancel_left (List.append_cancel_left (List.append_cancel_left h2)))
    have h4 := List.append_inj h3 (by simp [l5])
    have h5 := List.append_inj h4.2 (by rw [cut_length (by omega), cut_length (by omega)])
    refine ⟨by rw [ex, numL_one, ← h1]; rfl, h4.1.symm, by rw [h5.1], by rw [h5.2]⟩
  · rintro ⟨h1, h2, h3, h4⟩
    have e3 : cut L 122 3 = cut L 1 3 := num_inj (by rw [cut_length (by omega), cut_length (by omega)]) h3
    have e4 : cut L 125 3 = cut L 4 3 := num_inj (by rw [cut_length (by omega), cut_length (by omega)]) h4
    have e1 : x = 74 := by rw [ex, numL_one] at h1; exact UInt8.toNat_inj.1 (by rw [h1]; rfl)
    rw [h2, e3, e4, ex, e1] at eL
    exact eL.symm
/-- Is there a sector in the bytes? -/
def srB (L : List UInt8) : Bool := decide (L.length = 128) && decide (numL (cut L 0 1) = 74) && decide (numL (cut L 7 1) ≤ 100) && decide (cut L (8 + numL (cut L 7 1)) (114 - numL (cut L 7 1)) = List.replicate (114 - numL (cut L 7 1)) 0) && decide (numL (cut L 122 3) = numL (cut L 1 3)) && decide (numL (cut L 125 3) = numL (cut L 4 3)) && secB (numL (cut L 1 3) : Nat) (numL (cut L 4 3) : Nat) (numL (cut L 7 1))
def srQ (L : List UInt8) : Int := if srB L = true then (numL (cut L 1 3) : Nat) else 0
def srE (L : List UInt8) : Int := if srB L = true then (numL (cut L 4 3) : Nat) else 0
def srL (L : List UInt8) : List UInt8 := if srB L = true then cut L 8 (numL (cut L 7 1)) else []
theorem srL_len (L : List UInt8) : (srL L).length ≤ 100 := by
  unfold srL
  split
  · rename_i h
    unfold srB at h
    simp only [Bool.and_eq_true, decide_eq_true_eq] at h
    rw [cut_length (by omega)]
    exact h.1.1.1.1.2
  · simp
/-- No room where it is nil; the room is as great as what is in it. -/
def CapB (a : Option Addr) (c n : Nat) : Prop := (a = none → c = 0) ∧ n ≤ c ∧ c ≤ 9223372036854775807
theorem Born.of_owns3 {w w' : World} {n : Nat} {e : TypeId} {sz : Nat} {v : Value} {xs : List Value} (h : w'.ownsRow w.heap.size e sz v n xs) :
    ∃ (a : Option Addr) (cap : Nat), v = .slice a n cap ∧ CapB a cap n ∧ Born w w' [(a, xs)] := by
  obtain ⟨a, cap, hv, hl, hm, hn, ho, hb⟩ := Own.of_owns h
  exact ⟨a, cap, hv, ⟨hn, hl, Nat.le_trans hm (by decide)⟩, ho, hb⟩
/-- A sector is answered. -/
def SrPost (w : World) (L : List UInt8) (x : Ending) (w' : World) : Prop := ∃ (a : Option Addr) (c : Nat), x = .returned (.tuple #[secV (srQ L) (srE L) a (srL L).length c, .bool (srB L)]) ∧ CapB a c (srL L).length ∧ Born w w' [(a, bys (srL L))] ∧ Keeps w w'
theorem SrPost.no {w w' : World} {L : List UInt8} (h : srB L = false) (hk : Keeps w w') : SrPost w L (.returned (.tuple #[secV 0 0 none 0 0, .bool false])) w' := by
  refine ⟨none, 0, ?_, ⟨fun _ => rfl, by unfold srL; rw [h, if_neg (by simp)]; exact Nat.le_refl _, by decide⟩, ?_, hk⟩
  · unfold srQ srE srL
    rw [h]; rfl
  · unfold srL
    rw [h, if_neg (by simp)]
    refine ⟨⟨fun s hs => ?_, by simp [fp, fpS, bys], fun b hb => by simp [fp, fpS, bys] at hb⟩, fun b hb => by simp [fp, fpS, bys] at hb⟩
    rw [List.mem_singleton.1 hs]
    exact Cells.nil _ _
theorem SrPost.yes {w w' : World} {L : List UInt8} {q e n : Nat} {a : Option Addr} {c : Nat} (h : srB L = true) (hq : numL (cut L 1 3) = q) (he : numL (cut L 4 3) = e) (hn : numL (cut L 7 1) = n) (ha : CapB a c (cut L 8 n).length) (hb : Born w w' [(a, bys (cut L 8 n))]) (hk : Keeps w w') :
    SrPost w L (.returned (.tuple #[secV q e a (cut L 8 n).length c, .bool true])) w' := by
  refine ⟨a, c, ?_, by unfold srL; rw [if_pos h, hn]; exact ha, ?_, hk⟩
  · unfold srQ srE srL
    rw [h, if_pos rfl, if_pos rfl, if_pos rfl, hq, he, hn]
  · unfold srL
    rw [if_pos h, hn]; exact hb
end Go.Proofs.YtkdnddckogbgaaaDoor
