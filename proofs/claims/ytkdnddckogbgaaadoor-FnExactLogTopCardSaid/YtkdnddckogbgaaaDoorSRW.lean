/- SectorRead of the model, whole. -/
import Derived.Test.YtkdnddckogbgaaaDoorSRS
namespace Go.Proofs.YtkdnddckogbgaaaDoor
open Go.RowKit Go.Deep
set_option linter.unusedVariables false
set_option linter.unusedSimpArgs false
theorem getV_nat (L : List UInt8) (p s : Int) : ∃ n : Nat, getV L p s = (n : Nat) := by
  unfold getV
  split
  · exact ⟨_, rfl⟩
  · exact ⟨0, rfl⟩
theorem sec_byte7 {q e : Nat} {L : List UInt8} (h : secL q e [] = L) : numL (cut L 7 1) = 0 := by
  have e1 : secL q e [] = ([74] ++ digs q 3 ++ digs e 3) ++ ([0] ++ (List.replicate 114 0 ++ digs q 3 ++ digs e 3)) := by
    unfold secL
    rw [show digs ([] : List UInt8).length 1 = [0] from rfl]
    simp [List.append_assoc]
  rw [← h, e1]
  unfold cut
  rw [List.drop_append_of_le_length (by simp [digs_length]), List.drop_of_length_le (by simp [digs_length])]
  simp [numL]
theorem secread_spec (b off : Nat) (L : List UInt8) (cap : Nat) (w : World) (hc : Cells w (some ⟨b, off, none⟩) (bys L)) (hl : L.length ≤ 16777216) (hcap : L.length ≤ cap) (hcm : cap ≤ 9223372036854775807) :
    Calls Tryd.prog 26 #[.slice (some ⟨b, off, none⟩) L.length cap] w (SrPost w L) := by
  by_cases h128 : L.length = 128
  · have g1 : getV L 1 3 = (numL (cut L 1 3) : Nat) := getV_cut (p := 1) (s := 3) (by decide) (by decide) (by omega)
    have g2 : getV L 4 3 = (numL (cut L 4 3) : Nat) := getV_cut (p := 4) (s := 3) (by decide) (by decide) (by omega)
    have g3 : getV L 7 1 = (numL (cut L 7 1) : Nat) := getV_cut (p := 7) (s := 1) (by decide) (by decide) (by omega)
    by_cases hn : numL (cut L 7 1) ≤ 100
    · have hlen : (cut L 8 (numL (cut L 7 1))).length = numL (cut L 7 1) := cut_length (by omega)
      have ha := sec_again h128 rfl hn
      cases hok : secB (numL (cut L 1 3) : Nat) (numL (cut L 4 3) : Nat) (cut L 8 (numL (cut L 7 1))).length
      · have hsr : srB L = false := by unfold srB; rw [← hlen, hok, Bool.and_false]
        exact secspec_b_ok b off L cap w hc hl _ _ _ g1 g2 g3 hn h128 hcap hcm hok hsr
      · have hR : secR (numL (cut L 1 3) : Nat) (numL (cut L 4 3) : Nat) (cut L 8 (numL (cut L 7 1))) = secL (numL (cut L 1 3)) (numL (cut L 4 3)) (cut L 8 (numL (cut L 7 1))) := by unfold secR; rw [if_pos hok]; simp
        have hok' := hok
        rw [hlen] at hok'
        by_cases hh : numL (cut L 0 1) = 74 ∧ cut L (8 + numL (cut L 7 1)) (114 - numL (cut L 7 1)) = List.replicate (114 - numL (cut L 7 1)) 0 ∧ numL (cut L 122 3) = numL (cut L 1 3) ∧ numL (cut L 125 3) = numL (cut L 4 3)
        · have hsr : srB L = true := by
            unfold srB
            rw [hok', decide_eq_true h128, decide_eq_true hn, decide_eq_true hh.1, decide_eq_true hh.2.1, decide_eq_true hh.2.2.1, decide_eq_true hh.2.2.2]; rfl
          exact secspec_b_yes b off L cap w hc hl _ _ _ g1 g2 g3 hn h128 hcap hcm hok (hR.trans (ha.2 hh)) hsr rfl rfl rfl
        · have hsr : srB L = false := by
            rw [Bool.eq_false_iff]
            intro h
            unfold srB at h
            simp only [Bool.and_eq_true, decide_eq_true_eq] at h
            exact hh ⟨h.1.1.1.1.1.2, h.1.1.1.2, h.1.1.2, h.1.2⟩
          exact secspec_b_ne b off L cap w hc hl _ _ _ g1 g2 g3 hn h128 hcap hcm hok (fun e => hh (ha.1 (hR.symm.trans e))) hsr
    · have hsr : srB L = false := by
        rw [Bool.eq_false_iff]
        intro h
        unfold srB at h
        simp only [Bool.and_eq_true, decide_eq_true_eq] at h
        exact hn h.1.1.1.1.2
      cases hok : secB (numL (cut L 1 3) : Nat) (numL (cut L 4 3) : Nat) ([] : List UInt8).length
      · exact secspec_n_ok b off L cap w hc hl _ _ _ g1 g2 g3 (fun h => hn h.1) hok hsr
      · refine secspec_n_ne b off L cap w hc hl _ _ _ g1 g2 g3 (fun h => hn h.1) hok (fun e => hn ?_) hsr
        have hR : secR (numL (cut L 1 3) : Nat) (numL (cut L 4 3) : Nat) [] = secL (numL (cut L 1 3)) (numL (cut L 4 3)) [] := by unfold secR; rw [if_pos hok]; simp
        have := sec_byte7 (hR.symm.trans e)
        omega
  · have hsr : srB L = false := by unfold srB; rw [decide_eq_false h128]; rfl
    obtain ⟨q, g1⟩ := getV_nat L 1 3
    obtain ⟨e, g2⟩ := getV_nat L 4 3
    obtain ⟨n, g3⟩ := getV_nat L 7 1
    cases hok : secB (q : Int) (e : Int) ([] : List UInt8).length
    · exact secspec_n_ok b off L cap w hc hl _ _ _ g1 g2 g3 (fun h => h128 h.2) hok hsr
    · refine secspec_n_ne b off L cap w hc hl _ _ _ g1 g2 g3 (fun h => h128 h.2) hok (fun e => h128 ?_) hsr
      rw [← e]
      unfold secR
      rw [if_pos hok, secL_length (by simp)]
end Go.Proofs.YtkdnddckogbgaaaDoor
