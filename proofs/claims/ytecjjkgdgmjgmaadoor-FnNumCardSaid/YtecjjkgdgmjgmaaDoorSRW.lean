/- SectorRead of the model, whole. -/
import Derived.Test.YtecjjkgdgmjgmaaDoorSRS
namespace Go.Proofs.YtecjjkgdgmjgmaaDoor
open Go.RowKit Go.Deep
set_option linter.unusedVariables false
set_option linter.unusedSimpArgs false
theorem getV_nat (L : List UInt8) (p s : Int) : ∃ n : Nat, getV L p s = (n : Nat) := by
  unfold getV
  split
  · exact ⟨_, rfl⟩
  · exact ⟨0, rfl⟩
theorem sec_byte7 {q e : Nat} {L : List UInt8} (h : secL q e [] = L) : numL (cut L 7 1) = 0 := by
  have e1 : secL q e [] = ([74] ++ digs q 3 ++ digs e 3) ++ ([0] ++ (List.replicate 114 0 ++ digs q 3 ++ digs e 3)) := by
    unfold secL
    rw [show digs ([] : List UInt8).length 1 = [0] from rfl]
    simp [List.append_assoc]
  rw [← h, e1]
  unfold cut
  rw [List.drop_append_of_le_length (by simp [digs_length]), List.drop_of_length_le (by simp [digs_length])]
  simp [numL]
end Go.Proofs.YtecjjkgdgmjgmaaDoor
