/- SectorBytes, the program's and the model's. -/
import Derived.Test.YtkdnddckogbgaaaDoorSec
import Derived.Test.YtkdnddckogbgaaaDoorZer
import Derived.Test.YtkdnddckogbgaaaDoorPut
namespace Go.Proofs.YtkdnddckogbgaaaDoor
open Go.RowKit Go.Deep
set_option linter.unusedVariables false
set_option maxRecDepth 10000

/-- The bytes of a sector. -/
def secL (q e : Nat) (L : List UInt8) : List UInt8 := [74] ++ digs q 3 ++ digs e 3 ++ digs L.length 1 ++ L ++ List.replicate (114 - L.length) 0 ++ digs q 3 ++ digs e 3
def secR (q e : Int) (L : List UInt8) : List UInt8 := if secB q e L.length = true then secL q.toNat e.toNat L else []
theorem secL_length {q e : Nat} {L : List UInt8} (h : L.length ≤ 100) : (secL q e L).length = 128 := by
  simp [secL, digs_length]; omega
theorem secR_length (q e : Int) (L : List UInt8) : (secR q e L).length ≤ 128 := by
  unfold secR
  split
  · rename_i h
    simp only [secB, Bool.and_eq_true, decide_eq_true_eq] at h
    rw [secL_length h.2]; exact Nat.le_refl _
  · simp
def SecPost (w : World) (q e : Int) (L : List UInt8) (x : Ending) (w' : World) : Prop := ∃ v, x = .returned (.tuple #[v, .bool (secB q e L.length)]) ∧ OwnsB w' w.heap.size v (secR q e L) ∧ Keeps w w'
theorem SecPost.no {w w' : World} {q e : Int} {L : List UInt8} (h : secB q e L.length = false) (hk : Keeps w w') : SecPost w q e L (.returned (.tuple #[.slice none 0 0, .bool false])) w' :=
  ⟨_, by rw [h], by unfold secR; rw [h]; exact OwnsB.nil _ _, hk⟩
theorem SecPost.yes {w w' : World} {q e : Nat} {L : List UInt8} {v : Value} (h : secB q e L.length = true) (ho : OwnsB w' w.heap.size v (secL q e L)) (hk : Keeps w w') : SecPost w q e L (.returned (.tuple #[v, .bool true])) w' :=
  ⟨_, by rw [h], by unfold secR; rw [if_pos h]; exact ho, hk⟩
theorem OwnsB.alloc {w : World} {base : Nat} {v : Value} {L : List UInt8} (h : OwnsB w base v L) (o : Obj) : OwnsB (w.alloc o) base v L := World.ownsRow.alloc h o
theorem secB_true {q e : Int} {n : Nat} (h : secB q e n = true) : 0 ≤ q ∧ q < 600 ∧ 1 ≤ e ∧ e ≤ 16000000 ∧ n ≤ 100 := by
  simp only [secB, Bool.and_eq_true, decide_eq_true_eq] at h
  exact ⟨h.1.1.1.1, h.1.1.1.2, h.1.1.2, h.1.2, h.2⟩
theorem make_sec (w : World) : (Instr.makeSlice 48 (.int .i64 0) (.int .i64 128)).run Tryd.prog w = .ok (.slice (some ⟨w.heap.size, 0, none⟩) 0 128) (w.alloc (.cells (madeCells #[.int .u8 0] 128) 5)) := by
  have hI := infoByte
  cases hi : Tryd.prog.info? 5 with
  | none => rw [hi] at hI; simp at hI
  | some i =>
    rw [hi] at hI
    simp at hI
    obtain ⟨hz, hs, hb⟩ := hI
    have h := run_make (P := Tryd.prog) w 48 5 i _ underBytes hi hz .i64 .i64 0 128 (by omega) (by omega) (by rw [hb]; omega) (by omega)
    rw [hs] at h
    exact h

end Go.Proofs.YtkdnddckogbgaaaDoor
