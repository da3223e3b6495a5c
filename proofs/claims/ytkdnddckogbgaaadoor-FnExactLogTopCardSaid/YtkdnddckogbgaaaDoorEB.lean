/- The bytes of an event. -/
import Derived.Test.YtkdnddckogbgaaaDoorEv
import Derived.Test.YtkdnddckogbgaaaDoorPut
namespace Go.Proofs.YtkdnddckogbgaaaDoor
open Go.RowKit Go.Deep
set_option linter.unusedVariables false
set_option maxRecDepth 10000
set_option linter.unusedSimpArgs false

def yesL (b : Bool) : List UInt8 := if b then [1] else [0]
/-- The bytes of an event. -/
def bodyL (k y c t m f : Nat) (b : Bool) : List UInt8 := [69] ++ digs k 1 ++ digs y 3 ++ digs c 1 ++ digs t 1 ++ digs m 7 ++ digs f 7 ++ yesL b
def bodyR (k y c t m f : Int) (b : Bool) : List UInt8 := if evB k y c t m f b = true then bodyL k.toNat y.toNat c.toNat t.toNat m.toNat f.toNat b else []
theorem bodyL_length (k y c t m f : Nat) (b : Bool) : (bodyL k y c t m f b).length = 22 := by
  cases b <;> simp [bodyL, digs_length, yesL]
theorem bodyR_length (k y c t m f : Int) (b : Bool) : (bodyR k y c t m f b).length ≤ 22 := by
  unfold bodyR
  split
  · rw [bodyL_length]; exact Nat.le_refl _
  · simp
theorem fieldB_true {h : Bool} {n lo hi : Int} (hlo : 0 ≤ lo) (hhi : 0 ≤ hi) (hf : fieldB h n lo hi = true) : 0 ≤ n ∧ n ≤ hi := by
  cases h <;> simp [fieldB] at hf <;> omega
theorem evB_bounds {k y c t m f : Int} {b : Bool} (h : evB k y c t m f b = true) : (1 ≤ k ∧ k ≤ 11) ∧ (0 ≤ y ∧ y ≤ 1000000) ∧ (0 ≤ c ∧ c ≤ 99) ∧ (0 ≤ t ∧ t ≤ 99) ∧ (0 ≤ m ∧ m ≤ 1125899906842624) ∧ (0 ≤ f ∧ f ≤ 1125899906842624) := by
  unfold evB at h
  split at h
  · simp only [Bool.and_eq_true, fieldB, if_true, if_false, Bool.false_eq_true, decide_eq_true_eq] at h; omega
  · split at h
    · simp only [Bool.and_eq_true, fieldB, if_true, if_false, Bool.false_eq_true, decide_eq_true_eq] at h; omega
    · split at h
      · simp only [Bool.and_eq_true, fieldB, if_true, if_false, Bool.false_eq_true, decide_eq_true_eq] at h; omega
      · split at h
        · simp only [Bool.and_eq_true, fieldB, if_true, if_false, Bool.false_eq_true, decide_eq_true_eq] at h; omega
        · split at h
          · simp only [Bool.and_eq_true, fieldB, if_true, if_false, Bool.false_eq_true, decide_eq_true_eq] at h; omega
          · split at h
            · simp only [Bool.and_eq_true, fieldB, if_true, if_false, Bool.false_eq_true, decide_eq_true_eq] at h; omega
            · split at h
              · simp only [Bool.and_eq_true, fieldB, if_true, if_false, Bool.false_eq_true, decide_eq_true_eq] at h; omega
              · split at h
                · simp only [Bool.and_eq_true, fieldB, if_true, if_false, Bool.false_eq_true, decide_eq_true_eq] at h; omega
                · cases h
def BodyPost (w : World) (k y c t m f : Int) (b : Bool) (x : Ending) (w' : World) : Prop := ∃ v, x = .returned (.tuple #[v, .bool (evB k y c t m f b)]) ∧ OwnsB w' w.heap.size v (bodyR k y c t m f b) ∧ Keeps w w'
theorem BodyPost.no {w w' : World} {k y c t m f : Int} {b : Bool} (h : evB k y c t m f b = false) (hk : Keeps w w') : BodyPost w k y c t m f b (.returned (.tuple #[.slice none 0 0, .bool false])) w' :=
  ⟨_, by rw [h], by unfold bodyR; rw [h]; exact OwnsB.nil _ _, hk⟩
theorem BodyPost.yes {w w' : World} {k y c t m f : Nat} {b : Bool} {v : Value} (h : evB k y c t m f b = true) (ho : OwnsB w' w.heap.size v (bodyL k y c t m f b)) (hk : Keeps w w') : BodyPost w k y c t m f b (.returned (.tuple #[v, .bool true])) w' :=
  ⟨_, by rw [h], by unfold bodyR; rw [if_pos h]; exact ho, hk⟩
theorem OwnsB.allocE {w : World} {base : Nat} {v : Value} {L : List UInt8} (h : OwnsB w base v L) (o : Obj) : OwnsB (w.alloc o) base v L := World.ownsRow.alloc h o
theorem make_22 (w : World) : (Instr.makeSlice 48 (.int .i64 0) (.int .i64 22)).run Tryd.prog w = .ok (.slice (some ⟨w.heap.size, 0, none⟩) 0 22) (w.alloc (.cells (madeCells #[.int .u8 0] 22) 5)) := by
  have hI := infoByte
  cases hi : Tryd.prog.info? 5 with
  | none => rw [hi] at hI; simp at hI
  | some i =>
    rw [hi] at hI
    simp at hI
    obtain ⟨hz, hs, hb⟩ := hI
    have h := run_make (P := Tryd.prog) w 48 5 i _ underBytes hi hz .i64 .i64 0 22 (by omega) (by omega) (by rw [hb]; omega) (by omega)
    rw [hs] at h
    exact h
theorem digs_one (n : Nat) : digs n 1 = [UInt8.ofNat n] := by simp [digs, digsTo]
theorem put_good (a : Option Addr) (cap : Nat) (L : List UInt8) (n s : Nat) (w : World) (hc : Cells w a (bys L)) (hn : a = none → cap = 0) (hl : L.length ≤ 2097152) (h1 : 1 ≤ s) (h2 : s ≤ 7) (hb : n < 256 ^ s) :
    Calls Tryd.prog 61 #[.slice a L.length cap, .int .i64 (n : Int), .int .i64 (s : Int)] w fun x w' => ∃ v, x = .returned (.tuple #[v, .bool true]) ∧ OwnsB w' w.heap.size v (L ++ digs n s) ∧ Keeps w w' := by
  have hp : putB n s = true := putB_yes h1 h2 (by omega) (by omega)
  have h7 := pow_le7 h2
  refine (putnum_spec a cap L n s w hc hn hl (by omega)).mono ?_
  rintro x w' ⟨v, rfl, ho, hk⟩
  refine ⟨v, by rw [hp], ?_, hk⟩
  unfold putL at ho
  rw [if_pos hp] at ho
  exact ho
theorem cells_two (w : World) (x y : UInt8) : Cells (w.alloc (.cells #[byV x, byV y] 5)) (some ⟨w.heap.size, 0, none⟩) (bys [x, y]) := by
  refine Or.inr ⟨_, 0, rfl, fun j hj => ?_⟩
  have hj2 : j < 2 := by simpa [bys] using hj
  match j, hj2 with
  | 0, _ => simp [bys]
  | 1, _ => simp [bys]
theorem nat_byte {n : Nat} (h : n < 256) : byV (UInt8.ofNat n) = .int .u8 (n : Int) := by rw [byV_ofNat]; congr 1; omega
end Go.Proofs.YtkdnddckogbgaaaDoor
