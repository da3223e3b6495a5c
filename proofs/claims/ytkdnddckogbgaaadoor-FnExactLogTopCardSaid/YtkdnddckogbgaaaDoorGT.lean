/- A reader of bytes: take, where all is there. -/
import Derived.Test.YtkdnddckogbgaaaDoorGI
import Derived.Deep.DrawnRows
namespace Go.Proofs.YtkdnddckogbgaaaDoor
open Go.RowKit Go.Deep
set_option linter.unusedVariables false
set_option maxRecDepth 10000
attribute [local go_sem ↓] Go.wp_at_zero Go.wp_at_succ
set_option maxHeartbeats 8000000 in
theorem take_yes (B b off : Nat) (L : List UInt8) (cap p c : Nat) (w : World) (hr : Rd w B (some ⟨b, off, none⟩) L cap p) (hl : L.length ≤ 16777216) (hcap : L.length ≤ cap) (hcm : cap ≤ 9223372036854775807) (hc1 : c ≤ 1000) (h : p + c ≤ L.length) (hpc : p < cap) :
    Calls Tryd.prog 73 #[.pointer (some ⟨B, 0, none⟩), .int .i64 (c : Int)] w fun e w' => e = .returned (.slice (some ⟨b, off + p, none⟩) c (cap - p)) ∧ ∃ n, w' = (w.drewN n).setCell ⟨B, 1, none⟩ (.int .i64 ((p + c : Nat) : Int)) := by
  obtain ⟨d0, d1, d2⟩ := hr
  have hp0 : (0 : Int) ≤ (p : Int) := by omega
  have hwr : IntKind.i64.wrap ((L.length : Int) - (c : Int)) = (L.length : Int) - c := by rw [IntKind.wrap_i64]; omega
  have hdec : decide ((p : Int) ≤ (L.length : Int) - (c : Int)) = true := decide_eq_true (by omega)
  have hdp : decide ((0 : Int) ≤ (p : Int)) = true := decide_eq_true hp0
  have hadd : IntKind.i64.wrap ((p : Int) + (c : Int)) = (p : Int) + c := by rw [IntKind.wrap_i64]; omega
  have hs0 : (p : Int) ≤ (cap : Int) := by omega
  have hs3 : (p : Int) < (cap : Int) := by omega
  have hs1 : (p : Int) ≤ (p : Int) + (c : Int) := by omega
  have hs2 : (p : Int) + (c : Int) ≤ (cap : Int) := by omega
  go_enter Tryd.func73, Tryd.ntmps73
  go_wp2_with fail
  go_region_held3 (fun w' => w'.cell? ⟨B, 0, none⟩ = some (.slice (some ⟨b, off, none⟩) L.length cap) ∧ w'.cell? ⟨B, 1, none⟩ = some (.int .i64 (p : Int))) (go_keep) ((go_at_call 69; refine (insist_yes _).mono ?_; rintro e w' ⟨rfl, rfl⟩))
  go_wp2_with fail
  go_region_held3 (fun w' => w'.cell? ⟨B, 0, none⟩ = some (.slice (some ⟨b, off, none⟩) L.length cap) ∧ w'.cell? ⟨B, 1, none⟩ = some (.int .i64 (p : Int))) (go_keep) (fail)
  go_wp2_with fail
  go_ret
  have hcn : ((p : Int) + (c : Int)).toNat - p = c := by omega
  refine ⟨?_, 2, rfl⟩
  show Ending.returned (Value.slice (some ⟨b, off + p, none⟩) (((p : Int) + (c : Int)).toNat - p) (cap - p)) = _
  rw [hcn]

/-- The number in bytes, the highest first. -/
def numL (L : List UInt8) : Nat := L.foldl (fun n b => n * 256 + b.toNat) 0
theorem numL_snoc (L : List UInt8) (b : UInt8) : numL (L ++ [b]) = numL L * 256 + b.toNat := by simp [numL, List.foldl_append]
theorem fold_lt : ∀ (L : List UInt8) (n : Nat), L.foldl (fun n b => n * 256 + b.toNat) n < (n + 1) * 256 ^ L.length
  | [], n => by simp
  | b :: t, n => by
    have h := fold_lt t (n * 256 + b.toNat)
    have hb := b.toNat_lt
    rw [List.foldl_cons, List.length_cons, Nat.pow_succ]
    refine Nat.lt_of_lt_of_le h ?_
    rw [Nat.mul_comm (256 ^ t.length) 256, ← Nat.mul_assoc]
    exact Nat.mul_le_mul_right _ (by omega)
theorem numL_lt (L : List UInt8) : numL L < 256 ^ L.length := by have := fold_lt L 0; simpa [numL] using this
end Go.Proofs.YtkdnddckogbgaaaDoor
