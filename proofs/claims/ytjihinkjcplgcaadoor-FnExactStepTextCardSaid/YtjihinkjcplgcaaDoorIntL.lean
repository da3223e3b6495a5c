/- What the laws do with lists of numbers. -/
import Derived.Test.YtjihinkjcplgcaaDoorInt0
import Derived.Test.YtjihinkjcplgcaaDoorFlt
namespace Go.Proofs.YtjihinkjcplgcaaDoor
open Go.RowKit Go.Deep
set_option linter.unusedVariables false
set_option linter.unusedSimpArgs false
set_option maxRecDepth 10000

theorem toIntS_k (a : Option Addr) (cap : Nat) (L : List Int) (w : World) (hc : Cells w a (its L)) (hl : L.length ≤ 1048576) :
    Calls Tryd.prog 17 #[.slice a L.length cap] w fun e w' => ∃ b, e = .returned (.slice (some ⟨b, 0, none⟩) L.length L.length) ∧ Born w w' [(some ⟨b, 0, none⟩, its L)] ∧ Keeps w w' := by
  have HC := hide hc
  clear hc
  have hmk := make_ints L.length hl
  have HR := hide ((World.rowIs_made w (.int .i64 0) L.length 3).congr (g := rowI L 0) (fun i _ => by simp [rowI]))
  have HKA := hide (Keeps.alloc (Keeps.refl w) (.cells (madeCells #[.int .i64 0] L.length) 3))
  go_enter Tryd.func17, Tryd.ntmps17
  go_wp2_with fail
  clear hmk
  go_loopw [4] (fun y w1 => ∃ k : Nat, k ≤ L.length ∧ y = .int .i64 (k : Int) ∧ w1.rowIs w.heap.size 3 L.length (rowI L k) ∧ Keeps w w1) (fun y _ => L.length - (intOf y).toNat)
  case atStart => exact ⟨0, by omega, rfl, HR.out, HKA.out⟩
  case round =>
    obtain ⟨k, hk, rfl, hr, hkw⟩ := hrel
    clear HR HKA
    by_cases hlt : k < L.length
    · obtain ⟨b, off, ea, c0⟩ := its_at (HC.out.kept hkw) k hlt
      subst ea
      have HS := hide (rowI_step L k hlt)
      have d0 := hr.cell (i := k) (by omega)
      have f0 := hr.frozen k
      have HRR := hide hr
      have HKW := hide hkw
      clear hr hkw
      generalize L[k] = x at *
      go_wp2_with fail
      go_roundw
      case rel => exact ⟨k + 1, by omega, by go_num, (HRR.out.set k (.int .i64 x)).congr (fun j _ => HS.out j), Keeps.setCell HKW.out (Nat.le_refl _) _⟩
      case measure => simp [intOf]; omega
    · have e : k = L.length := by omega
      subst e
      go_wp2_with fail
      go_ret
      exact ⟨_, rfl, born_row hr (its L) (by rw [its_length]; exact Nat.le_refl _) (fun j hj => rowI_end L j hj) (Nat.le_refl _), hkw⟩
theorem eqInts_k (a a' : Option Addr) (cap cap' : Nat) (L : List Int) (w : World) (hc : Cells w a (its L)) (hc' : Cells w a' (its L)) (hl : L.length ≤ 1048576) :
    Calls Tryd.prog 23 #[.slice a L.length cap, .slice a' L.length cap'] w fun e w' => e = .returned (.bool true) ∧ Keeps w w' := by
  have HC := hide hc
  have HC' := hide hc'
  clear hc hc'
  go_enter Tryd.func23, Tryd.ntmps23
  go_wp2_with fail
  go_loopw [5] (fun y w1 => ∃ k : Nat, k ≤ L.length ∧ y = .int .i64 (k : Int) ∧ Keeps w w1) (fun y _ => L.length - (intOf y).toNat)
  case atStart => exact ⟨0, by omega, rfl, Keeps.refl _⟩
  case round =>
    obtain ⟨k, hk, rfl, hkw⟩ := hrel
    by_cases hlt : k < L.length
    · obtain ⟨b, off, ea, c0⟩ := its_at (HC.out.kept hkw) k hlt
      obtain ⟨b', off', ea', d0⟩ := its_at (HC'.out.kept hkw) k hlt
      subst ea ea'
      generalize L[k] = x at *
      go_wp2_with fail
      go_quiet (fail)
      go_wp2_with fail
      go_roundw
      case rel => exact ⟨k + 1, by omega, by go_num, hkw.drewN _⟩
      case measure => simp [intOf]; omega
    · go_wp2_with fail
      go_ret
      exact ⟨rfl, hkw⟩
/-- Marks from n on. -/
def marksI (n k : Nat) : List Int := (List.range k).map fun i => ((n + i : Nat) : Int)
theorem marksI_len (n k : Nat) : (marksI n k).length = k := by simp [marksI]
end Go.Proofs.YtjihinkjcplgcaaDoor
