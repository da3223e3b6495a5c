/- What the laws do with lists of numbers. -/
import Derived.Test.YtaboogkioehkeaaInt0
import Derived.Test.YtaboogkioehkeaaFlt
namespace Go.Proofs.Ytaboogkioehkeaa
open Go.RowKit Go.Deep
set_option linter.unusedVariables false
set_option linter.unusedSimpArgs false
set_option maxRecDepth 10000

theorem toIntS_k (a : Option Addr) (cap : Nat) (L : List Int) (w : World) (hc : Cells w a (its L)) (hl : L.length ≤ 1048576) :
    Calls Try.prog 27 #[.slice a L.length cap] w fun e w' => ∃ b, e = .returned (.slice (some ⟨b, 0, none⟩) L.length L.length) ∧ Born w w' [(some ⟨b, 0, none⟩, its L)] ∧ Keeps w w' := by
  have HC := hide hc
  clear hc
  have hmk := make_ints L.length hl
  have HR := hide ((World.rowIs_made w (.int .i64 0) L.length 3).congr (g := rowI L 0) (fun i _ => by simp [rowI]))
  have HKA := hide (Keeps.alloc (Keeps.refl w) (.cells (madeCells #[.int .i64 0] L.length) 3))
  go_enter Try.func27, Try.ntmps27
  go_wp2_with fail
  clear hmk
  go_loopw [4] (fun y w1 => ∃ k : Nat, k ≤ L.length ∧ y = .int .i64 (k : Int) ∧ w1.rowIs w.heap.size 3 L.length (rowI L k) ∧ Keeps w w1) (fun y _ => L.length - (intOf y).toNat)
  case atStart => exact ⟨0, by omega, rfl, HR.out, HKA.out⟩
  case round =>
    obtain ⟨k, hk, rfl, hr, hkw⟩ := hrel
    clear HR HKA
    by_cases hlt : k < L.length
    · obtain ⟨b, off, ea, c0⟩ := its_at (HC.out.kept hkw) k hlt
      subst ea
      have HS := hide (rowI_step L k hlt)
      have d0 := hr.cell (i := k) (by omega)
      have f0 := hr.frozen k
      have HRR := hide hr
      have HKW := hide hkw
      clear hr hkw
      generalize L[k] = x at *
      go_wp2_with fail
      go_roundw
      case rel => exact ⟨k + 1, by omega, by go_num, (HRR.out.set k (.int .i64 x)).congr (fun j _ => HS.out j), Keeps.setCell HKW.out (Nat.le_refl _) _⟩
      case measure => simp [intOf]; omega
    · have e : k = L.length := by omega
      subst e
      go_wp2_with fail
      go_ret
      exact ⟨_, rfl, born_row hr (its L) (by rw [its_length]; exact Nat.le_refl _) (fun j hj => rowI_end L j hj) (Nat.le_refl _), hkw⟩
theorem eqInts_k (a a' : Option Addr) (cap cap' : Nat) (L : List Int) (w : World) (hc : Cells w a (its L)) (hc' : Cells w a' (its L)) (hl : L.length ≤ 1048576) :
    Calls Try.prog 28 #[.slice a L.length cap, .slice a' L.length cap'] w fun e w' => e = .returned (.bool true) ∧ Keeps w w' := by
  have HC := hide hc
  have HC' := hide hc'
  clear hc hc'
  go_enter Try.func28, Try.ntmps28
  go_wp2_with fail
  go_loopw [5] (fun y w1 => ∃ k : Nat, k ≤ L.length ∧ y = .int .i64 (k : Int) ∧ Keeps w w1) (fun y _ => L.length - (intOf y).toNat)
  case atStart => exact ⟨0, by omega, rfl, Keeps.refl _⟩
  case round =>
    obtain ⟨k, hk, rfl, hkw⟩ := hrel
    by_cases hlt : k < L.length
    · obtain ⟨b, off, ea, c0⟩ := its_at (HC.out.kept hkw) k hlt
      obtain ⟨b', off', ea', d0⟩ := its_at (HC'.out.kept hkw) k hlt
      subst ea ea'
      generalize L[k] = x at *
      go_wp2_with fail
      go_quiet (fail)
      go_wp2_with fail
      go_roundw
      case rel => exact ⟨k + 1, by omega, by go_num, hkw.drewN _⟩
      case measure => simp [intOf]; omega
    · go_wp2_with fail
      go_ret
      exact ⟨rfl, hkw⟩
/-- Marks from n on. -/
def marksI (n k : Nat) : List Int := (List.range k).map fun i => ((n + i : Nat) : Int)
theorem marksI_len (n k : Nat) : (marksI n k).length = k := by simp [marksI]
set_option maxHeartbeats 2000000 in
theorem markIntS_k (a : Option Addr) (cap : Nat) (L : List Int) (n : Nat) (w : World) (h : Own w [(a, its L)]) (hl : L.length ≤ 1048576) (hn : n ≤ 1000000000000) :
    Calls Try.prog 31 #[.slice a L.length cap, .int .i64 (n : Int)] w fun e w' => e = .returned (.int .i64 ((n + L.length : Nat) : Int)) ∧ Own w' [(a, its (marksI n L.length))] ∧ Turn (fp [(a, its L)]) w w' := by
  by_cases h0 : L = []
  · subst h0
    go_enter Try.func31, Try.ntmps31
    go_wp2_with fail
    refine wp_loop_rounds 1 ?_
    rw [rounds_succ]
    go_wp2_with fail
    go_ret
    exact ⟨by simp, h, Turn.refl _ _⟩
  · have hc : Cells w a (its L) := h.mem (a, its L) (by simp)
    rcases hc with hc | ⟨g, off, rfl, hc⟩
    · exact absurd (its_nil.1 hc) h0
    have hfp : fp [(some (⟨g, off, none⟩ : Addr), its L)] = [g] := by rw [fp_one]; exact fpS_some (fun e => h0 (its_nil.1 e))
    have HF : Hid (∀ o, w.frozen? ⟨g, o, none⟩ = false) := fun o => h.free g (by rw [hfp]; simp) o
    have HW : Hid (∀ w', Cells w' (some (⟨g, off, none⟩ : Addr)) (its (marksI n L.length)) → (∀ p, w'.frozen? p = w.frozen? p) → Own w' [(some (⟨g, off, none⟩ : Addr), its (marksI n L.length))]) := fun w' hc hf => own_wrote h (by rw [its_length, its_length, marksI_len]) hc hf
    rw [hfp]
    have HC := hide hc
    clear hc h h0 hfp
    go_enter Try.func31, Try.ntmps31
    go_wp2_with fail
    go_loopw [1, 5] (fun x y wr => ∃ k : Nat, k ≤ L.length ∧ x = .int .i64 ((n + k : Nat) : Int) ∧ y = .int .i64 (k : Int) ∧ Hid (∀ j, j < L.length → ∃ u, wr.cell? ⟨g, off + j, none⟩ = some u) ∧ Hid (∀ j, j < k → wr.cell? ⟨g, off + j, none⟩ = some (.int .i64 ((n + j : Nat) : Int))) ∧ Hid (∀ p, wr.frozen? p = w.frozen? p) ∧ Hid (Turn [g] w wr)) (fun _ y _ => L.length - (intOf y).toNat)
    case atStart => exact ⟨0, by omega, by simp, rfl, fun j hj => ⟨_, HC.out j (by rw [its_length]; exact hj)⟩, fun j hj => absurd hj (by omega), fun _ => rfl, Turn.refl _ _⟩
    case round =>
      obtain ⟨k, hk, rfl, rfl, HE, HM, HFr, HG⟩ := hrel
      by_cases hlt : k < L.length
      · obtain ⟨u0, c0⟩ := HE.out k hlt
        have f0 : wr.frozen? ⟨g, off + k, none⟩ = false := by rw [HFr.out]; exact HF.out _
        go_wp2_with fail
        go_roundw
        case rel =>
          refine ⟨k + 1, by omega, by go_num, by go_num, ?_, ?_, ?_, HG.out.trans' (Turn.set (by simp) _)⟩
          · intro j hj
            by_cases e : j = k
            · subst e; exact ⟨_, World.cell?_setCell_same _ _ _ c0⟩
            · rw [World.cell?_setCell_other _ _ _ _ (by simp)]; exact HE.out j hj
          · intro j hj
            by_cases e : j = k
            · subst e; rw [World.cell?_setCell_same _ _ _ c0]; simp
            · rw [World.cell?_setCell_other _ _ _ _ (by simp)]; exact HM.out j (by omega)
          · intro p
            rw [frozen_set]; exact HFr.out p
        case measure => simp [intOf]; omega
      · have e : k = L.length := by omega
        subst e
        go_wp2_with fail
        go_ret
        exact ⟨rfl, HW.out wr (Or.inr ⟨g, off, rfl, fun j hj => by
          rw [its_length, marksI_len] at hj
          rw [HM.out j hj]
          simp [its, marksI]⟩) HFr.out, HG.out⟩
theorem heldIntS_k (a : Option Addr) (cap : Nat) (len n : Nat) (w : World) (h : Cells w a (its (marksI n len))) (hl : len ≤ 1048576) (hn : n ≤ 1000000000000) :
    Calls Try.prog 32 #[.slice a len cap, .int .i64 (n : Int)] w fun e w' => e = .returned (.int .i64 ((n + len : Nat) : Int)) ∧ w' = w := by
  have HC := hide h
  clear h
  go_enter Try.func32, Try.ntmps32
  go_wp2_with fail
  go_loop [1, 5] (fun x y => ∃ k : Nat, k ≤ len ∧ x = .int .i64 ((n + k : Nat) : Int) ∧ y = .int .i64 (k : Int)) (fun _ y => len - (intOf y).toNat)
  case atStart => exact ⟨0, by omega, by simp, rfl⟩
  case round =>
    obtain ⟨k, hk, rfl, rfl⟩ := hrel
    by_cases hlt : k < len
    · obtain ⟨b, off, ea, c0⟩ := its_at HC.out k (by rw [marksI_len]; exact hlt)
      subst ea
      have e0 : (marksI n len)[k]'(by rw [marksI_len]; exact hlt) = ((n + k : Nat) : Int) := by simp [marksI]
      rw [e0] at c0
      clear e0
      go_wp2_with fail
      go_round
      case rel => exact ⟨k + 1, by omega, by go_num, by go_num⟩
      case measure => simp [intOf]; omega
    · have e : k = len := by omega
      subst e
      go_wp2_with fail
      go_ret
      exact ⟨rfl, rfl⟩
end Go.Proofs.Ytaboogkioehkeaa
