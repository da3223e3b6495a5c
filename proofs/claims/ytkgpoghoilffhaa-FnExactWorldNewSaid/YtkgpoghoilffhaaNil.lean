/- Empty lists and hubs in the laws' hands; worlds that have but a disk. -/
import Derived.Test.YtkgpoghoilffhaaDN
import Derived.Test.YtkgpoghoilffhaaVars
namespace Go.Proofs.Ytkgpoghoilffhaa
open Go.RowKit Go.Deep
set_option linter.unusedVariables false
set_option maxRecDepth 10000
theorem eqCellS_0 (w : World) : Calls Try.prog 26 #[.slice none 0 0, .slice none 0 0] w fun e w' => e = .returned (.bool true) ∧ Keeps w w' := by
  go_enter Try.func26, Try.ntmps26
  go_wp2_with fail
  go_loopw [5] (fun y w1 => y = .int .i64 0 ∧ Keeps w w1) (fun y _ => 0)
  case atStart => exact ⟨rfl, Keeps.refl _⟩
  case round =>
    obtain ⟨rfl, hkw⟩ := hrel
    go_wp2_with fail
    go_ret
    exact ⟨rfl, hkw⟩
theorem markCellS_0 (k : Int) (w : World) : Calls Try.prog 32 #[.slice none 0 0, .int .i64 k] w fun e w' => e = .returned (.int .i64 k) ∧ Keeps w w' := by
  go_enter Try.func32, Try.ntmps32
  go_wp2_with fail
  go_loopw [1, 5] (fun x y w1 => x = .int .i64 k ∧ y = .int .i64 0 ∧ Keeps w w1) (fun _ y _ => 0)
  case atStart => exact ⟨rfl, rfl, Keeps.refl _⟩
  case round =>
    obtain ⟨rfl, rfl, hkw⟩ := hrel
    go_wp2_with fail
    go_ret
    exact ⟨rfl, hkw⟩
theorem heldCellS_0 (k : Int) (w : World) : Calls Try.prog 37 #[.slice none 0 0, .int .i64 k] w fun e w' => e = .returned (.int .i64 k) ∧ Keeps w w' := by
  go_enter Try.func37, Try.ntmps37
  go_wp2_with fail
  go_loopw [1, 5] (fun x y w1 => x = .int .i64 k ∧ y = .int .i64 0 ∧ Keeps w w1) (fun _ y _ => 0)
  case atStart => exact ⟨rfl, rfl, Keeps.refl _⟩
  case round =>
    obtain ⟨rfl, rfl, hkw⟩ := hrel
    go_wp2_with fail
    go_ret
    exact ⟨rfl, hkw⟩
theorem eqWriteS_0 (w : World) : Calls Try.prog 27 #[.slice none 0 0, .slice none 0 0] w fun e w' => e = .returned (.bool true) ∧ Keeps w w' := by
  go_enter Try.func27, Try.ntmps27
  go_wp2_with fail
  go_loopw [5] (fun y w1 => y = .int .i64 0 ∧ Keeps w w1) (fun y _ => 0)
  case atStart => exact ⟨rfl, Keeps.refl _⟩
  case round =>
    obtain ⟨rfl, hkw⟩ := hrel
    go_wp2_with fail
    go_ret
    exact ⟨rfl, hkw⟩
theorem markWriteS_0 (k : Int) (w : World) : Calls Try.prog 33 #[.slice none 0 0, .int .i64 k] w fun e w' => e = .returned (.int .i64 k) ∧ Keeps w w' := by
  go_enter Try.func33, Try.ntmps33
  go_wp2_with fail
  go_loopw [1, 5] (fun x y w1 => x = .int .i64 k ∧ y = .int .i64 0 ∧ Keeps w w1) (fun _ y _ => 0)
  case atStart => exact ⟨rfl, rfl, Keeps.refl _⟩
  case round =>
    obtain ⟨rfl, rfl, hkw⟩ := hrel
    go_wp2_with fail
    go_ret
    exact ⟨rfl, hkw⟩
theorem heldWriteS_0 (k : Int) (w : World) : Calls Try.prog 38 #[.slice none 0 0, .int .i64 k] w fun e w' => e = .returned (.int .i64 k) ∧ Keeps w w' := by
  go_enter Try.func38, Try.ntmps38
  go_wp2_with fail
  go_loopw [1, 5] (fun x y w1 => x = .int .i64 k ∧ y = .int .i64 0 ∧ Keeps w w1) (fun _ y _ => 0)
  case atStart => exact ⟨rfl, rfl, Keeps.refl _⟩
  case round =>
    obtain ⟨rfl, rfl, hkw⟩ := hrel
    go_wp2_with fail
    go_ret
    exact ⟨rfl, hkw⟩
theorem eqChanS_0 (w : World) : Calls Try.prog 39 #[.slice none 0 0, .slice none 0 0] w fun e w' => e = .returned (.bool true) ∧ Keeps w w' := by
  go_enter Try.func39, Try.ntmps39
  go_wp2_with fail
  go_loopw [5] (fun y w1 => y = .int .i64 0 ∧ Keeps w w1) (fun y _ => 0)
  case atStart => exact ⟨rfl, Keeps.refl _⟩
  case round =>
    obtain ⟨rfl, hkw⟩ := hrel
    go_wp2_with fail
    go_ret
    exact ⟨rfl, hkw⟩
theorem markChanS_0 (k : Int) (w : World) : Calls Try.prog 45 #[.slice none 0 0, .int .i64 k] w fun e w' => e = .returned (.int .i64 k) ∧ Keeps w w' := by
  go_enter Try.func45, Try.ntmps45
  go_wp2_with fail
  go_loopw [1, 5] (fun x y w1 => x = .int .i64 k ∧ y = .int .i64 0 ∧ Keeps w w1) (fun _ y _ => 0)
  case atStart => exact ⟨rfl, rfl, Keeps.refl _⟩
  case round =>
    obtain ⟨rfl, rfl, hkw⟩ := hrel
    go_wp2_with fail
    go_ret
    exact ⟨rfl, hkw⟩
theorem heldChanS_0 (k : Int) (w : World) : Calls Try.prog 50 #[.slice none 0 0, .int .i64 k] w fun e w' => e = .returned (.int .i64 k) ∧ Keeps w w' := by
  go_enter Try.func50, Try.ntmps50
  go_wp2_with fail
  go_loopw [1, 5] (fun x y w1 => x = .int .i64 k ∧ y = .int .i64 0 ∧ Keeps w w1) (fun _ y _ => 0)
  case atStart => exact ⟨rfl, rfl, Keeps.refl _⟩
  case round =>
    obtain ⟨rfl, rfl, hkw⟩ := hrel
    go_wp2_with fail
    go_ret
    exact ⟨rfl, hkw⟩
theorem eqHtlcS_0 (w : World) : Calls Try.prog 40 #[.slice none 0 0, .slice none 0 0] w fun e w' => e = .returned (.bool true) ∧ Keeps w w' := by
  go_enter Try.func40, Try.ntmps40
  go_wp2_with fail
  go_loopw [5] (fun y w1 => y = .int .i64 0 ∧ Keeps w w1) (fun y _ => 0)
  case atStart => exact ⟨rfl, Keeps.refl _⟩
  case round =>
    obtain ⟨rfl, hkw⟩ := hrel
    go_wp2_with fail
    go_ret
    exact ⟨rfl, hkw⟩
theorem markHtlcS_0 (k : Int) (w : World) : Calls Try.prog 46 #[.slice none 0 0, .int .i64 k] w fun e w' => e = .returned (.int .i64 k) ∧ Keeps w w' := by
  go_enter Try.func46, Try.ntmps46
  go_wp2_with fail
  go_loopw [1, 5] (fun x y w1 => x = .int .i64 k ∧ y = .int .i64 0 ∧ Keeps w w1) (fun _ y _ => 0)
  case atStart => exact ⟨rfl, rfl, Keeps.refl _⟩
  case round =>
    obtain ⟨rfl, rfl, hkw⟩ := hrel
    go_wp2_with fail
    go_ret
    exact ⟨rfl, hkw⟩
theorem heldHtlcS_0 (k : Int) (w : World) : Calls Try.prog 51 #[.slice none 0 0, .int .i64 k] w fun e w' => e = .returned (.int .i64 k) ∧ Keeps w w' := by
  go_enter Try.func51, Try.ntmps51
  go_wp2_with fail
  go_loopw [1, 5] (fun x y w1 => x = .int .i64 k ∧ y = .int .i64 0 ∧ Keeps w w1) (fun _ y _ => 0)
  case atStart => exact ⟨rfl, rfl, Keeps.refl _⟩
  case round =>
    obtain ⟨rfl, rfl, hkw⟩ := hrel
    go_wp2_with fail
    go_ret
    exact ⟨rfl, hkw⟩
theorem eqCircleS_0 (w : World) : Calls Try.prog 41 #[.slice none 0 0, .slice none 0 0] w fun e w' => e = .returned (.bool true) ∧ Keeps w w' := by
  go_enter Try.func41, Try.ntmps41
  go_wp2_with fail
  go_loopw [5] (fun y w1 => y = .int .i64 0 ∧ Keeps w w1) (fun y _ => 0)
  case atStart => exact ⟨rfl, Keeps.refl _⟩
  case round =>
    obtain ⟨rfl, hkw⟩ := hrel
    go_wp2_with fail
    go_ret
    exact ⟨rfl, hkw⟩
theorem markCircleS_0 (k : Int) (w : World) : Calls Try.prog 47 #[.slice none 0 0, .int .i64 k] w fun e w' => e = .returned (.int .i64 k) ∧ Keeps w w' := by
  go_enter Try.func47, Try.ntmps47
  go_wp2_with fail
  go_loopw [1, 5] (fun x y w1 => x = .int .i64 k ∧ y = .int .i64 0 ∧ Keeps w w1) (fun _ y _ => 0)
  case atStart => exact ⟨rfl, rfl, Keeps.refl _⟩
  case round =>
    obtain ⟨rfl, rfl, hkw⟩ := hrel
    go_wp2_with fail
    go_ret
    exact ⟨rfl, hkw⟩
theorem heldCircleS_0 (k : Int) (w : World) : Calls Try.prog 52 #[.slice none 0 0, .int .i64 k] w fun e w' => e = .returned (.int .i64 k) ∧ Keeps w w' := by
  go_enter Try.func52, Try.ntmps52
  go_wp2_with fail
  go_loopw [1, 5] (fun x y w1 => x = .int .i64 k ∧ y = .int .i64 0 ∧ Keeps w w1) (fun _ y _ => 0)
  case atStart => exact ⟨rfl, rfl, Keeps.refl _⟩
  case round =>
    obtain ⟨rfl, rfl, hkw⟩ := hrel
    go_wp2_with fail
    go_ret
    exact ⟨rfl, hkw⟩
theorem eqLineS_0 (w : World) : Calls Try.prog 42 #[.slice none 0 0, .slice none 0 0] w fun e w' => e = .returned (.bool true) ∧ Keeps w w' := by
  go_enter Try.func42, Try.ntmps42
  go_wp2_with fail
  go_loopw [5] (fun y w1 => y = .int .i64 0 ∧ Keeps w w1) (fun y _ => 0)
  case atStart => exact ⟨rfl, Keeps.refl _⟩
  case round =>
    obtain ⟨rfl, hkw⟩ := hrel
    go_wp2_with fail
    go_ret
    exact ⟨rfl, hkw⟩
theorem markLineS_0 (k : Int) (w : World) : Calls Try.prog 48 #[.slice none 0 0, .int .i64 k] w fun e w' => e = .returned (.int .i64 k) ∧ Keeps w w' := by
  go_enter Try.func48, Try.ntmps48
  go_wp2_with fail
  go_loopw [1, 5] (fun x y w1 => x = .int .i64 k ∧ y = .int .i64 0 ∧ Keeps w w1) (fun _ y _ => 0)
  case atStart => exact ⟨rfl, rfl, Keeps.refl _⟩
  case round =>
    obtain ⟨rfl, rfl, hkw⟩ := hrel
    go_wp2_with fail
    go_ret
    exact ⟨rfl, hkw⟩
theorem heldLineS_0 (k : Int) (w : World) : Calls Try.prog 53 #[.slice none 0 0, .int .i64 k] w fun e w' => e = .returned (.int .i64 k) ∧ Keeps w w' := by
  go_enter Try.func53, Try.ntmps53
  go_wp2_with fail
  go_loopw [1, 5] (fun x y w1 => x = .int .i64 k ∧ y = .int .i64 0 ∧ Keeps w w1) (fun _ y _ => 0)
  case atStart => exact ⟨rfl, rfl, Keeps.refl _⟩
  case round =>
    obtain ⟨rfl, rfl, hkw⟩ := hrel
    go_wp2_with fail
    go_ret
    exact ⟨rfl, hkw⟩
theorem eqEventS_0 (w : World) : Calls Try.prog 13 #[.slice none 0 0, .slice none 0 0] w fun e w' => e = .returned (.bool true) ∧ Keeps w w' := by
  go_enter Try.func13, Try.ntmps13
  go_wp2_with fail
  go_loopw [5] (fun y w1 => y = .int .i64 0 ∧ Keeps w w1) (fun y _ => 0)
  case atStart => exact ⟨rfl, Keeps.refl _⟩
  case round =>
    obtain ⟨rfl, hkw⟩ := hrel
    go_wp2_with fail
    go_ret
    exact ⟨rfl, hkw⟩
theorem markEventS_0 (k : Int) (w : World) : Calls Try.prog 17 #[.slice none 0 0, .int .i64 k] w fun e w' => e = .returned (.int .i64 k) ∧ Keeps w w' := by
  go_enter Try.func17, Try.ntmps17
  go_wp2_with fail
  go_loopw [1, 5] (fun x y w1 => x = .int .i64 k ∧ y = .int .i64 0 ∧ Keeps w w1) (fun _ y _ => 0)
  case atStart => exact ⟨rfl, rfl, Keeps.refl _⟩
  case round =>
    obtain ⟨rfl, rfl, hkw⟩ := hrel
    go_wp2_with fail
    go_ret
    exact ⟨rfl, hkw⟩
theorem heldEventS_0 (k : Int) (w : World) : Calls Try.prog 21 #[.slice none 0 0, .int .i64 k] w fun e w' => e = .returned (.int .i64 k) ∧ Keeps w w' := by
  go_enter Try.func21, Try.ntmps21
  go_wp2_with fail
  go_loopw [1, 5] (fun x y w1 => x = .int .i64 k ∧ y = .int .i64 0 ∧ Keeps w w1) (fun _ y _ => 0)
  case atStart => exact ⟨rfl, rfl, Keeps.refl _⟩
  case round =>
    obtain ⟨rfl, rfl, hkw⟩ := hrel
    go_wp2_with fail
    go_ret
    exact ⟨rfl, hkw⟩
theorem eqIntS_0 (w : World) : Calls Try.prog 14 #[.slice none 0 0, .slice none 0 0] w fun e w' => e = .returned (.bool true) ∧ Keeps w w' := by
  go_enter Try.func14, Try.ntmps14
  go_wp2_with fail
  go_loopw [5] (fun y w1 => y = .int .i64 0 ∧ Keeps w w1) (fun y _ => 0)
  case atStart => exact ⟨rfl, Keeps.refl _⟩
  case round =>
    obtain ⟨rfl, hkw⟩ := hrel
    go_wp2_with fail
    go_ret
    exact ⟨rfl, hkw⟩
theorem markIntS_0 (k : Int) (w : World) : Calls Try.prog 18 #[.slice none 0 0, .int .i64 k] w fun e w' => e = .returned (.int .i64 k) ∧ Keeps w w' := by
  go_enter Try.func18, Try.ntmps18
  go_wp2_with fail
  go_loopw [1, 5] (fun x y w1 => x = .int .i64 k ∧ y = .int .i64 0 ∧ Keeps w w1) (fun _ y _ => 0)
  case atStart => exact ⟨rfl, rfl, Keeps.refl _⟩
  case round =>
    obtain ⟨rfl, rfl, hkw⟩ := hrel
    go_wp2_with fail
    go_ret
    exact ⟨rfl, hkw⟩
theorem heldIntS_0 (k : Int) (w : World) : Calls Try.prog 22 #[.slice none 0 0, .int .i64 k] w fun e w' => e = .returned (.int .i64 k) ∧ Keeps w w' := by
  go_enter Try.func22, Try.ntmps22
  go_wp2_with fail
  go_loopw [1, 5] (fun x y w1 => x = .int .i64 k ∧ y = .int .i64 0 ∧ Keeps w w1) (fun _ y _ => 0)
  case atStart => exact ⟨rfl, rfl, Keeps.refl _⟩
  case round =>
    obtain ⟨rfl, rfl, hkw⟩ := hrel
    go_wp2_with fail
    go_ret
    exact ⟨rfl, hkw⟩
set_option maxHeartbeats 4000000 in
theorem eqDisk_0 (w : World) : Calls Try.prog 12 #[.agg #[.slice none 0 0, .slice none 0 0], .agg #[.slice none 0 0, .slice none 0 0]] w fun e w' => e = .returned (.bool true) ∧ Keeps w w' := by
  have hb := (born_alloc w #[.slice none 0 0, .slice none 0 0] 25).toOwn.mem
  dsimp only at hb
  have hk := Keeps.alloc (Keeps.refl w) (.cells #[.slice none 0 0, .slice none 0 0] 25)
  have hb2 := (born_alloc (w.alloc (.cells #[.slice none 0 0, .slice none 0 0] 25)) #[.slice none 0 0, .slice none 0 0] 25).toOwn.mem
  dsimp only at hb2
  have hk2 := Keeps.alloc (Keeps.refl (w.alloc (.cells #[.slice none 0 0, .slice none 0 0] 25))) (.cells #[.slice none 0 0, .slice none 0 0] 25)
  have hz : (w.alloc (.cells #[.slice none 0 0, .slice none 0 0] 25)).heap.size = w.heap.size + 1 := by simp
  rw [hz] at hb2
  have a0 := cell_at hb 0 (by simp)
  have a1 := cell_at hb 1 (by simp)
  simp only [Nat.zero_add, List.getElem_cons_zero, List.getElem_cons_succ] at a0 a1
  have b0 := cell_at hb2 0 (by simp)
  have b1 := cell_at hb2 1 (by simp)
  simp only [Nat.zero_add, List.getElem_cons_zero, List.getElem_cons_succ] at b0 b1
  replace a0 := hk2.cell a0
  replace a1 := hk2.cell a1
  have HK := hide (hk.trans hk2)
  clear hb hk hb2 hk2 hz
  go_enter Try.func12, Try.ntmps12
  go_wp2_with fail
  generalize ((w.alloc (.cells #[.slice none 0 0, .slice none 0 0] 25)).alloc (.cells #[.slice none 0 0, .slice none 0 0] 25)) = W0 at *
  refine (eqCellS_0 W0).mono ?_
  rintro x w0 ⟨rfl, hkc⟩
  replace a0 := hkc.cell a0
  replace a1 := hkc.cell a1
  replace b0 := hkc.cell b0
  replace b1 := hkc.cell b1
  replace HK := hide (HK.out.trans hkc)
  clear hkc
  go_wp2_with fail
  refine (eqWriteS_0 w0).mono ?_
  rintro x w1 ⟨rfl, hkc⟩
  replace a0 := hkc.cell a0
  replace a1 := hkc.cell a1
  replace b0 := hkc.cell b0
  replace b1 := hkc.cell b1
  replace HK := hide (HK.out.trans hkc)
  clear hkc
  go_wp2_with fail
  go_ret
  exact ⟨rfl, HK.out⟩
set_option maxHeartbeats 4000000 in
theorem markDisk_0 (k : Int) (w : World) : Calls Try.prog 16 #[.agg #[.slice none 0 0, .slice none 0 0], .int .i64 k] w fun e w' => e = .returned (.int .i64 k) ∧ Keeps w w' := by
  have hb := (born_alloc w #[.slice none 0 0, .slice none 0 0] 25).toOwn.mem
  dsimp only at hb
  have hk := Keeps.alloc (Keeps.refl w) (.cells #[.slice none 0 0, .slice none 0 0] 25)
  have a0 := cell_at hb 0 (by simp)
  have a1 := cell_at hb 1 (by simp)
  simp only [Nat.zero_add, List.getElem_cons_zero, List.getElem_cons_succ] at a0 a1
  have HK := hide hk
  clear hb hk
  go_enter Try.func16, Try.ntmps16
  go_wp2_with fail
  generalize (w.alloc (.cells #[.slice none 0 0, .slice none 0 0] 25)) = W0 at *
  refine (markCellS_0 k W0).mono ?_
  rintro x w0 ⟨rfl, hkc⟩
  replace a0 := hkc.cell a0
  replace a1 := hkc.cell a1
  replace HK := hide (HK.out.trans hkc)
  clear hkc
  go_wp2_with fail
  refine (markWriteS_0 k w0).mono ?_
  rintro x w1 ⟨rfl, hkc⟩
  replace a0 := hkc.cell a0
  replace a1 := hkc.cell a1
  replace HK := hide (HK.out.trans hkc)
  clear hkc
  go_wp2_with fail
  go_ret
  exact ⟨rfl, HK.out⟩
set_option maxHeartbeats 4000000 in
theorem heldDisk_0 (k : Int) (hk0 : 0 ≤ k) (w : World) : Calls Try.prog 20 #[.agg #[.slice none 0 0, .slice none 0 0], .int .i64 k] w fun e w' => e = .returned (.int .i64 k) ∧ Keeps w w' := by
  have hb := (born_alloc w #[.slice none 0 0, .slice none 0 0] 25).toOwn.mem
  dsimp only at hb
  have hk := Keeps.alloc (Keeps.refl w) (.cells #[.slice none 0 0, .slice none 0 0] 25)
  have a0 := cell_at hb 0 (by simp)
  have a1 := cell_at hb 1 (by simp)
  simp only [Nat.zero_add, List.getElem_cons_zero, List.getElem_cons_succ] at a0 a1
  have HK := hide hk
  clear hb hk
  go_enter Try.func20, Try.ntmps20
  go_wp2_with fail
  generalize (w.alloc (.cells #[.slice none 0 0, .slice none 0 0] 25)) = W0 at *
  refine (heldCellS_0 k W0).mono ?_
  rintro x w0 ⟨rfl, hkc⟩
  replace a0 := hkc.cell a0
  replace a1 := hkc.cell a1
  replace HK := hide (HK.out.trans hkc)
  clear hkc
  go_wp2_with fail
  refine (heldWriteS_0 k w0).mono ?_
  rintro x w1 ⟨rfl, hkc⟩
  replace a0 := hkc.cell a0
  replace a1 := hkc.cell a1
  replace HK := hide (HK.out.trans hkc)
  clear hkc
  go_wp2_with fail
  go_ret
  exact ⟨rfl, HK.out⟩
set_option maxHeartbeats 4000000 in
theorem eqLog_0 (w : World) : Calls Try.prog 23 #[.agg #[.slice none 0 0, .slice none 0 0, .int .i64 0, .int .i64 0], .agg #[.slice none 0 0, .slice none 0 0, .int .i64 0, .int .i64 0]] w fun e w' => e = .returned (.bool true) ∧ Keeps w w' := by
  have hb := (born_alloc w #[.slice none 0 0, .slice none 0 0, .int .i64 0, .int .i64 0] 27).toOwn.mem
  dsimp only at hb
  have hk := Keeps.alloc (Keeps.refl w) (.cells #[.slice none 0 0, .slice none 0 0, .int .i64 0, .int .i64 0] 27)
  have hb2 := (born_alloc (w.alloc (.cells #[.slice none 0 0, .slice none 0 0, .int .i64 0, .int .i64 0] 27)) #[.slice none 0 0, .slice none 0 0, .int .i64 0, .int .i64 0] 27).toOwn.mem
  dsimp only at hb2
  have hk2 := Keeps.alloc (Keeps.refl (w.alloc (.cells #[.slice none 0 0, .slice none 0 0, .int .i64 0, .int .i64 0] 27))) (.cells #[.slice none 0 0, .slice none 0 0, .int .i64 0, .int .i64 0] 27)
  have hz : (w.alloc (.cells #[.slice none 0 0, .slice none 0 0, .int .i64 0, .int .i64 0] 27)).heap.size = w.heap.size + 1 := by simp
  rw [hz] at hb2
  have a0 := cell_at hb 0 (by simp)
  have a1 := cell_at hb 1 (by simp)
  have a2 := cell_at hb 2 (by simp)
  have a3 := cell_at hb 3 (by simp)
  simp only [Nat.zero_add, List.getElem_cons_zero, List.getElem_cons_succ] at a0 a1 a2 a3
  have b0 := cell_at hb2 0 (by simp)
  have b1 := cell_at hb2 1 (by simp)
  have b2 := cell_at hb2 2 (by simp)
  have b3 := cell_at hb2 3 (by simp)
  simp only [Nat.zero_add, List.getElem_cons_zero, List.getElem_cons_succ] at b0 b1 b2 b3
  replace a0 := hk2.cell a0
  replace a1 := hk2.cell a1
  replace a2 := hk2.cell a2
  replace a3 := hk2.cell a3
  have HK := hide (hk.trans hk2)
  clear hb hk hb2 hk2 hz
  go_enter Try.func23, Try.ntmps23
  go_wp2_with fail
  generalize ((w.alloc (.cells #[.slice none 0 0, .slice none 0 0, .int .i64 0, .int .i64 0] 27)).alloc (.cells #[.slice none 0 0, .slice none 0 0, .int .i64 0, .int .i64 0] 27)) = W0 at *
  refine (eqDisk_0 W0).mono ?_
  rintro x w0 ⟨rfl, hkc⟩
  replace a0 := hkc.cell a0
  replace a1 := hkc.cell a1
  replace a2 := hkc.cell a2
  replace a3 := hkc.cell a3
  replace b0 := hkc.cell b0
  replace b1 := hkc.cell b1
  replace b2 := hkc.cell b2
  replace b3 := hkc.cell b3
  replace HK := hide (HK.out.trans hkc)
  clear hkc
  go_wp2_with fail
  go_ret
  exact ⟨rfl, HK.out⟩
set_option maxHeartbeats 4000000 in
theorem markLog_0 (k : Int) (w : World) : Calls Try.prog 29 #[.agg #[.slice none 0 0, .slice none 0 0, .int .i64 0, .int .i64 0], .int .i64 k] w fun e w' => e = .returned (.int .i64 k) ∧ Keeps w w' := by
  have hb := (born_alloc w #[.slice none 0 0, .slice none 0 0, .int .i64 0, .int .i64 0] 27).toOwn.mem
  dsimp only at hb
  have hk := Keeps.alloc (Keeps.refl w) (.cells #[.slice none 0 0, .slice none 0 0, .int .i64 0, .int .i64 0] 27)
  have a0 := cell_at hb 0 (by simp)
  have a1 := cell_at hb 1 (by simp)
  have a2 := cell_at hb 2 (by simp)
  have a3 := cell_at hb 3 (by simp)
  simp only [Nat.zero_add, List.getElem_cons_zero, List.getElem_cons_succ] at a0 a1 a2 a3
  have HK := hide hk
  clear hb hk
  go_enter Try.func29, Try.ntmps29
  go_wp2_with fail
  generalize (w.alloc (.cells #[.slice none 0 0, .slice none 0 0, .int .i64 0, .int .i64 0] 27)) = W0 at *
  refine (markDisk_0 k W0).mono ?_
  rintro x w0 ⟨rfl, hkc⟩
  replace a0 := hkc.cell a0
  replace a1 := hkc.cell a1
  replace a2 := hkc.cell a2
  replace a3 := hkc.cell a3
  replace HK := hide (HK.out.trans hkc)
  clear hkc
  go_wp2_with fail
  go_ret
  exact ⟨rfl, HK.out⟩
set_option maxHeartbeats 4000000 in
theorem heldLog_0 (k : Int) (hk0 : 0 ≤ k) (w : World) : Calls Try.prog 34 #[.agg #[.slice none 0 0, .slice none 0 0, .int .i64 0, .int .i64 0], .int .i64 k] w fun e w' => e = .returned (.int .i64 k) ∧ Keeps w w' := by
  have hb := (born_alloc w #[.slice none 0 0, .slice none 0 0, .int .i64 0, .int .i64 0] 27).toOwn.mem
  dsimp only at hb
  have hk := Keeps.alloc (Keeps.refl w) (.cells #[.slice none 0 0, .slice none 0 0, .int .i64 0, .int .i64 0] 27)
  have a0 := cell_at hb 0 (by simp)
  have a1 := cell_at hb 1 (by simp)
  have a2 := cell_at hb 2 (by simp)
  have a3 := cell_at hb 3 (by simp)
  simp only [Nat.zero_add, List.getElem_cons_zero, List.getElem_cons_succ] at a0 a1 a2 a3
  have HK := hide hk
  clear hb hk
  go_enter Try.func34, Try.ntmps34
  go_wp2_with fail
  generalize (w.alloc (.cells #[.slice none 0 0, .slice none 0 0, .int .i64 0, .int .i64 0] 27)) = W0 at *
  refine (heldDisk_0 k hk0 W0).mono ?_
  rintro x w0 ⟨rfl, hkc⟩
  replace a0 := hkc.cell a0
  replace a1 := hkc.cell a1
  replace a2 := hkc.cell a2
  replace a3 := hkc.cell a3
  replace HK := hide (HK.out.trans hkc)
  clear hkc
  go_wp2_with fail
  go_ret
  exact ⟨rfl, HK.out⟩
set_option maxHeartbeats 4000000 in
theorem eqBook_0 (w : World) : Calls Try.prog 24 #[.agg #[.int .i64 0, .int .i64 0, .int .i64 0, .slice none 0 0, .slice none 0 0, .slice none 0 0], .agg #[.int .i64 0, .int .i64 0, .int .i64 0, .slice none 0 0, .slice none 0 0, .slice none 0 0]] w fun e w' => e = .returned (.bool true) ∧ Keeps w w' := by
  have hb := (born_alloc w #[.int .i64 0, .int .i64 0, .int .i64 0, .slice none 0 0, .slice none 0 0, .slice none 0 0] 32).toOwn.mem
  dsimp only at hb
  have hk := Keeps.alloc (Keeps.refl w) (.cells #[.int .i64 0, .int .i64 0, .int .i64 0, .slice none 0 0, .slice none 0 0, .slice none 0 0] 32)
  have hb2 := (born_alloc (w.alloc (.cells #[.int .i64 0, .int .i64 0, .int .i64 0, .slice none 0 0, .slice none 0 0, .slice none 0 0] 32)) #[.int .i64 0, .int .i64 0, .int .i64 0, .slice none 0 0, .slice none 0 0, .slice none 0 0] 32).toOwn.mem
  dsimp only at hb2
  have hk2 := Keeps.alloc (Keeps.refl (w.alloc (.cells #[.int .i64 0, .int .i64 0, .int .i64 0, .slice none 0 0, .slice none 0 0, .slice none 0 0] 32))) (.cells #[.int .i64 0, .int .i64 0, .int .i64 0, .slice none 0 0, .slice none 0 0, .slice none 0 0] 32)
  have hz : (w.alloc (.cells #[.int .i64 0, .int .i64 0, .int .i64 0, .slice none 0 0, .slice none 0 0, .slice none 0 0] 32)).heap.size = w.heap.size + 1 := by simp
  rw [hz] at hb2
  have a0 := cell_at hb 0 (by simp)
  have a1 := cell_at hb 1 (by simp)
  have a2 := cell_at hb 2 (by simp)
  have a3 := cell_at hb 3 (by simp)
  have a4 := cell_at hb 4 (by simp)
  have a5 := cell_at hb 5 (by simp)
  simp only [Nat.zero_add, List.getElem_cons_zero, List.getElem_cons_succ] at a0 a1 a2 a3 a4 a5
  have b0 := cell_at hb2 0 (by simp)
  have b1 := cell_at hb2 1 (by simp)
  have b2 := cell_at hb2 2 (by simp)
  have b3 := cell_at hb2 3 (by simp)
  have b4 := cell_at hb2 4 (by simp)
  have b5 := cell_at hb2 5 (by simp)
  simp only [Nat.zero_add, List.getElem_cons_zero, List.getElem_cons_succ] at b0 b1 b2 b3 b4 b5
  replace a0 := hk2.cell a0
  replace a1 := hk2.cell a1
  replace a2 := hk2.cell a2
  replace a3 := hk2.cell a3
  replace a4 := hk2.cell a4
  replace a5 := hk2.cell a5
  have HK := hide (hk.trans hk2)
  clear hb hk hb2 hk2 hz
  go_enter Try.func24, Try.ntmps24
  go_wp2_with fail
  generalize ((w.alloc (.cells #[.int .i64 0, .int .i64 0, .int .i64 0, .slice none 0 0, .slice none 0 0, .slice none 0 0] 32)).alloc (.cells #[.int .i64 0, .int .i64 0, .int .i64 0, .slice none 0 0, .slice none 0 0, .slice none 0 0] 32)) = W0 at *
  refine (eqChanS_0 W0).mono ?_
  rintro x w0 ⟨rfl, hkc⟩
  replace a0 := hkc.cell a0
  replace a1 := hkc.cell a1
  replace a2 := hkc.cell a2
  replace a3 := hkc.cell a3
  replace a4 := hkc.cell a4
  replace a5 := hkc.cell a5
  replace b0 := hkc.cell b0
  replace b1 := hkc.cell b1
  replace b2 := hkc.cell b2
  replace b3 := hkc.cell b3
  replace b4 := hkc.cell b4
  replace b5 := hkc.cell b5
  replace HK := hide (HK.out.trans hkc)
  clear hkc
  go_wp2_with fail
  refine (eqHtlcS_0 w0).mono ?_
  rintro x w1 ⟨rfl, hkc⟩
  replace a0 := hkc.cell a0
  replace a1 := hkc.cell a1
  replace a2 := hkc.cell a2
  replace a3 := hkc.cell a3
  replace a4 := hkc.cell a4
  replace a5 := hkc.cell a5
  replace b0 := hkc.cell b0
  replace b1 := hkc.cell b1
  replace b2 := hkc.cell b2
  replace b3 := hkc.cell b3
  replace b4 := hkc.cell b4
  replace b5 := hkc.cell b5
  replace HK := hide (HK.out.trans hkc)
  clear hkc
  go_wp2_with fail
  refine (eqCircleS_0 w1).mono ?_
  rintro x w2 ⟨rfl, hkc⟩
  replace a0 := hkc.cell a0
  replace a1 := hkc.cell a1
  replace a2 := hkc.cell a2
  replace a3 := hkc.cell a3
  replace a4 := hkc.cell a4
  replace a5 := hkc.cell a5
  replace b0 := hkc.cell b0
  replace b1 := hkc.cell b1
  replace b2 := hkc.cell b2
  replace b3 := hkc.cell b3
  replace b4 := hkc.cell b4
  replace b5 := hkc.cell b5
  replace HK := hide (HK.out.trans hkc)
  clear hkc
  go_wp2_with fail
  go_ret
  exact ⟨rfl, HK.out⟩
set_option maxHeartbeats 4000000 in
theorem markBook_0 (k : Int) (w : World) : Calls Try.prog 30 #[.agg #[.int .i64 0, .int .i64 0, .int .i64 0, .slice none 0 0, .slice none 0 0, .slice none 0 0], .int .i64 k] w fun e w' => e = .returned (.int .i64 k) ∧ Keeps w w' := by
  have hb := (born_alloc w #[.int .i64 0, .int .i64 0, .int .i64 0, .slice none 0 0, .slice none 0 0, .slice none 0 0] 32).toOwn.mem
  dsimp only at hb
  have hk := Keeps.alloc (Keeps.refl w) (.cells #[.int .i64 0, .int .i64 0, .int .i64 0, .slice none 0 0, .slice none 0 0, .slice none 0 0] 32)
  have a0 := cell_at hb 0 (by simp)
  have a1 := cell_at hb 1 (by simp)
  have a2 := cell_at hb 2 (by simp)
  have a3 := cell_at hb 3 (by simp)
  have a4 := cell_at hb 4 (by simp)
  have a5 := cell_at hb 5 (by simp)
  simp only [Nat.zero_add, List.getElem_cons_zero, List.getElem_cons_succ] at a0 a1 a2 a3 a4 a5
  have HK := hide hk
  clear hb hk
  go_enter Try.func30, Try.ntmps30
  go_wp2_with fail
  generalize (w.alloc (.cells #[.int .i64 0, .int .i64 0, .int .i64 0, .slice none 0 0, .slice none 0 0, .slice none 0 0] 32)) = W0 at *
  refine (markChanS_0 k W0).mono ?_
  rintro x w0 ⟨rfl, hkc⟩
  replace a0 := hkc.cell a0
  replace a1 := hkc.cell a1
  replace a2 := hkc.cell a2
  replace a3 := hkc.cell a3
  replace a4 := hkc.cell a4
  replace a5 := hkc.cell a5
  replace HK := hide (HK.out.trans hkc)
  clear hkc
  go_wp2_with fail
  refine (markHtlcS_0 k w0).mono ?_
  rintro x w1 ⟨rfl, hkc⟩
  replace a0 := hkc.cell a0
  replace a1 := hkc.cell a1
  replace a2 := hkc.cell a2
  replace a3 := hkc.cell a3
  replace a4 := hkc.cell a4
  replace a5 := hkc.cell a5
  replace HK := hide (HK.out.trans hkc)
  clear hkc
  go_wp2_with fail
  refine (markCircleS_0 k w1).mono ?_
  rintro x w2 ⟨rfl, hkc⟩
  replace a0 := hkc.cell a0
  replace a1 := hkc.cell a1
  replace a2 := hkc.cell a2
  replace a3 := hkc.cell a3
  replace a4 := hkc.cell a4
  replace a5 := hkc.cell a5
  replace HK := hide (HK.out.trans hkc)
  clear hkc
  go_wp2_with fail
  go_ret
  exact ⟨rfl, HK.out⟩
set_option maxHeartbeats 4000000 in
theorem heldBook_0 (k : Int) (hk0 : 0 ≤ k) (w : World) : Calls Try.prog 35 #[.agg #[.int .i64 0, .int .i64 0, .int .i64 0, .slice none 0 0, .slice none 0 0, .slice none 0 0], .int .i64 k] w fun e w' => e = .returned (.int .i64 k) ∧ Keeps w w' := by
  have hb := (born_alloc w #[.int .i64 0, .int .i64 0, .int .i64 0, .slice none 0 0, .slice none 0 0, .slice none 0 0] 32).toOwn.mem
  dsimp only at hb
  have hk := Keeps.alloc (Keeps.refl w) (.cells #[.int .i64 0, .int .i64 0, .int .i64 0, .slice none 0 0, .slice none 0 0, .slice none 0 0] 32)
  have a0 := cell_at hb 0 (by simp)
  have a1 := cell_at hb 1 (by simp)
  have a2 := cell_at hb 2 (by simp)
  have a3 := cell_at hb 3 (by simp)
  have a4 := cell_at hb 4 (by simp)
  have a5 := cell_at hb 5 (by simp)
  simp only [Nat.zero_add, List.getElem_cons_zero, List.getElem_cons_succ] at a0 a1 a2 a3 a4 a5
  have HK := hide hk
  clear hb hk
  go_enter Try.func35, Try.ntmps35
  go_wp2_with fail
  generalize (w.alloc (.cells #[.int .i64 0, .int .i64 0, .int .i64 0, .slice none 0 0, .slice none 0 0, .slice none 0 0] 32)) = W0 at *
  refine (heldChanS_0 k W0).mono ?_
  rintro x w0 ⟨rfl, hkc⟩
  replace a0 := hkc.cell a0
  replace a1 := hkc.cell a1
  replace a2 := hkc.cell a2
  replace a3 := hkc.cell a3
  replace a4 := hkc.cell a4
  replace a5 := hkc.cell a5
  replace HK := hide (HK.out.trans hkc)
  clear hkc
  go_wp2_with fail
  refine (heldHtlcS_0 k w0).mono ?_
  rintro x w1 ⟨rfl, hkc⟩
  replace a0 := hkc.cell a0
  replace a1 := hkc.cell a1
  replace a2 := hkc.cell a2
  replace a3 := hkc.cell a3
  replace a4 := hkc.cell a4
  replace a5 := hkc.cell a5
  replace HK := hide (HK.out.trans hkc)
  clear hkc
  go_wp2_with fail
  refine (heldCircleS_0 k w1).mono ?_
  rintro x w2 ⟨rfl, hkc⟩
  replace a0 := hkc.cell a0
  replace a1 := hkc.cell a1
  replace a2 := hkc.cell a2
  replace a3 := hkc.cell a3
  replace a4 := hkc.cell a4
  replace a5 := hkc.cell a5
  replace HK := hide (HK.out.trans hkc)
  clear hkc
  go_wp2_with fail
  go_ret
  exact ⟨rfl, HK.out⟩
set_option maxHeartbeats 4000000 in
theorem eqLedger_0 (w : World) : Calls Try.prog 25 #[.agg #[.int .i64 0, .slice none 0 0], .agg #[.int .i64 0, .slice none 0 0]] w fun e w' => e = .returned (.bool true) ∧ Keeps w w' := by
  have hb := (born_alloc w #[.int .i64 0, .slice none 0 0] 35).toOwn.mem
  dsimp only at hb
  have hk := Keeps.alloc (Keeps.refl w) (.cells #[.int .i64 0, .slice none 0 0] 35)
  have hb2 := (born_alloc (w.alloc (.cells #[.int .i64 0, .slice none 0 0] 35)) #[.int .i64 0, .slice none 0 0] 35).toOwn.mem
  dsimp only at hb2
  have hk2 := Keeps.alloc (Keeps.refl (w.alloc (.cells #[.int .i64 0, .slice none 0 0] 35))) (.cells #[.int .i64 0, .slice none 0 0] 35)
  have hz : (w.alloc (.cells #[.int .i64 0, .slice none 0 0] 35)).heap.size = w.heap.size + 1 := by simp
  rw [hz] at hb2
  have a0 := cell_at hb 0 (by simp)
  have a1 := cell_at hb 1 (by simp)
  simp only [Nat.zero_add, List.getElem_cons_zero, List.getElem_cons_succ] at a0 a1
  have b0 := cell_at hb2 0 (by simp)
  have b1 := cell_at hb2 1 (by simp)
  simp only [Nat.zero_add, List.getElem_cons_zero, List.getElem_cons_succ] at b0 b1
  replace a0 := hk2.cell a0
  replace a1 := hk2.cell a1
  have HK := hide (hk.trans hk2)
  clear hb hk hb2 hk2 hz
  go_enter Try.func25, Try.ntmps25
  go_wp2_with fail
  generalize ((w.alloc (.cells #[.int .i64 0, .slice none 0 0] 35)).alloc (.cells #[.int .i64 0, .slice none 0 0] 35)) = W0 at *
  refine (eqLineS_0 W0).mono ?_
  rintro x w0 ⟨rfl, hkc⟩
  replace a0 := hkc.cell a0
  replace a1 := hkc.cell a1
  replace b0 := hkc.cell b0
  replace b1 := hkc.cell b1
  replace HK := hide (HK.out.trans hkc)
  clear hkc
  go_wp2_with fail
  go_ret
  exact ⟨rfl, HK.out⟩
set_option maxHeartbeats 4000000 in
theorem markLedger_0 (k : Int) (w : World) : Calls Try.prog 31 #[.agg #[.int .i64 0, .slice none 0 0], .int .i64 k] w fun e w' => e = .returned (.int .i64 k) ∧ Keeps w w' := by
  have hb := (born_alloc w #[.int .i64 0, .slice none 0 0] 35).toOwn.mem
  dsimp only at hb
  have hk := Keeps.alloc (Keeps.refl w) (.cells #[.int .i64 0, .slice none 0 0] 35)
  have a0 := cell_at hb 0 (by simp)
  have a1 := cell_at hb 1 (by simp)
  simp only [Nat.zero_add, List.getElem_cons_zero, List.getElem_cons_succ] at a0 a1
  have HK := hide hk
  clear hb hk
  go_enter Try.func31, Try.ntmps31
  go_wp2_with fail
  generalize (w.alloc (.cells #[.int .i64 0, .slice none 0 0] 35)) = W0 at *
  refine (markLineS_0 k W0).mono ?_
  rintro x w0 ⟨rfl, hkc⟩
  replace a0 := hkc.cell a0
  replace a1 := hkc.cell a1
  replace HK := hide (HK.out.trans hkc)
  clear hkc
  go_wp2_with fail
  go_ret
  exact ⟨rfl, HK.out⟩
set_option maxHeartbeats 4000000 in
theorem heldLedger_0 (k : Int) (hk0 : 0 ≤ k) (w : World) : Calls Try.prog 36 #[.agg #[.int .i64 0, .slice none 0 0], .int .i64 k] w fun e w' => e = .returned (.int .i64 k) ∧ Keeps w w' := by
  have hb := (born_alloc w #[.int .i64 0, .slice none 0 0] 35).toOwn.mem
  dsimp only at hb
  have hk := Keeps.alloc (Keeps.refl w) (.cells #[.int .i64 0, .slice none 0 0] 35)
  have a0 := cell_at hb 0 (by simp)
  have a1 := cell_at hb 1 (by simp)
  simp only [Nat.zero_add, List.getElem_cons_zero, List.getElem_cons_succ] at a0 a1
  have HK := hide hk
  clear hb hk
  go_enter Try.func36, Try.ntmps36
  go_wp2_with fail
  generalize (w.alloc (.cells #[.int .i64 0, .slice none 0 0] 35)) = W0 at *
  refine (heldLineS_0 k W0).mono ?_
  rintro x w0 ⟨rfl, hkc⟩
  replace a0 := hkc.cell a0
  replace a1 := hkc.cell a1
  replace HK := hide (HK.out.trans hkc)
  clear hkc
  go_wp2_with fail
  go_ret
  exact ⟨rfl, HK.out⟩
set_option maxHeartbeats 4000000 in
theorem eqHub_0 (w : World) : Calls Try.prog 11 #[.agg #[.slice none 0 0, .slice none 0 0, .int .i64 0, .int .i64 0, .int .i64 0, .int .i64 0, .int .i64 0, .slice none 0 0, .slice none 0 0, .slice none 0 0, .int .i64 0, .slice none 0 0, .slice none 0 0, .slice none 0 0], .agg #[.slice none 0 0, .slice none 0 0, .int .i64 0, .int .i64 0, .int .i64 0, .int .i64 0, .int .i64 0, .slice none 0 0, .slice none 0 0, .slice none 0 0, .int .i64 0, .slice none 0 0, .slice none 0 0, .slice none 0 0]] w fun e w' => e = .returned (.bool true) ∧ Keeps w w' := by
  have hb := (born_alloc w #[.slice none 0 0, .slice none 0 0, .int .i64 0, .int .i64 0, .int .i64 0, .int .i64 0, .int .i64 0, .slice none 0 0, .slice none 0 0, .slice none 0 0, .int .i64 0, .slice none 0 0, .slice none 0 0, .slice none 0 0] 38).toOwn.mem
  dsimp only at hb
  have hk := Keeps.alloc (Keeps.refl w) (.cells #[.slice none 0 0, .slice none 0 0, .int .i64 0, .int .i64 0, .int .i64 0, .int .i64 0, .int .i64 0, .slice none 0 0, .slice none 0 0, .slice none 0 0, .int .i64 0, .slice none 0 0, .slice none 0 0, .slice none 0 0] 38)
  have hb2 := (born_alloc (w.alloc (.cells #[.slice none 0 0, .slice none 0 0, .int .i64 0, .int .i64 0, .int .i64 0, .int .i64 0, .int .i64 0, .slice none 0 0, .slice none 0 0, .slice none 0 0, .int .i64 0, .slice none 0 0, .slice none 0 0, .slice none 0 0] 38)) #[.slice none 0 0, .slice none 0 0, .int .i64 0, .int .i64 0, .int .i64 0, .int .i64 0, .int .i64 0, .slice none 0 0, .slice none 0 0, .slice none 0 0, .int .i64 0, .slice none 0 0, .slice none 0 0, .slice none 0 0] 38).toOwn.mem
  dsimp only at hb2
  have hk2 := Keeps.alloc (Keeps.refl (w.alloc (.cells #[.slice none 0 0, .slice none 0 0, .int .i64 0, .int .i64 0, .int .i64 0, .int .i64 0, .int .i64 0, .slice none 0 0, .slice none 0 0, .slice none 0 0, .int .i64 0, .slice none 0 0, .slice none 0 0, .slice none 0 0] 38))) (.cells #[.slice none 0 0, .slice none 0 0, .int .i64 0, .int .i64 0, .int .i64 0, .int .i64 0, .int .i64 0, .slice none 0 0, .slice none 0 0, .slice none 0 0, .int .i64 0, .slice none 0 0, .slice none 0 0, .slice none 0 0] 38)
  have hz : (w.alloc (.cells #[.slice none 0 0, .slice none 0 0, .int .i64 0, .int .i64 0, .int .i64 0, .int .i64 0, .int .i64 0, .slice none 0 0, .slice none 0 0, .slice none 0 0, .int .i64 0, .slice none 0 0, .slice none 0 0, .slice none 0 0] 38)).heap.size = w.heap.size + 1 := by simp
  rw [hz] at hb2
  have a0 := cell_at hb 0 (by simp)
  have a1 := cell_at hb 1 (by simp)
  have a2 := cell_at hb 2 (by simp)
  have a3 := cell_at hb 3 (by simp)
  have a4 := cell_at hb 4 (by simp)
  have a5 := cell_at hb 5 (by simp)
  have a6 := cell_at hb 6 (by simp)
  have a7 := cell_at hb 7 (by simp)
  have a8 := cell_at hb 8 (by simp)
  have a9 := cell_at hb 9 (by simp)
  have a10 := cell_at hb 10 (by simp)
  have a11 := cell_at hb 11 (by simp)
  have a12 := cell_at hb 12 (by simp)
  have a13 := cell_at hb 13 (by simp)
  simp only [Nat.zero_add, List.getElem_cons_zero, List.getElem_cons_succ] at a0 a1 a2 a3 a4 a5 a6 a7 a8 a9 a10 a11 a12 a13
  have b0 := cell_at hb2 0 (by simp)
  have b1 := cell_at hb2 1 (by simp)
  have b2 := cell_at hb2 2 (by simp)
  have b3 := cell_at hb2 3 (by simp)
  have b4 := cell_at hb2 4 (by simp)
  have b5 := cell_at hb2 5 (by simp)
  have b6 := cell_at hb2 6 (by simp)
  have b7 := cell_at hb2 7 (by simp)
  have b8 := cell_at hb2 8 (by simp)
  have b9 := cell_at hb2 9 (by simp)
  have b10 := cell_at hb2 10 (by simp)
  have b11 := cell_at hb2 11 (by simp)
  have b12 := cell_at hb2 12 (by simp)
  have b13 := cell_at hb2 13 (by simp)
  simp only [Nat.zero_add, List.getElem_cons_zero, List.getElem_cons_succ] at b0 b1 b2 b3 b4 b5 b6 b7 b8 b9 b10 b11 b12 b13
  replace a0 := hk2.cell a0
  replace a1 := hk2.cell a1
  replace a2 := hk2.cell a2
  replace a3 := hk2.cell a3
  replace a4 := hk2.cell a4
  replace a5 := hk2.cell a5
  replace a6 := hk2.cell a6
  replace a7 := hk2.cell a7
  replace a8 := hk2.cell a8
  replace a9 := hk2.cell a9
  replace a10 := hk2.cell a10
  replace a11 := hk2.cell a11
  replace a12 := hk2.cell a12
  replace a13 := hk2.cell a13
  have HK := hide (hk.trans hk2)
  clear hb hk hb2 hk2 hz
  go_enter Try.func11, Try.ntmps11
  go_wp2_with fail
  generalize ((w.alloc (.cells #[.slice none 0 0, .slice none 0 0, .int .i64 0, .int .i64 0, .int .i64 0, .int .i64 0, .int .i64 0, .slice none 0 0, .slice none 0 0, .slice none 0 0, .int .i64 0, .slice none 0 0, .slice none 0 0, .slice none 0 0] 38)).alloc (.cells #[.slice none 0 0, .slice none 0 0, .int .i64 0, .int .i64 0, .int .i64 0, .int .i64 0, .int .i64 0, .slice none 0 0, .slice none 0 0, .slice none 0 0, .int .i64 0, .slice none 0 0, .slice none 0 0, .slice none 0 0] 38)) = W0 at *
  refine (eqLog_0 W0).mono ?_
  rintro x w0 ⟨rfl, hkc⟩
  replace a0 := hkc.cell a0
  replace a1 := hkc.cell a1
  replace a2 := hkc.cell a2
  replace a3 := hkc.cell a3
  replace a4 := hkc.cell a4
  replace a5 := hkc.cell a5
  replace a6 := hkc.cell a6
  replace a7 := hkc.cell a7
  replace a8 := hkc.cell a8
  replace a9 := hkc.cell a9
  replace a10 := hkc.cell a10
  replace a11 := hkc.cell a11
  replace a12 := hkc.cell a12
  replace a13 := hkc.cell a13
  replace b0 := hkc.cell b0
  replace b1 := hkc.cell b1
  replace b2 := hkc.cell b2
  replace b3 := hkc.cell b3
  replace b4 := hkc.cell b4
  replace b5 := hkc.cell b5
  replace b6 := hkc.cell b6
  replace b7 := hkc.cell b7
  replace b8 := hkc.cell b8
  replace b9 := hkc.cell b9
  replace b10 := hkc.cell b10
  replace b11 := hkc.cell b11
  replace b12 := hkc.cell b12
  replace b13 := hkc.cell b13
  replace HK := hide (HK.out.trans hkc)
  clear hkc
  go_wp2_with fail
  refine (eqBook_0 w0).mono ?_
  rintro x w1 ⟨rfl, hkc⟩
  replace a0 := hkc.cell a0
  replace a1 := hkc.cell a1
  replace a2 := hkc.cell a2
  replace a3 := hkc.cell a3
  replace a4 := hkc.cell a4
  replace a5 := hkc.cell a5
  replace a6 := hkc.cell a6
  replace a7 := hkc.cell a7
  replace a8 := hkc.cell a8
  replace a9 := hkc.cell a9
  replace a10 := hkc.cell a10
  replace a11 := hkc.cell a11
  replace a12 := hkc.cell a12
  replace a13 := hkc.cell a13
  replace b0 := hkc.cell b0
  replace b1 := hkc.cell b1
  replace b2 := hkc.cell b2
  replace b3 := hkc.cell b3
  replace b4 := hkc.cell b4
  replace b5 := hkc.cell b5
  replace b6 := hkc.cell b6
  replace b7 := hkc.cell b7
  replace b8 := hkc.cell b8
  replace b9 := hkc.cell b9
  replace b10 := hkc.cell b10
  replace b11 := hkc.cell b11
  replace b12 := hkc.cell b12
  replace b13 := hkc.cell b13
  replace HK := hide (HK.out.trans hkc)
  clear hkc
  go_wp2_with fail
  refine (eqLedger_0 w1).mono ?_
  rintro x w2 ⟨rfl, hkc⟩
  replace a0 := hkc.cell a0
  replace a1 := hkc.cell a1
  replace a2 := hkc.cell a2
  replace a3 := hkc.cell a3
  replace a4 := hkc.cell a4
  replace a5 := hkc.cell a5
  replace a6 := hkc.cell a6
  replace a7 := hkc.cell a7
  replace a8 := hkc.cell a8
  replace a9 := hkc.cell a9
  replace a10 := hkc.cell a10
  replace a11 := hkc.cell a11
  replace a12 := hkc.cell a12
  replace a13 := hkc.cell a13
  replace b0 := hkc.cell b0
  replace b1 := hkc.cell b1
  replace b2 := hkc.cell b2
  replace b3 := hkc.cell b3
  replace b4 := hkc.cell b4
  replace b5 := hkc.cell b5
  replace b6 := hkc.cell b6
  replace b7 := hkc.cell b7
  replace b8 := hkc.cell b8
  replace b9 := hkc.cell b9
  replace b10 := hkc.cell b10
  replace b11 := hkc.cell b11
  replace b12 := hkc.cell b12
  replace b13 := hkc.cell b13
  replace HK := hide (HK.out.trans hkc)
  clear hkc
  go_wp2_with fail
  refine (eqEventS_0 w2).mono ?_
  rintro x w3 ⟨rfl, hkc⟩
  replace a0 := hkc.cell a0
  replace a1 := hkc.cell a1
  replace a2 := hkc.cell a2
  replace a3 := hkc.cell a3
  replace a4 := hkc.cell a4
  replace a5 := hkc.cell a5
  replace a6 := hkc.cell a6
  replace a7 := hkc.cell a7
  replace a8 := hkc.cell a8
  replace a9 := hkc.cell a9
  replace a10 := hkc.cell a10
  replace a11 := hkc.cell a11
  replace a12 := hkc.cell a12
  replace a13 := hkc.cell a13
  replace b0 := hkc.cell b0
  replace b1 := hkc.cell b1
  replace b2 := hkc.cell b2
  replace b3 := hkc.cell b3
  replace b4 := hkc.cell b4
  replace b5 := hkc.cell b5
  replace b6 := hkc.cell b6
  replace b7 := hkc.cell b7
  replace b8 := hkc.cell b8
  replace b9 := hkc.cell b9
  replace b10 := hkc.cell b10
  replace b11 := hkc.cell b11
  replace b12 := hkc.cell b12
  replace b13 := hkc.cell b13
  replace HK := hide (HK.out.trans hkc)
  clear hkc
  go_wp2_with fail
  refine (eqEventS_0 w3).mono ?_
  rintro x w4 ⟨rfl, hkc⟩
  replace a0 := hkc.cell a0
  replace a1 := hkc.cell a1
  replace a2 := hkc.cell a2
  replace a3 := hkc.cell a3
  replace a4 := hkc.cell a4
  replace a5 := hkc.cell a5
  replace a6 := hkc.cell a6
  replace a7 := hkc.cell a7
  replace a8 := hkc.cell a8
  replace a9 := hkc.cell a9
  replace a10 := hkc.cell a10
  replace a11 := hkc.cell a11
  replace a12 := hkc.cell a12
  replace a13 := hkc.cell a13
  replace b0 := hkc.cell b0
  replace b1 := hkc.cell b1
  replace b2 := hkc.cell b2
  replace b3 := hkc.cell b3
  replace b4 := hkc.cell b4
  replace b5 := hkc.cell b5
  replace b6 := hkc.cell b6
  replace b7 := hkc.cell b7
  replace b8 := hkc.cell b8
  replace b9 := hkc.cell b9
  replace b10 := hkc.cell b10
  replace b11 := hkc.cell b11
  replace b12 := hkc.cell b12
  replace b13 := hkc.cell b13
  replace HK := hide (HK.out.trans hkc)
  clear hkc
  go_wp2_with fail
  go_ret
  exact ⟨rfl, HK.out⟩
set_option maxHeartbeats 4000000 in
theorem markHub_0 (k : Int) (w : World) : Calls Try.prog 15 #[.agg #[.slice none 0 0, .slice none 0 0, .int .i64 0, .int .i64 0, .int .i64 0, .int .i64 0, .int .i64 0, .slice none 0 0, .slice none 0 0, .slice none 0 0, .int .i64 0, .slice none 0 0, .slice none 0 0, .slice none 0 0], .int .i64 k] w fun e w' => e = .returned (.int .i64 k) ∧ Keeps w w' := by
  have hb := (born_alloc w #[.slice none 0 0, .slice none 0 0, .int .i64 0, .int .i64 0, .int .i64 0, .int .i64 0, .int .i64 0, .slice none 0 0, .slice none 0 0, .slice none 0 0, .int .i64 0, .slice none 0 0, .slice none 0 0, .slice none 0 0] 38).toOwn.mem
  dsimp only at hb
  have hk := Keeps.alloc (Keeps.refl w) (.cells #[.slice none 0 0, .slice none 0 0, .int .i64 0, .int .i64 0, .int .i64 0, .int .i64 0, .int .i64 0, .slice none 0 0, .slice none 0 0, .slice none 0 0, .int .i64 0, .slice none 0 0, .slice none 0 0, .slice none 0 0] 38)
  have a0 := cell_at hb 0 (by simp)
  have a1 := cell_at hb 1 (by simp)
  have a2 := cell_at hb 2 (by simp)
  have a3 := cell_at hb 3 (by simp)
  have a4 := cell_at hb 4 (by simp)
  have a5 := cell_at hb 5 (by simp)
  have a6 := cell_at hb 6 (by simp)
  have a7 := cell_at hb 7 (by simp)
  have a8 := cell_at hb 8 (by simp)
  have a9 := cell_at hb 9 (by simp)
  have a10 := cell_at hb 10 (by simp)
  have a11 := cell_at hb 11 (by simp)
  have a12 := cell_at hb 12 (by simp)
  have a13 := cell_at hb 13 (by simp)
  simp only [Nat.zero_add, List.getElem_cons_zero, List.getElem_cons_succ] at a0 a1 a2 a3 a4 a5 a6 a7 a8 a9 a10 a11 a12 a13
  have HK := hide hk
  clear hb hk
  go_enter Try.func15, Try.ntmps15
  go_wp2_with fail
  generalize (w.alloc (.cells #[.slice none 0 0, .slice none 0 0, .int .i64 0, .int .i64 0, .int .i64 0, .int .i64 0, .int .i64 0, .slice none 0 0, .slice none 0 0, .slice none 0 0, .int .i64 0, .slice none 0 0, .slice none 0 0, .slice none 0 0] 38)) = W0 at *
  refine (markLog_0 k W0).mono ?_
  rintro x w0 ⟨rfl, hkc⟩
  replace a0 := hkc.cell a0
  replace a1 := hkc.cell a1
  replace a2 := hkc.cell a2
  replace a3 := hkc.cell a3
  replace a4 := hkc.cell a4
  replace a5 := hkc.cell a5
  replace a6 := hkc.cell a6
  replace a7 := hkc.cell a7
  replace a8 := hkc.cell a8
  replace a9 := hkc.cell a9
  replace a10 := hkc.cell a10
  replace a11 := hkc.cell a11
  replace a12 := hkc.cell a12
  replace a13 := hkc.cell a13
  replace HK := hide (HK.out.trans hkc)
  clear hkc
  go_wp2_with fail
  refine (markBook_0 k w0).mono ?_
  rintro x w1 ⟨rfl, hkc⟩
  replace a0 := hkc.cell a0
  replace a1 := hkc.cell a1
  replace a2 := hkc.cell a2
  replace a3 := hkc.cell a3
  replace a4 := hkc.cell a4
  replace a5 := hkc.cell a5
  replace a6 := hkc.cell a6
  replace a7 := hkc.cell a7
  replace a8 := hkc.cell a8
  replace a9 := hkc.cell a9
  replace a10 := hkc.cell a10
  replace a11 := hkc.cell a11
  replace a12 := hkc.cell a12
  replace a13 := hkc.cell a13
  replace HK := hide (HK.out.trans hkc)
  clear hkc
  go_wp2_with fail
  refine (markLedger_0 k w1).mono ?_
  rintro x w2 ⟨rfl, hkc⟩
  replace a0 := hkc.cell a0
  replace a1 := hkc.cell a1
  replace a2 := hkc.cell a2
  replace a3 := hkc.cell a3
  replace a4 := hkc.cell a4
  replace a5 := hkc.cell a5
  replace a6 := hkc.cell a6
  replace a7 := hkc.cell a7
  replace a8 := hkc.cell a8
  replace a9 := hkc.cell a9
  replace a10 := hkc.cell a10
  replace a11 := hkc.cell a11
  replace a12 := hkc.cell a12
  replace a13 := hkc.cell a13
  replace HK := hide (HK.out.trans hkc)
  clear hkc
  go_wp2_with fail
  refine (markEventS_0 k w2).mono ?_
  rintro x w3 ⟨rfl, hkc⟩
  replace a0 := hkc.cell a0
  replace a1 := hkc.cell a1
  replace a2 := hkc.cell a2
  replace a3 := hkc.cell a3
  replace a4 := hkc.cell a4
  replace a5 := hkc.cell a5
  replace a6 := hkc.cell a6
  replace a7 := hkc.cell a7
  replace a8 := hkc.cell a8
  replace a9 := hkc.cell a9
  replace a10 := hkc.cell a10
  replace a11 := hkc.cell a11
  replace a12 := hkc.cell a12
  replace a13 := hkc.cell a13
  replace HK := hide (HK.out.trans hkc)
  clear hkc
  go_wp2_with fail
  refine (markEventS_0 k w3).mono ?_
  rintro x w4 ⟨rfl, hkc⟩
  replace a0 := hkc.cell a0
  replace a1 := hkc.cell a1
  replace a2 := hkc.cell a2
  replace a3 := hkc.cell a3
  replace a4 := hkc.cell a4
  replace a5 := hkc.cell a5
  replace a6 := hkc.cell a6
  replace a7 := hkc.cell a7
  replace a8 := hkc.cell a8
  replace a9 := hkc.cell a9
  replace a10 := hkc.cell a10
  replace a11 := hkc.cell a11
  replace a12 := hkc.cell a12
  replace a13 := hkc.cell a13
  replace HK := hide (HK.out.trans hkc)
  clear hkc
  go_wp2_with fail
  go_ret
  exact ⟨rfl, HK.out⟩
set_option maxHeartbeats 4000000 in
theorem heldHub_0 (k : Int) (hk0 : 0 ≤ k) (w : World) : Calls Try.prog 19 #[.agg #[.slice none 0 0, .slice none 0 0, .int .i64 0, .int .i64 0, .int .i64 0, .int .i64 0, .int .i64 0, .slice none 0 0, .slice none 0 0, .slice none 0 0, .int .i64 0, .slice none 0 0, .slice none 0 0, .slice none 0 0], .int .i64 k] w fun e w' => e = .returned (.int .i64 k) ∧ Keeps w w' := by
  have hb := (born_alloc w #[.slice none 0 0, .slice none 0 0, .int .i64 0, .int .i64 0, .int .i64 0, .int .i64 0, .int .i64 0, .slice none 0 0, .slice none 0 0, .slice none 0 0, .int .i64 0, .slice none 0 0, .slice none 0 0, .slice none 0 0] 38).toOwn.mem
  dsimp only at hb
  have hk := Keeps.alloc (Keeps.refl w) (.cells #[.slice none 0 0, .slice none 0 0, .int .i64 0, .int .i64 0, .int .i64 0, .int .i64 0, .int .i64 0, .slice none 0 0, .slice none 0 0, .slice none 0 0, .int .i64 0, .slice none 0 0, .slice none 0 0, .slice none 0 0] 38)
  have a0 := cell_at hb 0 (by simp)
  have a1 := cell_at hb 1 (by simp)
  have a2 := cell_at hb 2 (by simp)
  have a3 := cell_at hb 3 (by simp)
  have a4 := cell_at hb 4 (by simp)
  have a5 := cell_at hb 5 (by simp)
  have a6 := cell_at hb 6 (by simp)
  have a7 := cell_at hb 7 (by simp)
  have a8 := cell_at hb 8 (by simp)
  have a9 := cell_at hb 9 (by simp)
  have a10 := cell_at hb 10 (by simp)
  have a11 := cell_at hb 11 (by simp)
  have a12 := cell_at hb 12 (by simp)
  have a13 := cell_at hb 13 (by simp)
  simp only [Nat.zero_add, List.getElem_cons_zero, List.getElem_cons_succ] at a0 a1 a2 a3 a4 a5 a6 a7 a8 a9 a10 a11 a12 a13
  have HK := hide hk
  clear hb hk
  go_enter Try.func19, Try.ntmps19
  go_wp2_with fail
  generalize (w.alloc (.cells #[.slice none 0 0, .slice none 0 0, .int .i64 0, .int .i64 0, .int .i64 0, .int .i64 0, .int .i64 0, .slice none 0 0, .slice none 0 0, .slice none 0 0, .int .i64 0, .slice none 0 0, .slice none 0 0, .slice none 0 0] 38)) = W0 at *
  refine (heldLog_0 k hk0 W0).mono ?_
  rintro x w0 ⟨rfl, hkc⟩
  replace a0 := hkc.cell a0
  replace a1 := hkc.cell a1
  replace a2 := hkc.cell a2
  replace a3 := hkc.cell a3
  replace a4 := hkc.cell a4
  replace a5 := hkc.cell a5
  replace a6 := hkc.cell a6
  replace a7 := hkc.cell a7
  replace a8 := hkc.cell a8
  replace a9 := hkc.cell a9
  replace a10 := hkc.cell a10
  replace a11 := hkc.cell a11
  replace a12 := hkc.cell a12
  replace a13 := hkc.cell a13
  replace HK := hide (HK.out.trans hkc)
  clear hkc
  go_wp2_with fail
  refine (heldBook_0 k hk0 w0).mono ?_
  rintro x w1 ⟨rfl, hkc⟩
  replace a0 := hkc.cell a0
  replace a1 := hkc.cell a1
  replace a2 := hkc.cell a2
  replace a3 := hkc.cell a3
  replace a4 := hkc.cell a4
  replace a5 := hkc.cell a5
  replace a6 := hkc.cell a6
  replace a7 := hkc.cell a7
  replace a8 := hkc.cell a8
  replace a9 := hkc.cell a9
  replace a10 := hkc.cell a10
  replace a11 := hkc.cell a11
  replace a12 := hkc.cell a12
  replace a13 := hkc.cell a13
  replace HK := hide (HK.out.trans hkc)
  clear hkc
  go_wp2_with fail
  refine (heldLedger_0 k hk0 w1).mono ?_
  rintro x w2 ⟨rfl, hkc⟩
  replace a0 := hkc.cell a0
  replace a1 := hkc.cell a1
  replace a2 := hkc.cell a2
  replace a3 := hkc.cell a3
  replace a4 := hkc.cell a4
  replace a5 := hkc.cell a5
  replace a6 := hkc.cell a6
  replace a7 := hkc.cell a7
  replace a8 := hkc.cell a8
  replace a9 := hkc.cell a9
  replace a10 := hkc.cell a10
  replace a11 := hkc.cell a11
  replace a12 := hkc.cell a12
  replace a13 := hkc.cell a13
  replace HK := hide (HK.out.trans hkc)
  clear hkc
  go_wp2_with fail
  refine (heldEventS_0 k w2).mono ?_
  rintro x w3 ⟨rfl, hkc⟩
  replace a0 := hkc.cell a0
  replace a1 := hkc.cell a1
  replace a2 := hkc.cell a2
  replace a3 := hkc.cell a3
  replace a4 := hkc.cell a4
  replace a5 := hkc.cell a5
  replace a6 := hkc.cell a6
  replace a7 := hkc.cell a7
  replace a8 := hkc.cell a8
  replace a9 := hkc.cell a9
  replace a10 := hkc.cell a10
  replace a11 := hkc.cell a11
  replace a12 := hkc.cell a12
  replace a13 := hkc.cell a13
  replace HK := hide (HK.out.trans hkc)
  clear hkc
  go_wp2_with fail
  refine (heldEventS_0 k w3).mono ?_
  rintro x w4 ⟨rfl, hkc⟩
  replace a0 := hkc.cell a0
  replace a1 := hkc.cell a1
  replace a2 := hkc.cell a2
  replace a3 := hkc.cell a3
  replace a4 := hkc.cell a4
  replace a5 := hkc.cell a5
  replace a6 := hkc.cell a6
  replace a7 := hkc.cell a7
  replace a8 := hkc.cell a8
  replace a9 := hkc.cell a9
  replace a10 := hkc.cell a10
  replace a11 := hkc.cell a11
  replace a12 := hkc.cell a12
  replace a13 := hkc.cell a13
  replace HK := hide (HK.out.trans hkc)
  clear hkc
  go_wp2_with fail
  go_ret
  exact ⟨rfl, HK.out⟩
abbrev wldV (ca : Option Addr) (n cc : Nat) (da : Option Addr) (m dc : Nat) : Value := .agg #[.bool false, .slice none 0 0, .slice none 0 0, .int .i64 0, .int .i64 0, .int .i64 0, .int .i64 0, .int .i64 0, .slice none 0 0, .slice none 0 0, .slice none 0 0, .int .i64 0, .slice none 0 0, .slice none 0 0, .slice none 0 0, .slice ca n cc, .slice da m dc, .slice none 0 0, .slice none 0 0, .slice none 0 0]
set_option maxHeartbeats 8000000 in
theorem eqWorld_d (ca : Option Addr) (cc : Nat) (cs : List Bs) (da : Option Addr) (dc : Nat) (ds : List Wr) (ca2 : Option Addr) (cc2 : Nat) (cs2 : List Bs) (da2 : Option Addr) (dc2 : Nat) (ds2 : List Wr) (w : World) (e : dat cs2 ds2 = dat cs ds) (hm : Mem w (dsk ca cs da ds)) (hm' : Mem w (dsk ca2 cs2 da2 ds2)) (h : DOk cs ds) :
    Calls Try.prog 6 #[wldV ca cs.length cc da ds.length dc, wldV ca2 cs2.length cc2 da2 ds2.length dc2] w fun e w' => e = .returned (.bool true) ∧ Keeps w w' := by
  have hbo := born_alloc w #[.bool false, .slice none 0 0, .slice none 0 0, .int .i64 0, .int .i64 0, .int .i64 0, .int .i64 0, .int .i64 0, .slice none 0 0, .slice none 0 0, .slice none 0 0, .int .i64 0, .slice none 0 0, .slice none 0 0, .slice none 0 0, .slice ca cs.length cc, .slice da ds.length dc, .slice none 0 0, .slice none 0 0, .slice none 0 0] 41
  have hb := hbo.toOwn.mem
  dsimp only at hb
  have hk := Keeps.alloc (Keeps.refl w) (.cells #[.bool false, .slice none 0 0, .slice none 0 0, .int .i64 0, .int .i64 0, .int .i64 0, .int .i64 0, .int .i64 0, .slice none 0 0, .slice none 0 0, .slice none 0 0, .int .i64 0, .slice none 0 0, .slice none 0 0, .slice none 0 0, .slice ca cs.length cc, .slice da ds.length dc, .slice none 0 0, .slice none 0 0, .slice none 0 0] 41)
  have hb2 := (born_alloc (w.alloc (.cells #[.bool false, .slice none 0 0, .slice none 0 0, .int .i64 0, .int .i64 0, .int .i64 0, .int .i64 0, .int .i64 0, .slice none 0 0, .slice none 0 0, .slice none 0 0, .int .i64 0, .slice none 0 0, .slice none 0 0, .slice none 0 0, .slice ca cs.length cc, .slice da ds.length dc, .slice none 0 0, .slice none 0 0, .slice none 0 0] 41)) #[.bool false, .slice none 0 0, .slice none 0 0, .int .i64 0, .int .i64 0, .int .i64 0, .int .i64 0, .int .i64 0, .slice none 0 0, .slice none 0 0, .slice none 0 0, .int .i64 0, .slice none 0 0, .slice none 0 0, .slice none 0 0, .slice ca2 cs2.length cc2, .slice da2 ds2.length dc2, .slice none 0 0, .slice none 0 0, .slice none 0 0] 41).toOwn.mem
  dsimp only at hb2
  have hk2 := Keeps.alloc (Keeps.refl (w.alloc (.cells #[.bool false, .slice none 0 0, .slice none 0 0, .int .i64 0, .int .i64 0, .int .i64 0, .int .i64 0, .int .i64 0, .slice none 0 0, .slice none 0 0, .slice none 0 0, .int .i64 0, .slice none 0 0, .slice none 0 0, .slice none 0 0, .slice ca cs.length cc, .slice da ds.length dc, .slice none 0 0, .slice none 0 0, .slice none 0 0] 41))) (.cells #[.bool false, .slice none 0 0, .slice none 0 0, .int .i64 0, .int .i64 0, .int .i64 0, .int .i64 0, .int .i64 0, .slice none 0 0, .slice none 0 0, .slice none 0 0, .int .i64 0, .slice none 0 0, .slice none 0 0, .slice none 0 0, .slice ca2 cs2.length cc2, .slice da2 ds2.length dc2, .slice none 0 0, .slice none 0 0, .slice none 0 0] 41)
  have hz : (w.alloc (.cells #[.bool false, .slice none 0 0, .slice none 0 0, .int .i64 0, .int .i64 0, .int .i64 0, .int .i64 0, .int .i64 0, .slice none 0 0, .slice none 0 0, .slice none 0 0, .int .i64 0, .slice none 0 0, .slice none 0 0, .slice none 0 0, .slice ca cs.length cc, .slice da ds.length dc, .slice none 0 0, .slice none 0 0, .slice none 0 0] 41)).heap.size = w.heap.size + 1 := by simp
  rw [hz] at hb2
  have a0 := cell_at hb 0 (by simp)
  have a1 := cell_at hb 1 (by simp)
  have a2 := cell_at hb 2 (by simp)
  have a3 := cell_at hb 3 (by simp)
  have a4 := cell_at hb 4 (by simp)
  have a5 := cell_at hb 5 (by simp)
  have a6 := cell_at hb 6 (by simp)
  have a7 := cell_at hb 7 (by simp)
  have a8 := cell_at hb 8 (by simp)
  have a9 := cell_at hb 9 (by simp)
  have a10 := cell_at hb 10 (by simp)
  have a11 := cell_at hb 11 (by simp)
  have a12 := cell_at hb 12 (by simp)
  have a13 := cell_at hb 13 (by simp)
  have a14 := cell_at hb 14 (by simp)
  have a15 := cell_at hb 15 (by simp)
  have a16 := cell_at hb 16 (by simp)
  have a17 := cell_at hb 17 (by simp)
  have a18 := cell_at hb 18 (by simp)
  have a19 := cell_at hb 19 (by simp)
  simp only [Nat.zero_add, List.getElem_cons_zero, List.getElem_cons_succ] at a0 a1 a2 a3 a4 a5 a6 a7 a8 a9 a10 a11 a12 a13 a14 a15 a16 a17 a18 a19
  have b0 := cell_at hb2 0 (by simp)
  have b1 := cell_at hb2 1 (by simp)
  have b2 := cell_at hb2 2 (by simp)
  have b3 := cell_at hb2 3 (by simp)
  have b4 := cell_at hb2 4 (by simp)
  have b5 := cell_at hb2 5 (by simp)
  have b6 := cell_at hb2 6 (by simp)
  have b7 := cell_at hb2 7 (by simp)
  have b8 := cell_at hb2 8 (by simp)
  have b9 := cell_at hb2 9 (by simp)
  have b10 := cell_at hb2 10 (by simp)
  have b11 := cell_at hb2 11 (by simp)
  have b12 := cell_at hb2 12 (by simp)
  have b13 := cell_at hb2 13 (by simp)
  have b14 := cell_at hb2 14 (by simp)
  have b15 := cell_at hb2 15 (by simp)
  have b16 := cell_at hb2 16 (by simp)
  have b17 := cell_at hb2 17 (by simp)
  have b18 := cell_at hb2 18 (by simp)
  have b19 := cell_at hb2 19 (by simp)
  simp only [Nat.zero_add, List.getElem_cons_zero, List.getElem_cons_succ] at b0 b1 b2 b3 b4 b5 b6 b7 b8 b9 b10 b11 b12 b13 b14 b15 b16 b17 b18 b19
  replace a0 := hk2.cell a0
  replace a1 := hk2.cell a1
  replace a2 := hk2.cell a2
  replace a3 := hk2.cell a3
  replace a4 := hk2.cell a4
  replace a5 := hk2.cell a5
  replace a6 := hk2.cell a6
  replace a7 := hk2.cell a7
  replace a8 := hk2.cell a8
  replace a9 := hk2.cell a9
  replace a10 := hk2.cell a10
  replace a11 := hk2.cell a11
  replace a12 := hk2.cell a12
  replace a13 := hk2.cell a13
  replace a14 := hk2.cell a14
  replace a15 := hk2.cell a15
  replace a16 := hk2.cell a16
  replace a17 := hk2.cell a17
  replace a18 := hk2.cell a18
  replace a19 := hk2.cell a19
  have HK := hide (hk.trans hk2)
  have HM := hide hm
  have HM' := hide hm'
  have HD := hide h
  have HEQ := hide e
  clear hm hm' h e hb hk hb2 hk2 hz hbo
  go_enter Try.func6, Try.ntmps6
  go_wp2_with fail
  generalize (w.alloc (.cells #[.bool false, .slice none 0 0, .slice none 0 0, .int .i64 0, .int .i64 0, .int .i64 0, .int .i64 0, .int .i64 0, .slice none 0 0, .slice none 0 0, .slice none 0 0, .int .i64 0, .slice none 0 0, .slice none 0 0, .slice none 0 0, .slice ca cs.length cc, .slice da ds.length dc, .slice none 0 0, .slice none 0 0, .slice none 0 0] 41)).alloc (.cells #[.bool false, .slice none 0 0, .slice none 0 0, .int .i64 0, .int .i64 0, .int .i64 0, .int .i64 0, .int .i64 0, .slice none 0 0, .slice none 0 0, .slice none 0 0, .int .i64 0, .slice none 0 0, .slice none 0 0, .slice none 0 0, .slice ca2 cs2.length cc2, .slice da2 ds2.length dc2, .slice none 0 0, .slice none 0 0, .slice none 0 0] 41) = W0 at *
  refine (eqHub_0 W0).mono ?_
  rintro x w0 ⟨rfl, hkc⟩
  replace a0 := hkc.cell a0
  replace a1 := hkc.cell a1
  replace a2 := hkc.cell a2
  replace a3 := hkc.cell a3
  replace a4 := hkc.cell a4
  replace a5 := hkc.cell a5
  replace a6 := hkc.cell a6
  replace a7 := hkc.cell a7
  replace a8 := hkc.cell a8
  replace a9 := hkc.cell a9
  replace a10 := hkc.cell a10
  replace a11 := hkc.cell a11
  replace a12 := hkc.cell a12
  replace a13 := hkc.cell a13
  replace a14 := hkc.cell a14
  replace a15 := hkc.cell a15
  replace a16 := hkc.cell a16
  replace a17 := hkc.cell a17
  replace a18 := hkc.cell a18
  replace a19 := hkc.cell a19
  replace b0 := hkc.cell b0
  replace b1 := hkc.cell b1
  replace b2 := hkc.cell b2
  replace b3 := hkc.cell b3
  replace b4 := hkc.cell b4
  replace b5 := hkc.cell b5
  replace b6 := hkc.cell b6
  replace b7 := hkc.cell b7
  replace b8 := hkc.cell b8
  replace b9 := hkc.cell b9
  replace b10 := hkc.cell b10
  replace b11 := hkc.cell b11
  replace b12 := hkc.cell b12
  replace b13 := hkc.cell b13
  replace b14 := hkc.cell b14
  replace b15 := hkc.cell b15
  replace b16 := hkc.cell b16
  replace b17 := hkc.cell b17
  replace b18 := hkc.cell b18
  replace b19 := hkc.cell b19
  replace HK := hide (HK.out.trans hkc)
  clear hkc
  go_wp2_with fail
  refine (eqDisk' ca cc cs da dc ds ca2 cc2 cs2 da2 dc2 ds2 w0 HEQ.out (HM.out.kept HK.out) (HM'.out.kept HK.out) HD.out).mono ?_
  rintro x w1 ⟨rfl, hkc⟩
  replace a0 := hkc.cell a0
  replace a1 := hkc.cell a1
  replace a2 := hkc.cell a2
  replace a3 := hkc.cell a3
  replace a4 := hkc.cell a4
  replace a5 := hkc.cell a5
  replace a6 := hkc.cell a6
  replace a7 := hkc.cell a7
  replace a8 := hkc.cell a8
  replace a9 := hkc.cell a9
  replace a10 := hkc.cell a10
  replace a11 := hkc.cell a11
  replace a12 := hkc.cell a12
  replace a13 := hkc.cell a13
  replace a14 := hkc.cell a14
  replace a15 := hkc.cell a15
  replace a16 := hkc.cell a16
  replace a17 := hkc.cell a17
  replace a18 := hkc.cell a18
  replace a19 := hkc.cell a19
  replace b0 := hkc.cell b0
  replace b1 := hkc.cell b1
  replace b2 := hkc.cell b2
  replace b3 := hkc.cell b3
  replace b4 := hkc.cell b4
  replace b5 := hkc.cell b5
  replace b6 := hkc.cell b6
  replace b7 := hkc.cell b7
  replace b8 := hkc.cell b8
  replace b9 := hkc.cell b9
  replace b10 := hkc.cell b10
  replace b11 := hkc.cell b11
  replace b12 := hkc.cell b12
  replace b13 := hkc.cell b13
  replace b14 := hkc.cell b14
  replace b15 := hkc.cell b15
  replace b16 := hkc.cell b16
  replace b17 := hkc.cell b17
  replace b18 := hkc.cell b18
  replace b19 := hkc.cell b19
  replace HK := hide (HK.out.trans hkc)
  clear hkc
  go_wp2_with fail
  refine (eqEventS_0 w1).mono ?_
  rintro x w2 ⟨rfl, hkc⟩
  replace a0 := hkc.cell a0
  replace a1 := hkc.cell a1
  replace a2 := hkc.cell a2
  replace a3 := hkc.cell a3
  replace a4 := hkc.cell a4
  replace a5 := hkc.cell a5
  replace a6 := hkc.cell a6
  replace a7 := hkc.cell a7
  replace a8 := hkc.cell a8
  replace a9 := hkc.cell a9
  replace a10 := hkc.cell a10
  replace a11 := hkc.cell a11
  replace a12 := hkc.cell a12
  replace a13 := hkc.cell a13
  replace a14 := hkc.cell a14
  replace a15 := hkc.cell a15
  replace a16 := hkc.cell a16
  replace a17 := hkc.cell a17
  replace a18 := hkc.cell a18
  replace a19 := hkc.cell a19
  replace b0 := hkc.cell b0
  replace b1 := hkc.cell b1
  replace b2 := hkc.cell b2
  replace b3 := hkc.cell b3
  replace b4 := hkc.cell b4
  replace b5 := hkc.cell b5
  replace b6 := hkc.cell b6
  replace b7 := hkc.cell b7
  replace b8 := hkc.cell b8
  replace b9 := hkc.cell b9
  replace b10 := hkc.cell b10
  replace b11 := hkc.cell b11
  replace b12 := hkc.cell b12
  replace b13 := hkc.cell b13
  replace b14 := hkc.cell b14
  replace b15 := hkc.cell b15
  replace b16 := hkc.cell b16
  replace b17 := hkc.cell b17
  replace b18 := hkc.cell b18
  replace b19 := hkc.cell b19
  replace HK := hide (HK.out.trans hkc)
  clear hkc
  go_wp2_with fail
  refine (eqEventS_0 w2).mono ?_
  rintro x w3 ⟨rfl, hkc⟩
  replace a0 := hkc.cell a0
  replace a1 := hkc.cell a1
  replace a2 := hkc.cell a2
  replace a3 := hkc.cell a3
  replace a4 := hkc.cell a4
  replace a5 := hkc.cell a5
  replace a6 := hkc.cell a6
  replace a7 := hkc.cell a7
  replace a8 := hkc.cell a8
  replace a9 := hkc.cell a9
  replace a10 := hkc.cell a10
  replace a11 := hkc.cell a11
  replace a12 := hkc.cell a12
  replace a13 := hkc.cell a13
  replace a14 := hkc.cell a14
  replace a15 := hkc.cell a15
  replace a16 := hkc.cell a16
  replace a17 := hkc.cell a17
  replace a18 := hkc.cell a18
  replace a19 := hkc.cell a19
  replace b0 := hkc.cell b0
  replace b1 := hkc.cell b1
  replace b2 := hkc.cell b2
  replace b3 := hkc.cell b3
  replace b4 := hkc.cell b4
  replace b5 := hkc.cell b5
  replace b6 := hkc.cell b6
  replace b7 := hkc.cell b7
  replace b8 := hkc.cell b8
  replace b9 := hkc.cell b9
  replace b10 := hkc.cell b10
  replace b11 := hkc.cell b11
  replace b12 := hkc.cell b12
  replace b13 := hkc.cell b13
  replace b14 := hkc.cell b14
  replace b15 := hkc.cell b15
  replace b16 := hkc.cell b16
  replace b17 := hkc.cell b17
  replace b18 := hkc.cell b18
  replace b19 := hkc.cell b19
  replace HK := hide (HK.out.trans hkc)
  clear hkc
  go_wp2_with fail
  refine (eqIntS_0 w3).mono ?_
  rintro x w4 ⟨rfl, hkc⟩
  replace a0 := hkc.cell a0
  replace a1 := hkc.cell a1
  replace a2 := hkc.cell a2
  replace a3 := hkc.cell a3
  replace a4 := hkc.cell a4
  replace a5 := hkc.cell a5
  replace a6 := hkc.cell a6
  replace a7 := hkc.cell a7
  replace a8 := hkc.cell a8
  replace a9 := hkc.cell a9
  replace a10 := hkc.cell a10
  replace a11 := hkc.cell a11
  replace a12 := hkc.cell a12
  replace a13 := hkc.cell a13
  replace a14 := hkc.cell a14
  replace a15 := hkc.cell a15
  replace a16 := hkc.cell a16
  replace a17 := hkc.cell a17
  replace a18 := hkc.cell a18
  replace a19 := hkc.cell a19
  replace b0 := hkc.cell b0
  replace b1 := hkc.cell b1
  replace b2 := hkc.cell b2
  replace b3 := hkc.cell b3
  replace b4 := hkc.cell b4
  replace b5 := hkc.cell b5
  replace b6 := hkc.cell b6
  replace b7 := hkc.cell b7
  replace b8 := hkc.cell b8
  replace b9 := hkc.cell b9
  replace b10 := hkc.cell b10
  replace b11 := hkc.cell b11
  replace b12 := hkc.cell b12
  replace b13 := hkc.cell b13
  replace b14 := hkc.cell b14
  replace b15 := hkc.cell b15
  replace b16 := hkc.cell b16
  replace b17 := hkc.cell b17
  replace b18 := hkc.cell b18
  replace b19 := hkc.cell b19
  replace HK := hide (HK.out.trans hkc)
  clear hkc
  go_wp2_with fail
  go_ret
  exact ⟨rfl, HK.out⟩
set_option maxHeartbeats 8000000 in
theorem markWorld_d (ca : Option Addr) (cc : Nat) (cs : List Bs) (da : Option Addr) (dc : Nat) (ds : List Wr) (w : World) (ho : Own w (dsk ca cs da ds)) (h : DOk cs ds) :
    Calls Try.prog 7 #[wldV ca cs.length cc da ds.length dc, .int .i64 1] w fun e w' => e = .returned (.int .i64 ((1 + tot cs + ds.length + totW ds : Nat) : Int)) ∧ Own w' (dsk ca (markC 1 cs) da (markW (1 + tot cs) ds)) ∧ Turn (fp (dsk ca cs da ds)) w w' := by
  have hbo := born_alloc w #[.bool false, .slice none 0 0, .slice none 0 0, .int .i64 0, .int .i64 0, .int .i64 0, .int .i64 0, .int .i64 0, .slice none 0 0, .slice none 0 0, .slice none 0 0, .int .i64 0, .slice none 0 0, .slice none 0 0, .slice none 0 0, .slice ca cs.length cc, .slice da ds.length dc, .slice none 0 0, .slice none 0 0, .slice none 0 0] 41
  have hb := hbo.toOwn.mem
  dsimp only at hb
  have hk := Keeps.alloc (Keeps.refl w) (.cells #[.bool false, .slice none 0 0, .slice none 0 0, .int .i64 0, .int .i64 0, .int .i64 0, .int .i64 0, .int .i64 0, .slice none 0 0, .slice none 0 0, .slice none 0 0, .int .i64 0, .slice none 0 0, .slice none 0 0, .slice none 0 0, .slice ca cs.length cc, .slice da ds.length dc, .slice none 0 0, .slice none 0 0, .slice none 0 0] 41)
  have a0 := cell_at hb 0 (by simp)
  have a1 := cell_at hb 1 (by simp)
  have a2 := cell_at hb 2 (by simp)
  have a3 := cell_at hb 3 (by simp)
  have a4 := cell_at hb 4 (by simp)
  have a5 := cell_at hb 5 (by simp)
  have a6 := cell_at hb 6 (by simp)
  have a7 := cell_at hb 7 (by simp)
  have a8 := cell_at hb 8 (by simp)
  have a9 := cell_at hb 9 (by simp)
  have a10 := cell_at hb 10 (by simp)
  have a11 := cell_at hb 11 (by simp)
  have a12 := cell_at hb 12 (by simp)
  have a13 := cell_at hb 13 (by simp)
  have a14 := cell_at hb 14 (by simp)
  have a15 := cell_at hb 15 (by simp)
  have a16 := cell_at hb 16 (by simp)
  have a17 := cell_at hb 17 (by simp)
  have a18 := cell_at hb 18 (by simp)
  have a19 := cell_at hb 19 (by simp)
  simp only [Nat.zero_add, List.getElem_cons_zero, List.getElem_cons_succ] at a0 a1 a2 a3 a4 a5 a6 a7 a8 a9 a10 a11 a12 a13 a14 a15 a16 a17 a18 a19
  have HK := hide hk
  have HO := hide (ho.kept hk)
  have HAP := hide (hbo.apart ho.mem)
  have HAP2 := hide (hbo.apart' ho.mem)
  have HD := hide h
  have HBB := hide hbo.toOwn
  clear ho h hb hk hbo
  go_enter Try.func7, Try.ntmps7
  go_wp2_with fail
  generalize (w.alloc (.cells #[.bool false, .slice none 0 0, .slice none 0 0, .int .i64 0, .int .i64 0, .int .i64 0, .int .i64 0, .int .i64 0, .slice none 0 0, .slice none 0 0, .slice none 0 0, .int .i64 0, .slice none 0 0, .slice none 0 0, .slice none 0 0, .slice ca cs.length cc, .slice da ds.length dc, .slice none 0 0, .slice none 0 0, .slice none 0 0] 41)) = W0 at *
  refine (markHub_0 1 W0).mono ?_
  rintro x w0 ⟨rfl, hkc⟩
  replace a0 := hkc.cell a0
  replace a1 := hkc.cell a1
  replace a2 := hkc.cell a2
  replace a3 := hkc.cell a3
  replace a4 := hkc.cell a4
  replace a5 := hkc.cell a5
  replace a6 := hkc.cell a6
  replace a7 := hkc.cell a7
  replace a8 := hkc.cell a8
  replace a9 := hkc.cell a9
  replace a10 := hkc.cell a10
  replace a11 := hkc.cell a11
  replace a12 := hkc.cell a12
  replace a13 := hkc.cell a13
  replace a14 := hkc.cell a14
  replace a15 := hkc.cell a15
  replace a16 := hkc.cell a16
  replace a17 := hkc.cell a17
  replace a18 := hkc.cell a18
  replace a19 := hkc.cell a19
  replace HK := hide (HK.out.trans hkc)
  replace HO := hide (HO.out.kept hkc)
  replace HBB := hide (HBB.out.kept hkc)
  clear hkc
  go_wp2_with fail
  refine (markDisk' ca cc cs da dc ds w0 HO.out HD.out).mono ?_
  rintro x w1 ⟨rfl, ho, ht⟩
  generalize hq : ((1 + tot cs + ds.length + totW ds : Nat) : Int) = kk at *
  have HQ := hide hq
  clear hq
  have HTT := hide ((Turn.of_keeps HK.out (fp (dsk ca cs da ds))).trans' ht)
  have HOM := hide ho
  have hbx := (HBB.out.turn ht HAP2.out).mem
  clear HK HO ho ht a0 a1 a2 a3 a4 a5 a6 a7 a8 a9 a10 a11 a12 a13 a14 a15 a16 a17 a18 a19
  have a0 := cell_at hbx 0 (by simp)
  have a1 := cell_at hbx 1 (by simp)
  have a2 := cell_at hbx 2 (by simp)
  have a3 := cell_at hbx 3 (by simp)
  have a4 := cell_at hbx 4 (by simp)
  have a5 := cell_at hbx 5 (by simp)
  have a6 := cell_at hbx 6 (by simp)
  have a7 := cell_at hbx 7 (by simp)
  have a8 := cell_at hbx 8 (by simp)
  have a9 := cell_at hbx 9 (by simp)
  have a10 := cell_at hbx 10 (by simp)
  have a11 := cell_at hbx 11 (by simp)
  have a12 := cell_at hbx 12 (by simp)
  have a13 := cell_at hbx 13 (by simp)
  have a14 := cell_at hbx 14 (by simp)
  have a15 := cell_at hbx 15 (by simp)
  have a16 := cell_at hbx 16 (by simp)
  have a17 := cell_at hbx 17 (by simp)
  have a18 := cell_at hbx 18 (by simp)
  have a19 := cell_at hbx 19 (by simp)
  simp only [Nat.zero_add, List.getElem_cons_zero, List.getElem_cons_succ] at a0 a1 a2 a3 a4 a5 a6 a7 a8 a9 a10 a11 a12 a13 a14 a15 a16 a17 a18 a19
  clear hbx
  go_wp2_with fail
  refine (markEventS_0 kk w1).mono ?_
  rintro x w2 ⟨rfl, hkc⟩
  replace a0 := hkc.cell a0
  replace a1 := hkc.cell a1
  replace a2 := hkc.cell a2
  replace a3 := hkc.cell a3
  replace a4 := hkc.cell a4
  replace a5 := hkc.cell a5
  replace a6 := hkc.cell a6
  replace a7 := hkc.cell a7
  replace a8 := hkc.cell a8
  replace a9 := hkc.cell a9
  replace a10 := hkc.cell a10
  replace a11 := hkc.cell a11
  replace a12 := hkc.cell a12
  replace a13 := hkc.cell a13
  replace a14 := hkc.cell a14
  replace a15 := hkc.cell a15
  replace a16 := hkc.cell a16
  replace a17 := hkc.cell a17
  replace a18 := hkc.cell a18
  replace a19 := hkc.cell a19
  replace HTT := hide (HTT.out.trans' (Turn.of_keeps hkc _))
  replace HOM := hide (HOM.out.kept hkc)
  clear hkc
  go_wp2_with fail
  refine (markEventS_0 kk w2).mono ?_
  rintro x w3 ⟨rfl, hkc⟩
  replace a0 := hkc.cell a0
  replace a1 := hkc.cell a1
  replace a2 := hkc.cell a2
  replace a3 := hkc.cell a3
  replace a4 := hkc.cell a4
  replace a5 := hkc.cell a5
  replace a6 := hkc.cell a6
  replace a7 := hkc.cell a7
  replace a8 := hkc.cell a8
  replace a9 := hkc.cell a9
  replace a10 := hkc.cell a10
  replace a11 := hkc.cell a11
  replace a12 := hkc.cell a12
  replace a13 := hkc.cell a13
  replace a14 := hkc.cell a14
  replace a15 := hkc.cell a15
  replace a16 := hkc.cell a16
  replace a17 := hkc.cell a17
  replace a18 := hkc.cell a18
  replace a19 := hkc.cell a19
  replace HTT := hide (HTT.out.trans' (Turn.of_keeps hkc _))
  replace HOM := hide (HOM.out.kept hkc)
  clear hkc
  go_wp2_with fail
  refine (markIntS_0 kk w3).mono ?_
  rintro x w4 ⟨rfl, hkc⟩
  replace a0 := hkc.cell a0
  replace a1 := hkc.cell a1
  replace a2 := hkc.cell a2
  replace a3 := hkc.cell a3
  replace a4 := hkc.cell a4
  replace a5 := hkc.cell a5
  replace a6 := hkc.cell a6
  replace a7 := hkc.cell a7
  replace a8 := hkc.cell a8
  replace a9 := hkc.cell a9
  replace a10 := hkc.cell a10
  replace a11 := hkc.cell a11
  replace a12 := hkc.cell a12
  replace a13 := hkc.cell a13
  replace a14 := hkc.cell a14
  replace a15 := hkc.cell a15
  replace a16 := hkc.cell a16
  replace a17 := hkc.cell a17
  replace a18 := hkc.cell a18
  replace a19 := hkc.cell a19
  replace HTT := hide (HTT.out.trans' (Turn.of_keeps hkc _))
  replace HOM := hide (HOM.out.kept hkc)
  clear hkc
  go_wp2_with fail
  go_ret
  exact ⟨by rw [HQ.out]; rfl, HOM.out, HTT.out⟩
set_option maxHeartbeats 8000000 in
theorem heldWorld_d (ca : Option Addr) (cc : Nat) (cs : List Bs) (da : Option Addr) (dc : Nat) (ds : List Wr) (w : World) (hm : Mem w (dsk ca (markC 1 cs) da (markW (1 + tot cs) ds))) (h : DOk cs ds) :
    Calls Try.prog 8 #[wldV ca cs.length cc da ds.length dc, .int .i64 1] w fun e w' => e = .returned (.int .i64 ((1 + tot cs + ds.length + totW ds : Nat) : Int)) ∧ Keeps w w' := by
  have hbo := born_alloc w #[.bool false, .slice none 0 0, .slice none 0 0, .int .i64 0, .int .i64 0, .int .i64 0, .int .i64 0, .int .i64 0, .slice none 0 0, .slice none 0 0, .slice none 0 0, .int .i64 0, .slice none 0 0, .slice none 0 0, .slice none 0 0, .slice ca cs.length cc, .slice da ds.length dc, .slice none 0 0, .slice none 0 0, .slice none 0 0] 41
  have hb := hbo.toOwn.mem
  dsimp only at hb
  have hk := Keeps.alloc (Keeps.refl w) (.cells #[.bool false, .slice none 0 0, .slice none 0 0, .int .i64 0, .int .i64 0, .int .i64 0, .int .i64 0, .int .i64 0, .slice none 0 0, .slice none 0 0, .slice none 0 0, .int .i64 0, .slice none 0 0, .slice none 0 0, .slice none 0 0, .slice ca cs.length cc, .slice da ds.length dc, .slice none 0 0, .slice none 0 0, .slice none 0 0] 41)
  have a0 := cell_at hb 0 (by simp)
  have a1 := cell_at hb 1 (by simp)
  have a2 := cell_at hb 2 (by simp)
  have a3 := cell_at hb 3 (by simp)
  have a4 := cell_at hb 4 (by simp)
  have a5 := cell_at hb 5 (by simp)
  have a6 := cell_at hb 6 (by simp)
  have a7 := cell_at hb 7 (by simp)
  have a8 := cell_at hb 8 (by simp)
  have a9 := cell_at hb 9 (by simp)
  have a10 := cell_at hb 10 (by simp)
  have a11 := cell_at hb 11 (by simp)
  have a12 := cell_at hb 12 (by simp)
  have a13 := cell_at hb 13 (by simp)
  have a14 := cell_at hb 14 (by simp)
  have a15 := cell_at hb 15 (by simp)
  have a16 := cell_at hb 16 (by simp)
  have a17 := cell_at hb 17 (by simp)
  have a18 := cell_at hb 18 (by simp)
  have a19 := cell_at hb 19 (by simp)
  simp only [Nat.zero_add, List.getElem_cons_zero, List.getElem_cons_succ] at a0 a1 a2 a3 a4 a5 a6 a7 a8 a9 a10 a11 a12 a13 a14 a15 a16 a17 a18 a19
  have HK := hide hk
  have HM := hide hm
  have HD := hide h
  clear hm h hb hk hbo
  go_enter Try.func8, Try.ntmps8
  go_wp2_with fail
  generalize (w.alloc (.cells #[.bool false, .slice none 0 0, .slice none 0 0, .int .i64 0, .int .i64 0, .int .i64 0, .int .i64 0, .int .i64 0, .slice none 0 0, .slice none 0 0, .slice none 0 0, .int .i64 0, .slice none 0 0, .slice none 0 0, .slice none 0 0, .slice ca cs.length cc, .slice da ds.length dc, .slice none 0 0, .slice none 0 0, .slice none 0 0] 41)) = W0 at *
  refine (heldHub_0 1 (by decide) W0).mono ?_
  rintro x w0 ⟨rfl, hkc⟩
  replace a0 := hkc.cell a0
  replace a1 := hkc.cell a1
  replace a2 := hkc.cell a2
  replace a3 := hkc.cell a3
  replace a4 := hkc.cell a4
  replace a5 := hkc.cell a5
  replace a6 := hkc.cell a6
  replace a7 := hkc.cell a7
  replace a8 := hkc.cell a8
  replace a9 := hkc.cell a9
  replace a10 := hkc.cell a10
  replace a11 := hkc.cell a11
  replace a12 := hkc.cell a12
  replace a13 := hkc.cell a13
  replace a14 := hkc.cell a14
  replace a15 := hkc.cell a15
  replace a16 := hkc.cell a16
  replace a17 := hkc.cell a17
  replace a18 := hkc.cell a18
  replace a19 := hkc.cell a19
  replace HK := hide (HK.out.trans hkc)
  clear hkc
  go_wp2_with fail
  refine (heldDisk' ca cc cs da dc ds w0 (HM.out.kept HK.out) HD.out).mono ?_
  rintro x w1 ⟨rfl, hkc⟩
  have hkn : ¬ (((1 + tot cs + ds.length + totW ds : Nat) : Int) < 0) := by omega
  have hkk : 0 ≤ ((1 + tot cs + ds.length + totW ds : Nat) : Int) := by omega
  generalize hq : ((1 + tot cs + ds.length + totW ds : Nat) : Int) = kk at *
  have HQ := hide hq
  clear hq
  replace a0 := hkc.cell a0
  replace a1 := hkc.cell a1
  replace a2 := hkc.cell a2
  replace a3 := hkc.cell a3
  replace a4 := hkc.cell a4
  replace a5 := hkc.cell a5
  replace a6 := hkc.cell a6
  replace a7 := hkc.cell a7
  replace a8 := hkc.cell a8
  replace a9 := hkc.cell a9
  replace a10 := hkc.cell a10
  replace a11 := hkc.cell a11
  replace a12 := hkc.cell a12
  replace a13 := hkc.cell a13
  replace a14 := hkc.cell a14
  replace a15 := hkc.cell a15
  replace a16 := hkc.cell a16
  replace a17 := hkc.cell a17
  replace a18 := hkc.cell a18
  replace a19 := hkc.cell a19
  replace HK := hide (HK.out.trans hkc)
  clear hkc
  go_wp2_with fail
  refine (heldEventS_0 kk w1).mono ?_
  rintro x w2 ⟨rfl, hkc⟩
  replace a0 := hkc.cell a0
  replace a1 := hkc.cell a1
  replace a2 := hkc.cell a2
  replace a3 := hkc.cell a3
  replace a4 := hkc.cell a4
  replace a5 := hkc.cell a5
  replace a6 := hkc.cell a6
  replace a7 := hkc.cell a7
  replace a8 := hkc.cell a8
  replace a9 := hkc.cell a9
  replace a10 := hkc.cell a10
  replace a11 := hkc.cell a11
  replace a12 := hkc.cell a12
  replace a13 := hkc.cell a13
  replace a14 := hkc.cell a14
  replace a15 := hkc.cell a15
  replace a16 := hkc.cell a16
  replace a17 := hkc.cell a17
  replace a18 := hkc.cell a18
  replace a19 := hkc.cell a19
  replace HK := hide (HK.out.trans hkc)
  clear hkc
  go_wp2_with fail
  refine (heldEventS_0 kk w2).mono ?_
  rintro x w3 ⟨rfl, hkc⟩
  replace a0 := hkc.cell a0
  replace a1 := hkc.cell a1
  replace a2 := hkc.cell a2
  replace a3 := hkc.cell a3
  replace a4 := hkc.cell a4
  replace a5 := hkc.cell a5
  replace a6 := hkc.cell a6
  replace a7 := hkc.cell a7
  replace a8 := hkc.cell a8
  replace a9 := hkc.cell a9
  replace a10 := hkc.cell a10
  replace a11 := hkc.cell a11
  replace a12 := hkc.cell a12
  replace a13 := hkc.cell a13
  replace a14 := hkc.cell a14
  replace a15 := hkc.cell a15
  replace a16 := hkc.cell a16
  replace a17 := hkc.cell a17
  replace a18 := hkc.cell a18
  replace a19 := hkc.cell a19
  replace HK := hide (HK.out.trans hkc)
  clear hkc
  go_wp2_with fail
  refine (heldIntS_0 kk w3).mono ?_
  rintro x w4 ⟨rfl, hkc⟩
  replace a0 := hkc.cell a0
  replace a1 := hkc.cell a1
  replace a2 := hkc.cell a2
  replace a3 := hkc.cell a3
  replace a4 := hkc.cell a4
  replace a5 := hkc.cell a5
  replace a6 := hkc.cell a6
  replace a7 := hkc.cell a7
  replace a8 := hkc.cell a8
  replace a9 := hkc.cell a9
  replace a10 := hkc.cell a10
  replace a11 := hkc.cell a11
  replace a12 := hkc.cell a12
  replace a13 := hkc.cell a13
  replace a14 := hkc.cell a14
  replace a15 := hkc.cell a15
  replace a16 := hkc.cell a16
  replace a17 := hkc.cell a17
  replace a18 := hkc.cell a18
  replace a19 := hkc.cell a19
  replace HK := hide (HK.out.trans hkc)
  clear hkc
  go_wp2_with fail
  go_ret
  exact ⟨by rw [HQ.out]; rfl, HK.out⟩
end Go.Proofs.Ytkgpoghoilffhaa
