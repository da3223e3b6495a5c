/- What moves cost: the program and the model. -/
import Derived.Test.YtjdbedlgkngdkaaPn
import Derived.Test.YtjdbedlgkngdkaaMvG
import Derived.Test.YtjdbedlgkngdkaaBkA
import Derived.Deep.Cut
namespace Go.Proofs.Ytjdbedlgkngdkaa
open Go.RowKit Go.Deep
set_option linter.unusedVariables false
set_option linter.unusedSimpArgs false
set_option maxRecDepth 10000

def cmTo (L : List Mov) (k : Nat) : Int := ((L.take k).map fun m => m.am * m.pp).sum
theorem cmTo_step {L : List Mov} {k : Nat} (hk : k < L.length) : cmTo L (k + 1) = cmTo L k + L[k].am * L[k].pp := sum_take_succ (fun m : Mov => m.am * m.pp) L k hk
theorem moveB_yes {m : Mov} (h0 : 1 ≤ m.am) (h1 : m.am ≤ 1000000000) (h2 : 0 ≤ m.pp) (h3 : m.pp ≤ 1000000) : moveB m = true := by simp [moveB, ppmB]; omega
theorem cm_bound {L : List Mov} : ∀ {k : Nat}, (∀ j (hj : j < L.length), j < k → moveB L[j] = true) → k ≤ L.length → 0 ≤ cmTo L k ∧ cmTo L k ≤ 1000000000000000 * (k : Int)
  | 0, _, _ => by simp [cmTo]
  | k + 1, hb, hk => by
    have h := cm_bound (k := k) (fun j hj h => hb j hj (by omega)) (by omega)
    obtain ⟨m0, m1, m2, m3⟩ := moveB_true (hb k (by omega) (by omega))
    have := mul_small (show 0 ≤ L[k].am by omega) m1 m2 m3
    rw [cmTo_step (by omega)]
    simp only [Int.natCast_add]
    omega
theorem rowc4 (w : World) (v0 v1 v2 v3 : Value) (t : TypeId) : ∀ w', Keeps (w.alloc (.cells #[v0, v1, v2, v3] t)) w' → w'.cell? ⟨w.heap.size, 0, none⟩ = some v0 ∧ w'.cell? ⟨w.heap.size, 1, none⟩ = some v1 ∧ w'.cell? ⟨w.heap.size, 2, none⟩ = some v2 ∧ w'.cell? ⟨w.heap.size, 3, none⟩ = some v3 := by
  intro w' hk
  have hB : (w.alloc (.cells #[v0, v1, v2, v3] t)).heap[w.heap.size]? = some (.cells #[v0, v1, v2, v3] t (0, 0)) := blk_alloc_new w _
  revert hB hk
  generalize w.alloc (.cells #[v0, v1, v2, v3] t) = W
  intro hk hB
  refine ⟨?_, ?_, ?_, ?_⟩ <;> (refine hk.cell ?_; simp [World.cell?, hB])
set_option maxHeartbeats 4000000 in
theorem mcost_spec (a : Option Addr) (cap : Nat) (L : List Mov) (w : World) (hc : Cells w a (mvs L)) (hl : L.length ≤ 1048576) :
    Calls Try.prog 14 #[.slice a L.length cap] w fun e w' => e = .returned (.int .i64 (costM L)) ∧ Keeps w w' := by
  have HC := hide (fun w' (hk : Keeps w w') => hc.kept hk)
  clear hc
  go_enter Try.func14, Try.ntmps14
  go_wp2_with fail
  go_loopw [3, 8] (fun s y wr => ∃ k : Nat, k ≤ L.length ∧ s = .int .i64 (cmTo L k) ∧ y = .int .i64 (k : Int) ∧ Hid (∀ j (hj : j < L.length), j < k → moveB L[j] = true) ∧ Hid (Keeps w wr) ∧ Hid (0 < k → L.length ≤ 20)) (fun _ y _ => L.length - (intOf y).toNat)
  case atStart => exact ⟨0, by omega, by simp [cmTo], rfl, fun j hj h => absurd h (by omega), Keeps.refl _, fun h => absurd h (by omega)⟩
  case round =>
    obtain ⟨k, hk, rfl, rfl, HG, HKr, H20⟩ := hrel
    by_cases hlt : k < L.length
    · obtain ⟨b, off, ea, c0, c1, c2, c3⟩ := mvs_at (unhide HC _ HKr.out) k hlt
      subst ea
      have HST := hide (cmTo_step hlt)
      have HSB := hide (cm_bound HG.out hk)
      have HNO : Hid (moveB L[k] = false → costM L = 0) := fun h => costM_no hlt h
      have HY : Hid (moveB L[k] = true → ∀ j (hj : j < L.length), j < k + 1 → moveB L[j] = true) := fun h j hj h' => by
        by_cases e : j = k
        · subst e; exact h
        · exact HG.out j hj (by omega)
      generalize L[k] = x at *
      obtain ⟨xfr, xto, xam, xpp⟩ := x
      dsimp only at c0 c1 c2 c3 HST
      have HKA := hide (HKr.out.trans (Keeps.alloc (Keeps.refl wr) (.cells #[.int .i64 xfr, .int .i64 xto, .int .i64 xam, .int .i64 xpp] 71)))
      have HA := hide (rowc4 wr (.int .i64 xfr) (.int .i64 xto) (.int .i64 xam) (.int .i64 xpp) 71)
      skip
      by_cases h1 : xam < 1
      · have HR := hide (HNO.out (moveB_no (Or.inl h1)))
        go_wp2_with fail
        go_ret
        exact ⟨ret_i HR.out.symm, HKA.out⟩
      by_cases h2 : 1000000000 < xam
      · have HR := hide (HNO.out (moveB_no (Or.inr (Or.inl h2))))
        go_wp2_with fail
        go_ret
        exact ⟨ret_i HR.out.symm, HKA.out⟩
      by_cases h3 : xpp < 0
      · have HR := hide (HNO.out (moveB_no (Or.inr (Or.inr (Or.inl h3)))))
        go_wp2_with fail
        go_ret
        exact ⟨ret_i HR.out.symm, HKA.out⟩
      by_cases h4 : 1000000 < xpp
      · have HR := hide (HNO.out (moveB_no (Or.inr (Or.inr (Or.inr h4)))))
        go_wp2_with fail
        go_ret
        exact ⟨ret_i HR.out.symm, HKA.out⟩
      by_cases h5 : 20 < L.length
      · have HR := hide (costM_len h5)
        go_wp2_with fail
        go_ret
        exact ⟨ret_i HR.out.symm, HKA.out⟩
      have p0 : 0 ≤ xpp := by omega
      have p1 : xpp ≤ 1000000 := by omega
      have HG2 := hide (HY.out (moveB_yes (show 1 ≤ xam by omega) (show xam ≤ 1000000000 by omega) p0 p1))
      have hb2 := mul_small (show 0 ≤ xam by omega) (show xam ≤ 1000000000 by omega) p0 p1
      have hb1 := HSB.out
      have hk20 : (k : Int) ≤ 20 := by omega
      generalize hs0 : cmTo L k = s0 at *
      have hw1 : IntKind.i64.wrap (xam * xpp) = xam * xpp := by rw [IntKind.wrap_i64]; omega
      have hw2 : IntKind.i64.wrap (s0 + xam * xpp) = cmTo L (k + 1) := by rw [HST.out, IntKind.wrap_i64]; omega
      have HS1 := hide HST.out
      have HKA5 := hide HKA.out
      first
        | (go_wp2_with fail
           go_roundw
           case rel => exact ⟨k + 1, by omega, (by first | rfl | (rw [HS1.out]) | (rw [hw2])), by go_num, HG2.out, HKA5.out, fun _ => by omega⟩
           case measure => simp [intOf]; omega)
        | (go_wp2_with fail
           trace_state
           sorry)
    · have e : k = L.length := by omega
      have HR : Hid (costM L = cmTo L k) := by
        show _ = _
        subst e
        rw [costM_yes (by by_cases h0 : 0 < L.length; exact H20.out h0; omega) (fun j hj => HG.out j hj hj)]
        simp [cmTo]
      go_wp2_with fail
      go_ret
      exact ⟨ret_i HR.out.symm, HKr.out⟩
set_option maxHeartbeats 4000000 in
theorem mcost_impl (a : Option Addr) (cap : Nat) (L : List Mov) (w : World) (hc : Cells w a (mvs L)) (hl : L.length ≤ 1048576) :
    Calls Try.prog 16 #[.slice a L.length cap] w fun e w' => e = .returned (.int .i64 (costM L)) ∧ Keeps w w' := by
  have HC := hide (fun w' (hk : Keeps w w') => hc.kept hk)
  clear hc
  by_cases h20 : 20 < L.length
  · have HR := hide (costM_len h20)
    go_enter Try.func16, Try.ntmps16
    go_wp2_with fail
    go_ret
    exact ⟨ret_i HR.out.symm, Keeps.refl _⟩
  go_enter Try.func16, Try.ntmps16
  go_wp2_with fail
  go_loopw [3, 11] (fun s y wr => ∃ k : Nat, k ≤ L.length ∧ s = .int .i64 (cmTo L k) ∧ y = .int .i64 (k : Int) ∧ Hid (∀ j (hj : j < L.length), j < k → moveB L[j] = true) ∧ Hid (Keeps w wr)) (fun _ y _ => L.length - (intOf y).toNat)
  case atStart => exact ⟨0, by omega, by simp [cmTo], rfl, fun j hj h => absurd h (by omega), Keeps.refl _⟩
  case round =>
    obtain ⟨k, hk, rfl, rfl, HG, HKr⟩ := hrel
    by_cases hlt : k < L.length
    · obtain ⟨b, off, ea, c0, c1, c2, c3⟩ := mvs_at (unhide HC _ HKr.out) k hlt
      subst ea
      have HST := hide (cmTo_step hlt)
      have HSB := hide (cm_bound HG.out hk)
      have HNO : Hid (moveB L[k] = false → costM L = 0) := fun h => costM_no hlt h
      have HY : Hid (moveB L[k] = true → ∀ j (hj : j < L.length), j < k + 1 → moveB L[j] = true) := fun h j hj h' => by
        by_cases e : j = k
        · subst e; exact h
        · exact HG.out j hj (by omega)
      generalize L[k] = x at *
      obtain ⟨xfr, xto, xam, xpp⟩ := x
      dsimp only at c0 c1 c2 c3 HST
      have HKA := hide (HKr.out.trans (Keeps.alloc (Keeps.refl wr) (.cells #[.int .i64 xfr, .int .i64 xto, .int .i64 xam, .int .i64 xpp] 71)))
      have HA := hide (rowc4 wr (.int .i64 xfr) (.int .i64 xto) (.int .i64 xam) (.int .i64 xpp) 71)
      have HP := hide (fun w1 => ppm_impl xpp w1)
      by_cases h1 : xam < 1
      · have HR := hide (HNO.out (moveB_no (Or.inl h1)))
        go_wp2_with fail
        go_ret
        exact ⟨ret_i HR.out.symm, HKA.out⟩
      by_cases h2 : 1000000000 < xam
      · have HR := hide (HNO.out (moveB_no (Or.inr (Or.inl h2))))
        go_wp2_with fail
        go_ret
        exact ⟨ret_i HR.out.symm, HKA.out⟩
      cases h3 : ppmB xpp
      · have hx : xpp < 0 ∨ 1000000 < xpp := by simp [ppmB] at h3; omega
        have HR := hide (HNO.out (moveB_no (Or.inr (Or.inr hx))))
        clear hx
        go_wp2_with fail
        refine (unhide HP _).mono ?_
        rintro e w5 ⟨rfl, hk5⟩
        rw [h3]
        go_wp2_with fail
        go_ret
        exact ⟨ret_i HR.out.symm, HKA.out.trans hk5⟩
      obtain ⟨p0, p1⟩ : 0 ≤ xpp ∧ xpp ≤ 1000000 := by simp [ppmB] at h3; omega
      have HG2 := hide (HY.out (moveB_yes (show 1 ≤ xam by omega) (show xam ≤ 1000000000 by omega) p0 p1))
      have hb2 := mul_small (show 0 ≤ xam by omega) (show xam ≤ 1000000000 by omega) p0 p1
      have hb1 := HSB.out
      have hk20 : (k : Int) ≤ 20 := by omega
      generalize hs0 : cmTo L k = s0 at *
      have hw1 : IntKind.i64.wrap (xam * xpp) = xam * xpp := by rw [IntKind.wrap_i64]; omega
      have hw2 : IntKind.i64.wrap (s0 + xam * xpp) = cmTo L (k + 1) := by rw [HST.out, IntKind.wrap_i64]; omega
      have HS1 := hide HST.out
      go_wp2_with fail
      refine (unhide HP _).mono ?_
      rintro e w5 ⟨rfl, hk5⟩
      rw [h3]
      have HA5 := unhide HA w5 hk5
      obtain ⟨v0, v1, v2, v3⟩ := HA5
      have HKA5 := hide (HKA.out.trans hk5)
      clear hk5
      first
        | (go_wp2_with fail
           go_roundw
           case rel => exact ⟨k + 1, by omega, (by first | rfl | (rw [HS1.out]) | (rw [hw2])), by go_num, HG2.out, HKA5.out⟩
           case measure => simp [intOf]; omega)
        | (go_wp2_with fail
           trace_state
           sorry)
    · have e : k = L.length := by omega
      have HR : Hid (costM L = cmTo L k) := by
        show _ = _
        subst e
        rw [costM_yes (by omega) (fun j hj => HG.out j hj hj)]
        simp [cmTo]
      go_wp2_with fail
      go_ret
      exact ⟨ret_i HR.out.symm, HKr.out⟩
end Go.Proofs.Ytjdbedlgkngdkaa
