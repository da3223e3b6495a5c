/- What the laws do to see that answers own their memory: marks are written into lists of lines, and looked for. -/
import Derived.Test.YtecjjkgdgmjgmaaGlue3
namespace Go.Proofs.Ytecjjkgdgmjgmaa
open Go.RowKit
set_option linter.unusedVariables false
set_option linter.unusedSimpArgs false

/-- A list of m lines that may be written: its cells are there, and none is frozen. -/
def Room (w : World) (a : Option Addr) (m : Nat) : Prop := m = 0 ∨ ∃ g off, a = some ⟨g, off, none⟩ ∧ ∀ j, j < 3 * m → (∃ u, w.cell? ⟨g, off + j, none⟩ = some u) ∧ w.frozen? ⟨g, off + j, none⟩ = false
/-- The list bears the marks from n on. -/
def Marked (w : World) (a : Option Addr) (m : Nat) (n : Int) : Prop := m = 0 ∨ ∃ g off, a = some ⟨g, off, none⟩ ∧ ∀ j, j < 3 * m → w.cell? ⟨g, off + j, none⟩ = some (.int .i64 (n + j))
/-- Only the list's block has turned. -/
def Wrote (w w' : World) (a : Option Addr) : Prop := w.grownBy w' (a.map Addr.block)

theorem set3 {w : World} {g o : Nat} {u0 u1 u2 v0 v1 v2 : Value} (h0 : w.cell? ⟨g, o, none⟩ = some u0) (h1 : w.cell? ⟨g, o + 1, none⟩ = some u1) (h2 : w.cell? ⟨g, o + 2, none⟩ = some u2) (W : World)
    (hW : W = ((w.setCell ⟨g, o, none⟩ v0).setCell ⟨g, o + 1, none⟩ v1).setCell ⟨g, o + 2, none⟩ v2) :
    W.cell? ⟨g, o, none⟩ = some v0 ∧ W.cell? ⟨g, o + 1, none⟩ = some v1 ∧ W.cell? ⟨g, o + 2, none⟩ = some v2 ∧ (∀ j, j ≠ o → j ≠ o + 1 → j ≠ o + 2 → W.cell? ⟨g, j, none⟩ = w.cell? ⟨g, j, none⟩) ∧ (∀ p, W.frozen? p = w.frozen? p) ∧ w.grownBy W (some g) := by
  subst hW
  have d1 : (w.setCell ⟨g, o, none⟩ v0).cell? ⟨g, o + 1, none⟩ = some u1 := by rw [World.cell?_setCell_other _ _ _ _ (by simp)]; exact h1
  have d2 : ((w.setCell ⟨g, o, none⟩ v0).setCell ⟨g, o + 1, none⟩ v1).cell? ⟨g, o + 2, none⟩ = some u2 := by rw [World.cell?_setCell_other _ _ _ _ (by simp), World.cell?_setCell_other _ _ _ _ (by simp)]; exact h2
  refine ⟨?_, ?_, ?_, fun j j0 j1 j2 => ?_, fun p => by simp, ?_⟩
  · rw [World.cell?_setCell_other _ _ _ _ (by simp), World.cell?_setCell_other _ _ _ _ (by simp)]
    exact World.cell?_setCell_same _ _ _ h0
  · rw [World.cell?_setCell_other _ _ _ _ (by simp)]
    exact World.cell?_setCell_same _ _ _ d1
  · exact World.cell?_setCell_same _ _ _ d2
  · rw [World.cell?_setCell_other _ _ _ _ (by simp [j2]), World.cell?_setCell_other _ _ _ _ (by simp [j1]), World.cell?_setCell_other _ _ _ _ (by simp [j0])]
  · refine ⟨rfl, rfl, rfl, by simp [World.setCell], fun k hk hne => ?_⟩
    have hkg : k ≠ g := fun e => hne (by rw [e])
    rw [Deep.blk_setCell_other _ _ _ _ hkg, Deep.blk_setCell_other _ _ _ _ hkg, Deep.blk_setCell_other _ _ _ _ hkg]

set_option maxHeartbeats 4000000 in
theorem markLineS_k (a : Option Addr) (m cap : Nat) (n : Int) (w : World) (hr : Room w a m) (hm : m ≤ 1048576) (hn0 : 0 ≤ n) (hn1 : n ≤ 1000000000) :
    Calls Try.prog 60 #[.slice a m cap, .int .i64 n] w fun e w' => e = .returned (.int .i64 (n + 3 * m)) ∧ Marked w' a m n ∧ Wrote w w' a ∧ (∀ p, w'.frozen? p = w.frozen? p) := by
  by_cases h0 : m = 0
  · subst h0
    go_enter Try.func60, Try.ntmps60
    go_wp2_with fail
    refine wp_loop_rounds 1 ?_
    rw [rounds_succ]
    go_wp2_with fail
    go_ret
    exact ⟨by simp, Or.inl rfl, ⟨rfl, rfl, rfl, Nat.le_refl _, fun _ _ _ => rfl⟩, fun _ => rfl⟩
  · rcases hr with hr | ⟨g, off, rfl, hr⟩
    · exact absurd hr h0
    have HR := hide hr
    clear hr h0
    go_enter Try.func60, Try.ntmps60
    go_wp2_with fail
    go_loopw [1, 5] (fun x y wr => ∃ k : Nat, k ≤ m ∧ x = .int .i64 (n + 3 * k) ∧ y = .int .i64 (k : Int) ∧ Hid (∀ j, j < 3 * m → ∃ u, wr.cell? ⟨g, off + j, none⟩ = some u) ∧ Hid (∀ j, j < 3 * k → wr.cell? ⟨g, off + j, none⟩ = some (.int .i64 (n + j))) ∧ Hid (∀ p, wr.frozen? p = w.frozen? p) ∧ Hid (w.grownBy wr (some g))) (fun _ y _ => m - (intOf y).toNat)
    case atStart => exact ⟨0, by omega, by simp, rfl, fun j hj => (HR.out j hj).1, fun j hj => absurd hj (by omega), fun _ => rfl, ⟨rfl, rfl, rfl, Nat.le_refl _, fun _ _ _ => rfl⟩⟩
    case round =>
      obtain ⟨k, hk, rfl, rfl, HC, HM, HF, HG⟩ := hrel
      by_cases hlt : k < m
      · obtain ⟨u0, c0⟩ := HC.out (k * 3) (by omega)
        obtain ⟨u1, c1⟩ := HC.out (k * 3 + 1) (by omega)
        obtain ⟨u2, c2⟩ := HC.out (k * 3 + 2) (by omega)
        rw [← Nat.add_assoc] at c1 c2
        have f0 : wr.frozen? ⟨g, off + k * 3, none⟩ = false := by rw [HF.out]; exact (HR.out (k * 3) (by omega)).2
        have f1 : wr.frozen? ⟨g, off + k * 3 + 1, none⟩ = false := by rw [HF.out]; exact (HR.out (k * 3 + 1) (by omega)).2
        have f2 : wr.frozen? ⟨g, off + k * 3 + 2, none⟩ = false := by rw [HF.out]; exact (HR.out (k * 3 + 2) (by omega)).2
        have HS := hide (fun W hW => set3 (v0 := .int .i64 (n + 3 * k)) (v1 := .int .i64 (n + 3 * k + 1)) (v2 := .int .i64 (n + 3 * k + 1 + 1)) c0 c1 c2 W hW)
        go_wp2_with fail
        go_roundw
        case rel =>
          obtain ⟨s0, s1, s2, so, sf, sg⟩ := HS.out _ rfl
          refine ⟨k + 1, by omega, by congr 1; omega, by go_num, ?_, ?_, ?_, HG.out.trans sg⟩
          · intro j hj
            by_cases e0 : j = k * 3
            · subst e0; exact ⟨_, s0⟩
            · by_cases e1 : j = k * 3 + 1
              · subst e1; exact ⟨_, by rw [← Nat.add_assoc]; exact s1⟩
              · by_cases e2 : j = k * 3 + 2
                · subst e2; exact ⟨_, by rw [← Nat.add_assoc]; exact s2⟩
                · rw [so (off + j) (by omega) (by omega) (by omega)]
                  exact HC.out j hj
          · intro j hj
            by_cases e0 : j = k * 3
            · subst e0; rw [s0]; congr 2; omega
            · by_cases e1 : j = k * 3 + 1
              · subst e1; rw [← Nat.add_assoc, s1]; congr 2; omega
              · by_cases e2 : j = k * 3 + 2
                · subst e2; rw [← Nat.add_assoc, s2]; congr 2; omega
                · rw [so (off + j) (by omega) (by omega) (by omega)]
                  exact HM.out j (by omega)
          · intro p
            rw [sf]; exact HF.out p
        case measure => simp [intOf]; omega
      · have e : k = m := by omega
        subst e
        go_wp2_with fail
        go_ret
        exact ⟨rfl, Or.inr ⟨g, off, rfl, HM.out⟩, HG.out, HF.out⟩

set_option maxHeartbeats 4000000 in
theorem heldLineS_k (a : Option Addr) (m cap : Nat) (n : Int) (w : World) (hr : Marked w a m n) (hm : m ≤ 1048576) (hn0 : 0 ≤ n) (hn1 : n ≤ 1000000000) :
    Calls Try.prog 61 #[.slice a m cap, .int .i64 n] w fun e w' => e = .returned (.int .i64 (n + 3 * m)) ∧ w' = w := by
  by_cases h0 : m = 0
  · subst h0
    go_enter Try.func61, Try.ntmps61
    go_wp2_with fail
    refine wp_loop_rounds 1 ?_
    rw [rounds_succ]
    go_wp2_with fail
    go_ret
    exact ⟨by simp, rfl⟩
  · rcases hr with hr | ⟨g, off, rfl, hr⟩
    · exact absurd hr h0
    have HR := hide hr
    clear hr h0
    go_enter Try.func61, Try.ntmps61
    go_wp2_with fail
    go_loop [1, 5] (fun x y => ∃ k : Nat, k ≤ m ∧ x = .int .i64 (n + 3 * k) ∧ y = .int .i64 (k : Int)) (fun _ y => m - (intOf y).toNat)
    case atStart => exact ⟨0, by omega, by simp, rfl⟩
    case round =>
      obtain ⟨k, hk, rfl, rfl⟩ := hrel
      by_cases hlt : k < m
      · have c0 := HR.out (k * 3) (by omega)
        have c1 := HR.out (k * 3 + 1) (by omega)
        have c2 := HR.out (k * 3 + 2) (by omega)
        rw [← Nat.add_assoc] at c1 c2
        rw [show n + ((k * 3 : Nat) : Int) = n + 3 * k by omega] at c0
        rw [show n + ((k * 3 + 1 : Nat) : Int) = n + 3 * k + 1 by omega] at c1
        rw [show n + ((k * 3 + 2 : Nat) : Int) = n + 3 * k + 1 + 1 by omega] at c2
        go_wp2_with fail
        go_round
        case rel => exact ⟨k + 1, by omega, by congr 1; omega, by go_num⟩
        case measure => simp [intOf]; omega
      · have e : k = m := by omega
        subst e
        go_wp2_with fail
        go_ret
        exact ⟨rfl, rfl⟩
end Go.Proofs.Ytecjjkgdgmjgmaa
