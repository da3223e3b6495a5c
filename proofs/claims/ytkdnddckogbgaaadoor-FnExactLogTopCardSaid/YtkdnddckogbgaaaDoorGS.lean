/- GetNum of the model. -/
import Derived.Test.YtkdnddckogbgaaaDoorGT
namespace Go.Proofs.YtkdnddckogbgaaaDoor
open Go.RowKit Go.Deep
set_option linter.unusedVariables false
set_option maxRecDepth 10000
set_option maxHeartbeats 4000000 in
theorem getspec_no (a : Option Addr) (L : List UInt8) (cap : Nat) (p s : Int) (w : World) (hl : L.length ≤ 16777216) (h : s < 1 ∨ 7 < s ∨ p < 0 ∨ (L.length : Int) - s < p) :
    Calls Tryd.prog 44 #[.slice a L.length cap, .int .i64 p, .int .i64 s] w fun e w' => e = .returned (.tuple #[.int .i64 0, .bool false]) ∧ w' = w := by
  by_cases h1 : s < 1
  · have d1 : decide (s < 1) = true := decide_eq_true h1
    clear h
    go_enter Tryd.func44, Tryd.ntmps44
    go_wp2_with fail
    go_ret2
    exact ⟨rfl, rfl⟩
  · have d1 : decide (s < 1) = false := decide_eq_false h1
    by_cases h2 : 7 < s
    · have d2 : decide (7 < s) = true := decide_eq_true h2
      clear h
      go_enter Tryd.func44, Tryd.ntmps44
      go_wp2_with fail
      go_ret2
      exact ⟨rfl, rfl⟩
    · have d2 : decide (7 < s) = false := decide_eq_false h2
      by_cases h3 : p < 0
      · have d3 : decide (p < 0) = true := decide_eq_true h3
        clear h
        go_enter Tryd.func44, Tryd.ntmps44
        go_wp2_with fail
        go_ret2
        exact ⟨rfl, rfl⟩
      · have d3 : decide (p < 0) = false := decide_eq_false h3
        have d4 : decide ((L.length : Int) - s < p) = true := decide_eq_true (by omega)
        have h4 : (L.length : Int) - s < p := by omega
        have hwr : IntKind.i64.wrap ((L.length : Int) - s) = (L.length : Int) - s := by rw [IntKind.wrap_i64]; omega
        clear h
        go_enter Tryd.func44, Tryd.ntmps44
        go_wp2_with fail
        go_ret2
        exact ⟨rfl, rfl⟩
set_option maxHeartbeats 4000000 in
theorem getspec_yes (b off : Nat) (L : List UInt8) (cap p s : Nat) (w : World) (hc : Cells w (some ⟨b, off, none⟩) (bys L)) (hl : L.length ≤ 16777216) (hs1 : 1 ≤ s) (hs2 : s ≤ 7) (h : p + s ≤ L.length) :
    Calls Tryd.prog 44 #[.slice (some ⟨b, off, none⟩) L.length cap, .int .i64 (p : Int), .int .i64 (s : Int)] w fun e w' => e = .returned (.tuple #[.int .i64 ((numL ((L.drop p).take s) : Nat) : Int), .bool true]) ∧ w' = w := by
  have d1 : decide ((s : Int) < 1) = false := decide_eq_false (by omega)
  have d2 : decide (7 < (s : Int)) = false := decide_eq_false (by omega)
  have d3 : decide ((p : Int) < 0) = false := decide_eq_false (by omega)
  have hwr : IntKind.i64.wrap ((L.length : Int) - (s : Int)) = (L.length : Int) - s := by rw [IntKind.wrap_i64]; omega
  have d4 : decide ((L.length : Int) - (s : Int) < (p : Int)) = false := decide_eq_false (by omega)
  have HC : Hid (∀ k, k < s → w.cell? ⟨b, off + p + k, none⟩ = some (.int .u8 ((L.getD (p + k) 0).toNat : Int))) := by
    intro k hk
    obtain ⟨b', off', e, hcell⟩ := bys_at hc (p + k) (by omega)
    have e' := Option.some.inj e
    injection e' with e1 e2
    subst e1 e2
    rw [← Nat.add_assoc] at hcell
    have : L.getD (p + k) 0 = L[p + k]'(by omega) := by rw [List.getD_eq_getElem?_getD, List.getElem?_eq_getElem (by omega)]; rfl
    rw [this]
    simpa using hcell
  clear hc
  go_enter Tryd.func44, Tryd.ntmps44
  go_wp2_with fail
  go_loop [8, 9] (fun x y => ∃ k : Nat, k ≤ s ∧ x = .int .i64 ((numL ((L.drop p).take k) : Nat) : Int) ∧ y = .int .i64 (k : Int)) (fun _ y => s - (intOf y).toNat)
  case atStart => exact ⟨0, by omega, by simp [numL], rfl⟩
  case round =>
    obtain ⟨k, hk, rfl, rfl⟩ := hrel
    by_cases hlt : k < s
    · have c0 := HC.out k hlt
      have hb0 := byte_nn (L.getD (p + k) 0)
      have hb1 := byte_lt (L.getD (p + k) 0)
      have HN : Hid (numL ((L.drop p).take (k + 1)) = numL ((L.drop p).take k) * 256 + (L.getD (p + k) 0).toNat) := by
        show _ = _
        have hd : k < (L.drop p).length := by rw [List.length_drop]; omega
        rw [List.take_succ_eq_append_getElem hd, numL_snoc]
        congr 2
        rw [List.getElem_drop, List.getD_eq_getElem?_getD, List.getElem?_eq_getElem (by omega)]; rfl
      have hlt2 : numL ((L.drop p).take k) < 281474976710656 := by
        refine Nat.lt_of_lt_of_le (numL_lt _) ?_
        refine Nat.le_trans (Nat.pow_le_pow_right (by decide) (show ((L.drop p).take k).length ≤ 6 by rw [List.length_take]; omega)) (by decide)
      generalize L.getD (p + k) 0 = x at *
      generalize numL ((L.drop p).take k) = m at *
      have hix : IntKind.i64.wrap ((p : Int) + (k : Int)) = (p : Int) + k := by rw [IntKind.wrap_i64]; omega
      have hi1 : (p : Int) + (k : Int) < (L.length : Int) := by omega
      have hi0 : (0 : Int) ≤ (p : Int) + (k : Int) := by omega
      have hm1 : IntKind.i64.wrap ((m : Int) * 256) = (m : Int) * 256 := by rw [IntKind.wrap_i64]; omega
      have hm2 : IntKind.i64.wrap ((m : Int) * 256 + (x.toNat : Int)) = (m : Int) * 256 + (x.toNat : Int) := by rw [IntKind.wrap_i64]; omega
      have hat : off + ((p : Int) + (k : Int)).toNat = off + p + k := by omega
      go_wp2_with fail
      go_round
      case rel => exact ⟨k + 1, by omega, by rw [HN.out]; go_num, by go_num⟩
      case measure => simp [intOf]; omega
    · have e : k = s := by omega
      subst e
      go_wp2_with fail
      go_ret2
      exact ⟨rfl, rfl⟩
end Go.Proofs.YtkdnddckogbgaaaDoor
