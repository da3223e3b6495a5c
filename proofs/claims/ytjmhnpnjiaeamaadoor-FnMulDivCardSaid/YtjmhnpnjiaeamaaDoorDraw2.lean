/- Contracts of the model's draws, more: l01Raw, l01Amt, l01Two, l01New, DrawFee, DrawMulDiv. -/
import Derived.Test.YtjmhnpnjiaeamaaDoorDraw
namespace Go.Proofs.YtjmhnpnjiaeamaaDoor
open Go.RowKit
set_option linter.unusedVariables false

set_option maxHeartbeats 2000000 in
theorem raw_any {B0 B : Nat} {a : Option Addr} {len cap : Nat} {w0 w : World} (s : St B0 B a len cap w0 w) :
    Calls Tryd.prog 31 #[.pointer (some ⟨B, 0, none⟩)] w fun e w' => IsInt e ∧ St B0 B a len cap w0 w' := by
  go_enter Tryd.func31, Tryd.ntmps31
  go_wp2_with fail
  refine (below_any 11 s (by omega) (by omega)).mono ?_
  rintro e w1 ⟨⟨k, k0, k1, rfl⟩, s1⟩
  clear s
  go_wp2_with (first | (go_at_call 30; refine (below_any _ s2 (by omega) (by omega)).mono ?_; rintro e w3 ⟨⟨y, y0, y1, rfl⟩, s3⟩) | (go_at_call 30; refine (below_any _ s1 (by omega) (by omega)).mono ?_; rintro e w2 ⟨⟨x, x0, x1, rfl⟩, s2⟩))
  all_goals
    go_ret
    first
      | exact ⟨isInt, s3⟩
      | exact ⟨isInt, s2⟩

set_option maxHeartbeats 2000000 in
theorem amt_any {B0 B : Nat} {a : Option Addr} {len cap : Nat} {w0 w : World} (s : St B0 B a len cap w0 w) :
    Calls Tryd.prog 36 #[.pointer (some ⟨B, 0, none⟩)] w fun e w' => IsInt e ∧ St B0 B a len cap w0 w' := by
  go_enter Tryd.func36, Tryd.ntmps36
  go_wp2_with fail
  refine (below_any 8 s (by omega) (by omega)).mono ?_
  rintro e w1 ⟨⟨k, k0, k1, rfl⟩, s1⟩
  clear s
  go_wp2_with (go_at_call 30; refine (below_any _ s1 (by omega) (by omega)).mono ?_; rintro e w2 ⟨⟨x, x0, x1, rfl⟩, s2⟩)
  all_goals
    go_ret
    exact ⟨isInt, s2⟩

/-- Two, three numbers of a draw. -/
def IsTwo (e : Ending) : Prop := ∃ x y : Int, e = .returned (.tuple #[.int .i64 x, .int .i64 y])
theorem isTwo {x y : Int} : IsTwo (.returned (.tuple #[.int .i64 x, .int .i64 y])) := ⟨x, y, rfl⟩
def IsThree (e : Ending) : Prop := ∃ x y z : Int, e = .returned (.tuple #[.int .i64 x, .int .i64 y, .int .i64 z])
theorem isThree {x y z : Int} : IsThree (.returned (.tuple #[.int .i64 x, .int .i64 y, .int .i64 z])) := ⟨x, y, z, rfl⟩

set_option maxHeartbeats 2000000 in
theorem two_any {B0 B : Nat} {a : Option Addr} {len cap : Nat} {w0 w : World} (s : St B0 B a len cap w0 w) :
    Calls Tryd.prog 29 #[.pointer (some ⟨B, 0, none⟩)] w fun e w' => IsTwo e ∧ St B0 B a len cap w0 w' := by
  go_enter Tryd.func29, Tryd.ntmps29
  go_wp2_with fail
  refine (amt_any s).mono ?_
  rintro e w1 ⟨⟨x, rfl⟩, s1⟩
  go_wp2_with fail
  refine (amt_any s1).mono ?_
  rintro e w2 ⟨⟨y, rfl⟩, s2⟩
  go_wp2_with fail
  refine (below_any 6 s2 (by omega) (by omega)).mono ?_
  rintro e w3 ⟨⟨k, k0, k1, rfl⟩, s3⟩
  clear s s1 s2
  by_cases h0 : k = 0
  · subst h0
    go_wp2_with (go_at_call 31; refine (raw_any s3).mono ?_; rintro e w4 ⟨⟨z, rfl⟩, s4⟩)
    go_ret2
    exact ⟨isTwo, s4⟩
  · have h0' : (k == 0) = false := beq_eq_false_iff_ne.2 h0
    by_cases h1 : k = 1
    · subst h1
      go_wp2_with (go_at_call 31; refine (raw_any s3).mono ?_; rintro e w4 ⟨⟨z, rfl⟩, s4⟩)
      go_ret2
      exact ⟨isTwo, s4⟩
    · have h1' : (k == 1) = false := beq_eq_false_iff_ne.2 h1
      clear h0 h1
      go_wp2_with fail
      go_ret2
      exact ⟨isTwo, s3⟩

/-- A pointer to a new cursor. -/
def IsCur (B : Nat) (e : Ending) : Prop := e = .returned (.pointer (some ⟨B, 0, none⟩))

theorem new_st {w : World} {a : Option Addr} {len cap : Nat} {h : Int} (hr : RowAt w.heap.size w a len) (hl : len ≤ 1048576) :
    St w.heap.size w.heap.size a len cap w (w.alloc (.cells #[.slice a len cap, .int .i64 0, .int .i64 h] 54)) := by
  have e := fun j => World.cell?_alloc_mark w #[.slice a len cap, .int .i64 0, .int .i64 h] 54 (0, 0) j
  have f : ∀ j, (w.alloc (.cells #[.slice a len cap, .int .i64 0, .int .i64 h] 54)).frozen? ⟨w.heap.size, j, none⟩ = false := by
    intro j
    rw [frozen?_alloc_cells]
    simp [World.frozen?]
  have hb : Below w.heap.size w (w.alloc (.cells #[.slice a len cap, .int .i64 0, .int .i64 h] 54)) := Below.alloc (Below.refl _ _) (Nat.le_refl _) _
  exact ⟨⟨Nat.le_refl _, 0, h, Nat.zero_le _, e 0, e 1, e 2, f 1, f 2⟩, hr.below hb, hb, hl⟩

set_option maxRecDepth 100000 in
set_option maxHeartbeats 2000000 in
theorem new_any (a : Option Addr) (len cap : Nat) (w : World) (hr : RowAt w.heap.size w a len) (hl : len ≤ 1048576) :
    Calls Tryd.prog 28 #[.slice a len cap] w fun e w' => IsCur w.heap.size e ∧ St w.heap.size w.heap.size a len cap w w' := by
  have HR := hide hr
  clear hr
  go_enter Tryd.func28, Tryd.ntmps28
  go_wp2_with fail
  go_loop [3, 4] (fun x y => ∃ (h : Int) (k : Nat), k ≤ len ∧ x = .int .i64 h ∧ y = .int .i64 (k : Int)) (fun _ y => len - (intOf y).toNat)
  case atStart => exact ⟨_, 0, Nat.zero_le _, rfl, rfl⟩
  case round =>
    obtain ⟨h, k, hk, rfl, rfl⟩ := hrel
    by_cases hlt : k < len
    · by_cases hm : k < 4000
      · obtain ⟨b, off, n, rfl, hb, n0, n1, hc⟩ := HR.out k hlt
        go_wp2_with fail
        go_round
        case rel => exact ⟨_, k + 1, by omega, rfl, by go_num⟩
        case measure => simp [intOf]; omega
      · go_wp2_with fail
        go_ret
        exact ⟨rfl, new_st HR.out hl⟩
    · go_wp2_with fail
      go_ret
      exact ⟨rfl, new_st HR.out hl⟩
end Go.Proofs.YtjmhnpnjiaeamaaDoor
