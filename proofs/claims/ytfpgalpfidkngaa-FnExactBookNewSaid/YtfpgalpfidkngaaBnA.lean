/- An empty book: its marks. -/
import Derived.Test.YtfpgalpfidkngaaBpA
import Derived.Test.YtfpgalpfidkngaaBgB
namespace Go.Proofs.Ytfpgalpfidkngaa
open Go.RowKit Go.Deep
set_option linter.unusedVariables false
set_option linter.unusedSimpArgs false
set_option maxRecDepth 10000

def bo0 : Bo := ⟨0, 1, 0, none, 0, [], none, 0, [], none, 0, []⟩
theorem bo0_mem (w : World) : Mem w bo0.segs := mem_cons.2 ⟨Or.inl rfl, mem_cons.2 ⟨Or.inl rfl, mem_cons.2 ⟨Or.inl rfl, Mem.nil _⟩⟩⟩
theorem bo0_len : bo0.len := ⟨Nat.zero_le _, Nat.zero_le _, Nat.zero_le _⟩
theorem markChan0 (n : Int) (w : World) : Calls Try.prog 39 #[.slice none 0 0, .int .i64 n] w fun e w' => e = .returned (.int .i64 n) ∧ w' = w := by
  go_enter Try.func39, Try.ntmps39
  go_wp2_with fail
  refine wp_loop_rounds 1 ?_
  rw [rounds_succ]
  go_wp2_with fail
  go_ret
  exact ⟨rfl, rfl⟩
theorem markHtlc0 (n : Int) (w : World) : Calls Try.prog 40 #[.slice none 0 0, .int .i64 n] w fun e w' => e = .returned (.int .i64 n) ∧ w' = w := by
  go_enter Try.func40, Try.ntmps40
  go_wp2_with fail
  refine wp_loop_rounds 1 ?_
  rw [rounds_succ]
  go_wp2_with fail
  go_ret
  exact ⟨rfl, rfl⟩
theorem markCircle0 (n : Int) (w : World) : Calls Try.prog 41 #[.slice none 0 0, .int .i64 n] w fun e w' => e = .returned (.int .i64 n) ∧ w' = w := by
  go_enter Try.func41, Try.ntmps41
  go_wp2_with fail
  refine wp_loop_rounds 1 ?_
  rw [rounds_succ]
  go_wp2_with fail
  go_ret
  exact ⟨rfl, rfl⟩
theorem heldChan0 (n : Int) (w : World) : Calls Try.prog 42 #[.slice none 0 0, .int .i64 n] w fun e w' => e = .returned (.int .i64 n) ∧ w' = w := by
  go_enter Try.func42, Try.ntmps42
  go_wp2_with fail
  refine wp_loop_rounds 1 ?_
  rw [rounds_succ]
  go_wp2_with fail
  go_ret
  exact ⟨rfl, rfl⟩
theorem heldHtlc0 (n : Int) (w : World) : Calls Try.prog 43 #[.slice none 0 0, .int .i64 n] w fun e w' => e = .returned (.int .i64 n) ∧ w' = w := by
  go_enter Try.func43, Try.ntmps43
  go_wp2_with fail
  refine wp_loop_rounds 1 ?_
  rw [rounds_succ]
  go_wp2_with fail
  go_ret
  exact ⟨rfl, rfl⟩
theorem heldCircle0 (n : Int) (w : World) : Calls Try.prog 44 #[.slice none 0 0, .int .i64 n] w fun e w' => e = .returned (.int .i64 n) ∧ w' = w := by
  go_enter Try.func44, Try.ntmps44
  go_wp2_with fail
  refine wp_loop_rounds 1 ?_
  rw [rounds_succ]
  go_wp2_with fail
  go_ret
  exact ⟨rfl, rfl⟩
set_option maxHeartbeats 1000000 in
theorem markBook0 (w : World) : Calls Try.prog 13 #[.agg #[.int .i64 0, .int .i64 1, .int .i64 0, .slice none 0 0, .slice none 0 0, .slice none 0 0], .int .i64 1] w fun e w' => e = .returned (.int .i64 1) ∧ Keeps w w' := by
  have HB := hide (rowc6 w (.int .i64 0) (.int .i64 1) (.int .i64 0) (.slice none 0 0) (.slice none 0 0) (.slice none 0 0) 33)
  have HK := hide (Keeps.alloc (Keeps.refl w) (.cells #[.int .i64 0, .int .i64 1, .int .i64 0, .slice none 0 0, .slice none 0 0, .slice none 0 0] 33))
  go_enter Try.func13, Try.ntmps13
  go_wp2_with fail
  generalize w.alloc (.cells #[.int .i64 0, .int .i64 1, .int .i64 0, .slice none 0 0, .slice none 0 0, .slice none 0 0] 33) = W0 at *
  obtain ⟨c0, c1, c2, c3, c4, c5⟩ := unhide HB W0 (Keeps.refl _)
  refine (markChan0 1 W0).mono ?_
  rintro e w1 ⟨rfl, hw⟩
  obtain rfl := Eq.symm hw
  clear hw
  go_wp2_with fail
  refine (markHtlc0 1 _).mono ?_
  rintro e w1 ⟨rfl, hw⟩
  obtain rfl := Eq.symm hw
  clear hw
  go_wp2_with fail
  refine (markCircle0 1 _).mono ?_
  rintro e w1 ⟨rfl, hw⟩
  obtain rfl := Eq.symm hw
  clear hw
  go_wp2_with fail
  go_ret
  exact ⟨rfl, HK.out⟩
set_option maxHeartbeats 1000000 in
theorem heldBook0 (w : World) : Calls Try.prog 14 #[.agg #[.int .i64 0, .int .i64 1, .int .i64 0, .slice none 0 0, .slice none 0 0, .slice none 0 0], .int .i64 1] w fun e w' => e = .returned (.int .i64 1) ∧ Keeps w w' := by
  have HB := hide (rowc6 w (.int .i64 0) (.int .i64 1) (.int .i64 0) (.slice none 0 0) (.slice none 0 0) (.slice none 0 0) 33)
  have HK := hide (Keeps.alloc (Keeps.refl w) (.cells #[.int .i64 0, .int .i64 1, .int .i64 0, .slice none 0 0, .slice none 0 0, .slice none 0 0] 33))
  go_enter Try.func14, Try.ntmps14
  go_wp2_with fail
  generalize w.alloc (.cells #[.int .i64 0, .int .i64 1, .int .i64 0, .slice none 0 0, .slice none 0 0, .slice none 0 0] 33) = W0 at *
  obtain ⟨c0, c1, c2, c3, c4, c5⟩ := unhide HB W0 (Keeps.refl _)
  refine (heldChan0 1 W0).mono ?_
  rintro e w1 ⟨rfl, hw⟩
  obtain rfl := Eq.symm hw
  clear hw
  go_wp2_with fail
  refine (heldHtlc0 1 _).mono ?_
  rintro e w1 ⟨rfl, hw⟩
  obtain rfl := Eq.symm hw
  clear hw
  go_wp2_with fail
  refine (heldCircle0 1 _).mono ?_
  rintro e w1 ⟨rfl, hw⟩
  obtain rfl := Eq.symm hw
  clear hw
  go_wp2_with fail
  go_ret
  exact ⟨rfl, HK.out⟩
end Go.Proofs.Ytfpgalpfidkngaa
