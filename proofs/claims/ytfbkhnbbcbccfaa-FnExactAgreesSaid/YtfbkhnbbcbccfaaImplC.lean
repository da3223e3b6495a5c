/- The program's PostingOk, LedgerOk, isOwned, Worth, Balance. -/
import Derived.Test.YtfbkhnbbcbccfaaImplB
namespace Go.Proofs.Ytfbkhnbbcbccfaa
open Go.RowKit
set_option linter.unusedVariables false
theorem impl_ledger (id : Int) (a : Option Addr) (cap : Nat) (L : List Ln) (w : World) (hc : Cells w a (flat L)) (hl : L.length ≤ 1048576) :
    Calls Try.prog 26 #[.agg #[.int .i64 id, .slice a L.length cap]] w fun e w' => e = .returned (.bool (ledgB id L)) ∧ Keeps w w' := by
  have HC := hide hc
  clear hc
  have HS := hide (fun w1 (hk : Keeps w w1) => impl_lines a cap L w1 (HC.out.kept hk) hl)
  have HA := hide (fun w1 => amtA_impl id w1)
  have HE : Hid (ledgB id L = (amtB id && decide (L.length ≤ 320) && linesB L)) := by show _ = _; simp [ledgB, amtB]
  cases hb : amtB id
  · rw [hb] at HA HE
    clear hb
    go_enter Try.func26, Try.ntmps26
    go_wp2_with fail
    refine (unhide HA _).mono ?_
    rintro e w1 ⟨rfl, rfl⟩
    go_wp2_with fail
    go_ret
    exact ⟨ret_bool (by rw [HE.out]; simp), Keeps.alloc (Keeps.refl _) _⟩
  · rw [hb] at HA HE
    clear hb
    by_cases h320 : L.length ≤ 320
    · rw [decide_eq_true h320] at HE
      go_enter Try.func26, Try.ntmps26
      go_wp2_with fail
      refine (unhide HA _).mono ?_
      rintro e w1 ⟨rfl, rfl⟩
      go_wp2_with fail
      refine (unhide HS _ (Keeps.alloc (Keeps.refl _) _)).mono ?_
      rintro e w1 ⟨rfl, hk⟩
      go_wp2_with fail
      go_ret
      exact ⟨ret_bool (by rw [HE.out]; simp), (Keeps.alloc (Keeps.refl _) _).trans hk⟩
    · rw [decide_eq_false h320] at HE
      go_enter Try.func26, Try.ntmps26
      go_wp2_with fail
      refine (unhide HA _).mono ?_
      rintro e w1 ⟨rfl, rfl⟩
      go_wp2_with fail
      go_ret
      exact ⟨ret_bool (by rw [HE.out]; simp), Keeps.alloc (Keeps.refl _) _⟩
end Go.Proofs.Ytfbkhnbbcbccfaa
