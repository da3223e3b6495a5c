/- The model's PostingOk and LedgerOk. -/
import Derived.Test.YtfbkhnbbcbccfaaGlue3
namespace Go.Proofs.Ytfbkhnbbcbccfaa
open Go.RowKit
set_option linter.unusedVariables false
/-- Is it a right posting? -/
def postB (id : Int) (L : List Ln) : Bool := decide (1 ≤ id) && decide (id ≤ 1125899906842624) && decide (2 ≤ L.length) && decide (L.length ≤ 8) && linesB L
/-- Is it a right ledger? -/
def ledgB (last : Int) (L : List Ln) : Bool := decide (0 ≤ last) && decide (last ≤ 1125899906842624) && decide (L.length ≤ 320) && linesB L
theorem ledger_spec (id : Int) (a : Option Addr) (cap : Nat) (L : List Ln) (w : World) (hc : Cells w a (flat L)) (hl : L.length ≤ 1048576) :
    Calls Try.prog 17 #[.agg #[.int .i64 id, .slice a L.length cap]] w fun e w' => e = .returned (.bool (ledgB id L)) ∧ Keeps w w' := by
  have HC := hide hc
  clear hc
  have HS := hide (fun w1 (hk : Keeps w w1) => lines_spec a cap L w1 (HC.out.kept hk) hl)
  go_enter Try.func17, Try.ntmps17
  go_wp2_with fail
  · refine (unhide HS _ (Keeps.alloc (Keeps.refl _) _)).mono ?_
    rintro e w1 ⟨rfl, hk⟩
    go_wp2_with fail
    go_ret
    exact ⟨ret_bool (by
      unfold ledgB
      rw [show decide (0 ≤ id) = true from decide_eq_true (by omega), show decide (id ≤ 1125899906842624) = true from decide_eq_true (by omega), show decide (L.length ≤ 320) = true from decide_eq_true (by omega)]
      rfl), (Keeps.alloc (Keeps.refl _) _).trans hk⟩
  all_goals (go_ret; exact ⟨ret_bool (by simp [ledgB]; intros; omega), Keeps.alloc (Keeps.refl _) _⟩)
end Go.Proofs.Ytfbkhnbbcbccfaa
