/- Marks in a sector that are held. -/
import Derived.Test.YtmjgddgpoecpmaaDoorSec
namespace Go.Proofs.YtmjgddgpoecpmaaDoor
open Go.RowKit Go.Deep
set_option linter.unusedVariables false
theorem heldSector_k (q e : Int) (a : Option Addr) (cap : Nat) (m : Nat) (n : Nat) (w : World) (hc : Cells w a (bys (marksB n m))) (hl : m ≤ 16777216) (hn : n ≤ 1000000000000) :
    Calls Tryd.prog 25 #[secV q e a m cap, .int .i64 (n : Int)] w fun x w' => x = .returned (.int .i64 ((n + m : Nat) : Int)) ∧ Keeps w w' := by
  have HKA := hide (Keeps.alloc (Keeps.refl w) (.cells #[.int .i64 q, .int .i64 e, .slice a m cap] 24))
  have HM := hide (heldByteS_k a cap m n _ (hc.kept HKA.out) hl hn)
  clear hc
  go_enter Tryd.func25, Tryd.ntmps25
  go_wp2_with fail
  refine (unhide HM).mono ?_
  rintro x w1 ⟨rfl, hw⟩
  subst hw
  go_wp2_with fail
  go_ret
  exact ⟨rfl, HKA.out⟩
end Go.Proofs.YtmjgddgpoecpmaaDoor
