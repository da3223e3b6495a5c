/- What the laws do with cells and writes, one at a time. -/
import Derived.Test.YtkgpoghoilffhaaSec
import Derived.Test.YtkgpoghoilffhaaLst
namespace Go.Proofs.Ytkgpoghoilffhaa
open Go.RowKit Go.Deep
set_option linter.unusedVariables false
set_option maxRecDepth 10000

theorem eqCell_k (a a' : Option Addr) (cap cap' : Nat) (L : List UInt8) (w : World) (hc : Cells w a (bys L)) (hc' : Cells w a' (bys L)) (hl : L.length ≤ 16777216) :
    Calls Try.prog 43 #[.agg #[.slice a L.length cap], .agg #[.slice a' L.length cap']] w fun x w' => x = .returned (.bool true) ∧ Keeps w w' := by
  have HKA := hide (Keeps.alloc (Keeps.alloc (Keeps.refl w) (.cells #[.slice a L.length cap] 77)) (.cells #[.slice a' L.length cap'] 77))
  have HQ := hide (eqBytes_k a a' cap cap' L _ (hc.kept HKA.out) (hc'.kept HKA.out) hl)
  clear hc hc' hl
  go_enter Try.func43, Try.ntmps43
  go_wp2_with fail
  refine (unhide HQ).mono ?_
  rintro x w1 ⟨rfl, hk⟩
  replace HKA := hide (HKA.out.trans hk)
  clear hk
  go_wp2_with fail
  go_ret
  exact ⟨rfl, HKA.out⟩
theorem eqWrite_k (i : Int) (a a' : Option Addr) (cap cap' : Nat) (L : List UInt8) (w : World) (hc : Cells w a (bys L)) (hc' : Cells w a' (bys L)) (hl : L.length ≤ 16777216) :
    Calls Try.prog 44 #[.agg #[.int .i64 i, .slice a L.length cap], .agg #[.int .i64 i, .slice a' L.length cap']] w fun x w' => x = .returned (.bool true) ∧ Keeps w w' := by
  have HKA := hide (Keeps.alloc (Keeps.alloc (Keeps.refl w) (.cells #[.int .i64 i, .slice a L.length cap] 80)) (.cells #[.int .i64 i, .slice a' L.length cap'] 80))
  have HQ := hide (eqBytes_k a a' cap cap' L _ (hc.kept HKA.out) (hc'.kept HKA.out) hl)
  clear hc hc' hl
  go_enter Try.func44, Try.ntmps44
  go_wp2_with fail
  refine (unhide HQ).mono ?_
  rintro x w1 ⟨rfl, hk⟩
  replace HKA := hide (HKA.out.trans hk)
  clear hk
  go_wp2_with fail
  go_ret
  exact ⟨rfl, HKA.out⟩
end Go.Proofs.Ytkgpoghoilffhaa
