/- Two events held against each other by the laws. -/
import Derived.Test.YtjihinkjcplgcaaDoorEv
namespace Go.Proofs.YtjihinkjcplgcaaDoor
open Go.RowKit
set_option linter.unusedVariables false
set_option maxHeartbeats 1000000 in
theorem eqEvent_same (k y c t m f : Int) (b : Bool) (w : World) : Calls Tryd.prog 22 #[evV k y c t m f b, evV k y c t m f b] w fun e w' => e = .returned (.bool true) ∧ Keeps w w' := by
  go_enter Tryd.func22, Tryd.ntmps22
  go_wp2_with fail
  go_ret
  exact ⟨rfl, Keeps.alloc (Keeps.alloc (Keeps.refl _) _) _⟩
end Go.Proofs.YtjihinkjcplgcaaDoor
