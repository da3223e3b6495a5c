/- Sums of amounts, the program's and the model's. -/
import Derived.Test.YteoloapjhlpnjaaDoorKeep
import Derived.Test.YteoloapjhlpnjaaDoorSent
namespace Go.Proofs.YteoloapjhlpnjaaDoor
open Go.RowKit
set_option linter.unusedVariables false

theorem told_ok (n : Int) (w : World) : Calls Tryd.prog 78 #[.int .i64 n, .nilIface] w fun e w' => e = .returned (.tuple #[.int .i64 n, .bool true]) ∧ w' = w := by
  go_enter Tryd.func78, Tryd.ntmps78
  go_wp2
  go_ret2
  exact ⟨rfl, rfl⟩
theorem told_no (n : Int) (u : TypeId) (x : Value) (w : World) : Calls Tryd.prog 78 #[.int .i64 n, .iface u x] w fun e w' => e = .returned (.tuple #[.int .i64 0, .bool false]) ∧ w' = w := by
  go_enter Tryd.func78, Tryd.ntmps78
  go_wp2
  go_ret2
  exact ⟨rfl, rfl⟩

end Go.Proofs.YteoloapjhlpnjaaDoor
