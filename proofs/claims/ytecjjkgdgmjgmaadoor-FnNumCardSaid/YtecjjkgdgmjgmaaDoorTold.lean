/- The program's told. -/
import Derived.Test.YtecjjkgdgmjgmaaDoorSent
namespace Go.Proofs.YtecjjkgdgmjgmaaDoor
open Go.RowKit
set_option linter.unusedVariables false
theorem told_ok (n : Int) (w : World) : Calls Tryd.prog 29 #[.int .i64 n, .nilIface] w fun e w' => e = .returned (.tuple #[.int .i64 n, .bool true]) ∧ w' = w := by
  go_enter Tryd.func29, Tryd.ntmps29
  go_wp2
  go_ret2
  exact ⟨rfl, rfl⟩
theorem told_no (n : Int) (u : TypeId) (x : Value) (w : World) : Calls Tryd.prog 29 #[.int .i64 n, .iface u x] w fun e w' => e = .returned (.tuple #[.int .i64 0, .bool false]) ∧ w' = w := by
  go_enter Tryd.func29, Tryd.ntmps29
  go_wp2
  go_ret2
  exact ⟨rfl, rfl⟩
theorem gNumber : Tryd.prog.globalNamed "loop.example/g00400/impl.errNoNumber" = some 0 := by kernel_rfl
theorem tNumber : (Tryd.prog.globals[0]?).map (·.type) = some 56 := by kernel_rfl
end Go.Proofs.YtecjjkgdgmjgmaaDoor
