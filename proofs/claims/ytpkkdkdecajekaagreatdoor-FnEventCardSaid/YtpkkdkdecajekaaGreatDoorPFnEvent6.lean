/- The program's EventOk, by contract: events out of kinds, and the whole. -/
import Derived.Test.YtpkkdkdecajekaaGreatDoorPFnEvent5
namespace Go.Proofs.YtpkkdkdecajekaaGreatDoor
open Go.RowKit
set_option linter.unusedVariables false
set_option maxRecDepth 10000
set_option linter.unusedSimpArgs false
set_option maxHeartbeats 1000000 in
theorem eventOf_deposit (m : Int) (w : World) : Calls Tryz.prog 24 #[.iface 65 (.agg #[.int .i64 m])] w fun e w' => e = .returned (evV 1 0 0 0 m 0 false) ∧ Keeps w w' := by
  have ta1 : ∀ w : World, (Instr.typeAssert (.iface 65 (.agg #[.int .i64 m])) 41 65 true).run Tryz.prog w = .ok (.tuple #[.agg #[.int .i64 m], .bool true]) w := fun _ => by kernel_rfl
  go_enter Tryz.func24, Tryz.ntmps24
  go_wp2
  refine bodyPost_ret (v := evV 1 0 0 0 m 0 false) (by simp [results, Tryz.results24, go_sem]) rfl ⟨rfl, ?_⟩
  repeat (first | exact Keeps.refl _ | refine Keeps.alloc ?_ _ | refine Keeps.setCell ?_ (by simp) _)
set_option maxHeartbeats 1000000 in
theorem eventOf_open (c m f : Int) (w : World) : Calls Tryz.prog 24 #[.iface 67 (.agg #[.int .i64 c, .int .i64 m, .int .i64 f])] w fun e w' => e = .returned (evV 2 0 c 0 m f false) ∧ Keeps w w' := by
  have ta1 : ∀ w : World, (Instr.typeAssert (.iface 67 (.agg #[.int .i64 c, .int .i64 m, .int .i64 f])) 41 65 true).run Tryz.prog w = .ok (.tuple #[.agg #[.int .i64 0], .bool false]) w := fun _ => by kernel_rfl
  have ta2 : ∀ w : World, (Instr.typeAssert (.iface 67 (.agg #[.int .i64 c, .int .i64 m, .int .i64 f])) 41 67 true).run Tryz.prog w = .ok (.tuple #[.agg #[.int .i64 c, .int .i64 m, .int .i64 f], .bool true]) w := fun _ => by kernel_rfl
  go_enter Tryz.func24, Tryz.ntmps24
  go_wp2
  refine bodyPost_ret (v := evV 2 0 c 0 m f false) (by simp [results, Tryz.results24, go_sem]) rfl ⟨rfl, ?_⟩
  repeat (first | exact Keeps.refl _ | refine Keeps.alloc ?_ _ | refine Keeps.setCell ?_ (by simp) _)
set_option maxHeartbeats 1000000 in
theorem eventOf_close (c f : Int) (w : World) : Calls Tryz.prog 24 #[.iface 69 (.agg #[.int .i64 c, .int .i64 f])] w fun e w' => e = .returned (evV 3 0 c 0 0 f false) ∧ Keeps w w' := by
  have ta1 : ∀ w : World, (Instr.typeAssert (.iface 69 (.agg #[.int .i64 c, .int .i64 f])) 41 65 true).run Tryz.prog w = .ok (.tuple #[.agg #[.int .i64 0], .bool false]) w := fun _ => by kernel_rfl
  have ta2 : ∀ w : World, (Instr.typeAssert (.iface 69 (.agg #[.int .i64 c, .int .i64 f])) 41 67 true).run Tryz.prog w = .ok (.tuple #[.agg #[.int .i64 0, .int .i64 0, .int .i64 0], .bool false]) w := fun _ => by kernel_rfl
  have ta3 : ∀ w : World, (Instr.typeAssert (.iface 69 (.agg #[.int .i64 c, .int .i64 f])) 41 69 true).run Tryz.prog w = .ok (.tuple #[.agg #[.int .i64 c, .int .i64 f], .bool true]) w := fun _ => by kernel_rfl
  go_enter Tryz.func24, Tryz.ntmps24
  go_wp2
  refine bodyPost_ret (v := evV 3 0 c 0 0 f false) (by simp [results, Tryz.results24, go_sem]) rfl ⟨rfl, ?_⟩
  repeat (first | exact Keeps.refl _ | refine Keeps.alloc ?_ _ | refine Keeps.setCell ?_ (by simp) _)
set_option maxHeartbeats 1000000 in
theorem eventOf_price (c m f : Int) (w : World) : Calls Tryz.prog 24 #[.iface 71 (.agg #[.int .i64 c, .int .i64 m, .int .i64 f])] w fun e w' => e = .returned (evV 4 0 c 0 m f false) ∧ Keeps w w' := by
  have ta1 : ∀ w : World, (Instr.typeAssert (.iface 71 (.agg #[.int .i64 c, .int .i64 m, .int .i64 f])) 41 65 true).run Tryz.prog w = .ok (.tuple #[.agg #[.int .i64 0], .bool false]) w := fun _ => by kernel_rfl
  have ta2 : ∀ w : World, (Instr.typeAssert (.iface 71 (.agg #[.int .i64 c, .int .i64 m, .int .i64 f])) 41 67 true).run Tryz.prog w = .ok (.tuple #[.agg #[.int .i64 0, .int .i64 0, .int .i64 0], .bool false]) w := fun _ => by kernel_rfl
  have ta3 : ∀ w : World, (Instr.typeAssert (.iface 71 (.agg #[.int .i64 c, .int .i64 m, .int .i64 f])) 41 69 true).run Tryz.prog w = .ok (.tuple #[.agg #[.int .i64 0, .int .i64 0], .bool false]) w := fun _ => by kernel_rfl
  have ta4 : ∀ w : World, (Instr.typeAssert (.iface 71 (.agg #[.int .i64 c, .int .i64 m, .int .i64 f])) 41 71 true).run Tryz.prog w = .ok (.tuple #[.agg #[.int .i64 c, .int .i64 m, .int .i64 f], .bool true]) w := fun _ => by kernel_rfl
  go_enter Tryz.func24, Tryz.ntmps24
  go_wp2
  refine bodyPost_ret (v := evV 4 0 c 0 m f false) (by simp [results, Tryz.results24, go_sem]) rfl ⟨rfl, ?_⟩
  repeat (first | exact Keeps.refl _ | refine Keeps.alloc ?_ _ | refine Keeps.setCell ?_ (by simp) _)
set_option maxHeartbeats 1000000 in
theorem eventOf_admit (y c t m : Int) (b : Bool) (w : World) : Calls Tryz.prog 24 #[.iface 73 (.agg #[.int .i64 y, .int .i64 c, .int .i64 t, .int .i64 m, .bool b])] w fun e w' => e = .returned (evV 5 y c t m 0 b) ∧ Keeps w w' := by
  have ta1 : ∀ w : World, (Instr.typeAssert (.iface 73 (.agg #[.int .i64 y, .int .i64 c, .int .i64 t, .int .i64 m, .bool b])) 41 65 true).run Tryz.prog w = .ok (.tuple #[.agg #[.int .i64 0], .bool false]) w := fun _ => by kernel_rfl
  have ta2 : ∀ w : World, (Instr.typeAssert (.iface 73 (.agg #[.int .i64 y, .int .i64 c, .int .i64 t, .int .i64 m, .bool b])) 41 67 true).run Tryz.prog w = .ok (.tuple #[.agg #[.int .i64 0, .int .i64 0, .int .i64 0], .bool false]) w := fun _ => by kernel_rfl
  have ta3 : ∀ w : World, (Instr.typeAssert (.iface 73 (.agg #[.int .i64 y, .int .i64 c, .int .i64 t, .int .i64 m, .bool b])) 41 69 true).run Tryz.prog w = .ok (.tuple #[.agg #[.int .i64 0, .int .i64 0], .bool false]) w := fun _ => by kernel_rfl
  have ta4 : ∀ w : World, (Instr.typeAssert (.iface 73 (.agg #[.int .i64 y, .int .i64 c, .int .i64 t, .int .i64 m, .bool b])) 41 71 true).run Tryz.prog w = .ok (.tuple #[.agg #[.int .i64 0, .int .i64 0, .int .i64 0], .bool false]) w := fun _ => by kernel_rfl
  have ta5 : ∀ w : World, (Instr.typeAssert (.iface 73 (.agg #[.int .i64 y, .int .i64 c, .int .i64 t, .int .i64 m, .bool b])) 41 73 true).run Tryz.prog w = .ok (.tuple #[.agg #[.int .i64 y, .int .i64 c, .int .i64 t, .int .i64 m, .bool b], .bool true]) w := fun _ => by kernel_rfl
  go_enter Tryz.func24, Tryz.ntmps24
  go_wp2
  refine bodyPost_ret (v := evV 5 y c t m 0 b) (by simp [results, Tryz.results24, go_sem]) rfl ⟨rfl, ?_⟩
  repeat (first | exact Keeps.refl _ | refine Keeps.alloc ?_ _ | refine Keeps.setCell ?_ (by simp) _)
set_option maxHeartbeats 1000000 in
theorem eventOf_fulfill (y : Int) (w : World) : Calls Tryz.prog 24 #[.iface 75 (.agg #[.int .i64 y])] w fun e w' => e = .returned (evV 6 y 0 0 0 0 false) ∧ Keeps w w' := by
  have ta1 : ∀ w : World, (Instr.typeAssert (.iface 75 (.agg #[.int .i64 y])) 41 65 true).run Tryz.prog w = .ok (.tuple #[.agg #[.int .i64 0], .bool false]) w := fun _ => by kernel_rfl
  have ta2 : ∀ w : World, (Instr.typeAssert (.iface 75 (.agg #[.int .i64 y])) 41 67 true).run Tryz.prog w = .ok (.tuple #[.agg #[.int .i64 0, .int .i64 0, .int .i64 0], .bool false]) w := fun _ => by kernel_rfl
  have ta3 : ∀ w : World, (Instr.typeAssert (.iface 75 (.agg #[.int .i64 y])) 41 69 true).run Tryz.prog w = .ok (.tuple #[.agg #[.int .i64 0, .int .i64 0], .bool false]) w := fun _ => by kernel_rfl
  have ta4 : ∀ w : World, (Instr.typeAssert (.iface 75 (.agg #[.int .i64 y])) 41 71 true).run Tryz.prog w = .ok (.tuple #[.agg #[.int .i64 0, .int .i64 0, .int .i64 0], .bool false]) w := fun _ => by kernel_rfl
  have ta5 : ∀ w : World, (Instr.typeAssert (.iface 75 (.agg #[.int .i64 y])) 41 73 true).run Tryz.prog w = .ok (.tuple #[.agg #[.int .i64 0, .int .i64 0, .int .i64 0, .int .i64 0, .bool false], .bool false]) w := fun _ => by kernel_rfl
  have ta6 : ∀ w : World, (Instr.typeAssert (.iface 75 (.agg #[.int .i64 y])) 41 75 true).run Tryz.prog w = .ok (.tuple #[.agg #[.int .i64 y], .bool true]) w := fun _ => by kernel_rfl
  go_enter Tryz.func24, Tryz.ntmps24
  go_wp2
  refine bodyPost_ret (v := evV 6 y 0 0 0 0 false) (by simp [results, Tryz.results24, go_sem]) rfl ⟨rfl, ?_⟩
  repeat (first | exact Keeps.refl _ | refine Keeps.alloc ?_ _ | refine Keeps.setCell ?_ (by simp) _)
set_option maxHeartbeats 1000000 in
theorem eventOf_fail (y : Int) (w : World) : Calls Tryz.prog 24 #[.iface 76 (.agg #[.int .i64 y])] w fun e w' => e = .returned (evV 7 y 0 0 0 0 false) ∧ Keeps w w' := by
  have ta1 : ∀ w : World, (Instr.typeAssert (.iface 76 (.agg #[.int .i64 y])) 41 65 true).run Tryz.prog w = .ok (.tuple #[.agg #[.int .i64 0], .bool false]) w := fun _ => by kernel_rfl
  have ta2 : ∀ w : World, (Instr.typeAssert (.iface 76 (.agg #[.int .i64 y])) 41 67 true).run Tryz.prog w = .ok (.tuple #[.agg #[.int .i64 0, .int .i64 0, .int .i64 0], .bool false]) w := fun _ => by kernel_rfl
  have ta3 : ∀ w : World, (Instr.typeAssert (.iface 76 (.agg #[.int .i64 y])) 41 69 true).run Tryz.prog w = .ok (.tuple #[.agg #[.int .i64 0, .int .i64 0], .bool false]) w := fun _ => by kernel_rfl
  have ta4 : ∀ w : World, (Instr.typeAssert (.iface 76 (.agg #[.int .i64 y])) 41 71 true).run Tryz.prog w = .ok (.tuple #[.agg #[.int .i64 0, .int .i64 0, .int .i64 0], .bool false]) w := fun _ => by kernel_rfl
  have ta5 : ∀ w : World, (Instr.typeAssert (.iface 76 (.agg #[.int .i64 y])) 41 73 true).run Tryz.prog w = .ok (.tuple #[.agg #[.int .i64 0, .int .i64 0, .int .i64 0, .int .i64 0, .bool false], .bool false]) w := fun _ => by kernel_rfl
  have ta6 : ∀ w : World, (Instr.typeAssert (.iface 76 (.agg #[.int .i64 y])) 41 75 true).run Tryz.prog w = .ok (.tuple #[.agg #[.int .i64 0], .bool false]) w := fun _ => by kernel_rfl
  have ta7 : ∀ w : World, (Instr.typeAssert (.iface 76 (.agg #[.int .i64 y])) 41 76 true).run Tryz.prog w = .ok (.tuple #[.agg #[.int .i64 y], .bool true]) w := fun _ => by kernel_rfl
  go_enter Tryz.func24, Tryz.ntmps24
  go_wp2
  refine bodyPost_ret (v := evV 7 y 0 0 0 0 false) (by simp [results, Tryz.results24, go_sem]) rfl ⟨rfl, ?_⟩
  repeat (first | exact Keeps.refl _ | refine Keeps.alloc ?_ _ | refine Keeps.setCell ?_ (by simp) _)
set_option maxHeartbeats 1000000 in
theorem eventOf_tick (w : World) : Calls Tryz.prog 24 #[.iface 78 (.agg #[])] w fun e w' => e = .returned (evV 8 0 0 0 0 0 false) ∧ Keeps w w' := by
  have ta1 : ∀ w : World, (Instr.typeAssert (.iface 78 (.agg #[])) 41 65 true).run Tryz.prog w = .ok (.tuple #[.agg #[.int .i64 0], .bool false]) w := fun _ => by kernel_rfl
  have ta2 : ∀ w : World, (Instr.typeAssert (.iface 78 (.agg #[])) 41 67 true).run Tryz.prog w = .ok (.tuple #[.agg #[.int .i64 0, .int .i64 0, .int .i64 0], .bool false]) w := fun _ => by kernel_rfl
  have ta3 : ∀ w : World, (Instr.typeAssert (.iface 78 (.agg #[])) 41 69 true).run Tryz.prog w = .ok (.tuple #[.agg #[.int .i64 0, .int .i64 0], .bool false]) w := fun _ => by kernel_rfl
  have ta4 : ∀ w : World, (Instr.typeAssert (.iface 78 (.agg #[])) 41 71 true).run Tryz.prog w = .ok (.tuple #[.agg #[.int .i64 0, .int .i64 0, .int .i64 0], .bool false]) w := fun _ => by kernel_rfl
  have ta5 : ∀ w : World, (Instr.typeAssert (.iface 78 (.agg #[])) 41 73 true).run Tryz.prog w = .ok (.tuple #[.agg #[.int .i64 0, .int .i64 0, .int .i64 0, .int .i64 0, .bool false], .bool false]) w := fun _ => by kernel_rfl
  have ta6 : ∀ w : World, (Instr.typeAssert (.iface 78 (.agg #[])) 41 75 true).run Tryz.prog w = .ok (.tuple #[.agg #[.int .i64 0], .bool false]) w := fun _ => by kernel_rfl
  have ta7 : ∀ w : World, (Instr.typeAssert (.iface 78 (.agg #[])) 41 76 true).run Tryz.prog w = .ok (.tuple #[.agg #[.int .i64 0], .bool false]) w := fun _ => by kernel_rfl
  have ta8 : ∀ w : World, (Instr.typeAssert (.iface 78 (.agg #[])) 41 78 true).run Tryz.prog w = .ok (.tuple #[.agg #[], .bool true]) w := fun _ => by kernel_rfl
  go_enter Tryz.func24, Tryz.ntmps24
  go_wp2
  refine bodyPost_ret (v := evV 8 0 0 0 0 0 false) (by simp [results, Tryz.results24, go_sem]) rfl ⟨rfl, ?_⟩
  repeat (first | exact Keeps.refl _ | refine Keeps.alloc ?_ _ | refine Keeps.setCell ?_ (by simp) _)
set_option maxHeartbeats 1000000 in
theorem eventOf_launch (y c t m f : Int) (w : World) : Calls Tryz.prog 24 #[.iface 80 (.agg #[.int .i64 y, .int .i64 c, .int .i64 t, .int .i64 m, .int .i64 f])] w fun e w' => e = .returned (evV 9 y c t m f false) ∧ Keeps w w' := by
  have ta1 : ∀ w : World, (Instr.typeAssert (.iface 80 (.agg #[.int .i64 y, .int .i64 c, .int .i64 t, .int .i64 m, .int .i64 f])) 41 65 true).run Tryz.prog w = .ok (.tuple #[.agg #[.int .i64 0], .bool false]) w := fun _ => by kernel_rfl
  have ta2 : ∀ w : World, (Instr.typeAssert (.iface 80 (.agg #[.int .i64 y, .int .i64 c, .int .i64 t, .int .i64 m, .int .i64 f])) 41 67 true).run Tryz.prog w = .ok (.tuple #[.agg #[.int .i64 0, .int .i64 0, .int .i64 0], .bool false]) w := fun _ => by kernel_rfl
  have ta3 : ∀ w : World, (Instr.typeAssert (.iface 80 (.agg #[.int .i64 y, .int .i64 c, .int .i64 t, .int .i64 m, .int .i64 f])) 41 69 true).run Tryz.prog w = .ok (.tuple #[.agg #[.int .i64 0, .int .i64 0], .bool false]) w := fun _ => by kernel_rfl
  have ta4 : ∀ w : World, (Instr.typeAssert (.iface 80 (.agg #[.int .i64 y, .int .i64 c, .int .i64 t, .int .i64 m, .int .i64 f])) 41 71 true).run Tryz.prog w = .ok (.tuple #[.agg #[.int .i64 0, .int .i64 0, .int .i64 0], .bool false]) w := fun _ => by kernel_rfl
  have ta5 : ∀ w : World, (Instr.typeAssert (.iface 80 (.agg #[.int .i64 y, .int .i64 c, .int .i64 t, .int .i64 m, .int .i64 f])) 41 73 true).run Tryz.prog w = .ok (.tuple #[.agg #[.int .i64 0, .int .i64 0, .int .i64 0, .int .i64 0, .bool false], .bool false]) w := fun _ => by kernel_rfl
  have ta6 : ∀ w : World, (Instr.typeAssert (.iface 80 (.agg #[.int .i64 y, .int .i64 c, .int .i64 t, .int .i64 m, .int .i64 f])) 41 75 true).run Tryz.prog w = .ok (.tuple #[.agg #[.int .i64 0], .bool false]) w := fun _ => by kernel_rfl
  have ta7 : ∀ w : World, (Instr.typeAssert (.iface 80 (.agg #[.int .i64 y, .int .i64 c, .int .i64 t, .int .i64 m, .int .i64 f])) 41 76 true).run Tryz.prog w = .ok (.tuple #[.agg #[.int .i64 0], .bool false]) w := fun _ => by kernel_rfl
  have ta8 : ∀ w : World, (Instr.typeAssert (.iface 80 (.agg #[.int .i64 y, .int .i64 c, .int .i64 t, .int .i64 m, .int .i64 f])) 41 78 true).run Tryz.prog w = .ok (.tuple #[.agg #[], .bool false]) w := fun _ => by kernel_rfl
  have ta9 : ∀ w : World, (Instr.typeAssert (.iface 80 (.agg #[.int .i64 y, .int .i64 c, .int .i64 t, .int .i64 m, .int .i64 f])) 41 80 true).run Tryz.prog w = .ok (.tuple #[.agg #[.int .i64 y, .int .i64 c, .int .i64 t, .int .i64 m, .int .i64 f], .bool true]) w := fun _ => by kernel_rfl
  go_enter Tryz.func24, Tryz.ntmps24
  go_wp2
  refine bodyPost_ret (v := evV 9 y c t m f false) (by simp [results, Tryz.results24, go_sem]) rfl ⟨rfl, ?_⟩
  repeat (first | exact Keeps.refl _ | refine Keeps.alloc ?_ _ | refine Keeps.setCell ?_ (by simp) _)
set_option maxHeartbeats 1000000 in
theorem eventOf_arrive (y : Int) (w : World) : Calls Tryz.prog 24 #[.iface 81 (.agg #[.int .i64 y])] w fun e w' => e = .returned (evV 10 y 0 0 0 0 false) ∧ Keeps w w' := by
  have ta1 : ∀ w : World, (Instr.typeAssert (.iface 81 (.agg #[.int .i64 y])) 41 65 true).run Tryz.prog w = .ok (.tuple #[.agg #[.int .i64 0], .bool false]) w := fun _ => by kernel_rfl
  have ta2 : ∀ w : World, (Instr.typeAssert (.iface 81 (.agg #[.int .i64 y])) 41 67 true).run Tryz.prog w = .ok (.tuple #[.agg #[.int .i64 0, .int .i64 0, .int .i64 0], .bool false]) w := fun _ => by kernel_rfl
  have ta3 : ∀ w : World, (Instr.typeAssert (.iface 81 (.agg #[.int .i64 y])) 41 69 true).run Tryz.prog w = .ok (.tuple #[.agg #[.int .i64 0, .int .i64 0], .bool false]) w := fun _ => by kernel_rfl
  have ta4 : ∀ w : World, (Instr.typeAssert (.iface 81 (.agg #[.int .i64 y])) 41 71 true).run Tryz.prog w = .ok (.tuple #[.agg #[.int .i64 0, .int .i64 0, .int .i64 0], .bool false]) w := fun _ => by kernel_rfl
  have ta5 : ∀ w : World, (Instr.typeAssert (.iface 81 (.agg #[.int .i64 y])) 41 73 true).run Tryz.prog w = .ok (.tuple #[.agg #[.int .i64 0, .int .i64 0, .int .i64 0, .int .i64 0, .bool false], .bool false]) w := fun _ => by kernel_rfl
  have ta6 : ∀ w : World, (Instr.typeAssert (.iface 81 (.agg #[.int .i64 y])) 41 75 true).run Tryz.prog w = .ok (.tuple #[.agg #[.int .i64 0], .bool false]) w := fun _ => by kernel_rfl
  have ta7 : ∀ w : World, (Instr.typeAssert (.iface 81 (.agg #[.int .i64 y])) 41 76 true).run Tryz.prog w = .ok (.tuple #[.agg #[.int .i64 0], .bool false]) w := fun _ => by kernel_rfl
  have ta8 : ∀ w : World, (Instr.typeAssert (.iface 81 (.agg #[.int .i64 y])) 41 78 true).run Tryz.prog w = .ok (.tuple #[.agg #[], .bool false]) w := fun _ => by kernel_rfl
  have ta9 : ∀ w : World, (Instr.typeAssert (.iface 81 (.agg #[.int .i64 y])) 41 80 true).run Tryz.prog w = .ok (.tuple #[.agg #[.int .i64 0, .int .i64 0, .int .i64 0, .int .i64 0, .int .i64 0], .bool false]) w := fun _ => by kernel_rfl
  have ta10 : ∀ w : World, (Instr.typeAssert (.iface 81 (.agg #[.int .i64 y])) 41 81 true).run Tryz.prog w = .ok (.tuple #[.agg #[.int .i64 y], .bool true]) w := fun _ => by kernel_rfl
  go_enter Tryz.func24, Tryz.ntmps24
  go_wp2
  refine bodyPost_ret (v := evV 10 y 0 0 0 0 false) (by simp [results, Tryz.results24, go_sem]) rfl ⟨rfl, ?_⟩
  repeat (first | exact Keeps.refl _ | refine Keeps.alloc ?_ _ | refine Keeps.setCell ?_ (by simp) _)
set_option maxHeartbeats 1000000 in
theorem eventOf_lost (y : Int) (w : World) : Calls Tryz.prog 24 #[.iface 82 (.agg #[.int .i64 y])] w fun e w' => e = .returned (evV 11 y 0 0 0 0 false) ∧ Keeps w w' := by
  have ta1 : ∀ w : World, (Instr.typeAssert (.iface 82 (.agg #[.int .i64 y])) 41 65 true).run Tryz.prog w = .ok (.tuple #[.agg #[.int .i64 0], .bool false]) w := fun _ => by kernel_rfl
  have ta2 : ∀ w : World, (Instr.typeAssert (.iface 82 (.agg #[.int .i64 y])) 41 67 true).run Tryz.prog w = .ok (.tuple #[.agg #[.int .i64 0, .int .i64 0, .int .i64 0], .bool false]) w := fun _ => by kernel_rfl
  have ta3 : ∀ w : World, (Instr.typeAssert (.iface 82 (.agg #[.int .i64 y])) 41 69 true).run Tryz.prog w = .ok (.tuple #[.agg #[.int .i64 0, .int .i64 0], .bool false]) w := fun _ => by kernel_rfl
  have ta4 : ∀ w : World, (Instr.typeAssert (.iface 82 (.agg #[.int .i64 y])) 41 71 true).run Tryz.prog w = .ok (.tuple #[.agg #[.int .i64 0, .int .i64 0, .int .i64 0], .bool false]) w := fun _ => by kernel_rfl
  have ta5 : ∀ w : World, (Instr.typeAssert (.iface 82 (.agg #[.int .i64 y])) 41 73 true).run Tryz.prog w = .ok (.tuple #[.agg #[.int .i64 0, .int .i64 0, .int .i64 0, .int .i64 0, .bool false], .bool false]) w := fun _ => by kernel_rfl
  have ta6 : ∀ w : World, (Instr.typeAssert (.iface 82 (.agg #[.int .i64 y])) 41 75 true).run Tryz.prog w = .ok (.tuple #[.agg #[.int .i64 0], .bool false]) w := fun _ => by kernel_rfl
  have ta7 : ∀ w : World, (Instr.typeAssert (.iface 82 (.agg #[.int .i64 y])) 41 76 true).run Tryz.prog w = .ok (.tuple #[.agg #[.int .i64 0], .bool false]) w := fun _ => by kernel_rfl
  have ta8 : ∀ w : World, (Instr.typeAssert (.iface 82 (.agg #[.int .i64 y])) 41 78 true).run Tryz.prog w = .ok (.tuple #[.agg #[], .bool false]) w := fun _ => by kernel_rfl
  have ta9 : ∀ w : World, (Instr.typeAssert (.iface 82 (.agg #[.int .i64 y])) 41 80 true).run Tryz.prog w = .ok (.tuple #[.agg #[.int .i64 0, .int .i64 0, .int .i64 0, .int .i64 0, .int .i64 0], .bool false]) w := fun _ => by kernel_rfl
  have ta10 : ∀ w : World, (Instr.typeAssert (.iface 82 (.agg #[.int .i64 y])) 41 81 true).run Tryz.prog w = .ok (.tuple #[.agg #[.int .i64 0], .bool false]) w := fun _ => by kernel_rfl
  have ta11 : ∀ w : World, (Instr.typeAssert (.iface 82 (.agg #[.int .i64 y])) 41 82 true).run Tryz.prog w = .ok (.tuple #[.agg #[.int .i64 y], .bool true]) w := fun _ => by kernel_rfl
  go_enter Tryz.func24, Tryz.ntmps24
  go_wp2
  refine bodyPost_ret (v := evV 11 y 0 0 0 0 false) (by simp [results, Tryz.results24, go_sem]) rfl ⟨rfl, ?_⟩
  repeat (first | exact Keeps.refl _ | refine Keeps.alloc ?_ _ | refine Keeps.setCell ?_ (by simp) _)
set_option maxHeartbeats 1000000 in
theorem evok_deposit (y c t m f : Int) (b : Bool) (w : World) : Calls Tryz.prog 15 #[evV 1 y c t m f b] w fun e w' => e = .returned (.bool ((fieldB true m 1 1125899906842624) && evEq 1 0 0 0 m 0 false 1 y c t m f b)) ∧ Keeps w w' := by
  have hm : ∀ w : World, (method 265 65 (.agg #[.int .i64 m]) "loop.example/g00400/impl.right").run Tryz.prog w = .ok (100, .agg #[.int .i64 m]) w := fun _ => by kernel_rfl
  have HKO := hide (fun w1 => kindOf_deposit y c t m f b w1)
  have HRI := hide (fun w1 => right_deposit m w1)
  have HEV := hide (fun w1 => eventOf_deposit m w1)
  have hq := fun w1 => ev_eql 1 0 0 0 m 0 false 1 y c t m f b w1
  generalize evEq 1 0 0 0 m 0 false 1 y c t m f b = E at *
  generalize hr : (fieldB true m 1 1125899906842624) = r at *
  clear hr
  cases r
  · skip
    go_enter Tryz.func15, Tryz.ntmps15
    go_wp2_with fail
    refine (unhide HKO _).mono ?_
    rintro e w1 ⟨rfl, hk⟩
    have c0 := gr_cell (hk.cell (p := ⟨w.heap.size, 0, none⟩) (v := .int .i64 1) (by simp))
    have c1 := gr_cell (hk.cell (p := ⟨w.heap.size, 1, none⟩) (v := .int .i64 y) (by simp))
    have c2 := gr_cell (hk.cell (p := ⟨w.heap.size, 2, none⟩) (v := .int .i64 c) (by simp))
    have c3 := gr_cell (hk.cell (p := ⟨w.heap.size, 3, none⟩) (v := .int .i64 t) (by simp))
    have c4 := gr_cell (hk.cell (p := ⟨w.heap.size, 4, none⟩) (v := .int .i64 m) (by simp))
    have c5 := gr_cell (hk.cell (p := ⟨w.heap.size, 5, none⟩) (v := .int .i64 f) (by simp))
    have c6 := gr_cell (hk.cell (p := ⟨w.heap.size, 6, none⟩) (v := .bool b) (by simp))
    have HK := hide (Keeps.trans (Keeps.alloc (Keeps.refl w) _) hk)
    clear hk HKO
    go_wp2_with fail
    refine region_gr (by kernel_rfl) (by kernel_rfl) ?_
    repeat (go_big_quiet_step (first | (go_at_call 100; exact gr_call (unhide HRI _)) | (go_at_call 24; exact gr_call (unhide HEV _))))
    refine wpQuiet_nil ?_
    intro w2 hw2
    have hk2 := Keeps.of_gr hw2
    clear hw2
    go_wp2_with fail
    go_ret
    exact ⟨ret_ev (by simp), HK.out.trans hk2⟩
  · skip
    go_enter Tryz.func15, Tryz.ntmps15
    go_wp2_with fail
    refine (unhide HKO _).mono ?_
    rintro e w1 ⟨rfl, hk⟩
    have c0 := gr_cell (hk.cell (p := ⟨w.heap.size, 0, none⟩) (v := .int .i64 1) (by simp))
    have c1 := gr_cell (hk.cell (p := ⟨w.heap.size, 1, none⟩) (v := .int .i64 y) (by simp))
    have c2 := gr_cell (hk.cell (p := ⟨w.heap.size, 2, none⟩) (v := .int .i64 c) (by simp))
    have c3 := gr_cell (hk.cell (p := ⟨w.heap.size, 3, none⟩) (v := .int .i64 t) (by simp))
    have c4 := gr_cell (hk.cell (p := ⟨w.heap.size, 4, none⟩) (v := .int .i64 m) (by simp))
    have c5 := gr_cell (hk.cell (p := ⟨w.heap.size, 5, none⟩) (v := .int .i64 f) (by simp))
    have c6 := gr_cell (hk.cell (p := ⟨w.heap.size, 6, none⟩) (v := .bool b) (by simp))
    have HK := hide (Keeps.trans (Keeps.alloc (Keeps.refl w) _) hk)
    clear hk HKO
    go_wp2_with fail
    refine region_gr (by kernel_rfl) (by kernel_rfl) ?_
    repeat (go_big_quiet_step (first | (go_at_call 100; exact gr_call (unhide HRI _)) | (go_at_call 24; exact gr_call (unhide HEV _))))
    refine wpQuiet_nil ?_
    intro w2 hw2
    have hk2 := Keeps.of_gr hw2
    clear hw2
    go_wp2_with fail
    go_ret
    exact ⟨ret_ev (by simp), HK.out.trans hk2⟩
set_option maxHeartbeats 1000000 in
theorem evok_open (y c t m f : Int) (b : Bool) (w : World) : Calls Tryz.prog 15 #[evV 2 y c t m f b] w fun e w' => e = .returned (.bool ((fieldB true c 1 99 && fieldB true m 1 1125899906842624 && fieldB true f 0 1125899906842624) && evEq 2 0 c 0 m f false 2 y c t m f b)) ∧ Keeps w w' := by
  have hm : ∀ w : World, (method 265 67 (.agg #[.int .i64 c, .int .i64 m, .int .i64 f]) "loop.example/g00400/impl.right").run Tryz.prog w = .ok (109, .agg #[.int .i64 c, .int .i64 m, .int .i64 f]) w := fun _ => by kernel_rfl
  have HKO := hide (fun w1 => kindOf_open y c t m f b w1)
  have HRI := hide (fun w1 => right_open c m f w1)
  have HEV := hide (fun w1 => eventOf_open c m f w1)
  have hq := fun w1 => ev_eql 2 0 c 0 m f false 2 y c t m f b w1
  generalize evEq 2 0 c 0 m f false 2 y c t m f b = E at *
  generalize hr : (fieldB true c 1 99 && fieldB true m 1 1125899906842624 && fieldB true f 0 1125899906842624) = r at *
  clear hr
  cases r
  · skip
    go_enter Tryz.func15, Tryz.ntmps15
    go_wp2_with fail
    refine (unhide HKO _).mono ?_
    rintro e w1 ⟨rfl, hk⟩
    have c0 := gr_cell (hk.cell (p := ⟨w.heap.size, 0, none⟩) (v := .int .i64 2) (by simp))
    have c1 := gr_cell (hk.cell (p := ⟨w.heap.size, 1, none⟩) (v := .int .i64 y) (by simp))
    have c2 := gr_cell (hk.cell (p := ⟨w.heap.size, 2, none⟩) (v := .int .i64 c) (by simp))
    have c3 := gr_cell (hk.cell (p := ⟨w.heap.size, 3, none⟩) (v := .int .i64 t) (by simp))
    have c4 := gr_cell (hk.cell (p := ⟨w.heap.size, 4, none⟩) (v := .int .i64 m) (by simp))
    have c5 := gr_cell (hk.cell (p := ⟨w.heap.size, 5, none⟩) (v := .int .i64 f) (by simp))
    have c6 := gr_cell (hk.cell (p := ⟨w.heap.size, 6, none⟩) (v := .bool b) (by simp))
    have HK := hide (Keeps.trans (Keeps.alloc (Keeps.refl w) _) hk)
    clear hk HKO
    go_wp2_with fail
    refine region_gr (by kernel_rfl) (by kernel_rfl) ?_
    repeat (go_big_quiet_step (first | (go_at_call 109; exact gr_call (unhide HRI _)) | (go_at_call 24; exact gr_call (unhide HEV _))))
    refine wpQuiet_nil ?_
    intro w2 hw2
    have hk2 := Keeps.of_gr hw2
    clear hw2
    go_wp2_with fail
    go_ret
    exact ⟨ret_ev (by simp), HK.out.trans hk2⟩
  · skip
    go_enter Tryz.func15, Tryz.ntmps15
    go_wp2_with fail
    refine (unhide HKO _).mono ?_
    rintro e w1 ⟨rfl, hk⟩
    have c0 := gr_cell (hk.cell (p := ⟨w.heap.size, 0, none⟩) (v := .int .i64 2) (by simp))
    have c1 := gr_cell (hk.cell (p := ⟨w.heap.size, 1, none⟩) (v := .int .i64 y) (by simp))
    have c2 := gr_cell (hk.cell (p := ⟨w.heap.size, 2, none⟩) (v := .int .i64 c) (by simp))
    have c3 := gr_cell (hk.cell (p := ⟨w.heap.size, 3, none⟩) (v := .int .i64 t) (by simp))
    have c4 := gr_cell (hk.cell (p := ⟨w.heap.size, 4, none⟩) (v := .int .i64 m) (by simp))
    have c5 := gr_cell (hk.cell (p := ⟨w.heap.size, 5, none⟩) (v := .int .i64 f) (by simp))
    have c6 := gr_cell (hk.cell (p := ⟨w.heap.size, 6, none⟩) (v := .bool b) (by simp))
    have HK := hide (Keeps.trans (Keeps.alloc (Keeps.refl w) _) hk)
    clear hk HKO
    go_wp2_with fail
    refine region_gr (by kernel_rfl) (by kernel_rfl) ?_
    repeat (go_big_quiet_step (first | (go_at_call 109; exact gr_call (unhide HRI _)) | (go_at_call 24; exact gr_call (unhide HEV _))))
    refine wpQuiet_nil ?_
    intro w2 hw2
    have hk2 := Keeps.of_gr hw2
    clear hw2
    go_wp2_with fail
    go_ret
    exact ⟨ret_ev (by simp), HK.out.trans hk2⟩
set_option maxHeartbeats 1000000 in
theorem evok_close (y c t m f : Int) (b : Bool) (w : World) : Calls Tryz.prog 15 #[evV 3 y c t m f b] w fun e w' => e = .returned (.bool ((fieldB true c 1 99 && fieldB true f 0 1125899906842624) && evEq 3 0 c 0 0 f false 3 y c t m f b)) ∧ Keeps w w' := by
  have hm : ∀ w : World, (method 265 69 (.agg #[.int .i64 c, .int .i64 f]) "loop.example/g00400/impl.right").run Tryz.prog w = .ok (112, .agg #[.int .i64 c, .int .i64 f]) w := fun _ => by kernel_rfl
  have HKO := hide (fun w1 => kindOf_close y c t m f b w1)
  have HRI := hide (fun w1 => right_close c f w1)
  have HEV := hide (fun w1 => eventOf_close c f w1)
  have hq := fun w1 => ev_eql 3 0 c 0 0 f false 3 y c t m f b w1
  generalize evEq 3 0 c 0 0 f false 3 y c t m f b = E at *
  generalize hr : (fieldB true c 1 99 && fieldB true f 0 1125899906842624) = r at *
  clear hr
  cases r
  · skip
    go_enter Tryz.func15, Tryz.ntmps15
    go_wp2_with fail
    refine (unhide HKO _).mono ?_
    rintro e w1 ⟨rfl, hk⟩
    have c0 := gr_cell (hk.cell (p := ⟨w.heap.size, 0, none⟩) (v := .int .i64 3) (by simp))
    have c1 := gr_cell (hk.cell (p := ⟨w.heap.size, 1, none⟩) (v := .int .i64 y) (by simp))
    have c2 := gr_cell (hk.cell (p := ⟨w.heap.size, 2, none⟩) (v := .int .i64 c) (by simp))
    have c3 := gr_cell (hk.cell (p := ⟨w.heap.size, 3, none⟩) (v := .int .i64 t) (by simp))
    have c4 := gr_cell (hk.cell (p := ⟨w.heap.size, 4, none⟩) (v := .int .i64 m) (by simp))
    have c5 := gr_cell (hk.cell (p := ⟨w.heap.size, 5, none⟩) (v := .int .i64 f) (by simp))
    have c6 := gr_cell (hk.cell (p := ⟨w.heap.size, 6, none⟩) (v := .bool b) (by simp))
    have HK := hide (Keeps.trans (Keeps.alloc (Keeps.refl w) _) hk)
    clear hk HKO
    go_wp2_with fail
    refine region_gr (by kernel_rfl) (by kernel_rfl) ?_
    repeat (go_big_quiet_step (first | (go_at_call 112; exact gr_call (unhide HRI _)) | (go_at_call 24; exact gr_call (unhide HEV _))))
    refine wpQuiet_nil ?_
    intro w2 hw2
    have hk2 := Keeps.of_gr hw2
    clear hw2
    go_wp2_with fail
    go_ret
    exact ⟨ret_ev (by simp), HK.out.trans hk2⟩
  · skip
    go_enter Tryz.func15, Tryz.ntmps15
    go_wp2_with fail
    refine (unhide HKO _).mono ?_
    rintro e w1 ⟨rfl, hk⟩
    have c0 := gr_cell (hk.cell (p := ⟨w.heap.size, 0, none⟩) (v := .int .i64 3) (by simp))
    have c1 := gr_cell (hk.cell (p := ⟨w.heap.size, 1, none⟩) (v := .int .i64 y) (by simp))
    have c2 := gr_cell (hk.cell (p := ⟨w.heap.size, 2, none⟩) (v := .int .i64 c) (by simp))
    have c3 := gr_cell (hk.cell (p := ⟨w.heap.size, 3, none⟩) (v := .int .i64 t) (by simp))
    have c4 := gr_cell (hk.cell (p := ⟨w.heap.size, 4, none⟩) (v := .int .i64 m) (by simp))
    have c5 := gr_cell (hk.cell (p := ⟨w.heap.size, 5, none⟩) (v := .int .i64 f) (by simp))
    have c6 := gr_cell (hk.cell (p := ⟨w.heap.size, 6, none⟩) (v := .bool b) (by simp))
    have HK := hide (Keeps.trans (Keeps.alloc (Keeps.refl w) _) hk)
    clear hk HKO
    go_wp2_with fail
    refine region_gr (by kernel_rfl) (by kernel_rfl) ?_
    repeat (go_big_quiet_step (first | (go_at_call 112; exact gr_call (unhide HRI _)) | (go_at_call 24; exact gr_call (unhide HEV _))))
    refine wpQuiet_nil ?_
    intro w2 hw2
    have hk2 := Keeps.of_gr hw2
    clear hw2
    go_wp2_with fail
    go_ret
    exact ⟨ret_ev (by simp), HK.out.trans hk2⟩
set_option maxHeartbeats 1000000 in
theorem evok_price (y c t m f : Int) (b : Bool) (w : World) : Calls Tryz.prog 15 #[evV 4 y c t m f b] w fun e w' => e = .returned (.bool ((fieldB true c 1 99 && fieldB true m 0 1125899906842624 && fieldB true f 0 1000000) && evEq 4 0 c 0 m f false 4 y c t m f b)) ∧ Keeps w w' := by
  have hm : ∀ w : World, (method 265 71 (.agg #[.int .i64 c, .int .i64 m, .int .i64 f]) "loop.example/g00400/impl.right").run Tryz.prog w = .ok (114, .agg #[.int .i64 c, .int .i64 m, .int .i64 f]) w := fun _ => by kernel_rfl
  have HKO := hide (fun w1 => kindOf_price y c t m f b w1)
  have HRI := hide (fun w1 => right_price c m f w1)
  have HEV := hide (fun w1 => eventOf_price c m f w1)
  have hq := fun w1 => ev_eql 4 0 c 0 m f false 4 y c t m f b w1
  generalize evEq 4 0 c 0 m f false 4 y c t m f b = E at *
  generalize hr : (fieldB true c 1 99 && fieldB true m 0 1125899906842624 && fieldB true f 0 1000000) = r at *
  clear hr
  cases r
  · skip
    go_enter Tryz.func15, Tryz.ntmps15
    go_wp2_with fail
    refine (unhide HKO _).mono ?_
    rintro e w1 ⟨rfl, hk⟩
    have c0 := gr_cell (hk.cell (p := ⟨w.heap.size, 0, none⟩) (v := .int .i64 4) (by simp))
    have c1 := gr_cell (hk.cell (p := ⟨w.heap.size, 1, none⟩) (v := .int .i64 y) (by simp))
    have c2 := gr_cell (hk.cell (p := ⟨w.heap.size, 2, none⟩) (v := .int .i64 c) (by simp))
    have c3 := gr_cell (hk.cell (p := ⟨w.heap.size, 3, none⟩) (v := .int .i64 t) (by simp))
    have c4 := gr_cell (hk.cell (p := ⟨w.heap.size, 4, none⟩) (v := .int .i64 m) (by simp))
    have c5 := gr_cell (hk.cell (p := ⟨w.heap.size, 5, none⟩) (v := .int .i64 f) (by simp))
    have c6 := gr_cell (hk.cell (p := ⟨w.heap.size, 6, none⟩) (v := .bool b) (by simp))
    have HK := hide (Keeps.trans (Keeps.alloc (Keeps.refl w) _) hk)
    clear hk HKO
    go_wp2_with fail
    refine region_gr (by kernel_rfl) (by kernel_rfl) ?_
    repeat (go_big_quiet_step (first | (go_at_call 114; exact gr_call (unhide HRI _)) | (go_at_call 24; exact gr_call (unhide HEV _))))
    refine wpQuiet_nil ?_
    intro w2 hw2
    have hk2 := Keeps.of_gr hw2
    clear hw2
    go_wp2_with fail
    go_ret
    exact ⟨ret_ev (by simp), HK.out.trans hk2⟩
  · skip
    go_enter Tryz.func15, Tryz.ntmps15
    go_wp2_with fail
    refine (unhide HKO _).mono ?_
    rintro e w1 ⟨rfl, hk⟩
    have c0 := gr_cell (hk.cell (p := ⟨w.heap.size, 0, none⟩) (v := .int .i64 4) (by simp))
    have c1 := gr_cell (hk.cell (p := ⟨w.heap.size, 1, none⟩) (v := .int .i64 y) (by simp))
    have c2 := gr_cell (hk.cell (p := ⟨w.heap.size, 2, none⟩) (v := .int .i64 c) (by simp))
    have c3 := gr_cell (hk.cell (p := ⟨w.heap.size, 3, none⟩) (v := .int .i64 t) (by simp))
    have c4 := gr_cell (hk.cell (p := ⟨w.heap.size, 4, none⟩) (v := .int .i64 m) (by simp))
    have c5 := gr_cell (hk.cell (p := ⟨w.heap.size, 5, none⟩) (v := .int .i64 f) (by simp))
    have c6 := gr_cell (hk.cell (p := ⟨w.heap.size, 6, none⟩) (v := .bool b) (by simp))
    have HK := hide (Keeps.trans (Keeps.alloc (Keeps.refl w) _) hk)
    clear hk HKO
    go_wp2_with fail
    refine region_gr (by kernel_rfl) (by kernel_rfl) ?_
    repeat (go_big_quiet_step (first | (go_at_call 114; exact gr_call (unhide HRI _)) | (go_at_call 24; exact gr_call (unhide HEV _))))
    refine wpQuiet_nil ?_
    intro w2 hw2
    have hk2 := Keeps.of_gr hw2
    clear hw2
    go_wp2_with fail
    go_ret
    exact ⟨ret_ev (by simp), HK.out.trans hk2⟩
set_option maxHeartbeats 1000000 in
theorem evok_admit (y c t m f : Int) (b : Bool) (w : World) : Calls Tryz.prog 15 #[evV 5 y c t m f b] w fun e w' => e = .returned (.bool ((fieldB true y 1 1000000 && chansB c t && fieldB true m 1 1125899906842624) && evEq 5 y c t m 0 b 5 y c t m f b)) ∧ Keeps w w' := by
  have hm : ∀ w : World, (method 265 73 (.agg #[.int .i64 y, .int .i64 c, .int .i64 t, .int .i64 m, .bool b]) "loop.example/g00400/impl.right").run Tryz.prog w = .ok (117, .agg #[.int .i64 y, .int .i64 c, .int .i64 t, .int .i64 m, .bool b]) w := fun _ => by kernel_rfl
  have HKO := hide (fun w1 => kindOf_admit y c t m f b w1)
  have HRI := hide (fun w1 => right_admit y c t m b w1)
  have HEV := hide (fun w1 => eventOf_admit y c t m b w1)
  have hq := fun w1 => ev_eql 5 y c t m 0 b 5 y c t m f b w1
  generalize evEq 5 y c t m 0 b 5 y c t m f b = E at *
  generalize hr : (fieldB true y 1 1000000 && chansB c t && fieldB true m 1 1125899906842624) = r at *
  clear hr
  cases r
  · skip
    go_enter Tryz.func15, Tryz.ntmps15
    go_wp2_with fail
    refine (unhide HKO _).mono ?_
    rintro e w1 ⟨rfl, hk⟩
    have c0 := gr_cell (hk.cell (p := ⟨w.heap.size, 0, none⟩) (v := .int .i64 5) (by simp))
    have c1 := gr_cell (hk.cell (p := ⟨w.heap.size, 1, none⟩) (v := .int .i64 y) (by simp))
    have c2 := gr_cell (hk.cell (p := ⟨w.heap.size, 2, none⟩) (v := .int .i64 c) (by simp))
    have c3 := gr_cell (hk.cell (p := ⟨w.heap.size, 3, none⟩) (v := .int .i64 t) (by simp))
    have c4 := gr_cell (hk.cell (p := ⟨w.heap.size, 4, none⟩) (v := .int .i64 m) (by simp))
    have c5 := gr_cell (hk.cell (p := ⟨w.heap.size, 5, none⟩) (v := .int .i64 f) (by simp))
    have c6 := gr_cell (hk.cell (p := ⟨w.heap.size, 6, none⟩) (v := .bool b) (by simp))
    have HK := hide (Keeps.trans (Keeps.alloc (Keeps.refl w) _) hk)
    clear hk HKO
    go_wp2_with fail
    refine region_gr (by kernel_rfl) (by kernel_rfl) ?_
    repeat (go_big_quiet_step (first | (go_at_call 117; exact gr_call (unhide HRI _)) | (go_at_call 24; exact gr_call (unhide HEV _))))
    refine wpQuiet_nil ?_
    intro w2 hw2
    have hk2 := Keeps.of_gr hw2
    clear hw2
    go_wp2_with fail
    go_ret
    exact ⟨ret_ev (by simp), HK.out.trans hk2⟩
  · skip
    go_enter Tryz.func15, Tryz.ntmps15
    go_wp2_with fail
    refine (unhide HKO _).mono ?_
    rintro e w1 ⟨rfl, hk⟩
    have c0 := gr_cell (hk.cell (p := ⟨w.heap.size, 0, none⟩) (v := .int .i64 5) (by simp))
    have c1 := gr_cell (hk.cell (p := ⟨w.heap.size, 1, none⟩) (v := .int .i64 y) (by simp))
    have c2 := gr_cell (hk.cell (p := ⟨w.heap.size, 2, none⟩) (v := .int .i64 c) (by simp))
    have c3 := gr_cell (hk.cell (p := ⟨w.heap.size, 3, none⟩) (v := .int .i64 t) (by simp))
    have c4 := gr_cell (hk.cell (p := ⟨w.heap.size, 4, none⟩) (v := .int .i64 m) (by simp))
    have c5 := gr_cell (hk.cell (p := ⟨w.heap.size, 5, none⟩) (v := .int .i64 f) (by simp))
    have c6 := gr_cell (hk.cell (p := ⟨w.heap.size, 6, none⟩) (v := .bool b) (by simp))
    have HK := hide (Keeps.trans (Keeps.alloc (Keeps.refl w) _) hk)
    clear hk HKO
    go_wp2_with fail
    refine region_gr (by kernel_rfl) (by kernel_rfl) ?_
    repeat (go_big_quiet_step (first | (go_at_call 117; exact gr_call (unhide HRI _)) | (go_at_call 24; exact gr_call (unhide HEV _))))
    refine wpQuiet_nil ?_
    intro w2 hw2
    have hk2 := Keeps.of_gr hw2
    clear hw2
    go_wp2_with fail
    go_ret
    exact ⟨ret_ev (by simp), HK.out.trans hk2⟩
set_option maxHeartbeats 1000000 in
theorem evok_fulfill (y c t m f : Int) (b : Bool) (w : World) : Calls Tryz.prog 15 #[evV 6 y c t m f b] w fun e w' => e = .returned (.bool ((fieldB true y 1 1000000) && evEq 6 y 0 0 0 0 false 6 y c t m f b)) ∧ Keeps w w' := by
  have hm : ∀ w : World, (method 265 75 (.agg #[.int .i64 y]) "loop.example/g00400/impl.right").run Tryz.prog w = .ok (121, .agg #[.int .i64 y]) w := fun _ => by kernel_rfl
  have HKO := hide (fun w1 => kindOf_fulfill y c t m f b w1)
  have HRI := hide (fun w1 => right_fulfill y w1)
  have HEV := hide (fun w1 => eventOf_fulfill y w1)
  have hq := fun w1 => ev_eql 6 y 0 0 0 0 false 6 y c t m f b w1
  generalize evEq 6 y 0 0 0 0 false 6 y c t m f b = E at *
  generalize hr : (fieldB true y 1 1000000) = r at *
  clear hr
  cases r
  · skip
    go_enter Tryz.func15, Tryz.ntmps15
    go_wp2_with fail
    refine (unhide HKO _).mono ?_
    rintro e w1 ⟨rfl, hk⟩
    have c0 := gr_cell (hk.cell (p := ⟨w.heap.size, 0, none⟩) (v := .int .i64 6) (by simp))
    have c1 := gr_cell (hk.cell (p := ⟨w.heap.size, 1, none⟩) (v := .int .i64 y) (by simp))
    have c2 := gr_cell (hk.cell (p := ⟨w.heap.size, 2, none⟩) (v := .int .i64 c) (by simp))
    have c3 := gr_cell (hk.cell (p := ⟨w.heap.size, 3, none⟩) (v := .int .i64 t) (by simp))
    have c4 := gr_cell (hk.cell (p := ⟨w.heap.size, 4, none⟩) (v := .int .i64 m) (by simp))
    have c5 := gr_cell (hk.cell (p := ⟨w.heap.size, 5, none⟩) (v := .int .i64 f) (by simp))
    have c6 := gr_cell (hk.cell (p := ⟨w.heap.size, 6, none⟩) (v := .bool b) (by simp))
    have HK := hide (Keeps.trans (Keeps.alloc (Keeps.refl w) _) hk)
    clear hk HKO
    go_wp2_with fail
    refine region_gr (by kernel_rfl) (by kernel_rfl) ?_
    repeat (go_big_quiet_step (first | (go_at_call 121; exact gr_call (unhide HRI _)) | (go_at_call 24; exact gr_call (unhide HEV _))))
    refine wpQuiet_nil ?_
    intro w2 hw2
    have hk2 := Keeps.of_gr hw2
    clear hw2
    go_wp2_with fail
    go_ret
    exact ⟨ret_ev (by simp), HK.out.trans hk2⟩
  · skip
    go_enter Tryz.func15, Tryz.ntmps15
    go_wp2_with fail
    refine (unhide HKO _).mono ?_
    rintro e w1 ⟨rfl, hk⟩
    have c0 := gr_cell (hk.cell (p := ⟨w.heap.size, 0, none⟩) (v := .int .i64 6) (by simp))
    have c1 := gr_cell (hk.cell (p := ⟨w.heap.size, 1, none⟩) (v := .int .i64 y) (by simp))
    have c2 := gr_cell (hk.cell (p := ⟨w.heap.size, 2, none⟩) (v := .int .i64 c) (by simp))
    have c3 := gr_cell (hk.cell (p := ⟨w.heap.size, 3, none⟩) (v := .int .i64 t) (by simp))
    have c4 := gr_cell (hk.cell (p := ⟨w.heap.size, 4, none⟩) (v := .int .i64 m) (by simp))
    have c5 := gr_cell (hk.cell (p := ⟨w.heap.size, 5, none⟩) (v := .int .i64 f) (by simp))
    have c6 := gr_cell (hk.cell (p := ⟨w.heap.size, 6, none⟩) (v := .bool b) (by simp))
    have HK := hide (Keeps.trans (Keeps.alloc (Keeps.refl w) _) hk)
    clear hk HKO
    go_wp2_with fail
    refine region_gr (by kernel_rfl) (by kernel_rfl) ?_
    repeat (go_big_quiet_step (first | (go_at_call 121; exact gr_call (unhide HRI _)) | (go_at_call 24; exact gr_call (unhide HEV _))))
    refine wpQuiet_nil ?_
    intro w2 hw2
    have hk2 := Keeps.of_gr hw2
    clear hw2
    go_wp2_with fail
    go_ret
    exact ⟨ret_ev (by simp), HK.out.trans hk2⟩
set_option maxHeartbeats 1000000 in
theorem evok_fail (y c t m f : Int) (b : Bool) (w : World) : Calls Tryz.prog 15 #[evV 7 y c t m f b] w fun e w' => e = .returned (.bool ((fieldB true y 1 1000000) && evEq 7 y 0 0 0 0 false 7 y c t m f b)) ∧ Keeps w w' := by
  have hm : ∀ w : World, (method 265 76 (.agg #[.int .i64 y]) "loop.example/g00400/impl.right").run Tryz.prog w = .ok (123, .agg #[.int .i64 y]) w := fun _ => by kernel_rfl
  have HKO := hide (fun w1 => kindOf_fail y c t m f b w1)
  have HRI := hide (fun w1 => right_fail y w1)
  have HEV := hide (fun w1 => eventOf_fail y w1)
  have hq := fun w1 => ev_eql 7 y 0 0 0 0 false 7 y c t m f b w1
  generalize evEq 7 y 0 0 0 0 false 7 y c t m f b = E at *
  generalize hr : (fieldB true y 1 1000000) = r at *
  clear hr
  cases r
  · skip
    go_enter Tryz.func15, Tryz.ntmps15
    go_wp2_with fail
    refine (unhide HKO _).mono ?_
    rintro e w1 ⟨rfl, hk⟩
    have c0 := gr_cell (hk.cell (p := ⟨w.heap.size, 0, none⟩) (v := .int .i64 7) (by simp))
    have c1 := gr_cell (hk.cell (p := ⟨w.heap.size, 1, none⟩) (v := .int .i64 y) (by simp))
    have c2 := gr_cell (hk.cell (p := ⟨w.heap.size, 2, none⟩) (v := .int .i64 c) (by simp))
    have c3 := gr_cell (hk.cell (p := ⟨w.heap.size, 3, none⟩) (v := .int .i64 t) (by simp))
    have c4 := gr_cell (hk.cell (p := ⟨w.heap.size, 4, none⟩) (v := .int .i64 m) (by simp))
    have c5 := gr_cell (hk.cell (p := ⟨w.heap.size, 5, none⟩) (v := .int .i64 f) (by simp))
    have c6 := gr_cell (hk.cell (p := ⟨w.heap.size, 6, none⟩) (v := .bool b) (by simp))
    have HK := hide (Keeps.trans (Keeps.alloc (Keeps.refl w) _) hk)
    clear hk HKO
    go_wp2_with fail
    refine region_gr (by kernel_rfl) (by kernel_rfl) ?_
    repeat (go_big_quiet_step (first | (go_at_call 123; exact gr_call (unhide HRI _)) | (go_at_call 24; exact gr_call (unhide HEV _))))
    refine wpQuiet_nil ?_
    intro w2 hw2
    have hk2 := Keeps.of_gr hw2
    clear hw2
    go_wp2_with fail
    go_ret
    exact ⟨ret_ev (by simp), HK.out.trans hk2⟩
  · skip
    go_enter Tryz.func15, Tryz.ntmps15
    go_wp2_with fail
    refine (unhide HKO _).mono ?_
    rintro e w1 ⟨rfl, hk⟩
    have c0 := gr_cell (hk.cell (p := ⟨w.heap.size, 0, none⟩) (v := .int .i64 7) (by simp))
    have c1 := gr_cell (hk.cell (p := ⟨w.heap.size, 1, none⟩) (v := .int .i64 y) (by simp))
    have c2 := gr_cell (hk.cell (p := ⟨w.heap.size, 2, none⟩) (v := .int .i64 c) (by simp))
    have c3 := gr_cell (hk.cell (p := ⟨w.heap.size, 3, none⟩) (v := .int .i64 t) (by simp))
    have c4 := gr_cell (hk.cell (p := ⟨w.heap.size, 4, none⟩) (v := .int .i64 m) (by simp))
    have c5 := gr_cell (hk.cell (p := ⟨w.heap.size, 5, none⟩) (v := .int .i64 f) (by simp))
    have c6 := gr_cell (hk.cell (p := ⟨w.heap.size, 6, none⟩) (v := .bool b) (by simp))
    have HK := hide (Keeps.trans (Keeps.alloc (Keeps.refl w) _) hk)
    clear hk HKO
    go_wp2_with fail
    refine region_gr (by kernel_rfl) (by kernel_rfl) ?_
    repeat (go_big_quiet_step (first | (go_at_call 123; exact gr_call (unhide HRI _)) | (go_at_call 24; exact gr_call (unhide HEV _))))
    refine wpQuiet_nil ?_
    intro w2 hw2
    have hk2 := Keeps.of_gr hw2
    clear hw2
    go_wp2_with fail
    go_ret
    exact ⟨ret_ev (by simp), HK.out.trans hk2⟩
set_option maxHeartbeats 1000000 in
theorem evok_tick (y c t m f : Int) (b : Bool) (w : World) : Calls Tryz.prog 15 #[evV 8 y c t m f b] w fun e w' => e = .returned (.bool ((true) && evEq 8 0 0 0 0 0 false 8 y c t m f b)) ∧ Keeps w w' := by
  have hm : ∀ w : World, (method 265 78 (.agg #[]) "loop.example/g00400/impl.right").run Tryz.prog w = .ok (125, .agg #[]) w := fun _ => by kernel_rfl
  have HKO := hide (fun w1 => kindOf_tick y c t m f b w1)
  have HRI := hide (fun w1 => right_tick  w1)
  have HEV := hide (fun w1 => eventOf_tick  w1)
  have hq := fun w1 => ev_eql 8 0 0 0 0 0 false 8 y c t m f b w1
  generalize evEq 8 0 0 0 0 0 false 8 y c t m f b = E at *
  go_enter Tryz.func15, Tryz.ntmps15
  go_wp2_with fail
  refine (unhide HKO _).mono ?_
  rintro e w1 ⟨rfl, hk⟩
  have c0 := gr_cell (hk.cell (p := ⟨w.heap.size, 0, none⟩) (v := .int .i64 8) (by simp))
  have c1 := gr_cell (hk.cell (p := ⟨w.heap.size, 1, none⟩) (v := .int .i64 y) (by simp))
  have c2 := gr_cell (hk.cell (p := ⟨w.heap.size, 2, none⟩) (v := .int .i64 c) (by simp))
  have c3 := gr_cell (hk.cell (p := ⟨w.heap.size, 3, none⟩) (v := .int .i64 t) (by simp))
  have c4 := gr_cell (hk.cell (p := ⟨w.heap.size, 4, none⟩) (v := .int .i64 m) (by simp))
  have c5 := gr_cell (hk.cell (p := ⟨w.heap.size, 5, none⟩) (v := .int .i64 f) (by simp))
  have c6 := gr_cell (hk.cell (p := ⟨w.heap.size, 6, none⟩) (v := .bool b) (by simp))
  have HK := hide (Keeps.trans (Keeps.alloc (Keeps.refl w) _) hk)
  clear hk HKO
  go_wp2_with fail
  refine region_gr (by kernel_rfl) (by kernel_rfl) ?_
  repeat (go_big_quiet_step (first | (go_at_call 125; exact gr_call (unhide HRI _)) | (go_at_call 24; exact gr_call (unhide HEV _))))
  refine wpQuiet_nil ?_
  intro w2 hw2
  have hk2 := Keeps.of_gr hw2
  clear hw2
  go_wp2_with fail
  go_ret
  exact ⟨ret_ev (by simp), HK.out.trans hk2⟩
set_option maxHeartbeats 1000000 in
theorem evok_launch (y c t m f : Int) (b : Bool) (w : World) : Calls Tryz.prog 15 #[evV 9 y c t m f b] w fun e w' => e = .returned (.bool ((fieldB true y 1 1000000 && chansB c t && fieldB true m 1 1125899906842624 && fieldB true f 0 1125899906842624) && evEq 9 y c t m f false 9 y c t m f b)) ∧ Keeps w w' := by
  have hm : ∀ w : World, (method 265 80 (.agg #[.int .i64 y, .int .i64 c, .int .i64 t, .int .i64 m, .int .i64 f]) "loop.example/g00400/impl.right").run Tryz.prog w = .ok (127, .agg #[.int .i64 y, .int .i64 c, .int .i64 t, .int .i64 m, .int .i64 f]) w := fun _ => by kernel_rfl
  have HKO := hide (fun w1 => kindOf_launch y c t m f b w1)
  have HRI := hide (fun w1 => right_launch y c t m f w1)
  have HEV := hide (fun w1 => eventOf_launch y c t m f w1)
  have hq := fun w1 => ev_eql 9 y c t m f false 9 y c t m f b w1
  generalize evEq 9 y c t m f false 9 y c t m f b = E at *
  generalize hr : (fieldB true y 1 1000000 && chansB c t && fieldB true m 1 1125899906842624 && fieldB true f 0 1125899906842624) = r at *
  clear hr
  cases r
  · skip
    go_enter Tryz.func15, Tryz.ntmps15
    go_wp2_with fail
    refine (unhide HKO _).mono ?_
    rintro e w1 ⟨rfl, hk⟩
    have c0 := gr_cell (hk.cell (p := ⟨w.heap.size, 0, none⟩) (v := .int .i64 9) (by simp))
    have c1 := gr_cell (hk.cell (p := ⟨w.heap.size, 1, none⟩) (v := .int .i64 y) (by simp))
    have c2 := gr_cell (hk.cell (p := ⟨w.heap.size, 2, none⟩) (v := .int .i64 c) (by simp))
    have c3 := gr_cell (hk.cell (p := ⟨w.heap.size, 3, none⟩) (v := .int .i64 t) (by simp))
    have c4 := gr_cell (hk.cell (p := ⟨w.heap.size, 4, none⟩) (v := .int .i64 m) (by simp))
    have c5 := gr_cell (hk.cell (p := ⟨w.heap.size, 5, none⟩) (v := .int .i64 f) (by simp))
    have c6 := gr_cell (hk.cell (p := ⟨w.heap.size, 6, none⟩) (v := .bool b) (by simp))
    have HK := hide (Keeps.trans (Keeps.alloc (Keeps.refl w) _) hk)
    clear hk HKO
    go_wp2_with fail
    refine region_gr (by kernel_rfl) (by kernel_rfl) ?_
    repeat (go_big_quiet_step (first | (go_at_call 127; exact gr_call (unhide HRI _)) | (go_at_call 24; exact gr_call (unhide HEV _))))
    refine wpQuiet_nil ?_
    intro w2 hw2
    have hk2 := Keeps.of_gr hw2
    clear hw2
    go_wp2_with fail
    go_ret
    exact ⟨ret_ev (by simp), HK.out.trans hk2⟩
  · skip
    go_enter Tryz.func15, Tryz.ntmps15
    go_wp2_with fail
    refine (unhide HKO _).mono ?_
    rintro e w1 ⟨rfl, hk⟩
    have c0 := gr_cell (hk.cell (p := ⟨w.heap.size, 0, none⟩) (v := .int .i64 9) (by simp))
    have c1 := gr_cell (hk.cell (p := ⟨w.heap.size, 1, none⟩) (v := .int .i64 y) (by simp))
    have c2 := gr_cell (hk.cell (p := ⟨w.heap.size, 2, none⟩) (v := .int .i64 c) (by simp))
    have c3 := gr_cell (hk.cell (p := ⟨w.heap.size, 3, none⟩) (v := .int .i64 t) (by simp))
    have c4 := gr_cell (hk.cell (p := ⟨w.heap.size, 4, none⟩) (v := .int .i64 m) (by simp))
    have c5 := gr_cell (hk.cell (p := ⟨w.heap.size, 5, none⟩) (v := .int .i64 f) (by simp))
    have c6 := gr_cell (hk.cell (p := ⟨w.heap.size, 6, none⟩) (v := .bool b) (by simp))
    have HK := hide (Keeps.trans (Keeps.alloc (Keeps.refl w) _) hk)
    clear hk HKO
    go_wp2_with fail
    refine region_gr (by kernel_rfl) (by kernel_rfl) ?_
    repeat (go_big_quiet_step (first | (go_at_call 127; exact gr_call (unhide HRI _)) | (go_at_call 24; exact gr_call (unhide HEV _))))
    refine wpQuiet_nil ?_
    intro w2 hw2
    have hk2 := Keeps.of_gr hw2
    clear hw2
    go_wp2_with fail
    go_ret
    exact ⟨ret_ev (by simp), HK.out.trans hk2⟩
set_option maxHeartbeats 1000000 in
theorem evok_arrive (y c t m f : Int) (b : Bool) (w : World) : Calls Tryz.prog 15 #[evV 10 y c t m f b] w fun e w' => e = .returned (.bool ((fieldB true y 1 1000000) && evEq 10 y 0 0 0 0 false 10 y c t m f b)) ∧ Keeps w w' := by
  have hm : ∀ w : World, (method 265 81 (.agg #[.int .i64 y]) "loop.example/g00400/impl.right").run Tryz.prog w = .ok (129, .agg #[.int .i64 y]) w := fun _ => by kernel_rfl
  have HKO := hide (fun w1 => kindOf_arrive y c t m f b w1)
  have HRI := hide (fun w1 => right_arrive y w1)
  have HEV := hide (fun w1 => eventOf_arrive y w1)
  have hq := fun w1 => ev_eql 10 y 0 0 0 0 false 10 y c t m f b w1
  generalize evEq 10 y 0 0 0 0 false 10 y c t m f b = E at *
  generalize hr : (fieldB true y 1 1000000) = r at *
  clear hr
  cases r
  · skip
    go_enter Tryz.func15, Tryz.ntmps15
    go_wp2_with fail
    refine (unhide HKO _).mono ?_
    rintro e w1 ⟨rfl, hk⟩
    have c0 := gr_cell (hk.cell (p := ⟨w.heap.size, 0, none⟩) (v := .int .i64 10) (by simp))
    have c1 := gr_cell (hk.cell (p := ⟨w.heap.size, 1, none⟩) (v := .int .i64 y) (by simp))
    have c2 := gr_cell (hk.cell (p := ⟨w.heap.size, 2, none⟩) (v := .int .i64 c) (by simp))
    have c3 := gr_cell (hk.cell (p := ⟨w.heap.size, 3, none⟩) (v := .int .i64 t) (by simp))
    have c4 := gr_cell (hk.cell (p := ⟨w.heap.size, 4, none⟩) (v := .int .i64 m) (by simp))
    have c5 := gr_cell (hk.cell (p := ⟨w.heap.size, 5, none⟩) (v := .int .i64 f) (by simp))
    have c6 := gr_cell (hk.cell (p := ⟨w.heap.size, 6, none⟩) (v := .bool b) (by simp))
    have HK := hide (Keeps.trans (Keeps.alloc (Keeps.refl w) _) hk)
    clear hk HKO
    go_wp2_with fail
    refine region_gr (by kernel_rfl) (by kernel_rfl) ?_
    repeat (go_big_quiet_step (first | (go_at_call 129; exact gr_call (unhide HRI _)) | (go_at_call 24; exact gr_call (unhide HEV _))))
    refine wpQuiet_nil ?_
    intro w2 hw2
    have hk2 := Keeps.of_gr hw2
    clear hw2
    go_wp2_with fail
    go_ret
    exact ⟨ret_ev (by simp), HK.out.trans hk2⟩
  · skip
    go_enter Tryz.func15, Tryz.ntmps15
    go_wp2_with fail
    refine (unhide HKO _).mono ?_
    rintro e w1 ⟨rfl, hk⟩
    have c0 := gr_cell (hk.cell (p := ⟨w.heap.size, 0, none⟩) (v := .int .i64 10) (by simp))
    have c1 := gr_cell (hk.cell (p := ⟨w.heap.size, 1, none⟩) (v := .int .i64 y) (by simp))
    have c2 := gr_cell (hk.cell (p := ⟨w.heap.size, 2, none⟩) (v := .int .i64 c) (by simp))
    have c3 := gr_cell (hk.cell (p := ⟨w.heap.size, 3, none⟩) (v := .int .i64 t) (by simp))
    have c4 := gr_cell (hk.cell (p := ⟨w.heap.size, 4, none⟩) (v := .int .i64 m) (by simp))
    have c5 := gr_cell (hk.cell (p := ⟨w.heap.size, 5, none⟩) (v := .int .i64 f) (by simp))
    have c6 := gr_cell (hk.cell (p := ⟨w.heap.size, 6, none⟩) (v := .bool b) (by simp))
    have HK := hide (Keeps.trans (Keeps.alloc (Keeps.refl w) _) hk)
    clear hk HKO
    go_wp2_with fail
    refine region_gr (by kernel_rfl) (by kernel_rfl) ?_
    repeat (go_big_quiet_step (first | (go_at_call 129; exact gr_call (unhide HRI _)) | (go_at_call 24; exact gr_call (unhide HEV _))))
    refine wpQuiet_nil ?_
    intro w2 hw2
    have hk2 := Keeps.of_gr hw2
    clear hw2
    go_wp2_with fail
    go_ret
    exact ⟨ret_ev (by simp), HK.out.trans hk2⟩
set_option maxHeartbeats 1000000 in
theorem evok_lost (y c t m f : Int) (b : Bool) (w : World) : Calls Tryz.prog 15 #[evV 11 y c t m f b] w fun e w' => e = .returned (.bool ((fieldB true y 1 1000000) && evEq 11 y 0 0 0 0 false 11 y c t m f b)) ∧ Keeps w w' := by
  have hm : ∀ w : World, (method 265 82 (.agg #[.int .i64 y]) "loop.example/g00400/impl.right").run Tryz.prog w = .ok (131, .agg #[.int .i64 y]) w := fun _ => by kernel_rfl
  have HKO := hide (fun w1 => kindOf_lost y c t m f b w1)
  have HRI := hide (fun w1 => right_lost y w1)
  have HEV := hide (fun w1 => eventOf_lost y w1)
  have hq := fun w1 => ev_eql 11 y 0 0 0 0 false 11 y c t m f b w1
  generalize evEq 11 y 0 0 0 0 false 11 y c t m f b = E at *
  generalize hr : (fieldB true y 1 1000000) = r at *
  clear hr
  cases r
  · skip
    go_enter Tryz.func15, Tryz.ntmps15
    go_wp2_with fail
    refine (unhide HKO _).mono ?_
    rintro e w1 ⟨rfl, hk⟩
    have c0 := gr_cell (hk.cell (p := ⟨w.heap.size, 0, none⟩) (v := .int .i64 11) (by simp))
    have c1 := gr_cell (hk.cell (p := ⟨w.heap.size, 1, none⟩) (v := .int .i64 y) (by simp))
    have c2 := gr_cell (hk.cell (p := ⟨w.heap.size, 2, none⟩) (v := .int .i64 c) (by simp))
    have c3 := gr_cell (hk.cell (p := ⟨w.heap.size, 3, none⟩) (v := .int .i64 t) (by simp))
    have c4 := gr_cell (hk.cell (p := ⟨w.heap.size, 4, none⟩) (v := .int .i64 m) (by simp))
    have c5 := gr_cell (hk.cell (p := ⟨w.heap.size, 5, none⟩) (v := .int .i64 f) (by simp))
    have c6 := gr_cell (hk.cell (p := ⟨w.heap.size, 6, none⟩) (v := .bool b) (by simp))
    have HK := hide (Keeps.trans (Keeps.alloc (Keeps.refl w) _) hk)
    clear hk HKO
    go_wp2_with fail
    refine region_gr (by kernel_rfl) (by kernel_rfl) ?_
    repeat (go_big_quiet_step (first | (go_at_call 131; exact gr_call (unhide HRI _)) | (go_at_call 24; exact gr_call (unhide HEV _))))
    refine wpQuiet_nil ?_
    intro w2 hw2
    have hk2 := Keeps.of_gr hw2
    clear hw2
    go_wp2_with fail
    go_ret
    exact ⟨ret_ev (by simp), HK.out.trans hk2⟩
  · skip
    go_enter Tryz.func15, Tryz.ntmps15
    go_wp2_with fail
    refine (unhide HKO _).mono ?_
    rintro e w1 ⟨rfl, hk⟩
    have c0 := gr_cell (hk.cell (p := ⟨w.heap.size, 0, none⟩) (v := .int .i64 11) (by simp))
    have c1 := gr_cell (hk.cell (p := ⟨w.heap.size, 1, none⟩) (v := .int .i64 y) (by simp))
    have c2 := gr_cell (hk.cell (p := ⟨w.heap.size, 2, none⟩) (v := .int .i64 c) (by simp))
    have c3 := gr_cell (hk.cell (p := ⟨w.heap.size, 3, none⟩) (v := .int .i64 t) (by simp))
    have c4 := gr_cell (hk.cell (p := ⟨w.heap.size, 4, none⟩) (v := .int .i64 m) (by simp))
    have c5 := gr_cell (hk.cell (p := ⟨w.heap.size, 5, none⟩) (v := .int .i64 f) (by simp))
    have c6 := gr_cell (hk.cell (p := ⟨w.heap.size, 6, none⟩) (v := .bool b) (by simp))
    have HK := hide (Keeps.trans (Keeps.alloc (Keeps.refl w) _) hk)
    clear hk HKO
    go_wp2_with fail
    refine region_gr (by kernel_rfl) (by kernel_rfl) ?_
    repeat (go_big_quiet_step (first | (go_at_call 131; exact gr_call (unhide HRI _)) | (go_at_call 24; exact gr_call (unhide HEV _))))
    refine wpQuiet_nil ?_
    intro w2 hw2
    have hk2 := Keeps.of_gr hw2
    clear hw2
    go_wp2_with fail
    go_ret
    exact ⟨ret_ev (by simp), HK.out.trans hk2⟩
set_option maxHeartbeats 1000000 in
theorem evok_unknown (k y c t m f : Int) (b : Bool) (w : World) (h : k < 1 ∨ 11 < k) : Calls Tryz.prog 15 #[evV k y c t m f b] w fun e w' => e = .returned (.bool (false)) ∧ Keeps w w' := by
  have hm : ∀ w : World, (method 265 83 (.agg #[]) "loop.example/g00400/impl.right").run Tryz.prog w = .ok (133, .agg #[]) w := fun _ => by kernel_rfl
  have HKO := hide (fun w1 => kindOf_unknown k y c t m f b w1 h)
  clear h
  have HRI := hide (fun w1 => right_unknown w1)
  go_enter Tryz.func15, Tryz.ntmps15
  go_wp2_with fail
  refine (unhide HKO _).mono ?_
  rintro e w1 ⟨rfl, hk⟩
  have c0 := gr_cell (hk.cell (p := ⟨w.heap.size, 0, none⟩) (v := .int .i64 k) (by simp))
  have c1 := gr_cell (hk.cell (p := ⟨w.heap.size, 1, none⟩) (v := .int .i64 y) (by simp))
  have c2 := gr_cell (hk.cell (p := ⟨w.heap.size, 2, none⟩) (v := .int .i64 c) (by simp))
  have c3 := gr_cell (hk.cell (p := ⟨w.heap.size, 3, none⟩) (v := .int .i64 t) (by simp))
  have c4 := gr_cell (hk.cell (p := ⟨w.heap.size, 4, none⟩) (v := .int .i64 m) (by simp))
  have c5 := gr_cell (hk.cell (p := ⟨w.heap.size, 5, none⟩) (v := .int .i64 f) (by simp))
  have c6 := gr_cell (hk.cell (p := ⟨w.heap.size, 6, none⟩) (v := .bool b) (by simp))
  have HK := hide (Keeps.trans (Keeps.alloc (Keeps.refl w) _) hk)
  clear hk HKO
  go_wp2_with fail
  refine region_gr (by kernel_rfl) (by kernel_rfl) ?_
  repeat (go_big_quiet_step (first | (go_at_call 133; exact gr_call (unhide HRI _))))
  refine wpQuiet_nil ?_
  intro w2 hw2
  have hk2 := Keeps.of_gr hw2
  clear hw2
  go_wp2_with fail
  go_ret
  exact ⟨ret_ev (by simp), HK.out.trans hk2⟩
theorem evok_impl (k y c t m f : Int) (b : Bool) (w : World) : Calls Tryz.prog 15 #[evV k y c t m f b] w fun e w' => e = .returned (.bool (evB k y c t m f b)) ∧ Keeps w w' := by
  by_cases h : k < 1 ∨ 11 < k
  · refine (evok_unknown k y c t m f b w h).mono fun e w' ⟨he, hk⟩ => ⟨?_, hk⟩
    rw [he]
    exact ret_ev (by unfold evB; repeat rw [if_neg (by omega)])
  · have hk : k = 1 ∨ k = 2 ∨ k = 3 ∨ k = 4 ∨ k = 5 ∨ k = 6 ∨ k = 7 ∨ k = 8 ∨ k = 9 ∨ k = 10 ∨ k = 11 := by omega
    rcases hk with rfl | rfl | rfl | rfl | rfl | rfl | rfl | rfl | rfl | rfl | rfl
    · refine (evok_deposit y c t m f b w).mono fun e w' ⟨he, hk⟩ => ⟨?_, hk⟩
      rw [he]
      refine ret_ev ?_
      rw [Bool.eq_iff_iff]
      cases b <;> simp [evB, evEq, fieldB, chansB] <;> omega
    · refine (evok_open y c t m f b w).mono fun e w' ⟨he, hk⟩ => ⟨?_, hk⟩
      rw [he]
      refine ret_ev ?_
      rw [Bool.eq_iff_iff]
      cases b <;> simp [evB, evEq, fieldB, chansB] <;> omega
    · refine (evok_close y c t m f b w).mono fun e w' ⟨he, hk⟩ => ⟨?_, hk⟩
      rw [he]
      refine ret_ev ?_
      rw [Bool.eq_iff_iff]
      cases b <;> simp [evB, evEq, fieldB, chansB] <;> omega
    · refine (evok_price y c t m f b w).mono fun e w' ⟨he, hk⟩ => ⟨?_, hk⟩
      rw [he]
      refine ret_ev ?_
      rw [Bool.eq_iff_iff]
      cases b <;> simp [evB, evEq, fieldB, chansB] <;> omega
    · refine (evok_admit y c t m f b w).mono fun e w' ⟨he, hk⟩ => ⟨?_, hk⟩
      rw [he]
      refine ret_ev ?_
      rw [Bool.eq_iff_iff]
      cases b <;> simp [evB, evEq, fieldB, chansB] <;> omega
    · refine (evok_fulfill y c t m f b w).mono fun e w' ⟨he, hk⟩ => ⟨?_, hk⟩
      rw [he]
      refine ret_ev ?_
      rw [Bool.eq_iff_iff]
      cases b <;> simp [evB, evEq, fieldB, chansB] <;> omega
    · refine (evok_fail y c t m f b w).mono fun e w' ⟨he, hk⟩ => ⟨?_, hk⟩
      rw [he]
      refine ret_ev ?_
      rw [Bool.eq_iff_iff]
      cases b <;> simp [evB, evEq, fieldB, chansB] <;> omega
    · refine (evok_tick y c t m f b w).mono fun e w' ⟨he, hk⟩ => ⟨?_, hk⟩
      rw [he]
      refine ret_ev ?_
      rw [Bool.eq_iff_iff]
      cases b <;> simp [evB, evEq, fieldB, chansB] <;> omega
    · refine (evok_launch y c t m f b w).mono fun e w' ⟨he, hk⟩ => ⟨?_, hk⟩
      rw [he]
      refine ret_ev ?_
      rw [Bool.eq_iff_iff]
      cases b <;> simp [evB, evEq, fieldB, chansB] <;> omega
    · refine (evok_arrive y c t m f b w).mono fun e w' ⟨he, hk⟩ => ⟨?_, hk⟩
      rw [he]
      refine ret_ev ?_
      rw [Bool.eq_iff_iff]
      cases b <;> simp [evB, evEq, fieldB, chansB] <;> omega
    · refine (evok_lost y c t m f b w).mono fun e w' ⟨he, hk⟩ => ⟨?_, hk⟩
      rw [he]
      refine ret_ev ?_
      rw [Bool.eq_iff_iff]
      cases b <;> simp [evB, evEq, fieldB, chansB] <;> omega
end Go.Proofs.YtpkkdkdecajekaaGreatDoor
