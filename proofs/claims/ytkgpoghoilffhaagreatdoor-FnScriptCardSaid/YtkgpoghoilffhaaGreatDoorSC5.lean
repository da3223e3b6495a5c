/- Texts of the verifier, joined: EvJ, Vars, Txt. -/
import Derived.Test.YtkgpoghoilffhaaGreatDoorSC4
import Derived.Test.YtkgpoghoilffhaaGreatDoorSC1
import Derived.Deep.RegionHeld3
import Derived.Deep.DrawnRows
import Derived.Test.YtkgpoghoilffhaaGreatDoorSC3
namespace Go.Proofs.YtkgpoghoilffhaaGreatDoor
open Go.RowKit
set_option linter.unusedVariables false
set_option maxRecDepth 10000
set_option linter.unusedSimpArgs false
theorem ta1 (g : Nat) (v : Value) (h : g = 112 ∨ g = 114 ∨ g = 116 ∨ g = 118 ∨ g = 120 ∨ g = 121 ∨ g = 123 ∨ g = 125 ∨ g = 126 ∨ g = 127) (w : World) : (Instr.typeAssert (.iface g v) 73 110 true).run Tryz.prog w = .ok (.tuple #[.agg #[.int .i64 0], .bool false]) w := by
  rcases h with rfl | rfl | rfl | rfl | rfl | rfl | rfl | rfl | rfl | rfl <;> kernel_rfl
theorem ta2 (g : Nat) (v : Value) (h : g = 114 ∨ g = 116 ∨ g = 118 ∨ g = 120 ∨ g = 121 ∨ g = 123 ∨ g = 125 ∨ g = 126 ∨ g = 127) (w : World) : (Instr.typeAssert (.iface g v) 73 112 true).run Tryz.prog w = .ok (.tuple #[.agg #[.int .i64 0, .int .i64 0, .int .i64 0], .bool false]) w := by
  rcases h with rfl | rfl | rfl | rfl | rfl | rfl | rfl | rfl | rfl <;> kernel_rfl
theorem ta3 (g : Nat) (v : Value) (h : g = 116 ∨ g = 118 ∨ g = 120 ∨ g = 121 ∨ g = 123 ∨ g = 125 ∨ g = 126 ∨ g = 127) (w : World) : (Instr.typeAssert (.iface g v) 73 114 true).run Tryz.prog w = .ok (.tuple #[.agg #[.int .i64 0, .int .i64 0], .bool false]) w := by
  rcases h with rfl | rfl | rfl | rfl | rfl | rfl | rfl | rfl <;> kernel_rfl
theorem ta4 (g : Nat) (v : Value) (h : g = 118 ∨ g = 120 ∨ g = 121 ∨ g = 123 ∨ g = 125 ∨ g = 126 ∨ g = 127) (w : World) : (Instr.typeAssert (.iface g v) 73 116 true).run Tryz.prog w = .ok (.tuple #[.agg #[.int .i64 0, .int .i64 0, .int .i64 0], .bool false]) w := by
  rcases h with rfl | rfl | rfl | rfl | rfl | rfl | rfl <;> kernel_rfl
theorem ta5 (g : Nat) (v : Value) (h : g = 120 ∨ g = 121 ∨ g = 123 ∨ g = 125 ∨ g = 126 ∨ g = 127) (w : World) : (Instr.typeAssert (.iface g v) 73 118 true).run Tryz.prog w = .ok (.tuple #[.agg #[.int .i64 0, .int .i64 0, .int .i64 0, .int .i64 0, .bool false], .bool false]) w := by
  rcases h with rfl | rfl | rfl | rfl | rfl | rfl <;> kernel_rfl
theorem ta6 (g : Nat) (v : Value) (h : g = 121 ∨ g = 123 ∨ g = 125 ∨ g = 126 ∨ g = 127) (w : World) : (Instr.typeAssert (.iface g v) 73 120 true).run Tryz.prog w = .ok (.tuple #[.agg #[.int .i64 0], .bool false]) w := by
  rcases h with rfl | rfl | rfl | rfl | rfl <;> kernel_rfl
theorem ta7 (g : Nat) (v : Value) (h : g = 123 ∨ g = 125 ∨ g = 126 ∨ g = 127) (w : World) : (Instr.typeAssert (.iface g v) 73 121 true).run Tryz.prog w = .ok (.tuple #[.agg #[.int .i64 0], .bool false]) w := by
  rcases h with rfl | rfl | rfl | rfl <;> kernel_rfl
theorem ta8 (g : Nat) (v : Value) (h : g = 125 ∨ g = 126 ∨ g = 127) (w : World) : (Instr.typeAssert (.iface g v) 73 123 true).run Tryz.prog w = .ok (.tuple #[.agg #[], .bool false]) w := by
  rcases h with rfl | rfl | rfl <;> kernel_rfl
theorem ta9 (g : Nat) (v : Value) (h : g = 126 ∨ g = 127) (w : World) : (Instr.typeAssert (.iface g v) 73 125 true).run Tryz.prog w = .ok (.tuple #[.agg #[.int .i64 0, .int .i64 0, .int .i64 0, .int .i64 0, .int .i64 0], .bool false]) w := by
  rcases h with rfl | rfl <;> kernel_rfl
theorem ta10 (g : Nat) (v : Value) (h : g = 127) (w : World) : (Instr.typeAssert (.iface g v) 73 126 true).run Tryz.prog w = .ok (.tuple #[.agg #[.int .i64 0], .bool false]) w := by
  subst h <;> kernel_rfl
set_option maxHeartbeats 1000000 in
theorem eventOf_deposit (m : Int) (w : World) : Calls Tryz.prog 64 #[.iface 110 (.agg #[.int .i64 m])] w fun e w' => e = .returned (evV 1 0 0 0 m 0 false) ∧ Keeps w w' := by
  have a1 : ∀ w : World, (Instr.typeAssert (.iface 110 (.agg #[.int .i64 m])) 73 110 true).run Tryz.prog w = .ok (.tuple #[.agg #[.int .i64 m], .bool true]) w := fun _ => by kernel_rfl
  go_enter Tryz.func64, Tryz.ntmps64
  go_wp2
  refine bodyPost_ret (v := evV 1 0 0 0 m 0 false) (by simp [results, Tryz.results64, go_sem]) rfl ⟨rfl, ?_⟩
  repeat (first | exact Keeps.refl _ | refine Keeps.alloc ?_ _ | refine Keeps.setCell ?_ (by simp) _)
set_option maxHeartbeats 1000000 in
theorem eventOf_open (c m f : Int) (w : World) : Calls Tryz.prog 64 #[.iface 112 (.agg #[.int .i64 c, .int .i64 m, .int .i64 f])] w fun e w' => e = .returned (evV 2 0 c 0 m f false) ∧ Keeps w w' := by
  have a1 := ta1 112 (.agg #[.int .i64 c, .int .i64 m, .int .i64 f]) (by simp)
  have a2 : ∀ w : World, (Instr.typeAssert (.iface 112 (.agg #[.int .i64 c, .int .i64 m, .int .i64 f])) 73 112 true).run Tryz.prog w = .ok (.tuple #[.agg #[.int .i64 c, .int .i64 m, .int .i64 f], .bool true]) w := fun _ => by kernel_rfl
  go_enter Tryz.func64, Tryz.ntmps64
  go_wp2
  refine bodyPost_ret (v := evV 2 0 c 0 m f false) (by simp [results, Tryz.results64, go_sem]) rfl ⟨rfl, ?_⟩
  repeat (first | exact Keeps.refl _ | refine Keeps.alloc ?_ _ | refine Keeps.setCell ?_ (by simp) _)
set_option maxHeartbeats 1000000 in
theorem eventOf_close (c f : Int) (w : World) : Calls Tryz.prog 64 #[.iface 114 (.agg #[.int .i64 c, .int .i64 f])] w fun e w' => e = .returned (evV 3 0 c 0 0 f false) ∧ Keeps w w' := by
  have a1 := ta1 114 (.agg #[.int .i64 c, .int .i64 f]) (by simp)
  have a2 := ta2 114 (.agg #[.int .i64 c, .int .i64 f]) (by simp)
  have a3 : ∀ w : World, (Instr.typeAssert (.iface 114 (.agg #[.int .i64 c, .int .i64 f])) 73 114 true).run Tryz.prog w = .ok (.tuple #[.agg #[.int .i64 c, .int .i64 f], .bool true]) w := fun _ => by kernel_rfl
  go_enter Tryz.func64, Tryz.ntmps64
  go_wp2
  refine bodyPost_ret (v := evV 3 0 c 0 0 f false) (by simp [results, Tryz.results64, go_sem]) rfl ⟨rfl, ?_⟩
  repeat (first | exact Keeps.refl _ | refine Keeps.alloc ?_ _ | refine Keeps.setCell ?_ (by simp) _)
set_option maxHeartbeats 1000000 in
theorem eventOf_price (c m f : Int) (w : World) : Calls Tryz.prog 64 #[.iface 116 (.agg #[.int .i64 c, .int .i64 m, .int .i64 f])] w fun e w' => e = .returned (evV 4 0 c 0 m f false) ∧ Keeps w w' := by
  have a1 := ta1 116 (.agg #[.int .i64 c, .int .i64 m, .int .i64 f]) (by simp)
  have a2 := ta2 116 (.agg #[.int .i64 c, .int .i64 m, .int .i64 f]) (by simp)
  have a3 := ta3 116 (.agg #[.int .i64 c, .int .i64 m, .int .i64 f]) (by simp)
  have a4 : ∀ w : World, (Instr.typeAssert (.iface 116 (.agg #[.int .i64 c, .int .i64 m, .int .i64 f])) 73 116 true).run Tryz.prog w = .ok (.tuple #[.agg #[.int .i64 c, .int .i64 m, .int .i64 f], .bool true]) w := fun _ => by kernel_rfl
  go_enter Tryz.func64, Tryz.ntmps64
  go_wp2
  refine bodyPost_ret (v := evV 4 0 c 0 m f false) (by simp [results, Tryz.results64, go_sem]) rfl ⟨rfl, ?_⟩
  repeat (first | exact Keeps.refl _ | refine Keeps.alloc ?_ _ | refine Keeps.setCell ?_ (by simp) _)
set_option maxHeartbeats 1000000 in
theorem eventOf_admit (y c t m : Int) (b : Bool) (w : World) : Calls Tryz.prog 64 #[.iface 118 (.agg #[.int .i64 y, .int .i64 c, .int .i64 t, .int .i64 m, .bool b])] w fun e w' => e = .returned (evV 5 y c t m 0 b) ∧ Keeps w w' := by
  have a1 := ta1 118 (.agg #[.int .i64 y, .int .i64 c, .int .i64 t, .int .i64 m, .bool b]) (by simp)
  have a2 := ta2 118 (.agg #[.int .i64 y, .int .i64 c, .int .i64 t, .int .i64 m, .bool b]) (by simp)
  have a3 := ta3 118 (.agg #[.int .i64 y, .int .i64 c, .int .i64 t, .int .i64 m, .bool b]) (by simp)
  have a4 := ta4 118 (.agg #[.int .i64 y, .int .i64 c, .int .i64 t, .int .i64 m, .bool b]) (by simp)
  have a5 : ∀ w : World, (Instr.typeAssert (.iface 118 (.agg #[.int .i64 y, .int .i64 c, .int .i64 t, .int .i64 m, .bool b])) 73 118 true).run Tryz.prog w = .ok (.tuple #[.agg #[.int .i64 y, .int .i64 c, .int .i64 t, .int .i64 m, .bool b], .bool true]) w := fun _ => by kernel_rfl
  go_enter Tryz.func64, Tryz.ntmps64
  go_wp2
  refine bodyPost_ret (v := evV 5 y c t m 0 b) (by simp [results, Tryz.results64, go_sem]) rfl ⟨rfl, ?_⟩
  repeat (first | exact Keeps.refl _ | refine Keeps.alloc ?_ _ | refine Keeps.setCell ?_ (by simp) _)
set_option maxHeartbeats 1000000 in
theorem eventOf_fulfill (y : Int) (w : World) : Calls Tryz.prog 64 #[.iface 120 (.agg #[.int .i64 y])] w fun e w' => e = .returned (evV 6 y 0 0 0 0 false) ∧ Keeps w w' := by
  have a1 := ta1 120 (.agg #[.int .i64 y]) (by simp)
  have a2 := ta2 120 (.agg #[.int .i64 y]) (by simp)
  have a3 := ta3 120 (.agg #[.int .i64 y]) (by simp)
  have a4 := ta4 120 (.agg #[.int .i64 y]) (by simp)
  have a5 := ta5 120 (.agg #[.int .i64 y]) (by simp)
  have a6 : ∀ w : World, (Instr.typeAssert (.iface 120 (.agg #[.int .i64 y])) 73 120 true).run Tryz.prog w = .ok (.tuple #[.agg #[.int .i64 y], .bool true]) w := fun _ => by kernel_rfl
  go_enter Tryz.func64, Tryz.ntmps64
  go_wp2
  refine bodyPost_ret (v := evV 6 y 0 0 0 0 false) (by simp [results, Tryz.results64, go_sem]) rfl ⟨rfl, ?_⟩
  repeat (first | exact Keeps.refl _ | refine Keeps.alloc ?_ _ | refine Keeps.setCell ?_ (by simp) _)
set_option maxHeartbeats 1000000 in
theorem eventOf_fail (y : Int) (w : World) : Calls Tryz.prog 64 #[.iface 121 (.agg #[.int .i64 y])] w fun e w' => e = .returned (evV 7 y 0 0 0 0 false) ∧ Keeps w w' := by
  have a1 := ta1 121 (.agg #[.int .i64 y]) (by simp)
  have a2 := ta2 121 (.agg #[.int .i64 y]) (by simp)
  have a3 := ta3 121 (.agg #[.int .i64 y]) (by simp)
  have a4 := ta4 121 (.agg #[.int .i64 y]) (by simp)
  have a5 := ta5 121 (.agg #[.int .i64 y]) (by simp)
  have a6 := ta6 121 (.agg #[.int .i64 y]) (by simp)
  have a7 : ∀ w : World, (Instr.typeAssert (.iface 121 (.agg #[.int .i64 y])) 73 121 true).run Tryz.prog w = .ok (.tuple #[.agg #[.int .i64 y], .bool true]) w := fun _ => by kernel_rfl
  go_enter Tryz.func64, Tryz.ntmps64
  go_wp2
  refine bodyPost_ret (v := evV 7 y 0 0 0 0 false) (by simp [results, Tryz.results64, go_sem]) rfl ⟨rfl, ?_⟩
  repeat (first | exact Keeps.refl _ | refine Keeps.alloc ?_ _ | refine Keeps.setCell ?_ (by simp) _)
set_option maxHeartbeats 1000000 in
theorem eventOf_tick (w : World) : Calls Tryz.prog 64 #[.iface 123 (.agg #[])] w fun e w' => e = .returned (evV 8 0 0 0 0 0 false) ∧ Keeps w w' := by
  have a1 := ta1 123 (.agg #[]) (by simp)
  have a2 := ta2 123 (.agg #[]) (by simp)
  have a3 := ta3 123 (.agg #[]) (by simp)
  have a4 := ta4 123 (.agg #[]) (by simp)
  have a5 := ta5 123 (.agg #[]) (by simp)
  have a6 := ta6 123 (.agg #[]) (by simp)
  have a7 := ta7 123 (.agg #[]) (by simp)
  have a8 : ∀ w : World, (Instr.typeAssert (.iface 123 (.agg #[])) 73 123 true).run Tryz.prog w = .ok (.tuple #[.agg #[], .bool true]) w := fun _ => by kernel_rfl
  go_enter Tryz.func64, Tryz.ntmps64
  go_wp2
  refine bodyPost_ret (v := evV 8 0 0 0 0 0 false) (by simp [results, Tryz.results64, go_sem]) rfl ⟨rfl, ?_⟩
  repeat (first | exact Keeps.refl _ | refine Keeps.alloc ?_ _ | refine Keeps.setCell ?_ (by simp) _)
set_option maxHeartbeats 1000000 in
theorem eventOf_launch (y c t m f : Int) (w : World) : Calls Tryz.prog 64 #[.iface 125 (.agg #[.int .i64 y, .int .i64 c, .int .i64 t, .int .i64 m, .int .i64 f])] w fun e w' => e = .returned (evV 9 y c t m f false) ∧ Keeps w w' := by
  have a1 := ta1 125 (.agg #[.int .i64 y, .int .i64 c, .int .i64 t, .int .i64 m, .int .i64 f]) (by simp)
  have a2 := ta2 125 (.agg #[.int .i64 y, .int .i64 c, .int .i64 t, .int .i64 m, .int .i64 f]) (by simp)
  have a3 := ta3 125 (.agg #[.int .i64 y, .int .i64 c, .int .i64 t, .int .i64 m, .int .i64 f]) (by simp)
  have a4 := ta4 125 (.agg #[.int .i64 y, .int .i64 c, .int .i64 t, .int .i64 m, .int .i64 f]) (by simp)
  have a5 := ta5 125 (.agg #[.int .i64 y, .int .i64 c, .int .i64 t, .int .i64 m, .int .i64 f]) (by simp)
  have a6 := ta6 125 (.agg #[.int .i64 y, .int .i64 c, .int .i64 t, .int .i64 m, .int .i64 f]) (by simp)
  have a7 := ta7 125 (.agg #[.int .i64 y, .int .i64 c, .int .i64 t, .int .i64 m, .int .i64 f]) (by simp)
  have a8 := ta8 125 (.agg #[.int .i64 y, .int .i64 c, .int .i64 t, .int .i64 m, .int .i64 f]) (by simp)
  have a9 : ∀ w : World, (Instr.typeAssert (.iface 125 (.agg #[.int .i64 y, .int .i64 c, .int .i64 t, .int .i64 m, .int .i64 f])) 73 125 true).run Tryz.prog w = .ok (.tuple #[.agg #[.int .i64 y, .int .i64 c, .int .i64 t, .int .i64 m, .int .i64 f], .bool true]) w := fun _ => by kernel_rfl
  go_enter Tryz.func64, Tryz.ntmps64
  go_wp2
  refine bodyPost_ret (v := evV 9 y c t m f false) (by simp [results, Tryz.results64, go_sem]) rfl ⟨rfl, ?_⟩
  repeat (first | exact Keeps.refl _ | refine Keeps.alloc ?_ _ | refine Keeps.setCell ?_ (by simp) _)
set_option maxHeartbeats 1000000 in
theorem eventOf_arrive (y : Int) (w : World) : Calls Tryz.prog 64 #[.iface 126 (.agg #[.int .i64 y])] w fun e w' => e = .returned (evV 10 y 0 0 0 0 false) ∧ Keeps w w' := by
  have a1 := ta1 126 (.agg #[.int .i64 y]) (by simp)
  have a2 := ta2 126 (.agg #[.int .i64 y]) (by simp)
  have a3 := ta3 126 (.agg #[.int .i64 y]) (by simp)
  have a4 := ta4 126 (.agg #[.int .i64 y]) (by simp)
  have a5 := ta5 126 (.agg #[.int .i64 y]) (by simp)
  have a6 := ta6 126 (.agg #[.int .i64 y]) (by simp)
  have a7 := ta7 126 (.agg #[.int .i64 y]) (by simp)
  have a8 := ta8 126 (.agg #[.int .i64 y]) (by simp)
  have a9 := ta9 126 (.agg #[.int .i64 y]) (by simp)
  have a10 : ∀ w : World, (Instr.typeAssert (.iface 126 (.agg #[.int .i64 y])) 73 126 true).run Tryz.prog w = .ok (.tuple #[.agg #[.int .i64 y], .bool true]) w := fun _ => by kernel_rfl
  go_enter Tryz.func64, Tryz.ntmps64
  go_wp2
  refine bodyPost_ret (v := evV 10 y 0 0 0 0 false) (by simp [results, Tryz.results64, go_sem]) rfl ⟨rfl, ?_⟩
  repeat (first | exact Keeps.refl _ | refine Keeps.alloc ?_ _ | refine Keeps.setCell ?_ (by simp) _)
set_option maxHeartbeats 1000000 in
theorem eventOf_lost (y : Int) (w : World) : Calls Tryz.prog 64 #[.iface 127 (.agg #[.int .i64 y])] w fun e w' => e = .returned (evV 11 y 0 0 0 0 false) ∧ Keeps w w' := by
  have a1 := ta1 127 (.agg #[.int .i64 y]) (by simp)
  have a2 := ta2 127 (.agg #[.int .i64 y]) (by simp)
  have a3 := ta3 127 (.agg #[.int .i64 y]) (by simp)
  have a4 := ta4 127 (.agg #[.int .i64 y]) (by simp)
  have a5 := ta5 127 (.agg #[.int .i64 y]) (by simp)
  have a6 := ta6 127 (.agg #[.int .i64 y]) (by simp)
  have a7 := ta7 127 (.agg #[.int .i64 y]) (by simp)
  have a8 := ta8 127 (.agg #[.int .i64 y]) (by simp)
  have a9 := ta9 127 (.agg #[.int .i64 y]) (by simp)
  have a10 := ta10 127 (.agg #[.int .i64 y]) (by simp)
  have a11 : ∀ w : World, (Instr.typeAssert (.iface 127 (.agg #[.int .i64 y])) 73 127 true).run Tryz.prog w = .ok (.tuple #[.agg #[.int .i64 y], .bool true]) w := fun _ => by kernel_rfl
  go_enter Tryz.func64, Tryz.ntmps64
  go_wp2
  refine bodyPost_ret (v := evV 11 y 0 0 0 0 false) (by simp [results, Tryz.results64, go_sem]) rfl ⟨rfl, ?_⟩
  repeat (first | exact Keeps.refl _ | refine Keeps.alloc ?_ _ | refine Keeps.setCell ?_ (by simp) _)
theorem ev_cell0 (k y c t m f : Int) (b : Bool) (w : World) : (w.alloc (.cells #[.int .i64 k, .int .i64 y, .int .i64 c, .int .i64 t, .int .i64 m, .int .i64 f, .bool b] 28)).cell? ⟨w.heap.size, 0, none⟩ = some (.int .i64 k) := by simp
set_option maxHeartbeats 20000000 in
theorem evok_impl (k y c t m f : Int) (b : Bool) (w : World) : Calls Tryz.prog 36 #[evV k y c t m f b] w fun e w' => e = .returned (.bool (evB k y c t m f b)) ∧ Keeps w w' := by
  have hk : k = 1 ∨ k = 2 ∨ k = 3 ∨ k = 4 ∨ k = 5 ∨ k = 6 ∨ k = 7 ∨ k = 8 ∨ k = 9 ∨ k = 10 ∨ k = 11 ∨ k < 1 ∨ 11 < k := by omega
  rcases hk with rfl | rfl | rfl | rfl | rfl | rfl | rfl | rfl | rfl | rfl | rfl | h
  have hm : ∀ w : World, (method 299 110 (.agg #[.int .i64 m]) "loop.example/g00400/impl.right").run Tryz.prog w = .ok (145, .agg #[.int .i64 m]) w := fun _ => by kernel_rfl
  have HKO := hide (kindOf_deposit y c t m f b)
  have HRI := hide (right_deposit m)
  have HEV := hide (eventOf_deposit m)
  have hq := ev_eql 1 0 0 0 m 0 false 1 y c t m f b
  rw [show evB 1 y c t m f b = ((fieldB true m 1 1125899906842624) && evEq 1 0 0 0 m 0 false 1 y c t m f b) from by rw [Bool.eq_iff_iff]; cases b <;> simp [evB, evEq, fieldB, chansB] <;> omega]
  generalize evEq 1 0 0 0 m 0 false 1 y c t m f b = E at *
  generalize hr : (fieldB true m 1 1125899906842624) = r at *
  clear hr
  cases r
  rotate_left 2
  have hm : ∀ w : World, (method 299 112 (.agg #[.int .i64 c, .int .i64 m, .int .i64 f]) "loop.example/g00400/impl.right").run Tryz.prog w = .ok (148, .agg #[.int .i64 c, .int .i64 m, .int .i64 f]) w := fun _ => by kernel_rfl
  have HKO := hide (kindOf_open y c t m f b)
  have HRI := hide (right_open c m f)
  have HEV := hide (eventOf_open c m f)
  have hq := ev_eql 2 0 c 0 m f false 2 y c t m f b
  rw [show evB 2 y c t m f b = ((fieldB true c 1 99 && fieldB true m 1 1125899906842624 && fieldB true f 0 1125899906842624) && evEq 2 0 c 0 m f false 2 y c t m f b) from by rw [Bool.eq_iff_iff]; cases b <;> simp [evB, evEq, fieldB, chansB] <;> omega]
  generalize evEq 2 0 c 0 m f false 2 y c t m f b = E at *
  generalize hr : (fieldB true c 1 99 && fieldB true m 1 1125899906842624 && fieldB true f 0 1125899906842624) = r at *
  clear hr
  cases r
  rotate_left 2
  have hm : ∀ w : World, (method 299 114 (.agg #[.int .i64 c, .int .i64 f]) "loop.example/g00400/impl.right").run Tryz.prog w = .ok (151, .agg #[.int .i64 c, .int .i64 f]) w := fun _ => by kernel_rfl
  have HKO := hide (kindOf_close y c t m f b)
  have HRI := hide (right_close c f)
  have HEV := hide (eventOf_close c f)
  have hq := ev_eql 3 0 c 0 0 f false 3 y c t m f b
  rw [show evB 3 y c t m f b = ((fieldB true c 1 99 && fieldB true f 0 1125899906842624) && evEq 3 0 c 0 0 f false 3 y c t m f b) from by rw [Bool.eq_iff_iff]; cases b <;> simp [evB, evEq, fieldB, chansB] <;> omega]
  generalize evEq 3 0 c 0 0 f false 3 y c t m f b = E at *
  generalize hr : (fieldB true c 1 99 && fieldB true f 0 1125899906842624) = r at *
  clear hr
  cases r
  rotate_left 2
  have hm : ∀ w : World, (method 299 116 (.agg #[.int .i64 c, .int .i64 m, .int .i64 f]) "loop.example/g00400/impl.right").run Tryz.prog w = .ok (153, .agg #[.int .i64 c, .int .i64 m, .int .i64 f]) w := fun _ => by kernel_rfl
  have HKO := hide (kindOf_price y c t m f b)
  have HRI := hide (right_price c m f)
  have HEV := hide (eventOf_price c m f)
  have hq := ev_eql 4 0 c 0 m f false 4 y c t m f b
  rw [show evB 4 y c t m f b = ((fieldB true c 1 99 && fieldB true m 0 1125899906842624 && fieldB true f 0 1000000) && evEq 4 0 c 0 m f false 4 y c t m f b) from by rw [Bool.eq_iff_iff]; cases b <;> simp [evB, evEq, fieldB, chansB] <;> omega]
  generalize evEq 4 0 c 0 m f false 4 y c t m f b = E at *
  generalize hr : (fieldB true c 1 99 && fieldB true m 0 1125899906842624 && fieldB true f 0 1000000) = r at *
  clear hr
  cases r
  rotate_left 2
  have hm : ∀ w : World, (method 299 118 (.agg #[.int .i64 y, .int .i64 c, .int .i64 t, .int .i64 m, .bool b]) "loop.example/g00400/impl.right").run Tryz.prog w = .ok (155, .agg #[.int .i64 y, .int .i64 c, .int .i64 t, .int .i64 m, .bool b]) w := fun _ => by kernel_rfl
  have HKO := hide (kindOf_admit y c t m f b)
  have HRI := hide (right_admit y c t m b)
  have HEV := hide (eventOf_admit y c t m b)
  have hq := ev_eql 5 y c t m 0 b 5 y c t m f b
  rw [show evB 5 y c t m f b = ((fieldB true y 1 1000000 && chansB c t && fieldB true m 1 1125899906842624) && evEq 5 y c t m 0 b 5 y c t m f b) from by rw [Bool.eq_iff_iff]; cases b <;> simp [evB, evEq, fieldB, chansB] <;> omega]
  generalize evEq 5 y c t m 0 b 5 y c t m f b = E at *
  generalize hr : (fieldB true y 1 1000000 && chansB c t && fieldB true m 1 1125899906842624) = r at *
  clear hr
  cases r
  rotate_left 2
  have hm : ∀ w : World, (method 299 120 (.agg #[.int .i64 y]) "loop.example/g00400/impl.right").run Tryz.prog w = .ok (159, .agg #[.int .i64 y]) w := fun _ => by kernel_rfl
  have HKO := hide (kindOf_fulfill y c t m f b)
  have HRI := hide (right_fulfill y)
  have HEV := hide (eventOf_fulfill y)
  have hq := ev_eql 6 y 0 0 0 0 false 6 y c t m f b
  rw [show evB 6 y c t m f b = ((fieldB true y 1 1000000) && evEq 6 y 0 0 0 0 false 6 y c t m f b) from by rw [Bool.eq_iff_iff]; cases b <;> simp [evB, evEq, fieldB, chansB] <;> omega]
  generalize evEq 6 y 0 0 0 0 false 6 y c t m f b = E at *
  generalize hr : (fieldB true y 1 1000000) = r at *
  clear hr
  cases r
  rotate_left 2
  have hm : ∀ w : World, (method 299 121 (.agg #[.int .i64 y]) "loop.example/g00400/impl.right").run Tryz.prog w = .ok (161, .agg #[.int .i64 y]) w := fun _ => by kernel_rfl
  have HKO := hide (kindOf_fail y c t m f b)
  have HRI := hide (right_fail y)
  have HEV := hide (eventOf_fail y)
  have hq := ev_eql 7 y 0 0 0 0 false 7 y c t m f b
  rw [show evB 7 y c t m f b = ((fieldB true y 1 1000000) && evEq 7 y 0 0 0 0 false 7 y c t m f b) from by rw [Bool.eq_iff_iff]; cases b <;> simp [evB, evEq, fieldB, chansB] <;> omega]
  generalize evEq 7 y 0 0 0 0 false 7 y c t m f b = E at *
  generalize hr : (fieldB true y 1 1000000) = r at *
  clear hr
  cases r
  rotate_left 2
  have hm : ∀ w : World, (method 299 123 (.agg #[]) "loop.example/g00400/impl.right").run Tryz.prog w = .ok (163, .agg #[]) w := fun _ => by kernel_rfl
  have HKO := hide (kindOf_tick y c t m f b)
  have HRI := hide (right_tick)
  have HEV := hide (eventOf_tick)
  have hq := ev_eql 8 0 0 0 0 0 false 8 y c t m f b
  rw [show evB 8 y c t m f b = ((true) && evEq 8 0 0 0 0 0 false 8 y c t m f b) from by rw [Bool.eq_iff_iff]; cases b <;> simp [evB, evEq, fieldB, chansB] <;> omega]
  generalize evEq 8 0 0 0 0 0 false 8 y c t m f b = E at *
  rotate_left
  have hm : ∀ w : World, (method 299 125 (.agg #[.int .i64 y, .int .i64 c, .int .i64 t, .int .i64 m, .int .i64 f]) "loop.example/g00400/impl.right").run Tryz.prog w = .ok (165, .agg #[.int .i64 y, .int .i64 c, .int .i64 t, .int .i64 m, .int .i64 f]) w := fun _ => by kernel_rfl
  have HKO := hide (kindOf_launch y c t m f b)
  have HRI := hide (right_launch y c t m f)
  have HEV := hide (eventOf_launch y c t m f)
  have hq := ev_eql 9 y c t m f false 9 y c t m f b
  rw [show evB 9 y c t m f b = ((fieldB true y 1 1000000 && chansB c t && fieldB true m 1 1125899906842624 && fieldB true f 0 1125899906842624) && evEq 9 y c t m f false 9 y c t m f b) from by rw [Bool.eq_iff_iff]; cases b <;> simp [evB, evEq, fieldB, chansB] <;> omega]
  generalize evEq 9 y c t m f false 9 y c t m f b = E at *
  generalize hr : (fieldB true y 1 1000000 && chansB c t && fieldB true m 1 1125899906842624 && fieldB true f 0 1125899906842624) = r at *
  clear hr
  cases r
  rotate_left 2
  have hm : ∀ w : World, (method 299 126 (.agg #[.int .i64 y]) "loop.example/g00400/impl.right").run Tryz.prog w = .ok (167, .agg #[.int .i64 y]) w := fun _ => by kernel_rfl
  have HKO := hide (kindOf_arrive y c t m f b)
  have HRI := hide (right_arrive y)
  have HEV := hide (eventOf_arrive y)
  have hq := ev_eql 10 y 0 0 0 0 false 10 y c t m f b
  rw [show evB 10 y c t m f b = ((fieldB true y 1 1000000) && evEq 10 y 0 0 0 0 false 10 y c t m f b) from by rw [Bool.eq_iff_iff]; cases b <;> simp [evB, evEq, fieldB, chansB] <;> omega]
  generalize evEq 10 y 0 0 0 0 false 10 y c t m f b = E at *
  generalize hr : (fieldB true y 1 1000000) = r at *
  clear hr
  cases r
  rotate_left 2
  have hm : ∀ w : World, (method 299 127 (.agg #[.int .i64 y]) "loop.example/g00400/impl.right").run Tryz.prog w = .ok (169, .agg #[.int .i64 y]) w := fun _ => by kernel_rfl
  have HKO := hide (kindOf_lost y c t m f b)
  have HRI := hide (right_lost y)
  have HEV := hide (eventOf_lost y)
  have hq := ev_eql 11 y 0 0 0 0 false 11 y c t m f b
  rw [show evB 11 y c t m f b = ((fieldB true y 1 1000000) && evEq 11 y 0 0 0 0 false 11 y c t m f b) from by rw [Bool.eq_iff_iff]; cases b <;> simp [evB, evEq, fieldB, chansB] <;> omega]
  generalize evEq 11 y 0 0 0 0 false 11 y c t m f b = E at *
  generalize hr : (fieldB true y 1 1000000) = r at *
  clear hr
  cases r
  rotate_left 2
  have hm : ∀ w : World, (method 299 128 (.agg #[]) "loop.example/g00400/impl.right").run Tryz.prog w = .ok (171, .agg #[]) w := fun _ => by kernel_rfl
  have HKO := hide (fun w1 => kindOf_unknown k y c t m f b w1 h)
  have HRI := hide right_unknown
  rw [show evB k y c t m f b = false from by unfold evB; repeat rw [if_neg (by omega)]]
  clear h
  all_goals (
    go_enter Tryz.func36, Tryz.ntmps36
    go_wp2_with fail
    refine (unhide HKO _).mono ?_
    rintro e w1 ⟨rfl, hk⟩
    have c0 := gr_cell (hk.cell (ev_cell0 _ _ _ _ _ _ _ _))
    have c1 := gr_cell (hk.cell (p := ⟨w.heap.size, 1, none⟩) (v := .int .i64 y) (by simp))
    have c2 := gr_cell (hk.cell (p := ⟨w.heap.size, 2, none⟩) (v := .int .i64 c) (by simp))
    have c3 := gr_cell (hk.cell (p := ⟨w.heap.size, 3, none⟩) (v := .int .i64 t) (by simp))
    have c4 := gr_cell (hk.cell (p := ⟨w.heap.size, 4, none⟩) (v := .int .i64 m) (by simp))
    have c5 := gr_cell (hk.cell (p := ⟨w.heap.size, 5, none⟩) (v := .int .i64 f) (by simp))
    have c6 := gr_cell (hk.cell (p := ⟨w.heap.size, 6, none⟩) (v := .bool b) (by simp))
    have HK := hide (Keeps.trans (Keeps.alloc (Keeps.refl w) _) hk)
    clear hk HKO
    go_wp2_with fail
    refine region_gr (by kernel_rfl) (by kernel_rfl) ?_
    repeat (go_big_quiet_step (first | (go_at_call 145; exact gr_call (unhide HRI _)) | (go_at_call 148; exact gr_call (unhide HRI _)) | (go_at_call 151; exact gr_call (unhide HRI _)) | (go_at_call 153; exact gr_call (unhide HRI _)) | (go_at_call 155; exact gr_call (unhide HRI _)) | (go_at_call 159; exact gr_call (unhide HRI _)) | (go_at_call 161; exact gr_call (unhide HRI _)) | (go_at_call 163; exact gr_call (unhide HRI _)) | (go_at_call 165; exact gr_call (unhide HRI _)) | (go_at_call 167; exact gr_call (unhide HRI _)) | (go_at_call 169; exact gr_call (unhide HRI _)) | (go_at_call 171; exact gr_call (unhide HRI _)) | (go_at_call 64; exact gr_call (unhide HEV _))))
    refine wpQuiet_nil ?_
    intro w2 hw2
    have hk2 := Keeps.of_gr hw2
    clear hw2
    go_wp2_with fail
    go_ret
    exact ⟨ret_ev (by simp), HK.out.trans hk2⟩)
end Go.Proofs.YtkgpoghoilffhaaGreatDoor
namespace Go.Proofs.YtkgpoghoilffhaaGreatDoor
open Go.RowKit Go.Deep
set_option linter.unusedVariables false
theorem born_alloc (w : World) (c : Array Value) (t : TypeId) : Born w (w.alloc (.cells c t)) [(some ⟨w.heap.size, 0, none⟩, c.toList)] := by
  have hB : (w.alloc (.cells c t)).heap[w.heap.size]? = some (.cells c t (0, 0)) := blk_alloc_new w _
  revert hB
  generalize w.alloc (.cells c t) = W
  intro hB
  refine ⟨⟨?_, ?_, ?_⟩, ?_⟩
  · intro s hs
    rw [List.mem_singleton.1 hs]
    refine Or.inr ⟨_, 0, rfl, fun j hj => ?_⟩
    have hj' : j < c.size := by simpa using hj
    simp [World.cell?, hB, hj']
  · by_cases h0 : c.toList = [] <;> simp [fp, fpS, h0]
  · intro b hb
    by_cases h0 : c.toList = []
    · simp [fp, fpS, h0] at hb
    · simp [fp, fpS, h0] at hb
      subst hb
      intro o
      simp [World.frozen?, hB]
  · intro b hb
    by_cases h0 : c.toList = []
    · simp [fp, fpS, h0] at hb
    · simp [fp, fpS, h0] at hb
      omega
theorem Keeps.rowV {w w' : World} (hk : Keeps w w') {b : Nat} {t : TypeId} {n : Nat} {f : Nat → Value} (h : w.rowIs b t n f) : w'.rowIs b t n f := h.of_block (Below.block hk _ h.lt)
end Go.Proofs.YtkgpoghoilffhaaGreatDoor
namespace Go.Proofs.YtkgpoghoilffhaaGreatDoor
open Go.RowKit Go.Deep
set_option linter.unusedVariables false
set_option maxRecDepth 10000
theorem nums_two (w : World) (o : Obj) (K : List Int) : Cells ((w.alloc o).alloc (.cells (nums K).toArray 3)) (some ⟨w.heap.size + 1, 0, none⟩) (nums K) := by
  have h := (born_alloc (w.alloc o) (nums K).toArray 3).toOwn.one
  simpa using h
theorem two_keeps (w : World) (o p : Obj) : Keeps w ((w.alloc o).alloc p) := Keeps.alloc (Keeps.alloc (Keeps.refl w) o) p
theorem ret_more {D X : List UInt8} {c : List UInt8} (h : X = D ++ c) : Ending.returned (.string (⟨D.toArray⟩ ++ ⟨c.toArray⟩)) = .returned (.string ⟨X.toArray⟩) := by
  rw [h, ByteArray.mk_append_mk]
theorem sen_len {W : List UInt8} {ns : List Int} (h : W.length ≤ 20) (h' : ns.length ≤ 8) : (sen W ns).length ≤ 200 := by
  have := senN_len ns
  simp only [sen, List.length_append]
  omega
set_option maxHeartbeats 2000000 in
theorem text_deposit (m : Int) (w : World) (ht : Tab w) : Calls Tryz.prog 146 #[.agg #[.int .i64 m]] w fun e w' => e = .returned (.string ⟨(sen [100, 101, 112, 111, 115, 105, 116] [m]).toArray⟩) ∧ Keeps w w' := by
  have HT := hide ht
  clear ht
  have HC : Hid (Cells ((w.alloc (.cells #[.int .i64 m] 110)).alloc (.cells #[.int .i64 m] 3)) (some ⟨w.heap.size + 1, 0, none⟩) (nums [m])) := nums_two w _ [m]
  have HK := hide (two_keeps w (.cells #[.int .i64 m] 110) (.cells #[.int .i64 m] 3))
  go_enter Tryz.func146, Tryz.ntmps146
  go_wp2_with fail
  refine (sentence_k [100, 101, 112, 111, 115, 105, 116] (some ⟨w.heap.size + 1, 0, none⟩) 1 [m] _ (by decide) (by decide) (by simp) HC.out (HT.out.kept HK.out)).mono ?_
  rintro e w1 ⟨rfl, hk⟩
  have HK1 := hide (HK.out.trans hk)
  clear hk HC HK
  go_wp2_with fail
  go_ret
  exact ⟨rfl, HK1.out⟩
set_option maxHeartbeats 2000000 in
theorem text_open (c m f : Int) (w : World) (ht : Tab w) : Calls Tryz.prog 149 #[.agg #[.int .i64 c, .int .i64 m, .int .i64 f]] w fun e w' => e = .returned (.string ⟨(sen [111, 112, 101, 110] [c, m, f]).toArray⟩) ∧ Keeps w w' := by
  have HT := hide ht
  clear ht
  have HC : Hid (Cells ((w.alloc (.cells #[.int .i64 c, .int .i64 m, .int .i64 f] 112)).alloc (.cells #[.int .i64 c, .int .i64 m, .int .i64 f] 3)) (some ⟨w.heap.size + 1, 0, none⟩) (nums [c, m, f])) := nums_two w _ [c, m, f]
  have HK := hide (two_keeps w (.cells #[.int .i64 c, .int .i64 m, .int .i64 f] 112) (.cells #[.int .i64 c, .int .i64 m, .int .i64 f] 3))
  go_enter Tryz.func149, Tryz.ntmps149
  go_wp2_with fail
  refine (sentence_k [111, 112, 101, 110] (some ⟨w.heap.size + 1, 0, none⟩) 3 [c, m, f] _ (by decide) (by decide) (by simp) HC.out (HT.out.kept HK.out)).mono ?_
  rintro e w1 ⟨rfl, hk⟩
  have HK1 := hide (HK.out.trans hk)
  clear hk HC HK
  go_wp2_with fail
  go_ret
  exact ⟨rfl, HK1.out⟩
set_option maxHeartbeats 2000000 in
theorem text_close (c f : Int) (w : World) (ht : Tab w) : Calls Tryz.prog 152 #[.agg #[.int .i64 c, .int .i64 f]] w fun e w' => e = .returned (.string ⟨(sen [99, 108, 111, 115, 101] [c, f]).toArray⟩) ∧ Keeps w w' := by
  have HT := hide ht
  clear ht
  have HC : Hid (Cells ((w.alloc (.cells #[.int .i64 c, .int .i64 f] 114)).alloc (.cells #[.int .i64 c, .int .i64 f] 3)) (some ⟨w.heap.size + 1, 0, none⟩) (nums [c, f])) := nums_two w _ [c, f]
  have HK := hide (two_keeps w (.cells #[.int .i64 c, .int .i64 f] 114) (.cells #[.int .i64 c, .int .i64 f] 3))
  go_enter Tryz.func152, Tryz.ntmps152
  go_wp2_with fail
  refine (sentence_k [99, 108, 111, 115, 101] (some ⟨w.heap.size + 1, 0, none⟩) 2 [c, f] _ (by decide) (by decide) (by simp) HC.out (HT.out.kept HK.out)).mono ?_
  rintro e w1 ⟨rfl, hk⟩
  have HK1 := hide (HK.out.trans hk)
  clear hk HC HK
  go_wp2_with fail
  go_ret
  exact ⟨rfl, HK1.out⟩
set_option maxHeartbeats 2000000 in
theorem text_price (c m f : Int) (w : World) (ht : Tab w) : Calls Tryz.prog 154 #[.agg #[.int .i64 c, .int .i64 m, .int .i64 f]] w fun e w' => e = .returned (.string ⟨(sen [112, 114, 105, 99, 101] [c, m, f]).toArray⟩) ∧ Keeps w w' := by
  have HT := hide ht
  clear ht
  have HC : Hid (Cells ((w.alloc (.cells #[.int .i64 c, .int .i64 m, .int .i64 f] 116)).alloc (.cells #[.int .i64 c, .int .i64 m, .int .i64 f] 3)) (some ⟨w.heap.size + 1, 0, none⟩) (nums [c, m, f])) := nums_two w _ [c, m, f]
  have HK := hide (two_keeps w (.cells #[.int .i64 c, .int .i64 m, .int .i64 f] 116) (.cells #[.int .i64 c, .int .i64 m, .int .i64 f] 3))
  go_enter Tryz.func154, Tryz.ntmps154
  go_wp2_with fail
  refine (sentence_k [112, 114, 105, 99, 101] (some ⟨w.heap.size + 1, 0, none⟩) 3 [c, m, f] _ (by decide) (by decide) (by simp) HC.out (HT.out.kept HK.out)).mono ?_
  rintro e w1 ⟨rfl, hk⟩
  have HK1 := hide (HK.out.trans hk)
  clear hk HC HK
  go_wp2_with fail
  go_ret
  exact ⟨rfl, HK1.out⟩
set_option maxHeartbeats 2000000 in
theorem text_fulfill (y : Int) (w : World) (ht : Tab w) : Calls Tryz.prog 160 #[.agg #[.int .i64 y]] w fun e w' => e = .returned (.string ⟨(sen [102, 117, 108, 102, 105, 108, 108] [y]).toArray⟩) ∧ Keeps w w' := by
  have HT := hide ht
  clear ht
  have HC : Hid (Cells ((w.alloc (.cells #[.int .i64 y] 120)).alloc (.cells #[.int .i64 y] 3)) (some ⟨w.heap.size + 1, 0, none⟩) (nums [y])) := nums_two w _ [y]
  have HK := hide (two_keeps w (.cells #[.int .i64 y] 120) (.cells #[.int .i64 y] 3))
  go_enter Tryz.func160, Tryz.ntmps160
  go_wp2_with fail
  refine (sentence_k [102, 117, 108, 102, 105, 108, 108] (some ⟨w.heap.size + 1, 0, none⟩) 1 [y] _ (by decide) (by decide) (by simp) HC.out (HT.out.kept HK.out)).mono ?_
  rintro e w1 ⟨rfl, hk⟩
  have HK1 := hide (HK.out.trans hk)
  clear hk HC HK
  go_wp2_with fail
  go_ret
  exact ⟨rfl, HK1.out⟩
set_option maxHeartbeats 2000000 in
theorem text_fail (y : Int) (w : World) (ht : Tab w) : Calls Tryz.prog 162 #[.agg #[.int .i64 y]] w fun e w' => e = .returned (.string ⟨(sen [102, 97, 105, 108] [y]).toArray⟩) ∧ Keeps w w' := by
  have HT := hide ht
  clear ht
  have HC : Hid (Cells ((w.alloc (.cells #[.int .i64 y] 121)).alloc (.cells #[.int .i64 y] 3)) (some ⟨w.heap.size + 1, 0, none⟩) (nums [y])) := nums_two w _ [y]
  have HK := hide (two_keeps w (.cells #[.int .i64 y] 121) (.cells #[.int .i64 y] 3))
  go_enter Tryz.func162, Tryz.ntmps162
  go_wp2_with fail
  refine (sentence_k [102, 97, 105, 108] (some ⟨w.heap.size + 1, 0, none⟩) 1 [y] _ (by decide) (by decide) (by simp) HC.out (HT.out.kept HK.out)).mono ?_
  rintro e w1 ⟨rfl, hk⟩
  have HK1 := hide (HK.out.trans hk)
  clear hk HC HK
  go_wp2_with fail
  go_ret
  exact ⟨rfl, HK1.out⟩
set_option maxHeartbeats 2000000 in
theorem text_tick (w : World) (ht : Tab w) : Calls Tryz.prog 164 #[.agg #[]] w fun e w' => e = .returned (.string ⟨(sen [116, 105, 99, 107] []).toArray⟩) ∧ Keeps w w' := by
  have HT := hide ht
  clear ht
  have HC : Hid (Cells (w.alloc (.cells #[] 123)) none (nums [])) := .inl rfl
  have HK := hide (Keeps.alloc (Keeps.refl w) (.cells #[] 123))
  go_enter Tryz.func164, Tryz.ntmps164
  go_wp2_with fail
  refine (sentence_k [116, 105, 99, 107] none 0 [] _ (by decide) (by decide) (by simp) HC.out (HT.out.kept HK.out)).mono ?_
  rintro e w1 ⟨rfl, hk⟩
  have HK1 := hide (HK.out.trans hk)
  clear hk HC HK
  go_wp2_with fail
  go_ret
  exact ⟨rfl, HK1.out⟩
set_option maxHeartbeats 2000000 in
theorem text_launch (y c t m f : Int) (w : World) (ht : Tab w) : Calls Tryz.prog 166 #[.agg #[.int .i64 y, .int .i64 c, .int .i64 t, .int .i64 m, .int .i64 f]] w fun e w' => e = .returned (.string ⟨(sen [108, 97, 117, 110, 99, 104] [y, c, t, m, f]).toArray⟩) ∧ Keeps w w' := by
  have HT := hide ht
  clear ht
  have HC : Hid (Cells ((w.alloc (.cells #[.int .i64 y, .int .i64 c, .int .i64 t, .int .i64 m, .int .i64 f] 125)).alloc (.cells #[.int .i64 y, .int .i64 c, .int .i64 t, .int .i64 m, .int .i64 f] 3)) (some ⟨w.heap.size + 1, 0, none⟩) (nums [y, c, t, m, f])) := nums_two w _ [y, c, t, m, f]
  have HK := hide (two_keeps w (.cells #[.int .i64 y, .int .i64 c, .int .i64 t, .int .i64 m, .int .i64 f] 125) (.cells #[.int .i64 y, .int .i64 c, .int .i64 t, .int .i64 m, .int .i64 f] 3))
  go_enter Tryz.func166, Tryz.ntmps166
  go_wp2_with fail
  refine (sentence_k [108, 97, 117, 110, 99, 104] (some ⟨w.heap.size + 1, 0, none⟩) 5 [y, c, t, m, f] _ (by decide) (by decide) (by simp) HC.out (HT.out.kept HK.out)).mono ?_
  rintro e w1 ⟨rfl, hk⟩
  have HK1 := hide (HK.out.trans hk)
  clear hk HC HK
  go_wp2_with fail
  go_ret
  exact ⟨rfl, HK1.out⟩
set_option maxHeartbeats 2000000 in
theorem text_arrive (y : Int) (w : World) (ht : Tab w) : Calls Tryz.prog 168 #[.agg #[.int .i64 y]] w fun e w' => e = .returned (.string ⟨(sen [97, 114, 114, 105, 118, 101] [y]).toArray⟩) ∧ Keeps w w' := by
  have HT := hide ht
  clear ht
  have HC : Hid (Cells ((w.alloc (.cells #[.int .i64 y] 126)).alloc (.cells #[.int .i64 y] 3)) (some ⟨w.heap.size + 1, 0, none⟩) (nums [y])) := nums_two w _ [y]
  have HK := hide (two_keeps w (.cells #[.int .i64 y] 126) (.cells #[.int .i64 y] 3))
  go_enter Tryz.func168, Tryz.ntmps168
  go_wp2_with fail
  refine (sentence_k [97, 114, 114, 105, 118, 101] (some ⟨w.heap.size + 1, 0, none⟩) 1 [y] _ (by decide) (by decide) (by simp) HC.out (HT.out.kept HK.out)).mono ?_
  rintro e w1 ⟨rfl, hk⟩
  have HK1 := hide (HK.out.trans hk)
  clear hk HC HK
  go_wp2_with fail
  go_ret
  exact ⟨rfl, HK1.out⟩
set_option maxHeartbeats 2000000 in
theorem text_lost (y : Int) (w : World) (ht : Tab w) : Calls Tryz.prog 170 #[.agg #[.int .i64 y]] w fun e w' => e = .returned (.string ⟨(sen [108, 111, 115, 116] [y]).toArray⟩) ∧ Keeps w w' := by
  have HT := hide ht
  clear ht
  have HC : Hid (Cells ((w.alloc (.cells #[.int .i64 y] 127)).alloc (.cells #[.int .i64 y] 3)) (some ⟨w.heap.size + 1, 0, none⟩) (nums [y])) := nums_two w _ [y]
  have HK := hide (two_keeps w (.cells #[.int .i64 y] 127) (.cells #[.int .i64 y] 3))
  go_enter Tryz.func170, Tryz.ntmps170
  go_wp2_with fail
  refine (sentence_k [108, 111, 115, 116] (some ⟨w.heap.size + 1, 0, none⟩) 1 [y] _ (by decide) (by decide) (by simp) HC.out (HT.out.kept HK.out)).mono ?_
  rintro e w1 ⟨rfl, hk⟩
  have HK1 := hide (HK.out.trans hk)
  clear hk HC HK
  go_wp2_with fail
  go_ret
  exact ⟨rfl, HK1.out⟩
set_option maxHeartbeats 2000000 in
theorem text_admit (y c t m : Int) (b : Bool) (w : World) (ht : Tab w) : Calls Tryz.prog 156 #[.agg #[.int .i64 y, .int .i64 c, .int .i64 t, .int .i64 m, .bool b]] w fun e w' => e = .returned (.string ⟨(sen [97, 100, 109, 105, 116] [y, c, t, m] ++ (if b = true then [32, 121, 101, 115] else [32, 110, 111])).toArray⟩) ∧ Keeps w w' := by
  have HT := hide ht
  clear ht
  have HC : Hid (Cells ((w.alloc (.cells #[.int .i64 y, .int .i64 c, .int .i64 t, .int .i64 m, .bool b] 118)).alloc (.cells #[.int .i64 y, .int .i64 c, .int .i64 t, .int .i64 m] 3)) (some ⟨w.heap.size + 1, 0, none⟩) (nums [y, c, t, m])) := nums_two w _ [y, c, t, m]
  have HK := hide (two_keeps w (.cells #[.int .i64 y, .int .i64 c, .int .i64 t, .int .i64 m, .bool b] 118) (.cells #[.int .i64 y, .int .i64 c, .int .i64 t, .int .i64 m] 3))
  cases b
  · go_enter Tryz.func156, Tryz.ntmps156
    go_wp2_with fail
    refine (sentence_k [97, 100, 109, 105, 116] (some ⟨w.heap.size + 1, 0, none⟩) 4 [y, c, t, m] _ (by decide) (by decide) (by simp) HC.out (HT.out.kept HK.out)).mono ?_
    rintro e w1 ⟨rfl, hk⟩
    have HK1 := hide (HK.out.trans hk)
    have hlen := sen_len (W := [97, 100, 109, 105, 116]) (ns := [y, c, t, m]) (by decide) (by simp)
    have c4 := hk.cell (p := ⟨w.heap.size, 4, none⟩) (v := .bool false) (by simp)
    generalize hZ : sen [97, 100, 109, 105, 116] [y, c, t, m] = Z at hlen ⊢
    have HZ := hide hZ
    clear hk HC HK hZ
    go_wp2_with fail
    go_ret
    exact ⟨ret_more (by rw [HZ.out]; try rfl), HK1.out⟩
  · go_enter Tryz.func156, Tryz.ntmps156
    go_wp2_with fail
    refine (sentence_k [97, 100, 109, 105, 116] (some ⟨w.heap.size + 1, 0, none⟩) 4 [y, c, t, m] _ (by decide) (by decide) (by simp) HC.out (HT.out.kept HK.out)).mono ?_
    rintro e w1 ⟨rfl, hk⟩
    have HK1 := hide (HK.out.trans hk)
    have hlen := sen_len (W := [97, 100, 109, 105, 116]) (ns := [y, c, t, m]) (by decide) (by simp)
    have c4 := hk.cell (p := ⟨w.heap.size, 4, none⟩) (v := .bool true) (by simp)
    generalize hZ : sen [97, 100, 109, 105, 116] [y, c, t, m] = Z at hlen ⊢
    have HZ := hide hZ
    clear hk HC HK hZ
    go_wp2_with fail
    go_ret
    exact ⟨ret_more (by rw [HZ.out]; try rfl), HK1.out⟩
end Go.Proofs.YtkgpoghoilffhaaGreatDoor
