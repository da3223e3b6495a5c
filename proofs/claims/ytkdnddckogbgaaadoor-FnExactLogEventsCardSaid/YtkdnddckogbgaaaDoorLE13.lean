/- The program's EventOk, by contract: events out of kinds, and the whole. -/
import Derived.Test.YtkdnddckogbgaaaDoorLE12
namespace Go.Proofs.YtkdnddckogbgaaaDoor
open Go.RowKit
set_option linter.unusedVariables false
set_option maxRecDepth 10000
set_option linter.unusedSimpArgs false
theorem ta1 (g : Nat) (v : Value) (h : g = 122 ∨ g = 124 ∨ g = 126 ∨ g = 128 ∨ g = 130 ∨ g = 131 ∨ g = 133 ∨ g = 135 ∨ g = 136 ∨ g = 137) (w : World) : (Instr.typeAssert (.iface g v) 115 120 true).run Tryd.prog w = .ok (.tuple #[.agg #[.int .i64 0], .bool false]) w := by
  rcases h with rfl | rfl | rfl | rfl | rfl | rfl | rfl | rfl | rfl | rfl <;> kernel_rfl
theorem ta2 (g : Nat) (v : Value) (h : g = 124 ∨ g = 126 ∨ g = 128 ∨ g = 130 ∨ g = 131 ∨ g = 133 ∨ g = 135 ∨ g = 136 ∨ g = 137) (w : World) : (Instr.typeAssert (.iface g v) 115 122 true).run Tryd.prog w = .ok (.tuple #[.agg #[.int .i64 0, .int .i64 0, .int .i64 0], .bool false]) w := by
  rcases h with rfl | rfl | rfl | rfl | rfl | rfl | rfl | rfl | rfl <;> kernel_rfl
theorem ta3 (g : Nat) (v : Value) (h : g = 126 ∨ g = 128 ∨ g = 130 ∨ g = 131 ∨ g = 133 ∨ g = 135 ∨ g = 136 ∨ g = 137) (w : World) : (Instr.typeAssert (.iface g v) 115 124 true).run Tryd.prog w = .ok (.tuple #[.agg #[.int .i64 0, .int .i64 0], .bool false]) w := by
  rcases h with rfl | rfl | rfl | rfl | rfl | rfl | rfl | rfl <;> kernel_rfl
theorem ta4 (g : Nat) (v : Value) (h : g = 128 ∨ g = 130 ∨ g = 131 ∨ g = 133 ∨ g = 135 ∨ g = 136 ∨ g = 137) (w : World) : (Instr.typeAssert (.iface g v) 115 126 true).run Tryd.prog w = .ok (.tuple #[.agg #[.int .i64 0, .int .i64 0, .int .i64 0], .bool false]) w := by
  rcases h with rfl | rfl | rfl | rfl | rfl | rfl | rfl <;> kernel_rfl
theorem ta5 (g : Nat) (v : Value) (h : g = 130 ∨ g = 131 ∨ g = 133 ∨ g = 135 ∨ g = 136 ∨ g = 137) (w : World) : (Instr.typeAssert (.iface g v) 115 128 true).run Tryd.prog w = .ok (.tuple #[.agg #[.int .i64 0, .int .i64 0, .int .i64 0, .int .i64 0, .bool false], .bool false]) w := by
  rcases h with rfl | rfl | rfl | rfl | rfl | rfl <;> kernel_rfl
theorem ta6 (g : Nat) (v : Value) (h : g = 131 ∨ g = 133 ∨ g = 135 ∨ g = 136 ∨ g = 137) (w : World) : (Instr.typeAssert (.iface g v) 115 130 true).run Tryd.prog w = .ok (.tuple #[.agg #[.int .i64 0], .bool false]) w := by
  rcases h with rfl | rfl | rfl | rfl | rfl <;> kernel_rfl
theorem ta7 (g : Nat) (v : Value) (h : g = 133 ∨ g = 135 ∨ g = 136 ∨ g = 137) (w : World) : (Instr.typeAssert (.iface g v) 115 131 true).run Tryd.prog w = .ok (.tuple #[.agg #[.int .i64 0], .bool false]) w := by
  rcases h with rfl | rfl | rfl | rfl <;> kernel_rfl
theorem ta8 (g : Nat) (v : Value) (h : g = 135 ∨ g = 136 ∨ g = 137) (w : World) : (Instr.typeAssert (.iface g v) 115 133 true).run Tryd.prog w = .ok (.tuple #[.agg #[], .bool false]) w := by
  rcases h with rfl | rfl | rfl <;> kernel_rfl
theorem ta9 (g : Nat) (v : Value) (h : g = 136 ∨ g = 137) (w : World) : (Instr.typeAssert (.iface g v) 115 135 true).run Tryd.prog w = .ok (.tuple #[.agg #[.int .i64 0, .int .i64 0, .int .i64 0, .int .i64 0, .int .i64 0], .bool false]) w := by
  rcases h with rfl | rfl <;> kernel_rfl
theorem ta10 (g : Nat) (v : Value) (h : g = 137) (w : World) : (Instr.typeAssert (.iface g v) 115 136 true).run Tryd.prog w = .ok (.tuple #[.agg #[.int .i64 0], .bool false]) w := by
  subst h <;> kernel_rfl
set_option maxHeartbeats 1000000 in
theorem eventOf_deposit (m : Int) (w : World) : Calls Tryd.prog 80 #[.iface 120 (.agg #[.int .i64 m])] w fun e w' => e = .returned (evV 1 0 0 0 m 0 false) ∧ Keeps w w' := by
  have a1 : ∀ w : World, (Instr.typeAssert (.iface 120 (.agg #[.int .i64 m])) 115 120 true).run Tryd.prog w = .ok (.tuple #[.agg #[.int .i64 m], .bool true]) w := fun _ => by kernel_rfl
  go_enter Tryd.func80, Tryd.ntmps80
  go_wp2
  refine bodyPost_ret (v := evV 1 0 0 0 m 0 false) (by simp [results, Tryd.results80, go_sem]) rfl ⟨rfl, ?_⟩
  repeat (first | exact Keeps.refl _ | refine Keeps.alloc ?_ _ | refine Keeps.setCell ?_ (by simp) _)
set_option maxHeartbeats 1000000 in
theorem eventOf_open (c m f : Int) (w : World) : Calls Tryd.prog 80 #[.iface 122 (.agg #[.int .i64 c, .int .i64 m, .int .i64 f])] w fun e w' => e = .returned (evV 2 0 c 0 m f false) ∧ Keeps w w' := by
  have a1 := ta1 122 (.agg #[.int .i64 c, .int .i64 m, .int .i64 f]) (by simp)
  have a2 : ∀ w : World, (Instr.typeAssert (.iface 122 (.agg #[.int .i64 c, .int .i64 m, .int .i64 f])) 115 122 true).run Tryd.prog w = .ok (.tuple #[.agg #[.int .i64 c, .int .i64 m, .int .i64 f], .bool true]) w := fun _ => by kernel_rfl
  go_enter Tryd.func80, Tryd.ntmps80
  go_wp2
  refine bodyPost_ret (v := evV 2 0 c 0 m f false) (by simp [results, Tryd.results80, go_sem]) rfl ⟨rfl, ?_⟩
  repeat (first | exact Keeps.refl _ | refine Keeps.alloc ?_ _ | refine Keeps.setCell ?_ (by simp) _)
set_option maxHeartbeats 1000000 in
theorem eventOf_close (c f : Int) (w : World) : Calls Tryd.prog 80 #[.iface 124 (.agg #[.int .i64 c, .int .i64 f])] w fun e w' => e = .returned (evV 3 0 c 0 0 f false) ∧ Keeps w w' := by
  have a1 := ta1 124 (.agg #[.int .i64 c, .int .i64 f]) (by simp)
  have a2 := ta2 124 (.agg #[.int .i64 c, .int .i64 f]) (by simp)
  have a3 : ∀ w : World, (Instr.typeAssert (.iface 124 (.agg #[.int .i64 c, .int .i64 f])) 115 124 true).run Tryd.prog w = .ok (.tuple #[.agg #[.int .i64 c, .int .i64 f], .bool true]) w := fun _ => by kernel_rfl
  go_enter Tryd.func80, Tryd.ntmps80
  go_wp2
  refine bodyPost_ret (v := evV 3 0 c 0 0 f false) (by simp [results, Tryd.results80, go_sem]) rfl ⟨rfl, ?_⟩
  repeat (first | exact Keeps.refl _ | refine Keeps.alloc ?_ _ | refine Keeps.setCell ?_ (by simp) _)
set_option maxHeartbeats 1000000 in
theorem eventOf_price (c m f : Int) (w : World) : Calls Tryd.prog 80 #[.iface 126 (.agg #[.int .i64 c, .int .i64 m, .int .i64 f])] w fun e w' => e = .returned (evV 4 0 c 0 m f false) ∧ Keeps w w' := by
  have a1 := ta1 126 (.agg #[.int .i64 c, .int .i64 m, .int .i64 f]) (by simp)
  have a2 := ta2 126 (.agg #[.int .i64 c, .int .i64 m, .int .i64 f]) (by simp)
  have a3 := ta3 126 (.agg #[.int .i64 c, .int .i64 m, .int .i64 f]) (by simp)
  have a4 : ∀ w : World, (Instr.typeAssert (.iface 126 (.agg #[.int .i64 c, .int .i64 m, .int .i64 f])) 115 126 true).run Tryd.prog w = .ok (.tuple #[.agg #[.int .i64 c, .int .i64 m, .int .i64 f], .bool true]) w := fun _ => by kernel_rfl
  go_enter Tryd.func80, Tryd.ntmps80
  go_wp2
  refine bodyPost_ret (v := evV 4 0 c 0 m f false) (by simp [results, Tryd.results80, go_sem]) rfl ⟨rfl, ?_⟩
  repeat (first | exact Keeps.refl _ | refine Keeps.alloc ?_ _ | refine Keeps.setCell ?_ (by simp) _)
set_option maxHeartbeats 1000000 in
theorem eventOf_admit (y c t m : Int) (b : Bool) (w : World) : Calls Tryd.prog 80 #[.iface 128 (.agg #[.int .i64 y, .int .i64 c, .int .i64 t, .int .i64 m, .bool b])] w fun e w' => e = .returned (evV 5 y c t m 0 b) ∧ Keeps w w' := by
  have a1 := ta1 128 (.agg #[.int .i64 y, .int .i64 c, .int .i64 t, .int .i64 m, .bool b]) (by simp)
  have a2 := ta2 128 (.agg #[.int .i64 y, .int .i64 c, .int .i64 t, .int .i64 m, .bool b]) (by simp)
  have a3 := ta3 128 (.agg #[.int .i64 y, .int .i64 c, .int .i64 t, .int .i64 m, .bool b]) (by simp)
  have a4 := ta4 128 (.agg #[.int .i64 y, .int .i64 c, .int .i64 t, .int .i64 m, .bool b]) (by simp)
  have a5 : ∀ w : World, (Instr.typeAssert (.iface 128 (.agg #[.int .i64 y, .int .i64 c, .int .i64 t, .int .i64 m, .bool b])) 115 128 true).run Tryd.prog w = .ok (.tuple #[.agg #[.int .i64 y, .int .i64 c, .int .i64 t, .int .i64 m, .bool b], .bool true]) w := fun _ => by kernel_rfl
  go_enter Tryd.func80, Tryd.ntmps80
  go_wp2
  refine bodyPost_ret (v := evV 5 y c t m 0 b) (by simp [results, Tryd.results80, go_sem]) rfl ⟨rfl, ?_⟩
  repeat (first | exact Keeps.refl _ | refine Keeps.alloc ?_ _ | refine Keeps.setCell ?_ (by simp) _)
set_option maxHeartbeats 1000000 in
theorem eventOf_fulfill (y : Int) (w : World) : Calls Tryd.prog 80 #[.iface 130 (.agg #[.int .i64 y])] w fun e w' => e = .returned (evV 6 y 0 0 0 0 false) ∧ Keeps w w' := by
  have a1 := ta1 130 (.agg #[.int .i64 y]) (by simp)
  have a2 := ta2 130 (.agg #[.int .i64 y]) (by simp)
  have a3 := ta3 130 (.agg #[.int .i64 y]) (by simp)
  have a4 := ta4 130 (.agg #[.int .i64 y]) (by simp)
  have a5 := ta5 130 (.agg #[.int .i64 y]) (by simp)
  have a6 : ∀ w : World, (Instr.typeAssert (.iface 130 (.agg #[.int .i64 y])) 115 130 true).run Tryd.prog w = .ok (.tuple #[.agg #[.int .i64 y], .bool true]) w := fun _ => by kernel_rfl
  go_enter Tryd.func80, Tryd.ntmps80
  go_wp2
  refine bodyPost_ret (v := evV 6 y 0 0 0 0 false) (by simp [results, Tryd.results80, go_sem]) rfl ⟨rfl, ?_⟩
  repeat (first | exact Keeps.refl _ | refine Keeps.alloc ?_ _ | refine Keeps.setCell ?_ (by simp) _)
set_option maxHeartbeats 1000000 in
theorem eventOf_fail (y : Int) (w : World) : Calls Tryd.prog 80 #[.iface 131 (.agg #[.int .i64 y])] w fun e w' => e = .returned (evV 7 y 0 0 0 0 false) ∧ Keeps w w' := by
  have a1 := ta1 131 (.agg #[.int .i64 y]) (by simp)
  have a2 := ta2 131 (.agg #[.int .i64 y]) (by simp)
  have a3 := ta3 131 (.agg #[.int .i64 y]) (by simp)
  have a4 := ta4 131 (.agg #[.int .i64 y]) (by simp)
  have a5 := ta5 131 (.agg #[.int .i64 y]) (by simp)
  have a6 := ta6 131 (.agg #[.int .i64 y]) (by simp)
  have a7 : ∀ w : World, (Instr.typeAssert (.iface 131 (.agg #[.int .i64 y])) 115 131 true).run Tryd.prog w = .ok (.tuple #[.agg #[.int .i64 y], .bool true]) w := fun _ => by kernel_rfl
  go_enter Tryd.func80, Tryd.ntmps80
  go_wp2
  refine bodyPost_ret (v := evV 7 y 0 0 0 0 false) (by simp [results, Tryd.results80, go_sem]) rfl ⟨rfl, ?_⟩
  repeat (first | exact Keeps.refl _ | refine Keeps.alloc ?_ _ | refine Keeps.setCell ?_ (by simp) _)
set_option maxHeartbeats 1000000 in
theorem eventOf_tick (w : World) : Calls Tryd.prog 80 #[.iface 133 (.agg #[])] w fun e w' => e = .returned (evV 8 0 0 0 0 0 false) ∧ Keeps w w' := by
  have a1 := ta1 133 (.agg #[]) (by simp)
  have a2 := ta2 133 (.agg #[]) (by simp)
  have a3 := ta3 133 (.agg #[]) (by simp)
  have a4 := ta4 133 (.agg #[]) (by simp)
  have a5 := ta5 133 (.agg #[]) (by simp)
  have a6 := ta6 133 (.agg #[]) (by simp)
  have a7 := ta7 133 (.agg #[]) (by simp)
  have a8 : ∀ w : World, (Instr.typeAssert (.iface 133 (.agg #[])) 115 133 true).run Tryd.prog w = .ok (.tuple #[.agg #[], .bool true]) w := fun _ => by kernel_rfl
  go_enter Tryd.func80, Tryd.ntmps80
  go_wp2
  refine bodyPost_ret (v := evV 8 0 0 0 0 0 false) (by simp [results, Tryd.results80, go_sem]) rfl ⟨rfl, ?_⟩
  repeat (first | exact Keeps.refl _ | refine Keeps.alloc ?_ _ | refine Keeps.setCell ?_ (by simp) _)
set_option maxHeartbeats 1000000 in
theorem eventOf_launch (y c t m f : Int) (w : World) : Calls Tryd.prog 80 #[.iface 135 (.agg #[.int .i64 y, .int .i64 c, .int .i64 t, .int .i64 m, .int .i64 f])] w fun e w' => e = .returned (evV 9 y c t m f false) ∧ Keeps w w' := by
  have a1 := ta1 135 (.agg #[.int .i64 y, .int .i64 c, .int .i64 t, .int .i64 m, .int .i64 f]) (by simp)
  have a2 := ta2 135 (.agg #[.int .i64 y, .int .i64 c, .int .i64 t, .int .i64 m, .int .i64 f]) (by simp)
  have a3 := ta3 135 (.agg #[.int .i64 y, .int .i64 c, .int .i64 t, .int .i64 m, .int .i64 f]) (by simp)
  have a4 := ta4 135 (.agg #[.int .i64 y, .int .i64 c, .int .i64 t, .int .i64 m, .int .i64 f]) (by simp)
  have a5 := ta5 135 (.agg #[.int .i64 y, .int .i64 c, .int .i64 t, .int .i64 m, .int .i64 f]) (by simp)
  have a6 := ta6 135 (.agg #[.int .i64 y, .int .i64 c, .int .i64 t, .int .i64 m, .int .i64 f]) (by simp)
  have a7 := ta7 135 (.agg #[.int .i64 y, .int .i64 c, .int .i64 t, .int .i64 m, .int .i64 f]) (by simp)
  have a8 := ta8 135 (.agg #[.int .i64 y, .int .i64 c, .int .i64 t, .int .i64 m, .int .i64 f]) (by simp)
  have a9 : ∀ w : World, (Instr.typeAssert (.iface 135 (.agg #[.int .i64 y, .int .i64 c, .int .i64 t, .int .i64 m, .int .i64 f])) 115 135 true).run Tryd.prog w = .ok (.tuple #[.agg #[.int .i64 y, .int .i64 c, .int .i64 t, .int .i64 m, .int .i64 f], .bool true]) w := fun _ => by kernel_rfl
  go_enter Tryd.func80, Tryd.ntmps80
  go_wp2
  refine bodyPost_ret (v := evV 9 y c t m f false) (by simp [results, Tryd.results80, go_sem]) rfl ⟨rfl, ?_⟩
  repeat (first | exact Keeps.refl _ | refine Keeps.alloc ?_ _ | refine Keeps.setCell ?_ (by simp) _)
set_option maxHeartbeats 1000000 in
theorem eventOf_arrive (y : Int) (w : World) : Calls Tryd.prog 80 #[.iface 136 (.agg #[.int .i64 y])] w fun e w' => e = .returned (evV 10 y 0 0 0 0 false) ∧ Keeps w w' := by
  have a1 := ta1 136 (.agg #[.int .i64 y]) (by simp)
  have a2 := ta2 136 (.agg #[.int .i64 y]) (by simp)
  have a3 := ta3 136 (.agg #[.int .i64 y]) (by simp)
  have a4 := ta4 136 (.agg #[.int .i64 y]) (by simp)
  have a5 := ta5 136 (.agg #[.int .i64 y]) (by simp)
  have a6 := ta6 136 (.agg #[.int .i64 y]) (by simp)
  have a7 := ta7 136 (.agg #[.int .i64 y]) (by simp)
  have a8 := ta8 136 (.agg #[.int .i64 y]) (by simp)
  have a9 := ta9 136 (.agg #[.int .i64 y]) (by simp)
  have a10 : ∀ w : World, (Instr.typeAssert (.iface 136 (.agg #[.int .i64 y])) 115 136 true).run Tryd.prog w = .ok (.tuple #[.agg #[.int .i64 y], .bool true]) w := fun _ => by kernel_rfl
  go_enter Tryd.func80, Tryd.ntmps80
  go_wp2
  refine bodyPost_ret (v := evV 10 y 0 0 0 0 false) (by simp [results, Tryd.results80, go_sem]) rfl ⟨rfl, ?_⟩
  repeat (first | exact Keeps.refl _ | refine Keeps.alloc ?_ _ | refine Keeps.setCell ?_ (by simp) _)
set_option maxHeartbeats 1000000 in
theorem eventOf_lost (y : Int) (w : World) : Calls Tryd.prog 80 #[.iface 137 (.agg #[.int .i64 y])] w fun e w' => e = .returned (evV 11 y 0 0 0 0 false) ∧ Keeps w w' := by
  have a1 := ta1 137 (.agg #[.int .i64 y]) (by simp)
  have a2 := ta2 137 (.agg #[.int .i64 y]) (by simp)
  have a3 := ta3 137 (.agg #[.int .i64 y]) (by simp)
  have a4 := ta4 137 (.agg #[.int .i64 y]) (by simp)
  have a5 := ta5 137 (.agg #[.int .i64 y]) (by simp)
  have a6 := ta6 137 (.agg #[.int .i64 y]) (by simp)
  have a7 := ta7 137 (.agg #[.int .i64 y]) (by simp)
  have a8 := ta8 137 (.agg #[.int .i64 y]) (by simp)
  have a9 := ta9 137 (.agg #[.int .i64 y]) (by simp)
  have a10 := ta10 137 (.agg #[.int .i64 y]) (by simp)
  have a11 : ∀ w : World, (Instr.typeAssert (.iface 137 (.agg #[.int .i64 y])) 115 137 true).run Tryd.prog w = .ok (.tuple #[.agg #[.int .i64 y], .bool true]) w := fun _ => by kernel_rfl
  go_enter Tryd.func80, Tryd.ntmps80
  go_wp2
  refine bodyPost_ret (v := evV 11 y 0 0 0 0 false) (by simp [results, Tryd.results80, go_sem]) rfl ⟨rfl, ?_⟩
  repeat (first | exact Keeps.refl _ | refine Keeps.alloc ?_ _ | refine Keeps.setCell ?_ (by simp) _)
theorem ev_cell0 (k y c t m f : Int) (b : Bool) (w : World) : (w.alloc (.cells #[.int .i64 k, .int .i64 y, .int .i64 c, .int .i64 t, .int .i64 m, .int .i64 f, .bool b] 70)).cell? ⟨w.heap.size, 0, none⟩ = some (.int .i64 k) := by simp
set_option maxHeartbeats 20000000 in
theorem evok_impl (k y c t m f : Int) (b : Bool) (w : World) : Calls Tryd.prog 71 #[evV k y c t m f b] w fun e w' => e = .returned (.bool (evB k y c t m f b)) ∧ Keeps w w' := by
  have hk : k = 1 ∨ k = 2 ∨ k = 3 ∨ k = 4 ∨ k = 5 ∨ k = 6 ∨ k = 7 ∨ k = 8 ∨ k = 9 ∨ k = 10 ∨ k = 11 ∨ k < 1 ∨ 11 < k := by omega
  rcases hk with rfl | rfl | rfl | rfl | rfl | rfl | rfl | rfl | rfl | rfl | rfl | h
  have hm : ∀ w : World, (method 261 120 (.agg #[.int .i64 m]) "loop.example/g00400/impl.right").run Tryd.prog w = .ok (96, .agg #[.int .i64 m]) w := fun _ => by kernel_rfl
  have HKO := hide (kindOf_deposit y c t m f b)
  have HRI := hide (right_deposit m)
  have HEV := hide (eventOf_deposit m)
  have hq := ev_eql 1 0 0 0 m 0 false 1 y c t m f b
  rw [show evB 1 y c t m f b = ((fieldB true m 1 1125899906842624) && evEq 1 0 0 0 m 0 false 1 y c t m f b) from by rw [Bool.eq_iff_iff]; cases b <;> simp [evB, evEq, fieldB, chansB] <;> omega]
  generalize evEq 1 0 0 0 m 0 false 1 y c t m f b = E at *
  generalize hr : (fieldB true m 1 1125899906842624) = r at *
  clear hr
  cases r
  rotate_left 2
  have hm : ∀ w : World, (method 261 122 (.agg #[.int .i64 c, .int .i64 m, .int .i64 f]) "loop.example/g00400/impl.right").run Tryd.prog w = .ok (100, .agg #[.int .i64 c, .int .i64 m, .int .i64 f]) w := fun _ => by kernel_rfl
  have HKO := hide (kindOf_open y c t m f b)
  have HRI := hide (right_open c m f)
  have HEV := hide (eventOf_open c m f)
  have hq := ev_eql 2 0 c 0 m f false 2 y c t m f b
  rw [show evB 2 y c t m f b = ((fieldB true c 1 99 && fieldB true m 1 1125899906842624 && fieldB true f 0 1125899906842624) && evEq 2 0 c 0 m f false 2 y c t m f b) from by rw [Bool.eq_iff_iff]; cases b <;> simp [evB, evEq, fieldB, chansB] <;> omega]
  generalize evEq 2 0 c 0 m f false 2 y c t m f b = E at *
  generalize hr : (fieldB true c 1 99 && fieldB true m 1 1125899906842624 && fieldB true f 0 1125899906842624) = r at *
  clear hr
  cases r
  rotate_left 2
  have hm : ∀ w : World, (method 261 124 (.agg #[.int .i64 c, .int .i64 f]) "loop.example/g00400/impl.right").run Tryd.prog w = .ok (103, .agg #[.int .i64 c, .int .i64 f]) w := fun _ => by kernel_rfl
  have HKO := hide (kindOf_close y c t m f b)
  have HRI := hide (right_close c f)
  have HEV := hide (eventOf_close c f)
  have hq := ev_eql 3 0 c 0 0 f false 3 y c t m f b
  rw [show evB 3 y c t m f b = ((fieldB true c 1 99 && fieldB true f 0 1125899906842624) && evEq 3 0 c 0 0 f false 3 y c t m f b) from by rw [Bool.eq_iff_iff]; cases b <;> simp [evB, evEq, fieldB, chansB] <;> omega]
  generalize evEq 3 0 c 0 0 f false 3 y c t m f b = E at *
  generalize hr : (fieldB true c 1 99 && fieldB true f 0 1125899906842624) = r at *
  clear hr
  cases r
  rotate_left 2
  have hm : ∀ w : World, (method 261 126 (.agg #[.int .i64 c, .int .i64 m, .int .i64 f]) "loop.example/g00400/impl.right").run Tryd.prog w = .ok (105, .agg #[.int .i64 c, .int .i64 m, .int .i64 f]) w := fun _ => by kernel_rfl
  have HKO := hide (kindOf_price y c t m f b)
  have HRI := hide (right_price c m f)
  have HEV := hide (eventOf_price c m f)
  have hq := ev_eql 4 0 c 0 m f false 4 y c t m f b
  rw [show evB 4 y c t m f b = ((fieldB true c 1 99 && fieldB true m 0 1125899906842624 && fieldB true f 0 1000000) && evEq 4 0 c 0 m f false 4 y c t m f b) from by rw [Bool.eq_iff_iff]; cases b <;> simp [evB, evEq, fieldB, chansB] <;> omega]
  generalize evEq 4 0 c 0 m f false 4 y c t m f b = E at *
  generalize hr : (fieldB true c 1 99 && fieldB true m 0 1125899906842624 && fieldB true f 0 1000000) = r at *
  clear hr
  cases r
  rotate_left 2
  have hm : ∀ w : World, (method 261 128 (.agg #[.int .i64 y, .int .i64 c, .int .i64 t, .int .i64 m, .bool b]) "loop.example/g00400/impl.right").run Tryd.prog w = .ok (108, .agg #[.int .i64 y, .int .i64 c, .int .i64 t, .int .i64 m, .bool b]) w := fun _ => by kernel_rfl
  have HKO := hide (kindOf_admit y c t m f b)
  have HRI := hide (right_admit y c t m b)
  have HEV := hide (eventOf_admit y c t m b)
  have hq := ev_eql 5 y c t m 0 b 5 y c t m f b
  rw [show evB 5 y c t m f b = ((fieldB true y 1 1000000 && chansB c t && fieldB true m 1 1125899906842624) && evEq 5 y c t m 0 b 5 y c t m f b) from by rw [Bool.eq_iff_iff]; cases b <;> simp [evB, evEq, fieldB, chansB] <;> omega]
  generalize evEq 5 y c t m 0 b 5 y c t m f b = E at *
  generalize hr : (fieldB true y 1 1000000 && chansB c t && fieldB true m 1 1125899906842624) = r at *
  clear hr
  cases r
  rotate_left 2
  have hm : ∀ w : World, (method 261 130 (.agg #[.int .i64 y]) "loop.example/g00400/impl.right").run Tryd.prog w = .ok (112, .agg #[.int .i64 y]) w := fun _ => by kernel_rfl
  have HKO := hide (kindOf_fulfill y c t m f b)
  have HRI := hide (right_fulfill y)
  have HEV := hide (eventOf_fulfill y)
  have hq := ev_eql 6 y 0 0 0 0 false 6 y c t m f b
  rw [show evB 6 y c t m f b = ((fieldB true y 1 1000000) && evEq 6 y 0 0 0 0 false 6 y c t m f b) from by rw [Bool.eq_iff_iff]; cases b <;> simp [evB, evEq, fieldB, chansB] <;> omega]
  generalize evEq 6 y 0 0 0 0 false 6 y c t m f b = E at *
  generalize hr : (fieldB true y 1 1000000) = r at *
  clear hr
  cases r
  rotate_left 2
  have hm : ∀ w : World, (method 261 131 (.agg #[.int .i64 y]) "loop.example/g00400/impl.right").run Tryd.prog w = .ok (114, .agg #[.int .i64 y]) w := fun _ => by kernel_rfl
  have HKO := hide (kindOf_fail y c t m f b)
  have HRI := hide (right_fail y)
  have HEV := hide (eventOf_fail y)
  have hq := ev_eql 7 y 0 0 0 0 false 7 y c t m f b
  rw [show evB 7 y c t m f b = ((fieldB true y 1 1000000) && evEq 7 y 0 0 0 0 false 7 y c t m f b) from by rw [Bool.eq_iff_iff]; cases b <;> simp [evB, evEq, fieldB, chansB] <;> omega]
  generalize evEq 7 y 0 0 0 0 false 7 y c t m f b = E at *
  generalize hr : (fieldB true y 1 1000000) = r at *
  clear hr
  cases r
  rotate_left 2
  have hm : ∀ w : World, (method 261 133 (.agg #[]) "loop.example/g00400/impl.right").run Tryd.prog w = .ok (116, .agg #[]) w := fun _ => by kernel_rfl
  have HKO := hide (kindOf_tick y c t m f b)
  have HRI := hide (right_tick)
  have HEV := hide (eventOf_tick)
  have hq := ev_eql 8 0 0 0 0 0 false 8 y c t m f b
  rw [show evB 8 y c t m f b = ((true) && evEq 8 0 0 0 0 0 false 8 y c t m f b) from by rw [Bool.eq_iff_iff]; cases b <;> simp [evB, evEq, fieldB, chansB] <;> omega]
  generalize evEq 8 0 0 0 0 0 false 8 y c t m f b = E at *
  rotate_left
  have hm : ∀ w : World, (method 261 135 (.agg #[.int .i64 y, .int .i64 c, .int .i64 t, .int .i64 m, .int .i64 f]) "loop.example/g00400/impl.right").run Tryd.prog w = .ok (118, .agg #[.int .i64 y, .int .i64 c, .int .i64 t, .int .i64 m, .int .i64 f]) w := fun _ => by kernel_rfl
  have HKO := hide (kindOf_launch y c t m f b)
  have HRI := hide (right_launch y c t m f)
  have HEV := hide (eventOf_launch y c t m f)
  have hq := ev_eql 9 y c t m f false 9 y c t m f b
  rw [show evB 9 y c t m f b = ((fieldB true y 1 1000000 && chansB c t && fieldB true m 1 1125899906842624 && fieldB true f 0 1125899906842624) && evEq 9 y c t m f false 9 y c t m f b) from by rw [Bool.eq_iff_iff]; cases b <;> simp [evB, evEq, fieldB, chansB] <;> omega]
  generalize evEq 9 y c t m f false 9 y c t m f b = E at *
  generalize hr : (fieldB true y 1 1000000 && chansB c t && fieldB true m 1 1125899906842624 && fieldB true f 0 1125899906842624) = r at *
  clear hr
  cases r
  rotate_left 2
  have hm : ∀ w : World, (method 261 136 (.agg #[.int .i64 y]) "loop.example/g00400/impl.right").run Tryd.prog w = .ok (120, .agg #[.int .i64 y]) w := fun _ => by kernel_rfl
  have HKO := hide (kindOf_arrive y c t m f b)
  have HRI := hide (right_arrive y)
  have HEV := hide (eventOf_arrive y)
  have hq := ev_eql 10 y 0 0 0 0 false 10 y c t m f b
  rw [show evB 10 y c t m f b = ((fieldB true y 1 1000000) && evEq 10 y 0 0 0 0 false 10 y c t m f b) from by rw [Bool.eq_iff_iff]; cases b <;> simp [evB, evEq, fieldB, chansB] <;> omega]
  generalize evEq 10 y 0 0 0 0 false 10 y c t m f b = E at *
  generalize hr : (fieldB true y 1 1000000) = r at *
  clear hr
  cases r
  rotate_left 2
  have hm : ∀ w : World, (method 261 137 (.agg #[.int .i64 y]) "loop.example/g00400/impl.right").run Tryd.prog w = .ok (122, .agg #[.int .i64 y]) w := fun _ => by kernel_rfl
  have HKO := hide (kindOf_lost y c t m f b)
  have HRI := hide (right_lost y)
  have HEV := hide (eventOf_lost y)
  have hq := ev_eql 11 y 0 0 0 0 false 11 y c t m f b
  rw [show evB 11 y c t m f b = ((fieldB true y 1 1000000) && evEq 11 y 0 0 0 0 false 11 y c t m f b) from by rw [Bool.eq_iff_iff]; cases b <;> simp [evB, evEq, fieldB, chansB] <;> omega]
  generalize evEq 11 y 0 0 0 0 false 11 y c t m f b = E at *
  generalize hr : (fieldB true y 1 1000000) = r at *
  clear hr
  cases r
  rotate_left 2
  have hm : ∀ w : World, (method 261 138 (.agg #[]) "loop.example/g00400/impl.right").run Tryd.prog w = .ok (124, .agg #[]) w := fun _ => by kernel_rfl
  have HKO := hide (fun w1 => kindOf_unknown k y c t m f b w1 h)
  have HRI := hide right_unknown
  rw [show evB k y c t m f b = false from by unfold evB; repeat rw [if_neg (by omega)]]
  clear h
  all_goals (
    go_enter Tryd.func71, Tryd.ntmps71
    go_wp2_with fail
    refine (unhide HKO _).mono ?_
    rintro e w1 ⟨rfl, hk⟩
    have c0 := gr_cell (hk.cell (ev_cell0 _ _ _ _ _ _ _ _))
    have c1 := gr_cell (hk.cell (p := ⟨w.heap.size, 1, none⟩) (v := .int .i64 y) (by simp))
    have c2 := gr_cell (hk.cell (p := ⟨w.heap.size, 2, none⟩) (v := .int .i64 c) (by simp))
    have c3 := gr_cell (hk.cell (p := ⟨w.heap.size, 3, none⟩) (v := .int .i64 t) (by simp))
    have c4 := gr_cell (hk.cell (p := ⟨w.heap.size, 4, none⟩) (v := .int .i64 m) (by simp))
    have c5 := gr_cell (hk.cell (p := ⟨w.heap.size, 5, none⟩) (v := .int .i64 f) (by simp))
    have c6 := gr_cell (hk.cell (p := ⟨w.heap.size, 6, none⟩) (v := .bool b) (by simp))
    have HK := hide (Keeps.trans (Keeps.alloc (Keeps.refl w) _) hk)
    clear hk HKO
    go_wp2_with fail
    refine region_gr (by kernel_rfl) (by kernel_rfl) ?_
    repeat (go_big_quiet_step (first | (go_at_call 96; exact gr_call (unhide HRI _)) | (go_at_call 100; exact gr_call (unhide HRI _)) | (go_at_call 103; exact gr_call (unhide HRI _)) | (go_at_call 105; exact gr_call (unhide HRI _)) | (go_at_call 108; exact gr_call (unhide HRI _)) | (go_at_call 112; exact gr_call (unhide HRI _)) | (go_at_call 114; exact gr_call (unhide HRI _)) | (go_at_call 116; exact gr_call (unhide HRI _)) | (go_at_call 118; exact gr_call (unhide HRI _)) | (go_at_call 120; exact gr_call (unhide HRI _)) | (go_at_call 122; exact gr_call (unhide HRI _)) | (go_at_call 124; exact gr_call (unhide HRI _)) | (go_at_call 80; exact gr_call (unhide HEV _))))
    refine wpQuiet_nil ?_
    intro w2 hw2
    have hk2 := Keeps.of_gr hw2
    clear hw2
    go_wp2_with fail
    go_ret
    exact ⟨ret_ev (by simp), HK.out.trans hk2⟩)
end Go.Proofs.YtkdnddckogbgaaaDoor
