/- The program's EventOk, by contract: events out of kinds, and the whole. -/
import Derived.Test.YtkdnddckogbgaaaGreatDoorFO12
namespace Go.Proofs.YtkdnddckogbgaaaGreatDoor
open Go.RowKit
set_option linter.unusedVariables false
set_option maxRecDepth 10000
set_option linter.unusedSimpArgs false
theorem ta1 (g : Nat) (v : Value) (h : g = 150 ∨ g = 152 ∨ g = 154 ∨ g = 156 ∨ g = 158 ∨ g = 159 ∨ g = 161 ∨ g = 163 ∨ g = 164 ∨ g = 165) (w : World) : (Instr.typeAssert (.iface g v) 135 148 true).run Tryz.prog w = .ok (.tuple #[.agg #[.int .i64 0], .bool false]) w := by
  rcases h with rfl | rfl | rfl | rfl | rfl | rfl | rfl | rfl | rfl | rfl <;> kernel_rfl
theorem ta2 (g : Nat) (v : Value) (h : g = 152 ∨ g = 154 ∨ g = 156 ∨ g = 158 ∨ g = 159 ∨ g = 161 ∨ g = 163 ∨ g = 164 ∨ g = 165) (w : World) : (Instr.typeAssert (.iface g v) 135 150 true).run Tryz.prog w = .ok (.tuple #[.agg #[.int .i64 0, .int .i64 0, .int .i64 0], .bool false]) w := by
  rcases h with rfl | rfl | rfl | rfl | rfl | rfl | rfl | rfl | rfl <;> kernel_rfl
theorem ta3 (g : Nat) (v : Value) (h : g = 154 ∨ g = 156 ∨ g = 158 ∨ g = 159 ∨ g = 161 ∨ g = 163 ∨ g = 164 ∨ g = 165) (w : World) : (Instr.typeAssert (.iface g v) 135 152 true).run Tryz.prog w = .ok (.tuple #[.agg #[.int .i64 0, .int .i64 0], .bool false]) w := by
  rcases h with rfl | rfl | rfl | rfl | rfl | rfl | rfl | rfl <;> kernel_rfl
theorem ta4 (g : Nat) (v : Value) (h : g = 156 ∨ g = 158 ∨ g = 159 ∨ g = 161 ∨ g = 163 ∨ g = 164 ∨ g = 165) (w : World) : (Instr.typeAssert (.iface g v) 135 154 true).run Tryz.prog w = .ok (.tuple #[.agg #[.int .i64 0, .int .i64 0, .int .i64 0], .bool false]) w := by
  rcases h with rfl | rfl | rfl | rfl | rfl | rfl | rfl <;> kernel_rfl
theorem ta5 (g : Nat) (v : Value) (h : g = 158 ∨ g = 159 ∨ g = 161 ∨ g = 163 ∨ g = 164 ∨ g = 165) (w : World) : (Instr.typeAssert (.iface g v) 135 156 true).run Tryz.prog w = .ok (.tuple #[.agg #[.int .i64 0, .int .i64 0, .int .i64 0, .int .i64 0, .bool false], .bool false]) w := by
  rcases h with rfl | rfl | rfl | rfl | rfl | rfl <;> kernel_rfl
theorem ta6 (g : Nat) (v : Value) (h : g = 159 ∨ g = 161 ∨ g = 163 ∨ g = 164 ∨ g = 165) (w : World) : (Instr.typeAssert (.iface g v) 135 158 true).run Tryz.prog w = .ok (.tuple #[.agg #[.int .i64 0], .bool false]) w := by
  rcases h with rfl | rfl | rfl | rfl | rfl <;> kernel_rfl
theorem ta7 (g : Nat) (v : Value) (h : g = 161 ∨ g = 163 ∨ g = 164 ∨ g = 165) (w : World) : (Instr.typeAssert (.iface g v) 135 159 true).run Tryz.prog w = .ok (.tuple #[.agg #[.int .i64 0], .bool false]) w := by
  rcases h with rfl | rfl | rfl | rfl <;> kernel_rfl
theorem ta8 (g : Nat) (v : Value) (h : g = 163 ∨ g = 164 ∨ g = 165) (w : World) : (Instr.typeAssert (.iface g v) 135 161 true).run Tryz.prog w = .ok (.tuple #[.agg #[], .bool false]) w := by
  rcases h with rfl | rfl | rfl <;> kernel_rfl
theorem ta9 (g : Nat) (v : Value) (h : g = 164 ∨ g = 165) (w : World) : (Instr.typeAssert (.iface g v) 135 163 true).run Tryz.prog w = .ok (.tuple #[.agg #[.int .i64 0, .int .i64 0, .int .i64 0, .int .i64 0, .int .i64 0], .bool false]) w := by
  rcases h with rfl | rfl <;> kernel_rfl
theorem ta10 (g : Nat) (v : Value) (h : g = 165) (w : World) : (Instr.typeAssert (.iface g v) 135 164 true).run Tryz.prog w = .ok (.tuple #[.agg #[.int .i64 0], .bool false]) w := by
  subst h <;> kernel_rfl
set_option maxHeartbeats 1000000 in
theorem eventOf_deposit (m : Int) (w : World) : Calls Tryz.prog 103 #[.iface 148 (.agg #[.int .i64 m])] w fun e w' => e = .returned (evV 1 0 0 0 m 0 false) ∧ Keeps w w' := by
  have a1 : ∀ w : World, (Instr.typeAssert (.iface 148 (.agg #[.int .i64 m])) 135 148 true).run Tryz.prog w = .ok (.tuple #[.agg #[.int .i64 m], .bool true]) w := fun _ => by kernel_rfl
  go_enter Tryz.func103, Tryz.ntmps103
  go_wp2
  refine bodyPost_ret (v := evV 1 0 0 0 m 0 false) (by simp [results, Tryz.results103, go_sem]) rfl ⟨rfl, ?_⟩
  repeat (first | exact Keeps.refl _ | refine Keeps.alloc ?_ _ | refine Keeps.setCell ?_ (by simp) _)
set_option maxHeartbeats 1000000 in
theorem eventOf_open (c m f : Int) (w : World) : Calls Tryz.prog 103 #[.iface 150 (.agg #[.int .i64 c, .int .i64 m, .int .i64 f])] w fun e w' => e = .returned (evV 2 0 c 0 m f false) ∧ Keeps w w' := by
  have a1 := ta1 150 (.agg #[.int .i64 c, .int .i64 m, .int .i64 f]) (by simp)
  have a2 : ∀ w : World, (Instr.typeAssert (.iface 150 (.agg #[.int .i64 c, .int .i64 m, .int .i64 f])) 135 150 true).run Tryz.prog w = .ok (.tuple #[.agg #[.int .i64 c, .int .i64 m, .int .i64 f], .bool true]) w := fun _ => by kernel_rfl
  go_enter Tryz.func103, Tryz.ntmps103
  go_wp2
  refine bodyPost_ret (v := evV 2 0 c 0 m f false) (by simp [results, Tryz.results103, go_sem]) rfl ⟨rfl, ?_⟩
  repeat (first | exact Keeps.refl _ | refine Keeps.alloc ?_ _ | refine Keeps.setCell ?_ (by simp) _)
set_option maxHeartbeats 1000000 in
theorem eventOf_close (c f : Int) (w : World) : Calls Tryz.prog 103 #[.iface 152 (.agg #[.int .i64 c, .int .i64 f])] w fun e w' => e = .returned (evV 3 0 c 0 0 f false) ∧ Keeps w w' := by
  have a1 := ta1 152 (.agg #[.int .i64 c, .int .i64 f]) (by simp)
  have a2 := ta2 152 (.agg #[.int .i64 c, .int .i64 f]) (by simp)
  have a3 : ∀ w : World, (Instr.typeAssert (.iface 152 (.agg #[.int .i64 c, .int .i64 f])) 135 152 true).run Tryz.prog w = .ok (.tuple #[.agg #[.int .i64 c, .int .i64 f], .bool true]) w := fun _ => by kernel_rfl
  go_enter Tryz.func103, Tryz.ntmps103
  go_wp2
  refine bodyPost_ret (v := evV 3 0 c 0 0 f false) (by simp [results, Tryz.results103, go_sem]) rfl ⟨rfl, ?_⟩
  repeat (first | exact Keeps.refl _ | refine Keeps.alloc ?_ _ | refine Keeps.setCell ?_ (by simp) _)
set_option maxHeartbeats 1000000 in
theorem eventOf_price (c m f : Int) (w : World) : Calls Tryz.prog 103 #[.iface 154 (.agg #[.int .i64 c, .int .i64 m, .int .i64 f])] w fun e w' => e = .returned (evV 4 0 c 0 m f false) ∧ Keeps w w' := by
  have a1 := ta1 154 (.agg #[.int .i64 c, .int .i64 m, .int .i64 f]) (by simp)
  have a2 := ta2 154 (.agg #[.int .i64 c, .int .i64 m, .int .i64 f]) (by simp)
  have a3 := ta3 154 (.agg #[.int .i64 c, .int .i64 m, .int .i64 f]) (by simp)
  have a4 : ∀ w : World, (Instr.typeAssert (.iface 154 (.agg #[.int .i64 c, .int .i64 m, .int .i64 f])) 135 154 true).run Tryz.prog w = .ok (.tuple #[.agg #[.int .i64 c, .int .i64 m, .int .i64 f], .bool true]) w := fun _ => by kernel_rfl
  go_enter Tryz.func103, Tryz.ntmps103
  go_wp2
  refine bodyPost_ret (v := evV 4 0 c 0 m f false) (by simp [results, Tryz.results103, go_sem]) rfl ⟨rfl, ?_⟩
  repeat (first | exact Keeps.refl _ | refine Keeps.alloc ?_ _ | refine Keeps.setCell ?_ (by simp) _)
set_option maxHeartbeats 1000000 in
theorem eventOf_admit (y c t m : Int) (b : Bool) (w : World) : Calls Tryz.prog 103 #[.iface 156 (.agg #[.int .i64 y, .int .i64 c, .int .i64 t, .int .i64 m, .bool b])] w fun e w' => e = .returned (evV 5 y c t m 0 b) ∧ Keeps w w' := by
  have a1 := ta1 156 (.agg #[.int .i64 y, .int .i64 c, .int .i64 t, .int .i64 m, .bool b]) (by simp)
  have a2 := ta2 156 (.agg #[.int .i64 y, .int .i64 c, .int .i64 t, .int .i64 m, .bool b]) (by simp)
  have a3 := ta3 156 (.agg #[.int .i64 y, .int .i64 c, .int .i64 t, .int .i64 m, .bool b]) (by simp)
  have a4 := ta4 156 (.agg #[.int .i64 y, .int .i64 c, .int .i64 t, .int .i64 m, .bool b]) (by simp)
  have a5 : ∀ w : World, (Instr.typeAssert (.iface 156 (.agg #[.int .i64 y, .int .i64 c, .int .i64 t, .int .i64 m, .bool b])) 135 156 true).run Tryz.prog w = .ok (.tuple #[.agg #[.int .i64 y, .int .i64 c, .int .i64 t, .int .i64 m, .bool b], .bool true]) w := fun _ => by kernel_rfl
  go_enter Tryz.func103, Tryz.ntmps103
  go_wp2
  refine bodyPost_ret (v := evV 5 y c t m 0 b) (by simp [results, Tryz.results103, go_sem]) rfl ⟨rfl, ?_⟩
  repeat (first | exact Keeps.refl _ | refine Keeps.alloc ?_ _ | refine Keeps.setCell ?_ (by simp) _)
set_option maxHeartbeats 1000000 in
theorem eventOf_fulfill (y : Int) (w : World) : Calls Tryz.prog 103 #[.iface 158 (.agg #[.int .i64 y])] w fun e w' => e = .returned (evV 6 y 0 0 0 0 false) ∧ Keeps w w' := by
  have a1 := ta1 158 (.agg #[.int .i64 y]) (by simp)
  have a2 := ta2 158 (.agg #[.int .i64 y]) (by simp)
  have a3 := ta3 158 (.agg #[.int .i64 y]) (by simp)
  have a4 := ta4 158 (.agg #[.int .i64 y]) (by simp)
  have a5 := ta5 158 (.agg #[.int .i64 y]) (by simp)
  have a6 : ∀ w : World, (Instr.typeAssert (.iface 158 (.agg #[.int .i64 y])) 135 158 true).run Tryz.prog w = .ok (.tuple #[.agg #[.int .i64 y], .bool true]) w := fun _ => by kernel_rfl
  go_enter Tryz.func103, Tryz.ntmps103
  go_wp2
  refine bodyPost_ret (v := evV 6 y 0 0 0 0 false) (by simp [results, Tryz.results103, go_sem]) rfl ⟨rfl, ?_⟩
  repeat (first | exact Keeps.refl _ | refine Keeps.alloc ?_ _ | refine Keeps.setCell ?_ (by simp) _)
set_option maxHeartbeats 1000000 in
theorem eventOf_fail (y : Int) (w : World) : Calls Tryz.prog 103 #[.iface 159 (.agg #[.int .i64 y])] w fun e w' => e = .returned (evV 7 y 0 0 0 0 false) ∧ Keeps w w' := by
  have a1 := ta1 159 (.agg #[.int .i64 y]) (by simp)
  have a2 := ta2 159 (.agg #[.int .i64 y]) (by simp)
  have a3 := ta3 159 (.agg #[.int .i64 y]) (by simp)
  have a4 := ta4 159 (.agg #[.int .i64 y]) (by simp)
  have a5 := ta5 159 (.agg #[.int .i64 y]) (by simp)
  have a6 := ta6 159 (.agg #[.int .i64 y]) (by simp)
  have a7 : ∀ w : World, (Instr.typeAssert (.iface 159 (.agg #[.int .i64 y])) 135 159 true).run Tryz.prog w = .ok (.tuple #[.agg #[.int .i64 y], .bool true]) w := fun _ => by kernel_rfl
  go_enter Tryz.func103, Tryz.ntmps103
  go_wp2
  refine bodyPost_ret (v := evV 7 y 0 0 0 0 false) (by simp [results, Tryz.results103, go_sem]) rfl ⟨rfl, ?_⟩
  repeat (first | exact Keeps.refl _ | refine Keeps.alloc ?_ _ | refine Keeps.setCell ?_ (by simp) _)
set_option maxHeartbeats 1000000 in
theorem eventOf_tick (w : World) : Calls Tryz.prog 103 #[.iface 161 (.agg #[])] w fun e w' => e = .returned (evV 8 0 0 0 0 0 false) ∧ Keeps w w' := by
  have a1 := ta1 161 (.agg #[]) (by simp)
  have a2 := ta2 161 (.agg #[]) (by simp)
  have a3 := ta3 161 (.agg #[]) (by simp)
  have a4 := ta4 161 (.agg #[]) (by simp)
  have a5 := ta5 161 (.agg #[]) (by simp)
  have a6 := ta6 161 (.agg #[]) (by simp)
  have a7 := ta7 161 (.agg #[]) (by simp)
  have a8 : ∀ w : World, (Instr.typeAssert (.iface 161 (.agg #[])) 135 161 true).run Tryz.prog w = .ok (.tuple #[.agg #[], .bool true]) w := fun _ => by kernel_rfl
  go_enter Tryz.func103, Tryz.ntmps103
  go_wp2
  refine bodyPost_ret (v := evV 8 0 0 0 0 0 false) (by simp [results, Tryz.results103, go_sem]) rfl ⟨rfl, ?_⟩
  repeat (first | exact Keeps.refl _ | refine Keeps.alloc ?_ _ | refine Keeps.setCell ?_ (by simp) _)
set_option maxHeartbeats 1000000 in
theorem eventOf_launch (y c t m f : Int) (w : World) : Calls Tryz.prog 103 #[.iface 163 (.agg #[.int .i64 y, .int .i64 c, .int .i64 t, .int .i64 m, .int .i64 f])] w fun e w' => e = .returned (evV 9 y c t m f false) ∧ Keeps w w' := by
  have a1 := ta1 163 (.agg #[.int .i64 y, .int .i64 c, .int .i64 t, .int .i64 m, .int .i64 f]) (by simp)
  have a2 := ta2 163 (.agg #[.int .i64 y, .int .i64 c, .int .i64 t, .int .i64 m, .int .i64 f]) (by simp)
  have a3 := ta3 163 (.agg #[.int .i64 y, .int .i64 c, .int .i64 t, .int .i64 m, .int .i64 f]) (by simp)
  have a4 := ta4 163 (.agg #[.int .i64 y, .int .i64 c, .int .i64 t, .int .i64 m, .int .i64 f]) (by simp)
  have a5 := ta5 163 (.agg #[.int .i64 y, .int .i64 c, .int .i64 t, .int .i64 m, .int .i64 f]) (by simp)
  have a6 := ta6 163 (.agg #[.int .i64 y, .int .i64 c, .int .i64 t, .int .i64 m, .int .i64 f]) (by simp)
  have a7 := ta7 163 (.agg #[.int .i64 y, .int .i64 c, .int .i64 t, .int .i64 m, .int .i64 f]) (by simp)
  have a8 := ta8 163 (.agg #[.int .i64 y, .int .i64 c, .int .i64 t, .int .i64 m, .int .i64 f]) (by simp)
  have a9 : ∀ w : World, (Instr.typeAssert (.iface 163 (.agg #[.int .i64 y, .int .i64 c, .int .i64 t, .int .i64 m, .int .i64 f])) 135 163 true).run Tryz.prog w = .ok (.tuple #[.agg #[.int .i64 y, .int .i64 c, .int .i64 t, .int .i64 m, .int .i64 f], .bool true]) w := fun _ => by kernel_rfl
  go_enter Tryz.func103, Tryz.ntmps103
  go_wp2
  refine bodyPost_ret (v := evV 9 y c t m f false) (by simp [results, Tryz.results103, go_sem]) rfl ⟨rfl, ?_⟩
  repeat (first | exact Keeps.refl _ | refine Keeps.alloc ?_ _ | refine Keeps.setCell ?_ (by simp) _)
set_option maxHeartbeats 1000000 in
theorem eventOf_arrive (y : Int) (w : World) : Calls Tryz.prog 103 #[.iface 164 (.agg #[.int .i64 y])] w fun e w' => e = .returned (evV 10 y 0 0 0 0 false) ∧ Keeps w w' := by
  have a1 := ta1 164 (.agg #[.int .i64 y]) (by simp)
  have a2 := ta2 164 (.agg #[.int .i64 y]) (by simp)
  have a3 := ta3 164 (.agg #[.int .i64 y]) (by simp)
  have a4 := ta4 164 (.agg #[.int .i64 y]) (by simp)
  have a5 := ta5 164 (.agg #[.int .i64 y]) (by simp)
  have a6 := ta6 164 (.agg #[.int .i64 y]) (by simp)
  have a7 := ta7 164 (.agg #[.int .i64 y]) (by simp)
  have a8 := ta8 164 (.agg #[.int .i64 y]) (by simp)
  have a9 := ta9 164 (.agg #[.int .i64 y]) (by simp)
  have a10 : ∀ w : World, (Instr.typeAssert (.iface 164 (.agg #[.int .i64 y])) 135 164 true).run Tryz.prog w = .ok (.tuple #[.agg #[.int .i64 y], .bool true]) w := fun _ => by kernel_rfl
  go_enter Tryz.func103, Tryz.ntmps103
  go_wp2
  refine bodyPost_ret (v := evV 10 y 0 0 0 0 false) (by simp [results, Tryz.results103, go_sem]) rfl ⟨rfl, ?_⟩
  repeat (first | exact Keeps.refl _ | refine Keeps.alloc ?_ _ | refine Keeps.setCell ?_ (by simp) _)
set_option maxHeartbeats 1000000 in
theorem eventOf_lost (y : Int) (w : World) : Calls Tryz.prog 103 #[.iface 165 (.agg #[.int .i64 y])] w fun e w' => e = .returned (evV 11 y 0 0 0 0 false) ∧ Keeps w w' := by
  have a1 := ta1 165 (.agg #[.int .i64 y]) (by simp)
  have a2 := ta2 165 (.agg #[.int .i64 y]) (by simp)
  have a3 := ta3 165 (.agg #[.int .i64 y]) (by simp)
  have a4 := ta4 165 (.agg #[.int .i64 y]) (by simp)
  have a5 := ta5 165 (.agg #[.int .i64 y]) (by simp)
  have a6 := ta6 165 (.agg #[.int .i64 y]) (by simp)
  have a7 := ta7 165 (.agg #[.int .i64 y]) (by simp)
  have a8 := ta8 165 (.agg #[.int .i64 y]) (by simp)
  have a9 := ta9 165 (.agg #[.int .i64 y]) (by simp)
  have a10 := ta10 165 (.agg #[.int .i64 y]) (by simp)
  have a11 : ∀ w : World, (Instr.typeAssert (.iface 165 (.agg #[.int .i64 y])) 135 165 true).run Tryz.prog w = .ok (.tuple #[.agg #[.int .i64 y], .bool true]) w := fun _ => by kernel_rfl
  go_enter Tryz.func103, Tryz.ntmps103
  go_wp2
  refine bodyPost_ret (v := evV 11 y 0 0 0 0 false) (by simp [results, Tryz.results103, go_sem]) rfl ⟨rfl, ?_⟩
  repeat (first | exact Keeps.refl _ | refine Keeps.alloc ?_ _ | refine Keeps.setCell ?_ (by simp) _)
theorem ev_cell0 (k y c t m f : Int) (b : Bool) (w : World) : (w.alloc (.cells #[.int .i64 k, .int .i64 y, .int .i64 c, .int .i64 t, .int .i64 m, .int .i64 f, .bool b] 30)).cell? ⟨w.heap.size, 0, none⟩ = some (.int .i64 k) := by simp
set_option maxHeartbeats 20000000 in
theorem evok_impl (k y c t m f : Int) (b : Bool) (w : World) : Calls Tryz.prog 69 #[evV k y c t m f b] w fun e w' => e = .returned (.bool (evB k y c t m f b)) ∧ Keeps w w' := by
  have hk : k = 1 ∨ k = 2 ∨ k = 3 ∨ k = 4 ∨ k = 5 ∨ k = 6 ∨ k = 7 ∨ k = 8 ∨ k = 9 ∨ k = 10 ∨ k = 11 ∨ k < 1 ∨ 11 < k := by omega
  rcases hk with rfl | rfl | rfl | rfl | rfl | rfl | rfl | rfl | rfl | rfl | rfl | h
  have hm : ∀ w : World, (method 295 148 (.agg #[.int .i64 m]) "loop.example/g00400/impl.right").run Tryz.prog w = .ok (136, .agg #[.int .i64 m]) w := fun _ => by kernel_rfl
  have HKO := hide (kindOf_deposit y c t m f b)
  have HRI := hide (right_deposit m)
  have HEV := hide (eventOf_deposit m)
  have hq := ev_eql 1 0 0 0 m 0 false 1 y c t m f b
  rw [show evB 1 y c t m f b = ((fieldB true m 1 1125899906842624) && evEq 1 0 0 0 m 0 false 1 y c t m f b) from by rw [Bool.eq_iff_iff]; cases b <;> simp [evB, evEq, fieldB, chansB] <;> omega]
  generalize evEq 1 0 0 0 m 0 false 1 y c t m f b = E at *
  generalize hr : (fieldB true m 1 1125899906842624) = r at *
  clear hr
  cases r
  rotate_left 2
  have hm : ∀ w : World, (method 295 150 (.agg #[.int .i64 c, .int .i64 m, .int .i64 f]) "loop.example/g00400/impl.right").run Tryz.prog w = .ok (140, .agg #[.int .i64 c, .int .i64 m, .int .i64 f]) w := fun _ => by kernel_rfl
  have HKO := hide (kindOf_open y c t m f b)
  have HRI := hide (right_open c m f)
  have HEV := hide (eventOf_open c m f)
  have hq := ev_eql 2 0 c 0 m f false 2 y c t m f b
  rw [show evB 2 y c t m f b = ((fieldB true c 1 99 && fieldB true m 1 1125899906842624 && fieldB true f 0 1125899906842624) && evEq 2 0 c 0 m f false 2 y c t m f b) from by rw [Bool.eq_iff_iff]; cases b <;> simp [evB, evEq, fieldB, chansB] <;> omega]
  generalize evEq 2 0 c 0 m f false 2 y c t m f b = E at *
  generalize hr : (fieldB true c 1 99 && fieldB true m 1 1125899906842624 && fieldB true f 0 1125899906842624) = r at *
  clear hr
  cases r
  rotate_left 2
  have hm : ∀ w : World, (method 295 152 (.agg #[.int .i64 c, .int .i64 f]) "loop.example/g00400/impl.right").run Tryz.prog w = .ok (143, .agg #[.int .i64 c, .int .i64 f]) w := fun _ => by kernel_rfl
  have HKO := hide (kindOf_close y c t m f b)
  have HRI := hide (right_close c f)
  have HEV := hide (eventOf_close c f)
  have hq := ev_eql 3 0 c 0 0 f false 3 y c t m f b
  rw [show evB 3 y c t m f b = ((fieldB true c 1 99 && fieldB true f 0 1125899906842624) && evEq 3 0 c 0 0 f false 3 y c t m f b) from by rw [Bool.eq_iff_iff]; cases b <;> simp [evB, evEq, fieldB, chansB] <;> omega]
  generalize evEq 3 0 c 0 0 f false 3 y c t m f b = E at *
  generalize hr : (fieldB true c 1 99 && fieldB true f 0 1125899906842624) = r at *
  clear hr
  cases r
  rotate_left 2
  have hm : ∀ w : World, (method 295 154 (.agg #[.int .i64 c, .int .i64 m, .int .i64 f]) "loop.example/g00400/impl.right").run Tryz.prog w = .ok (145, .agg #[.int .i64 c, .int .i64 m, .int .i64 f]) w := fun _ => by kernel_rfl
  have HKO := hide (kindOf_price y c t m f b)
  have HRI := hide (right_price c m f)
  have HEV := hide (eventOf_price c m f)
  have hq := ev_eql 4 0 c 0 m f false 4 y c t m f b
  rw [show evB 4 y c t m f b = ((fieldB true c 1 99 && fieldB true m 0 1125899906842624 && fieldB true f 0 1000000) && evEq 4 0 c 0 m f false 4 y c t m f b) from by rw [Bool.eq_iff_iff]; cases b <;> simp [evB, evEq, fieldB, chansB] <;> omega]
  generalize evEq 4 0 c 0 m f false 4 y c t m f b = E at *
  generalize hr : (fieldB true c 1 99 && fieldB true m 0 1125899906842624 && fieldB true f 0 1000000) = r at *
  clear hr
  cases r
  rotate_left 2
  have hm : ∀ w : World, (method 295 156 (.agg #[.int .i64 y, .int .i64 c, .int .i64 t, .int .i64 m, .bool b]) "loop.example/g00400/impl.right").run Tryz.prog w = .ok (148, .agg #[.int .i64 y, .int .i64 c, .int .i64 t, .int .i64 m, .bool b]) w := fun _ => by kernel_rfl
  have HKO := hide (kindOf_admit y c t m f b)
  have HRI := hide (right_admit y c t m b)
  have HEV := hide (eventOf_admit y c t m b)
  have hq := ev_eql 5 y c t m 0 b 5 y c t m f b
  rw [show evB 5 y c t m f b = ((fieldB true y 1 1000000 && chansB c t && fieldB true m 1 1125899906842624) && evEq 5 y c t m 0 b 5 y c t m f b) from by rw [Bool.eq_iff_iff]; cases b <;> simp [evB, evEq, fieldB, chansB] <;> omega]
  generalize evEq 5 y c t m 0 b 5 y c t m f b = E at *
  generalize hr : (fieldB true y 1 1000000 && chansB c t && fieldB true m 1 1125899906842624) = r at *
  clear hr
  cases r
  rotate_left 2
  have hm : ∀ w : World, (method 295 158 (.agg #[.int .i64 y]) "loop.example/g00400/impl.right").run Tryz.prog w = .ok (152, .agg #[.int .i64 y]) w := fun _ => by kernel_rfl
  have HKO := hide (kindOf_fulfill y c t m f b)
  have HRI := hide (right_fulfill y)
  have HEV := hide (eventOf_fulfill y)
  have hq := ev_eql 6 y 0 0 0 0 false 6 y c t m f b
  rw [show evB 6 y c t m f b = ((fieldB true y 1 1000000) && evEq 6 y 0 0 0 0 false 6 y c t m f b) from by rw [Bool.eq_iff_iff]; cases b <;> simp [evB, evEq, fieldB, chansB] <;> omega]
  generalize evEq 6 y 0 0 0 0 false 6 y c t m f b = E at *
  generalize hr : (fieldB true y 1 1000000) = r at *
  clear hr
  cases r
  rotate_left 2
  have hm : ∀ w : World, (method 295 159 (.agg #[.int .i64 y]) "loop.example/g00400/impl.right").run Tryz.prog w = .ok (154, .agg #[.int .i64 y]) w := fun _ => by kernel_rfl
  have HKO := hide (kindOf_fail y c t m f b)
  have HRI := hide (right_fail y)
  have HEV := hide (eventOf_fail y)
  have hq := ev_eql 7 y 0 0 0 0 false 7 y c t m f b
  rw [show evB 7 y c t m f b = ((fieldB true y 1 1000000) && evEq 7 y 0 0 0 0 false 7 y c t m f b) from by rw [Bool.eq_iff_iff]; cases b <;> simp [evB, evEq, fieldB, chansB] <;> omega]
  generalize evEq 7 y 0 0 0 0 false 7 y c t m f b = E at *
  generalize hr : (fieldB true y 1 1000000) = r at *
  clear hr
  cases r
  rotate_left 2
  have hm : ∀ w : World, (method 295 161 (.agg #[]) "loop.example/g00400/impl.right").run Tryz.prog w = .ok (156, .agg #[]) w := fun _ => by kernel_rfl
  have HKO := hide (kindOf_tick y c t m f b)
  have HRI := hide (right_tick)
  have HEV := hide (eventOf_tick)
  have hq := ev_eql 8 0 0 0 0 0 false 8 y c t m f b
  rw [show evB 8 y c t m f b = ((true) && evEq 8 0 0 0 0 0 false 8 y c t m f b) from by rw [Bool.eq_iff_iff]; cases b <;> simp [evB, evEq, fieldB, chansB] <;> omega]
  generalize evEq 8 0 0 0 0 0 false 8 y c t m f b = E at *
  rotate_left
  have hm : ∀ w : World, (method 295 163 (.agg #[.int .i64 y, .int .i64 c, .int .i64 t, .int .i64 m, .int .i64 f]) "loop.example/g00400/impl.right").run Tryz.prog w = .ok (158, .agg #[.int .i64 y, .int .i64 c, .int .i64 t, .int .i64 m, .int .i64 f]) w := fun _ => by kernel_rfl
  have HKO := hide (kindOf_launch y c t m f b)
  have HRI := hide (right_launch y c t m f)
  have HEV := hide (eventOf_launch y c t m f)
  have hq := ev_eql 9 y c t m f false 9 y c t m f b
  rw [show evB 9 y c t m f b = ((fieldB true y 1 1000000 && chansB c t && fieldB true m 1 1125899906842624 && fieldB true f 0 1125899906842624) && evEq 9 y c t m f false 9 y c t m f b) from by rw [Bool.eq_iff_iff]; cases b <;> simp [evB, evEq, fieldB, chansB] <;> omega]
  generalize evEq 9 y c t m f false 9 y c t m f b = E at *
  generalize hr : (fieldB true y 1 1000000 && chansB c t && fieldB true m 1 1125899906842624 && fieldB true f 0 1125899906842624) = r at *
  clear hr
  cases r
  rotate_left 2
  have hm : ∀ w : World, (method 295 164 (.agg #[.int .i64 y]) "loop.example/g00400/impl.right").run Tryz.prog w = .ok (160, .agg #[.int .i64 y]) w := fun _ => by kernel_rfl
  have HKO := hide (kindOf_arrive y c t m f b)
  have HRI := hide (right_arrive y)
  have HEV := hide (eventOf_arrive y)
  have hq := ev_eql 10 y 0 0 0 0 false 10 y c t m f b
  rw [show evB 10 y c t m f b = ((fieldB true y 1 1000000) && evEq 10 y 0 0 0 0 false 10 y c t m f b) from by rw [Bool.eq_iff_iff]; cases b <;> simp [evB, evEq, fieldB, chansB] <;> omega]
  generalize evEq 10 y 0 0 0 0 false 10 y c t m f b = E at *
  generalize hr : (fieldB true y 1 1000000) = r at *
  clear hr
  cases r
  rotate_left 2
  have hm : ∀ w : World, (method 295 165 (.agg #[.int .i64 y]) "loop.example/g00400/impl.right").run Tryz.prog w = .ok (162, .agg #[.int .i64 y]) w := fun _ => by kernel_rfl
  have HKO := hide (kindOf_lost y c t m f b)
  have HRI := hide (right_lost y)
  have HEV := hide (eventOf_lost y)
  have hq := ev_eql 11 y 0 0 0 0 false 11 y c t m f b
  rw [show evB 11 y c t m f b = ((fieldB true y 1 1000000) && evEq 11 y 0 0 0 0 false 11 y c t m f b) from by rw [Bool.eq_iff_iff]; cases b <;> simp [evB, evEq, fieldB, chansB] <;> omega]
  generalize evEq 11 y 0 0 0 0 false 11 y c t m f b = E at *
  generalize hr : (fieldB true y 1 1000000) = r at *
  clear hr
  cases r
  rotate_left 2
  have hm : ∀ w : World, (method 295 166 (.agg #[]) "loop.example/g00400/impl.right").run Tryz.prog w = .ok (164, .agg #[]) w := fun _ => by kernel_rfl
  have HKO := hide (fun w1 => kindOf_unknown k y c t m f b w1 h)
  have HRI := hide right_unknown
  rw [show evB k y c t m f b = false from by unfold evB; repeat rw [if_neg (by omega)]]
  clear h
  all_goals (
    go_enter Tryz.func69, Tryz.ntmps69
    go_wp2_with fail
    refine (unhide HKO _).mono ?_
    rintro e w1 ⟨rfl, hk⟩
    have c0 := gr_cell (hk.cell (ev_cell0 _ _ _ _ _ _ _ _))
    have c1 := gr_cell (hk.cell (p := ⟨w.heap.size, 1, none⟩) (v := .int .i64 y) (by simp))
    have c2 := gr_cell (hk.cell (p := ⟨w.heap.size, 2, none⟩) (v := .int .i64 c) (by simp))
    have c3 := gr_cell (hk.cell (p := ⟨w.heap.size, 3, none⟩) (v := .int .i64 t) (by simp))
    have c4 := gr_cell (hk.cell (p := ⟨w.heap.size, 4, none⟩) (v := .int .i64 m) (by simp))
    have c5 := gr_cell (hk.cell (p := ⟨w.heap.size, 5, none⟩) (v := .int .i64 f) (by simp))
    have c6 := gr_cell (hk.cell (p := ⟨w.heap.size, 6, none⟩) (v := .bool b) (by simp))
    have HK := hide (Keeps.trans (Keeps.alloc (Keeps.refl w) _) hk)
    clear hk HKO
    go_wp2_with fail
    refine region_gr (by kernel_rfl) (by kernel_rfl) ?_
    repeat (go_big_quiet_step (first | (go_at_call 136; exact gr_call (unhide HRI _)) | (go_at_call 140; exact gr_call (unhide HRI _)) | (go_at_call 143; exact gr_call (unhide HRI _)) | (go_at_call 145; exact gr_call (unhide HRI _)) | (go_at_call 148; exact gr_call (unhide HRI _)) | (go_at_call 152; exact gr_call (unhide HRI _)) | (go_at_call 154; exact gr_call (unhide HRI _)) | (go_at_call 156; exact gr_call (unhide HRI _)) | (go_at_call 158; exact gr_call (unhide HRI _)) | (go_at_call 160; exact gr_call (unhide HRI _)) | (go_at_call 162; exact gr_call (unhide HRI _)) | (go_at_call 164; exact gr_call (unhide HRI _)) | (go_at_call 103; exact gr_call (unhide HEV _))))
    refine wpQuiet_nil ?_
    intro w2 hw2
    have hk2 := Keeps.of_gr hw2
    clear hw2
    go_wp2_with fail
    go_ret
    exact ⟨ret_ev (by simp), HK.out.trans hk2⟩)
end Go.Proofs.YtkdnddckogbgaaaGreatDoor
