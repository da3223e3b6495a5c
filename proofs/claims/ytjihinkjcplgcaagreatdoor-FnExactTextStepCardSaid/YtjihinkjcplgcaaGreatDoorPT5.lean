/- Texts of the verifier, joined: EvJ, Vars. -/
import Derived.Test.YtjihinkjcplgcaaGreatDoorPT4
import Derived.Test.YtjihinkjcplgcaaGreatDoorPT1
import Derived.Deep.RegionHeld3
import Derived.Deep.DrawnRows
namespace Go.Proofs.YtjihinkjcplgcaaGreatDoor
open Go.RowKit
set_option linter.unusedVariables false
set_option maxRecDepth 10000
set_option linter.unusedSimpArgs false
theorem ta1 (g : Nat) (v : Value) (h : g = 113 ∨ g = 115 ∨ g = 117 ∨ g = 119 ∨ g = 121 ∨ g = 122 ∨ g = 124 ∨ g = 126 ∨ g = 127 ∨ g = 128) (w : World) : (Instr.typeAssert (.iface g v) 77 111 true).run Tryz.prog w = .ok (.tuple #[.agg #[.int .i64 0], .bool false]) w := by
  rcases h with rfl | rfl | rfl | rfl | rfl | rfl | rfl | rfl | rfl | rfl <;> kernel_rfl
theorem ta2 (g : Nat) (v : Value) (h : g = 115 ∨ g = 117 ∨ g = 119 ∨ g = 121 ∨ g = 122 ∨ g = 124 ∨ g = 126 ∨ g = 127 ∨ g = 128) (w : World) : (Instr.typeAssert (.iface g v) 77 113 true).run Tryz.prog w = .ok (.tuple #[.agg #[.int .i64 0, .int .i64 0, .int .i64 0], .bool false]) w := by
  rcases h with rfl | rfl | rfl | rfl | rfl | rfl | rfl | rfl | rfl <;> kernel_rfl
theorem ta3 (g : Nat) (v : Value) (h : g = 117 ∨ g = 119 ∨ g = 121 ∨ g = 122 ∨ g = 124 ∨ g = 126 ∨ g = 127 ∨ g = 128) (w : World) : (Instr.typeAssert (.iface g v) 77 115 true).run Tryz.prog w = .ok (.tuple #[.agg #[.int .i64 0, .int .i64 0], .bool false]) w := by
  rcases h with rfl | rfl | rfl | rfl | rfl | rfl | rfl | rfl <;> kernel_rfl
theorem ta4 (g : Nat) (v : Value) (h : g = 119 ∨ g = 121 ∨ g = 122 ∨ g = 124 ∨ g = 126 ∨ g = 127 ∨ g = 128) (w : World) : (Instr.typeAssert (.iface g v) 77 117 true).run Tryz.prog w = .ok (.tuple #[.agg #[.int .i64 0, .int .i64 0, .int .i64 0], .bool false]) w := by
  rcases h with rfl | rfl | rfl | rfl | rfl | rfl | rfl <;> kernel_rfl
theorem ta5 (g : Nat) (v : Value) (h : g = 121 ∨ g = 122 ∨ g = 124 ∨ g = 126 ∨ g = 127 ∨ g = 128) (w : World) : (Instr.typeAssert (.iface g v) 77 119 true).run Tryz.prog w = .ok (.tuple #[.agg #[.int .i64 0, .int .i64 0, .int .i64 0, .int .i64 0, .bool false], .bool false]) w := by
  rcases h with rfl | rfl | rfl | rfl | rfl | rfl <;> kernel_rfl
theorem ta6 (g : Nat) (v : Value) (h : g = 122 ∨ g = 124 ∨ g = 126 ∨ g = 127 ∨ g = 128) (w : World) : (Instr.typeAssert (.iface g v) 77 121 true).run Tryz.prog w = .ok (.tuple #[.agg #[.int .i64 0], .bool false]) w := by
  rcases h with rfl | rfl | rfl | rfl | rfl <;> kernel_rfl
theorem ta7 (g : Nat) (v : Value) (h : g = 124 ∨ g = 126 ∨ g = 127 ∨ g = 128) (w : World) : (Instr.typeAssert (.iface g v) 77 122 true).run Tryz.prog w = .ok (.tuple #[.agg #[.int .i64 0], .bool false]) w := by
  rcases h with rfl | rfl | rfl | rfl <;> kernel_rfl
theorem ta8 (g : Nat) (v : Value) (h : g = 126 ∨ g = 127 ∨ g = 128) (w : World) : (Instr.typeAssert (.iface g v) 77 124 true).run Tryz.prog w = .ok (.tuple #[.agg #[], .bool false]) w := by
  rcases h with rfl | rfl | rfl <;> kernel_rfl
theorem ta9 (g : Nat) (v : Value) (h : g = 127 ∨ g = 128) (w : World) : (Instr.typeAssert (.iface g v) 77 126 true).run Tryz.prog w = .ok (.tuple #[.agg #[.int .i64 0, .int .i64 0, .int .i64 0, .int .i64 0, .int .i64 0], .bool false]) w := by
  rcases h with rfl | rfl <;> kernel_rfl
theorem ta10 (g : Nat) (v : Value) (h : g = 128) (w : World) : (Instr.typeAssert (.iface g v) 77 127 true).run Tryz.prog w = .ok (.tuple #[.agg #[.int .i64 0], .bool false]) w := by
  subst h <;> kernel_rfl
set_option maxHeartbeats 1000000 in
theorem eventOf_deposit (m : Int) (w : World) : Calls Tryz.prog 67 #[.iface 111 (.agg #[.int .i64 m])] w fun e w' => e = .returned (evV 1 0 0 0 m 0 false) ∧ Keeps w w' := by
  have a1 : ∀ w : World, (Instr.typeAssert (.iface 111 (.agg #[.int .i64 m])) 77 111 true).run Tryz.prog w = .ok (.tuple #[.agg #[.int .i64 m], .bool true]) w := fun _ => by kernel_rfl
  go_enter Tryz.func67, Tryz.ntmps67
  go_wp2
  refine bodyPost_ret (v := evV 1 0 0 0 m 0 false) (by simp [results, Tryz.results67, go_sem]) rfl ⟨rfl, ?_⟩
  repeat (first | exact Keeps.refl _ | refine Keeps.alloc ?_ _ | refine Keeps.setCell ?_ (by simp) _)
set_option maxHeartbeats 1000000 in
theorem eventOf_open (c m f : Int) (w : World) : Calls Tryz.prog 67 #[.iface 113 (.agg #[.int .i64 c, .int .i64 m, .int .i64 f])] w fun e w' => e = .returned (evV 2 0 c 0 m f false) ∧ Keeps w w' := by
  have a1 := ta1 113 (.agg #[.int .i64 c, .int .i64 m, .int .i64 f]) (by simp)
  have a2 : ∀ w : World, (Instr.typeAssert (.iface 113 (.agg #[.int .i64 c, .int .i64 m, .int .i64 f])) 77 113 true).run Tryz.prog w = .ok (.tuple #[.agg #[.int .i64 c, .int .i64 m, .int .i64 f], .bool true]) w := fun _ => by kernel_rfl
  go_enter Tryz.func67, Tryz.ntmps67
  go_wp2
  refine bodyPost_ret (v := evV 2 0 c 0 m f false) (by simp [results, Tryz.results67, go_sem]) rfl ⟨rfl, ?_⟩
  repeat (first | exact Keeps.refl _ | refine Keeps.alloc ?_ _ | refine Keeps.setCell ?_ (by simp) _)
set_option maxHeartbeats 1000000 in
theorem eventOf_close (c f : Int) (w : World) : Calls Tryz.prog 67 #[.iface 115 (.agg #[.int .i64 c, .int .i64 f])] w fun e w' => e = .returned (evV 3 0 c 0 0 f false) ∧ Keeps w w' := by
  have a1 := ta1 115 (.agg #[.int .i64 c, .int .i64 f]) (by simp)
  have a2 := ta2 115 (.agg #[.int .i64 c, .int .i64 f]) (by simp)
  have a3 : ∀ w : World, (Instr.typeAssert (.iface 115 (.agg #[.int .i64 c, .int .i64 f])) 77 115 true).run Tryz.prog w = .ok (.tuple #[.agg #[.int .i64 c, .int .i64 f], .bool true]) w := fun _ => by kernel_rfl
  go_enter Tryz.func67, Tryz.ntmps67
  go_wp2
  refine bodyPost_ret (v := evV 3 0 c 0 0 f false) (by simp [results, Tryz.results67, go_sem]) rfl ⟨rfl, ?_⟩
  repeat (first | exact Keeps.refl _ | refine Keeps.alloc ?_ _ | refine Keeps.setCell ?_ (by simp) _)
set_option maxHeartbeats 1000000 in
theorem eventOf_price (c m f : Int) (w : World) : Calls Tryz.prog 67 #[.iface 117 (.agg #[.int .i64 c, .int .i64 m, .int .i64 f])] w fun e w' => e = .returned (evV 4 0 c 0 m f false) ∧ Keeps w w' := by
  have a1 := ta1 117 (.agg #[.int .i64 c, .int .i64 m, .int .i64 f]) (by simp)
  have a2 := ta2 117 (.agg #[.int .i64 c, .int .i64 m, .int .i64 f]) (by simp)
  have a3 := ta3 117 (.agg #[.int .i64 c, .int .i64 m, .int .i64 f]) (by simp)
  have a4 : ∀ w : World, (Instr.typeAssert (.iface 117 (.agg #[.int .i64 c, .int .i64 m, .int .i64 f])) 77 117 true).run Tryz.prog w = .ok (.tuple #[.agg #[.int .i64 c, .int .i64 m, .int .i64 f], .bool true]) w := fun _ => by kernel_rfl
  go_enter Tryz.func67, Tryz.ntmps67
  go_wp2
  refine bodyPost_ret (v := evV 4 0 c 0 m f false) (by simp [results, Tryz.results67, go_sem]) rfl ⟨rfl, ?_⟩
  repeat (first | exact Keeps.refl _ | refine Keeps.alloc ?_ _ | refine Keeps.setCell ?_ (by simp) _)
set_option maxHeartbeats 1000000 in
theorem eventOf_admit (y c t m : Int) (b : Bool) (w : World) : Calls Tryz.prog 67 #[.iface 119 (.agg #[.int .i64 y, .int .i64 c, .int .i64 t, .int .i64 m, .bool b])] w fun e w' => e = .returned (evV 5 y c t m 0 b) ∧ Keeps w w' := by
  have a1 := ta1 119 (.agg #[.int .i64 y, .int .i64 c, .int .i64 t, .int .i64 m, .bool b]) (by simp)
  have a2 := ta2 119 (.agg #[.int .i64 y, .int .i64 c, .int .i64 t, .int .i64 m, .bool b]) (by simp)
  have a3 := ta3 119 (.agg #[.int .i64 y, .int .i64 c, .int .i64 t, .int .i64 m, .bool b]) (by simp)
  have a4 := ta4 119 (.agg #[.int .i64 y, .int .i64 c, .int .i64 t, .int .i64 m, .bool b]) (by simp)
  have a5 : ∀ w : World, (Instr.typeAssert (.iface 119 (.agg #[.int .i64 y, .int .i64 c, .int .i64 t, .int .i64 m, .bool b])) 77 119 true).run Tryz.prog w = .ok (.tuple #[.agg #[.int .i64 y, .int .i64 c, .int .i64 t, .int .i64 m, .bool b], .bool true]) w := fun _ => by kernel_rfl
  go_enter Tryz.func67, Tryz.ntmps67
  go_wp2
  refine bodyPost_ret (v := evV 5 y c t m 0 b) (by simp [results, Tryz.results67, go_sem]) rfl ⟨rfl, ?_⟩
  repeat (first | exact Keeps.refl _ | refine Keeps.alloc ?_ _ | refine Keeps.setCell ?_ (by simp) _)
set_option maxHeartbeats 1000000 in
theorem eventOf_fulfill (y : Int) (w : World) : Calls Tryz.prog 67 #[.iface 121 (.agg #[.int .i64 y])] w fun e w' => e = .returned (evV 6 y 0 0 0 0 false) ∧ Keeps w w' := by
  have a1 := ta1 121 (.agg #[.int .i64 y]) (by simp)
  have a2 := ta2 121 (.agg #[.int .i64 y]) (by simp)
  have a3 := ta3 121 (.agg #[.int .i64 y]) (by simp)
  have a4 := ta4 121 (.agg #[.int .i64 y]) (by simp)
  have a5 := ta5 121 (.agg #[.int .i64 y]) (by simp)
  have a6 : ∀ w : World, (Instr.typeAssert (.iface 121 (.agg #[.int .i64 y])) 77 121 true).run Tryz.prog w = .ok (.tuple #[.agg #[.int .i64 y], .bool true]) w := fun _ => by kernel_rfl
  go_enter Tryz.func67, Tryz.ntmps67
  go_wp2
  refine bodyPost_ret (v := evV 6 y 0 0 0 0 false) (by simp [results, Tryz.results67, go_sem]) rfl ⟨rfl, ?_⟩
  repeat (first | exact Keeps.refl _ | refine Keeps.alloc ?_ _ | refine Keeps.setCell ?_ (by simp) _)
set_option maxHeartbeats 1000000 in
theorem eventOf_fail (y : Int) (w : World) : Calls Tryz.prog 67 #[.iface 122 (.agg #[.int .i64 y])] w fun e w' => e = .returned (evV 7 y 0 0 0 0 false) ∧ Keeps w w' := by
  have a1 := ta1 122 (.agg #[.int .i64 y]) (by simp)
  have a2 := ta2 122 (.agg #[.int .i64 y]) (by simp)
  have a3 := ta3 122 (.agg #[.int .i64 y]) (by simp)
  have a4 := ta4 122 (.agg #[.int .i64 y]) (by simp)
  have a5 := ta5 122 (.agg #[.int .i64 y]) (by simp)
  have a6 := ta6 122 (.agg #[.int .i64 y]) (by simp)
  have a7 : ∀ w : World, (Instr.typeAssert (.iface 122 (.agg #[.int .i64 y])) 77 122 true).run Tryz.prog w = .ok (.tuple #[.agg #[.int .i64 y], .bool true]) w := fun _ => by kernel_rfl
  go_enter Tryz.func67, Tryz.ntmps67
  go_wp2
  refine bodyPost_ret (v := evV 7 y 0 0 0 0 false) (by simp [results, Tryz.results67, go_sem]) rfl ⟨rfl, ?_⟩
  repeat (first | exact Keeps.refl _ | refine Keeps.alloc ?_ _ | refine Keeps.setCell ?_ (by simp) _)
set_option maxHeartbeats 1000000 in
theorem eventOf_tick (w : World) : Calls Tryz.prog 67 #[.iface 124 (.agg #[])] w fun e w' => e = .returned (evV 8 0 0 0 0 0 false) ∧ Keeps w w' := by
  have a1 := ta1 124 (.agg #[]) (by simp)
  have a2 := ta2 124 (.agg #[]) (by simp)
  have a3 := ta3 124 (.agg #[]) (by simp)
  have a4 := ta4 124 (.agg #[]) (by simp)
  have a5 := ta5 124 (.agg #[]) (by simp)
  have a6 := ta6 124 (.agg #[]) (by simp)
  have a7 := ta7 124 (.agg #[]) (by simp)
  have a8 : ∀ w : World, (Instr.typeAssert (.iface 124 (.agg #[])) 77 124 true).run Tryz.prog w = .ok (.tuple #[.agg #[], .bool true]) w := fun _ => by kernel_rfl
  go_enter Tryz.func67, Tryz.ntmps67
  go_wp2
  refine bodyPost_ret (v := evV 8 0 0 0 0 0 false) (by simp [results, Tryz.results67, go_sem]) rfl ⟨rfl, ?_⟩
  repeat (first | exact Keeps.refl _ | refine Keeps.alloc ?_ _ | refine Keeps.setCell ?_ (by simp) _)
set_option maxHeartbeats 1000000 in
theorem eventOf_launch (y c t m f : Int) (w : World) : Calls Tryz.prog 67 #[.iface 126 (.agg #[.int .i64 y, .int .i64 c, .int .i64 t, .int .i64 m, .int .i64 f])] w fun e w' => e = .returned (evV 9 y c t m f false) ∧ Keeps w w' := by
  have a1 := ta1 126 (.agg #[.int .i64 y, .int .i64 c, .int .i64 t, .int .i64 m, .int .i64 f]) (by simp)
  have a2 := ta2 126 (.agg #[.int .i64 y, .int .i64 c, .int .i64 t, .int .i64 m, .int .i64 f]) (by simp)
  have a3 := ta3 126 (.agg #[.int .i64 y, .int .i64 c, .int .i64 t, .int .i64 m, .int .i64 f]) (by simp)
  have a4 := ta4 126 (.agg #[.int .i64 y, .int .i64 c, .int .i64 t, .int .i64 m, .int .i64 f]) (by simp)
  have a5 := ta5 126 (.agg #[.int .i64 y, .int .i64 c, .int .i64 t, .int .i64 m, .int .i64 f]) (by simp)
  have a6 := ta6 126 (.agg #[.int .i64 y, .int .i64 c, .int .i64 t, .int .i64 m, .int .i64 f]) (by simp)
  have a7 := ta7 126 (.agg #[.int .i64 y, .int .i64 c, .int .i64 t, .int .i64 m, .int .i64 f]) (by simp)
  have a8 := ta8 126 (.agg #[.int .i64 y, .int .i64 c, .int .i64 t, .int .i64 m, .int .i64 f]) (by simp)
  have a9 : ∀ w : World, (Instr.typeAssert (.iface 126 (.agg #[.int .i64 y, .int .i64 c, .int .i64 t, .int .i64 m, .int .i64 f])) 77 126 true).run Tryz.prog w = .ok (.tuple #[.agg #[.int .i64 y, .int .i64 c, .int .i64 t, .int .i64 m, .int .i64 f], .bool true]) w := fun _ => by kernel_rfl
  go_enter Tryz.func67, Tryz.ntmps67
  go_wp2
  refine bodyPost_ret (v := evV 9 y c t m f false) (by simp [results, Tryz.results67, go_sem]) rfl ⟨rfl, ?_⟩
  repeat (first | exact Keeps.refl _ | refine Keeps.alloc ?_ _ | refine Keeps.setCell ?_ (by simp) _)
set_option maxHeartbeats 1000000 in
theorem eventOf_arrive (y : Int) (w : World) : Calls Tryz.prog 67 #[.iface 127 (.agg #[.int .i64 y])] w fun e w' => e = .returned (evV 10 y 0 0 0 0 false) ∧ Keeps w w' := by
  have a1 := ta1 127 (.agg #[.int .i64 y]) (by simp)
  have a2 := ta2 127 (.agg #[.int .i64 y]) (by simp)
  have a3 := ta3 127 (.agg #[.int .i64 y]) (by simp)
  have a4 := ta4 127 (.agg #[.int .i64 y]) (by simp)
  have a5 := ta5 127 (.agg #[.int .i64 y]) (by simp)
  have a6 := ta6 127 (.agg #[.int .i64 y]) (by simp)
  have a7 := ta7 127 (.agg #[.int .i64 y]) (by simp)
  have a8 := ta8 127 (.agg #[.int .i64 y]) (by simp)
  have a9 := ta9 127 (.agg #[.int .i64 y]) (by simp)
  have a10 : ∀ w : World, (Instr.typeAssert (.iface 127 (.agg #[.int .i64 y])) 77 127 true).run Tryz.prog w = .ok (.tuple #[.agg #[.int .i64 y], .bool true]) w := fun _ => by kernel_rfl
  go_enter Tryz.func67, Tryz.ntmps67
  go_wp2
  refine bodyPost_ret (v := evV 10 y 0 0 0 0 false) (by simp [results, Tryz.results67, go_sem]) rfl ⟨rfl, ?_⟩
  repeat (first | exact Keeps.refl _ | refine Keeps.alloc ?_ _ | refine Keeps.setCell ?_ (by simp) _)
set_option maxHeartbeats 1000000 in
theorem eventOf_lost (y : Int) (w : World) : Calls Tryz.prog 67 #[.iface 128 (.agg #[.int .i64 y])] w fun e w' => e = .returned (evV 11 y 0 0 0 0 false) ∧ Keeps w w' := by
  have a1 := ta1 128 (.agg #[.int .i64 y]) (by simp)
  have a2 := ta2 128 (.agg #[.int .i64 y]) (by simp)
  have a3 := ta3 128 (.agg #[.int .i64 y]) (by simp)
  have a4 := ta4 128 (.agg #[.int .i64 y]) (by simp)
  have a5 := ta5 128 (.agg #[.int .i64 y]) (by simp)
  have a6 := ta6 128 (.agg #[.int .i64 y]) (by simp)
  have a7 := ta7 128 (.agg #[.int .i64 y]) (by simp)
  have a8 := ta8 128 (.agg #[.int .i64 y]) (by simp)
  have a9 := ta9 128 (.agg #[.int .i64 y]) (by simp)
  have a10 := ta10 128 (.agg #[.int .i64 y]) (by simp)
  have a11 : ∀ w : World, (Instr.typeAssert (.iface 128 (.agg #[.int .i64 y])) 77 128 true).run Tryz.prog w = .ok (.tuple #[.agg #[.int .i64 y], .bool true]) w := fun _ => by kernel_rfl
  go_enter Tryz.func67, Tryz.ntmps67
  go_wp2
  refine bodyPost_ret (v := evV 11 y 0 0 0 0 false) (by simp [results, Tryz.results67, go_sem]) rfl ⟨rfl, ?_⟩
  repeat (first | exact Keeps.refl _ | refine Keeps.alloc ?_ _ | refine Keeps.setCell ?_ (by simp) _)
theorem ev_cell0 (k y c t m f : Int) (b : Bool) (w : World) : (w.alloc (.cells #[.int .i64 k, .int .i64 y, .int .i64 c, .int .i64 t, .int .i64 m, .int .i64 f, .bool b] 28)).cell? ⟨w.heap.size, 0, none⟩ = some (.int .i64 k) := by simp
set_option maxHeartbeats 20000000 in
theorem evok_impl (k y c t m f : Int) (b : Bool) (w : World) : Calls Tryz.prog 42 #[evV k y c t m f b] w fun e w' => e = .returned (.bool (evB k y c t m f b)) ∧ Keeps w w' := by
  have hk : k = 1 ∨ k = 2 ∨ k = 3 ∨ k = 4 ∨ k = 5 ∨ k = 6 ∨ k = 7 ∨ k = 8 ∨ k = 9 ∨ k = 10 ∨ k = 11 ∨ k < 1 ∨ 11 < k := by omega
  rcases hk with rfl | rfl | rfl | rfl | rfl | rfl | rfl | rfl | rfl | rfl | rfl | h
  have hm : ∀ w : World, (method 300 111 (.agg #[.int .i64 m]) "loop.example/g00400/impl.right").run Tryz.prog w = .ok (148, .agg #[.int .i64 m]) w := fun _ => by kernel_rfl
  have HKO := hide (kindOf_deposit y c t m f b)
  have HRI := hide (right_deposit m)
  have HEV := hide (eventOf_deposit m)
  have hq := ev_eql 1 0 0 0 m 0 false 1 y c t m f b
  rw [show evB 1 y c t m f b = ((fieldB true m 1 1125899906842624) && evEq 1 0 0 0 m 0 false 1 y c t m f b) from by rw [Bool.eq_iff_iff]; cases b <;> simp [evB, evEq, fieldB, chansB] <;> omega]
  generalize evEq 1 0 0 0 m 0 false 1 y c t m f b = E at *
  generalize hr : (fieldB true m 1 1125899906842624) = r at *
  clear hr
  cases r
  rotate_left 2
  have hm : ∀ w : World, (method 300 113 (.agg #[.int .i64 c, .int .i64 m, .int .i64 f]) "loop.example/g00400/impl.right").run Tryz.prog w = .ok (151, .agg #[.int .i64 c, .int .i64 m, .int .i64 f]) w := fun _ => by kernel_rfl
  have HKO := hide (kindOf_open y c t m f b)
  have HRI := hide (right_open c m f)
  have HEV := hide (eventOf_open c m f)
  have hq := ev_eql 2 0 c 0 m f false 2 y c t m f b
  rw [show evB 2 y c t m f b = ((fieldB true c 1 99 && fieldB true m 1 1125899906842624 && fieldB true f 0 1125899906842624) && evEq 2 0 c 0 m f false 2 y c t m f b) from by rw [Bool.eq_iff_iff]; cases b <;> simp [evB, evEq, fieldB, chansB] <;> omega]
  generalize evEq 2 0 c 0 m f false 2 y c t m f b = E at *
  generalize hr : (fieldB true c 1 99 && fieldB true m 1 1125899906842624 && fieldB true f 0 1125899906842624) = r at *
  clear hr
  cases r
  rotate_left 2
  have hm : ∀ w : World, (method 300 115 (.agg #[.int .i64 c, .int .i64 f]) "loop.example/g00400/impl.right").run Tryz.prog w = .ok (154, .agg #[.int .i64 c, .int .i64 f]) w := fun _ => by kernel_rfl
  have HKO := hide (kindOf_close y c t m f b)
  have HRI := hide (right_close c f)
  have HEV := hide (eventOf_close c f)
  have hq := ev_eql 3 0 c 0 0 f false 3 y c t m f b
  rw [show evB 3 y c t m f b = ((fieldB true c 1 99 && fieldB true f 0 1125899906842624) && evEq 3 0 c 0 0 f false 3 y c t m f b) from by rw [Bool.eq_iff_iff]; cases b <;> simp [evB, evEq, fieldB, chansB] <;> omega]
  generalize evEq 3 0 c 0 0 f false 3 y c t m f b = E at *
  generalize hr : (fieldB true c 1 99 && fieldB true f 0 1125899906842624) = r at *
  clear hr
  cases r
  rotate_left 2
  have hm : ∀ w : World, (method 300 117 (.agg #[.int .i64 c, .int .i64 m, .int .i64 f]) "loop.example/g00400/impl.right").run Tryz.prog w = .ok (156, .agg #[.int .i64 c, .int .i64 m, .int .i64 f]) w := fun _ => by kernel_rfl
  have HKO := hide (kindOf_price y c t m f b)
  have HRI := hide (right_price c m f)
  have HEV := hide (eventOf_price c m f)
  have hq := ev_eql 4 0 c 0 m f false 4 y c t m f b
  rw [show evB 4 y c t m f b = ((fieldB true c 1 99 && fieldB true m 0 1125899906842624 && fieldB true f 0 1000000) && evEq 4 0 c 0 m f false 4 y c t m f b) from by rw [Bool.eq_iff_iff]; cases b <;> simp [evB, evEq, fieldB, chansB] <;> omega]
  generalize evEq 4 0 c 0 m f false 4 y c t m f b = E at *
  generalize hr : (fieldB true c 1 99 && fieldB true m 0 1125899906842624 && fieldB true f 0 1000000) = r at *
  clear hr
  cases r
  rotate_left 2
  have hm : ∀ w : World, (method 300 119 (.agg #[.int .i64 y, .int .i64 c, .int .i64 t, .int .i64 m, .bool b]) "loop.example/g00400/impl.right").run Tryz.prog w = .ok (158, .agg #[.int .i64 y, .int .i64 c, .int .i64 t, .int .i64 m, .bool b]) w := fun _ => by kernel_rfl
  have HKO := hide (kindOf_admit y c t m f b)
  have HRI := hide (right_admit y c t m b)
  have HEV := hide (eventOf_admit y c t m b)
  have hq := ev_eql 5 y c t m 0 b 5 y c t m f b
  rw [show evB 5 y c t m f b = ((fieldB true y 1 1000000 && chansB c t && fieldB true m 1 1125899906842624) && evEq 5 y c t m 0 b 5 y c t m f b) from by rw [Bool.eq_iff_iff]; cases b <;> simp [evB, evEq, fieldB, chansB] <;> omega]
  generalize evEq 5 y c t m 0 b 5 y c t m f b = E at *
  generalize hr : (fieldB true y 1 1000000 && chansB c t && fieldB true m 1 1125899906842624) = r at *
  clear hr
  cases r
  rotate_left 2
  have hm : ∀ w : World, (method 300 121 (.agg #[.int .i64 y]) "loop.example/g00400/impl.right").run Tryz.prog w = .ok (162, .agg #[.int .i64 y]) w := fun _ => by kernel_rfl
  have HKO := hide (kindOf_fulfill y c t m f b)
  have HRI := hide (right_fulfill y)
  have HEV := hide (eventOf_fulfill y)
  have hq := ev_eql 6 y 0 0 0 0 false 6 y c t m f b
  rw [show evB 6 y c t m f b = ((fieldB true y 1 1000000) && evEq 6 y 0 0 0 0 false 6 y c t m f b) from by rw [Bool.eq_iff_iff]; cases b <;> simp [evB, evEq, fieldB, chansB] <;> omega]
  generalize evEq 6 y 0 0 0 0 false 6 y c t m f b = E at *
  generalize hr : (fieldB true y 1 1000000) = r at *
  clear hr
  cases r
  rotate_left 2
  have hm : ∀ w : World, (method 300 122 (.agg #[.int .i64 y]) "loop.example/g00400/impl.right").run Tryz.prog w = .ok (164, .agg #[.int .i64 y]) w := fun _ => by kernel_rfl
  have HKO := hide (kindOf_fail y c t m f b)
  have HRI := hide (right_fail y)
  have HEV := hide (eventOf_fail y)
  have hq := ev_eql 7 y 0 0 0 0 false 7 y c t m f b
  rw [show evB 7 y c t m f b = ((fieldB true y 1 1000000) && evEq 7 y 0 0 0 0 false 7 y c t m f b) from by rw [Bool.eq_iff_iff]; cases b <;> simp [evB, evEq, fieldB, chansB] <;> omega]
  generalize evEq 7 y 0 0 0 0 false 7 y c t m f b = E at *
  generalize hr : (fieldB true y 1 1000000) = r at *
  clear hr
  cases r
  rotate_left 2
  have hm : ∀ w : World, (method 300 124 (.agg #[]) "loop.example/g00400/impl.right").run Tryz.prog w = .ok (166, .agg #[]) w := fun _ => by kernel_rfl
  have HKO := hide (kindOf_tick y c t m f b)
  have HRI := hide (right_tick)
  have HEV := hide (eventOf_tick)
  have hq := ev_eql 8 0 0 0 0 0 false 8 y c t m f b
  rw [show evB 8 y c t m f b = ((true) && evEq 8 0 0 0 0 0 false 8 y c t m f b) from by rw [Bool.eq_iff_iff]; cases b <;> simp [evB, evEq, fieldB, chansB] <;> omega]
  generalize evEq 8 0 0 0 0 0 false 8 y c t m f b = E at *
  rotate_left
  have hm : ∀ w : World, (method 300 126 (.agg #[.int .i64 y, .int .i64 c, .int .i64 t, .int .i64 m, .int .i64 f]) "loop.example/g00400/impl.right").run Tryz.prog w = .ok (168, .agg #[.int .i64 y, .int .i64 c, .int .i64 t, .int .i64 m, .int .i64 f]) w := fun _ => by kernel_rfl
  have HKO := hide (kindOf_launch y c t m f b)
  have HRI := hide (right_launch y c t m f)
  have HEV := hide (eventOf_launch y c t m f)
  have hq := ev_eql 9 y c t m f false 9 y c t m f b
  rw [show evB 9 y c t m f b = ((fieldB true y 1 1000000 && chansB c t && fieldB true m 1 1125899906842624 && fieldB true f 0 1125899906842624) && evEq 9 y c t m f false 9 y c t m f b) from by rw [Bool.eq_iff_iff]; cases b <;> simp [evB, evEq, fieldB, chansB] <;> omega]
  generalize evEq 9 y c t m f false 9 y c t m f b = E at *
  generalize hr : (fieldB true y 1 1000000 && chansB c t && fieldB true m 1 1125899906842624 && fieldB true f 0 1125899906842624) = r at *
  clear hr
  cases r
  rotate_left 2
  have hm : ∀ w : World, (method 300 127 (.agg #[.int .i64 y]) "loop.example/g00400/impl.right").run Tryz.prog w = .ok (170, .agg #[.int .i64 y]) w := fun _ => by kernel_rfl
  have HKO := hide (kindOf_arrive y c t m f b)
  have HRI := hide (right_arrive y)
  have HEV := hide (eventOf_arrive y)
  have hq := ev_eql 10 y 0 0 0 0 false 10 y c t m f b
  rw [show evB 10 y c t m f b = ((fieldB true y 1 1000000) && evEq 10 y 0 0 0 0 false 10 y c t m f b) from by rw [Bool.eq_iff_iff]; cases b <;> simp [evB, evEq, fieldB, chansB] <;> omega]
  generalize evEq 10 y 0 0 0 0 false 10 y c t m f b = E at *
  generalize hr : (fieldB true y 1 1000000) = r at *
  clear hr
  cases r
  rotate_left 2
  have hm : ∀ w : World, (method 300 128 (.agg #[.int .i64 y]) "loop.example/g00400/impl.right").run Tryz.prog w = .ok (172, .agg #[.int .i64 y]) w := fun _ => by kernel_rfl
  have HKO := hide (kindOf_lost y c t m f b)
  have HRI := hide (right_lost y)
  have HEV := hide (eventOf_lost y)
  have hq := ev_eql 11 y 0 0 0 0 false 11 y c t m f b
  rw [show evB 11 y c t m f b = ((fieldB true y 1 1000000) && evEq 11 y 0 0 0 0 false 11 y c t m f b) from by rw [Bool.eq_iff_iff]; cases b <;> simp [evB, evEq, fieldB, chansB] <;> omega]
  generalize evEq 11 y 0 0 0 0 false 11 y c t m f b = E at *
  generalize hr : (fieldB true y 1 1000000) = r at *
  clear hr
  cases r
  rotate_left 2
  have hm : ∀ w : World, (method 300 129 (.agg #[]) "loop.example/g00400/impl.right").run Tryz.prog w = .ok (174, .agg #[]) w := fun _ => by kernel_rfl
  have HKO := hide (fun w1 => kindOf_unknown k y c t m f b w1 h)
  have HRI := hide right_unknown
  rw [show evB k y c t m f b = false from by unfold evB; repeat rw [if_neg (by omega)]]
  clear h
  all_goals (
    go_enter Tryz.func42, Tryz.ntmps42
    go_wp2_with fail
    refine (unhide HKO _).mono ?_
    rintro e w1 ⟨rfl, hk⟩
    have c0 := gr_cell (hk.cell (ev_cell0 _ _ _ _ _ _ _ _))
    have c1 := gr_cell (hk.cell (p := ⟨w.heap.size, 1, none⟩) (v := .int .i64 y) (by simp))
    have c2 := gr_cell (hk.cell (p := ⟨w.heap.size, 2, none⟩) (v := .int .i64 c) (by simp))
    have c3 := gr_cell (hk.cell (p := ⟨w.heap.size, 3, none⟩) (v := .int .i64 t) (by simp))
    have c4 := gr_cell (hk.cell (p := ⟨w.heap.size, 4, none⟩) (v := .int .i64 m) (by simp))
    have c5 := gr_cell (hk.cell (p := ⟨w.heap.size, 5, none⟩) (v := .int .i64 f) (by simp))
    have c6 := gr_cell (hk.cell (p := ⟨w.heap.size, 6, none⟩) (v := .bool b) (by simp))
    have HK := hide (Keeps.trans (Keeps.alloc (Keeps.refl w) _) hk)
    clear hk HKO
    go_wp2_with fail
    refine region_gr (by kernel_rfl) (by kernel_rfl) ?_
    repeat (go_big_quiet_step (first | (go_at_call 148; exact gr_call (unhide HRI _)) | (go_at_call 151; exact gr_call (unhide HRI _)) | (go_at_call 154; exact gr_call (unhide HRI _)) | (go_at_call 156; exact gr_call (unhide HRI _)) | (go_at_call 158; exact gr_call (unhide HRI _)) | (go_at_call 162; exact gr_call (unhide HRI _)) | (go_at_call 164; exact gr_call (unhide HRI _)) | (go_at_call 166; exact gr_call (unhide HRI _)) | (go_at_call 168; exact gr_call (unhide HRI _)) | (go_at_call 170; exact gr_call (unhide HRI _)) | (go_at_call 172; exact gr_call (unhide HRI _)) | (go_at_call 174; exact gr_call (unhide HRI _)) | (go_at_call 67; exact gr_call (unhide HEV _))))
    refine wpQuiet_nil ?_
    intro w2 hw2
    have hk2 := Keeps.of_gr hw2
    clear hw2
    go_wp2_with fail
    go_ret
    exact ⟨ret_ev (by simp), HK.out.trans hk2⟩)
end Go.Proofs.YtjihinkjcplgcaaGreatDoor
namespace Go.Proofs.YtjihinkjcplgcaaGreatDoor
open Go.RowKit Go.Deep
set_option linter.unusedVariables false
theorem born_alloc (w : World) (c : Array Value) (t : TypeId) : Born w (w.alloc (.cells c t)) [(some ⟨w.heap.size, 0, none⟩, c.toList)] := by
  have hB : (w.alloc (.cells c t)).heap[w.heap.size]? = some (.cells c t (0, 0)) := blk_alloc_new w _
  revert hB
  generalize w.alloc (.cells c t) = W
  intro hB
  refine ⟨⟨?_, ?_, ?_⟩, ?_⟩
  · intro s hs
    rw [List.mem_singleton.1 hs]
    refine Or.inr ⟨_, 0, rfl, fun j hj => ?_⟩
    have hj' : j < c.size := by simpa using hj
    simp [World.cell?, hB, hj']
  · by_cases h0 : c.toList = [] <;> simp [fp, fpS, h0]
  · intro b hb
    by_cases h0 : c.toList = []
    · simp [fp, fpS, h0] at hb
    · simp [fp, fpS, h0] at hb
      subst hb
      intro o
      simp [World.frozen?, hB]
  · intro b hb
    by_cases h0 : c.toList = []
    · simp [fp, fpS, h0] at hb
    · simp [fp, fpS, h0] at hb
      omega
theorem cell_at {w : World} {b : Nat} {xs : List Value} (h : Mem w [(some ⟨b, 0, none⟩, xs)]) (j : Nat) (hj : j < xs.length) : w.cell? ⟨b, 0 + j, none⟩ = some xs[j] := by
  have h' := h (some ⟨b, 0, none⟩, xs) (by simp)
  rcases h' with h' | ⟨g, off, e, h'⟩
  · have : xs = [] := h'
    subst this
    simp at hj
  · have e' := Option.some.inj e
    injection e' with e1 e2
    subst e1 e2
    exact h' j hj
theorem Keeps.rowV {w w' : World} (hk : Keeps w w') {b : Nat} {t : TypeId} {n : Nat} {f : Nat → Value} (h : w.rowIs b t n f) : w'.rowIs b t n f := h.of_block (Below.block hk _ h.lt)
end Go.Proofs.YtjihinkjcplgcaaGreatDoor
