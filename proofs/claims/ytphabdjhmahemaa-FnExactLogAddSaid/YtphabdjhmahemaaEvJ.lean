/- The program's EventOk, by contract: events out of kinds, and the whole. -/
import Derived.Test.YtphabdjhmahemaaEvI
namespace Go.Proofs.Ytphabdjhmahemaa
open Go.RowKit
set_option linter.unusedVariables false
set_option maxRecDepth 10000
set_option linter.unusedSimpArgs false
theorem ta1 (g : Nat) (v : Value) (h : g = 155 ∨ g = 157 ∨ g = 159 ∨ g = 161 ∨ g = 163 ∨ g = 164 ∨ g = 166 ∨ g = 168 ∨ g = 169 ∨ g = 170) (w : World) : (Instr.typeAssert (.iface g v) 139 153 true).run Try.prog w = .ok (.tuple #[.agg #[.int .i64 0], .bool false]) w := by
  rcases h with rfl | rfl | rfl | rfl | rfl | rfl | rfl | rfl | rfl | rfl <;> kernel_rfl
theorem ta2 (g : Nat) (v : Value) (h : g = 157 ∨ g = 159 ∨ g = 161 ∨ g = 163 ∨ g = 164 ∨ g = 166 ∨ g = 168 ∨ g = 169 ∨ g = 170) (w : World) : (Instr.typeAssert (.iface g v) 139 155 true).run Try.prog w = .ok (.tuple #[.agg #[.int .i64 0, .int .i64 0, .int .i64 0], .bool false]) w := by
  rcases h with rfl | rfl | rfl | rfl | rfl | rfl | rfl | rfl | rfl <;> kernel_rfl
theorem ta3 (g : Nat) (v : Value) (h : g = 159 ∨ g = 161 ∨ g = 163 ∨ g = 164 ∨ g = 166 ∨ g = 168 ∨ g = 169 ∨ g = 170) (w : World) : (Instr.typeAssert (.iface g v) 139 157 true).run Try.prog w = .ok (.tuple #[.agg #[.int .i64 0, .int .i64 0], .bool false]) w := by
  rcases h with rfl | rfl | rfl | rfl | rfl | rfl | rfl | rfl <;> kernel_rfl
theorem ta4 (g : Nat) (v : Value) (h : g = 161 ∨ g = 163 ∨ g = 164 ∨ g = 166 ∨ g = 168 ∨ g = 169 ∨ g = 170) (w : World) : (Instr.typeAssert (.iface g v) 139 159 true).run Try.prog w = .ok (.tuple #[.agg #[.int .i64 0, .int .i64 0, .int .i64 0], .bool false]) w := by
  rcases h with rfl | rfl | rfl | rfl | rfl | rfl | rfl <;> kernel_rfl
theorem ta5 (g : Nat) (v : Value) (h : g = 163 ∨ g = 164 ∨ g = 166 ∨ g = 168 ∨ g = 169 ∨ g = 170) (w : World) : (Instr.typeAssert (.iface g v) 139 161 true).run Try.prog w = .ok (.tuple #[.agg #[.int .i64 0, .int .i64 0, .int .i64 0, .int .i64 0, .bool false], .bool false]) w := by
  rcases h with rfl | rfl | rfl | rfl | rfl | rfl <;> kernel_rfl
theorem ta6 (g : Nat) (v : Value) (h : g = 164 ∨ g = 166 ∨ g = 168 ∨ g = 169 ∨ g = 170) (w : World) : (Instr.typeAssert (.iface g v) 139 163 true).run Try.prog w = .ok (.tuple #[.agg #[.int .i64 0], .bool false]) w := by
  rcases h with rfl | rfl | rfl | rfl | rfl <;> kernel_rfl
theorem ta7 (g : Nat) (v : Value) (h : g = 166 ∨ g = 168 ∨ g = 169 ∨ g = 170) (w : World) : (Instr.typeAssert (.iface g v) 139 164 true).run Try.prog w = .ok (.tuple #[.agg #[.int .i64 0], .bool false]) w := by
  rcases h with rfl | rfl | rfl | rfl <;> kernel_rfl
theorem ta8 (g : Nat) (v : Value) (h : g = 168 ∨ g = 169 ∨ g = 170) (w : World) : (Instr.typeAssert (.iface g v) 139 166 true).run Try.prog w = .ok (.tuple #[.agg #[], .bool false]) w := by
  rcases h with rfl | rfl | rfl <;> kernel_rfl
theorem ta9 (g : Nat) (v : Value) (h : g = 169 ∨ g = 170) (w : World) : (Instr.typeAssert (.iface g v) 139 168 true).run Try.prog w = .ok (.tuple #[.agg #[.int .i64 0, .int .i64 0, .int .i64 0, .int .i64 0, .int .i64 0], .bool false]) w := by
  rcases h with rfl | rfl <;> kernel_rfl
theorem ta10 (g : Nat) (v : Value) (h : g = 170) (w : World) : (Instr.typeAssert (.iface g v) 139 169 true).run Try.prog w = .ok (.tuple #[.agg #[.int .i64 0], .bool false]) w := by
  subst h <;> kernel_rfl
set_option maxHeartbeats 1000000 in
theorem eventOf_deposit (m : Int) (w : World) : Calls Try.prog 102 #[.iface 153 (.agg #[.int .i64 m])] w fun e w' => e = .returned (evV 1 0 0 0 m 0 false) ∧ Keeps w w' := by
  have a1 : ∀ w : World, (Instr.typeAssert (.iface 153 (.agg #[.int .i64 m])) 139 153 true).run Try.prog w = .ok (.tuple #[.agg #[.int .i64 m], .bool true]) w := fun _ => by kernel_rfl
  go_enter Try.func102, Try.ntmps102
  go_wp2
  refine bodyPost_ret (v := evV 1 0 0 0 m 0 false) (by simp [results, Try.results102, go_sem]) rfl ⟨rfl, ?_⟩
  repeat (first | exact Keeps.refl _ | refine Keeps.alloc ?_ _ | refine Keeps.setCell ?_ (by simp) _)
set_option maxHeartbeats 1000000 in
theorem eventOf_open (c m f : Int) (w : World) : Calls Try.prog 102 #[.iface 155 (.agg #[.int .i64 c, .int .i64 m, .int .i64 f])] w fun e w' => e = .returned (evV 2 0 c 0 m f false) ∧ Keeps w w' := by
  have a1 := ta1 155 (.agg #[.int .i64 c, .int .i64 m, .int .i64 f]) (by simp)
  have a2 : ∀ w : World, (Instr.typeAssert (.iface 155 (.agg #[.int .i64 c, .int .i64 m, .int .i64 f])) 139 155 true).run Try.prog w = .ok (.tuple #[.agg #[.int .i64 c, .int .i64 m, .int .i64 f], .bool true]) w := fun _ => by kernel_rfl
  go_enter Try.func102, Try.ntmps102
  go_wp2
  refine bodyPost_ret (v := evV 2 0 c 0 m f false) (by simp [results, Try.results102, go_sem]) rfl ⟨rfl, ?_⟩
  repeat (first | exact Keeps.refl _ | refine Keeps.alloc ?_ _ | refine Keeps.setCell ?_ (by simp) _)
set_option maxHeartbeats 1000000 in
theorem eventOf_close (c f : Int) (w : World) : Calls Try.prog 102 #[.iface 157 (.agg #[.int .i64 c, .int .i64 f])] w fun e w' => e = .returned (evV 3 0 c 0 0 f false) ∧ Keeps w w' := by
  have a1 := ta1 157 (.agg #[.int .i64 c, .int .i64 f]) (by simp)
  have a2 := ta2 157 (.agg #[.int .i64 c, .int .i64 f]) (by simp)
  have a3 : ∀ w : World, (Instr.typeAssert (.iface 157 (.agg #[.int .i64 c, .int .i64 f])) 139 157 true).run Try.prog w = .ok (.tuple #[.agg #[.int .i64 c, .int .i64 f], .bool true]) w := fun _ => by kernel_rfl
  go_enter Try.func102, Try.ntmps102
  go_wp2
  refine bodyPost_ret (v := evV 3 0 c 0 0 f false) (by simp [results, Try.results102, go_sem]) rfl ⟨rfl, ?_⟩
  repeat (first | exact Keeps.refl _ | refine Keeps.alloc ?_ _ | refine Keeps.setCell ?_ (by simp) _)
set_option maxHeartbeats 1000000 in
theorem eventOf_price (c m f : Int) (w : World) : Calls Try.prog 102 #[.iface 159 (.agg #[.int .i64 c, .int .i64 m, .int .i64 f])] w fun e w' => e = .returned (evV 4 0 c 0 m f false) ∧ Keeps w w' := by
  have a1 := ta1 159 (.agg #[.int .i64 c, .int .i64 m, .int .i64 f]) (by simp)
  have a2 := ta2 159 (.agg #[.int .i64 c, .int .i64 m, .int .i64 f]) (by simp)
  have a3 := ta3 159 (.agg #[.int .i64 c, .int .i64 m, .int .i64 f]) (by simp)
  have a4 : ∀ w : World, (Instr.typeAssert (.iface 159 (.agg #[.int .i64 c, .int .i64 m, .int .i64 f])) 139 159 true).run Try.prog w = .ok (.tuple #[.agg #[.int .i64 c, .int .i64 m, .int .i64 f], .bool true]) w := fun _ => by kernel_rfl
  go_enter Try.func102, Try.ntmps102
  go_wp2
  refine bodyPost_ret (v := evV 4 0 c 0 m f false) (by simp [results, Try.results102, go_sem]) rfl ⟨rfl, ?_⟩
  repeat (first | exact Keeps.refl _ | refine Keeps.alloc ?_ _ | refine Keeps.setCell ?_ (by simp) _)
set_option maxHeartbeats 1000000 in
theorem eventOf_admit (y c t m : Int) (b : Bool) (w : World) : Calls Try.prog 102 #[.iface 161 (.agg #[.int .i64 y, .int .i64 c, .int .i64 t, .int .i64 m, .bool b])] w fun e w' => e = .returned (evV 5 y c t m 0 b) ∧ Keeps w w' := by
  have a1 := ta1 161 (.agg #[.int .i64 y, .int .i64 c, .int .i64 t, .int .i64 m, .bool b]) (by simp)
  have a2 := ta2 161 (.agg #[.int .i64 y, .int .i64 c, .int .i64 t, .int .i64 m, .bool b]) (by simp)
  have a3 := ta3 161 (.agg #[.int .i64 y, .int .i64 c, .int .i64 t, .int .i64 m, .bool b]) (by simp)
  have a4 := ta4 161 (.agg #[.int .i64 y, .int .i64 c, .int .i64 t, .int .i64 m, .bool b]) (by simp)
  have a5 : ∀ w : World, (Instr.typeAssert (.iface 161 (.agg #[.int .i64 y, .int .i64 c, .int .i64 t, .int .i64 m, .bool b])) 139 161 true).run Try.prog w = .ok (.tuple #[.agg #[.int .i64 y, .int .i64 c, .int .i64 t, .int .i64 m, .bool b], .bool true]) w := fun _ => by kernel_rfl
  go_enter Try.func102, Try.ntmps102
  go_wp2
  refine bodyPost_ret (v := evV 5 y c t m 0 b) (by simp [results, Try.results102, go_sem]) rfl ⟨rfl, ?_⟩
  repeat (first | exact Keeps.refl _ | refine Keeps.alloc ?_ _ | refine Keeps.setCell ?_ (by simp) _)
set_option maxHeartbeats 1000000 in
theorem eventOf_fulfill (y : Int) (w : World) : Calls Try.prog 102 #[.iface 163 (.agg #[.int .i64 y])] w fun e w' => e = .returned (evV 6 y 0 0 0 0 false) ∧ Keeps w w' := by
  have a1 := ta1 163 (.agg #[.int .i64 y]) (by simp)
  have a2 := ta2 163 (.agg #[.int .i64 y]) (by simp)
  have a3 := ta3 163 (.agg #[.int .i64 y]) (by simp)
  have a4 := ta4 163 (.agg #[.int .i64 y]) (by simp)
  have a5 := ta5 163 (.agg #[.int .i64 y]) (by simp)
  have a6 : ∀ w : World, (Instr.typeAssert (.iface 163 (.agg #[.int .i64 y])) 139 163 true).run Try.prog w = .ok (.tuple #[.agg #[.int .i64 y], .bool true]) w := fun _ => by kernel_rfl
  go_enter Try.func102, Try.ntmps102
  go_wp2
  refine bodyPost_ret (v := evV 6 y 0 0 0 0 false) (by simp [results, Try.results102, go_sem]) rfl ⟨rfl, ?_⟩
  repeat (first | exact Keeps.refl _ | refine Keeps.alloc ?_ _ | refine Keeps.setCell ?_ (by simp) _)
set_option maxHeartbeats 1000000 in
theorem eventOf_fail (y : Int) (w : World) : Calls Try.prog 102 #[.iface 164 (.agg #[.int .i64 y])] w fun e w' => e = .returned (evV 7 y 0 0 0 0 false) ∧ Keeps w w' := by
  have a1 := ta1 164 (.agg #[.int .i64 y]) (by simp)
  have a2 := ta2 164 (.agg #[.int .i64 y]) (by simp)
  have a3 := ta3 164 (.agg #[.int .i64 y]) (by simp)
  have a4 := ta4 164 (.agg #[.int .i64 y]) (by simp)
  have a5 := ta5 164 (.agg #[.int .i64 y]) (by simp)
  have a6 := ta6 164 (.agg #[.int .i64 y]) (by simp)
  have a7 : ∀ w : World, (Instr.typeAssert (.iface 164 (.agg #[.int .i64 y])) 139 164 true).run Try.prog w = .ok (.tuple #[.agg #[.int .i64 y], .bool true]) w := fun _ => by kernel_rfl
  go_enter Try.func102, Try.ntmps102
  go_wp2
  refine bodyPost_ret (v := evV 7 y 0 0 0 0 false) (by simp [results, Try.results102, go_sem]) rfl ⟨rfl, ?_⟩
  repeat (first | exact Keeps.refl _ | refine Keeps.alloc ?_ _ | refine Keeps.setCell ?_ (by simp) _)
set_option maxHeartbeats 1000000 in
theorem eventOf_tick (w : World) : Calls Try.prog 102 #[.iface 166 (.agg #[])] w fun e w' => e = .returned (evV 8 0 0 0 0 0 false) ∧ Keeps w w' := by
  have a1 := ta1 166 (.agg #[]) (by simp)
  have a2 := ta2 166 (.agg #[]) (by simp)
  have a3 := ta3 166 (.agg #[]) (by simp)
  have a4 := ta4 166 (.agg #[]) (by simp)
  have a5 := ta5 166 (.agg #[]) (by simp)
  have a6 := ta6 166 (.agg #[]) (by simp)
  have a7 := ta7 166 (.agg #[]) (by simp)
  have a8 : ∀ w : World, (Instr.typeAssert (.iface 166 (.agg #[])) 139 166 true).run Try.prog w = .ok (.tuple #[.agg #[], .bool true]) w := fun _ => by kernel_rfl
  go_enter Try.func102, Try.ntmps102
  go_wp2
  refine bodyPost_ret (v := evV 8 0 0 0 0 0 false) (by simp [results, Try.results102, go_sem]) rfl ⟨rfl, ?_⟩
  repeat (first | exact Keeps.refl _ | refine Keeps.alloc ?_ _ | refine Keeps.setCell ?_ (by simp) _)
set_option maxHeartbeats 1000000 in
theorem eventOf_launch (y c t m f : Int) (w : World) : Calls Try.prog 102 #[.iface 168 (.agg #[.int .i64 y, .int .i64 c, .int .i64 t, .int .i64 m, .int .i64 f])] w fun e w' => e = .returned (evV 9 y c t m f false) ∧ Keeps w w' := by
  have a1 := ta1 168 (.agg #[.int .i64 y, .int .i64 c, .int .i64 t, .int .i64 m, .int .i64 f]) (by simp)
  have a2 := ta2 168 (.agg #[.int .i64 y, .int .i64 c, .int .i64 t, .int .i64 m, .int .i64 f]) (by simp)
  have a3 := ta3 168 (.agg #[.int .i64 y, .int .i64 c, .int .i64 t, .int .i64 m, .int .i64 f]) (by simp)
  have a4 := ta4 168 (.agg #[.int .i64 y, .int .i64 c, .int .i64 t, .int .i64 m, .int .i64 f]) (by simp)
  have a5 := ta5 168 (.agg #[.int .i64 y, .int .i64 c, .int .i64 t, .int .i64 m, .int .i64 f]) (by simp)
  have a6 := ta6 168 (.agg #[.int .i64 y, .int .i64 c, .int .i64 t, .int .i64 m, .int .i64 f]) (by simp)
  have a7 := ta7 168 (.agg #[.int .i64 y, .int .i64 c, .int .i64 t, .int .i64 m, .int .i64 f]) (by simp)
  have a8 := ta8 168 (.agg #[.int .i64 y, .int .i64 c, .int .i64 t, .int .i64 m, .int .i64 f]) (by simp)
  have a9 : ∀ w : World, (Instr.typeAssert (.iface 168 (.agg #[.int .i64 y, .int .i64 c, .int .i64 t, .int .i64 m, .int .i64 f])) 139 168 true).run Try.prog w = .ok (.tuple #[.agg #[.int .i64 y, .int .i64 c, .int .i64 t, .int .i64 m, .int .i64 f], .bool true]) w := fun _ => by kernel_rfl
  go_enter Try.func102, Try.ntmps102
  go_wp2
  refine bodyPost_ret (v := evV 9 y c t m f false) (by simp [results, Try.results102, go_sem]) rfl ⟨rfl, ?_⟩
  repeat (first | exact Keeps.refl _ | refine Keeps.alloc ?_ _ | refine Keeps.setCell ?_ (by simp) _)
set_option maxHeartbeats 1000000 in
theorem eventOf_arrive (y : Int) (w : World) : Calls Try.prog 102 #[.iface 169 (.agg #[.int .i64 y])] w fun e w' => e = .returned (evV 10 y 0 0 0 0 false) ∧ Keeps w w' := by
  have a1 := ta1 169 (.agg #[.int .i64 y]) (by simp)
  have a2 := ta2 169 (.agg #[.int .i64 y]) (by simp)
  have a3 := ta3 169 (.agg #[.int .i64 y]) (by simp)
  have a4 := ta4 169 (.agg #[.int .i64 y]) (by simp)
  have a5 := ta5 169 (.agg #[.int .i64 y]) (by simp)
  have a6 := ta6 169 (.agg #[.int .i64 y]) (by simp)
  have a7 := ta7 169 (.agg #[.int .i64 y]) (by simp)
  have a8 := ta8 169 (.agg #[.int .i64 y]) (by simp)
  have a9 := ta9 169 (.agg #[.int .i64 y]) (by simp)
  have a10 : ∀ w : World, (Instr.typeAssert (.iface 169 (.agg #[.int .i64 y])) 139 169 true).run Try.prog w = .ok (.tuple #[.agg #[.int .i64 y], .bool true]) w := fun _ => by kernel_rfl
  go_enter Try.func102, Try.ntmps102
  go_wp2
  refine bodyPost_ret (v := evV 10 y 0 0 0 0 false) (by simp [results, Try.results102, go_sem]) rfl ⟨rfl, ?_⟩
  repeat (first | exact Keeps.refl _ | refine Keeps.alloc ?_ _ | refine Keeps.setCell ?_ (by simp) _)
set_option maxHeartbeats 1000000 in
theorem eventOf_lost (y : Int) (w : World) : Calls Try.prog 102 #[.iface 170 (.agg #[.int .i64 y])] w fun e w' => e = .returned (evV 11 y 0 0 0 0 false) ∧ Keeps w w' := by
  have a1 := ta1 170 (.agg #[.int .i64 y]) (by simp)
  have a2 := ta2 170 (.agg #[.int .i64 y]) (by simp)
  have a3 := ta3 170 (.agg #[.int .i64 y]) (by simp)
  have a4 := ta4 170 (.agg #[.int .i64 y]) (by simp)
  have a5 := ta5 170 (.agg #[.int .i64 y]) (by simp)
  have a6 := ta6 170 (.agg #[.int .i64 y]) (by simp)
  have a7 := ta7 170 (.agg #[.int .i64 y]) (by simp)
  have a8 := ta8 170 (.agg #[.int .i64 y]) (by simp)
  have a9 := ta9 170 (.agg #[.int .i64 y]) (by simp)
  have a10 := ta10 170 (.agg #[.int .i64 y]) (by simp)
  have a11 : ∀ w : World, (Instr.typeAssert (.iface 170 (.agg #[.int .i64 y])) 139 170 true).run Try.prog w = .ok (.tuple #[.agg #[.int .i64 y], .bool true]) w := fun _ => by kernel_rfl
  go_enter Try.func102, Try.ntmps102
  go_wp2
  refine bodyPost_ret (v := evV 11 y 0 0 0 0 false) (by simp [results, Try.results102, go_sem]) rfl ⟨rfl, ?_⟩
  repeat (first | exact Keeps.refl _ | refine Keeps.alloc ?_ _ | refine Keeps.setCell ?_ (by simp) _)
theorem ev_cell0 (k y c t m f : Int) (b : Bool) (w : World) : (w.alloc (.cells #[.int .i64 k, .int .i64 y, .int .i64 c, .int .i64 t, .int .i64 m, .int .i64 f, .bool b] 51)).cell? ⟨w.heap.size, 0, none⟩ = some (.int .i64 k) := by simp
set_option maxHeartbeats 20000000 in
theorem evok_impl (k y c t m f : Int) (b : Bool) (w : World) : Calls Try.prog 78 #[evV k y c t m f b] w fun e w' => e = .returned (.bool (evB k y c t m f b)) ∧ Keeps w w' := by
  have hk : k = 1 ∨ k = 2 ∨ k = 3 ∨ k = 4 ∨ k = 5 ∨ k = 6 ∨ k = 7 ∨ k = 8 ∨ k = 9 ∨ k = 10 ∨ k = 11 ∨ k < 1 ∨ 11 < k := by omega
  rcases hk with rfl | rfl | rfl | rfl | rfl | rfl | rfl | rfl | rfl | rfl | rfl | h
  have hm : ∀ w : World, (method 315 153 (.agg #[.int .i64 m]) "loop.example/g00400/impl.right").run Try.prog w = .ok (152, .agg #[.int .i64 m]) w := fun _ => by kernel_rfl
  have HKO := hide (kindOf_deposit y c t m f b)
  have HRI := hide (right_deposit m)
  have HEV := hide (eventOf_deposit m)
  have hq := ev_eql 1 0 0 0 m 0 false 1 y c t m f b
  rw [show evB 1 y c t m f b = ((fieldB true m 1 1125899906842624) && evEq 1 0 0 0 m 0 false 1 y c t m f b) from by rw [Bool.eq_iff_iff]; cases b <;> simp [evB, evEq, fieldB, chansB] <;> omega]
  generalize evEq 1 0 0 0 m 0 false 1 y c t m f b = E at *
  generalize hr : (fieldB true m 1 1125899906842624) = r at *
  clear hr
  cases r
  rotate_left 2
  have hm : ∀ w : World, (method 315 155 (.agg #[.int .i64 c, .int .i64 m, .int .i64 f]) "loop.example/g00400/impl.right").run Try.prog w = .ok (154, .agg #[.int .i64 c, .int .i64 m, .int .i64 f]) w := fun _ => by kernel_rfl
  have HKO := hide (kindOf_open y c t m f b)
  have HRI := hide (right_open c m f)
  have HEV := hide (eventOf_open c m f)
  have hq := ev_eql 2 0 c 0 m f false 2 y c t m f b
  rw [show evB 2 y c t m f b = ((fieldB true c 1 99 && fieldB true m 1 1125899906842624 && fieldB true f 0 1125899906842624) && evEq 2 0 c 0 m f false 2 y c t m f b) from by rw [Bool.eq_iff_iff]; cases b <;> simp [evB, evEq, fieldB, chansB] <;> omega]
  generalize evEq 2 0 c 0 m f false 2 y c t m f b = E at *
  generalize hr : (fieldB true c 1 99 && fieldB true m 1 1125899906842624 && fieldB true f 0 1125899906842624) = r at *
  clear hr
  cases r
  rotate_left 2
  have hm : ∀ w : World, (method 315 157 (.agg #[.int .i64 c, .int .i64 f]) "loop.example/g00400/impl.right").run Try.prog w = .ok (156, .agg #[.int .i64 c, .int .i64 f]) w := fun _ => by kernel_rfl
  have HKO := hide (kindOf_close y c t m f b)
  have HRI := hide (right_close c f)
  have HEV := hide (eventOf_close c f)
  have hq := ev_eql 3 0 c 0 0 f false 3 y c t m f b
  rw [show evB 3 y c t m f b = ((fieldB true c 1 99 && fieldB true f 0 1125899906842624) && evEq 3 0 c 0 0 f false 3 y c t m f b) from by rw [Bool.eq_iff_iff]; cases b <;> simp [evB, evEq, fieldB, chansB] <;> omega]
  generalize evEq 3 0 c 0 0 f false 3 y c t m f b = E at *
  generalize hr : (fieldB true c 1 99 && fieldB true f 0 1125899906842624) = r at *
  clear hr
  cases r
  rotate_left 2
  have hm : ∀ w : World, (method 315 159 (.agg #[.int .i64 c, .int .i64 m, .int .i64 f]) "loop.example/g00400/impl.right").run Try.prog w = .ok (158, .agg #[.int .i64 c, .int .i64 m, .int .i64 f]) w := fun _ => by kernel_rfl
  have HKO := hide (kindOf_price y c t m f b)
  have HRI := hide (right_price c m f)
  have HEV := hide (eventOf_price c m f)
  have hq := ev_eql 4 0 c 0 m f false 4 y c t m f b
  rw [show evB 4 y c t m f b = ((fieldB true c 1 99 && fieldB true m 0 1125899906842624 && fieldB true f 0 1000000) && evEq 4 0 c 0 m f false 4 y c t m f b) from by rw [Bool.eq_iff_iff]; cases b <;> simp [evB, evEq, fieldB, chansB] <;> omega]
  generalize evEq 4 0 c 0 m f false 4 y c t m f b = E at *
  generalize hr : (fieldB true c 1 99 && fieldB true m 0 1125899906842624 && fieldB true f 0 1000000) = r at *
  clear hr
  cases r
  rotate_left 2
  have hm : ∀ w : World, (method 315 161 (.agg #[.int .i64 y, .int .i64 c, .int .i64 t, .int .i64 m, .bool b]) "loop.example/g00400/impl.right").run Try.prog w = .ok (160, .agg #[.int .i64 y, .int .i64 c, .int .i64 t, .int .i64 m, .bool b]) w := fun _ => by kernel_rfl
  have HKO := hide (kindOf_admit y c t m f b)
  have HRI := hide (right_admit y c t m b)
  have HEV := hide (eventOf_admit y c t m b)
  have hq := ev_eql 5 y c t m 0 b 5 y c t m f b
  rw [show evB 5 y c t m f b = ((fieldB true y 1 1000000 && chansB c t && fieldB true m 1 1125899906842624) && evEq 5 y c t m 0 b 5 y c t m f b) from by rw [Bool.eq_iff_iff]; cases b <;> simp [evB, evEq, fieldB, chansB] <;> omega]
  generalize evEq 5 y c t m 0 b 5 y c t m f b = E at *
  generalize hr : (fieldB true y 1 1000000 && chansB c t && fieldB true m 1 1125899906842624) = r at *
  clear hr
  cases r
  rotate_left 2
  have hm : ∀ w : World, (method 315 163 (.agg #[.int .i64 y]) "loop.example/g00400/impl.right").run Try.prog w = .ok (163, .agg #[.int .i64 y]) w := fun _ => by kernel_rfl
  have HKO := hide (kindOf_fulfill y c t m f b)
  have HRI := hide (right_fulfill y)
  have HEV := hide (eventOf_fulfill y)
  have hq := ev_eql 6 y 0 0 0 0 false 6 y c t m f b
  rw [show evB 6 y c t m f b = ((fieldB true y 1 1000000) && evEq 6 y 0 0 0 0 false 6 y c t m f b) from by rw [Bool.eq_iff_iff]; cases b <;> simp [evB, evEq, fieldB, chansB] <;> omega]
  generalize evEq 6 y 0 0 0 0 false 6 y c t m f b = E at *
  generalize hr : (fieldB true y 1 1000000) = r at *
  clear hr
  cases r
  rotate_left 2
  have hm : ∀ w : World, (method 315 164 (.agg #[.int .i64 y]) "loop.example/g00400/impl.right").run Try.prog w = .ok (165, .agg #[.int .i64 y]) w := fun _ => by kernel_rfl
  have HKO := hide (kindOf_fail y c t m f b)
  have HRI := hide (right_fail y)
  have HEV := hide (eventOf_fail y)
  have hq := ev_eql 7 y 0 0 0 0 false 7 y c t m f b
  rw [show evB 7 y c t m f b = ((fieldB true y 1 1000000) && evEq 7 y 0 0 0 0 false 7 y c t m f b) from by rw [Bool.eq_iff_iff]; cases b <;> simp [evB, evEq, fieldB, chansB] <;> omega]
  generalize evEq 7 y 0 0 0 0 false 7 y c t m f b = E at *
  generalize hr : (fieldB true y 1 1000000) = r at *
  clear hr
  cases r
  rotate_left 2
  have hm : ∀ w : World, (method 315 166 (.agg #[]) "loop.example/g00400/impl.right").run Try.prog w = .ok (167, .agg #[]) w := fun _ => by kernel_rfl
  have HKO := hide (kindOf_tick y c t m f b)
  have HRI := hide (right_tick)
  have HEV := hide (eventOf_tick)
  have hq := ev_eql 8 0 0 0 0 0 false 8 y c t m f b
  rw [show evB 8 y c t m f b = ((true) && evEq 8 0 0 0 0 0 false 8 y c t m f b) from by rw [Bool.eq_iff_iff]; cases b <;> simp [evB, evEq, fieldB, chansB] <;> omega]
  generalize evEq 8 0 0 0 0 0 false 8 y c t m f b = E at *
  rotate_left
  have hm : ∀ w : World, (method 315 168 (.agg #[.int .i64 y, .int .i64 c, .int .i64 t, .int .i64 m, .int .i64 f]) "loop.example/g00400/impl.right").run Try.prog w = .ok (169, .agg #[.int .i64 y, .int .i64 c, .int .i64 t, .int .i64 m, .int .i64 f]) w := fun _ => by kernel_rfl
  have HKO := hide (kindOf_launch y c t m f b)
  have HRI := hide (right_launch y c t m f)
  have HEV := hide (eventOf_launch y c t m f)
  have hq := ev_eql 9 y c t m f false 9 y c t m f b
  rw [show evB 9 y c t m f b = ((fieldB true y 1 1000000 && chansB c t && fieldB true m 1 1125899906842624 && fieldB true f 0 1125899906842624) && evEq 9 y c t m f false 9 y c t m f b) from by rw [Bool.eq_iff_iff]; cases b <;> simp [evB, evEq, fieldB, chansB] <;> omega]
  generalize evEq 9 y c t m f false 9 y c t m f b = E at *
  generalize hr : (fieldB true y 1 1000000 && chansB c t && fieldB true m 1 1125899906842624 && fieldB true f 0 1125899906842624) = r at *
  clear hr
  cases r
  rotate_left 2
  have hm : ∀ w : World, (method 315 169 (.agg #[.int .i64 y]) "loop.example/g00400/impl.right").run Try.prog w = .ok (171, .agg #[.int .i64 y]) w := fun _ => by kernel_rfl
  have HKO := hide (kindOf_arrive y c t m f b)
  have HRI := hide (right_arrive y)
  have HEV := hide (eventOf_arrive y)
  have hq := ev_eql 10 y 0 0 0 0 false 10 y c t m f b
  rw [show evB 10 y c t m f b = ((fieldB true y 1 1000000) && evEq 10 y 0 0 0 0 false 10 y c t m f b) from by rw [Bool.eq_iff_iff]; cases b <;> simp [evB, evEq, fieldB, chansB] <;> omega]
  generalize evEq 10 y 0 0 0 0 false 10 y c t m f b = E at *
  generalize hr : (fieldB true y 1 1000000) = r at *
  clear hr
  cases r
  rotate_left 2
  have hm : ∀ w : World, (method 315 170 (.agg #[.int .i64 y]) "loop.example/g00400/impl.right").run Try.prog w = .ok (173, .agg #[.int .i64 y]) w := fun _ => by kernel_rfl
  have HKO := hide (kindOf_lost y c t m f b)
  have HRI := hide (right_lost y)
  have HEV := hide (eventOf_lost y)
  have hq := ev_eql 11 y 0 0 0 0 false 11 y c t m f b
  rw [show evB 11 y c t m f b = ((fieldB true y 1 1000000) && evEq 11 y 0 0 0 0 false 11 y c t m f b) from by rw [Bool.eq_iff_iff]; cases b <;> simp [evB, evEq, fieldB, chansB] <;> omega]
  generalize evEq 11 y 0 0 0 0 false 11 y c t m f b = E at *
  generalize hr : (fieldB true y 1 1000000) = r at *
  clear hr
  cases r
  rotate_left 2
  have hm : ∀ w : World, (method 315 171 (.agg #[]) "loop.example/g00400/impl.right").run Try.prog w = .ok (175, .agg #[]) w := fun _ => by kernel_rfl
  have HKO := hide (fun w1 => kindOf_unknown k y c t m f b w1 h)
  have HRI := hide right_unknown
  rw [show evB k y c t m f b = false from by unfold evB; repeat rw [if_neg (by omega)]]
  clear h
  all_goals (
    go_enter Try.func78, Try.ntmps78
    go_wp2_with fail
    refine (unhide HKO _).mono ?_
    rintro e w1 ⟨rfl, hk⟩
    have c0 := gr_cell (hk.cell (ev_cell0 _ _ _ _ _ _ _ _))
    have c1 := gr_cell (hk.cell (p := ⟨w.heap.size, 1, none⟩) (v := .int .i64 y) (by simp))
    have c2 := gr_cell (hk.cell (p := ⟨w.heap.size, 2, none⟩) (v := .int .i64 c) (by simp))
    have c3 := gr_cell (hk.cell (p := ⟨w.heap.size, 3, none⟩) (v := .int .i64 t) (by simp))
    have c4 := gr_cell (hk.cell (p := ⟨w.heap.size, 4, none⟩) (v := .int .i64 m) (by simp))
    have c5 := gr_cell (hk.cell (p := ⟨w.heap.size, 5, none⟩) (v := .int .i64 f) (by simp))
    have c6 := gr_cell (hk.cell (p := ⟨w.heap.size, 6, none⟩) (v := .bool b) (by simp))
    have HK := hide (Keeps.trans (Keeps.alloc (Keeps.refl w) _) hk)
    clear hk HKO
    go_wp2_with fail
    refine region_gr (by kernel_rfl) (by kernel_rfl) ?_
    repeat (go_big_quiet_step (first | (go_at_call 152; exact gr_call (unhide HRI _)) | (go_at_call 154; exact gr_call (unhide HRI _)) | (go_at_call 156; exact gr_call (unhide HRI _)) | (go_at_call 158; exact gr_call (unhide HRI _)) | (go_at_call 160; exact gr_call (unhide HRI _)) | (go_at_call 163; exact gr_call (unhide HRI _)) | (go_at_call 165; exact gr_call (unhide HRI _)) | (go_at_call 167; exact gr_call (unhide HRI _)) | (go_at_call 169; exact gr_call (unhide HRI _)) | (go_at_call 171; exact gr_call (unhide HRI _)) | (go_at_call 173; exact gr_call (unhide HRI _)) | (go_at_call 175; exact gr_call (unhide HRI _)) | (go_at_call 102; exact gr_call (unhide HEV _))))
    refine wpQuiet_nil ?_
    intro w2 hw2
    have hk2 := Keeps.of_gr hw2
    clear hw2
    go_wp2_with fail
    go_ret
    exact ⟨ret_ev (by simp), HK.out.trans hk2⟩)
end Go.Proofs.Ytphabdjhmahemaa
