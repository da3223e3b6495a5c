/- Texts of the verifier, joined: EvJ, Yf. -/
import Derived.Test.YtccdhcempnkgaaaGreatDoorPL33
import Derived.Test.YtccdhcempnkgaaaGreatDoorPL26
import Derived.Test.YtccdhcempnkgaaaGreatDoorPL27
import Derived.Test.YtccdhcempnkgaaaGreatDoorPL28
import Derived.Test.YtccdhcempnkgaaaGreatDoorPL30
import Derived.Test.YtccdhcempnkgaaaGreatDoorPL32
import Derived.Test.YtccdhcempnkgaaaGreatDoorPL24
namespace Go.Proofs.YtccdhcempnkgaaaGreatDoor
open Go.RowKit
set_option linter.unusedVariables false
set_option maxRecDepth 10000
set_option linter.unusedSimpArgs false
theorem ta1 (g:Nat) (v:Value) (h:g=160∨g=162∨g=164∨g=166∨g=168∨g=169∨g=171∨g=173∨g=174∨g=175) (w:World):(Instr.typeAssert (.iface g v) 145 158 true).run Tryz.prog w=.ok (.tuple #[.agg #[.int .i64 0],.bool false]) w:=by
 rcases h with rfl | rfl | rfl | rfl | rfl | rfl | rfl | rfl | rfl | rfl <;> kernel_rfl
theorem ta2 (g:Nat) (v:Value) (h:g=162∨g=164∨g=166∨g=168∨g=169∨g=171∨g=173∨g=174∨g=175) (w:World):(Instr.typeAssert (.iface g v) 145 160 true).run Tryz.prog w=.ok (.tuple #[.agg #[.int .i64 0,.int .i64 0,.int .i64 0],.bool false]) w:=by
 rcases h with rfl | rfl | rfl | rfl | rfl | rfl | rfl | rfl | rfl <;> kernel_rfl
theorem ta3 (g:Nat) (v:Value) (h:g=164∨g=166∨g=168∨g=169∨g=171∨g=173∨g=174∨g=175) (w:World):(Instr.typeAssert (.iface g v) 145 162 true).run Tryz.prog w=.ok (.tuple #[.agg #[.int .i64 0,.int .i64 0],.bool false]) w:=by
 rcases h with rfl | rfl | rfl | rfl | rfl | rfl | rfl | rfl <;> kernel_rfl
theorem ta4 (g:Nat) (v:Value) (h:g=166∨g=168∨g=169∨g=171∨g=173∨g=174∨g=175) (w:World):(Instr.typeAssert (.iface g v) 145 164 true).run Tryz.prog w=.ok (.tuple #[.agg #[.int .i64 0,.int .i64 0,.int .i64 0],.bool false]) w:=by
 rcases h with rfl | rfl | rfl | rfl | rfl | rfl | rfl <;> kernel_rfl
theorem ta5 (g:Nat) (v:Value) (h:g=168∨g=169∨g=171∨g=173∨g=174∨g=175) (w:World):(Instr.typeAssert (.iface g v) 145 166 true).run Tryz.prog w=.ok (.tuple #[.agg #[.int .i64 0,.int .i64 0,.int .i64 0,.int .i64 0,.bool false],.bool false]) w:=by
 rcases h with rfl | rfl | rfl | rfl | rfl | rfl <;> kernel_rfl
theorem ta6 (g:Nat) (v:Value) (h:g=169∨g=171∨g=173∨g=174∨g=175) (w:World):(Instr.typeAssert (.iface g v) 145 168 true).run Tryz.prog w=.ok (.tuple #[.agg #[.int .i64 0],.bool false]) w:=by
 rcases h with rfl | rfl | rfl | rfl | rfl <;> kernel_rfl
theorem ta7 (g:Nat) (v:Value) (h:g=171∨g=173∨g=174∨g=175) (w:World):(Instr.typeAssert (.iface g v) 145 169 true).run Tryz.prog w=.ok (.tuple #[.agg #[.int .i64 0],.bool false]) w:=by
 rcases h with rfl | rfl | rfl | rfl <;> kernel_rfl
theorem ta8 (g:Nat) (v:Value) (h:g=173∨g=174∨g=175) (w:World):(Instr.typeAssert (.iface g v) 145 171 true).run Tryz.prog w=.ok (.tuple #[.agg #[],.bool false]) w:=by
 rcases h with rfl | rfl | rfl <;> kernel_rfl
theorem ta9 (g:Nat) (v:Value) (h:g=174∨g=175) (w:World):(Instr.typeAssert (.iface g v) 145 173 true).run Tryz.prog w=.ok (.tuple #[.agg #[.int .i64 0,.int .i64 0,.int .i64 0,.int .i64 0,.int .i64 0],.bool false]) w:=by
 rcases h with rfl | rfl <;> kernel_rfl
theorem ta10 (g:Nat) (v:Value) (h:g=175) (w:World):(Instr.typeAssert (.iface g v) 145 174 true).run Tryz.prog w=.ok (.tuple #[.agg #[.int .i64 0],.bool false]) w:=by
 subst h <;> kernel_rfl
set_option maxHeartbeats 1000000 in
theorem eventOf_deposit (m:Int) (w:World):Calls Tryz.prog 115 #[.iface 158 (.agg #[.int .i64 m])] w fun e w'=>e=.returned (evV 1 0 0 0 m 0 false)∧Keeps w w':=by
 have a1:∀ w:World,(Instr.typeAssert (.iface 158 (.agg #[.int .i64 m])) 145 158 true).run Tryz.prog w=.ok (.tuple #[.agg #[.int .i64 m],.bool true]) w:=fun _=>by kernel_rfl
 go_enter Tryz.func115,Tryz.ntmps115
 go_wp2
 refine bodyPost_ret (v:=evV 1 0 0 0 m 0 false) (by simp [results,Tryz.results115,go_sem]) rfl ⟨rfl,?_⟩
 repeat (first | exact Keeps.refl _ | refine Keeps.alloc ?_ _ | refine Keeps.setCell ?_ (by simp) _)
set_option maxHeartbeats 1000000 in
theorem eventOf_open (c m f:Int) (w:World):Calls Tryz.prog 115 #[.iface 160 (.agg #[.int .i64 c,.int .i64 m,.int .i64 f])] w fun e w'=>e=.returned (evV 2 0 c 0 m f false)∧Keeps w w':=by
 have a1:=ta1 160 (.agg #[.int .i64 c,.int .i64 m,.int .i64 f]) (by simp)
 have a2:∀ w:World,(Instr.typeAssert (.iface 160 (.agg #[.int .i64 c,.int .i64 m,.int .i64 f])) 145 160 true).run Tryz.prog w=.ok (.tuple #[.agg #[.int .i64 c,.int .i64 m,.int .i64 f],.bool true]) w:=fun _=>by kernel_rfl
 go_enter Tryz.func115,Tryz.ntmps115
 go_wp2
 refine bodyPost_ret (v:=evV 2 0 c 0 m f false) (by simp [results,Tryz.results115,go_sem]) rfl ⟨rfl,?_⟩
 repeat (first | exact Keeps.refl _ | refine Keeps.alloc ?_ _ | refine Keeps.setCell ?_ (by simp) _)
set_option maxHeartbeats 1000000 in
theorem eventOf_close (c f:Int) (w:World):Calls Tryz.prog 115 #[.iface 162 (.agg #[.int .i64 c,.int .i64 f])] w fun e w'=>e=.returned (evV 3 0 c 0 0 f false)∧Keeps w w':=by
 have a1:=ta1 162 (.agg #[.int .i64 c,.int .i64 f]) (by simp)
 have a2:=ta2 162 (.agg #[.int .i64 c,.int .i64 f]) (by simp)
 have a3:∀ w:World,(Instr.typeAssert (.iface 162 (.agg #[.int .i64 c,.int .i64 f])) 145 162 true).run Tryz.prog w=.ok (.tuple #[.agg #[.int .i64 c,.int .i64 f],.bool true]) w:=fun _=>by kernel_rfl
 go_enter Tryz.func115,Tryz.ntmps115
 go_wp2
 refine bodyPost_ret (v:=evV 3 0 c 0 0 f false) (by simp [results,Tryz.results115,go_sem]) rfl ⟨rfl,?_⟩
 repeat (first | exact Keeps.refl _ | refine Keeps.alloc ?_ _ | refine Keeps.setCell ?_ (by simp) _)
set_option maxHeartbeats 1000000 in
theorem eventOf_price (c m f:Int) (w:World):Calls Tryz.prog 115 #[.iface 164 (.agg #[.int .i64 c,.int .i64 m,.int .i64 f])] w fun e w'=>e=.returned (evV 4 0 c 0 m f false)∧Keeps w w':=by
 have a1:=ta1 164 (.agg #[.int .i64 c,.int .i64 m,.int .i64 f]) (by simp)
 have a2:=ta2 164 (.agg #[.int .i64 c,.int .i64 m,.int .i64 f]) (by simp)
 have a3:=ta3 164 (.agg #[.int .i64 c,.int .i64 m,.int .i64 f]) (by simp)
 have a4:∀ w:World,(Instr.typeAssert (.iface 164 (.agg #[.int .i64 c,.int .i64 m,.int .i64 f])) 145 164 true).run Tryz.prog w=.ok (.tuple #[.agg #[.int .i64 c,.int .i64 m,.int .i64 f],.bool true]) w:=fun _=>by kernel_rfl
 go_enter Tryz.func115,Tryz.ntmps115
 go_wp2
 refine bodyPost_ret (v:=evV 4 0 c 0 m f false) (by simp [results,Tryz.results115,go_sem]) rfl ⟨rfl,?_⟩
 repeat (first | exact Keeps.refl _ | refine Keeps.alloc ?_ _ | refine Keeps.setCell ?_ (by simp) _)
set_option maxHeartbeats 1000000 in
theorem eventOf_admit (y c t m:Int) (b:Bool) (w:World):Calls Tryz.prog 115 #[.iface 166 (.agg #[.int .i64 y,.int .i64 c,.int .i64 t,.int .i64 m,.bool b])] w fun e w'=>e=.returned (evV 5 y c t m 0 b)∧Keeps w w':=by
 have a1:=ta1 166 (.agg #[.int .i64 y,.int .i64 c,.int .i64 t,.int .i64 m,.bool b]) (by simp)
 have a2:=ta2 166 (.agg #[.int .i64 y,.int .i64 c,.int .i64 t,.int .i64 m,.bool b]) (by simp)
 have a3:=ta3 166 (.agg #[.int .i64 y,.int .i64 c,.int .i64 t,.int .i64 m,.bool b]) (by simp)
 have a4:=ta4 166 (.agg #[.int .i64 y,.int .i64 c,.int .i64 t,.int .i64 m,.bool b]) (by simp)
 have a5:∀ w:World,(Instr.typeAssert (.iface 166 (.agg #[.int .i64 y,.int .i64 c,.int .i64 t,.int .i64 m,.bool b])) 145 166 true).run Tryz.prog w=.ok (.tuple #[.agg #[.int .i64 y,.int .i64 c,.int .i64 t,.int .i64 m,.bool b],.bool true]) w:=fun _=>by kernel_rfl
 go_enter Tryz.func115,Tryz.ntmps115
 go_wp2
 refine bodyPost_ret (v:=evV 5 y c t m 0 b) (by simp [results,Tryz.results115,go_sem]) rfl ⟨rfl,?_⟩
 repeat (first | exact Keeps.refl _ | refine Keeps.alloc ?_ _ | refine Keeps.setCell ?_ (by simp) _)
set_option maxHeartbeats 1000000 in
theorem eventOf_fulfill (y:Int) (w:World):Calls Tryz.prog 115 #[.iface 168 (.agg #[.int .i64 y])] w fun e w'=>e=.returned (evV 6 y 0 0 0 0 false)∧Keeps w w':=by
 have a1:=ta1 168 (.agg #[.int .i64 y]) (by simp)
 have a2:=ta2 168 (.agg #[.int .i64 y]) (by simp)
 have a3:=ta3 168 (.agg #[.int .i64 y]) (by simp)
 have a4:=ta4 168 (.agg #[.int .i64 y]) (by simp)
 have a5:=ta5 168 (.agg #[.int .i64 y]) (by simp)
 have a6:∀ w:World,(Instr.typeAssert (.iface 168 (.agg #[.int .i64 y])) 145 168 true).run Tryz.prog w=.ok (.tuple #[.agg #[.int .i64 y],.bool true]) w:=fun _=>by kernel_rfl
 go_enter Tryz.func115,Tryz.ntmps115
 go_wp2
 refine bodyPost_ret (v:=evV 6 y 0 0 0 0 false) (by simp [results,Tryz.results115,go_sem]) rfl ⟨rfl,?_⟩
 repeat (first | exact Keeps.refl _ | refine Keeps.alloc ?_ _ | refine Keeps.setCell ?_ (by simp) _)
set_option maxHeartbeats 1000000 in
theorem eventOf_fail (y:Int) (w:World):Calls Tryz.prog 115 #[.iface 169 (.agg #[.int .i64 y])] w fun e w'=>e=.returned (evV 7 y 0 0 0 0 false)∧Keeps w w':=by
 have a1:=ta1 169 (.agg #[.int .i64 y]) (by simp)
 have a2:=ta2 169 (.agg #[.int .i64 y]) (by simp)
 have a3:=ta3 169 (.agg #[.int .i64 y]) (by simp)
 have a4:=ta4 169 (.agg #[.int .i64 y]) (by simp)
 have a5:=ta5 169 (.agg #[.int .i64 y]) (by simp)
 have a6:=ta6 169 (.agg #[.int .i64 y]) (by simp)
 have a7:∀ w:World,(Instr.typeAssert (.iface 169 (.agg #[.int .i64 y])) 145 169 true).run Tryz.prog w=.ok (.tuple #[.agg #[.int .i64 y],.bool true]) w:=fun _=>by kernel_rfl
 go_enter Tryz.func115,Tryz.ntmps115
 go_wp2
 refine bodyPost_ret (v:=evV 7 y 0 0 0 0 false) (by simp [results,Tryz.results115,go_sem]) rfl ⟨rfl,?_⟩
 repeat (first | exact Keeps.refl _ | refine Keeps.alloc ?_ _ | refine Keeps.setCell ?_ (by simp) _)
set_option maxHeartbeats 1000000 in
theorem eventOf_tick (w:World):Calls Tryz.prog 115 #[.iface 171 (.agg #[])] w fun e w'=>e=.returned (evV 8 0 0 0 0 0 false)∧Keeps w w':=by
 have a1:=ta1 171 (.agg #[]) (by simp)
 have a2:=ta2 171 (.agg #[]) (by simp)
 have a3:=ta3 171 (.agg #[]) (by simp)
 have a4:=ta4 171 (.agg #[]) (by simp)
 have a5:=ta5 171 (.agg #[]) (by simp)
 have a6:=ta6 171 (.agg #[]) (by simp)
 have a7:=ta7 171 (.agg #[]) (by simp)
 have a8:∀ w:World,(Instr.typeAssert (.iface 171 (.agg #[])) 145 171 true).run Tryz.prog w=.ok (.tuple #[.agg #[],.bool true]) w:=fun _=>by kernel_rfl
 go_enter Tryz.func115,Tryz.ntmps115
 go_wp2
 refine bodyPost_ret (v:=evV 8 0 0 0 0 0 false) (by simp [results,Tryz.results115,go_sem]) rfl ⟨rfl,?_⟩
 repeat (first | exact Keeps.refl _ | refine Keeps.alloc ?_ _ | refine Keeps.setCell ?_ (by simp) _)
set_option maxHeartbeats 1000000 in
theorem eventOf_launch (y c t m f:Int) (w:World):Calls Tryz.prog 115 #[.iface 173 (.agg #[.int .i64 y,.int .i64 c,.int .i64 t,.int .i64 m,.int .i64 f])] w fun e w'=>e=.returned (evV 9 y c t m f false)∧Keeps w w':=by
 have a1:=ta1 173 (.agg #[.int .i64 y,.int .i64 c,.int .i64 t,.int .i64 m,.int .i64 f]) (by simp)
 have a2:=ta2 173 (.agg #[.int .i64 y,.int .i64 c,.int .i64 t,.int .i64 m,.int .i64 f]) (by simp)
 have a3:=ta3 173 (.agg #[.int .i64 y,.int .i64 c,.int .i64 t,.int .i64 m,.int .i64 f]) (by simp)
 have a4:=ta4 173 (.agg #[.int .i64 y,.int .i64 c,.int .i64 t,.int .i64 m,.int .i64 f]) (by simp)
 have a5:=ta5 173 (.agg #[.int .i64 y,.int .i64 c,.int .i64 t,.int .i64 m,.int .i64 f]) (by simp)
 have a6:=ta6 173 (.agg #[.int .i64 y,.int .i64 c,.int .i64 t,.int .i64 m,.int .i64 f]) (by simp)
 have a7:=ta7 173 (.agg #[.int .i64 y,.int .i64 c,.int .i64 t,.int .i64 m,.int .i64 f]) (by simp)
 have a8:=ta8 173 (.agg #[.int .i64 y,.int .i64 c,.int .i64 t,.int .i64 m,.int .i64 f]) (by simp)
 have a9:∀ w:World,(Instr.typeAssert (.iface 173 (.agg #[.int .i64 y,.int .i64 c,.int .i64 t,.int .i64 m,.int .i64 f])) 145 173 true).run Tryz.prog w=.ok (.tuple #[.agg #[.int .i64 y,.int .i64 c,.int .i64 t,.int .i64 m,.int .i64 f],.bool true]) w:=fun _=>by kernel_rfl
 go_enter Tryz.func115,Tryz.ntmps115
 go_wp2
 refine bodyPost_ret (v:=evV 9 y c t m f false) (by simp [results,Tryz.results115,go_sem]) rfl ⟨rfl,?_⟩
 repeat (first | exact Keeps.refl _ | refine Keeps.alloc ?_ _ | refine Keeps.setCell ?_ (by simp) _)
set_option maxHeartbeats 1000000 in
theorem eventOf_arrive (y:Int) (w:World):Calls Tryz.prog 115 #[.iface 174 (.agg #[.int .i64 y])] w fun e w'=>e=.returned (evV 10 y 0 0 0 0 false)∧Keeps w w':=by
 have a1:=ta1 174 (.agg #[.int .i64 y]) (by simp)
 have a2:=ta2 174 (.agg #[.int .i64 y]) (by simp)
 have a3:=ta3 174 (.agg #[.int .i64 y]) (by simp)
 have a4:=ta4 174 (.agg #[.int .i64 y]) (by simp)
 have a5:=ta5 174 (.agg #[.int .i64 y]) (by simp)
 have a6:=ta6 174 (.agg #[.int .i64 y]) (by simp)
 have a7:=ta7 174 (.agg #[.int .i64 y]) (by simp)
 have a8:=ta8 174 (.agg #[.int .i64 y]) (by simp)
 have a9:=ta9 174 (.agg #[.int .i64 y]) (by simp)
 have a10:∀ w:World,(Instr.typeAssert (.iface 174 (.agg #[.int .i64 y])) 145 174 true).run Tryz.prog w=.ok (.tuple #[.agg #[.int .i64 y],.bool true]) w:=fun _=>by kernel_rfl
 go_enter Tryz.func115,Tryz.ntmps115
 go_wp2
 refine bodyPost_ret (v:=evV 10 y 0 0 0 0 false) (by simp [results,Tryz.results115,go_sem]) rfl ⟨rfl,?_⟩
 repeat (first | exact Keeps.refl _ | refine Keeps.alloc ?_ _ | refine Keeps.setCell ?_ (by simp) _)
set_option maxHeartbeats 1000000 in
theorem eventOf_lost (y:Int) (w:World):Calls Tryz.prog 115 #[.iface 175 (.agg #[.int .i64 y])] w fun e w'=>e=.returned (evV 11 y 0 0 0 0 false)∧Keeps w w':=by
 have a1:=ta1 175 (.agg #[.int .i64 y]) (by simp)
 have a2:=ta2 175 (.agg #[.int .i64 y]) (by simp)
 have a3:=ta3 175 (.agg #[.int .i64 y]) (by simp)
 have a4:=ta4 175 (.agg #[.int .i64 y]) (by simp)
 have a5:=ta5 175 (.agg #[.int .i64 y]) (by simp)
 have a6:=ta6 175 (.agg #[.int .i64 y]) (by simp)
 have a7:=ta7 175 (.agg #[.int .i64 y]) (by simp)
 have a8:=ta8 175 (.agg #[.int .i64 y]) (by simp)
 have a9:=ta9 175 (.agg #[.int .i64 y]) (by simp)
 have a10:=ta10 175 (.agg #[.int .i64 y]) (by simp)
 have a11:∀ w:World,(Instr.typeAssert (.iface 175 (.agg #[.int .i64 y])) 145 175 true).run Tryz.prog w=.ok (.tuple #[.agg #[.int .i64 y],.bool true]) w:=fun _=>by kernel_rfl
 go_enter Tryz.func115,Tryz.ntmps115
 go_wp2
 refine bodyPost_ret (v:=evV 11 y 0 0 0 0 false) (by simp [results,Tryz.results115,go_sem]) rfl ⟨rfl,?_⟩
 repeat (first | exact Keeps.refl _ | refine Keeps.alloc ?_ _ | refine Keeps.setCell ?_ (by simp) _)
theorem ev_cell0 (k y c t m f:Int) (b:Bool) (w:World):(w.alloc (.cells #[.int .i64 k,.int .i64 y,.int .i64 c,.int .i64 t,.int .i64 m,.int .i64 f,.bool b] 41)).cell? ⟨w.heap.size,0,none⟩=some (.int .i64 k):=by simp
set_option maxHeartbeats 20000000 in
theorem evok_impl (k y c t m f:Int) (b:Bool) (w:World):Calls Tryz.prog 95 #[evV k y c t m f b] w fun e w'=>e=.returned (.bool (evB k y c t m f b))∧Keeps w w':=by
 have hk:k=1∨k=2∨k=3∨k=4∨k=5∨k=6∨k=7∨k=8∨k=9∨k=10∨k=11∨k < 1∨11 < k:=by omega
 rcases hk with rfl | rfl | rfl | rfl | rfl | rfl | rfl | rfl | rfl | rfl | rfl | h
 have hm:∀ w:World,(method 388 158 (.agg #[.int .i64 m]) "loop.example/g00400/impl.right").run Tryz.prog w=.ok (245,.agg #[.int .i64 m]) w:=fun _=>by kernel_rfl
 have HKO:=hide (kindOf_deposit y c t m f b)
 have HRI:=hide (right_deposit m)
 have HEV:=hide (eventOf_deposit m)
 have hq:=ev_eql 1 0 0 0 m 0 false 1 y c t m f b
 rw [show evB 1 y c t m f b=((fieldB true m 1 1125899906842624) && evEq 1 0 0 0 m 0 false 1 y c t m f b) from by rw [Bool.eq_iff_iff];cases b <;> simp [evB,evEq,fieldB,chansB] <;> omega]
 generalize evEq 1 0 0 0 m 0 false 1 y c t m f b=E at *
 generalize hr:(fieldB true m 1 1125899906842624)=r at *
 clear hr
 cases r
 rotate_left 2
 have hm:∀ w:World,(method 388 160 (.agg #[.int .i64 c,.int .i64 m,.int .i64 f]) "loop.example/g00400/impl.right").run Tryz.prog w=.ok (247,.agg #[.int .i64 c,.int .i64 m,.int .i64 f]) w:=fun _=>by kernel_rfl
 have HKO:=hide (kindOf_open y c t m f b)
 have HRI:=hide (right_open c m f)
 have HEV:=hide (eventOf_open c m f)
 have hq:=ev_eql 2 0 c 0 m f false 2 y c t m f b
 rw [show evB 2 y c t m f b=((fieldB true c 1 99 && fieldB true m 1 1125899906842624 && fieldB true f 0 1125899906842624) && evEq 2 0 c 0 m f false 2 y c t m f b) from by rw [Bool.eq_iff_iff];cases b <;> simp [evB,evEq,fieldB,chansB] <;> omega]
 generalize evEq 2 0 c 0 m f false 2 y c t m f b=E at *
 generalize hr:(fieldB true c 1 99 && fieldB true m 1 1125899906842624 && fieldB true f 0 1125899906842624)=r at *
 clear hr
 cases r
 rotate_left 2
 have hm:∀ w:World,(method 388 162 (.agg #[.int .i64 c,.int .i64 f]) "loop.example/g00400/impl.right").run Tryz.prog w=.ok (249,.agg #[.int .i64 c,.int .i64 f]) w:=fun _=>by kernel_rfl
 have HKO:=hide (kindOf_close y c t m f b)
 have HRI:=hide (right_close c f)
 have HEV:=hide (eventOf_close c f)
 have hq:=ev_eql 3 0 c 0 0 f false 3 y c t m f b
 rw [show evB 3 y c t m f b=((fieldB true c 1 99 && fieldB true f 0 1125899906842624) && evEq 3 0 c 0 0 f false 3 y c t m f b) from by rw [Bool.eq_iff_iff];cases b <;> simp [evB,evEq,fieldB,chansB] <;> omega]
 generalize evEq 3 0 c 0 0 f false 3 y c t m f b=E at *
 generalize hr:(fieldB true c 1 99 && fieldB true f 0 1125899906842624)=r at *
 clear hr
 cases r
 rotate_left 2
 have hm:∀ w:World,(method 388 164 (.agg #[.int .i64 c,.int .i64 m,.int .i64 f]) "loop.example/g00400/impl.right").run Tryz.prog w=.ok (251,.agg #[.int .i64 c,.int .i64 m,.int .i64 f]) w:=fun _=>by kernel_rfl
 have HKO:=hide (kindOf_price y c t m f b)
 have HRI:=hide (right_price c m f)
 have HEV:=hide (eventOf_price c m f)
 have hq:=ev_eql 4 0 c 0 m f false 4 y c t m f b
 rw [show evB 4 y c t m f b=((fieldB true c 1 99 && fieldB true m 0 1125899906842624 && fieldB true f 0 1000000) && evEq 4 0 c 0 m f false 4 y c t m f b) from by rw [Bool.eq_iff_iff];cases b <;> simp [evB,evEq,fieldB,chansB] <;> omega]
 generalize evEq 4 0 c 0 m f false 4 y c t m f b=E at *
 generalize hr:(fieldB true c 1 99 && fieldB true m 0 1125899906842624 && fieldB true f 0 1000000)=r at *
 clear hr
 cases r
 rotate_left 2
 have hm:∀ w:World,(method 388 166 (.agg #[.int .i64 y,.int .i64 c,.int .i64 t,.int .i64 m,.bool b]) "loop.example/g00400/impl.right").run Tryz.prog w=.ok (253,.agg #[.int .i64 y,.int .i64 c,.int .i64 t,.int .i64 m,.bool b]) w:=fun _=>by kernel_rfl
 have HKO:=hide (kindOf_admit y c t m f b)
 have HRI:=hide (right_admit y c t m b)
 have HEV:=hide (eventOf_admit y c t m b)
 have hq:=ev_eql 5 y c t m 0 b 5 y c t m f b
 rw [show evB 5 y c t m f b=((fieldB true y 1 1000000 && chansB c t && fieldB true m 1 1125899906842624) && evEq 5 y c t m 0 b 5 y c t m f b) from by rw [Bool.eq_iff_iff];cases b <;> simp [evB,evEq,fieldB,chansB] <;> omega]
 generalize evEq 5 y c t m 0 b 5 y c t m f b=E at *
 generalize hr:(fieldB true y 1 1000000 && chansB c t && fieldB true m 1 1125899906842624)=r at *
 clear hr
 cases r
 rotate_left 2
 have hm:∀ w:World,(method 388 168 (.agg #[.int .i64 y]) "loop.example/g00400/impl.right").run Tryz.prog w=.ok (256,.agg #[.int .i64 y]) w:=fun _=>by kernel_rfl
 have HKO:=hide (kindOf_fulfill y c t m f b)
 have HRI:=hide (right_fulfill y)
 have HEV:=hide (eventOf_fulfill y)
 have hq:=ev_eql 6 y 0 0 0 0 false 6 y c t m f b
 rw [show evB 6 y c t m f b=((fieldB true y 1 1000000) && evEq 6 y 0 0 0 0 false 6 y c t m f b) from by rw [Bool.eq_iff_iff];cases b <;> simp [evB,evEq,fieldB,chansB] <;> omega]
 generalize evEq 6 y 0 0 0 0 false 6 y c t m f b=E at *
 generalize hr:(fieldB true y 1 1000000)=r at *
 clear hr
 cases r
 rotate_left 2
 have hm:∀ w:World,(method 388 169 (.agg #[.int .i64 y]) "loop.example/g00400/impl.right").run Tryz.prog w=.ok (258,.agg #[.int .i64 y]) w:=fun _=>by kernel_rfl
 have HKO:=hide (kindOf_fail y c t m f b)
 have HRI:=hide (right_fail y)
 have HEV:=hide (eventOf_fail y)
 have hq:=ev_eql 7 y 0 0 0 0 false 7 y c t m f b
 rw [show evB 7 y c t m f b=((fieldB true y 1 1000000) && evEq 7 y 0 0 0 0 false 7 y c t m f b) from by rw [Bool.eq_iff_iff];cases b <;> simp [evB,evEq,fieldB,chansB] <;> omega]
 generalize evEq 7 y 0 0 0 0 false 7 y c t m f b=E at *
 generalize hr:(fieldB true y 1 1000000)=r at *
 clear hr
 cases r
 rotate_left 2
 have hm:∀ w:World,(method 388 171 (.agg #[]) "loop.example/g00400/impl.right").run Tryz.prog w=.ok (260,.agg #[]) w:=fun _=>by kernel_rfl
 have HKO:=hide (kindOf_tick y c t m f b)
 have HRI:=hide (right_tick)
 have HEV:=hide (eventOf_tick)
 have hq:=ev_eql 8 0 0 0 0 0 false 8 y c t m f b
 rw [show evB 8 y c t m f b=((true) && evEq 8 0 0 0 0 0 false 8 y c t m f b) from by rw [Bool.eq_iff_iff];cases b <;> simp [evB,evEq,fieldB,chansB] <;> omega]
 generalize evEq 8 0 0 0 0 0 false 8 y c t m f b=E at *
 rotate_left
 have hm:∀ w:World,(method 388 173 (.agg #[.int .i64 y,.int .i64 c,.int .i64 t,.int .i64 m,.int .i64 f]) "loop.example/g00400/impl.right").run Tryz.prog w=.ok (262,.agg #[.int .i64 y,.int .i64 c,.int .i64 t,.int .i64 m,.int .i64 f]) w:=fun _=>by kernel_rfl
 have HKO:=hide (kindOf_launch y c t m f b)
 have HRI:=hide (right_launch y c t m f)
 have HEV:=hide (eventOf_launch y c t m f)
 have hq:=ev_eql 9 y c t m f false 9 y c t m f b
 rw [show evB 9 y c t m f b=((fieldB true y 1 1000000 && chansB c t && fieldB true m 1 1125899906842624 && fieldB true f 0 1125899906842624) && evEq 9 y c t m f false 9 y c t m f b) from by rw [Bool.eq_iff_iff];cases b <;> simp [evB,evEq,fieldB,chansB] <;> omega]
 generalize evEq 9 y c t m f false 9 y c t m f b=E at *
 generalize hr:(fieldB true y 1 1000000 && chansB c t && fieldB true m 1 1125899906842624 && fieldB true f 0 1125899906842624)=r at *
 clear hr
 cases r
 rotate_left 2
 have hm:∀ w:World,(method 388 174 (.agg #[.int .i64 y]) "loop.example/g00400/impl.right").run Tryz.prog w=.ok (264,.agg #[.int .i64 y]) w:=fun _=>by kernel_rfl
 have HKO:=hide (kindOf_arrive y c t m f b)
 have HRI:=hide (right_arrive y)
 have HEV:=hide (eventOf_arrive y)
 have hq:=ev_eql 10 y 0 0 0 0 false 10 y c t m f b
 rw [show evB 10 y c t m f b=((fieldB true y 1 1000000) && evEq 10 y 0 0 0 0 false 10 y c t m f b) from by rw [Bool.eq_iff_iff];cases b <;> simp [evB,evEq,fieldB,chansB] <;> omega]
 generalize evEq 10 y 0 0 0 0 false 10 y c t m f b=E at *
 generalize hr:(fieldB true y 1 1000000)=r at *
 clear hr
 cases r
 rotate_left 2
 have hm:∀ w:World,(method 388 175 (.agg #[.int .i64 y]) "loop.example/g00400/impl.right").run Tryz.prog w=.ok (266,.agg #[.int .i64 y]) w:=fun _=>by kernel_rfl
 have HKO:=hide (kindOf_lost y c t m f b)
 have HRI:=hide (right_lost y)
 have HEV:=hide (eventOf_lost y)
 have hq:=ev_eql 11 y 0 0 0 0 false 11 y c t m f b
 rw [show evB 11 y c t m f b=((fieldB true y 1 1000000) && evEq 11 y 0 0 0 0 false 11 y c t m f b) from by rw [Bool.eq_iff_iff];cases b <;> simp [evB,evEq,fieldB,chansB] <;> omega]
 generalize evEq 11 y 0 0 0 0 false 11 y c t m f b=E at *
 generalize hr:(fieldB true y 1 1000000)=r at *
 clear hr
 cases r
 rotate_left 2
 have hm:∀ w:World,(method 388 176 (.agg #[]) "loop.example/g00400/impl.right").run Tryz.prog w=.ok (268,.agg #[]) w:=fun _=>by kernel_rfl
 have HKO:=hide (fun w1=>kindOf_unknown k y c t m f b w1 h)
 have HRI:=hide right_unknown
 rw [show evB k y c t m f b=false from by unfold evB;repeat rw [if_neg (by omega)]]
 clear h
 all_goals (
  go_enter Tryz.func95,Tryz.ntmps95
  go_wp2_with fail
  refine (unhide HKO _).mono ?_
  rintro e w1 ⟨rfl,hk⟩
  have c0:=gr_cell (hk.cell (ev_cell0 _ _ _ _ _ _ _ _))
  have c1:=gr_cell (hk.cell (p:=⟨w.heap.size,1,none⟩) (v:=.int .i64 y) (by simp))
  have c2:=gr_cell (hk.cell (p:=⟨w.heap.size,2,none⟩) (v:=.int .i64 c) (by simp))
  have c3:=gr_cell (hk.cell (p:=⟨w.heap.size,3,none⟩) (v:=.int .i64 t) (by simp))
  have c4:=gr_cell (hk.cell (p:=⟨w.heap.size,4,none⟩) (v:=.int .i64 m) (by simp))
  have c5:=gr_cell (hk.cell (p:=⟨w.heap.size,5,none⟩) (v:=.int .i64 f) (by simp))
  have c6:=gr_cell (hk.cell (p:=⟨w.heap.size,6,none⟩) (v:=.bool b) (by simp))
  have HK:=hide (Keeps.trans (Keeps.alloc (Keeps.refl w) _) hk)
  clear hk HKO
  go_wp2_with fail
  refine region_gr (by kernel_rfl) (by kernel_rfl) ?_
  repeat (go_big_quiet_step (first | (go_at_call 245;exact gr_call (unhide HRI _)) | (go_at_call 247;exact gr_call (unhide HRI _)) | (go_at_call 249;exact gr_call (unhide HRI _)) | (go_at_call 251;exact gr_call (unhide HRI _)) | (go_at_call 253;exact gr_call (unhide HRI _)) | (go_at_call 256;exact gr_call (unhide HRI _)) | (go_at_call 258;exact gr_call (unhide HRI _)) | (go_at_call 260;exact gr_call (unhide HRI _)) | (go_at_call 262;exact gr_call (unhide HRI _)) | (go_at_call 264;exact gr_call (unhide HRI _)) | (go_at_call 266;exact gr_call (unhide HRI _)) | (go_at_call 268;exact gr_call (unhide HRI _)) | (go_at_call 115;exact gr_call (unhide HEV _))))
  refine wpQuiet_nil ?_
  intro w2 hw2
  have hk2:=Keeps.of_gr hw2
  clear hw2
  go_wp2_with fail
  go_ret
  exact ⟨ret_ev (by simp),HK.out.trans hk2⟩)
end Go.Proofs.YtccdhcempnkgaaaGreatDoor
namespace Go.Proofs.YtccdhcempnkgaaaGreatDoor
open Go.RowKit Go.Deep
set_option linter.unusedVariables false
set_option linter.unusedSimpArgs false
set_option maxRecDepth 10000
def evC (B:Bk) (k ky ch tt am fe:Int) (ys:Bool):Int :=
 if k=1 then 0 else if k=2 then openC B ch am fe else if k=3 then closeC B ch fe else if k=4 then priceK B ch else if k=5 then admitC B ky ch tt am ys else if k=6 then settleC B ky else if k=7 then settleC B ky else if k=8 then tickC B else if k=9 then launchC B ky ch tt am fe else landC B ky
def evK (B:Bk) (k ky ch tt am fe:Int) (ys:Bool):Bk :=
 if k=1 then ⟨B.tk,B.nx,B.wa+am,B.C,B.Hs,B.R⟩ else if k=2 then openB B ch am fe else if k=3 then closeB B ch fe else if k=4 then priceB B ch am fe else if k=5 then admitB B ky ch tt am ys else if k=6 then settleB B ky true else if k=7 then settleB B ky false else if k=8 then tickB B else if k=9 then launchB B ky ch tt am fe else if k=10 then landB B ky true else landB B ky false
def evL (B:Bk) (k ky ch tt am fe:Int) (ys:Bool):List Ln :=
 if k=1 then lineW (lineW [] 1 0 am) 2 0 (-am) else if k=2 then openL ch am [] else if k=3 then closeL B ch fe [] else if k=4 then [] else if k=5 then admitL [] tt am else if k=6 then settleL (lastH ky B.Hs) true [] else if k=7 then settleL (lastH ky B.Hs) false [] else if k=8 then [] else if k=9 then launchL [] ch am fe else if k=10 then landL (lastR ky B.R) true [] else landL (lastR ky B.R) false []
def applyC (B:Bk) (k ky ch tt am fe:Int) (ys:Bool):Int:=if evB k ky ch tt am fe ys=false then 1 else if pastB B k ch am fe=true then 2 else evC B k ky ch tt am fe ys
theorem evK_nx (B:Bk) (k ky ch tt am fe:Int) (ys:Bool):(evK B k ky ch tt am fe ys).nx=B.nx:=by
 unfold evK
 repeat' split
 all_goals rfl
theorem evB_kind {k ky ch tt am fe:Int} {ys:Bool} (h:evB k ky ch tt am fe ys=true):k=1∨k=2∨k=3∨k=4∨k=5∨k=6∨k=7∨k=8∨k=9∨k=10∨k=11:=by
 by_cases hk:k < 1∨11 < k
 ·unfold evB at h
  repeat rw [if_neg (by omega)] at h
  cases h
 ·omega
theorem evB_am {k ky ch tt am fe:Int} {ys:Bool} (h:evB k ky ch tt am fe ys=true):(0≤am∧am≤1125899906842624)∧(0≤fe∧fe≤1125899906842624)∧(k=5∨k=9→ch≠tt):=by
 have hk:=evB_kind h
 rcases hk with rfl | rfl | rfl | rfl | rfl | rfl | rfl | rfl | rfl | rfl | rfl <;> (simp [evB,fieldB] at h) <;> exact ⟨by omega,by omega,fun hk=>by omega⟩
theorem perform_all (W:Wf) (w:World) (p:Nat) (tk nx wa:Int) (ca:Option Addr) (cc:Nat) (C:List Chn) (ha:Option Addr) (hc:Nat) (Hs:List Htl) (ra:Option Addr) (rc:Nat) (R:List Crc) (h:BoAt W w p ⟨tk,nx,wa,ca,cc,C,ha,hc,Hs,ra,rc,R⟩) (hb:bookB ⟨tk,nx,wa,C,Hs,R⟩=true) (kd ky ch tt am fe:Int) (ys:Bool) (hFu:∀ x y z w',Keeps w w'→Calls Tryz.prog 170 #[.int .i64 x,.int .i64 y,.int .i64 z] w' fun e w''=>e=.returned (.tuple #[.int .i64 (feeV x y z true),.bool (feeB x y z true)])∧Keeps w' w'') (hAd:∀ x y w',Keeps w w'→Calls Tryz.prog 151 #[.int .i64 x,.int .i64 y] w' fun e w''=>e=.returned (.tuple #[.int .i64 (addV x y),.bool (addB x y)])∧Keeps w' w'') :
 Calls Tryz.prog 50 #[.pointer (some ⟨p,0,none⟩),evV kd ky ch tt am fe ys] w fun e w'=>Perf W w w' p (applyC ⟨tk,nx,wa,C,Hs,R⟩ kd ky ch tt am fe ys) ⟨tk,nx,wa,ca,cc,C,ha,hc,Hs,ra,rc,R⟩ (evK ⟨tk,nx,wa,C,Hs,R⟩ kd ky ch tt am fe ys) (evL ⟨tk,nx,wa,C,Hs,R⟩ kd ky ch tt am fe ys) e:=by
 cases hok:evB kd ky ch tt am fe ys with
 | false =>
   have hcc:applyC ⟨tk,nx,wa,C,Hs,R⟩ kd ky ch tt am fe ys=1:=by unfold applyC;rw [if_pos hok]
   rw [hcc]
   have hr:=right_of hb
   refine perform0 W w p tk nx wa ca cc C ha hc Hs ra rc R h kd ky ch tt am fe ys _ _ (by rw [evK_nx];have:=hr.nx;dsimp only at this ⊢;omega) (fun w'=>by have:=evok_impl kd ky ch tt am fe ys w';rw [hok] at this;exact this)
 | true =>
   have hr:=right_of hb
   obtain ⟨ham,hfe,hne⟩:=evB_am hok
   have hl:Bo.len ⟨tk,nx,wa,ca,cc,C,ha,hc,Hs,ra,rc,R⟩:=⟨Nat.le_trans hr.lC (by decide),Nat.le_trans hr.lH (by decide),Nat.le_trans hr.lR (by decide)⟩
   have hnx:0≤(evK ⟨tk,nx,wa,C,Hs,R⟩ kd ky ch tt am fe ys).nx∧(evK ⟨tk,nx,wa,C,Hs,R⟩ kd ky ch tt am fe ys).nx≤1125899906842624:=by rw [evK_nx];have:=hr.nx;dsimp only at this ⊢;omega
   have hcc:applyC ⟨tk,nx,wa,C,Hs,R⟩ kd ky ch tt am fe ys=if true=false then 1 else if pastB ⟨tk,nx,wa,C,Hs,R⟩ kd ch am fe=true then 2 else evC ⟨tk,nx,wa,C,Hs,R⟩ kd ky ch tt am fe ys:=by unfold applyC;rw [hok]
   rw [hcc]
   have hkd:=evB_kind hok
   refine performA W w p tk nx wa ca cc C ha hc Hs ra rc R h kd ky ch tt am fe ys hkd true (pastB ⟨tk,nx,wa,C,Hs,R⟩ kd ch am fe) (evC ⟨tk,nx,wa,C,Hs,R⟩ kd ky ch tt am fe ys) (evK ⟨tk,nx,wa,C,Hs,R⟩ kd ky ch tt am fe ys) (evL ⟨tk,nx,wa,C,Hs,R⟩ kd ky ch tt am fe ys) hnx (fun w'=>by have:=evok_impl kd ky ch tt am fe ys w';rw [hok] at this;exact this) (fun _ w' hk=>?_) ?_
   ·have a1:=h.cells.kept hk
    have a2:=h.mem.kept hk
    have a3:=fun c hx=>(hr.cA c hx).1
    rcases hkd with rfl | rfl | rfl | rfl | rfl | rfl | rfl | rfl | rfl | rfl | rfl
    ·exact past1 p tk nx wa ca cc C ha _ Hs ra rc R w' a1 a2 ky ch tt am fe ys hr.lC hr.wa ham hfe a3
    ·exact past2 p tk nx wa ca cc C ha _ Hs ra rc R w' a1 a2 ky ch tt am fe ys hr.lC hr.wa ham hfe a3
    ·exact past3 p tk nx wa ca cc C ha _ Hs ra rc R w' a1 a2 ky ch tt am fe ys hr.lC hr.wa ham hfe a3
    ·exact pastO _ (by simp) p tk nx wa ca cc C ha _ Hs ra rc R w' a1 a2 ky ch tt am fe ys hr.lC hr.wa ham hfe a3
    ·exact pastO _ (by simp) p tk nx wa ca cc C ha _ Hs ra rc R w' a1 a2 ky ch tt am fe ys hr.lC hr.wa ham hfe a3
    ·exact pastO _ (by simp) p tk nx wa ca cc C ha _ Hs ra rc R w' a1 a2 ky ch tt am fe ys hr.lC hr.wa ham hfe a3
    ·exact pastO _ (by simp) p tk nx wa ca cc C ha _ Hs ra rc R w' a1 a2 ky ch tt am fe ys hr.lC hr.wa ham hfe a3
    ·exact past8 p tk nx wa ca cc C ha _ Hs ra rc R w' a1 a2 ky ch tt am fe ys hr.lC hr.wa ham hfe a3
    ·exact pastO _ (by simp) p tk nx wa ca cc C ha _ Hs ra rc R w' a1 a2 ky ch tt am fe ys hr.lC hr.wa ham hfe a3
    ·exact pastO _ (by simp) p tk nx wa ca cc C ha _ Hs ra rc R w' a1 a2 ky ch tt am fe ys hr.lC hr.wa ham hfe a3
    ·exact pastO _ (by simp) p tk nx wa ca cc C ha _ Hs ra rc R w' a1 a2 ky ch tt am fe ys hr.lC hr.wa ham hfe a3
   ·intro g hg _ hpast F w' hB hk
    subst hg
    rcases hkd with rfl | rfl | rfl | rfl | rfl | rfl | rfl | rfl | rfl | rfl | rfl
    ·refine (deposit_impl F w' p tk nx wa ca cc C ha hc Hs ra rc R hB 1 ky ch tt am fe ys hr.wa ham).mono ?_
     intro e w'' hd
     rw [show evL ⟨tk,nx,wa,C,Hs,R⟩ 1 ky ch tt am fe ys=nzL [⟨1,0,am⟩,⟨2,0,-am⟩] from lines2 (by decide)]
     exact Out.yes rfl hd
    ·have hadd:addB am fe=true:=by
      simp only [pastB] at hpast
      have h1:¬ 1125899906842624 < am+fe:=by
       intro hx
       split at hpast
       ·cases hpast
       ·simp [hx] at hpast
      simp only [addB,Bool.and_eq_true]
      exact ⟨⟨amtB_yes ham.1 ham.2,amtB_yes hfe.1 hfe.2⟩,amtB_yes (by omega) (by omega)⟩
     exact (open_impl F w' p tk nx wa ca cc C ha hc Hs ra rc R hB 2 ky ch tt am fe ys hr.lC hr.ids hadd hr.wa ham hfe)
    ·exact (close_impl F w' p tk nx wa ca cc C ha hc Hs ra rc R hB 3 ky ch tt am fe ys hr.lC hr.ids hl hr.small (hr.sums ch).1 (hr.sums ch).2.1 (hr.sums ch).2.2 hr.wa hfe (fun c hc=>(hr.cA c hc).1))
    ·exact (price_impl F w' p tk nx wa ca cc C ha hc Hs ra rc R hB 4 ky ch tt am fe ys hr.lC)
    ·exact (admit_impl F w' p tk nx wa ca cc C ha hc Hs ra rc R hB 5 ky ch tt am fe ys hr.lH (fun x hx=>by have:=(hr.hA x hx).2.2;omega) (fun x y z w'' hk'=>hFu x y z w'' (hk.trans hk')) hr.lC hl (hne (by decide)) ham hfe hr.cA (fun x y w'' hk'=>hAd x y w'' (hk.trans hk')))
    ·exact (fulfill_impl F w' p tk nx wa ca cc C ha hc Hs ra rc R hB 6 ky ch tt am fe ys hr.lC hr.lH hl hr.kH hr.zH hr.cA (fun x hx=>⟨(hr.hA x hx).1,(hr.hA x hx).2.1,by have:=(hr.hA x hx).2.2;omega⟩))
    ·exact (fail_impl F w' p tk nx wa ca cc C ha hc Hs ra rc R hB 7 ky ch tt am fe ys hr.lC hr.lH hl hr.kH hr.zH hr.cA (fun x hx=>⟨(hr.hA x hx).1,(hr.hA x hx).2.1,by have:=(hr.hA x hx).2.2;omega⟩))
    ·have htk:tk < 1125899906842624:=by
      simp only [pastB] at hpast
      have h1:¬ tk=1125899906842624:=by
       intro hx
       split at hpast
       ·cases hpast
       ·simp [hx] at hpast
      have:=hr.tk.2
      dsimp only at this
      omega
     exact (tick_impl F w' p tk nx wa ca cc C ha hc Hs ra rc R hB 8 ky ch tt am fe ys hr.lC hr.lH hr.tk.1 htk hr.hG)
    ·exact (launch_impl F w' p tk nx wa ca cc C ha hc Hs ra rc R hB 9 ky ch tt am fe ys hr.lR hr.lC hl (hne (by decide)) ham hfe hr.cA (fun x y w'' hk'=>hAd x y w'' (hk.trans hk')))
    ·exact (arrive_impl F w' p tk nx wa ca cc C ha hc Hs ra rc R hB 10 ky ch tt am fe ys hr.lC (Nat.le_trans hr.lR (by decide)) hl hr.kR hr.zR hr.cA (fun x hx=>⟨(hr.rA x hx).1,by have:=(hr.rA x hx).2.1;omega,(hr.rA x hx).2.2⟩))
    ·exact (lost_impl F w' p tk nx wa ca cc C ha hc Hs ra rc R hB 11 ky ch tt am fe ys hr.lC (Nat.le_trans hr.lR (by decide)) hl hr.kR hr.zR hr.cA (fun x hx=>⟨(hr.rA x hx).1,by have:=(hr.rA x hx).2.1;omega,(hr.rA x hx).2.2⟩))
end Go.Proofs.YtccdhcempnkgaaaGreatDoor
