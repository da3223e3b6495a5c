/- Variables of 20 cells whose value no walk looks into. -/
import Derived.Test.YtkgpoghoilffhaaWn
import Derived.Deep.WholeRow
import Derived.Great.Walk
namespace Go.Proofs.Ytkgpoghoilffhaa
open Go.RowKit Go.Deep
set_option linter.unusedVariables false
set_option linter.unusedSimpArgs false
set_option maxRecDepth 10000
/-- The cells of a world that is nothing. -/
def zW : Array Value := #[.bool false, .slice none 0 0, .slice none 0 0, .int .i64 0, .int .i64 0, .int .i64 0, .int .i64 0, .int .i64 0, .slice none 0 0, .slice none 0 0, .slice none 0 0, .int .i64 0, .slice none 0 0, .slice none 0 0, .slice none 0 0, .slice none 0 0, .slice none 0 0, .slice none 0 0, .slice none 0 0, .slice none 0 0]
theorem zero_w : (Try.prog.info? 41).map (fun i => (i.zero, i.size)) = some (some (.agg zW), 20) := by kernel_rfl
theorem run_allocW (w : World) : (Instr.alloc 41 true (.tuple #[])).run Try.prog w = .ok (.pointer (some ⟨w.heap.size, 0, none⟩)) (w.alloc (.cells zW 41)) := by
  have h := (zero_of_info zero_w).1 w
  simp [Instr.alloc, newVar, Value.cells, go_sem, h]
theorem wp_allocW {ops : Array Oper} {rest : List Oper} {o : Oper} {a : Act} {w : World} {Q : Exit → Act → World → Prop} (hg : o.guard = none) (ho : o.op = .alloc 41) (dst : Option Tmp) (hdst : o.dst = dst)
    (h : wpList Try.prog ops Q rest (a.put dst (.pointer (some ⟨w.heap.size, 0, none⟩))) (w.alloc (.cells zW 41))) : wpList Try.prog ops Q (o :: rest) a w := by
  refine Go.Great.wpList_runTo hg dst hdst _ _ ?_ h
  unfold execOp
  simp only [ho, run_allocW, Sem.run_bind, Sem.run_pure, Result.andThen_ok]
theorem wp_storeW {ops : Array Oper} {rest : List Oper} {o : Oper} {a : Act} {Q : Exit → Act → World → Prop} (hg : o.guard = none) (x y : Operand) (ho : o.op = .store 41 x y) (w : World) (A : Array Value) (hx : a.eval x = .pointer (some ⟨w.heap.size, 0, none⟩)) (hy : a.eval y = .agg A)
    (hs : A.size = 20) (h1 : A.all (·.oneCell') = true) (h : wpList Try.prog ops Q rest (a.put o.dst undef) (w.alloc (.cells A 41))) : wpList Try.prog ops Q (o :: rest) a (w.alloc (.cells zW 41)) := by
  refine wpList_plain hg fun K hK => ?_
  unfold Oper.wp execOp
  have hr := run_storeAt_new (P := Try.prog) w 41 zW A (by rw [info_w, hs]) (by rw [hs]; rfl) h1
  simp only [ho, hx, hy, Sem.run_bind, Sem.run_pure, hr, Result.andThen_ok]
  exact hK _ _ h
theorem wp_newW {ops : Array Oper} {rest : List Oper} {o o2 : Oper} {a : Act} {w : World} {Q : Exit → Act → World → Prop} (hg : o.guard = none) (ho : o.op = .alloc 41) (dst : Option Tmp) (hdst : o.dst = dst) (hg2 : o2.guard = none) (x y : Operand) (ho2 : o2.op = .store 41 x y) (A : Array Value)
    (hx : (a.put dst (.pointer (some ⟨w.heap.size, 0, none⟩))).eval x = .pointer (some ⟨w.heap.size, 0, none⟩)) (hy : (a.put dst (.pointer (some ⟨w.heap.size, 0, none⟩))).eval y = .agg A) (hs : A.size = 20) (h1 : A.all (·.oneCell') = true)
    (h : wpList Try.prog ops Q rest ((a.put dst (.pointer (some ⟨w.heap.size, 0, none⟩))).put o2.dst undef) (w.alloc (.cells A 41))) : wpList Try.prog ops Q (o :: o2 :: rest) a w :=
  wp_allocW hg ho dst hdst (wp_storeW hg2 x y ho2 w A hx hy hs h1 h)
theorem wp_loadW {ops : Array Oper} {rest : List Oper} {o : Oper} {a : Act} {w : World} {Q : Exit → Act → World → Prop} (hg : o.guard = none) (x : Operand) (ho : o.op = .load 41 x) (b : Nat) (A : Array Value) (hx : a.eval x = .pointer (some ⟨b, 0, none⟩)) (hs : A.size = 20) (hr : w.rangeAt b 0 A.toList)
    (h : wpList Try.prog ops Q rest (a.put o.dst (.agg A)) w) : wpList Try.prog ops Q (o :: rest) a w := by
  obtain ⟨d, hu, hd⟩ := under_w
  refine wpList_load_mid hg 41 x ho b 0 hx A.toList d hr hu hd (by rw [info_w]; simp [hs]) ?_
  simpa using h
theorem wp_loadWo {o : Oper} {a : Act} {w : World} {K : Act → World → Prop} {Q : Exit → Act → World → Prop} (x : Operand) (ho : o.op = .load 41 x) (b : Nat) (A : Array Value) (hx : a.eval x = .pointer (some ⟨b, 0, none⟩)) (hs : A.size = 20) (hr : w.rangeAt b 0 A.toList)
    (h : K (a.put o.dst (.agg A)) w) : o.wp Try.prog a w K Q := by
  obtain ⟨d, hu, hd⟩ := under_w
  refine wp_load_mid 41 x ho b 0 hx A.toList d hr hu hd (by rw [info_w]; simp [hs]) ?_
  simpa using h
theorem wld_agg {w w' : World} {v : Value} {M : DkM} (h : WldRes w w' v M) : ∃ A : Array Value, v = .agg A ∧ A.size = 20 ∧ A.all (·.oneCell') = true := by
  obtain ⟨ca, cc, cs, da, dc, ds, rfl, _⟩ := h
  exact ⟨_, rfl, rfl, by simp [Value.oneCell']⟩
theorem range_new (w : World) (A : Array Value) (t : TypeId) : (w.alloc (.cells A t)).rangeAt w.heap.size 0 A.toList := fun j v hv => by
  have h1 : A[j]? = some v := by simpa using hv
  have h2 := heap_alloc_last w (.cells A t)
  unfold World.cell?
  rw [Nat.zero_add]
  simp only [h2]
  exact h1
theorem range_turn {w w' : World} {fs : List Nat} {b : Nat} {cs : List Value} (h : w.rangeAt b 0 cs) (ht : Turn fs w w') (hb : b ∉ fs) : w'.rangeAt b 0 cs := fun j v hv => ht.cell hb (h j v hv)
theorem range_kept {w w' : World} {b : Nat} {cs : List Value} (h : w.rangeAt b 0 cs) (hk : Keeps w w') : w'.rangeAt b 0 cs := fun j v hv => hk.cell (h j v hv)
end Go.Proofs.Ytkgpoghoilffhaa
