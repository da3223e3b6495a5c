/- DiskWrite of the program, by contract. -/
import Derived.Test.YtkdnddckogbgaaaDWc
namespace Go.Proofs.Ytkdnddckogbgaaa
open Go.RowKit Go.Deep
set_option linter.unusedVariables false
set_option maxRecDepth 10000
attribute [local go_sem ↓] Go.wp_at_zero Go.wp_at_succ

theorem step_append_w {P : Program} {w : World} {ops : Array Oper} {o : Oper} {a : Act} {K : Act → World → Prop} {Q : Exit → Act → World → Prop} {E : Prop} (hgd : o.guard = none) (s x : Operand) (t tn : TypeId)
    (ho : o.op = .call { callee := .builtin .append, args := #[s, x], argTypes := #[t, tn] }) (vs vx : Value) (hs : a.eval s = vs) (hx : a.eval x = vx)
    (v' : Value) (w' : World) (hr : (Builtin.append_ #[t, tn] o.type #[vs, vx]).run P w = .ok v' w') (h : K (a.put o.dst v') w') : if Region.wanted o (yielded ops a.tmps) = true then Oper.wp P o a w K Q else E := by
  have hw : Region.wanted o (yielded ops a.tmps) = true := by simp [Region.wanted, hgd]
  rw [if_pos hw]
  exact Lib.wp_append_run w s x t tn ho vs vx hs hx v' w' hr h
theorem room_turn0 {w w' : World} {b n : Nat} {fs : List Nat} (h : Room w b n) (ht : Turn fs w w') (hb : b ∉ fs) (hl : b < w.heap.size) : Room w' b n :=
  ⟨fun j hj => by obtain ⟨u, hu⟩ := h.cell j hj; exact ⟨u, ht.cell hb hu⟩, fun o => by rw [World.frozen?_of_block (w := w) (a := ⟨b, o, none⟩) (ht.block b hl hb)]; exact h.free o⟩
end Go.Proofs.Ytkdnddckogbgaaa
