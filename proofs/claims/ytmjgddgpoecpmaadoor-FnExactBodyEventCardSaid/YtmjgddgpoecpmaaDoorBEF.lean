/- BodyEvent of the program. -/
import Derived.Test.YtmjgddgpoecpmaaDoorBEI
import Derived.Tactics2
import Derived.Defers
import Derived.Recover
import Derived.Laws.Pointers
namespace Go.Proofs.YtmjgddgpoecpmaaDoor
open Go.RowKit Go.Deep
set_option linter.unusedVariables false
set_option linter.unusedSimpArgs false
set_option maxRecDepth 10000
set_option maxHeartbeats 2000000 in
theorem catchE_panic (R Q : Nat) (hRQ : R ≠ Q) (x0 x1 x2 x3 x4 x5 x6 y : Value) (u : TypeId) (pv : Value) (older : List PanicEntry) (w : World) (hR : Own w [(some ⟨R, 0, none⟩, [x0, x1, x2, x3, x4, x5, x6])]) (hc : w.cell? ⟨Q, 0, none⟩ = some y) (hz : w.frozen? ⟨Q, 0, none⟩ = false) :
    CallsD Tryd.prog 51 #[.pointer (some ⟨R, 0, none⟩), .pointer (some ⟨Q, 0, none⟩)] (.panicking ({ v := .iface u pv, recovered := false } :: older)) w fun e u' w' =>
      e = .returned (.tuple #[]) ∧ u' = .panicking ({ v := .iface u pv, recovered := true } :: older) ∧ w' = (((((((w.setCell ⟨R, 0, none⟩ (.int .i64 0)).setCell ⟨R, 1, none⟩ (.int .i64 0)).setCell ⟨R, 2, none⟩ (.int .i64 0)).setCell ⟨R, 3, none⟩ (.int .i64 0)).setCell ⟨R, 4, none⟩ (.int .i64 0)).setCell ⟨R, 5, none⟩ (.int .i64 0)).setCell ⟨R, 6, none⟩ (.bool false)).setCell ⟨Q, 0, none⟩ (.bool false) := by
  have c0 := cell_at hR.mem 0 (by simp)
  have c1 := cell_at hR.mem 1 (by simp)
  have c2 := cell_at hR.mem 2 (by simp)
  have c3 := cell_at hR.mem 3 (by simp)
  have c4 := cell_at hR.mem 4 (by simp)
  have c5 := cell_at hR.mem 5 (by simp)
  have c6 := cell_at hR.mem 6 (by simp)
  simp only [Nat.zero_add, List.getElem_cons_zero, List.getElem_cons_succ] at c0 c1 c2 c3 c4 c5 c6
  have fR : ∀ i, w.frozen? ⟨R, i, none⟩ = false := hR.free R (by rw [fp_one, fpS_some (by simp)]; simp)
  refine callsD_of_wpS Tryd.func51 rfl fun c₀ cs hu => ?_
  apply wpS_seq
  apply wpS_region
  simp [wpOpsS, go_sem, recoverD, hu, Tryd.ntmps51, Exit.thenS]
  refine wpS_cond (t := true) (by simp [Act.eval, Array.replicate]) ?_
  simp only [if_true]
  apply wpS_region
  simp [wpOpsS, go_sem, c0, c1, c2, c3, c4, c5, c6, fR, hc, hz, hRQ, Ne.symm hRQ, bodyPostS, results, Tryd.results51]
theorem catchE_idle (p q : Addr) (w : World) :
    CallsD Tryd.prog 51 #[.pointer (some p), .pointer (some q)] .returning w fun e u' w' => e = .returned (.tuple #[]) ∧ u' = .returning ∧ w' = w := by
  refine callsD_of_wpS Tryd.func51 rfl fun c₀ cs hu => ?_
  apply wpS_seq
  apply wpS_region
  simp [wpOpsS, go_sem, recoverD, hu, Tryd.ntmps51, Exit.thenS]
  refine wpS_cond (t := false) (by simp [Act.eval, Array.replicate]) ?_
  simp only [Bool.false_eq_true, if_false]
  refine wpS_of_wp (wp_skip ?_)
  cases c₀
  simp_all [bodyPostS, results, Tryd.results51]
end Go.Proofs.YtmjgddgpoecpmaaDoor
