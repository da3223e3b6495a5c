/- DiskNew, the program's and the model's. -/
import Derived.Test.YtkdnddckogbgaaaDoorDW
namespace Go.Proofs.YtkdnddckogbgaaaDoor
open Go.RowKit Go.Deep
set_option linter.unusedVariables false
set_option maxRecDepth 10000

def noneM : DkM := ⟨[], []⟩
def newB (n : Int) : Bool := decide (1 ≤ n) && decide (n ≤ 600)
def newM (n : Int) : DkM := if newB n = true then ⟨List.replicate n.toNat [], []⟩ else noneM
theorem diskres_none (w w' : World) : DiskRes w w' (dskV none 0 0 none 0 0) noneM := by
  refine ⟨.none, 0, [], .none, 0, [], rfl, rfl, ⟨by simp, by simp, by simp [tot], by simp [totW], by simp, by simp⟩, fun _ => rfl, fun _ => rfl, ⟨⟨?_, ?_, ?_⟩, ?_⟩⟩
  · intro s hs
    simp [dsk, ccells, wcells] at hs
    subst hs
    exact Cells.nil _ _
  · simp [dsk, ccells, wcells, fp, fpS]
  · intro b hb
    simp [dsk, ccells, wcells, fp, fpS] at hb
  · intro b hb
    simp [dsk, ccells, wcells, fp, fpS] at hb
theorem fp_empties (n : Nat) : fp ((List.replicate n (Bs.mk none 0 [])).map Bs.seg) = [] := by
  induction n with
  | zero => rfl
  | succ n ih => rw [List.replicate_succ, List.map_cons, fp_cons, ih]; simp [Bs.seg, bys, fpS]
theorem ccells_empties (n : Nat) : ccells (List.replicate n (Bs.mk none 0 [])) = List.replicate n (.slice none 0 0) := by
  induction n with
  | zero => rfl
  | succ n ih => rw [List.replicate_succ, List.replicate_succ, ← ih]; rfl
theorem diskres_new {w W w' : World} {n : Nat} (h1 : 1 ≤ n) (h2 : n ≤ 600) (hr : w'.rowIs W.heap.size 80 n (fun _ => .slice none 0 0)) (hW : w.heap.size ≤ W.heap.size) : DiskRes w w' (dskV (some ⟨W.heap.size, 0, none⟩) n n none 0 0) ⟨List.replicate n [], []⟩ := by
  have hcc := ccells_empties n
  have hfp : fp (dsk (some ⟨W.heap.size, 0, none⟩) (List.replicate n (Bs.mk none 0 [])) none []) = [W.heap.size] := by
    unfold dsk
    rw [fp_append, fp_cons, fp_empties, hcc, fpS_some (by intro e; have := congrArg List.length e; simp at this; omega)]
    simp [wcells, fp, fpS]
  refine ⟨some ⟨W.heap.size, 0, none⟩, n, List.replicate n (Bs.mk none 0 []), none, 0, [], by simp, ?_, ⟨by simp; omega, by simp, ?_, by simp [totW], ?_, by simp⟩, (fun e => nomatch e), fun _ => rfl, ⟨⟨?_, ?_, ?_⟩, ?_⟩⟩
  · simp [dat]
  · simp [tot]
  · intro b hb
    rw [(List.mem_replicate.1 hb).2]; exact ⟨fun _ => rfl, Nat.le_refl _⟩
  · unfold dsk
    refine mem_append.2 ⟨mem_cons.2 ⟨?_, ?_⟩, mem_cons.2 ⟨Cells.nil _ _, Mem.nil _⟩⟩
    · rw [hcc]
      refine Or.inr ⟨W.heap.size, 0, rfl, fun j hj => ?_⟩
      have hj' : j < n := by simpa using hj
      rw [Nat.zero_add, hr.cell hj']
      simp
    · intro s hs
      obtain ⟨b, hb, rfl⟩ := List.mem_map.1 hs
      rw [(List.mem_replicate.1 hb).2]
      exact Cells.nil _ _
  · rw [hfp]; simp
  · rw [hfp]; intro b hb; simp at hb; subst hb; exact hr.frozen
  · rw [hfp]; intro b hb; simp at hb; subst hb; exact hW
end Go.Proofs.YtkdnddckogbgaaaDoor
