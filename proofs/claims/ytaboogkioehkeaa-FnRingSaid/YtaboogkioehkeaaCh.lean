/- The cheapest flow, told of data alone. -/
import Derived.Test.YtaboogkioehkeaaPt
import Derived.Test.YtaboogkioehkeaaSc
namespace Go.Proofs.Ytaboogkioehkeaa
open Go.RowKit Go.Deep
set_option linter.unusedVariables false
set_option linter.unusedSimpArgs false
set_option maxRecDepth 10000

/-- Rings and pushes from f on, at most m pushes. -/
noncomputable def chGo (N : Int) (E : List Edg) : Nat → List Int → Option (List Int)
  | 0, f => if ringOk N E f = true then none else some f
  | m + 1, f => if ringOk N E f = true then chGo N E m (pushV N E f (ringV N E f)) else some f
theorem chGo_no {N : Int} {E : List Edg} {f : List Int} (h : ringOk N E f = false) (m : Nat) : chGo N E m f = some f := by cases m <;> simp [chGo, h]
theorem chGo_end {N : Int} {E : List Edg} {f : List Int} (h : ringOk N E f = true) : chGo N E 0 f = none := by simp [chGo, h]
theorem chGo_on {N : Int} {E : List Edg} {f : List Int} (h : ringOk N E f = true) (m : Nat) : chGo N E (m + 1) f = chGo N E m (pushV N E f (ringV N E f)) := by simp [chGo, h]
noncomputable def chRes (N : Int) (E : List Edg) : Option (List Int) := if graphB N E = true then chGo N E 400 (List.replicate E.length 0) else none
noncomputable def chOk (N : Int) (E : List Edg) : Bool := (chRes N E).isSome
noncomputable def chV (N : Int) (E : List Edg) : List Int := (chRes N E).getD []
theorem ch_no {N : Int} {E : List Edg} (h : chRes N E = none) : chOk N E = false ∧ chV N E = [] := by simp [chOk, chV, h]
theorem ch_yes {N : Int} {E : List Edg} {f : List Int} (h : chRes N E = some f) : chOk N E = true ∧ chV N E = f := by simp [chOk, chV, h]
theorem chGo_len {N : Int} {E : List Edg} : ∀ m f g, f.length ≤ 60 → chGo N E m f = some g → g.length ≤ 60
  | 0, f, g, hf, h => by
    unfold chGo at h
    split at h
    · cases h
    · cases h; exact hf
  | m + 1, f, g, hf, h => by
    unfold chGo at h
    split at h
    · exact chGo_len m _ g (pushV_60 ..) h
    · cases h; exact hf
theorem chV_len (N : Int) (E : List Edg) : (chV N E).length ≤ 1048576 := by
  cases h : chRes N E with
  | none => simp [(ch_no h).2]
  | some f =>
    rw [(ch_yes h).2]
    unfold chRes at h
    split at h
    · next hg =>
      have := chGo_len 400 _ f (by rw [List.length_replicate]; exact (graphB_true hg).2.2.1) h
      omega
    · cases h
theorem born_made (w : World) (m : Nat) : Born w (w.alloc (.cells (madeCells #[.int .i64 0] m) 3)) [(some ⟨w.heap.size, 0, none⟩, its (List.replicate m 0))] :=
  born_row (World.rowIs_made w (.int .i64 0) m 3) (its (List.replicate m 0)) (by rw [its_length, List.length_replicate]; exact Nat.le_refl _) (fun j hj => by simp [its]) (Nat.le_refl _)
end Go.Proofs.Ytaboogkioehkeaa
