/- Marks in lists of events. -/
import Derived.Test.YteoloapjhlpnjaaDoorEvs
namespace Go.Proofs.YteoloapjhlpnjaaDoor
open Go.RowKit Go.Deep
set_option linter.unusedVariables false
set_option linter.unusedSimpArgs false
set_option maxRecDepth 10000

/-- One with marks from n on. -/
def markEv (n : Nat) : Ev := ⟨(n : Int), (n : Int) + 1, (n : Int) + 1 + 1, (n : Int) + 1 + 1 + 1, (n : Int) + 1 + 1 + 1 + 1, (n : Int) + 1 + 1 + 1 + 1 + 1, decide ((n + 1 + 1 + 1 + 1 + 1 + 1) % 3 = 0)⟩
def marksEv (n k : Nat) : List Ev := (List.range k).map fun i => markEv (n + 7 * i)
theorem marksEv_succ (n k : Nat) : marksEv n (k + 1) = marksEv n k ++ [markEv (n + 7 * k)] := by simp [marksEv, List.range_succ]
theorem marksEv_len (n k : Nat) : (marksEv n k).length = k := by simp [marksEv]
theorem ecells_set0 (A B : List Ev) (x : Ev) (n : Int) {k : Nat} (hA : A.length = k) : (ecells (A ++ x :: B)).set (k * 7) (.int .i64 n) = ecells (A ++ ⟨n, x.y, x.c, x.t, x.m, x.f, x.b⟩ :: B) := by
  subst hA
  have hl := ecells_len A
  rw [ecells_append, ecells_append, List.set_append_right _ _ (by omega), hl]
  simp [ecells, Ev.cells]
theorem ecells_set1 (A B : List Ev) (x : Ev) (n : Int) {k : Nat} (hA : A.length = k) : (ecells (A ++ x :: B)).set (k * 7 + 1) (.int .i64 n) = ecells (A ++ ⟨x.k, n, x.c, x.t, x.m, x.f, x.b⟩ :: B) := by
  subst hA
  have hl := ecells_len A
  rw [ecells_append, ecells_append, List.set_append_right _ _ (by omega), hl, show A.length * 7 + 1 - A.length * 7 = 1 by omega]
  simp [ecells, Ev.cells]
theorem ecells_set2 (A B : List Ev) (x : Ev) (n : Int) {k : Nat} (hA : A.length = k) : (ecells (A ++ x :: B)).set (k * 7 + 2) (.int .i64 n) = ecells (A ++ ⟨x.k, x.y, n, x.t, x.m, x.f, x.b⟩ :: B) := by
  subst hA
  have hl := ecells_len A
  rw [ecells_append, ecells_append, List.set_append_right _ _ (by omega), hl, show A.length * 7 + 2 - A.length * 7 = 2 by omega]
  simp [ecells, Ev.cells]
theorem ecells_set3 (A B : List Ev) (x : Ev) (n : Int) {k : Nat} (hA : A.length = k) : (ecells (A ++ x :: B)).set (k * 7 + 3) (.int .i64 n) = ecells (A ++ ⟨x.k, x.y, x.c, n, x.m, x.f, x.b⟩ :: B) := by
  subst hA
  have hl := ecells_len A
  rw [ecells_append, ecells_append, List.set_append_right _ _ (by omega), hl, show A.length * 7 + 3 - A.length * 7 = 3 by omega]
  simp [ecells, Ev.cells]
theorem ecells_set4 (A B : List Ev) (x : Ev) (n : Int) {k : Nat} (hA : A.length = k) : (ecells (A ++ x :: B)).set (k * 7 + 4) (.int .i64 n) = ecells (A ++ ⟨x.k, x.y, x.c, x.t, n, x.f, x.b⟩ :: B) := by
  subst hA
  have hl := ecells_len A
  rw [ecells_append, ecells_append, List.set_append_right _ _ (by omega), hl, show A.length * 7 + 4 - A.length * 7 = 4 by omega]
  simp [ecells, Ev.cells]
theorem ecells_set5 (A B : List Ev) (x : Ev) (n : Int) {k : Nat} (hA : A.length = k) : (ecells (A ++ x :: B)).set (k * 7 + 5) (.int .i64 n) = ecells (A ++ ⟨x.k, x.y, x.c, x.t, x.m, n, x.b⟩ :: B) := by
  subst hA
  have hl := ecells_len A
  rw [ecells_append, ecells_append, List.set_append_right _ _ (by omega), hl, show A.length * 7 + 5 - A.length * 7 = 5 by omega]
  simp [ecells, Ev.cells]
theorem ecells_set6 (A B : List Ev) (x : Ev) (n : Bool) {k : Nat} (hA : A.length = k) : (ecells (A ++ x :: B)).set (k * 7 + 6) (.bool n) = ecells (A ++ ⟨x.k, x.y, x.c, x.t, x.m, x.f, n⟩ :: B) := by
  subst hA
  have hl := ecells_len A
  rw [ecells_append, ecells_append, List.set_append_right _ _ (by omega), hl, show A.length * 7 + 6 - A.length * 7 = 6 by omega]
  simp [ecells, Ev.cells]
end Go.Proofs.YteoloapjhlpnjaaDoor
