/- The program's add: a line into a journal. -/
import Derived.Test.YtfbkhnbbcbccfaaJour2
namespace Go.Proofs.Ytfbkhnbbcbccfaa
open Go.RowKit Go.Maps
set_option linter.unusedVariables false

theorem grown_drewNs (w : World) (m : Nat) : w.grownBy (w.drewN m) none := ⟨rfl, rfl, rfl, Nat.le_refl _, fun _ _ _ => rfl⟩
theorem grown_drew (w : World) (row : Option Nat) : w.grownBy w.drew row := ⟨rfl, rfl, rfl, Nat.le_refl _, fun _ _ _ => rfl⟩
theorem Keeps.grownJ {w w' : World} (h : Keeps w w') {row : Option Nat} : w.grownBy w' row := ⟨h.os, h.tape, h.output, h.size, fun k hk _ => h.block k hk⟩
theorem look_run {w : World} {b n : Nat} {D : DataW Unit} {M : List Ln} {k c : Int} (hO : OwnsJ w b n D) (hR : Rep D M) (hx : accB k c = true) :
    (Instr.lookup 62 (.map (some b)) (accV k c) false).run Try.prog w = .ok (.int .i64 (balF k c M)) w := by
  obtain ⟨v, hrun, hat, _⟩ := World.ownsMap.lookup_int hO accKeyed Try.underlying62 Try.underlying3 (Try.zeroValue3 w) (key_ok hx)
  have := hR.at' k c hx
  rw [hat] at this
  have e : v = balF k c M := by simpa using this
  rw [hrun, e]
/-- A line has come into a journal. -/
def JAdded (b n : Nat) (M : List Ln) (x : Ln) (w w' : World) : Prop := ∃ D', OwnsJ w' b (n + 1) D' ∧ Rep D' (addG x false M) ∧ w.grownBy w' (some b)

/-- Do all sums stay in range? -/
def carB (M P : List Ln) : Bool := P.all fun x => rangeB (balF x.k x.c M + x.a)
theorem carB_bad {M P : List Ln} {k : Nat} (h : k < P.length) (hb : rangeB (balF P[k].k P[k].c M + P[k].a) = false) : carB M P = false := by
  unfold carB
  rw [List.all_eq_false]
  exact ⟨P[k], List.getElem_mem h, by simp [hb]⟩
theorem carB_good {M P : List Ln} (h : ∀ j (hj : j < P.length), rangeB (balF P[j].k P[j].c M + P[j].a) = true) : carB M P = true := by
  unfold carB
  rw [List.all_eq_true]
  intro x hx
  obtain ⟨i, hi, rfl⟩ := List.getElem_of_mem hx
  exact h i hi
theorem bal_range {M : List Ln} (hr : ∀ x ∈ M, rangeB x.a = true) (k c : Int) : -1125899906842624 ≤ balF k c M ∧ balF k c M ≤ 1125899906842624 := by
  by_cases e : balF k c M = 0
  · rw [e]; decide
  · have := hr _ (bal_mem e)
    simpa [rangeB] using this
theorem count_step {M P : List Ln} (hM : Good M) (hP : Good P) {k : Nat} (hk : k < P.length) :
    ((addAll M (P.take (k + 1))).length : Int) = (addAll M (P.take k)).length + (if balF P[k].k P[k].c M = 0 then 1 else if balF P[k].k P[k].c M + P[k].a = 0 then -1 else 0) := by
  rw [addAll_take _ _ _ hk, len_addG (hP.2 _ (List.getElem_mem hk)).2 (addAll_good (good_take hP k).2 hM), addAll_at hP hM hk]
theorem count_le {M P : List Ln} (hM : Good M) (hP : Good P) (k : Nat) : (addAll M (P.take k)).length ≤ 302 := good_len (addAll_good (good_take hP k).2 hM)

end Go.Proofs.Ytfbkhnbbcbccfaa
