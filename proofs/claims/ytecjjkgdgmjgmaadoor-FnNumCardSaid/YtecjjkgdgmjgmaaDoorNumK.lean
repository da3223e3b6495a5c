/- Contracts of NumText, of the program (strconv.Itoa by the library's contract) and of the model. -/
import Derived.Test.YtecjjkgdgmjgmaaDoorKeep
import Derived.Test.YtecjjkgdgmjgmaaDoorShelfB
import Derived.Lib.ItoaLen
import Derived.Lib.ItoaMem
import Derived.Lib.LaidTab
import Derived.WalkLawsBesides
import Derived.Laws.IdiomStrings
import Derived.Deep.RegionWith
namespace Go.Proofs.YtecjjkgdgmjgmaaDoor
open Go.RowKit
set_option linter.unusedVariables false
theorem dec_len (u : Nat) (h : u ≤ 1125899906842624) : (Lib.decDigits u).length ≤ 21 := by
  have := Lib.itoa_length_le (u : Int) (by omega) (by omega)
  rwa [Lib.itoa_nonneg] at this
theorem ret_cat {D X : List UInt8} {c : UInt8} (h : X = D ++ [c]) : Ending.returned (.string (⟨D.toArray⟩ ++ ⟨#[c]⟩)) = .returned (.string ⟨X.toArray⟩) := by
  rw [h, ByteArray.mk_append_mk]
theorem ret_str {l l' : List UInt8} (h : l = l') : Ending.returned (.string ⟨l.toArray⟩) = .returned (.string ⟨l'.toArray⟩) := by rw [h]
/-- A text made of one byte. -/
theorem one_byte (w : World) (b : Nat) (n : Int) (h0 : 0 ≤ n) (h1 : n ≤ 255) (hc : w.cell? ⟨b, 0, none⟩ = some (.int .u8 n)) : (convert 22 9 (.slice (some ⟨b, 0, none⟩) 1 1)).run Tryd.prog w = .ok (.string ⟨#[UInt8.ofNat n.toNat]⟩) w := by
  have h := run_convert_bytes_back (P := Tryd.prog) w 22 9 5 ⟨b, 0, none⟩ 1 [UInt8.ofNat n.toNat] Tryd.underlying22 Tryd.underlying5 Tryd.underlying9 (by
    intro j hj
    have : j = 0 := by simpa using hj
    subst this
    have e2 : ((UInt8.ofNat n.toNat).toNat : Int) = n := by
      rw [UInt8.toNat_ofNat', Nat.mod_eq_of_lt (by omega)]; omega
    simp only [List.getElem_cons_zero, e2]
    exact hc)
  exact h
/-- What NumText answers. -/
def numT (n : Int) : List UInt8 := if n < -1125899906842624 ∨ 1125899906842624 < n then [] else Lib.itoa n
theorem numT_in {n : Int} (h : -1125899906842624 ≤ n) (h' : n ≤ 1125899906842624) : numT n = Lib.itoa n := by unfold numT; rw [if_neg (by omega)]
theorem numT_out {n : Int} (h : n < -1125899906842624 ∨ 1125899906842624 < n) : numT n = [] := by unfold numT; rw [if_pos h]
theorem numT_len (n : Int) : (numT n).length ≤ 21 := by
  unfold numT
  split
  · simp
  · exact Lib.itoa_length_le n (by omega) (by omega)
theorem ret_minus {D X : List UInt8} (h : X = 45 :: D) : Ending.returned (.string (⟨#[45]⟩ ++ ⟨D.toArray⟩)) = .returned (.string ⟨X.toArray⟩) := by
  have e : (⟨#[45]⟩ : ByteArray) = ⟨[(45 : UInt8)].toArray⟩ := rfl
  rw [h, e, ByteArray.mk_append_mk]; rfl

theorem keeps_grow (w : World) (k : Nat) (os : Array Obj) : Keeps w (Sort.grow (w.drewN k) os) :=
  ⟨rfl, rfl, rfl, by simp [Sort.grow, World.drewN], fun i hi => by
    show (w.heap ++ os)[i]? = w.heap[i]?
    rw [Array.getElem?_append_left hi]⟩

theorem gPow : Tryd.prog.globalNamed "internal/strconv.uint64pow10" = some 2 := by kernel_rfl
theorem tPow : (Tryd.prog.globals[2]?).map (·.type) = some 81 := by kernel_rfl
theorem cells56 : Tryd.prog.cellsOf 69 = 1 := by kernel_rfl
theorem cells81 : Tryd.prog.cellsOf 81 = 20 := by kernel_rfl
def Tab (w : World) : Prop := Lib.TabIs Tryd.prog w "internal/strconv.uint64pow10" .u64 Lib.pow10Tab
theorem Tab.kept {w w' : World} (h : Tab w) (hk : Keeps w w') : Tab w' := var_kept hk h

theorem num_impl (n : Int) (w : World) (ht : Tab w) : Calls Tryd.prog 12 #[.int .i64 n] w fun e w' => e = .returned (.string ⟨(numT n).toArray⟩) ∧ Keeps w w' := by
  by_cases h1 : n < -1125899906842624
  · have H : Hid (numT n = []) := numT_out (Or.inl h1)
    go_enter Tryd.func12, Tryd.ntmps12
    go_wp2_with fail
    go_ret
    exact ⟨ret_str H.out.symm, Keeps.refl _⟩
  · by_cases h2 : 1125899906842624 < n
    · have H : Hid (numT n = []) := numT_out (Or.inr h2)
      go_enter Tryd.func12, Tryd.ntmps12
      go_wp2_with fail
      go_ret
      exact ⟨ret_str H.out.symm, Keeps.refl _⟩
    · have H : Hid (numT n = Lib.itoa n) := numT_in (by omega) (by omega)
      have HI := hide (Tryd.strconv_Itoa n (by omega) (by omega) w ht)
      clear ht
      go_enter Tryd.func12, Tryd.ntmps12
      go_wp2_with (go_at_call 28; refine (unhide HI).mono ?_; rintro e w' ⟨rfl, k, os, rfl⟩)
      go_ret
      exact ⟨ret_str H.out.symm, keeps_grow _ _ _⟩
end Go.Proofs.YtecjjkgdgmjgmaaDoor
