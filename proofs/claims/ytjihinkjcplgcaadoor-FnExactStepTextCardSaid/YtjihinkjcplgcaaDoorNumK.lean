/- Contracts of NumText, of the program (strconv.Itoa by the library's contract) and of the model. -/
import Derived.Test.YtjihinkjcplgcaaDoorKeep
import Derived.Test.YtjihinkjcplgcaaDoorShelfB
import Derived.Lib.ItoaLen
import Derived.Lib.ItoaMem
import Derived.Lib.LaidTab
import Derived.WalkLawsBesides
import Derived.Laws.IdiomStrings
import Derived.Deep.RegionWith
namespace Go.Proofs.YtjihinkjcplgcaaDoor
open Go.RowKit
set_option linter.unusedVariables false
theorem dec_len (u : Nat) (h : u ≤ 1125899906842624) : (Lib.decDigits u).length ≤ 21 := by
  have := Lib.itoa_length_le (u : Int) (by omega) (by omega)
  rwa [Lib.itoa_nonneg] at this
theorem ret_cat {D X : List UInt8} {c : UInt8} (h : X = D ++ [c]) : Ending.returned (.string (⟨D.toArray⟩ ++ ⟨#[c]⟩)) = .returned (.string ⟨X.toArray⟩) := by
  rw [h, ByteArray.mk_append_mk]
theorem ret_str {l l' : List UInt8} (h : l = l') : Ending.returned (.string ⟨l.toArray⟩) = .returned (.string ⟨l'.toArray⟩) := by rw [h]
/-- A text made of one byte. -/
theorem one_byte (w : World) (b : Nat) (n : Int) (h0 : 0 ≤ n) (h1 : n ≤ 255) (hc : w.cell? ⟨b, 0, none⟩ = some (.int .u8 n)) : (convert 57 9 (.slice (some ⟨b, 0, none⟩) 1 1)).run Tryd.prog w = .ok (.string ⟨#[UInt8.ofNat n.toNat]⟩) w := by
  have h := run_convert_bytes_back (P := Tryd.prog) w 57 9 5 ⟨b, 0, none⟩ 1 [UInt8.ofNat n.toNat] Tryd.underlying57 Tryd.underlying5 Tryd.underlying9 (by
    intro j hj
    have : j = 0 := by simpa using hj
    subst this
    have e2 : ((UInt8.ofNat n.toNat).toNat : Int) = n := by
      rw [UInt8.toNat_ofNat', Nat.mod_eq_of_lt (by omega)]; omega
    simp only [List.getElem_cons_zero, e2]
    exact hc)
  exact h
set_option maxRecDepth 100000 in
theorem num1 (n : Int) (w : World) (h0 : 0 ≤ n) (h1 : n < 10) :
    Calls Tryd.prog 14 #[.int .i64 n] w fun e w' => e = .returned (.string ⟨(Lib.decDigits n.toNat).toArray⟩) ∧ Keeps w w' := by
  have hb := fun w b => one_byte w b (48 + n) (by omega) (by omega)
  have HD : Hid (Lib.decDigits n.toNat = [UInt8.ofNat (48 + n).toNat]) := by
    show _ = _
    rw [Lib.decDigits_one (by omega)]; congr 2; omega
  go_enter Tryd.func14, Tryd.ntmps14
  go_wp2_with fail
  go_ret
  exact ⟨ret_str HD.out.symm, Keeps.alloc (Keeps.refl _) _⟩

set_option maxRecDepth 100000 in
theorem num2 (n : Int) (w : World) (h0 : 10 ≤ n) (h1 : n ≤ 1125899906842624) (ih : Hid (∀ w1, Calls Tryd.prog 14 #[.int .i64 (n / 10)] w1 fun e w' => e = .returned (.string ⟨(Lib.decDigits (n / 10).toNat).toArray⟩) ∧ Keeps w1 w')) :
    Calls Tryd.prog 14 #[.int .i64 n] w fun e w' => e = .returned (.string ⟨(Lib.decDigits n.toNat).toArray⟩) ∧ Keeps w w' := by
  have hb := fun w b => one_byte w b (48 + n % 10) (by omega) (by omega)
  have HD : Hid (Lib.decDigits n.toNat = Lib.decDigits (n / 10).toNat ++ [UInt8.ofNat (48 + n % 10).toNat]) := by
    show _ = _
    rw [Lib.decDigits, dif_neg (by omega)]; congr 2 <;> (try congr 1) <;> omega
  have hDl : (Lib.decDigits (n / 10).toNat).length ≤ 21 := dec_len _ (by omega)
  generalize (Lib.decDigits (n / 10).toNat) = D at *
  have e1 : IntKind.i64.wrap (n.tdiv 10) = n / 10 := by rw [Int.tdiv_eq_ediv_of_nonneg (by omega)]; simp [IntKind.wrap, IntKind.bits, IntKind.signed]; omega
  have e2 : IntKind.u8.wrap (IntKind.i64.wrap (48 + n.tmod 10)) = 48 + n % 10 := by rw [Int.tmod_eq_emod_of_nonneg (by omega)]; simp [IntKind.wrap, IntKind.bits, IntKind.signed]; omega
  go_enter Tryd.func14, Tryd.ntmps14
  go_wp2_with fail
  go_region_with (go_at_call 14; refine (ih.out _).mono ?_; rintro e w' ⟨rfl, hk⟩; have hc2 := hk.old)
  all_goals
    go_wp2_with fail
    go_ret
    refine ⟨ret_cat HD.out, ?_⟩
    first
      | exact Keeps.alloc (Keeps.trans (Keeps.drew (Keeps.refl _)) hk) _
      | exact Keeps.trans (Keeps.drew (Keeps.alloc (Keeps.refl _) _)) hk
      | exact Keeps.trans (Keeps.alloc (Keeps.drew (Keeps.refl _)) _) hk

theorem num_any : ∀ (u : Nat) (w : World), u ≤ 1125899906842624 → Calls Tryd.prog 14 #[.int .i64 (u : Int)] w fun e w' => e = .returned (.string ⟨(Lib.decDigits u).toArray⟩) ∧ Keeps w w' := by
  intro u
  induction u using Nat.strongRecOn with
  | ind u ih =>
    intro w h
    by_cases h10 : u < 10
    · have := num1 (u : Int) w (by omega) (by omega)
      rwa [Int.toNat_natCast] at this
    · have hi := ih (u / 10) (by omega)
      have := num2 (u : Int) w (by omega) (by omega) (by
        intro w1
        have hw := hi w1 (by omega)
        have e : (((u / 10 : Nat)) : Int) = (u : Int) / 10 := by omega
        rw [e] at hw
        have e2 : ((u : Int) / 10).toNat = u / 10 := by omega
        rw [e2]
        exact hw)
      rwa [Int.toNat_natCast] at this

/-- What NumText answers. -/
def numT (n : Int) : List UInt8 := if n < -1125899906842624 ∨ 1125899906842624 < n then [] else Lib.itoa n
theorem numT_in {n : Int} (h : -1125899906842624 ≤ n) (h' : n ≤ 1125899906842624) : numT n = Lib.itoa n := by unfold numT; rw [if_neg (by omega)]
theorem numT_out {n : Int} (h : n < -1125899906842624 ∨ 1125899906842624 < n) : numT n = [] := by unfold numT; rw [if_pos h]
theorem numT_len (n : Int) : (numT n).length ≤ 21 := by
  unfold numT
  split
  · simp
  · exact Lib.itoa_length_le n (by omega) (by omega)
theorem ret_minus {D X : List UInt8} (h : X = 45 :: D) : Ending.returned (.string (⟨#[45]⟩ ++ ⟨D.toArray⟩)) = .returned (.string ⟨X.toArray⟩) := by
  have e : (⟨#[45]⟩ : ByteArray) = ⟨[(45 : UInt8)].toArray⟩ := rfl
  rw [h, e, ByteArray.mk_append_mk]; rfl

set_option maxRecDepth 100000 in
theorem num_spec (n : Int) (w : World) : Calls Tryd.prog 14 #[.int .i64 n] w fun e w' => e = .returned (.string ⟨(numT n).toArray⟩) ∧ Keeps w w' := by
  by_cases h1 : n < -1125899906842624
  · have H : Hid (numT n = []) := numT_out (Or.inl h1)
    go_enter Tryd.func14, Tryd.ntmps14
    go_wp2_with fail
    go_ret
    exact ⟨ret_str H.out.symm, Keeps.refl _⟩
  · by_cases h2 : 1125899906842624 < n
    · have H : Hid (numT n = []) := numT_out (Or.inr h2)
      go_enter Tryd.func14, Tryd.ntmps14
      go_wp2_with fail
      go_ret
      exact ⟨ret_str H.out.symm, Keeps.refl _⟩
    · by_cases h3 : n < 0
      · obtain ⟨u, hu⟩ := Int.eq_ofNat_of_zero_le (show 0 ≤ -n by omega)
        have hD := dec_len u (by omega)
        have H : Hid (numT n = 45 :: Lib.decDigits u) := by
          show _ = _
          rw [numT_in (by omega) (by omega), show n = -(u : Int) by omega, Lib.itoa_neg u (by omega)]
        have HN : Hid (∀ w, Calls Tryd.prog 14 #[.int .i64 (-n)] w fun e w' => e = .returned (.string ⟨(Lib.decDigits u).toArray⟩) ∧ Keeps w w') := by
          intro w1; rw [hu]; exact num_any u w1 (by omega)
        clear hu
        generalize Lib.decDigits u = D at *
        go_enter Tryd.func14, Tryd.ntmps14
        go_wp2_with (go_at_call 14; refine (HN.out _).mono ?_; rintro e w' ⟨rfl, hk⟩)
        go_ret
        exact ⟨ret_minus H.out, hk⟩
      · obtain ⟨u, rfl⟩ := Int.eq_ofNat_of_zero_le (show 0 ≤ n by omega)
        have H : numT (u : Int) = Lib.decDigits u := by rw [numT_in (by omega) (by omega), Lib.itoa_nonneg]
        rw [H]
        exact num_any u w (by omega)

theorem keeps_grow (w : World) (k : Nat) (os : Array Obj) : Keeps w (Sort.grow (w.drewN k) os) :=
  ⟨rfl, rfl, rfl, by simp [Sort.grow, World.drewN], fun i hi => by
    show (w.heap ++ os)[i]? = w.heap[i]?
    rw [Array.getElem?_append_left hi]⟩

theorem gPow : Tryd.prog.globalNamed "internal/strconv.uint64pow10" = some 0 := by kernel_rfl
theorem tPow : (Tryd.prog.globals[0]?).map (·.type) = some 112 := by kernel_rfl
theorem cells56 : Tryd.prog.cellsOf 105 = 1 := by kernel_rfl
theorem cells81 : Tryd.prog.cellsOf 112 = 20 := by kernel_rfl
def Tab (w : World) : Prop := Lib.TabIs Tryd.prog w "internal/strconv.uint64pow10" .u64 Lib.pow10Tab
theorem Tab.kept {w w' : World} (h : Tab w) (hk : Keeps w w') : Tab w' := var_kept hk h

theorem num_impl (n : Int) (w : World) (ht : Tab w) : Calls Tryd.prog 35 #[.int .i64 n] w fun e w' => e = .returned (.string ⟨(numT n).toArray⟩) ∧ Keeps w w' := by
  by_cases h1 : n < -1125899906842624
  · have H : Hid (numT n = []) := numT_out (Or.inl h1)
    go_enter Tryd.func35, Tryd.ntmps35
    go_wp2_with fail
    go_ret
    exact ⟨ret_str H.out.symm, Keeps.refl _⟩
  · by_cases h2 : 1125899906842624 < n
    · have H : Hid (numT n = []) := numT_out (Or.inr h2)
      go_enter Tryd.func35, Tryd.ntmps35
      go_wp2_with fail
      go_ret
      exact ⟨ret_str H.out.symm, Keeps.refl _⟩
    · have H : Hid (numT n = Lib.itoa n) := numT_in (by omega) (by omega)
      have HI := hide (Tryd.strconv_Itoa n (by omega) (by omega) w ht)
      clear ht
      go_enter Tryd.func35, Tryd.ntmps35
      go_wp2_with (go_at_call 44; refine (unhide HI).mono ?_; rintro e w' ⟨rfl, k, os, rfl⟩)
      go_ret
      exact ⟨ret_str H.out.symm, keeps_grow _ _ _⟩
end Go.Proofs.YtjihinkjcplgcaaDoor
