/- A reader of bytes: number. -/
import Derived.Test.YtkdnddckogbgaaaDoorGT
namespace Go.Proofs.YtkdnddckogbgaaaDoor
open Go.RowKit Go.Deep
set_option linter.unusedVariables false
set_option maxRecDepth 10000
theorem or_byte (n : Nat) (x : UInt8) (hn : n < 281474976710656) : bits .or .i64 ((n : Int) * 256) (x.toNat : Int) = ((n * 256 + x.toNat : Nat) : Int) := by
  have hx := x.toNat_lt
  have e : bits .or .i64 ((n : Int) * 256) (x.toNat : Int) = IntKind.i64.wrap ((BitVec.ofInt 64 ((n : Int) * 256) ||| BitVec.ofInt 64 (x.toNat : Int)).toNat : Int) := rfl
  have h1 : (BitVec.ofInt 64 ((n : Int) * 256)).toNat = n * 256 := by
    rw [show (n : Int) * 256 = ((n * 256 : Nat) : Int) by simp, BitVec.ofInt_natCast, BitVec.toNat_ofNat]; exact Nat.mod_eq_of_lt (by omega)
  have h2 : (BitVec.ofInt 64 (x.toNat : Int)).toNat = x.toNat := by
    rw [BitVec.ofInt_natCast, BitVec.toNat_ofNat]; exact Nat.mod_eq_of_lt (by omega)
  have h3 : n * 256 ||| x.toNat = n * 256 + x.toNat := by
    have := Nat.shiftLeft_add_eq_or_of_lt (i := 8) (b := x.toNat) (by simpa using hx) n
    rw [Nat.shiftLeft_eq] at this
    exact this.symm
  rw [e, BitVec.toNat_or, h1, h2, h3, IntKind.wrap_i64]
  omega
set_option maxHeartbeats 8000000 in
theorem number_yes (B b off : Nat) (L : List UInt8) (cap p s : Nat) (w : World) (hr : Rd w B (some ⟨b, off, none⟩) L cap p) (hB : b ≠ B) (hc : Cells w (some ⟨b, off, none⟩) (bys L)) (hl : L.length ≤ 16777216) (hcap : L.length ≤ cap) (hcm : cap ≤ 9223372036854775807) (hs1 : 1 ≤ s) (hs2 : s ≤ 7) (h : p + s ≤ L.length) :
    Calls Tryd.prog 70 #[.pointer (some ⟨B, 0, none⟩), .int .i64 (s : Int)] w fun e w' => e = .returned (.int .i64 (numL ((L.drop p).take s) : Nat)) ∧ ∃ n, w' = (w.drewN n).setCell ⟨B, 1, none⟩ (.int .i64 ((p + s : Nat) : Int)) := by
  have HS := hide (sizeok_k (s : Int) w)
  rw [show (decide (1 ≤ (s : Int)) && decide ((s : Int) ≤ 7)) = true by simp; omega] at HS
  have HT := hide (take_yes B b off L cap p s w hr hl hcap hcm (by omega) h (by omega))
  have HC : Hid (∀ k, k < s → ∀ n, ((w.drewN n).setCell ⟨B, 1, none⟩ (.int .i64 ((p + s : Nat) : Int))).cell? ⟨b, off + p + k, none⟩ = some (.int .u8 ((L.getD (p + k) 0).toNat : Int))) := by
    intro k hk n
    rw [World.cell?_setCell_other _ _ _ _ (by simp)]
    obtain ⟨b', off', e, hcell⟩ := bys_at hc (p + k) (by omega)
    have e' := Option.some.inj e
    injection e' with e1 e2
    subst e1 e2
    rw [← Nat.add_assoc] at hcell
    have : L.getD (p + k) 0 = L[p + k]'(by omega) := by rw [List.getD_eq_getElem?_getD, List.getElem?_eq_getElem (by omega)]; rfl
    rw [this]
    simpa using hcell
  clear hr hc
  go_enter Tryd.func70, Tryd.ntmps70
  go_wp2_with (first | (go_at_call 78; refine (unhide HS).mono ?_; rintro e w' ⟨rfl, hw'⟩; obtain rfl := Eq.symm hw') | (go_at_call 69; refine (insist_yes _).mono ?_; rintro e w' ⟨rfl, hw'⟩; obtain rfl := Eq.symm hw') | (go_at_call 73; refine (unhide HT).mono ?_; rintro e w1 ⟨rfl, n, hw1⟩; have HW1 := hide hw1; have HC1 : Hid (∀ k, k < s → w1.cell? ⟨b, off + p + k, none⟩ = some (.int .u8 ((L.getD (p + k) 0).toNat : Int))) := fun k hk => (by rw [hw1]; exact HC.out k hk n); clear hw1 HC))
  go_loop [5, 15] (fun x y => ∃ k : Nat, k ≤ s ∧ x = .int .i64 ((numL ((L.drop p).take k) : Nat) : Int) ∧ y = .int .i64 (k : Int)) (fun _ y => s - (intOf y).toNat)
  case atStart => exact ⟨0, by omega, by simp [numL], rfl⟩
  case round =>
    obtain ⟨k, hk, rfl, rfl⟩ := hrel
    by_cases hlt : k < s
    · have c0 := HC1.out k hlt
      have hb0 := byte_nn (L.getD (p + k) 0)
      have hb1 := byte_lt (L.getD (p + k) 0)
      have HN : Hid (numL ((L.drop p).take (k + 1)) = numL ((L.drop p).take k) * 256 + (L.getD (p + k) 0).toNat) := by
        show _ = _
        have hd : k < (L.drop p).length := by rw [List.length_drop]; omega
        rw [List.take_succ_eq_append_getElem hd, numL_snoc]
        congr 2
        rw [List.getElem_drop, List.getD_eq_getElem?_getD, List.getElem?_eq_getElem (by omega)]; rfl
      have hlt2 : numL ((L.drop p).take k) < 281474976710656 := by
        refine Nat.lt_of_lt_of_le (numL_lt _) ?_
        refine Nat.le_trans (Nat.pow_le_pow_right (by decide) (show ((L.drop p).take k).length ≤ 6 by rw [List.length_take]; omega)) (by decide)
      have hor := or_byte (numL ((L.drop p).take k)) (L.getD (p + k) 0) hlt2
      have HOr := hide hor
      clear hor
      generalize L.getD (p + k) 0 = x at *
      generalize numL ((L.drop p).take k) = m at *
      go_wp2_with fail
      go_round
      case rel => exact ⟨k + 1, by omega, by rw [HN.out]; exact congrArg (Value.int .i64) HOr.out, by go_num⟩
      case measure => simp [intOf]; omega
    · have e : k = s := by omega
      subst e
      go_wp2_with fail
      go_ret
      exact ⟨rfl, n, HW1.out⟩

theorem number_no1 (P : Value) (s : Int) (w : World) (u : TypeId) (pv : Value) (hv : w.cell? ⟨0, 0, none⟩ = some (.iface u pv)) (h : s < 1 ∨ 7 < s) :
    Calls Tryd.prog 70 #[P, .int .i64 s] w fun e w' => e = .panicked [{ v := .iface u pv, recovered := false }] ∧ w' = w := by
  have HS := hide (sizeok_k s w)
  rw [show (decide (1 ≤ s) && decide (s ≤ 7)) = false by simp; omega] at HS
  clear h
  go_enter Tryd.func70, Tryd.ntmps70
  go_wp2_with (first | (go_at_call 78; refine (unhide HS).mono ?_; rintro e w' ⟨rfl, hw'⟩; obtain rfl := Eq.symm hw') | (go_at_call 69; refine (insist_no _ u pv hv).mono ?_; rintro e w' ⟨rfl, hw'⟩; obtain rfl := Eq.symm hw'))
  exact ⟨rfl, rfl, rfl⟩
end Go.Proofs.YtkdnddckogbgaaaDoor
