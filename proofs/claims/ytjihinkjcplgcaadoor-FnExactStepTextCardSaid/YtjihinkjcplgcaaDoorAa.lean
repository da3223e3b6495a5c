/- Whether all numbers of a list are amounts. -/
import Derived.Test.YtjihinkjcplgcaaDoorInt0
namespace Go.Proofs.YtjihinkjcplgcaaDoor
open Go.RowKit Go.Deep
set_option linter.unusedVariables false
set_option linter.unusedSimpArgs false
set_option maxRecDepth 10000
theorem amt_implK (n : Int) (w : World) : Calls Tryd.prog 40 #[.int .i64 n] w fun e w' => e = .returned (.bool (amtB n)) ∧ w' = w := by
  by_cases h1 : 0 ≤ n
  · by_cases h2 : n ≤ 1125899906842624
    · go_enter Tryd.func40, Tryd.ntmps40
      go_wp2
      go_ret
      exact ⟨ret_b (amtB_yes h1 h2).symm, rfl⟩
    · go_enter Tryd.func40, Tryd.ntmps40
      go_wp2
      go_ret
      exact ⟨ret_b (amtB_no (by omega)).symm, rfl⟩
  · go_enter Tryd.func40, Tryd.ntmps40
    go_wp2
    go_ret
    exact ⟨ret_b (amtB_no (by omega)).symm, rfl⟩
theorem notamt_k (x : Int) (w : World) : Calls Tryd.prog 39 #[.int .i64 x] w fun e w' => e = .returned (.bool (!amtB x)) ∧ w' = w := by
  have HQ := hide (amt_implK x)
  go_enter Tryd.func39, Tryd.ntmps39
  go_wp2_with fail
  refine (unhide HQ _).mono ?_
  rintro e w1 ⟨rfl, hw⟩
  obtain rfl := Eq.symm hw
  clear hw
  go_wp2_with fail
  go_ret
  exact ⟨rfl, rfl⟩
def allA (L : List Int) : Bool := L.all amtB
set_option maxHeartbeats 2000000 in
theorem indexA_k (a : Option Addr) (cap : Nat) (L : List Int) (w : World) (h : Cells w a (its L)) (hn : L.length ≤ 1048576) :
    Calls Tryd.prog 45 #[.slice a L.length cap, .func (Fn.func 39) #[] #[]] w fun e w' => w' = w ∧ ((∃ v : Nat, allA L = false ∧ e = .returned (.int .i64 (v : Int))) ∨ (allA L = true ∧ e = .returned (.int .i64 (-1)))) := by
  have HC := hide h
  clear h
  go_enter Tryd.func45, Tryd.ntmps45
  go_wp2_with fail
  go_loop [8] (fun y => ∃ k : Nat, k ≤ L.length ∧ y = .int .i64 (k : Int) ∧ Hid ((L.take k).all amtB = true)) (fun y => L.length - (intOf y).toNat)
  case atStart => exact ⟨0, by omega, rfl, by show _ = _; simp⟩
  case round =>
    obtain ⟨k, hk, rfl, HZ⟩ := hrel
    by_cases hlt : k < L.length
    · obtain ⟨b, off, ea, c0⟩ := its_at HC.out k hlt
      subst ea
      have HE := hide (List.take_append_getElem hlt)
      generalize L[k] = x at *
      have HQ := hide (fun w' => notamt_k x w')
      cases hx : amtB x
      · rw [hx] at HQ
        have HF : Hid (allA L = false) := by
          show _ = _
          refine List.all_eq_false.2 ⟨x, ?_, by simp [hx]⟩
          have := HE.out
          exact List.mem_of_mem_take (i := k + 1) (by rw [← this]; simp)
        clear hx
        go_wp2_with fail
        refine (unhide HQ _).mono ?_
        rintro e w1 ⟨rfl, hw⟩
        obtain rfl := Eq.symm hw
        clear hw
        go_wp2_with fail
        go_ret
        exact ⟨rfl, Or.inl ⟨k, HF.out, rfl⟩⟩
      · rw [hx] at HQ
        have HF : Hid ((L.take (k + 1)).all amtB = true) := by
          show _ = _
          rw [← HE.out, List.all_append, HZ.out]
          simp [hx]
        clear hx HE
        go_wp2_with fail
        refine (unhide HQ _).mono ?_
        rintro e w1 ⟨rfl, hw⟩
        obtain rfl := Eq.symm hw
        clear hw
        go_wp2_with fail
        go_round
        case rel => exact ⟨k + 1, by omega, by go_num, HF⟩
        case measure => simp [intOf]; omega
    · have e : k = L.length := by omega
      subst e
      go_wp2_with fail
      go_ret
      exact ⟨rfl, Or.inr ⟨by have h3 := HZ.out; rw [List.take_length] at h3; exact h3, rfl⟩⟩
theorem containsA_k (a : Option Addr) (cap : Nat) (L : List Int) (w : World) (h : Cells w a (its L)) (hn : L.length ≤ 1048576) :
    Calls Tryd.prog 38 #[.slice a L.length cap, .func (Fn.func 39) #[] #[]] w fun e w' => e = .returned (.bool (!allA L)) ∧ w' = w := by
  have HQ := hide (indexA_k a cap L w h hn)
  clear h
  go_enter Tryd.func38, Tryd.ntmps38
  go_wp2_with fail
  refine (unhide HQ).mono ?_
  rintro e w1 ⟨hw, ⟨v, hv, rfl⟩ | ⟨hv, rfl⟩⟩
  · obtain rfl := Eq.symm hw
    have HV := hide hv
    clear hw hv HQ
    have hd : decide ((0 : Int) ≤ (v : Int)) = true := by simp
    go_wp2_with fail
    go_ret
    exact ⟨ret_b (by rw [HV.out]; simp), rfl⟩
  · obtain rfl := Eq.symm hw
    have HV := hide hv
    clear hw hv HQ
    go_wp2_with fail
    go_ret
    exact ⟨ret_b (by rw [HV.out]; rfl), rfl⟩
theorem allamts_k (a : Option Addr) (cap : Nat) (L : List Int) (w : World) (h : Cells w a (its L)) (hn : L.length ≤ 1048576) :
    Calls Tryd.prog 31 #[.slice a L.length cap] w fun e w' => e = .returned (.bool (allA L)) ∧ w' = w := by
  have HQ := hide (containsA_k a cap L w h hn)
  clear h
  go_enter Tryd.func31, Tryd.ntmps31
  go_wp2_with fail
  refine (unhide HQ).mono ?_
  rintro e w1 ⟨rfl, hw⟩
  obtain rfl := Eq.symm hw
  clear hw HQ
  go_wp2_with fail
  go_ret
  exact ⟨ret_b (by simp), rfl⟩
end Go.Proofs.YtjihinkjcplgcaaDoor
