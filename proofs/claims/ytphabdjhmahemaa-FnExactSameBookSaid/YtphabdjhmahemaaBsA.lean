/- The model's words on books: the place of a channel, keys, what is under way. -/
import Derived.Test.YtphabdjhmahemaaBkE
namespace Go.Proofs.Ytphabdjhmahemaa
open Go.RowKit Go.Deep
set_option linter.unusedVariables false
set_option linter.unusedSimpArgs false
set_option maxRecDepth 10000

def atI (C : List Chn) (ch : Int) : Int := match atC C ch with | some k => (k : Int) | none => -1
theorem atI_none {C : List Chn} {ch : Int} (h : atC C ch = none) : atI C ch = -1 := by unfold atI; rw [h]
theorem atI_some {C : List Chn} {ch : Int} {k : Nat} (h : atC C ch = some k) : atI C ch = (k : Int) := by unfold atI; rw [h]
theorem atI_has (C : List Chn) (ch : Int) : hasC C ch = decide (0 ≤ atI C ch) := by
  rw [hasC_at]; unfold atI
  cases atC C ch <;> simp
set_option maxHeartbeats 1000000 in
theorem at_spec (B : Bo) (ch : Int) (w : World) (hm : Mem w B.segs) (hl : B.C.length ≤ 1048576) : Calls Try.prog 114 #[B.v, .int .i64 ch] w fun e w' => e = .returned (.int .i64 (atI B.C ch)) ∧ Keeps w w' := by
  obtain ⟨tk, nx, wa, ca, cc, C, ha, hc, Hs, ra, rc, R⟩ := B
  have HCC := hide (fun w' (hk : Keeps w w') => Bo.memC (hm.kept hk))
  have HCH := hide (fun w' (hk : Keeps w w') => Bo.memH (hm.kept hk))
  have HCR := hide (fun w' (hk : Keeps w w') => Bo.memR (hm.kept hk))
  have HL := hide hl
  have HBA := hide (book_box ⟨tk, nx, wa, ca, cc, C, ha, hc, Hs, ra, rc, R⟩ w 67)
  have HKA := hide (Keeps.alloc (Keeps.refl w) (.cells #[.int .i64 tk, .int .i64 nx, .int .i64 wa, .slice ca C.length cc, .slice ha Hs.length hc, .slice ra R.length rc] 67))
  dsimp only [Bo.d, Bo.v] at *
  clear hm hl
  go_enter Try.func114, Try.ntmps114
  go_wp2_with fail
  generalize w.alloc (.cells #[.int .i64 tk, .int .i64 nx, .int .i64 wa, .slice ca C.length cc, .slice ha Hs.length hc, .slice ra R.length rc] 67) = W0 at *
  obtain ⟨-, -, -, b3, -, -⟩ := HBA.out
  dsimp only at b3
  have HC := hide (unhide HCC _ HKA.out)

  have hl := HL.out
  go_loop [9] (fun y => ∃ k : Nat, k ≤ C.length ∧ y = .int .i64 (k : Int) ∧ Hid (∀ j (hj : j < C.length), j < k → C[j].id ≠ ch)) (fun y => C.length - (intOf y).toNat)
  case atStart => exact ⟨0, by omega, rfl, fun j hj h => absurd h (by omega)⟩
  case round =>
    obtain ⟨k, hk, rfl, HG⟩ := hrel
    by_cases hlt : k < C.length
    · obtain ⟨b, off, ea, c0, -, -, -, -, -, -⟩ := chs_at HC.out k hlt
      have HX := hide ea
      obtain rfl := HX.out
      by_cases he : C[k].id = ch
      · have HR : Hid (atI C ch = (k : Int)) := atI_some (atC_some hlt he HG.out)
        rw [he] at c0
        clear he HG
        go_wp2_with fail
        go_ret
        exact ⟨ret_i HR.out.symm, HKA.out⟩
      · have HE := hide he
        generalize C[k].id = x at c0 he
        go_wp2_with fail
        go_round
        case rel => exact ⟨k + 1, by omega, by go_num, fun j hj h => by
                      by_cases e : j = k
                      · subst e; exact HE.out
                      · exact HG.out j hj (by omega)⟩
        case measure => simp [intOf]; omega
    · have HR : Hid (atI C ch = -1) := atI_none (atC_none (fun j hj => HG.out j hj (by omega)))
      go_wp2_with fail
      go_ret
      exact ⟨ret_i HR.out.symm, HKA.out⟩
set_option maxHeartbeats 1000000 in
theorem two_spec (B : Bo) (x y : Int) (w : World) (hm : Mem w B.segs) (hl : B.C.length ≤ 1048576) : Calls Try.prog 104 #[B.v, .int .i64 x, .int .i64 y] w fun e w' => e = .returned (.bool (twoB B.C x y)) ∧ Keeps w w' := by
  have HC := hide (fun ch w' (hk : Keeps w w') => at_spec B ch w' (hm.kept hk) hl)
  obtain ⟨tk, nx, wa, ca, cc, C, ha, hc, Hs, ra, rc, R⟩ := B
  have HCC := hide (fun w' (hk : Keeps w w') => Bo.memC (hm.kept hk))
  have HCH := hide (fun w' (hk : Keeps w w') => Bo.memH (hm.kept hk))
  have HCR := hide (fun w' (hk : Keeps w w') => Bo.memR (hm.kept hk))
  have HL := hide hl
  have HBA := hide (book_box ⟨tk, nx, wa, ca, cc, C, ha, hc, Hs, ra, rc, R⟩ w 67)
  have HKA := hide (Keeps.alloc (Keeps.refl w) (.cells #[.int .i64 tk, .int .i64 nx, .int .i64 wa, .slice ca C.length cc, .slice ha Hs.length hc, .slice ra R.length rc] 67))
  dsimp only [Bo.d, Bo.v] at *
  clear hm hl
  go_enter Try.func104, Try.ntmps104
  by_cases hxy : x = y
  · have HV : Hid (twoB C x y = false) := by show _ = _; simp [twoB, hxy]
    go_wp2_with fail
    go_ret
    exact ⟨ret_b HV.out.symm, HKA.out⟩
  go_wp2_with fail
  generalize w.alloc (.cells #[.int .i64 tk, .int .i64 nx, .int .i64 wa, .slice ca C.length cc, .slice ha Hs.length hc, .slice ra R.length rc] 67) = W0 at *
  obtain ⟨b0, b1, b2, b3, b4, b5⟩ := HBA.out
  dsimp only at b0 b1 b2 b3 b4 b5
  have hx := atI_has C x
  have hy := atI_has C y
  go_wp2_with fail
  refine (unhide HC x _ HKA.out).mono ?_
  rintro e w1 ⟨rfl, hk⟩
  have HK1 := hide (HKA.out.trans hk)
  obtain ⟨e0, e1, e2, e3, e4, e5⟩ := HBA.out.kept hk
  dsimp only at e0 e1 e2 e3 e4 e5
  clear hk b0 b1 b2 b3 b4 b5
  generalize hp : atI C x = p at *
  by_cases h1 : 0 ≤ p
  rotate_left
  · have HV : Hid (twoB C x y = false) := by show _ = _; simp [twoB, hx, h1]
    go_wp2_with fail
    go_ret
    exact ⟨ret_b HV.out.symm, HK1.out⟩
  have HV1 : Hid (hasC C x = true) := by show _ = _; rw [hx]; simpa using h1
  go_wp2_with fail
  refine (unhide HC y _ HK1.out).mono ?_
  rintro e w2 ⟨rfl, hk⟩
  have HK2 := hide (HK1.out.trans hk)
  clear hk
  have HV : Hid (decide (0 ≤ atI C y) = twoB C x y) := by show _ = _; simp [twoB, HV1.out, hxy, ← hy]
  clear hx hy
  generalize atI C y = q at *
  go_wp2_with fail
  go_ret
  exact ⟨ret_b (by rw [← HV.out]; (first | rfl | simp_all)), HK2.out⟩
set_option maxHeartbeats 1000000 in
theorem hasint_spec (a : Option Addr) (cap : Nat) (L : List Int) (x : Int) (w : World) (hc : Cells w a (its L)) (hl : L.length ≤ 1048576) : Calls Try.prog 106 #[.slice a L.length cap, .int .i64 x] w fun e w' => e = .returned (.bool (decide (x ∈ L))) ∧ w' = w := by
  have HC := hide hc
  clear hc
  go_enter Try.func106, Try.ntmps106
  go_wp2_with fail
  go_loop [9] (fun y => ∃ k : Nat, k ≤ L.length ∧ y = .int .i64 (k : Int) ∧ Hid (∀ j (hj : j < L.length), j < k → L[j] ≠ x)) (fun y => L.length - (intOf y).toNat)
  case atStart => exact ⟨0, by omega, rfl, fun j hj h => absurd h (by omega)⟩
  case round =>
    obtain ⟨k, hk, rfl, HG⟩ := hrel
    by_cases hlt : k < L.length
    · obtain ⟨b, off, ea, c0⟩ := its_at HC.out k hlt
      have HX := hide ea
      obtain rfl := HX.out
      by_cases he : L[k] = x
      · have HR : Hid (decide (x ∈ L) = true) := decide_eq_true (he ▸ List.getElem_mem hlt)
        rw [he] at c0
        clear he HG
        go_wp2_with fail
        go_ret
        exact ⟨ret_b HR.out.symm, rfl⟩
      · have HE := hide he
        generalize L[k] = z at c0 he
        go_wp2_with fail
        go_round
        case rel => exact ⟨k + 1, by omega, by go_num, fun j hj h => by
                      by_cases e : j = k
                      · subst e; exact HE.out
                      · exact HG.out j hj (by omega)⟩
        case measure => simp [intOf]; omega
    · have HR : Hid (decide (x ∈ L) = false) := decide_eq_false (fun hx => by
        obtain ⟨j, hj, e⟩ := List.getElem_of_mem hx
        exact HG.out j hj (by omega) e)
      go_wp2_with fail
      go_ret
      exact ⟨ret_b HR.out.symm, rfl⟩
end Go.Proofs.Ytphabdjhmahemaa
