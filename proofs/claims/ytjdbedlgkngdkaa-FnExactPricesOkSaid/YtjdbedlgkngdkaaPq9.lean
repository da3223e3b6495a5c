/- Prices: the model. -/
import Derived.Test.YtjdbedlgkngdkaaPp
import Derived.Test.YtjdbedlgkngdkaaBsD
namespace Go.Proofs.Ytjdbedlgkngdkaa
open Go.RowKit Go.Deep
set_option linter.unusedVariables false
set_option linter.unusedSimpArgs false
set_option maxRecDepth 10000

set_option maxHeartbeats 8000000 in
theorem prices_spec (B : Bo) (a : Option Addr) (cap : Nat) (L : List Prc) (w : World) (hm : Mem w B.segs) (hl : B.len) (hp : Cells w a (pcs L)) (hlp : L.length ≤ 1048576) :
    Calls Try.prog 7 #[B.v, .slice a L.length cap] w fun e w' => e = .returned (.bool (pricesB B.d L)) ∧ Keeps w w' := by
  have HBO := hide (fun w' (hk : Keeps w w') => bookok_spec B w' (hm.kept hk) hl)
  have HTW := hide (fun x y w' (hk : Keeps w w') => two_spec B x y w' (hm.kept hk) hl.1)
  have HPP := hide (fun w' (hk : Keeps w w') => hp.kept hk)
  obtain ⟨tk, nx, wa, ca, cc, C, ha, hc, Hs, ra, rc, R⟩ := B
  have HBA := hide (book_box ⟨tk, nx, wa, ca, cc, C, ha, hc, Hs, ra, rc, R⟩ w 35)
  have HKA := hide (Keeps.alloc (Keeps.refl w) (.cells #[.int .i64 tk, .int .i64 nx, .int .i64 wa, .slice ca C.length cc, .slice ha Hs.length hc, .slice ra R.length rc] 35))
  dsimp only [Bo.v] at *
  clear hm hl hp
  obtain ⟨bd, hbd⟩ : ∃ bd, bd = Bo.d ⟨tk, nx, wa, ca, cc, C, ha, hc, Hs, ra, rc, R⟩ := ⟨_, rfl⟩
  have HBD : Hid (bd.C = C) := by show _ = _; rw [hbd]; rfl
  rw [← hbd] at HBO ⊢
  clear hbd
  cases hb : bookB bd
  · have HR := hide (prices_book (L := L) hb)
    go_enter Try.func7, Try.ntmps7
    go_wp2_with fail
    refine (unhide HBO _ HKA.out).mono ?_
    rintro e w1 ⟨rfl, hk1⟩
    rw [hb]
    go_wp2_with fail
    go_ret
    exact ⟨ret_b HR.out.symm, HKA.out.trans hk1⟩
  by_cases h20 : 20 < L.length
  · have HR := hide (prices_len (B := bd) h20)
    go_enter Try.func7, Try.ntmps7
    go_wp2_with fail
    refine (unhide HBO _ HKA.out).mono ?_
    rintro e w1 ⟨rfl, hk1⟩
    rw [hb]
    go_wp2_with fail
    go_ret
    exact ⟨ret_b HR.out.symm, HKA.out.trans hk1⟩
  have HBT := hide hb
  go_enter Try.func7, Try.ntmps7
  go_wp2_with fail
  refine (unhide HBO _ HKA.out).mono ?_
  rintro e w1 ⟨rfl, hk1⟩
  rw [hb]
  clear hb HBO
  generalize w.alloc (.cells #[.int .i64 tk, .int .i64 nx, .int .i64 wa, .slice ca C.length cc, .slice ha Hs.length hc, .slice ra R.length rc] 35) = W0 at *
  go_wp2_with fail
  go_loopw [18] (fun y wr => ∃ k : Nat, k ≤ L.length ∧ y = .int .i64 (k : Int) ∧ Hid (∀ j, j < L.length → j < k → prAt bd.C L j = true) ∧ Hid (Keeps W0 wr)) (fun y _ => L.length - (intOf y).toNat)
  case atStart => exact ⟨0, by omega, rfl, fun j hj h => absurd h (by omega), hk1⟩
  case round =>
    clear hk1
    obtain ⟨k, hk, rfl, HG, HKr⟩ := hrel
    by_cases hlt : k < L.length
    · obtain ⟨b, off, ea, c0, c1, c2⟩ := pcs_at (unhide HPP _ (HKA.out.trans HKr.out)) k hlt
      subst ea
      have HAT := hide (prAt_at (C := bd.C) hlt)
      have HNO : Hid (prAt bd.C L k = false → pricesB bd L = false) := fun h => prices_no hlt h
      have HY : Hid (prAt bd.C L k = true → ∀ j, j < L.length → j < k + 1 → prAt bd.C L j = true) := fun h j hj h' => by
        by_cases e : j = k
        · subst e; exact h
        · exact HG.out j hj (by omega)
      rw [HBD.out] at HAT HNO HY
      have HLT : Hid (∀ j (hj : j < L.length), j < k → sameP L[k] L[j] = true → (L.take k).any (sameP L[k]) = true) := fun j hj hjk h => List.any_eq_true.2 ⟨L[j], (List.mem_take_iff_getElem.2 ⟨j, by omega, rfl⟩), h⟩
      have HLN : Hid ((∀ j (hj : j < L.length), j < k → sameP L[k] L[j] = false) → (L.take k).any (sameP L[k]) = false) := fun h => by
        refine any_none (fun j hj => ?_)
        rw [List.length_take] at hj
        rw [List.getElem_take]
        exact h j (by omega) (by omega)
      generalize (L.take k).any (sameP L[k]) = r3 at *
      generalize hx : L[k] = x at *
      clear hx
      obtain ⟨xfr, xto, xpp⟩ := x
      dsimp only at *
      have HA := hide (rowc3 wr (.int .i64 xfr) (.int .i64 xto) (.int .i64 xpp) 54)
      have HK1 := hide (HKr.out.trans (Keeps.alloc (Keeps.refl wr) (.cells #[.int .i64 xfr, .int .i64 xto, .int .i64 xpp] 54)))
      go_upto_region 6 with fail
      generalize hV : wr.heap.size = V at *
      generalize wr.alloc (.cells #[.int .i64 xfr, .int .i64 xto, .int .i64 xpp] 54) = W1 at *
      obtain ⟨d0, d1, d2⟩ := unhide HA W1 (Keeps.refl _)
      obtain ⟨q0, q1, q2, q3, q4, q5⟩ := HBA.out.kept HK1.out
      dsimp only at q0 q1 q2 q3 q4 q5
      clear c0 c1 c2 hV
      go_wp2_with fail
      refine (unhide HTW xfr xto _ (HKA.out.trans HK1.out)).mono ?_
      rintro e w2 ⟨rfl, hk2⟩
      have HK2 := hide (HK1.out.trans hk2)
      obtain ⟨d0, d1, d2⟩ := unhide HA w2 hk2
      have HA2 := hide (fun w' (hk : Keeps w2 w') => unhide HA w' (hk2.trans hk))
      clear hk2 q0 q1 q2 q3 q4 q5
      cases ht : twoB C xfr xto
      · rw [ht] at HAT
        have HR := hide (HNO.out (by rw [HAT.out]; rfl))
        go_wp2_with fail
        go_ret
        exact ⟨ret_b HR.out.symm, HKA.out.trans HK2.out⟩
      rw [ht] at HAT
      by_cases h0 : xpp < 0
      · have HR := hide (HNO.out (by rw [HAT.out]; simp [ppmB]; omega))
        go_wp2_with fail
        go_ret
        exact ⟨ret_b HR.out.symm, HKA.out.trans HK2.out⟩
      by_cases h1 : 1000000 < xpp
      · have HR := hide (HNO.out (by rw [HAT.out]; simp [ppmB]; omega))
        go_wp2_with fail
        go_ret
        exact ⟨ret_b HR.out.symm, HKA.out.trans HK2.out⟩
      have HPB : Hid (ppmB xpp = true) := by show _ = _; simp [ppmB]; omega
      go_wp2_with fail
      clear d0 d1 d2
      go_loopw [7] (fun y w3 => ∃ j : Nat, j ≤ k ∧ y = .int .i64 (j : Int) ∧ Hid (∀ m (hm : m < L.length), m < j → sameP ⟨xfr, xto, xpp⟩ L[m] = false) ∧ Hid (Keeps w2 w3)) (fun y _ => k - (intOf y).toNat)
      case atStart => exact ⟨0, by omega, rfl, fun j hj h => absurd h (by omega), Keeps.refl _⟩
      case round =>
        obtain ⟨j, hj, rfl, HJ, HK3⟩ := hrel
        by_cases hjk : j < k
        · have hjl : j < L.length := by omega
          obtain ⟨b', off', ea', e0, e1, e2⟩ := pcs_at (unhide HPP _ (HKA.out.trans (HK2.out.trans HK3.out))) j hjl
          obtain ⟨rfl, rfl⟩ : b' = b ∧ off' = off := by
            have := Option.some.inj ea'
            injection this with h1 h2
            exact ⟨h1.symm, h2.symm⟩
          clear ea'
          obtain ⟨d0, d1, d2⟩ := unhide HA2 _ HK3.out
          have HJT := hide (HLT.out j hjl hjk)
          have HJN : Hid (sameP ⟨xfr, xto, xpp⟩ L[j] = false → ∀ m (hm : m < L.length), m < j + 1 → sameP ⟨xfr, xto, xpp⟩ L[m] = false) := fun h m hm h' => by
            by_cases e : m = j
            · subst e; exact h
            · exact HJ.out m hm (by omega)
          generalize L[j] = z at *
          obtain ⟨zf, zt, zp⟩ := z
          dsimp only at e0 e1 e2
          have g0 := gr_cell e0
          have g1 := gr_cell e1
          have i0 := gr_cell d0
          have i1 := gr_cell d1
          by_cases hz1 : zf = xfr
          · by_cases hz2 : zt = xto
            · subst hz1 hz2
              have HR := hide (HNO.out (by rw [HAT.out, HJT.out (by simp [sameP])]; simp))
              go_upto_region 11 with fail
              go_quiet (fail)
              go_wp2_with fail
              go_ret
              exact ⟨ret_b HR.out.symm, HKA.out.trans ((HK2.out.trans HK3.out).drewN _)⟩
            · subst hz1
              have hz2' : (zt == xto) = false := by simpa using hz2
              have HN2 := hide (HJN.out (by simp [sameP]; omega))
              go_upto_region 11 with fail
              go_quiet (fail)
              go_wp2_with fail
              go_roundw
              case rel => exact ⟨j + 1, by omega, by go_num, HN2.out, HK3.out.drewN _⟩
              case measure => simp [intOf]; omega
          · have hz1' : (zf == xfr) = false := by simpa using hz1
            have HN2 := hide (HJN.out (by simp [sameP]; omega))
            go_upto_region 11 with fail
            go_quiet (fail)
            go_wp2_with fail
            go_roundw
            case rel => exact ⟨j + 1, by omega, by go_num, HN2.out, HK3.out.drewN _⟩
            case measure => simp [intOf]; omega
        · have e : j = k := by omega
          subst e
          have HF3 := hide (HLN.out HJ.out)
          have HY2 := hide (HY.out (by rw [HAT.out, HPB.out, HF3.out]; rfl))
          go_wp2_with fail
          go_roundw
          case rel => exact ⟨j + 1, by omega, by go_num, (by rw [HBD.out]; exact HY2.out), HK2.out.trans HK3.out⟩
          case measure => simp [intOf]; omega
    · have HR : Hid (pricesB bd L = true) := prices_yes HBT.out (by omega) (fun j hj => HG.out j hj (by omega))
      go_wp2_with fail
      go_ret
      exact ⟨ret_b HR.out.symm, HKA.out.trans HKr.out⟩
end Go.Proofs.Ytjdbedlgkngdkaa
