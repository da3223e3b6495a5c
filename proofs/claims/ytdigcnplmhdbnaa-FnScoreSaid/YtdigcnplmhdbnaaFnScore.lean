/- Proved: at every list of bytes the law FnScore returns true (scores stay within their ends, up is never below, down never above, fading comes to 0); no condition. -/
import Derived.Test.YtdigcnplmhdbnaaDsk
import Derived.Test.YtdigcnplmhdbnaaDrJ
import Derived.Test.YtdigcnplmhdbnaaRows
import Derived.WalkKit
import Derived.ProofKit
import Derived.OpenShut
import Derived.ChangeOld
import Derived.Below
namespace Go.Proofs.Ytdigcnplmhdbnaa.fnScore
open Go.ChangeShapes Go.WideShapes Go.ChangeAt Go.RowKit
set_option linter.unusedVariables false
theorem rowAt_cells {w : World} {a : Option Addr} {L : List UInt8} (h : Cells w a (bys L)) : RowAt w.heap.size w a L.length := by
  intro j hj
  rcases h with h | ⟨b, off, e, h⟩
  · have := bys_nil.1 h
    subst this
    simp at hj
  · have hj' : j < (bys L).length := by rw [bys_length]; exact hj
    have hc := h j hj'
    have e2 : (bys L)[j] = byV L[j] := by simp [bys]
    rw [e2] at hc
    have hb := L[j].toNat_lt
    exact ⟨b, off, _, e, lt_of_cell hc, by simp, by omega, hc⟩
set_option maxRecDepth 100000 in
set_option maxHeartbeats 8000000 in
theorem walkR (a : Option Addr) (len cap : Nat) (w : World) (hr : RowAt w.heap.size w a len) :
    Calls Try.prog 4 #[.slice a len cap] w fun e w' => e = .returned (.bool true) ∧ Keeps w w' := by
  have HRw := hide hr
  clear hr
  by_cases hl : 1048576 < len
  · go_enter Try.func4, Try.ntmps4
    go_wp2_with fail
    go_ret
    exact ⟨rfl, Keeps.refl _⟩
  · have HDr := hide (draw_score a len cap w HRw.out (by omega))
    clear HRw
    go_enter Try.func4, Try.ntmps4
    go_wp2_with fail
    refine (unhide HDr).mono ?_
    rintro x w1 ⟨⟨n, rfl⟩, hk⟩
    have HK := hide hk
    clear hk HDr
    cases hok : okS n
    · have HI := hide (sok_impl n)
      have HS := hide (sok_spec n)
      rw [hok] at HI HS
      have HU := hide (up_impl n)
      have HD := hide (down_impl n)
      have HF := hide (fade_impl n)
      rw [show upS n = 0 from by simp [upS, hok]] at HU
      rw [show downS n = 0 from by simp [downS, hok]] at HD
      rw [show fadeS n = 0 from by simp [fadeS, hok]] at HF
      go_wp2_with fail
      refine (HI.out _).mono ?_
      rintro x w2 ⟨rfl, hk⟩
      replace HK := hide (HK.out.trans hk)
      clear hk
      go_wp2_with fail
      refine (HS.out _).mono ?_
      rintro x w3 ⟨rfl, hk⟩
      replace HK := hide (HK.out.trans hk)
      clear hk
      go_wp2_with fail
      refine (HS.out _).mono ?_
      rintro x w4 ⟨rfl, hk⟩
      replace HK := hide (HK.out.trans hk)
      clear hk
      go_wp2_with fail
      refine (HU.out _).mono ?_
      rintro x w5 ⟨rfl, hk⟩
      replace HK := hide (HK.out.trans hk)
      clear hk
      go_wp2_with fail
      refine (HD.out _).mono ?_
      rintro x w6 ⟨rfl, hk⟩
      replace HK := hide (HK.out.trans hk)
      clear hk
      go_wp2_with fail
      refine (HF.out _).mono ?_
      rintro x w7 ⟨rfl, hk⟩
      replace HK := hide (HK.out.trans hk)
      clear hk
      go_wp2_with fail
      go_ret
      exact ⟨rfl, HK.out⟩
    · have HI := hide (sok_impl n)
      have HS := hide (sok_spec n)
      rw [hok] at HI HS
      obtain ⟨n0, n1⟩ := okS_true hok
      go_wp2_with fail
      refine (HI.out _).mono ?_
      rintro x w8 ⟨rfl, hk⟩
      replace HK := hide (HK.out.trans hk)
      clear hk
      go_wp2_with fail
      refine (HS.out _).mono ?_
      rintro x w9 ⟨rfl, hk⟩
      replace HK := hide (HK.out.trans hk)
      clear hk
      go_wp2_with fail
      refine (HS.out _).mono ?_
      rintro x w10 ⟨rfl, hk⟩
      replace HK := hide (HK.out.trans hk)
      clear hk
      go_wp2_with fail
      go_loopw [4, 5] (fun x y wr => ∃ (m : Int) (k : Nat), k ≤ 100 ∧ (k : Int) - 100 ≤ m ∧ m ≤ 100 - (k : Int) ∧ x = .int .i64 m ∧ y = .int .i64 (k : Int) ∧ Hid (Keeps w wr)) (fun _ y _ => 100 - (intOf y).toNat)
      case atStart => exact ⟨n, 0, by omega, by omega, by omega, rfl, rfl, HK.out⟩
      case round =>
        obtain ⟨m, k, hk, m0, m1, rfl, rfl, hK⟩ := hrel
        clear HK
        by_cases hlt : k < 100
        · obtain ⟨m', hm', em⟩ : ∃ m', ((k : Int) + 1 - 100 ≤ m' ∧ m' ≤ 100 - ((k : Int) + 1)) ∧ fadeS m = m' := by
            refine ⟨_, ?_, rfl⟩
            have hom : okS m = true := okS_yes (by omega) (by omega)
            unfold fadeS
            rw [if_pos hom]
            split
            · omega
            · split <;> omega
          have HF := hide (fade_impl m)
          rw [em] at HF
          clear em
          go_wp2_with fail
          refine (HF.out _).mono ?_
          rintro x w5 ⟨rfl, hk5⟩
          have HK := hide (hK.out.trans hk5)
          clear hk5 hK HF
          go_wp2_with fail
          go_roundw
          case rel => exact ⟨m', k + 1, by omega, by omega, by omega, rfl, by go_num, HK.out⟩
          case measure => simp [intOf]; omega
        · obtain rfl : k = 100 := by omega
          obtain rfl : m = 0 := by omega
          have HK := hide hK.out
          clear hK
          obtain ⟨u, ⟨u0, u1⟩, eu⟩ : ∃ u, (n ≤ u ∧ u ≤ 100) ∧ upS n = u := by
            refine ⟨_, ?_, rfl⟩
            unfold upS
            rw [if_pos hok]
            omega
          obtain ⟨d, ⟨d0, d1⟩, ed⟩ : ∃ d, (-100 ≤ d ∧ d ≤ n) ∧ downS n = d := by
            refine ⟨_, ?_, rfl⟩
            unfold downS
            rw [if_pos hok]
            omega
          have HU := hide (up_impl n)
          have HD := hide (down_impl n)
          have HUo := hide (sok_impl u)
          have HDo := hide (sok_impl d)
          rw [eu] at HU
          rw [ed] at HD
          rw [okS_yes (by omega) (by omega)] at HUo HDo
          clear eu ed
          go_wp2_with fail
          refine (HU.out _).mono ?_
          rintro x w11 ⟨rfl, hk⟩
          replace HK := hide (HK.out.trans hk)
          clear hk
          go_wp2_with fail
          refine (HD.out _).mono ?_
          rintro x w12 ⟨rfl, hk⟩
          replace HK := hide (HK.out.trans hk)
          clear hk
          go_wp2_with fail
          refine (HU.out _).mono ?_
          rintro x w13 ⟨rfl, hk⟩
          replace HK := hide (HK.out.trans hk)
          clear hk
          go_wp2_with fail
          refine (HUo.out _).mono ?_
          rintro x w14 ⟨rfl, hk⟩
          replace HK := hide (HK.out.trans hk)
          clear hk
          go_wp2_with fail
          refine (HD.out _).mono ?_
          rintro x w15 ⟨rfl, hk⟩
          replace HK := hide (HK.out.trans hk)
          clear hk
          go_wp2_with fail
          refine (HDo.out _).mono ?_
          rintro x w16 ⟨rfl, hk⟩
          replace HK := hide (HK.out.trans hk)
          clear hk
          by_cases h20 : n = 20
          · subst h20
            have HST := hide (stand_impl 20 true)
            rw [show standS 20 true = true from by decide] at HST
            go_wp2_with fail
            refine (HST.out _).mono ?_
            rintro x w17 ⟨rfl, hk⟩
            replace HK := hide (HK.out.trans hk)
            clear hk
            go_wp2_with fail
            go_ret
            exact ⟨rfl, HK.out⟩
          · go_wp2_with fail
            go_ret
            exact ⟨rfl, HK.out⟩
theorem walk (a : Option Addr) (cap : Nat) (L : List UInt8) (w : World) (hc : Cells w a (bys L)) (hn : a = none → cap = 0) (hl : L.length ≤ 9223372036854775807) :
    Calls Try.prog 4 #[.slice a L.length cap] w fun e w' => e = .returned (.bool true) ∧ Keeps w w' := walkR a L.length cap w (rowAt_cells hc)

theorem own : ownKnob Try.prog.godebug = none := by kernel_rfl
theorem laidOut : laidOutB Try.prog = true := by kernel_rfl

set_option maxRecDepth 100000 in
theorem lifted (os : Os) (started : os.Started) (H : Type) (enc : TypeId × Value → H) :
    ReturnsInHanded {} Try.checked os 4 .any (Rows.fnScoreSpec.pre6 enc Try.prog Try.f4 Rows.fnScoreRow.domain false) (Rows.fnScoreSpec.post enc Try.prog Try.f4 false true false false) := by
  refine returnsInHanded_of_change (C := Try.checked) own started (by kernel_rfl) Try.func4
    (ChangeSpec.witness6 (enc := enc) (C := Try.checked) false ⟨#[], #[.slice none 0 0], []⟩ 8 (by kernel_rfl) (by kernel_rfl) (by kernel_rfl) (by kernel_rfl)) ?_
  intro W base args ds gs before hval0 hW hcnd _
  have hval : ∀ (j : Nat) t v, Try.f4.params[j]? = some t → args[j]? = some v → Value.okWide Try.prog W .any base t v := hval0
  have hW' := hW
  obtain ⟨p, q, hA0, hV, rfl, hfz, hnd⟩ := hW
  have hA : DataW.TrodAll enc Try.prog W 0 (fun _ => true) true Try.f4.params.toList args.toList ds p := hA0
  rw [Try.params4] at hA hval
  obtain ⟨v0, vs0, d0, ds0, p0, q0, hargs, rfl, rfl, h0, r0⟩ := trodAll_cons hA
  obtain ⟨rfl, rfl, rfl⟩ := trodAll_nil r0
  obtain rfl : args = #[v0] := by cases args; simp_all
  obtain ⟨rfl, rfl⟩ := trodVars_none hV
  have lt0 := lt_row h0
  have k0 := h0
  obtain ⟨a0, cap0, L0, rfl, hc0, hn0, hl0⟩ := bytes_row (hval 0 22 v0 rfl rfl) h0
  clear hA0 hval0
  refine (walk a0 cap0 L0 W hc0 hn0 hl0).mono fun e W' ⟨he, hb⟩ => ?_
  subst he
  refine ⟨_, rfl, _, _, _, [], (p0 ++ []), [], hW', ?_, ?_, ?_, Below.frame hb _, fun h => by cases h⟩
  · exact trodAll_mk1 (shut_bool Try.underlying4 _)
  · exact (trodAll_cons_mk (Below.trod laidOut (by kernel_rfl) (of_decide_eq_true (by kernel_rfl)) k0 hb lt0) trodAll_mk0)
  · exact rfl

theorem over : Rows.fnScoreRow.holds Try.pinned (OpenSpec.ofChange Rows.fnScoreSpec) :=
  OpenClaim.holds_of_wide 4 Try.f4 rfl rfl rfl rfl rfl rfl rfl ⟨rfl, rfl, rfl, rfl, rfl⟩ rfl rfl rfl rfl rfl (by kernel_rfl) Try.func4 (by kernel_rfl)
    (of_decide_eq_true (by kernel_rfl)) (by unfold Func.isWrapper; first | (rw [if_pos (by decide +kernel)]; kernel_rfl) | (rw [if_neg (by decide +kernel)]; exact ⟨rfl, rfl⟩))
    (fun os started H enc _ => lifted os started H enc)
end Go.Proofs.Ytdigcnplmhdbnaa.fnScore
namespace Go.Proofs.Ytdigcnplmhdbnaa
theorem fnScore_holds : Rows.FnScoreSaid := fnScore.over
end Go.Proofs.Ytdigcnplmhdbnaa
