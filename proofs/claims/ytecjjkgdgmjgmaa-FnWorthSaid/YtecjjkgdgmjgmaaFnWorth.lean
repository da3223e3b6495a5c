/- what is owned changes by just what the other accounts change the other way -/
import Derived.Test.YtecjjkgdgmjgmaaDsk
import Derived.Test.YtecjjkgdgmjgmaaDrQ
import Derived.Test.YtecjjkgdgmjgmaaWoM
import Derived.Test.YtecjjkgdgmjgmaaImplP
import Derived.Test.YtecjjkgdgmjgmaaImplC
import Derived.Test.YtecjjkgdgmjgmaaRows
import Derived.WalkKit
import Derived.ProofKit
import Derived.OpenShut
import Derived.ChangeOld
import Derived.Below
namespace Go.Proofs.Ytecjjkgdgmjgmaa.fnWorth
open Go.ChangeShapes Go.WideShapes Go.ChangeAt Go.RowKit
set_option linter.unusedVariables false
theorem rowAt_cells {w : World} {a : Option Addr} {L : List UInt8} (h : Cells w a (bys L)) : RowAt w.heap.size w a L.length := by
  intro j hj
  rcases h with h | ⟨b, off, e, h⟩
  · have := bys_nil.1 h
    subst this
    simp at hj
  · have hj' : j < (bys L).length := by rw [bys_length]; exact hj
    have hc := h j hj'
    have e2 : (bys L)[j] = byV L[j] := by simp [bys]
    rw [e2] at hc
    have hb := L[j].toNat_lt
    exact ⟨b, off, _, e, lt_of_cell hc, by simp, by omega, hc⟩
set_option maxRecDepth 100000 in
set_option maxHeartbeats 8000000 in
theorem walkR (a : Option Addr) (len cap : Nat) (w : World) (hr : RowAt w.heap.size w a len) :
    Calls Try.prog 4 #[.slice a len cap] w fun e w' => e = .returned (.bool true) ∧ Keeps w w' := by
  have HRw := hide hr
  clear hr
  by_cases hl : 1048576 < len
  · go_enter Try.func4, Try.ntmps4
    go_wp2_with fail
    go_ret
    exact ⟨rfl, Keeps.refl _⟩
  · have HDr := hide (draw_post a len cap w HRw.out (by omega))
    clear HRw
    go_enter Try.func4, Try.ntmps4
    go_wp2_with fail
    refine (unhide HDr).mono ?_
    rintro x w1 ⟨id, pid, la, pa, lc, pc, L, P, hl320, hp8, rfl, HO, hk1⟩
    have hkA := Keeps.alloc (Keeps.refl w1) (.cells #[.int .i64 id, .slice la L.length lc] 25)
    have hkB := Keeps.alloc (Keeps.refl (w1.alloc (.cells #[.int .i64 id, .slice la L.length lc] 25))) (.cells #[.int .i64 pid, .slice pa P.length pc] 27)
    have hbA := born_alloc w1 #[.int .i64 id, .slice la L.length lc] 25
    have hbB := born_alloc (w1.alloc (.cells #[.int .i64 id, .slice la L.length lc] 25)) #[.int .i64 pid, .slice pa P.length pc] 27
    have l0 := hkB.cell (cell_at hbA.mem 0 (by simp))
    have l1 := hkB.cell (cell_at hbA.mem 1 (by simp))
    have p0 := cell_at hbB.mem 0 (by simp)
    have p1 := cell_at hbB.mem 1 (by simp)
    simp only [World.size_alloc, Nat.zero_add, List.getElem_cons_zero, List.getElem_cons_succ] at l0 l1 p0 p1
    have HK1 := hide ((hk1.trans hkA).trans hkB)
    have HCL := hide ((HO.out.2.2.1.kept (hkA.trans hkB)).one)
    have HCP := hide ((HO.out.2.2.2.1.kept (hkA.trans hkB)).one)
    have HLN := hide HO.out.1
    have HL3 : Hid (L.length ≤ 1048576) := by show _ ≤ _; omega
    have HP3 : Hid (P.length ≤ 1048576) := by show _ ≤ _; omega
    clear HO hk1 hkA hkB hbA hbB HDr
    go_wp2_with fail
    generalize (w1.alloc (.cells #[.int .i64 id, .slice la L.length lc] 25)).alloc (.cells #[.int .i64 pid, .slice pa P.length pc] 27) = W1 at *
    generalize hbp : w1.heap.size + 1 = bP at *
    generalize hbl : w1.heap.size = bL at *
    clear hbp hbl
    have HIP := hide (fun w1 (h : Cells w1 la (flat L)) (h' : Cells w1 pa (flat P)) => post_impl id pid la pa lc pc L P w1 h h' HL3.out HP3.out)
    have HSP := hide (fun w1 (h : Cells w1 la (flat L)) (h' : Cells w1 pa (flat P)) => post_spec id pid la pa lc pc L P w1 h h' HLN.out HL3.out HP3.out)
    obtain ⟨rid, hI⟩ : ∃ x, x = pid' id L pid P := ⟨_, rfl⟩
    obtain ⟨R, hM⟩ : ∃ x, x = pL id L pid P := ⟨_, rfl⟩
    obtain ⟨code, hcode⟩ : ∃ x, x = pcode id L pid P := ⟨_, rfl⟩
    rw [← hI, ← hM, ← hcode] at HIP HSP
    replace hI := hide hI
    replace hM := hide hM
    replace hcode := hide hcode
    refine (unhide HIP W1 HCL.out HCP.out).mono ?_
    rintro x w2 ⟨⟨ra, rc, rfl, hrn, hb2⟩, hk2⟩
    have hkA := Keeps.alloc (Keeps.refl w2) (.cells #[.int .i64 rid, .slice ra R.length rc] 25)
    have hbA := born_alloc w2 #[.int .i64 rid, .slice ra R.length rc] 25
    have m0 := cell_at hbA.mem 0 (by simp)
    have m1 := cell_at hbA.mem 1 (by simp)
    simp only [Nat.zero_add, List.getElem_cons_zero, List.getElem_cons_succ] at m0 m1
    replace l0 := (hk2.trans hkA).cell l0
    replace l1 := (hk2.trans hkA).cell l1
    replace p0 := (hk2.trans hkA).cell p0
    replace p1 := (hk2.trans hkA).cell p1
    replace HK1 := hide ((HK1.out.trans hk2).trans hkA)
    replace HCL := hide (HCL.out.kept (hk2.trans hkA))
    replace HCP := hide (HCP.out.kept (hk2.trans hkA))
    have HCR := hide ((hb2.toOwn.kept hkA).one)
    clear hkA hbA hb2 hrn hk2
    go_wp2_with fail
    generalize w2.alloc (.cells #[.int .i64 rid, .slice ra R.length rc] 25) = W2 at *
    generalize w2.heap.size = bM at *
    refine (unhide HSP W2 HCL.out HCP.out).mono ?_
    rintro x w3 ⟨⟨sa, sc, rfl, hrn, hb3⟩, hk3⟩
    have hkA := Keeps.alloc (Keeps.refl w3) (.cells #[.int .i64 rid, .slice sa R.length sc] 25)
    replace l0 := (hk3.trans hkA).cell l0
    replace l1 := (hk3.trans hkA).cell l1
    replace p0 := (hk3.trans hkA).cell p0
    replace p1 := (hk3.trans hkA).cell p1
    replace m0 := (hk3.trans hkA).cell m0
    replace m1 := (hk3.trans hkA).cell m1
    replace HK1 := hide ((HK1.out.trans hk3).trans hkA)
    replace HCL := hide (HCL.out.kept (hk3.trans hkA))
    replace HCP := hide (HCP.out.kept (hk3.trans hkA))
    replace HCR := hide (HCR.out.kept (hk3.trans hkA))
    clear hkA hb3 hrn hk3
    clear HIP HSP
    by_cases hc0 : code = 0
    · have hcd : pcode id L pid P = 0 := by rw [← hcode.out]; exact hc0
      have hM' : R = addAll L P := by rw [hM.out]; unfold pL; rw [if_pos hcd]
      have hI' : pid = rid := by rw [hI.out]; unfold pid'; rw [if_pos hcd]
      clear hM hI hcode
      subst hM' hI' hc0
      have HW0 := hide (worth_moves hcd)
      obtain ⟨hlB, hpB, hlt0, hmB⟩ := code0 hcd
      have HPB := hide (fun k hk => lines_amt (post_parts hpB).2.2.2.2 (P[k]'hk) (List.getElem_mem hk))
      have HML : Hid ((addAll L P).length ≤ 1048576) := by show _ ≤ _; have := (ledgB_lines hmB).2; omega
      clear hlB hpB hlt0 hmB hcd
      go_wp2_with fail
      generalize w3.alloc (.cells #[.int .i64 pid, .slice sa (addAll L P).length sc] 25) = W3 at *
      go_loopw [9, 43] (fun x y wr => ∃ (s : Int) (k : Nat), k ≤ P.length ∧ -(1125899906842624 * (k : Int)) ≤ s ∧ s ≤ 1125899906842624 * (k : Int) ∧ Hid (s = sumN (P.take k)) ∧ x = .int .i64 s ∧ y = .int .i64 (k : Int) ∧ Hid (Keeps W3 wr)) (fun _ y _ => P.length - (intOf y).toNat)
      case atStart => exact ⟨0, 0, by omega, by omega, by omega, rfl, rfl, rfl, Keeps.refl _⟩
      case round =>
        obtain ⟨s, k, hk, s0, s1, HSum, rfl, rfl, HKr⟩ := hrel
        by_cases hlt : k < P.length
        · obtain ⟨b, off, ea, c0, c1, c2⟩ := cells_at (HCP.out.kept HKr.out) k hlt
          subst ea
          have HNext := hide (sumN_take P k hlt)
          obtain ⟨r0, r1⟩ := HPB.out k hlt
          have HW := hide (Keeps.alloc HKr.out (Obj.cells #[Value.int IntKind.i64 P[k].k, Value.int IntKind.i64 P[k].c, Value.int IntKind.i64 P[k].a] 35))
          clear HKr
          generalize P[k] = x at *
          by_cases h2 : x.k = 2
          · go_wp2_with fail
            go_roundw
            case rel => exact ⟨s + x.a, k + 1, by omega, by omega, by omega, by show _ = _; rw [HNext.out, ← HSum.out]; simp [othB, *], rfl, by go_num, by first | exact HW | exact hide (by simpa [*] using HW.out)⟩
            case measure => simp [intOf]; omega
          · skip
            by_cases h3 : x.k = 3
            · go_wp2_with fail
              go_roundw
              case rel => exact ⟨s + x.a, k + 1, by omega, by omega, by omega, by show _ = _; rw [HNext.out, ← HSum.out]; simp [othB, *], rfl, by go_num, by first | exact HW | exact hide (by simpa [*] using HW.out)⟩
              case measure => simp [intOf]; omega
            · skip
              by_cases h4 : x.k = 4
              · go_wp2_with fail
                go_roundw
                case rel => exact ⟨s + x.a, k + 1, by omega, by omega, by omega, by show _ = _; rw [HNext.out, ← HSum.out]; simp [othB, *], rfl, by go_num, by first | exact HW | exact hide (by simpa [*] using HW.out)⟩
                case measure => simp [intOf]; omega
              · skip
                by_cases h5 : x.k = 5
                · go_wp2_with fail
                  go_roundw
                  case rel => exact ⟨s + x.a, k + 1, by omega, by omega, by omega, by show _ = _; rw [HNext.out, ← HSum.out]; simp [othB, *], rfl, by go_num, by first | exact HW | exact hide (by simpa [*] using HW.out)⟩
                  case measure => simp [intOf]; omega
                · skip
                  have n2 : (x.k == 2) = false := by rw [beq_eq_false_iff_ne]; exact h2
                  have n3 : (x.k == 3) = false := by rw [beq_eq_false_iff_ne]; exact h3
                  have n4 : (x.k == 4) = false := by rw [beq_eq_false_iff_ne]; exact h4
                  have n5 : (x.k == 5) = false := by rw [beq_eq_false_iff_ne]; exact h5
                  go_wp2_with fail
                  go_roundw
                  case rel => exact ⟨s, k + 1, by omega, by omega, by omega, by show _ = _; rw [HNext.out, ← HSum.out]; simp [othB, *], rfl, by go_num, by first | exact HW | exact hide (by simpa [*] using HW.out)⟩
                  case measure => simp [intOf]; omega
        · have e : k = P.length := by omega
          have HE : Hid (s = sumN P) := by show _ = _; rw [HSum.out, e, List.take_length]
          clear e HSum
          have d0 := HKr.out.cell m0
          have d1 := HKr.out.cell m1
          have f0 := HKr.out.cell l0
          have f1 := HKr.out.cell l1
          go_wp2_with fail
          have HWM := hide (fun w1 (hk : Keeps wr w1) => impl_worth pid ra rc (addAll L P) w1 ((HCR.out.kept HKr.out).kept hk) HML.out)
          have HWL := hide (fun w1 (hk : Keeps wr w1) => impl_worth id la lc L w1 ((HCL.out.kept HKr.out).kept hk) HL3.out)
          have HKw := hide (Keeps.refl wr)
          have hw := HW0.out
          rw [← HE.out] at hw
          obtain ⟨hw1, hw2, hw3⟩ := hw
          rw [hw1] at HWM
          clear HW0 hw1 HE p0 p1 m0 m1 l0 l1
          generalize worthV id L = V at *
          replace HCR := hide HCR.out
          generalize addAll L P = M at *
          have hs2 : -9007199254740992 ≤ s := by omega
          have hs3 : s ≤ 9007199254740992 := by omega
          clear HPB HCP hk hlt hp8 hl320 s0 s1
          go_region_held3 (fun w' => w'.cell? ⟨bM, 0, none⟩ = some (.int .i64 pid) ∧ w'.cell? ⟨bM, 1, none⟩ = some (.slice ra M.length rc) ∧ w'.cell? ⟨bL, 0, none⟩ = some (.int .i64 id) ∧ w'.cell? ⟨bL, 1, none⟩ = some (.slice la L.length lc)) (go_keep)
            (first
              | (have h5 := HK5.out
                 clear h5
                 go_at_call 13
                 refine (unhide HWL _ HK5.out).mono ?_
                 rintro e w6 ⟨rfl, hk6⟩
                 have HK6 := hide (HK5.out.trans hk6)
                 have d60 := HK6.out.cell d0
                 have d61 := HK6.out.cell d1
                 have f60 := HK6.out.cell f0
                 have f61 := HK6.out.cell f1
                 clear hk6)
              | (go_at_call 13
                 refine (unhide HWM _ ((Keeps.refl wr).drew)).mono ?_
                 rintro e w5 ⟨rfl, hk5⟩
                 have HK5 := hide (((Keeps.refl wr).drew).trans hk5)
                 have d50 := HK5.out.cell d0
                 have d51 := HK5.out.cell d1
                 have f50 := HK5.out.cell f0
                 have f51 := HK5.out.cell f1
                 clear hk5))
          all_goals
            have hwr : IntKind.i64.wrap (V - s) = V - s := by rw [IntKind.wrap_i64]; omega
            go_wp2_with fail
            rw [hwr]
            go_ret
            exact ⟨by simp, (HK1.out.trans HKr.out).trans HK6.out⟩
    · have hcode' : ¬ pcode id L pid P = 0 := by rw [← hcode.out]; exact hc0
      have hM' : R = [] := by rw [hM.out]; unfold pL; rw [if_neg hcode']
      have hI' : rid = 0 := by rw [hI.out]; unfold pid'; rw [if_neg hcode']
      clear hM hI hcode'
      subst hM' hI'
      clear hcode
      simp only [List.length_nil] at l0 l1 p0 p1 m0 m1 HCL HCP HCR HK1 ⊢
      have hw0 : worthV 0 [] = 0 := by unfold worthV; split <;> rfl
      go_wp2_with fail
      have hwc := impl_worth 0 ra rc [] (w3.alloc (.cells #[.int .i64 0, .slice sa 0 sc] 25)) HCR.out (by simp)
      rw [hw0] at hwc
      refine (Calls.mono hwc) ?_
      rintro x w4 ⟨rfl, hk4⟩
      have HK4 := hide (HK1.out.trans hk4)
      clear hwc hk4
      go_wp2_with fail
      go_ret
      exact ⟨rfl, HK4.out⟩
theorem walk (a : Option Addr) (cap : Nat) (L : List UInt8) (w : World) (hc : Cells w a (bys L)) (hn : a = none → cap = 0) (hl : L.length ≤ 9223372036854775807) :
    Calls Try.prog 4 #[.slice a L.length cap] w fun e w' => e = .returned (.bool true) ∧ Keeps w w' := walkR a L.length cap w (rowAt_cells hc)

theorem own : ownKnob Try.prog.godebug = none := by kernel_rfl
theorem laidOut : laidOutB Try.prog = true := by kernel_rfl

set_option maxRecDepth 100000 in
theorem lifted (os : Os) (started : os.Started) (H : Type) (enc : TypeId × Value → H) :
    ReturnsInHanded {} Try.checked os 4 .any (Rows.fnWorthSpec.pre6 enc Try.prog Try.f4 Rows.fnWorthRow.domain false) (Rows.fnWorthSpec.post enc Try.prog Try.f4 false true false false) := by
  refine returnsInHanded_of_change (C := Try.checked) own started (by kernel_rfl) Try.func4
    (ChangeSpec.witness6 (enc := enc) (C := Try.checked) false ⟨#[], #[.slice none 0 0], []⟩ 8 (by kernel_rfl) (by kernel_rfl) (by kernel_rfl) (by kernel_rfl)) ?_
  intro W base args ds gs before hval0 hW hcnd _
  have hval : ∀ (j : Nat) t v, Try.f4.params[j]? = some t → args[j]? = some v → Value.okWide Try.prog W .any base t v := hval0
  have hW' := hW
  obtain ⟨p, q, hA0, hV, rfl, hfz, hnd⟩ := hW
  have hA : DataW.TrodAll enc Try.prog W 0 (fun _ => true) true Try.f4.params.toList args.toList ds p := hA0
  rw [Try.params4] at hA hval
  obtain ⟨v0, vs0, d0, ds0, p0, q0, hargs, rfl, rfl, h0, r0⟩ := trodAll_cons hA
  obtain ⟨rfl, rfl, rfl⟩ := trodAll_nil r0
  obtain rfl : args = #[v0] := by cases args; simp_all
  obtain ⟨rfl, rfl⟩ := trodVars_none hV
  have lt0 := lt_row h0
  have k0 := h0
  obtain ⟨a0, cap0, L0, rfl, hc0, hn0, hl0⟩ := bytes_row (hval 0 22 v0 rfl rfl) h0
  clear hA0 hval0
  refine (walk a0 cap0 L0 W hc0 hn0 hl0).mono fun e W' ⟨he, hb⟩ => ?_
  subst he
  refine ⟨_, rfl, _, _, _, [], (p0 ++ []), [], hW', ?_, ?_, ?_, Below.frame hb _, fun h => by cases h⟩
  · exact trodAll_mk1 (shut_bool Try.underlying4 _)
  · exact (trodAll_cons_mk (Below.trod laidOut (by kernel_rfl) (of_decide_eq_true (by kernel_rfl)) k0 hb lt0) trodAll_mk0)
  · exact rfl

theorem over : Rows.fnWorthRow.holds Try.pinned (OpenSpec.ofChange Rows.fnWorthSpec) :=
  OpenClaim.holds_of_wide 4 Try.f4 rfl rfl rfl rfl rfl rfl rfl ⟨rfl, rfl, rfl, rfl, rfl⟩ rfl rfl rfl rfl rfl (by kernel_rfl) Try.func4 (by kernel_rfl)
    (of_decide_eq_true (by kernel_rfl)) (by unfold Func.isWrapper; first | (rw [if_pos (by decide +kernel)]; kernel_rfl) | (rw [if_neg (by decide +kernel)]; exact ⟨rfl, rfl⟩))
    (fun os started H enc _ => lifted os started H enc)
end Go.Proofs.Ytecjjkgdgmjgmaa.fnWorth
namespace Go.Proofs.Ytecjjkgdgmjgmaa
theorem fnWorth_holds : Rows.FnWorthSaid := fnWorth.over
end Go.Proofs.Ytecjjkgdgmjgmaa
