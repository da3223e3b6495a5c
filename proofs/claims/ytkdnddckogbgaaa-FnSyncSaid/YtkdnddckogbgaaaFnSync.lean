/- FnSync: a disk that is synced keeps all through a crash. -/
import Derived.Test.YtkdnddckogbgaaaDsk
import Derived.Test.YtkdnddckogbgaaaSyM
import Derived.Test.YtkdnddckogbgaaaDCs
import Derived.Test.YtkdnddckogbgaaaDCm
import Derived.Test.YtkdnddckogbgaaaRows
import Derived.WalkKit
import Derived.ProofKit
import Derived.OpenShut
import Derived.ChangeOld
import Derived.Below
namespace Go.Proofs.Ytkdnddckogbgaaa.fnSync
open Go.ChangeShapes Go.WideShapes Go.ChangeAt Go.RowKit
set_option linter.unusedVariables false
theorem rowAt_cells {w : World} {a : Option Addr} {L : List UInt8} (h : Cells w a (bys L)) : RowAt w.heap.size w a L.length := by
  intro j hj
  rcases h with h | ⟨b, off, e, h⟩
  · have := bys_nil.1 h
    subst this
    simp at hj
  · have hj' : j < (bys L).length := by rw [bys_length]; exact hj
    have hc := h j hj'
    have e2 : (bys L)[j] = byV L[j] := by simp [bys]
    rw [e2] at hc
    have hb := L[j].toNat_lt
    exact ⟨b, off, _, e, lt_of_cell hc, by simp, by omega, hc⟩
set_option maxRecDepth 100000 in
set_option maxHeartbeats 8000000 in
theorem walkR (a : Option Addr) (len cap : Nat) (w : World) (hr : RowAt w.heap.size w a len) :
    Calls Try.prog 3 #[.slice a len cap] w fun e w' => e = .returned (.bool true) ∧ Keeps w w' := by
  have HRw := hide hr
  clear hr
  by_cases hl : 1048576 < len
  · go_enter Try.func3, Try.ntmps3
    go_wp2_with fail
    go_ret
    exact ⟨rfl, Keeps.refl _⟩
  · have HDr := hide (draw_disk a len cap w HRw.out (by omega))
    clear HRw
    go_enter Try.func3, Try.ntmps3
    go_wp2_with fail
    refine (unhide HDr).mono ?_
    rintro x w1 ⟨⟨v, M, rfl, hr, hM2, hM3⟩, hk1⟩
    obtain ⟨ca, cc, cs, da, dc, ds, rfl, he, hok, hna, hnd, hb⟩ := hr
    subst he
    have hc6 : cs.length ≤ 6 := by simpa [dat] using hM2
    have hkA := Keeps.alloc (Keeps.refl w1) (.cells #[.slice ca cs.length cc, .slice da ds.length dc] 26)
    have HK1 := hide (hk1.trans hkA)
    have HM := hide (hb.mem.kept hkA)
    have HOK := hide hok
    have hbA := born_alloc w1 #[.slice ca cs.length cc, .slice da ds.length dc] 26
    have d0 := cell_at hbA.mem 0 (by simp)
    have d1 := cell_at hbA.mem 1 (by simp)
    simp only [Nat.zero_add, List.getElem_cons_zero, List.getElem_cons_succ] at d0 d1
    clear HDr hb hna hnd hk1 hkA hok hbA
    go_wp2_with fail
    generalize w1.alloc (.cells #[.slice ca cs.length cc, .slice da ds.length dc] 26) = W1 at *
    generalize w1.heap.size = bD at *
    refine (disksync_impl ca cc cs da dc ds W1 HM.out HOK.out).mono ?_
    rintro x w2 ⟨v, rfl, hr, hk2⟩
    obtain ⟨ea, ec, es, fa, fc, fs, rfl, he, hoke, hnae, hnde, hbe⟩ := hr
    have hkB := Keeps.alloc (Keeps.refl w2) (.cells #[.slice ea es.length ec, .slice fa fs.length fc] 26)
    have HK2 := hide ((HK1.out.trans hk2).trans hkB)
    have HM2 := hide (HM.out.kept (hk2.trans hkB))
    have HME := hide (hbe.mem.kept hkB)
    have HOKe := hide hoke
    have HE := hide he
    replace d0 := (hk2.trans hkB).cell d0
    replace d1 := (hk2.trans hkB).cell d1
    have hbB := born_alloc w2 #[.slice ea es.length ec, .slice fa fs.length fc] 26
    have e0 := cell_at hbB.mem 0 (by simp)
    have e1 := cell_at hbB.mem 1 (by simp)
    simp only [Nat.zero_add, List.getElem_cons_zero, List.getElem_cons_succ] at e0 e1
    clear hk2 hkB hbe hbB hnae hnde hoke he HK1 HM
    go_wp2_with fail
    generalize w2.alloc (.cells #[.slice ea es.length ec, .slice fa fs.length fc] 26) = W2 at *
    generalize w2.heap.size = bE at *
    refine (diskok_spec' ca cc cs da dc ds W2 HM2.out HOK.out).mono ?_
    rintro x w3 ⟨rfl, hk3⟩
    have HK3 := hide (HK2.out.trans hk3)
    have HM3 := hide (HM2.out.kept hk3)
    have HME3 := hide (HME.out.kept hk3)
    replace d0 := hk3.cell d0
    replace d1 := hk3.cell d1
    replace e0 := hk3.cell e0
    replace e1 := hk3.cell e1
    have lD := lt_of_cell d0
    have lE := lt_of_cell e0
    clear hk3 HK2 HM2 HME
    cases hdk : dokM (dat cs ds)
    · have hes : es = [] := by
        have h := HE.out
        unfold crashM at h
        rw [hdk] at h
        have h2 := congrArg DkM.cells h
        simpa [dat, noneM] using h2
      have HDk := hide hdk
      subst hes
      clear hdk
      go_wp2_with fail
      refine (diskok_impl' ca cc cs da dc ds w3 HM3.out HOK.out).mono ?_
      rintro x w4 ⟨rfl, hk4⟩
      rw [HDk.out]
      have HK4 := hide (HK3.out.trans hk4)
      clear hk4
      go_wp2_with fail
      go_ret
      exact ⟨rfl, HK4.out⟩
    · have HDk := hide hdk
      obtain ⟨m1, m2, m3⟩ := dok_crash hdk (f := fun _ => 128) (fun _ => Nat.le_refl _)
      rw [← HE.out] at m1 m2 m3
      have hfs : fs = [] := by simpa [dat] using m3
      have hln : es.length = cs.length := by simpa [dat] using m2
      have HM1 := hide m1
      have HM3' := hide m3
      have HRd : Hid (∀ i : Nat, i < cs.length → readB (dat cs ds) (i : Int) = true ∧ readB (dat es fs) (i : Int) = true ∧ readL (dat es fs) (i : Int) = readL (dat cs ds) (i : Int)) := fun i hi => by
        have h := sync_read hdk (i := (i : Int)) (by omega) (by simp [dat]; omega)
        rw [← HE.out] at h
        exact h
      subst hfs
      have HKi := hide (Keeps.alloc (Keeps.refl w3) (.cells #[.int .i64 3, .int .i64 128] 3))
      have hcr := diskcrash_impl ea ec es fa fc [] (some ⟨w3.heap.size, 0, none⟩) 2 [3, 128] _ (HME3.out.kept HKi.out) HOKe.out (born_alloc w3 #[.int .i64 3, .int .i64 128] 3).toOwn.one (by simp)
      rw [crash_none HM1.out HM3'.out, hln] at hcr
      have HCr := hide hcr
      have HLn := hide hln
      rw [hln] at e0
      clear hdk m1 m2 m3 hcr hln
      simp only [List.length_nil] at e1
      go_wp2_with fail
      refine (unhide HCr).mono ?_
      rintro x w4 ⟨v, rfl, hr, hk4⟩
      obtain ⟨ga, gc, gs, ha, hc, hs, rfl, hg, hokg, hnag, hndg, hbg⟩ := hr
      have hkF := Keeps.alloc (Keeps.refl w4) (.cells #[.slice ga gs.length gc, .slice ha hs.length hc] 26)
      have hk5 := (HKi.out.trans hk4).trans hkF
      have HK5 := hide (HK3.out.trans hk5)
      have HM5 := hide (HM3.out.kept hk5)
      have HMG := hide (hbg.mem.kept hkF)
      have HOKg := hide hokg
      have HG := hide hg
      replace d0 := hk5.cell d0
      replace d1 := hk5.cell d1
      replace e0 := hk5.cell e0
      replace e1 := hk5.cell e1
      have hbF := born_alloc w4 #[.slice ga gs.length gc, .slice ha hs.length hc] 26
      have g0 := cell_at hbF.mem 0 (by simp)
      have g1 := cell_at hbF.mem 1 (by simp)
      simp only [Nat.zero_add, List.getElem_cons_zero, List.getElem_cons_succ] at g0 g1
      clear hk4 hkF hk5 hbg hbF hnag hndg hokg hg HK3 HM3 HCr HKi lD lE
      go_wp2_with fail
      generalize w4.alloc (.cells #[.slice ga gs.length gc, .slice ha hs.length hc] 26) = W5 at *
      generalize w4.heap.size = bF at *
      go_loopw [36] (fun y wr => ∃ k : Nat, k ≤ cs.length ∧ y = .int .i64 (k : Int) ∧ Hid (Keeps W5 wr)) (fun y _ => cs.length - (intOf y).toNat)
      case atStart => exact ⟨0, by omega, rfl, Keeps.refl _⟩
      case round =>
        obtain ⟨k, hk, rfl, HKr⟩ := hrel
        have p0 := HKr.out.cell d0
        have p1 := HKr.out.cell d1
        have r0 := HKr.out.cell g0
        have r1 := HKr.out.cell g1
        have s1 := HKr.out.cell e1
        by_cases hlt : k < cs.length
        · obtain ⟨b1, b2, be⟩ := HRd.out k hlt
          have HB1 := hide b1
          have HB2 := hide b2
          have HBe := hide be
          clear b1 b2 be
          go_wp2_with fail
          refine (diskread_impl ca cc cs da dc ds (k : Int) wr (HM5.out.kept HKr.out) HOK.out).mono ?_
          rintro x w6 ⟨v6, rfl, ho6, hk6⟩
          rw [HB1.out]
          obtain ⟨a6, c6, rfl, _, _, _, hown6, _⟩ := Own.of_owns ho6
          have HC6 := hide hown6.one
          have HK6 := hide (HKr.out.trans hk6)
          replace p0 := hk6.cell p0
          replace p1 := hk6.cell p1
          replace r0 := hk6.cell r0
          replace r1 := hk6.cell r1
          clear ho6 hown6 hk6
          go_wp2_with fail
          refine (diskread_impl ga gc gs ha hc hs (k : Int) w6 (HMG.out.kept HK6.out) HOKg.out).mono ?_
          rintro x w7 ⟨v7, rfl, ho7, hk7⟩
          rw [HG.out, HBe.out] at ho7
          rw [HG.out, HB2.out]
          obtain ⟨a7, c7, rfl, _, _, _, hown7, _⟩ := Own.of_owns ho7
          have HK7 := hide (HK6.out.trans hk7)
          have t6 := str_ownP (c := c6) rfl (HC6.out.kept hk7)
          have t7 := str_ownP (c := c7) rfl hown7.one
          clear ho7 hown7 hk7
          generalize readL (dat cs ds) (k : Int) = Z at *
          generalize Z.length = z at *
          go_wp2_with fail
          go_roundw
          case rel => exact ⟨k + 1, by omega, by go_num, HK7⟩
          case measure => simp [intOf]; omega
        · have HKe := hide (HK5.out.trans HKr.out)
          go_wp2_with fail
          go_ret
          exact ⟨rfl, HKe.out⟩
theorem walk (a : Option Addr) (cap : Nat) (L : List UInt8) (w : World) (hc : Cells w a (bys L)) (hn : a = none → cap = 0) (hl : L.length ≤ 9223372036854775807) :
    Calls Try.prog 3 #[.slice a L.length cap] w fun e w' => e = .returned (.bool true) ∧ Keeps w w' := walkR a L.length cap w (rowAt_cells hc)

theorem own : ownKnob Try.prog.godebug = none := by kernel_rfl
theorem laidOut : laidOutB Try.prog = true := by kernel_rfl

set_option maxRecDepth 100000 in
theorem lifted (os : Os) (started : os.Started) (H : Type) (enc : TypeId × Value → H) :
    ReturnsInHanded {} Try.checked os 3 .any (Rows.fnSyncSpec.pre6 enc Try.prog Try.f3 Rows.fnSyncRow.domain false) (Rows.fnSyncSpec.post enc Try.prog Try.f3 false true false false) := by
  refine returnsInHanded_of_change (C := Try.checked) own started (by kernel_rfl) Try.func3
    (ChangeSpec.witness6 (enc := enc) (C := Try.checked) false ⟨#[], #[.slice none 0 0], []⟩ 8 (by kernel_rfl) (by kernel_rfl) (by kernel_rfl) (by kernel_rfl)) ?_
  intro W base args ds gs before hval0 hW hcnd _
  have hval : ∀ (j : Nat) t v, Try.f3.params[j]? = some t → args[j]? = some v → Value.okWide Try.prog W .any base t v := hval0
  have hW' := hW
  obtain ⟨p, q, hA0, hV, rfl, hfz, hnd⟩ := hW
  have hA : DataW.TrodAll enc Try.prog W 0 (fun _ => true) true Try.f3.params.toList args.toList ds p := hA0
  rw [Try.params3] at hA hval
  obtain ⟨v0, vs0, d0, ds0, p0, q0, hargs, rfl, rfl, h0, r0⟩ := trodAll_cons hA
  obtain ⟨rfl, rfl, rfl⟩ := trodAll_nil r0
  obtain rfl : args = #[v0] := by cases args; simp_all
  obtain ⟨rfl, rfl⟩ := trodVars_none hV
  have lt0 := lt_row h0
  have k0 := h0
  obtain ⟨a0, cap0, L0, rfl, hc0, hn0, hl0⟩ := bytes_row (hval 0 22 v0 rfl rfl) h0
  clear hA0 hval0
  refine (walk a0 cap0 L0 W hc0 hn0 hl0).mono fun e W' ⟨he, hb⟩ => ?_
  subst he
  refine ⟨_, rfl, _, _, _, [], (p0 ++ []), [], hW', ?_, ?_, ?_, Below.frame hb _, fun h => by cases h⟩
  · exact trodAll_mk1 (shut_bool Try.underlying4 _)
  · exact (trodAll_cons_mk (Below.trod laidOut (by kernel_rfl) (of_decide_eq_true (by kernel_rfl)) k0 hb lt0) trodAll_mk0)
  · exact rfl

theorem over : Rows.fnSyncRow.holds Try.pinned (OpenSpec.ofChange Rows.fnSyncSpec) :=
  OpenClaim.holds_of_wide 3 Try.f3 rfl rfl rfl rfl rfl rfl rfl ⟨rfl, rfl, rfl, rfl, rfl⟩ rfl rfl rfl rfl rfl (by kernel_rfl) Try.func3 (by kernel_rfl)
    (of_decide_eq_true (by kernel_rfl)) (by unfold Func.isWrapper; first | (rw [if_pos (by decide +kernel)]; kernel_rfl) | (rw [if_neg (by decide +kernel)]; exact ⟨rfl, rfl⟩))
    (fun os started H enc _ => lifted os started H enc)
end Go.Proofs.Ytkdnddckogbgaaa.fnSync
namespace Go.Proofs.Ytkdnddckogbgaaa
theorem fnSync_holds : Rows.FnSyncSaid := fnSync.over
end Go.Proofs.Ytkdnddckogbgaaa
