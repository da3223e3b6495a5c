/- FnOpen: opening a log keeps its events, and its epoch is above all that lies there. -/
import Derived.Test.YtkdnddckogbgaaaGreatDoorFO34
import Derived.Test.YtkdnddckogbgaaaGreatDoorFO35
import Derived.Test.YtkdnddckogbgaaaGreatDoorFO30
import Derived.Test.YtkdnddckogbgaaaGreatDoorFO29
import Derived.Test.YtkdnddckogbgaaaGreatDoorFO31
import Derived.Test.YtkdnddckogbgaaaGreatDoorCards
import Derived.Test.YtkdnddckogbgaaaGreatDoorTie
import Derived.WalkKit
import Derived.ProofKit
import Derived.OpenShut
import Derived.ShutString
import Derived.LaidMore
import Derived.Stop.Joined
import Derived.SevenTiedAt
import Derived.ChangeOld
import Derived.Below
namespace Go.Proofs.YtkdnddckogbgaaaGreatDoor.fnOpen
open Go.ChangeShapes Go.WideShapes Go.ChangeAt Go.RowKit
open Go.ChangeMaps (open_string shut_string)
set_option linter.unusedVariables false
theorem own : ownKnob Tryz.prog.godebug = none := by kernel_rfl
theorem laidOut : laidOutB Tryz.prog = true := by kernel_rfl
theorem gGaveUp : Tryz.prog.globalNamed "loop.example/g00400/impl.errGaveUp" = some 0 := by kernel_rfl
theorem tGaveUp : (Tryz.prog.globals[0]?).map (·.type) = some 168 := by kernel_rfl
theorem door_met (os : Os) (args : Array Value) : laidMetH Tryz.prog Rows.fnOpenRow.laid ((World.doorLaid Tryz.prog 172 os).forCall (fun _ _ => 0) ⟨#[], args, []⟩).memory :=
  laidMetH_of_parts3 (fuel := 8) (laidMet_of_run' 8 (by kernel_rfl) (by kernel_rfl)) (by kernel_rfl) (by kernel_rfl)

set_option maxRecDepth 100000 in
set_option maxHeartbeats 8000000 in
theorem walk (a : Option Addr) (len cap : Nat) (w : World) (hr : RowAt w.heap.size w a len) (u : TypeId) (pv : Value) (hv : w.cell? ⟨0, 0, none⟩ = some (.iface u pv)) :
    Calls Tryz.prog 4 #[.slice a len cap] w fun e w' => e = .returned (.bool true) ∧ Keeps w w' := by
  have HV := hide hv
  have HRw := hide hr
  clear hv hr
  by_cases hl : 1048576 < len
  · go_enter Tryz.func4, Tryz.ntmps4
    go_wp2_with fail
    go_ret
    exact ⟨rfl, Keeps.refl _⟩
  · have HDr := hide (draw_open a len cap w HRw.out (by omega))
    clear HRw
    go_enter Tryz.func4, Tryz.ntmps4
    go_wp2_with fail
    refine (unhide HDr).mono ?_
    rintro x w1 ⟨⟨v, M, rfl, hr⟩, hk1⟩
    obtain ⟨ca, cc, cs, da, dc, ds, rfl, he, hok, hna, hnd, hb⟩ := hr
    have hkA := Keeps.alloc (Keeps.refl w1) (.cells #[.slice ca cs.length cc, .slice da ds.length dc] 26)
    have HK1 := hide (hk1.trans hkA)
    have HM := hide (hb.mem.kept hkA)
    have HOK := hide hok
    have HE : Hid (dat cs ds = M) := he
    have hbA := born_alloc w1 #[.slice ca cs.length cc, .slice da ds.length dc] 26
    have d0 := cell_at hbA.mem 0 (by simp)
    have d1 := cell_at hbA.mem 1 (by simp)
    simp only [Nat.zero_add, List.getElem_cons_zero, List.getElem_cons_succ] at d0 d1
    clear HDr hb hna hnd hk1 hkA hok hbA he
    go_wp2_with fail
    generalize w1.alloc (.cells #[.slice ca cs.length cc, .slice da ds.length dc] 26) = W1 at *
    generalize w1.heap.size = bD at *
    have lD := lt_of_cell d0
    refine (logopen_impl ca cc cs da dc ds W1 u pv (HK1.out.cell HV.out) HM.out HOK.out).mono ?_
    rintro x w2 ⟨ca', cc', cs', da', dc', ds', ea, ec, rfl, he2, hok2, hna2, hnd2, hb2, hk2⟩
    rw [HE.out] at he2 ⊢
    have hkB := Keeps.alloc (Keeps.refl w2) (.cells #[.slice ca' cs'.length cc', .slice da' ds'.length dc', .int .i64 (opN M), .int .i64 (opE M)] 28)
    have HK2 := hide (HK1.out.trans (hk2.trans hkB))
    have HM2 := hide (HM.out.kept (hk2.trans hkB))
    have HML := hide (hb2.toOwn.left.mem.kept hkB)
    have HOK2 := hide hok2
    have HE2 := hide he2
    replace d0 := (hk2.trans hkB).cell d0
    replace d1 := (hk2.trans hkB).cell d1
    have hbB := born_alloc w2 #[.slice ca' cs'.length cc', .slice da' ds'.length dc', .int .i64 (opN M), .int .i64 (opE M)] 28
    have e0 := cell_at hbB.mem 0 (by simp)
    have e1 := cell_at hbB.mem 1 (by simp)
    have e2 := cell_at hbB.mem 2 (by simp)
    have e3 := cell_at hbB.mem 3 (by simp)
    simp only [Nat.zero_add, List.getElem_cons_zero, List.getElem_cons_succ] at e0 e1 e2 e3
    clear hk2 hkB hb2 hok2 hna2 hnd2 he2 hbB HK1 HM
    go_wp2_with fail
    generalize w2.alloc (.cells #[.slice ca' cs'.length cc', .slice da' ds'.length dc', .int .i64 (opN M), .int .i64 (opE M)] 28) = W2 at *
    generalize w2.heap.size = bL at *
    refine (logopen_spec ca cc cs da dc ds W2 HM2.out HOK.out).mono ?_
    rintro x w3 ⟨ca2, cc2, cs2, da2, dc2, ds2, ea2, ec2, rfl, _, _, _, _, _, hk3⟩
    rw [HE.out]
    have HK3 := hide (HK2.out.trans hk3)
    have HM3 := hide (HM2.out.kept hk3)
    have HML3 := hide (HML.out.kept hk3)
    replace d0 := hk3.cell d0
    replace d1 := hk3.cell d1
    replace e0 := hk3.cell e0
    replace e1 := hk3.cell e1
    replace e2 := hk3.cell e2
    replace e3 := hk3.cell e3
    have lD := lt_of_cell d0
    have lL := lt_of_cell e0
    clear hk3 HK2 HM2 HML
    by_cases hc : opC M = 0
    · obtain ⟨ha1, ha2, ha3⟩ := op_all hc
      obtain ⟨_, _, _, htop⟩ := op_cells hc
      obtain ⟨htop0, _⟩ := topM_bound M
      obtain ⟨X, hX⟩ : ∃ X, opN M = X := ⟨_, rfl⟩
      obtain ⟨Y, hY⟩ : ∃ Y, opE M = Y := ⟨_, rfl⟩
      obtain ⟨NE, hNE⟩ : ∃ NE, (opV M).length = NE := ⟨_, rfl⟩
      obtain ⟨T, hT⟩ : ∃ T, topM M = T := ⟨_, rfl⟩
      have HLS : Hid ((evsTo (dat cs ds) (logN (dat cs ds))).length = NE) := by show _ = _; rw [HE.out, ← hNE]; unfold opV; rw [if_pos hc]
      have HLN : Hid ((evsTo (dat cs' ds') (logN (dat cs' ds'))).length = NE) := by show _ = _; rw [HE2.out, ha1, ha2, ← hNE]; unfold opV; rw [if_pos hc]
      have HLX : Hid (((logN (dat cs' ds') : Nat) : Int) = X) := by show _ = _; rw [HE2.out, ha1, ← hX]; unfold opN; rw [if_pos hc]; simp
      have hYT : Y = T + 1 := by rw [← hY, ← hT]; unfold opE; rw [if_pos hc]
      have HTS : Hid (topM (dat cs ds) = T) := by show _ = _; rw [HE.out, hT]
      have HTN : Hid (topM (dat cs' ds') = Y) := by show _ = _; rw [HE2.out, ha3, hYT, hT]
      rw [hX] at e2
      rw [hY] at e3
      rw [hX, hY, hNE, hc]
      rw [hT] at htop htop0
      subst hYT
      clear hX hY hNE hT ha1 ha2 ha3 hc HE HE2
      have hkC := Keeps.alloc (Keeps.refl w3) (.cells #[.slice ca2 cs2.length cc2, .slice da2 ds2.length dc2, .int .i64 X, .int .i64 (T + 1)] 28)
      have HK4 := hide (HK3.out.trans hkC)
      have HM4 := hide (HM3.out.kept hkC)
      have HML4 := hide (HML3.out.kept hkC)
      replace d0 := hkC.cell d0
      replace d1 := hkC.cell d1
      replace e0 := hkC.cell e0
      replace e1 := hkC.cell e1
      replace e2 := hkC.cell e2
      replace e3 := hkC.cell e3
      clear hkC HK3 HM3 HML3
      go_wp2_with fail
      generalize w3.alloc (.cells #[.slice ca2 cs2.length cc2, .slice da2 ds2.length dc2, .int .i64 X, .int .i64 (T + 1)] 28) = W4 at *
      refine (logevents_impl ca' cc' cs' da' dc' ds' W4 u pv (HK4.out.cell HV.out) HML4.out HOK2.out).mono ?_
      rintro x w5 ⟨la, lc, rfl, _, hk⟩
      rw [HLN.out]
      have HK5 := hide (HK4.out.trans hk)
      have HM5 := hide (HM4.out.kept hk)
      have HML5 := hide (HML4.out.kept hk)
      replace d0 := hk.cell d0
      replace d1 := hk.cell d1
      replace e0 := hk.cell e0
      replace e1 := hk.cell e1
      replace e2 := hk.cell e2
      replace e3 := hk.cell e3
      clear hk HK4 HM4 HML4
      go_wp2_with fail
      refine (logread_impl ca' cc' cs' da' dc' ds' w5 u pv (HK5.out.cell HV.out) HML5.out HOK2.out).mono ?_
      rintro x w6 ⟨ra, rc, nb, rfl, _, _, _, hk⟩
      rw [HLX.out]
      have HK6 := hide (HK5.out.trans hk)
      have HM6 := hide (HM5.out.kept hk)
      have HML6 := hide (HML5.out.kept hk)
      replace d0 := hk.cell d0
      replace d1 := hk.cell d1
      replace e0 := hk.cell e0
      replace e1 := hk.cell e1
      replace e2 := hk.cell e2
      replace e3 := hk.cell e3
      clear hk HK5 HM5 HML5
      have hwr : IntKind.i64.wrap (T + 1) = T + 1 := by rw [IntKind.wrap_i64]; omega
      go_wp2_with fail
      go_region_held3 (fun w' => w'.cell? ⟨bD, 0, none⟩ = some (.slice ca cs.length cc) ∧ w'.cell? ⟨bD, 1, none⟩ = some (.slice da ds.length dc) ∧ w'.cell? ⟨bL, 0, none⟩ = some (.slice ca' cs'.length cc') ∧ w'.cell? ⟨bL, 1, none⟩ = some (.slice da' ds'.length dc') ∧ w'.cell? ⟨bL, 2, none⟩ = some (.int .i64 X) ∧ w'.cell? ⟨bL, 3, none⟩ = some (.int .i64 (T + 1))) (go_keep)
        (first
           | (go_at_call 18
              refine (logevents_spec ca cc cs da dc ds _ (HM6.out.kept ((Keeps.refl w6).drew)) HOK.out).mono ?_
              rintro x w7 ⟨ba, bc, rfl, _, hk⟩
              rw [HLS.out]
              replace hk := ((Keeps.refl w6).drew).trans hk
              have HK7 := hide (HK6.out.trans hk)
              have HM7 := hide (HM6.out.kept hk)
              have HML7 := hide (HML6.out.kept hk)
              replace d0 := hk.cell d0
              replace d1 := hk.cell d1
              replace e0 := hk.cell e0
              replace e1 := hk.cell e1
              replace e2 := hk.cell e2
              replace e3 := hk.cell e3
              clear hk)
           | (go_at_call 19
              first
                | (have h8 := HK8.out
                   clear h8
                   refine (logtop_impl ca' cc' cs' da' dc' ds' _ u pv (HK8.out.cell HV.out) HML8.out HOK2.out).mono ?_
                   rintro x w9 ⟨rfl, hk⟩
                   rw [HTN.out]
                   have HK9 := hide (HK8.out.trans hk)
                   have HM9 := hide (HM8.out.kept hk)
                   have HML9 := hide (HML8.out.kept hk)
                   replace d0 := hk.cell d0
                   replace d1 := hk.cell d1
                   replace e0 := hk.cell e0
                   replace e1 := hk.cell e1
                   replace e2 := hk.cell e2
                   replace e3 := hk.cell e3
                   clear hk)
                | (refine (logtop_impl ca cc cs da dc ds _ u pv (HK7.out.cell HV.out) HM7.out HOK.out).mono ?_
                   rintro x w8 ⟨rfl, hk⟩
                   rw [HTS.out]
                   have HK8 := hide (HK7.out.trans hk)
                   have HM8 := hide (HM7.out.kept hk)
                   have HML8 := hide (HML7.out.kept hk)
                   replace d0 := hk.cell d0
                   replace d1 := hk.cell d1
                   replace e0 := hk.cell e0
                   replace e1 := hk.cell e1
                   replace e2 := hk.cell e2
                   replace e3 := hk.cell e3
                   clear hk)))
      go_wp2_with fail
      go_ret
      exact ⟨rfl, HK9.out⟩
    · have hv0 : opV M = [] := by unfold opV; rw [if_neg hc]
      have hc' : (opC M == 0) = false := beq_eq_false_iff_ne.2 hc
      rw [hv0]
      generalize opC M = C at *
      generalize opN M = X at *
      generalize opE M = Y at *
      go_wp2_with fail
      go_ret
      exact ⟨rfl, Keeps.alloc HK3.out _⟩

set_option maxRecDepth 100000 in
theorem lifted (os : Os) (started : os.Started) (H : Type) (enc : TypeId × Value → H) :
    ReturnsInHanded {} Tryz.checked os 4 .any (fun w args => (Rows.fnOpenSpec.pre enc Tryz.prog Tryz.f4 [] false w args ∧ laidMetH Tryz.prog Rows.fnOpenRow.laid w) ∧ sizedMet enc Tryz.prog Tryz.f4 (OpenSpec.ofChange Rows.fnOpenSpec) false w args)
      (Rows.fnOpenSpec.post enc Tryz.prog Tryz.f4 false true false false) := by
  refine returnsInHanded_of_change_and (C := Tryz.checked) (X := fun w _ => laidMetH Tryz.prog Rows.fnOpenRow.laid w) (fun _ _ _ hh h => h.of_heap hh) own started (by kernel_rfl) Tryz.func4
    (ChangeSpec.witness_shaped (enc := enc) (C := Tryz.checked) (os := os) (X := fun w _ => laidMetH Tryz.prog Rows.fnOpenRow.laid w) false (World.doorLaid Tryz.prog 172 os) #[.slice none 0 0] 8 rfl (World.shaped_of_RefB (by kernel_rfl) (by kernel_rfl)) (by kernel_rfl) (by kernel_rfl) (by kernel_rfl) (door_met os _)) ?_
  intro W base args ds gs before hval0 hW _ hsz hL _
  have hval : ∀ (j : Nat) t v, Tryz.f4.params[j]? = some t → args[j]? = some v → Value.okWide Tryz.prog W .any base t v := hval0
  have hW' := hW
  obtain ⟨p, q, hA0, hV0, rfl, hfz, hnd⟩ := hW
  have hA : DataW.TrodAll enc Tryz.prog W 0 (fun _ => true) true Tryz.f4.params.toList args.toList ds p := hA0
  have hV : DataW.TrodVars enc Tryz.prog W (fun _ => true) ["loop.example/g00400/impl.errGaveUp"] gs q := hV0
  rw [Tryz.params4] at hA hval
  obtain ⟨v0, vs0, d0, ds0, p0, q0, hargs, rfl, rfl, h0, r0⟩ := trodAll_cons hA
  obtain ⟨rfl, rfl, rfl⟩ := trodAll_nil r0
  obtain rfl : args = #[v0] := by cases args; simp_all
  have k0 := h0
  have lt0 : ∀ x ∈ p0, x.block < W.heap.size := by obtain ⟨m, hm⟩ := k0; exact DataW.trod_lt m _ _ _ hm
  obtain ⟨a0, len0, cap0, rfl⟩ := okWide_slice Tryz.underlying22 (hval 0 22 v0 rfl rfl)
  have w0 : RowAt W.heap.size W a0 len0 := by
    obtain ⟨fuel, hf⟩ := h0
    rcases open_ints Tryz.underlying22 Tryz.underlying5 (by kernel_rfl) hf with ⟨hcs, _⟩ | ⟨x, l, c, zs, hcs, _, hl, hm, hz, _, hcell, hwz⟩
    · simp [Value.cells] at hcs
      obtain ⟨rfl, rfl, rfl⟩ := hcs
      exact row_nil
    · simp [Value.cells] at hcs
      obtain ⟨rfl, rfl, rfl⟩ := hcs
      exact row_of hl (by simpa using hz) hcell hwz
  have hL0 : laidMet Tryz.prog Rows.fnOpenRow.laid W := by rw [← MakeChecks.laidMetH_plain _ _ _ (by kernel_rfl)]; exact hL
  obtain ⟨xGaveUp, hvGaveUp⟩ := sent hL0 gGaveUp tGaveUp
  obtain ⟨rfl, rfl⟩ := hV.unique (vars_read1 enc gGaveUp tGaveUp Tryz.underlying168 hvGaveUp trivial _)
  clear hA0 hV0 hval0
  refine (walk a0 len0 cap0 W w0 _ _ (cell_of_var gGaveUp hvGaveUp)).mono fun e W' ⟨he, hb⟩ => ?_
  subst he
  refine ⟨_, rfl, _, _, _, [], (p0 ++ []), [.cell 0 0], hW', ?_, ?_, ?_, Below.frame hb _, fun h => by cases h⟩
  · exact trodAll_mk1 (shut_bool Tryz.underlying4 _)
  · exact (trodAll_cons_mk (Below.trod laidOut (by kernel_rfl) (of_decide_eq_true (by kernel_rfl)) k0 hb lt0) trodAll_mk0)
  · exact vars_read1 enc gGaveUp tGaveUp Tryz.underlying168 (var_kept hb hvGaveUp) trivial _

theorem over : Rows.FnOpenSaid :=
  OpenClaim.holds_of_wide 4 Tryz.f4 rfl rfl rfl rfl rfl rfl rfl ⟨rfl, rfl, rfl, rfl, rfl⟩ rfl rfl rfl rfl rfl (by kernel_rfl) Tryz.func4 (by kernel_rfl)
    (of_decide_eq_true (by kernel_rfl)) (by unfold Func.isWrapper; first | (rw [if_pos (by decide +kernel)]; kernel_rfl) | (rw [if_neg (by decide +kernel)]; exact ⟨rfl, rfl⟩))
    (fun os started H enc _ => lifted os started H enc)
end Go.Proofs.YtkdnddckogbgaaaGreatDoor.fnOpen
namespace Go.Proofs.YtkdnddckogbgaaaGreatDoor
theorem fnOpen_holds : Rows.FnOpenCardSaid :=
  Claim7.holds_tied_plain_at .later [] Rows.fnOpenCard.laidKinds true Rows.fnOpenCard.stood.harness true
    fnOpen.over (fun _ h => by cases h) (by kernel_rfl) (fun _ h => by cases h) fnOpen_row_tie rfl ⟨rfl, rfl⟩ (by kernel_rfl) rfl
    (fun f fn hf hfn => by
      obtain rfl : f = 4 := Option.some.inj ((show Tryz.prog.funcNamed Rows.fnOpenRow.func = some 4 by kernel_rfl).symm.trans hf) |>.symm
      obtain rfl : fn = Tryz.f4 := (Option.some.inj (Tryz.func4.symm.trans hfn)).symm
      exact ⟨by kernel_rfl, fun j t ht => by
        rw [Tryz.params4] at ht
        have hm : t ∈ [22] := by simpa using Array.mem_of_getElem? ht
        have hall : ([22].all fun u => !Tryz.prog.wantsStandIn u) = true := by kernel_rfl
        exact (show Tryz.prog.wantsStandIn t = false by simpa using List.all_eq_true.1 hall t hm)⟩)
    (by kernel_rfl)
end Go.Proofs.YtkdnddckogbgaaaGreatDoor
