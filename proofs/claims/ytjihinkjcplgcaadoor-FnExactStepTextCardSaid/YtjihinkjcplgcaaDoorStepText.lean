/- Of every step: the program's StepText answers the text that the model's StepText answers, and changes nothing of the step. -/
import Derived.Test.YtjihinkjcplgcaaDoorStH
import Derived.Test.YtjihinkjcplgcaaDoorStT
import Derived.Test.YtjihinkjcplgcaaDoorStJ
import Derived.Test.YtjihinkjcplgcaaDoorCards
import Derived.Test.YtjihinkjcplgcaaDoorTie
import Derived.WalkKit
import Derived.ProofKit
import Derived.OpenShut
import Derived.ShutString
import Derived.LaidMore
import Derived.Stop.Joined
import Derived.SevenTiedAt
import Derived.ChangeOld
import Derived.Below
namespace Go.Proofs.YtjihinkjcplgcaaDoor.fnExactStepText
open Go.ChangeShapes Go.WideShapes Go.ChangeAt Go.RowKit
open Go.ChangeMaps (open_string shut_string)
set_option linter.unusedVariables false
theorem own : ownKnob Tryd.prog.godebug = none := by kernel_rfl
theorem laidOut : laidOutB Tryd.prog = true := by kernel_rfl
theorem door_met (os : Os) (args : Array Value) : laidMetH Tryd.prog Rows.fnExactStepTextRow.laid ((World.doorLaid Tryd.prog 113 os).forCall (fun _ _ => 0) ⟨#[], args, []⟩).memory :=
  laidMetH_of_parts3 (fuel := 8) (laidMet_of_run' 8 (by kernel_rfl) (by kernel_rfl)) (by kernel_rfl) (by kernel_rfl)

set_option maxHeartbeats 8000000 in
theorem walk (D : Stp) (a : Option Addr) (c : Nat) (w : World) (hc : Cells w a (its D.ks)) (hl : D.ks.length ≤ 9223372036854775807) (ht : Tab w) :
    Calls Tryd.prog 3 #[D.v a c] w fun e w' => e = .returned (.bool true) ∧ Keeps w w' := by
  have HA := hide (stp_box D a c w 28)
  have HKA := hide (Keeps.alloc (Keeps.refl w) (.cells (D.cells a c) 28))
  have HT := hide ht
  have HC := hide hc
  obtain ⟨TX, hTX⟩ : ∃ TX : ByteArray, (⟨(stL D).toArray⟩ : ByteArray) = TX := ⟨_, rfl⟩
  have HSP := hide (fun a c w' (hc : Cells w' a (its D.ks)) (hl : D.ks.length ≤ 1048576) => steps_spec D a c w' hc hl)
  have HIM := hide (fun a c w' (hc : Cells w' a (its D.ks)) (hl : D.ks.length ≤ 1048576) (ht : Tab w') => stept_impl D a c w' hc hl ht)
  rw [hTX] at HSP HIM
  have HSZ := hide (fun w' => szStep_k D a c w' hl)
  clear hc ht hTX hl
  go_enter Tryd.func3, Tryd.ntmps3
  go_wp2_with fail
  generalize w.alloc (.cells (D.cells a c) 28) = wA at *
  generalize w.heap.size = BA at HA ⊢
  refine (unhide HSZ wA).mono ?_
  rintro x w2 ⟨r, rfl, hr, hk2⟩
  have HK2 := hide (HKA.out.trans hk2)
  have HA2 := hide hk2
  clear hk2 HSZ
  by_cases hr0 : r < 0
  · go_wp2_with fail
    go_ret
    exact ⟨rfl, HK2.out⟩
  have HL := hide (hr (by omega))
  clear hr
  obtain ⟨c0, ⟨c1, c2, c3, c4, c5, c6, c7⟩, c8, c9, c10, c11, c12, c13⟩ := HA.out w2 HA2.out
  go_wp2_with fail
  refine (toStep_k D a c w2 (HC.out.kept HK2.out) HL.out).mono ?_
  rintro x w3 ⟨b1, rfl, hb1, hk3⟩
  have HK3 := hide (HK2.out.trans hk3)
  have HA3 := hide (HA2.out.trans hk3)
  have HC1 := hide (hb1.toOwn.mem (some ⟨b1, 0, none⟩, its D.ks) (by simp))
  clear hb1 hk3 HK2 HA2 c0 c1 c2 c3 c4 c5 c6 c7 c8 c9 c10 c11 c12 c13
  go_wp2_with fail
  refine (unhide HSP _ _ w3 HC1.out HL.out).mono ?_
  rintro x w4 ⟨rfl, hk4⟩
  have HK4 := hide (HK3.out.trans hk4)
  have HA4 := hide (HA3.out.trans hk4)
  clear hk4 HK3 HA3 HSP HC1
  obtain ⟨c0, ⟨c1, c2, c3, c4, c5, c6, c7⟩, c8, c9, c10, c11, c12, c13⟩ := HA.out w4 HA4.out
  go_wp2_with fail
  refine (toStep_k D a c w4 (HC.out.kept HK4.out) HL.out).mono ?_
  rintro x w5 ⟨b2, rfl, hb2, hk5⟩
  have HX := hide (stp_box D (some ⟨b2, 0, none⟩) D.ks.length w5 34)
  have hkX := Keeps.alloc (Keeps.refl w5) (.cells (D.cells (some ⟨b2, 0, none⟩) D.ks.length) 34)
  have HK6 := hide ((HK4.out.trans hk5).trans hkX)
  have HA6 := hide ((HA4.out.trans hk5).trans hkX)
  have HC6 := hide ((hb2.toOwn.mem (some ⟨b2, 0, none⟩, its D.ks) (by simp)).kept hkX)
  clear hb2 hk5 hkX HK4 HA4 c0 c1 c2 c3 c4 c5 c6 c7 c8 c9 c10 c11 c12 c13
  go_wp2_with fail
  generalize w5.alloc (.cells (D.cells (some ⟨b2, 0, none⟩) D.ks.length) 34) = w6 at *
  generalize w5.heap.size = BX at HX ⊢
  refine (unhide HIM _ _ w6 HC6.out HL.out (HT.out.kept HK6.out)).mono ?_
  rintro x w7 ⟨rfl, hk7⟩
  have HK7 := hide (HK6.out.trans hk7)
  have HA7 := hide (HA6.out.trans hk7)
  have HX7 := hide hk7
  have HC7 := hide (HC6.out.kept hk7)
  clear hk7 HK6 HA6 HC6 HIM
  obtain ⟨c0, ⟨c1, c2, c3, c4, c5, c6, c7⟩, c8, c9, c10, c11, c12, c13⟩ := HA.out w7 HA7.out
  obtain ⟨d0, ⟨d1, d2, d3, d4, d5, d6, d7⟩, d8, d9, d10, d11, d12, d13⟩ := HX.out w7 HX7.out
  have lA := lt_of_cell c0
  have lX := lt_of_cell d0
  go_wp2_with fail
  go_region_held3 (fun w' => w'.cell? ⟨BA, 0, none⟩ = some (.int .i64 D.k) ∧ w'.cell? ⟨BA, 1, none⟩ = some (.int .i64 D.e.k) ∧ w'.cell? ⟨BA, 2, none⟩ = some (.int .i64 D.e.y) ∧ w'.cell? ⟨BA, 3, none⟩ = some (.int .i64 D.e.c) ∧ w'.cell? ⟨BA, 4, none⟩ = some (.int .i64 D.e.t) ∧ w'.cell? ⟨BA, 5, none⟩ = some (.int .i64 D.e.m) ∧ w'.cell? ⟨BA, 6, none⟩ = some (.int .i64 D.e.f) ∧ w'.cell? ⟨BA, 7, none⟩ = some (.bool D.e.b) ∧ w'.cell? ⟨BA, 8, none⟩ = some (.slice a D.ks.length c) ∧ w'.cell? ⟨BA, 9, none⟩ = some (.int .i64 D.r.lo) ∧ w'.cell? ⟨BA, 10, none⟩ = some (.int .i64 D.r.hi) ∧ w'.cell? ⟨BA, 11, none⟩ = some (.int .i64 D.r.st) ∧ w'.cell? ⟨BA, 12, none⟩ = some (.int .i64 D.r.mi) ∧ w'.cell? ⟨BA, 13, none⟩ = some (.int .i64 D.r.ma) ∧ w'.cell? ⟨BX, 0, none⟩ = some (.int .i64 D.k) ∧ w'.cell? ⟨BX, 1, none⟩ = some (.int .i64 D.e.k) ∧ w'.cell? ⟨BX, 2, none⟩ = some (.int .i64 D.e.y) ∧ w'.cell? ⟨BX, 3, none⟩ = some (.int .i64 D.e.c) ∧ w'.cell? ⟨BX, 4, none⟩ = some (.int .i64 D.e.t) ∧ w'.cell? ⟨BX, 5, none⟩ = some (.int .i64 D.e.m) ∧ w'.cell? ⟨BX, 6, none⟩ = some (.int .i64 D.e.f) ∧ w'.cell? ⟨BX, 7, none⟩ = some (.bool D.e.b) ∧ w'.cell? ⟨BX, 8, none⟩ = some (.slice (some ⟨b2, 0, none⟩) D.ks.length D.ks.length) ∧ w'.cell? ⟨BX, 9, none⟩ = some (.int .i64 D.r.lo) ∧ w'.cell? ⟨BX, 10, none⟩ = some (.int .i64 D.r.hi) ∧ w'.cell? ⟨BX, 11, none⟩ = some (.int .i64 D.r.st) ∧ w'.cell? ⟨BX, 12, none⟩ = some (.int .i64 D.r.mi) ∧ w'.cell? ⟨BX, 13, none⟩ = some (.int .i64 D.r.ma)) (go_keep)
    (first
       | (go_at_call 6
          refine (toStep_k D a c _ (HC.out.kept (HK7.out.trans (Keeps.refl w7).drew)) HL.out).mono ?_
          rintro x w8 ⟨b3, rfl, hb3, hk8⟩
          replace hb3 := hb3.old ((Keeps.refl w7).drew)
          replace hk8 := ((Keeps.refl w7).drew).trans hk8
          have HK8 := hide (HK7.out.trans hk8)
          have HC8 := hide (HC7.out.kept hk8)
          have HC9 := hide (hb3.toOwn.mem (some ⟨b3, 0, none⟩, its D.ks) (by simp))
          have hca := HA.out w8 (HA7.out.trans hk8)
          have hcx := HX.out w8 (HX7.out.trans hk8)
          clear hb3 hk8 c0 c1 c2 c3 c4 c5 c6 c7 c8 c9 c10 c11 c12 c13 d0 d1 d2 d3 d4 d5 d6 d7 d8 d9 d10 d11 d12 d13 lA lX
          obtain ⟨c0, ⟨c1, c2, c3, c4, c5, c6, c7⟩, c8, c9, c10, c11, c12, c13⟩ := hca
          obtain ⟨d0, ⟨d1, d2, d3, d4, d5, d6, d7⟩, d8, d9, d10, d11, d12, d13⟩ := hcx
          have lA := lt_of_cell c0
          have lX := lt_of_cell d0)
       | (go_at_call 8
          refine (eqStep_k D (some ⟨b2, 0, none⟩) (some ⟨b3, 0, none⟩) D.ks.length D.ks.length w8 HC8.out HC9.out HL.out).mono ?_
          rintro x w9 ⟨rfl, hk9⟩
          have HK9 := hide (HK8.out.trans hk9)
          have hca := Keeps.cells14 hk9 c0 c1 c2 c3 c4 c5 c6 c7 c8 c9 c10 c11 c12 c13
          have hcx := Keeps.cells14 hk9 d0 d1 d2 d3 d4 d5 d6 d7 d8 d9 d10 d11 d12 d13
          clear hk9 c0 c1 c2 c3 c4 c5 c6 c7 c8 c9 c10 c11 c12 c13 d0 d1 d2 d3 d4 d5 d6 d7 d8 d9 d10 d11 d12 d13 lA lX
          obtain ⟨c0, c1, c2, c3, c4, c5, c6, c7, c8, c9, c10, c11, c12, c13⟩ := hca
          obtain ⟨d0, d1, d2, d3, d4, d5, d6, d7, d8, d9, d10, d11, d12, d13⟩ := hcx
          have lA := lt_of_cell c0
          have lX := lt_of_cell d0))
  go_wp2_with fail
  go_ret
  exact ⟨rfl, HK9.out⟩

set_option maxRecDepth 100000 in
theorem lifted (os : Os) (started : os.Started) (H : Type) (enc : TypeId × Value → H) :
    ReturnsInHanded {} Tryd.checked os 3 .any (fun w args => (Rows.fnExactStepTextSpec.pre enc Tryd.prog Tryd.f3 [] false w args ∧ laidMetH Tryd.prog Rows.fnExactStepTextRow.laid w) ∧ sizedMet enc Tryd.prog Tryd.f3 (OpenSpec.ofChange Rows.fnExactStepTextSpec) false w args)
      (Rows.fnExactStepTextSpec.post enc Tryd.prog Tryd.f3 false true false false) := by
  refine returnsInHanded_of_change_and (C := Tryd.checked) (X := fun w _ => laidMetH Tryd.prog Rows.fnExactStepTextRow.laid w) (fun _ _ _ hh h => h.of_heap hh) own started (by kernel_rfl) Tryd.func3
    (ChangeSpec.witness_shaped (enc := enc) (C := Tryd.checked) (os := os) (X := fun w _ => laidMetH Tryd.prog Rows.fnExactStepTextRow.laid w) false (World.doorLaid Tryd.prog 113 os) #[.agg #[.int .i64 0, .int .i64 0, .int .i64 0, .int .i64 0, .int .i64 0, .int .i64 0, .int .i64 0, .bool false, .slice none 0 0, .int .i64 0, .int .i64 0, .int .i64 0, .int .i64 0, .int .i64 0]] 8 rfl (World.shaped_of_RefB (by kernel_rfl) (by kernel_rfl)) (by kernel_rfl) (by kernel_rfl) (by kernel_rfl) (door_met os _)) ?_
  intro W base args ds gs before hval0 hW _ hsz hL _
  have hval : ∀ (j : Nat) t v, Tryd.f3.params[j]? = some t → args[j]? = some v → Value.okWide Tryd.prog W .any base t v := hval0
  have hW' := hW
  obtain ⟨p, q, hA0, hV0, rfl, hfz, hnd⟩ := hW
  have hA : DataW.TrodAll enc Tryd.prog W 0 (fun _ => true) true Tryd.f3.params.toList args.toList ds p := hA0
  have hV : DataW.TrodVars enc Tryd.prog W (fun _ => true) [] gs q := hV0
  rw [Tryd.params3] at hA hval
  obtain ⟨v0, vs0, d0, ds0, p0, q0, hargs, rfl, rfl, h0, r0⟩ := trodAll_cons hA
  obtain ⟨rfl, rfl, rfl⟩ := trodAll_nil r0
  obtain rfl : args = #[v0] := by cases args; simp_all
  have k0 := h0
  have lt0 : ∀ x ∈ p0, x.block < W.heap.size := by obtain ⟨m, hm⟩ := k0; exact DataW.trod_lt m _ _ _ hm
  obtain ⟨D0, sa0, sc0, rfl, hc0, hl0⟩ := step_row (hval 0 28 v0 rfl rfl) h0
  have hL0 : laidMet Tryd.prog Rows.fnExactStepTextRow.laid W := by rw [← MakeChecks.laidMetH_plain _ _ _ (by kernel_rfl)]; exact hL
  have hT : Tab W := Lib.tabIs_of_head gPow tPow Tryd.underlying112 Tryd.underlying105 cells56 cells81 (laidMet.tail (laidMet.tail hL0))
  obtain ⟨rfl, rfl⟩ := trodVars_none hV
  clear hA0 hV0 hval0
  refine (walk D0 sa0 sc0 W hc0 hl0 hT).mono fun e W' ⟨he, hb⟩ => ?_
  subst he
  refine ⟨_, rfl, _, _, _, [], (p0 ++ []), [], hW', ?_, ?_, ?_, Below.frame hb _, fun h => by cases h⟩
  · exact trodAll_mk1 (shut_bool Tryd.underlying4 _)
  · exact (trodAll_cons_mk (Below.trod laidOut (by kernel_rfl) (of_decide_eq_true (by kernel_rfl)) k0 hb lt0) trodAll_mk0)
  · exact rfl

theorem over : Rows.FnExactStepTextSaid :=
  OpenClaim.holds_of_wide 3 Tryd.f3 rfl rfl rfl rfl rfl rfl rfl ⟨rfl, rfl, rfl, rfl, rfl⟩ rfl rfl rfl rfl rfl (by kernel_rfl) Tryd.func3 (by kernel_rfl)
    (of_decide_eq_true (by kernel_rfl)) (by unfold Func.isWrapper; first | (rw [if_pos (by decide +kernel)]; kernel_rfl) | (rw [if_neg (by decide +kernel)]; exact ⟨rfl, rfl⟩))
    (fun os started H enc _ => lifted os started H enc)
end Go.Proofs.YtjihinkjcplgcaaDoor.fnExactStepText
namespace Go.Proofs.YtjihinkjcplgcaaDoor
theorem fnExactStepText_holds : Rows.FnExactStepTextCardSaid :=
  Claim7.holds_tied_plain_at .later [] Rows.fnExactStepTextCard.laidKinds true Rows.fnExactStepTextCard.stood.harness true
    fnExactStepText.over (fun _ h => by cases h) (by kernel_rfl) (fun _ h => by cases h) fnExactStepText_row_tie rfl ⟨rfl, rfl⟩ (by kernel_rfl) rfl
    (fun f fn hf hfn => by
      obtain rfl : f = 3 := Option.some.inj ((show Tryd.prog.funcNamed Rows.fnExactStepTextRow.func = some 3 by kernel_rfl).symm.trans hf) |>.symm
      obtain rfl : fn = Tryd.f3 := (Option.some.inj (Tryd.func3.symm.trans hfn)).symm
      exact ⟨by kernel_rfl, fun j t ht => by
        rw [Tryd.params3] at ht
        have hm : t ∈ [28] := by simpa using Array.mem_of_getElem? ht
        have hall : ([28].all fun u => !Tryd.prog.wantsStandIn u) = true := by kernel_rfl
        exact (show Tryd.prog.wantsStandIn t = false by simpa using List.all_eq_true.1 hall t hm)⟩)
    (by kernel_rfl)
end Go.Proofs.YtjihinkjcplgcaaDoor
