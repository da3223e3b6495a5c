/- For every disk, the law of LogTop returns true (the program answers as the model, and changes no argument), and the argument reads behind the call as before; condition: the package variable errGaveUp holds what the program's text lays there, as the card ties it. -/
import Derived.Test.YtkdnddckogbgaaaDoorLTi
import Derived.Test.YtkdnddckogbgaaaDoorLTs
import Derived.Test.YtkdnddckogbgaaaDoorSent
import Derived.Test.YtkdnddckogbgaaaDoorCards
import Derived.Test.YtkdnddckogbgaaaDoorTie
import Derived.WalkKit
import Derived.ProofKit
import Derived.OpenShut
import Derived.ShutString
import Derived.LaidMore
import Derived.Stop.Joined
import Derived.SevenTiedAt
import Derived.ChangeOld
import Derived.Below
namespace Go.Proofs.YtkdnddckogbgaaaDoor.fnExactLogTop
open Go.ChangeShapes Go.WideShapes Go.ChangeAt Go.RowKit
open Go.ChangeMaps (open_string shut_string)
set_option linter.unusedVariables false
theorem own : ownKnob Tryd.prog.godebug = none := by kernel_rfl
theorem laidOut : laidOutB Tryd.prog = true := by kernel_rfl
theorem gGaveUp : Tryd.prog.globalNamed "loop.example/g00400/impl.errGaveUp" = some 0 := by kernel_rfl
theorem tGaveUp : (Tryd.prog.globals[0]?).map (·.type) = some 111 := by kernel_rfl
theorem door_met (os : Os) (args : Array Value) : laidMetH Tryd.prog Rows.fnExactLogTopRow.laid ((World.doorLaid Tryd.prog 132 os).forCall (fun _ _ => 0) ⟨#[], args, []⟩).memory :=
  laidMetH_of_parts3 (fuel := 8) (laidMet_of_run' 8 (by kernel_rfl) (by kernel_rfl)) (by kernel_rfl) (by kernel_rfl)

set_option maxHeartbeats 4000000 in
theorem walk (ca : Option Addr) (cc : Nat) (cs : List Bs) (da : Option Addr) (dc : Nat) (ds : List Wr) (w : World) (hm : Mem w (dsk ca cs da ds)) (hok : Dk.ok ⟨ca, cc, cs, da, dc, ds⟩) (u : TypeId) (pv : Value) (hv : w.cell? ⟨0, 0, none⟩ = some (.iface u pv)) :
    Calls Tryd.prog 4 #[dskV ca cs.length cc da ds.length dc] w fun e w' => e = .returned (.bool true) ∧ Keeps w w' := by
  have HM := hide hm
  have HS := hide (fun w1 hm => szDisk' ca cc cs da dc ds w1 hm hok)
  clear hm hok
  have HV := hide hv
  clear hv
  go_enter Tryd.func4, Tryd.ntmps4
  have HK := hide (Keeps.refl w)
  go_wp2_with fail
  have hb := born_alloc w #[.slice ca cs.length cc, .slice da ds.length dc] 25
  dsimp only at hb
  have hk := Keeps.alloc (Keeps.refl w) (.cells #[.slice ca cs.length cc, .slice da ds.length dc] 25)
  generalize w.alloc (.cells #[.slice ca cs.length cc, .slice da ds.length dc] 25) = w1 at *
  have HNA := hide ((hb.old HK.out).new)
  replace HK := hide (HK.out.trans hk)
  have HOA := hide hb.toOwn
  clear hb hk
  have cA0 := cell_at HOA.out.mem 0 (by simp)
  have cA1 := cell_at HOA.out.mem 1 (by simp)
  simp only [Nat.zero_add, List.getElem_cons_zero, List.getElem_cons_succ] at cA0 cA1
  have lA := lt_of_cell cA0
  refine (unhide HS w1 (HM.out.kept HK.out)).mono ?_
  rintro x w2 ⟨r, rfl, hr, hk⟩
  clear cA0 cA1 lA
  replace HK := hide (HK.out.trans hk)
  replace HOA := hide (HOA.out.kept hk)
  clear hk
  have HOK := hide hr
  clear hr HS
  by_cases hr0 : r < 0
  · go_wp2_with fail
    go_ret
    exact ⟨rfl, HK.out⟩
  replace HOK := hide (HOK.out (by omega))
  have cA0 := cell_at HOA.out.mem 0 (by simp)
  have cA1 := cell_at HOA.out.mem 1 (by simp)
  simp only [Nat.zero_add, List.getElem_cons_zero, List.getElem_cons_succ] at cA0 cA1
  have lA := lt_of_cell cA0
  go_wp2_with fail
  refine (toDisk' ca cc cs da dc ds w2 (HM.out.kept HK.out) HOK.out).mono ?_
  rintro x w3 ⟨v, rfl, hr, hk⟩
  obtain ⟨cas, ccs, css, das, dcs, dss, rfl, hes, hoks, hnas, hnds, hb⟩ := hr
  have HEs := hide hes
  have HKs := hide hoks
  have HAs := hide hnas
  have HBs := hide hnds
  clear hes hoks hnas hnds
  clear cA0 cA1 lA
  have HDA_s := hide (hb.apart HOA.out.mem)
  have HDs_A := hide (hb.apart' HOA.out.mem)
  have HNs := hide ((hb.old HK.out).new)
  replace HK := hide (HK.out.trans hk)
  replace HOA := hide (HOA.out.kept hk)
  have HOs := hide hb.toOwn
  clear hb hk
  have cA0 := cell_at HOA.out.mem 0 (by simp)
  have cA1 := cell_at HOA.out.mem 1 (by simp)
  simp only [Nat.zero_add, List.getElem_cons_zero, List.getElem_cons_succ] at cA0 cA1
  have lA := lt_of_cell cA0
  go_wp2_with fail
  refine (logtop_spec cas ccs css das dcs dss w3 HOs.out.mem HKs.out).mono ?_
  rintro x w4 ⟨rfl, hk⟩
  clear cA0 cA1 lA
  replace HK := hide (HK.out.trans hk)
  replace HOA := hide (HOA.out.kept hk)
  replace HOs := hide (HOs.out.kept hk)
  clear hk
  rw [HEs.out]
  clear HOs HNs HDA_s HDs_A
  clear HEs HKs HAs HBs
  have cA0 := cell_at HOA.out.mem 0 (by simp)
  have cA1 := cell_at HOA.out.mem 1 (by simp)
  simp only [Nat.zero_add, List.getElem_cons_zero, List.getElem_cons_succ] at cA0 cA1
  have lA := lt_of_cell cA0
  go_wp2_with fail
  refine (toDisk' ca cc cs da dc ds w4 (HM.out.kept HK.out) HOK.out).mono ?_
  rintro x w5 ⟨v, rfl, hr, hk⟩
  obtain ⟨cax, ccx, csx, dax, dcx, dsx, rfl, hex, hokx, hnax, hndx, hb⟩ := hr
  have HEx := hide hex
  have HKx := hide hokx
  have HAx := hide hnax
  have HBx := hide hndx
  clear hex hokx hnax hndx
  clear cA0 cA1 lA
  have HDA_x := hide (hb.apart HOA.out.mem)
  have HDx_A := hide (hb.apart' HOA.out.mem)
  have HNx := hide ((hb.old HK.out).new)
  replace HK := hide (HK.out.trans hk)
  replace HOA := hide (HOA.out.kept hk)
  have HOx := hide hb.toOwn
  clear hb hk
  have cA0 := cell_at HOA.out.mem 0 (by simp)
  have cA1 := cell_at HOA.out.mem 1 (by simp)
  simp only [Nat.zero_add, List.getElem_cons_zero, List.getElem_cons_succ] at cA0 cA1
  have lA := lt_of_cell cA0
  go_wp2_with fail
  have hb := born_alloc w5 #[.slice cax csx.length ccx, .slice dax dsx.length dcx] 33
  dsimp only at hb
  have hk := Keeps.alloc (Keeps.refl w5) (.cells #[.slice cax csx.length ccx, .slice dax dsx.length dcx] 33)
  generalize w5.alloc (.cells #[.slice cax csx.length ccx, .slice dax dsx.length dcx] 33) = w6 at *
  clear cA0 cA1 lA
  have HDA_X := hide (hb.apart HOA.out.mem)
  have HDX_A := hide (hb.apart' HOA.out.mem)
  have HDx_X := hide (hb.apart HOx.out.mem)
  have HDX_x := hide (hb.apart' HOx.out.mem)
  have HNX := hide ((hb.old HK.out).new)
  replace HK := hide (HK.out.trans hk)
  replace HOA := hide (HOA.out.kept hk)
  replace HOx := hide (HOx.out.kept hk)
  have HOX := hide hb.toOwn
  clear hb hk
  have cA0 := cell_at HOA.out.mem 0 (by simp)
  have cA1 := cell_at HOA.out.mem 1 (by simp)
  simp only [Nat.zero_add, List.getElem_cons_zero, List.getElem_cons_succ] at cA0 cA1
  have lA := lt_of_cell cA0
  have cX0 := cell_at HOX.out.mem 0 (by simp)
  have cX1 := cell_at HOX.out.mem 1 (by simp)
  simp only [Nat.zero_add, List.getElem_cons_zero, List.getElem_cons_succ] at cX0 cX1
  have lX := lt_of_cell cX0
  go_wp2_with fail
  refine (logtop_impl cax ccx csx dax dcx dsx w6 u pv (HK.out.cell HV.out) HOx.out.mem HKx.out).mono ?_
  rintro x w7 ⟨rfl, hk⟩
  clear cA0 cA1 lA cX0 cX1 lX
  replace HK := hide (HK.out.trans hk)
  replace HOA := hide (HOA.out.kept hk)
  replace HOx := hide (HOx.out.kept hk)
  replace HOX := hide (HOX.out.kept hk)
  clear hk
  rw [HEx.out]
  generalize topM (dat cs ds) = rr
  have cA0 := cell_at HOA.out.mem 0 (by simp)
  have cA1 := cell_at HOA.out.mem 1 (by simp)
  simp only [Nat.zero_add, List.getElem_cons_zero, List.getElem_cons_succ] at cA0 cA1
  have lA := lt_of_cell cA0
  have cX0 := cell_at HOX.out.mem 0 (by simp)
  have cX1 := cell_at HOX.out.mem 1 (by simp)
  simp only [Nat.zero_add, List.getElem_cons_zero, List.getElem_cons_succ] at cX0 cX1
  have lX := lt_of_cell cX0
  go_wp2_with fail
  have HT := hide (fun w' (hk : Keeps w7 w') => toDisk' ca cc cs da dc ds w' ((HM.out.kept HK.out).kept hk) HOK.out)
  go_region_held3 (fun w' => w'.cell? ⟨w5.heap.size, 0, none⟩ = some (.slice cax csx.length ccx) ∧ w'.cell? ⟨w5.heap.size, 1, none⟩ = some (.slice dax dsx.length dcx) ∧ w'.cell? ⟨w.heap.size, 0, none⟩ = some (.slice ca cs.length cc) ∧ w'.cell? ⟨w.heap.size, 1, none⟩ = some (.slice da ds.length dc)) (go_keep)
    (first
       | (go_at_call 8
          refine (unhide HT _ ((Keeps.refl w7).drew)).mono ?_
          rintro x w8 ⟨v, rfl, hr, hk⟩
          obtain ⟨cay, ccy, csy, day, dcy, dsy, rfl, hey, hoky, hnay, hndy, hb⟩ := hr
          have HEy := hide hey
          have HKy := hide hoky
          have HAy := hide hnay
          have HBy := hide hndy
          clear hey hoky hnay hndy
          replace hb := hb.old ((Keeps.refl w7).drew)
          replace hk := ((Keeps.refl w7).drew).trans hk
          clear cA0 cA1 lA cX0 cX1 lX
          have HDA_y := hide (hb.apart HOA.out.mem)
          have HDy_A := hide (hb.apart' HOA.out.mem)
          have HDx_y := hide (hb.apart HOx.out.mem)
          have HDy_x := hide (hb.apart' HOx.out.mem)
          have HDX_y := hide (hb.apart HOX.out.mem)
          have HDy_X := hide (hb.apart' HOX.out.mem)
          have HNy := hide ((hb.old HK.out).new)
          replace HK := hide (HK.out.trans hk)
          replace HOA := hide (HOA.out.kept hk)
          replace HOx := hide (HOx.out.kept hk)
          replace HOX := hide (HOX.out.kept hk)
          have HOy := hide hb.toOwn
          clear hb hk
          have cX0 := cell_at HOX.out.mem 0 (by simp)
          have cX1 := cell_at HOX.out.mem 1 (by simp)
          simp only [Nat.zero_add, List.getElem_cons_zero, List.getElem_cons_succ] at cX0 cX1
          have lX := lt_of_cell cX0
          have cA0 := cell_at HOA.out.mem 0 (by simp)
          have cA1 := cell_at HOA.out.mem 1 (by simp)
          simp only [Nat.zero_add, List.getElem_cons_zero, List.getElem_cons_succ] at cA0 cA1
          have lA := lt_of_cell cA0)
       | (go_at_call 11
          refine (eqDisk' cax ccx csx dax dcx dsx cay ccy csy day dcy dsy w8 (HEy.out.trans HEx.out.symm) HOx.out.mem HOy.out.mem HKx.out).mono ?_
          rintro x w9 ⟨rfl, hk⟩
          clear cX0 cX1 lX cA0 cA1 lA
          replace HK := hide (HK.out.trans hk)
          replace HOA := hide (HOA.out.kept hk)
          replace HOx := hide (HOx.out.kept hk)
          replace HOX := hide (HOX.out.kept hk)
          replace HOy := hide (HOy.out.kept hk)
          clear hk
          have cX0 := cell_at HOX.out.mem 0 (by simp)
          have cX1 := cell_at HOX.out.mem 1 (by simp)
          simp only [Nat.zero_add, List.getElem_cons_zero, List.getElem_cons_succ] at cX0 cX1
          have lX := lt_of_cell cX0
          have cA0 := cell_at HOA.out.mem 0 (by simp)
          have cA1 := cell_at HOA.out.mem 1 (by simp)
          simp only [Nat.zero_add, List.getElem_cons_zero, List.getElem_cons_succ] at cA0 cA1
          have lA := lt_of_cell cA0))
  clear HOy HNy HDA_y HDy_A HDx_y HDy_x HDX_y HDy_X
  clear HEy HKy HAy HBy
  clear HT
  go_wp2_with fail
  go_ret
  exact ⟨rfl, HK.out⟩

set_option maxRecDepth 100000 in
theorem lifted (os : Os) (started : os.Started) (H : Type) (enc : TypeId × Value → H) :
    ReturnsInHanded {} Tryd.checked os 4 .any (fun w args => (Rows.fnExactLogTopSpec.pre enc Tryd.prog Tryd.f4 [] false w args ∧ laidMetH Tryd.prog Rows.fnExactLogTopRow.laid w) ∧ sizedMet enc Tryd.prog Tryd.f4 (OpenSpec.ofChange Rows.fnExactLogTopSpec) false w args)
      (Rows.fnExactLogTopSpec.post enc Tryd.prog Tryd.f4 false true false false) := by
  refine returnsInHanded_of_change_and (C := Tryd.checked) (X := fun w _ => laidMetH Tryd.prog Rows.fnExactLogTopRow.laid w) (fun _ _ _ hh h => h.of_heap hh) own started (by kernel_rfl) Tryd.func4
    (ChangeSpec.witness_shaped (enc := enc) (C := Tryd.checked) (os := os) (X := fun w _ => laidMetH Tryd.prog Rows.fnExactLogTopRow.laid w) false (World.doorLaid Tryd.prog 132 os) #[.agg #[.slice none 0 0, .slice none 0 0]] 8 rfl (World.shaped_of_RefB (by kernel_rfl) (by kernel_rfl)) (by kernel_rfl) (by kernel_rfl) (by kernel_rfl) (door_met os _)) ?_
  intro W base args ds gs before hval0 hW _ hsz hL _
  have hval : ∀ (j : Nat) t v, Tryd.f4.params[j]? = some t → args[j]? = some v → Value.okWide Tryd.prog W .any base t v := hval0
  have hW' := hW
  obtain ⟨p, q, hA0, hV0, rfl, hfz, hnd⟩ := hW
  have hA : DataW.TrodAll enc Tryd.prog W 0 (fun _ => true) true Tryd.f4.params.toList args.toList ds p := hA0
  have hV : DataW.TrodVars enc Tryd.prog W (fun _ => true) ["loop.example/g00400/impl.errGaveUp"] gs q := hV0
  rw [Tryd.params4] at hA hval
  obtain ⟨v0, vs0, d0, ds0, p0, q0, hargs, rfl, rfl, h0, r0⟩ := trodAll_cons hA
  obtain ⟨rfl, rfl, rfl⟩ := trodAll_nil r0
  obtain rfl : args = #[v0] := by cases args; simp_all
  have k0 := h0
  have lt0 : ∀ x ∈ p0, x.block < W.heap.size := by obtain ⟨m, hm⟩ := k0; exact DataW.trod_lt m _ _ _ hm
  obtain ⟨ca0, cc0, cs0, da0, dc0, ds0, rfl, hm0, ok0⟩ := disk_row (hval 0 25 v0 rfl rfl) h0
  have hL0 : laidMet Tryd.prog Rows.fnExactLogTopRow.laid W := by rw [← MakeChecks.laidMetH_plain _ _ _ (by kernel_rfl)]; exact hL
  obtain ⟨xGaveUp, hvGaveUp⟩ := sent hL0 gGaveUp tGaveUp
  obtain ⟨rfl, rfl⟩ := hV.unique (vars_read1 enc gGaveUp tGaveUp Tryd.underlying111 hvGaveUp trivial _)
  clear hA0 hV0 hval0
  refine (walk ca0 cc0 cs0 da0 dc0 ds0 W hm0 ok0 _ _ (cell_of_var gGaveUp hvGaveUp)).mono fun e W' ⟨he, hb⟩ => ?_
  subst he
  refine ⟨_, rfl, _, _, _, [], (p0 ++ []), [.cell 0 0], hW', ?_, ?_, ?_, Below.frame hb _, fun h => by cases h⟩
  · exact trodAll_mk1 (shut_bool Tryd.underlying4 _)
  · exact (trodAll_cons_mk (Below.trod laidOut (by kernel_rfl) (of_decide_eq_true (by kernel_rfl)) k0 hb lt0) trodAll_mk0)
  · exact vars_read1 enc gGaveUp tGaveUp Tryd.underlying111 (var_kept hb hvGaveUp) trivial _

theorem over : Rows.FnExactLogTopSaid :=
  OpenClaim.holds_of_wide 4 Tryd.f4 rfl rfl rfl rfl rfl rfl rfl ⟨rfl, rfl, rfl, rfl, rfl⟩ rfl rfl rfl rfl rfl (by kernel_rfl) Tryd.func4 (by kernel_rfl)
    (of_decide_eq_true (by kernel_rfl)) (by unfold Func.isWrapper; first | (rw [if_pos (by decide +kernel)]; kernel_rfl) | (rw [if_neg (by decide +kernel)]; exact ⟨rfl, rfl⟩))
    (fun os started H enc _ => lifted os started H enc)
end Go.Proofs.YtkdnddckogbgaaaDoor.fnExactLogTop
namespace Go.Proofs.YtkdnddckogbgaaaDoor
theorem fnExactLogTop_holds : Rows.FnExactLogTopCardSaid :=
  Claim7.holds_tied_plain_at .later [] Rows.fnExactLogTopCard.laidKinds true Rows.fnExactLogTopCard.stood.harness true
    fnExactLogTop.over (fun _ h => by cases h) (by kernel_rfl) (fun _ h => by cases h) fnExactLogTop_row_tie rfl ⟨rfl, rfl⟩ (by kernel_rfl) rfl
    (fun f fn hf hfn => by
      obtain rfl : f = 4 := Option.some.inj ((show Tryd.prog.funcNamed Rows.fnExactLogTopRow.func = some 4 by kernel_rfl).symm.trans hf) |>.symm
      obtain rfl : fn = Tryd.f4 := (Option.some.inj (Tryd.func4.symm.trans hfn)).symm
      exact ⟨by kernel_rfl, fun j t ht => by
        rw [Tryd.params4] at ht
        have hm : t ∈ [25] := by simpa using Array.mem_of_getElem? ht
        have hall : ([25].all fun u => !Tryd.prog.wantsStandIn u) = true := by kernel_rfl
        exact (show Tryd.prog.wantsStandIn t = false by simpa using List.all_eq_true.1 hall t hm)⟩)
    (by kernel_rfl)
end Go.Proofs.YtkdnddckogbgaaaDoor
