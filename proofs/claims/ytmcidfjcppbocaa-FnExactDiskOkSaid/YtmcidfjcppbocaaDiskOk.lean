/- At every disk DiskOk of the program answers as that of the model, and writes into no argument; no condition. -/
import Derived.Test.YtmcidfjcppbocaaKeep
import Derived.Test.YtmcidfjcppbocaaOpen
import Derived.Test.YtmcidfjcppbocaaMem
import Derived.Test.YtmcidfjcppbocaaByt
import Derived.Test.YtmcidfjcppbocaaApn
import Derived.Test.YtmcidfjcppbocaaDsk
import Derived.Test.YtmcidfjcppbocaaVars
import Derived.Test.YtmcidfjcppbocaaSec
import Derived.Test.YtmcidfjcppbocaaLst
import Derived.Test.YtmcidfjcppbocaaDG
import Derived.Test.YtmcidfjcppbocaaDGC
import Derived.Test.YtmcidfjcppbocaaDGD
import Derived.Test.YtmcidfjcppbocaaDGW
import Derived.Test.YtmcidfjcppbocaaDGX
import Derived.Test.YtmcidfjcppbocaaDGK
import Derived.Test.YtmcidfjcppbocaaDOk
import Derived.Test.YtmcidfjcppbocaaDW
import Derived.Test.YtmcidfjcppbocaaRows
import Derived.WalkKit
import Derived.ProofKit
import Derived.OpenShut
import Derived.ChangeOld
import Derived.Below
namespace Go.Proofs.Ytmcidfjcppbocaa.fnExactDiskOk
open Go.ChangeShapes Go.WideShapes Go.ChangeAt Go.RowKit
set_option linter.unusedVariables false
set_option maxHeartbeats 4000000 in
theorem walk (ca : Option Addr) (cc : Nat) (cs : List Bs) (da : Option Addr) (dc : Nat) (ds : List Wr) (w : World) (hm : Mem w (dsk ca cs da ds)) (hok : Dk.ok ⟨ca, cc, cs, da, dc, ds⟩) :
    Calls Try.prog 7 #[dskV ca cs.length cc da ds.length dc] w fun e w' => e = .returned (.bool true) ∧ Keeps w w' := by
  have HM := hide hm
  have HS := hide (fun w1 hm => szDisk' ca cc cs da dc ds w1 hm hok)
  clear hm hok
  go_enter Try.func7, Try.ntmps7
  have HK := hide (Keeps.refl w)
  go_wp2_with fail
  have hb := born_alloc w #[.slice ca cs.length cc, .slice da ds.length dc] 53
  dsimp only at hb
  have hk := Keeps.alloc (Keeps.refl w) (.cells #[.slice ca cs.length cc, .slice da ds.length dc] 53)
  generalize w.alloc (.cells #[.slice ca cs.length cc, .slice da ds.length dc] 53) = w1 at *
  have HNA := hide ((hb.old HK.out).new)
  replace HK := hide (HK.out.trans hk)
  have HOA := hide hb.toOwn
  clear hb hk
  have cA0 := cell_at HOA.out.mem 0 (by simp)
  have cA1 := cell_at HOA.out.mem 1 (by simp)
  simp only [Nat.zero_add, List.getElem_cons_zero, List.getElem_cons_succ] at cA0 cA1
  refine (unhide HS w1 (HM.out.kept HK.out)).mono ?_
  rintro x w2 ⟨r, rfl, hr, hk⟩
  clear cA0 cA1
  replace HK := hide (HK.out.trans hk)
  replace HOA := hide (HOA.out.kept hk)
  clear hk
  have HOK := hide hr
  clear hr HS
  by_cases hr0 : r < 0
  · go_wp2_with fail
    go_ret
    exact ⟨rfl, HK.out⟩
  replace HOK := hide (HOK.out (by omega))
  have cA0 := cell_at HOA.out.mem 0 (by simp)
  have cA1 := cell_at HOA.out.mem 1 (by simp)
  simp only [Nat.zero_add, List.getElem_cons_zero, List.getElem_cons_succ] at cA0 cA1
  go_wp2_with fail
  refine (toDisk' ca cc cs da dc ds w2 (HM.out.kept HK.out) HOK.out).mono ?_
  rintro x w3 ⟨v, rfl, hr, hk⟩
  obtain ⟨cas, ccs, css, das, dcs, dss, rfl, hes, hoks, hnas, hnds, hb⟩ := hr
  have HEs := hide hes
  have HKs := hide hoks
  have HAs := hide hnas
  have HBs := hide hnds
  clear hes hoks hnas hnds
  clear cA0 cA1
  have HDA_s := hide (hb.apart HOA.out.mem)
  have HDs_A := hide (hb.apart' HOA.out.mem)
  have HNs := hide ((hb.old HK.out).new)
  replace HK := hide (HK.out.trans hk)
  replace HOA := hide (HOA.out.kept hk)
  have HOs := hide hb.toOwn
  clear hb hk
  have cA0 := cell_at HOA.out.mem 0 (by simp)
  have cA1 := cell_at HOA.out.mem 1 (by simp)
  simp only [Nat.zero_add, List.getElem_cons_zero, List.getElem_cons_succ] at cA0 cA1
  go_wp2_with fail
  refine (diskok_spec' cas ccs css das dcs dss w3 HOs.out.mem HKs.out).mono ?_
  rintro x w4 ⟨rfl, hk⟩
  clear cA0 cA1
  replace HK := hide (HK.out.trans hk)
  replace HOA := hide (HOA.out.kept hk)
  replace HOs := hide (HOs.out.kept hk)
  clear hk
  rw [HEs.out]
  clear HOs HNs HDA_s HDs_A
  clear HEs HKs HAs HBs
  have cA0 := cell_at HOA.out.mem 0 (by simp)
  have cA1 := cell_at HOA.out.mem 1 (by simp)
  simp only [Nat.zero_add, List.getElem_cons_zero, List.getElem_cons_succ] at cA0 cA1
  go_wp2_with fail
  refine (toDisk' ca cc cs da dc ds w4 (HM.out.kept HK.out) HOK.out).mono ?_
  rintro x w5 ⟨v, rfl, hr, hk⟩
  obtain ⟨cax, ccx, csx, dax, dcx, dsx, rfl, hex, hokx, hnax, hndx, hb⟩ := hr
  have HEx := hide hex
  have HKx := hide hokx
  have HAx := hide hnax
  have HBx := hide hndx
  clear hex hokx hnax hndx
  clear cA0 cA1
  have HDA_x := hide (hb.apart HOA.out.mem)
  have HDx_A := hide (hb.apart' HOA.out.mem)
  have HNx := hide ((hb.old HK.out).new)
  replace HK := hide (HK.out.trans hk)
  replace HOA := hide (HOA.out.kept hk)
  have HOx := hide hb.toOwn
  clear hb hk
  have cA0 := cell_at HOA.out.mem 0 (by simp)
  have cA1 := cell_at HOA.out.mem 1 (by simp)
  simp only [Nat.zero_add, List.getElem_cons_zero, List.getElem_cons_succ] at cA0 cA1
  go_wp2_with fail
  have hb := born_alloc w5 #[.slice cax csx.length ccx, .slice dax dsx.length dcx] 26
  dsimp only at hb
  have hk := Keeps.alloc (Keeps.refl w5) (.cells #[.slice cax csx.length ccx, .slice dax dsx.length dcx] 26)
  generalize w5.alloc (.cells #[.slice cax csx.length ccx, .slice dax dsx.length dcx] 26) = w6 at *
  clear cA0 cA1
  have HDA_X := hide (hb.apart HOA.out.mem)
  have HDX_A := hide (hb.apart' HOA.out.mem)
  have HDx_X := hide (hb.apart HOx.out.mem)
  have HDX_x := hide (hb.apart' HOx.out.mem)
  have HNX := hide ((hb.old HK.out).new)
  replace HK := hide (HK.out.trans hk)
  replace HOA := hide (HOA.out.kept hk)
  replace HOx := hide (HOx.out.kept hk)
  have HOX := hide hb.toOwn
  clear hb hk
  have cA0 := cell_at HOA.out.mem 0 (by simp)
  have cA1 := cell_at HOA.out.mem 1 (by simp)
  simp only [Nat.zero_add, List.getElem_cons_zero, List.getElem_cons_succ] at cA0 cA1
  have cX0 := cell_at HOX.out.mem 0 (by simp)
  have cX1 := cell_at HOX.out.mem 1 (by simp)
  simp only [Nat.zero_add, List.getElem_cons_zero, List.getElem_cons_succ] at cX0 cX1
  go_wp2_with fail
  refine (diskok_impl' cax ccx csx dax dcx dsx w6 HOx.out.mem HKx.out).mono ?_
  rintro x w7 ⟨rfl, hk⟩
  clear cA0 cA1 cX0 cX1
  replace HK := hide (HK.out.trans hk)
  replace HOA := hide (HOA.out.kept hk)
  replace HOx := hide (HOx.out.kept hk)
  replace HOX := hide (HOX.out.kept hk)
  clear hk
  rw [HEx.out]
  generalize dokM (dat cs ds) = rr
  have cA0 := cell_at HOA.out.mem 0 (by simp)
  have cA1 := cell_at HOA.out.mem 1 (by simp)
  simp only [Nat.zero_add, List.getElem_cons_zero, List.getElem_cons_succ] at cA0 cA1
  have cX0 := cell_at HOX.out.mem 0 (by simp)
  have cX1 := cell_at HOX.out.mem 1 (by simp)
  simp only [Nat.zero_add, List.getElem_cons_zero, List.getElem_cons_succ] at cX0 cX1
  go_wp2_with fail
  have HT := hide (fun w' (hk : Keeps w7 w') => toDisk' ca cc cs da dc ds w' ((HM.out.kept HK.out).kept hk) HOK.out)
  go_region_held3 (fun w' => w'.cell? ⟨w5.heap.size, 0, none⟩ = some (.slice cax csx.length ccx) ∧ w'.cell? ⟨w5.heap.size, 1, none⟩ = some (.slice dax dsx.length dcx) ∧ w'.cell? ⟨w.heap.size, 0, none⟩ = some (.slice ca cs.length cc) ∧ w'.cell? ⟨w.heap.size, 1, none⟩ = some (.slice da ds.length dc)) (go_keep)
    (first
       | (go_at_call 34
          refine (unhide HT _ ((Keeps.refl w7).drew)).mono ?_
          rintro x w8 ⟨v, rfl, hr, hk⟩
          obtain ⟨cay, ccy, csy, day, dcy, dsy, rfl, hey, hoky, hnay, hndy, hb⟩ := hr
          have HEy := hide hey
          have HKy := hide hoky
          have HAy := hide hnay
          have HBy := hide hndy
          clear hey hoky hnay hndy
          replace hb := hb.old ((Keeps.refl w7).drew)
          replace hk := ((Keeps.refl w7).drew).trans hk
          clear cA0 cA1 cX0 cX1
          have HDA_y := hide (hb.apart HOA.out.mem)
          have HDy_A := hide (hb.apart' HOA.out.mem)
          have HDx_y := hide (hb.apart HOx.out.mem)
          have HDy_x := hide (hb.apart' HOx.out.mem)
          have HDX_y := hide (hb.apart HOX.out.mem)
          have HDy_X := hide (hb.apart' HOX.out.mem)
          have HNy := hide ((hb.old HK.out).new)
          replace HK := hide (HK.out.trans hk)
          replace HOA := hide (HOA.out.kept hk)
          replace HOx := hide (HOx.out.kept hk)
          replace HOX := hide (HOX.out.kept hk)
          have HOy := hide hb.toOwn
          clear hb hk
          have cX0 := cell_at HOX.out.mem 0 (by simp)
          have cX1 := cell_at HOX.out.mem 1 (by simp)
          simp only [Nat.zero_add, List.getElem_cons_zero, List.getElem_cons_succ] at cX0 cX1
          have cA0 := cell_at HOA.out.mem 0 (by simp)
          have cA1 := cell_at HOA.out.mem 1 (by simp)
          simp only [Nat.zero_add, List.getElem_cons_zero, List.getElem_cons_succ] at cA0 cA1)
       | (go_at_call 35
          refine (eqDisk' cax ccx csx dax dcx dsx cay ccy csy day dcy dsy w8 (HEy.out.trans HEx.out.symm) HOx.out.mem HOy.out.mem HKx.out).mono ?_
          rintro x w9 ⟨rfl, hk⟩
          clear cX0 cX1 cA0 cA1
          replace HK := hide (HK.out.trans hk)
          replace HOA := hide (HOA.out.kept hk)
          replace HOx := hide (HOx.out.kept hk)
          replace HOX := hide (HOX.out.kept hk)
          replace HOy := hide (HOy.out.kept hk)
          clear hk
          have cX0 := cell_at HOX.out.mem 0 (by simp)
          have cX1 := cell_at HOX.out.mem 1 (by simp)
          simp only [Nat.zero_add, List.getElem_cons_zero, List.getElem_cons_succ] at cX0 cX1
          have cA0 := cell_at HOA.out.mem 0 (by simp)
          have cA1 := cell_at HOA.out.mem 1 (by simp)
          simp only [Nat.zero_add, List.getElem_cons_zero, List.getElem_cons_succ] at cA0 cA1))
  clear HOy HNy HDA_y HDy_A HDx_y HDy_x HDX_y HDy_X
  clear HEy HKy HAy HBy
  clear HT
  go_wp2_with fail
  go_ret
  exact ⟨rfl, HK.out⟩

theorem own : ownKnob Try.prog.godebug = none := by kernel_rfl
theorem laidOut : laidOutB Try.prog = true := by kernel_rfl

set_option maxRecDepth 100000 in
theorem lifted (os : Os) (started : os.Started) (H : Type) (enc : TypeId × Value → H) :
    ReturnsInHanded {} Try.checked os 7 .any (Rows.fnExactDiskOkSpec.pre6 enc Try.prog Try.f7 Rows.fnExactDiskOkRow.domain false) (Rows.fnExactDiskOkSpec.post enc Try.prog Try.f7 false true false false) := by
  refine returnsInHanded_of_change (C := Try.checked) own started (by kernel_rfl) Try.func7
    (ChangeSpec.witness6 (enc := enc) (C := Try.checked) false ⟨#[], #[.agg #[.slice none 0 0, .slice none 0 0]], []⟩ 8 (by kernel_rfl) (by kernel_rfl) (by kernel_rfl) (by kernel_rfl)) ?_
  intro W base args ds gs before hval0 hW hcnd _
  have hval : ∀ (j : Nat) t v, Try.f7.params[j]? = some t → args[j]? = some v → Value.okWide Try.prog W .any base t v := hval0
  have hW' := hW
  obtain ⟨p, q, hA0, hV, rfl, hfz, hnd⟩ := hW
  have hA : DataW.TrodAll enc Try.prog W 0 (fun _ => true) true Try.f7.params.toList args.toList ds p := hA0
  rw [Try.params7] at hA hval
  obtain ⟨v0, vs0, d0, ds0, p0, q0, hargs, rfl, rfl, h0, r0⟩ := trodAll_cons hA
  obtain ⟨rfl, rfl, rfl⟩ := trodAll_nil r0
  obtain rfl : args = #[v0] := by cases args; simp_all
  obtain ⟨rfl, rfl⟩ := trodVars_none hV
  have lt0 := lt_row h0
  have k0 := h0
  obtain ⟨ca0, cc0, cs0, da0, dc0, ds0, rfl, hm0, ho0⟩ := disk_row (hval 0 53 v0 rfl rfl) h0
  clear hA0 hval0
  refine (walk ca0 cc0 cs0 da0 dc0 ds0 W hm0 ho0).mono fun e W' ⟨he, hb⟩ => ?_
  subst he
  refine ⟨_, rfl, _, _, _, [], (p0 ++ []), [], hW', ?_, ?_, ?_, Below.frame hb _, fun h => by cases h⟩
  · exact trodAll_mk1 (shut_bool Try.underlying4 _)
  · exact (trodAll_cons_mk (Below.trod laidOut (by kernel_rfl) (of_decide_eq_true (by kernel_rfl)) k0 hb lt0) trodAll_mk0)
  · exact rfl

theorem over : Rows.fnExactDiskOkRow.holds Try.pinned (OpenSpec.ofChange Rows.fnExactDiskOkSpec) :=
  OpenClaim.holds_of_wide 7 Try.f7 rfl rfl rfl rfl rfl rfl rfl ⟨rfl, rfl, rfl, rfl, rfl⟩ rfl rfl rfl rfl rfl (by kernel_rfl) Try.func7 (by kernel_rfl)
    (of_decide_eq_true (by kernel_rfl)) (by unfold Func.isWrapper; first | (rw [if_pos (by decide +kernel)]; kernel_rfl) | (rw [if_neg (by decide +kernel)]; exact ⟨rfl, rfl⟩))
    (fun os started H enc _ => lifted os started H enc)
end Go.Proofs.Ytmcidfjcppbocaa.fnExactDiskOk
namespace Go.Proofs.Ytmcidfjcppbocaa
theorem diskok_exact : Rows.FnExactDiskOkSaid := fnExactDiskOk.over
end Go.Proofs.Ytmcidfjcppbocaa
