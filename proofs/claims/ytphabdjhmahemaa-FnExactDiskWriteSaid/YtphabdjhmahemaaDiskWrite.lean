/- FnExactDiskWrite: at every disk, place and bytes the program's DiskWrite answers as the model's, writes into no argument, and its answer owns its memory, behind another call too. -/
import Derived.Test.YtphabdjhmahemaaDWs
import Derived.Test.YtphabdjhmahemaaRows
import Derived.WalkKit
import Derived.ProofKit
import Derived.OpenShut
import Derived.ChangeOld
import Derived.Below
namespace Go.Proofs.Ytphabdjhmahemaa.fnExactDiskWrite
open Go.ChangeShapes Go.WideShapes Go.ChangeAt Go.RowKit
set_option linter.unusedVariables false
set_option maxHeartbeats 4000000 in
theorem walk (ca : Option Addr) (cc : Nat) (cs : List Bs) (da : Option Addr) (dc : Nat) (ds : List Wr) (i : Int) (ba : Option Addr) (bc : Nat) (bL : List UInt8) (w : World) (hm : Mem w (dsk ca cs da ds)) (hok : Dk.ok ⟨ca, cc, cs, da, dc, ds⟩) (hi : (Lit.int .i64 i).wf = true) (hb : Cells w ba (bys bL)) (hbn : ba = none → bc = 0) (hbl : bL.length ≤ 9223372036854775807) :
    Calls Try.prog 3 #[dskV ca cs.length cc da ds.length dc, .int .i64 i, .slice ba bL.length bc] w fun e w' => e = .returned (.bool true) ∧ Keeps w w' := by
  have HM := hide hm
  have HS := hide (fun w1 hm => szDisk' ca cc cs da dc ds w1 hm hok)
  clear hm hok
  have HMB := hide hb
  clear hi hb hbn
  by_cases hlt : bL.length ≤ 1048576
  · have HLB := hide hlt
    have HLB24 : Hid (bL.length ≤ 16777216) := Nat.le_trans hlt (by decide)
    clear hbl
    go_enter Try.func3, Try.ntmps3
    have HK := hide (Keeps.refl w)
    go_wp2_with fail
    have hb := born_alloc w #[.slice ca cs.length cc, .slice da ds.length dc] 25
    dsimp only at hb
    have hk := Keeps.alloc (Keeps.refl w) (.cells #[.slice ca cs.length cc, .slice da ds.length dc] 25)
    generalize w.alloc (.cells #[.slice ca cs.length cc, .slice da ds.length dc] 25) = w1 at *
    have HNA := hide ((hb.old HK.out).new)
    replace HK := hide (HK.out.trans hk)
    have HOA := hide hb.toOwn
    clear hb hk
    have cA0 := cell_at HOA.out.mem 0 (by simp)
    have cA1 := cell_at HOA.out.mem 1 (by simp)
    simp only [Nat.zero_add, List.getElem_cons_zero, List.getElem_cons_succ] at cA0 cA1
    have lA := lt_of_cell cA0
    refine (unhide HS w1 (HM.out.kept HK.out)).mono ?_
    rintro x w2 ⟨r, rfl, hr, hk⟩
    clear cA0 cA1 lA
    replace HK := hide (HK.out.trans hk)
    replace HOA := hide (HOA.out.kept hk)
    clear hk
    have HOK := hide hr
    clear hr HS
    by_cases hr0 : r < 0
    · go_wp2_with fail
      go_ret
      exact ⟨rfl, HK.out⟩
    replace HOK := hide (HOK.out (by omega))
    have cA0 := cell_at HOA.out.mem 0 (by simp)
    have cA1 := cell_at HOA.out.mem 1 (by simp)
    simp only [Nat.zero_add, List.getElem_cons_zero, List.getElem_cons_succ] at cA0 cA1
    have lA := lt_of_cell cA0
    go_wp2_with fail
    refine (toDisk' ca cc cs da dc ds w2 (HM.out.kept HK.out) HOK.out).mono ?_
    rintro x w3 ⟨v, rfl, hr, hk⟩
    obtain ⟨cas, ccs, css, das, dcs, dss, rfl, hes, hoks, hnas, hnds, hb⟩ := hr
    have HEs := hide hes
    have HKs := hide hoks
    have HAs := hide hnas
    have HBs := hide hnds
    clear hes hoks hnas hnds
    clear cA0 cA1 lA
    have HDA_s := hide (hb.apart HOA.out.mem)
    have HDs_A := hide (hb.apart' HOA.out.mem)
    have HNs := hide ((hb.old HK.out).new)
    replace HK := hide (HK.out.trans hk)
    replace HOA := hide (HOA.out.kept hk)
    have HOs := hide hb.toOwn
    clear hb hk
    have cA0 := cell_at HOA.out.mem 0 (by simp)
    have cA1 := cell_at HOA.out.mem 1 (by simp)
    simp only [Nat.zero_add, List.getElem_cons_zero, List.getElem_cons_succ] at cA0 cA1
    have lA := lt_of_cell cA0
    go_wp2_with fail
    refine (toByteS_k ba bc bL w3 (HMB.out.kept HK.out) HLB.out).mono ?_
    rintro x w4 ⟨b1, rfl, hb, hk⟩
    clear cA0 cA1 lA
    have HDA_t := hide (hb.apart HOA.out.mem)
    have HDt_A := hide (hb.apart' HOA.out.mem)
    have HDs_t := hide (hb.apart HOs.out.mem)
    have HDt_s := hide (hb.apart' HOs.out.mem)
    have HNt := hide ((hb.old HK.out).new)
    replace HK := hide (HK.out.trans hk)
    replace HOA := hide (HOA.out.kept hk)
    replace HOs := hide (HOs.out.kept hk)
    have HOt := hide hb.toOwn
    clear hb hk
    have cA0 := cell_at HOA.out.mem 0 (by simp)
    have cA1 := cell_at HOA.out.mem 1 (by simp)
    simp only [Nat.zero_add, List.getElem_cons_zero, List.getElem_cons_succ] at cA0 cA1
    have lA := lt_of_cell cA0
    go_wp2_with fail
    refine (diskwrite_spec cas ccs css das dcs dss i (some ⟨b1, 0, none⟩) bL.length bL w4 HOs.out.mem HKs.out (HOt.out.mem ((some ⟨b1, 0, none⟩), bys bL) (by simp)) (fun e => nomatch e) HLB.out).mono ?_
    rintro x w5 ⟨v, rfl, hr, hk⟩
    rw [HEs.out] at hr
    rw [HEs.out]
    obtain ⟨caw, ccw, csw, daw, dcw, dsw, rfl, hew, hokw, hnaw, hndw, hb⟩ := hr
    have HEw := hide hew
    have HKw := hide hokw
    have HAw := hide hnaw
    have HBw := hide hndw
    clear hew hokw hnaw hndw
    clear cA0 cA1 lA
    have HDA_w := hide (hb.apart HOA.out.mem)
    have HDw_A := hide (hb.apart' HOA.out.mem)
    have HDs_w := hide (hb.apart HOs.out.mem)
    have HDw_s := hide (hb.apart' HOs.out.mem)
    have HDt_w := hide (hb.apart HOt.out.mem)
    have HDw_t := hide (hb.apart' HOt.out.mem)
    have HNw := hide ((hb.old HK.out).new)
    replace HK := hide (HK.out.trans hk)
    replace HOA := hide (HOA.out.kept hk)
    replace HOs := hide (HOs.out.kept hk)
    replace HOt := hide (HOt.out.kept hk)
    have HOw := hide hb.toOwn
    clear hb hk
    have cA0 := cell_at HOA.out.mem 0 (by simp)
    have cA1 := cell_at HOA.out.mem 1 (by simp)
    simp only [Nat.zero_add, List.getElem_cons_zero, List.getElem_cons_succ] at cA0 cA1
    have lA := lt_of_cell cA0
    go_wp2_with fail
    have hb := born_alloc w5 #[.slice caw csw.length ccw, .slice daw dsw.length dcw] 31
    dsimp only at hb
    have hk := Keeps.alloc (Keeps.refl w5) (.cells #[.slice caw csw.length ccw, .slice daw dsw.length dcw] 31)
    generalize w5.alloc (.cells #[.slice caw csw.length ccw, .slice daw dsw.length dcw] 31) = w6 at *
    clear cA0 cA1 lA
    have HDA_VW := hide (hb.apart HOA.out.mem)
    have HDVW_A := hide (hb.apart' HOA.out.mem)
    have HDs_VW := hide (hb.apart HOs.out.mem)
    have HDVW_s := hide (hb.apart' HOs.out.mem)
    have HDt_VW := hide (hb.apart HOt.out.mem)
    have HDVW_t := hide (hb.apart' HOt.out.mem)
    have HDw_VW := hide (hb.apart HOw.out.mem)
    have HDVW_w := hide (hb.apart' HOw.out.mem)
    have HNVW := hide ((hb.old HK.out).new)
    replace HK := hide (HK.out.trans hk)
    replace HOA := hide (HOA.out.kept hk)
    replace HOs := hide (HOs.out.kept hk)
    replace HOt := hide (HOt.out.kept hk)
    replace HOw := hide (HOw.out.kept hk)
    have HOVW := hide hb.toOwn
    clear hb hk
    clear HOs HNs HDA_s HDs_A HDt_s HDs_t HDw_s HDs_w HDVW_s HDs_VW
    clear HEs HKs HAs HBs
    clear HOt HNt HDA_t HDt_A HDw_t HDt_w HDVW_t HDt_VW
    refine (toDisk' ca cc cs da dc ds w6 (HM.out.kept HK.out) HOK.out).mono ?_
    rintro x w7 ⟨v, rfl, hr, hk⟩
    obtain ⟨cax, ccx, csx, dax, dcx, dsx, rfl, hex, hokx, hnax, hndx, hb⟩ := hr
    have HEx := hide hex
    have HKx := hide hokx
    have HAx := hide hnax
    have HBx := hide hndx
    clear hex hokx hnax hndx
    have HDA_x := hide (hb.apart HOA.out.mem)
    have HDx_A := hide (hb.apart' HOA.out.mem)
    have HDw_x := hide (hb.apart HOw.out.mem)
    have HDx_w := hide (hb.apart' HOw.out.mem)
    have HDVW_x := hide (hb.apart HOVW.out.mem)
    have HDx_VW := hide (hb.apart' HOVW.out.mem)
    have HNx := hide ((hb.old HK.out).new)
    replace HK := hide (HK.out.trans hk)
    replace HOA := hide (HOA.out.kept hk)
    replace HOw := hide (HOw.out.kept hk)
    replace HOVW := hide (HOVW.out.kept hk)
    have HOx := hide hb.toOwn
    clear hb hk
    have cA0 := cell_at HOA.out.mem 0 (by simp)
    have cA1 := cell_at HOA.out.mem 1 (by simp)
    simp only [Nat.zero_add, List.getElem_cons_zero, List.getElem_cons_succ] at cA0 cA1
    have lA := lt_of_cell cA0
    have cVW0 := cell_at HOVW.out.mem 0 (by simp)
    have cVW1 := cell_at HOVW.out.mem 1 (by simp)
    simp only [Nat.zero_add, List.getElem_cons_zero, List.getElem_cons_succ] at cVW0 cVW1
    have lVW := lt_of_cell cVW0
    go_wp2_with fail
    have hb := born_alloc w7 #[.slice cax csx.length ccx, .slice dax dsx.length dcx] 31
    dsimp only at hb
    have hk := Keeps.alloc (Keeps.refl w7) (.cells #[.slice cax csx.length ccx, .slice dax dsx.length dcx] 31)
    generalize w7.alloc (.cells #[.slice cax csx.length ccx, .slice dax dsx.length dcx] 31) = w8 at *
    clear cA0 cA1 lA cVW0 cVW1 lVW
    have HDA_X := hide (hb.apart HOA.out.mem)
    have HDX_A := hide (hb.apart' HOA.out.mem)
    have HDw_X := hide (hb.apart HOw.out.mem)
    have HDX_w := hide (hb.apart' HOw.out.mem)
    have HDVW_X := hide (hb.apart HOVW.out.mem)
    have HDX_VW := hide (hb.apart' HOVW.out.mem)
    have HDx_X := hide (hb.apart HOx.out.mem)
    have HDX_x := hide (hb.apart' HOx.out.mem)
    have HNX := hide ((hb.old HK.out).new)
    replace HK := hide (HK.out.trans hk)
    replace HOA := hide (HOA.out.kept hk)
    replace HOw := hide (HOw.out.kept hk)
    replace HOVW := hide (HOVW.out.kept hk)
    replace HOx := hide (HOx.out.kept hk)
    have HOX := hide hb.toOwn
    clear hb hk
    refine (toByteS_k ba bc bL w8 (HMB.out.kept HK.out) HLB.out).mono ?_
    rintro x w9 ⟨b2, rfl, hb, hk⟩
    have HDA_z := hide (hb.apart HOA.out.mem)
    have HDz_A := hide (hb.apart' HOA.out.mem)
    have HDw_z := hide (hb.apart HOw.out.mem)
    have HDz_w := hide (hb.apart' HOw.out.mem)
    have HDVW_z := hide (hb.apart HOVW.out.mem)
    have HDz_VW := hide (hb.apart' HOVW.out.mem)
    have HDx_z := hide (hb.apart HOx.out.mem)
    have HDz_x := hide (hb.apart' HOx.out.mem)
    have HDX_z := hide (hb.apart HOX.out.mem)
    have HDz_X := hide (hb.apart' HOX.out.mem)
    have HNz := hide ((hb.old HK.out).new)
    replace HK := hide (HK.out.trans hk)
    replace HOA := hide (HOA.out.kept hk)
    replace HOw := hide (HOw.out.kept hk)
    replace HOVW := hide (HOVW.out.kept hk)
    replace HOx := hide (HOx.out.kept hk)
    replace HOX := hide (HOX.out.kept hk)
    have HOz := hide hb.toOwn
    clear hb hk
    have cA0 := cell_at HOA.out.mem 0 (by simp)
    have cA1 := cell_at HOA.out.mem 1 (by simp)
    simp only [Nat.zero_add, List.getElem_cons_zero, List.getElem_cons_succ] at cA0 cA1
    have lA := lt_of_cell cA0
    have cVW0 := cell_at HOVW.out.mem 0 (by simp)
    have cVW1 := cell_at HOVW.out.mem 1 (by simp)
    simp only [Nat.zero_add, List.getElem_cons_zero, List.getElem_cons_succ] at cVW0 cVW1
    have lVW := lt_of_cell cVW0
    have cX0 := cell_at HOX.out.mem 0 (by simp)
    have cX1 := cell_at HOX.out.mem 1 (by simp)
    simp only [Nat.zero_add, List.getElem_cons_zero, List.getElem_cons_succ] at cX0 cX1
    have lX := lt_of_cell cX0
    go_wp2_with fail
    refine (diskwrite_impl cax ccx csx dax dcx dsx i (some ⟨b2, 0, none⟩) bL.length bL w9 HOx.out.mem HKx.out (HOz.out.mem ((some ⟨b2, 0, none⟩), bys bL) (by simp)) (fun e => nomatch e) HLB.out).mono ?_
    rintro x w10 ⟨v, rfl, hr, hk⟩
    rw [HEx.out] at hr
    rw [HEx.out]
    obtain ⟨cag, ccg, csg, dag, dcg, dsg, rfl, heg, hokg, hnag, hndg, hb⟩ := hr
    have HEg := hide heg
    have HKg := hide hokg
    have HAg := hide hnag
    have HBg := hide hndg
    clear heg hokg hnag hndg
    clear cA0 cA1 lA cVW0 cVW1 lVW cX0 cX1 lX
    have HDA_g := hide (hb.apart HOA.out.mem)
    have HDg_A := hide (hb.apart' HOA.out.mem)
    have HDw_g := hide (hb.apart HOw.out.mem)
    have HDg_w := hide (hb.apart' HOw.out.mem)
    have HDVW_g := hide (hb.apart HOVW.out.mem)
    have HDg_VW := hide (hb.apart' HOVW.out.mem)
    have HDx_g := hide (hb.apart HOx.out.mem)
    have HDg_x := hide (hb.apart' HOx.out.mem)
    have HDX_g := hide (hb.apart HOX.out.mem)
    have HDg_X := hide (hb.apart' HOX.out.mem)
    have HDz_g := hide (hb.apart HOz.out.mem)
    have HDg_z := hide (hb.apart' HOz.out.mem)
    have HNg := hide ((hb.old HK.out).new)
    replace HK := hide (HK.out.trans hk)
    replace HOA := hide (HOA.out.kept hk)
    replace HOw := hide (HOw.out.kept hk)
    replace HOVW := hide (HOVW.out.kept hk)
    replace HOx := hide (HOx.out.kept hk)
    replace HOX := hide (HOX.out.kept hk)
    replace HOz := hide (HOz.out.kept hk)
    have HOg := hide hb.toOwn
    clear hb hk
    have cA0 := cell_at HOA.out.mem 0 (by simp)
    have cA1 := cell_at HOA.out.mem 1 (by simp)
    simp only [Nat.zero_add, List.getElem_cons_zero, List.getElem_cons_succ] at cA0 cA1
    have lA := lt_of_cell cA0
    have cVW0 := cell_at HOVW.out.mem 0 (by simp)
    have cVW1 := cell_at HOVW.out.mem 1 (by simp)
    simp only [Nat.zero_add, List.getElem_cons_zero, List.getElem_cons_succ] at cVW0 cVW1
    have lVW := lt_of_cell cVW0
    have cX0 := cell_at HOX.out.mem 0 (by simp)
    have cX1 := cell_at HOX.out.mem 1 (by simp)
    simp only [Nat.zero_add, List.getElem_cons_zero, List.getElem_cons_succ] at cX0 cX1
    have lX := lt_of_cell cX0
    go_wp2_with fail
    have hb := born_alloc w10 #[.slice cag csg.length ccg, .slice dag dsg.length dcg] 31
    dsimp only at hb
    have hk := Keeps.alloc (Keeps.refl w10) (.cells #[.slice cag csg.length ccg, .slice dag dsg.length dcg] 31)
    generalize w10.alloc (.cells #[.slice cag csg.length ccg, .slice dag dsg.length dcg] 31) = w11 at *
    clear cA0 cA1 lA cVW0 cVW1 lVW cX0 cX1 lX
    have HDA_VG := hide (hb.apart HOA.out.mem)
    have HDVG_A := hide (hb.apart' HOA.out.mem)
    have HDw_VG := hide (hb.apart HOw.out.mem)
    have HDVG_w := hide (hb.apart' HOw.out.mem)
    have HDVW_VG := hide (hb.apart HOVW.out.mem)
    have HDVG_VW := hide (hb.apart' HOVW.out.mem)
    have HDx_VG := hide (hb.apart HOx.out.mem)
    have HDVG_x := hide (hb.apart' HOx.out.mem)
    have HDX_VG := hide (hb.apart HOX.out.mem)
    have HDVG_X := hide (hb.apart' HOX.out.mem)
    have HDz_VG := hide (hb.apart HOz.out.mem)
    have HDVG_z := hide (hb.apart' HOz.out.mem)
    have HDg_VG := hide (hb.apart HOg.out.mem)
    have HDVG_g := hide (hb.apart' HOg.out.mem)
    have HNVG := hide ((hb.old HK.out).new)
    replace HK := hide (HK.out.trans hk)
    replace HOA := hide (HOA.out.kept hk)
    replace HOw := hide (HOw.out.kept hk)
    replace HOVW := hide (HOVW.out.kept hk)
    replace HOx := hide (HOx.out.kept hk)
    replace HOX := hide (HOX.out.kept hk)
    replace HOz := hide (HOz.out.kept hk)
    replace HOg := hide (HOg.out.kept hk)
    have HOVG := hide hb.toOwn
    clear hb hk
    refine (eqDisk' cag ccg csg dag dcg dsg caw ccw csw daw dcw dsw w11 (HEw.out.trans HEg.out.symm) HOg.out.mem HOw.out.mem HKg.out).mono ?_
    rintro x w12 ⟨rfl, hk⟩
    replace HK := hide (HK.out.trans hk)
    replace HOA := hide (HOA.out.kept hk)
    replace HOw := hide (HOw.out.kept hk)
    replace HOVW := hide (HOVW.out.kept hk)
    replace HOx := hide (HOx.out.kept hk)
    replace HOX := hide (HOX.out.kept hk)
    replace HOz := hide (HOz.out.kept hk)
    replace HOg := hide (HOg.out.kept hk)
    replace HOVG := hide (HOVG.out.kept hk)
    clear hk
    have cA0 := cell_at HOA.out.mem 0 (by simp)
    have cA1 := cell_at HOA.out.mem 1 (by simp)
    simp only [Nat.zero_add, List.getElem_cons_zero, List.getElem_cons_succ] at cA0 cA1
    have lA := lt_of_cell cA0
    have cVW0 := cell_at HOVW.out.mem 0 (by simp)
    have cVW1 := cell_at HOVW.out.mem 1 (by simp)
    simp only [Nat.zero_add, List.getElem_cons_zero, List.getElem_cons_succ] at cVW0 cVW1
    have lVW := lt_of_cell cVW0
    have cX0 := cell_at HOX.out.mem 0 (by simp)
    have cX1 := cell_at HOX.out.mem 1 (by simp)
    simp only [Nat.zero_add, List.getElem_cons_zero, List.getElem_cons_succ] at cX0 cX1
    have lX := lt_of_cell cX0
    have cVG0 := cell_at HOVG.out.mem 0 (by simp)
    have cVG1 := cell_at HOVG.out.mem 1 (by simp)
    simp only [Nat.zero_add, List.getElem_cons_zero, List.getElem_cons_succ] at cVG0 cVG1
    have lVG := lt_of_cell cVG0
    go_wp2_with fail
    have HT := hide (fun w' (hk : Keeps w12 w') => toDisk' ca cc cs da dc ds w' ((HM.out.kept HK.out).kept hk) HOK.out)
    go_region_held3 (fun w' => w'.cell? ⟨w7.heap.size, 0, none⟩ = some (.slice cax csx.length ccx) ∧ w'.cell? ⟨w7.heap.size, 1, none⟩ = some (.slice dax dsx.length dcx) ∧ w'.cell? ⟨w.heap.size, 0, none⟩ = some (.slice ca cs.length cc) ∧ w'.cell? ⟨w.heap.size, 1, none⟩ = some (.slice da ds.length dc)) (go_keep)
      (first
         | (go_at_call 8
            refine (unhide HT _ ((Keeps.refl w12).drew)).mono ?_
            rintro x w13 ⟨v, rfl, hr, hk⟩
            obtain ⟨cay, ccy, csy, day, dcy, dsy, rfl, hey, hoky, hnay, hndy, hb⟩ := hr
            have HEy := hide hey
            have HKy := hide hoky
            have HAy := hide hnay
            have HBy := hide hndy
            clear hey hoky hnay hndy
            replace hb := hb.old ((Keeps.refl w12).drew)
            replace hk := ((Keeps.refl w12).drew).trans hk
            clear cA0 cA1 lA cVW0 cVW1 lVW cX0 cX1 lX cVG0 cVG1 lVG
            have HDA_y := hide (hb.apart HOA.out.mem)
            have HDy_A := hide (hb.apart' HOA.out.mem)
            have HDw_y := hide (hb.apart HOw.out.mem)
            have HDy_w := hide (hb.apart' HOw.out.mem)
            have HDVW_y := hide (hb.apart HOVW.out.mem)
            have HDy_VW := hide (hb.apart' HOVW.out.mem)
            have HDx_y := hide (hb.apart HOx.out.mem)
            have HDy_x := hide (hb.apart' HOx.out.mem)
            have HDX_y := hide (hb.apart HOX.out.mem)
            have HDy_X := hide (hb.apart' HOX.out.mem)
            have HDz_y := hide (hb.apart HOz.out.mem)
            have HDy_z := hide (hb.apart' HOz.out.mem)
            have HDg_y := hide (hb.apart HOg.out.mem)
            have HDy_g := hide (hb.apart' HOg.out.mem)
            have HDVG_y := hide (hb.apart HOVG.out.mem)
            have HDy_VG := hide (hb.apart' HOVG.out.mem)
            have HNy := hide ((hb.old HK.out).new)
            replace HK := hide (HK.out.trans hk)
            replace HOA := hide (HOA.out.kept hk)
            replace HOw := hide (HOw.out.kept hk)
            replace HOVW := hide (HOVW.out.kept hk)
            replace HOx := hide (HOx.out.kept hk)
            replace HOX := hide (HOX.out.kept hk)
            replace HOz := hide (HOz.out.kept hk)
            replace HOg := hide (HOg.out.kept hk)
            replace HOVG := hide (HOVG.out.kept hk)
            have HOy := hide hb.toOwn
            clear hb hk
            have cX0 := cell_at HOX.out.mem 0 (by simp)
            have cX1 := cell_at HOX.out.mem 1 (by simp)
            simp only [Nat.zero_add, List.getElem_cons_zero, List.getElem_cons_succ] at cX0 cX1
            have lX := lt_of_cell cX0
            have cA0 := cell_at HOA.out.mem 0 (by simp)
            have cA1 := cell_at HOA.out.mem 1 (by simp)
            simp only [Nat.zero_add, List.getElem_cons_zero, List.getElem_cons_succ] at cA0 cA1
            have lA := lt_of_cell cA0
            have cVW0 := cell_at HOVW.out.mem 0 (by simp)
            have cVW1 := cell_at HOVW.out.mem 1 (by simp)
            simp only [Nat.zero_add, List.getElem_cons_zero, List.getElem_cons_succ] at cVW0 cVW1
            have lVW := lt_of_cell cVW0
            have cVG0 := cell_at HOVG.out.mem 0 (by simp)
            have cVG1 := cell_at HOVG.out.mem 1 (by simp)
            simp only [Nat.zero_add, List.getElem_cons_zero, List.getElem_cons_succ] at cVG0 cVG1
            have lVG := lt_of_cell cVG0)
         | (go_at_call 11
            refine (eqDisk' cax ccx csx dax dcx dsx cay ccy csy day dcy dsy w13 (HEy.out.trans HEx.out.symm) HOx.out.mem HOy.out.mem HKx.out).mono ?_
            rintro x w14 ⟨rfl, hk⟩
            clear cX0 cX1 lX cA0 cA1 lA cVW0 cVW1 lVW cVG0 cVG1 lVG
            replace HK := hide (HK.out.trans hk)
            replace HOA := hide (HOA.out.kept hk)
            replace HOw := hide (HOw.out.kept hk)
            replace HOVW := hide (HOVW.out.kept hk)
            replace HOx := hide (HOx.out.kept hk)
            replace HOX := hide (HOX.out.kept hk)
            replace HOz := hide (HOz.out.kept hk)
            replace HOg := hide (HOg.out.kept hk)
            replace HOVG := hide (HOVG.out.kept hk)
            replace HOy := hide (HOy.out.kept hk)
            clear hk
            have cX0 := cell_at HOX.out.mem 0 (by simp)
            have cX1 := cell_at HOX.out.mem 1 (by simp)
            simp only [Nat.zero_add, List.getElem_cons_zero, List.getElem_cons_succ] at cX0 cX1
            have lX := lt_of_cell cX0
            have cA0 := cell_at HOA.out.mem 0 (by simp)
            have cA1 := cell_at HOA.out.mem 1 (by simp)
            simp only [Nat.zero_add, List.getElem_cons_zero, List.getElem_cons_succ] at cA0 cA1
            have lA := lt_of_cell cA0
            have cVW0 := cell_at HOVW.out.mem 0 (by simp)
            have cVW1 := cell_at HOVW.out.mem 1 (by simp)
            simp only [Nat.zero_add, List.getElem_cons_zero, List.getElem_cons_succ] at cVW0 cVW1
            have lVW := lt_of_cell cVW0
            have cVG0 := cell_at HOVG.out.mem 0 (by simp)
            have cVG1 := cell_at HOVG.out.mem 1 (by simp)
            simp only [Nat.zero_add, List.getElem_cons_zero, List.getElem_cons_succ] at cVG0 cVG1
            have lVG := lt_of_cell cVG0))
    clear HOy HNy HDA_y HDy_A HDw_y HDy_w HDVW_y HDy_VW HDx_y HDy_x HDX_y HDy_X HDz_y HDy_z HDg_y HDy_g HDVG_y HDy_VG
    clear HEy HKy HAy HBy
    clear HT
    clear cX0 cX1 lX cA0 cA1 lA cVW0 cVW1 lVW cVG0 cVG1 lVG
    have cA0 := cell_at HOA.out.mem 0 (by simp)
    have cA1 := cell_at HOA.out.mem 1 (by simp)
    simp only [Nat.zero_add, List.getElem_cons_zero, List.getElem_cons_succ] at cA0 cA1
    have lA := lt_of_cell cA0
    have cVW0 := cell_at HOVW.out.mem 0 (by simp)
    have cVW1 := cell_at HOVW.out.mem 1 (by simp)
    simp only [Nat.zero_add, List.getElem_cons_zero, List.getElem_cons_succ] at cVW0 cVW1
    have lVW := lt_of_cell cVW0
    have cX0 := cell_at HOX.out.mem 0 (by simp)
    have cX1 := cell_at HOX.out.mem 1 (by simp)
    simp only [Nat.zero_add, List.getElem_cons_zero, List.getElem_cons_succ] at cX0 cX1
    have lX := lt_of_cell cX0
    have cVG0 := cell_at HOVG.out.mem 0 (by simp)
    have cVG1 := cell_at HOVG.out.mem 1 (by simp)
    simp only [Nat.zero_add, List.getElem_cons_zero, List.getElem_cons_succ] at cVG0 cVG1
    have lVG := lt_of_cell cVG0
    go_wp2_with fail
    refine (toByteS_k ba bc bL w14 (HMB.out.kept HK.out) HLB.out).mono ?_
    rintro x w15 ⟨b3, rfl, hb, hk⟩
    clear cA0 cA1 lA cVW0 cVW1 lVW cX0 cX1 lX cVG0 cVG1 lVG
    have HDA_y2 := hide (hb.apart HOA.out.mem)
    have HDy2_A := hide (hb.apart' HOA.out.mem)
    have HDw_y2 := hide (hb.apart HOw.out.mem)
    have HDy2_w := hide (hb.apart' HOw.out.mem)
    have HDVW_y2 := hide (hb.apart HOVW.out.mem)
    have HDy2_VW := hide (hb.apart' HOVW.out.mem)
    have HDx_y2 := hide (hb.apart HOx.out.mem)
    have HDy2_x := hide (hb.apart' HOx.out.mem)
    have HDX_y2 := hide (hb.apart HOX.out.mem)
    have HDy2_X := hide (hb.apart' HOX.out.mem)
    have HDz_y2 := hide (hb.apart HOz.out.mem)
    have HDy2_z := hide (hb.apart' HOz.out.mem)
    have HDg_y2 := hide (hb.apart HOg.out.mem)
    have HDy2_g := hide (hb.apart' HOg.out.mem)
    have HDVG_y2 := hide (hb.apart HOVG.out.mem)
    have HDy2_VG := hide (hb.apart' HOVG.out.mem)
    have HNy2 := hide ((hb.old HK.out).new)
    replace HK := hide (HK.out.trans hk)
    replace HOA := hide (HOA.out.kept hk)
    replace HOw := hide (HOw.out.kept hk)
    replace HOVW := hide (HOVW.out.kept hk)
    replace HOx := hide (HOx.out.kept hk)
    replace HOX := hide (HOX.out.kept hk)
    replace HOz := hide (HOz.out.kept hk)
    replace HOg := hide (HOg.out.kept hk)
    replace HOVG := hide (HOVG.out.kept hk)
    have HOy2 := hide hb.toOwn
    clear hb hk
    go_wp2_with fail
    refine (eqBytes_k (some ⟨b2, 0, none⟩) (some ⟨b3, 0, none⟩) bL.length bL.length bL w15 (HOz.out.mem ((some ⟨b2, 0, none⟩), bys bL) (by simp)) (HOy2.out.mem ((some ⟨b3, 0, none⟩), bys bL) (by simp)) HLB24.out).mono ?_
    rintro x w16 ⟨rfl, hk⟩
    replace HK := hide (HK.out.trans hk)
    replace HOA := hide (HOA.out.kept hk)
    replace HOw := hide (HOw.out.kept hk)
    replace HOVW := hide (HOVW.out.kept hk)
    replace HOx := hide (HOx.out.kept hk)
    replace HOX := hide (HOX.out.kept hk)
    replace HOz := hide (HOz.out.kept hk)
    replace HOg := hide (HOg.out.kept hk)
    replace HOVG := hide (HOVG.out.kept hk)
    replace HOy2 := hide (HOy2.out.kept hk)
    clear hk
    clear HOy2 HNy2 HDA_y2 HDy2_A HDw_y2 HDy2_w HDVW_y2 HDy2_VW HDx_y2 HDy2_x HDX_y2 HDy2_X HDz_y2 HDy2_z HDg_y2 HDy2_g HDVG_y2 HDy2_VG
    have cA0 := cell_at HOA.out.mem 0 (by simp)
    have cA1 := cell_at HOA.out.mem 1 (by simp)
    simp only [Nat.zero_add, List.getElem_cons_zero, List.getElem_cons_succ] at cA0 cA1
    have lA := lt_of_cell cA0
    have cVW0 := cell_at HOVW.out.mem 0 (by simp)
    have cVW1 := cell_at HOVW.out.mem 1 (by simp)
    simp only [Nat.zero_add, List.getElem_cons_zero, List.getElem_cons_succ] at cVW0 cVW1
    have lVW := lt_of_cell cVW0
    have cX0 := cell_at HOX.out.mem 0 (by simp)
    have cX1 := cell_at HOX.out.mem 1 (by simp)
    simp only [Nat.zero_add, List.getElem_cons_zero, List.getElem_cons_succ] at cX0 cX1
    have lX := lt_of_cell cX0
    have cVG0 := cell_at HOVG.out.mem 0 (by simp)
    have cVG1 := cell_at HOVG.out.mem 1 (by simp)
    simp only [Nat.zero_add, List.getElem_cons_zero, List.getElem_cons_succ] at cVG0 cVG1
    have lVG := lt_of_cell cVG0
    go_wp2_with fail
    refine (markDisk' cax ccx csx dax dcx dsx w16 HOx.out HKx.out).mono ?_
    rintro x w17 ⟨rfl, ho, ht⟩
    clear cA0 cA1 lA cVW0 cVW1 lVW cX0 cX1 lX cVG0 cVG1 lVG
    replace HK := hide (ht.keeps HK.out HNx.out)
    replace HOA := hide (HOA.out.turn ht HDA_x.out)
    replace HOw := hide (HOw.out.turn ht HDw_x.out)
    replace HOVW := hide (HOVW.out.turn ht HDVW_x.out)
    replace HOX := hide (HOX.out.turn ht HDX_x.out)
    replace HOz := hide (HOz.out.turn ht HDz_x.out)
    replace HOg := hide (HOg.out.turn ht HDg_x.out)
    replace HOVG := hide (HOVG.out.turn ht HDVG_x.out)
    clear ht
    replace HOx := hide ho
    clear ho
    have HKB : Hid (1 + tot csx + dsx.length + totW dsx ≤ 1000000000000) := by show _ ≤ _; have := HKx.out.d; have := HKx.out.tc; have := HKx.out.td; omega
    generalize 1 + tot csx + dsx.length + totW dsx = kk at HKB ⊢
    clear HOx HNx HDA_x HDx_A HDw_x HDx_w HDVW_x HDx_VW HDX_x HDx_X HDz_x HDx_z HDg_x HDx_g HDVG_x HDx_VG
    clear HEx HKx HAx HBx
    have cA0 := cell_at HOA.out.mem 0 (by simp)
    have cA1 := cell_at HOA.out.mem 1 (by simp)
    simp only [Nat.zero_add, List.getElem_cons_zero, List.getElem_cons_succ] at cA0 cA1
    have lA := lt_of_cell cA0
    have cVW0 := cell_at HOVW.out.mem 0 (by simp)
    have cVW1 := cell_at HOVW.out.mem 1 (by simp)
    simp only [Nat.zero_add, List.getElem_cons_zero, List.getElem_cons_succ] at cVW0 cVW1
    have lVW := lt_of_cell cVW0
    have cX0 := cell_at HOX.out.mem 0 (by simp)
    have cX1 := cell_at HOX.out.mem 1 (by simp)
    simp only [Nat.zero_add, List.getElem_cons_zero, List.getElem_cons_succ] at cX0 cX1
    have lX := lt_of_cell cX0
    have cVG0 := cell_at HOVG.out.mem 0 (by simp)
    have cVG1 := cell_at HOVG.out.mem 1 (by simp)
    simp only [Nat.zero_add, List.getElem_cons_zero, List.getElem_cons_succ] at cVG0 cVG1
    have lVG := lt_of_cell cVG0
    go_wp2_with fail
    refine (markByteS_k (some ⟨b2, 0, none⟩) bL.length bL kk w17 HOz.out HLB24.out HKB.out).mono ?_
    rintro x w18 ⟨rfl, ho, ht⟩
    clear cA0 cA1 lA cVW0 cVW1 lVW cX0 cX1 lX cVG0 cVG1 lVG
    replace HK := hide (ht.keeps HK.out HNz.out)
    replace HOA := hide (HOA.out.turn ht HDA_z.out)
    replace HOw := hide (HOw.out.turn ht HDw_z.out)
    replace HOVW := hide (HOVW.out.turn ht HDVW_z.out)
    replace HOX := hide (HOX.out.turn ht HDX_z.out)
    replace HOg := hide (HOg.out.turn ht HDg_z.out)
    replace HOVG := hide (HOVG.out.turn ht HDVG_z.out)
    clear ht
    replace HOz := hide ho
    clear ho
    have hkn : ¬ (((kk + bL.length : Nat) : Int) < 0) := by omega
    have cA0 := cell_at HOA.out.mem 0 (by simp)
    have cA1 := cell_at HOA.out.mem 1 (by simp)
    simp only [Nat.zero_add, List.getElem_cons_zero, List.getElem_cons_succ] at cA0 cA1
    have lA := lt_of_cell cA0
    have cVW0 := cell_at HOVW.out.mem 0 (by simp)
    have cVW1 := cell_at HOVW.out.mem 1 (by simp)
    simp only [Nat.zero_add, List.getElem_cons_zero, List.getElem_cons_succ] at cVW0 cVW1
    have lVW := lt_of_cell cVW0
    have cX0 := cell_at HOX.out.mem 0 (by simp)
    have cX1 := cell_at HOX.out.mem 1 (by simp)
    simp only [Nat.zero_add, List.getElem_cons_zero, List.getElem_cons_succ] at cX0 cX1
    have lX := lt_of_cell cX0
    have cVG0 := cell_at HOVG.out.mem 0 (by simp)
    have cVG1 := cell_at HOVG.out.mem 1 (by simp)
    simp only [Nat.zero_add, List.getElem_cons_zero, List.getElem_cons_succ] at cVG0 cVG1
    have lVG := lt_of_cell cVG0
    go_wp2_with fail
    refine (eqDisk' cag ccg csg dag dcg dsg caw ccw csw daw dcw dsw w18 (HEw.out.trans HEg.out.symm) HOg.out.mem HOw.out.mem HKg.out).mono ?_
    rintro x w19 ⟨rfl, hk⟩
    clear cA0 cA1 lA cVW0 cVW1 lVW cX0 cX1 lX cVG0 cVG1 lVG
    replace HK := hide (HK.out.trans hk)
    replace HOA := hide (HOA.out.kept hk)
    replace HOw := hide (HOw.out.kept hk)
    replace HOVW := hide (HOVW.out.kept hk)
    replace HOX := hide (HOX.out.kept hk)
    replace HOz := hide (HOz.out.kept hk)
    replace HOg := hide (HOg.out.kept hk)
    replace HOVG := hide (HOVG.out.kept hk)
    clear hk
    clear HOz HNz HDA_z HDz_A HDw_z HDz_w HDVW_z HDz_VW HDX_z HDz_X HDg_z HDz_g HDVG_z HDz_VG
    clear HOX HNX HDA_X HDX_A HDw_X HDX_w HDVW_X HDX_VW HDg_X HDX_g HDVG_X HDX_VG
    have cA0 := cell_at HOA.out.mem 0 (by simp)
    have cA1 := cell_at HOA.out.mem 1 (by simp)
    simp only [Nat.zero_add, List.getElem_cons_zero, List.getElem_cons_succ] at cA0 cA1
    have lA := lt_of_cell cA0
    have cVW0 := cell_at HOVW.out.mem 0 (by simp)
    have cVW1 := cell_at HOVW.out.mem 1 (by simp)
    simp only [Nat.zero_add, List.getElem_cons_zero, List.getElem_cons_succ] at cVW0 cVW1
    have lVW := lt_of_cell cVW0
    have cVG0 := cell_at HOVG.out.mem 0 (by simp)
    have cVG1 := cell_at HOVG.out.mem 1 (by simp)
    simp only [Nat.zero_add, List.getElem_cons_zero, List.getElem_cons_succ] at cVG0 cVG1
    have lVG := lt_of_cell cVG0
    go_wp2_with fail
    refine (markDisk' cag ccg csg dag dcg dsg w19 HOg.out HKg.out).mono ?_
    rintro x w20 ⟨rfl, ho, ht⟩
    clear cA0 cA1 lA cVW0 cVW1 lVW cVG0 cVG1 lVG
    replace HK := hide (ht.keeps HK.out HNg.out)
    replace HOA := hide (HOA.out.turn ht HDA_g.out)
    replace HOw := hide (HOw.out.turn ht HDw_g.out)
    replace HOVW := hide (HOVW.out.turn ht HDVW_g.out)
    replace HOVG := hide (HOVG.out.turn ht HDVG_g.out)
    clear ht
    replace HOg := hide ho
    clear ho
    have cA0 := cell_at HOA.out.mem 0 (by simp)
    have cA1 := cell_at HOA.out.mem 1 (by simp)
    simp only [Nat.zero_add, List.getElem_cons_zero, List.getElem_cons_succ] at cA0 cA1
    have lA := lt_of_cell cA0
    have cVW0 := cell_at HOVW.out.mem 0 (by simp)
    have cVW1 := cell_at HOVW.out.mem 1 (by simp)
    simp only [Nat.zero_add, List.getElem_cons_zero, List.getElem_cons_succ] at cVW0 cVW1
    have lVW := lt_of_cell cVW0
    have cVG0 := cell_at HOVG.out.mem 0 (by simp)
    have cVG1 := cell_at HOVG.out.mem 1 (by simp)
    simp only [Nat.zero_add, List.getElem_cons_zero, List.getElem_cons_succ] at cVG0 cVG1
    have lVG := lt_of_cell cVG0
    go_wp2_with fail
    refine (heldDisk' cag ccg csg dag dcg dsg w20 HOg.out.mem HKg.out).mono ?_
    rintro x w21 ⟨rfl, hk⟩
    clear cA0 cA1 lA cVW0 cVW1 lVW cVG0 cVG1 lVG
    replace HK := hide (HK.out.trans hk)
    replace HOA := hide (HOA.out.kept hk)
    replace HOw := hide (HOw.out.kept hk)
    replace HOVW := hide (HOVW.out.kept hk)
    replace HOg := hide (HOg.out.kept hk)
    replace HOVG := hide (HOVG.out.kept hk)
    clear hk
    have cA0 := cell_at HOA.out.mem 0 (by simp)
    have cA1 := cell_at HOA.out.mem 1 (by simp)
    simp only [Nat.zero_add, List.getElem_cons_zero, List.getElem_cons_succ] at cA0 cA1
    have lA := lt_of_cell cA0
    have cVW0 := cell_at HOVW.out.mem 0 (by simp)
    have cVW1 := cell_at HOVW.out.mem 1 (by simp)
    simp only [Nat.zero_add, List.getElem_cons_zero, List.getElem_cons_succ] at cVW0 cVW1
    have lVW := lt_of_cell cVW0
    have cVG0 := cell_at HOVG.out.mem 0 (by simp)
    have cVG1 := cell_at HOVG.out.mem 1 (by simp)
    simp only [Nat.zero_add, List.getElem_cons_zero, List.getElem_cons_succ] at cVG0 cVG1
    have lVG := lt_of_cell cVG0
    go_wp2_with fail
    refine (toDisk' ca cc cs da dc ds w21 (HM.out.kept HK.out) HOK.out).mono ?_
    rintro x w22 ⟨v, rfl, hr, hk⟩
    obtain ⟨cau, ccu, csu, dau, dcu, dsu, rfl, heu, hoku, hnau, hndu, hb⟩ := hr
    have HEu := hide heu
    have HKu := hide hoku
    have HAu := hide hnau
    have HBu := hide hndu
    clear heu hoku hnau hndu
    clear cA0 cA1 lA cVW0 cVW1 lVW cVG0 cVG1 lVG
    have HDA_u := hide (hb.apart HOA.out.mem)
    have HDu_A := hide (hb.apart' HOA.out.mem)
    have HDw_u := hide (hb.apart HOw.out.mem)
    have HDu_w := hide (hb.apart' HOw.out.mem)
    have HDVW_u := hide (hb.apart HOVW.out.mem)
    have HDu_VW := hide (hb.apart' HOVW.out.mem)
    have HDg_u := hide (hb.apart HOg.out.mem)
    have HDu_g := hide (hb.apart' HOg.out.mem)
    have HDVG_u := hide (hb.apart HOVG.out.mem)
    have HDu_VG := hide (hb.apart' HOVG.out.mem)
    have HNu := hide ((hb.old HK.out).new)
    replace HK := hide (HK.out.trans hk)
    replace HOA := hide (HOA.out.kept hk)
    replace HOw := hide (HOw.out.kept hk)
    replace HOVW := hide (HOVW.out.kept hk)
    replace HOg := hide (HOg.out.kept hk)
    replace HOVG := hide (HOVG.out.kept hk)
    have HOu := hide hb.toOwn
    clear hb hk
    have cA0 := cell_at HOA.out.mem 0 (by simp)
    have cA1 := cell_at HOA.out.mem 1 (by simp)
    simp only [Nat.zero_add, List.getElem_cons_zero, List.getElem_cons_succ] at cA0 cA1
    have lA := lt_of_cell cA0
    have cVW0 := cell_at HOVW.out.mem 0 (by simp)
    have cVW1 := cell_at HOVW.out.mem 1 (by simp)
    simp only [Nat.zero_add, List.getElem_cons_zero, List.getElem_cons_succ] at cVW0 cVW1
    have lVW := lt_of_cell cVW0
    have cVG0 := cell_at HOVG.out.mem 0 (by simp)
    have cVG1 := cell_at HOVG.out.mem 1 (by simp)
    simp only [Nat.zero_add, List.getElem_cons_zero, List.getElem_cons_succ] at cVG0 cVG1
    have lVG := lt_of_cell cVG0
    go_wp2_with fail
    refine (toByteS_k ba bc bL w22 (HMB.out.kept HK.out) HLB.out).mono ?_
    rintro x w23 ⟨b4, rfl, hb, hk⟩
    clear cA0 cA1 lA cVW0 cVW1 lVW cVG0 cVG1 lVG
    have HDA_v := hide (hb.apart HOA.out.mem)
    have HDv_A := hide (hb.apart' HOA.out.mem)
    have HDw_v := hide (hb.apart HOw.out.mem)
    have HDv_w := hide (hb.apart' HOw.out.mem)
    have HDVW_v := hide (hb.apart HOVW.out.mem)
    have HDv_VW := hide (hb.apart' HOVW.out.mem)
    have HDg_v := hide (hb.apart HOg.out.mem)
    have HDv_g := hide (hb.apart' HOg.out.mem)
    have HDVG_v := hide (hb.apart HOVG.out.mem)
    have HDv_VG := hide (hb.apart' HOVG.out.mem)
    have HDu_v := hide (hb.apart HOu.out.mem)
    have HDv_u := hide (hb.apart' HOu.out.mem)
    have HNv := hide ((hb.old HK.out).new)
    replace HK := hide (HK.out.trans hk)
    replace HOA := hide (HOA.out.kept hk)
    replace HOw := hide (HOw.out.kept hk)
    replace HOVW := hide (HOVW.out.kept hk)
    replace HOg := hide (HOg.out.kept hk)
    replace HOVG := hide (HOVG.out.kept hk)
    replace HOu := hide (HOu.out.kept hk)
    have HOv := hide hb.toOwn
    clear hb hk
    have cA0 := cell_at HOA.out.mem 0 (by simp)
    have cA1 := cell_at HOA.out.mem 1 (by simp)
    simp only [Nat.zero_add, List.getElem_cons_zero, List.getElem_cons_succ] at cA0 cA1
    have lA := lt_of_cell cA0
    have cVW0 := cell_at HOVW.out.mem 0 (by simp)
    have cVW1 := cell_at HOVW.out.mem 1 (by simp)
    simp only [Nat.zero_add, List.getElem_cons_zero, List.getElem_cons_succ] at cVW0 cVW1
    have lVW := lt_of_cell cVW0
    have cVG0 := cell_at HOVG.out.mem 0 (by simp)
    have cVG1 := cell_at HOVG.out.mem 1 (by simp)
    simp only [Nat.zero_add, List.getElem_cons_zero, List.getElem_cons_succ] at cVG0 cVG1
    have lVG := lt_of_cell cVG0
    go_wp2_with fail
    refine (diskwrite_impl cau ccu csu dau dcu dsu i (some ⟨b4, 0, none⟩) bL.length bL w23 HOu.out.mem HKu.out (HOv.out.mem ((some ⟨b4, 0, none⟩), bys bL) (by simp)) (fun e => nomatch e) HLB.out).mono ?_
    rintro x w24 ⟨v, rfl, hr, hk⟩
    rw [HEu.out] at hr
    rw [HEu.out]
    obtain ⟨cah, cch, csh, dah, dch, dsh, rfl, heh, hokh, hnah, hndh, hb⟩ := hr
    have HEh := hide heh
    have HKh := hide hokh
    have HAh := hide hnah
    have HBh := hide hndh
    clear heh hokh hnah hndh
    clear cA0 cA1 lA cVW0 cVW1 lVW cVG0 cVG1 lVG
    have HDA_h := hide (hb.apart HOA.out.mem)
    have HDh_A := hide (hb.apart' HOA.out.mem)
    have HDw_h := hide (hb.apart HOw.out.mem)
    have HDh_w := hide (hb.apart' HOw.out.mem)
    have HDVW_h := hide (hb.apart HOVW.out.mem)
    have HDh_VW := hide (hb.apart' HOVW.out.mem)
    have HDg_h := hide (hb.apart HOg.out.mem)
    have HDh_g := hide (hb.apart' HOg.out.mem)
    have HDVG_h := hide (hb.apart HOVG.out.mem)
    have HDh_VG := hide (hb.apart' HOVG.out.mem)
    have HDu_h := hide (hb.apart HOu.out.mem)
    have HDh_u := hide (hb.apart' HOu.out.mem)
    have HDv_h := hide (hb.apart HOv.out.mem)
    have HDh_v := hide (hb.apart' HOv.out.mem)
    have HNh := hide ((hb.old HK.out).new)
    replace HK := hide (HK.out.trans hk)
    replace HOA := hide (HOA.out.kept hk)
    replace HOw := hide (HOw.out.kept hk)
    replace HOVW := hide (HOVW.out.kept hk)
    replace HOg := hide (HOg.out.kept hk)
    replace HOVG := hide (HOVG.out.kept hk)
    replace HOu := hide (HOu.out.kept hk)
    replace HOv := hide (HOv.out.kept hk)
    have HOh := hide hb.toOwn
    clear hb hk
    have cA0 := cell_at HOA.out.mem 0 (by simp)
    have cA1 := cell_at HOA.out.mem 1 (by simp)
    simp only [Nat.zero_add, List.getElem_cons_zero, List.getElem_cons_succ] at cA0 cA1
    have lA := lt_of_cell cA0
    have cVW0 := cell_at HOVW.out.mem 0 (by simp)
    have cVW1 := cell_at HOVW.out.mem 1 (by simp)
    simp only [Nat.zero_add, List.getElem_cons_zero, List.getElem_cons_succ] at cVW0 cVW1
    have lVW := lt_of_cell cVW0
    have cVG0 := cell_at HOVG.out.mem 0 (by simp)
    have cVG1 := cell_at HOVG.out.mem 1 (by simp)
    simp only [Nat.zero_add, List.getElem_cons_zero, List.getElem_cons_succ] at cVG0 cVG1
    have lVG := lt_of_cell cVG0
    go_wp2_with fail
    have hb := born_alloc w24 #[.slice cah csh.length cch, .slice dah dsh.length dch] 31
    dsimp only at hb
    have hk := Keeps.alloc (Keeps.refl w24) (.cells #[.slice cah csh.length cch, .slice dah dsh.length dch] 31)
    generalize w24.alloc (.cells #[.slice cah csh.length cch, .slice dah dsh.length dch] 31) = w25 at *
    clear cA0 cA1 lA cVW0 cVW1 lVW cVG0 cVG1 lVG
    have HDA_VH := hide (hb.apart HOA.out.mem)
    have HDVH_A := hide (hb.apart' HOA.out.mem)
    have HDw_VH := hide (hb.apart HOw.out.mem)
    have HDVH_w := hide (hb.apart' HOw.out.mem)
    have HDVW_VH := hide (hb.apart HOVW.out.mem)
    have HDVH_VW := hide (hb.apart' HOVW.out.mem)
    have HDg_VH := hide (hb.apart HOg.out.mem)
    have HDVH_g := hide (hb.apart' HOg.out.mem)
    have HDVG_VH := hide (hb.apart HOVG.out.mem)
    have HDVH_VG := hide (hb.apart' HOVG.out.mem)
    have HDu_VH := hide (hb.apart HOu.out.mem)
    have HDVH_u := hide (hb.apart' HOu.out.mem)
    have HDv_VH := hide (hb.apart HOv.out.mem)
    have HDVH_v := hide (hb.apart' HOv.out.mem)
    have HDh_VH := hide (hb.apart HOh.out.mem)
    have HDVH_h := hide (hb.apart' HOh.out.mem)
    have HNVH := hide ((hb.old HK.out).new)
    replace HK := hide (HK.out.trans hk)
    replace HOA := hide (HOA.out.kept hk)
    replace HOw := hide (HOw.out.kept hk)
    replace HOVW := hide (HOVW.out.kept hk)
    replace HOg := hide (HOg.out.kept hk)
    replace HOVG := hide (HOVG.out.kept hk)
    replace HOu := hide (HOu.out.kept hk)
    replace HOv := hide (HOv.out.kept hk)
    replace HOh := hide (HOh.out.kept hk)
    have HOVH := hide hb.toOwn
    clear hb hk
    clear HOu HNu HDA_u HDu_A HDw_u HDu_w HDVW_u HDu_VW HDg_u HDu_g HDVG_u HDu_VG HDv_u HDu_v HDh_u HDu_h HDVH_u HDu_VH
    clear HEu HKu HAu HBu
    clear HOv HNv HDA_v HDv_A HDw_v HDv_w HDVW_v HDv_VW HDg_v HDv_g HDVG_v HDv_VG HDh_v HDv_h HDVH_v HDv_VH
    refine (eqDisk' cah cch csh dah dch dsh caw ccw csw daw dcw dsw w25 (HEw.out.trans HEh.out.symm) HOh.out.mem HOw.out.mem HKh.out).mono ?_
    rintro x w26 ⟨rfl, hk⟩
    replace HK := hide (HK.out.trans hk)
    replace HOA := hide (HOA.out.kept hk)
    replace HOw := hide (HOw.out.kept hk)
    replace HOVW := hide (HOVW.out.kept hk)
    replace HOg := hide (HOg.out.kept hk)
    replace HOVG := hide (HOVG.out.kept hk)
    replace HOh := hide (HOh.out.kept hk)
    replace HOVH := hide (HOVH.out.kept hk)
    clear hk
    have cA0 := cell_at HOA.out.mem 0 (by simp)
    have cA1 := cell_at HOA.out.mem 1 (by simp)
    simp only [Nat.zero_add, List.getElem_cons_zero, List.getElem_cons_succ] at cA0 cA1
    have lA := lt_of_cell cA0
    have cVW0 := cell_at HOVW.out.mem 0 (by simp)
    have cVW1 := cell_at HOVW.out.mem 1 (by simp)
    simp only [Nat.zero_add, List.getElem_cons_zero, List.getElem_cons_succ] at cVW0 cVW1
    have lVW := lt_of_cell cVW0
    have cVG0 := cell_at HOVG.out.mem 0 (by simp)
    have cVG1 := cell_at HOVG.out.mem 1 (by simp)
    simp only [Nat.zero_add, List.getElem_cons_zero, List.getElem_cons_succ] at cVG0 cVG1
    have lVG := lt_of_cell cVG0
    have cVH0 := cell_at HOVH.out.mem 0 (by simp)
    have cVH1 := cell_at HOVH.out.mem 1 (by simp)
    simp only [Nat.zero_add, List.getElem_cons_zero, List.getElem_cons_succ] at cVH0 cVH1
    have lVH := lt_of_cell cVH0
    go_wp2_with fail
    refine (heldDisk' cag ccg csg dag dcg dsg w26 HOg.out.mem HKg.out).mono ?_
    rintro x w27 ⟨rfl, hk⟩
    clear cA0 cA1 lA cVW0 cVW1 lVW cVG0 cVG1 lVG cVH0 cVH1 lVH
    replace HK := hide (HK.out.trans hk)
    replace HOA := hide (HOA.out.kept hk)
    replace HOw := hide (HOw.out.kept hk)
    replace HOVW := hide (HOVW.out.kept hk)
    replace HOg := hide (HOg.out.kept hk)
    replace HOVG := hide (HOVG.out.kept hk)
    replace HOh := hide (HOh.out.kept hk)
    replace HOVH := hide (HOVH.out.kept hk)
    clear hk
    go_wp2_with fail
    go_ret
    exact ⟨rfl, HK.out⟩
  · have h1 : (1048576 : Int) < bL.length := by omega
    clear hlt
    go_enter Try.func3, Try.ntmps3
    go_wp2_with fail
    go_ret
    exact ⟨rfl, Keeps.alloc (Keeps.refl _) _⟩

theorem own : ownKnob Try.prog.godebug = none := by kernel_rfl
theorem laidOut : laidOutB Try.prog = true := by kernel_rfl

set_option maxRecDepth 100000 in
theorem lifted (os : Os) (started : os.Started) (H : Type) (enc : TypeId × Value → H) :
    ReturnsInHanded {} Try.checked os 3 .any (Rows.fnExactDiskWriteSpec.pre6 enc Try.prog Try.f3 Rows.fnExactDiskWriteRow.domain false) (Rows.fnExactDiskWriteSpec.post enc Try.prog Try.f3 false true false false) := by
  refine returnsInHanded_of_change (C := Try.checked) own started (by kernel_rfl) Try.func3
    (ChangeSpec.witness6 (enc := enc) (C := Try.checked) false ⟨#[], #[.agg #[.slice none 0 0, .slice none 0 0], .int .i64 0, .slice none 0 0], []⟩ 8 (by kernel_rfl) (by kernel_rfl) (by kernel_rfl) (by kernel_rfl)) ?_
  intro W base args ds gs before hval0 hW hcnd _
  have hval : ∀ (j : Nat) t v, Try.f3.params[j]? = some t → args[j]? = some v → Value.okWide Try.prog W .any base t v := hval0
  have hW' := hW
  obtain ⟨p, q, hA0, hV, rfl, hfz, hnd⟩ := hW
  have hA : DataW.TrodAll enc Try.prog W 0 (fun _ => true) true Try.f3.params.toList args.toList ds p := hA0
  rw [Try.params3] at hA hval
  obtain ⟨v0, vs0, d0, ds0, p0, q0, hargs, rfl, rfl, h0, r0⟩ := trodAll_cons hA
  obtain ⟨v1, vs1, d1, ds1, p1, q1, rfl, rfl, rfl, h1, r1⟩ := trodAll_cons r0
  obtain ⟨v2, vs2, d2, ds2, p2, q2, rfl, rfl, rfl, h2, r2⟩ := trodAll_cons r1
  obtain ⟨rfl, rfl, rfl⟩ := trodAll_nil r2
  obtain rfl : args = #[v0, v1, v2] := by cases args; simp_all
  obtain ⟨rfl, rfl⟩ := trodVars_none hV
  have lt0 := lt_row h0
  have k0 := h0
  obtain ⟨ca0, cc0, cs0, da0, dc0, ds0, rfl, hm0, ho0⟩ := disk_row (hval 0 25 v0 rfl rfl) h0
  obtain ⟨a1, rfl, rfl, rfl, w1⟩ := open_int Try.underlying3 (hval 1 3 v1 rfl rfl) h1
  have lt2 := lt_row h2
  have k2 := h2
  obtain ⟨a2, cap2, L2, rfl, hc2, hn2, hl2⟩ := bytes_row (hval 2 26 v2 rfl rfl) h2
  clear hA0 hval0
  refine (walk ca0 cc0 cs0 da0 dc0 ds0 a1 a2 cap2 L2 W hm0 ho0 w1 hc2 hn2 hl2).mono fun e W' ⟨he, hb⟩ => ?_
  subst he
  refine ⟨_, rfl, _, _, _, [], (p0 ++ ([] ++ (p2 ++ []))), [], hW', ?_, ?_, ?_, Below.frame hb _, fun h => by cases h⟩
  · exact trodAll_mk1 (shut_bool Try.underlying4 _)
  · exact (trodAll_cons_mk (Below.trod laidOut (by kernel_rfl) (of_decide_eq_true (by kernel_rfl)) k0 hb lt0) (trodAll_cons_mk (shut_int Try.underlying3 w1) (trodAll_cons_mk (Below.trod laidOut (by kernel_rfl) (of_decide_eq_true (by kernel_rfl)) k2 hb lt2) trodAll_mk0)))
  · exact rfl

theorem over : Rows.fnExactDiskWriteRow.holds Try.pinned (OpenSpec.ofChange Rows.fnExactDiskWriteSpec) :=
  OpenClaim.holds_of_wide 3 Try.f3 rfl rfl rfl rfl rfl rfl rfl ⟨rfl, rfl, rfl, rfl, rfl⟩ rfl rfl rfl rfl rfl (by kernel_rfl) Try.func3 (by kernel_rfl)
    (of_decide_eq_true (by kernel_rfl)) (by unfold Func.isWrapper; first | (rw [if_pos (by decide +kernel)]; kernel_rfl) | (rw [if_neg (by decide +kernel)]; exact ⟨rfl, rfl⟩))
    (fun os started H enc _ => lifted os started H enc)
end Go.Proofs.Ytphabdjhmahemaa.fnExactDiskWrite
namespace Go.Proofs.Ytphabdjhmahemaa
theorem fnExactDiskWrite_holds : Rows.FnExactDiskWriteSaid := fnExactDiskWrite.over
end Go.Proofs.Ytphabdjhmahemaa
