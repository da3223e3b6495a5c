/- At every log the program's LogSync answers as the model's, its argument is as it was, and its answer owns its memory; no condition but that the argument can be read. -/
import Derived.Test.YtmkhlhjggbencaaLgR
import Derived.Test.YtmkhlhjggbencaaRows
import Derived.WalkKit
import Derived.ProofKit
import Derived.OpenShut
import Derived.ChangeOld
import Derived.Below
namespace Go.Proofs.Ytmkhlhjggbencaa.fnExactLogSync
open Go.ChangeShapes Go.WideShapes Go.ChangeAt Go.RowKit
set_option linter.unusedVariables false
set_option maxHeartbeats 4000000 in
theorem walk (ca : Option Addr) (cc : Nat) (cs : List Bs) (da : Option Addr) (dc : Nat) (ds : List Wr) (nx ep : Int) (w : World) (hm : Mem w (dsk ca cs da ds)) (hok : Dk.ok ⟨ca, cc, cs, da, dc, ds⟩) (hnx : (Lit.int .i64 nx).wf = true) (hep : (Lit.int .i64 ep).wf = true) :
    Calls Try.prog 4 #[logV ca cs.length cc da ds.length dc nx ep] w fun e w' => e = .returned (.bool true) ∧ Keeps w w' := by
  have HM := hide hm
  have HS := hide (fun w1 hm => szLog' ca cc cs da dc ds nx ep w1 hm hok)
  clear hm hok
  clear hnx hep
  go_enter Try.func4, Try.ntmps4
  have HK := hide (Keeps.refl w)
  go_wp2_with fail
  have hb := born_alloc w #[.slice ca cs.length cc, .slice da ds.length dc, .int .i64 nx, .int .i64 ep] 27
  dsimp only at hb
  have hk := Keeps.alloc (Keeps.refl w) (.cells #[.slice ca cs.length cc, .slice da ds.length dc, .int .i64 nx, .int .i64 ep] 27)
  generalize w.alloc (.cells #[.slice ca cs.length cc, .slice da ds.length dc, .int .i64 nx, .int .i64 ep] 27) = w1 at *
  have HNA := hide ((hb.old HK.out).new)
  replace HK := hide (HK.out.trans hk)
  have HOA := hide hb.toOwn
  clear hb hk
  have cA0 := cell_at HOA.out.mem 0 (by simp)
  have cA1 := cell_at HOA.out.mem 1 (by simp)
  have cA2 := cell_at HOA.out.mem 2 (by simp)
  have cA3 := cell_at HOA.out.mem 3 (by simp)
  simp only [Nat.zero_add, List.getElem_cons_zero, List.getElem_cons_succ] at cA0 cA1 cA2 cA3
  have lA := lt_of_cell cA0
  refine (unhide HS w1 (HM.out.kept HK.out)).mono ?_
  rintro x w2 ⟨r, rfl, hr, hk⟩
  clear cA0 cA1 cA2 cA3 lA
  replace HK := hide (HK.out.trans hk)
  replace HOA := hide (HOA.out.kept hk)
  clear hk
  have HOK := hide hr
  clear hr HS
  by_cases hr0 : r < 0
  · go_wp2_with fail
    go_ret
    exact ⟨rfl, HK.out⟩
  replace HOK := hide (HOK.out (by omega))
  have cA0 := cell_at HOA.out.mem 0 (by simp)
  have cA1 := cell_at HOA.out.mem 1 (by simp)
  have cA2 := cell_at HOA.out.mem 2 (by simp)
  have cA3 := cell_at HOA.out.mem 3 (by simp)
  simp only [Nat.zero_add, List.getElem_cons_zero, List.getElem_cons_succ] at cA0 cA1 cA2 cA3
  have lA := lt_of_cell cA0
  go_wp2_with fail
  refine (toLog' ca cc cs da dc ds nx ep w2 (HM.out.kept HK.out) HOK.out).mono ?_
  rintro x w3 ⟨v, rfl, hr, hk⟩
  obtain ⟨cas, ccs, css, das, dcs, dss, rfl, hes, hoks, hnas, hnds, hb⟩ := hr
  have HEs := hide hes
  have HKs := hide hoks
  have HAs := hide hnas
  have HBs := hide hnds
  clear hes hoks hnas hnds
  clear cA0 cA1 cA2 cA3 lA
  have HDA_s := hide (hb.apart HOA.out.mem)
  have HDs_A := hide (hb.apart' HOA.out.mem)
  have HNs := hide ((hb.old HK.out).new)
  replace HK := hide (HK.out.trans hk)
  replace HOA := hide (HOA.out.kept hk)
  have HOs := hide hb.toOwn
  clear hb hk
  have cA0 := cell_at HOA.out.mem 0 (by simp)
  have cA1 := cell_at HOA.out.mem 1 (by simp)
  have cA2 := cell_at HOA.out.mem 2 (by simp)
  have cA3 := cell_at HOA.out.mem 3 (by simp)
  simp only [Nat.zero_add, List.getElem_cons_zero, List.getElem_cons_succ] at cA0 cA1 cA2 cA3
  have lA := lt_of_cell cA0
  go_wp2_with fail
  refine (logsync_spec cas ccs css das dcs dss nx ep w3 HOs.out.mem HKs.out).mono ?_
  rintro x w4 ⟨v, rfl, hr, hk⟩
  rw [HEs.out] at hr
  obtain ⟨caw, ccw, csw, daw, dcw, dsw, rfl, hew, hokw, hnaw, hndw, hb⟩ := hr
  have HEw := hide hew
  have HKw := hide hokw
  have HAw := hide hnaw
  have HBw := hide hndw
  clear hew hokw hnaw hndw
  clear cA0 cA1 cA2 cA3 lA
  have HDA_w := hide (hb.apart HOA.out.mem)
  have HDw_A := hide (hb.apart' HOA.out.mem)
  have HDs_w := hide (hb.apart HOs.out.mem)
  have HDw_s := hide (hb.apart' HOs.out.mem)
  have HNw := hide ((hb.old HK.out).new)
  replace HK := hide (HK.out.trans hk)
  replace HOA := hide (HOA.out.kept hk)
  replace HOs := hide (HOs.out.kept hk)
  have HOw := hide hb.toOwn
  clear hb hk
  have cA0 := cell_at HOA.out.mem 0 (by simp)
  have cA1 := cell_at HOA.out.mem 1 (by simp)
  have cA2 := cell_at HOA.out.mem 2 (by simp)
  have cA3 := cell_at HOA.out.mem 3 (by simp)
  simp only [Nat.zero_add, List.getElem_cons_zero, List.getElem_cons_succ] at cA0 cA1 cA2 cA3
  have lA := lt_of_cell cA0
  go_wp2_with fail
  have hb := born_alloc w4 #[.slice caw csw.length ccw, .slice daw dsw.length dcw, .int .i64 (syncN (dat cs ds) nx), .int .i64 (syncN (dat cs ds) ep)] 36
  dsimp only at hb
  have hk := Keeps.alloc (Keeps.refl w4) (.cells #[.slice caw csw.length ccw, .slice daw dsw.length dcw, .int .i64 (syncN (dat cs ds) nx), .int .i64 (syncN (dat cs ds) ep)] 36)
  generalize w4.alloc (.cells #[.slice caw csw.length ccw, .slice daw dsw.length dcw, .int .i64 (syncN (dat cs ds) nx), .int .i64 (syncN (dat cs ds) ep)] 36) = w5 at *
  clear cA0 cA1 cA2 cA3 lA
  have HDA_VW := hide (hb.apart HOA.out.mem)
  have HDVW_A := hide (hb.apart' HOA.out.mem)
  have HDs_VW := hide (hb.apart HOs.out.mem)
  have HDVW_s := hide (hb.apart' HOs.out.mem)
  have HDw_VW := hide (hb.apart HOw.out.mem)
  have HDVW_w := hide (hb.apart' HOw.out.mem)
  have HNVW := hide ((hb.old HK.out).new)
  replace HK := hide (HK.out.trans hk)
  replace HOA := hide (HOA.out.kept hk)
  replace HOs := hide (HOs.out.kept hk)
  replace HOw := hide (HOw.out.kept hk)
  have HOVW := hide hb.toOwn
  clear hb hk
  clear HOs HNs HDA_s HDs_A HDw_s HDs_w HDVW_s HDs_VW
  clear HEs HKs HAs HBs
  refine (toLog' ca cc cs da dc ds nx ep w5 (HM.out.kept HK.out) HOK.out).mono ?_
  rintro x w6 ⟨v, rfl, hr, hk⟩
  obtain ⟨cax, ccx, csx, dax, dcx, dsx, rfl, hex, hokx, hnax, hndx, hb⟩ := hr
  have HEx := hide hex
  have HKx := hide hokx
  have HAx := hide hnax
  have HBx := hide hndx
  clear hex hokx hnax hndx
  have HDA_x := hide (hb.apart HOA.out.mem)
  have HDx_A := hide (hb.apart' HOA.out.mem)
  have HDw_x := hide (hb.apart HOw.out.mem)
  have HDx_w := hide (hb.apart' HOw.out.mem)
  have HDVW_x := hide (hb.apart HOVW.out.mem)
  have HDx_VW := hide (hb.apart' HOVW.out.mem)
  have HNx := hide ((hb.old HK.out).new)
  replace HK := hide (HK.out.trans hk)
  replace HOA := hide (HOA.out.kept hk)
  replace HOw := hide (HOw.out.kept hk)
  replace HOVW := hide (HOVW.out.kept hk)
  have HOx := hide hb.toOwn
  clear hb hk
  have cA0 := cell_at HOA.out.mem 0 (by simp)
  have cA1 := cell_at HOA.out.mem 1 (by simp)
  have cA2 := cell_at HOA.out.mem 2 (by simp)
  have cA3 := cell_at HOA.out.mem 3 (by simp)
  simp only [Nat.zero_add, List.getElem_cons_zero, List.getElem_cons_succ] at cA0 cA1 cA2 cA3
  have lA := lt_of_cell cA0
  have cVW0 := cell_at HOVW.out.mem 0 (by simp)
  have cVW1 := cell_at HOVW.out.mem 1 (by simp)
  have cVW2 := cell_at HOVW.out.mem 2 (by simp)
  have cVW3 := cell_at HOVW.out.mem 3 (by simp)
  simp only [Nat.zero_add, List.getElem_cons_zero, List.getElem_cons_succ] at cVW0 cVW1 cVW2 cVW3
  have lVW := lt_of_cell cVW0
  go_wp2_with fail
  have hb := born_alloc w6 #[.slice cax csx.length ccx, .slice dax dsx.length dcx, .int .i64 nx, .int .i64 ep] 36
  dsimp only at hb
  have hk := Keeps.alloc (Keeps.refl w6) (.cells #[.slice cax csx.length ccx, .slice dax dsx.length dcx, .int .i64 nx, .int .i64 ep] 36)
  generalize w6.alloc (.cells #[.slice cax csx.length ccx, .slice dax dsx.length dcx, .int .i64 nx, .int .i64 ep] 36) = w7 at *
  clear cA0 cA1 cA2 cA3 lA cVW0 cVW1 cVW2 cVW3 lVW
  have HDA_X := hide (hb.apart HOA.out.mem)
  have HDX_A := hide (hb.apart' HOA.out.mem)
  have HDw_X := hide (hb.apart HOw.out.mem)
  have HDX_w := hide (hb.apart' HOw.out.mem)
  have HDVW_X := hide (hb.apart HOVW.out.mem)
  have HDX_VW := hide (hb.apart' HOVW.out.mem)
  have HDx_X := hide (hb.apart HOx.out.mem)
  have HDX_x := hide (hb.apart' HOx.out.mem)
  have HNX := hide ((hb.old HK.out).new)
  replace HK := hide (HK.out.trans hk)
  replace HOA := hide (HOA.out.kept hk)
  replace HOw := hide (HOw.out.kept hk)
  replace HOVW := hide (HOVW.out.kept hk)
  replace HOx := hide (HOx.out.kept hk)
  have HOX := hide hb.toOwn
  clear hb hk
  refine (logsync_impl cax ccx csx dax dcx dsx nx ep w7 HOx.out.mem HKx.out).mono ?_
  rintro x w8 ⟨v, rfl, hr, hk⟩
  rw [HEx.out] at hr
  obtain ⟨cag, ccg, csg, dag, dcg, dsg, rfl, heg, hokg, hnag, hndg, hb⟩ := hr
  have HEg := hide heg
  have HKg := hide hokg
  have HAg := hide hnag
  have HBg := hide hndg
  clear heg hokg hnag hndg
  have HDA_g := hide (hb.apart HOA.out.mem)
  have HDg_A := hide (hb.apart' HOA.out.mem)
  have HDw_g := hide (hb.apart HOw.out.mem)
  have HDg_w := hide (hb.apart' HOw.out.mem)
  have HDVW_g := hide (hb.apart HOVW.out.mem)
  have HDg_VW := hide (hb.apart' HOVW.out.mem)
  have HDx_g := hide (hb.apart HOx.out.mem)
  have HDg_x := hide (hb.apart' HOx.out.mem)
  have HDX_g := hide (hb.apart HOX.out.mem)
  have HDg_X := hide (hb.apart' HOX.out.mem)
  have HNg := hide ((hb.old HK.out).new)
  replace HK := hide (HK.out.trans hk)
  replace HOA := hide (HOA.out.kept hk)
  replace HOw := hide (HOw.out.kept hk)
  replace HOVW := hide (HOVW.out.kept hk)
  replace HOx := hide (HOx.out.kept hk)
  replace HOX := hide (HOX.out.kept hk)
  have HOg := hide hb.toOwn
  clear hb hk
  have cA0 := cell_at HOA.out.mem 0 (by simp)
  have cA1 := cell_at HOA.out.mem 1 (by simp)
  have cA2 := cell_at HOA.out.mem 2 (by simp)
  have cA3 := cell_at HOA.out.mem 3 (by simp)
  simp only [Nat.zero_add, List.getElem_cons_zero, List.getElem_cons_succ] at cA0 cA1 cA2 cA3
  have lA := lt_of_cell cA0
  have cVW0 := cell_at HOVW.out.mem 0 (by simp)
  have cVW1 := cell_at HOVW.out.mem 1 (by simp)
  have cVW2 := cell_at HOVW.out.mem 2 (by simp)
  have cVW3 := cell_at HOVW.out.mem 3 (by simp)
  simp only [Nat.zero_add, List.getElem_cons_zero, List.getElem_cons_succ] at cVW0 cVW1 cVW2 cVW3
  have lVW := lt_of_cell cVW0
  have cX0 := cell_at HOX.out.mem 0 (by simp)
  have cX1 := cell_at HOX.out.mem 1 (by simp)
  have cX2 := cell_at HOX.out.mem 2 (by simp)
  have cX3 := cell_at HOX.out.mem 3 (by simp)
  simp only [Nat.zero_add, List.getElem_cons_zero, List.getElem_cons_succ] at cX0 cX1 cX2 cX3
  have lX := lt_of_cell cX0
  go_wp2_with fail
  have hb := born_alloc w8 #[.slice cag csg.length ccg, .slice dag dsg.length dcg, .int .i64 (syncN (dat cs ds) nx), .int .i64 (syncN (dat cs ds) ep)] 36
  dsimp only at hb
  have hk := Keeps.alloc (Keeps.refl w8) (.cells #[.slice cag csg.length ccg, .slice dag dsg.length dcg, .int .i64 (syncN (dat cs ds) nx), .int .i64 (syncN (dat cs ds) ep)] 36)
  generalize w8.alloc (.cells #[.slice cag csg.length ccg, .slice dag dsg.length dcg, .int .i64 (syncN (dat cs ds) nx), .int .i64 (syncN (dat cs ds) ep)] 36) = w9 at *
  clear cA0 cA1 cA2 cA3 lA cVW0 cVW1 cVW2 cVW3 lVW cX0 cX1 cX2 cX3 lX
  have HDA_VG := hide (hb.apart HOA.out.mem)
  have HDVG_A := hide (hb.apart' HOA.out.mem)
  have HDw_VG := hide (hb.apart HOw.out.mem)
  have HDVG_w := hide (hb.apart' HOw.out.mem)
  have HDVW_VG := hide (hb.apart HOVW.out.mem)
  have HDVG_VW := hide (hb.apart' HOVW.out.mem)
  have HDx_VG := hide (hb.apart HOx.out.mem)
  have HDVG_x := hide (hb.apart' HOx.out.mem)
  have HDX_VG := hide (hb.apart HOX.out.mem)
  have HDVG_X := hide (hb.apart' HOX.out.mem)
  have HDg_VG := hide (hb.apart HOg.out.mem)
  have HDVG_g := hide (hb.apart' HOg.out.mem)
  have HNVG := hide ((hb.old HK.out).new)
  replace HK := hide (HK.out.trans hk)
  replace HOA := hide (HOA.out.kept hk)
  replace HOw := hide (HOw.out.kept hk)
  replace HOVW := hide (HOVW.out.kept hk)
  replace HOx := hide (HOx.out.kept hk)
  replace HOX := hide (HOX.out.kept hk)
  replace HOg := hide (HOg.out.kept hk)
  have HOVG := hide hb.toOwn
  clear hb hk
  refine (eqLog' cag ccg csg dag dcg dsg caw ccw csw daw dcw dsw (syncN (dat cs ds) nx) (syncN (dat cs ds) ep) w9 (HEw.out.trans HEg.out.symm) HOg.out.mem HOw.out.mem HKg.out).mono ?_
  rintro x w10 ⟨rfl, hk⟩
  replace HK := hide (HK.out.trans hk)
  replace HOA := hide (HOA.out.kept hk)
  replace HOw := hide (HOw.out.kept hk)
  replace HOVW := hide (HOVW.out.kept hk)
  replace HOx := hide (HOx.out.kept hk)
  replace HOX := hide (HOX.out.kept hk)
  replace HOg := hide (HOg.out.kept hk)
  replace HOVG := hide (HOVG.out.kept hk)
  clear hk
  have cA0 := cell_at HOA.out.mem 0 (by simp)
  have cA1 := cell_at HOA.out.mem 1 (by simp)
  have cA2 := cell_at HOA.out.mem 2 (by simp)
  have cA3 := cell_at HOA.out.mem 3 (by simp)
  simp only [Nat.zero_add, List.getElem_cons_zero, List.getElem_cons_succ] at cA0 cA1 cA2 cA3
  have lA := lt_of_cell cA0
  have cVW0 := cell_at HOVW.out.mem 0 (by simp)
  have cVW1 := cell_at HOVW.out.mem 1 (by simp)
  have cVW2 := cell_at HOVW.out.mem 2 (by simp)
  have cVW3 := cell_at HOVW.out.mem 3 (by simp)
  simp only [Nat.zero_add, List.getElem_cons_zero, List.getElem_cons_succ] at cVW0 cVW1 cVW2 cVW3
  have lVW := lt_of_cell cVW0
  have cX0 := cell_at HOX.out.mem 0 (by simp)
  have cX1 := cell_at HOX.out.mem 1 (by simp)
  have cX2 := cell_at HOX.out.mem 2 (by simp)
  have cX3 := cell_at HOX.out.mem 3 (by simp)
  simp only [Nat.zero_add, List.getElem_cons_zero, List.getElem_cons_succ] at cX0 cX1 cX2 cX3
  have lX := lt_of_cell cX0
  have cVG0 := cell_at HOVG.out.mem 0 (by simp)
  have cVG1 := cell_at HOVG.out.mem 1 (by simp)
  have cVG2 := cell_at HOVG.out.mem 2 (by simp)
  have cVG3 := cell_at HOVG.out.mem 3 (by simp)
  simp only [Nat.zero_add, List.getElem_cons_zero, List.getElem_cons_succ] at cVG0 cVG1 cVG2 cVG3
  have lVG := lt_of_cell cVG0
  go_wp2_with fail
  have HT := hide (fun w' (hk : Keeps w10 w') => toLog' ca cc cs da dc ds nx ep w' ((HM.out.kept HK.out).kept hk) HOK.out)
  go_region_held3 (fun w' => w'.cell? ⟨w6.heap.size, 0, none⟩ = some (.slice cax csx.length ccx) ∧ w'.cell? ⟨w6.heap.size, 1, none⟩ = some (.slice dax dsx.length dcx) ∧ w'.cell? ⟨w6.heap.size, 2, none⟩ = some (.int .i64 nx) ∧ w'.cell? ⟨w6.heap.size, 3, none⟩ = some (.int .i64 ep) ∧ w'.cell? ⟨w.heap.size, 0, none⟩ = some (.slice ca cs.length cc) ∧ w'.cell? ⟨w.heap.size, 1, none⟩ = some (.slice da ds.length dc) ∧ w'.cell? ⟨w.heap.size, 2, none⟩ = some (.int .i64 nx) ∧ w'.cell? ⟨w.heap.size, 3, none⟩ = some (.int .i64 ep)) (go_keep)
    (first
       | (go_at_call 7
          refine (unhide HT _ ((Keeps.refl w10).drew)).mono ?_
          rintro x w11 ⟨v, rfl, hr, hk⟩
          obtain ⟨cay, ccy, csy, day, dcy, dsy, rfl, hey, hoky, hnay, hndy, hb⟩ := hr
          have HEy := hide hey
          have HKy := hide hoky
          have HAy := hide hnay
          have HBy := hide hndy
          clear hey hoky hnay hndy
          replace hb := hb.old ((Keeps.refl w10).drew)
          replace hk := ((Keeps.refl w10).drew).trans hk
          clear cA0 cA1 cA2 cA3 lA cVW0 cVW1 cVW2 cVW3 lVW cX0 cX1 cX2 cX3 lX cVG0 cVG1 cVG2 cVG3 lVG
          have HDA_y := hide (hb.apart HOA.out.mem)
          have HDy_A := hide (hb.apart' HOA.out.mem)
          have HDw_y := hide (hb.apart HOw.out.mem)
          have HDy_w := hide (hb.apart' HOw.out.mem)
          have HDVW_y := hide (hb.apart HOVW.out.mem)
          have HDy_VW := hide (hb.apart' HOVW.out.mem)
          have HDx_y := hide (hb.apart HOx.out.mem)
          have HDy_x := hide (hb.apart' HOx.out.mem)
          have HDX_y := hide (hb.apart HOX.out.mem)
          have HDy_X := hide (hb.apart' HOX.out.mem)
          have HDg_y := hide (hb.apart HOg.out.mem)
          have HDy_g := hide (hb.apart' HOg.out.mem)
          have HDVG_y := hide (hb.apart HOVG.out.mem)
          have HDy_VG := hide (hb.apart' HOVG.out.mem)
          have HNy := hide ((hb.old HK.out).new)
          replace HK := hide (HK.out.trans hk)
          replace HOA := hide (HOA.out.kept hk)
          replace HOw := hide (HOw.out.kept hk)
          replace HOVW := hide (HOVW.out.kept hk)
          replace HOx := hide (HOx.out.kept hk)
          replace HOX := hide (HOX.out.kept hk)
          replace HOg := hide (HOg.out.kept hk)
          replace HOVG := hide (HOVG.out.kept hk)
          have HOy := hide hb.toOwn
          clear hb hk
          have cX0 := cell_at HOX.out.mem 0 (by simp)
          have cX1 := cell_at HOX.out.mem 1 (by simp)
          have cX2 := cell_at HOX.out.mem 2 (by simp)
          have cX3 := cell_at HOX.out.mem 3 (by simp)
          simp only [Nat.zero_add, List.getElem_cons_zero, List.getElem_cons_succ] at cX0 cX1 cX2 cX3
          have lX := lt_of_cell cX0
          have cA0 := cell_at HOA.out.mem 0 (by simp)
          have cA1 := cell_at HOA.out.mem 1 (by simp)
          have cA2 := cell_at HOA.out.mem 2 (by simp)
          have cA3 := cell_at HOA.out.mem 3 (by simp)
          simp only [Nat.zero_add, List.getElem_cons_zero, List.getElem_cons_succ] at cA0 cA1 cA2 cA3
          have lA := lt_of_cell cA0
          have cVW0 := cell_at HOVW.out.mem 0 (by simp)
          have cVW1 := cell_at HOVW.out.mem 1 (by simp)
          have cVW2 := cell_at HOVW.out.mem 2 (by simp)
          have cVW3 := cell_at HOVW.out.mem 3 (by simp)
          simp only [Nat.zero_add, List.getElem_cons_zero, List.getElem_cons_succ] at cVW0 cVW1 cVW2 cVW3
          have lVW := lt_of_cell cVW0
          have cVG0 := cell_at HOVG.out.mem 0 (by simp)
          have cVG1 := cell_at HOVG.out.mem 1 (by simp)
          have cVG2 := cell_at HOVG.out.mem 2 (by simp)
          have cVG3 := cell_at HOVG.out.mem 3 (by simp)
          simp only [Nat.zero_add, List.getElem_cons_zero, List.getElem_cons_succ] at cVG0 cVG1 cVG2 cVG3
          have lVG := lt_of_cell cVG0)
       | (go_at_call 10
          refine (eqLog' cax ccx csx dax dcx dsx cay ccy csy day dcy dsy nx ep w11 (HEy.out.trans HEx.out.symm) HOx.out.mem HOy.out.mem HKx.out).mono ?_
          rintro x w12 ⟨rfl, hk⟩
          clear cX0 cX1 cX2 cX3 lX cA0 cA1 cA2 cA3 lA cVW0 cVW1 cVW2 cVW3 lVW cVG0 cVG1 cVG2 cVG3 lVG
          replace HK := hide (HK.out.trans hk)
          replace HOA := hide (HOA.out.kept hk)
          replace HOw := hide (HOw.out.kept hk)
          replace HOVW := hide (HOVW.out.kept hk)
          replace HOx := hide (HOx.out.kept hk)
          replace HOX := hide (HOX.out.kept hk)
          replace HOg := hide (HOg.out.kept hk)
          replace HOVG := hide (HOVG.out.kept hk)
          replace HOy := hide (HOy.out.kept hk)
          clear hk
          have cX0 := cell_at HOX.out.mem 0 (by simp)
          have cX1 := cell_at HOX.out.mem 1 (by simp)
          have cX2 := cell_at HOX.out.mem 2 (by simp)
          have cX3 := cell_at HOX.out.mem 3 (by simp)
          simp only [Nat.zero_add, List.getElem_cons_zero, List.getElem_cons_succ] at cX0 cX1 cX2 cX3
          have lX := lt_of_cell cX0
          have cA0 := cell_at HOA.out.mem 0 (by simp)
          have cA1 := cell_at HOA.out.mem 1 (by simp)
          have cA2 := cell_at HOA.out.mem 2 (by simp)
          have cA3 := cell_at HOA.out.mem 3 (by simp)
          simp only [Nat.zero_add, List.getElem_cons_zero, List.getElem_cons_succ] at cA0 cA1 cA2 cA3
          have lA := lt_of_cell cA0
          have cVW0 := cell_at HOVW.out.mem 0 (by simp)
          have cVW1 := cell_at HOVW.out.mem 1 (by simp)
          have cVW2 := cell_at HOVW.out.mem 2 (by simp)
          have cVW3 := cell_at HOVW.out.mem 3 (by simp)
          simp only [Nat.zero_add, List.getElem_cons_zero, List.getElem_cons_succ] at cVW0 cVW1 cVW2 cVW3
          have lVW := lt_of_cell cVW0
          have cVG0 := cell_at HOVG.out.mem 0 (by simp)
          have cVG1 := cell_at HOVG.out.mem 1 (by simp)
          have cVG2 := cell_at HOVG.out.mem 2 (by simp)
          have cVG3 := cell_at HOVG.out.mem 3 (by simp)
          simp only [Nat.zero_add, List.getElem_cons_zero, List.getElem_cons_succ] at cVG0 cVG1 cVG2 cVG3
          have lVG := lt_of_cell cVG0))
  clear HOy HNy HDA_y HDy_A HDw_y HDy_w HDVW_y HDy_VW HDx_y HDy_x HDX_y HDy_X HDg_y HDy_g HDVG_y HDy_VG
  clear HEy HKy HAy HBy
  clear HT
  clear cX0 cX1 cX2 cX3 lX cA0 cA1 cA2 cA3 lA cVW0 cVW1 cVW2 cVW3 lVW cVG0 cVG1 cVG2 cVG3 lVG
  have cA0 := cell_at HOA.out.mem 0 (by simp)
  have cA1 := cell_at HOA.out.mem 1 (by simp)
  have cA2 := cell_at HOA.out.mem 2 (by simp)
  have cA3 := cell_at HOA.out.mem 3 (by simp)
  simp only [Nat.zero_add, List.getElem_cons_zero, List.getElem_cons_succ] at cA0 cA1 cA2 cA3
  have lA := lt_of_cell cA0
  have cVW0 := cell_at HOVW.out.mem 0 (by simp)
  have cVW1 := cell_at HOVW.out.mem 1 (by simp)
  have cVW2 := cell_at HOVW.out.mem 2 (by simp)
  have cVW3 := cell_at HOVW.out.mem 3 (by simp)
  simp only [Nat.zero_add, List.getElem_cons_zero, List.getElem_cons_succ] at cVW0 cVW1 cVW2 cVW3
  have lVW := lt_of_cell cVW0
  have cX0 := cell_at HOX.out.mem 0 (by simp)
  have cX1 := cell_at HOX.out.mem 1 (by simp)
  have cX2 := cell_at HOX.out.mem 2 (by simp)
  have cX3 := cell_at HOX.out.mem 3 (by simp)
  simp only [Nat.zero_add, List.getElem_cons_zero, List.getElem_cons_succ] at cX0 cX1 cX2 cX3
  have lX := lt_of_cell cX0
  have cVG0 := cell_at HOVG.out.mem 0 (by simp)
  have cVG1 := cell_at HOVG.out.mem 1 (by simp)
  have cVG2 := cell_at HOVG.out.mem 2 (by simp)
  have cVG3 := cell_at HOVG.out.mem 3 (by simp)
  simp only [Nat.zero_add, List.getElem_cons_zero, List.getElem_cons_succ] at cVG0 cVG1 cVG2 cVG3
  have lVG := lt_of_cell cVG0
  go_wp2_with fail
  refine (markLog' cax ccx csx dax dcx dsx nx ep w12 HOx.out HKx.out).mono ?_
  rintro x w13 ⟨rfl, ho, ht⟩
  clear cA0 cA1 cA2 cA3 lA cVW0 cVW1 cVW2 cVW3 lVW cX0 cX1 cX2 cX3 lX cVG0 cVG1 cVG2 cVG3 lVG
  replace HK := hide (ht.keeps HK.out HNx.out)
  replace HOA := hide (HOA.out.turn ht HDA_x.out)
  replace HOw := hide (HOw.out.turn ht HDw_x.out)
  replace HOVW := hide (HOVW.out.turn ht HDVW_x.out)
  replace HOX := hide (HOX.out.turn ht HDX_x.out)
  replace HOg := hide (HOg.out.turn ht HDg_x.out)
  replace HOVG := hide (HOVG.out.turn ht HDVG_x.out)
  clear ht
  replace HOx := hide ho
  clear ho
  clear HOx HNx HDA_x HDx_A HDw_x HDx_w HDVW_x HDx_VW HDX_x HDx_X HDg_x HDx_g HDVG_x HDx_VG
  clear HEx HKx HAx HBx
  have cA0 := cell_at HOA.out.mem 0 (by simp)
  have cA1 := cell_at HOA.out.mem 1 (by simp)
  have cA2 := cell_at HOA.out.mem 2 (by simp)
  have cA3 := cell_at HOA.out.mem 3 (by simp)
  simp only [Nat.zero_add, List.getElem_cons_zero, List.getElem_cons_succ] at cA0 cA1 cA2 cA3
  have lA := lt_of_cell cA0
  have cVW0 := cell_at HOVW.out.mem 0 (by simp)
  have cVW1 := cell_at HOVW.out.mem 1 (by simp)
  have cVW2 := cell_at HOVW.out.mem 2 (by simp)
  have cVW3 := cell_at HOVW.out.mem 3 (by simp)
  simp only [Nat.zero_add, List.getElem_cons_zero, List.getElem_cons_succ] at cVW0 cVW1 cVW2 cVW3
  have lVW := lt_of_cell cVW0
  have cX0 := cell_at HOX.out.mem 0 (by simp)
  have cX1 := cell_at HOX.out.mem 1 (by simp)
  have cX2 := cell_at HOX.out.mem 2 (by simp)
  have cX3 := cell_at HOX.out.mem 3 (by simp)
  simp only [Nat.zero_add, List.getElem_cons_zero, List.getElem_cons_succ] at cX0 cX1 cX2 cX3
  have lX := lt_of_cell cX0
  have cVG0 := cell_at HOVG.out.mem 0 (by simp)
  have cVG1 := cell_at HOVG.out.mem 1 (by simp)
  have cVG2 := cell_at HOVG.out.mem 2 (by simp)
  have cVG3 := cell_at HOVG.out.mem 3 (by simp)
  simp only [Nat.zero_add, List.getElem_cons_zero, List.getElem_cons_succ] at cVG0 cVG1 cVG2 cVG3
  have lVG := lt_of_cell cVG0
  go_wp2_with fail
  refine (eqLog' cag ccg csg dag dcg dsg caw ccw csw daw dcw dsw (syncN (dat cs ds) nx) (syncN (dat cs ds) ep) w13 (HEw.out.trans HEg.out.symm) HOg.out.mem HOw.out.mem HKg.out).mono ?_
  rintro x w14 ⟨rfl, hk⟩
  clear cA0 cA1 cA2 cA3 lA cVW0 cVW1 cVW2 cVW3 lVW cX0 cX1 cX2 cX3 lX cVG0 cVG1 cVG2 cVG3 lVG
  replace HK := hide (HK.out.trans hk)
  replace HOA := hide (HOA.out.kept hk)
  replace HOw := hide (HOw.out.kept hk)
  replace HOVW := hide (HOVW.out.kept hk)
  replace HOX := hide (HOX.out.kept hk)
  replace HOg := hide (HOg.out.kept hk)
  replace HOVG := hide (HOVG.out.kept hk)
  clear hk
  clear HOX HNX HDA_X HDX_A HDw_X HDX_w HDVW_X HDX_VW HDg_X HDX_g HDVG_X HDX_VG
  have cA0 := cell_at HOA.out.mem 0 (by simp)
  have cA1 := cell_at HOA.out.mem 1 (by simp)
  have cA2 := cell_at HOA.out.mem 2 (by simp)
  have cA3 := cell_at HOA.out.mem 3 (by simp)
  simp only [Nat.zero_add, List.getElem_cons_zero, List.getElem_cons_succ] at cA0 cA1 cA2 cA3
  have lA := lt_of_cell cA0
  have cVW0 := cell_at HOVW.out.mem 0 (by simp)
  have cVW1 := cell_at HOVW.out.mem 1 (by simp)
  have cVW2 := cell_at HOVW.out.mem 2 (by simp)
  have cVW3 := cell_at HOVW.out.mem 3 (by simp)
  simp only [Nat.zero_add, List.getElem_cons_zero, List.getElem_cons_succ] at cVW0 cVW1 cVW2 cVW3
  have lVW := lt_of_cell cVW0
  have cVG0 := cell_at HOVG.out.mem 0 (by simp)
  have cVG1 := cell_at HOVG.out.mem 1 (by simp)
  have cVG2 := cell_at HOVG.out.mem 2 (by simp)
  have cVG3 := cell_at HOVG.out.mem 3 (by simp)
  simp only [Nat.zero_add, List.getElem_cons_zero, List.getElem_cons_succ] at cVG0 cVG1 cVG2 cVG3
  have lVG := lt_of_cell cVG0
  go_wp2_with fail
  refine (markLog' cag ccg csg dag dcg dsg (syncN (dat cs ds) nx) (syncN (dat cs ds) ep) w14 HOg.out HKg.out).mono ?_
  rintro x w15 ⟨rfl, ho, ht⟩
  clear cA0 cA1 cA2 cA3 lA cVW0 cVW1 cVW2 cVW3 lVW cVG0 cVG1 cVG2 cVG3 lVG
  replace HK := hide (ht.keeps HK.out HNg.out)
  replace HOA := hide (HOA.out.turn ht HDA_g.out)
  replace HOw := hide (HOw.out.turn ht HDw_g.out)
  replace HOVW := hide (HOVW.out.turn ht HDVW_g.out)
  replace HOVG := hide (HOVG.out.turn ht HDVG_g.out)
  clear ht
  replace HOg := hide ho
  clear ho
  have cA0 := cell_at HOA.out.mem 0 (by simp)
  have cA1 := cell_at HOA.out.mem 1 (by simp)
  have cA2 := cell_at HOA.out.mem 2 (by simp)
  have cA3 := cell_at HOA.out.mem 3 (by simp)
  simp only [Nat.zero_add, List.getElem_cons_zero, List.getElem_cons_succ] at cA0 cA1 cA2 cA3
  have lA := lt_of_cell cA0
  have cVW0 := cell_at HOVW.out.mem 0 (by simp)
  have cVW1 := cell_at HOVW.out.mem 1 (by simp)
  have cVW2 := cell_at HOVW.out.mem 2 (by simp)
  have cVW3 := cell_at HOVW.out.mem 3 (by simp)
  simp only [Nat.zero_add, List.getElem_cons_zero, List.getElem_cons_succ] at cVW0 cVW1 cVW2 cVW3
  have lVW := lt_of_cell cVW0
  have cVG0 := cell_at HOVG.out.mem 0 (by simp)
  have cVG1 := cell_at HOVG.out.mem 1 (by simp)
  have cVG2 := cell_at HOVG.out.mem 2 (by simp)
  have cVG3 := cell_at HOVG.out.mem 3 (by simp)
  simp only [Nat.zero_add, List.getElem_cons_zero, List.getElem_cons_succ] at cVG0 cVG1 cVG2 cVG3
  have lVG := lt_of_cell cVG0
  go_wp2_with fail
  refine (heldLog' cag ccg csg dag dcg dsg (syncN (dat cs ds) nx) (syncN (dat cs ds) ep) w15 HOg.out.mem HKg.out).mono ?_
  rintro x w16 ⟨rfl, hk⟩
  clear cA0 cA1 cA2 cA3 lA cVW0 cVW1 cVW2 cVW3 lVW cVG0 cVG1 cVG2 cVG3 lVG
  replace HK := hide (HK.out.trans hk)
  replace HOA := hide (HOA.out.kept hk)
  replace HOw := hide (HOw.out.kept hk)
  replace HOVW := hide (HOVW.out.kept hk)
  replace HOg := hide (HOg.out.kept hk)
  replace HOVG := hide (HOVG.out.kept hk)
  clear hk
  have cA0 := cell_at HOA.out.mem 0 (by simp)
  have cA1 := cell_at HOA.out.mem 1 (by simp)
  have cA2 := cell_at HOA.out.mem 2 (by simp)
  have cA3 := cell_at HOA.out.mem 3 (by simp)
  simp only [Nat.zero_add, List.getElem_cons_zero, List.getElem_cons_succ] at cA0 cA1 cA2 cA3
  have lA := lt_of_cell cA0
  have cVW0 := cell_at HOVW.out.mem 0 (by simp)
  have cVW1 := cell_at HOVW.out.mem 1 (by simp)
  have cVW2 := cell_at HOVW.out.mem 2 (by simp)
  have cVW3 := cell_at HOVW.out.mem 3 (by simp)
  simp only [Nat.zero_add, List.getElem_cons_zero, List.getElem_cons_succ] at cVW0 cVW1 cVW2 cVW3
  have lVW := lt_of_cell cVW0
  have cVG0 := cell_at HOVG.out.mem 0 (by simp)
  have cVG1 := cell_at HOVG.out.mem 1 (by simp)
  have cVG2 := cell_at HOVG.out.mem 2 (by simp)
  have cVG3 := cell_at HOVG.out.mem 3 (by simp)
  simp only [Nat.zero_add, List.getElem_cons_zero, List.getElem_cons_succ] at cVG0 cVG1 cVG2 cVG3
  have lVG := lt_of_cell cVG0
  go_wp2_with fail
  refine (toLog' ca cc cs da dc ds nx ep w16 (HM.out.kept HK.out) HOK.out).mono ?_
  rintro x w17 ⟨v, rfl, hr, hk⟩
  obtain ⟨cau, ccu, csu, dau, dcu, dsu, rfl, heu, hoku, hnau, hndu, hb⟩ := hr
  have HEu := hide heu
  have HKu := hide hoku
  have HAu := hide hnau
  have HBu := hide hndu
  clear heu hoku hnau hndu
  clear cA0 cA1 cA2 cA3 lA cVW0 cVW1 cVW2 cVW3 lVW cVG0 cVG1 cVG2 cVG3 lVG
  have HDA_u := hide (hb.apart HOA.out.mem)
  have HDu_A := hide (hb.apart' HOA.out.mem)
  have HDw_u := hide (hb.apart HOw.out.mem)
  have HDu_w := hide (hb.apart' HOw.out.mem)
  have HDVW_u := hide (hb.apart HOVW.out.mem)
  have HDu_VW := hide (hb.apart' HOVW.out.mem)
  have HDg_u := hide (hb.apart HOg.out.mem)
  have HDu_g := hide (hb.apart' HOg.out.mem)
  have HDVG_u := hide (hb.apart HOVG.out.mem)
  have HDu_VG := hide (hb.apart' HOVG.out.mem)
  have HNu := hide ((hb.old HK.out).new)
  replace HK := hide (HK.out.trans hk)
  replace HOA := hide (HOA.out.kept hk)
  replace HOw := hide (HOw.out.kept hk)
  replace HOVW := hide (HOVW.out.kept hk)
  replace HOg := hide (HOg.out.kept hk)
  replace HOVG := hide (HOVG.out.kept hk)
  have HOu := hide hb.toOwn
  clear hb hk
  have cA0 := cell_at HOA.out.mem 0 (by simp)
  have cA1 := cell_at HOA.out.mem 1 (by simp)
  have cA2 := cell_at HOA.out.mem 2 (by simp)
  have cA3 := cell_at HOA.out.mem 3 (by simp)
  simp only [Nat.zero_add, List.getElem_cons_zero, List.getElem_cons_succ] at cA0 cA1 cA2 cA3
  have lA := lt_of_cell cA0
  have cVW0 := cell_at HOVW.out.mem 0 (by simp)
  have cVW1 := cell_at HOVW.out.mem 1 (by simp)
  have cVW2 := cell_at HOVW.out.mem 2 (by simp)
  have cVW3 := cell_at HOVW.out.mem 3 (by simp)
  simp only [Nat.zero_add, List.getElem_cons_zero, List.getElem_cons_succ] at cVW0 cVW1 cVW2 cVW3
  have lVW := lt_of_cell cVW0
  have cVG0 := cell_at HOVG.out.mem 0 (by simp)
  have cVG1 := cell_at HOVG.out.mem 1 (by simp)
  have cVG2 := cell_at HOVG.out.mem 2 (by simp)
  have cVG3 := cell_at HOVG.out.mem 3 (by simp)
  simp only [Nat.zero_add, List.getElem_cons_zero, List.getElem_cons_succ] at cVG0 cVG1 cVG2 cVG3
  have lVG := lt_of_cell cVG0
  go_wp2_with fail
  refine (logsync_impl cau ccu csu dau dcu dsu nx ep w17 HOu.out.mem HKu.out).mono ?_
  rintro x w18 ⟨v, rfl, hr, hk⟩
  rw [HEu.out] at hr
  obtain ⟨cah, cch, csh, dah, dch, dsh, rfl, heh, hokh, hnah, hndh, hb⟩ := hr
  have HEh := hide heh
  have HKh := hide hokh
  have HAh := hide hnah
  have HBh := hide hndh
  clear heh hokh hnah hndh
  clear cA0 cA1 cA2 cA3 lA cVW0 cVW1 cVW2 cVW3 lVW cVG0 cVG1 cVG2 cVG3 lVG
  have HDA_h := hide (hb.apart HOA.out.mem)
  have HDh_A := hide (hb.apart' HOA.out.mem)
  have HDw_h := hide (hb.apart HOw.out.mem)
  have HDh_w := hide (hb.apart' HOw.out.mem)
  have HDVW_h := hide (hb.apart HOVW.out.mem)
  have HDh_VW := hide (hb.apart' HOVW.out.mem)
  have HDg_h := hide (hb.apart HOg.out.mem)
  have HDh_g := hide (hb.apart' HOg.out.mem)
  have HDVG_h := hide (hb.apart HOVG.out.mem)
  have HDh_VG := hide (hb.apart' HOVG.out.mem)
  have HDu_h := hide (hb.apart HOu.out.mem)
  have HDh_u := hide (hb.apart' HOu.out.mem)
  have HNh := hide ((hb.old HK.out).new)
  replace HK := hide (HK.out.trans hk)
  replace HOA := hide (HOA.out.kept hk)
  replace HOw := hide (HOw.out.kept hk)
  replace HOVW := hide (HOVW.out.kept hk)
  replace HOg := hide (HOg.out.kept hk)
  replace HOVG := hide (HOVG.out.kept hk)
  replace HOu := hide (HOu.out.kept hk)
  have HOh := hide hb.toOwn
  clear hb hk
  have cA0 := cell_at HOA.out.mem 0 (by simp)
  have cA1 := cell_at HOA.out.mem 1 (by simp)
  have cA2 := cell_at HOA.out.mem 2 (by simp)
  have cA3 := cell_at HOA.out.mem 3 (by simp)
  simp only [Nat.zero_add, List.getElem_cons_zero, List.getElem_cons_succ] at cA0 cA1 cA2 cA3
  have lA := lt_of_cell cA0
  have cVW0 := cell_at HOVW.out.mem 0 (by simp)
  have cVW1 := cell_at HOVW.out.mem 1 (by simp)
  have cVW2 := cell_at HOVW.out.mem 2 (by simp)
  have cVW3 := cell_at HOVW.out.mem 3 (by simp)
  simp only [Nat.zero_add, List.getElem_cons_zero, List.getElem_cons_succ] at cVW0 cVW1 cVW2 cVW3
  have lVW := lt_of_cell cVW0
  have cVG0 := cell_at HOVG.out.mem 0 (by simp)
  have cVG1 := cell_at HOVG.out.mem 1 (by simp)
  have cVG2 := cell_at HOVG.out.mem 2 (by simp)
  have cVG3 := cell_at HOVG.out.mem 3 (by simp)
  simp only [Nat.zero_add, List.getElem_cons_zero, List.getElem_cons_succ] at cVG0 cVG1 cVG2 cVG3
  have lVG := lt_of_cell cVG0
  go_wp2_with fail
  have hb := born_alloc w18 #[.slice cah csh.length cch, .slice dah dsh.length dch, .int .i64 (syncN (dat cs ds) nx), .int .i64 (syncN (dat cs ds) ep)] 36
  dsimp only at hb
  have hk := Keeps.alloc (Keeps.refl w18) (.cells #[.slice cah csh.length cch, .slice dah dsh.length dch, .int .i64 (syncN (dat cs ds) nx), .int .i64 (syncN (dat cs ds) ep)] 36)
  generalize w18.alloc (.cells #[.slice cah csh.length cch, .slice dah dsh.length dch, .int .i64 (syncN (dat cs ds) nx), .int .i64 (syncN (dat cs ds) ep)] 36) = w19 at *
  clear cA0 cA1 cA2 cA3 lA cVW0 cVW1 cVW2 cVW3 lVW cVG0 cVG1 cVG2 cVG3 lVG
  have HDA_VH := hide (hb.apart HOA.out.mem)
  have HDVH_A := hide (hb.apart' HOA.out.mem)
  have HDw_VH := hide (hb.apart HOw.out.mem)
  have HDVH_w := hide (hb.apart' HOw.out.mem)
  have HDVW_VH := hide (hb.apart HOVW.out.mem)
  have HDVH_VW := hide (hb.apart' HOVW.out.mem)
  have HDg_VH := hide (hb.apart HOg.out.mem)
  have HDVH_g := hide (hb.apart' HOg.out.mem)
  have HDVG_VH := hide (hb.apart HOVG.out.mem)
  have HDVH_VG := hide (hb.apart' HOVG.out.mem)
  have HDu_VH := hide (hb.apart HOu.out.mem)
  have HDVH_u := hide (hb.apart' HOu.out.mem)
  have HDh_VH := hide (hb.apart HOh.out.mem)
  have HDVH_h := hide (hb.apart' HOh.out.mem)
  have HNVH := hide ((hb.old HK.out).new)
  replace HK := hide (HK.out.trans hk)
  replace HOA := hide (HOA.out.kept hk)
  replace HOw := hide (HOw.out.kept hk)
  replace HOVW := hide (HOVW.out.kept hk)
  replace HOg := hide (HOg.out.kept hk)
  replace HOVG := hide (HOVG.out.kept hk)
  replace HOu := hide (HOu.out.kept hk)
  replace HOh := hide (HOh.out.kept hk)
  have HOVH := hide hb.toOwn
  clear hb hk
  clear HOu HNu HDA_u HDu_A HDw_u HDu_w HDVW_u HDu_VW HDg_u HDu_g HDVG_u HDu_VG HDh_u HDu_h HDVH_u HDu_VH
  clear HEu HKu HAu HBu
  refine (eqLog' cah cch csh dah dch dsh caw ccw csw daw dcw dsw (syncN (dat cs ds) nx) (syncN (dat cs ds) ep) w19 (HEw.out.trans HEh.out.symm) HOh.out.mem HOw.out.mem HKh.out).mono ?_
  rintro x w20 ⟨rfl, hk⟩
  replace HK := hide (HK.out.trans hk)
  replace HOA := hide (HOA.out.kept hk)
  replace HOw := hide (HOw.out.kept hk)
  replace HOVW := hide (HOVW.out.kept hk)
  replace HOg := hide (HOg.out.kept hk)
  replace HOVG := hide (HOVG.out.kept hk)
  replace HOh := hide (HOh.out.kept hk)
  replace HOVH := hide (HOVH.out.kept hk)
  clear hk
  have cA0 := cell_at HOA.out.mem 0 (by simp)
  have cA1 := cell_at HOA.out.mem 1 (by simp)
  have cA2 := cell_at HOA.out.mem 2 (by simp)
  have cA3 := cell_at HOA.out.mem 3 (by simp)
  simp only [Nat.zero_add, List.getElem_cons_zero, List.getElem_cons_succ] at cA0 cA1 cA2 cA3
  have lA := lt_of_cell cA0
  have cVW0 := cell_at HOVW.out.mem 0 (by simp)
  have cVW1 := cell_at HOVW.out.mem 1 (by simp)
  have cVW2 := cell_at HOVW.out.mem 2 (by simp)
  have cVW3 := cell_at HOVW.out.mem 3 (by simp)
  simp only [Nat.zero_add, List.getElem_cons_zero, List.getElem_cons_succ] at cVW0 cVW1 cVW2 cVW3
  have lVW := lt_of_cell cVW0
  have cVG0 := cell_at HOVG.out.mem 0 (by simp)
  have cVG1 := cell_at HOVG.out.mem 1 (by simp)
  have cVG2 := cell_at HOVG.out.mem 2 (by simp)
  have cVG3 := cell_at HOVG.out.mem 3 (by simp)
  simp only [Nat.zero_add, List.getElem_cons_zero, List.getElem_cons_succ] at cVG0 cVG1 cVG2 cVG3
  have lVG := lt_of_cell cVG0
  have cVH0 := cell_at HOVH.out.mem 0 (by simp)
  have cVH1 := cell_at HOVH.out.mem 1 (by simp)
  have cVH2 := cell_at HOVH.out.mem 2 (by simp)
  have cVH3 := cell_at HOVH.out.mem 3 (by simp)
  simp only [Nat.zero_add, List.getElem_cons_zero, List.getElem_cons_succ] at cVH0 cVH1 cVH2 cVH3
  have lVH := lt_of_cell cVH0
  go_wp2_with fail
  refine (heldLog' cag ccg csg dag dcg dsg (syncN (dat cs ds) nx) (syncN (dat cs ds) ep) w20 HOg.out.mem HKg.out).mono ?_
  rintro x w21 ⟨rfl, hk⟩
  clear cA0 cA1 cA2 cA3 lA cVW0 cVW1 cVW2 cVW3 lVW cVG0 cVG1 cVG2 cVG3 lVG cVH0 cVH1 cVH2 cVH3 lVH
  replace HK := hide (HK.out.trans hk)
  replace HOA := hide (HOA.out.kept hk)
  replace HOw := hide (HOw.out.kept hk)
  replace HOVW := hide (HOVW.out.kept hk)
  replace HOg := hide (HOg.out.kept hk)
  replace HOVG := hide (HOVG.out.kept hk)
  replace HOh := hide (HOh.out.kept hk)
  replace HOVH := hide (HOVH.out.kept hk)
  clear hk
  go_wp2_with fail
  go_ret
  exact ⟨rfl, HK.out⟩

theorem own : ownKnob Try.prog.godebug = none := by kernel_rfl
theorem laidOut : laidOutB Try.prog = true := by kernel_rfl

set_option maxRecDepth 100000 in
theorem lifted (os : Os) (started : os.Started) (H : Type) (enc : TypeId × Value → H) :
    ReturnsInHanded {} Try.checked os 4 .any (Rows.fnExactLogSyncSpec.pre6 enc Try.prog Try.f4 Rows.fnExactLogSyncRow.domain false) (Rows.fnExactLogSyncSpec.post enc Try.prog Try.f4 false true false false) := by
  refine returnsInHanded_of_change (C := Try.checked) own started (by kernel_rfl) Try.func4
    (ChangeSpec.witness6 (enc := enc) (C := Try.checked) false ⟨#[], #[.agg #[.slice none 0 0, .slice none 0 0, .int .i64 0, .int .i64 0]], []⟩ 8 (by kernel_rfl) (by kernel_rfl) (by kernel_rfl) (by kernel_rfl)) ?_
  intro W base args ds gs before hval0 hW hcnd _
  have hval : ∀ (j : Nat) t v, Try.f4.params[j]? = some t → args[j]? = some v → Value.okWide Try.prog W .any base t v := hval0
  have hW' := hW
  obtain ⟨p, q, hA0, hV, rfl, hfz, hnd⟩ := hW
  have hA : DataW.TrodAll enc Try.prog W 0 (fun _ => true) true Try.f4.params.toList args.toList ds p := hA0
  rw [Try.params4] at hA hval
  obtain ⟨v0, vs0, d0, ds0, p0, q0, hargs, rfl, rfl, h0, r0⟩ := trodAll_cons hA
  obtain ⟨rfl, rfl, rfl⟩ := trodAll_nil r0
  obtain rfl : args = #[v0] := by cases args; simp_all
  obtain ⟨rfl, rfl⟩ := trodVars_none hV
  have lt0 := lt_row h0
  have k0 := h0
  obtain ⟨ca0, cc0, cs0, da0, dc0, ds0, nx0, ep0, rfl, hm0, ho0, wn0, we0⟩ := log_row (hval 0 27 v0 rfl rfl) h0
  clear hA0 hval0
  refine (walk ca0 cc0 cs0 da0 dc0 ds0 nx0 ep0 W hm0 ho0 wn0 we0).mono fun e W' ⟨he, hb⟩ => ?_
  subst he
  refine ⟨_, rfl, _, _, _, [], (p0 ++ []), [], hW', ?_, ?_, ?_, Below.frame hb _, fun h => by cases h⟩
  · exact trodAll_mk1 (shut_bool Try.underlying4 _)
  · exact (trodAll_cons_mk (Below.trod laidOut (by kernel_rfl) (of_decide_eq_true (by kernel_rfl)) k0 hb lt0) trodAll_mk0)
  · exact rfl

theorem over : Rows.fnExactLogSyncRow.holds Try.pinned (OpenSpec.ofChange Rows.fnExactLogSyncSpec) :=
  OpenClaim.holds_of_wide 4 Try.f4 rfl rfl rfl rfl rfl rfl rfl ⟨rfl, rfl, rfl, rfl, rfl⟩ rfl rfl rfl rfl rfl (by kernel_rfl) Try.func4 (by kernel_rfl)
    (of_decide_eq_true (by kernel_rfl)) (by unfold Func.isWrapper; first | (rw [if_pos (by decide +kernel)]; kernel_rfl) | (rw [if_neg (by decide +kernel)]; exact ⟨rfl, rfl⟩))
    (fun os started H enc _ => lifted os started H enc)
end Go.Proofs.Ytmkhlhjggbencaa.fnExactLogSync
namespace Go.Proofs.Ytmkhlhjggbencaa
theorem fnExactLogSync_holds : Rows.FnExactLogSyncSaid := fnExactLogSync.over
end Go.Proofs.Ytmkhlhjggbencaa
