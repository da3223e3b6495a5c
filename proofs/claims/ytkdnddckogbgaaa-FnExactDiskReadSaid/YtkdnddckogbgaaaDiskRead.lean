/- At every disk and every int DiskRead of the program answers as that of the model, writes into no argument, and its answer owns its memory; no condition. -/
import Derived.Test.YtkdnddckogbgaaaDRR
import Derived.Test.YtkdnddckogbgaaaDW
import Derived.Test.YtkdnddckogbgaaaVars
import Derived.Test.YtkdnddckogbgaaaRows
import Derived.WalkKit
import Derived.ProofKit
import Derived.OpenShut
import Derived.ChangeOld
import Derived.Below
namespace Go.Proofs.Ytkdnddckogbgaaa.fnExactDiskRead
open Go.ChangeShapes Go.WideShapes Go.ChangeAt Go.RowKit
set_option linter.unusedVariables false
set_option maxHeartbeats 4000000 in
theorem walk (ca : Option Addr) (cc : Nat) (cs : List Bs) (da : Option Addr) (dc : Nat) (ds : List Wr) (i : Int) (w : World) (hm : Mem w (dsk ca cs da ds)) (hok : Dk.ok ⟨ca, cc, cs, da, dc, ds⟩) (hi : (Lit.int .i64 i).wf = true) :
    Calls Try.prog 4 #[dskV ca cs.length cc da ds.length dc, .int .i64 i] w fun e w' => e = .returned (.bool true) ∧ Keeps w w' := by
  have HM := hide hm
  have HS := hide (fun w1 hm => szDisk' ca cc cs da dc ds w1 hm hok)
  clear hm hok
  clear hi
  have HR24 : Hid ((readL (dat cs ds) i).length ≤ 16777216) := Nat.le_trans (readL_len _ _) (by decide)
  go_enter Try.func4, Try.ntmps4
  have HK := hide (Keeps.refl w)
  go_wp2_with fail
  have hb := born_alloc w #[.slice ca cs.length cc, .slice da ds.length dc] 38
  dsimp only at hb
  have hk := Keeps.alloc (Keeps.refl w) (.cells #[.slice ca cs.length cc, .slice da ds.length dc] 38)
  generalize w.alloc (.cells #[.slice ca cs.length cc, .slice da ds.length dc] 38) = w1 at *
  have HNA := hide ((hb.old HK.out).new)
  replace HK := hide (HK.out.trans hk)
  have HOA := hide hb.toOwn
  clear hb hk
  have cA0 := cell_at HOA.out.mem 0 (by simp)
  have cA1 := cell_at HOA.out.mem 1 (by simp)
  simp only [Nat.zero_add, List.getElem_cons_zero, List.getElem_cons_succ] at cA0 cA1
  have lA := lt_of_cell cA0
  refine (unhide HS w1 (HM.out.kept HK.out)).mono ?_
  rintro x w2 ⟨r, rfl, hr, hk⟩
  clear cA0 cA1 lA
  replace HK := hide (HK.out.trans hk)
  replace HOA := hide (HOA.out.kept hk)
  clear hk
  have HOK := hide hr
  clear hr HS
  by_cases hr0 : r < 0
  · go_wp2_with fail
    go_ret
    exact ⟨rfl, HK.out⟩
  replace HOK := hide (HOK.out (by omega))
  have cA0 := cell_at HOA.out.mem 0 (by simp)
  have cA1 := cell_at HOA.out.mem 1 (by simp)
  simp only [Nat.zero_add, List.getElem_cons_zero, List.getElem_cons_succ] at cA0 cA1
  have lA := lt_of_cell cA0
  go_wp2_with fail
  refine (toDisk' ca cc cs da dc ds w2 (HM.out.kept HK.out) HOK.out).mono ?_
  rintro x w3 ⟨v, rfl, hr, hk⟩
  obtain ⟨cas, ccs, css, das, dcs, dss, rfl, hes, hoks, hnas, hnds, hb⟩ := hr
  have HEs := hide hes
  have HKs := hide hoks
  have HAs := hide hnas
  have HBs := hide hnds
  clear hes hoks hnas hnds
  clear cA0 cA1 lA
  have HDA_s := hide (hb.apart HOA.out.mem)
  have HDs_A := hide (hb.apart' HOA.out.mem)
  have HNs := hide ((hb.old HK.out).new)
  replace HK := hide (HK.out.trans hk)
  replace HOA := hide (HOA.out.kept hk)
  have HOs := hide hb.toOwn
  clear hb hk
  have cA0 := cell_at HOA.out.mem 0 (by simp)
  have cA1 := cell_at HOA.out.mem 1 (by simp)
  simp only [Nat.zero_add, List.getElem_cons_zero, List.getElem_cons_succ] at cA0 cA1
  have lA := lt_of_cell cA0
  go_wp2_with fail
  refine (diskread_spec cas ccs css das dcs dss i w3 HOs.out.mem HKs.out).mono ?_
  rintro x w4 ⟨v, rfl, ho, hk⟩
  rw [HEs.out] at ho
  rw [HEs.out]
  obtain ⟨aw, cw, rfl, _, hb⟩ := Born.of_owns ho
  clear ho
  clear cA0 cA1 lA
  have HDA_w := hide (hb.apart HOA.out.mem)
  have HDw_A := hide (hb.apart' HOA.out.mem)
  have HDs_w := hide (hb.apart HOs.out.mem)
  have HDw_s := hide (hb.apart' HOs.out.mem)
  have HNw := hide ((hb.old HK.out).new)
  replace HK := hide (HK.out.trans hk)
  replace HOA := hide (HOA.out.kept hk)
  replace HOs := hide (HOs.out.kept hk)
  have HOw := hide hb.toOwn
  clear hb hk
  clear HOs HNs HDA_s HDs_A HDw_s HDs_w
  clear HEs HKs HAs HBs
  have cA0 := cell_at HOA.out.mem 0 (by simp)
  have cA1 := cell_at HOA.out.mem 1 (by simp)
  simp only [Nat.zero_add, List.getElem_cons_zero, List.getElem_cons_succ] at cA0 cA1
  have lA := lt_of_cell cA0
  go_wp2_with fail
  refine (toDisk' ca cc cs da dc ds w4 (HM.out.kept HK.out) HOK.out).mono ?_
  rintro x w5 ⟨v, rfl, hr, hk⟩
  obtain ⟨cax, ccx, csx, dax, dcx, dsx, rfl, hex, hokx, hnax, hndx, hb⟩ := hr
  have HEx := hide hex
  have HKx := hide hokx
  have HAx := hide hnax
  have HBx := hide hndx
  clear hex hokx hnax hndx
  clear cA0 cA1 lA
  have HDA_x := hide (hb.apart HOA.out.mem)
  have HDx_A := hide (hb.apart' HOA.out.mem)
  have HDw_x := hide (hb.apart HOw.out.mem)
  have HDx_w := hide (hb.apart' HOw.out.mem)
  have HNx := hide ((hb.old HK.out).new)
  replace HK := hide (HK.out.trans hk)
  replace HOA := hide (HOA.out.kept hk)
  replace HOw := hide (HOw.out.kept hk)
  have HOx := hide hb.toOwn
  clear hb hk
  have cA0 := cell_at HOA.out.mem 0 (by simp)
  have cA1 := cell_at HOA.out.mem 1 (by simp)
  simp only [Nat.zero_add, List.getElem_cons_zero, List.getElem_cons_succ] at cA0 cA1
  have lA := lt_of_cell cA0
  go_wp2_with fail
  have hb := born_alloc w5 #[.slice cax csx.length ccx, .slice dax dsx.length dcx] 26
  dsimp only at hb
  have hk := Keeps.alloc (Keeps.refl w5) (.cells #[.slice cax csx.length ccx, .slice dax dsx.length dcx] 26)
  generalize w5.alloc (.cells #[.slice cax csx.length ccx, .slice dax dsx.length dcx] 26) = w6 at *
  clear cA0 cA1 lA
  have HDA_X := hide (hb.apart HOA.out.mem)
  have HDX_A := hide (hb.apart' HOA.out.mem)
  have HDw_X := hide (hb.apart HOw.out.mem)
  have HDX_w := hide (hb.apart' HOw.out.mem)
  have HDx_X := hide (hb.apart HOx.out.mem)
  have HDX_x := hide (hb.apart' HOx.out.mem)
  have HNX := hide ((hb.old HK.out).new)
  replace HK := hide (HK.out.trans hk)
  replace HOA := hide (HOA.out.kept hk)
  replace HOw := hide (HOw.out.kept hk)
  replace HOx := hide (HOx.out.kept hk)
  have HOX := hide hb.toOwn
  clear hb hk
  have cA0 := cell_at HOA.out.mem 0 (by simp)
  have cA1 := cell_at HOA.out.mem 1 (by simp)
  simp only [Nat.zero_add, List.getElem_cons_zero, List.getElem_cons_succ] at cA0 cA1
  have lA := lt_of_cell cA0
  have cX0 := cell_at HOX.out.mem 0 (by simp)
  have cX1 := cell_at HOX.out.mem 1 (by simp)
  simp only [Nat.zero_add, List.getElem_cons_zero, List.getElem_cons_succ] at cX0 cX1
  have lX := lt_of_cell cX0
  go_wp2_with fail
  refine (diskread_impl cax ccx csx dax dcx dsx i w6 HOx.out.mem HKx.out).mono ?_
  rintro x w7 ⟨v, rfl, ho, hk⟩
  rw [HEx.out] at ho
  rw [HEx.out]
  obtain ⟨ag, cg, rfl, _, hb⟩ := Born.of_owns ho
  clear ho
  clear cA0 cA1 lA cX0 cX1 lX
  have HDA_g := hide (hb.apart HOA.out.mem)
  have HDg_A := hide (hb.apart' HOA.out.mem)
  have HDw_g := hide (hb.apart HOw.out.mem)
  have HDg_w := hide (hb.apart' HOw.out.mem)
  have HDx_g := hide (hb.apart HOx.out.mem)
  have HDg_x := hide (hb.apart' HOx.out.mem)
  have HDX_g := hide (hb.apart HOX.out.mem)
  have HDg_X := hide (hb.apart' HOX.out.mem)
  have HNg := hide ((hb.old HK.out).new)
  replace HK := hide (HK.out.trans hk)
  replace HOA := hide (HOA.out.kept hk)
  replace HOw := hide (HOw.out.kept hk)
  replace HOx := hide (HOx.out.kept hk)
  replace HOX := hide (HOX.out.kept hk)
  have HOg := hide hb.toOwn
  clear hb hk
  have cA0 := cell_at HOA.out.mem 0 (by simp)
  have cA1 := cell_at HOA.out.mem 1 (by simp)
  simp only [Nat.zero_add, List.getElem_cons_zero, List.getElem_cons_succ] at cA0 cA1
  have lA := lt_of_cell cA0
  have cX0 := cell_at HOX.out.mem 0 (by simp)
  have cX1 := cell_at HOX.out.mem 1 (by simp)
  simp only [Nat.zero_add, List.getElem_cons_zero, List.getElem_cons_succ] at cX0 cX1
  have lX := lt_of_cell cX0
  go_wp2_with fail
  refine (eqBytes_k ag aw cg cw (readL (dat cs ds) i) w7 (HOg.out.mem (ag, bys (readL (dat cs ds) i)) (by simp)) (HOw.out.mem (aw, bys (readL (dat cs ds) i)) (by simp)) HR24.out).mono ?_
  rintro x w8 ⟨rfl, hk⟩
  clear cA0 cA1 lA cX0 cX1 lX
  replace HK := hide (HK.out.trans hk)
  replace HOA := hide (HOA.out.kept hk)
  replace HOw := hide (HOw.out.kept hk)
  replace HOx := hide (HOx.out.kept hk)
  replace HOX := hide (HOX.out.kept hk)
  replace HOg := hide (HOg.out.kept hk)
  clear hk
  have cA0 := cell_at HOA.out.mem 0 (by simp)
  have cA1 := cell_at HOA.out.mem 1 (by simp)
  simp only [Nat.zero_add, List.getElem_cons_zero, List.getElem_cons_succ] at cA0 cA1
  have lA := lt_of_cell cA0
  have cX0 := cell_at HOX.out.mem 0 (by simp)
  have cX1 := cell_at HOX.out.mem 1 (by simp)
  simp only [Nat.zero_add, List.getElem_cons_zero, List.getElem_cons_succ] at cX0 cX1
  have lX := lt_of_cell cX0
  go_wp2_with fail
  have HT := hide (fun w' (hk : Keeps w8 w') => toDisk' ca cc cs da dc ds w' ((HM.out.kept HK.out).kept hk) HOK.out)
  go_region_held3 (fun w' => w'.cell? ⟨w5.heap.size, 0, none⟩ = some (.slice cax csx.length ccx) ∧ w'.cell? ⟨w5.heap.size, 1, none⟩ = some (.slice dax dsx.length dcx) ∧ w'.cell? ⟨w.heap.size, 0, none⟩ = some (.slice ca cs.length cc) ∧ w'.cell? ⟨w.heap.size, 1, none⟩ = some (.slice da ds.length dc)) (go_keep)
    (first
       | (go_at_call 13
          refine (unhide HT _ ((Keeps.refl w8).drew)).mono ?_
          rintro x w9 ⟨v, rfl, hr, hk⟩
          obtain ⟨cay, ccy, csy, day, dcy, dsy, rfl, hey, hoky, hnay, hndy, hb⟩ := hr
          have HEy := hide hey
          have HKy := hide hoky
          have HAy := hide hnay
          have HBy := hide hndy
          clear hey hoky hnay hndy
          replace hb := hb.old ((Keeps.refl w8).drew)
          replace hk := ((Keeps.refl w8).drew).trans hk
          clear cA0 cA1 lA cX0 cX1 lX
          have HDA_y := hide (hb.apart HOA.out.mem)
          have HDy_A := hide (hb.apart' HOA.out.mem)
          have HDw_y := hide (hb.apart HOw.out.mem)
          have HDy_w := hide (hb.apart' HOw.out.mem)
          have HDx_y := hide (hb.apart HOx.out.mem)
          have HDy_x := hide (hb.apart' HOx.out.mem)
          have HDX_y := hide (hb.apart HOX.out.mem)
          have HDy_X := hide (hb.apart' HOX.out.mem)
          have HDg_y := hide (hb.apart HOg.out.mem)
          have HDy_g := hide (hb.apart' HOg.out.mem)
          have HNy := hide ((hb.old HK.out).new)
          replace HK := hide (HK.out.trans hk)
          replace HOA := hide (HOA.out.kept hk)
          replace HOw := hide (HOw.out.kept hk)
          replace HOx := hide (HOx.out.kept hk)
          replace HOX := hide (HOX.out.kept hk)
          replace HOg := hide (HOg.out.kept hk)
          have HOy := hide hb.toOwn
          clear hb hk
          have cX0 := cell_at HOX.out.mem 0 (by simp)
          have cX1 := cell_at HOX.out.mem 1 (by simp)
          simp only [Nat.zero_add, List.getElem_cons_zero, List.getElem_cons_succ] at cX0 cX1
          have lX := lt_of_cell cX0
          have cA0 := cell_at HOA.out.mem 0 (by simp)
          have cA1 := cell_at HOA.out.mem 1 (by simp)
          simp only [Nat.zero_add, List.getElem_cons_zero, List.getElem_cons_succ] at cA0 cA1
          have lA := lt_of_cell cA0)
       | (go_at_call 15
          refine (eqDisk' cax ccx csx dax dcx dsx cay ccy csy day dcy dsy w9 (HEy.out.trans HEx.out.symm) HOx.out.mem HOy.out.mem HKx.out).mono ?_
          rintro x w10 ⟨rfl, hk⟩
          clear cX0 cX1 lX cA0 cA1 lA
          replace HK := hide (HK.out.trans hk)
          replace HOA := hide (HOA.out.kept hk)
          replace HOw := hide (HOw.out.kept hk)
          replace HOx := hide (HOx.out.kept hk)
          replace HOX := hide (HOX.out.kept hk)
          replace HOg := hide (HOg.out.kept hk)
          replace HOy := hide (HOy.out.kept hk)
          clear hk
          have cX0 := cell_at HOX.out.mem 0 (by simp)
          have cX1 := cell_at HOX.out.mem 1 (by simp)
          simp only [Nat.zero_add, List.getElem_cons_zero, List.getElem_cons_succ] at cX0 cX1
          have lX := lt_of_cell cX0
          have cA0 := cell_at HOA.out.mem 0 (by simp)
          have cA1 := cell_at HOA.out.mem 1 (by simp)
          simp only [Nat.zero_add, List.getElem_cons_zero, List.getElem_cons_succ] at cA0 cA1
          have lA := lt_of_cell cA0))
  clear HOy HNy HDA_y HDy_A HDw_y HDy_w HDx_y HDy_x HDX_y HDy_X HDg_y HDy_g
  clear HEy HKy HAy HBy
  clear HT
  clear cX0 cX1 lX cA0 cA1 lA
  have cA0 := cell_at HOA.out.mem 0 (by simp)
  have cA1 := cell_at HOA.out.mem 1 (by simp)
  simp only [Nat.zero_add, List.getElem_cons_zero, List.getElem_cons_succ] at cA0 cA1
  have lA := lt_of_cell cA0
  have cX0 := cell_at HOX.out.mem 0 (by simp)
  have cX1 := cell_at HOX.out.mem 1 (by simp)
  simp only [Nat.zero_add, List.getElem_cons_zero, List.getElem_cons_succ] at cX0 cX1
  have lX := lt_of_cell cX0
  go_wp2_with fail
  refine (markDisk' cax ccx csx dax dcx dsx w10 HOx.out HKx.out).mono ?_
  rintro x w11 ⟨rfl, ho, ht⟩
  clear cA0 cA1 lA cX0 cX1 lX
  replace HK := hide (ht.keeps HK.out HNx.out)
  replace HOA := hide (HOA.out.turn ht HDA_x.out)
  replace HOw := hide (HOw.out.turn ht HDw_x.out)
  replace HOX := hide (HOX.out.turn ht HDX_x.out)
  replace HOg := hide (HOg.out.turn ht HDg_x.out)
  clear ht
  replace HOx := hide ho
  clear ho
  have cA0 := cell_at HOA.out.mem 0 (by simp)
  have cA1 := cell_at HOA.out.mem 1 (by simp)
  simp only [Nat.zero_add, List.getElem_cons_zero, List.getElem_cons_succ] at cA0 cA1
  have lA := lt_of_cell cA0
  have cX0 := cell_at HOX.out.mem 0 (by simp)
  have cX1 := cell_at HOX.out.mem 1 (by simp)
  simp only [Nat.zero_add, List.getElem_cons_zero, List.getElem_cons_succ] at cX0 cX1
  have lX := lt_of_cell cX0
  go_wp2_with fail
  refine (eqBytes_k ag aw cg cw (readL (dat cs ds) i) w11 (HOg.out.mem (ag, bys (readL (dat cs ds) i)) (by simp)) (HOw.out.mem (aw, bys (readL (dat cs ds) i)) (by simp)) HR24.out).mono ?_
  rintro x w12 ⟨rfl, hk⟩
  clear cA0 cA1 lA cX0 cX1 lX
  replace HK := hide (HK.out.trans hk)
  replace HOA := hide (HOA.out.kept hk)
  replace HOw := hide (HOw.out.kept hk)
  replace HOx := hide (HOx.out.kept hk)
  replace HOX := hide (HOX.out.kept hk)
  replace HOg := hide (HOg.out.kept hk)
  clear hk
  clear HOx HNx HDA_x HDx_A HDw_x HDx_w HDX_x HDx_X HDg_x HDx_g
  clear HEx HKx HAx HBx
  have cA0 := cell_at HOA.out.mem 0 (by simp)
  have cA1 := cell_at HOA.out.mem 1 (by simp)
  simp only [Nat.zero_add, List.getElem_cons_zero, List.getElem_cons_succ] at cA0 cA1
  have lA := lt_of_cell cA0
  go_wp2_with fail
  refine (markByteS_k ag cg (readL (dat cs ds) i) 1 w12 HOg.out HR24.out (by decide)).mono ?_
  rintro x w13 ⟨rfl, ho, ht⟩
  clear cA0 cA1 lA
  replace HK := hide (ht.keeps HK.out HNg.out)
  replace HOA := hide (HOA.out.turn ht HDA_g.out)
  replace HOw := hide (HOw.out.turn ht HDw_g.out)
  replace HOX := hide (HOX.out.turn ht HDX_g.out)
  clear ht
  replace HOg := hide ho
  clear ho
  have cA0 := cell_at HOA.out.mem 0 (by simp)
  have cA1 := cell_at HOA.out.mem 1 (by simp)
  simp only [Nat.zero_add, List.getElem_cons_zero, List.getElem_cons_succ] at cA0 cA1
  have lA := lt_of_cell cA0
  go_wp2_with fail
  refine (heldByteS_k ag cg (readL (dat cs ds) i).length 1 w13 (HOg.out.mem (ag, bys (marksB 1 (readL (dat cs ds) i).length)) (by simp)) HR24.out (by decide)).mono ?_
  rintro x w14 ⟨rfl, hw⟩
  clear cA0 cA1 lA
  subst hw
  have cA0 := cell_at HOA.out.mem 0 (by simp)
  have cA1 := cell_at HOA.out.mem 1 (by simp)
  simp only [Nat.zero_add, List.getElem_cons_zero, List.getElem_cons_succ] at cA0 cA1
  have lA := lt_of_cell cA0
  go_wp2_with fail
  refine (toDisk' ca cc cs da dc ds w14 (HM.out.kept HK.out) HOK.out).mono ?_
  rintro x w15 ⟨v, rfl, hr, hk⟩
  obtain ⟨caz, ccz, csz, daz, dcz, dsz, rfl, hez, hokz, hnaz, hndz, hb⟩ := hr
  have HEz := hide hez
  have HKz := hide hokz
  have HAz := hide hnaz
  have HBz := hide hndz
  clear hez hokz hnaz hndz
  clear cA0 cA1 lA
  have HDA_z := hide (hb.apart HOA.out.mem)
  have HDz_A := hide (hb.apart' HOA.out.mem)
  have HDw_z := hide (hb.apart HOw.out.mem)
  have HDz_w := hide (hb.apart' HOw.out.mem)
  have HDX_z := hide (hb.apart HOX.out.mem)
  have HDz_X := hide (hb.apart' HOX.out.mem)
  have HDg_z := hide (hb.apart HOg.out.mem)
  have HDz_g := hide (hb.apart' HOg.out.mem)
  have HNz := hide ((hb.old HK.out).new)
  replace HK := hide (HK.out.trans hk)
  replace HOA := hide (HOA.out.kept hk)
  replace HOw := hide (HOw.out.kept hk)
  replace HOX := hide (HOX.out.kept hk)
  replace HOg := hide (HOg.out.kept hk)
  have HOz := hide hb.toOwn
  clear hb hk
  have cA0 := cell_at HOA.out.mem 0 (by simp)
  have cA1 := cell_at HOA.out.mem 1 (by simp)
  simp only [Nat.zero_add, List.getElem_cons_zero, List.getElem_cons_succ] at cA0 cA1
  have lA := lt_of_cell cA0
  go_wp2_with fail
  refine (diskread_impl caz ccz csz daz dcz dsz i w15 HOz.out.mem HKz.out).mono ?_
  rintro x w16 ⟨v, rfl, ho, hk⟩
  rw [HEz.out] at ho
  rw [HEz.out]
  obtain ⟨ah, ch, rfl, _, hb⟩ := Born.of_owns ho
  clear ho
  clear cA0 cA1 lA
  have HDA_h := hide (hb.apart HOA.out.mem)
  have HDh_A := hide (hb.apart' HOA.out.mem)
  have HDw_h := hide (hb.apart HOw.out.mem)
  have HDh_w := hide (hb.apart' HOw.out.mem)
  have HDX_h := hide (hb.apart HOX.out.mem)
  have HDh_X := hide (hb.apart' HOX.out.mem)
  have HDg_h := hide (hb.apart HOg.out.mem)
  have HDh_g := hide (hb.apart' HOg.out.mem)
  have HDz_h := hide (hb.apart HOz.out.mem)
  have HDh_z := hide (hb.apart' HOz.out.mem)
  have HNh := hide ((hb.old HK.out).new)
  replace HK := hide (HK.out.trans hk)
  replace HOA := hide (HOA.out.kept hk)
  replace HOw := hide (HOw.out.kept hk)
  replace HOX := hide (HOX.out.kept hk)
  replace HOg := hide (HOg.out.kept hk)
  replace HOz := hide (HOz.out.kept hk)
  have HOh := hide hb.toOwn
  clear hb hk
  clear HOz HNz HDA_z HDz_A HDw_z HDz_w HDX_z HDz_X HDg_z HDz_g HDh_z HDz_h
  clear HEz HKz HAz HBz
  have cA0 := cell_at HOA.out.mem 0 (by simp)
  have cA1 := cell_at HOA.out.mem 1 (by simp)
  simp only [Nat.zero_add, List.getElem_cons_zero, List.getElem_cons_succ] at cA0 cA1
  have lA := lt_of_cell cA0
  go_wp2_with fail
  refine (eqBytes_k ah aw ch cw (readL (dat cs ds) i) w16 (HOh.out.mem (ah, bys (readL (dat cs ds) i)) (by simp)) (HOw.out.mem (aw, bys (readL (dat cs ds) i)) (by simp)) HR24.out).mono ?_
  rintro x w17 ⟨rfl, hk⟩
  clear cA0 cA1 lA
  replace HK := hide (HK.out.trans hk)
  replace HOA := hide (HOA.out.kept hk)
  replace HOw := hide (HOw.out.kept hk)
  replace HOX := hide (HOX.out.kept hk)
  replace HOg := hide (HOg.out.kept hk)
  replace HOh := hide (HOh.out.kept hk)
  clear hk
  have cA0 := cell_at HOA.out.mem 0 (by simp)
  have cA1 := cell_at HOA.out.mem 1 (by simp)
  simp only [Nat.zero_add, List.getElem_cons_zero, List.getElem_cons_succ] at cA0 cA1
  have lA := lt_of_cell cA0
  go_wp2_with fail
  refine (heldByteS_k ag cg (readL (dat cs ds) i).length 1 w17 (HOg.out.mem (ag, bys (marksB 1 (readL (dat cs ds) i).length)) (by simp)) HR24.out (by decide)).mono ?_
  rintro x w18 ⟨rfl, hw⟩
  clear cA0 cA1 lA
  subst hw
  go_wp2_with fail
  go_ret
  exact ⟨rfl, HK.out⟩

theorem own : ownKnob Try.prog.godebug = none := by kernel_rfl
theorem laidOut : laidOutB Try.prog = true := by kernel_rfl

set_option maxRecDepth 100000 in
theorem lifted (os : Os) (started : os.Started) (H : Type) (enc : TypeId × Value → H) :
    ReturnsInHanded {} Try.checked os 4 .any (Rows.fnExactDiskReadSpec.pre6 enc Try.prog Try.f4 Rows.fnExactDiskReadRow.domain false) (Rows.fnExactDiskReadSpec.post enc Try.prog Try.f4 false true false false) := by
  refine returnsInHanded_of_change (C := Try.checked) own started (by kernel_rfl) Try.func4
    (ChangeSpec.witness6 (enc := enc) (C := Try.checked) false ⟨#[], #[.agg #[.slice none 0 0, .slice none 0 0], .int .i64 0], []⟩ 8 (by kernel_rfl) (by kernel_rfl) (by kernel_rfl) (by kernel_rfl)) ?_
  intro W base args ds gs before hval0 hW hcnd _
  have hval : ∀ (j : Nat) t v, Try.f4.params[j]? = some t → args[j]? = some v → Value.okWide Try.prog W .any base t v := hval0
  have hW' := hW
  obtain ⟨p, q, hA0, hV, rfl, hfz, hnd⟩ := hW
  have hA : DataW.TrodAll enc Try.prog W 0 (fun _ => true) true Try.f4.params.toList args.toList ds p := hA0
  rw [Try.params4] at hA hval
  obtain ⟨v0, vs0, d0, ds0, p0, q0, hargs, rfl, rfl, h0, r0⟩ := trodAll_cons hA
  obtain ⟨v1, vs1, d1, ds1, p1, q1, rfl, rfl, rfl, h1, r1⟩ := trodAll_cons r0
  obtain ⟨rfl, rfl, rfl⟩ := trodAll_nil r1
  obtain rfl : args = #[v0, v1] := by cases args; simp_all
  obtain ⟨rfl, rfl⟩ := trodVars_none hV
  have lt0 := lt_row h0
  have k0 := h0
  obtain ⟨ca0, cc0, cs0, da0, dc0, ds0, rfl, hm0, ho0⟩ := disk_row (hval 0 38 v0 rfl rfl) h0
  obtain ⟨a1, rfl, rfl, rfl, w1⟩ := open_int Try.underlying3 (hval 1 3 v1 rfl rfl) h1
  clear hA0 hval0
  refine (walk ca0 cc0 cs0 da0 dc0 ds0 a1 W hm0 ho0 w1).mono fun e W' ⟨he, hb⟩ => ?_
  subst he
  refine ⟨_, rfl, _, _, _, [], (p0 ++ ([] ++ [])), [], hW', ?_, ?_, ?_, Below.frame hb _, fun h => by cases h⟩
  · exact trodAll_mk1 (shut_bool Try.underlying4 _)
  · exact (trodAll_cons_mk (Below.trod laidOut (by kernel_rfl) (of_decide_eq_true (by kernel_rfl)) k0 hb lt0) (trodAll_cons_mk (shut_int Try.underlying3 w1) trodAll_mk0))
  · exact rfl

theorem over : Rows.fnExactDiskReadRow.holds Try.pinned (OpenSpec.ofChange Rows.fnExactDiskReadSpec) :=
  OpenClaim.holds_of_wide 4 Try.f4 rfl rfl rfl rfl rfl rfl rfl ⟨rfl, rfl, rfl, rfl, rfl⟩ rfl rfl rfl rfl rfl (by kernel_rfl) Try.func4 (by kernel_rfl)
    (of_decide_eq_true (by kernel_rfl)) (by unfold Func.isWrapper; first | (rw [if_pos (by decide +kernel)]; kernel_rfl) | (rw [if_neg (by decide +kernel)]; exact ⟨rfl, rfl⟩))
    (fun os started H enc _ => lifted os started H enc)
end Go.Proofs.Ytkdnddckogbgaaa.fnExactDiskRead
namespace Go.Proofs.Ytkdnddckogbgaaa
theorem fnExactDiskRead_holds : Rows.FnExactDiskReadSaid := fnExactDiskRead.over
end Go.Proofs.Ytkdnddckogbgaaa
