/- FnExactLogOpen: at every disk the program's LogOpen answers as the model's, writes into no argument, and its answer owns its memory, behind another call too. -/
import Derived.Test.YtkdnddckogbgaaaGreatDoorLO27
import Derived.Test.YtkdnddckogbgaaaGreatDoorLO30
import Derived.Test.YtkdnddckogbgaaaGreatDoorLO31
import Derived.Test.YtkdnddckogbgaaaGreatDoorCards
import Derived.Test.YtkdnddckogbgaaaGreatDoorTie
import Derived.WalkKit
import Derived.ProofKit
import Derived.OpenShut
import Derived.ShutString
import Derived.LaidMore
import Derived.Stop.Joined
import Derived.SevenTiedAt
import Derived.ChangeOld
import Derived.Below
namespace Go.Proofs.YtkdnddckogbgaaaGreatDoor.fnExactLogOpen
open Go.ChangeShapes Go.WideShapes Go.ChangeAt Go.RowKit
open Go.ChangeMaps (open_string shut_string)
set_option linter.unusedVariables false
theorem own : ownKnob Tryz.prog.godebug = none := by kernel_rfl
theorem laidOut : laidOutB Tryz.prog = true := by kernel_rfl
theorem gGaveUp : Tryz.prog.globalNamed "loop.example/g00400/impl.errGaveUp" = some 0 := by kernel_rfl
theorem tGaveUp : (Tryz.prog.globals[0]?).map (·.type) = some 168 := by kernel_rfl
theorem door_met (os : Os) (args : Array Value) : laidMetH Tryz.prog Rows.fnExactLogOpenRow.laid ((World.doorLaid Tryz.prog 172 os).forCall (fun _ _ => 0) ⟨#[], args, []⟩).memory :=
  laidMetH_of_parts3 (fuel := 8) (laidMet_of_run' 8 (by kernel_rfl) (by kernel_rfl)) (by kernel_rfl) (by kernel_rfl)

theorem fp_markC : ∀ (n : Nat) (cs : List Bs), fp ((markC n cs).map Bs.seg) = fp (cs.map Bs.seg)
  | _, [] => rfl
  | n, b :: t => by
    simp only [markC, List.map_cons, fp_cons]
    rw [fp_markC]
    congr 1
    exact fpS_len (by simp [bys_length, marksB_length])
theorem fp_markW : ∀ (n : Nat) (ds : List Wr), fp ((markW n ds).map Wr.seg) = fp (ds.map Wr.seg)
  | _, [] => rfl
  | n, b :: t => by
    simp only [markW, List.map_cons, fp_cons]
    rw [fp_markW]
    congr 1
    exact fpS_len (by simp [bys_length, marksB_length])
theorem fp_mark (ca : Option Addr) (cs : List Bs) (da : Option Addr) (ds : List Wr) (n m : Nat) : fp (dsk ca (markC n cs) da (markW m ds)) = fp (dsk ca cs da ds) := by
  unfold dsk
  rw [fp_append, fp_append, fp_cons, fp_cons, fp_cons, fp_cons, fp_markC, fp_markW, markC_cells, fpS_len (a := da) (xs := wcells (markW m ds)) (ys := wcells ds) (by rw [wcells_len, wcells_len, markW_len])]
theorem Born.split {w w' : World} {S T : List Seg} (h : Born w w' (S ++ T)) : Born w w' S ∧ Born w w' T ∧ ∀ b ∈ fp S, b ∉ fp T :=
  ⟨⟨h.toOwn.left, fun b hb => h.new b (by rw [fp_append]; exact List.mem_append_left _ hb)⟩, ⟨h.toOwn.right, fun b hb => h.new b (by rw [fp_append]; exact List.mem_append_right _ hb)⟩, h.toOwn.apart⟩

theorem mark_far {ca : Option Addr} {cs : List Bs} {da : Option Addr} {ds : List Wr} {S : List Seg} (h : ∀ b ∈ fp (dsk ca cs da ds), b ∉ fp S) (n m : Nat) : ∀ b ∈ fp (dsk ca (markC n cs) da (markW m ds)), b ∉ fp S := by
  rw [fp_mark]
  exact h

set_option maxHeartbeats 4000000 in
theorem walk (ca : Option Addr) (cc : Nat) (cs : List Bs) (da : Option Addr) (dc : Nat) (ds : List Wr) (w : World) (hm : Mem w (dsk ca cs da ds)) (hok : Dk.ok ⟨ca, cc, cs, da, dc, ds⟩) (u : TypeId) (pv : Value) (hv : w.cell? ⟨0, 0, none⟩ = some (.iface u pv)) :
    Calls Tryz.prog 5 #[dskV ca cs.length cc da ds.length dc] w fun e w' => e = .returned (.bool true) ∧ Keeps w w' := by
  have HM := hide hm
  have HS := hide (fun w1 hm => szDisk' ca cc cs da dc ds w1 hm hok)
  clear hm hok
  have HV := hide hv
  clear hv
  go_enter Tryz.func5, Tryz.ntmps5
  have HK := hide (Keeps.refl w)
  go_wp2_with fail
  have hb := born_alloc w #[.slice ca cs.length cc, .slice da ds.length dc] 50
  dsimp only at hb
  have hk := Keeps.alloc (Keeps.refl w) (.cells #[.slice ca cs.length cc, .slice da ds.length dc] 50)
  generalize w.alloc (.cells #[.slice ca cs.length cc, .slice da ds.length dc] 50) = w1 at *
  have HNA := hide ((hb.old HK.out).new)
  replace HK := hide (HK.out.trans hk)
  have HOA := hide hb.toOwn
  clear hb hk
  have cA0 := cell_at HOA.out.mem 0 (by simp)
  have cA1 := cell_at HOA.out.mem 1 (by simp)
  simp only [Nat.zero_add, List.getElem_cons_zero, List.getElem_cons_succ] at cA0 cA1
  have lA := lt_of_cell cA0
  refine (unhide HS w1 (HM.out.kept HK.out)).mono ?_
  rintro x w2 ⟨r, rfl, hr, hk⟩
  clear cA0 cA1 lA
  replace HK := hide (HK.out.trans hk)
  replace HOA := hide (HOA.out.kept hk)
  clear hk
  have HOK := hide hr
  clear hr HS
  by_cases hr0 : r < 0
  · go_wp2_with fail
    go_ret
    exact ⟨rfl, HK.out⟩
  replace HOK := hide (HOK.out (by omega))
  have HLN : Hid ((opV (dat cs ds)).length ≤ 1048576) := by
    have h1 := evsTo_len (dat cs ds) (logN (dat cs ds))
    have h2 := logTo_le (dat cs ds) (dat cs ds).cells.length
    have h3 := HOK.out.c
    have h4 : (dat cs ds).cells.length = cs.length := by simp [dat]
    have h5 : logN (dat cs ds) = logTo (dat cs ds) (dat cs ds).cells.length := rfl
    show _ ≤ _
    unfold opV
    split
    · omega
    · simp
  obtain ⟨EL, hEL⟩ : ∃ EL, opV (dat cs ds) = EL := ⟨_, rfl⟩
  obtain ⟨rc, hrc⟩ : ∃ rc, opC (dat cs ds) = rc := ⟨_, rfl⟩
  obtain ⟨rn, hrn⟩ : ∃ rn, opN (dat cs ds) = rn := ⟨_, rfl⟩
  obtain ⟨re, hre⟩ : ∃ re, opE (dat cs ds) = re := ⟨_, rfl⟩
  obtain ⟨RM, hRM⟩ : ∃ RM, opM (dat cs ds) = RM := ⟨_, rfl⟩
  rw [hEL] at HLN
  have hln := HLN.out
  have HSP : Hid (∀ (ca2 : Option Addr) (cc2 : Nat) (cs2 : List Bs) (da2 : Option Addr) (dc2 : Nat) (ds2 : List Wr) (w1 : World), dat cs2 ds2 = dat cs ds → Mem w1 (dsk ca2 cs2 da2 ds2) → DOk cs2 ds2 → Calls Tryz.prog 17 #[dskV ca2 cs2.length cc2 da2 ds2.length dc2] w1 (fun e w2 => ∃ (ca3 : Option Addr) (cc3 : Nat) (cs3 : List Bs) (da3 : Option Addr) (dc3 : Nat) (ds3 : List Wr) (oa : Option Addr) (oc : Nat), e = .returned (.tuple #[logV ca3 cs3.length cc3 da3 ds3.length dc3 rn re, .slice oa EL.length oc, .int .i64 rc]) ∧ dat cs3 ds3 = RM ∧ DOk cs3 ds3 ∧ (ca3 = none → cc3 = 0) ∧ (da3 = none → dc3 = 0) ∧ Born w1 w2 (dsk ca3 cs3 da3 ds3 ++ [(oa, ecells EL)]) ∧ Keeps w1 w2)) := fun ca2 cc2 cs2 da2 dc2 ds2 w1 e hm h => by
    have h1 := logopen_spec ca2 cc2 cs2 da2 dc2 ds2 w1 hm h
    unfold OpPost at h1
    rw [e, hEL, hrc, hrn, hre, hRM] at h1
    exact h1
  have HIP : Hid (∀ (ca2 : Option Addr) (cc2 : Nat) (cs2 : List Bs) (da2 : Option Addr) (dc2 : Nat) (ds2 : List Wr) (w1 : World), dat cs2 ds2 = dat cs ds → w1.cell? ⟨0, 0, none⟩ = some (.iface u pv) → Mem w1 (dsk ca2 cs2 da2 ds2) → DOk cs2 ds2 → Calls Tryz.prog 16 #[dskV ca2 cs2.length cc2 da2 ds2.length dc2] w1 (fun e w2 => ∃ (ca3 : Option Addr) (cc3 : Nat) (cs3 : List Bs) (da3 : Option Addr) (dc3 : Nat) (ds3 : List Wr) (oa : Option Addr) (oc : Nat), e = .returned (.tuple #[logV ca3 cs3.length cc3 da3 ds3.length dc3 rn re, .slice oa EL.length oc, .int .i64 rc]) ∧ dat cs3 ds3 = RM ∧ DOk cs3 ds3 ∧ (ca3 = none → cc3 = 0) ∧ (da3 = none → dc3 = 0) ∧ Born w1 w2 (dsk ca3 cs3 da3 ds3 ++ [(oa, ecells EL)]) ∧ Keeps w1 w2)) := fun ca2 cc2 cs2 da2 dc2 ds2 w1 e hv hm h => by
    have h1 := logopen_impl ca2 cc2 cs2 da2 dc2 ds2 w1 u pv hv hm h
    unfold OpPost at h1
    rw [e, hEL, hrc, hrn, hre, hRM] at h1
    exact h1
  clear hEL hrc hrn hre hRM
  have cA0 := cell_at HOA.out.mem 0 (by simp)
  have cA1 := cell_at HOA.out.mem 1 (by simp)
  simp only [Nat.zero_add, List.getElem_cons_zero, List.getElem_cons_succ] at cA0 cA1
  have lA := lt_of_cell cA0
  go_wp2_with fail
  refine (toDisk' ca cc cs da dc ds w2 (HM.out.kept HK.out) HOK.out).mono ?_
  rintro x w3 ⟨v, rfl, hr, hk⟩
  obtain ⟨cas, ccs, css, das, dcs, dss, rfl, hes, hoks, hnas, hnds, hb⟩ := hr
  have HEs := hide hes
  have HKs := hide hoks
  have HAs := hide hnas
  have HBs := hide hnds
  clear hes hoks hnas hnds
  clear cA0 cA1 lA
  have HDA_s := hide (hb.apart HOA.out.mem)
  have HDs_A := hide (hb.apart' HOA.out.mem)
  have HNs := hide ((hb.old HK.out).new)
  replace HK := hide (HK.out.trans hk)
  replace HOA := hide (HOA.out.kept hk)
  have HOs := hide hb.toOwn
  clear hb hk
  have cA0 := cell_at HOA.out.mem 0 (by simp)
  have cA1 := cell_at HOA.out.mem 1 (by simp)
  simp only [Nat.zero_add, List.getElem_cons_zero, List.getElem_cons_succ] at cA0 cA1
  have lA := lt_of_cell cA0
  go_wp2_with fail
  refine (unhide HSP cas ccs css das dcs dss w3 HEs.out HOs.out.mem HKs.out).mono ?_
  rintro x w4 ⟨caw, ccw, csw, daw, dcw, dsw, oawe, ocwe, rfl, hew, hokw, hnaw, hndw, hb, hk⟩
  have HEw := hide hew
  have HKw := hide hokw
  have HAw := hide hnaw
  have HBw := hide hndw
  clear hew hokw hnaw hndw
  obtain ⟨hbL, hbR, hap⟩ := Born.split hb
  clear cA0 cA1 lA
  have HDA_w := hide (hbL.apart HOA.out.mem)
  have HDw_A := hide (hbL.apart' HOA.out.mem)
  have HDA_we := hide (hbR.apart HOA.out.mem)
  have HDwe_A := hide (hbR.apart' HOA.out.mem)
  have HDs_w := hide (hbL.apart HOs.out.mem)
  have HDw_s := hide (hbL.apart' HOs.out.mem)
  have HDs_we := hide (hbR.apart HOs.out.mem)
  have HDwe_s := hide (hbR.apart' HOs.out.mem)
  have HNw := hide ((hbL.old HK.out).new)
  have HNwe := hide ((hbR.old HK.out).new)
  have HDw_we := hide hap
  have HDwe_w := hide (fun b h h' => hap b h' h)
  replace HK := hide (HK.out.trans hk)
  replace HOA := hide (HOA.out.kept hk)
  replace HOs := hide (HOs.out.kept hk)
  have HOw := hide hbL.toOwn
  have HOwe := hide hbR.toOwn
  clear hb hbL hbR hap hk
  have cA0 := cell_at HOA.out.mem 0 (by simp)
  have cA1 := cell_at HOA.out.mem 1 (by simp)
  simp only [Nat.zero_add, List.getElem_cons_zero, List.getElem_cons_succ] at cA0 cA1
  have lA := lt_of_cell cA0
  go_wp2_with fail
  have hb := born_alloc w4 #[.slice caw csw.length ccw, .slice daw dsw.length dcw, .int .i64 rn, .int .i64 re] 28
  dsimp only at hb
  have hk := Keeps.alloc (Keeps.refl w4) (.cells #[.slice caw csw.length ccw, .slice daw dsw.length dcw, .int .i64 rn, .int .i64 re] 28)
  generalize w4.alloc (.cells #[.slice caw csw.length ccw, .slice daw dsw.length dcw, .int .i64 rn, .int .i64 re] 28) = w5 at *
  clear cA0 cA1 lA
  have HDA_VW := hide (hb.apart HOA.out.mem)
  have HDVW_A := hide (hb.apart' HOA.out.mem)
  have HDs_VW := hide (hb.apart HOs.out.mem)
  have HDVW_s := hide (hb.apart' HOs.out.mem)
  have HDw_VW := hide (hb.apart HOw.out.mem)
  have HDVW_w := hide (hb.apart' HOw.out.mem)
  have HDwe_VW := hide (hb.apart HOwe.out.mem)
  have HDVW_we := hide (hb.apart' HOwe.out.mem)
  have HNVW := hide ((hb.old HK.out).new)
  replace HK := hide (HK.out.trans hk)
  replace HOA := hide (HOA.out.kept hk)
  replace HOs := hide (HOs.out.kept hk)
  replace HOw := hide (HOw.out.kept hk)
  replace HOwe := hide (HOwe.out.kept hk)
  have HOVW := hide hb.toOwn
  clear hb hk
  clear HOs HNs HDA_s HDs_A HDw_s HDs_w HDwe_s HDs_we HDVW_s HDs_VW
  clear HEs HKs HAs HBs
  have cA0 := cell_at HOA.out.mem 0 (by simp)
  have cA1 := cell_at HOA.out.mem 1 (by simp)
  simp only [Nat.zero_add, List.getElem_cons_zero, List.getElem_cons_succ] at cA0 cA1
  have lA := lt_of_cell cA0
  have cVW0 := cell_at HOVW.out.mem 0 (by simp)
  have cVW1 := cell_at HOVW.out.mem 1 (by simp)
  have cVW2 := cell_at HOVW.out.mem 2 (by simp)
  have cVW3 := cell_at HOVW.out.mem 3 (by simp)
  simp only [Nat.zero_add, List.getElem_cons_zero, List.getElem_cons_succ] at cVW0 cVW1 cVW2 cVW3
  have lVW := lt_of_cell cVW0
  go_wp2_with fail
  refine (toDisk' ca cc cs da dc ds w5 (HM.out.kept HK.out) HOK.out).mono ?_
  rintro x w6 ⟨v, rfl, hr, hk⟩
  obtain ⟨cax, ccx, csx, dax, dcx, dsx, rfl, hex, hokx, hnax, hndx, hb⟩ := hr
  have HEx := hide hex
  have HKx := hide hokx
  have HAx := hide hnax
  have HBx := hide hndx
  clear hex hokx hnax hndx
  clear cA0 cA1 lA cVW0 cVW1 cVW2 cVW3 lVW
  have HDA_x := hide (hb.apart HOA.out.mem)
  have HDx_A := hide (hb.apart' HOA.out.mem)
  have HDw_x := hide (hb.apart HOw.out.mem)
  have HDx_w := hide (hb.apart' HOw.out.mem)
  have HDwe_x := hide (hb.apart HOwe.out.mem)
  have HDx_we := hide (hb.apart' HOwe.out.mem)
  have HDVW_x := hide (hb.apart HOVW.out.mem)
  have HDx_VW := hide (hb.apart' HOVW.out.mem)
  have HNx := hide ((hb.old HK.out).new)
  replace HK := hide (HK.out.trans hk)
  replace HOA := hide (HOA.out.kept hk)
  replace HOw := hide (HOw.out.kept hk)
  replace HOwe := hide (HOwe.out.kept hk)
  replace HOVW := hide (HOVW.out.kept hk)
  have HOx := hide hb.toOwn
  clear hb hk
  have cA0 := cell_at HOA.out.mem 0 (by simp)
  have cA1 := cell_at HOA.out.mem 1 (by simp)
  simp only [Nat.zero_add, List.getElem_cons_zero, List.getElem_cons_succ] at cA0 cA1
  have lA := lt_of_cell cA0
  have cVW0 := cell_at HOVW.out.mem 0 (by simp)
  have cVW1 := cell_at HOVW.out.mem 1 (by simp)
  have cVW2 := cell_at HOVW.out.mem 2 (by simp)
  have cVW3 := cell_at HOVW.out.mem 3 (by simp)
  simp only [Nat.zero_add, List.getElem_cons_zero, List.getElem_cons_succ] at cVW0 cVW1 cVW2 cVW3
  have lVW := lt_of_cell cVW0
  go_wp2_with fail
  have hb := born_alloc w6 #[.slice cax csx.length ccx, .slice dax dsx.length dcx] 26
  dsimp only at hb
  have hk := Keeps.alloc (Keeps.refl w6) (.cells #[.slice cax csx.length ccx, .slice dax dsx.length dcx] 26)
  generalize w6.alloc (.cells #[.slice cax csx.length ccx, .slice dax dsx.length dcx] 26) = w7 at *
  clear cA0 cA1 lA cVW0 cVW1 cVW2 cVW3 lVW
  have HDA_X := hide (hb.apart HOA.out.mem)
  have HDX_A := hide (hb.apart' HOA.out.mem)
  have HDw_X := hide (hb.apart HOw.out.mem)
  have HDX_w := hide (hb.apart' HOw.out.mem)
  have HDwe_X := hide (hb.apart HOwe.out.mem)
  have HDX_we := hide (hb.apart' HOwe.out.mem)
  have HDVW_X := hide (hb.apart HOVW.out.mem)
  have HDX_VW := hide (hb.apart' HOVW.out.mem)
  have HDx_X := hide (hb.apart HOx.out.mem)
  have HDX_x := hide (hb.apart' HOx.out.mem)
  have HNX := hide ((hb.old HK.out).new)
  replace HK := hide (HK.out.trans hk)
  replace HOA := hide (HOA.out.kept hk)
  replace HOw := hide (HOw.out.kept hk)
  replace HOwe := hide (HOwe.out.kept hk)
  replace HOVW := hide (HOVW.out.kept hk)
  replace HOx := hide (HOx.out.kept hk)
  have HOX := hide hb.toOwn
  clear hb hk
  have cA0 := cell_at HOA.out.mem 0 (by simp)
  have cA1 := cell_at HOA.out.mem 1 (by simp)
  simp only [Nat.zero_add, List.getElem_cons_zero, List.getElem_cons_succ] at cA0 cA1
  have lA := lt_of_cell cA0
  have cVW0 := cell_at HOVW.out.mem 0 (by simp)
  have cVW1 := cell_at HOVW.out.mem 1 (by simp)
  have cVW2 := cell_at HOVW.out.mem 2 (by simp)
  have cVW3 := cell_at HOVW.out.mem 3 (by simp)
  simp only [Nat.zero_add, List.getElem_cons_zero, List.getElem_cons_succ] at cVW0 cVW1 cVW2 cVW3
  have lVW := lt_of_cell cVW0
  have cX0 := cell_at HOX.out.mem 0 (by simp)
  have cX1 := cell_at HOX.out.mem 1 (by simp)
  simp only [Nat.zero_add, List.getElem_cons_zero, List.getElem_cons_succ] at cX0 cX1
  have lX := lt_of_cell cX0
  go_wp2_with fail
  refine (unhide HIP cax ccx csx dax dcx dsx w7 HEx.out (HK.out.cell HV.out) HOx.out.mem HKx.out).mono ?_
  rintro x w8 ⟨cag, ccg, csg, dag, dcg, dsg, oage, ocge, rfl, heg, hokg, hnag, hndg, hb, hk⟩
  have HEg := hide heg
  have HKg := hide hokg
  have HAg := hide hnag
  have HBg := hide hndg
  clear heg hokg hnag hndg
  obtain ⟨hbL, hbR, hap⟩ := Born.split hb
  clear cA0 cA1 lA cVW0 cVW1 cVW2 cVW3 lVW cX0 cX1 lX
  have HDA_g := hide (hbL.apart HOA.out.mem)
  have HDg_A := hide (hbL.apart' HOA.out.mem)
  have HDA_ge := hide (hbR.apart HOA.out.mem)
  have HDge_A := hide (hbR.apart' HOA.out.mem)
  have HDw_g := hide (hbL.apart HOw.out.mem)
  have HDg_w := hide (hbL.apart' HOw.out.mem)
  have HDw_ge := hide (hbR.apart HOw.out.mem)
  have HDge_w := hide (hbR.apart' HOw.out.mem)
  have HDwe_g := hide (hbL.apart HOwe.out.mem)
  have HDg_we := hide (hbL.apart' HOwe.out.mem)
  have HDwe_ge := hide (hbR.apart HOwe.out.mem)
  have HDge_we := hide (hbR.apart' HOwe.out.mem)
  have HDVW_g := hide (hbL.apart HOVW.out.mem)
  have HDg_VW := hide (hbL.apart' HOVW.out.mem)
  have HDVW_ge := hide (hbR.apart HOVW.out.mem)
  have HDge_VW := hide (hbR.apart' HOVW.out.mem)
  have HDx_g := hide (hbL.apart HOx.out.mem)
  have HDg_x := hide (hbL.apart' HOx.out.mem)
  have HDx_ge := hide (hbR.apart HOx.out.mem)
  have HDge_x := hide (hbR.apart' HOx.out.mem)
  have HDX_g := hide (hbL.apart HOX.out.mem)
  have HDg_X := hide (hbL.apart' HOX.out.mem)
  have HDX_ge := hide (hbR.apart HOX.out.mem)
  have HDge_X := hide (hbR.apart' HOX.out.mem)
  have HNg := hide ((hbL.old HK.out).new)
  have HNge := hide ((hbR.old HK.out).new)
  have HDg_ge := hide hap
  have HDge_g := hide (fun b h h' => hap b h' h)
  replace HK := hide (HK.out.trans hk)
  replace HOA := hide (HOA.out.kept hk)
  replace HOw := hide (HOw.out.kept hk)
  replace HOwe := hide (HOwe.out.kept hk)
  replace HOVW := hide (HOVW.out.kept hk)
  replace HOx := hide (HOx.out.kept hk)
  replace HOX := hide (HOX.out.kept hk)
  have HOg := hide hbL.toOwn
  have HOge := hide hbR.toOwn
  clear hb hbL hbR hap hk
  have cA0 := cell_at HOA.out.mem 0 (by simp)
  have cA1 := cell_at HOA.out.mem 1 (by simp)
  simp only [Nat.zero_add, List.getElem_cons_zero, List.getElem_cons_succ] at cA0 cA1
  have lA := lt_of_cell cA0
  have cVW0 := cell_at HOVW.out.mem 0 (by simp)
  have cVW1 := cell_at HOVW.out.mem 1 (by simp)
  have cVW2 := cell_at HOVW.out.mem 2 (by simp)
  have cVW3 := cell_at HOVW.out.mem 3 (by simp)
  simp only [Nat.zero_add, List.getElem_cons_zero, List.getElem_cons_succ] at cVW0 cVW1 cVW2 cVW3
  have lVW := lt_of_cell cVW0
  have cX0 := cell_at HOX.out.mem 0 (by simp)
  have cX1 := cell_at HOX.out.mem 1 (by simp)
  simp only [Nat.zero_add, List.getElem_cons_zero, List.getElem_cons_succ] at cX0 cX1
  have lX := lt_of_cell cX0
  go_wp2_with fail
  have hb := born_alloc w8 #[.slice cag csg.length ccg, .slice dag dsg.length dcg, .int .i64 rn, .int .i64 re] 28
  dsimp only at hb
  have hk := Keeps.alloc (Keeps.refl w8) (.cells #[.slice cag csg.length ccg, .slice dag dsg.length dcg, .int .i64 rn, .int .i64 re] 28)
  generalize w8.alloc (.cells #[.slice cag csg.length ccg, .slice dag dsg.length dcg, .int .i64 rn, .int .i64 re] 28) = w9 at *
  clear cA0 cA1 lA cVW0 cVW1 cVW2 cVW3 lVW cX0 cX1 lX
  have HDA_VG := hide (hb.apart HOA.out.mem)
  have HDVG_A := hide (hb.apart' HOA.out.mem)
  have HDw_VG := hide (hb.apart HOw.out.mem)
  have HDVG_w := hide (hb.apart' HOw.out.mem)
  have HDwe_VG := hide (hb.apart HOwe.out.mem)
  have HDVG_we := hide (hb.apart' HOwe.out.mem)
  have HDVW_VG := hide (hb.apart HOVW.out.mem)
  have HDVG_VW := hide (hb.apart' HOVW.out.mem)
  have HDx_VG := hide (hb.apart HOx.out.mem)
  have HDVG_x := hide (hb.apart' HOx.out.mem)
  have HDX_VG := hide (hb.apart HOX.out.mem)
  have HDVG_X := hide (hb.apart' HOX.out.mem)
  have HDg_VG := hide (hb.apart HOg.out.mem)
  have HDVG_g := hide (hb.apart' HOg.out.mem)
  have HDge_VG := hide (hb.apart HOge.out.mem)
  have HDVG_ge := hide (hb.apart' HOge.out.mem)
  have HNVG := hide ((hb.old HK.out).new)
  replace HK := hide (HK.out.trans hk)
  replace HOA := hide (HOA.out.kept hk)
  replace HOw := hide (HOw.out.kept hk)
  replace HOwe := hide (HOwe.out.kept hk)
  replace HOVW := hide (HOVW.out.kept hk)
  replace HOx := hide (HOx.out.kept hk)
  replace HOX := hide (HOX.out.kept hk)
  replace HOg := hide (HOg.out.kept hk)
  replace HOge := hide (HOge.out.kept hk)
  have HOVG := hide hb.toOwn
  clear hb hk
  have cA0 := cell_at HOA.out.mem 0 (by simp)
  have cA1 := cell_at HOA.out.mem 1 (by simp)
  simp only [Nat.zero_add, List.getElem_cons_zero, List.getElem_cons_succ] at cA0 cA1
  have lA := lt_of_cell cA0
  have cVW0 := cell_at HOVW.out.mem 0 (by simp)
  have cVW1 := cell_at HOVW.out.mem 1 (by simp)
  have cVW2 := cell_at HOVW.out.mem 2 (by simp)
  have cVW3 := cell_at HOVW.out.mem 3 (by simp)
  simp only [Nat.zero_add, List.getElem_cons_zero, List.getElem_cons_succ] at cVW0 cVW1 cVW2 cVW3
  have lVW := lt_of_cell cVW0
  have cX0 := cell_at HOX.out.mem 0 (by simp)
  have cX1 := cell_at HOX.out.mem 1 (by simp)
  simp only [Nat.zero_add, List.getElem_cons_zero, List.getElem_cons_succ] at cX0 cX1
  have lX := lt_of_cell cX0
  have cVG0 := cell_at HOVG.out.mem 0 (by simp)
  have cVG1 := cell_at HOVG.out.mem 1 (by simp)
  have cVG2 := cell_at HOVG.out.mem 2 (by simp)
  have cVG3 := cell_at HOVG.out.mem 3 (by simp)
  simp only [Nat.zero_add, List.getElem_cons_zero, List.getElem_cons_succ] at cVG0 cVG1 cVG2 cVG3
  have lVG := lt_of_cell cVG0
  go_wp2_with fail
  refine (eqLog' cag ccg csg dag dcg dsg caw ccw csw daw dcw dsw rn re w9 (HEw.out.trans HEg.out.symm) HOg.out.mem HOw.out.mem HKg.out).mono ?_
  rintro x w10 ⟨rfl, hk⟩
  clear cA0 cA1 lA cVW0 cVW1 cVW2 cVW3 lVW cX0 cX1 lX cVG0 cVG1 cVG2 cVG3 lVG
  replace HK := hide (HK.out.trans hk)
  replace HOA := hide (HOA.out.kept hk)
  replace HOw := hide (HOw.out.kept hk)
  replace HOwe := hide (HOwe.out.kept hk)
  replace HOVW := hide (HOVW.out.kept hk)
  replace HOx := hide (HOx.out.kept hk)
  replace HOX := hide (HOX.out.kept hk)
  replace HOg := hide (HOg.out.kept hk)
  replace HOge := hide (HOge.out.kept hk)
  replace HOVG := hide (HOVG.out.kept hk)
  clear hk
  have cA0 := cell_at HOA.out.mem 0 (by simp)
  have cA1 := cell_at HOA.out.mem 1 (by simp)
  simp only [Nat.zero_add, List.getElem_cons_zero, List.getElem_cons_succ] at cA0 cA1
  have lA := lt_of_cell cA0
  have cVW0 := cell_at HOVW.out.mem 0 (by simp)
  have cVW1 := cell_at HOVW.out.mem 1 (by simp)
  have cVW2 := cell_at HOVW.out.mem 2 (by simp)
  have cVW3 := cell_at HOVW.out.mem 3 (by simp)
  simp only [Nat.zero_add, List.getElem_cons_zero, List.getElem_cons_succ] at cVW0 cVW1 cVW2 cVW3
  have lVW := lt_of_cell cVW0
  have cX0 := cell_at HOX.out.mem 0 (by simp)
  have cX1 := cell_at HOX.out.mem 1 (by simp)
  simp only [Nat.zero_add, List.getElem_cons_zero, List.getElem_cons_succ] at cX0 cX1
  have lX := lt_of_cell cX0
  have cVG0 := cell_at HOVG.out.mem 0 (by simp)
  have cVG1 := cell_at HOVG.out.mem 1 (by simp)
  have cVG2 := cell_at HOVG.out.mem 2 (by simp)
  have cVG3 := cell_at HOVG.out.mem 3 (by simp)
  simp only [Nat.zero_add, List.getElem_cons_zero, List.getElem_cons_succ] at cVG0 cVG1 cVG2 cVG3
  have lVG := lt_of_cell cVG0
  go_wp2_with fail
  refine (eqEventS_k oage oawe ocge ocwe EL w10 (HOge.out.mem (oage, ecells EL) (by simp)) (HOwe.out.mem (oawe, ecells EL) (by simp)) HLN.out).mono ?_
  rintro x w11 ⟨rfl, hk⟩
  clear cA0 cA1 lA cVW0 cVW1 cVW2 cVW3 lVW cX0 cX1 lX cVG0 cVG1 cVG2 cVG3 lVG
  replace HK := hide (HK.out.trans hk)
  replace HOA := hide (HOA.out.kept hk)
  replace HOw := hide (HOw.out.kept hk)
  replace HOwe := hide (HOwe.out.kept hk)
  replace HOVW := hide (HOVW.out.kept hk)
  replace HOx := hide (HOx.out.kept hk)
  replace HOX := hide (HOX.out.kept hk)
  replace HOg := hide (HOg.out.kept hk)
  replace HOge := hide (HOge.out.kept hk)
  replace HOVG := hide (HOVG.out.kept hk)
  clear hk
  have cA0 := cell_at HOA.out.mem 0 (by simp)
  have cA1 := cell_at HOA.out.mem 1 (by simp)
  simp only [Nat.zero_add, List.getElem_cons_zero, List.getElem_cons_succ] at cA0 cA1
  have lA := lt_of_cell cA0
  have cVW0 := cell_at HOVW.out.mem 0 (by simp)
  have cVW1 := cell_at HOVW.out.mem 1 (by simp)
  have cVW2 := cell_at HOVW.out.mem 2 (by simp)
  have cVW3 := cell_at HOVW.out.mem 3 (by simp)
  simp only [Nat.zero_add, List.getElem_cons_zero, List.getElem_cons_succ] at cVW0 cVW1 cVW2 cVW3
  have lVW := lt_of_cell cVW0
  have cX0 := cell_at HOX.out.mem 0 (by simp)
  have cX1 := cell_at HOX.out.mem 1 (by simp)
  simp only [Nat.zero_add, List.getElem_cons_zero, List.getElem_cons_succ] at cX0 cX1
  have lX := lt_of_cell cX0
  have cVG0 := cell_at HOVG.out.mem 0 (by simp)
  have cVG1 := cell_at HOVG.out.mem 1 (by simp)
  have cVG2 := cell_at HOVG.out.mem 2 (by simp)
  have cVG3 := cell_at HOVG.out.mem 3 (by simp)
  simp only [Nat.zero_add, List.getElem_cons_zero, List.getElem_cons_succ] at cVG0 cVG1 cVG2 cVG3
  have lVG := lt_of_cell cVG0
  go_wp2_with fail
  have HT := hide (fun w' (hk : Keeps w11 w') => toDisk' ca cc cs da dc ds w' ((HM.out.kept HK.out).kept hk) HOK.out)
  go_region_held3 (fun w' => w'.cell? ⟨w6.heap.size, 0, none⟩ = some (.slice cax csx.length ccx) ∧ w'.cell? ⟨w6.heap.size, 1, none⟩ = some (.slice dax dsx.length dcx) ∧ w'.cell? ⟨w.heap.size, 0, none⟩ = some (.slice ca cs.length cc) ∧ w'.cell? ⟨w.heap.size, 1, none⟩ = some (.slice da ds.length dc)) (go_keep)
    (first
       | (go_at_call 21
          refine (unhide HT _ ((Keeps.refl w11).drew)).mono ?_
          rintro x w12 ⟨v, rfl, hr, hk⟩
          obtain ⟨cay, ccy, csy, day, dcy, dsy, rfl, hey, hoky, hnay, hndy, hb⟩ := hr
          have HEy := hide hey
          have HKy := hide hoky
          have HAy := hide hnay
          have HBy := hide hndy
          clear hey hoky hnay hndy
          replace hb := hb.old ((Keeps.refl w11).drew)
          replace hk := ((Keeps.refl w11).drew).trans hk
          clear cA0 cA1 lA cVW0 cVW1 cVW2 cVW3 lVW cX0 cX1 lX cVG0 cVG1 cVG2 cVG3 lVG
          have HDA_y := hide (hb.apart HOA.out.mem)
          have HDy_A := hide (hb.apart' HOA.out.mem)
          have HDw_y := hide (hb.apart HOw.out.mem)
          have HDy_w := hide (hb.apart' HOw.out.mem)
          have HDwe_y := hide (hb.apart HOwe.out.mem)
          have HDy_we := hide (hb.apart' HOwe.out.mem)
          have HDVW_y := hide (hb.apart HOVW.out.mem)
          have HDy_VW := hide (hb.apart' HOVW.out.mem)
          have HDx_y := hide (hb.apart HOx.out.mem)
          have HDy_x := hide (hb.apart' HOx.out.mem)
          have HDX_y := hide (hb.apart HOX.out.mem)
          have HDy_X := hide (hb.apart' HOX.out.mem)
          have HDg_y := hide (hb.apart HOg.out.mem)
          have HDy_g := hide (hb.apart' HOg.out.mem)
          have HDge_y := hide (hb.apart HOge.out.mem)
          have HDy_ge := hide (hb.apart' HOge.out.mem)
          have HDVG_y := hide (hb.apart HOVG.out.mem)
          have HDy_VG := hide (hb.apart' HOVG.out.mem)
          have HNy := hide ((hb.old HK.out).new)
          replace HK := hide (HK.out.trans hk)
          replace HOA := hide (HOA.out.kept hk)
          replace HOw := hide (HOw.out.kept hk)
          replace HOwe := hide (HOwe.out.kept hk)
          replace HOVW := hide (HOVW.out.kept hk)
          replace HOx := hide (HOx.out.kept hk)
          replace HOX := hide (HOX.out.kept hk)
          replace HOg := hide (HOg.out.kept hk)
          replace HOge := hide (HOge.out.kept hk)
          replace HOVG := hide (HOVG.out.kept hk)
          have HOy := hide hb.toOwn
          clear hb hk
          have cX0 := cell_at HOX.out.mem 0 (by simp)
          have cX1 := cell_at HOX.out.mem 1 (by simp)
          simp only [Nat.zero_add, List.getElem_cons_zero, List.getElem_cons_succ] at cX0 cX1
          have lX := lt_of_cell cX0
          have cA0 := cell_at HOA.out.mem 0 (by simp)
          have cA1 := cell_at HOA.out.mem 1 (by simp)
          simp only [Nat.zero_add, List.getElem_cons_zero, List.getElem_cons_succ] at cA0 cA1
          have lA := lt_of_cell cA0
          have cVW0 := cell_at HOVW.out.mem 0 (by simp)
          have cVW1 := cell_at HOVW.out.mem 1 (by simp)
          have cVW2 := cell_at HOVW.out.mem 2 (by simp)
          have cVW3 := cell_at HOVW.out.mem 3 (by simp)
          simp only [Nat.zero_add, List.getElem_cons_zero, List.getElem_cons_succ] at cVW0 cVW1 cVW2 cVW3
          have lVW := lt_of_cell cVW0
          have cVG0 := cell_at HOVG.out.mem 0 (by simp)
          have cVG1 := cell_at HOVG.out.mem 1 (by simp)
          have cVG2 := cell_at HOVG.out.mem 2 (by simp)
          have cVG3 := cell_at HOVG.out.mem 3 (by simp)
          simp only [Nat.zero_add, List.getElem_cons_zero, List.getElem_cons_succ] at cVG0 cVG1 cVG2 cVG3
          have lVG := lt_of_cell cVG0)
       | (go_at_call 24
          refine (eqDisk' cax ccx csx dax dcx dsx cay ccy csy day dcy dsy w12 (HEy.out.trans HEx.out.symm) HOx.out.mem HOy.out.mem HKx.out).mono ?_
          rintro x w13 ⟨rfl, hk⟩
          clear cX0 cX1 lX cA0 cA1 lA cVW0 cVW1 cVW2 cVW3 lVW cVG0 cVG1 cVG2 cVG3 lVG
          replace HK := hide (HK.out.trans hk)
          replace HOA := hide (HOA.out.kept hk)
          replace HOw := hide (HOw.out.kept hk)
          replace HOwe := hide (HOwe.out.kept hk)
          replace HOVW := hide (HOVW.out.kept hk)
          replace HOx := hide (HOx.out.kept hk)
          replace HOX := hide (HOX.out.kept hk)
          replace HOg := hide (HOg.out.kept hk)
          replace HOge := hide (HOge.out.kept hk)
          replace HOVG := hide (HOVG.out.kept hk)
          replace HOy := hide (HOy.out.kept hk)
          clear hk
          have cX0 := cell_at HOX.out.mem 0 (by simp)
          have cX1 := cell_at HOX.out.mem 1 (by simp)
          simp only [Nat.zero_add, List.getElem_cons_zero, List.getElem_cons_succ] at cX0 cX1
          have lX := lt_of_cell cX0
          have cA0 := cell_at HOA.out.mem 0 (by simp)
          have cA1 := cell_at HOA.out.mem 1 (by simp)
          simp only [Nat.zero_add, List.getElem_cons_zero, List.getElem_cons_succ] at cA0 cA1
          have lA := lt_of_cell cA0
          have cVW0 := cell_at HOVW.out.mem 0 (by simp)
          have cVW1 := cell_at HOVW.out.mem 1 (by simp)
          have cVW2 := cell_at HOVW.out.mem 2 (by simp)
          have cVW3 := cell_at HOVW.out.mem 3 (by simp)
          simp only [Nat.zero_add, List.getElem_cons_zero, List.getElem_cons_succ] at cVW0 cVW1 cVW2 cVW3
          have lVW := lt_of_cell cVW0
          have cVG0 := cell_at HOVG.out.mem 0 (by simp)
          have cVG1 := cell_at HOVG.out.mem 1 (by simp)
          have cVG2 := cell_at HOVG.out.mem 2 (by simp)
          have cVG3 := cell_at HOVG.out.mem 3 (by simp)
          simp only [Nat.zero_add, List.getElem_cons_zero, List.getElem_cons_succ] at cVG0 cVG1 cVG2 cVG3
          have lVG := lt_of_cell cVG0))
  clear HOy HNy HDA_y HDy_A HDw_y HDy_w HDwe_y HDy_we HDVW_y HDy_VW HDx_y HDy_x HDX_y HDy_X HDg_y HDy_g HDge_y HDy_ge HDVG_y HDy_VG
  clear HEy HKy HAy HBy
  clear HT
  clear cX0 cX1 lX cA0 cA1 lA cVW0 cVW1 cVW2 cVW3 lVW cVG0 cVG1 cVG2 cVG3 lVG
  have cA0 := cell_at HOA.out.mem 0 (by simp)
  have cA1 := cell_at HOA.out.mem 1 (by simp)
  simp only [Nat.zero_add, List.getElem_cons_zero, List.getElem_cons_succ] at cA0 cA1
  have lA := lt_of_cell cA0
  have cVW0 := cell_at HOVW.out.mem 0 (by simp)
  have cVW1 := cell_at HOVW.out.mem 1 (by simp)
  have cVW2 := cell_at HOVW.out.mem 2 (by simp)
  have cVW3 := cell_at HOVW.out.mem 3 (by simp)
  simp only [Nat.zero_add, List.getElem_cons_zero, List.getElem_cons_succ] at cVW0 cVW1 cVW2 cVW3
  have lVW := lt_of_cell cVW0
  have cX0 := cell_at HOX.out.mem 0 (by simp)
  have cX1 := cell_at HOX.out.mem 1 (by simp)
  simp only [Nat.zero_add, List.getElem_cons_zero, List.getElem_cons_succ] at cX0 cX1
  have lX := lt_of_cell cX0
  have cVG0 := cell_at HOVG.out.mem 0 (by simp)
  have cVG1 := cell_at HOVG.out.mem 1 (by simp)
  have cVG2 := cell_at HOVG.out.mem 2 (by simp)
  have cVG3 := cell_at HOVG.out.mem 3 (by simp)
  simp only [Nat.zero_add, List.getElem_cons_zero, List.getElem_cons_succ] at cVG0 cVG1 cVG2 cVG3
  have lVG := lt_of_cell cVG0
  go_wp2_with fail
  refine (markDisk' cax ccx csx dax dcx dsx w13 HOx.out HKx.out).mono ?_
  rintro x w14 ⟨rfl, ho, ht⟩
  clear cA0 cA1 lA cVW0 cVW1 cVW2 cVW3 lVW cX0 cX1 lX cVG0 cVG1 cVG2 cVG3 lVG
  replace HK := hide (ht.keeps HK.out HNx.out)
  replace HOA := hide (HOA.out.turn ht HDA_x.out)
  replace HOw := hide (HOw.out.turn ht HDw_x.out)
  replace HOwe := hide (HOwe.out.turn ht HDwe_x.out)
  replace HOVW := hide (HOVW.out.turn ht HDVW_x.out)
  replace HOX := hide (HOX.out.turn ht HDX_x.out)
  replace HOg := hide (HOg.out.turn ht HDg_x.out)
  replace HOge := hide (HOge.out.turn ht HDge_x.out)
  replace HOVG := hide (HOVG.out.turn ht HDVG_x.out)
  clear ht
  replace HOx := hide ho
  clear ho
  clear HOx HNx HDA_x HDx_A HDw_x HDx_w HDwe_x HDx_we HDVW_x HDx_VW HDX_x HDx_X HDg_x HDx_g HDge_x HDx_ge HDVG_x HDx_VG
  clear HEx HKx HAx HBx
  have cA0 := cell_at HOA.out.mem 0 (by simp)
  have cA1 := cell_at HOA.out.mem 1 (by simp)
  simp only [Nat.zero_add, List.getElem_cons_zero, List.getElem_cons_succ] at cA0 cA1
  have lA := lt_of_cell cA0
  have cVW0 := cell_at HOVW.out.mem 0 (by simp)
  have cVW1 := cell_at HOVW.out.mem 1 (by simp)
  have cVW2 := cell_at HOVW.out.mem 2 (by simp)
  have cVW3 := cell_at HOVW.out.mem 3 (by simp)
  simp only [Nat.zero_add, List.getElem_cons_zero, List.getElem_cons_succ] at cVW0 cVW1 cVW2 cVW3
  have lVW := lt_of_cell cVW0
  have cX0 := cell_at HOX.out.mem 0 (by simp)
  have cX1 := cell_at HOX.out.mem 1 (by simp)
  simp only [Nat.zero_add, List.getElem_cons_zero, List.getElem_cons_succ] at cX0 cX1
  have lX := lt_of_cell cX0
  have cVG0 := cell_at HOVG.out.mem 0 (by simp)
  have cVG1 := cell_at HOVG.out.mem 1 (by simp)
  have cVG2 := cell_at HOVG.out.mem 2 (by simp)
  have cVG3 := cell_at HOVG.out.mem 3 (by simp)
  simp only [Nat.zero_add, List.getElem_cons_zero, List.getElem_cons_succ] at cVG0 cVG1 cVG2 cVG3
  have lVG := lt_of_cell cVG0
  go_wp2_with fail
  refine (eqLog' cag ccg csg dag dcg dsg caw ccw csw daw dcw dsw rn re w14 (HEw.out.trans HEg.out.symm) HOg.out.mem HOw.out.mem HKg.out).mono ?_
  rintro x w15 ⟨rfl, hk⟩
  clear cA0 cA1 lA cVW0 cVW1 cVW2 cVW3 lVW cX0 cX1 lX cVG0 cVG1 cVG2 cVG3 lVG
  replace HK := hide (HK.out.trans hk)
  replace HOA := hide (HOA.out.kept hk)
  replace HOw := hide (HOw.out.kept hk)
  replace HOwe := hide (HOwe.out.kept hk)
  replace HOVW := hide (HOVW.out.kept hk)
  replace HOX := hide (HOX.out.kept hk)
  replace HOg := hide (HOg.out.kept hk)
  replace HOge := hide (HOge.out.kept hk)
  replace HOVG := hide (HOVG.out.kept hk)
  clear hk
  have cA0 := cell_at HOA.out.mem 0 (by simp)
  have cA1 := cell_at HOA.out.mem 1 (by simp)
  simp only [Nat.zero_add, List.getElem_cons_zero, List.getElem_cons_succ] at cA0 cA1
  have lA := lt_of_cell cA0
  have cVW0 := cell_at HOVW.out.mem 0 (by simp)
  have cVW1 := cell_at HOVW.out.mem 1 (by simp)
  have cVW2 := cell_at HOVW.out.mem 2 (by simp)
  have cVW3 := cell_at HOVW.out.mem 3 (by simp)
  simp only [Nat.zero_add, List.getElem_cons_zero, List.getElem_cons_succ] at cVW0 cVW1 cVW2 cVW3
  have lVW := lt_of_cell cVW0
  have cX0 := cell_at HOX.out.mem 0 (by simp)
  have cX1 := cell_at HOX.out.mem 1 (by simp)
  simp only [Nat.zero_add, List.getElem_cons_zero, List.getElem_cons_succ] at cX0 cX1
  have lX := lt_of_cell cX0
  have cVG0 := cell_at HOVG.out.mem 0 (by simp)
  have cVG1 := cell_at HOVG.out.mem 1 (by simp)
  have cVG2 := cell_at HOVG.out.mem 2 (by simp)
  have cVG3 := cell_at HOVG.out.mem 3 (by simp)
  simp only [Nat.zero_add, List.getElem_cons_zero, List.getElem_cons_succ] at cVG0 cVG1 cVG2 cVG3
  have lVG := lt_of_cell cVG0
  go_wp2_with fail
  refine (eqEventS_k oage oawe ocge ocwe EL w15 (HOge.out.mem (oage, ecells EL) (by simp)) (HOwe.out.mem (oawe, ecells EL) (by simp)) HLN.out).mono ?_
  rintro x w16 ⟨rfl, hk⟩
  clear cA0 cA1 lA cVW0 cVW1 cVW2 cVW3 lVW cX0 cX1 lX cVG0 cVG1 cVG2 cVG3 lVG
  replace HK := hide (HK.out.trans hk)
  replace HOA := hide (HOA.out.kept hk)
  replace HOw := hide (HOw.out.kept hk)
  replace HOwe := hide (HOwe.out.kept hk)
  replace HOVW := hide (HOVW.out.kept hk)
  replace HOX := hide (HOX.out.kept hk)
  replace HOg := hide (HOg.out.kept hk)
  replace HOge := hide (HOge.out.kept hk)
  replace HOVG := hide (HOVG.out.kept hk)
  clear hk
  clear HOX HNX HDA_X HDX_A HDw_X HDX_w HDwe_X HDX_we HDVW_X HDX_VW HDg_X HDX_g HDge_X HDX_ge HDVG_X HDX_VG
  have HKL0 : Hid (1 + tot csg + dsg.length + totW dsg ≤ 1000000000) := by show _ ≤ _; have := HKg.out.d; have := HKg.out.tc; have := HKg.out.td; omega
  obtain ⟨kk, hkk⟩ : ∃ kk, 1 + tot csg + dsg.length + totW dsg = kk := ⟨_, rfl⟩
  have HKK := hide hkk
  rw [hkk] at HKL0
  have HKL := hide HKL0.out
  have hkn : ¬ ((kk : Int) < 0) := by omega
  have hqn : ¬ (((kk + 7 * EL.length : Nat) : Int) < 0) := by omega
  clear hkk HKL0
  have cA0 := cell_at HOA.out.mem 0 (by simp)
  have cA1 := cell_at HOA.out.mem 1 (by simp)
  simp only [Nat.zero_add, List.getElem_cons_zero, List.getElem_cons_succ] at cA0 cA1
  have lA := lt_of_cell cA0
  have cVW0 := cell_at HOVW.out.mem 0 (by simp)
  have cVW1 := cell_at HOVW.out.mem 1 (by simp)
  have cVW2 := cell_at HOVW.out.mem 2 (by simp)
  have cVW3 := cell_at HOVW.out.mem 3 (by simp)
  simp only [Nat.zero_add, List.getElem_cons_zero, List.getElem_cons_succ] at cVW0 cVW1 cVW2 cVW3
  have lVW := lt_of_cell cVW0
  have cVG0 := cell_at HOVG.out.mem 0 (by simp)
  have cVG1 := cell_at HOVG.out.mem 1 (by simp)
  have cVG2 := cell_at HOVG.out.mem 2 (by simp)
  have cVG3 := cell_at HOVG.out.mem 3 (by simp)
  simp only [Nat.zero_add, List.getElem_cons_zero, List.getElem_cons_succ] at cVG0 cVG1 cVG2 cVG3
  have lVG := lt_of_cell cVG0
  go_wp2_with fail
  refine (markLog' cag ccg csg dag dcg dsg rn re w16 HOg.out HKg.out).mono ?_
  rintro x w17 ⟨rfl, ho, ht⟩
  clear cA0 cA1 lA cVW0 cVW1 cVW2 cVW3 lVW cVG0 cVG1 cVG2 cVG3 lVG
  replace HK := hide (ht.keeps HK.out HNg.out)
  replace HOA := hide (HOA.out.turn ht HDA_g.out)
  replace HOw := hide (HOw.out.turn ht HDw_g.out)
  replace HOwe := hide (HOwe.out.turn ht HDwe_g.out)
  replace HOVW := hide (HOVW.out.turn ht HDVW_g.out)
  replace HOge := hide (HOge.out.turn ht HDge_g.out)
  replace HOVG := hide (HOVG.out.turn ht HDVG_g.out)
  clear ht
  replace HOg := hide ho
  clear ho
  rw [HKK.out]
  replace HDg_ge := hide (mark_far HDg_ge.out 1 (1 + tot csg))
  have cA0 := cell_at HOA.out.mem 0 (by simp)
  have cA1 := cell_at HOA.out.mem 1 (by simp)
  simp only [Nat.zero_add, List.getElem_cons_zero, List.getElem_cons_succ] at cA0 cA1
  have lA := lt_of_cell cA0
  have cVW0 := cell_at HOVW.out.mem 0 (by simp)
  have cVW1 := cell_at HOVW.out.mem 1 (by simp)
  have cVW2 := cell_at HOVW.out.mem 2 (by simp)
  have cVW3 := cell_at HOVW.out.mem 3 (by simp)
  simp only [Nat.zero_add, List.getElem_cons_zero, List.getElem_cons_succ] at cVW0 cVW1 cVW2 cVW3
  have lVW := lt_of_cell cVW0
  have cVG0 := cell_at HOVG.out.mem 0 (by simp)
  have cVG1 := cell_at HOVG.out.mem 1 (by simp)
  have cVG2 := cell_at HOVG.out.mem 2 (by simp)
  have cVG3 := cell_at HOVG.out.mem 3 (by simp)
  simp only [Nat.zero_add, List.getElem_cons_zero, List.getElem_cons_succ] at cVG0 cVG1 cVG2 cVG3
  have lVG := lt_of_cell cVG0
  go_wp2_with fail
  refine (markEventS_k oage ocge EL kk w17 HOge.out HLN.out HKL.out).mono ?_
  rintro x w18 ⟨rfl, ho, ht⟩
  clear cA0 cA1 lA cVW0 cVW1 cVW2 cVW3 lVW cVG0 cVG1 cVG2 cVG3 lVG
  replace HK := hide (ht.keeps HK.out HNge.out)
  replace HOA := hide (HOA.out.turn ht HDA_ge.out)
  replace HOw := hide (HOw.out.turn ht HDw_ge.out)
  replace HOwe := hide (HOwe.out.turn ht HDwe_ge.out)
  replace HOVW := hide (HOVW.out.turn ht HDVW_ge.out)
  replace HOg := hide (HOg.out.turn ht HDg_ge.out)
  replace HOVG := hide (HOVG.out.turn ht HDVG_ge.out)
  clear ht
  replace HOge := hide ho
  clear ho
  have cA0 := cell_at HOA.out.mem 0 (by simp)
  have cA1 := cell_at HOA.out.mem 1 (by simp)
  simp only [Nat.zero_add, List.getElem_cons_zero, List.getElem_cons_succ] at cA0 cA1
  have lA := lt_of_cell cA0
  have cVW0 := cell_at HOVW.out.mem 0 (by simp)
  have cVW1 := cell_at HOVW.out.mem 1 (by simp)
  have cVW2 := cell_at HOVW.out.mem 2 (by simp)
  have cVW3 := cell_at HOVW.out.mem 3 (by simp)
  simp only [Nat.zero_add, List.getElem_cons_zero, List.getElem_cons_succ] at cVW0 cVW1 cVW2 cVW3
  have lVW := lt_of_cell cVW0
  have cVG0 := cell_at HOVG.out.mem 0 (by simp)
  have cVG1 := cell_at HOVG.out.mem 1 (by simp)
  have cVG2 := cell_at HOVG.out.mem 2 (by simp)
  have cVG3 := cell_at HOVG.out.mem 3 (by simp)
  simp only [Nat.zero_add, List.getElem_cons_zero, List.getElem_cons_succ] at cVG0 cVG1 cVG2 cVG3
  have lVG := lt_of_cell cVG0
  go_wp2_with fail
  refine (heldLog' cag ccg csg dag dcg dsg rn re w18 HOg.out.mem HKg.out).mono ?_
  rintro x w19 ⟨rfl, hk⟩
  clear cA0 cA1 lA cVW0 cVW1 cVW2 cVW3 lVW cVG0 cVG1 cVG2 cVG3 lVG
  replace HK := hide (HK.out.trans hk)
  replace HOA := hide (HOA.out.kept hk)
  replace HOw := hide (HOw.out.kept hk)
  replace HOwe := hide (HOwe.out.kept hk)
  replace HOVW := hide (HOVW.out.kept hk)
  replace HOg := hide (HOg.out.kept hk)
  replace HOge := hide (HOge.out.kept hk)
  replace HOVG := hide (HOVG.out.kept hk)
  clear hk
  rw [HKK.out]
  have cA0 := cell_at HOA.out.mem 0 (by simp)
  have cA1 := cell_at HOA.out.mem 1 (by simp)
  simp only [Nat.zero_add, List.getElem_cons_zero, List.getElem_cons_succ] at cA0 cA1
  have lA := lt_of_cell cA0
  have cVW0 := cell_at HOVW.out.mem 0 (by simp)
  have cVW1 := cell_at HOVW.out.mem 1 (by simp)
  have cVW2 := cell_at HOVW.out.mem 2 (by simp)
  have cVW3 := cell_at HOVW.out.mem 3 (by simp)
  simp only [Nat.zero_add, List.getElem_cons_zero, List.getElem_cons_succ] at cVW0 cVW1 cVW2 cVW3
  have lVW := lt_of_cell cVW0
  have cVG0 := cell_at HOVG.out.mem 0 (by simp)
  have cVG1 := cell_at HOVG.out.mem 1 (by simp)
  have cVG2 := cell_at HOVG.out.mem 2 (by simp)
  have cVG3 := cell_at HOVG.out.mem 3 (by simp)
  simp only [Nat.zero_add, List.getElem_cons_zero, List.getElem_cons_succ] at cVG0 cVG1 cVG2 cVG3
  have lVG := lt_of_cell cVG0
  go_wp2_with fail
  refine (heldEventS_k oage ocge EL.length kk w19 (HOge.out.mem (oage, ecells (markE kk EL.length)) (by simp)) HLN.out HKL.out).mono ?_
  rintro x w20 ⟨rfl, hw⟩
  clear cA0 cA1 lA cVW0 cVW1 cVW2 cVW3 lVW cVG0 cVG1 cVG2 cVG3 lVG
  subst hw
  have cA0 := cell_at HOA.out.mem 0 (by simp)
  have cA1 := cell_at HOA.out.mem 1 (by simp)
  simp only [Nat.zero_add, List.getElem_cons_zero, List.getElem_cons_succ] at cA0 cA1
  have lA := lt_of_cell cA0
  have cVW0 := cell_at HOVW.out.mem 0 (by simp)
  have cVW1 := cell_at HOVW.out.mem 1 (by simp)
  have cVW2 := cell_at HOVW.out.mem 2 (by simp)
  have cVW3 := cell_at HOVW.out.mem 3 (by simp)
  simp only [Nat.zero_add, List.getElem_cons_zero, List.getElem_cons_succ] at cVW0 cVW1 cVW2 cVW3
  have lVW := lt_of_cell cVW0
  have cVG0 := cell_at HOVG.out.mem 0 (by simp)
  have cVG1 := cell_at HOVG.out.mem 1 (by simp)
  have cVG2 := cell_at HOVG.out.mem 2 (by simp)
  have cVG3 := cell_at HOVG.out.mem 3 (by simp)
  simp only [Nat.zero_add, List.getElem_cons_zero, List.getElem_cons_succ] at cVG0 cVG1 cVG2 cVG3
  have lVG := lt_of_cell cVG0
  go_wp2_with fail
  refine (toDisk' ca cc cs da dc ds w20 (HM.out.kept HK.out) HOK.out).mono ?_
  rintro x w21 ⟨v, rfl, hr, hk⟩
  obtain ⟨cau, ccu, csu, dau, dcu, dsu, rfl, heu, hoku, hnau, hndu, hb⟩ := hr
  have HEu := hide heu
  have HKu := hide hoku
  have HAu := hide hnau
  have HBu := hide hndu
  clear heu hoku hnau hndu
  clear cA0 cA1 lA cVW0 cVW1 cVW2 cVW3 lVW cVG0 cVG1 cVG2 cVG3 lVG
  have HDA_u := hide (hb.apart HOA.out.mem)
  have HDu_A := hide (hb.apart' HOA.out.mem)
  have HDw_u := hide (hb.apart HOw.out.mem)
  have HDu_w := hide (hb.apart' HOw.out.mem)
  have HDwe_u := hide (hb.apart HOwe.out.mem)
  have HDu_we := hide (hb.apart' HOwe.out.mem)
  have HDVW_u := hide (hb.apart HOVW.out.mem)
  have HDu_VW := hide (hb.apart' HOVW.out.mem)
  have HDg_u := hide (hb.apart HOg.out.mem)
  have HDu_g := hide (hb.apart' HOg.out.mem)
  have HDge_u := hide (hb.apart HOge.out.mem)
  have HDu_ge := hide (hb.apart' HOge.out.mem)
  have HDVG_u := hide (hb.apart HOVG.out.mem)
  have HDu_VG := hide (hb.apart' HOVG.out.mem)
  have HNu := hide ((hb.old HK.out).new)
  replace HK := hide (HK.out.trans hk)
  replace HOA := hide (HOA.out.kept hk)
  replace HOw := hide (HOw.out.kept hk)
  replace HOwe := hide (HOwe.out.kept hk)
  replace HOVW := hide (HOVW.out.kept hk)
  replace HOg := hide (HOg.out.kept hk)
  replace HOge := hide (HOge.out.kept hk)
  replace HOVG := hide (HOVG.out.kept hk)
  have HOu := hide hb.toOwn
  clear hb hk
  have cA0 := cell_at HOA.out.mem 0 (by simp)
  have cA1 := cell_at HOA.out.mem 1 (by simp)
  simp only [Nat.zero_add, List.getElem_cons_zero, List.getElem_cons_succ] at cA0 cA1
  have lA := lt_of_cell cA0
  have cVW0 := cell_at HOVW.out.mem 0 (by simp)
  have cVW1 := cell_at HOVW.out.mem 1 (by simp)
  have cVW2 := cell_at HOVW.out.mem 2 (by simp)
  have cVW3 := cell_at HOVW.out.mem 3 (by simp)
  simp only [Nat.zero_add, List.getElem_cons_zero, List.getElem_cons_succ] at cVW0 cVW1 cVW2 cVW3
  have lVW := lt_of_cell cVW0
  have cVG0 := cell_at HOVG.out.mem 0 (by simp)
  have cVG1 := cell_at HOVG.out.mem 1 (by simp)
  have cVG2 := cell_at HOVG.out.mem 2 (by simp)
  have cVG3 := cell_at HOVG.out.mem 3 (by simp)
  simp only [Nat.zero_add, List.getElem_cons_zero, List.getElem_cons_succ] at cVG0 cVG1 cVG2 cVG3
  have lVG := lt_of_cell cVG0
  go_wp2_with fail
  refine (unhide HIP cau ccu csu dau dcu dsu w21 HEu.out (HK.out.cell HV.out) HOu.out.mem HKu.out).mono ?_
  rintro x w22 ⟨cah, cch, csh, dah, dch, dsh, oahe, oche, rfl, heh, hokh, hnah, hndh, hb, hk⟩
  have HEh := hide heh
  have HKh := hide hokh
  have HAh := hide hnah
  have HBh := hide hndh
  clear heh hokh hnah hndh
  obtain ⟨hbL, hbR, hap⟩ := Born.split hb
  clear cA0 cA1 lA cVW0 cVW1 cVW2 cVW3 lVW cVG0 cVG1 cVG2 cVG3 lVG
  have HDA_h := hide (hbL.apart HOA.out.mem)
  have HDh_A := hide (hbL.apart' HOA.out.mem)
  have HDA_he := hide (hbR.apart HOA.out.mem)
  have HDhe_A := hide (hbR.apart' HOA.out.mem)
  have HDw_h := hide (hbL.apart HOw.out.mem)
  have HDh_w := hide (hbL.apart' HOw.out.mem)
  have HDw_he := hide (hbR.apart HOw.out.mem)
  have HDhe_w := hide (hbR.apart' HOw.out.mem)
  have HDwe_h := hide (hbL.apart HOwe.out.mem)
  have HDh_we := hide (hbL.apart' HOwe.out.mem)
  have HDwe_he := hide (hbR.apart HOwe.out.mem)
  have HDhe_we := hide (hbR.apart' HOwe.out.mem)
  have HDVW_h := hide (hbL.apart HOVW.out.mem)
  have HDh_VW := hide (hbL.apart' HOVW.out.mem)
  have HDVW_he := hide (hbR.apart HOVW.out.mem)
  have HDhe_VW := hide (hbR.apart' HOVW.out.mem)
  have HDg_h := hide (hbL.apart HOg.out.mem)
  have HDh_g := hide (hbL.apart' HOg.out.mem)
  have HDg_he := hide (hbR.apart HOg.out.mem)
  have HDhe_g := hide (hbR.apart' HOg.out.mem)
  have HDge_h := hide (hbL.apart HOge.out.mem)
  have HDh_ge := hide (hbL.apart' HOge.out.mem)
  have HDge_he := hide (hbR.apart HOge.out.mem)
  have HDhe_ge := hide (hbR.apart' HOge.out.mem)
  have HDVG_h := hide (hbL.apart HOVG.out.mem)
  have HDh_VG := hide (hbL.apart' HOVG.out.mem)
  have HDVG_he := hide (hbR.apart HOVG.out.mem)
  have HDhe_VG := hide (hbR.apart' HOVG.out.mem)
  have HDu_h := hide (hbL.apart HOu.out.mem)
  have HDh_u := hide (hbL.apart' HOu.out.mem)
  have HDu_he := hide (hbR.apart HOu.out.mem)
  have HDhe_u := hide (hbR.apart' HOu.out.mem)
  have HNh := hide ((hbL.old HK.out).new)
  have HNhe := hide ((hbR.old HK.out).new)
  have HDh_he := hide hap
  have HDhe_h := hide (fun b h h' => hap b h' h)
  replace HK := hide (HK.out.trans hk)
  replace HOA := hide (HOA.out.kept hk)
  replace HOw := hide (HOw.out.kept hk)
  replace HOwe := hide (HOwe.out.kept hk)
  replace HOVW := hide (HOVW.out.kept hk)
  replace HOg := hide (HOg.out.kept hk)
  replace HOge := hide (HOge.out.kept hk)
  replace HOVG := hide (HOVG.out.kept hk)
  replace HOu := hide (HOu.out.kept hk)
  have HOh := hide hbL.toOwn
  have HOhe := hide hbR.toOwn
  clear hb hbL hbR hap hk
  have cA0 := cell_at HOA.out.mem 0 (by simp)
  have cA1 := cell_at HOA.out.mem 1 (by simp)
  simp only [Nat.zero_add, List.getElem_cons_zero, List.getElem_cons_succ] at cA0 cA1
  have lA := lt_of_cell cA0
  have cVW0 := cell_at HOVW.out.mem 0 (by simp)
  have cVW1 := cell_at HOVW.out.mem 1 (by simp)
  have cVW2 := cell_at HOVW.out.mem 2 (by simp)
  have cVW3 := cell_at HOVW.out.mem 3 (by simp)
  simp only [Nat.zero_add, List.getElem_cons_zero, List.getElem_cons_succ] at cVW0 cVW1 cVW2 cVW3
  have lVW := lt_of_cell cVW0
  have cVG0 := cell_at HOVG.out.mem 0 (by simp)
  have cVG1 := cell_at HOVG.out.mem 1 (by simp)
  have cVG2 := cell_at HOVG.out.mem 2 (by simp)
  have cVG3 := cell_at HOVG.out.mem 3 (by simp)
  simp only [Nat.zero_add, List.getElem_cons_zero, List.getElem_cons_succ] at cVG0 cVG1 cVG2 cVG3
  have lVG := lt_of_cell cVG0
  go_wp2_with fail
  have hb := born_alloc w22 #[.slice cah csh.length cch, .slice dah dsh.length dch, .int .i64 rn, .int .i64 re] 28
  dsimp only at hb
  have hk := Keeps.alloc (Keeps.refl w22) (.cells #[.slice cah csh.length cch, .slice dah dsh.length dch, .int .i64 rn, .int .i64 re] 28)
  generalize w22.alloc (.cells #[.slice cah csh.length cch, .slice dah dsh.length dch, .int .i64 rn, .int .i64 re] 28) = w23 at *
  clear cA0 cA1 lA cVW0 cVW1 cVW2 cVW3 lVW cVG0 cVG1 cVG2 cVG3 lVG
  have HDA_VH := hide (hb.apart HOA.out.mem)
  have HDVH_A := hide (hb.apart' HOA.out.mem)
  have HDw_VH := hide (hb.apart HOw.out.mem)
  have HDVH_w := hide (hb.apart' HOw.out.mem)
  have HDwe_VH := hide (hb.apart HOwe.out.mem)
  have HDVH_we := hide (hb.apart' HOwe.out.mem)
  have HDVW_VH := hide (hb.apart HOVW.out.mem)
  have HDVH_VW := hide (hb.apart' HOVW.out.mem)
  have HDg_VH := hide (hb.apart HOg.out.mem)
  have HDVH_g := hide (hb.apart' HOg.out.mem)
  have HDge_VH := hide (hb.apart HOge.out.mem)
  have HDVH_ge := hide (hb.apart' HOge.out.mem)
  have HDVG_VH := hide (hb.apart HOVG.out.mem)
  have HDVH_VG := hide (hb.apart' HOVG.out.mem)
  have HDu_VH := hide (hb.apart HOu.out.mem)
  have HDVH_u := hide (hb.apart' HOu.out.mem)
  have HDh_VH := hide (hb.apart HOh.out.mem)
  have HDVH_h := hide (hb.apart' HOh.out.mem)
  have HDhe_VH := hide (hb.apart HOhe.out.mem)
  have HDVH_he := hide (hb.apart' HOhe.out.mem)
  have HNVH := hide ((hb.old HK.out).new)
  replace HK := hide (HK.out.trans hk)
  replace HOA := hide (HOA.out.kept hk)
  replace HOw := hide (HOw.out.kept hk)
  replace HOwe := hide (HOwe.out.kept hk)
  replace HOVW := hide (HOVW.out.kept hk)
  replace HOg := hide (HOg.out.kept hk)
  replace HOge := hide (HOge.out.kept hk)
  replace HOVG := hide (HOVG.out.kept hk)
  replace HOu := hide (HOu.out.kept hk)
  replace HOh := hide (HOh.out.kept hk)
  replace HOhe := hide (HOhe.out.kept hk)
  have HOVH := hide hb.toOwn
  clear hb hk
  clear HOu HNu HDA_u HDu_A HDw_u HDu_w HDwe_u HDu_we HDVW_u HDu_VW HDg_u HDu_g HDge_u HDu_ge HDVG_u HDu_VG HDh_u HDu_h HDhe_u HDu_he HDVH_u HDu_VH
  clear HEu HKu HAu HBu
  have cA0 := cell_at HOA.out.mem 0 (by simp)
  have cA1 := cell_at HOA.out.mem 1 (by simp)
  simp only [Nat.zero_add, List.getElem_cons_zero, List.getElem_cons_succ] at cA0 cA1
  have lA := lt_of_cell cA0
  have cVW0 := cell_at HOVW.out.mem 0 (by simp)
  have cVW1 := cell_at HOVW.out.mem 1 (by simp)
  have cVW2 := cell_at HOVW.out.mem 2 (by simp)
  have cVW3 := cell_at HOVW.out.mem 3 (by simp)
  simp only [Nat.zero_add, List.getElem_cons_zero, List.getElem_cons_succ] at cVW0 cVW1 cVW2 cVW3
  have lVW := lt_of_cell cVW0
  have cVG0 := cell_at HOVG.out.mem 0 (by simp)
  have cVG1 := cell_at HOVG.out.mem 1 (by simp)
  have cVG2 := cell_at HOVG.out.mem 2 (by simp)
  have cVG3 := cell_at HOVG.out.mem 3 (by simp)
  simp only [Nat.zero_add, List.getElem_cons_zero, List.getElem_cons_succ] at cVG0 cVG1 cVG2 cVG3
  have lVG := lt_of_cell cVG0
  have cVH0 := cell_at HOVH.out.mem 0 (by simp)
  have cVH1 := cell_at HOVH.out.mem 1 (by simp)
  have cVH2 := cell_at HOVH.out.mem 2 (by simp)
  have cVH3 := cell_at HOVH.out.mem 3 (by simp)
  simp only [Nat.zero_add, List.getElem_cons_zero, List.getElem_cons_succ] at cVH0 cVH1 cVH2 cVH3
  have lVH := lt_of_cell cVH0
  go_wp2_with fail
  refine (eqLog' cah cch csh dah dch dsh caw ccw csw daw dcw dsw rn re w23 (HEw.out.trans HEh.out.symm) HOh.out.mem HOw.out.mem HKh.out).mono ?_
  rintro x w24 ⟨rfl, hk⟩
  clear cA0 cA1 lA cVW0 cVW1 cVW2 cVW3 lVW cVG0 cVG1 cVG2 cVG3 lVG cVH0 cVH1 cVH2 cVH3 lVH
  replace HK := hide (HK.out.trans hk)
  replace HOA := hide (HOA.out.kept hk)
  replace HOw := hide (HOw.out.kept hk)
  replace HOwe := hide (HOwe.out.kept hk)
  replace HOVW := hide (HOVW.out.kept hk)
  replace HOg := hide (HOg.out.kept hk)
  replace HOge := hide (HOge.out.kept hk)
  replace HOVG := hide (HOVG.out.kept hk)
  replace HOh := hide (HOh.out.kept hk)
  replace HOhe := hide (HOhe.out.kept hk)
  replace HOVH := hide (HOVH.out.kept hk)
  clear hk
  have cA0 := cell_at HOA.out.mem 0 (by simp)
  have cA1 := cell_at HOA.out.mem 1 (by simp)
  simp only [Nat.zero_add, List.getElem_cons_zero, List.getElem_cons_succ] at cA0 cA1
  have lA := lt_of_cell cA0
  have cVW0 := cell_at HOVW.out.mem 0 (by simp)
  have cVW1 := cell_at HOVW.out.mem 1 (by simp)
  have cVW2 := cell_at HOVW.out.mem 2 (by simp)
  have cVW3 := cell_at HOVW.out.mem 3 (by simp)
  simp only [Nat.zero_add, List.getElem_cons_zero, List.getElem_cons_succ] at cVW0 cVW1 cVW2 cVW3
  have lVW := lt_of_cell cVW0
  have cVG0 := cell_at HOVG.out.mem 0 (by simp)
  have cVG1 := cell_at HOVG.out.mem 1 (by simp)
  have cVG2 := cell_at HOVG.out.mem 2 (by simp)
  have cVG3 := cell_at HOVG.out.mem 3 (by simp)
  simp only [Nat.zero_add, List.getElem_cons_zero, List.getElem_cons_succ] at cVG0 cVG1 cVG2 cVG3
  have lVG := lt_of_cell cVG0
  have cVH0 := cell_at HOVH.out.mem 0 (by simp)
  have cVH1 := cell_at HOVH.out.mem 1 (by simp)
  have cVH2 := cell_at HOVH.out.mem 2 (by simp)
  have cVH3 := cell_at HOVH.out.mem 3 (by simp)
  simp only [Nat.zero_add, List.getElem_cons_zero, List.getElem_cons_succ] at cVH0 cVH1 cVH2 cVH3
  have lVH := lt_of_cell cVH0
  go_wp2_with fail
  refine (eqEventS_k oahe oawe oche ocwe EL w24 (HOhe.out.mem (oahe, ecells EL) (by simp)) (HOwe.out.mem (oawe, ecells EL) (by simp)) HLN.out).mono ?_
  rintro x w25 ⟨rfl, hk⟩
  clear cA0 cA1 lA cVW0 cVW1 cVW2 cVW3 lVW cVG0 cVG1 cVG2 cVG3 lVG cVH0 cVH1 cVH2 cVH3 lVH
  replace HK := hide (HK.out.trans hk)
  replace HOA := hide (HOA.out.kept hk)
  replace HOw := hide (HOw.out.kept hk)
  replace HOwe := hide (HOwe.out.kept hk)
  replace HOVW := hide (HOVW.out.kept hk)
  replace HOg := hide (HOg.out.kept hk)
  replace HOge := hide (HOge.out.kept hk)
  replace HOVG := hide (HOVG.out.kept hk)
  replace HOh := hide (HOh.out.kept hk)
  replace HOhe := hide (HOhe.out.kept hk)
  replace HOVH := hide (HOVH.out.kept hk)
  clear hk
  have cA0 := cell_at HOA.out.mem 0 (by simp)
  have cA1 := cell_at HOA.out.mem 1 (by simp)
  simp only [Nat.zero_add, List.getElem_cons_zero, List.getElem_cons_succ] at cA0 cA1
  have lA := lt_of_cell cA0
  have cVW0 := cell_at HOVW.out.mem 0 (by simp)
  have cVW1 := cell_at HOVW.out.mem 1 (by simp)
  have cVW2 := cell_at HOVW.out.mem 2 (by simp)
  have cVW3 := cell_at HOVW.out.mem 3 (by simp)
  simp only [Nat.zero_add, List.getElem_cons_zero, List.getElem_cons_succ] at cVW0 cVW1 cVW2 cVW3
  have lVW := lt_of_cell cVW0
  have cVG0 := cell_at HOVG.out.mem 0 (by simp)
  have cVG1 := cell_at HOVG.out.mem 1 (by simp)
  have cVG2 := cell_at HOVG.out.mem 2 (by simp)
  have cVG3 := cell_at HOVG.out.mem 3 (by simp)
  simp only [Nat.zero_add, List.getElem_cons_zero, List.getElem_cons_succ] at cVG0 cVG1 cVG2 cVG3
  have lVG := lt_of_cell cVG0
  have cVH0 := cell_at HOVH.out.mem 0 (by simp)
  have cVH1 := cell_at HOVH.out.mem 1 (by simp)
  have cVH2 := cell_at HOVH.out.mem 2 (by simp)
  have cVH3 := cell_at HOVH.out.mem 3 (by simp)
  simp only [Nat.zero_add, List.getElem_cons_zero, List.getElem_cons_succ] at cVH0 cVH1 cVH2 cVH3
  have lVH := lt_of_cell cVH0
  go_wp2_with fail
  refine (heldLog' cag ccg csg dag dcg dsg rn re w25 HOg.out.mem HKg.out).mono ?_
  rintro x w26 ⟨rfl, hk⟩
  clear cA0 cA1 lA cVW0 cVW1 cVW2 cVW3 lVW cVG0 cVG1 cVG2 cVG3 lVG cVH0 cVH1 cVH2 cVH3 lVH
  replace HK := hide (HK.out.trans hk)
  replace HOA := hide (HOA.out.kept hk)
  replace HOw := hide (HOw.out.kept hk)
  replace HOwe := hide (HOwe.out.kept hk)
  replace HOVW := hide (HOVW.out.kept hk)
  replace HOg := hide (HOg.out.kept hk)
  replace HOge := hide (HOge.out.kept hk)
  replace HOVG := hide (HOVG.out.kept hk)
  replace HOh := hide (HOh.out.kept hk)
  replace HOhe := hide (HOhe.out.kept hk)
  replace HOVH := hide (HOVH.out.kept hk)
  clear hk
  rw [HKK.out]
  have cA0 := cell_at HOA.out.mem 0 (by simp)
  have cA1 := cell_at HOA.out.mem 1 (by simp)
  simp only [Nat.zero_add, List.getElem_cons_zero, List.getElem_cons_succ] at cA0 cA1
  have lA := lt_of_cell cA0
  have cVW0 := cell_at HOVW.out.mem 0 (by simp)
  have cVW1 := cell_at HOVW.out.mem 1 (by simp)
  have cVW2 := cell_at HOVW.out.mem 2 (by simp)
  have cVW3 := cell_at HOVW.out.mem 3 (by simp)
  simp only [Nat.zero_add, List.getElem_cons_zero, List.getElem_cons_succ] at cVW0 cVW1 cVW2 cVW3
  have lVW := lt_of_cell cVW0
  have cVG0 := cell_at HOVG.out.mem 0 (by simp)
  have cVG1 := cell_at HOVG.out.mem 1 (by simp)
  have cVG2 := cell_at HOVG.out.mem 2 (by simp)
  have cVG3 := cell_at HOVG.out.mem 3 (by simp)
  simp only [Nat.zero_add, List.getElem_cons_zero, List.getElem_cons_succ] at cVG0 cVG1 cVG2 cVG3
  have lVG := lt_of_cell cVG0
  have cVH0 := cell_at HOVH.out.mem 0 (by simp)
  have cVH1 := cell_at HOVH.out.mem 1 (by simp)
  have cVH2 := cell_at HOVH.out.mem 2 (by simp)
  have cVH3 := cell_at HOVH.out.mem 3 (by simp)
  simp only [Nat.zero_add, List.getElem_cons_zero, List.getElem_cons_succ] at cVH0 cVH1 cVH2 cVH3
  have lVH := lt_of_cell cVH0
  go_wp2_with fail
  refine (heldEventS_k oage ocge EL.length kk w26 (HOge.out.mem (oage, ecells (markE kk EL.length)) (by simp)) HLN.out HKL.out).mono ?_
  rintro x w27 ⟨rfl, hw⟩
  clear cA0 cA1 lA cVW0 cVW1 cVW2 cVW3 lVW cVG0 cVG1 cVG2 cVG3 lVG cVH0 cVH1 cVH2 cVH3 lVH
  subst hw
  go_wp2_with fail
  go_ret
  exact ⟨rfl, HK.out⟩

set_option maxRecDepth 100000 in
theorem lifted (os : Os) (started : os.Started) (H : Type) (enc : TypeId × Value → H) :
    ReturnsInHanded {} Tryz.checked os 5 .any (fun w args => (Rows.fnExactLogOpenSpec.pre enc Tryz.prog Tryz.f5 [] false w args ∧ laidMetH Tryz.prog Rows.fnExactLogOpenRow.laid w) ∧ sizedMet enc Tryz.prog Tryz.f5 (OpenSpec.ofChange Rows.fnExactLogOpenSpec) false w args)
      (Rows.fnExactLogOpenSpec.post enc Tryz.prog Tryz.f5 false true false false) := by
  refine returnsInHanded_of_change_and (C := Tryz.checked) (X := fun w _ => laidMetH Tryz.prog Rows.fnExactLogOpenRow.laid w) (fun _ _ _ hh h => h.of_heap hh) own started (by kernel_rfl) Tryz.func5
    (ChangeSpec.witness_shaped (enc := enc) (C := Tryz.checked) (os := os) (X := fun w _ => laidMetH Tryz.prog Rows.fnExactLogOpenRow.laid w) false (World.doorLaid Tryz.prog 172 os) #[.agg #[.slice none 0 0, .slice none 0 0]] 8 rfl (World.shaped_of_RefB (by kernel_rfl) (by kernel_rfl)) (by kernel_rfl) (by kernel_rfl) (by kernel_rfl) (door_met os _)) ?_
  intro W base args ds gs before hval0 hW _ hsz hL _
  have hval : ∀ (j : Nat) t v, Tryz.f5.params[j]? = some t → args[j]? = some v → Value.okWide Tryz.prog W .any base t v := hval0
  have hW' := hW
  obtain ⟨p, q, hA0, hV0, rfl, hfz, hnd⟩ := hW
  have hA : DataW.TrodAll enc Tryz.prog W 0 (fun _ => true) true Tryz.f5.params.toList args.toList ds p := hA0
  have hV : DataW.TrodVars enc Tryz.prog W (fun _ => true) ["loop.example/g00400/impl.errGaveUp"] gs q := hV0
  rw [Tryz.params5] at hA hval
  obtain ⟨v0, vs0, d0, ds0, p0, q0, hargs, rfl, rfl, h0, r0⟩ := trodAll_cons hA
  obtain ⟨rfl, rfl, rfl⟩ := trodAll_nil r0
  obtain rfl : args = #[v0] := by cases args; simp_all
  have k0 := h0
  have lt0 : ∀ x ∈ p0, x.block < W.heap.size := by obtain ⟨m, hm⟩ := k0; exact DataW.trod_lt m _ _ _ hm
  obtain ⟨ca0, cc0, cs0, da0, dc0, ds0, rfl, hm0, ok0⟩ := disk_row (hval 0 50 v0 rfl rfl) h0
  have hL0 : laidMet Tryz.prog Rows.fnExactLogOpenRow.laid W := by rw [← MakeChecks.laidMetH_plain _ _ _ (by kernel_rfl)]; exact hL
  obtain ⟨xGaveUp, hvGaveUp⟩ := sent hL0 gGaveUp tGaveUp
  obtain ⟨rfl, rfl⟩ := hV.unique (vars_read1 enc gGaveUp tGaveUp Tryz.underlying168 hvGaveUp trivial _)
  clear hA0 hV0 hval0
  refine (walk ca0 cc0 cs0 da0 dc0 ds0 W hm0 ok0 _ _ (cell_of_var gGaveUp hvGaveUp)).mono fun e W' ⟨he, hb⟩ => ?_
  subst he
  refine ⟨_, rfl, _, _, _, [], (p0 ++ []), [.cell 0 0], hW', ?_, ?_, ?_, Below.frame hb _, fun h => by cases h⟩
  · exact trodAll_mk1 (shut_bool Tryz.underlying4 _)
  · exact (trodAll_cons_mk (Below.trod laidOut (by kernel_rfl) (of_decide_eq_true (by kernel_rfl)) k0 hb lt0) trodAll_mk0)
  · exact vars_read1 enc gGaveUp tGaveUp Tryz.underlying168 (var_kept hb hvGaveUp) trivial _

theorem over : Rows.FnExactLogOpenSaid :=
  OpenClaim.holds_of_wide 5 Tryz.f5 rfl rfl rfl rfl rfl rfl rfl ⟨rfl, rfl, rfl, rfl, rfl⟩ rfl rfl rfl rfl rfl (by kernel_rfl) Tryz.func5 (by kernel_rfl)
    (of_decide_eq_true (by kernel_rfl)) (by unfold Func.isWrapper; first | (rw [if_pos (by decide +kernel)]; kernel_rfl) | (rw [if_neg (by decide +kernel)]; exact ⟨rfl, rfl⟩))
    (fun os started H enc _ => lifted os started H enc)
end Go.Proofs.YtkdnddckogbgaaaGreatDoor.fnExactLogOpen
namespace Go.Proofs.YtkdnddckogbgaaaGreatDoor
theorem fnExactLogOpen_holds : Rows.FnExactLogOpenCardSaid :=
  Claim7.holds_tied_plain_at .later [] Rows.fnExactLogOpenCard.laidKinds true Rows.fnExactLogOpenCard.stood.harness true
    fnExactLogOpen.over (fun _ h => by cases h) (by kernel_rfl) (fun _ h => by cases h) fnExactLogOpen_row_tie rfl ⟨rfl, rfl⟩ (by kernel_rfl) rfl
    (fun f fn hf hfn => by
      obtain rfl : f = 5 := Option.some.inj ((show Tryz.prog.funcNamed Rows.fnExactLogOpenRow.func = some 5 by kernel_rfl).symm.trans hf) |>.symm
      obtain rfl : fn = Tryz.f5 := (Option.some.inj (Tryz.func5.symm.trans hfn)).symm
      exact ⟨by kernel_rfl, fun j t ht => by
        rw [Tryz.params5] at ht
        have hm : t ∈ [50] := by simpa using Array.mem_of_getElem? ht
        have hall : ([50].all fun u => !Tryz.prog.wantsStandIn u) = true := by kernel_rfl
        exact (show Tryz.prog.wantsStandIn t = false by simpa using List.all_eq_true.1 hall t hm)⟩)
    (by kernel_rfl)
end Go.Proofs.YtkdnddckogbgaaaGreatDoor
