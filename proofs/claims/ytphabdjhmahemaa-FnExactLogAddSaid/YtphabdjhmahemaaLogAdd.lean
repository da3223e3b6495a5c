/- FnExactLogAdd: at every log and event the program's LogAdd answers as the model's, writes into no argument, and its answer owns its memory, behind another call too. -/
import Derived.Test.YtphabdjhmahemaaLgR
import Derived.Test.YtphabdjhmahemaaLgB
import Derived.Test.YtphabdjhmahemaaLgC
import Derived.Test.YtphabdjhmahemaaLgV
import Derived.Test.YtphabdjhmahemaaRows
import Derived.WalkKit
import Derived.ProofKit
import Derived.OpenShut
import Derived.ChangeOld
import Derived.Below
namespace Go.Proofs.Ytphabdjhmahemaa.fnExactLogAdd
open Go.ChangeShapes Go.WideShapes Go.ChangeAt Go.RowKit
set_option linter.unusedVariables false
set_option maxHeartbeats 4000000 in
theorem walk (ca : Option Addr) (cc : Nat) (cs : List Bs) (da : Option Addr) (dc : Nat) (ds : List Wr) (nx ep : Int) (k y c t m f : Int) (b : Bool) (w : World) (hm : Mem w (dsk ca cs da ds)) (hok : Dk.ok ⟨ca, cc, cs, da, dc, ds⟩) (hnx : (Lit.int .i64 nx).wf = true) (hep : (Lit.int .i64 ep).wf = true) (wk : (Lit.int .i64 k).wf = true) (wy : (Lit.int .i64 y).wf = true) (wc : (Lit.int .i64 c).wf = true) (wt : (Lit.int .i64 t).wf = true) (wm : (Lit.int .i64 m).wf = true) (wf : (Lit.int .i64 f).wf = true) :
    Calls Try.prog 4 #[logV ca cs.length cc da ds.length dc nx ep, evV k y c t m f b] w fun e w' => e = .returned (.bool true) ∧ Keeps w w' := by
  have HM := hide hm
  have HS := hide (fun w1 hm => szLog' ca cc cs da dc ds nx ep w1 hm hok)
  clear hm hok
  clear hnx hep wk wy wc wt wm wf
  go_enter Try.func4, Try.ntmps4
  have HK := hide (Keeps.refl w)
  go_wp2_with fail
  have hs1 : (w.alloc (.cells #[.slice ca cs.length cc, .slice da ds.length dc, .int .i64 nx, .int .i64 ep] 42)).heap.size = w.heap.size + 1 := by simp
  have hb := born_alloc w #[.slice ca cs.length cc, .slice da ds.length dc, .int .i64 nx, .int .i64 ep] 42
  dsimp only at hb
  have hk := Keeps.alloc (Keeps.refl w) (.cells #[.slice ca cs.length cc, .slice da ds.length dc, .int .i64 nx, .int .i64 ep] 42)
  generalize w.alloc (.cells #[.slice ca cs.length cc, .slice da ds.length dc, .int .i64 nx, .int .i64 ep] 42) = w1 at *
  have HNA := hide ((hb.old HK.out).new)
  replace HK := hide (HK.out.trans hk)
  have HOA := hide hb.toOwn
  clear hb hk
  have hb := born_alloc w1 #[.int .i64 k, .int .i64 y, .int .i64 c, .int .i64 t, .int .i64 m, .int .i64 f, .bool b] 44
  dsimp only at hb
  rw [hs1] at hb
  have hk := Keeps.alloc (Keeps.refl w1) (.cells #[.int .i64 k, .int .i64 y, .int .i64 c, .int .i64 t, .int .i64 m, .int .i64 f, .bool b] 44)
  generalize w1.alloc (.cells #[.int .i64 k, .int .i64 y, .int .i64 c, .int .i64 t, .int .i64 m, .int .i64 f, .bool b] 44) = w2 at *
  have HDA_E := hide (hb.apart HOA.out.mem)
  have HDE_A := hide (hb.apart' HOA.out.mem)
  have HNE := hide ((hb.old HK.out).new)
  replace HK := hide (HK.out.trans hk)
  replace HOA := hide (HOA.out.kept hk)
  have HOE := hide hb.toOwn
  clear hb hk
  clear hs1
  have cA0 := cell_at HOA.out.mem 0 (by simp)
  have cA1 := cell_at HOA.out.mem 1 (by simp)
  have cA2 := cell_at HOA.out.mem 2 (by simp)
  have cA3 := cell_at HOA.out.mem 3 (by simp)
  simp only [Nat.zero_add, List.getElem_cons_zero, List.getElem_cons_succ] at cA0 cA1 cA2 cA3
  have lA := lt_of_cell cA0
  have cE0 := cell_at HOE.out.mem 0 (by simp)
  have cE1 := cell_at HOE.out.mem 1 (by simp)
  have cE2 := cell_at HOE.out.mem 2 (by simp)
  have cE3 := cell_at HOE.out.mem 3 (by simp)
  have cE4 := cell_at HOE.out.mem 4 (by simp)
  have cE5 := cell_at HOE.out.mem 5 (by simp)
  have cE6 := cell_at HOE.out.mem 6 (by simp)
  simp only [Nat.zero_add, List.getElem_cons_zero, List.getElem_cons_succ] at cE0 cE1 cE2 cE3 cE4 cE5 cE6
  have lE := lt_of_cell cE0
  refine (unhide HS w2 (HM.out.kept HK.out)).mono ?_
  rintro x w3 ⟨r, rfl, hr, hk⟩
  clear cA0 cA1 cA2 cA3 lA cE0 cE1 cE2 cE3 cE4 cE5 cE6 lE
  replace HK := hide (HK.out.trans hk)
  replace HOA := hide (HOA.out.kept hk)
  replace HOE := hide (HOE.out.kept hk)
  clear hk
  have HOK := hide hr
  clear hr HS
  by_cases hr0 : r < 0
  · go_wp2_with fail
    go_ret
    exact ⟨rfl, HK.out⟩
  replace HOK := hide (HOK.out (by omega))
  obtain ⟨rr, hrr⟩ : ∃ rr, addC (dat cs ds) nx ep (evB k y c t m f b) = rr := ⟨_, rfl⟩
  obtain ⟨rn, hrn⟩ : ∃ rn, addN (dat cs ds) nx ep (evB k y c t m f b) = rn := ⟨_, rfl⟩
  obtain ⟨re, hre⟩ : ∃ re, addE (dat cs ds) nx ep (evB k y c t m f b) = re := ⟨_, rfl⟩
  obtain ⟨RM, hRM⟩ : ∃ RM, addM (dat cs ds) nx ep (evB k y c t m f b) (bodyR k y c t m f b) = RM := ⟨_, rfl⟩
  have HSP : Hid (∀ (ca2 : Option Addr) (cc2 : Nat) (cs2 : List Bs) (da2 : Option Addr) (dc2 : Nat) (ds2 : List Wr) (w1 : World), dat cs2 ds2 = dat cs ds → Mem w1 (dsk ca2 cs2 da2 ds2) → DOk cs2 ds2 → Calls Try.prog 17 #[logV ca2 cs2.length cc2 da2 ds2.length dc2 nx ep, evV k y c t m f b] w1 fun e w2 => ∃ v, e = .returned (.tuple #[v, .int .i64 rr]) ∧ LogRes w1 w2 v RM rn re ∧ Keeps w1 w2) := fun ca2 cc2 cs2 da2 dc2 ds2 w1 e hm h => by
    have h1 := logadd_spec ca2 cc2 cs2 da2 dc2 ds2 nx ep k y c t m f b w1 hm h
    unfold AddPost at h1
    rw [e, hrr, hrn, hre, hRM] at h1
    exact h1
  have HIP : Hid (∀ (ca2 : Option Addr) (cc2 : Nat) (cs2 : List Bs) (da2 : Option Addr) (dc2 : Nat) (ds2 : List Wr) (w1 : World), dat cs2 ds2 = dat cs ds → Mem w1 (dsk ca2 cs2 da2 ds2) → DOk cs2 ds2 → Calls Try.prog 20 #[logV ca2 cs2.length cc2 da2 ds2.length dc2 nx ep, evV k y c t m f b] w1 fun e w2 => ∃ v, e = .returned (.tuple #[v, .int .i64 rr]) ∧ LogRes w1 w2 v RM rn re ∧ Keeps w1 w2) := fun ca2 cc2 cs2 da2 dc2 ds2 w1 e hm h => by
    have h1 := logadd_impl ca2 cc2 cs2 da2 dc2 ds2 nx ep k y c t m f b w1 hm h
    unfold AddPost at h1
    rw [e, hrr, hrn, hre, hRM] at h1
    exact h1
  have HTL := hide (fun w1 (hk : Keeps w w1) => toLog' ca cc cs da dc ds nx ep w1 (HM.out.kept hk) HOK.out)
  clear hrr hrn hre hRM
  have cA0 := cell_at HOA.out.mem 0 (by simp)
  have cA1 := cell_at HOA.out.mem 1 (by simp)
  have cA2 := cell_at HOA.out.mem 2 (by simp)
  have cA3 := cell_at HOA.out.mem 3 (by simp)
  simp only [Nat.zero_add, List.getElem_cons_zero, List.getElem_cons_succ] at cA0 cA1 cA2 cA3
  have lA := lt_of_cell cA0
  have cE0 := cell_at HOE.out.mem 0 (by simp)
  have cE1 := cell_at HOE.out.mem 1 (by simp)
  have cE2 := cell_at HOE.out.mem 2 (by simp)
  have cE3 := cell_at HOE.out.mem 3 (by simp)
  have cE4 := cell_at HOE.out.mem 4 (by simp)
  have cE5 := cell_at HOE.out.mem 5 (by simp)
  have cE6 := cell_at HOE.out.mem 6 (by simp)
  simp only [Nat.zero_add, List.getElem_cons_zero, List.getElem_cons_succ] at cE0 cE1 cE2 cE3 cE4 cE5 cE6
  have lE := lt_of_cell cE0
  go_wp2_with fail
  clear cA0 cA1 cA2 cA3 lA cE0 cE1 cE2 cE3 cE4 cE5 cE6 lE
  apply once13 (F := fun (VBVW : Nat) (cas : Option Addr) (ccs : Nat) (css : List Bs) (das : Option Addr) (dcs : Nat) (dss : List Wr) (caw : Option Addr) (ccw : Nat) (csw : List Bs) (daw : Option Addr) (dcw : Nat) (dsw : List Wr) w' => (Keeps w w') ∧ (Own w' [(some ⟨w.heap.size, 0, none⟩, [.slice ca cs.length cc, .slice da ds.length dc, .int .i64 nx, .int .i64 ep])]) ∧ (Own w' [(some ⟨w.heap.size + 1, 0, none⟩, [.int .i64 k, .int .i64 y, .int .i64 c, .int .i64 t, .int .i64 m, .int .i64 f, .bool b])]) ∧ (Own w' (dsk caw csw daw dsw)) ∧ (Own w' [(some ⟨VBVW, 0, none⟩, [.slice caw csw.length ccw, .slice daw dsw.length dcw, .int .i64 rn, .int .i64 re])]) ∧ (∀ bb ∈ fp ([(some ⟨w.heap.size, 0, none⟩, [.slice ca cs.length cc, .slice da ds.length dc, .int .i64 nx, .int .i64 ep])] : List Seg), bb ∉ fp ((dsk caw csw daw dsw) : List Seg)) ∧ (∀ bb ∈ fp ((dsk caw csw daw dsw) : List Seg), bb ∉ fp ([(some ⟨w.heap.size, 0, none⟩, [.slice ca cs.length cc, .slice da ds.length dc, .int .i64 nx, .int .i64 ep])] : List Seg)) ∧ (∀ bb ∈ fp ([(some ⟨w.heap.size, 0, none⟩, [.slice ca cs.length cc, .slice da ds.length dc, .int .i64 nx, .int .i64 ep])] : List Seg), bb ∉ fp ([(some ⟨VBVW, 0, none⟩, [.slice caw csw.length ccw, .slice daw dsw.length dcw, .int .i64 rn, .int .i64 re])] : List Seg)) ∧ (∀ bb ∈ fp ([(some ⟨VBVW, 0, none⟩, [.slice caw csw.length ccw, .slice daw dsw.length dcw, .int .i64 rn, .int .i64 re])] : List Seg), bb ∉ fp ([(some ⟨w.heap.size, 0, none⟩, [.slice ca cs.length cc, .slice da ds.length dc, .int .i64 nx, .int .i64 ep])] : List Seg)) ∧ (∀ bb ∈ fp ([(some ⟨w.heap.size + 1, 0, none⟩, [.int .i64 k, .int .i64 y, .int .i64 c, .int .i64 t, .int .i64 m, .int .i64 f, .bool b])] : List Seg), bb ∉ fp ((dsk caw csw daw dsw) : List Seg)) ∧ (∀ bb ∈ fp ((dsk caw csw daw dsw) : List Seg), bb ∉ fp ([(some ⟨w.heap.size + 1, 0, none⟩, [.int .i64 k, .int .i64 y, .int .i64 c, .int .i64 t, .int .i64 m, .int .i64 f, .bool b])] : List Seg)) ∧ (∀ bb ∈ fp ([(some ⟨w.heap.size + 1, 0, none⟩, [.int .i64 k, .int .i64 y, .int .i64 c, .int .i64 t, .int .i64 m, .int .i64 f, .bool b])] : List Seg), bb ∉ fp ([(some ⟨VBVW, 0, none⟩, [.slice caw csw.length ccw, .slice daw dsw.length dcw, .int .i64 rn, .int .i64 re])] : List Seg)) ∧ (∀ bb ∈ fp ([(some ⟨VBVW, 0, none⟩, [.slice caw csw.length ccw, .slice daw dsw.length dcw, .int .i64 rn, .int .i64 re])] : List Seg), bb ∉ fp ([(some ⟨w.heap.size + 1, 0, none⟩, [.int .i64 k, .int .i64 y, .int .i64 c, .int .i64 t, .int .i64 m, .int .i64 f, .bool b])] : List Seg)) ∧ (∀ bb ∈ fp ((dsk caw csw daw dsw) : List Seg), bb ∉ fp ([(some ⟨VBVW, 0, none⟩, [.slice caw csw.length ccw, .slice daw dsw.length dcw, .int .i64 rn, .int .i64 re])] : List Seg)) ∧ (∀ bb ∈ fp ([(some ⟨VBVW, 0, none⟩, [.slice caw csw.length ccw, .slice daw dsw.length dcw, .int .i64 rn, .int .i64 re])] : List Seg), bb ∉ fp ((dsk caw csw daw dsw) : List Seg)) ∧ (∀ bb ∈ fp ((dsk caw csw daw dsw) : List Seg), w.heap.size ≤ bb) ∧ (∀ bb ∈ fp ([(some ⟨VBVW, 0, none⟩, [.slice caw csw.length ccw, .slice daw dsw.length dcw, .int .i64 rn, .int .i64 re])] : List Seg), w.heap.size ≤ bb) ∧ (dat csw dsw = RM) ∧ (DOk csw dsw) ∧ (caw = none → ccw = 0) ∧ (daw = none → dcw = 0))
  · skip
    have HLA := hide HOA.out.mem.lt
    have HLE := hide HOE.out.mem.lt
    have HKR := hide (Keeps.refl w3)
    have HKW := hide HK.out
    have cA0 := cell_at HOA.out.mem 0 (by simp)
    have cA1 := cell_at HOA.out.mem 1 (by simp)
    have cA2 := cell_at HOA.out.mem 2 (by simp)
    have cA3 := cell_at HOA.out.mem 3 (by simp)
    simp only [Nat.zero_add, List.getElem_cons_zero, List.getElem_cons_succ] at cA0 cA1 cA2 cA3
    have lA := lt_of_cell cA0
    have cE0 := cell_at HOE.out.mem 0 (by simp)
    have cE1 := cell_at HOE.out.mem 1 (by simp)
    have cE2 := cell_at HOE.out.mem 2 (by simp)
    have cE3 := cell_at HOE.out.mem 3 (by simp)
    have cE4 := cell_at HOE.out.mem 4 (by simp)
    have cE5 := cell_at HOE.out.mem 5 (by simp)
    have cE6 := cell_at HOE.out.mem 6 (by simp)
    simp only [Nat.zero_add, List.getElem_cons_zero, List.getElem_cons_succ] at cE0 cE1 cE2 cE3 cE4 cE5 cE6
    have lE := lt_of_cell cE0
    have qA := lA
    have qE := lE
    go_region_held3 (fun w' => w'.cell? ⟨w.heap.size, 0, none⟩ = some (.slice ca cs.length cc) ∧ w'.cell? ⟨w.heap.size, 1, none⟩ = some (.slice da ds.length dc) ∧ w'.cell? ⟨w.heap.size, 2, none⟩ = some (.int .i64 nx) ∧ w'.cell? ⟨w.heap.size, 3, none⟩ = some (.int .i64 ep) ∧ w'.cell? ⟨w.heap.size + 1, 0, none⟩ = some (.int .i64 k) ∧ w'.cell? ⟨w.heap.size + 1, 1, none⟩ = some (.int .i64 y) ∧ w'.cell? ⟨w.heap.size + 1, 2, none⟩ = some (.int .i64 c) ∧ w'.cell? ⟨w.heap.size + 1, 3, none⟩ = some (.int .i64 t) ∧ w'.cell? ⟨w.heap.size + 1, 4, none⟩ = some (.int .i64 m) ∧ w'.cell? ⟨w.heap.size + 1, 5, none⟩ = some (.int .i64 f) ∧ w'.cell? ⟨w.heap.size + 1, 6, none⟩ = some (.bool b)) (first | go_keep | (refine ⟨?_, ?_, ?_, ?_, ?_, ?_, ?_, ?_, ?_, ?_, ?_⟩ <;> (rw [World.cell?_setCell_other _ _ _ _ (by simp <;> omega), World.cell?_setCell_other _ _ _ _ (by simp <;> omega), World.cell?_setCell_other _ _ _ _ (by simp <;> omega), World.cell?_setCell_other _ _ _ _ (by simp <;> omega)]; assumption)))
      (first
         | (go_at_call 18
            first
              | (refine (unhide HTL _ (HK.out.trans ((Keeps.refl w3).drew))).mono ?_
                 rintro x w4 ⟨v, rfl, hr, hk⟩
                 obtain ⟨cas, ccs, css, das, dcs, dss, rfl, hes, hoks, hnas, hnds, hb⟩ := hr
                 have HEs := hide hes
                 have HKs := hide hoks
                 have HAs := hide hnas
                 have HBs := hide hnds
                 clear hes hoks hnas hnds
                 replace hb := hb.old ((Keeps.refl w3).drew)
                 replace hk := ((Keeps.refl w3).drew).trans hk)
              | (refine (unhide HTL _ (HK.out.trans ((Keeps.alloc (Keeps.refl w3) (.cells #[.slice none 0 0, .slice none 0 0, .int .i64 0, .int .i64 0] 47)).drew))).mono ?_
                 rintro x w4 ⟨v, rfl, hr, hk⟩
                 obtain ⟨cas, ccs, css, das, dcs, dss, rfl, hes, hoks, hnas, hnds, hb⟩ := hr
                 have HEs := hide hes
                 have HKs := hide hoks
                 have HAs := hide hnas
                 have HBs := hide hnds
                 clear hes hoks hnas hnds
                 have hr0 := row_zero4 w3 (.slice none 0 0) (.slice none 0 0) (.int .i64 0) (.int .i64 0) 47
                 have HVB := hide (fun b hb1 => Nat.lt_of_lt_of_le hr0.lt (hb.new b hb1))
                 have HRV := hide (Keeps.rowV hk hr0)
                 clear hr0
                 have HVN := hide HKR.out.size
                 have qVN := HKR.out.size
                 replace hb := hb.old ((Keeps.alloc (Keeps.refl w3) (.cells #[.slice none 0 0, .slice none 0 0, .int .i64 0, .int .i64 0] 47)).drew)
                 replace hk := ((Keeps.alloc (Keeps.refl w3) (.cells #[.slice none 0 0, .slice none 0 0, .int .i64 0, .int .i64 0] 47)).drew).trans hk)
            replace HKR := hide (HKR.out.trans hk)
            clear cA0 cA1 cA2 cA3 lA cE0 cE1 cE2 cE3 cE4 cE5 cE6 lE
            have HDA_s := hide (hb.apart HOA.out.mem)
            have HDs_A := hide (hb.apart' HOA.out.mem)
            have HDE_s := hide (hb.apart HOE.out.mem)
            have HDs_E := hide (hb.apart' HOE.out.mem)
            have HNs := hide ((hb.old HK.out).new)
            replace HK := hide (HK.out.trans hk)
            replace HOA := hide (HOA.out.kept hk)
            replace HOE := hide (HOE.out.kept hk)
            have HOs := hide hb.toOwn
            clear hb hk
            have cA0 := cell_at HOA.out.mem 0 (by simp)
            have cA1 := cell_at HOA.out.mem 1 (by simp)
            have cA2 := cell_at HOA.out.mem 2 (by simp)
            have cA3 := cell_at HOA.out.mem 3 (by simp)
            simp only [Nat.zero_add, List.getElem_cons_zero, List.getElem_cons_succ] at cA0 cA1 cA2 cA3
            have lA := lt_of_cell cA0
            have cE0 := cell_at HOE.out.mem 0 (by simp)
            have cE1 := cell_at HOE.out.mem 1 (by simp)
            have cE2 := cell_at HOE.out.mem 2 (by simp)
            have cE3 := cell_at HOE.out.mem 3 (by simp)
            have cE4 := cell_at HOE.out.mem 4 (by simp)
            have cE5 := cell_at HOE.out.mem 5 (by simp)
            have cE6 := cell_at HOE.out.mem 6 (by simp)
            simp only [Nat.zero_add, List.getElem_cons_zero, List.getElem_cons_succ] at cE0 cE1 cE2 cE3 cE4 cE5 cE6
            have lE := lt_of_cell cE0)
         | (go_at_call 19
            first
              | (refine (toEvent_k k y c t m f b _).mono ?_
                 rintro x w5 ⟨rfl, hk⟩
                 have hr0 := HRV.out
                 replace HRV := hide (Keeps.rowV hk hr0)
                 clear hr0
                 replace hk := ((Keeps.refl w4)).trans hk)
              | (refine (toEvent_k k y c t m f b _).mono ?_
                 rintro x w5 ⟨rfl, hk⟩
                 replace hk := ((Keeps.refl w4)).trans hk)
              | (refine (toEvent_k k y c t m f b _).mono ?_
                 rintro x w5 ⟨rfl, hk⟩
                 have hr0 := row_zero4 w4 (.slice none 0 0) (.slice none 0 0) (.int .i64 0) (.int .i64 0) 47
                 have HRV := hide (Keeps.rowV hk hr0)
                 clear hr0
                 have HVN := hide HKR.out.size
                 have qVN := HKR.out.size
                 replace hk := ((Keeps.alloc (Keeps.refl w4) (.cells #[.slice none 0 0, .slice none 0 0, .int .i64 0, .int .i64 0] 47))).trans hk)
            replace HKR := hide (HKR.out.trans hk)
            clear cA0 cA1 cA2 cA3 lA cE0 cE1 cE2 cE3 cE4 cE5 cE6 lE
            replace HK := hide (HK.out.trans hk)
            replace HOA := hide (HOA.out.kept hk)
            replace HOE := hide (HOE.out.kept hk)
            replace HOs := hide (HOs.out.kept hk)
            clear hk
            have cA0 := cell_at HOA.out.mem 0 (by simp)
            have cA1 := cell_at HOA.out.mem 1 (by simp)
            have cA2 := cell_at HOA.out.mem 2 (by simp)
            have cA3 := cell_at HOA.out.mem 3 (by simp)
            simp only [Nat.zero_add, List.getElem_cons_zero, List.getElem_cons_succ] at cA0 cA1 cA2 cA3
            have lA := lt_of_cell cA0
            have cE0 := cell_at HOE.out.mem 0 (by simp)
            have cE1 := cell_at HOE.out.mem 1 (by simp)
            have cE2 := cell_at HOE.out.mem 2 (by simp)
            have cE3 := cell_at HOE.out.mem 3 (by simp)
            have cE4 := cell_at HOE.out.mem 4 (by simp)
            have cE5 := cell_at HOE.out.mem 5 (by simp)
            have cE6 := cell_at HOE.out.mem 6 (by simp)
            simp only [Nat.zero_add, List.getElem_cons_zero, List.getElem_cons_succ] at cE0 cE1 cE2 cE3 cE4 cE5 cE6
            have lE := lt_of_cell cE0)
         | (go_at_call 17
            first
              | (refine (unhide HSP cas ccs css das dcs dss _ HEs.out (HOs.out.mem.kept ((Keeps.refl w5))) HKs.out).mono ?_
                 rintro x w6 ⟨v, rfl, hr, hk⟩
                 obtain ⟨caw, ccw, csw, daw, dcw, dsw, rfl, hew, hokw, hnaw, hndw, hb⟩ := hr
                 have HEw := hide hew
                 have HKw := hide hokw
                 have HAw := hide hnaw
                 have HBw := hide hndw
                 clear hew hokw hnaw hndw
                 have hr0 := HRV.out
                 have HVB := hide (fun b hb1 => Nat.lt_of_lt_of_le hr0.lt (hb.new b hb1))
                 replace HRV := hide (Keeps.rowV hk hr0)
                 clear hr0
                 have zV0 := HRV.out.cell (i := 0) (by decide)
                 have zV1 := HRV.out.cell (i := 1) (by decide)
                 have zV2 := HRV.out.cell (i := 2) (by decide)
                 have zV3 := HRV.out.cell (i := 3) (by decide)
                 have fV0 := HRV.out.frozen 0
                 have fV1 := HRV.out.frozen 1
                 have fV2 := HRV.out.frozen 2
                 have fV3 := HRV.out.frozen 3
                 have lV := HRV.out.lt
                 simp at zV0 zV1 zV2 zV3
                 replace hb := hb.old ((Keeps.refl w5))
                 replace hk := ((Keeps.refl w5)).trans hk)
              | (refine (unhide HSP cas ccs css das dcs dss _ HEs.out (HOs.out.mem.kept ((Keeps.refl w5))) HKs.out).mono ?_
                 rintro x w6 ⟨v, rfl, hr, hk⟩
                 obtain ⟨caw, ccw, csw, daw, dcw, dsw, rfl, hew, hokw, hnaw, hndw, hb⟩ := hr
                 have HEw := hide hew
                 have HKw := hide hokw
                 have HAw := hide hnaw
                 have HBw := hide hndw
                 clear hew hokw hnaw hndw
                 replace hb := hb.old ((Keeps.refl w5))
                 replace hk := ((Keeps.refl w5)).trans hk)
              | (refine (unhide HSP cas ccs css das dcs dss _ HEs.out (HOs.out.mem.kept ((Keeps.alloc (Keeps.refl w5) (.cells #[.slice none 0 0, .slice none 0 0, .int .i64 0, .int .i64 0] 47)))) HKs.out).mono ?_
                 rintro x w6 ⟨v, rfl, hr, hk⟩
                 obtain ⟨caw, ccw, csw, daw, dcw, dsw, rfl, hew, hokw, hnaw, hndw, hb⟩ := hr
                 have HEw := hide hew
                 have HKw := hide hokw
                 have HAw := hide hnaw
                 have HBw := hide hndw
                 clear hew hokw hnaw hndw
                 have hr0 := row_zero4 w5 (.slice none 0 0) (.slice none 0 0) (.int .i64 0) (.int .i64 0) 47
                 have HVB := hide (fun b hb1 => Nat.lt_of_lt_of_le hr0.lt (hb.new b hb1))
                 have HRV := hide (Keeps.rowV hk hr0)
                 clear hr0
                 have HVN := hide HKR.out.size
                 have qVN := HKR.out.size
                 have zV0 := HRV.out.cell (i := 0) (by decide)
                 have zV1 := HRV.out.cell (i := 1) (by decide)
                 have zV2 := HRV.out.cell (i := 2) (by decide)
                 have zV3 := HRV.out.cell (i := 3) (by decide)
                 have fV0 := HRV.out.frozen 0
                 have fV1 := HRV.out.frozen 1
                 have fV2 := HRV.out.frozen 2
                 have fV3 := HRV.out.frozen 3
                 have lV := HRV.out.lt
                 simp at zV0 zV1 zV2 zV3
                 replace hb := hb.old ((Keeps.alloc (Keeps.refl w5) (.cells #[.slice none 0 0, .slice none 0 0, .int .i64 0, .int .i64 0] 47)))
                 replace hk := ((Keeps.alloc (Keeps.refl w5) (.cells #[.slice none 0 0, .slice none 0 0, .int .i64 0, .int .i64 0] 47))).trans hk)
            replace HKR := hide (HKR.out.trans hk)
            clear cA0 cA1 cA2 cA3 lA cE0 cE1 cE2 cE3 cE4 cE5 cE6 lE
            have HDA_w := hide (hb.apart HOA.out.mem)
            have HDw_A := hide (hb.apart' HOA.out.mem)
            have HDE_w := hide (hb.apart HOE.out.mem)
            have HDw_E := hide (hb.apart' HOE.out.mem)
            have HDs_w := hide (hb.apart HOs.out.mem)
            have HDw_s := hide (hb.apart' HOs.out.mem)
            have HNw := hide ((hb.old HK.out).new)
            replace HK := hide (HK.out.trans hk)
            replace HOA := hide (HOA.out.kept hk)
            replace HOE := hide (HOE.out.kept hk)
            replace HOs := hide (HOs.out.kept hk)
            have HOw := hide hb.toOwn
            clear hb hk
            have cA0 := cell_at HOA.out.mem 0 (by simp)
            have cA1 := cell_at HOA.out.mem 1 (by simp)
            have cA2 := cell_at HOA.out.mem 2 (by simp)
            have cA3 := cell_at HOA.out.mem 3 (by simp)
            simp only [Nat.zero_add, List.getElem_cons_zero, List.getElem_cons_succ] at cA0 cA1 cA2 cA3
            have lA := lt_of_cell cA0
            have cE0 := cell_at HOE.out.mem 0 (by simp)
            have cE1 := cell_at HOE.out.mem 1 (by simp)
            have cE2 := cell_at HOE.out.mem 2 (by simp)
            have cE3 := cell_at HOE.out.mem 3 (by simp)
            have cE4 := cell_at HOE.out.mem 4 (by simp)
            have cE5 := cell_at HOE.out.mem 5 (by simp)
            have cE6 := cell_at HOE.out.mem 6 (by simp)
            simp only [Nat.zero_add, List.getElem_cons_zero, List.getElem_cons_succ] at cE0 cE1 cE2 cE3 cE4 cE5 cE6
            have lE := lt_of_cell cE0))
    all_goals clear HOs HNs HDA_s HDs_A HDE_s HDs_E HDw_s HDs_w
    all_goals clear cA0 cA1 cA2 cA3 lA cE0 cE1 cE2 cE3 cE4 cE5 cE6 lE
    all_goals
      first
        | (have hrv : w6.rowIs w3.heap.size _ _ _ := HRV.out
           have hVN := HVN.out
           have hVB := HVB.out
           clear HRV HVN HVB zV0 zV1 zV2 zV3 fV0 fV1 fV2 fV3 lV qVN
           obtain ⟨hOV, hT⟩ := var_turn4 hrv (.slice caw csw.length ccw) (.slice daw dsw.length dcw) (.int .i64 rn) (.int .i64 re)
           generalize ((((w6.setCell ⟨w3.heap.size, 0, none⟩ (.slice caw csw.length ccw)).setCell ⟨w3.heap.size, 1, none⟩ (.slice daw dsw.length dcw)).setCell ⟨w3.heap.size, 2, none⟩ (.int .i64 rn)).setCell ⟨w3.heap.size, 3, none⟩ (.int .i64 re)) = w7 at *
           have hz0 : w3.heap.size = w3.heap.size := rfl
           generalize hz1 : w3.heap.size = VBVW at hrv hOV hT hVN hVB hz0 ⊢
           obtain ⟨hd1, hd2⟩ := apart_var (S := [(some ⟨w.heap.size, 0, none⟩, [.slice ca cs.length cc, .slice da ds.length dc, .int .i64 nx, .int .i64 ep])]) (VB := VBVW) (cs := [.slice caw csw.length ccw, .slice daw dsw.length dcw, .int .i64 rn, .int .i64 re]) (by simp) (fun b hb1 e => by have := HLA.out b hb1; omega)
           have HDA_VW := hide hd1
           have HDVW_A := hide hd2
           replace HOA := hide (HOA.out.turn hT (fun b hb1 hx => hd1 b hb1 (by rw [fp_one, fpS_some (by simp)]; exact hx)))
           clear hd1 hd2
           obtain ⟨hd1, hd2⟩ := apart_var (S := [(some ⟨w.heap.size + 1, 0, none⟩, [.int .i64 k, .int .i64 y, .int .i64 c, .int .i64 t, .int .i64 m, .int .i64 f, .bool b])]) (VB := VBVW) (cs := [.slice caw csw.length ccw, .slice daw dsw.length dcw, .int .i64 rn, .int .i64 re]) (by simp) (fun b hb1 e => by have := HLE.out b hb1; omega)
           have HDE_VW := hide hd1
           have HDVW_E := hide hd2
           replace HOE := hide (HOE.out.turn hT (fun b hb1 hx => hd1 b hb1 (by rw [fp_one, fpS_some (by simp)]; exact hx)))
           clear hd1 hd2
           obtain ⟨hd1, hd2⟩ := apart_var (S := (dsk caw csw daw dsw)) (VB := VBVW) (cs := [.slice caw csw.length ccw, .slice daw dsw.length dcw, .int .i64 rn, .int .i64 re]) (by simp) (fun b hb1 e => by have := hVB b hb1; omega)
           have HDw_VW := hide hd1
           have HDVW_w := hide hd2
           replace HOw := hide (HOw.out.turn hT (fun b hb1 hx => hd1 b hb1 (by rw [fp_one, fpS_some (by simp)]; exact hx)))
           clear hd1 hd2
           have HNVW : Hid (∀ b ∈ fp [((some ⟨VBVW, 0, none⟩ : Option Addr), [.slice caw csw.length ccw, .slice daw dsw.length dcw, .int .i64 rn, .int .i64 re])], w.heap.size ≤ b) := fun b hb1 => by have h1 : b = VBVW := (by simpa [fp, fpS] using hb1); have := HKW.out.size; omega
           replace HK := hide (hT.keeps HK.out (fun b hb1 => HNVW.out b (by rw [fp_one, fpS_some (by simp)]; exact hb1)))
           have HOVW := hide hOV
           clear hOV hT hrv hVN hVB)
        | (have hrv : w6.rowIs w4.heap.size _ _ _ := HRV.out
           have hVN := HVN.out
           have hVB := HVB.out
           clear HRV HVN HVB zV0 zV1 zV2 zV3 fV0 fV1 fV2 fV3 lV qVN
           obtain ⟨hOV, hT⟩ := var_turn4 hrv (.slice caw csw.length ccw) (.slice daw dsw.length dcw) (.int .i64 rn) (.int .i64 re)
           generalize ((((w6.setCell ⟨w4.heap.size, 0, none⟩ (.slice caw csw.length ccw)).setCell ⟨w4.heap.size, 1, none⟩ (.slice daw dsw.length dcw)).setCell ⟨w4.heap.size, 2, none⟩ (.int .i64 rn)).setCell ⟨w4.heap.size, 3, none⟩ (.int .i64 re)) = w7 at *
           generalize w4.heap.size = VBVW at *
           obtain ⟨hd1, hd2⟩ := apart_var (S := [(some ⟨w.heap.size, 0, none⟩, [.slice ca cs.length cc, .slice da ds.length dc, .int .i64 nx, .int .i64 ep])]) (VB := VBVW) (cs := [.slice caw csw.length ccw, .slice daw dsw.length dcw, .int .i64 rn, .int .i64 re]) (by simp) (fun b hb1 e => by have := HLA.out b hb1; omega)
           have HDA_VW := hide hd1
           have HDVW_A := hide hd2
           replace HOA := hide (HOA.out.turn hT (fun b hb1 hx => hd1 b hb1 (by rw [fp_one, fpS_some (by simp)]; exact hx)))
           clear hd1 hd2
           obtain ⟨hd1, hd2⟩ := apart_var (S := [(some ⟨w.heap.size + 1, 0, none⟩, [.int .i64 k, .int .i64 y, .int .i64 c, .int .i64 t, .int .i64 m, .int .i64 f, .bool b])]) (VB := VBVW) (cs := [.slice caw csw.length ccw, .slice daw dsw.length dcw, .int .i64 rn, .int .i64 re]) (by simp) (fun b hb1 e => by have := HLE.out b hb1; omega)
           have HDE_VW := hide hd1
           have HDVW_E := hide hd2
           replace HOE := hide (HOE.out.turn hT (fun b hb1 hx => hd1 b hb1 (by rw [fp_one, fpS_some (by simp)]; exact hx)))
           clear hd1 hd2
           obtain ⟨hd1, hd2⟩ := apart_var (S := (dsk caw csw daw dsw)) (VB := VBVW) (cs := [.slice caw csw.length ccw, .slice daw dsw.length dcw, .int .i64 rn, .int .i64 re]) (by simp) (fun b hb1 e => by have := hVB b hb1; omega)
           have HDw_VW := hide hd1
           have HDVW_w := hide hd2
           replace HOw := hide (HOw.out.turn hT (fun b hb1 hx => hd1 b hb1 (by rw [fp_one, fpS_some (by simp)]; exact hx)))
           clear hd1 hd2
           have HNVW : Hid (∀ b ∈ fp [((some ⟨VBVW, 0, none⟩ : Option Addr), [.slice caw csw.length ccw, .slice daw dsw.length dcw, .int .i64 rn, .int .i64 re])], w.heap.size ≤ b) := fun b hb1 => by have h1 : b = VBVW := (by simpa [fp, fpS] using hb1); have := HKW.out.size; omega
           replace HK := hide (hT.keeps HK.out (fun b hb1 => HNVW.out b (by rw [fp_one, fpS_some (by simp)]; exact hb1)))
           have HOVW := hide hOV
           clear hOV hT hrv hVN hVB)
        | (have hrv : w6.rowIs w5.heap.size _ _ _ := HRV.out
           have hVN := HVN.out
           have hVB := HVB.out
           clear HRV HVN HVB zV0 zV1 zV2 zV3 fV0 fV1 fV2 fV3 lV qVN
           obtain ⟨hOV, hT⟩ := var_turn4 hrv (.slice caw csw.length ccw) (.slice daw dsw.length dcw) (.int .i64 rn) (.int .i64 re)
           generalize ((((w6.setCell ⟨w5.heap.size, 0, none⟩ (.slice caw csw.length ccw)).setCell ⟨w5.heap.size, 1, none⟩ (.slice daw dsw.length dcw)).setCell ⟨w5.heap.size, 2, none⟩ (.int .i64 rn)).setCell ⟨w5.heap.size, 3, none⟩ (.int .i64 re)) = w7 at *
           generalize w5.heap.size = VBVW at *
           obtain ⟨hd1, hd2⟩ := apart_var (S := [(some ⟨w.heap.size, 0, none⟩, [.slice ca cs.length cc, .slice da ds.length dc, .int .i64 nx, .int .i64 ep])]) (VB := VBVW) (cs := [.slice caw csw.length ccw, .slice daw dsw.length dcw, .int .i64 rn, .int .i64 re]) (by simp) (fun b hb1 e => by have := HLA.out b hb1; omega)
           have HDA_VW := hide hd1
           have HDVW_A := hide hd2
           replace HOA := hide (HOA.out.turn hT (fun b hb1 hx => hd1 b hb1 (by rw [fp_one, fpS_some (by simp)]; exact hx)))
           clear hd1 hd2
           obtain ⟨hd1, hd2⟩ := apart_var (S := [(some ⟨w.heap.size + 1, 0, none⟩, [.int .i64 k, .int .i64 y, .int .i64 c, .int .i64 t, .int .i64 m, .int .i64 f, .bool b])]) (VB := VBVW) (cs := [.slice caw csw.length ccw, .slice daw dsw.length dcw, .int .i64 rn, .int .i64 re]) (by simp) (fun b hb1 e => by have := HLE.out b hb1; omega)
           have HDE_VW := hide hd1
           have HDVW_E := hide hd2
           replace HOE := hide (HOE.out.turn hT (fun b hb1 hx => hd1 b hb1 (by rw [fp_one, fpS_some (by simp)]; exact hx)))
           clear hd1 hd2
           obtain ⟨hd1, hd2⟩ := apart_var (S := (dsk caw csw daw dsw)) (VB := VBVW) (cs := [.slice caw csw.length ccw, .slice daw dsw.length dcw, .int .i64 rn, .int .i64 re]) (by simp) (fun b hb1 e => by have := hVB b hb1; omega)
           have HDw_VW := hide hd1
           have HDVW_w := hide hd2
           replace HOw := hide (HOw.out.turn hT (fun b hb1 hx => hd1 b hb1 (by rw [fp_one, fpS_some (by simp)]; exact hx)))
           clear hd1 hd2
           have HNVW : Hid (∀ b ∈ fp [((some ⟨VBVW, 0, none⟩ : Option Addr), [.slice caw csw.length ccw, .slice daw dsw.length dcw, .int .i64 rn, .int .i64 re])], w.heap.size ≤ b) := fun b hb1 => by have h1 : b = VBVW := (by simpa [fp, fpS] using hb1); have := HKW.out.size; omega
           replace HK := hide (hT.keeps HK.out (fun b hb1 => HNVW.out b (by rw [fp_one, fpS_some (by simp)]; exact hb1)))
           have HOVW := hide hOV
           clear hOV hT hrv hVN hVB)
        | (have hb := born_alloc w6 #[.slice caw csw.length ccw, .slice daw dsw.length dcw, .int .i64 rn, .int .i64 re] 47
           dsimp only at hb
           have hk := Keeps.alloc (Keeps.refl w6) (.cells #[.slice caw csw.length ccw, .slice daw dsw.length dcw, .int .i64 rn, .int .i64 re] 47)
           generalize w6.alloc (.cells #[.slice caw csw.length ccw, .slice daw dsw.length dcw, .int .i64 rn, .int .i64 re] 47) = w7 at *
           have HDA_VW := hide (hb.apart HOA.out.mem)
           have HDVW_A := hide (hb.apart' HOA.out.mem)
           have HDE_VW := hide (hb.apart HOE.out.mem)
           have HDVW_E := hide (hb.apart' HOE.out.mem)
           have HDw_VW := hide (hb.apart HOw.out.mem)
           have HDVW_w := hide (hb.apart' HOw.out.mem)
           have HNVW := hide ((hb.old HK.out).new)
           replace HK := hide (HK.out.trans hk)
           replace HOA := hide (HOA.out.kept hk)
           replace HOE := hide (HOE.out.kept hk)
           replace HOw := hide (HOw.out.kept hk)
           have HOVW := hide hb.toOwn
           clear hb hk
           generalize w6.heap.size = VBVW at *)
      clear HKR HKW qA qE HLA HLE
      exact ⟨rfl, VBVW, cas, ccs, css, das, dcs, dss, caw, ccw, csw, daw, dcw, dsw, rfl, HK.out, HOA.out, HOE.out, HOw.out, HOVW.out, HDA_w.out, HDw_A.out, HDA_VW.out, HDVW_A.out, HDE_w.out, HDw_E.out, HDE_VW.out, HDVW_E.out, HDw_VW.out, HDVW_w.out, HNw.out, HNVW.out, HEw.out, HKw.out, HAw.out, HBw.out⟩
  · rintro VBVW cas ccs css das dcs dss caw ccw csw daw dcw dsw w8 ⟨f0, f1, f2, f3, f4, f5, f6, f7, f8, f9, f10, f11, f12, f13, f14, f15, f16, f17, f18, f19, f20⟩
    replace HK := hide f0
    replace HOA := hide f1
    replace HOE := hide f2
    have HOw := hide f3
    have HOVW := hide f4
    have HDA_w := hide f5
    have HDw_A := hide f6
    have HDA_VW := hide f7
    have HDVW_A := hide f8
    have HDE_w := hide f9
    have HDw_E := hide f10
    have HDE_VW := hide f11
    have HDVW_E := hide f12
    have HDw_VW := hide f13
    have HDVW_w := hide f14
    have HNw := hide f15
    have HNVW := hide f16
    have HEw := hide f17
    have HKw := hide f18
    have HAw := hide f19
    have HBw := hide f20
    clear f0 f1 f2 f3 f4 f5 f6 f7 f8 f9 f10 f11 f12 f13 f14 f15 f16 f17 f18 f19 f20
    have cA0 := cell_at HOA.out.mem 0 (by simp)
    have cA1 := cell_at HOA.out.mem 1 (by simp)
    have cA2 := cell_at HOA.out.mem 2 (by simp)
    have cA3 := cell_at HOA.out.mem 3 (by simp)
    simp only [Nat.zero_add, List.getElem_cons_zero, List.getElem_cons_succ] at cA0 cA1 cA2 cA3
    have lA := lt_of_cell cA0
    have cE0 := cell_at HOE.out.mem 0 (by simp)
    have cE1 := cell_at HOE.out.mem 1 (by simp)
    have cE2 := cell_at HOE.out.mem 2 (by simp)
    have cE3 := cell_at HOE.out.mem 3 (by simp)
    have cE4 := cell_at HOE.out.mem 4 (by simp)
    have cE5 := cell_at HOE.out.mem 5 (by simp)
    have cE6 := cell_at HOE.out.mem 6 (by simp)
    simp only [Nat.zero_add, List.getElem_cons_zero, List.getElem_cons_succ] at cE0 cE1 cE2 cE3 cE4 cE5 cE6
    have lE := lt_of_cell cE0
    have cVW0 := cell_at HOVW.out.mem 0 (by simp)
    have cVW1 := cell_at HOVW.out.mem 1 (by simp)
    have cVW2 := cell_at HOVW.out.mem 2 (by simp)
    have cVW3 := cell_at HOVW.out.mem 3 (by simp)
    simp only [Nat.zero_add, List.getElem_cons_zero, List.getElem_cons_succ] at cVW0 cVW1 cVW2 cVW3
    have lVW := lt_of_cell cVW0
    go_wp2_with fail
    refine (toLog' ca cc cs da dc ds nx ep w8 (HM.out.kept HK.out) HOK.out).mono ?_
    rintro x w9 ⟨v, rfl, hr, hk⟩
    obtain ⟨cax, ccx, csx, dax, dcx, dsx, rfl, hex, hokx, hnax, hndx, hb⟩ := hr
    have HEx := hide hex
    have HKx := hide hokx
    have HAx := hide hnax
    have HBx := hide hndx
    clear hex hokx hnax hndx
    clear cA0 cA1 cA2 cA3 lA cE0 cE1 cE2 cE3 cE4 cE5 cE6 lE cVW0 cVW1 cVW2 cVW3 lVW
    have HDA_x := hide (hb.apart HOA.out.mem)
    have HDx_A := hide (hb.apart' HOA.out.mem)
    have HDE_x := hide (hb.apart HOE.out.mem)
    have HDx_E := hide (hb.apart' HOE.out.mem)
    have HDw_x := hide (hb.apart HOw.out.mem)
    have HDx_w := hide (hb.apart' HOw.out.mem)
    have HDVW_x := hide (hb.apart HOVW.out.mem)
    have HDx_VW := hide (hb.apart' HOVW.out.mem)
    have HNx := hide ((hb.old HK.out).new)
    replace HK := hide (HK.out.trans hk)
    replace HOA := hide (HOA.out.kept hk)
    replace HOE := hide (HOE.out.kept hk)
    replace HOw := hide (HOw.out.kept hk)
    replace HOVW := hide (HOVW.out.kept hk)
    have HOx := hide hb.toOwn
    clear hb hk
    have cA0 := cell_at HOA.out.mem 0 (by simp)
    have cA1 := cell_at HOA.out.mem 1 (by simp)
    have cA2 := cell_at HOA.out.mem 2 (by simp)
    have cA3 := cell_at HOA.out.mem 3 (by simp)
    simp only [Nat.zero_add, List.getElem_cons_zero, List.getElem_cons_succ] at cA0 cA1 cA2 cA3
    have lA := lt_of_cell cA0
    have cE0 := cell_at HOE.out.mem 0 (by simp)
    have cE1 := cell_at HOE.out.mem 1 (by simp)
    have cE2 := cell_at HOE.out.mem 2 (by simp)
    have cE3 := cell_at HOE.out.mem 3 (by simp)
    have cE4 := cell_at HOE.out.mem 4 (by simp)
    have cE5 := cell_at HOE.out.mem 5 (by simp)
    have cE6 := cell_at HOE.out.mem 6 (by simp)
    simp only [Nat.zero_add, List.getElem_cons_zero, List.getElem_cons_succ] at cE0 cE1 cE2 cE3 cE4 cE5 cE6
    have lE := lt_of_cell cE0
    have cVW0 := cell_at HOVW.out.mem 0 (by simp)
    have cVW1 := cell_at HOVW.out.mem 1 (by simp)
    have cVW2 := cell_at HOVW.out.mem 2 (by simp)
    have cVW3 := cell_at HOVW.out.mem 3 (by simp)
    simp only [Nat.zero_add, List.getElem_cons_zero, List.getElem_cons_succ] at cVW0 cVW1 cVW2 cVW3
    have lVW := lt_of_cell cVW0
    go_wp2_with fail
    have hb := born_alloc w9 #[.slice cax csx.length ccx, .slice dax dsx.length dcx, .int .i64 nx, .int .i64 ep] 47
    dsimp only at hb
    have hk := Keeps.alloc (Keeps.refl w9) (.cells #[.slice cax csx.length ccx, .slice dax dsx.length dcx, .int .i64 nx, .int .i64 ep] 47)
    generalize w9.alloc (.cells #[.slice cax csx.length ccx, .slice dax dsx.length dcx, .int .i64 nx, .int .i64 ep] 47) = w10 at *
    clear cA0 cA1 cA2 cA3 lA cE0 cE1 cE2 cE3 cE4 cE5 cE6 lE cVW0 cVW1 cVW2 cVW3 lVW
    have HDA_X := hide (hb.apart HOA.out.mem)
    have HDX_A := hide (hb.apart' HOA.out.mem)
    have HDE_X := hide (hb.apart HOE.out.mem)
    have HDX_E := hide (hb.apart' HOE.out.mem)
    have HDw_X := hide (hb.apart HOw.out.mem)
    have HDX_w := hide (hb.apart' HOw.out.mem)
    have HDVW_X := hide (hb.apart HOVW.out.mem)
    have HDX_VW := hide (hb.apart' HOVW.out.mem)
    have HDx_X := hide (hb.apart HOx.out.mem)
    have HDX_x := hide (hb.apart' HOx.out.mem)
    have HNX := hide ((hb.old HK.out).new)
    replace HK := hide (HK.out.trans hk)
    replace HOA := hide (HOA.out.kept hk)
    replace HOE := hide (HOE.out.kept hk)
    replace HOw := hide (HOw.out.kept hk)
    replace HOVW := hide (HOVW.out.kept hk)
    replace HOx := hide (HOx.out.kept hk)
    have HOX := hide hb.toOwn
    clear hb hk
    have cA0 := cell_at HOA.out.mem 0 (by simp)
    have cA1 := cell_at HOA.out.mem 1 (by simp)
    have cA2 := cell_at HOA.out.mem 2 (by simp)
    have cA3 := cell_at HOA.out.mem 3 (by simp)
    simp only [Nat.zero_add, List.getElem_cons_zero, List.getElem_cons_succ] at cA0 cA1 cA2 cA3
    have lA := lt_of_cell cA0
    have cE0 := cell_at HOE.out.mem 0 (by simp)
    have cE1 := cell_at HOE.out.mem 1 (by simp)
    have cE2 := cell_at HOE.out.mem 2 (by simp)
    have cE3 := cell_at HOE.out.mem 3 (by simp)
    have cE4 := cell_at HOE.out.mem 4 (by simp)
    have cE5 := cell_at HOE.out.mem 5 (by simp)
    have cE6 := cell_at HOE.out.mem 6 (by simp)
    simp only [Nat.zero_add, List.getElem_cons_zero, List.getElem_cons_succ] at cE0 cE1 cE2 cE3 cE4 cE5 cE6
    have lE := lt_of_cell cE0
    have cVW0 := cell_at HOVW.out.mem 0 (by simp)
    have cVW1 := cell_at HOVW.out.mem 1 (by simp)
    have cVW2 := cell_at HOVW.out.mem 2 (by simp)
    have cVW3 := cell_at HOVW.out.mem 3 (by simp)
    simp only [Nat.zero_add, List.getElem_cons_zero, List.getElem_cons_succ] at cVW0 cVW1 cVW2 cVW3
    have lVW := lt_of_cell cVW0
    have cX0 := cell_at HOX.out.mem 0 (by simp)
    have cX1 := cell_at HOX.out.mem 1 (by simp)
    have cX2 := cell_at HOX.out.mem 2 (by simp)
    have cX3 := cell_at HOX.out.mem 3 (by simp)
    simp only [Nat.zero_add, List.getElem_cons_zero, List.getElem_cons_succ] at cX0 cX1 cX2 cX3
    have lX := lt_of_cell cX0
    go_wp2_with fail
    clear cA0 cA1 cA2 cA3 lA cE0 cE1 cE2 cE3 cE4 cE5 cE6 lE cVW0 cVW1 cVW2 cVW3 lVW cX0 cX1 cX2 cX3 lX
    apply once7 (F := fun (VBVG : Nat) (cag : Option Addr) (ccg : Nat) (csg : List Bs) (dag : Option Addr) (dcg : Nat) (dsg : List Wr) w' => (Keeps w w') ∧ (Own w' [(some ⟨w.heap.size, 0, none⟩, [.slice ca cs.length cc, .slice da ds.length dc, .int .i64 nx, .int .i64 ep])]) ∧ (Own w' [(some ⟨w.heap.size + 1, 0, none⟩, [.int .i64 k, .int .i64 y, .int .i64 c, .int .i64 t, .int .i64 m, .int .i64 f, .bool b])]) ∧ (Own w' (dsk caw csw daw dsw)) ∧ (Own w' [(some ⟨VBVW, 0, none⟩, [.slice caw csw.length ccw, .slice daw dsw.length dcw, .int .i64 rn, .int .i64 re])]) ∧ (Own w' (dsk cax csx dax dsx)) ∧ (Own w' [(some ⟨w9.heap.size, 0, none⟩, [.slice cax csx.length ccx, .slice dax dsx.length dcx, .int .i64 nx, .int .i64 ep])]) ∧ (Own w' (dsk cag csg dag dsg)) ∧ (Own w' [(some ⟨VBVG, 0, none⟩, [.slice cag csg.length ccg, .slice dag dsg.length dcg, .int .i64 rn, .int .i64 re])]) ∧ (∀ bb ∈ fp ([(some ⟨w.heap.size, 0, none⟩, [.slice ca cs.length cc, .slice da ds.length dc, .int .i64 nx, .int .i64 ep])] : List Seg), bb ∉ fp ((dsk cag csg dag dsg) : List Seg)) ∧ (∀ bb ∈ fp ((dsk cag csg dag dsg) : List Seg), bb ∉ fp ([(some ⟨w.heap.size, 0, none⟩, [.slice ca cs.length cc, .slice da ds.length dc, .int .i64 nx, .int .i64 ep])] : List Seg)) ∧ (∀ bb ∈ fp ([(some ⟨w.heap.size, 0, none⟩, [.slice ca cs.length cc, .slice da ds.length dc, .int .i64 nx, .int .i64 ep])] : List Seg), bb ∉ fp ([(some ⟨VBVG, 0, none⟩, [.slice cag csg.length ccg, .slice dag dsg.length dcg, .int .i64 rn, .int .i64 re])] : List Seg)) ∧ (∀ bb ∈ fp ([(some ⟨VBVG, 0, none⟩, [.slice cag csg.length ccg, .slice dag dsg.length dcg, .int .i64 rn, .int .i64 re])] : List Seg), bb ∉ fp ([(some ⟨w.heap.size, 0, none⟩, [.slice ca cs.length cc, .slice da ds.length dc, .int .i64 nx, .int .i64 ep])] : List Seg)) ∧ (∀ bb ∈ fp ([(some ⟨w.heap.size + 1, 0, none⟩, [.int .i64 k, .int .i64 y, .int .i64 c, .int .i64 t, .int .i64 m, .int .i64 f, .bool b])] : List Seg), bb ∉ fp ((dsk cag csg dag dsg) : List Seg)) ∧ (∀ bb ∈ fp ((dsk cag csg dag dsg) : List Seg), bb ∉ fp ([(some ⟨w.heap.size + 1, 0, none⟩, [.int .i64 k, .int .i64 y, .int .i64 c, .int .i64 t, .int .i64 m, .int .i64 f, .bool b])] : List Seg)) ∧ (∀ bb ∈ fp ([(some ⟨w.heap.size + 1, 0, none⟩, [.int .i64 k, .int .i64 y, .int .i64 c, .int .i64 t, .int .i64 m, .int .i64 f, .bool b])] : List Seg), bb ∉ fp ([(some ⟨VBVG, 0, none⟩, [.slice cag csg.length ccg, .slice dag dsg.length dcg, .int .i64 rn, .int .i64 re])] : List Seg)) ∧ (∀ bb ∈ fp ([(some ⟨VBVG, 0, none⟩, [.slice cag csg.length ccg, .slice dag dsg.length dcg, .int .i64 rn, .int .i64 re])] : List Seg), bb ∉ fp ([(some ⟨w.heap.size + 1, 0, none⟩, [.int .i64 k, .int .i64 y, .int .i64 c, .int .i64 t, .int .i64 m, .int .i64 f, .bool b])] : List Seg)) ∧ (∀ bb ∈ fp ((dsk caw csw daw dsw) : List Seg), bb ∉ fp ((dsk cag csg dag dsg) : List Seg)) ∧ (∀ bb ∈ fp ((dsk cag csg dag dsg) : List Seg), bb ∉ fp ((dsk caw csw daw dsw) : List Seg)) ∧ (∀ bb ∈ fp ((dsk caw csw daw dsw) : List Seg), bb ∉ fp ([(some ⟨VBVG, 0, none⟩, [.slice cag csg.length ccg, .slice dag dsg.length dcg, .int .i64 rn, .int .i64 re])] : List Seg)) ∧ (∀ bb ∈ fp ([(some ⟨VBVG, 0, none⟩, [.slice cag csg.length ccg, .slice dag dsg.length dcg, .int .i64 rn, .int .i64 re])] : List Seg), bb ∉ fp ((dsk caw csw daw dsw) : List Seg)) ∧ (∀ bb ∈ fp ([(some ⟨VBVW, 0, none⟩, [.slice caw csw.length ccw, .slice daw dsw.length dcw, .int .i64 rn, .int .i64 re])] : List Seg), bb ∉ fp ((dsk cag csg dag dsg) : List Seg)) ∧ (∀ bb ∈ fp ((dsk cag csg dag dsg) : List Seg), bb ∉ fp ([(some ⟨VBVW, 0, none⟩, [.slice caw csw.length ccw, .slice daw dsw.length dcw, .int .i64 rn, .int .i64 re])] : List Seg)) ∧ (∀ bb ∈ fp ([(some ⟨VBVW, 0, none⟩, [.slice caw csw.length ccw, .slice daw dsw.length dcw, .int .i64 rn, .int .i64 re])] : List Seg), bb ∉ fp ([(some ⟨VBVG, 0, none⟩, [.slice cag csg.length ccg, .slice dag dsg.length dcg, .int .i64 rn, .int .i64 re])] : List Seg)) ∧ (∀ bb ∈ fp ([(some ⟨VBVG, 0, none⟩, [.slice cag csg.length ccg, .slice dag dsg.length dcg, .int .i64 rn, .int .i64 re])] : List Seg), bb ∉ fp ([(some ⟨VBVW, 0, none⟩, [.slice caw csw.length ccw, .slice daw dsw.length dcw, .int .i64 rn, .int .i64 re])] : List Seg)) ∧ (∀ bb ∈ fp ((dsk cax csx dax dsx) : List Seg), bb ∉ fp ((dsk cag csg dag dsg) : List Seg)) ∧ (∀ bb ∈ fp ((dsk cag csg dag dsg) : List Seg), bb ∉ fp ((dsk cax csx dax dsx) : List Seg)) ∧ (∀ bb ∈ fp ((dsk cax csx dax dsx) : List Seg), bb ∉ fp ([(some ⟨VBVG, 0, none⟩, [.slice cag csg.length ccg, .slice dag dsg.length dcg, .int .i64 rn, .int .i64 re])] : List Seg)) ∧ (∀ bb ∈ fp ([(some ⟨VBVG, 0, none⟩, [.slice cag csg.length ccg, .slice dag dsg.length dcg, .int .i64 rn, .int .i64 re])] : List Seg), bb ∉ fp ((dsk cax csx dax dsx) : List Seg)) ∧ (∀ bb ∈ fp ([(some ⟨w9.heap.size, 0, none⟩, [.slice cax csx.length ccx, .slice dax dsx.length dcx, .int .i64 nx, .int .i64 ep])] : List Seg), bb ∉ fp ((dsk cag csg dag dsg) : List Seg)) ∧ (∀ bb ∈ fp ((dsk cag csg dag dsg) : List Seg), bb ∉ fp ([(some ⟨w9.heap.size, 0, none⟩, [.slice cax csx.length ccx, .slice dax dsx.length dcx, .int .i64 nx, .int .i64 ep])] : List Seg)) ∧ (∀ bb ∈ fp ([(some ⟨w9.heap.size, 0, none⟩, [.slice cax csx.length ccx, .slice dax dsx.length dcx, .int .i64 nx, .int .i64 ep])] : List Seg), bb ∉ fp ([(some ⟨VBVG, 0, none⟩, [.slice cag csg.length ccg, .slice dag dsg.length dcg, .int .i64 rn, .int .i64 re])] : List Seg)) ∧ (∀ bb ∈ fp ([(some ⟨VBVG, 0, none⟩, [.slice cag csg.length ccg, .slice dag dsg.length dcg, .int .i64 rn, .int .i64 re])] : List Seg), bb ∉ fp ([(some ⟨w9.heap.size, 0, none⟩, [.slice cax csx.length ccx, .slice dax dsx.length dcx, .int .i64 nx, .int .i64 ep])] : List Seg)) ∧ (∀ bb ∈ fp ((dsk cag csg dag dsg) : List Seg), bb ∉ fp ([(some ⟨VBVG, 0, none⟩, [.slice cag csg.length ccg, .slice dag dsg.length dcg, .int .i64 rn, .int .i64 re])] : List Seg)) ∧ (∀ bb ∈ fp ([(some ⟨VBVG, 0, none⟩, [.slice cag csg.length ccg, .slice dag dsg.length dcg, .int .i64 rn, .int .i64 re])] : List Seg), bb ∉ fp ((dsk cag csg dag dsg) : List Seg)) ∧ (∀ bb ∈ fp ((dsk cag csg dag dsg) : List Seg), w.heap.size ≤ bb) ∧ (∀ bb ∈ fp ([(some ⟨VBVG, 0, none⟩, [.slice cag csg.length ccg, .slice dag dsg.length dcg, .int .i64 rn, .int .i64 re])] : List Seg), w.heap.size ≤ bb) ∧ (dat csg dsg = RM) ∧ (DOk csg dsg) ∧ (cag = none → ccg = 0) ∧ (dag = none → dcg = 0))
    · skip
      have HLA := hide HOA.out.mem.lt
      have HLE := hide HOE.out.mem.lt
      have HLw := hide HOw.out.mem.lt
      have HLVW := hide HOVW.out.mem.lt
      have HLx := hide HOx.out.mem.lt
      have HLX := hide HOX.out.mem.lt
      have HKR := hide (Keeps.refl w10)
      have HKW := hide HK.out
      have cE0 := cell_at HOE.out.mem 0 (by simp)
      have cE1 := cell_at HOE.out.mem 1 (by simp)
      have cE2 := cell_at HOE.out.mem 2 (by simp)
      have cE3 := cell_at HOE.out.mem 3 (by simp)
      have cE4 := cell_at HOE.out.mem 4 (by simp)
      have cE5 := cell_at HOE.out.mem 5 (by simp)
      have cE6 := cell_at HOE.out.mem 6 (by simp)
      simp only [Nat.zero_add, List.getElem_cons_zero, List.getElem_cons_succ] at cE0 cE1 cE2 cE3 cE4 cE5 cE6
      have lE := lt_of_cell cE0
      have cX0 := cell_at HOX.out.mem 0 (by simp)
      have cX1 := cell_at HOX.out.mem 1 (by simp)
      have cX2 := cell_at HOX.out.mem 2 (by simp)
      have cX3 := cell_at HOX.out.mem 3 (by simp)
      simp only [Nat.zero_add, List.getElem_cons_zero, List.getElem_cons_succ] at cX0 cX1 cX2 cX3
      have lX := lt_of_cell cX0
      have qE := lE
      have qX := lX
      go_region_held3 (fun w' => w'.cell? ⟨w.heap.size + 1, 0, none⟩ = some (.int .i64 k) ∧ w'.cell? ⟨w.heap.size + 1, 1, none⟩ = some (.int .i64 y) ∧ w'.cell? ⟨w.heap.size + 1, 2, none⟩ = some (.int .i64 c) ∧ w'.cell? ⟨w.heap.size + 1, 3, none⟩ = some (.int .i64 t) ∧ w'.cell? ⟨w.heap.size + 1, 4, none⟩ = some (.int .i64 m) ∧ w'.cell? ⟨w.heap.size + 1, 5, none⟩ = some (.int .i64 f) ∧ w'.cell? ⟨w.heap.size + 1, 6, none⟩ = some (.bool b) ∧ w'.cell? ⟨w9.heap.size, 0, none⟩ = some (.slice cax csx.length ccx) ∧ w'.cell? ⟨w9.heap.size, 1, none⟩ = some (.slice dax dsx.length dcx) ∧ w'.cell? ⟨w9.heap.size, 2, none⟩ = some (.int .i64 nx) ∧ w'.cell? ⟨w9.heap.size, 3, none⟩ = some (.int .i64 ep)) (first | go_keep | (refine ⟨?_, ?_, ?_, ?_, ?_, ?_, ?_, ?_, ?_, ?_, ?_⟩ <;> (rw [World.cell?_setCell_other _ _ _ _ (by simp <;> omega), World.cell?_setCell_other _ _ _ _ (by simp <;> omega), World.cell?_setCell_other _ _ _ _ (by simp <;> omega), World.cell?_setCell_other _ _ _ _ (by simp <;> omega)]; assumption)))
        (first
           | (go_at_call 19
              first
                | (refine (toEvent_k k y c t m f b _).mono ?_
                   rintro x w11 ⟨rfl, hk⟩
                   replace hk := ((Keeps.refl w10).drew).trans hk)
                | (refine (toEvent_k k y c t m f b _).mono ?_
                   rintro x w11 ⟨rfl, hk⟩
                   have hr0 := row_zero4 w10 (.slice none 0 0) (.slice none 0 0) (.int .i64 0) (.int .i64 0) 47
                   have HRV := hide (Keeps.rowV hk hr0)
                   clear hr0
                   have HVN := hide HKR.out.size
                   have qVN := HKR.out.size
                   replace hk := ((Keeps.alloc (Keeps.refl w10) (.cells #[.slice none 0 0, .slice none 0 0, .int .i64 0, .int .i64 0] 47)).drew).trans hk)
              replace HKR := hide (HKR.out.trans hk)
              clear cE0 cE1 cE2 cE3 cE4 cE5 cE6 lE cX0 cX1 cX2 cX3 lX
              replace HK := hide (HK.out.trans hk)
              replace HOA := hide (HOA.out.kept hk)
              replace HOE := hide (HOE.out.kept hk)
              replace HOw := hide (HOw.out.kept hk)
              replace HOVW := hide (HOVW.out.kept hk)
              replace HOx := hide (HOx.out.kept hk)
              replace HOX := hide (HOX.out.kept hk)
              clear hk
              have cE0 := cell_at HOE.out.mem 0 (by simp)
              have cE1 := cell_at HOE.out.mem 1 (by simp)
              have cE2 := cell_at HOE.out.mem 2 (by simp)
              have cE3 := cell_at HOE.out.mem 3 (by simp)
              have cE4 := cell_at HOE.out.mem 4 (by simp)
              have cE5 := cell_at HOE.out.mem 5 (by simp)
              have cE6 := cell_at HOE.out.mem 6 (by simp)
              simp only [Nat.zero_add, List.getElem_cons_zero, List.getElem_cons_succ] at cE0 cE1 cE2 cE3 cE4 cE5 cE6
              have lE := lt_of_cell cE0
              have cX0 := cell_at HOX.out.mem 0 (by simp)
              have cX1 := cell_at HOX.out.mem 1 (by simp)
              have cX2 := cell_at HOX.out.mem 2 (by simp)
              have cX3 := cell_at HOX.out.mem 3 (by simp)
              simp only [Nat.zero_add, List.getElem_cons_zero, List.getElem_cons_succ] at cX0 cX1 cX2 cX3
              have lX := lt_of_cell cX0)
           | (go_at_call 20
              first
                | (refine (unhide HIP cax ccx csx dax dcx dsx _ HEx.out (HOx.out.mem.kept ((Keeps.refl w11))) HKx.out).mono ?_
                   rintro x w12 ⟨v, rfl, hr, hk⟩
                   obtain ⟨cag, ccg, csg, dag, dcg, dsg, rfl, heg, hokg, hnag, hndg, hb⟩ := hr
                   have HEg := hide heg
                   have HKg := hide hokg
                   have HAg := hide hnag
                   have HBg := hide hndg
                   clear heg hokg hnag hndg
                   have hr0 := HRV.out
                   have HVB := hide (fun b hb1 => Nat.lt_of_lt_of_le hr0.lt (hb.new b hb1))
                   replace HRV := hide (Keeps.rowV hk hr0)
                   clear hr0
                   have zV0 := HRV.out.cell (i := 0) (by decide)
                   have zV1 := HRV.out.cell (i := 1) (by decide)
                   have zV2 := HRV.out.cell (i := 2) (by decide)
                   have zV3 := HRV.out.cell (i := 3) (by decide)
                   have fV0 := HRV.out.frozen 0
                   have fV1 := HRV.out.frozen 1
                   have fV2 := HRV.out.frozen 2
                   have fV3 := HRV.out.frozen 3
                   have lV := HRV.out.lt
                   simp at zV0 zV1 zV2 zV3
                   replace hb := hb.old ((Keeps.refl w11))
                   replace hk := ((Keeps.refl w11)).trans hk)
                | (refine (unhide HIP cax ccx csx dax dcx dsx _ HEx.out (HOx.out.mem.kept ((Keeps.refl w11))) HKx.out).mono ?_
                   rintro x w12 ⟨v, rfl, hr, hk⟩
                   obtain ⟨cag, ccg, csg, dag, dcg, dsg, rfl, heg, hokg, hnag, hndg, hb⟩ := hr
                   have HEg := hide heg
                   have HKg := hide hokg
                   have HAg := hide hnag
                   have HBg := hide hndg
                   clear heg hokg hnag hndg
                   replace hb := hb.old ((Keeps.refl w11))
                   replace hk := ((Keeps.refl w11)).trans hk)
                | (refine (unhide HIP cax ccx csx dax dcx dsx _ HEx.out (HOx.out.mem.kept ((Keeps.alloc (Keeps.refl w11) (.cells #[.slice none 0 0, .slice none 0 0, .int .i64 0, .int .i64 0] 47)))) HKx.out).mono ?_
                   rintro x w12 ⟨v, rfl, hr, hk⟩
                   obtain ⟨cag, ccg, csg, dag, dcg, dsg, rfl, heg, hokg, hnag, hndg, hb⟩ := hr
                   have HEg := hide heg
                   have HKg := hide hokg
                   have HAg := hide hnag
                   have HBg := hide hndg
                   clear heg hokg hnag hndg
                   have hr0 := row_zero4 w11 (.slice none 0 0) (.slice none 0 0) (.int .i64 0) (.int .i64 0) 47
                   have HVB := hide (fun b hb1 => Nat.lt_of_lt_of_le hr0.lt (hb.new b hb1))
                   have HRV := hide (Keeps.rowV hk hr0)
                   clear hr0
                   have HVN := hide HKR.out.size
                   have qVN := HKR.out.size
                   have zV0 := HRV.out.cell (i := 0) (by decide)
                   have zV1 := HRV.out.cell (i := 1) (by decide)
                   have zV2 := HRV.out.cell (i := 2) (by decide)
                   have zV3 := HRV.out.cell (i := 3) (by decide)
                   have fV0 := HRV.out.frozen 0
                   have fV1 := HRV.out.frozen 1
                   have fV2 := HRV.out.frozen 2
                   have fV3 := HRV.out.frozen 3
                   have lV := HRV.out.lt
                   simp at zV0 zV1 zV2 zV3
                   replace hb := hb.old ((Keeps.alloc (Keeps.refl w11) (.cells #[.slice none 0 0, .slice none 0 0, .int .i64 0, .int .i64 0] 47)))
                   replace hk := ((Keeps.alloc (Keeps.refl w11) (.cells #[.slice none 0 0, .slice none 0 0, .int .i64 0, .int .i64 0] 47))).trans hk)
              replace HKR := hide (HKR.out.trans hk)
              clear cE0 cE1 cE2 cE3 cE4 cE5 cE6 lE cX0 cX1 cX2 cX3 lX
              have HDA_g := hide (hb.apart HOA.out.mem)
              have HDg_A := hide (hb.apart' HOA.out.mem)
              have HDE_g := hide (hb.apart HOE.out.mem)
              have HDg_E := hide (hb.apart' HOE.out.mem)
              have HDw_g := hide (hb.apart HOw.out.mem)
              have HDg_w := hide (hb.apart' HOw.out.mem)
              have HDVW_g := hide (hb.apart HOVW.out.mem)
              have HDg_VW := hide (hb.apart' HOVW.out.mem)
              have HDx_g := hide (hb.apart HOx.out.mem)
              have HDg_x := hide (hb.apart' HOx.out.mem)
              have HDX_g := hide (hb.apart HOX.out.mem)
              have HDg_X := hide (hb.apart' HOX.out.mem)
              have HNg := hide ((hb.old HK.out).new)
              replace HK := hide (HK.out.trans hk)
              replace HOA := hide (HOA.out.kept hk)
              replace HOE := hide (HOE.out.kept hk)
              replace HOw := hide (HOw.out.kept hk)
              replace HOVW := hide (HOVW.out.kept hk)
              replace HOx := hide (HOx.out.kept hk)
              replace HOX := hide (HOX.out.kept hk)
              have HOg := hide hb.toOwn
              clear hb hk
              have cE0 := cell_at HOE.out.mem 0 (by simp)
              have cE1 := cell_at HOE.out.mem 1 (by simp)
              have cE2 := cell_at HOE.out.mem 2 (by simp)
              have cE3 := cell_at HOE.out.mem 3 (by simp)
              have cE4 := cell_at HOE.out.mem 4 (by simp)
              have cE5 := cell_at HOE.out.mem 5 (by simp)
              have cE6 := cell_at HOE.out.mem 6 (by simp)
              simp only [Nat.zero_add, List.getElem_cons_zero, List.getElem_cons_succ] at cE0 cE1 cE2 cE3 cE4 cE5 cE6
              have lE := lt_of_cell cE0
              have cX0 := cell_at HOX.out.mem 0 (by simp)
              have cX1 := cell_at HOX.out.mem 1 (by simp)
              have cX2 := cell_at HOX.out.mem 2 (by simp)
              have cX3 := cell_at HOX.out.mem 3 (by simp)
              simp only [Nat.zero_add, List.getElem_cons_zero, List.getElem_cons_succ] at cX0 cX1 cX2 cX3
              have lX := lt_of_cell cX0))
      all_goals clear cE0 cE1 cE2 cE3 cE4 cE5 cE6 lE cX0 cX1 cX2 cX3 lX
      all_goals
        first
          | (have hrv : w12.rowIs w10.heap.size _ _ _ := HRV.out
             have hVN := HVN.out
             have hVB := HVB.out
             clear HRV HVN HVB zV0 zV1 zV2 zV3 fV0 fV1 fV2 fV3 lV qVN
             obtain ⟨hOV, hT⟩ := var_turn4 hrv (.slice cag csg.length ccg) (.slice dag dsg.length dcg) (.int .i64 rn) (.int .i64 re)
             generalize ((((w12.setCell ⟨w10.heap.size, 0, none⟩ (.slice cag csg.length ccg)).setCell ⟨w10.heap.size, 1, none⟩ (.slice dag dsg.length dcg)).setCell ⟨w10.heap.size, 2, none⟩ (.int .i64 rn)).setCell ⟨w10.heap.size, 3, none⟩ (.int .i64 re)) = w13 at *
             have hz0 : w10.heap.size = w10.heap.size := rfl
             generalize hz1 : w10.heap.size = VBVG at hrv hOV hT hVN hVB hz0 ⊢
             obtain ⟨hd1, hd2⟩ := apart_var (S := [(some ⟨w.heap.size, 0, none⟩, [.slice ca cs.length cc, .slice da ds.length dc, .int .i64 nx, .int .i64 ep])]) (VB := VBVG) (cs := [.slice cag csg.length ccg, .slice dag dsg.length dcg, .int .i64 rn, .int .i64 re]) (by simp) (fun b hb1 e => by have := HLA.out b hb1; omega)
             have HDA_VG := hide hd1
             have HDVG_A := hide hd2
             replace HOA := hide (HOA.out.turn hT (fun b hb1 hx => hd1 b hb1 (by rw [fp_one, fpS_some (by simp)]; exact hx)))
             clear hd1 hd2
             obtain ⟨hd1, hd2⟩ := apart_var (S := [(some ⟨w.heap.size + 1, 0, none⟩, [.int .i64 k, .int .i64 y, .int .i64 c, .int .i64 t, .int .i64 m, .int .i64 f, .bool b])]) (VB := VBVG) (cs := [.slice cag csg.length ccg, .slice dag dsg.length dcg, .int .i64 rn, .int .i64 re]) (by simp) (fun b hb1 e => by have := HLE.out b hb1; omega)
             have HDE_VG := hide hd1
             have HDVG_E := hide hd2
             replace HOE := hide (HOE.out.turn hT (fun b hb1 hx => hd1 b hb1 (by rw [fp_one, fpS_some (by simp)]; exact hx)))
             clear hd1 hd2
             obtain ⟨hd1, hd2⟩ := apart_var (S := (dsk caw csw daw dsw)) (VB := VBVG) (cs := [.slice cag csg.length ccg, .slice dag dsg.length dcg, .int .i64 rn, .int .i64 re]) (by simp) (fun b hb1 e => by have := HLw.out b hb1; omega)
             have HDw_VG := hide hd1
             have HDVG_w := hide hd2
             replace HOw := hide (HOw.out.turn hT (fun b hb1 hx => hd1 b hb1 (by rw [fp_one, fpS_some (by simp)]; exact hx)))
             clear hd1 hd2
             obtain ⟨hd1, hd2⟩ := apart_var (S := [(some ⟨VBVW, 0, none⟩, [.slice caw csw.length ccw, .slice daw dsw.length dcw, .int .i64 rn, .int .i64 re])]) (VB := VBVG) (cs := [.slice cag csg.length ccg, .slice dag dsg.length dcg, .int .i64 rn, .int .i64 re]) (by simp) (fun b hb1 e => by have := HLVW.out b hb1; omega)
             have HDVW_VG := hide hd1
             have HDVG_VW := hide hd2
             replace HOVW := hide (HOVW.out.turn hT (fun b hb1 hx => hd1 b hb1 (by rw [fp_one, fpS_some (by simp)]; exact hx)))
             clear hd1 hd2
             obtain ⟨hd1, hd2⟩ := apart_var (S := (dsk cax csx dax dsx)) (VB := VBVG) (cs := [.slice cag csg.length ccg, .slice dag dsg.length dcg, .int .i64 rn, .int .i64 re]) (by simp) (fun b hb1 e => by have := HLx.out b hb1; omega)
             have HDx_VG := hide hd1
             have HDVG_x := hide hd2
             replace HOx := hide (HOx.out.turn hT (fun b hb1 hx => hd1 b hb1 (by rw [fp_one, fpS_some (by simp)]; exact hx)))
             clear hd1 hd2
             obtain ⟨hd1, hd2⟩ := apart_var (S := [(some ⟨w9.heap.size, 0, none⟩, [.slice cax csx.length ccx, .slice dax dsx.length dcx, .int .i64 nx, .int .i64 ep])]) (VB := VBVG) (cs := [.slice cag csg.length ccg, .slice dag dsg.length dcg, .int .i64 rn, .int .i64 re]) (by simp) (fun b hb1 e => by have := HLX.out b hb1; omega)
             have HDX_VG := hide hd1
             have HDVG_X := hide hd2
             replace HOX := hide (HOX.out.turn hT (fun b hb1 hx => hd1 b hb1 (by rw [fp_one, fpS_some (by simp)]; exact hx)))
             clear hd1 hd2
             obtain ⟨hd1, hd2⟩ := apart_var (S := (dsk cag csg dag dsg)) (VB := VBVG) (cs := [.slice cag csg.length ccg, .slice dag dsg.length dcg, .int .i64 rn, .int .i64 re]) (by simp) (fun b hb1 e => by have := hVB b hb1; omega)
             have HDg_VG := hide hd1
             have HDVG_g := hide hd2
             replace HOg := hide (HOg.out.turn hT (fun b hb1 hx => hd1 b hb1 (by rw [fp_one, fpS_some (by simp)]; exact hx)))
             clear hd1 hd2
             have HNVG : Hid (∀ b ∈ fp [((some ⟨VBVG, 0, none⟩ : Option Addr), [.slice cag csg.length ccg, .slice dag dsg.length dcg, .int .i64 rn, .int .i64 re])], w.heap.size ≤ b) := fun b hb1 => by have h1 : b = VBVG := (by simpa [fp, fpS] using hb1); have := HKW.out.size; omega
             replace HK := hide (hT.keeps HK.out (fun b hb1 => HNVG.out b (by rw [fp_one, fpS_some (by simp)]; exact hb1)))
             have HOVG := hide hOV
             clear hOV hT hrv hVN hVB)
          | (have hrv : w12.rowIs w11.heap.size _ _ _ := HRV.out
             have hVN := HVN.out
             have hVB := HVB.out
             clear HRV HVN HVB zV0 zV1 zV2 zV3 fV0 fV1 fV2 fV3 lV qVN
             obtain ⟨hOV, hT⟩ := var_turn4 hrv (.slice cag csg.length ccg) (.slice dag dsg.length dcg) (.int .i64 rn) (.int .i64 re)
             generalize ((((w12.setCell ⟨w11.heap.size, 0, none⟩ (.slice cag csg.length ccg)).setCell ⟨w11.heap.size, 1, none⟩ (.slice dag dsg.length dcg)).setCell ⟨w11.heap.size, 2, none⟩ (.int .i64 rn)).setCell ⟨w11.heap.size, 3, none⟩ (.int .i64 re)) = w13 at *
             generalize w11.heap.size = VBVG at *
             obtain ⟨hd1, hd2⟩ := apart_var (S := [(some ⟨w.heap.size, 0, none⟩, [.slice ca cs.length cc, .slice da ds.length dc, .int .i64 nx, .int .i64 ep])]) (VB := VBVG) (cs := [.slice cag csg.length ccg, .slice dag dsg.length dcg, .int .i64 rn, .int .i64 re]) (by simp) (fun b hb1 e => by have := HLA.out b hb1; omega)
             have HDA_VG := hide hd1
             have HDVG_A := hide hd2
             replace HOA := hide (HOA.out.turn hT (fun b hb1 hx => hd1 b hb1 (by rw [fp_one, fpS_some (by simp)]; exact hx)))
             clear hd1 hd2
             obtain ⟨hd1, hd2⟩ := apart_var (S := [(some ⟨w.heap.size + 1, 0, none⟩, [.int .i64 k, .int .i64 y, .int .i64 c, .int .i64 t, .int .i64 m, .int .i64 f, .bool b])]) (VB := VBVG) (cs := [.slice cag csg.length ccg, .slice dag dsg.length dcg, .int .i64 rn, .int .i64 re]) (by simp) (fun b hb1 e => by have := HLE.out b hb1; omega)
             have HDE_VG := hide hd1
             have HDVG_E := hide hd2
             replace HOE := hide (HOE.out.turn hT (fun b hb1 hx => hd1 b hb1 (by rw [fp_one, fpS_some (by simp)]; exact hx)))
             clear hd1 hd2
             obtain ⟨hd1, hd2⟩ := apart_var (S := (dsk caw csw daw dsw)) (VB := VBVG) (cs := [.slice cag csg.length ccg, .slice dag dsg.length dcg, .int .i64 rn, .int .i64 re]) (by simp) (fun b hb1 e => by have := HLw.out b hb1; omega)
             have HDw_VG := hide hd1
             have HDVG_w := hide hd2
             replace HOw := hide (HOw.out.turn hT (fun b hb1 hx => hd1 b hb1 (by rw [fp_one, fpS_some (by simp)]; exact hx)))
             clear hd1 hd2
             obtain ⟨hd1, hd2⟩ := apart_var (S := [(some ⟨VBVW, 0, none⟩, [.slice caw csw.length ccw, .slice daw dsw.length dcw, .int .i64 rn, .int .i64 re])]) (VB := VBVG) (cs := [.slice cag csg.length ccg, .slice dag dsg.length dcg, .int .i64 rn, .int .i64 re]) (by simp) (fun b hb1 e => by have := HLVW.out b hb1; omega)
             have HDVW_VG := hide hd1
             have HDVG_VW := hide hd2
             replace HOVW := hide (HOVW.out.turn hT (fun b hb1 hx => hd1 b hb1 (by rw [fp_one, fpS_some (by simp)]; exact hx)))
             clear hd1 hd2
             obtain ⟨hd1, hd2⟩ := apart_var (S := (dsk cax csx dax dsx)) (VB := VBVG) (cs := [.slice cag csg.length ccg, .slice dag dsg.length dcg, .int .i64 rn, .int .i64 re]) (by simp) (fun b hb1 e => by have := HLx.out b hb1; omega)
             have HDx_VG := hide hd1
             have HDVG_x := hide hd2
             replace HOx := hide (HOx.out.turn hT (fun b hb1 hx => hd1 b hb1 (by rw [fp_one, fpS_some (by simp)]; exact hx)))
             clear hd1 hd2
             obtain ⟨hd1, hd2⟩ := apart_var (S := [(some ⟨w9.heap.size, 0, none⟩, [.slice cax csx.length ccx, .slice dax dsx.length dcx, .int .i64 nx, .int .i64 ep])]) (VB := VBVG) (cs := [.slice cag csg.length ccg, .slice dag dsg.length dcg, .int .i64 rn, .int .i64 re]) (by simp) (fun b hb1 e => by have := HLX.out b hb1; omega)
             have HDX_VG := hide hd1
             have HDVG_X := hide hd2
             replace HOX := hide (HOX.out.turn hT (fun b hb1 hx => hd1 b hb1 (by rw [fp_one, fpS_some (by simp)]; exact hx)))
             clear hd1 hd2
             obtain ⟨hd1, hd2⟩ := apart_var (S := (dsk cag csg dag dsg)) (VB := VBVG) (cs := [.slice cag csg.length ccg, .slice dag dsg.length dcg, .int .i64 rn, .int .i64 re]) (by simp) (fun b hb1 e => by have := hVB b hb1; omega)
             have HDg_VG := hide hd1
             have HDVG_g := hide hd2
             replace HOg := hide (HOg.out.turn hT (fun b hb1 hx => hd1 b hb1 (by rw [fp_one, fpS_some (by simp)]; exact hx)))
             clear hd1 hd2
             have HNVG : Hid (∀ b ∈ fp [((some ⟨VBVG, 0, none⟩ : Option Addr), [.slice cag csg.length ccg, .slice dag dsg.length dcg, .int .i64 rn, .int .i64 re])], w.heap.size ≤ b) := fun b hb1 => by have h1 : b = VBVG := (by simpa [fp, fpS] using hb1); have := HKW.out.size; omega
             replace HK := hide (hT.keeps HK.out (fun b hb1 => HNVG.out b (by rw [fp_one, fpS_some (by simp)]; exact hb1)))
             have HOVG := hide hOV
             clear hOV hT hrv hVN hVB)
          | (have hb := born_alloc w12 #[.slice cag csg.length ccg, .slice dag dsg.length dcg, .int .i64 rn, .int .i64 re] 47
             dsimp only at hb
             have hk := Keeps.alloc (Keeps.refl w12) (.cells #[.slice cag csg.length ccg, .slice dag dsg.length dcg, .int .i64 rn, .int .i64 re] 47)
             generalize w12.alloc (.cells #[.slice cag csg.length ccg, .slice dag dsg.length dcg, .int .i64 rn, .int .i64 re] 47) = w13 at *
             have HDA_VG := hide (hb.apart HOA.out.mem)
             have HDVG_A := hide (hb.apart' HOA.out.mem)
             have HDE_VG := hide (hb.apart HOE.out.mem)
             have HDVG_E := hide (hb.apart' HOE.out.mem)
             have HDw_VG := hide (hb.apart HOw.out.mem)
             have HDVG_w := hide (hb.apart' HOw.out.mem)
             have HDVW_VG := hide (hb.apart HOVW.out.mem)
             have HDVG_VW := hide (hb.apart' HOVW.out.mem)
             have HDx_VG := hide (hb.apart HOx.out.mem)
             have HDVG_x := hide (hb.apart' HOx.out.mem)
             have HDX_VG := hide (hb.apart HOX.out.mem)
             have HDVG_X := hide (hb.apart' HOX.out.mem)
             have HDg_VG := hide (hb.apart HOg.out.mem)
             have HDVG_g := hide (hb.apart' HOg.out.mem)
             have HNVG := hide ((hb.old HK.out).new)
             replace HK := hide (HK.out.trans hk)
             replace HOA := hide (HOA.out.kept hk)
             replace HOE := hide (HOE.out.kept hk)
             replace HOw := hide (HOw.out.kept hk)
             replace HOVW := hide (HOVW.out.kept hk)
             replace HOx := hide (HOx.out.kept hk)
             replace HOX := hide (HOX.out.kept hk)
             replace HOg := hide (HOg.out.kept hk)
             have HOVG := hide hb.toOwn
             clear hb hk
             generalize w12.heap.size = VBVG at *)
        clear HKR HKW qE qX HLA HLE HLw HLVW HLx HLX
        exact ⟨rfl, VBVG, cag, ccg, csg, dag, dcg, dsg, rfl, HK.out, HOA.out, HOE.out, HOw.out, HOVW.out, HOx.out, HOX.out, HOg.out, HOVG.out, HDA_g.out, HDg_A.out, HDA_VG.out, HDVG_A.out, HDE_g.out, HDg_E.out, HDE_VG.out, HDVG_E.out, HDw_g.out, HDg_w.out, HDw_VG.out, HDVG_w.out, HDVW_g.out, HDg_VW.out, HDVW_VG.out, HDVG_VW.out, HDx_g.out, HDg_x.out, HDx_VG.out, HDVG_x.out, HDX_g.out, HDg_X.out, HDX_VG.out, HDVG_X.out, HDg_VG.out, HDVG_g.out, HNg.out, HNVG.out, HEg.out, HKg.out, HAg.out, HBg.out⟩
    · rintro VBVG cag ccg csg dag dcg dsg w14 ⟨f0, f1, f2, f3, f4, f5, f6, f7, f8, f9, f10, f11, f12, f13, f14, f15, f16, f17, f18, f19, f20, f21, f22, f23, f24, f25, f26, f27, f28, f29, f30, f31, f32, f33, f34, f35, f36, f37, f38, f39, f40⟩
      replace HK := hide f0
      replace HOA := hide f1
      replace HOE := hide f2
      replace HOw := hide f3
      replace HOVW := hide f4
      replace HOx := hide f5
      replace HOX := hide f6
      have HOg := hide f7
      have HOVG := hide f8
      have HDA_g := hide f9
      have HDg_A := hide f10
      have HDA_VG := hide f11
      have HDVG_A := hide f12
      have HDE_g := hide f13
      have HDg_E := hide f14
      have HDE_VG := hide f15
      have HDVG_E := hide f16
      have HDw_g := hide f17
      have HDg_w := hide f18
      have HDw_VG := hide f19
      have HDVG_w := hide f20
      have HDVW_g := hide f21
      have HDg_VW := hide f22
      have HDVW_VG := hide f23
      have HDVG_VW := hide f24
      have HDx_g := hide f25
      have HDg_x := hide f26
      have HDx_VG := hide f27
      have HDVG_x := hide f28
      have HDX_g := hide f29
      have HDg_X := hide f30
      have HDX_VG := hide f31
      have HDVG_X := hide f32
      have HDg_VG := hide f33
      have HDVG_g := hide f34
      have HNg := hide f35
      have HNVG := hide f36
      have HEg := hide f37
      have HKg := hide f38
      have HAg := hide f39
      have HBg := hide f40
      clear f0 f1 f2 f3 f4 f5 f6 f7 f8 f9 f10 f11 f12 f13 f14 f15 f16 f17 f18 f19 f20 f21 f22 f23 f24 f25 f26 f27 f28 f29 f30 f31 f32 f33 f34 f35 f36 f37 f38 f39 f40
      have cA0 := cell_at HOA.out.mem 0 (by simp)
      have cA1 := cell_at HOA.out.mem 1 (by simp)
      have cA2 := cell_at HOA.out.mem 2 (by simp)
      have cA3 := cell_at HOA.out.mem 3 (by simp)
      simp only [Nat.zero_add, List.getElem_cons_zero, List.getElem_cons_succ] at cA0 cA1 cA2 cA3
      have lA := lt_of_cell cA0
      have cE0 := cell_at HOE.out.mem 0 (by simp)
      have cE1 := cell_at HOE.out.mem 1 (by simp)
      have cE2 := cell_at HOE.out.mem 2 (by simp)
      have cE3 := cell_at HOE.out.mem 3 (by simp)
      have cE4 := cell_at HOE.out.mem 4 (by simp)
      have cE5 := cell_at HOE.out.mem 5 (by simp)
      have cE6 := cell_at HOE.out.mem 6 (by simp)
      simp only [Nat.zero_add, List.getElem_cons_zero, List.getElem_cons_succ] at cE0 cE1 cE2 cE3 cE4 cE5 cE6
      have lE := lt_of_cell cE0
      have cVW0 := cell_at HOVW.out.mem 0 (by simp)
      have cVW1 := cell_at HOVW.out.mem 1 (by simp)
      have cVW2 := cell_at HOVW.out.mem 2 (by simp)
      have cVW3 := cell_at HOVW.out.mem 3 (by simp)
      simp only [Nat.zero_add, List.getElem_cons_zero, List.getElem_cons_succ] at cVW0 cVW1 cVW2 cVW3
      have lVW := lt_of_cell cVW0
      have cX0 := cell_at HOX.out.mem 0 (by simp)
      have cX1 := cell_at HOX.out.mem 1 (by simp)
      have cX2 := cell_at HOX.out.mem 2 (by simp)
      have cX3 := cell_at HOX.out.mem 3 (by simp)
      simp only [Nat.zero_add, List.getElem_cons_zero, List.getElem_cons_succ] at cX0 cX1 cX2 cX3
      have lX := lt_of_cell cX0
      have cVG0 := cell_at HOVG.out.mem 0 (by simp)
      have cVG1 := cell_at HOVG.out.mem 1 (by simp)
      have cVG2 := cell_at HOVG.out.mem 2 (by simp)
      have cVG3 := cell_at HOVG.out.mem 3 (by simp)
      simp only [Nat.zero_add, List.getElem_cons_zero, List.getElem_cons_succ] at cVG0 cVG1 cVG2 cVG3
      have lVG := lt_of_cell cVG0
      go_wp2_with fail
      refine (eqLog' cag ccg csg dag dcg dsg caw ccw csw daw dcw dsw rn re w14 (HEw.out.trans HEg.out.symm) HOg.out.mem HOw.out.mem HKg.out).mono ?_
      rintro x w15 ⟨rfl, hk⟩
      clear cA0 cA1 cA2 cA3 lA cE0 cE1 cE2 cE3 cE4 cE5 cE6 lE cVW0 cVW1 cVW2 cVW3 lVW cX0 cX1 cX2 cX3 lX cVG0 cVG1 cVG2 cVG3 lVG
      replace HK := hide (HK.out.trans hk)
      replace HOA := hide (HOA.out.kept hk)
      replace HOE := hide (HOE.out.kept hk)
      replace HOw := hide (HOw.out.kept hk)
      replace HOVW := hide (HOVW.out.kept hk)
      replace HOx := hide (HOx.out.kept hk)
      replace HOX := hide (HOX.out.kept hk)
      replace HOg := hide (HOg.out.kept hk)
      replace HOVG := hide (HOVG.out.kept hk)
      clear hk
      have cA0 := cell_at HOA.out.mem 0 (by simp)
      have cA1 := cell_at HOA.out.mem 1 (by simp)
      have cA2 := cell_at HOA.out.mem 2 (by simp)
      have cA3 := cell_at HOA.out.mem 3 (by simp)
      simp only [Nat.zero_add, List.getElem_cons_zero, List.getElem_cons_succ] at cA0 cA1 cA2 cA3
      have lA := lt_of_cell cA0
      have cE0 := cell_at HOE.out.mem 0 (by simp)
      have cE1 := cell_at HOE.out.mem 1 (by simp)
      have cE2 := cell_at HOE.out.mem 2 (by simp)
      have cE3 := cell_at HOE.out.mem 3 (by simp)
      have cE4 := cell_at HOE.out.mem 4 (by simp)
      have cE5 := cell_at HOE.out.mem 5 (by simp)
      have cE6 := cell_at HOE.out.mem 6 (by simp)
      simp only [Nat.zero_add, List.getElem_cons_zero, List.getElem_cons_succ] at cE0 cE1 cE2 cE3 cE4 cE5 cE6
      have lE := lt_of_cell cE0
      have cVW0 := cell_at HOVW.out.mem 0 (by simp)
      have cVW1 := cell_at HOVW.out.mem 1 (by simp)
      have cVW2 := cell_at HOVW.out.mem 2 (by simp)
      have cVW3 := cell_at HOVW.out.mem 3 (by simp)
      simp only [Nat.zero_add, List.getElem_cons_zero, List.getElem_cons_succ] at cVW0 cVW1 cVW2 cVW3
      have lVW := lt_of_cell cVW0
      have cX0 := cell_at HOX.out.mem 0 (by simp)
      have cX1 := cell_at HOX.out.mem 1 (by simp)
      have cX2 := cell_at HOX.out.mem 2 (by simp)
      have cX3 := cell_at HOX.out.mem 3 (by simp)
      simp only [Nat.zero_add, List.getElem_cons_zero, List.getElem_cons_succ] at cX0 cX1 cX2 cX3
      have lX := lt_of_cell cX0
      have cVG0 := cell_at HOVG.out.mem 0 (by simp)
      have cVG1 := cell_at HOVG.out.mem 1 (by simp)
      have cVG2 := cell_at HOVG.out.mem 2 (by simp)
      have cVG3 := cell_at HOVG.out.mem 3 (by simp)
      simp only [Nat.zero_add, List.getElem_cons_zero, List.getElem_cons_succ] at cVG0 cVG1 cVG2 cVG3
      have lVG := lt_of_cell cVG0
      go_wp2_with fail
      have HT := hide (fun w' (hk : Keeps w15 w') => toLog' ca cc cs da dc ds nx ep w' ((HM.out.kept HK.out).kept hk) HOK.out)
      go_region_held3 (fun w' => w'.cell? ⟨w9.heap.size, 0, none⟩ = some (.slice cax csx.length ccx) ∧ w'.cell? ⟨w9.heap.size, 1, none⟩ = some (.slice dax dsx.length dcx) ∧ w'.cell? ⟨w9.heap.size, 2, none⟩ = some (.int .i64 nx) ∧ w'.cell? ⟨w9.heap.size, 3, none⟩ = some (.int .i64 ep) ∧ w'.cell? ⟨w.heap.size, 0, none⟩ = some (.slice ca cs.length cc) ∧ w'.cell? ⟨w.heap.size, 1, none⟩ = some (.slice da ds.length dc) ∧ w'.cell? ⟨w.heap.size, 2, none⟩ = some (.int .i64 nx) ∧ w'.cell? ⟨w.heap.size, 3, none⟩ = some (.int .i64 ep)) (go_keep)
        (first
           | (go_at_call 18
              refine (unhide HT _ ((Keeps.refl w15).drew)).mono ?_
              rintro x w16 ⟨v, rfl, hr, hk⟩
              obtain ⟨cay, ccy, csy, day, dcy, dsy, rfl, hey, hoky, hnay, hndy, hb⟩ := hr
              have HEy := hide hey
              have HKy := hide hoky
              have HAy := hide hnay
              have HBy := hide hndy
              clear hey hoky hnay hndy
              replace hb := hb.old ((Keeps.refl w15).drew)
              replace hk := ((Keeps.refl w15).drew).trans hk
              clear cA0 cA1 cA2 cA3 lA cE0 cE1 cE2 cE3 cE4 cE5 cE6 lE cVW0 cVW1 cVW2 cVW3 lVW cX0 cX1 cX2 cX3 lX cVG0 cVG1 cVG2 cVG3 lVG
              have HDA_y := hide (hb.apart HOA.out.mem)
              have HDy_A := hide (hb.apart' HOA.out.mem)
              have HDE_y := hide (hb.apart HOE.out.mem)
              have HDy_E := hide (hb.apart' HOE.out.mem)
              have HDw_y := hide (hb.apart HOw.out.mem)
              have HDy_w := hide (hb.apart' HOw.out.mem)
              have HDVW_y := hide (hb.apart HOVW.out.mem)
              have HDy_VW := hide (hb.apart' HOVW.out.mem)
              have HDx_y := hide (hb.apart HOx.out.mem)
              have HDy_x := hide (hb.apart' HOx.out.mem)
              have HDX_y := hide (hb.apart HOX.out.mem)
              have HDy_X := hide (hb.apart' HOX.out.mem)
              have HDg_y := hide (hb.apart HOg.out.mem)
              have HDy_g := hide (hb.apart' HOg.out.mem)
              have HDVG_y := hide (hb.apart HOVG.out.mem)
              have HDy_VG := hide (hb.apart' HOVG.out.mem)
              have HNy := hide ((hb.old HK.out).new)
              replace HK := hide (HK.out.trans hk)
              replace HOA := hide (HOA.out.kept hk)
              replace HOE := hide (HOE.out.kept hk)
              replace HOw := hide (HOw.out.kept hk)
              replace HOVW := hide (HOVW.out.kept hk)
              replace HOx := hide (HOx.out.kept hk)
              replace HOX := hide (HOX.out.kept hk)
              replace HOg := hide (HOg.out.kept hk)
              replace HOVG := hide (HOVG.out.kept hk)
              have HOy := hide hb.toOwn
              clear hb hk
              have cX0 := cell_at HOX.out.mem 0 (by simp)
              have cX1 := cell_at HOX.out.mem 1 (by simp)
              have cX2 := cell_at HOX.out.mem 2 (by simp)
              have cX3 := cell_at HOX.out.mem 3 (by simp)
              simp only [Nat.zero_add, List.getElem_cons_zero, List.getElem_cons_succ] at cX0 cX1 cX2 cX3
              have lX := lt_of_cell cX0
              have cA0 := cell_at HOA.out.mem 0 (by simp)
              have cA1 := cell_at HOA.out.mem 1 (by simp)
              have cA2 := cell_at HOA.out.mem 2 (by simp)
              have cA3 := cell_at HOA.out.mem 3 (by simp)
              simp only [Nat.zero_add, List.getElem_cons_zero, List.getElem_cons_succ] at cA0 cA1 cA2 cA3
              have lA := lt_of_cell cA0
              have cVW0 := cell_at HOVW.out.mem 0 (by simp)
              have cVW1 := cell_at HOVW.out.mem 1 (by simp)
              have cVW2 := cell_at HOVW.out.mem 2 (by simp)
              have cVW3 := cell_at HOVW.out.mem 3 (by simp)
              simp only [Nat.zero_add, List.getElem_cons_zero, List.getElem_cons_succ] at cVW0 cVW1 cVW2 cVW3
              have lVW := lt_of_cell cVW0
              have cVG0 := cell_at HOVG.out.mem 0 (by simp)
              have cVG1 := cell_at HOVG.out.mem 1 (by simp)
              have cVG2 := cell_at HOVG.out.mem 2 (by simp)
              have cVG3 := cell_at HOVG.out.mem 3 (by simp)
              simp only [Nat.zero_add, List.getElem_cons_zero, List.getElem_cons_succ] at cVG0 cVG1 cVG2 cVG3
              have lVG := lt_of_cell cVG0
              have cE0 := cell_at HOE.out.mem 0 (by simp)
              have cE1 := cell_at HOE.out.mem 1 (by simp)
              have cE2 := cell_at HOE.out.mem 2 (by simp)
              have cE3 := cell_at HOE.out.mem 3 (by simp)
              have cE4 := cell_at HOE.out.mem 4 (by simp)
              have cE5 := cell_at HOE.out.mem 5 (by simp)
              have cE6 := cell_at HOE.out.mem 6 (by simp)
              simp only [Nat.zero_add, List.getElem_cons_zero, List.getElem_cons_succ] at cE0 cE1 cE2 cE3 cE4 cE5 cE6
              have lE := lt_of_cell cE0)
           | (go_at_call 21
              refine (eqLog' cax ccx csx dax dcx dsx cay ccy csy day dcy dsy nx ep w16 (HEy.out.trans HEx.out.symm) HOx.out.mem HOy.out.mem HKx.out).mono ?_
              rintro x w17 ⟨rfl, hk⟩
              clear cX0 cX1 cX2 cX3 lX cA0 cA1 cA2 cA3 lA cVW0 cVW1 cVW2 cVW3 lVW cVG0 cVG1 cVG2 cVG3 lVG cE0 cE1 cE2 cE3 cE4 cE5 cE6 lE
              replace HK := hide (HK.out.trans hk)
              replace HOA := hide (HOA.out.kept hk)
              replace HOE := hide (HOE.out.kept hk)
              replace HOw := hide (HOw.out.kept hk)
              replace HOVW := hide (HOVW.out.kept hk)
              replace HOx := hide (HOx.out.kept hk)
              replace HOX := hide (HOX.out.kept hk)
              replace HOg := hide (HOg.out.kept hk)
              replace HOVG := hide (HOVG.out.kept hk)
              replace HOy := hide (HOy.out.kept hk)
              clear hk
              have cX0 := cell_at HOX.out.mem 0 (by simp)
              have cX1 := cell_at HOX.out.mem 1 (by simp)
              have cX2 := cell_at HOX.out.mem 2 (by simp)
              have cX3 := cell_at HOX.out.mem 3 (by simp)
              simp only [Nat.zero_add, List.getElem_cons_zero, List.getElem_cons_succ] at cX0 cX1 cX2 cX3
              have lX := lt_of_cell cX0
              have cA0 := cell_at HOA.out.mem 0 (by simp)
              have cA1 := cell_at HOA.out.mem 1 (by simp)
              have cA2 := cell_at HOA.out.mem 2 (by simp)
              have cA3 := cell_at HOA.out.mem 3 (by simp)
              simp only [Nat.zero_add, List.getElem_cons_zero, List.getElem_cons_succ] at cA0 cA1 cA2 cA3
              have lA := lt_of_cell cA0
              have cVW0 := cell_at HOVW.out.mem 0 (by simp)
              have cVW1 := cell_at HOVW.out.mem 1 (by simp)
              have cVW2 := cell_at HOVW.out.mem 2 (by simp)
              have cVW3 := cell_at HOVW.out.mem 3 (by simp)
              simp only [Nat.zero_add, List.getElem_cons_zero, List.getElem_cons_succ] at cVW0 cVW1 cVW2 cVW3
              have lVW := lt_of_cell cVW0
              have cVG0 := cell_at HOVG.out.mem 0 (by simp)
              have cVG1 := cell_at HOVG.out.mem 1 (by simp)
              have cVG2 := cell_at HOVG.out.mem 2 (by simp)
              have cVG3 := cell_at HOVG.out.mem 3 (by simp)
              simp only [Nat.zero_add, List.getElem_cons_zero, List.getElem_cons_succ] at cVG0 cVG1 cVG2 cVG3
              have lVG := lt_of_cell cVG0
              have cE0 := cell_at HOE.out.mem 0 (by simp)
              have cE1 := cell_at HOE.out.mem 1 (by simp)
              have cE2 := cell_at HOE.out.mem 2 (by simp)
              have cE3 := cell_at HOE.out.mem 3 (by simp)
              have cE4 := cell_at HOE.out.mem 4 (by simp)
              have cE5 := cell_at HOE.out.mem 5 (by simp)
              have cE6 := cell_at HOE.out.mem 6 (by simp)
              simp only [Nat.zero_add, List.getElem_cons_zero, List.getElem_cons_succ] at cE0 cE1 cE2 cE3 cE4 cE5 cE6
              have lE := lt_of_cell cE0))
      clear HOy HNy HDA_y HDy_A HDE_y HDy_E HDw_y HDy_w HDVW_y HDy_VW HDx_y HDy_x HDX_y HDy_X HDg_y HDy_g HDVG_y HDy_VG
      clear HEy HKy HAy HBy
      clear HT
      clear cX0 cX1 cX2 cX3 lX cA0 cA1 cA2 cA3 lA cVW0 cVW1 cVW2 cVW3 lVW cVG0 cVG1 cVG2 cVG3 lVG cE0 cE1 cE2 cE3 cE4 cE5 cE6 lE
      have cA0 := cell_at HOA.out.mem 0 (by simp)
      have cA1 := cell_at HOA.out.mem 1 (by simp)
      have cA2 := cell_at HOA.out.mem 2 (by simp)
      have cA3 := cell_at HOA.out.mem 3 (by simp)
      simp only [Nat.zero_add, List.getElem_cons_zero, List.getElem_cons_succ] at cA0 cA1 cA2 cA3
      have lA := lt_of_cell cA0
      have cE0 := cell_at HOE.out.mem 0 (by simp)
      have cE1 := cell_at HOE.out.mem 1 (by simp)
      have cE2 := cell_at HOE.out.mem 2 (by simp)
      have cE3 := cell_at HOE.out.mem 3 (by simp)
      have cE4 := cell_at HOE.out.mem 4 (by simp)
      have cE5 := cell_at HOE.out.mem 5 (by simp)
      have cE6 := cell_at HOE.out.mem 6 (by simp)
      simp only [Nat.zero_add, List.getElem_cons_zero, List.getElem_cons_succ] at cE0 cE1 cE2 cE3 cE4 cE5 cE6
      have lE := lt_of_cell cE0
      have cVW0 := cell_at HOVW.out.mem 0 (by simp)
      have cVW1 := cell_at HOVW.out.mem 1 (by simp)
      have cVW2 := cell_at HOVW.out.mem 2 (by simp)
      have cVW3 := cell_at HOVW.out.mem 3 (by simp)
      simp only [Nat.zero_add, List.getElem_cons_zero, List.getElem_cons_succ] at cVW0 cVW1 cVW2 cVW3
      have lVW := lt_of_cell cVW0
      have cX0 := cell_at HOX.out.mem 0 (by simp)
      have cX1 := cell_at HOX.out.mem 1 (by simp)
      have cX2 := cell_at HOX.out.mem 2 (by simp)
      have cX3 := cell_at HOX.out.mem 3 (by simp)
      simp only [Nat.zero_add, List.getElem_cons_zero, List.getElem_cons_succ] at cX0 cX1 cX2 cX3
      have lX := lt_of_cell cX0
      have cVG0 := cell_at HOVG.out.mem 0 (by simp)
      have cVG1 := cell_at HOVG.out.mem 1 (by simp)
      have cVG2 := cell_at HOVG.out.mem 2 (by simp)
      have cVG3 := cell_at HOVG.out.mem 3 (by simp)
      simp only [Nat.zero_add, List.getElem_cons_zero, List.getElem_cons_succ] at cVG0 cVG1 cVG2 cVG3
      have lVG := lt_of_cell cVG0
      go_wp2_with fail
      refine (markLog' cax ccx csx dax dcx dsx nx ep w17 HOx.out HKx.out).mono ?_
      rintro x w18 ⟨rfl, ho, ht⟩
      clear cA0 cA1 cA2 cA3 lA cE0 cE1 cE2 cE3 cE4 cE5 cE6 lE cVW0 cVW1 cVW2 cVW3 lVW cX0 cX1 cX2 cX3 lX cVG0 cVG1 cVG2 cVG3 lVG
      replace HK := hide (ht.keeps HK.out HNx.out)
      replace HOA := hide (HOA.out.turn ht HDA_x.out)
      replace HOE := hide (HOE.out.turn ht HDE_x.out)
      replace HOw := hide (HOw.out.turn ht HDw_x.out)
      replace HOVW := hide (HOVW.out.turn ht HDVW_x.out)
      replace HOX := hide (HOX.out.turn ht HDX_x.out)
      replace HOg := hide (HOg.out.turn ht HDg_x.out)
      replace HOVG := hide (HOVG.out.turn ht HDVG_x.out)
      clear ht
      replace HOx := hide ho
      clear ho
      clear HOx HNx HDA_x HDx_A HDE_x HDx_E HDw_x HDx_w HDVW_x HDx_VW HDX_x HDx_X HDg_x HDx_g HDVG_x HDx_VG
      clear HEx HKx HAx HBx
      have cA0 := cell_at HOA.out.mem 0 (by simp)
      have cA1 := cell_at HOA.out.mem 1 (by simp)
      have cA2 := cell_at HOA.out.mem 2 (by simp)
      have cA3 := cell_at HOA.out.mem 3 (by simp)
      simp only [Nat.zero_add, List.getElem_cons_zero, List.getElem_cons_succ] at cA0 cA1 cA2 cA3
      have lA := lt_of_cell cA0
      have cE0 := cell_at HOE.out.mem 0 (by simp)
      have cE1 := cell_at HOE.out.mem 1 (by simp)
      have cE2 := cell_at HOE.out.mem 2 (by simp)
      have cE3 := cell_at HOE.out.mem 3 (by simp)
      have cE4 := cell_at HOE.out.mem 4 (by simp)
      have cE5 := cell_at HOE.out.mem 5 (by simp)
      have cE6 := cell_at HOE.out.mem 6 (by simp)
      simp only [Nat.zero_add, List.getElem_cons_zero, List.getElem_cons_succ] at cE0 cE1 cE2 cE3 cE4 cE5 cE6
      have lE := lt_of_cell cE0
      have cVW0 := cell_at HOVW.out.mem 0 (by simp)
      have cVW1 := cell_at HOVW.out.mem 1 (by simp)
      have cVW2 := cell_at HOVW.out.mem 2 (by simp)
      have cVW3 := cell_at HOVW.out.mem 3 (by simp)
      simp only [Nat.zero_add, List.getElem_cons_zero, List.getElem_cons_succ] at cVW0 cVW1 cVW2 cVW3
      have lVW := lt_of_cell cVW0
      have cX0 := cell_at HOX.out.mem 0 (by simp)
      have cX1 := cell_at HOX.out.mem 1 (by simp)
      have cX2 := cell_at HOX.out.mem 2 (by simp)
      have cX3 := cell_at HOX.out.mem 3 (by simp)
      simp only [Nat.zero_add, List.getElem_cons_zero, List.getElem_cons_succ] at cX0 cX1 cX2 cX3
      have lX := lt_of_cell cX0
      have cVG0 := cell_at HOVG.out.mem 0 (by simp)
      have cVG1 := cell_at HOVG.out.mem 1 (by simp)
      have cVG2 := cell_at HOVG.out.mem 2 (by simp)
      have cVG3 := cell_at HOVG.out.mem 3 (by simp)
      simp only [Nat.zero_add, List.getElem_cons_zero, List.getElem_cons_succ] at cVG0 cVG1 cVG2 cVG3
      have lVG := lt_of_cell cVG0
      go_wp2_with fail
      refine (eqLog' cag ccg csg dag dcg dsg caw ccw csw daw dcw dsw rn re w18 (HEw.out.trans HEg.out.symm) HOg.out.mem HOw.out.mem HKg.out).mono ?_
      rintro x w19 ⟨rfl, hk⟩
      clear cA0 cA1 cA2 cA3 lA cE0 cE1 cE2 cE3 cE4 cE5 cE6 lE cVW0 cVW1 cVW2 cVW3 lVW cX0 cX1 cX2 cX3 lX cVG0 cVG1 cVG2 cVG3 lVG
      replace HK := hide (HK.out.trans hk)
      replace HOA := hide (HOA.out.kept hk)
      replace HOE := hide (HOE.out.kept hk)
      replace HOw := hide (HOw.out.kept hk)
      replace HOVW := hide (HOVW.out.kept hk)
      replace HOX := hide (HOX.out.kept hk)
      replace HOg := hide (HOg.out.kept hk)
      replace HOVG := hide (HOVG.out.kept hk)
      clear hk
      clear HOX HNX HDA_X HDX_A HDE_X HDX_E HDw_X HDX_w HDVW_X HDX_VW HDg_X HDX_g HDVG_X HDX_VG
      have cA0 := cell_at HOA.out.mem 0 (by simp)
      have cA1 := cell_at HOA.out.mem 1 (by simp)
      have cA2 := cell_at HOA.out.mem 2 (by simp)
      have cA3 := cell_at HOA.out.mem 3 (by simp)
      simp only [Nat.zero_add, List.getElem_cons_zero, List.getElem_cons_succ] at cA0 cA1 cA2 cA3
      have lA := lt_of_cell cA0
      have cE0 := cell_at HOE.out.mem 0 (by simp)
      have cE1 := cell_at HOE.out.mem 1 (by simp)
      have cE2 := cell_at HOE.out.mem 2 (by simp)
      have cE3 := cell_at HOE.out.mem 3 (by simp)
      have cE4 := cell_at HOE.out.mem 4 (by simp)
      have cE5 := cell_at HOE.out.mem 5 (by simp)
      have cE6 := cell_at HOE.out.mem 6 (by simp)
      simp only [Nat.zero_add, List.getElem_cons_zero, List.getElem_cons_succ] at cE0 cE1 cE2 cE3 cE4 cE5 cE6
      have lE := lt_of_cell cE0
      have cVW0 := cell_at HOVW.out.mem 0 (by simp)
      have cVW1 := cell_at HOVW.out.mem 1 (by simp)
      have cVW2 := cell_at HOVW.out.mem 2 (by simp)
      have cVW3 := cell_at HOVW.out.mem 3 (by simp)
      simp only [Nat.zero_add, List.getElem_cons_zero, List.getElem_cons_succ] at cVW0 cVW1 cVW2 cVW3
      have lVW := lt_of_cell cVW0
      have cVG0 := cell_at HOVG.out.mem 0 (by simp)
      have cVG1 := cell_at HOVG.out.mem 1 (by simp)
      have cVG2 := cell_at HOVG.out.mem 2 (by simp)
      have cVG3 := cell_at HOVG.out.mem 3 (by simp)
      simp only [Nat.zero_add, List.getElem_cons_zero, List.getElem_cons_succ] at cVG0 cVG1 cVG2 cVG3
      have lVG := lt_of_cell cVG0
      go_wp2_with fail
      refine (markLog' cag ccg csg dag dcg dsg rn re w19 HOg.out HKg.out).mono ?_
      rintro x w20 ⟨rfl, ho, ht⟩
      clear cA0 cA1 cA2 cA3 lA cE0 cE1 cE2 cE3 cE4 cE5 cE6 lE cVW0 cVW1 cVW2 cVW3 lVW cVG0 cVG1 cVG2 cVG3 lVG
      replace HK := hide (ht.keeps HK.out HNg.out)
      replace HOA := hide (HOA.out.turn ht HDA_g.out)
      replace HOE := hide (HOE.out.turn ht HDE_g.out)
      replace HOw := hide (HOw.out.turn ht HDw_g.out)
      replace HOVW := hide (HOVW.out.turn ht HDVW_g.out)
      replace HOVG := hide (HOVG.out.turn ht HDVG_g.out)
      clear ht
      replace HOg := hide ho
      clear ho
      have cA0 := cell_at HOA.out.mem 0 (by simp)
      have cA1 := cell_at HOA.out.mem 1 (by simp)
      have cA2 := cell_at HOA.out.mem 2 (by simp)
      have cA3 := cell_at HOA.out.mem 3 (by simp)
      simp only [Nat.zero_add, List.getElem_cons_zero, List.getElem_cons_succ] at cA0 cA1 cA2 cA3
      have lA := lt_of_cell cA0
      have cE0 := cell_at HOE.out.mem 0 (by simp)
      have cE1 := cell_at HOE.out.mem 1 (by simp)
      have cE2 := cell_at HOE.out.mem 2 (by simp)
      have cE3 := cell_at HOE.out.mem 3 (by simp)
      have cE4 := cell_at HOE.out.mem 4 (by simp)
      have cE5 := cell_at HOE.out.mem 5 (by simp)
      have cE6 := cell_at HOE.out.mem 6 (by simp)
      simp only [Nat.zero_add, List.getElem_cons_zero, List.getElem_cons_succ] at cE0 cE1 cE2 cE3 cE4 cE5 cE6
      have lE := lt_of_cell cE0
      have cVW0 := cell_at HOVW.out.mem 0 (by simp)
      have cVW1 := cell_at HOVW.out.mem 1 (by simp)
      have cVW2 := cell_at HOVW.out.mem 2 (by simp)
      have cVW3 := cell_at HOVW.out.mem 3 (by simp)
      simp only [Nat.zero_add, List.getElem_cons_zero, List.getElem_cons_succ] at cVW0 cVW1 cVW2 cVW3
      have lVW := lt_of_cell cVW0
      have cVG0 := cell_at HOVG.out.mem 0 (by simp)
      have cVG1 := cell_at HOVG.out.mem 1 (by simp)
      have cVG2 := cell_at HOVG.out.mem 2 (by simp)
      have cVG3 := cell_at HOVG.out.mem 3 (by simp)
      simp only [Nat.zero_add, List.getElem_cons_zero, List.getElem_cons_succ] at cVG0 cVG1 cVG2 cVG3
      have lVG := lt_of_cell cVG0
      go_wp2_with fail
      refine (heldLog' cag ccg csg dag dcg dsg rn re w20 HOg.out.mem HKg.out).mono ?_
      rintro x w21 ⟨rfl, hk⟩
      clear cA0 cA1 cA2 cA3 lA cE0 cE1 cE2 cE3 cE4 cE5 cE6 lE cVW0 cVW1 cVW2 cVW3 lVW cVG0 cVG1 cVG2 cVG3 lVG
      replace HK := hide (HK.out.trans hk)
      replace HOA := hide (HOA.out.kept hk)
      replace HOE := hide (HOE.out.kept hk)
      replace HOw := hide (HOw.out.kept hk)
      replace HOVW := hide (HOVW.out.kept hk)
      replace HOg := hide (HOg.out.kept hk)
      replace HOVG := hide (HOVG.out.kept hk)
      clear hk
      have cA0 := cell_at HOA.out.mem 0 (by simp)
      have cA1 := cell_at HOA.out.mem 1 (by simp)
      have cA2 := cell_at HOA.out.mem 2 (by simp)
      have cA3 := cell_at HOA.out.mem 3 (by simp)
      simp only [Nat.zero_add, List.getElem_cons_zero, List.getElem_cons_succ] at cA0 cA1 cA2 cA3
      have lA := lt_of_cell cA0
      have cE0 := cell_at HOE.out.mem 0 (by simp)
      have cE1 := cell_at HOE.out.mem 1 (by simp)
      have cE2 := cell_at HOE.out.mem 2 (by simp)
      have cE3 := cell_at HOE.out.mem 3 (by simp)
      have cE4 := cell_at HOE.out.mem 4 (by simp)
      have cE5 := cell_at HOE.out.mem 5 (by simp)
      have cE6 := cell_at HOE.out.mem 6 (by simp)
      simp only [Nat.zero_add, List.getElem_cons_zero, List.getElem_cons_succ] at cE0 cE1 cE2 cE3 cE4 cE5 cE6
      have lE := lt_of_cell cE0
      have cVW0 := cell_at HOVW.out.mem 0 (by simp)
      have cVW1 := cell_at HOVW.out.mem 1 (by simp)
      have cVW2 := cell_at HOVW.out.mem 2 (by simp)
      have cVW3 := cell_at HOVW.out.mem 3 (by simp)
      simp only [Nat.zero_add, List.getElem_cons_zero, List.getElem_cons_succ] at cVW0 cVW1 cVW2 cVW3
      have lVW := lt_of_cell cVW0
      have cVG0 := cell_at HOVG.out.mem 0 (by simp)
      have cVG1 := cell_at HOVG.out.mem 1 (by simp)
      have cVG2 := cell_at HOVG.out.mem 2 (by simp)
      have cVG3 := cell_at HOVG.out.mem 3 (by simp)
      simp only [Nat.zero_add, List.getElem_cons_zero, List.getElem_cons_succ] at cVG0 cVG1 cVG2 cVG3
      have lVG := lt_of_cell cVG0
      go_wp2_with fail
      clear cA0 cA1 cA2 cA3 lA cE0 cE1 cE2 cE3 cE4 cE5 cE6 lE cVW0 cVW1 cVW2 cVW3 lVW cVG0 cVG1 cVG2 cVG3 lVG
      apply once13 (F := fun (VBVH : Nat) (cau : Option Addr) (ccu : Nat) (csu : List Bs) (dau : Option Addr) (dcu : Nat) (dsu : List Wr) (cah : Option Addr) (cch : Nat) (csh : List Bs) (dah : Option Addr) (dch : Nat) (dsh : List Wr) w' => (Keeps w w') ∧ (Own w' [(some ⟨w.heap.size, 0, none⟩, [.slice ca cs.length cc, .slice da ds.length dc, .int .i64 nx, .int .i64 ep])]) ∧ (Own w' [(some ⟨w.heap.size + 1, 0, none⟩, [.int .i64 k, .int .i64 y, .int .i64 c, .int .i64 t, .int .i64 m, .int .i64 f, .bool b])]) ∧ (Own w' (dsk caw csw daw dsw)) ∧ (Own w' [(some ⟨VBVW, 0, none⟩, [.slice caw csw.length ccw, .slice daw dsw.length dcw, .int .i64 rn, .int .i64 re])]) ∧ (Own w' (dsk cag (markC 1 csg) dag (markW (1 + tot csg) dsg))) ∧ (Own w' [(some ⟨VBVG, 0, none⟩, [.slice cag csg.length ccg, .slice dag dsg.length dcg, .int .i64 rn, .int .i64 re])]) ∧ (Own w' (dsk cah csh dah dsh)) ∧ (Own w' [(some ⟨VBVH, 0, none⟩, [.slice cah csh.length cch, .slice dah dsh.length dch, .int .i64 rn, .int .i64 re])]) ∧ (∀ bb ∈ fp ([(some ⟨w.heap.size, 0, none⟩, [.slice ca cs.length cc, .slice da ds.length dc, .int .i64 nx, .int .i64 ep])] : List Seg), bb ∉ fp ((dsk cah csh dah dsh) : List Seg)) ∧ (∀ bb ∈ fp ((dsk cah csh dah dsh) : List Seg), bb ∉ fp ([(some ⟨w.heap.size, 0, none⟩, [.slice ca cs.length cc, .slice da ds.length dc, .int .i64 nx, .int .i64 ep])] : List Seg)) ∧ (∀ bb ∈ fp ([(some ⟨w.heap.size, 0, none⟩, [.slice ca cs.length cc, .slice da ds.length dc, .int .i64 nx, .int .i64 ep])] : List Seg), bb ∉ fp ([(some ⟨VBVH, 0, none⟩, [.slice cah csh.length cch, .slice dah dsh.length dch, .int .i64 rn, .int .i64 re])] : List Seg)) ∧ (∀ bb ∈ fp ([(some ⟨VBVH, 0, none⟩, [.slice cah csh.length cch, .slice dah dsh.length dch, .int .i64 rn, .int .i64 re])] : List Seg), bb ∉ fp ([(some ⟨w.heap.size, 0, none⟩, [.slice ca cs.length cc, .slice da ds.length dc, .int .i64 nx, .int .i64 ep])] : List Seg)) ∧ (∀ bb ∈ fp ([(some ⟨w.heap.size + 1, 0, none⟩, [.int .i64 k, .int .i64 y, .int .i64 c, .int .i64 t, .int .i64 m, .int .i64 f, .bool b])] : List Seg), bb ∉ fp ((dsk cah csh dah dsh) : List Seg)) ∧ (∀ bb ∈ fp ((dsk cah csh dah dsh) : List Seg), bb ∉ fp ([(some ⟨w.heap.size + 1, 0, none⟩, [.int .i64 k, .int .i64 y, .int .i64 c, .int .i64 t, .int .i64 m, .int .i64 f, .bool b])] : List Seg)) ∧ (∀ bb ∈ fp ([(some ⟨w.heap.size + 1, 0, none⟩, [.int .i64 k, .int .i64 y, .int .i64 c, .int .i64 t, .int .i64 m, .int .i64 f, .bool b])] : List Seg), bb ∉ fp ([(some ⟨VBVH, 0, none⟩, [.slice cah csh.length cch, .slice dah dsh.length dch, .int .i64 rn, .int .i64 re])] : List Seg)) ∧ (∀ bb ∈ fp ([(some ⟨VBVH, 0, none⟩, [.slice cah csh.length cch, .slice dah dsh.length dch, .int .i64 rn, .int .i64 re])] : List Seg), bb ∉ fp ([(some ⟨w.heap.size + 1, 0, none⟩, [.int .i64 k, .int .i64 y, .int .i64 c, .int .i64 t, .int .i64 m, .int .i64 f, .bool b])] : List Seg)) ∧ (∀ bb ∈ fp ((dsk caw csw daw dsw) : List Seg), bb ∉ fp ((dsk cah csh dah dsh) : List Seg)) ∧ (∀ bb ∈ fp ((dsk cah csh dah dsh) : List Seg), bb ∉ fp ((dsk caw csw daw dsw) : List Seg)) ∧ (∀ bb ∈ fp ((dsk caw csw daw dsw) : List Seg), bb ∉ fp ([(some ⟨VBVH, 0, none⟩, [.slice cah csh.length cch, .slice dah dsh.length dch, .int .i64 rn, .int .i64 re])] : List Seg)) ∧ (∀ bb ∈ fp ([(some ⟨VBVH, 0, none⟩, [.slice cah csh.length cch, .slice dah dsh.length dch, .int .i64 rn, .int .i64 re])] : List Seg), bb ∉ fp ((dsk caw csw daw dsw) : List Seg)) ∧ (∀ bb ∈ fp ([(some ⟨VBVW, 0, none⟩, [.slice caw csw.length ccw, .slice daw dsw.length dcw, .int .i64 rn, .int .i64 re])] : List Seg), bb ∉ fp ((dsk cah csh dah dsh) : List Seg)) ∧ (∀ bb ∈ fp ((dsk cah csh dah dsh) : List Seg), bb ∉ fp ([(some ⟨VBVW, 0, none⟩, [.slice caw csw.length ccw, .slice daw dsw.length dcw, .int .i64 rn, .int .i64 re])] : List Seg)) ∧ (∀ bb ∈ fp ([(some ⟨VBVW, 0, none⟩, [.slice caw csw.length ccw, .slice daw dsw.length dcw, .int .i64 rn, .int .i64 re])] : List Seg), bb ∉ fp ([(some ⟨VBVH, 0, none⟩, [.slice cah csh.length cch, .slice dah dsh.length dch, .int .i64 rn, .int .i64 re])] : List Seg)) ∧ (∀ bb ∈ fp ([(some ⟨VBVH, 0, none⟩, [.slice cah csh.length cch, .slice dah dsh.length dch, .int .i64 rn, .int .i64 re])] : List Seg), bb ∉ fp ([(some ⟨VBVW, 0, none⟩, [.slice caw csw.length ccw, .slice daw dsw.length dcw, .int .i64 rn, .int .i64 re])] : List Seg)) ∧ (∀ bb ∈ fp ((dsk cag (markC 1 csg) dag (markW (1 + tot csg) dsg)) : List Seg), bb ∉ fp ((dsk cah csh dah dsh) : List Seg)) ∧ (∀ bb ∈ fp ((dsk cah csh dah dsh) : List Seg), bb ∉ fp ((dsk cag (markC 1 csg) dag (markW (1 + tot csg) dsg)) : List Seg)) ∧ (∀ bb ∈ fp ((dsk cag (markC 1 csg) dag (markW (1 + tot csg) dsg)) : List Seg), bb ∉ fp ([(some ⟨VBVH, 0, none⟩, [.slice cah csh.length cch, .slice dah dsh.length dch, .int .i64 rn, .int .i64 re])] : List Seg)) ∧ (∀ bb ∈ fp ([(some ⟨VBVH, 0, none⟩, [.slice cah csh.length cch, .slice dah dsh.length dch, .int .i64 rn, .int .i64 re])] : List Seg), bb ∉ fp ((dsk cag (markC 1 csg) dag (markW (1 + tot csg) dsg)) : List Seg)) ∧ (∀ bb ∈ fp ([(some ⟨VBVG, 0, none⟩, [.slice cag csg.length ccg, .slice dag dsg.length dcg, .int .i64 rn, .int .i64 re])] : List Seg), bb ∉ fp ((dsk cah csh dah dsh) : List Seg)) ∧ (∀ bb ∈ fp ((dsk cah csh dah dsh) : List Seg), bb ∉ fp ([(some ⟨VBVG, 0, none⟩, [.slice cag csg.length ccg, .slice dag dsg.length dcg, .int .i64 rn, .int .i64 re])] : List Seg)) ∧ (∀ bb ∈ fp ([(some ⟨VBVG, 0, none⟩, [.slice cag csg.length ccg, .slice dag dsg.length dcg, .int .i64 rn, .int .i64 re])] : List Seg), bb ∉ fp ([(some ⟨VBVH, 0, none⟩, [.slice cah csh.length cch, .slice dah dsh.length dch, .int .i64 rn, .int .i64 re])] : List Seg)) ∧ (∀ bb ∈ fp ([(some ⟨VBVH, 0, none⟩, [.slice cah csh.length cch, .slice dah dsh.length dch, .int .i64 rn, .int .i64 re])] : List Seg), bb ∉ fp ([(some ⟨VBVG, 0, none⟩, [.slice cag csg.length ccg, .slice dag dsg.length dcg, .int .i64 rn, .int .i64 re])] : List Seg)) ∧ (∀ bb ∈ fp ((dsk cah csh dah dsh) : List Seg), bb ∉ fp ([(some ⟨VBVH, 0, none⟩, [.slice cah csh.length cch, .slice dah dsh.length dch, .int .i64 rn, .int .i64 re])] : List Seg)) ∧ (∀ bb ∈ fp ([(some ⟨VBVH, 0, none⟩, [.slice cah csh.length cch, .slice dah dsh.length dch, .int .i64 rn, .int .i64 re])] : List Seg), bb ∉ fp ((dsk cah csh dah dsh) : List Seg)) ∧ (∀ bb ∈ fp ((dsk cah csh dah dsh) : List Seg), w.heap.size ≤ bb) ∧ (∀ bb ∈ fp ([(some ⟨VBVH, 0, none⟩, [.slice cah csh.length cch, .slice dah dsh.length dch, .int .i64 rn, .int .i64 re])] : List Seg), w.heap.size ≤ bb) ∧ (dat csh dsh = RM) ∧ (DOk csh dsh) ∧ (cah = none → cch = 0) ∧ (dah = none → dch = 0))
      · skip
        have HLA := hide HOA.out.mem.lt
        have HLE := hide HOE.out.mem.lt
        have HLw := hide HOw.out.mem.lt
        have HLVW := hide HOVW.out.mem.lt
        have HLg := hide HOg.out.mem.lt
        have HLVG := hide HOVG.out.mem.lt
        have HKR := hide (Keeps.refl w21)
        have HKW := hide HK.out
        have cA0 := cell_at HOA.out.mem 0 (by simp)
        have cA1 := cell_at HOA.out.mem 1 (by simp)
        have cA2 := cell_at HOA.out.mem 2 (by simp)
        have cA3 := cell_at HOA.out.mem 3 (by simp)
        simp only [Nat.zero_add, List.getElem_cons_zero, List.getElem_cons_succ] at cA0 cA1 cA2 cA3
        have lA := lt_of_cell cA0
        have cE0 := cell_at HOE.out.mem 0 (by simp)
        have cE1 := cell_at HOE.out.mem 1 (by simp)
        have cE2 := cell_at HOE.out.mem 2 (by simp)
        have cE3 := cell_at HOE.out.mem 3 (by simp)
        have cE4 := cell_at HOE.out.mem 4 (by simp)
        have cE5 := cell_at HOE.out.mem 5 (by simp)
        have cE6 := cell_at HOE.out.mem 6 (by simp)
        simp only [Nat.zero_add, List.getElem_cons_zero, List.getElem_cons_succ] at cE0 cE1 cE2 cE3 cE4 cE5 cE6
        have lE := lt_of_cell cE0
        have qA := lA
        have qE := lE
        go_region_held3 (fun w' => w'.cell? ⟨w.heap.size, 0, none⟩ = some (.slice ca cs.length cc) ∧ w'.cell? ⟨w.heap.size, 1, none⟩ = some (.slice da ds.length dc) ∧ w'.cell? ⟨w.heap.size, 2, none⟩ = some (.int .i64 nx) ∧ w'.cell? ⟨w.heap.size, 3, none⟩ = some (.int .i64 ep) ∧ w'.cell? ⟨w.heap.size + 1, 0, none⟩ = some (.int .i64 k) ∧ w'.cell? ⟨w.heap.size + 1, 1, none⟩ = some (.int .i64 y) ∧ w'.cell? ⟨w.heap.size + 1, 2, none⟩ = some (.int .i64 c) ∧ w'.cell? ⟨w.heap.size + 1, 3, none⟩ = some (.int .i64 t) ∧ w'.cell? ⟨w.heap.size + 1, 4, none⟩ = some (.int .i64 m) ∧ w'.cell? ⟨w.heap.size + 1, 5, none⟩ = some (.int .i64 f) ∧ w'.cell? ⟨w.heap.size + 1, 6, none⟩ = some (.bool b)) (first | go_keep | (refine ⟨?_, ?_, ?_, ?_, ?_, ?_, ?_, ?_, ?_, ?_, ?_⟩ <;> (rw [World.cell?_setCell_other _ _ _ _ (by simp <;> omega), World.cell?_setCell_other _ _ _ _ (by simp <;> omega), World.cell?_setCell_other _ _ _ _ (by simp <;> omega), World.cell?_setCell_other _ _ _ _ (by simp <;> omega)]; assumption)))
          (first
             | (go_at_call 18
                first
                  | (refine (unhide HTL _ (HK.out.trans ((Keeps.refl w21).drew))).mono ?_
                     rintro x w22 ⟨v, rfl, hr, hk⟩
                     obtain ⟨cau, ccu, csu, dau, dcu, dsu, rfl, heu, hoku, hnau, hndu, hb⟩ := hr
                     have HEu := hide heu
                     have HKu := hide hoku
                     have HAu := hide hnau
                     have HBu := hide hndu
                     clear heu hoku hnau hndu
                     replace hb := hb.old ((Keeps.refl w21).drew)
                     replace hk := ((Keeps.refl w21).drew).trans hk)
                  | (refine (unhide HTL _ (HK.out.trans ((Keeps.alloc (Keeps.refl w21) (.cells #[.slice none 0 0, .slice none 0 0, .int .i64 0, .int .i64 0] 47)).drew))).mono ?_
                     rintro x w22 ⟨v, rfl, hr, hk⟩
                     obtain ⟨cau, ccu, csu, dau, dcu, dsu, rfl, heu, hoku, hnau, hndu, hb⟩ := hr
                     have HEu := hide heu
                     have HKu := hide hoku
                     have HAu := hide hnau
                     have HBu := hide hndu
                     clear heu hoku hnau hndu
                     have hr0 := row_zero4 w21 (.slice none 0 0) (.slice none 0 0) (.int .i64 0) (.int .i64 0) 47
                     have HVB := hide (fun b hb1 => Nat.lt_of_lt_of_le hr0.lt (hb.new b hb1))
                     have HRV := hide (Keeps.rowV hk hr0)
                     clear hr0
                     have HVN := hide HKR.out.size
                     have qVN := HKR.out.size
                     replace hb := hb.old ((Keeps.alloc (Keeps.refl w21) (.cells #[.slice none 0 0, .slice none 0 0, .int .i64 0, .int .i64 0] 47)).drew)
                     replace hk := ((Keeps.alloc (Keeps.refl w21) (.cells #[.slice none 0 0, .slice none 0 0, .int .i64 0, .int .i64 0] 47)).drew).trans hk)
                replace HKR := hide (HKR.out.trans hk)
                clear cA0 cA1 cA2 cA3 lA cE0 cE1 cE2 cE3 cE4 cE5 cE6 lE
                have HDA_u := hide (hb.apart HOA.out.mem)
                have HDu_A := hide (hb.apart' HOA.out.mem)
                have HDE_u := hide (hb.apart HOE.out.mem)
                have HDu_E := hide (hb.apart' HOE.out.mem)
                have HDw_u := hide (hb.apart HOw.out.mem)
                have HDu_w := hide (hb.apart' HOw.out.mem)
                have HDVW_u := hide (hb.apart HOVW.out.mem)
                have HDu_VW := hide (hb.apart' HOVW.out.mem)
                have HDg_u := hide (hb.apart HOg.out.mem)
                have HDu_g := hide (hb.apart' HOg.out.mem)
                have HDVG_u := hide (hb.apart HOVG.out.mem)
                have HDu_VG := hide (hb.apart' HOVG.out.mem)
                have HNu := hide ((hb.old HK.out).new)
                replace HK := hide (HK.out.trans hk)
                replace HOA := hide (HOA.out.kept hk)
                replace HOE := hide (HOE.out.kept hk)
                replace HOw := hide (HOw.out.kept hk)
                replace HOVW := hide (HOVW.out.kept hk)
                replace HOg := hide (HOg.out.kept hk)
                replace HOVG := hide (HOVG.out.kept hk)
                have HOu := hide hb.toOwn
                clear hb hk
                have cA0 := cell_at HOA.out.mem 0 (by simp)
                have cA1 := cell_at HOA.out.mem 1 (by simp)
                have cA2 := cell_at HOA.out.mem 2 (by simp)
                have cA3 := cell_at HOA.out.mem 3 (by simp)
                simp only [Nat.zero_add, List.getElem_cons_zero, List.getElem_cons_succ] at cA0 cA1 cA2 cA3
                have lA := lt_of_cell cA0
                have cE0 := cell_at HOE.out.mem 0 (by simp)
                have cE1 := cell_at HOE.out.mem 1 (by simp)
                have cE2 := cell_at HOE.out.mem 2 (by simp)
                have cE3 := cell_at HOE.out.mem 3 (by simp)
                have cE4 := cell_at HOE.out.mem 4 (by simp)
                have cE5 := cell_at HOE.out.mem 5 (by simp)
                have cE6 := cell_at HOE.out.mem 6 (by simp)
                simp only [Nat.zero_add, List.getElem_cons_zero, List.getElem_cons_succ] at cE0 cE1 cE2 cE3 cE4 cE5 cE6
                have lE := lt_of_cell cE0)
             | (go_at_call 19
                first
                  | (refine (toEvent_k k y c t m f b _).mono ?_
                     rintro x w23 ⟨rfl, hk⟩
                     have hr0 := HRV.out
                     replace HRV := hide (Keeps.rowV hk hr0)
                     clear hr0
                     replace hk := ((Keeps.refl w22)).trans hk)
                  | (refine (toEvent_k k y c t m f b _).mono ?_
                     rintro x w23 ⟨rfl, hk⟩
                     replace hk := ((Keeps.refl w22)).trans hk)
                  | (refine (toEvent_k k y c t m f b _).mono ?_
                     rintro x w23 ⟨rfl, hk⟩
                     have hr0 := row_zero4 w22 (.slice none 0 0) (.slice none 0 0) (.int .i64 0) (.int .i64 0) 47
                     have HRV := hide (Keeps.rowV hk hr0)
                     clear hr0
                     have HVN := hide HKR.out.size
                     have qVN := HKR.out.size
                     replace hk := ((Keeps.alloc (Keeps.refl w22) (.cells #[.slice none 0 0, .slice none 0 0, .int .i64 0, .int .i64 0] 47))).trans hk)
                replace HKR := hide (HKR.out.trans hk)
                clear cA0 cA1 cA2 cA3 lA cE0 cE1 cE2 cE3 cE4 cE5 cE6 lE
                replace HK := hide (HK.out.trans hk)
                replace HOA := hide (HOA.out.kept hk)
                replace HOE := hide (HOE.out.kept hk)
                replace HOw := hide (HOw.out.kept hk)
                replace HOVW := hide (HOVW.out.kept hk)
                replace HOg := hide (HOg.out.kept hk)
                replace HOVG := hide (HOVG.out.kept hk)
                replace HOu := hide (HOu.out.kept hk)
                clear hk
                have cA0 := cell_at HOA.out.mem 0 (by simp)
                have cA1 := cell_at HOA.out.mem 1 (by simp)
                have cA2 := cell_at HOA.out.mem 2 (by simp)
                have cA3 := cell_at HOA.out.mem 3 (by simp)
                simp only [Nat.zero_add, List.getElem_cons_zero, List.getElem_cons_succ] at cA0 cA1 cA2 cA3
                have lA := lt_of_cell cA0
                have cE0 := cell_at HOE.out.mem 0 (by simp)
                have cE1 := cell_at HOE.out.mem 1 (by simp)
                have cE2 := cell_at HOE.out.mem 2 (by simp)
                have cE3 := cell_at HOE.out.mem 3 (by simp)
                have cE4 := cell_at HOE.out.mem 4 (by simp)
                have cE5 := cell_at HOE.out.mem 5 (by simp)
                have cE6 := cell_at HOE.out.mem 6 (by simp)
                simp only [Nat.zero_add, List.getElem_cons_zero, List.getElem_cons_succ] at cE0 cE1 cE2 cE3 cE4 cE5 cE6
                have lE := lt_of_cell cE0)
             | (go_at_call 20
                first
                  | (refine (unhide HIP cau ccu csu dau dcu dsu _ HEu.out (HOu.out.mem.kept ((Keeps.refl w23))) HKu.out).mono ?_
                     rintro x w24 ⟨v, rfl, hr, hk⟩
                     obtain ⟨cah, cch, csh, dah, dch, dsh, rfl, heh, hokh, hnah, hndh, hb⟩ := hr
                     have HEh := hide heh
                     have HKh := hide hokh
                     have HAh := hide hnah
                     have HBh := hide hndh
                     clear heh hokh hnah hndh
                     have hr0 := HRV.out
                     have HVB := hide (fun b hb1 => Nat.lt_of_lt_of_le hr0.lt (hb.new b hb1))
                     replace HRV := hide (Keeps.rowV hk hr0)
                     clear hr0
                     have zV0 := HRV.out.cell (i := 0) (by decide)
                     have zV1 := HRV.out.cell (i := 1) (by decide)
                     have zV2 := HRV.out.cell (i := 2) (by decide)
                     have zV3 := HRV.out.cell (i := 3) (by decide)
                     have fV0 := HRV.out.frozen 0
                     have fV1 := HRV.out.frozen 1
                     have fV2 := HRV.out.frozen 2
                     have fV3 := HRV.out.frozen 3
                     have lV := HRV.out.lt
                     simp at zV0 zV1 zV2 zV3
                     replace hb := hb.old ((Keeps.refl w23))
                     replace hk := ((Keeps.refl w23)).trans hk)
                  | (refine (unhide HIP cau ccu csu dau dcu dsu _ HEu.out (HOu.out.mem.kept ((Keeps.refl w23))) HKu.out).mono ?_
                     rintro x w24 ⟨v, rfl, hr, hk⟩
                     obtain ⟨cah, cch, csh, dah, dch, dsh, rfl, heh, hokh, hnah, hndh, hb⟩ := hr
                     have HEh := hide heh
                     have HKh := hide hokh
                     have HAh := hide hnah
                     have HBh := hide hndh
                     clear heh hokh hnah hndh
                     replace hb := hb.old ((Keeps.refl w23))
                     replace hk := ((Keeps.refl w23)).trans hk)
                  | (refine (unhide HIP cau ccu csu dau dcu dsu _ HEu.out (HOu.out.mem.kept ((Keeps.alloc (Keeps.refl w23) (.cells #[.slice none 0 0, .slice none 0 0, .int .i64 0, .int .i64 0] 47)))) HKu.out).mono ?_
                     rintro x w24 ⟨v, rfl, hr, hk⟩
                     obtain ⟨cah, cch, csh, dah, dch, dsh, rfl, heh, hokh, hnah, hndh, hb⟩ := hr
                     have HEh := hide heh
                     have HKh := hide hokh
                     have HAh := hide hnah
                     have HBh := hide hndh
                     clear heh hokh hnah hndh
                     have hr0 := row_zero4 w23 (.slice none 0 0) (.slice none 0 0) (.int .i64 0) (.int .i64 0) 47
                     have HVB := hide (fun b hb1 => Nat.lt_of_lt_of_le hr0.lt (hb.new b hb1))
                     have HRV := hide (Keeps.rowV hk hr0)
                     clear hr0
                     have HVN := hide HKR.out.size
                     have qVN := HKR.out.size
                     have zV0 := HRV.out.cell (i := 0) (by decide)
                     have zV1 := HRV.out.cell (i := 1) (by decide)
                     have zV2 := HRV.out.cell (i := 2) (by decide)
                     have zV3 := HRV.out.cell (i := 3) (by decide)
                     have fV0 := HRV.out.frozen 0
                     have fV1 := HRV.out.frozen 1
                     have fV2 := HRV.out.frozen 2
                     have fV3 := HRV.out.frozen 3
                     have lV := HRV.out.lt
                     simp at zV0 zV1 zV2 zV3
                     replace hb := hb.old ((Keeps.alloc (Keeps.refl w23) (.cells #[.slice none 0 0, .slice none 0 0, .int .i64 0, .int .i64 0] 47)))
                     replace hk := ((Keeps.alloc (Keeps.refl w23) (.cells #[.slice none 0 0, .slice none 0 0, .int .i64 0, .int .i64 0] 47))).trans hk)
                replace HKR := hide (HKR.out.trans hk)
                clear cA0 cA1 cA2 cA3 lA cE0 cE1 cE2 cE3 cE4 cE5 cE6 lE
                have HDA_h := hide (hb.apart HOA.out.mem)
                have HDh_A := hide (hb.apart' HOA.out.mem)
                have HDE_h := hide (hb.apart HOE.out.mem)
                have HDh_E := hide (hb.apart' HOE.out.mem)
                have HDw_h := hide (hb.apart HOw.out.mem)
                have HDh_w := hide (hb.apart' HOw.out.mem)
                have HDVW_h := hide (hb.apart HOVW.out.mem)
                have HDh_VW := hide (hb.apart' HOVW.out.mem)
                have HDg_h := hide (hb.apart HOg.out.mem)
                have HDh_g := hide (hb.apart' HOg.out.mem)
                have HDVG_h := hide (hb.apart HOVG.out.mem)
                have HDh_VG := hide (hb.apart' HOVG.out.mem)
                have HDu_h := hide (hb.apart HOu.out.mem)
                have HDh_u := hide (hb.apart' HOu.out.mem)
                have HNh := hide ((hb.old HK.out).new)
                replace HK := hide (HK.out.trans hk)
                replace HOA := hide (HOA.out.kept hk)
                replace HOE := hide (HOE.out.kept hk)
                replace HOw := hide (HOw.out.kept hk)
                replace HOVW := hide (HOVW.out.kept hk)
                replace HOg := hide (HOg.out.kept hk)
                replace HOVG := hide (HOVG.out.kept hk)
                replace HOu := hide (HOu.out.kept hk)
                have HOh := hide hb.toOwn
                clear hb hk
                have cA0 := cell_at HOA.out.mem 0 (by simp)
                have cA1 := cell_at HOA.out.mem 1 (by simp)
                have cA2 := cell_at HOA.out.mem 2 (by simp)
                have cA3 := cell_at HOA.out.mem 3 (by simp)
                simp only [Nat.zero_add, List.getElem_cons_zero, List.getElem_cons_succ] at cA0 cA1 cA2 cA3
                have lA := lt_of_cell cA0
                have cE0 := cell_at HOE.out.mem 0 (by simp)
                have cE1 := cell_at HOE.out.mem 1 (by simp)
                have cE2 := cell_at HOE.out.mem 2 (by simp)
                have cE3 := cell_at HOE.out.mem 3 (by simp)
                have cE4 := cell_at HOE.out.mem 4 (by simp)
                have cE5 := cell_at HOE.out.mem 5 (by simp)
                have cE6 := cell_at HOE.out.mem 6 (by simp)
                simp only [Nat.zero_add, List.getElem_cons_zero, List.getElem_cons_succ] at cE0 cE1 cE2 cE3 cE4 cE5 cE6
                have lE := lt_of_cell cE0))
        all_goals clear HOu HNu HDA_u HDu_A HDE_u HDu_E HDw_u HDu_w HDVW_u HDu_VW HDg_u HDu_g HDVG_u HDu_VG HDh_u HDu_h
        all_goals clear cA0 cA1 cA2 cA3 lA cE0 cE1 cE2 cE3 cE4 cE5 cE6 lE
        all_goals
          first
            | (have hrv : w24.rowIs w21.heap.size _ _ _ := HRV.out
               have hVN := HVN.out
               have hVB := HVB.out
               clear HRV HVN HVB zV0 zV1 zV2 zV3 fV0 fV1 fV2 fV3 lV qVN
               obtain ⟨hOV, hT⟩ := var_turn4 hrv (.slice cah csh.length cch) (.slice dah dsh.length dch) (.int .i64 rn) (.int .i64 re)
               generalize ((((w24.setCell ⟨w21.heap.size, 0, none⟩ (.slice cah csh.length cch)).setCell ⟨w21.heap.size, 1, none⟩ (.slice dah dsh.length dch)).setCell ⟨w21.heap.size, 2, none⟩ (.int .i64 rn)).setCell ⟨w21.heap.size, 3, none⟩ (.int .i64 re)) = w25 at *
               have hz0 : w21.heap.size = w21.heap.size := rfl
               generalize hz1 : w21.heap.size = VBVH at hrv hOV hT hVN hVB hz0 ⊢
               obtain ⟨hd1, hd2⟩ := apart_var (S := [(some ⟨w.heap.size, 0, none⟩, [.slice ca cs.length cc, .slice da ds.length dc, .int .i64 nx, .int .i64 ep])]) (VB := VBVH) (cs := [.slice cah csh.length cch, .slice dah dsh.length dch, .int .i64 rn, .int .i64 re]) (by simp) (fun b hb1 e => by have := HLA.out b hb1; omega)
               have HDA_VH := hide hd1
               have HDVH_A := hide hd2
               replace HOA := hide (HOA.out.turn hT (fun b hb1 hx => hd1 b hb1 (by rw [fp_one, fpS_some (by simp)]; exact hx)))
               clear hd1 hd2
               obtain ⟨hd1, hd2⟩ := apart_var (S := [(some ⟨w.heap.size + 1, 0, none⟩, [.int .i64 k, .int .i64 y, .int .i64 c, .int .i64 t, .int .i64 m, .int .i64 f, .bool b])]) (VB := VBVH) (cs := [.slice cah csh.length cch, .slice dah dsh.length dch, .int .i64 rn, .int .i64 re]) (by simp) (fun b hb1 e => by have := HLE.out b hb1; omega)
               have HDE_VH := hide hd1
               have HDVH_E := hide hd2
               replace HOE := hide (HOE.out.turn hT (fun b hb1 hx => hd1 b hb1 (by rw [fp_one, fpS_some (by simp)]; exact hx)))
               clear hd1 hd2
               obtain ⟨hd1, hd2⟩ := apart_var (S := (dsk caw csw daw dsw)) (VB := VBVH) (cs := [.slice cah csh.length cch, .slice dah dsh.length dch, .int .i64 rn, .int .i64 re]) (by simp) (fun b hb1 e => by have := HLw.out b hb1; omega)
               have HDw_VH := hide hd1
               have HDVH_w := hide hd2
               replace HOw := hide (HOw.out.turn hT (fun b hb1 hx => hd1 b hb1 (by rw [fp_one, fpS_some (by simp)]; exact hx)))
               clear hd1 hd2
               obtain ⟨hd1, hd2⟩ := apart_var (S := [(some ⟨VBVW, 0, none⟩, [.slice caw csw.length ccw, .slice daw dsw.length dcw, .int .i64 rn, .int .i64 re])]) (VB := VBVH) (cs := [.slice cah csh.length cch, .slice dah dsh.length dch, .int .i64 rn, .int .i64 re]) (by simp) (fun b hb1 e => by have := HLVW.out b hb1; omega)
               have HDVW_VH := hide hd1
               have HDVH_VW := hide hd2
               replace HOVW := hide (HOVW.out.turn hT (fun b hb1 hx => hd1 b hb1 (by rw [fp_one, fpS_some (by simp)]; exact hx)))
               clear hd1 hd2
               obtain ⟨hd1, hd2⟩ := apart_var (S := (dsk cag (markC 1 csg) dag (markW (1 + tot csg) dsg))) (VB := VBVH) (cs := [.slice cah csh.length cch, .slice dah dsh.length dch, .int .i64 rn, .int .i64 re]) (by simp) (fun b hb1 e => by have := HLg.out b hb1; omega)
               have HDg_VH := hide hd1
               have HDVH_g := hide hd2
               replace HOg := hide (HOg.out.turn hT (fun b hb1 hx => hd1 b hb1 (by rw [fp_one, fpS_some (by simp)]; exact hx)))
               clear hd1 hd2
               obtain ⟨hd1, hd2⟩ := apart_var (S := [(some ⟨VBVG, 0, none⟩, [.slice cag csg.length ccg, .slice dag dsg.length dcg, .int .i64 rn, .int .i64 re])]) (VB := VBVH) (cs := [.slice cah csh.length cch, .slice dah dsh.length dch, .int .i64 rn, .int .i64 re]) (by simp) (fun b hb1 e => by have := HLVG.out b hb1; omega)
               have HDVG_VH := hide hd1
               have HDVH_VG := hide hd2
               replace HOVG := hide (HOVG.out.turn hT (fun b hb1 hx => hd1 b hb1 (by rw [fp_one, fpS_some (by simp)]; exact hx)))
               clear hd1 hd2
               obtain ⟨hd1, hd2⟩ := apart_var (S := (dsk cah csh dah dsh)) (VB := VBVH) (cs := [.slice cah csh.length cch, .slice dah dsh.length dch, .int .i64 rn, .int .i64 re]) (by simp) (fun b hb1 e => by have := hVB b hb1; omega)
               have HDh_VH := hide hd1
               have HDVH_h := hide hd2
               replace HOh := hide (HOh.out.turn hT (fun b hb1 hx => hd1 b hb1 (by rw [fp_one, fpS_some (by simp)]; exact hx)))
               clear hd1 hd2
               have HNVH : Hid (∀ b ∈ fp [((some ⟨VBVH, 0, none⟩ : Option Addr), [.slice cah csh.length cch, .slice dah dsh.length dch, .int .i64 rn, .int .i64 re])], w.heap.size ≤ b) := fun b hb1 => by have h1 : b = VBVH := (by simpa [fp, fpS] using hb1); have := HKW.out.size; omega
               replace HK := hide (hT.keeps HK.out (fun b hb1 => HNVH.out b (by rw [fp_one, fpS_some (by simp)]; exact hb1)))
               have HOVH := hide hOV
               clear hOV hT hrv hVN hVB)
            | (have hrv : w24.rowIs w22.heap.size _ _ _ := HRV.out
               have hVN := HVN.out
               have hVB := HVB.out
               clear HRV HVN HVB zV0 zV1 zV2 zV3 fV0 fV1 fV2 fV3 lV qVN
               obtain ⟨hOV, hT⟩ := var_turn4 hrv (.slice cah csh.length cch) (.slice dah dsh.length dch) (.int .i64 rn) (.int .i64 re)
               generalize ((((w24.setCell ⟨w22.heap.size, 0, none⟩ (.slice cah csh.length cch)).setCell ⟨w22.heap.size, 1, none⟩ (.slice dah dsh.length dch)).setCell ⟨w22.heap.size, 2, none⟩ (.int .i64 rn)).setCell ⟨w22.heap.size, 3, none⟩ (.int .i64 re)) = w25 at *
               generalize w22.heap.size = VBVH at *
               obtain ⟨hd1, hd2⟩ := apart_var (S := [(some ⟨w.heap.size, 0, none⟩, [.slice ca cs.length cc, .slice da ds.length dc, .int .i64 nx, .int .i64 ep])]) (VB := VBVH) (cs := [.slice cah csh.length cch, .slice dah dsh.length dch, .int .i64 rn, .int .i64 re]) (by simp) (fun b hb1 e => by have := HLA.out b hb1; omega)
               have HDA_VH := hide hd1
               have HDVH_A := hide hd2
               replace HOA := hide (HOA.out.turn hT (fun b hb1 hx => hd1 b hb1 (by rw [fp_one, fpS_some (by simp)]; exact hx)))
               clear hd1 hd2
               obtain ⟨hd1, hd2⟩ := apart_var (S := [(some ⟨w.heap.size + 1, 0, none⟩, [.int .i64 k, .int .i64 y, .int .i64 c, .int .i64 t, .int .i64 m, .int .i64 f, .bool b])]) (VB := VBVH) (cs := [.slice cah csh.length cch, .slice dah dsh.length dch, .int .i64 rn, .int .i64 re]) (by simp) (fun b hb1 e => by have := HLE.out b hb1; omega)
               have HDE_VH := hide hd1
               have HDVH_E := hide hd2
               replace HOE := hide (HOE.out.turn hT (fun b hb1 hx => hd1 b hb1 (by rw [fp_one, fpS_some (by simp)]; exact hx)))
               clear hd1 hd2
               obtain ⟨hd1, hd2⟩ := apart_var (S := (dsk caw csw daw dsw)) (VB := VBVH) (cs := [.slice cah csh.length cch, .slice dah dsh.length dch, .int .i64 rn, .int .i64 re]) (by simp) (fun b hb1 e => by have := HLw.out b hb1; omega)
               have HDw_VH := hide hd1
               have HDVH_w := hide hd2
               replace HOw := hide (HOw.out.turn hT (fun b hb1 hx => hd1 b hb1 (by rw [fp_one, fpS_some (by simp)]; exact hx)))
               clear hd1 hd2
               obtain ⟨hd1, hd2⟩ := apart_var (S := [(some ⟨VBVW, 0, none⟩, [.slice caw csw.length ccw, .slice daw dsw.length dcw, .int .i64 rn, .int .i64 re])]) (VB := VBVH) (cs := [.slice cah csh.length cch, .slice dah dsh.length dch, .int .i64 rn, .int .i64 re]) (by simp) (fun b hb1 e => by have := HLVW.out b hb1; omega)
               have HDVW_VH := hide hd1
               have HDVH_VW := hide hd2
               replace HOVW := hide (HOVW.out.turn hT (fun b hb1 hx => hd1 b hb1 (by rw [fp_one, fpS_some (by simp)]; exact hx)))
               clear hd1 hd2
               obtain ⟨hd1, hd2⟩ := apart_var (S := (dsk cag (markC 1 csg) dag (markW (1 + tot csg) dsg))) (VB := VBVH) (cs := [.slice cah csh.length cch, .slice dah dsh.length dch, .int .i64 rn, .int .i64 re]) (by simp) (fun b hb1 e => by have := HLg.out b hb1; omega)
               have HDg_VH := hide hd1
               have HDVH_g := hide hd2
               replace HOg := hide (HOg.out.turn hT (fun b hb1 hx => hd1 b hb1 (by rw [fp_one, fpS_some (by simp)]; exact hx)))
               clear hd1 hd2
               obtain ⟨hd1, hd2⟩ := apart_var (S := [(some ⟨VBVG, 0, none⟩, [.slice cag csg.length ccg, .slice dag dsg.length dcg, .int .i64 rn, .int .i64 re])]) (VB := VBVH) (cs := [.slice cah csh.length cch, .slice dah dsh.length dch, .int .i64 rn, .int .i64 re]) (by simp) (fun b hb1 e => by have := HLVG.out b hb1; omega)
               have HDVG_VH := hide hd1
               have HDVH_VG := hide hd2
               replace HOVG := hide (HOVG.out.turn hT (fun b hb1 hx => hd1 b hb1 (by rw [fp_one, fpS_some (by simp)]; exact hx)))
               clear hd1 hd2
               obtain ⟨hd1, hd2⟩ := apart_var (S := (dsk cah csh dah dsh)) (VB := VBVH) (cs := [.slice cah csh.length cch, .slice dah dsh.length dch, .int .i64 rn, .int .i64 re]) (by simp) (fun b hb1 e => by have := hVB b hb1; omega)
               have HDh_VH := hide hd1
               have HDVH_h := hide hd2
               replace HOh := hide (HOh.out.turn hT (fun b hb1 hx => hd1 b hb1 (by rw [fp_one, fpS_some (by simp)]; exact hx)))
               clear hd1 hd2
               have HNVH : Hid (∀ b ∈ fp [((some ⟨VBVH, 0, none⟩ : Option Addr), [.slice cah csh.length cch, .slice dah dsh.length dch, .int .i64 rn, .int .i64 re])], w.heap.size ≤ b) := fun b hb1 => by have h1 : b = VBVH := (by simpa [fp, fpS] using hb1); have := HKW.out.size; omega
               replace HK := hide (hT.keeps HK.out (fun b hb1 => HNVH.out b (by rw [fp_one, fpS_some (by simp)]; exact hb1)))
               have HOVH := hide hOV
               clear hOV hT hrv hVN hVB)
            | (have hrv : w24.rowIs w23.heap.size _ _ _ := HRV.out
               have hVN := HVN.out
               have hVB := HVB.out
               clear HRV HVN HVB zV0 zV1 zV2 zV3 fV0 fV1 fV2 fV3 lV qVN
               obtain ⟨hOV, hT⟩ := var_turn4 hrv (.slice cah csh.length cch) (.slice dah dsh.length dch) (.int .i64 rn) (.int .i64 re)
               generalize ((((w24.setCell ⟨w23.heap.size, 0, none⟩ (.slice cah csh.length cch)).setCell ⟨w23.heap.size, 1, none⟩ (.slice dah dsh.length dch)).setCell ⟨w23.heap.size, 2, none⟩ (.int .i64 rn)).setCell ⟨w23.heap.size, 3, none⟩ (.int .i64 re)) = w25 at *
               generalize w23.heap.size = VBVH at *
               obtain ⟨hd1, hd2⟩ := apart_var (S := [(some ⟨w.heap.size, 0, none⟩, [.slice ca cs.length cc, .slice da ds.length dc, .int .i64 nx, .int .i64 ep])]) (VB := VBVH) (cs := [.slice cah csh.length cch, .slice dah dsh.length dch, .int .i64 rn, .int .i64 re]) (by simp) (fun b hb1 e => by have := HLA.out b hb1; omega)
               have HDA_VH := hide hd1
               have HDVH_A := hide hd2
               replace HOA := hide (HOA.out.turn hT (fun b hb1 hx => hd1 b hb1 (by rw [fp_one, fpS_some (by simp)]; exact hx)))
               clear hd1 hd2
               obtain ⟨hd1, hd2⟩ := apart_var (S := [(some ⟨w.heap.size + 1, 0, none⟩, [.int .i64 k, .int .i64 y, .int .i64 c, .int .i64 t, .int .i64 m, .int .i64 f, .bool b])]) (VB := VBVH) (cs := [.slice cah csh.length cch, .slice dah dsh.length dch, .int .i64 rn, .int .i64 re]) (by simp) (fun b hb1 e => by have := HLE.out b hb1; omega)
               have HDE_VH := hide hd1
               have HDVH_E := hide hd2
               replace HOE := hide (HOE.out.turn hT (fun b hb1 hx => hd1 b hb1 (by rw [fp_one, fpS_some (by simp)]; exact hx)))
               clear hd1 hd2
               obtain ⟨hd1, hd2⟩ := apart_var (S := (dsk caw csw daw dsw)) (VB := VBVH) (cs := [.slice cah csh.length cch, .slice dah dsh.length dch, .int .i64 rn, .int .i64 re]) (by simp) (fun b hb1 e => by have := HLw.out b hb1; omega)
               have HDw_VH := hide hd1
               have HDVH_w := hide hd2
               replace HOw := hide (HOw.out.turn hT (fun b hb1 hx => hd1 b hb1 (by rw [fp_one, fpS_some (by simp)]; exact hx)))
               clear hd1 hd2
               obtain ⟨hd1, hd2⟩ := apart_var (S := [(some ⟨VBVW, 0, none⟩, [.slice caw csw.length ccw, .slice daw dsw.length dcw, .int .i64 rn, .int .i64 re])]) (VB := VBVH) (cs := [.slice cah csh.length cch, .slice dah dsh.length dch, .int .i64 rn, .int .i64 re]) (by simp) (fun b hb1 e => by have := HLVW.out b hb1; omega)
               have HDVW_VH := hide hd1
               have HDVH_VW := hide hd2
               replace HOVW := hide (HOVW.out.turn hT (fun b hb1 hx => hd1 b hb1 (by rw [fp_one, fpS_some (by simp)]; exact hx)))
               clear hd1 hd2
               obtain ⟨hd1, hd2⟩ := apart_var (S := (dsk cag (markC 1 csg) dag (markW (1 + tot csg) dsg))) (VB := VBVH) (cs := [.slice cah csh.length cch, .slice dah dsh.length dch, .int .i64 rn, .int .i64 re]) (by simp) (fun b hb1 e => by have := HLg.out b hb1; omega)
               have HDg_VH := hide hd1
               have HDVH_g := hide hd2
               replace HOg := hide (HOg.out.turn hT (fun b hb1 hx => hd1 b hb1 (by rw [fp_one, fpS_some (by simp)]; exact hx)))
               clear hd1 hd2
               obtain ⟨hd1, hd2⟩ := apart_var (S := [(some ⟨VBVG, 0, none⟩, [.slice cag csg.length ccg, .slice dag dsg.length dcg, .int .i64 rn, .int .i64 re])]) (VB := VBVH) (cs := [.slice cah csh.length cch, .slice dah dsh.length dch, .int .i64 rn, .int .i64 re]) (by simp) (fun b hb1 e => by have := HLVG.out b hb1; omega)
               have HDVG_VH := hide hd1
               have HDVH_VG := hide hd2
               replace HOVG := hide (HOVG.out.turn hT (fun b hb1 hx => hd1 b hb1 (by rw [fp_one, fpS_some (by simp)]; exact hx)))
               clear hd1 hd2
               obtain ⟨hd1, hd2⟩ := apart_var (S := (dsk cah csh dah dsh)) (VB := VBVH) (cs := [.slice cah csh.length cch, .slice dah dsh.length dch, .int .i64 rn, .int .i64 re]) (by simp) (fun b hb1 e => by have := hVB b hb1; omega)
               have HDh_VH := hide hd1
               have HDVH_h := hide hd2
               replace HOh := hide (HOh.out.turn hT (fun b hb1 hx => hd1 b hb1 (by rw [fp_one, fpS_some (by simp)]; exact hx)))
               clear hd1 hd2
               have HNVH : Hid (∀ b ∈ fp [((some ⟨VBVH, 0, none⟩ : Option Addr), [.slice cah csh.length cch, .slice dah dsh.length dch, .int .i64 rn, .int .i64 re])], w.heap.size ≤ b) := fun b hb1 => by have h1 : b = VBVH := (by simpa [fp, fpS] using hb1); have := HKW.out.size; omega
               replace HK := hide (hT.keeps HK.out (fun b hb1 => HNVH.out b (by rw [fp_one, fpS_some (by simp)]; exact hb1)))
               have HOVH := hide hOV
               clear hOV hT hrv hVN hVB)
            | (have hb := born_alloc w24 #[.slice cah csh.length cch, .slice dah dsh.length dch, .int .i64 rn, .int .i64 re] 47
               dsimp only at hb
               have hk := Keeps.alloc (Keeps.refl w24) (.cells #[.slice cah csh.length cch, .slice dah dsh.length dch, .int .i64 rn, .int .i64 re] 47)
               generalize w24.alloc (.cells #[.slice cah csh.length cch, .slice dah dsh.length dch, .int .i64 rn, .int .i64 re] 47) = w25 at *
               have HDA_VH := hide (hb.apart HOA.out.mem)
               have HDVH_A := hide (hb.apart' HOA.out.mem)
               have HDE_VH := hide (hb.apart HOE.out.mem)
               have HDVH_E := hide (hb.apart' HOE.out.mem)
               have HDw_VH := hide (hb.apart HOw.out.mem)
               have HDVH_w := hide (hb.apart' HOw.out.mem)
               have HDVW_VH := hide (hb.apart HOVW.out.mem)
               have HDVH_VW := hide (hb.apart' HOVW.out.mem)
               have HDg_VH := hide (hb.apart HOg.out.mem)
               have HDVH_g := hide (hb.apart' HOg.out.mem)
               have HDVG_VH := hide (hb.apart HOVG.out.mem)
               have HDVH_VG := hide (hb.apart' HOVG.out.mem)
               have HDh_VH := hide (hb.apart HOh.out.mem)
               have HDVH_h := hide (hb.apart' HOh.out.mem)
               have HNVH := hide ((hb.old HK.out).new)
               replace HK := hide (HK.out.trans hk)
               replace HOA := hide (HOA.out.kept hk)
               replace HOE := hide (HOE.out.kept hk)
               replace HOw := hide (HOw.out.kept hk)
               replace HOVW := hide (HOVW.out.kept hk)
               replace HOg := hide (HOg.out.kept hk)
               replace HOVG := hide (HOVG.out.kept hk)
               replace HOh := hide (HOh.out.kept hk)
               have HOVH := hide hb.toOwn
               clear hb hk
               generalize w24.heap.size = VBVH at *)
          clear HKR HKW qA qE HLA HLE HLw HLVW HLg HLVG
          exact ⟨rfl, VBVH, cau, ccu, csu, dau, dcu, dsu, cah, cch, csh, dah, dch, dsh, rfl, HK.out, HOA.out, HOE.out, HOw.out, HOVW.out, HOg.out, HOVG.out, HOh.out, HOVH.out, HDA_h.out, HDh_A.out, HDA_VH.out, HDVH_A.out, HDE_h.out, HDh_E.out, HDE_VH.out, HDVH_E.out, HDw_h.out, HDh_w.out, HDw_VH.out, HDVH_w.out, HDVW_h.out, HDh_VW.out, HDVW_VH.out, HDVH_VW.out, HDg_h.out, HDh_g.out, HDg_VH.out, HDVH_g.out, HDVG_h.out, HDh_VG.out, HDVG_VH.out, HDVH_VG.out, HDh_VH.out, HDVH_h.out, HNh.out, HNVH.out, HEh.out, HKh.out, HAh.out, HBh.out⟩
      · rintro VBVH cau ccu csu dau dcu dsu cah cch csh dah dch dsh w26 ⟨f0, f1, f2, f3, f4, f5, f6, f7, f8, f9, f10, f11, f12, f13, f14, f15, f16, f17, f18, f19, f20, f21, f22, f23, f24, f25, f26, f27, f28, f29, f30, f31, f32, f33, f34, f35, f36, f37, f38, f39, f40⟩
        replace HK := hide f0
        replace HOA := hide f1
        replace HOE := hide f2
        replace HOw := hide f3
        replace HOVW := hide f4
        replace HOg := hide f5
        replace HOVG := hide f6
        have HOh := hide f7
        have HOVH := hide f8
        have HDA_h := hide f9
        have HDh_A := hide f10
        have HDA_VH := hide f11
        have HDVH_A := hide f12
        have HDE_h := hide f13
        have HDh_E := hide f14
        have HDE_VH := hide f15
        have HDVH_E := hide f16
        have HDw_h := hide f17
        have HDh_w := hide f18
        have HDw_VH := hide f19
        have HDVH_w := hide f20
        have HDVW_h := hide f21
        have HDh_VW := hide f22
        have HDVW_VH := hide f23
        have HDVH_VW := hide f24
        have HDg_h := hide f25
        have HDh_g := hide f26
        have HDg_VH := hide f27
        have HDVH_g := hide f28
        have HDVG_h := hide f29
        have HDh_VG := hide f30
        have HDVG_VH := hide f31
        have HDVH_VG := hide f32
        have HDh_VH := hide f33
        have HDVH_h := hide f34
        have HNh := hide f35
        have HNVH := hide f36
        have HEh := hide f37
        have HKh := hide f38
        have HAh := hide f39
        have HBh := hide f40
        clear f0 f1 f2 f3 f4 f5 f6 f7 f8 f9 f10 f11 f12 f13 f14 f15 f16 f17 f18 f19 f20 f21 f22 f23 f24 f25 f26 f27 f28 f29 f30 f31 f32 f33 f34 f35 f36 f37 f38 f39 f40
        have cA0 := cell_at HOA.out.mem 0 (by simp)
        have cA1 := cell_at HOA.out.mem 1 (by simp)
        have cA2 := cell_at HOA.out.mem 2 (by simp)
        have cA3 := cell_at HOA.out.mem 3 (by simp)
        simp only [Nat.zero_add, List.getElem_cons_zero, List.getElem_cons_succ] at cA0 cA1 cA2 cA3
        have lA := lt_of_cell cA0
        have cE0 := cell_at HOE.out.mem 0 (by simp)
        have cE1 := cell_at HOE.out.mem 1 (by simp)
        have cE2 := cell_at HOE.out.mem 2 (by simp)
        have cE3 := cell_at HOE.out.mem 3 (by simp)
        have cE4 := cell_at HOE.out.mem 4 (by simp)
        have cE5 := cell_at HOE.out.mem 5 (by simp)
        have cE6 := cell_at HOE.out.mem 6 (by simp)
        simp only [Nat.zero_add, List.getElem_cons_zero, List.getElem_cons_succ] at cE0 cE1 cE2 cE3 cE4 cE5 cE6
        have lE := lt_of_cell cE0
        have cVW0 := cell_at HOVW.out.mem 0 (by simp)
        have cVW1 := cell_at HOVW.out.mem 1 (by simp)
        have cVW2 := cell_at HOVW.out.mem 2 (by simp)
        have cVW3 := cell_at HOVW.out.mem 3 (by simp)
        simp only [Nat.zero_add, List.getElem_cons_zero, List.getElem_cons_succ] at cVW0 cVW1 cVW2 cVW3
        have lVW := lt_of_cell cVW0
        have cVG0 := cell_at HOVG.out.mem 0 (by simp)
        have cVG1 := cell_at HOVG.out.mem 1 (by simp)
        have cVG2 := cell_at HOVG.out.mem 2 (by simp)
        have cVG3 := cell_at HOVG.out.mem 3 (by simp)
        simp only [Nat.zero_add, List.getElem_cons_zero, List.getElem_cons_succ] at cVG0 cVG1 cVG2 cVG3
        have lVG := lt_of_cell cVG0
        have cVH0 := cell_at HOVH.out.mem 0 (by simp)
        have cVH1 := cell_at HOVH.out.mem 1 (by simp)
        have cVH2 := cell_at HOVH.out.mem 2 (by simp)
        have cVH3 := cell_at HOVH.out.mem 3 (by simp)
        simp only [Nat.zero_add, List.getElem_cons_zero, List.getElem_cons_succ] at cVH0 cVH1 cVH2 cVH3
        have lVH := lt_of_cell cVH0
        go_wp2_with fail
        refine (eqLog' cah cch csh dah dch dsh caw ccw csw daw dcw dsw rn re w26 (HEw.out.trans HEh.out.symm) HOh.out.mem HOw.out.mem HKh.out).mono ?_
        rintro x w27 ⟨rfl, hk⟩
        clear cA0 cA1 cA2 cA3 lA cE0 cE1 cE2 cE3 cE4 cE5 cE6 lE cVW0 cVW1 cVW2 cVW3 lVW cVG0 cVG1 cVG2 cVG3 lVG cVH0 cVH1 cVH2 cVH3 lVH
        replace HK := hide (HK.out.trans hk)
        replace HOA := hide (HOA.out.kept hk)
        replace HOE := hide (HOE.out.kept hk)
        replace HOw := hide (HOw.out.kept hk)
        replace HOVW := hide (HOVW.out.kept hk)
        replace HOg := hide (HOg.out.kept hk)
        replace HOVG := hide (HOVG.out.kept hk)
        replace HOh := hide (HOh.out.kept hk)
        replace HOVH := hide (HOVH.out.kept hk)
        clear hk
        have cA0 := cell_at HOA.out.mem 0 (by simp)
        have cA1 := cell_at HOA.out.mem 1 (by simp)
        have cA2 := cell_at HOA.out.mem 2 (by simp)
        have cA3 := cell_at HOA.out.mem 3 (by simp)
        simp only [Nat.zero_add, List.getElem_cons_zero, List.getElem_cons_succ] at cA0 cA1 cA2 cA3
        have lA := lt_of_cell cA0
        have cE0 := cell_at HOE.out.mem 0 (by simp)
        have cE1 := cell_at HOE.out.mem 1 (by simp)
        have cE2 := cell_at HOE.out.mem 2 (by simp)
        have cE3 := cell_at HOE.out.mem 3 (by simp)
        have cE4 := cell_at HOE.out.mem 4 (by simp)
        have cE5 := cell_at HOE.out.mem 5 (by simp)
        have cE6 := cell_at HOE.out.mem 6 (by simp)
        simp only [Nat.zero_add, List.getElem_cons_zero, List.getElem_cons_succ] at cE0 cE1 cE2 cE3 cE4 cE5 cE6
        have lE := lt_of_cell cE0
        have cVW0 := cell_at HOVW.out.mem 0 (by simp)
        have cVW1 := cell_at HOVW.out.mem 1 (by simp)
        have cVW2 := cell_at HOVW.out.mem 2 (by simp)
        have cVW3 := cell_at HOVW.out.mem 3 (by simp)
        simp only [Nat.zero_add, List.getElem_cons_zero, List.getElem_cons_succ] at cVW0 cVW1 cVW2 cVW3
        have lVW := lt_of_cell cVW0
        have cVG0 := cell_at HOVG.out.mem 0 (by simp)
        have cVG1 := cell_at HOVG.out.mem 1 (by simp)
        have cVG2 := cell_at HOVG.out.mem 2 (by simp)
        have cVG3 := cell_at HOVG.out.mem 3 (by simp)
        simp only [Nat.zero_add, List.getElem_cons_zero, List.getElem_cons_succ] at cVG0 cVG1 cVG2 cVG3
        have lVG := lt_of_cell cVG0
        have cVH0 := cell_at HOVH.out.mem 0 (by simp)
        have cVH1 := cell_at HOVH.out.mem 1 (by simp)
        have cVH2 := cell_at HOVH.out.mem 2 (by simp)
        have cVH3 := cell_at HOVH.out.mem 3 (by simp)
        simp only [Nat.zero_add, List.getElem_cons_zero, List.getElem_cons_succ] at cVH0 cVH1 cVH2 cVH3
        have lVH := lt_of_cell cVH0
        go_wp2_with fail
        refine (heldLog' cag ccg csg dag dcg dsg rn re w27 HOg.out.mem HKg.out).mono ?_
        rintro x w28 ⟨rfl, hk⟩
        clear cA0 cA1 cA2 cA3 lA cE0 cE1 cE2 cE3 cE4 cE5 cE6 lE cVW0 cVW1 cVW2 cVW3 lVW cVG0 cVG1 cVG2 cVG3 lVG cVH0 cVH1 cVH2 cVH3 lVH
        replace HK := hide (HK.out.trans hk)
        replace HOA := hide (HOA.out.kept hk)
        replace HOE := hide (HOE.out.kept hk)
        replace HOw := hide (HOw.out.kept hk)
        replace HOVW := hide (HOVW.out.kept hk)
        replace HOg := hide (HOg.out.kept hk)
        replace HOVG := hide (HOVG.out.kept hk)
        replace HOh := hide (HOh.out.kept hk)
        replace HOVH := hide (HOVH.out.kept hk)
        clear hk
        go_wp2_with fail
        go_ret
        exact ⟨rfl, HK.out⟩

theorem own : ownKnob Try.prog.godebug = none := by kernel_rfl
theorem laidOut : laidOutB Try.prog = true := by kernel_rfl

set_option maxRecDepth 100000 in
theorem lifted (os : Os) (started : os.Started) (H : Type) (enc : TypeId × Value → H) :
    ReturnsInHanded {} Try.checked os 4 .any (Rows.fnExactLogAddSpec.pre6 enc Try.prog Try.f4 Rows.fnExactLogAddRow.domain false) (Rows.fnExactLogAddSpec.post enc Try.prog Try.f4 false true false false) := by
  refine returnsInHanded_of_change (C := Try.checked) own started (by kernel_rfl) Try.func4
    (ChangeSpec.witness6 (enc := enc) (C := Try.checked) false ⟨#[], #[.agg #[.slice none 0 0, .slice none 0 0, .int .i64 0, .int .i64 0], .agg #[.int .i64 0, .int .i64 0, .int .i64 0, .int .i64 0, .int .i64 0, .int .i64 0, .bool false]], []⟩ 8 (by kernel_rfl) (by kernel_rfl) (by kernel_rfl) (by kernel_rfl)) ?_
  intro W base args ds gs before hval0 hW hcnd _
  have hval : ∀ (j : Nat) t v, Try.f4.params[j]? = some t → args[j]? = some v → Value.okWide Try.prog W .any base t v := hval0
  have hW' := hW
  obtain ⟨p, q, hA0, hV, rfl, hfz, hnd⟩ := hW
  have hA : DataW.TrodAll enc Try.prog W 0 (fun _ => true) true Try.f4.params.toList args.toList ds p := hA0
  rw [Try.params4] at hA hval
  obtain ⟨v0, vs0, d0, ds0, p0, q0, hargs, rfl, rfl, h0, r0⟩ := trodAll_cons hA
  obtain ⟨v1, vs1, d1, ds1, p1, q1, rfl, rfl, rfl, h1, r1⟩ := trodAll_cons r0
  obtain ⟨rfl, rfl, rfl⟩ := trodAll_nil r1
  obtain rfl : args = #[v0, v1] := by cases args; simp_all
  obtain ⟨rfl, rfl⟩ := trodVars_none hV
  have lt0 := lt_row h0
  have k0 := h0
  obtain ⟨ca0, cc0, cs0, da0, dc0, ds0, nx0, ep0, rfl, hm0, ho0, wn0, we0⟩ := log_row (hval 0 42 v0 rfl rfl) h0
  have lt1 := lt_rowE h1
  have k1 := h1
  obtain ⟨k1e, y1, c1, t1, m1, f1, b1, rfl, wk1, wy1, wc1, wt1, wm1, wf1⟩ := event_row (hval 1 44 v1 rfl rfl) h1
  clear hA0 hval0
  refine (walk ca0 cc0 cs0 da0 dc0 ds0 nx0 ep0 k1e y1 c1 t1 m1 f1 b1 W hm0 ho0 wn0 we0 wk1 wy1 wc1 wt1 wm1 wf1).mono fun e W' ⟨he, hb⟩ => ?_
  subst he
  refine ⟨_, rfl, _, _, _, [], (p0 ++ (p1 ++ [])), [], hW', ?_, ?_, ?_, Below.frame hb _, fun h => by cases h⟩
  · exact trodAll_mk1 (shut_bool Try.underlying4 _)
  · exact (trodAll_cons_mk (Below.trod laidOut (by kernel_rfl) (of_decide_eq_true (by kernel_rfl)) k0 hb lt0) (trodAll_cons_mk (Below.trod laidOut (by kernel_rfl) (of_decide_eq_true (by kernel_rfl)) k1 hb lt1) trodAll_mk0))
  · exact rfl

theorem over : Rows.fnExactLogAddRow.holds Try.pinned (OpenSpec.ofChange Rows.fnExactLogAddSpec) :=
  OpenClaim.holds_of_wide 4 Try.f4 rfl rfl rfl rfl rfl rfl rfl ⟨rfl, rfl, rfl, rfl, rfl⟩ rfl rfl rfl rfl rfl (by kernel_rfl) Try.func4 (by kernel_rfl)
    (of_decide_eq_true (by kernel_rfl)) (by unfold Func.isWrapper; first | (rw [if_pos (by decide +kernel)]; kernel_rfl) | (rw [if_neg (by decide +kernel)]; exact ⟨rfl, rfl⟩))
    (fun os started H enc _ => lifted os started H enc)
end Go.Proofs.Ytphabdjhmahemaa.fnExactLogAdd
namespace Go.Proofs.Ytphabdjhmahemaa
theorem fnExactLogAdd_holds : Rows.FnExactLogAddSaid := fnExactLogAdd.over
end Go.Proofs.Ytphabdjhmahemaa
