/- At every argument Push answers as its model; it changes no argument, and its answer is new memory of its own. -/
import Derived.Test.YtaboogkioehkeaaPt
import Derived.Test.YtaboogkioehkeaaGrO
import Derived.Test.YtaboogkioehkeaaVars
import Derived.Test.YtaboogkioehkeaaRows
import Derived.WalkKit
import Derived.ProofKit
import Derived.OpenShut
import Derived.ChangeOld
import Derived.Below
namespace Go.Proofs.Ytaboogkioehkeaa.fnExactPush
open Go.ChangeShapes Go.WideShapes Go.ChangeAt Go.RowKit
set_option linter.unusedVariables false
set_option maxRecDepth 100000 in
set_option maxHeartbeats 4000000 in
theorem walk (G : Gf) (fa : Option Addr) (fc : Nat) (f : List Int) (ra : Option Addr) (rc : Nat) (Q : List Int) (w : World) (hm : Mem w G.segs) (hfit : G.fit) (hbig : G.E.length ≤ 9223372036854775807) (hfc : Cells w fa (its f)) (hfn : fa = none → fc = 0) (hfl : f.length ≤ 9223372036854775807) (hrc : Cells w ra (its Q)) (hrn : ra = none → rc = 0) (hql : Q.length ≤ 9223372036854775807) :
    Calls Try.prog 9 #[G.v, .slice fa f.length fc, .slice ra Q.length rc] w fun e w' => e = .returned (.bool true) ∧ Keeps w w' := by
  have HS := hide (fun w' => szGraph_k G 1048576 w' hbig (by decide) (by decide))
  have HT := hide (fun w' (hk : Keeps w w') (hl : G.len) => toGraph_k G w' (hm.kept hk) hl)
  clear hm hfit hbig
  have HIf := hide (fun w' (hk : Keeps w w') (hl : f.length ≤ 1048576) => toIntS_k fa fc f w' (hfc.kept hk) hl)
  clear hfc hfn
  have HIr := hide (fun w' (hk : Keeps w w') (hl : Q.length ≤ 1048576) => toIntS_k ra rc Q w' (hrc.kept hk) hl)
  clear hrc hrn
  obtain ⟨nn, ea, ec, E⟩ := G
  dsimp only [Gf.v] at *
  obtain ⟨RV, hRV⟩ : ∃ RV, RV = pushV nn E f Q := ⟨_, rfl⟩
  obtain ⟨rb, hrb⟩ : ∃ rb, rb = pushOk nn E f Q := ⟨_, rfl⟩
  have HCS : Hid (∀ (b bf br : Nat) (w1 : World), Mem w1 [(some ⟨b, 0, none⟩, egs E)] → Cells w1 (some ⟨bf, 0, none⟩) (its f) → Cells w1 (some ⟨br, 0, none⟩) (its Q) → E.length ≤ 1048576 → f.length ≤ 1048576 → Q.length ≤ 1048576 → Calls Try.prog 33 #[.agg #[.int .i64 nn, .slice (some ⟨b, 0, none⟩) E.length E.length], .slice (some ⟨bf, 0, none⟩) f.length f.length, .slice (some ⟨br, 0, none⟩) Q.length Q.length] w1 fun e w2 => ∃ a c, e = .returned (.tuple #[.slice a RV.length c, .bool rb]) ∧ Born w1 w2 [(a, its RV)] ∧ (a = none → c = 0) ∧ Keeps w1 w2) := fun b bf br w1 hm hf hr hl lf lr => by
    have h := push_spec ⟨nn, some ⟨b, 0, none⟩, E.length, E⟩ (some ⟨bf, 0, none⟩) f.length f (some ⟨br, 0, none⟩) Q.length Q w1 hm hf hr hl lf lr
    dsimp only at h
    rw [← hRV, ← hrb] at h
    exact h
  have HCI : Hid (∀ (b bf br : Nat) (w1 : World), Mem w1 [(some ⟨b, 0, none⟩, egs E)] → Cells w1 (some ⟨bf, 0, none⟩) (its f) → Cells w1 (some ⟨br, 0, none⟩) (its Q) → E.length ≤ 1048576 → f.length ≤ 1048576 → Q.length ≤ 1048576 → Calls Try.prog 21 #[.agg #[.int .i64 nn, .slice (some ⟨b, 0, none⟩) E.length E.length], .slice (some ⟨bf, 0, none⟩) f.length f.length, .slice (some ⟨br, 0, none⟩) Q.length Q.length] w1 fun e w2 => ∃ a c, e = .returned (.tuple #[.slice a RV.length c, .bool rb]) ∧ Born w1 w2 [(a, its RV)] ∧ (a = none → c = 0) ∧ Keeps w1 w2) := fun b bf br w1 hm hf hr hl lf lr => by
    have h := push_impl ⟨nn, some ⟨b, 0, none⟩, E.length, E⟩ (some ⟨bf, 0, none⟩) f.length f (some ⟨br, 0, none⟩) Q.length Q w1 hm hf hr hl lf lr
    dsimp only at h
    rw [← hRV, ← hrb] at h
    exact h
  have HLR : Hid (RV.length ≤ 1048576) := by show _ ≤ _; rw [hRV]; exact pushV_len nn E f Q
  have hrr : (rb != rb) = false := by simp
  clear hRV hrb
  go_enter Try.func9, Try.ntmps9
  have HK := hide (Keeps.refl w)
  by_cases hlf : f.length ≤ 1048576
  rotate_left
  · have HKA := hide (Keeps.alloc (Keeps.refl w) (.cells #[.int .i64 nn, .slice ea E.length ec] 40))
    go_wp2_with fail
    go_ret
    exact ⟨rfl, HKA.out⟩
  have HLf := hide hlf
  by_cases hlr : Q.length ≤ 1048576
  rotate_left
  · have HKA := hide (Keeps.alloc (Keeps.refl w) (.cells #[.int .i64 nn, .slice ea E.length ec] 40))
    go_wp2_with fail
    go_ret
    exact ⟨rfl, HKA.out⟩
  have HLr := hide hlr
  go_wp2_with fail
  have hb := born_alloc w #[.int .i64 nn, .slice ea E.length ec] 40
  dsimp only at hb
  have hk := Keeps.alloc (Keeps.refl w) (.cells #[.int .i64 nn, .slice ea E.length ec] 40)
  generalize w.alloc (.cells #[.int .i64 nn, .slice ea E.length ec] 40) = w1 at *
  have HNA := hide ((hb.old HK.out).new)
  replace HK := hide (HK.out.trans hk)
  have HOA := hide hb.toOwn
  clear hb hk
  have cA0 := cell_at HOA.out.mem 0 (by simp)
  have cA1 := cell_at HOA.out.mem 1 (by simp)
  simp only [Nat.zero_add, List.getElem_cons_zero, List.getElem_cons_succ] at cA0 cA1
  have lA := lt_of_cell cA0
  refine (unhide HS w1).mono ?_
  rintro x w2 ⟨r, rfl, hr1, hr, hk⟩
  clear cA0 cA1 lA
  replace HK := hide (HK.out.trans hk)
  replace HOA := hide (HOA.out.kept hk)
  clear hk
  have HL := hide hr
  clear hr HS
  by_cases hr0 : r < 0
  · go_wp2_with fail
    go_ret
    exact ⟨rfl, HK.out⟩
  replace HL := hide (HL.out (by omega))
  clear hfl
  clear hql
  have cA0 := cell_at HOA.out.mem 0 (by simp)
  have cA1 := cell_at HOA.out.mem 1 (by simp)
  simp only [Nat.zero_add, List.getElem_cons_zero, List.getElem_cons_succ] at cA0 cA1
  have lA := lt_of_cell cA0
  go_wp2_with fail
  refine (unhide HT w2 HK.out HL.out).mono ?_
  rintro x w3 ⟨bs, rfl, hb, hk⟩
  clear cA0 cA1 lA
  have HDA_s := hide (hb.apart HOA.out.mem)
  have HDs_A := hide (hb.apart' HOA.out.mem)
  have HNs := hide ((hb.old HK.out).new)
  replace HK := hide (HK.out.trans hk)
  replace HOA := hide (HOA.out.kept hk)
  have HOs := hide hb.toOwn
  clear hb hk
  have cA0 := cell_at HOA.out.mem 0 (by simp)
  have cA1 := cell_at HOA.out.mem 1 (by simp)
  simp only [Nat.zero_add, List.getElem_cons_zero, List.getElem_cons_succ] at cA0 cA1
  have lA := lt_of_cell cA0
  go_wp2_with fail
  refine (unhide HIf w3 HK.out HLf.out).mono ?_
  rintro x w4 ⟨bsf, rfl, hb, hk⟩
  clear cA0 cA1 lA
  have HDA_sf := hide (hb.apart HOA.out.mem)
  have HDsf_A := hide (hb.apart' HOA.out.mem)
  have HDs_sf := hide (hb.apart HOs.out.mem)
  have HDsf_s := hide (hb.apart' HOs.out.mem)
  have HNsf := hide ((hb.old HK.out).new)
  replace HK := hide (HK.out.trans hk)
  replace HOA := hide (HOA.out.kept hk)
  replace HOs := hide (HOs.out.kept hk)
  have HOsf := hide hb.toOwn
  clear hb hk
  have cA0 := cell_at HOA.out.mem 0 (by simp)
  have cA1 := cell_at HOA.out.mem 1 (by simp)
  simp only [Nat.zero_add, List.getElem_cons_zero, List.getElem_cons_succ] at cA0 cA1
  have lA := lt_of_cell cA0
  go_wp2_with fail
  refine (unhide HIr w4 HK.out HLr.out).mono ?_
  rintro x w5 ⟨bsr, rfl, hb, hk⟩
  clear cA0 cA1 lA
  have HDA_sr := hide (hb.apart HOA.out.mem)
  have HDsr_A := hide (hb.apart' HOA.out.mem)
  have HDs_sr := hide (hb.apart HOs.out.mem)
  have HDsr_s := hide (hb.apart' HOs.out.mem)
  have HDsf_sr := hide (hb.apart HOsf.out.mem)
  have HDsr_sf := hide (hb.apart' HOsf.out.mem)
  have HNsr := hide ((hb.old HK.out).new)
  replace HK := hide (HK.out.trans hk)
  replace HOA := hide (HOA.out.kept hk)
  replace HOs := hide (HOs.out.kept hk)
  replace HOsf := hide (HOsf.out.kept hk)
  have HOsr := hide hb.toOwn
  clear hb hk
  have cA0 := cell_at HOA.out.mem 0 (by simp)
  have cA1 := cell_at HOA.out.mem 1 (by simp)
  simp only [Nat.zero_add, List.getElem_cons_zero, List.getElem_cons_succ] at cA0 cA1
  have lA := lt_of_cell cA0
  go_wp2_with fail
  refine (unhide HCS bs bsf bsr w5 HOs.out.mem (HOsf.out.mem ((some ⟨bsf, 0, none⟩), its f) (by simp)) (HOsr.out.mem ((some ⟨bsr, 0, none⟩), its Q) (by simp)) HL.out HLf.out HLr.out).mono ?_
  rintro x w6 ⟨wa, wc, rfl, hb, hnn, hk⟩
  have HNNw := hide hnn
  clear hnn
  clear cA0 cA1 lA
  have HDA_w := hide (hb.apart HOA.out.mem)
  have HDw_A := hide (hb.apart' HOA.out.mem)
  have HDs_w := hide (hb.apart HOs.out.mem)
  have HDw_s := hide (hb.apart' HOs.out.mem)
  have HDsf_w := hide (hb.apart HOsf.out.mem)
  have HDw_sf := hide (hb.apart' HOsf.out.mem)
  have HDsr_w := hide (hb.apart HOsr.out.mem)
  have HDw_sr := hide (hb.apart' HOsr.out.mem)
  have HNw := hide ((hb.old HK.out).new)
  replace HK := hide (HK.out.trans hk)
  replace HOA := hide (HOA.out.kept hk)
  replace HOs := hide (HOs.out.kept hk)
  replace HOsf := hide (HOsf.out.kept hk)
  replace HOsr := hide (HOsr.out.kept hk)
  have HOw := hide hb.toOwn
  clear hb hk
  clear HOs HNs HDA_s HDs_A HDsf_s HDs_sf HDsr_s HDs_sr HDw_s HDs_w
  clear HOsf HNsf HDA_sf HDsf_A HDsr_sf HDsf_sr HDw_sf HDsf_w
  clear HOsr HNsr HDA_sr HDsr_A HDw_sr HDsr_w
  have cA0 := cell_at HOA.out.mem 0 (by simp)
  have cA1 := cell_at HOA.out.mem 1 (by simp)
  simp only [Nat.zero_add, List.getElem_cons_zero, List.getElem_cons_succ] at cA0 cA1
  have lA := lt_of_cell cA0
  go_wp2_with fail
  refine (unhide HT w6 HK.out HL.out).mono ?_
  rintro x w7 ⟨bx, rfl, hb, hk⟩
  clear cA0 cA1 lA
  have HDA_x := hide (hb.apart HOA.out.mem)
  have HDx_A := hide (hb.apart' HOA.out.mem)
  have HDw_x := hide (hb.apart HOw.out.mem)
  have HDx_w := hide (hb.apart' HOw.out.mem)
  have HNx := hide ((hb.old HK.out).new)
  replace HK := hide (HK.out.trans hk)
  replace HOA := hide (HOA.out.kept hk)
  replace HOw := hide (HOw.out.kept hk)
  have HOx := hide hb.toOwn
  clear hb hk
  have cA0 := cell_at HOA.out.mem 0 (by simp)
  have cA1 := cell_at HOA.out.mem 1 (by simp)
  simp only [Nat.zero_add, List.getElem_cons_zero, List.getElem_cons_succ] at cA0 cA1
  have lA := lt_of_cell cA0
  go_wp2_with fail
  have hb := born_alloc w7 #[.int .i64 nn, .slice (some ⟨bx, 0, none⟩) E.length E.length] 25
  dsimp only at hb
  have hk := Keeps.alloc (Keeps.refl w7) (.cells #[.int .i64 nn, .slice (some ⟨bx, 0, none⟩) E.length E.length] 25)
  generalize w7.alloc (.cells #[.int .i64 nn, .slice (some ⟨bx, 0, none⟩) E.length E.length] 25) = w8 at *
  clear cA0 cA1 lA
  have HDA_X := hide (hb.apart HOA.out.mem)
  have HDX_A := hide (hb.apart' HOA.out.mem)
  have HDw_X := hide (hb.apart HOw.out.mem)
  have HDX_w := hide (hb.apart' HOw.out.mem)
  have HDx_X := hide (hb.apart HOx.out.mem)
  have HDX_x := hide (hb.apart' HOx.out.mem)
  have HNX := hide ((hb.old HK.out).new)
  replace HK := hide (HK.out.trans hk)
  replace HOA := hide (HOA.out.kept hk)
  replace HOw := hide (HOw.out.kept hk)
  replace HOx := hide (HOx.out.kept hk)
  have HOX := hide hb.toOwn
  clear hb hk
  have cA0 := cell_at HOA.out.mem 0 (by simp)
  have cA1 := cell_at HOA.out.mem 1 (by simp)
  simp only [Nat.zero_add, List.getElem_cons_zero, List.getElem_cons_succ] at cA0 cA1
  have lA := lt_of_cell cA0
  have cX0 := cell_at HOX.out.mem 0 (by simp)
  have cX1 := cell_at HOX.out.mem 1 (by simp)
  simp only [Nat.zero_add, List.getElem_cons_zero, List.getElem_cons_succ] at cX0 cX1
  have lX := lt_of_cell cX0
  go_wp2_with fail
  refine (unhide HIf w8 HK.out HLf.out).mono ?_
  rintro x w9 ⟨bxf, rfl, hb, hk⟩
  clear cA0 cA1 lA cX0 cX1 lX
  have HDA_xf := hide (hb.apart HOA.out.mem)
  have HDxf_A := hide (hb.apart' HOA.out.mem)
  have HDw_xf := hide (hb.apart HOw.out.mem)
  have HDxf_w := hide (hb.apart' HOw.out.mem)
  have HDx_xf := hide (hb.apart HOx.out.mem)
  have HDxf_x := hide (hb.apart' HOx.out.mem)
  have HDX_xf := hide (hb.apart HOX.out.mem)
  have HDxf_X := hide (hb.apart' HOX.out.mem)
  have HNxf := hide ((hb.old HK.out).new)
  replace HK := hide (HK.out.trans hk)
  replace HOA := hide (HOA.out.kept hk)
  replace HOw := hide (HOw.out.kept hk)
  replace HOx := hide (HOx.out.kept hk)
  replace HOX := hide (HOX.out.kept hk)
  have HOxf := hide hb.toOwn
  clear hb hk
  have cA0 := cell_at HOA.out.mem 0 (by simp)
  have cA1 := cell_at HOA.out.mem 1 (by simp)
  simp only [Nat.zero_add, List.getElem_cons_zero, List.getElem_cons_succ] at cA0 cA1
  have lA := lt_of_cell cA0
  have cX0 := cell_at HOX.out.mem 0 (by simp)
  have cX1 := cell_at HOX.out.mem 1 (by simp)
  simp only [Nat.zero_add, List.getElem_cons_zero, List.getElem_cons_succ] at cX0 cX1
  have lX := lt_of_cell cX0
  go_wp2_with fail
  refine (unhide HIr w9 HK.out HLr.out).mono ?_
  rintro x w10 ⟨bxr, rfl, hb, hk⟩
  clear cA0 cA1 lA cX0 cX1 lX
  have HDA_xr := hide (hb.apart HOA.out.mem)
  have HDxr_A := hide (hb.apart' HOA.out.mem)
  have HDw_xr := hide (hb.apart HOw.out.mem)
  have HDxr_w := hide (hb.apart' HOw.out.mem)
  have HDx_xr := hide (hb.apart HOx.out.mem)
  have HDxr_x := hide (hb.apart' HOx.out.mem)
  have HDX_xr := hide (hb.apart HOX.out.mem)
  have HDxr_X := hide (hb.apart' HOX.out.mem)
  have HDxf_xr := hide (hb.apart HOxf.out.mem)
  have HDxr_xf := hide (hb.apart' HOxf.out.mem)
  have HNxr := hide ((hb.old HK.out).new)
  replace HK := hide (HK.out.trans hk)
  replace HOA := hide (HOA.out.kept hk)
  replace HOw := hide (HOw.out.kept hk)
  replace HOx := hide (HOx.out.kept hk)
  replace HOX := hide (HOX.out.kept hk)
  replace HOxf := hide (HOxf.out.kept hk)
  have HOxr := hide hb.toOwn
  clear hb hk
  have cA0 := cell_at HOA.out.mem 0 (by simp)
  have cA1 := cell_at HOA.out.mem 1 (by simp)
  simp only [Nat.zero_add, List.getElem_cons_zero, List.getElem_cons_succ] at cA0 cA1
  have lA := lt_of_cell cA0
  have cX0 := cell_at HOX.out.mem 0 (by simp)
  have cX1 := cell_at HOX.out.mem 1 (by simp)
  simp only [Nat.zero_add, List.getElem_cons_zero, List.getElem_cons_succ] at cX0 cX1
  have lX := lt_of_cell cX0
  go_wp2_with fail
  refine (unhide HCI bx bxf bxr w10 HOx.out.mem (HOxf.out.mem ((some ⟨bxf, 0, none⟩), its f) (by simp)) (HOxr.out.mem ((some ⟨bxr, 0, none⟩), its Q) (by simp)) HL.out HLf.out HLr.out).mono ?_
  rintro x w11 ⟨ga, gc, rfl, hb, hnn, hk⟩
  have HNNg := hide hnn
  clear hnn
  clear cA0 cA1 lA cX0 cX1 lX
  have HDA_g := hide (hb.apart HOA.out.mem)
  have HDg_A := hide (hb.apart' HOA.out.mem)
  have HDw_g := hide (hb.apart HOw.out.mem)
  have HDg_w := hide (hb.apart' HOw.out.mem)
  have HDx_g := hide (hb.apart HOx.out.mem)
  have HDg_x := hide (hb.apart' HOx.out.mem)
  have HDX_g := hide (hb.apart HOX.out.mem)
  have HDg_X := hide (hb.apart' HOX.out.mem)
  have HDxf_g := hide (hb.apart HOxf.out.mem)
  have HDg_xf := hide (hb.apart' HOxf.out.mem)
  have HDxr_g := hide (hb.apart HOxr.out.mem)
  have HDg_xr := hide (hb.apart' HOxr.out.mem)
  have HNg := hide ((hb.old HK.out).new)
  replace HK := hide (HK.out.trans hk)
  replace HOA := hide (HOA.out.kept hk)
  replace HOw := hide (HOw.out.kept hk)
  replace HOx := hide (HOx.out.kept hk)
  replace HOX := hide (HOX.out.kept hk)
  replace HOxf := hide (HOxf.out.kept hk)
  replace HOxr := hide (HOxr.out.kept hk)
  have HOg := hide hb.toOwn
  clear hb hk
  have cA0 := cell_at HOA.out.mem 0 (by simp)
  have cA1 := cell_at HOA.out.mem 1 (by simp)
  simp only [Nat.zero_add, List.getElem_cons_zero, List.getElem_cons_succ] at cA0 cA1
  have lA := lt_of_cell cA0
  have cX0 := cell_at HOX.out.mem 0 (by simp)
  have cX1 := cell_at HOX.out.mem 1 (by simp)
  simp only [Nat.zero_add, List.getElem_cons_zero, List.getElem_cons_succ] at cX0 cX1
  have lX := lt_of_cell cX0
  go_wp2_with fail
  refine (eqInts_k ga wa gc wc RV w11 (HOg.out.mem (ga, its RV) (by simp)) (HOw.out.mem (wa, its RV) (by simp)) HLR.out).mono ?_
  rintro x w12 ⟨rfl, hk⟩
  clear cA0 cA1 lA cX0 cX1 lX
  replace HK := hide (HK.out.trans hk)
  replace HOA := hide (HOA.out.kept hk)
  replace HOw := hide (HOw.out.kept hk)
  replace HOx := hide (HOx.out.kept hk)
  replace HOX := hide (HOX.out.kept hk)
  replace HOxf := hide (HOxf.out.kept hk)
  replace HOxr := hide (HOxr.out.kept hk)
  replace HOg := hide (HOg.out.kept hk)
  clear hk
  have cA0 := cell_at HOA.out.mem 0 (by simp)
  have cA1 := cell_at HOA.out.mem 1 (by simp)
  simp only [Nat.zero_add, List.getElem_cons_zero, List.getElem_cons_succ] at cA0 cA1
  have lA := lt_of_cell cA0
  have cX0 := cell_at HOX.out.mem 0 (by simp)
  have cX1 := cell_at HOX.out.mem 1 (by simp)
  simp only [Nat.zero_add, List.getElem_cons_zero, List.getElem_cons_succ] at cX0 cX1
  have lX := lt_of_cell cX0
  go_wp2_with fail
  go_region_held3 (fun w' => w'.cell? ⟨w7.heap.size, 0, none⟩ = some (.int .i64 nn) ∧ w'.cell? ⟨w7.heap.size, 1, none⟩ = some (.slice (some ⟨bx, 0, none⟩) E.length E.length) ∧ w'.cell? ⟨w.heap.size, 0, none⟩ = some (.int .i64 nn) ∧ w'.cell? ⟨w.heap.size, 1, none⟩ = some (.slice ea E.length ec)) (go_keep)
    (first
       | (go_at_call 24
          refine (unhide HT _ (HK.out.trans (Keeps.refl w12).drew) HL.out).mono ?_
          rintro x w13 ⟨by1, rfl, hb, hk⟩
          replace hb := hb.old ((Keeps.refl w12).drew)
          replace hk := ((Keeps.refl w12).drew).trans hk
          clear cA0 cA1 lA cX0 cX1 lX
          have HDA_y := hide (hb.apart HOA.out.mem)
          have HDy_A := hide (hb.apart' HOA.out.mem)
          have HDw_y := hide (hb.apart HOw.out.mem)
          have HDy_w := hide (hb.apart' HOw.out.mem)
          have HDx_y := hide (hb.apart HOx.out.mem)
          have HDy_x := hide (hb.apart' HOx.out.mem)
          have HDX_y := hide (hb.apart HOX.out.mem)
          have HDy_X := hide (hb.apart' HOX.out.mem)
          have HDxf_y := hide (hb.apart HOxf.out.mem)
          have HDy_xf := hide (hb.apart' HOxf.out.mem)
          have HDxr_y := hide (hb.apart HOxr.out.mem)
          have HDy_xr := hide (hb.apart' HOxr.out.mem)
          have HDg_y := hide (hb.apart HOg.out.mem)
          have HDy_g := hide (hb.apart' HOg.out.mem)
          have HNy := hide ((hb.old HK.out).new)
          replace HK := hide (HK.out.trans hk)
          replace HOA := hide (HOA.out.kept hk)
          replace HOw := hide (HOw.out.kept hk)
          replace HOx := hide (HOx.out.kept hk)
          replace HOX := hide (HOX.out.kept hk)
          replace HOxf := hide (HOxf.out.kept hk)
          replace HOxr := hide (HOxr.out.kept hk)
          replace HOg := hide (HOg.out.kept hk)
          have HOy := hide hb.toOwn
          clear hb hk
          have cX0 := cell_at HOX.out.mem 0 (by simp)
          have cX1 := cell_at HOX.out.mem 1 (by simp)
          simp only [Nat.zero_add, List.getElem_cons_zero, List.getElem_cons_succ] at cX0 cX1
          have lX := lt_of_cell cX0
          have cA0 := cell_at HOA.out.mem 0 (by simp)
          have cA1 := cell_at HOA.out.mem 1 (by simp)
          simp only [Nat.zero_add, List.getElem_cons_zero, List.getElem_cons_succ] at cA0 cA1
          have lA := lt_of_cell cA0)
       | (go_at_call 26
          refine (eqGraph_k ⟨nn, some ⟨bx, 0, none⟩, E.length, E⟩ ⟨nn, some ⟨by1, 0, none⟩, E.length, E⟩ w13 rfl HOx.out.mem HOy.out.mem HL.out).mono ?_
          rintro x w14 ⟨rfl, hk⟩
          clear cX0 cX1 lX cA0 cA1 lA
          replace HK := hide (HK.out.trans hk)
          replace HOA := hide (HOA.out.kept hk)
          replace HOw := hide (HOw.out.kept hk)
          replace HOx := hide (HOx.out.kept hk)
          replace HOX := hide (HOX.out.kept hk)
          replace HOxf := hide (HOxf.out.kept hk)
          replace HOxr := hide (HOxr.out.kept hk)
          replace HOg := hide (HOg.out.kept hk)
          replace HOy := hide (HOy.out.kept hk)
          clear hk
          have cX0 := cell_at HOX.out.mem 0 (by simp)
          have cX1 := cell_at HOX.out.mem 1 (by simp)
          simp only [Nat.zero_add, List.getElem_cons_zero, List.getElem_cons_succ] at cX0 cX1
          have lX := lt_of_cell cX0
          have cA0 := cell_at HOA.out.mem 0 (by simp)
          have cA1 := cell_at HOA.out.mem 1 (by simp)
          simp only [Nat.zero_add, List.getElem_cons_zero, List.getElem_cons_succ] at cA0 cA1
          have lA := lt_of_cell cA0))
  clear HOy HNy HDA_y HDy_A HDw_y HDy_w HDx_y HDy_x HDX_y HDy_X HDxf_y HDy_xf HDxr_y HDy_xr HDg_y HDy_g
  clear cX0 cX1 lX cA0 cA1 lA
  have cA0 := cell_at HOA.out.mem 0 (by simp)
  have cA1 := cell_at HOA.out.mem 1 (by simp)
  simp only [Nat.zero_add, List.getElem_cons_zero, List.getElem_cons_succ] at cA0 cA1
  have lA := lt_of_cell cA0
  have cX0 := cell_at HOX.out.mem 0 (by simp)
  have cX1 := cell_at HOX.out.mem 1 (by simp)
  simp only [Nat.zero_add, List.getElem_cons_zero, List.getElem_cons_succ] at cX0 cX1
  have lX := lt_of_cell cX0
  go_wp2_with fail
  refine (unhide HIf w14 HK.out HLf.out).mono ?_
  rintro x w15 ⟨by2, rfl, hb, hk⟩
  clear cA0 cA1 lA cX0 cX1 lX
  have HDA_y := hide (hb.apart HOA.out.mem)
  have HDy_A := hide (hb.apart' HOA.out.mem)
  have HDw_y := hide (hb.apart HOw.out.mem)
  have HDy_w := hide (hb.apart' HOw.out.mem)
  have HDx_y := hide (hb.apart HOx.out.mem)
  have HDy_x := hide (hb.apart' HOx.out.mem)
  have HDX_y := hide (hb.apart HOX.out.mem)
  have HDy_X := hide (hb.apart' HOX.out.mem)
  have HDxf_y := hide (hb.apart HOxf.out.mem)
  have HDy_xf := hide (hb.apart' HOxf.out.mem)
  have HDxr_y := hide (hb.apart HOxr.out.mem)
  have HDy_xr := hide (hb.apart' HOxr.out.mem)
  have HDg_y := hide (hb.apart HOg.out.mem)
  have HDy_g := hide (hb.apart' HOg.out.mem)
  have HNy := hide ((hb.old HK.out).new)
  replace HK := hide (HK.out.trans hk)
  replace HOA := hide (HOA.out.kept hk)
  replace HOw := hide (HOw.out.kept hk)
  replace HOx := hide (HOx.out.kept hk)
  replace HOX := hide (HOX.out.kept hk)
  replace HOxf := hide (HOxf.out.kept hk)
  replace HOxr := hide (HOxr.out.kept hk)
  replace HOg := hide (HOg.out.kept hk)
  have HOy := hide hb.toOwn
  clear hb hk
  have cA0 := cell_at HOA.out.mem 0 (by simp)
  have cA1 := cell_at HOA.out.mem 1 (by simp)
  simp only [Nat.zero_add, List.getElem_cons_zero, List.getElem_cons_succ] at cA0 cA1
  have lA := lt_of_cell cA0
  have cX0 := cell_at HOX.out.mem 0 (by simp)
  have cX1 := cell_at HOX.out.mem 1 (by simp)
  simp only [Nat.zero_add, List.getElem_cons_zero, List.getElem_cons_succ] at cX0 cX1
  have lX := lt_of_cell cX0
  go_wp2_with fail
  refine (eqInts_k (some ⟨bxf, 0, none⟩) (some ⟨by2, 0, none⟩) f.length f.length f w15 (HOxf.out.mem ((some ⟨bxf, 0, none⟩), its f) (by simp)) (HOy.out.mem ((some ⟨by2, 0, none⟩), its f) (by simp)) HLf.out).mono ?_
  rintro x w16 ⟨rfl, hk⟩
  clear cA0 cA1 lA cX0 cX1 lX
  replace HK := hide (HK.out.trans hk)
  replace HOA := hide (HOA.out.kept hk)
  replace HOw := hide (HOw.out.kept hk)
  replace HOx := hide (HOx.out.kept hk)
  replace HOX := hide (HOX.out.kept hk)
  replace HOxf := hide (HOxf.out.kept hk)
  replace HOxr := hide (HOxr.out.kept hk)
  replace HOg := hide (HOg.out.kept hk)
  replace HOy := hide (HOy.out.kept hk)
  clear hk
  clear HOy HNy HDA_y HDy_A HDw_y HDy_w HDx_y HDy_x HDX_y HDy_X HDxf_y HDy_xf HDxr_y HDy_xr HDg_y HDy_g
  have cA0 := cell_at HOA.out.mem 0 (by simp)
  have cA1 := cell_at HOA.out.mem 1 (by simp)
  simp only [Nat.zero_add, List.getElem_cons_zero, List.getElem_cons_succ] at cA0 cA1
  have lA := lt_of_cell cA0
  have cX0 := cell_at HOX.out.mem 0 (by simp)
  have cX1 := cell_at HOX.out.mem 1 (by simp)
  simp only [Nat.zero_add, List.getElem_cons_zero, List.getElem_cons_succ] at cX0 cX1
  have lX := lt_of_cell cX0
  go_wp2_with fail
  refine (unhide HIr w16 HK.out HLr.out).mono ?_
  rintro x w17 ⟨by2, rfl, hb, hk⟩
  clear cA0 cA1 lA cX0 cX1 lX
  have HDA_y := hide (hb.apart HOA.out.mem)
  have HDy_A := hide (hb.apart' HOA.out.mem)
  have HDw_y := hide (hb.apart HOw.out.mem)
  have HDy_w := hide (hb.apart' HOw.out.mem)
  have HDx_y := hide (hb.apart HOx.out.mem)
  have HDy_x := hide (hb.apart' HOx.out.mem)
  have HDX_y := hide (hb.apart HOX.out.mem)
  have HDy_X := hide (hb.apart' HOX.out.mem)
  have HDxf_y := hide (hb.apart HOxf.out.mem)
  have HDy_xf := hide (hb.apart' HOxf.out.mem)
  have HDxr_y := hide (hb.apart HOxr.out.mem)
  have HDy_xr := hide (hb.apart' HOxr.out.mem)
  have HDg_y := hide (hb.apart HOg.out.mem)
  have HDy_g := hide (hb.apart' HOg.out.mem)
  have HNy := hide ((hb.old HK.out).new)
  replace HK := hide (HK.out.trans hk)
  replace HOA := hide (HOA.out.kept hk)
  replace HOw := hide (HOw.out.kept hk)
  replace HOx := hide (HOx.out.kept hk)
  replace HOX := hide (HOX.out.kept hk)
  replace HOxf := hide (HOxf.out.kept hk)
  replace HOxr := hide (HOxr.out.kept hk)
  replace HOg := hide (HOg.out.kept hk)
  have HOy := hide hb.toOwn
  clear hb hk
  have cA0 := cell_at HOA.out.mem 0 (by simp)
  have cA1 := cell_at HOA.out.mem 1 (by simp)
  simp only [Nat.zero_add, List.getElem_cons_zero, List.getElem_cons_succ] at cA0 cA1
  have lA := lt_of_cell cA0
  have cX0 := cell_at HOX.out.mem 0 (by simp)
  have cX1 := cell_at HOX.out.mem 1 (by simp)
  simp only [Nat.zero_add, List.getElem_cons_zero, List.getElem_cons_succ] at cX0 cX1
  have lX := lt_of_cell cX0
  go_wp2_with fail
  refine (eqInts_k (some ⟨bxr, 0, none⟩) (some ⟨by2, 0, none⟩) Q.length Q.length Q w17 (HOxr.out.mem ((some ⟨bxr, 0, none⟩), its Q) (by simp)) (HOy.out.mem ((some ⟨by2, 0, none⟩), its Q) (by simp)) HLr.out).mono ?_
  rintro x w18 ⟨rfl, hk⟩
  clear cA0 cA1 lA cX0 cX1 lX
  replace HK := hide (HK.out.trans hk)
  replace HOA := hide (HOA.out.kept hk)
  replace HOw := hide (HOw.out.kept hk)
  replace HOx := hide (HOx.out.kept hk)
  replace HOX := hide (HOX.out.kept hk)
  replace HOxf := hide (HOxf.out.kept hk)
  replace HOxr := hide (HOxr.out.kept hk)
  replace HOg := hide (HOg.out.kept hk)
  replace HOy := hide (HOy.out.kept hk)
  clear hk
  clear HOy HNy HDA_y HDy_A HDw_y HDy_w HDx_y HDy_x HDX_y HDy_X HDxf_y HDy_xf HDxr_y HDy_xr HDg_y HDy_g
  have cA0 := cell_at HOA.out.mem 0 (by simp)
  have cA1 := cell_at HOA.out.mem 1 (by simp)
  simp only [Nat.zero_add, List.getElem_cons_zero, List.getElem_cons_succ] at cA0 cA1
  have lA := lt_of_cell cA0
  have cX0 := cell_at HOX.out.mem 0 (by simp)
  have cX1 := cell_at HOX.out.mem 1 (by simp)
  simp only [Nat.zero_add, List.getElem_cons_zero, List.getElem_cons_succ] at cX0 cX1
  have lX := lt_of_cell cX0
  go_wp2_with fail
  refine (markGraph_k ⟨nn, some ⟨bx, 0, none⟩, E.length, E⟩ 1 w18 HOx.out HL.out (by decide)).mono ?_
  rintro x w19 ⟨rfl, ht⟩
  clear cA0 cA1 lA cX0 cX1 lX
  replace HK := hide (ht.keeps HK.out HNx.out)
  replace HOA := hide (HOA.out.turn ht HDA_x.out)
  replace HOw := hide (HOw.out.turn ht HDw_x.out)
  replace HOX := hide (HOX.out.turn ht HDX_x.out)
  replace HOxf := hide (HOxf.out.turn ht HDxf_x.out)
  replace HOxr := hide (HOxr.out.turn ht HDxr_x.out)
  replace HOg := hide (HOg.out.turn ht HDg_x.out)
  clear ht
  clear HOx HNx HDA_x HDx_A HDw_x HDx_w HDX_x HDx_X HDxf_x HDx_xf HDxr_x HDx_xr HDg_x HDx_g
  have hlfm := HLf.out
  have hlE : E.length ≤ 1048576 := HL.out
  have cA0 := cell_at HOA.out.mem 0 (by simp)
  have cA1 := cell_at HOA.out.mem 1 (by simp)
  simp only [Nat.zero_add, List.getElem_cons_zero, List.getElem_cons_succ] at cA0 cA1
  have lA := lt_of_cell cA0
  have cX0 := cell_at HOX.out.mem 0 (by simp)
  have cX1 := cell_at HOX.out.mem 1 (by simp)
  simp only [Nat.zero_add, List.getElem_cons_zero, List.getElem_cons_succ] at cX0 cX1
  have lX := lt_of_cell cX0
  go_wp2_with fail
  refine (markIntS_k (some ⟨bxf, 0, none⟩) f.length f (1 + 4 * E.length) w19 HOxf.out HLf.out (by omega)).mono ?_
  rintro x w20 ⟨rfl, ho, ht⟩
  clear cA0 cA1 lA cX0 cX1 lX
  replace HK := hide (ht.keeps HK.out HNxf.out)
  replace HOA := hide (HOA.out.turn ht HDA_xf.out)
  replace HOw := hide (HOw.out.turn ht HDw_xf.out)
  replace HOX := hide (HOX.out.turn ht HDX_xf.out)
  replace HOxr := hide (HOxr.out.turn ht HDxr_xf.out)
  replace HOg := hide (HOg.out.turn ht HDg_xf.out)
  clear ht
  clear ho
  clear HOxf HNxf HDA_xf HDxf_A HDw_xf HDxf_w HDX_xf HDxf_X HDxr_xf HDxf_xr HDg_xf HDxf_g
  clear hlfm hlE
  have hlrm := HLr.out
  have hlE : E.length ≤ 1048576 := HL.out
  have cA0 := cell_at HOA.out.mem 0 (by simp)
  have cA1 := cell_at HOA.out.mem 1 (by simp)
  simp only [Nat.zero_add, List.getElem_cons_zero, List.getElem_cons_succ] at cA0 cA1
  have lA := lt_of_cell cA0
  have cX0 := cell_at HOX.out.mem 0 (by simp)
  have cX1 := cell_at HOX.out.mem 1 (by simp)
  simp only [Nat.zero_add, List.getElem_cons_zero, List.getElem_cons_succ] at cX0 cX1
  have lX := lt_of_cell cX0
  go_wp2_with fail
  refine (markIntS_k (some ⟨bxr, 0, none⟩) Q.length Q ((1 + 4 * E.length) + f.length) w20 HOxr.out HLr.out (by omega)).mono ?_
  rintro x w21 ⟨rfl, ho, ht⟩
  clear cA0 cA1 lA cX0 cX1 lX
  replace HK := hide (ht.keeps HK.out HNxr.out)
  replace HOA := hide (HOA.out.turn ht HDA_xr.out)
  replace HOw := hide (HOw.out.turn ht HDw_xr.out)
  replace HOX := hide (HOX.out.turn ht HDX_xr.out)
  replace HOg := hide (HOg.out.turn ht HDg_xr.out)
  clear ht
  clear ho
  clear HOxr HNxr HDA_xr HDxr_A HDw_xr HDxr_w HDX_xr HDxr_X HDg_xr HDxr_g
  clear hlrm hlE
  have hpos : ¬ (((((1 + 4 * E.length) + f.length) + Q.length) : Nat) : Int) < 0 := by omega
  have cA0 := cell_at HOA.out.mem 0 (by simp)
  have cA1 := cell_at HOA.out.mem 1 (by simp)
  simp only [Nat.zero_add, List.getElem_cons_zero, List.getElem_cons_succ] at cA0 cA1
  have lA := lt_of_cell cA0
  have cX0 := cell_at HOX.out.mem 0 (by simp)
  have cX1 := cell_at HOX.out.mem 1 (by simp)
  simp only [Nat.zero_add, List.getElem_cons_zero, List.getElem_cons_succ] at cX0 cX1
  have lX := lt_of_cell cX0
  go_wp2_with fail
  refine (eqInts_k ga wa gc wc RV w21 (HOg.out.mem (ga, its RV) (by simp)) (HOw.out.mem (wa, its RV) (by simp)) HLR.out).mono ?_
  rintro x w22 ⟨rfl, hk⟩
  clear cA0 cA1 lA cX0 cX1 lX
  replace HK := hide (HK.out.trans hk)
  replace HOA := hide (HOA.out.kept hk)
  replace HOw := hide (HOw.out.kept hk)
  replace HOX := hide (HOX.out.kept hk)
  replace HOg := hide (HOg.out.kept hk)
  clear hk
  have cA0 := cell_at HOA.out.mem 0 (by simp)
  have cA1 := cell_at HOA.out.mem 1 (by simp)
  simp only [Nat.zero_add, List.getElem_cons_zero, List.getElem_cons_succ] at cA0 cA1
  have lA := lt_of_cell cA0
  have cX0 := cell_at HOX.out.mem 0 (by simp)
  have cX1 := cell_at HOX.out.mem 1 (by simp)
  simp only [Nat.zero_add, List.getElem_cons_zero, List.getElem_cons_succ] at cX0 cX1
  have lX := lt_of_cell cX0
  go_wp2_with fail
  refine (markIntS_k ga gc RV 1 w22 HOg.out HLR.out (by decide)).mono ?_
  rintro x w23 ⟨rfl, ho, ht⟩
  clear cA0 cA1 lA cX0 cX1 lX
  replace HK := hide (ht.keeps HK.out HNg.out)
  replace HOA := hide (HOA.out.turn ht HDA_g.out)
  replace HOw := hide (HOw.out.turn ht HDw_g.out)
  replace HOX := hide (HOX.out.turn ht HDX_g.out)
  clear ht
  replace HOg := hide ho
  clear ho
  have cA0 := cell_at HOA.out.mem 0 (by simp)
  have cA1 := cell_at HOA.out.mem 1 (by simp)
  simp only [Nat.zero_add, List.getElem_cons_zero, List.getElem_cons_succ] at cA0 cA1
  have lA := lt_of_cell cA0
  have cX0 := cell_at HOX.out.mem 0 (by simp)
  have cX1 := cell_at HOX.out.mem 1 (by simp)
  simp only [Nat.zero_add, List.getElem_cons_zero, List.getElem_cons_succ] at cX0 cX1
  have lX := lt_of_cell cX0
  go_wp2_with fail
  refine (heldIntS_k ga gc RV.length 1 w23 (HOg.out.mem (ga, its (marksI 1 RV.length)) (by simp)) HLR.out (by decide)).mono ?_
  rintro x w24 ⟨rfl, hw⟩
  clear cA0 cA1 lA cX0 cX1 lX
  subst hw
  have hq : ¬ ((1 + RV.length : Nat) : Int) < 0 := by omega
  have hq2 : (((1 + RV.length : Nat) : Int) != ((1 + RV.length : Nat) : Int)) = false := by simp
  have cA0 := cell_at HOA.out.mem 0 (by simp)
  have cA1 := cell_at HOA.out.mem 1 (by simp)
  simp only [Nat.zero_add, List.getElem_cons_zero, List.getElem_cons_succ] at cA0 cA1
  have lA := lt_of_cell cA0
  have cX0 := cell_at HOX.out.mem 0 (by simp)
  have cX1 := cell_at HOX.out.mem 1 (by simp)
  simp only [Nat.zero_add, List.getElem_cons_zero, List.getElem_cons_succ] at cX0 cX1
  have lX := lt_of_cell cX0
  go_wp2_with fail
  refine (unhide HT w24 HK.out HL.out).mono ?_
  rintro x w25 ⟨bh, rfl, hb, hk⟩
  clear cA0 cA1 lA cX0 cX1 lX
  have HDA_h := hide (hb.apart HOA.out.mem)
  have HDh_A := hide (hb.apart' HOA.out.mem)
  have HDw_h := hide (hb.apart HOw.out.mem)
  have HDh_w := hide (hb.apart' HOw.out.mem)
  have HDX_h := hide (hb.apart HOX.out.mem)
  have HDh_X := hide (hb.apart' HOX.out.mem)
  have HDg_h := hide (hb.apart HOg.out.mem)
  have HDh_g := hide (hb.apart' HOg.out.mem)
  have HNh := hide ((hb.old HK.out).new)
  replace HK := hide (HK.out.trans hk)
  replace HOA := hide (HOA.out.kept hk)
  replace HOw := hide (HOw.out.kept hk)
  replace HOX := hide (HOX.out.kept hk)
  replace HOg := hide (HOg.out.kept hk)
  have HOh := hide hb.toOwn
  clear hb hk
  have cA0 := cell_at HOA.out.mem 0 (by simp)
  have cA1 := cell_at HOA.out.mem 1 (by simp)
  simp only [Nat.zero_add, List.getElem_cons_zero, List.getElem_cons_succ] at cA0 cA1
  have lA := lt_of_cell cA0
  have cX0 := cell_at HOX.out.mem 0 (by simp)
  have cX1 := cell_at HOX.out.mem 1 (by simp)
  simp only [Nat.zero_add, List.getElem_cons_zero, List.getElem_cons_succ] at cX0 cX1
  have lX := lt_of_cell cX0
  go_wp2_with fail
  refine (unhide HIf w25 HK.out HLf.out).mono ?_
  rintro x w26 ⟨bhf, rfl, hb, hk⟩
  clear cA0 cA1 lA cX0 cX1 lX
  have HDA_hf := hide (hb.apart HOA.out.mem)
  have HDhf_A := hide (hb.apart' HOA.out.mem)
  have HDw_hf := hide (hb.apart HOw.out.mem)
  have HDhf_w := hide (hb.apart' HOw.out.mem)
  have HDX_hf := hide (hb.apart HOX.out.mem)
  have HDhf_X := hide (hb.apart' HOX.out.mem)
  have HDg_hf := hide (hb.apart HOg.out.mem)
  have HDhf_g := hide (hb.apart' HOg.out.mem)
  have HDh_hf := hide (hb.apart HOh.out.mem)
  have HDhf_h := hide (hb.apart' HOh.out.mem)
  have HNhf := hide ((hb.old HK.out).new)
  replace HK := hide (HK.out.trans hk)
  replace HOA := hide (HOA.out.kept hk)
  replace HOw := hide (HOw.out.kept hk)
  replace HOX := hide (HOX.out.kept hk)
  replace HOg := hide (HOg.out.kept hk)
  replace HOh := hide (HOh.out.kept hk)
  have HOhf := hide hb.toOwn
  clear hb hk
  have cA0 := cell_at HOA.out.mem 0 (by simp)
  have cA1 := cell_at HOA.out.mem 1 (by simp)
  simp only [Nat.zero_add, List.getElem_cons_zero, List.getElem_cons_succ] at cA0 cA1
  have lA := lt_of_cell cA0
  have cX0 := cell_at HOX.out.mem 0 (by simp)
  have cX1 := cell_at HOX.out.mem 1 (by simp)
  simp only [Nat.zero_add, List.getElem_cons_zero, List.getElem_cons_succ] at cX0 cX1
  have lX := lt_of_cell cX0
  go_wp2_with fail
  refine (unhide HIr w26 HK.out HLr.out).mono ?_
  rintro x w27 ⟨bhr, rfl, hb, hk⟩
  clear cA0 cA1 lA cX0 cX1 lX
  have HDA_hr := hide (hb.apart HOA.out.mem)
  have HDhr_A := hide (hb.apart' HOA.out.mem)
  have HDw_hr := hide (hb.apart HOw.out.mem)
  have HDhr_w := hide (hb.apart' HOw.out.mem)
  have HDX_hr := hide (hb.apart HOX.out.mem)
  have HDhr_X := hide (hb.apart' HOX.out.mem)
  have HDg_hr := hide (hb.apart HOg.out.mem)
  have HDhr_g := hide (hb.apart' HOg.out.mem)
  have HDh_hr := hide (hb.apart HOh.out.mem)
  have HDhr_h := hide (hb.apart' HOh.out.mem)
  have HDhf_hr := hide (hb.apart HOhf.out.mem)
  have HDhr_hf := hide (hb.apart' HOhf.out.mem)
  have HNhr := hide ((hb.old HK.out).new)
  replace HK := hide (HK.out.trans hk)
  replace HOA := hide (HOA.out.kept hk)
  replace HOw := hide (HOw.out.kept hk)
  replace HOX := hide (HOX.out.kept hk)
  replace HOg := hide (HOg.out.kept hk)
  replace HOh := hide (HOh.out.kept hk)
  replace HOhf := hide (HOhf.out.kept hk)
  have HOhr := hide hb.toOwn
  clear hb hk
  have cA0 := cell_at HOA.out.mem 0 (by simp)
  have cA1 := cell_at HOA.out.mem 1 (by simp)
  simp only [Nat.zero_add, List.getElem_cons_zero, List.getElem_cons_succ] at cA0 cA1
  have lA := lt_of_cell cA0
  have cX0 := cell_at HOX.out.mem 0 (by simp)
  have cX1 := cell_at HOX.out.mem 1 (by simp)
  simp only [Nat.zero_add, List.getElem_cons_zero, List.getElem_cons_succ] at cX0 cX1
  have lX := lt_of_cell cX0
  go_wp2_with fail
  refine (unhide HCI bh bhf bhr w27 HOh.out.mem (HOhf.out.mem ((some ⟨bhf, 0, none⟩), its f) (by simp)) (HOhr.out.mem ((some ⟨bhr, 0, none⟩), its Q) (by simp)) HL.out HLf.out HLr.out).mono ?_
  rintro x w28 ⟨za, zc, rfl, hb, hnn, hk⟩
  have HNNz := hide hnn
  clear hnn
  clear cA0 cA1 lA cX0 cX1 lX
  have HDA_z := hide (hb.apart HOA.out.mem)
  have HDz_A := hide (hb.apart' HOA.out.mem)
  have HDw_z := hide (hb.apart HOw.out.mem)
  have HDz_w := hide (hb.apart' HOw.out.mem)
  have HDX_z := hide (hb.apart HOX.out.mem)
  have HDz_X := hide (hb.apart' HOX.out.mem)
  have HDg_z := hide (hb.apart HOg.out.mem)
  have HDz_g := hide (hb.apart' HOg.out.mem)
  have HDh_z := hide (hb.apart HOh.out.mem)
  have HDz_h := hide (hb.apart' HOh.out.mem)
  have HDhf_z := hide (hb.apart HOhf.out.mem)
  have HDz_hf := hide (hb.apart' HOhf.out.mem)
  have HDhr_z := hide (hb.apart HOhr.out.mem)
  have HDz_hr := hide (hb.apart' HOhr.out.mem)
  have HNz := hide ((hb.old HK.out).new)
  replace HK := hide (HK.out.trans hk)
  replace HOA := hide (HOA.out.kept hk)
  replace HOw := hide (HOw.out.kept hk)
  replace HOX := hide (HOX.out.kept hk)
  replace HOg := hide (HOg.out.kept hk)
  replace HOh := hide (HOh.out.kept hk)
  replace HOhf := hide (HOhf.out.kept hk)
  replace HOhr := hide (HOhr.out.kept hk)
  have HOz := hide hb.toOwn
  clear hb hk
  have cA0 := cell_at HOA.out.mem 0 (by simp)
  have cA1 := cell_at HOA.out.mem 1 (by simp)
  simp only [Nat.zero_add, List.getElem_cons_zero, List.getElem_cons_succ] at cA0 cA1
  have lA := lt_of_cell cA0
  have cX0 := cell_at HOX.out.mem 0 (by simp)
  have cX1 := cell_at HOX.out.mem 1 (by simp)
  simp only [Nat.zero_add, List.getElem_cons_zero, List.getElem_cons_succ] at cX0 cX1
  have lX := lt_of_cell cX0
  go_wp2_with fail
  refine (eqInts_k za wa zc wc RV w28 (HOz.out.mem (za, its RV) (by simp)) (HOw.out.mem (wa, its RV) (by simp)) HLR.out).mono ?_
  rintro x w29 ⟨rfl, hk⟩
  clear cA0 cA1 lA cX0 cX1 lX
  replace HK := hide (HK.out.trans hk)
  replace HOA := hide (HOA.out.kept hk)
  replace HOw := hide (HOw.out.kept hk)
  replace HOX := hide (HOX.out.kept hk)
  replace HOg := hide (HOg.out.kept hk)
  replace HOh := hide (HOh.out.kept hk)
  replace HOhf := hide (HOhf.out.kept hk)
  replace HOhr := hide (HOhr.out.kept hk)
  replace HOz := hide (HOz.out.kept hk)
  clear hk
  have cA0 := cell_at HOA.out.mem 0 (by simp)
  have cA1 := cell_at HOA.out.mem 1 (by simp)
  simp only [Nat.zero_add, List.getElem_cons_zero, List.getElem_cons_succ] at cA0 cA1
  have lA := lt_of_cell cA0
  have cX0 := cell_at HOX.out.mem 0 (by simp)
  have cX1 := cell_at HOX.out.mem 1 (by simp)
  simp only [Nat.zero_add, List.getElem_cons_zero, List.getElem_cons_succ] at cX0 cX1
  have lX := lt_of_cell cX0
  go_wp2_with fail
  refine (heldIntS_k ga gc RV.length 1 w29 (HOg.out.mem (ga, its (marksI 1 RV.length)) (by simp)) HLR.out (by decide)).mono ?_
  rintro x w30 ⟨rfl, hw⟩
  clear cA0 cA1 lA cX0 cX1 lX
  subst hw
  have cA0 := cell_at HOA.out.mem 0 (by simp)
  have cA1 := cell_at HOA.out.mem 1 (by simp)
  simp only [Nat.zero_add, List.getElem_cons_zero, List.getElem_cons_succ] at cA0 cA1
  have lA := lt_of_cell cA0
  have cX0 := cell_at HOX.out.mem 0 (by simp)
  have cX1 := cell_at HOX.out.mem 1 (by simp)
  simp only [Nat.zero_add, List.getElem_cons_zero, List.getElem_cons_succ] at cX0 cX1
  have lX := lt_of_cell cX0
  go_wp2_with fail
  go_ret
  exact ⟨rfl, HK.out⟩

theorem own : ownKnob Try.prog.godebug = none := by kernel_rfl
theorem laidOut : laidOutB Try.prog = true := by kernel_rfl

set_option maxRecDepth 100000 in
theorem lifted (os : Os) (started : os.Started) (H : Type) (enc : TypeId × Value → H) :
    ReturnsInHanded {} Try.checked os 9 .any (Rows.fnExactPushSpec.pre6 enc Try.prog Try.f9 Rows.fnExactPushRow.domain false) (Rows.fnExactPushSpec.post enc Try.prog Try.f9 false true false false) := by
  refine returnsInHanded_of_change (C := Try.checked) own started (by kernel_rfl) Try.func9
    (ChangeSpec.witness6 (enc := enc) (C := Try.checked) false ⟨#[], #[.agg #[.int .i64 0, .slice none 0 0], .slice none 0 0, .slice none 0 0], []⟩ 8 (by kernel_rfl) (by kernel_rfl) (by kernel_rfl) (by kernel_rfl)) ?_
  intro W base args ds gs before hval0 hW hcnd _
  have hval : ∀ (j : Nat) t v, Try.f9.params[j]? = some t → args[j]? = some v → Value.okWide Try.prog W .any base t v := hval0
  have hW' := hW
  obtain ⟨p, q, hA0, hV, rfl, hfz, hnd⟩ := hW
  have hA : DataW.TrodAll enc Try.prog W 0 (fun _ => true) true Try.f9.params.toList args.toList ds p := hA0
  rw [Try.params9] at hA hval
  obtain ⟨v0, vs0, d0, ds0, p0, q0, hargs, rfl, rfl, h0, r0⟩ := trodAll_cons hA
  obtain ⟨v1, vs1, d1, ds1, p1, q1, rfl, rfl, rfl, h1, r1⟩ := trodAll_cons r0
  obtain ⟨v2, vs2, d2, ds2, p2, q2, rfl, rfl, rfl, h2, r2⟩ := trodAll_cons r1
  obtain ⟨rfl, rfl, rfl⟩ := trodAll_nil r2
  obtain rfl : args = #[v0, v1, v2] := by cases args; simp_all
  obtain ⟨rfl, rfl⟩ := trodVars_none hV
  have lt0 := lt_row h0
  have k0 := h0
  obtain ⟨G0, rfl, hm0, hf0, hb0⟩ := graph_row (hval 0 40 v0 rfl rfl) h0
  have lt1 := lt_row h1
  have k1 := h1
  obtain ⟨a1, cap1, L1, rfl, hc1, hn1, hl1⟩ := ints_row (hval 1 27 v1 rfl rfl) h1
  have lt2 := lt_row h2
  have k2 := h2
  obtain ⟨a2, cap2, L2, rfl, hc2, hn2, hl2⟩ := ints_row (hval 2 27 v2 rfl rfl) h2
  clear hA0 hval0
  refine (walk G0 a1 cap1 L1 a2 cap2 L2 W hm0 hf0 hb0 hc1 hn1 hl1 hc2 hn2 hl2).mono fun e W' ⟨he, hb⟩ => ?_
  subst he
  refine ⟨_, rfl, _, _, _, [], (p0 ++ (p1 ++ (p2 ++ []))), [], hW', ?_, ?_, ?_, Below.frame hb _, fun h => by cases h⟩
  · exact trodAll_mk1 (shut_bool Try.underlying4 _)
  · exact (trodAll_cons_mk (Below.trod laidOut (by kernel_rfl) (of_decide_eq_true (by kernel_rfl)) k0 hb lt0) (trodAll_cons_mk (Below.trod laidOut (by kernel_rfl) (of_decide_eq_true (by kernel_rfl)) k1 hb lt1) (trodAll_cons_mk (Below.trod laidOut (by kernel_rfl) (of_decide_eq_true (by kernel_rfl)) k2 hb lt2) trodAll_mk0)))
  · exact rfl

theorem over : Rows.fnExactPushRow.holds Try.pinned (OpenSpec.ofChange Rows.fnExactPushSpec) :=
  OpenClaim.holds_of_wide 9 Try.f9 rfl rfl rfl rfl rfl rfl rfl ⟨rfl, rfl, rfl, rfl, rfl⟩ rfl rfl rfl rfl rfl (by kernel_rfl) Try.func9 (by kernel_rfl)
    (of_decide_eq_true (by kernel_rfl)) (by unfold Func.isWrapper; first | (rw [if_pos (by decide +kernel)]; kernel_rfl) | (rw [if_neg (by decide +kernel)]; exact ⟨rfl, rfl⟩))
    (fun os started H enc _ => lifted os started H enc)
end Go.Proofs.Ytaboogkioehkeaa.fnExactPush
namespace Go.Proofs.Ytaboogkioehkeaa
theorem fnExactPush_holds : Rows.FnExactPushSaid := fnExactPush.over
end Go.Proofs.Ytaboogkioehkeaa
