/- At every sector SectorBytes of the program answers as that of the model, writes into no argument, and its answer owns its memory; no condition. -/
import Derived.Test.YtmcidfjcppbocaaKeep
import Derived.Test.YtmcidfjcppbocaaOpen
import Derived.Test.YtmcidfjcppbocaaMem
import Derived.Test.YtmcidfjcppbocaaByt
import Derived.Test.YtmcidfjcppbocaaApn
import Derived.Test.YtmcidfjcppbocaaPut
import Derived.Test.YtmcidfjcppbocaaDsk
import Derived.Test.YtmcidfjcppbocaaSec
import Derived.Test.YtmcidfjcppbocaaVars
import Derived.Test.YtmcidfjcppbocaaZer
import Derived.Test.YtmcidfjcppbocaaSB
import Derived.Test.YtmcidfjcppbocaaSBS
import Derived.Test.YtmcidfjcppbocaaRows
import Derived.WalkKit
import Derived.ProofKit
import Derived.OpenShut
import Derived.ChangeOld
import Derived.Below
namespace Go.Proofs.Ytmcidfjcppbocaa.fnExactSectorBytes
open Go.ChangeShapes Go.WideShapes Go.ChangeAt Go.RowKit
set_option linter.unusedVariables false
set_option maxHeartbeats 2000000 in
theorem walk (q e : Int) (a : Option Addr) (cap : Nat) (L : List UInt8) (w : World) (hq : (Lit.int .i64 q).wf = true) (he : (Lit.int .i64 e).wf = true) (hc : Cells w a (bys L)) (hn : a = none → cap = 0) (hl : L.length ≤ 9223372036854775807) :
    Calls Try.prog 6 #[secV q e a L.length cap] w fun e w' => e = .returned (.bool true) ∧ Keeps w w' := by
  have HC := hide hc
  have HS := hide (fun w1 => szSector_k q e a L.length cap 1048576 w1 (by decide) (by decide) hl)
  clear hc hn hq he
  by_cases hlt : L.length ≤ 1048576
  · rw [if_pos (by omega)] at HS
    have HL := hide hlt
    have HL24 : Hid (L.length ≤ 16777216) := Nat.le_trans hlt (by decide)
    have HR24 : Hid ((secR q e L).length ≤ 16777216) := Nat.le_trans (secR_length q e L) (by decide)
    have HLL := hide hl
    have h1 : ¬ ((1048576 : Int) - L.length < 0) := by omega
    clear hlt hl
    go_enter Try.func6, Try.ntmps6
    have HK := hide (Keeps.refl w)
    go_wp2_with fail
    have hb := born_alloc w #[.int .i64 q, .int .i64 e, .slice a L.length cap] 41
    dsimp only at hb
    have hk := Keeps.alloc (Keeps.refl w) (.cells #[.int .i64 q, .int .i64 e, .slice a L.length cap] 41)
    generalize w.alloc (.cells #[.int .i64 q, .int .i64 e, .slice a L.length cap] 41) = w1 at *
    have HNA := hide ((hb.old HK.out).new)
    replace HK := hide (HK.out.trans hk)
    have HOA := hide hb.toOwn
    clear hb hk
    have cA0 := cell_at HOA.out.mem 0 (by simp)
    have cA1 := cell_at HOA.out.mem 1 (by simp)
    have cA2 := cell_at HOA.out.mem 2 (by simp)
    simp only [Nat.zero_add, List.getElem_cons_zero, List.getElem_cons_succ] at cA0 cA1 cA2
    refine (unhide HS w1).mono ?_
    rintro x w2 ⟨rfl, hk⟩
    clear cA0 cA1 cA2
    replace HK := hide (HK.out.trans hk)
    replace HOA := hide (HOA.out.kept hk)
    clear hk
    have cA0 := cell_at HOA.out.mem 0 (by simp)
    have cA1 := cell_at HOA.out.mem 1 (by simp)
    have cA2 := cell_at HOA.out.mem 2 (by simp)
    simp only [Nat.zero_add, List.getElem_cons_zero, List.getElem_cons_succ] at cA0 cA1 cA2
    go_wp2_with fail
    refine (toSector_k q e a cap L w2 (HC.out.kept HK.out) HL.out).mono ?_
    rintro x w3 ⟨b1, rfl, hb, hk⟩
    clear cA0 cA1 cA2
    have HDA_s := hide (hb.apart HOA.out.mem)
    have HDs_A := hide (hb.apart' HOA.out.mem)
    have HNs := hide ((hb.old HK.out).new)
    replace HK := hide (HK.out.trans hk)
    replace HOA := hide (HOA.out.kept hk)
    have HOs := hide hb.toOwn
    clear hb hk
    have cA0 := cell_at HOA.out.mem 0 (by simp)
    have cA1 := cell_at HOA.out.mem 1 (by simp)
    have cA2 := cell_at HOA.out.mem 2 (by simp)
    simp only [Nat.zero_add, List.getElem_cons_zero, List.getElem_cons_succ] at cA0 cA1 cA2
    go_wp2_with fail
    refine (secbytes_spec q e (some ⟨b1, 0, none⟩) L.length L w3 (HOs.out.mem ((some ⟨b1, 0, none⟩), bys L) (by simp)) (fun e => nomatch e) HLL.out).mono ?_
    rintro x w4 ⟨v, rfl, ho, hk⟩
    obtain ⟨aw, cw, rfl, _, hb⟩ := Born.of_owns ho
    clear ho
    clear cA0 cA1 cA2
    have HDA_w := hide (hb.apart HOA.out.mem)
    have HDw_A := hide (hb.apart' HOA.out.mem)
    have HDs_w := hide (hb.apart HOs.out.mem)
    have HDw_s := hide (hb.apart' HOs.out.mem)
    have HNw := hide ((hb.old HK.out).new)
    replace HK := hide (HK.out.trans hk)
    replace HOA := hide (HOA.out.kept hk)
    replace HOs := hide (HOs.out.kept hk)
    have HOw := hide hb.toOwn
    clear hb hk
    clear HOs HNs HDA_s HDs_A HDw_s HDs_w
    have cA0 := cell_at HOA.out.mem 0 (by simp)
    have cA1 := cell_at HOA.out.mem 1 (by simp)
    have cA2 := cell_at HOA.out.mem 2 (by simp)
    simp only [Nat.zero_add, List.getElem_cons_zero, List.getElem_cons_succ] at cA0 cA1 cA2
    go_wp2_with fail
    refine (toSector_k q e a cap L w4 (HC.out.kept HK.out) HL.out).mono ?_
    rintro x w5 ⟨b2, rfl, hb, hk⟩
    clear cA0 cA1 cA2
    have HDA_x := hide (hb.apart HOA.out.mem)
    have HDx_A := hide (hb.apart' HOA.out.mem)
    have HDw_x := hide (hb.apart HOw.out.mem)
    have HDx_w := hide (hb.apart' HOw.out.mem)
    have HNx := hide ((hb.old HK.out).new)
    replace HK := hide (HK.out.trans hk)
    replace HOA := hide (HOA.out.kept hk)
    replace HOw := hide (HOw.out.kept hk)
    have HOx := hide hb.toOwn
    clear hb hk
    have cA0 := cell_at HOA.out.mem 0 (by simp)
    have cA1 := cell_at HOA.out.mem 1 (by simp)
    have cA2 := cell_at HOA.out.mem 2 (by simp)
    simp only [Nat.zero_add, List.getElem_cons_zero, List.getElem_cons_succ] at cA0 cA1 cA2
    go_wp2_with fail
    have hb := born_alloc w5 #[.int .i64 q, .int .i64 e, .slice (some ⟨b2, 0, none⟩) L.length L.length] 44
    dsimp only at hb
    have hk := Keeps.alloc (Keeps.refl w5) (.cells #[.int .i64 q, .int .i64 e, .slice (some ⟨b2, 0, none⟩) L.length L.length] 44)
    generalize w5.alloc (.cells #[.int .i64 q, .int .i64 e, .slice (some ⟨b2, 0, none⟩) L.length L.length] 44) = w6 at *
    clear cA0 cA1 cA2
    have HDA_X := hide (hb.apart HOA.out.mem)
    have HDX_A := hide (hb.apart' HOA.out.mem)
    have HDw_X := hide (hb.apart HOw.out.mem)
    have HDX_w := hide (hb.apart' HOw.out.mem)
    have HDx_X := hide (hb.apart HOx.out.mem)
    have HDX_x := hide (hb.apart' HOx.out.mem)
    have HNX := hide ((hb.old HK.out).new)
    replace HK := hide (HK.out.trans hk)
    replace HOA := hide (HOA.out.kept hk)
    replace HOw := hide (HOw.out.kept hk)
    replace HOx := hide (HOx.out.kept hk)
    have HOX := hide hb.toOwn
    clear hb hk
    have cA0 := cell_at HOA.out.mem 0 (by simp)
    have cA1 := cell_at HOA.out.mem 1 (by simp)
    have cA2 := cell_at HOA.out.mem 2 (by simp)
    simp only [Nat.zero_add, List.getElem_cons_zero, List.getElem_cons_succ] at cA0 cA1 cA2
    have cX0 := cell_at HOX.out.mem 0 (by simp)
    have cX1 := cell_at HOX.out.mem 1 (by simp)
    have cX2 := cell_at HOX.out.mem 2 (by simp)
    simp only [Nat.zero_add, List.getElem_cons_zero, List.getElem_cons_succ] at cX0 cX1 cX2
    go_wp2_with fail
    refine (secbytes_impl q e (some ⟨b2, 0, none⟩) L.length L w6 (HOx.out.mem ((some ⟨b2, 0, none⟩), bys L) (by simp)) (fun e => nomatch e) HLL.out).mono ?_
    rintro x w7 ⟨v, rfl, ho, hk⟩
    obtain ⟨ag, cg, rfl, _, hb⟩ := Born.of_owns ho
    clear ho
    clear cA0 cA1 cA2 cX0 cX1 cX2
    have HDA_g := hide (hb.apart HOA.out.mem)
    have HDg_A := hide (hb.apart' HOA.out.mem)
    have HDw_g := hide (hb.apart HOw.out.mem)
    have HDg_w := hide (hb.apart' HOw.out.mem)
    have HDx_g := hide (hb.apart HOx.out.mem)
    have HDg_x := hide (hb.apart' HOx.out.mem)
    have HDX_g := hide (hb.apart HOX.out.mem)
    have HDg_X := hide (hb.apart' HOX.out.mem)
    have HNg := hide ((hb.old HK.out).new)
    replace HK := hide (HK.out.trans hk)
    replace HOA := hide (HOA.out.kept hk)
    replace HOw := hide (HOw.out.kept hk)
    replace HOx := hide (HOx.out.kept hk)
    replace HOX := hide (HOX.out.kept hk)
    have HOg := hide hb.toOwn
    clear hb hk
    have cA0 := cell_at HOA.out.mem 0 (by simp)
    have cA1 := cell_at HOA.out.mem 1 (by simp)
    have cA2 := cell_at HOA.out.mem 2 (by simp)
    simp only [Nat.zero_add, List.getElem_cons_zero, List.getElem_cons_succ] at cA0 cA1 cA2
    have cX0 := cell_at HOX.out.mem 0 (by simp)
    have cX1 := cell_at HOX.out.mem 1 (by simp)
    have cX2 := cell_at HOX.out.mem 2 (by simp)
    simp only [Nat.zero_add, List.getElem_cons_zero, List.getElem_cons_succ] at cX0 cX1 cX2
    go_wp2_with fail
    refine (eqBytes_k ag aw cg cw (secR q e L) w7 (HOg.out.mem (ag, bys (secR q e L)) (by simp)) (HOw.out.mem (aw, bys (secR q e L)) (by simp)) HR24.out).mono ?_
    rintro x w8 ⟨rfl, hk⟩
    clear cA0 cA1 cA2 cX0 cX1 cX2
    replace HK := hide (HK.out.trans hk)
    replace HOA := hide (HOA.out.kept hk)
    replace HOw := hide (HOw.out.kept hk)
    replace HOx := hide (HOx.out.kept hk)
    replace HOX := hide (HOX.out.kept hk)
    replace HOg := hide (HOg.out.kept hk)
    clear hk
    have cA0 := cell_at HOA.out.mem 0 (by simp)
    have cA1 := cell_at HOA.out.mem 1 (by simp)
    have cA2 := cell_at HOA.out.mem 2 (by simp)
    simp only [Nat.zero_add, List.getElem_cons_zero, List.getElem_cons_succ] at cA0 cA1 cA2
    have cX0 := cell_at HOX.out.mem 0 (by simp)
    have cX1 := cell_at HOX.out.mem 1 (by simp)
    have cX2 := cell_at HOX.out.mem 2 (by simp)
    simp only [Nat.zero_add, List.getElem_cons_zero, List.getElem_cons_succ] at cX0 cX1 cX2
    go_wp2_with fail
    have HT := hide (fun w' (hk : Keeps w8 w') => toSector_k q e a cap L w' ((HC.out.kept HK.out).kept hk) HL.out)
    go_region_held3 (fun w' => w'.cell? ⟨w5.heap.size, 0, none⟩ = some (.int .i64 q) ∧ w'.cell? ⟨w5.heap.size, 1, none⟩ = some (.int .i64 e) ∧ w'.cell? ⟨w5.heap.size, 2, none⟩ = some (.slice (some ⟨b2, 0, none⟩) L.length L.length) ∧ w'.cell? ⟨w.heap.size, 0, none⟩ = some (.int .i64 q) ∧ w'.cell? ⟨w.heap.size, 1, none⟩ = some (.int .i64 e) ∧ w'.cell? ⟨w.heap.size, 2, none⟩ = some (.slice a L.length cap)) (go_keep)
      (first
         | (go_at_call 27
            refine (unhide HT _ ((Keeps.refl w8).drew)).mono ?_
            rintro x w9 ⟨b5, rfl, hb, hk⟩
            replace hb := hb.old ((Keeps.refl w8).drew)
            replace hk := ((Keeps.refl w8).drew).trans hk
            clear cA0 cA1 cA2 cX0 cX1 cX2
            have HDA_y := hide (hb.apart HOA.out.mem)
            have HDy_A := hide (hb.apart' HOA.out.mem)
            have HDw_y := hide (hb.apart HOw.out.mem)
            have HDy_w := hide (hb.apart' HOw.out.mem)
            have HDx_y := hide (hb.apart HOx.out.mem)
            have HDy_x := hide (hb.apart' HOx.out.mem)
            have HDX_y := hide (hb.apart HOX.out.mem)
            have HDy_X := hide (hb.apart' HOX.out.mem)
            have HDg_y := hide (hb.apart HOg.out.mem)
            have HDy_g := hide (hb.apart' HOg.out.mem)
            have HNy := hide ((hb.old HK.out).new)
            replace HK := hide (HK.out.trans hk)
            replace HOA := hide (HOA.out.kept hk)
            replace HOw := hide (HOw.out.kept hk)
            replace HOx := hide (HOx.out.kept hk)
            replace HOX := hide (HOX.out.kept hk)
            replace HOg := hide (HOg.out.kept hk)
            have HOy := hide hb.toOwn
            clear hb hk
            have cX0 := cell_at HOX.out.mem 0 (by simp)
            have cX1 := cell_at HOX.out.mem 1 (by simp)
            have cX2 := cell_at HOX.out.mem 2 (by simp)
            simp only [Nat.zero_add, List.getElem_cons_zero, List.getElem_cons_succ] at cX0 cX1 cX2
            have cA0 := cell_at HOA.out.mem 0 (by simp)
            have cA1 := cell_at HOA.out.mem 1 (by simp)
            have cA2 := cell_at HOA.out.mem 2 (by simp)
            simp only [Nat.zero_add, List.getElem_cons_zero, List.getElem_cons_succ] at cA0 cA1 cA2)
         | (go_at_call 29
            refine (eqSector_k q e (some ⟨b2, 0, none⟩) (some ⟨b5, 0, none⟩) L.length L.length L w9 (HOx.out.mem ((some ⟨b2, 0, none⟩), bys L) (by simp)) (HOy.out.mem ((some ⟨b5, 0, none⟩), bys L) (by simp)) HL24.out).mono ?_
            rintro x w10 ⟨rfl, hk⟩
            clear cX0 cX1 cX2 cA0 cA1 cA2
            replace HK := hide (HK.out.trans hk)
            replace HOA := hide (HOA.out.kept hk)
            replace HOw := hide (HOw.out.kept hk)
            replace HOx := hide (HOx.out.kept hk)
            replace HOX := hide (HOX.out.kept hk)
            replace HOg := hide (HOg.out.kept hk)
            replace HOy := hide (HOy.out.kept hk)
            clear hk
            have cX0 := cell_at HOX.out.mem 0 (by simp)
            have cX1 := cell_at HOX.out.mem 1 (by simp)
            have cX2 := cell_at HOX.out.mem 2 (by simp)
            simp only [Nat.zero_add, List.getElem_cons_zero, List.getElem_cons_succ] at cX0 cX1 cX2
            have cA0 := cell_at HOA.out.mem 0 (by simp)
            have cA1 := cell_at HOA.out.mem 1 (by simp)
            have cA2 := cell_at HOA.out.mem 2 (by simp)
            simp only [Nat.zero_add, List.getElem_cons_zero, List.getElem_cons_succ] at cA0 cA1 cA2))
    clear HOy HNy HDA_y HDy_A HDw_y HDy_w HDx_y HDy_x HDX_y HDy_X HDg_y HDy_g
    clear HT
    clear cX0 cX1 cX2 cA0 cA1 cA2
    have cA0 := cell_at HOA.out.mem 0 (by simp)
    have cA1 := cell_at HOA.out.mem 1 (by simp)
    have cA2 := cell_at HOA.out.mem 2 (by simp)
    simp only [Nat.zero_add, List.getElem_cons_zero, List.getElem_cons_succ] at cA0 cA1 cA2
    have cX0 := cell_at HOX.out.mem 0 (by simp)
    have cX1 := cell_at HOX.out.mem 1 (by simp)
    have cX2 := cell_at HOX.out.mem 2 (by simp)
    simp only [Nat.zero_add, List.getElem_cons_zero, List.getElem_cons_succ] at cX0 cX1 cX2
    go_wp2_with fail
    refine (markSector_k q e (some ⟨b2, 0, none⟩) L.length L 1 w10 HOx.out HL24.out (by decide)).mono ?_
    rintro x w11 ⟨rfl, ho, ht⟩
    clear cA0 cA1 cA2 cX0 cX1 cX2
    replace HK := hide (ht.keeps HK.out HNx.out)
    replace HOA := hide (HOA.out.turn ht HDA_x.out)
    replace HOw := hide (HOw.out.turn ht HDw_x.out)
    replace HOX := hide (HOX.out.turn ht HDX_x.out)
    replace HOg := hide (HOg.out.turn ht HDg_x.out)
    clear ht
    replace HOx := hide ho
    clear ho
    have cA0 := cell_at HOA.out.mem 0 (by simp)
    have cA1 := cell_at HOA.out.mem 1 (by simp)
    have cA2 := cell_at HOA.out.mem 2 (by simp)
    simp only [Nat.zero_add, List.getElem_cons_zero, List.getElem_cons_succ] at cA0 cA1 cA2
    have cX0 := cell_at HOX.out.mem 0 (by simp)
    have cX1 := cell_at HOX.out.mem 1 (by simp)
    have cX2 := cell_at HOX.out.mem 2 (by simp)
    simp only [Nat.zero_add, List.getElem_cons_zero, List.getElem_cons_succ] at cX0 cX1 cX2
    go_wp2_with fail
    refine (eqBytes_k ag aw cg cw (secR q e L) w11 (HOg.out.mem (ag, bys (secR q e L)) (by simp)) (HOw.out.mem (aw, bys (secR q e L)) (by simp)) HR24.out).mono ?_
    rintro x w12 ⟨rfl, hk⟩
    clear cA0 cA1 cA2 cX0 cX1 cX2
    replace HK := hide (HK.out.trans hk)
    replace HOA := hide (HOA.out.kept hk)
    replace HOw := hide (HOw.out.kept hk)
    replace HOx := hide (HOx.out.kept hk)
    replace HOX := hide (HOX.out.kept hk)
    replace HOg := hide (HOg.out.kept hk)
    clear hk
    clear HOx HNx HDA_x HDx_A HDw_x HDx_w HDX_x HDx_X HDg_x HDx_g
    have cA0 := cell_at HOA.out.mem 0 (by simp)
    have cA1 := cell_at HOA.out.mem 1 (by simp)
    have cA2 := cell_at HOA.out.mem 2 (by simp)
    simp only [Nat.zero_add, List.getElem_cons_zero, List.getElem_cons_succ] at cA0 cA1 cA2
    go_wp2_with fail
    refine (markByteS_k ag cg (secR q e L) 1 w12 HOg.out HR24.out (by decide)).mono ?_
    rintro x w13 ⟨rfl, ho, ht⟩
    clear cA0 cA1 cA2
    replace HK := hide (ht.keeps HK.out HNg.out)
    replace HOA := hide (HOA.out.turn ht HDA_g.out)
    replace HOw := hide (HOw.out.turn ht HDw_g.out)
    replace HOX := hide (HOX.out.turn ht HDX_g.out)
    clear ht
    replace HOg := hide ho
    clear ho
    have cA0 := cell_at HOA.out.mem 0 (by simp)
    have cA1 := cell_at HOA.out.mem 1 (by simp)
    have cA2 := cell_at HOA.out.mem 2 (by simp)
    simp only [Nat.zero_add, List.getElem_cons_zero, List.getElem_cons_succ] at cA0 cA1 cA2
    go_wp2_with fail
    refine (heldByteS_k ag cg (secR q e L).length 1 w13 (HOg.out.mem (ag, bys (marksB 1 (secR q e L).length)) (by simp)) HR24.out (by decide)).mono ?_
    rintro x w14 ⟨rfl, hw⟩
    clear cA0 cA1 cA2
    subst hw
    have cA0 := cell_at HOA.out.mem 0 (by simp)
    have cA1 := cell_at HOA.out.mem 1 (by simp)
    have cA2 := cell_at HOA.out.mem 2 (by simp)
    simp only [Nat.zero_add, List.getElem_cons_zero, List.getElem_cons_succ] at cA0 cA1 cA2
    go_wp2_with fail
    refine (toSector_k q e a cap L w14 (HC.out.kept HK.out) HL.out).mono ?_
    rintro x w15 ⟨b6, rfl, hb, hk⟩
    clear cA0 cA1 cA2
    have HDA_z := hide (hb.apart HOA.out.mem)
    have HDz_A := hide (hb.apart' HOA.out.mem)
    have HDw_z := hide (hb.apart HOw.out.mem)
    have HDz_w := hide (hb.apart' HOw.out.mem)
    have HDX_z := hide (hb.apart HOX.out.mem)
    have HDz_X := hide (hb.apart' HOX.out.mem)
    have HDg_z := hide (hb.apart HOg.out.mem)
    have HDz_g := hide (hb.apart' HOg.out.mem)
    have HNz := hide ((hb.old HK.out).new)
    replace HK := hide (HK.out.trans hk)
    replace HOA := hide (HOA.out.kept hk)
    replace HOw := hide (HOw.out.kept hk)
    replace HOX := hide (HOX.out.kept hk)
    replace HOg := hide (HOg.out.kept hk)
    have HOz := hide hb.toOwn
    clear hb hk
    have cA0 := cell_at HOA.out.mem 0 (by simp)
    have cA1 := cell_at HOA.out.mem 1 (by simp)
    have cA2 := cell_at HOA.out.mem 2 (by simp)
    simp only [Nat.zero_add, List.getElem_cons_zero, List.getElem_cons_succ] at cA0 cA1 cA2
    go_wp2_with fail
    refine (secbytes_impl q e (some ⟨b6, 0, none⟩) L.length L w15 (HOz.out.mem ((some ⟨b6, 0, none⟩), bys L) (by simp)) (fun e => nomatch e) HLL.out).mono ?_
    rintro x w16 ⟨v, rfl, ho, hk⟩
    obtain ⟨ah, ch, rfl, _, hb⟩ := Born.of_owns ho
    clear ho
    clear cA0 cA1 cA2
    have HDA_h := hide (hb.apart HOA.out.mem)
    have HDh_A := hide (hb.apart' HOA.out.mem)
    have HDw_h := hide (hb.apart HOw.out.mem)
    have HDh_w := hide (hb.apart' HOw.out.mem)
    have HDX_h := hide (hb.apart HOX.out.mem)
    have HDh_X := hide (hb.apart' HOX.out.mem)
    have HDg_h := hide (hb.apart HOg.out.mem)
    have HDh_g := hide (hb.apart' HOg.out.mem)
    have HDz_h := hide (hb.apart HOz.out.mem)
    have HDh_z := hide (hb.apart' HOz.out.mem)
    have HNh := hide ((hb.old HK.out).new)
    replace HK := hide (HK.out.trans hk)
    replace HOA := hide (HOA.out.kept hk)
    replace HOw := hide (HOw.out.kept hk)
    replace HOX := hide (HOX.out.kept hk)
    replace HOg := hide (HOg.out.kept hk)
    replace HOz := hide (HOz.out.kept hk)
    have HOh := hide hb.toOwn
    clear hb hk
    clear HOz HNz HDA_z HDz_A HDw_z HDz_w HDX_z HDz_X HDg_z HDz_g HDh_z HDz_h
    have cA0 := cell_at HOA.out.mem 0 (by simp)
    have cA1 := cell_at HOA.out.mem 1 (by simp)
    have cA2 := cell_at HOA.out.mem 2 (by simp)
    simp only [Nat.zero_add, List.getElem_cons_zero, List.getElem_cons_succ] at cA0 cA1 cA2
    go_wp2_with fail
    refine (eqBytes_k ah aw ch cw (secR q e L) w16 (HOh.out.mem (ah, bys (secR q e L)) (by simp)) (HOw.out.mem (aw, bys (secR q e L)) (by simp)) HR24.out).mono ?_
    rintro x w17 ⟨rfl, hk⟩
    clear cA0 cA1 cA2
    replace HK := hide (HK.out.trans hk)
    replace HOA := hide (HOA.out.kept hk)
    replace HOw := hide (HOw.out.kept hk)
    replace HOX := hide (HOX.out.kept hk)
    replace HOg := hide (HOg.out.kept hk)
    replace HOh := hide (HOh.out.kept hk)
    clear hk
    have cA0 := cell_at HOA.out.mem 0 (by simp)
    have cA1 := cell_at HOA.out.mem 1 (by simp)
    have cA2 := cell_at HOA.out.mem 2 (by simp)
    simp only [Nat.zero_add, List.getElem_cons_zero, List.getElem_cons_succ] at cA0 cA1 cA2
    go_wp2_with fail
    refine (heldByteS_k ag cg (secR q e L).length 1 w17 (HOg.out.mem (ag, bys (marksB 1 (secR q e L).length)) (by simp)) HR24.out (by decide)).mono ?_
    rintro x w18 ⟨rfl, hw⟩
    clear cA0 cA1 cA2
    subst hw
    go_wp2_with fail
    go_ret
    exact ⟨rfl, HK.out⟩
  · have h1 : (1048576 : Int) < L.length := by omega
    rw [if_neg (by omega)] at HS
    clear hlt
    go_enter Try.func6, Try.ntmps6
    go_wp2_with fail
    refine (unhide HS _).mono ?_
    rintro e w0 ⟨rfl, hk0⟩
    go_wp2_with fail
    go_ret
    exact ⟨rfl, (Keeps.alloc (Keeps.refl w) _).trans hk0⟩

theorem own : ownKnob Try.prog.godebug = none := by kernel_rfl
theorem laidOut : laidOutB Try.prog = true := by kernel_rfl

set_option maxRecDepth 100000 in
theorem lifted (os : Os) (started : os.Started) (H : Type) (enc : TypeId × Value → H) :
    ReturnsInHanded {} Try.checked os 6 .any (Rows.fnExactSectorBytesSpec.pre6 enc Try.prog Try.f6 Rows.fnExactSectorBytesRow.domain false) (Rows.fnExactSectorBytesSpec.post enc Try.prog Try.f6 false true false false) := by
  refine returnsInHanded_of_change (C := Try.checked) own started (by kernel_rfl) Try.func6
    (ChangeSpec.witness6 (enc := enc) (C := Try.checked) false ⟨#[], #[.agg #[.int .i64 0, .int .i64 0, .slice none 0 0]], []⟩ 8 (by kernel_rfl) (by kernel_rfl) (by kernel_rfl) (by kernel_rfl)) ?_
  intro W base args ds gs before hval0 hW hcnd _
  have hval : ∀ (j : Nat) t v, Try.f6.params[j]? = some t → args[j]? = some v → Value.okWide Try.prog W .any base t v := hval0
  have hW' := hW
  obtain ⟨p, q, hA0, hV, rfl, hfz, hnd⟩ := hW
  have hA : DataW.TrodAll enc Try.prog W 0 (fun _ => true) true Try.f6.params.toList args.toList ds p := hA0
  rw [Try.params6] at hA hval
  obtain ⟨v0, vs0, d0, ds0, p0, q0, hargs, rfl, rfl, h0, r0⟩ := trodAll_cons hA
  obtain ⟨rfl, rfl, rfl⟩ := trodAll_nil r0
  obtain rfl : args = #[v0] := by cases args; simp_all
  obtain ⟨rfl, rfl⟩ := trodVars_none hV
  have lt0 := lt_row h0
  have k0 := h0
  obtain ⟨q0, e0, a0, cap0, L0, rfl, wq0, we0, hc0, hn0, hl0⟩ := sector_row (hval 0 41 v0 rfl rfl) h0
  clear hA0 hval0
  refine (walk q0 e0 a0 cap0 L0 W wq0 we0 hc0 hn0 hl0).mono fun e W' ⟨he, hb⟩ => ?_
  subst he
  refine ⟨_, rfl, _, _, _, [], (p0 ++ []), [], hW', ?_, ?_, ?_, Below.frame hb _, fun h => by cases h⟩
  · exact trodAll_mk1 (shut_bool Try.underlying4 _)
  · exact (trodAll_cons_mk (Below.trod laidOut (by kernel_rfl) (of_decide_eq_true (by kernel_rfl)) k0 hb lt0) trodAll_mk0)
  · exact rfl

theorem over : Rows.fnExactSectorBytesRow.holds Try.pinned (OpenSpec.ofChange Rows.fnExactSectorBytesSpec) :=
  OpenClaim.holds_of_wide 6 Try.f6 rfl rfl rfl rfl rfl rfl rfl ⟨rfl, rfl, rfl, rfl, rfl⟩ rfl rfl rfl rfl rfl (by kernel_rfl) Try.func6 (by kernel_rfl)
    (of_decide_eq_true (by kernel_rfl)) (by unfold Func.isWrapper; first | (rw [if_pos (by decide +kernel)]; kernel_rfl) | (rw [if_neg (by decide +kernel)]; exact ⟨rfl, rfl⟩))
    (fun os started H enc _ => lifted os started H enc)
end Go.Proofs.Ytmcidfjcppbocaa.fnExactSectorBytes
namespace Go.Proofs.Ytmcidfjcppbocaa
theorem sectorbytes_exact : Rows.FnExactSectorBytesSaid := fnExactSectorBytes.over
end Go.Proofs.Ytmcidfjcppbocaa
