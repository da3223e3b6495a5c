/- At every argument Cheapest answers as its model; it changes no argument, and its answer is new memory of its own. -/
import Derived.Test.YtaboogkioehkeaaChI
import Derived.Test.YtaboogkioehkeaaChS
import Derived.Test.YtaboogkioehkeaaGrO
import Derived.Test.YtaboogkioehkeaaVars
import Derived.Test.YtaboogkioehkeaaRows
import Derived.WalkKit
import Derived.ProofKit
import Derived.OpenShut
import Derived.ChangeOld
import Derived.Below
namespace Go.Proofs.Ytaboogkioehkeaa.fnExactCheapest
open Go.ChangeShapes Go.WideShapes Go.ChangeAt Go.RowKit
set_option linter.unusedVariables false
set_option maxRecDepth 100000 in
set_option maxHeartbeats 4000000 in
theorem walk (G : Gf) (w : World) (hm : Mem w G.segs) (hfit : G.fit) (hbig : G.E.length ≤ 9223372036854775807) :
    Calls Try.prog 10 #[G.v] w fun e w' => e = .returned (.bool true) ∧ Keeps w w' := by
  have HS := hide (fun w' => szGraph_k G 1048576 w' hbig (by decide) (by decide))
  have HT := hide (fun w' (hk : Keeps w w') (hl : G.len) => toGraph_k G w' (hm.kept hk) hl)
  clear hm hfit hbig
  obtain ⟨nn, ea, ec, E⟩ := G
  dsimp only [Gf.v] at *
  obtain ⟨RV, hRV⟩ : ∃ RV, RV = chV nn E := ⟨_, rfl⟩
  obtain ⟨rb, hrb⟩ : ∃ rb, rb = chOk nn E := ⟨_, rfl⟩
  have HCS : Hid (∀ (b : Nat) (w1 : World), Mem w1 [(some ⟨b, 0, none⟩, egs E)] → E.length ≤ 1048576 → Calls Try.prog 13 #[.agg #[.int .i64 nn, .slice (some ⟨b, 0, none⟩) E.length E.length]] w1 fun e w2 => ∃ a c, e = .returned (.tuple #[.slice a RV.length c, .bool rb]) ∧ Born w1 w2 [(a, its RV)] ∧ (a = none → c = 0) ∧ Keeps w1 w2) := fun b w1 hm hl => by
    have h := cheap_spec ⟨nn, some ⟨b, 0, none⟩, E.length, E⟩ w1 hm hl
    dsimp only at h
    rw [← hRV, ← hrb] at h
    exact h
  have HCI : Hid (∀ (b : Nat) (w1 : World), Mem w1 [(some ⟨b, 0, none⟩, egs E)] → E.length ≤ 1048576 → Calls Try.prog 12 #[.agg #[.int .i64 nn, .slice (some ⟨b, 0, none⟩) E.length E.length]] w1 fun e w2 => ∃ a c, e = .returned (.tuple #[.slice a RV.length c, .bool rb]) ∧ Born w1 w2 [(a, its RV)] ∧ (a = none → c = 0) ∧ Keeps w1 w2) := fun b w1 hm hl => by
    have h := cheap_impl ⟨nn, some ⟨b, 0, none⟩, E.length, E⟩ w1 hm hl
    dsimp only at h
    rw [← hRV, ← hrb] at h
    exact h
  have HLR : Hid (RV.length ≤ 1048576) := by show _ ≤ _; rw [hRV]; exact chV_len nn E
  have hrr : (rb != rb) = false := by simp
  clear hRV hrb
  go_enter Try.func10, Try.ntmps10
  have HK := hide (Keeps.refl w)
  go_wp2_with fail
  have hb := born_alloc w #[.int .i64 nn, .slice ea E.length ec] 40
  dsimp only at hb
  have hk := Keeps.alloc (Keeps.refl w) (.cells #[.int .i64 nn, .slice ea E.length ec] 40)
  generalize w.alloc (.cells #[.int .i64 nn, .slice ea E.length ec] 40) = w1 at *
  have HNA := hide ((hb.old HK.out).new)
  replace HK := hide (HK.out.trans hk)
  have HOA := hide hb.toOwn
  clear hb hk
  have cA0 := cell_at HOA.out.mem 0 (by simp)
  have cA1 := cell_at HOA.out.mem 1 (by simp)
  simp only [Nat.zero_add, List.getElem_cons_zero, List.getElem_cons_succ] at cA0 cA1
  have lA := lt_of_cell cA0
  refine (unhide HS w1).mono ?_
  rintro x w2 ⟨r, rfl, hr1, hr, hk⟩
  clear cA0 cA1 lA
  replace HK := hide (HK.out.trans hk)
  replace HOA := hide (HOA.out.kept hk)
  clear hk
  have HL := hide hr
  clear hr HS
  by_cases hr0 : r < 0
  · go_wp2_with fail
    go_ret
    exact ⟨rfl, HK.out⟩
  replace HL := hide (HL.out (by omega))
  have cA0 := cell_at HOA.out.mem 0 (by simp)
  have cA1 := cell_at HOA.out.mem 1 (by simp)
  simp only [Nat.zero_add, List.getElem_cons_zero, List.getElem_cons_succ] at cA0 cA1
  have lA := lt_of_cell cA0
  go_wp2_with fail
  refine (unhide HT w2 HK.out HL.out).mono ?_
  rintro x w3 ⟨bs, rfl, hb, hk⟩
  clear cA0 cA1 lA
  have HDA_s := hide (hb.apart HOA.out.mem)
  have HDs_A := hide (hb.apart' HOA.out.mem)
  have HNs := hide ((hb.old HK.out).new)
  replace HK := hide (HK.out.trans hk)
  replace HOA := hide (HOA.out.kept hk)
  have HOs := hide hb.toOwn
  clear hb hk
  have cA0 := cell_at HOA.out.mem 0 (by simp)
  have cA1 := cell_at HOA.out.mem 1 (by simp)
  simp only [Nat.zero_add, List.getElem_cons_zero, List.getElem_cons_succ] at cA0 cA1
  have lA := lt_of_cell cA0
  go_wp2_with fail
  refine (unhide HCS bs  w3 HOs.out.mem  HL.out ).mono ?_
  rintro x w4 ⟨wa, wc, rfl, hb, hnn, hk⟩
  have HNNw := hide hnn
  clear hnn
  clear cA0 cA1 lA
  have HDA_w := hide (hb.apart HOA.out.mem)
  have HDw_A := hide (hb.apart' HOA.out.mem)
  have HDs_w := hide (hb.apart HOs.out.mem)
  have HDw_s := hide (hb.apart' HOs.out.mem)
  have HNw := hide ((hb.old HK.out).new)
  replace HK := hide (HK.out.trans hk)
  replace HOA := hide (HOA.out.kept hk)
  replace HOs := hide (HOs.out.kept hk)
  have HOw := hide hb.toOwn
  clear hb hk
  clear HOs HNs HDA_s HDs_A HDw_s HDs_w
  have cA0 := cell_at HOA.out.mem 0 (by simp)
  have cA1 := cell_at HOA.out.mem 1 (by simp)
  simp only [Nat.zero_add, List.getElem_cons_zero, List.getElem_cons_succ] at cA0 cA1
  have lA := lt_of_cell cA0
  go_wp2_with fail
  refine (unhide HT w4 HK.out HL.out).mono ?_
  rintro x w5 ⟨bx, rfl, hb, hk⟩
  clear cA0 cA1 lA
  have HDA_x := hide (hb.apart HOA.out.mem)
  have HDx_A := hide (hb.apart' HOA.out.mem)
  have HDw_x := hide (hb.apart HOw.out.mem)
  have HDx_w := hide (hb.apart' HOw.out.mem)
  have HNx := hide ((hb.old HK.out).new)
  replace HK := hide (HK.out.trans hk)
  replace HOA := hide (HOA.out.kept hk)
  replace HOw := hide (HOw.out.kept hk)
  have HOx := hide hb.toOwn
  clear hb hk
  have cA0 := cell_at HOA.out.mem 0 (by simp)
  have cA1 := cell_at HOA.out.mem 1 (by simp)
  simp only [Nat.zero_add, List.getElem_cons_zero, List.getElem_cons_succ] at cA0 cA1
  have lA := lt_of_cell cA0
  go_wp2_with fail
  have hb := born_alloc w5 #[.int .i64 nn, .slice (some ⟨bx, 0, none⟩) E.length E.length] 25
  dsimp only at hb
  have hk := Keeps.alloc (Keeps.refl w5) (.cells #[.int .i64 nn, .slice (some ⟨bx, 0, none⟩) E.length E.length] 25)
  generalize w5.alloc (.cells #[.int .i64 nn, .slice (some ⟨bx, 0, none⟩) E.length E.length] 25) = w6 at *
  clear cA0 cA1 lA
  have HDA_X := hide (hb.apart HOA.out.mem)
  have HDX_A := hide (hb.apart' HOA.out.mem)
  have HDw_X := hide (hb.apart HOw.out.mem)
  have HDX_w := hide (hb.apart' HOw.out.mem)
  have HDx_X := hide (hb.apart HOx.out.mem)
  have HDX_x := hide (hb.apart' HOx.out.mem)
  have HNX := hide ((hb.old HK.out).new)
  replace HK := hide (HK.out.trans hk)
  replace HOA := hide (HOA.out.kept hk)
  replace HOw := hide (HOw.out.kept hk)
  replace HOx := hide (HOx.out.kept hk)
  have HOX := hide hb.toOwn
  clear hb hk
  have cA0 := cell_at HOA.out.mem 0 (by simp)
  have cA1 := cell_at HOA.out.mem 1 (by simp)
  simp only [Nat.zero_add, List.getElem_cons_zero, List.getElem_cons_succ] at cA0 cA1
  have lA := lt_of_cell cA0
  have cX0 := cell_at HOX.out.mem 0 (by simp)
  have cX1 := cell_at HOX.out.mem 1 (by simp)
  simp only [Nat.zero_add, List.getElem_cons_zero, List.getElem_cons_succ] at cX0 cX1
  have lX := lt_of_cell cX0
  go_wp2_with fail
  refine (unhide HCI bx  w6 HOx.out.mem  HL.out ).mono ?_
  rintro x w7 ⟨ga, gc, rfl, hb, hnn, hk⟩
  have HNNg := hide hnn
  clear hnn
  clear cA0 cA1 lA cX0 cX1 lX
  have HDA_g := hide (hb.apart HOA.out.mem)
  have HDg_A := hide (hb.apart' HOA.out.mem)
  have HDw_g := hide (hb.apart HOw.out.mem)
  have HDg_w := hide (hb.apart' HOw.out.mem)
  have HDx_g := hide (hb.apart HOx.out.mem)
  have HDg_x := hide (hb.apart' HOx.out.mem)
  have HDX_g := hide (hb.apart HOX.out.mem)
  have HDg_X := hide (hb.apart' HOX.out.mem)
  have HNg := hide ((hb.old HK.out).new)
  replace HK := hide (HK.out.trans hk)
  replace HOA := hide (HOA.out.kept hk)
  replace HOw := hide (HOw.out.kept hk)
  replace HOx := hide (HOx.out.kept hk)
  replace HOX := hide (HOX.out.kept hk)
  have HOg := hide hb.toOwn
  clear hb hk
  have cA0 := cell_at HOA.out.mem 0 (by simp)
  have cA1 := cell_at HOA.out.mem 1 (by simp)
  simp only [Nat.zero_add, List.getElem_cons_zero, List.getElem_cons_succ] at cA0 cA1
  have lA := lt_of_cell cA0
  have cX0 := cell_at HOX.out.mem 0 (by simp)
  have cX1 := cell_at HOX.out.mem 1 (by simp)
  simp only [Nat.zero_add, List.getElem_cons_zero, List.getElem_cons_succ] at cX0 cX1
  have lX := lt_of_cell cX0
  go_wp2_with fail
  refine (eqInts_k ga wa gc wc RV w7 (HOg.out.mem (ga, its RV) (by simp)) (HOw.out.mem (wa, its RV) (by simp)) HLR.out).mono ?_
  rintro x w8 ⟨rfl, hk⟩
  clear cA0 cA1 lA cX0 cX1 lX
  replace HK := hide (HK.out.trans hk)
  replace HOA := hide (HOA.out.kept hk)
  replace HOw := hide (HOw.out.kept hk)
  replace HOx := hide (HOx.out.kept hk)
  replace HOX := hide (HOX.out.kept hk)
  replace HOg := hide (HOg.out.kept hk)
  clear hk
  have cA0 := cell_at HOA.out.mem 0 (by simp)
  have cA1 := cell_at HOA.out.mem 1 (by simp)
  simp only [Nat.zero_add, List.getElem_cons_zero, List.getElem_cons_succ] at cA0 cA1
  have lA := lt_of_cell cA0
  have cX0 := cell_at HOX.out.mem 0 (by simp)
  have cX1 := cell_at HOX.out.mem 1 (by simp)
  simp only [Nat.zero_add, List.getElem_cons_zero, List.getElem_cons_succ] at cX0 cX1
  have lX := lt_of_cell cX0
  go_wp2_with fail
  go_region_held3 (fun w' => w'.cell? ⟨w5.heap.size, 0, none⟩ = some (.int .i64 nn) ∧ w'.cell? ⟨w5.heap.size, 1, none⟩ = some (.slice (some ⟨bx, 0, none⟩) E.length E.length) ∧ w'.cell? ⟨w.heap.size, 0, none⟩ = some (.int .i64 nn) ∧ w'.cell? ⟨w.heap.size, 1, none⟩ = some (.slice ea E.length ec)) (go_keep)
    (first
       | (go_at_call 24
          refine (unhide HT _ (HK.out.trans (Keeps.refl w8).drew) HL.out).mono ?_
          rintro x w9 ⟨by1, rfl, hb, hk⟩
          replace hb := hb.old ((Keeps.refl w8).drew)
          replace hk := ((Keeps.refl w8).drew).trans hk
          clear cA0 cA1 lA cX0 cX1 lX
          have HDA_y := hide (hb.apart HOA.out.mem)
          have HDy_A := hide (hb.apart' HOA.out.mem)
          have HDw_y := hide (hb.apart HOw.out.mem)
          have HDy_w := hide (hb.apart' HOw.out.mem)
          have HDx_y := hide (hb.apart HOx.out.mem)
          have HDy_x := hide (hb.apart' HOx.out.mem)
          have HDX_y := hide (hb.apart HOX.out.mem)
          have HDy_X := hide (hb.apart' HOX.out.mem)
          have HDg_y := hide (hb.apart HOg.out.mem)
          have HDy_g := hide (hb.apart' HOg.out.mem)
          have HNy := hide ((hb.old HK.out).new)
          replace HK := hide (HK.out.trans hk)
          replace HOA := hide (HOA.out.kept hk)
          replace HOw := hide (HOw.out.kept hk)
          replace HOx := hide (HOx.out.kept hk)
          replace HOX := hide (HOX.out.kept hk)
          replace HOg := hide (HOg.out.kept hk)
          have HOy := hide hb.toOwn
          clear hb hk
          have cX0 := cell_at HOX.out.mem 0 (by simp)
          have cX1 := cell_at HOX.out.mem 1 (by simp)
          simp only [Nat.zero_add, List.getElem_cons_zero, List.getElem_cons_succ] at cX0 cX1
          have lX := lt_of_cell cX0
          have cA0 := cell_at HOA.out.mem 0 (by simp)
          have cA1 := cell_at HOA.out.mem 1 (by simp)
          simp only [Nat.zero_add, List.getElem_cons_zero, List.getElem_cons_succ] at cA0 cA1
          have lA := lt_of_cell cA0)
       | (go_at_call 26
          refine (eqGraph_k ⟨nn, some ⟨bx, 0, none⟩, E.length, E⟩ ⟨nn, some ⟨by1, 0, none⟩, E.length, E⟩ w9 rfl HOx.out.mem HOy.out.mem HL.out).mono ?_
          rintro x w10 ⟨rfl, hk⟩
          clear cX0 cX1 lX cA0 cA1 lA
          replace HK := hide (HK.out.trans hk)
          replace HOA := hide (HOA.out.kept hk)
          replace HOw := hide (HOw.out.kept hk)
          replace HOx := hide (HOx.out.kept hk)
          replace HOX := hide (HOX.out.kept hk)
          replace HOg := hide (HOg.out.kept hk)
          replace HOy := hide (HOy.out.kept hk)
          clear hk
          have cX0 := cell_at HOX.out.mem 0 (by simp)
          have cX1 := cell_at HOX.out.mem 1 (by simp)
          simp only [Nat.zero_add, List.getElem_cons_zero, List.getElem_cons_succ] at cX0 cX1
          have lX := lt_of_cell cX0
          have cA0 := cell_at HOA.out.mem 0 (by simp)
          have cA1 := cell_at HOA.out.mem 1 (by simp)
          simp only [Nat.zero_add, List.getElem_cons_zero, List.getElem_cons_succ] at cA0 cA1
          have lA := lt_of_cell cA0))
  clear HOy HNy HDA_y HDy_A HDw_y HDy_w HDx_y HDy_x HDX_y HDy_X HDg_y HDy_g
  clear cX0 cX1 lX cA0 cA1 lA
  have cA0 := cell_at HOA.out.mem 0 (by simp)
  have cA1 := cell_at HOA.out.mem 1 (by simp)
  simp only [Nat.zero_add, List.getElem_cons_zero, List.getElem_cons_succ] at cA0 cA1
  have lA := lt_of_cell cA0
  have cX0 := cell_at HOX.out.mem 0 (by simp)
  have cX1 := cell_at HOX.out.mem 1 (by simp)
  simp only [Nat.zero_add, List.getElem_cons_zero, List.getElem_cons_succ] at cX0 cX1
  have lX := lt_of_cell cX0
  go_wp2_with fail
  refine (markGraph_k ⟨nn, some ⟨bx, 0, none⟩, E.length, E⟩ 1 w10 HOx.out HL.out (by decide)).mono ?_
  rintro x w11 ⟨rfl, ht⟩
  clear cA0 cA1 lA cX0 cX1 lX
  replace HK := hide (ht.keeps HK.out HNx.out)
  replace HOA := hide (HOA.out.turn ht HDA_x.out)
  replace HOw := hide (HOw.out.turn ht HDw_x.out)
  replace HOX := hide (HOX.out.turn ht HDX_x.out)
  replace HOg := hide (HOg.out.turn ht HDg_x.out)
  clear ht
  clear HOx HNx HDA_x HDx_A HDw_x HDx_w HDX_x HDx_X HDg_x HDx_g
  have hpos : ¬ (((1 + 4 * E.length) : Nat) : Int) < 0 := by omega
  have cA0 := cell_at HOA.out.mem 0 (by simp)
  have cA1 := cell_at HOA.out.mem 1 (by simp)
  simp only [Nat.zero_add, List.getElem_cons_zero, List.getElem_cons_succ] at cA0 cA1
  have lA := lt_of_cell cA0
  have cX0 := cell_at HOX.out.mem 0 (by simp)
  have cX1 := cell_at HOX.out.mem 1 (by simp)
  simp only [Nat.zero_add, List.getElem_cons_zero, List.getElem_cons_succ] at cX0 cX1
  have lX := lt_of_cell cX0
  go_wp2_with fail
  refine (eqInts_k ga wa gc wc RV w11 (HOg.out.mem (ga, its RV) (by simp)) (HOw.out.mem (wa, its RV) (by simp)) HLR.out).mono ?_
  rintro x w12 ⟨rfl, hk⟩
  clear cA0 cA1 lA cX0 cX1 lX
  replace HK := hide (HK.out.trans hk)
  replace HOA := hide (HOA.out.kept hk)
  replace HOw := hide (HOw.out.kept hk)
  replace HOX := hide (HOX.out.kept hk)
  replace HOg := hide (HOg.out.kept hk)
  clear hk
  have cA0 := cell_at HOA.out.mem 0 (by simp)
  have cA1 := cell_at HOA.out.mem 1 (by simp)
  simp only [Nat.zero_add, List.getElem_cons_zero, List.getElem_cons_succ] at cA0 cA1
  have lA := lt_of_cell cA0
  have cX0 := cell_at HOX.out.mem 0 (by simp)
  have cX1 := cell_at HOX.out.mem 1 (by simp)
  simp only [Nat.zero_add, List.getElem_cons_zero, List.getElem_cons_succ] at cX0 cX1
  have lX := lt_of_cell cX0
  go_wp2_with fail
  refine (markIntS_k ga gc RV 1 w12 HOg.out HLR.out (by decide)).mono ?_
  rintro x w13 ⟨rfl, ho, ht⟩
  clear cA0 cA1 lA cX0 cX1 lX
  replace HK := hide (ht.keeps HK.out HNg.out)
  replace HOA := hide (HOA.out.turn ht HDA_g.out)
  replace HOw := hide (HOw.out.turn ht HDw_g.out)
  replace HOX := hide (HOX.out.turn ht HDX_g.out)
  clear ht
  replace HOg := hide ho
  clear ho
  have cA0 := cell_at HOA.out.mem 0 (by simp)
  have cA1 := cell_at HOA.out.mem 1 (by simp)
  simp only [Nat.zero_add, List.getElem_cons_zero, List.getElem_cons_succ] at cA0 cA1
  have lA := lt_of_cell cA0
  have cX0 := cell_at HOX.out.mem 0 (by simp)
  have cX1 := cell_at HOX.out.mem 1 (by simp)
  simp only [Nat.zero_add, List.getElem_cons_zero, List.getElem_cons_succ] at cX0 cX1
  have lX := lt_of_cell cX0
  go_wp2_with fail
  refine (heldIntS_k ga gc RV.length 1 w13 (HOg.out.mem (ga, its (marksI 1 RV.length)) (by simp)) HLR.out (by decide)).mono ?_
  rintro x w14 ⟨rfl, hw⟩
  clear cA0 cA1 lA cX0 cX1 lX
  subst hw
  have hq : ¬ ((1 + RV.length : Nat) : Int) < 0 := by omega
  have hq2 : (((1 + RV.length : Nat) : Int) != ((1 + RV.length : Nat) : Int)) = false := by simp
  have cA0 := cell_at HOA.out.mem 0 (by simp)
  have cA1 := cell_at HOA.out.mem 1 (by simp)
  simp only [Nat.zero_add, List.getElem_cons_zero, List.getElem_cons_succ] at cA0 cA1
  have lA := lt_of_cell cA0
  have cX0 := cell_at HOX.out.mem 0 (by simp)
  have cX1 := cell_at HOX.out.mem 1 (by simp)
  simp only [Nat.zero_add, List.getElem_cons_zero, List.getElem_cons_succ] at cX0 cX1
  have lX := lt_of_cell cX0
  go_wp2_with fail
  refine (unhide HT w14 HK.out HL.out).mono ?_
  rintro x w15 ⟨bh, rfl, hb, hk⟩
  clear cA0 cA1 lA cX0 cX1 lX
  have HDA_h := hide (hb.apart HOA.out.mem)
  have HDh_A := hide (hb.apart' HOA.out.mem)
  have HDw_h := hide (hb.apart HOw.out.mem)
  have HDh_w := hide (hb.apart' HOw.out.mem)
  have HDX_h := hide (hb.apart HOX.out.mem)
  have HDh_X := hide (hb.apart' HOX.out.mem)
  have HDg_h := hide (hb.apart HOg.out.mem)
  have HDh_g := hide (hb.apart' HOg.out.mem)
  have HNh := hide ((hb.old HK.out).new)
  replace HK := hide (HK.out.trans hk)
  replace HOA := hide (HOA.out.kept hk)
  replace HOw := hide (HOw.out.kept hk)
  replace HOX := hide (HOX.out.kept hk)
  replace HOg := hide (HOg.out.kept hk)
  have HOh := hide hb.toOwn
  clear hb hk
  have cA0 := cell_at HOA.out.mem 0 (by simp)
  have cA1 := cell_at HOA.out.mem 1 (by simp)
  simp only [Nat.zero_add, List.getElem_cons_zero, List.getElem_cons_succ] at cA0 cA1
  have lA := lt_of_cell cA0
  have cX0 := cell_at HOX.out.mem 0 (by simp)
  have cX1 := cell_at HOX.out.mem 1 (by simp)
  simp only [Nat.zero_add, List.getElem_cons_zero, List.getElem_cons_succ] at cX0 cX1
  have lX := lt_of_cell cX0
  go_wp2_with fail
  refine (unhide HCI bh  w15 HOh.out.mem  HL.out ).mono ?_
  rintro x w16 ⟨za, zc, rfl, hb, hnn, hk⟩
  have HNNz := hide hnn
  clear hnn
  clear cA0 cA1 lA cX0 cX1 lX
  have HDA_z := hide (hb.apart HOA.out.mem)
  have HDz_A := hide (hb.apart' HOA.out.mem)
  have HDw_z := hide (hb.apart HOw.out.mem)
  have HDz_w := hide (hb.apart' HOw.out.mem)
  have HDX_z := hide (hb.apart HOX.out.mem)
  have HDz_X := hide (hb.apart' HOX.out.mem)
  have HDg_z := hide (hb.apart HOg.out.mem)
  have HDz_g := hide (hb.apart' HOg.out.mem)
  have HDh_z := hide (hb.apart HOh.out.mem)
  have HDz_h := hide (hb.apart' HOh.out.mem)
  have HNz := hide ((hb.old HK.out).new)
  replace HK := hide (HK.out.trans hk)
  replace HOA := hide (HOA.out.kept hk)
  replace HOw := hide (HOw.out.kept hk)
  replace HOX := hide (HOX.out.kept hk)
  replace HOg := hide (HOg.out.kept hk)
  replace HOh := hide (HOh.out.kept hk)
  have HOz := hide hb.toOwn
  clear hb hk
  have cA0 := cell_at HOA.out.mem 0 (by simp)
  have cA1 := cell_at HOA.out.mem 1 (by simp)
  simp only [Nat.zero_add, List.getElem_cons_zero, List.getElem_cons_succ] at cA0 cA1
  have lA := lt_of_cell cA0
  have cX0 := cell_at HOX.out.mem 0 (by simp)
  have cX1 := cell_at HOX.out.mem 1 (by simp)
  simp only [Nat.zero_add, List.getElem_cons_zero, List.getElem_cons_succ] at cX0 cX1
  have lX := lt_of_cell cX0
  go_wp2_with fail
  refine (eqInts_k za wa zc wc RV w16 (HOz.out.mem (za, its RV) (by simp)) (HOw.out.mem (wa, its RV) (by simp)) HLR.out).mono ?_
  rintro x w17 ⟨rfl, hk⟩
  clear cA0 cA1 lA cX0 cX1 lX
  replace HK := hide (HK.out.trans hk)
  replace HOA := hide (HOA.out.kept hk)
  replace HOw := hide (HOw.out.kept hk)
  replace HOX := hide (HOX.out.kept hk)
  replace HOg := hide (HOg.out.kept hk)
  replace HOh := hide (HOh.out.kept hk)
  replace HOz := hide (HOz.out.kept hk)
  clear hk
  have cA0 := cell_at HOA.out.mem 0 (by simp)
  have cA1 := cell_at HOA.out.mem 1 (by simp)
  simp only [Nat.zero_add, List.getElem_cons_zero, List.getElem_cons_succ] at cA0 cA1
  have lA := lt_of_cell cA0
  have cX0 := cell_at HOX.out.mem 0 (by simp)
  have cX1 := cell_at HOX.out.mem 1 (by simp)
  simp only [Nat.zero_add, List.getElem_cons_zero, List.getElem_cons_succ] at cX0 cX1
  have lX := lt_of_cell cX0
  go_wp2_with fail
  refine (heldIntS_k ga gc RV.length 1 w17 (HOg.out.mem (ga, its (marksI 1 RV.length)) (by simp)) HLR.out (by decide)).mono ?_
  rintro x w18 ⟨rfl, hw⟩
  clear cA0 cA1 lA cX0 cX1 lX
  subst hw
  have cA0 := cell_at HOA.out.mem 0 (by simp)
  have cA1 := cell_at HOA.out.mem 1 (by simp)
  simp only [Nat.zero_add, List.getElem_cons_zero, List.getElem_cons_succ] at cA0 cA1
  have lA := lt_of_cell cA0
  have cX0 := cell_at HOX.out.mem 0 (by simp)
  have cX1 := cell_at HOX.out.mem 1 (by simp)
  simp only [Nat.zero_add, List.getElem_cons_zero, List.getElem_cons_succ] at cX0 cX1
  have lX := lt_of_cell cX0
  go_wp2_with fail
  go_ret
  exact ⟨rfl, HK.out⟩

theorem own : ownKnob Try.prog.godebug = none := by kernel_rfl
theorem laidOut : laidOutB Try.prog = true := by kernel_rfl

set_option maxRecDepth 100000 in
theorem lifted (os : Os) (started : os.Started) (H : Type) (enc : TypeId × Value → H) :
    ReturnsInHanded {} Try.checked os 10 .any (Rows.fnExactCheapestSpec.pre6 enc Try.prog Try.f10 Rows.fnExactCheapestRow.domain false) (Rows.fnExactCheapestSpec.post enc Try.prog Try.f10 false true false false) := by
  refine returnsInHanded_of_change (C := Try.checked) own started (by kernel_rfl) Try.func10
    (ChangeSpec.witness6 (enc := enc) (C := Try.checked) false ⟨#[], #[.agg #[.int .i64 0, .slice none 0 0]], []⟩ 8 (by kernel_rfl) (by kernel_rfl) (by kernel_rfl) (by kernel_rfl)) ?_
  intro W base args ds gs before hval0 hW hcnd _
  have hval : ∀ (j : Nat) t v, Try.f10.params[j]? = some t → args[j]? = some v → Value.okWide Try.prog W .any base t v := hval0
  have hW' := hW
  obtain ⟨p, q, hA0, hV, rfl, hfz, hnd⟩ := hW
  have hA : DataW.TrodAll enc Try.prog W 0 (fun _ => true) true Try.f10.params.toList args.toList ds p := hA0
  rw [Try.params10] at hA hval
  obtain ⟨v0, vs0, d0, ds0, p0, q0, hargs, rfl, rfl, h0, r0⟩ := trodAll_cons hA
  obtain ⟨rfl, rfl, rfl⟩ := trodAll_nil r0
  obtain rfl : args = #[v0] := by cases args; simp_all
  obtain ⟨rfl, rfl⟩ := trodVars_none hV
  have lt0 := lt_row h0
  have k0 := h0
  obtain ⟨G0, rfl, hm0, hf0, hb0⟩ := graph_row (hval 0 40 v0 rfl rfl) h0
  clear hA0 hval0
  refine (walk G0 W hm0 hf0 hb0).mono fun e W' ⟨he, hb⟩ => ?_
  subst he
  refine ⟨_, rfl, _, _, _, [], (p0 ++ []), [], hW', ?_, ?_, ?_, Below.frame hb _, fun h => by cases h⟩
  · exact trodAll_mk1 (shut_bool Try.underlying4 _)
  · exact (trodAll_cons_mk (Below.trod laidOut (by kernel_rfl) (of_decide_eq_true (by kernel_rfl)) k0 hb lt0) trodAll_mk0)
  · exact rfl

theorem over : Rows.fnExactCheapestRow.holds Try.pinned (OpenSpec.ofChange Rows.fnExactCheapestSpec) :=
  OpenClaim.holds_of_wide 10 Try.f10 rfl rfl rfl rfl rfl rfl rfl ⟨rfl, rfl, rfl, rfl, rfl⟩ rfl rfl rfl rfl rfl (by kernel_rfl) Try.func10 (by kernel_rfl)
    (of_decide_eq_true (by kernel_rfl)) (by unfold Func.isWrapper; first | (rw [if_pos (by decide +kernel)]; kernel_rfl) | (rw [if_neg (by decide +kernel)]; exact ⟨rfl, rfl⟩))
    (fun os started H enc _ => lifted os started H enc)
end Go.Proofs.Ytaboogkioehkeaa.fnExactCheapest
namespace Go.Proofs.Ytaboogkioehkeaa
theorem fnExactCheapest_holds : Rows.FnExactCheapestSaid := fnExactCheapest.over
end Go.Proofs.Ytaboogkioehkeaa
