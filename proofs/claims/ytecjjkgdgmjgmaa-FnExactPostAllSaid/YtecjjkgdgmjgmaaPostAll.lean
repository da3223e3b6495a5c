/- FnExactPostAll: at every argument PostAll answers as the specification, field by field; it writes into no argument and keeps nothing of one; its answer owns its memory, behind another call too. -/
import Derived.Test.YtecjjkgdgmjgmaaPAw
import Derived.Test.YtecjjkgdgmjgmaaRows
import Derived.WalkKit
import Derived.ProofKit
import Derived.OpenShut
import Derived.ChangeOld
import Derived.Below
namespace Go.Proofs.Ytecjjkgdgmjgmaa.fnExactPostAll
open Go.ChangeShapes Go.WideShapes Go.ChangeAt Go.RowKit
set_option linter.unusedVariables false
set_option maxRecDepth 100000 in
set_option maxHeartbeats 8000000 in
theorem walk (id : Int) (a : Option Addr) (cap : Nat) (L : List Ln) (pa : Option Addr) (pc : Nat) (ds : List Pg) (w : World) (hid : (Lit.int .i64 id).wf = true) (hc : Cells w a (flat L)) (hl : L.length ≤ 9223372036854775807) (hp : Cells w pa (pcells ds)) (hm : Mem w (ds.map Pg.seg)) (hx : ∀ x ∈ ds, x.b.L.length ≤ 9223372036854775807) (hld : ds.length ≤ 9223372036854775807) :
    Calls Try.prog 7 #[.agg #[.int .i64 id, .slice a L.length cap], .slice pa ds.length pc] w fun e w' => e = .returned (.bool true) ∧ Keeps w w' := by
  have HC := hide hc
  have HP := hide hp
  have HM := hide hm
  have HS1 := hide (fun w1 => szLedger_k id a L.length cap 1048576 w1 (by decide) (by decide) hl)
  clear hc hp hm hid
  go_enter Try.func7, Try.ntmps7
  have HK := hide (Keeps.refl w)
  go_wp2_with fail
  have hb := born_alloc w #[.int .i64 id, .slice a L.length cap] 53
  dsimp only at hb
  have hk := Keeps.alloc (Keeps.refl w) (.cells #[.int .i64 id, .slice a L.length cap] 53)
  generalize w.alloc (.cells #[.int .i64 id, .slice a L.length cap] 53) = w1 at *
  have HNA := hide ((hb.old HK.out).new)
  replace HK := hide (HK.out.trans hk)
  have HOA := hide hb.toOwn
  clear hb hk
  have cA0 := cell_at HOA.out.mem 0 (by simp)
  have cA1 := cell_at HOA.out.mem 1 (by simp)
  simp only [Nat.zero_add, List.getElem_cons_zero, List.getElem_cons_succ] at cA0 cA1
  have lA := lt_of_cell cA0
  refine (unhide HS1 w1).mono ?_
  rintro x w2 ⟨rfl, hk⟩
  clear cA0 cA1 lA
  replace HK := hide (HK.out.trans hk)
  replace HOA := hide (HOA.out.kept hk)
  clear hk
  have cA0 := cell_at HOA.out.mem 0 (by simp)
  have cA1 := cell_at HOA.out.mem 1 (by simp)
  simp only [Nat.zero_add, List.getElem_cons_zero, List.getElem_cons_succ] at cA0 cA1
  have lA := lt_of_cell cA0
  by_cases hlt : L.length ≤ 1048576
  · rw [if_pos (by omega)]
    have h1 : ¬ ((1048576 : Int) - L.length < 0) := by omega
    have HS2 := hide (fun w1 (hk : Keeps w w1) => szPostingS_k pa pc ds (1048576 - L.length) w1 (HP.out.kept hk) hx (by omega) (by omega) hld)
    go_wp2_with fail
    refine (unhide HS2 w2 HK.out).mono ?_
    rintro x w3 ⟨r, rfl, hr, hk⟩
    clear cA0 cA1 lA
    replace HK := hide (HK.out.trans hk)
    replace HOA := hide (HOA.out.kept hk)
    clear hk
    have cA0 := cell_at HOA.out.mem 0 (by simp)
    have cA1 := cell_at HOA.out.mem 1 (by simp)
    simp only [Nat.zero_add, List.getElem_cons_zero, List.getElem_cons_succ] at cA0 cA1
    have lA := lt_of_cell cA0
    clear HS1 HS2
    by_cases hr0 : r < 0
    · go_wp2_with fail
      go_ret
      exact ⟨rfl, HK.out⟩
    replace hr := hr (by omega)
    have HL := hide hlt
    have hds : ds.length ≤ 1048576 := by omega
    have HDs := hide hds
    have htp : totP ds ≤ 1048576 := by omega
    have HTp := hide htp
    have HTx : Hid (∀ x ∈ ds, x.b.L.length ≤ 1048576) := fun x hx1 => Nat.le_trans (totP_le hx1) htp
    have HTLedger := hide (fun w1 (hk : Keeps w w1) => toLedger_o id a cap L w1 (HC.out.kept hk) HL.out)
    have HTP := hide (fun w1 (hk : Keeps w w1) => toPS pa pc ds w1 (HP.out.kept hk) (HM.out.kept hk) HDs.out HTx.out)
    have HSP : Hid (∀ (b g : Nat) (nb : List Pg) (w1 : World), nb.map Pg.key = ds.map Pg.key → Cells w1 (some ⟨b, 0, none⟩) (flat L) → Mem w1 (psg g nb) → Calls Try.prog 30 #[.agg #[.int .i64 id, .slice (some ⟨b, 0, none⟩) L.length L.length], .slice (some ⟨g, 0, none⟩) ds.length ds.length] w1 fun e w2 => PostO (aid id L (ds.map Pg.key)) (aL id L (ds.map Pg.key)) (acode id L (ds.map Pg.key)) w1 w2 e ∧ Keeps w1 w2) := fun b g nb w1 he h hm => postallS id L ds b g nb w1 he h hm HL.out HDs.out HTx.out
    have HIP : Hid (∀ (b g : Nat) (nb : List Pg) (w1 : World), nb.map Pg.key = ds.map Pg.key → Cells w1 (some ⟨b, 0, none⟩) (flat L) → Mem w1 (psg g nb) → Calls Try.prog 32 #[.agg #[.int .i64 id, .slice (some ⟨b, 0, none⟩) L.length L.length], .slice (some ⟨g, 0, none⟩) ds.length ds.length] w1 fun e w2 => PostO (aid id L (ds.map Pg.key)) (aL id L (ds.map Pg.key)) (acode id L (ds.map Pg.key)) w1 w2 e ∧ Keeps w1 w2) := fun b g nb w1 he h hm => postallI id L ds b g nb w1 he h hm HL.out HDs.out HTx.out
    have HR : Hid ((aL id L (ds.map Pg.key)).length ≤ 1048576) := by show _ ≤ _; have := aL_len id L (ds.map Pg.key); omega
    generalize aid id L (ds.map Pg.key) = rid at *
    generalize aL id L (ds.map Pg.key) = R at *
    generalize acode id L (ds.map Pg.key) = rc at *
    clear hlt hds htp hr hx hld
    go_wp2_with fail
    refine (unhide HTLedger _ HK.out).mono ?_
    rintro x w4 ⟨b1, rfl, hb, hk⟩
    clear cA0 cA1 lA
    have HDA_s := hide (hb.apart HOA.out.mem)
    have HDs_A := hide (hb.apart' HOA.out.mem)
    have HNs := hide ((hb.old HK.out).new)
    replace HK := hide (HK.out.trans hk)
    replace HOA := hide (HOA.out.kept hk)
    have HOs := hide hb.toOwn
    clear hb hk
    have cA0 := cell_at HOA.out.mem 0 (by simp)
    have cA1 := cell_at HOA.out.mem 1 (by simp)
    simp only [Nat.zero_add, List.getElem_cons_zero, List.getElem_cons_succ] at cA0 cA1
    have lA := lt_of_cell cA0
    go_wp2_with fail
    refine (unhide HTP _ HK.out).mono ?_
    rintro x w5 ⟨gt, nt, rfl, het, hb, hk⟩
    have HEt := hide het
    clear het
    clear cA0 cA1 lA
    have HDA_t := hide (hb.apart HOA.out.mem)
    have HDt_A := hide (hb.apart' HOA.out.mem)
    have HDs_t := hide (hb.apart HOs.out.mem)
    have HDt_s := hide (hb.apart' HOs.out.mem)
    have HNt := hide ((hb.old HK.out).new)
    replace HK := hide (HK.out.trans hk)
    replace HOA := hide (HOA.out.kept hk)
    replace HOs := hide (HOs.out.kept hk)
    have HOt := hide hb.toOwn
    clear hb hk
    have cA0 := cell_at HOA.out.mem 0 (by simp)
    have cA1 := cell_at HOA.out.mem 1 (by simp)
    simp only [Nat.zero_add, List.getElem_cons_zero, List.getElem_cons_succ] at cA0 cA1
    have lA := lt_of_cell cA0
    go_wp2_with fail
    refine (unhide HSP _ gt nt w5 HEt.out (HOs.out.mem ((some ⟨b1, 0, none⟩), flat L) (by simp)) HOt.out.mem).mono ?_
    rintro x w6 ⟨⟨aw, cw, rfl, hnw, hb⟩, hk⟩
    clear hnw
    clear cA0 cA1 lA
    have HDA_w := hide (hb.apart HOA.out.mem)
    have HDw_A := hide (hb.apart' HOA.out.mem)
    have HDs_w := hide (hb.apart HOs.out.mem)
    have HDw_s := hide (hb.apart' HOs.out.mem)
    have HDt_w := hide (hb.apart HOt.out.mem)
    have HDw_t := hide (hb.apart' HOt.out.mem)
    have HNw := hide ((hb.old HK.out).new)
    replace HK := hide (HK.out.trans hk)
    replace HOA := hide (HOA.out.kept hk)
    replace HOs := hide (HOs.out.kept hk)
    replace HOt := hide (HOt.out.kept hk)
    have HOw := hide hb.toOwn
    clear hb hk
    clear HOs HNs HDA_s HDs_A HDt_s HDs_t HDw_s HDs_w
    clear HOt HNt HDA_t HDt_A HDw_t HDt_w
    clear HEt
    have cA0 := cell_at HOA.out.mem 0 (by simp)
    have cA1 := cell_at HOA.out.mem 1 (by simp)
    simp only [Nat.zero_add, List.getElem_cons_zero, List.getElem_cons_succ] at cA0 cA1
    have lA := lt_of_cell cA0
    go_wp2_with fail
    have hb := born_alloc w6 #[.int .i64 rid, .slice aw R.length cw] 25
    dsimp only at hb
    have hk := Keeps.alloc (Keeps.refl w6) (.cells #[.int .i64 rid, .slice aw R.length cw] 25)
    generalize w6.alloc (.cells #[.int .i64 rid, .slice aw R.length cw] 25) = w7 at *
    clear cA0 cA1 lA
    have HDA_VW := hide (hb.apart HOA.out.mem)
    have HDVW_A := hide (hb.apart' HOA.out.mem)
    have HDw_VW := hide (hb.apart HOw.out.mem)
    have HDVW_w := hide (hb.apart' HOw.out.mem)
    have HNVW := hide ((hb.old HK.out).new)
    replace HK := hide (HK.out.trans hk)
    replace HOA := hide (HOA.out.kept hk)
    replace HOw := hide (HOw.out.kept hk)
    have HOVW := hide hb.toOwn
    clear hb hk
    have cA0 := cell_at HOA.out.mem 0 (by simp)
    have cA1 := cell_at HOA.out.mem 1 (by simp)
    simp only [Nat.zero_add, List.getElem_cons_zero, List.getElem_cons_succ] at cA0 cA1
    have lA := lt_of_cell cA0
    have cVW0 := cell_at HOVW.out.mem 0 (by simp)
    have cVW1 := cell_at HOVW.out.mem 1 (by simp)
    simp only [Nat.zero_add, List.getElem_cons_zero, List.getElem_cons_succ] at cVW0 cVW1
    have lVW := lt_of_cell cVW0
    refine (unhide HTLedger _ HK.out).mono ?_
    rintro x w8 ⟨b2, rfl, hb, hk⟩
    clear cA0 cA1 lA cVW0 cVW1 lVW
    have HDA_x := hide (hb.apart HOA.out.mem)
    have HDx_A := hide (hb.apart' HOA.out.mem)
    have HDw_x := hide (hb.apart HOw.out.mem)
    have HDx_w := hide (hb.apart' HOw.out.mem)
    have HDVW_x := hide (hb.apart HOVW.out.mem)
    have HDx_VW := hide (hb.apart' HOVW.out.mem)
    have HNx := hide ((hb.old HK.out).new)
    replace HK := hide (HK.out.trans hk)
    replace HOA := hide (HOA.out.kept hk)
    replace HOw := hide (HOw.out.kept hk)
    replace HOVW := hide (HOVW.out.kept hk)
    have HOx := hide hb.toOwn
    clear hb hk
    have cA0 := cell_at HOA.out.mem 0 (by simp)
    have cA1 := cell_at HOA.out.mem 1 (by simp)
    simp only [Nat.zero_add, List.getElem_cons_zero, List.getElem_cons_succ] at cA0 cA1
    have lA := lt_of_cell cA0
    have cVW0 := cell_at HOVW.out.mem 0 (by simp)
    have cVW1 := cell_at HOVW.out.mem 1 (by simp)
    simp only [Nat.zero_add, List.getElem_cons_zero, List.getElem_cons_succ] at cVW0 cVW1
    have lVW := lt_of_cell cVW0
    go_wp2_with fail
    have hb := born_alloc w8 #[.int .i64 id, .slice (some ⟨b2, 0, none⟩) L.length L.length] 25
    dsimp only at hb
    have hk := Keeps.alloc (Keeps.refl w8) (.cells #[.int .i64 id, .slice (some ⟨b2, 0, none⟩) L.length L.length] 25)
    generalize w8.alloc (.cells #[.int .i64 id, .slice (some ⟨b2, 0, none⟩) L.length L.length] 25) = w9 at *
    clear cA0 cA1 lA cVW0 cVW1 lVW
    have HDA_X := hide (hb.apart HOA.out.mem)
    have HDX_A := hide (hb.apart' HOA.out.mem)
    have HDw_X := hide (hb.apart HOw.out.mem)
    have HDX_w := hide (hb.apart' HOw.out.mem)
    have HDVW_X := hide (hb.apart HOVW.out.mem)
    have HDX_VW := hide (hb.apart' HOVW.out.mem)
    have HDx_X := hide (hb.apart HOx.out.mem)
    have HDX_x := hide (hb.apart' HOx.out.mem)
    have HNX := hide ((hb.old HK.out).new)
    replace HK := hide (HK.out.trans hk)
    replace HOA := hide (HOA.out.kept hk)
    replace HOw := hide (HOw.out.kept hk)
    replace HOVW := hide (HOVW.out.kept hk)
    replace HOx := hide (HOx.out.kept hk)
    have HOX := hide hb.toOwn
    clear hb hk
    have cA0 := cell_at HOA.out.mem 0 (by simp)
    have cA1 := cell_at HOA.out.mem 1 (by simp)
    simp only [Nat.zero_add, List.getElem_cons_zero, List.getElem_cons_succ] at cA0 cA1
    have lA := lt_of_cell cA0
    have cVW0 := cell_at HOVW.out.mem 0 (by simp)
    have cVW1 := cell_at HOVW.out.mem 1 (by simp)
    simp only [Nat.zero_add, List.getElem_cons_zero, List.getElem_cons_succ] at cVW0 cVW1
    have lVW := lt_of_cell cVW0
    have cX0 := cell_at HOX.out.mem 0 (by simp)
    have cX1 := cell_at HOX.out.mem 1 (by simp)
    simp only [Nat.zero_add, List.getElem_cons_zero, List.getElem_cons_succ] at cX0 cX1
    have lX := lt_of_cell cX0
    refine (unhide HTP _ HK.out).mono ?_
    rintro x w10 ⟨gy, ny, rfl, hey, hb, hk⟩
    have HEy := hide hey
    clear hey
    clear cA0 cA1 lA cVW0 cVW1 lVW cX0 cX1 lX
    have HDA_y := hide (hb.apart HOA.out.mem)
    have HDy_A := hide (hb.apart' HOA.out.mem)
    have HDw_y := hide (hb.apart HOw.out.mem)
    have HDy_w := hide (hb.apart' HOw.out.mem)
    have HDVW_y := hide (hb.apart HOVW.out.mem)
    have HDy_VW := hide (hb.apart' HOVW.out.mem)
    have HDx_y := hide (hb.apart HOx.out.mem)
    have HDy_x := hide (hb.apart' HOx.out.mem)
    have HDX_y := hide (hb.apart HOX.out.mem)
    have HDy_X := hide (hb.apart' HOX.out.mem)
    have HNy := hide ((hb.old HK.out).new)
    replace HK := hide (HK.out.trans hk)
    replace HOA := hide (HOA.out.kept hk)
    replace HOw := hide (HOw.out.kept hk)
    replace HOVW := hide (HOVW.out.kept hk)
    replace HOx := hide (HOx.out.kept hk)
    replace HOX := hide (HOX.out.kept hk)
    have HOy := hide hb.toOwn
    clear hb hk
    have cA0 := cell_at HOA.out.mem 0 (by simp)
    have cA1 := cell_at HOA.out.mem 1 (by simp)
    simp only [Nat.zero_add, List.getElem_cons_zero, List.getElem_cons_succ] at cA0 cA1
    have lA := lt_of_cell cA0
    have cVW0 := cell_at HOVW.out.mem 0 (by simp)
    have cVW1 := cell_at HOVW.out.mem 1 (by simp)
    simp only [Nat.zero_add, List.getElem_cons_zero, List.getElem_cons_succ] at cVW0 cVW1
    have lVW := lt_of_cell cVW0
    have cX0 := cell_at HOX.out.mem 0 (by simp)
    have cX1 := cell_at HOX.out.mem 1 (by simp)
    simp only [Nat.zero_add, List.getElem_cons_zero, List.getElem_cons_succ] at cX0 cX1
    have lX := lt_of_cell cX0
    go_wp2_with fail
    refine (unhide HIP _ gy ny w10 HEy.out (HOx.out.mem ((some ⟨b2, 0, none⟩), flat L) (by simp)) HOy.out.mem).mono ?_
    rintro x w11 ⟨⟨ag, cg, rfl, hng, hb⟩, hk⟩
    clear hng
    clear cA0 cA1 lA cVW0 cVW1 lVW cX0 cX1 lX
    have HDA_g := hide (hb.apart HOA.out.mem)
    have HDg_A := hide (hb.apart' HOA.out.mem)
    have HDw_g := hide (hb.apart HOw.out.mem)
    have HDg_w := hide (hb.apart' HOw.out.mem)
    have HDVW_g := hide (hb.apart HOVW.out.mem)
    have HDg_VW := hide (hb.apart' HOVW.out.mem)
    have HDx_g := hide (hb.apart HOx.out.mem)
    have HDg_x := hide (hb.apart' HOx.out.mem)
    have HDX_g := hide (hb.apart HOX.out.mem)
    have HDg_X := hide (hb.apart' HOX.out.mem)
    have HDy_g := hide (hb.apart HOy.out.mem)
    have HDg_y := hide (hb.apart' HOy.out.mem)
    have HNg := hide ((hb.old HK.out).new)
    replace HK := hide (HK.out.trans hk)
    replace HOA := hide (HOA.out.kept hk)
    replace HOw := hide (HOw.out.kept hk)
    replace HOVW := hide (HOVW.out.kept hk)
    replace HOx := hide (HOx.out.kept hk)
    replace HOX := hide (HOX.out.kept hk)
    replace HOy := hide (HOy.out.kept hk)
    have HOg := hide hb.toOwn
    clear hb hk
    have cA0 := cell_at HOA.out.mem 0 (by simp)
    have cA1 := cell_at HOA.out.mem 1 (by simp)
    simp only [Nat.zero_add, List.getElem_cons_zero, List.getElem_cons_succ] at cA0 cA1
    have lA := lt_of_cell cA0
    have cVW0 := cell_at HOVW.out.mem 0 (by simp)
    have cVW1 := cell_at HOVW.out.mem 1 (by simp)
    simp only [Nat.zero_add, List.getElem_cons_zero, List.getElem_cons_succ] at cVW0 cVW1
    have lVW := lt_of_cell cVW0
    have cX0 := cell_at HOX.out.mem 0 (by simp)
    have cX1 := cell_at HOX.out.mem 1 (by simp)
    simp only [Nat.zero_add, List.getElem_cons_zero, List.getElem_cons_succ] at cX0 cX1
    have lX := lt_of_cell cX0
    go_wp2_with fail
    have hb := born_alloc w11 #[.int .i64 rid, .slice ag R.length cg] 25
    dsimp only at hb
    have hk := Keeps.alloc (Keeps.refl w11) (.cells #[.int .i64 rid, .slice ag R.length cg] 25)
    generalize w11.alloc (.cells #[.int .i64 rid, .slice ag R.length cg] 25) = w12 at *
    clear cA0 cA1 lA cVW0 cVW1 lVW cX0 cX1 lX
    have HDA_VG := hide (hb.apart HOA.out.mem)
    have HDVG_A := hide (hb.apart' HOA.out.mem)
    have HDw_VG := hide (hb.apart HOw.out.mem)
    have HDVG_w := hide (hb.apart' HOw.out.mem)
    have HDVW_VG := hide (hb.apart HOVW.out.mem)
    have HDVG_VW := hide (hb.apart' HOVW.out.mem)
    have HDx_VG := hide (hb.apart HOx.out.mem)
    have HDVG_x := hide (hb.apart' HOx.out.mem)
    have HDX_VG := hide (hb.apart HOX.out.mem)
    have HDVG_X := hide (hb.apart' HOX.out.mem)
    have HDy_VG := hide (hb.apart HOy.out.mem)
    have HDVG_y := hide (hb.apart' HOy.out.mem)
    have HDg_VG := hide (hb.apart HOg.out.mem)
    have HDVG_g := hide (hb.apart' HOg.out.mem)
    have HNVG := hide ((hb.old HK.out).new)
    replace HK := hide (HK.out.trans hk)
    replace HOA := hide (HOA.out.kept hk)
    replace HOw := hide (HOw.out.kept hk)
    replace HOVW := hide (HOVW.out.kept hk)
    replace HOx := hide (HOx.out.kept hk)
    replace HOX := hide (HOX.out.kept hk)
    replace HOy := hide (HOy.out.kept hk)
    replace HOg := hide (HOg.out.kept hk)
    have HOVG := hide hb.toOwn
    clear hb hk
    refine (eqLedger_o rid ag aw cg cw R w12 (HOg.out.mem (ag, flat R) (by simp)) (HOw.out.mem (aw, flat R) (by simp)) HR.out).mono ?_
    rintro x w13 ⟨rfl, hk⟩
    replace HK := hide (HK.out.trans hk)
    replace HOA := hide (HOA.out.kept hk)
    replace HOw := hide (HOw.out.kept hk)
    replace HOVW := hide (HOVW.out.kept hk)
    replace HOx := hide (HOx.out.kept hk)
    replace HOX := hide (HOX.out.kept hk)
    replace HOy := hide (HOy.out.kept hk)
    replace HOg := hide (HOg.out.kept hk)
    replace HOVG := hide (HOVG.out.kept hk)
    clear hk
    have cA0 := cell_at HOA.out.mem 0 (by simp)
    have cA1 := cell_at HOA.out.mem 1 (by simp)
    simp only [Nat.zero_add, List.getElem_cons_zero, List.getElem_cons_succ] at cA0 cA1
    have lA := lt_of_cell cA0
    have cVW0 := cell_at HOVW.out.mem 0 (by simp)
    have cVW1 := cell_at HOVW.out.mem 1 (by simp)
    simp only [Nat.zero_add, List.getElem_cons_zero, List.getElem_cons_succ] at cVW0 cVW1
    have lVW := lt_of_cell cVW0
    have cX0 := cell_at HOX.out.mem 0 (by simp)
    have cX1 := cell_at HOX.out.mem 1 (by simp)
    simp only [Nat.zero_add, List.getElem_cons_zero, List.getElem_cons_succ] at cX0 cX1
    have lX := lt_of_cell cX0
    have cVG0 := cell_at HOVG.out.mem 0 (by simp)
    have cVG1 := cell_at HOVG.out.mem 1 (by simp)
    simp only [Nat.zero_add, List.getElem_cons_zero, List.getElem_cons_succ] at cVG0 cVG1
    have lVG := lt_of_cell cVG0
    go_wp2_with fail
    go_region_held3 (fun w' => w'.cell? ⟨w8.heap.size, 0, none⟩ = some (.int .i64 id) ∧ w'.cell? ⟨w8.heap.size, 1, none⟩ = some (.slice (some ⟨b2, 0, none⟩) L.length L.length) ∧ w'.cell? ⟨w.heap.size, 0, none⟩ = some (.int .i64 id) ∧ w'.cell? ⟨w.heap.size, 1, none⟩ = some (.slice a L.length cap)) (go_keep)
      (first
         | (go_at_call 22
            refine (unhide HTLedger _ (HK.out.trans ((Keeps.refl w13).drew))).mono ?_
            rintro x w14 ⟨b3, rfl, hb, hk⟩
            replace hb := hb.old ((Keeps.refl w13).drew)
            replace hk := ((Keeps.refl w13).drew).trans hk
            clear cA0 cA1 lA cVW0 cVW1 lVW cX0 cX1 lX cVG0 cVG1 lVG
            have HDA_z := hide (hb.apart HOA.out.mem)
            have HDz_A := hide (hb.apart' HOA.out.mem)
            have HDw_z := hide (hb.apart HOw.out.mem)
            have HDz_w := hide (hb.apart' HOw.out.mem)
            have HDVW_z := hide (hb.apart HOVW.out.mem)
            have HDz_VW := hide (hb.apart' HOVW.out.mem)
            have HDx_z := hide (hb.apart HOx.out.mem)
            have HDz_x := hide (hb.apart' HOx.out.mem)
            have HDX_z := hide (hb.apart HOX.out.mem)
            have HDz_X := hide (hb.apart' HOX.out.mem)
            have HDy_z := hide (hb.apart HOy.out.mem)
            have HDz_y := hide (hb.apart' HOy.out.mem)
            have HDg_z := hide (hb.apart HOg.out.mem)
            have HDz_g := hide (hb.apart' HOg.out.mem)
            have HDVG_z := hide (hb.apart HOVG.out.mem)
            have HDz_VG := hide (hb.apart' HOVG.out.mem)
            have HNz := hide ((hb.old HK.out).new)
            replace HK := hide (HK.out.trans hk)
            replace HOA := hide (HOA.out.kept hk)
            replace HOw := hide (HOw.out.kept hk)
            replace HOVW := hide (HOVW.out.kept hk)
            replace HOx := hide (HOx.out.kept hk)
            replace HOX := hide (HOX.out.kept hk)
            replace HOy := hide (HOy.out.kept hk)
            replace HOg := hide (HOg.out.kept hk)
            replace HOVG := hide (HOVG.out.kept hk)
            have HOz := hide hb.toOwn
            clear hb hk
            have cA0 := cell_at HOA.out.mem 0 (by simp)
            have cA1 := cell_at HOA.out.mem 1 (by simp)
            simp only [Nat.zero_add, List.getElem_cons_zero, List.getElem_cons_succ] at cA0 cA1
            have lA := lt_of_cell cA0
            have cVW0 := cell_at HOVW.out.mem 0 (by simp)
            have cVW1 := cell_at HOVW.out.mem 1 (by simp)
            simp only [Nat.zero_add, List.getElem_cons_zero, List.getElem_cons_succ] at cVW0 cVW1
            have lVW := lt_of_cell cVW0
            have cX0 := cell_at HOX.out.mem 0 (by simp)
            have cX1 := cell_at HOX.out.mem 1 (by simp)
            simp only [Nat.zero_add, List.getElem_cons_zero, List.getElem_cons_succ] at cX0 cX1
            have lX := lt_of_cell cX0
            have cVG0 := cell_at HOVG.out.mem 0 (by simp)
            have cVG1 := cell_at HOVG.out.mem 1 (by simp)
            simp only [Nat.zero_add, List.getElem_cons_zero, List.getElem_cons_succ] at cVG0 cVG1
            have lVG := lt_of_cell cVG0)
         | (go_at_call 24
            refine (eqLedger_o id (some ⟨b2, 0, none⟩) (some ⟨b3, 0, none⟩) L.length L.length L w14 (HOx.out.mem ((some ⟨b2, 0, none⟩), flat L) (by simp)) (HOz.out.mem ((some ⟨b3, 0, none⟩), flat L) (by simp)) HL.out).mono ?_
            rintro x w15 ⟨rfl, hk⟩
            clear cA0 cA1 lA cVW0 cVW1 lVW cX0 cX1 lX cVG0 cVG1 lVG
            replace HK := hide (HK.out.trans hk)
            replace HOA := hide (HOA.out.kept hk)
            replace HOw := hide (HOw.out.kept hk)
            replace HOVW := hide (HOVW.out.kept hk)
            replace HOx := hide (HOx.out.kept hk)
            replace HOX := hide (HOX.out.kept hk)
            replace HOy := hide (HOy.out.kept hk)
            replace HOg := hide (HOg.out.kept hk)
            replace HOVG := hide (HOVG.out.kept hk)
            replace HOz := hide (HOz.out.kept hk)
            clear hk
            have cA0 := cell_at HOA.out.mem 0 (by simp)
            have cA1 := cell_at HOA.out.mem 1 (by simp)
            simp only [Nat.zero_add, List.getElem_cons_zero, List.getElem_cons_succ] at cA0 cA1
            have lA := lt_of_cell cA0
            have cVW0 := cell_at HOVW.out.mem 0 (by simp)
            have cVW1 := cell_at HOVW.out.mem 1 (by simp)
            simp only [Nat.zero_add, List.getElem_cons_zero, List.getElem_cons_succ] at cVW0 cVW1
            have lVW := lt_of_cell cVW0
            have cX0 := cell_at HOX.out.mem 0 (by simp)
            have cX1 := cell_at HOX.out.mem 1 (by simp)
            simp only [Nat.zero_add, List.getElem_cons_zero, List.getElem_cons_succ] at cX0 cX1
            have lX := lt_of_cell cX0
            have cVG0 := cell_at HOVG.out.mem 0 (by simp)
            have cVG1 := cell_at HOVG.out.mem 1 (by simp)
            simp only [Nat.zero_add, List.getElem_cons_zero, List.getElem_cons_succ] at cVG0 cVG1
            have lVG := lt_of_cell cVG0))
    clear HOz HNz HDA_z HDz_A HDw_z HDz_w HDVW_z HDz_VW HDx_z HDz_x HDX_z HDz_X HDy_z HDz_y HDg_z HDz_g HDVG_z HDz_VG
    clear cA0 cA1 lA cVW0 cVW1 lVW cX0 cX1 lX cVG0 cVG1 lVG
    have cA0 := cell_at HOA.out.mem 0 (by simp)
    have cA1 := cell_at HOA.out.mem 1 (by simp)
    simp only [Nat.zero_add, List.getElem_cons_zero, List.getElem_cons_succ] at cA0 cA1
    have lA := lt_of_cell cA0
    have cVW0 := cell_at HOVW.out.mem 0 (by simp)
    have cVW1 := cell_at HOVW.out.mem 1 (by simp)
    simp only [Nat.zero_add, List.getElem_cons_zero, List.getElem_cons_succ] at cVW0 cVW1
    have lVW := lt_of_cell cVW0
    have cX0 := cell_at HOX.out.mem 0 (by simp)
    have cX1 := cell_at HOX.out.mem 1 (by simp)
    simp only [Nat.zero_add, List.getElem_cons_zero, List.getElem_cons_succ] at cX0 cX1
    have lX := lt_of_cell cX0
    have cVG0 := cell_at HOVG.out.mem 0 (by simp)
    have cVG1 := cell_at HOVG.out.mem 1 (by simp)
    simp only [Nat.zero_add, List.getElem_cons_zero, List.getElem_cons_succ] at cVG0 cVG1
    have lVG := lt_of_cell cVG0
    go_wp2_with fail
    refine (unhide HTP _ HK.out).mono ?_
    rintro x w16 ⟨gv, nv, rfl, hev, hb, hk⟩
    have HEv := hide hev
    clear hev
    clear cA0 cA1 lA cVW0 cVW1 lVW cX0 cX1 lX cVG0 cVG1 lVG
    have HDA_v := hide (hb.apart HOA.out.mem)
    have HDv_A := hide (hb.apart' HOA.out.mem)
    have HDw_v := hide (hb.apart HOw.out.mem)
    have HDv_w := hide (hb.apart' HOw.out.mem)
    have HDVW_v := hide (hb.apart HOVW.out.mem)
    have HDv_VW := hide (hb.apart' HOVW.out.mem)
    have HDx_v := hide (hb.apart HOx.out.mem)
    have HDv_x := hide (hb.apart' HOx.out.mem)
    have HDX_v := hide (hb.apart HOX.out.mem)
    have HDv_X := hide (hb.apart' HOX.out.mem)
    have HDy_v := hide (hb.apart HOy.out.mem)
    have HDv_y := hide (hb.apart' HOy.out.mem)
    have HDg_v := hide (hb.apart HOg.out.mem)
    have HDv_g := hide (hb.apart' HOg.out.mem)
    have HDVG_v := hide (hb.apart HOVG.out.mem)
    have HDv_VG := hide (hb.apart' HOVG.out.mem)
    have HNv := hide ((hb.old HK.out).new)
    replace HK := hide (HK.out.trans hk)
    replace HOA := hide (HOA.out.kept hk)
    replace HOw := hide (HOw.out.kept hk)
    replace HOVW := hide (HOVW.out.kept hk)
    replace HOx := hide (HOx.out.kept hk)
    replace HOX := hide (HOX.out.kept hk)
    replace HOy := hide (HOy.out.kept hk)
    replace HOg := hide (HOg.out.kept hk)
    replace HOVG := hide (HOVG.out.kept hk)
    have HOv := hide hb.toOwn
    clear hb hk
    have cA0 := cell_at HOA.out.mem 0 (by simp)
    have cA1 := cell_at HOA.out.mem 1 (by simp)
    simp only [Nat.zero_add, List.getElem_cons_zero, List.getElem_cons_succ] at cA0 cA1
    have lA := lt_of_cell cA0
    have cVW0 := cell_at HOVW.out.mem 0 (by simp)
    have cVW1 := cell_at HOVW.out.mem 1 (by simp)
    simp only [Nat.zero_add, List.getElem_cons_zero, List.getElem_cons_succ] at cVW0 cVW1
    have lVW := lt_of_cell cVW0
    have cX0 := cell_at HOX.out.mem 0 (by simp)
    have cX1 := cell_at HOX.out.mem 1 (by simp)
    simp only [Nat.zero_add, List.getElem_cons_zero, List.getElem_cons_succ] at cX0 cX1
    have lX := lt_of_cell cX0
    have cVG0 := cell_at HOVG.out.mem 0 (by simp)
    have cVG1 := cell_at HOVG.out.mem 1 (by simp)
    simp only [Nat.zero_add, List.getElem_cons_zero, List.getElem_cons_succ] at cVG0 cVG1
    have lVG := lt_of_cell cVG0
    go_wp2_with fail
    refine (eqPS gy gv ds.length ny nv w16 (HEv.out.trans HEy.out.symm) (key_length HEy.out) HOy.out.mem HOv.out.mem HDs.out (key_len HEy.out HTx.out)).mono ?_
    rintro x w17 ⟨rfl, hk⟩
    clear cA0 cA1 lA cVW0 cVW1 lVW cX0 cX1 lX cVG0 cVG1 lVG
    replace HK := hide (HK.out.trans hk)
    replace HOA := hide (HOA.out.kept hk)
    replace HOw := hide (HOw.out.kept hk)
    replace HOVW := hide (HOVW.out.kept hk)
    replace HOx := hide (HOx.out.kept hk)
    replace HOX := hide (HOX.out.kept hk)
    replace HOy := hide (HOy.out.kept hk)
    replace HOg := hide (HOg.out.kept hk)
    replace HOVG := hide (HOVG.out.kept hk)
    replace HOv := hide (HOv.out.kept hk)
    clear hk
    clear HOv HNv HDA_v HDv_A HDw_v HDv_w HDVW_v HDv_VW HDx_v HDv_x HDX_v HDv_X HDy_v HDv_y HDg_v HDv_g HDVG_v HDv_VG
    clear HEv
    have cA0 := cell_at HOA.out.mem 0 (by simp)
    have cA1 := cell_at HOA.out.mem 1 (by simp)
    simp only [Nat.zero_add, List.getElem_cons_zero, List.getElem_cons_succ] at cA0 cA1
    have lA := lt_of_cell cA0
    have cVW0 := cell_at HOVW.out.mem 0 (by simp)
    have cVW1 := cell_at HOVW.out.mem 1 (by simp)
    simp only [Nat.zero_add, List.getElem_cons_zero, List.getElem_cons_succ] at cVW0 cVW1
    have lVW := lt_of_cell cVW0
    have cX0 := cell_at HOX.out.mem 0 (by simp)
    have cX1 := cell_at HOX.out.mem 1 (by simp)
    simp only [Nat.zero_add, List.getElem_cons_zero, List.getElem_cons_succ] at cX0 cX1
    have lX := lt_of_cell cX0
    have cVG0 := cell_at HOVG.out.mem 0 (by simp)
    have cVG1 := cell_at HOVG.out.mem 1 (by simp)
    simp only [Nat.zero_add, List.getElem_cons_zero, List.getElem_cons_succ] at cVG0 cVG1
    have lVG := lt_of_cell cVG0
    go_wp2_with fail
    refine (markLedger_o id (some ⟨b2, 0, none⟩) L.length L 1 w17 HOx.out HL.out (by decide) (by decide)).mono ?_
    rintro x w18 ⟨rfl, ho, ht⟩
    clear cA0 cA1 lA cVW0 cVW1 lVW cX0 cX1 lX cVG0 cVG1 lVG
    replace HK := hide (ht.keeps HK.out HNx.out)
    replace HOA := hide (HOA.out.turn ht HDA_x.out)
    replace HOw := hide (HOw.out.turn ht HDw_x.out)
    replace HOVW := hide (HOVW.out.turn ht HDVW_x.out)
    replace HOX := hide (HOX.out.turn ht HDX_x.out)
    replace HOy := hide (HOy.out.turn ht HDy_x.out)
    replace HOg := hide (HOg.out.turn ht HDg_x.out)
    replace HOVG := hide (HOVG.out.turn ht HDVG_x.out)
    clear ht
    replace HOx := hide ho
    clear ho
    clear HOx HNx HDA_x HDx_A HDw_x HDx_w HDVW_x HDx_VW HDX_x HDx_X HDy_x HDx_y HDg_x HDx_g HDVG_x HDx_VG
    have HKB : Hid (1 + 3 * L.length ≤ 900000000) := by show _ ≤ _; have := HL.out; omega
    have hkk : (1 : Int) + 3 * (L.length : Int) = ((1 + 3 * L.length : Nat) : Int) := by omega
    rw [hkk]
    clear hkk
    generalize 1 + 3 * L.length = kk at HKB ⊢
    have cA0 := cell_at HOA.out.mem 0 (by simp)
    have cA1 := cell_at HOA.out.mem 1 (by simp)
    simp only [Nat.zero_add, List.getElem_cons_zero, List.getElem_cons_succ] at cA0 cA1
    have lA := lt_of_cell cA0
    have cVW0 := cell_at HOVW.out.mem 0 (by simp)
    have cVW1 := cell_at HOVW.out.mem 1 (by simp)
    simp only [Nat.zero_add, List.getElem_cons_zero, List.getElem_cons_succ] at cVW0 cVW1
    have lVW := lt_of_cell cVW0
    have cX0 := cell_at HOX.out.mem 0 (by simp)
    have cX1 := cell_at HOX.out.mem 1 (by simp)
    simp only [Nat.zero_add, List.getElem_cons_zero, List.getElem_cons_succ] at cX0 cX1
    have lX := lt_of_cell cX0
    have cVG0 := cell_at HOVG.out.mem 0 (by simp)
    have cVG1 := cell_at HOVG.out.mem 1 (by simp)
    simp only [Nat.zero_add, List.getElem_cons_zero, List.getElem_cons_succ] at cVG0 cVG1
    have lVG := lt_of_cell cVG0
    go_wp2_with fail
    refine (markPS gy ds.length ny kk w18 (key_length HEy.out) HOy.out HDs.out (by rw [key_tot HEy.out]; exact HTp.out) HKB.out).mono ?_
    rintro x w19 ⟨zz, rfl, ht⟩
    clear cA0 cA1 lA cVW0 cVW1 lVW cX0 cX1 lX cVG0 cVG1 lVG
    replace HK := hide (ht.keeps HK.out HNy.out)
    replace HOA := hide (HOA.out.turn ht HDA_y.out)
    replace HOw := hide (HOw.out.turn ht HDw_y.out)
    replace HOVW := hide (HOVW.out.turn ht HDVW_y.out)
    replace HOX := hide (HOX.out.turn ht HDX_y.out)
    replace HOg := hide (HOg.out.turn ht HDg_y.out)
    replace HOVG := hide (HOVG.out.turn ht HDVG_y.out)
    clear ht
    clear HOy
    have HOy := hide (Own.nil w19)
    clear HOy HNy HDA_y HDy_A HDw_y HDy_w HDVW_y HDy_VW HDX_y HDy_X HDg_y HDy_g HDVG_y HDy_VG
    clear HEy
    clear HOX HNX HDA_X HDX_A HDw_X HDX_w HDVW_X HDX_VW HDg_X HDX_g HDVG_X HDX_VG
    have hkn : ¬ ((zz : Int) < 0) := by omega
    have cA0 := cell_at HOA.out.mem 0 (by simp)
    have cA1 := cell_at HOA.out.mem 1 (by simp)
    simp only [Nat.zero_add, List.getElem_cons_zero, List.getElem_cons_succ] at cA0 cA1
    have lA := lt_of_cell cA0
    have cVW0 := cell_at HOVW.out.mem 0 (by simp)
    have cVW1 := cell_at HOVW.out.mem 1 (by simp)
    simp only [Nat.zero_add, List.getElem_cons_zero, List.getElem_cons_succ] at cVW0 cVW1
    have lVW := lt_of_cell cVW0
    have cVG0 := cell_at HOVG.out.mem 0 (by simp)
    have cVG1 := cell_at HOVG.out.mem 1 (by simp)
    simp only [Nat.zero_add, List.getElem_cons_zero, List.getElem_cons_succ] at cVG0 cVG1
    have lVG := lt_of_cell cVG0
    go_wp2_with fail
    clear hkn
    refine (eqLedger_o rid ag aw cg cw R w19 (HOg.out.mem (ag, flat R) (by simp)) (HOw.out.mem (aw, flat R) (by simp)) HR.out).mono ?_
    rintro x w20 ⟨rfl, hk⟩
    clear cA0 cA1 lA cVW0 cVW1 lVW cVG0 cVG1 lVG
    replace HK := hide (HK.out.trans hk)
    replace HOA := hide (HOA.out.kept hk)
    replace HOw := hide (HOw.out.kept hk)
    replace HOVW := hide (HOVW.out.kept hk)
    replace HOg := hide (HOg.out.kept hk)
    replace HOVG := hide (HOVG.out.kept hk)
    clear hk
    have cA0 := cell_at HOA.out.mem 0 (by simp)
    have cA1 := cell_at HOA.out.mem 1 (by simp)
    simp only [Nat.zero_add, List.getElem_cons_zero, List.getElem_cons_succ] at cA0 cA1
    have lA := lt_of_cell cA0
    have cVW0 := cell_at HOVW.out.mem 0 (by simp)
    have cVW1 := cell_at HOVW.out.mem 1 (by simp)
    simp only [Nat.zero_add, List.getElem_cons_zero, List.getElem_cons_succ] at cVW0 cVW1
    have lVW := lt_of_cell cVW0
    have cVG0 := cell_at HOVG.out.mem 0 (by simp)
    have cVG1 := cell_at HOVG.out.mem 1 (by simp)
    simp only [Nat.zero_add, List.getElem_cons_zero, List.getElem_cons_succ] at cVG0 cVG1
    have lVG := lt_of_cell cVG0
    go_wp2_with fail
    refine (markLedger_o rid ag cg R 1 w20 HOg.out HR.out (by decide) (by decide)).mono ?_
    rintro x w21 ⟨rfl, ho, ht⟩
    clear cA0 cA1 lA cVW0 cVW1 lVW cVG0 cVG1 lVG
    replace HK := hide (ht.keeps HK.out HNg.out)
    replace HOA := hide (HOA.out.turn ht HDA_g.out)
    replace HOw := hide (HOw.out.turn ht HDw_g.out)
    replace HOVW := hide (HOVW.out.turn ht HDVW_g.out)
    replace HOVG := hide (HOVG.out.turn ht HDVG_g.out)
    clear ht
    replace HOg := hide ho
    clear ho
    have cA0 := cell_at HOA.out.mem 0 (by simp)
    have cA1 := cell_at HOA.out.mem 1 (by simp)
    simp only [Nat.zero_add, List.getElem_cons_zero, List.getElem_cons_succ] at cA0 cA1
    have lA := lt_of_cell cA0
    have cVW0 := cell_at HOVW.out.mem 0 (by simp)
    have cVW1 := cell_at HOVW.out.mem 1 (by simp)
    simp only [Nat.zero_add, List.getElem_cons_zero, List.getElem_cons_succ] at cVW0 cVW1
    have lVW := lt_of_cell cVW0
    have cVG0 := cell_at HOVG.out.mem 0 (by simp)
    have cVG1 := cell_at HOVG.out.mem 1 (by simp)
    simp only [Nat.zero_add, List.getElem_cons_zero, List.getElem_cons_succ] at cVG0 cVG1
    have lVG := lt_of_cell cVG0
    go_wp2_with fail
    refine (heldLedger_o rid ag cg R.length 1 w21 (HOg.out.mem (ag, flat (mkL 1 R.length)) (by simp)) HR.out (by decide) (by decide)).mono ?_
    rintro x w22 ⟨rfl, hk⟩
    clear cA0 cA1 lA cVW0 cVW1 lVW cVG0 cVG1 lVG
    replace HK := hide (HK.out.trans hk)
    replace HOA := hide (HOA.out.kept hk)
    replace HOw := hide (HOw.out.kept hk)
    replace HOVW := hide (HOVW.out.kept hk)
    replace HOg := hide (HOg.out.kept hk)
    replace HOVG := hide (HOVG.out.kept hk)
    clear hk
    have hrn : ¬ (1 + 3 * (R.length : Int) < 0) := by omega
    have cA0 := cell_at HOA.out.mem 0 (by simp)
    have cA1 := cell_at HOA.out.mem 1 (by simp)
    simp only [Nat.zero_add, List.getElem_cons_zero, List.getElem_cons_succ] at cA0 cA1
    have lA := lt_of_cell cA0
    have cVW0 := cell_at HOVW.out.mem 0 (by simp)
    have cVW1 := cell_at HOVW.out.mem 1 (by simp)
    simp only [Nat.zero_add, List.getElem_cons_zero, List.getElem_cons_succ] at cVW0 cVW1
    have lVW := lt_of_cell cVW0
    have cVG0 := cell_at HOVG.out.mem 0 (by simp)
    have cVG1 := cell_at HOVG.out.mem 1 (by simp)
    simp only [Nat.zero_add, List.getElem_cons_zero, List.getElem_cons_succ] at cVG0 cVG1
    have lVG := lt_of_cell cVG0
    go_wp2_with fail
    refine (unhide HTLedger _ HK.out).mono ?_
    rintro x w23 ⟨b4, rfl, hb, hk⟩
    clear cA0 cA1 lA cVW0 cVW1 lVW cVG0 cVG1 lVG
    have HDA_u := hide (hb.apart HOA.out.mem)
    have HDu_A := hide (hb.apart' HOA.out.mem)
    have HDw_u := hide (hb.apart HOw.out.mem)
    have HDu_w := hide (hb.apart' HOw.out.mem)
    have HDVW_u := hide (hb.apart HOVW.out.mem)
    have HDu_VW := hide (hb.apart' HOVW.out.mem)
    have HDg_u := hide (hb.apart HOg.out.mem)
    have HDu_g := hide (hb.apart' HOg.out.mem)
    have HDVG_u := hide (hb.apart HOVG.out.mem)
    have HDu_VG := hide (hb.apart' HOVG.out.mem)
    have HNu := hide ((hb.old HK.out).new)
    replace HK := hide (HK.out.trans hk)
    replace HOA := hide (HOA.out.kept hk)
    replace HOw := hide (HOw.out.kept hk)
    replace HOVW := hide (HOVW.out.kept hk)
    replace HOg := hide (HOg.out.kept hk)
    replace HOVG := hide (HOVG.out.kept hk)
    have HOu := hide hb.toOwn
    clear hb hk
    have cA0 := cell_at HOA.out.mem 0 (by simp)
    have cA1 := cell_at HOA.out.mem 1 (by simp)
    simp only [Nat.zero_add, List.getElem_cons_zero, List.getElem_cons_succ] at cA0 cA1
    have lA := lt_of_cell cA0
    have cVW0 := cell_at HOVW.out.mem 0 (by simp)
    have cVW1 := cell_at HOVW.out.mem 1 (by simp)
    simp only [Nat.zero_add, List.getElem_cons_zero, List.getElem_cons_succ] at cVW0 cVW1
    have lVW := lt_of_cell cVW0
    have cVG0 := cell_at HOVG.out.mem 0 (by simp)
    have cVG1 := cell_at HOVG.out.mem 1 (by simp)
    simp only [Nat.zero_add, List.getElem_cons_zero, List.getElem_cons_succ] at cVG0 cVG1
    have lVG := lt_of_cell cVG0
    go_wp2_with fail
    refine (unhide HTP _ HK.out).mono ?_
    rintro x w24 ⟨go, no, rfl, heo, hb, hk⟩
    have HEo := hide heo
    clear heo
    clear cA0 cA1 lA cVW0 cVW1 lVW cVG0 cVG1 lVG
    have HDA_o := hide (hb.apart HOA.out.mem)
    have HDo_A := hide (hb.apart' HOA.out.mem)
    have HDw_o := hide (hb.apart HOw.out.mem)
    have HDo_w := hide (hb.apart' HOw.out.mem)
    have HDVW_o := hide (hb.apart HOVW.out.mem)
    have HDo_VW := hide (hb.apart' HOVW.out.mem)
    have HDg_o := hide (hb.apart HOg.out.mem)
    have HDo_g := hide (hb.apart' HOg.out.mem)
    have HDVG_o := hide (hb.apart HOVG.out.mem)
    have HDo_VG := hide (hb.apart' HOVG.out.mem)
    have HDu_o := hide (hb.apart HOu.out.mem)
    have HDo_u := hide (hb.apart' HOu.out.mem)
    have HNo := hide ((hb.old HK.out).new)
    replace HK := hide (HK.out.trans hk)
    replace HOA := hide (HOA.out.kept hk)
    replace HOw := hide (HOw.out.kept hk)
    replace HOVW := hide (HOVW.out.kept hk)
    replace HOg := hide (HOg.out.kept hk)
    replace HOVG := hide (HOVG.out.kept hk)
    replace HOu := hide (HOu.out.kept hk)
    have HOo := hide hb.toOwn
    clear hb hk
    have cA0 := cell_at HOA.out.mem 0 (by simp)
    have cA1 := cell_at HOA.out.mem 1 (by simp)
    simp only [Nat.zero_add, List.getElem_cons_zero, List.getElem_cons_succ] at cA0 cA1
    have lA := lt_of_cell cA0
    have cVW0 := cell_at HOVW.out.mem 0 (by simp)
    have cVW1 := cell_at HOVW.out.mem 1 (by simp)
    simp only [Nat.zero_add, List.getElem_cons_zero, List.getElem_cons_succ] at cVW0 cVW1
    have lVW := lt_of_cell cVW0
    have cVG0 := cell_at HOVG.out.mem 0 (by simp)
    have cVG1 := cell_at HOVG.out.mem 1 (by simp)
    simp only [Nat.zero_add, List.getElem_cons_zero, List.getElem_cons_succ] at cVG0 cVG1
    have lVG := lt_of_cell cVG0
    go_wp2_with fail
    refine (unhide HIP _ go no w24 HEo.out (HOu.out.mem ((some ⟨b4, 0, none⟩), flat L) (by simp)) HOo.out.mem).mono ?_
    rintro x w25 ⟨⟨ah, ch, rfl, hnh, hb⟩, hk⟩
    clear hnh
    clear cA0 cA1 lA cVW0 cVW1 lVW cVG0 cVG1 lVG
    have HDA_h := hide (hb.apart HOA.out.mem)
    have HDh_A := hide (hb.apart' HOA.out.mem)
    have HDw_h := hide (hb.apart HOw.out.mem)
    have HDh_w := hide (hb.apart' HOw.out.mem)
    have HDVW_h := hide (hb.apart HOVW.out.mem)
    have HDh_VW := hide (hb.apart' HOVW.out.mem)
    have HDg_h := hide (hb.apart HOg.out.mem)
    have HDh_g := hide (hb.apart' HOg.out.mem)
    have HDVG_h := hide (hb.apart HOVG.out.mem)
    have HDh_VG := hide (hb.apart' HOVG.out.mem)
    have HDu_h := hide (hb.apart HOu.out.mem)
    have HDh_u := hide (hb.apart' HOu.out.mem)
    have HDo_h := hide (hb.apart HOo.out.mem)
    have HDh_o := hide (hb.apart' HOo.out.mem)
    have HNh := hide ((hb.old HK.out).new)
    replace HK := hide (HK.out.trans hk)
    replace HOA := hide (HOA.out.kept hk)
    replace HOw := hide (HOw.out.kept hk)
    replace HOVW := hide (HOVW.out.kept hk)
    replace HOg := hide (HOg.out.kept hk)
    replace HOVG := hide (HOVG.out.kept hk)
    replace HOu := hide (HOu.out.kept hk)
    replace HOo := hide (HOo.out.kept hk)
    have HOh := hide hb.toOwn
    clear hb hk
    clear HOu HNu HDA_u HDu_A HDw_u HDu_w HDVW_u HDu_VW HDg_u HDu_g HDVG_u HDu_VG HDo_u HDu_o HDh_u HDu_h
    clear HOo HNo HDA_o HDo_A HDw_o HDo_w HDVW_o HDo_VW HDg_o HDo_g HDVG_o HDo_VG HDh_o HDo_h
    clear HEo
    have cA0 := cell_at HOA.out.mem 0 (by simp)
    have cA1 := cell_at HOA.out.mem 1 (by simp)
    simp only [Nat.zero_add, List.getElem_cons_zero, List.getElem_cons_succ] at cA0 cA1
    have lA := lt_of_cell cA0
    have cVW0 := cell_at HOVW.out.mem 0 (by simp)
    have cVW1 := cell_at HOVW.out.mem 1 (by simp)
    simp only [Nat.zero_add, List.getElem_cons_zero, List.getElem_cons_succ] at cVW0 cVW1
    have lVW := lt_of_cell cVW0
    have cVG0 := cell_at HOVG.out.mem 0 (by simp)
    have cVG1 := cell_at HOVG.out.mem 1 (by simp)
    simp only [Nat.zero_add, List.getElem_cons_zero, List.getElem_cons_succ] at cVG0 cVG1
    have lVG := lt_of_cell cVG0
    go_wp2_with fail
    have hb := born_alloc w25 #[.int .i64 rid, .slice ah R.length ch] 25
    dsimp only at hb
    have hk := Keeps.alloc (Keeps.refl w25) (.cells #[.int .i64 rid, .slice ah R.length ch] 25)
    generalize w25.alloc (.cells #[.int .i64 rid, .slice ah R.length ch] 25) = w26 at *
    clear cA0 cA1 lA cVW0 cVW1 lVW cVG0 cVG1 lVG
    have HDA_VH := hide (hb.apart HOA.out.mem)
    have HDVH_A := hide (hb.apart' HOA.out.mem)
    have HDw_VH := hide (hb.apart HOw.out.mem)
    have HDVH_w := hide (hb.apart' HOw.out.mem)
    have HDVW_VH := hide (hb.apart HOVW.out.mem)
    have HDVH_VW := hide (hb.apart' HOVW.out.mem)
    have HDg_VH := hide (hb.apart HOg.out.mem)
    have HDVH_g := hide (hb.apart' HOg.out.mem)
    have HDVG_VH := hide (hb.apart HOVG.out.mem)
    have HDVH_VG := hide (hb.apart' HOVG.out.mem)
    have HDh_VH := hide (hb.apart HOh.out.mem)
    have HDVH_h := hide (hb.apart' HOh.out.mem)
    have HNVH := hide ((hb.old HK.out).new)
    replace HK := hide (HK.out.trans hk)
    replace HOA := hide (HOA.out.kept hk)
    replace HOw := hide (HOw.out.kept hk)
    replace HOVW := hide (HOVW.out.kept hk)
    replace HOg := hide (HOg.out.kept hk)
    replace HOVG := hide (HOVG.out.kept hk)
    replace HOh := hide (HOh.out.kept hk)
    have HOVH := hide hb.toOwn
    clear hb hk
    refine (eqLedger_o rid ah aw ch cw R w26 (HOh.out.mem (ah, flat R) (by simp)) (HOw.out.mem (aw, flat R) (by simp)) HR.out).mono ?_
    rintro x w27 ⟨rfl, hk⟩
    replace HK := hide (HK.out.trans hk)
    replace HOA := hide (HOA.out.kept hk)
    replace HOw := hide (HOw.out.kept hk)
    replace HOVW := hide (HOVW.out.kept hk)
    replace HOg := hide (HOg.out.kept hk)
    replace HOVG := hide (HOVG.out.kept hk)
    replace HOh := hide (HOh.out.kept hk)
    replace HOVH := hide (HOVH.out.kept hk)
    clear hk
    have cA0 := cell_at HOA.out.mem 0 (by simp)
    have cA1 := cell_at HOA.out.mem 1 (by simp)
    simp only [Nat.zero_add, List.getElem_cons_zero, List.getElem_cons_succ] at cA0 cA1
    have lA := lt_of_cell cA0
    have cVW0 := cell_at HOVW.out.mem 0 (by simp)
    have cVW1 := cell_at HOVW.out.mem 1 (by simp)
    simp only [Nat.zero_add, List.getElem_cons_zero, List.getElem_cons_succ] at cVW0 cVW1
    have lVW := lt_of_cell cVW0
    have cVG0 := cell_at HOVG.out.mem 0 (by simp)
    have cVG1 := cell_at HOVG.out.mem 1 (by simp)
    simp only [Nat.zero_add, List.getElem_cons_zero, List.getElem_cons_succ] at cVG0 cVG1
    have lVG := lt_of_cell cVG0
    have cVH0 := cell_at HOVH.out.mem 0 (by simp)
    have cVH1 := cell_at HOVH.out.mem 1 (by simp)
    simp only [Nat.zero_add, List.getElem_cons_zero, List.getElem_cons_succ] at cVH0 cVH1
    have lVH := lt_of_cell cVH0
    go_wp2_with fail
    refine (heldLedger_o rid ag cg R.length 1 w27 (HOg.out.mem (ag, flat (mkL 1 R.length)) (by simp)) HR.out (by decide) (by decide)).mono ?_
    rintro x w28 ⟨rfl, hk⟩
    clear cA0 cA1 lA cVW0 cVW1 lVW cVG0 cVG1 lVG cVH0 cVH1 lVH
    replace HK := hide (HK.out.trans hk)
    replace HOA := hide (HOA.out.kept hk)
    replace HOw := hide (HOw.out.kept hk)
    replace HOVW := hide (HOVW.out.kept hk)
    replace HOg := hide (HOg.out.kept hk)
    replace HOVG := hide (HOVG.out.kept hk)
    replace HOh := hide (HOh.out.kept hk)
    replace HOVH := hide (HOVH.out.kept hk)
    clear hk
    have cA0 := cell_at HOA.out.mem 0 (by simp)
    have cA1 := cell_at HOA.out.mem 1 (by simp)
    simp only [Nat.zero_add, List.getElem_cons_zero, List.getElem_cons_succ] at cA0 cA1
    have lA := lt_of_cell cA0
    have cVW0 := cell_at HOVW.out.mem 0 (by simp)
    have cVW1 := cell_at HOVW.out.mem 1 (by simp)
    simp only [Nat.zero_add, List.getElem_cons_zero, List.getElem_cons_succ] at cVW0 cVW1
    have lVW := lt_of_cell cVW0
    have cVG0 := cell_at HOVG.out.mem 0 (by simp)
    have cVG1 := cell_at HOVG.out.mem 1 (by simp)
    simp only [Nat.zero_add, List.getElem_cons_zero, List.getElem_cons_succ] at cVG0 cVG1
    have lVG := lt_of_cell cVG0
    have cVH0 := cell_at HOVH.out.mem 0 (by simp)
    have cVH1 := cell_at HOVH.out.mem 1 (by simp)
    simp only [Nat.zero_add, List.getElem_cons_zero, List.getElem_cons_succ] at cVH0 cVH1
    have lVH := lt_of_cell cVH0
    go_wp2_with fail
    go_ret
    exact ⟨rfl, HK.out⟩
  · rw [if_neg (by omega)]
    go_wp2_with fail
    go_ret
    exact ⟨rfl, HK.out⟩

theorem own : ownKnob Try.prog.godebug = none := by kernel_rfl
theorem laidOut : laidOutB Try.prog = true := by kernel_rfl

set_option maxRecDepth 100000 in
theorem lifted (os : Os) (started : os.Started) (H : Type) (enc : TypeId × Value → H) :
    ReturnsInHanded {} Try.checked os 7 .any (Rows.fnExactPostAllSpec.pre6 enc Try.prog Try.f7 Rows.fnExactPostAllRow.domain false) (Rows.fnExactPostAllSpec.post enc Try.prog Try.f7 false true false false) := by
  refine returnsInHanded_of_change (C := Try.checked) own started (by kernel_rfl) Try.func7
    (ChangeSpec.witness6 (enc := enc) (C := Try.checked) false ⟨#[], #[.agg #[.int .i64 0, .slice none 0 0], .slice none 0 0], []⟩ 8 (by kernel_rfl) (by kernel_rfl) (by kernel_rfl) (by kernel_rfl)) ?_
  intro W base args ds gs before hval0 hW hcnd _
  have hval : ∀ (j : Nat) t v, Try.f7.params[j]? = some t → args[j]? = some v → Value.okWide Try.prog W .any base t v := hval0
  have hW' := hW
  obtain ⟨p, q, hA0, hV, rfl, hfz, hnd⟩ := hW
  have hA : DataW.TrodAll enc Try.prog W 0 (fun _ => true) true Try.f7.params.toList args.toList ds p := hA0
  rw [Try.params7] at hA hval
  obtain ⟨v0, vs0, d0, ds0, p0, q0, hargs, rfl, rfl, h0, r0⟩ := trodAll_cons hA
  obtain ⟨v1, vs1, d1, ds1, p1, q1, rfl, rfl, rfl, h1, r1⟩ := trodAll_cons r0
  obtain ⟨rfl, rfl, rfl⟩ := trodAll_nil r1
  obtain rfl : args = #[v0, v1] := by cases args; simp_all
  obtain ⟨rfl, rfl⟩ := trodVars_none hV
  have lt0 := lt_row h0
  have k0 := h0
  obtain ⟨id0, a0, cap0, L0, rfl, w0, hc0, hl0⟩ := ledger_row (hval 0 53 v0 rfl rfl) h0
  have lt1 := lt_row h1
  have k1 := h1
  obtain ⟨a1, cap1, ds1, rfl, hc1, hm1, hx1, hl1⟩ := postings_row (hval 1 65 v1 rfl rfl) h1
  clear hA0 hval0
  refine (walk id0 a0 cap0 L0 a1 cap1 ds1 W w0 hc0 hl0 hc1 hm1 hx1 hl1).mono fun e W' ⟨he, hb⟩ => ?_
  subst he
  refine ⟨_, rfl, _, _, _, [], (p0 ++ (p1 ++ [])), [], hW', ?_, ?_, ?_, Below.frame hb _, fun h => by cases h⟩
  · exact trodAll_mk1 (shut_bool Try.underlying4 _)
  · exact (trodAll_cons_mk (Below.trod laidOut (by kernel_rfl) (of_decide_eq_true (by kernel_rfl)) k0 hb lt0) (trodAll_cons_mk (Below.trod laidOut (by kernel_rfl) (of_decide_eq_true (by kernel_rfl)) k1 hb lt1) trodAll_mk0))
  · exact rfl

theorem over : Rows.fnExactPostAllRow.holds Try.pinned (OpenSpec.ofChange Rows.fnExactPostAllSpec) :=
  OpenClaim.holds_of_wide 7 Try.f7 rfl rfl rfl rfl rfl rfl rfl ⟨rfl, rfl, rfl, rfl, rfl⟩ rfl rfl rfl rfl rfl (by kernel_rfl) Try.func7 (by kernel_rfl)
    (of_decide_eq_true (by kernel_rfl)) (by unfold Func.isWrapper; first | (rw [if_pos (by decide +kernel)]; kernel_rfl) | (rw [if_neg (by decide +kernel)]; exact ⟨rfl, rfl⟩))
    (fun os started H enc _ => lifted os started H enc)
end Go.Proofs.Ytecjjkgdgmjgmaa.fnExactPostAll
namespace Go.Proofs.Ytecjjkgdgmjgmaa
theorem fnExactPostAll_holds : Rows.FnExactPostAllSaid := fnExactPostAll.over
end Go.Proofs.Ytecjjkgdgmjgmaa
