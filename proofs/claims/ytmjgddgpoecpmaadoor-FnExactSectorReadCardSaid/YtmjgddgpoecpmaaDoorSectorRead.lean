/- At every list of bytes the program's SectorRead answers as the model's, its argument is as it was, and its answer owns its memory; no condition but that the argument can be read, and the laid error. -/
import Derived.Test.YtmjgddgpoecpmaaDoorDsk
import Derived.Test.YtmjgddgpoecpmaaDoorSent
import Derived.Test.YtmjgddgpoecpmaaDoorVars
import Derived.Test.YtmjgddgpoecpmaaDoorSecH
import Derived.Test.YtmjgddgpoecpmaaDoorSRF
import Derived.Test.YtmjgddgpoecpmaaDoorSRW
import Derived.Test.YtmjgddgpoecpmaaDoorCards
import Derived.Test.YtmjgddgpoecpmaaDoorTie
import Derived.WalkKit
import Derived.ProofKit
import Derived.OpenShut
import Derived.ShutString
import Derived.LaidMore
import Derived.Stop.Joined
import Derived.SevenTiedAt
import Derived.ChangeOld
import Derived.Below
namespace Go.Proofs.YtmjgddgpoecpmaaDoor.fnExactSectorRead
open Go.ChangeShapes Go.WideShapes Go.ChangeAt Go.RowKit
open Go.ChangeMaps (open_string shut_string)
set_option linter.unusedVariables false
theorem own : ownKnob Tryd.prog.godebug = none := by kernel_rfl
theorem laidOut : laidOutB Tryd.prog = true := by kernel_rfl
theorem gGaveUp : Tryd.prog.globalNamed "loop.example/g00400/impl.errGaveUp" = some 1 := by kernel_rfl
theorem tGaveUp : (Tryd.prog.globals[1]?).map (·.type) = some 66 := by kernel_rfl
theorem door_met (os : Os) (args : Array Value) : laidMetH Tryd.prog Rows.fnExactSectorReadRow.laid ((World.doorLaid Tryd.prog 147 os).forCall (fun _ _ => 0) ⟨#[], args, []⟩).memory :=
  laidMetH_of_parts3 (fuel := 8) (laidMet_of_run' 8 (by kernel_rfl) (by kernel_rfl)) (by kernel_rfl) (by kernel_rfl)

set_option maxHeartbeats 4000000 in
theorem walk (a : Option Addr) (cap : Nat) (L : List UInt8) (w : World) (hc : Cells w a (bys L)) (hn : a = none → cap = 0) (hl : L.length ≤ 9223372036854775807) (u : TypeId) (pv : Value) (hv : w.cell? ⟨1, 0, none⟩ = some (.iface u pv)) :
    Calls Tryd.prog 6 #[.slice a L.length cap] w fun e w' => e = .returned (.bool true) ∧ Keeps w w' := by
  have HC := hide hc
  have HV := hide hv
  clear hc hn hv
  by_cases hlt : L.length ≤ 1048576
  · have HL := hide hlt
    have HL24 : Hid (L.length ≤ 16777216) := Nat.le_trans hlt (by decide)
    have HLm : Hid (L.length ≤ 9223372036854775807) := Nat.le_trans hlt (by decide)
    have HR24 : Hid ((srL L).length ≤ 16777216) := Nat.le_trans (srL_len L) (by decide)
    have hr100 : (srL L).length ≤ 100 := srL_len L
    go_enter Tryd.func6, Tryd.ntmps6
    have HK := hide (Keeps.refl w)
    go_wp2_with fail
    refine (toByteS_k a cap L w (HC.out.kept HK.out) HL.out).mono ?_
    rintro x w1 ⟨b1, rfl, hb, hk⟩
    have HNs := hide ((hb.old HK.out).new)
    replace HK := hide (HK.out.trans hk)
    have HOs := hide hb.toOwn
    clear hb hk
    go_wp2_with fail
    refine (secread_spec b1 0 L L.length w1 (HOs.out.mem ((some ⟨b1, 0, none⟩), bys L) (by simp)) HL24.out (Nat.le_refl _) HLm.out).mono ?_
    rintro x w2 ⟨aw, cw0, rfl, _, hb, hk⟩
    have HDs_w := hide (hb.apart HOs.out.mem)
    have HDw_s := hide (hb.apart' HOs.out.mem)
    have HNw := hide ((hb.old HK.out).new)
    replace HK := hide (HK.out.trans hk)
    replace HOs := hide (HOs.out.kept hk)
    have HOw := hide hb.toOwn
    clear hb hk
    clear HOs HNs HDw_s HDs_w
    have hb := born_alloc w2 #[.int .i64 (srQ L), .int .i64 (srE L), .slice aw (srL L).length cw0] 24
    dsimp only at hb
    have hk := Keeps.alloc (Keeps.refl w2) (.cells #[.int .i64 (srQ L), .int .i64 (srE L), .slice aw (srL L).length cw0] 24)
    have HDw_A := hide (hb.apart HOw.out.mem)
    have HDA_w := hide (hb.apart' HOw.out.mem)
    have HNA := hide ((hb.old HK.out).new)
    replace HK := hide (HK.out.trans hk)
    replace HOw := hide (HOw.out.kept hk)
    have HOA := hide hb.toOwn
    clear hb hk
    go_wp2_with fail
    generalize w2.alloc (.cells #[.int .i64 (srQ L), .int .i64 (srE L), .slice aw (srL L).length cw0] 24) = w3 at *
    refine (toByteS_k a cap L w3 (HC.out.kept HK.out) HL.out).mono ?_
    rintro x w4 ⟨b2, rfl, hb, hk⟩
    have HDw_x := hide (hb.apart HOw.out.mem)
    have HDx_w := hide (hb.apart' HOw.out.mem)
    have HDA_x := hide (hb.apart HOA.out.mem)
    have HDx_A := hide (hb.apart' HOA.out.mem)
    have HNx := hide ((hb.old HK.out).new)
    replace HK := hide (HK.out.trans hk)
    replace HOw := hide (HOw.out.kept hk)
    replace HOA := hide (HOA.out.kept hk)
    have HOx := hide hb.toOwn
    clear hb hk
    have cA0 := cell_at HOA.out.mem 0 (by simp)
    have cA1 := cell_at HOA.out.mem 1 (by simp)
    have cA2 := cell_at HOA.out.mem 2 (by simp)
    simp only [Nat.zero_add, List.getElem_cons_zero, List.getElem_cons_succ] at cA0 cA1 cA2
    have lA := lt_of_cell cA0
    go_wp2_with fail
    refine (secread_impl b2 0 L L.length w4 u pv (HK.out.cell HV.out) (HOx.out.mem ((some ⟨b2, 0, none⟩), bys L) (by simp)) HL24.out (Nat.le_refl _) HLm.out).mono ?_
    rintro x w5 ⟨ag, cg0, rfl, _, hb, hk⟩
    clear cA0 cA1 cA2 lA
    have HDw_g := hide (hb.apart HOw.out.mem)
    have HDg_w := hide (hb.apart' HOw.out.mem)
    have HDA_g := hide (hb.apart HOA.out.mem)
    have HDg_A := hide (hb.apart' HOA.out.mem)
    have HDx_g := hide (hb.apart HOx.out.mem)
    have HDg_x := hide (hb.apart' HOx.out.mem)
    have HNg := hide ((hb.old HK.out).new)
    replace HK := hide (HK.out.trans hk)
    replace HOw := hide (HOw.out.kept hk)
    replace HOA := hide (HOA.out.kept hk)
    replace HOx := hide (HOx.out.kept hk)
    have HOg := hide hb.toOwn
    clear hb hk
    have hb := born_alloc w5 #[.int .i64 (srQ L), .int .i64 (srE L), .slice ag (srL L).length cg0] 24
    dsimp only at hb
    have hk := Keeps.alloc (Keeps.refl w5) (.cells #[.int .i64 (srQ L), .int .i64 (srE L), .slice ag (srL L).length cg0] 24)
    have HDw_B := hide (hb.apart HOw.out.mem)
    have HDB_w := hide (hb.apart' HOw.out.mem)
    have HDA_B := hide (hb.apart HOA.out.mem)
    have HDB_A := hide (hb.apart' HOA.out.mem)
    have HDx_B := hide (hb.apart HOx.out.mem)
    have HDB_x := hide (hb.apart' HOx.out.mem)
    have HDg_B := hide (hb.apart HOg.out.mem)
    have HDB_g := hide (hb.apart' HOg.out.mem)
    have HNB := hide ((hb.old HK.out).new)
    replace HK := hide (HK.out.trans hk)
    replace HOw := hide (HOw.out.kept hk)
    replace HOA := hide (HOA.out.kept hk)
    replace HOx := hide (HOx.out.kept hk)
    replace HOg := hide (HOg.out.kept hk)
    have HOB := hide hb.toOwn
    clear hb hk
    have cA0 := cell_at HOA.out.mem 0 (by simp)
    have cA1 := cell_at HOA.out.mem 1 (by simp)
    have cA2 := cell_at HOA.out.mem 2 (by simp)
    simp only [Nat.zero_add, List.getElem_cons_zero, List.getElem_cons_succ] at cA0 cA1 cA2
    have lA := lt_of_cell cA0
    have cB0 := cell_at HOB.out.mem 0 (by simp)
    have cB1 := cell_at HOB.out.mem 1 (by simp)
    have cB2 := cell_at HOB.out.mem 2 (by simp)
    simp only [Nat.zero_add, List.getElem_cons_zero, List.getElem_cons_succ] at cB0 cB1 cB2
    have lB := lt_of_cell cB0
    go_wp2_with fail
    generalize w5.alloc (.cells #[.int .i64 (srQ L), .int .i64 (srE L), .slice ag (srL L).length cg0] 24) = w6 at *
    clear cA0 cA1 cA2 lA cB0 cB1 cB2 lB
    refine (eqSector_k (srQ L) (srE L) ag aw cg0 cw0 (srL L) w6 (HOg.out.mem (ag, bys (srL L)) (by simp)) (HOw.out.mem (aw, bys (srL L)) (by simp)) HR24.out).mono ?_
    rintro x w7 ⟨rfl, hk⟩
    replace HK := hide (HK.out.trans hk)
    replace HOw := hide (HOw.out.kept hk)
    replace HOA := hide (HOA.out.kept hk)
    replace HOx := hide (HOx.out.kept hk)
    replace HOg := hide (HOg.out.kept hk)
    replace HOB := hide (HOB.out.kept hk)
    clear hk
    have cA0 := cell_at HOA.out.mem 0 (by simp)
    have cA1 := cell_at HOA.out.mem 1 (by simp)
    have cA2 := cell_at HOA.out.mem 2 (by simp)
    simp only [Nat.zero_add, List.getElem_cons_zero, List.getElem_cons_succ] at cA0 cA1 cA2
    have lA := lt_of_cell cA0
    have cB0 := cell_at HOB.out.mem 0 (by simp)
    have cB1 := cell_at HOB.out.mem 1 (by simp)
    have cB2 := cell_at HOB.out.mem 2 (by simp)
    simp only [Nat.zero_add, List.getElem_cons_zero, List.getElem_cons_succ] at cB0 cB1 cB2
    have lB := lt_of_cell cB0
    go_wp2_with fail
    refine (toByteS_k a cap L w7 (HC.out.kept HK.out) HL.out).mono ?_
    rintro x w8 ⟨b3, rfl, hb, hk⟩
    clear cA0 cA1 cA2 lA cB0 cB1 cB2 lB
    have HDw_y := hide (hb.apart HOw.out.mem)
    have HDy_w := hide (hb.apart' HOw.out.mem)
    have HDA_y := hide (hb.apart HOA.out.mem)
    have HDy_A := hide (hb.apart' HOA.out.mem)
    have HDx_y := hide (hb.apart HOx.out.mem)
    have HDy_x := hide (hb.apart' HOx.out.mem)
    have HDg_y := hide (hb.apart HOg.out.mem)
    have HDy_g := hide (hb.apart' HOg.out.mem)
    have HDB_y := hide (hb.apart HOB.out.mem)
    have HDy_B := hide (hb.apart' HOB.out.mem)
    have HNy := hide ((hb.old HK.out).new)
    replace HK := hide (HK.out.trans hk)
    replace HOw := hide (HOw.out.kept hk)
    replace HOA := hide (HOA.out.kept hk)
    replace HOx := hide (HOx.out.kept hk)
    replace HOg := hide (HOg.out.kept hk)
    replace HOB := hide (HOB.out.kept hk)
    have HOy := hide hb.toOwn
    clear hb hk
    have cA0 := cell_at HOA.out.mem 0 (by simp)
    have cA1 := cell_at HOA.out.mem 1 (by simp)
    have cA2 := cell_at HOA.out.mem 2 (by simp)
    simp only [Nat.zero_add, List.getElem_cons_zero, List.getElem_cons_succ] at cA0 cA1 cA2
    have lA := lt_of_cell cA0
    have cB0 := cell_at HOB.out.mem 0 (by simp)
    have cB1 := cell_at HOB.out.mem 1 (by simp)
    have cB2 := cell_at HOB.out.mem 2 (by simp)
    simp only [Nat.zero_add, List.getElem_cons_zero, List.getElem_cons_succ] at cB0 cB1 cB2
    have lB := lt_of_cell cB0
    go_wp2_with fail
    refine (eqBytes_k (some ⟨b2, 0, none⟩) (some ⟨b3, 0, none⟩) L.length L.length L w8 (HOx.out.mem ((some ⟨b2, 0, none⟩), bys L) (by simp)) (HOy.out.mem ((some ⟨b3, 0, none⟩), bys L) (by simp)) HL24.out).mono ?_
    rintro x w9 ⟨rfl, hk⟩
    clear cA0 cA1 cA2 lA cB0 cB1 cB2 lB
    replace HK := hide (HK.out.trans hk)
    replace HOw := hide (HOw.out.kept hk)
    replace HOA := hide (HOA.out.kept hk)
    replace HOx := hide (HOx.out.kept hk)
    replace HOg := hide (HOg.out.kept hk)
    replace HOB := hide (HOB.out.kept hk)
    replace HOy := hide (HOy.out.kept hk)
    clear hk
    clear HOy HNy HDw_y HDy_w HDA_y HDy_A HDx_y HDy_x HDg_y HDy_g HDB_y HDy_B
    have cA0 := cell_at HOA.out.mem 0 (by simp)
    have cA1 := cell_at HOA.out.mem 1 (by simp)
    have cA2 := cell_at HOA.out.mem 2 (by simp)
    simp only [Nat.zero_add, List.getElem_cons_zero, List.getElem_cons_succ] at cA0 cA1 cA2
    have lA := lt_of_cell cA0
    have cB0 := cell_at HOB.out.mem 0 (by simp)
    have cB1 := cell_at HOB.out.mem 1 (by simp)
    have cB2 := cell_at HOB.out.mem 2 (by simp)
    simp only [Nat.zero_add, List.getElem_cons_zero, List.getElem_cons_succ] at cB0 cB1 cB2
    have lB := lt_of_cell cB0
    go_wp2_with fail
    refine (markByteS_k (some ⟨b2, 0, none⟩) L.length L 1 w9 HOx.out HL24.out (by decide)).mono ?_
    rintro x w10 ⟨rfl, ho, ht⟩
    clear cA0 cA1 cA2 lA cB0 cB1 cB2 lB
    replace HK := hide (ht.keeps HK.out HNx.out)
    replace HOw := hide (HOw.out.turn ht HDw_x.out)
    replace HOA := hide (HOA.out.turn ht HDA_x.out)
    replace HOg := hide (HOg.out.turn ht HDg_x.out)
    replace HOB := hide (HOB.out.turn ht HDB_x.out)
    clear ht
    replace HOx := hide ho
    clear ho
    have cA0 := cell_at HOA.out.mem 0 (by simp)
    have cA1 := cell_at HOA.out.mem 1 (by simp)
    have cA2 := cell_at HOA.out.mem 2 (by simp)
    simp only [Nat.zero_add, List.getElem_cons_zero, List.getElem_cons_succ] at cA0 cA1 cA2
    have lA := lt_of_cell cA0
    have cB0 := cell_at HOB.out.mem 0 (by simp)
    have cB1 := cell_at HOB.out.mem 1 (by simp)
    have cB2 := cell_at HOB.out.mem 2 (by simp)
    simp only [Nat.zero_add, List.getElem_cons_zero, List.getElem_cons_succ] at cB0 cB1 cB2
    have lB := lt_of_cell cB0
    go_wp2_with fail
    refine (eqSector_k (srQ L) (srE L) ag aw cg0 cw0 (srL L) w10 (HOg.out.mem (ag, bys (srL L)) (by simp)) (HOw.out.mem (aw, bys (srL L)) (by simp)) HR24.out).mono ?_
    rintro x w11 ⟨rfl, hk⟩
    clear cA0 cA1 cA2 lA cB0 cB1 cB2 lB
    replace HK := hide (HK.out.trans hk)
    replace HOw := hide (HOw.out.kept hk)
    replace HOA := hide (HOA.out.kept hk)
    replace HOx := hide (HOx.out.kept hk)
    replace HOg := hide (HOg.out.kept hk)
    replace HOB := hide (HOB.out.kept hk)
    clear hk
    clear HOx HNx HDw_x HDx_w HDA_x HDx_A HDg_x HDx_g HDB_x HDx_B
    have cA0 := cell_at HOA.out.mem 0 (by simp)
    have cA1 := cell_at HOA.out.mem 1 (by simp)
    have cA2 := cell_at HOA.out.mem 2 (by simp)
    simp only [Nat.zero_add, List.getElem_cons_zero, List.getElem_cons_succ] at cA0 cA1 cA2
    have lA := lt_of_cell cA0
    have cB0 := cell_at HOB.out.mem 0 (by simp)
    have cB1 := cell_at HOB.out.mem 1 (by simp)
    have cB2 := cell_at HOB.out.mem 2 (by simp)
    simp only [Nat.zero_add, List.getElem_cons_zero, List.getElem_cons_succ] at cB0 cB1 cB2
    have lB := lt_of_cell cB0
    go_wp2_with fail
    refine (markSector_k (srQ L) (srE L) ag cg0 (srL L) 1 w11 HOg.out HR24.out (by decide)).mono ?_
    rintro x w12 ⟨rfl, ho, ht⟩
    clear cA0 cA1 cA2 lA cB0 cB1 cB2 lB
    replace HK := hide (ht.keeps HK.out HNg.out)
    replace HOw := hide (HOw.out.turn ht HDw_g.out)
    replace HOA := hide (HOA.out.turn ht HDA_g.out)
    replace HOB := hide (HOB.out.turn ht HDB_g.out)
    clear ht
    replace HOg := hide ho
    clear ho
    have cA0 := cell_at HOA.out.mem 0 (by simp)
    have cA1 := cell_at HOA.out.mem 1 (by simp)
    have cA2 := cell_at HOA.out.mem 2 (by simp)
    simp only [Nat.zero_add, List.getElem_cons_zero, List.getElem_cons_succ] at cA0 cA1 cA2
    have lA := lt_of_cell cA0
    have cB0 := cell_at HOB.out.mem 0 (by simp)
    have cB1 := cell_at HOB.out.mem 1 (by simp)
    have cB2 := cell_at HOB.out.mem 2 (by simp)
    simp only [Nat.zero_add, List.getElem_cons_zero, List.getElem_cons_succ] at cB0 cB1 cB2
    have lB := lt_of_cell cB0
    go_wp2_with fail
    refine (heldSector_k (srQ L) (srE L) ag cg0 (srL L).length 1 w12 (HOg.out.mem (ag, bys (marksB 1 (srL L).length)) (by simp)) HR24.out (by decide)).mono ?_
    rintro x w13 ⟨rfl, hk⟩
    clear cA0 cA1 cA2 lA cB0 cB1 cB2 lB
    replace HK := hide (HK.out.trans hk)
    replace HOw := hide (HOw.out.kept hk)
    replace HOA := hide (HOA.out.kept hk)
    replace HOg := hide (HOg.out.kept hk)
    replace HOB := hide (HOB.out.kept hk)
    clear hk
    have cA0 := cell_at HOA.out.mem 0 (by simp)
    have cA1 := cell_at HOA.out.mem 1 (by simp)
    have cA2 := cell_at HOA.out.mem 2 (by simp)
    simp only [Nat.zero_add, List.getElem_cons_zero, List.getElem_cons_succ] at cA0 cA1 cA2
    have lA := lt_of_cell cA0
    have cB0 := cell_at HOB.out.mem 0 (by simp)
    have cB1 := cell_at HOB.out.mem 1 (by simp)
    have cB2 := cell_at HOB.out.mem 2 (by simp)
    simp only [Nat.zero_add, List.getElem_cons_zero, List.getElem_cons_succ] at cB0 cB1 cB2
    have lB := lt_of_cell cB0
    go_wp2_with fail
    refine (toByteS_k a cap L w13 (HC.out.kept HK.out) HL.out).mono ?_
    rintro x w14 ⟨b4, rfl, hb, hk⟩
    clear cA0 cA1 cA2 lA cB0 cB1 cB2 lB
    have HDw_z := hide (hb.apart HOw.out.mem)
    have HDz_w := hide (hb.apart' HOw.out.mem)
    have HDA_z := hide (hb.apart HOA.out.mem)
    have HDz_A := hide (hb.apart' HOA.out.mem)
    have HDg_z := hide (hb.apart HOg.out.mem)
    have HDz_g := hide (hb.apart' HOg.out.mem)
    have HDB_z := hide (hb.apart HOB.out.mem)
    have HDz_B := hide (hb.apart' HOB.out.mem)
    have HNz := hide ((hb.old HK.out).new)
    replace HK := hide (HK.out.trans hk)
    replace HOw := hide (HOw.out.kept hk)
    replace HOA := hide (HOA.out.kept hk)
    replace HOg := hide (HOg.out.kept hk)
    replace HOB := hide (HOB.out.kept hk)
    have HOz := hide hb.toOwn
    clear hb hk
    have cA0 := cell_at HOA.out.mem 0 (by simp)
    have cA1 := cell_at HOA.out.mem 1 (by simp)
    have cA2 := cell_at HOA.out.mem 2 (by simp)
    simp only [Nat.zero_add, List.getElem_cons_zero, List.getElem_cons_succ] at cA0 cA1 cA2
    have lA := lt_of_cell cA0
    have cB0 := cell_at HOB.out.mem 0 (by simp)
    have cB1 := cell_at HOB.out.mem 1 (by simp)
    have cB2 := cell_at HOB.out.mem 2 (by simp)
    simp only [Nat.zero_add, List.getElem_cons_zero, List.getElem_cons_succ] at cB0 cB1 cB2
    have lB := lt_of_cell cB0
    go_wp2_with fail
    refine (secread_impl b4 0 L L.length w14 u pv (HK.out.cell HV.out) (HOz.out.mem ((some ⟨b4, 0, none⟩), bys L) (by simp)) HL24.out (Nat.le_refl _) HLm.out).mono ?_
    rintro x w15 ⟨ah, ch0, rfl, _, hb, hk⟩
    clear cA0 cA1 cA2 lA cB0 cB1 cB2 lB
    have HDw_h := hide (hb.apart HOw.out.mem)
    have HDh_w := hide (hb.apart' HOw.out.mem)
    have HDA_h := hide (hb.apart HOA.out.mem)
    have HDh_A := hide (hb.apart' HOA.out.mem)
    have HDg_h := hide (hb.apart HOg.out.mem)
    have HDh_g := hide (hb.apart' HOg.out.mem)
    have HDB_h := hide (hb.apart HOB.out.mem)
    have HDh_B := hide (hb.apart' HOB.out.mem)
    have HDz_h := hide (hb.apart HOz.out.mem)
    have HDh_z := hide (hb.apart' HOz.out.mem)
    have HNh := hide ((hb.old HK.out).new)
    replace HK := hide (HK.out.trans hk)
    replace HOw := hide (HOw.out.kept hk)
    replace HOA := hide (HOA.out.kept hk)
    replace HOg := hide (HOg.out.kept hk)
    replace HOB := hide (HOB.out.kept hk)
    replace HOz := hide (HOz.out.kept hk)
    have HOh := hide hb.toOwn
    clear hb hk
    clear HOz HNz HDw_z HDz_w HDA_z HDz_A HDg_z HDz_g HDB_z HDz_B HDh_z HDz_h
    have hb := born_alloc w15 #[.int .i64 (srQ L), .int .i64 (srE L), .slice ah (srL L).length ch0] 24
    dsimp only at hb
    have hk := Keeps.alloc (Keeps.refl w15) (.cells #[.int .i64 (srQ L), .int .i64 (srE L), .slice ah (srL L).length ch0] 24)
    have HDw_C := hide (hb.apart HOw.out.mem)
    have HDC_w := hide (hb.apart' HOw.out.mem)
    have HDA_C := hide (hb.apart HOA.out.mem)
    have HDC_A := hide (hb.apart' HOA.out.mem)
    have HDg_C := hide (hb.apart HOg.out.mem)
    have HDC_g := hide (hb.apart' HOg.out.mem)
    have HDB_C := hide (hb.apart HOB.out.mem)
    have HDC_B := hide (hb.apart' HOB.out.mem)
    have HDh_C := hide (hb.apart HOh.out.mem)
    have HDC_h := hide (hb.apart' HOh.out.mem)
    have HNC := hide ((hb.old HK.out).new)
    replace HK := hide (HK.out.trans hk)
    replace HOw := hide (HOw.out.kept hk)
    replace HOA := hide (HOA.out.kept hk)
    replace HOg := hide (HOg.out.kept hk)
    replace HOB := hide (HOB.out.kept hk)
    replace HOh := hide (HOh.out.kept hk)
    have HOC := hide hb.toOwn
    clear hb hk
    have cA0 := cell_at HOA.out.mem 0 (by simp)
    have cA1 := cell_at HOA.out.mem 1 (by simp)
    have cA2 := cell_at HOA.out.mem 2 (by simp)
    simp only [Nat.zero_add, List.getElem_cons_zero, List.getElem_cons_succ] at cA0 cA1 cA2
    have lA := lt_of_cell cA0
    have cC0 := cell_at HOC.out.mem 0 (by simp)
    have cC1 := cell_at HOC.out.mem 1 (by simp)
    have cC2 := cell_at HOC.out.mem 2 (by simp)
    simp only [Nat.zero_add, List.getElem_cons_zero, List.getElem_cons_succ] at cC0 cC1 cC2
    have lC := lt_of_cell cC0
    go_wp2_with fail
    generalize w15.alloc (.cells #[.int .i64 (srQ L), .int .i64 (srE L), .slice ah (srL L).length ch0] 24) = w16 at *
    clear cA0 cA1 cA2 lA cC0 cC1 cC2 lC
    refine (eqSector_k (srQ L) (srE L) ah aw ch0 cw0 (srL L) w16 (HOh.out.mem (ah, bys (srL L)) (by simp)) (HOw.out.mem (aw, bys (srL L)) (by simp)) HR24.out).mono ?_
    rintro x w17 ⟨rfl, hk⟩
    replace HK := hide (HK.out.trans hk)
    replace HOw := hide (HOw.out.kept hk)
    replace HOA := hide (HOA.out.kept hk)
    replace HOg := hide (HOg.out.kept hk)
    replace HOB := hide (HOB.out.kept hk)
    replace HOh := hide (HOh.out.kept hk)
    replace HOC := hide (HOC.out.kept hk)
    clear hk
    have cA0 := cell_at HOA.out.mem 0 (by simp)
    have cA1 := cell_at HOA.out.mem 1 (by simp)
    have cA2 := cell_at HOA.out.mem 2 (by simp)
    simp only [Nat.zero_add, List.getElem_cons_zero, List.getElem_cons_succ] at cA0 cA1 cA2
    have lA := lt_of_cell cA0
    have cB0 := cell_at HOB.out.mem 0 (by simp)
    have cB1 := cell_at HOB.out.mem 1 (by simp)
    have cB2 := cell_at HOB.out.mem 2 (by simp)
    simp only [Nat.zero_add, List.getElem_cons_zero, List.getElem_cons_succ] at cB0 cB1 cB2
    have lB := lt_of_cell cB0
    go_wp2_with fail
    refine (heldSector_k (srQ L) (srE L) ag cg0 (srL L).length 1 w17 (HOg.out.mem (ag, bys (marksB 1 (srL L).length)) (by simp)) HR24.out (by decide)).mono ?_
    rintro x w18 ⟨rfl, hk⟩
    clear cA0 cA1 cA2 lA cB0 cB1 cB2 lB
    replace HK := hide (HK.out.trans hk)
    replace HOw := hide (HOw.out.kept hk)
    replace HOA := hide (HOA.out.kept hk)
    replace HOg := hide (HOg.out.kept hk)
    replace HOB := hide (HOB.out.kept hk)
    replace HOh := hide (HOh.out.kept hk)
    replace HOC := hide (HOC.out.kept hk)
    clear hk
    have cA0 := cell_at HOA.out.mem 0 (by simp)
    have cA1 := cell_at HOA.out.mem 1 (by simp)
    have cA2 := cell_at HOA.out.mem 2 (by simp)
    simp only [Nat.zero_add, List.getElem_cons_zero, List.getElem_cons_succ] at cA0 cA1 cA2
    have lA := lt_of_cell cA0
    have cB0 := cell_at HOB.out.mem 0 (by simp)
    have cB1 := cell_at HOB.out.mem 1 (by simp)
    have cB2 := cell_at HOB.out.mem 2 (by simp)
    simp only [Nat.zero_add, List.getElem_cons_zero, List.getElem_cons_succ] at cB0 cB1 cB2
    have lB := lt_of_cell cB0
    go_wp2_with fail
    go_ret
    exact ⟨rfl, HK.out⟩
  · have h1 : (1048576 : Int) < L.length := by omega
    clear hlt HC
    go_enter Tryd.func6, Tryd.ntmps6
    go_wp2_with fail
    go_ret
    exact ⟨rfl, Keeps.refl _⟩

set_option maxRecDepth 100000 in
theorem lifted (os : Os) (started : os.Started) (H : Type) (enc : TypeId × Value → H) :
    ReturnsInHanded {} Tryd.checked os 6 .any (fun w args => (Rows.fnExactSectorReadSpec.pre enc Tryd.prog Tryd.f6 [] false w args ∧ laidMetH Tryd.prog Rows.fnExactSectorReadRow.laid w) ∧ sizedMet enc Tryd.prog Tryd.f6 (OpenSpec.ofChange Rows.fnExactSectorReadSpec) false w args)
      (Rows.fnExactSectorReadSpec.post enc Tryd.prog Tryd.f6 false true false false) := by
  refine returnsInHanded_of_change_and (C := Tryd.checked) (X := fun w _ => laidMetH Tryd.prog Rows.fnExactSectorReadRow.laid w) (fun _ _ _ hh h => h.of_heap hh) own started (by kernel_rfl) Tryd.func6
    (ChangeSpec.witness_shaped (enc := enc) (C := Tryd.checked) (os := os) (X := fun w _ => laidMetH Tryd.prog Rows.fnExactSectorReadRow.laid w) false (World.doorLaid Tryd.prog 147 os) #[.slice none 0 0] 8 rfl (World.shaped_of_RefB (by kernel_rfl) (by kernel_rfl)) (by kernel_rfl) (by kernel_rfl) (by kernel_rfl) (door_met os _)) ?_
  intro W base args ds gs before hval0 hW _ hsz hL _
  have hval : ∀ (j : Nat) t v, Tryd.f6.params[j]? = some t → args[j]? = some v → Value.okWide Tryd.prog W .any base t v := hval0
  have hW' := hW
  obtain ⟨p, q, hA0, hV0, rfl, hfz, hnd⟩ := hW
  have hA : DataW.TrodAll enc Tryd.prog W 0 (fun _ => true) true Tryd.f6.params.toList args.toList ds p := hA0
  have hV : DataW.TrodVars enc Tryd.prog W (fun _ => true) ["loop.example/g00400/impl.errGaveUp"] gs q := hV0
  rw [Tryd.params6] at hA hval
  obtain ⟨v0, vs0, d0, ds0, p0, q0, hargs, rfl, rfl, h0, r0⟩ := trodAll_cons hA
  obtain ⟨rfl, rfl, rfl⟩ := trodAll_nil r0
  obtain rfl : args = #[v0] := by cases args; simp_all
  have k0 := h0
  have lt0 : ∀ x ∈ p0, x.block < W.heap.size := by obtain ⟨m, hm⟩ := k0; exact DataW.trod_lt m _ _ _ hm
  obtain ⟨a0, cap0, L0, rfl, hc0, hn0, hl0⟩ := bytes_row (hval 0 22 v0 rfl rfl) h0
  have hL0 : laidMet Tryd.prog Rows.fnExactSectorReadRow.laid W := by rw [← MakeChecks.laidMetH_plain _ _ _ (by kernel_rfl)]; exact hL
  obtain ⟨xGaveUp, hvGaveUp⟩ := sent hL0 gGaveUp tGaveUp
  obtain ⟨rfl, rfl⟩ := hV.unique (vars_read1 enc gGaveUp tGaveUp Tryd.underlying66 hvGaveUp trivial _)
  clear hA0 hV0 hval0
  refine (walk a0 cap0 L0 W hc0 hn0 hl0 _ _ (cell_of_var gGaveUp hvGaveUp)).mono fun e W' ⟨he, hb⟩ => ?_
  subst he
  refine ⟨_, rfl, _, _, _, [], (p0 ++ []), [.cell 1 0], hW', ?_, ?_, ?_, Below.frame hb _, fun h => by cases h⟩
  · exact trodAll_mk1 (shut_bool Tryd.underlying4 _)
  · exact (trodAll_cons_mk (Below.trod laidOut (by kernel_rfl) (of_decide_eq_true (by kernel_rfl)) k0 hb lt0) trodAll_mk0)
  · exact vars_read1 enc gGaveUp tGaveUp Tryd.underlying66 (var_kept hb hvGaveUp) trivial _

theorem over : Rows.FnExactSectorReadSaid :=
  OpenClaim.holds_of_wide 6 Tryd.f6 rfl rfl rfl rfl rfl rfl rfl ⟨rfl, rfl, rfl, rfl, rfl⟩ rfl rfl rfl rfl rfl (by kernel_rfl) Tryd.func6 (by kernel_rfl)
    (of_decide_eq_true (by kernel_rfl)) (by unfold Func.isWrapper; first | (rw [if_pos (by decide +kernel)]; kernel_rfl) | (rw [if_neg (by decide +kernel)]; exact ⟨rfl, rfl⟩))
    (fun os started H enc _ => lifted os started H enc)
end Go.Proofs.YtmjgddgpoecpmaaDoor.fnExactSectorRead
namespace Go.Proofs.YtmjgddgpoecpmaaDoor
theorem fnExactSectorRead_card : Rows.FnExactSectorReadCardSaid :=
  Claim7.holds_tied_plain_at .later [] Rows.fnExactSectorReadCard.laidKinds true Rows.fnExactSectorReadCard.stood.harness true
    fnExactSectorRead.over (fun _ h => by cases h) (by kernel_rfl) (fun _ h => by cases h) fnExactSectorRead_row_tie rfl ⟨rfl, rfl⟩ (by kernel_rfl) rfl
    (fun f fn hf hfn => by
      obtain rfl : f = 6 := Option.some.inj ((show Tryd.prog.funcNamed Rows.fnExactSectorReadRow.func = some 6 by kernel_rfl).symm.trans hf) |>.symm
      obtain rfl : fn = Tryd.f6 := (Option.some.inj (Tryd.func6.symm.trans hfn)).symm
      exact ⟨by kernel_rfl, fun j t ht => by
        rw [Tryd.params6] at ht
        have hm : t ∈ [22] := by simpa using Array.mem_of_getElem? ht
        have hall : ([22].all fun u => !Tryd.prog.wantsStandIn u) = true := by kernel_rfl
        exact (show Tryd.prog.wantsStandIn t = false by simpa using List.all_eq_true.1 hall t hm)⟩)
    (by kernel_rfl)
end Go.Proofs.YtmjgddgpoecpmaaDoor
