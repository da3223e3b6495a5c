/- At every book, all limits, every gain and every list of prices Moves of the program answers as Moves of the model, writes into no argument, and its answer owns its memory. -/
import Derived.Test.YtjdbedlgkngdkaaGreatDoorPMoves18
import Derived.Test.YtjdbedlgkngdkaaGreatDoorPMoves14
import Derived.Test.YtjdbedlgkngdkaaGreatDoorPMoves16
import Derived.Test.YtjdbedlgkngdkaaGreatDoorPMoves17
import Derived.Test.YtjdbedlgkngdkaaGreatDoorPMoves10
import Derived.Test.YtjdbedlgkngdkaaGreatDoorPMoves13
import Derived.Test.YtjdbedlgkngdkaaGreatDoorCards
import Derived.Test.YtjdbedlgkngdkaaGreatDoorTie
import Derived.WalkKit
import Derived.ProofKit
import Derived.OpenShut
import Derived.ShutString
import Derived.LaidMore
import Derived.Stop.Joined
import Derived.SevenTiedAt
import Derived.ChangeOld
import Derived.Below
namespace Go.Proofs.YtjdbedlgkngdkaaGreatDoor.fnExactMoves
open Go.ChangeShapes Go.WideShapes Go.ChangeAt Go.RowKit
open Go.ChangeMaps (open_string shut_string)
set_option linter.unusedVariables false
theorem own : ownKnob Tryz.prog.godebug = none := by kernel_rfl
theorem laidOut : laidOutB Tryz.prog = true := by kernel_rfl
theorem gAmount : Tryz.prog.globalNamed "loop.example/g00400/impl.errNoAmount" = some 0 := by kernel_rfl
theorem tAmount : (Tryz.prog.globals[0]?).map (·.type) = some 175 := by kernel_rfl
theorem gDivisor : Tryz.prog.globalNamed "loop.example/g00400/impl.errNoDivisor" = some 1 := by kernel_rfl
theorem tDivisor : (Tryz.prog.globals[1]?).map (·.type) = some 175 := by kernel_rfl
theorem door_met (os : Os) (args : Array Value) : laidMetH Tryz.prog Rows.fnExactMovesRow.laid ((World.doorLaid Tryz.prog 212 os).forCall (fun _ _ => 0) ⟨#[], args, []⟩).memory :=
  laidMetH_of_parts3 (fuel := 8) (laidMet_of_run' 8 (by kernel_rfl) (by kernel_rfl)) (by kernel_rfl) (by kernel_rfl)

theorem len_d {B B' : Bo} (h : B'.d = B.d) (hl : B.len) : B'.len := by
  have h1 : B'.C = B.C := congrArg Bk.C h
  have h2 : B'.Hs = B.Hs := congrArg Bk.Hs h
  have h3 : B'.R = B.R := congrArg Bk.R h
  unfold Bo.len; rw [h1, h2, h3]; exact hl
set_option maxRecDepth 100000 in
set_option maxHeartbeats 8000000 in
theorem walk (B : Bo) (lo hi gain : Int) (pa : Option Addr) (pc : Nat) (P : List Prc) (w : World) (hm : Mem w B.segs) (hf : B.fit) (hbig : B.big) (wlo : (Lit.int .i64 lo).wf = true) (whi : (Lit.int .i64 hi).wf = true) (wga : (Lit.int .i64 gain).wf = true) (hcp : Cells w pa (pcs P)) (hfp : (pa = none → pc = 0) ∧ P.length ≤ pc) (hlp : P.length ≤ 9223372036854775807) (u0 : TypeId) (x0 : Value) (hg0 : w.cell? ⟨0, 0, none⟩ = some (.iface u0 x0)) (u3 : TypeId) (x3 : Value) (hg3 : w.cell? ⟨1, 0, none⟩ = some (.iface u3 x3)) :
    Calls Tryz.prog 5 #[B.v, .int .i64 lo, .int .i64 hi, .int .i64 gain, .slice pa P.length pc] w fun e w' => e = .returned (.bool true) ∧ Keeps w w' := by
  have HSz := hide (fun w' => szBook_k B 1048576 w' hbig (by decide) (by decide))
  obtain ⟨bd, hbd⟩ : ∃ bd, bd = B.d := ⟨_, rfl⟩
  have HTo : Hid (∀ w', Keeps w w' → B.len → Calls Tryz.prog 14 #[B.v] w' fun e w'' => ∃ B' : Bo, e = .returned B'.v ∧ B'.d = bd ∧ Born w' w'' B'.segs ∧ Keeps w' w'') := fun w' hk hl => (toBook_k B w' (hm.kept hk) hl).mono fun e w'' ⟨B', h1, h2, _, h3, h4⟩ => ⟨B', h1, h2.trans hbd.symm, h3, h4⟩
  have HPS := hide (fun r w' (h0 : 0 ≤ r) (h1 : r ≤ 1048576) => szPriceS_k pa P.length pc r w' hlp h0 h1)
  have HTP := hide (fun w' (hk : Keeps w w') (hl : P.length ≤ 1048576) => toPriceS_k pa pc P w' (hcp.kept hk) hl)
  have HLB : Hid (B.len → ∀ B' : Bo, B'.d = bd → B'.len) := fun hl B' h => len_d (h.trans hbd) hl
  clear hm hf hbig hcp hfp hg0 hg3 wlo whi wga hbd
  obtain ⟨tk, nx, wa, ca, cc, C, ha, hc, Hs, ra, rc, R⟩ := B
  dsimp only [Bo.v] at *
  go_enter Tryz.func5, Tryz.ntmps5
  have HK := hide (Keeps.refl w)
  go_wp2_with fail
  have hb := born_alloc w #[.int .i64 tk, .int .i64 nx, .int .i64 wa, .slice ca C.length cc, .slice ha Hs.length hc, .slice ra R.length rc] 47
  dsimp only at hb
  have hk := Keeps.alloc (Keeps.refl w) (.cells #[.int .i64 tk, .int .i64 nx, .int .i64 wa, .slice ca C.length cc, .slice ha Hs.length hc, .slice ra R.length rc] 47)
  generalize w.alloc (.cells #[.int .i64 tk, .int .i64 nx, .int .i64 wa, .slice ca C.length cc, .slice ha Hs.length hc, .slice ra R.length rc] 47) = w1 at *
  have HNA := hide ((hb.old HK.out).new)
  replace HK := hide (HK.out.trans hk)
  have HOA := hide hb.toOwn
  clear hb hk
  have cA0 := cell_at HOA.out.mem 0 (by simp)
  have cA1 := cell_at HOA.out.mem 1 (by simp)
  have cA2 := cell_at HOA.out.mem 2 (by simp)
  have cA3 := cell_at HOA.out.mem 3 (by simp)
  have cA4 := cell_at HOA.out.mem 4 (by simp)
  have cA5 := cell_at HOA.out.mem 5 (by simp)
  simp only [Nat.zero_add, List.getElem_cons_zero, List.getElem_cons_succ] at cA0 cA1 cA2 cA3 cA4 cA5
  have lA := lt_of_cell cA0
  refine (unhide HSz w1).mono ?_
  rintro x w2 ⟨r, rfl, hr1, hr, hk⟩
  clear cA0 cA1 cA2 cA3 cA4 cA5 lA
  replace HK := hide (HK.out.trans hk)
  replace HOA := hide (HOA.out.kept hk)
  clear hk
  have HL := hide hr
  clear hr HSz
  by_cases hr0 : r < 0
  · go_wp2_with fail
    go_ret
    exact ⟨rfl, HK.out⟩
  replace HL := hide (HL.out (by omega))
  replace HLB := hide (HLB.out HL.out)
  have cA0 := cell_at HOA.out.mem 0 (by simp)
  have cA1 := cell_at HOA.out.mem 1 (by simp)
  have cA2 := cell_at HOA.out.mem 2 (by simp)
  have cA3 := cell_at HOA.out.mem 3 (by simp)
  have cA4 := cell_at HOA.out.mem 4 (by simp)
  have cA5 := cell_at HOA.out.mem 5 (by simp)
  simp only [Nat.zero_add, List.getElem_cons_zero, List.getElem_cons_succ] at cA0 cA1 cA2 cA3 cA4 cA5
  have lA := lt_of_cell cA0
  go_wp2_with fail
  refine (unhide HPS r w2 (by omega) hr1).mono ?_
  rintro x w3 ⟨rfl, hk⟩
  replace hk : Keeps w2 w3 := by first | exact hk | (subst hk; exact Keeps.refl _)
  clear cA0 cA1 cA2 cA3 cA4 cA5 lA
  replace HK := hide (HK.out.trans hk)
  replace HOA := hide (HOA.out.kept hk)
  clear hk
  by_cases hq : (P.length : Int) ≤ r
  rotate_left
  · rw [if_neg hq]
    go_wp2_with fail
    go_ret
    exact ⟨rfl, HK.out⟩
  rw [if_pos hq]
  have HLP : Hid (P.length ≤ 1048576) := by show _ ≤ _; omega
  clear hlp hr1
  have HCS := hide (fun (B' : Bo) (hd : B'.d = bd) w' (hm : Mem w' B'.segs) (qa : Option Addr) (qc : Nat) (hp : Cells w' qa (pcs P)) (hc : P.length ≤ qc) => (show _ from by have := moves_spec B' lo hi gain qa qc P w' hm (unhide HLB _ hd) hp HLP.out; rw [hd] at this; exact this))
  have HCI := hide (fun (B' : Bo) (hd : B'.d = bd) w' (hm : Mem w' B'.segs) (qa : Option Addr) (qc : Nat) (hp : Cells w' qa (pcs P)) (hc : P.length ≤ qc) => (show _ from by have := moves_impl B' lo hi gain qa qc P w' hm (unhide HLB _ hd) hp HLP.out hc; rw [hd] at this; exact this))
  have HLE : Hid ((movV bd lo hi gain P).length ≤ 1048576) := Nat.le_trans (movV_len bd lo hi gain P) HLP.out
  generalize movV bd lo hi gain P = E at *
  generalize movOk bd lo hi gain P = ok at *
  have hrr : (ok != ok) = false := by simp
  have cA0 := cell_at HOA.out.mem 0 (by simp)
  have cA1 := cell_at HOA.out.mem 1 (by simp)
  have cA2 := cell_at HOA.out.mem 2 (by simp)
  have cA3 := cell_at HOA.out.mem 3 (by simp)
  have cA4 := cell_at HOA.out.mem 4 (by simp)
  have cA5 := cell_at HOA.out.mem 5 (by simp)
  simp only [Nat.zero_add, List.getElem_cons_zero, List.getElem_cons_succ] at cA0 cA1 cA2 cA3 cA4 cA5
  have lA := lt_of_cell cA0
  go_wp2_with fail
  refine (unhide HTo w3 HK.out HL.out).mono ?_
  rintro x w4 ⟨Bs, rfl, hd, hb, hk⟩
  have HDs := hide hd
  clear hd
  clear cA0 cA1 cA2 cA3 cA4 cA5 lA
  have HDA_s := hide (hb.apart HOA.out.mem)
  have HDs_A := hide (hb.apart' HOA.out.mem)
  have HNs := hide ((hb.old HK.out).new)
  replace HK := hide (HK.out.trans hk)
  replace HOA := hide (HOA.out.kept hk)
  have HOs := hide hb.toOwn
  clear hb hk
  have cA0 := cell_at HOA.out.mem 0 (by simp)
  have cA1 := cell_at HOA.out.mem 1 (by simp)
  have cA2 := cell_at HOA.out.mem 2 (by simp)
  have cA3 := cell_at HOA.out.mem 3 (by simp)
  have cA4 := cell_at HOA.out.mem 4 (by simp)
  have cA5 := cell_at HOA.out.mem 5 (by simp)
  simp only [Nat.zero_add, List.getElem_cons_zero, List.getElem_cons_succ] at cA0 cA1 cA2 cA3 cA4 cA5
  have lA := lt_of_cell cA0
  go_wp2_with fail
  refine (unhide HTP w4 HK.out HLP.out).mono ?_
  rintro x w5 ⟨bp, rfl, hb, hk⟩
  clear cA0 cA1 cA2 cA3 cA4 cA5 lA
  have HDA_p := hide (hb.apart HOA.out.mem)
  have HDp_A := hide (hb.apart' HOA.out.mem)
  have HDs_p := hide (hb.apart HOs.out.mem)
  have HDp_s := hide (hb.apart' HOs.out.mem)
  have HNp := hide ((hb.old HK.out).new)
  replace HK := hide (HK.out.trans hk)
  replace HOA := hide (HOA.out.kept hk)
  replace HOs := hide (HOs.out.kept hk)
  have HOp := hide hb.toOwn
  clear hb hk
  have cA0 := cell_at HOA.out.mem 0 (by simp)
  have cA1 := cell_at HOA.out.mem 1 (by simp)
  have cA2 := cell_at HOA.out.mem 2 (by simp)
  have cA3 := cell_at HOA.out.mem 3 (by simp)
  have cA4 := cell_at HOA.out.mem 4 (by simp)
  have cA5 := cell_at HOA.out.mem 5 (by simp)
  simp only [Nat.zero_add, List.getElem_cons_zero, List.getElem_cons_succ] at cA0 cA1 cA2 cA3 cA4 cA5
  have lA := lt_of_cell cA0
  go_wp2_with fail
  clear cA0 cA1 cA2 cA3 cA4 cA5 lA
  refine (unhide HCS Bs HDs.out w5 HOs.out.mem (some ⟨bp, 0, none⟩) P.length (HOp.out.mem ((some ⟨bp, 0, none⟩), pcs P) (by simp)) (Nat.le_refl _)).mono ?_
  rintro x w6 ⟨ma, mc, rfl, hnn, hb, hk⟩
  have HNNm := hide hnn
  clear hnn
  have HDA_m := hide (hb.apart HOA.out.mem)
  have HDm_A := hide (hb.apart' HOA.out.mem)
  have HDs_m := hide (hb.apart HOs.out.mem)
  have HDm_s := hide (hb.apart' HOs.out.mem)
  have HDp_m := hide (hb.apart HOp.out.mem)
  have HDm_p := hide (hb.apart' HOp.out.mem)
  have HNm := hide ((hb.old HK.out).new)
  replace HK := hide (HK.out.trans hk)
  replace HOA := hide (HOA.out.kept hk)
  replace HOs := hide (HOs.out.kept hk)
  replace HOp := hide (HOp.out.kept hk)
  have HOm := hide hb.toOwn
  clear hb hk
  clear HOs HNs HDA_s HDs_A HDp_s HDs_p HDm_s HDs_m
  clear HDs
  clear HOp HNp HDA_p HDp_A HDm_p HDp_m
  have cA0 := cell_at HOA.out.mem 0 (by simp)
  have cA1 := cell_at HOA.out.mem 1 (by simp)
  have cA2 := cell_at HOA.out.mem 2 (by simp)
  have cA3 := cell_at HOA.out.mem 3 (by simp)
  have cA4 := cell_at HOA.out.mem 4 (by simp)
  have cA5 := cell_at HOA.out.mem 5 (by simp)
  simp only [Nat.zero_add, List.getElem_cons_zero, List.getElem_cons_succ] at cA0 cA1 cA2 cA3 cA4 cA5
  have lA := lt_of_cell cA0
  go_wp2_with fail
  refine (unhide HTo w6 HK.out HL.out).mono ?_
  rintro x w7 ⟨Bx, rfl, hd, hb, hk⟩
  have HDx := hide hd
  clear hd
  clear cA0 cA1 cA2 cA3 cA4 cA5 lA
  have HDA_x := hide (hb.apart HOA.out.mem)
  have HDx_A := hide (hb.apart' HOA.out.mem)
  have HDm_x := hide (hb.apart HOm.out.mem)
  have HDx_m := hide (hb.apart' HOm.out.mem)
  have HNx := hide ((hb.old HK.out).new)
  replace HK := hide (HK.out.trans hk)
  replace HOA := hide (HOA.out.kept hk)
  replace HOm := hide (HOm.out.kept hk)
  have HOx := hide hb.toOwn
  clear hb hk
  have cA0 := cell_at HOA.out.mem 0 (by simp)
  have cA1 := cell_at HOA.out.mem 1 (by simp)
  have cA2 := cell_at HOA.out.mem 2 (by simp)
  have cA3 := cell_at HOA.out.mem 3 (by simp)
  have cA4 := cell_at HOA.out.mem 4 (by simp)
  have cA5 := cell_at HOA.out.mem 5 (by simp)
  simp only [Nat.zero_add, List.getElem_cons_zero, List.getElem_cons_succ] at cA0 cA1 cA2 cA3 cA4 cA5
  have lA := lt_of_cell cA0
  go_wp2_with fail
  have hb := born_alloc w7 #[.int .i64 Bx.tk, .int .i64 Bx.nx, .int .i64 Bx.wa, .slice Bx.ca Bx.C.length Bx.cc, .slice Bx.ha Bx.Hs.length Bx.hc, .slice Bx.ra Bx.R.length Bx.rc] 27
  dsimp only at hb
  have hk := Keeps.alloc (Keeps.refl w7) (.cells #[.int .i64 Bx.tk, .int .i64 Bx.nx, .int .i64 Bx.wa, .slice Bx.ca Bx.C.length Bx.cc, .slice Bx.ha Bx.Hs.length Bx.hc, .slice Bx.ra Bx.R.length Bx.rc] 27)
  generalize w7.alloc (.cells #[.int .i64 Bx.tk, .int .i64 Bx.nx, .int .i64 Bx.wa, .slice Bx.ca Bx.C.length Bx.cc, .slice Bx.ha Bx.Hs.length Bx.hc, .slice Bx.ra Bx.R.length Bx.rc] 27) = w8 at *
  clear cA0 cA1 cA2 cA3 cA4 cA5 lA
  have HDA_X := hide (hb.apart HOA.out.mem)
  have HDX_A := hide (hb.apart' HOA.out.mem)
  have HDm_X := hide (hb.apart HOm.out.mem)
  have HDX_m := hide (hb.apart' HOm.out.mem)
  have HDx_X := hide (hb.apart HOx.out.mem)
  have HDX_x := hide (hb.apart' HOx.out.mem)
  have HNX := hide ((hb.old HK.out).new)
  replace HK := hide (HK.out.trans hk)
  replace HOA := hide (HOA.out.kept hk)
  replace HOm := hide (HOm.out.kept hk)
  replace HOx := hide (HOx.out.kept hk)
  have HOX := hide hb.toOwn
  clear hb hk
  refine (unhide HTP w8 HK.out HLP.out).mono ?_
  rintro x w9 ⟨bq, rfl, hb, hk⟩
  have HDA_q := hide (hb.apart HOA.out.mem)
  have HDq_A := hide (hb.apart' HOA.out.mem)
  have HDm_q := hide (hb.apart HOm.out.mem)
  have HDq_m := hide (hb.apart' HOm.out.mem)
  have HDx_q := hide (hb.apart HOx.out.mem)
  have HDq_x := hide (hb.apart' HOx.out.mem)
  have HDX_q := hide (hb.apart HOX.out.mem)
  have HDq_X := hide (hb.apart' HOX.out.mem)
  have HNq := hide ((hb.old HK.out).new)
  replace HK := hide (HK.out.trans hk)
  replace HOA := hide (HOA.out.kept hk)
  replace HOm := hide (HOm.out.kept hk)
  replace HOx := hide (HOx.out.kept hk)
  replace HOX := hide (HOX.out.kept hk)
  have HOq := hide hb.toOwn
  clear hb hk
  have cA0 := cell_at HOA.out.mem 0 (by simp)
  have cA1 := cell_at HOA.out.mem 1 (by simp)
  have cA2 := cell_at HOA.out.mem 2 (by simp)
  have cA3 := cell_at HOA.out.mem 3 (by simp)
  have cA4 := cell_at HOA.out.mem 4 (by simp)
  have cA5 := cell_at HOA.out.mem 5 (by simp)
  simp only [Nat.zero_add, List.getElem_cons_zero, List.getElem_cons_succ] at cA0 cA1 cA2 cA3 cA4 cA5
  have lA := lt_of_cell cA0
  have cX0 := cell_at HOX.out.mem 0 (by simp)
  have cX1 := cell_at HOX.out.mem 1 (by simp)
  have cX2 := cell_at HOX.out.mem 2 (by simp)
  have cX3 := cell_at HOX.out.mem 3 (by simp)
  have cX4 := cell_at HOX.out.mem 4 (by simp)
  have cX5 := cell_at HOX.out.mem 5 (by simp)
  simp only [Nat.zero_add, List.getElem_cons_zero, List.getElem_cons_succ] at cX0 cX1 cX2 cX3 cX4 cX5
  have lX := lt_of_cell cX0
  go_wp2_with fail
  clear cA0 cA1 cA2 cA3 cA4 cA5 lA cX0 cX1 cX2 cX3 cX4 cX5 lX
  refine (unhide HCI Bx HDx.out w9 HOx.out.mem (some ⟨bq, 0, none⟩) P.length (HOq.out.mem ((some ⟨bq, 0, none⟩), pcs P) (by simp)) (Nat.le_refl _)).mono ?_
  rintro x w10 ⟨ga, gc, rfl, hnn, hb, hk⟩
  have HNNg := hide hnn
  clear hnn
  have HDA_g := hide (hb.apart HOA.out.mem)
  have HDg_A := hide (hb.apart' HOA.out.mem)
  have HDm_g := hide (hb.apart HOm.out.mem)
  have HDg_m := hide (hb.apart' HOm.out.mem)
  have HDx_g := hide (hb.apart HOx.out.mem)
  have HDg_x := hide (hb.apart' HOx.out.mem)
  have HDX_g := hide (hb.apart HOX.out.mem)
  have HDg_X := hide (hb.apart' HOX.out.mem)
  have HDq_g := hide (hb.apart HOq.out.mem)
  have HDg_q := hide (hb.apart' HOq.out.mem)
  have HNg := hide ((hb.old HK.out).new)
  replace HK := hide (HK.out.trans hk)
  replace HOA := hide (HOA.out.kept hk)
  replace HOm := hide (HOm.out.kept hk)
  replace HOx := hide (HOx.out.kept hk)
  replace HOX := hide (HOX.out.kept hk)
  replace HOq := hide (HOq.out.kept hk)
  have HOg := hide hb.toOwn
  clear hb hk
  have cA0 := cell_at HOA.out.mem 0 (by simp)
  have cA1 := cell_at HOA.out.mem 1 (by simp)
  have cA2 := cell_at HOA.out.mem 2 (by simp)
  have cA3 := cell_at HOA.out.mem 3 (by simp)
  have cA4 := cell_at HOA.out.mem 4 (by simp)
  have cA5 := cell_at HOA.out.mem 5 (by simp)
  simp only [Nat.zero_add, List.getElem_cons_zero, List.getElem_cons_succ] at cA0 cA1 cA2 cA3 cA4 cA5
  have lA := lt_of_cell cA0
  have cX0 := cell_at HOX.out.mem 0 (by simp)
  have cX1 := cell_at HOX.out.mem 1 (by simp)
  have cX2 := cell_at HOX.out.mem 2 (by simp)
  have cX3 := cell_at HOX.out.mem 3 (by simp)
  have cX4 := cell_at HOX.out.mem 4 (by simp)
  have cX5 := cell_at HOX.out.mem 5 (by simp)
  simp only [Nat.zero_add, List.getElem_cons_zero, List.getElem_cons_succ] at cX0 cX1 cX2 cX3 cX4 cX5
  have lX := lt_of_cell cX0
  go_wp2_with fail
  clear cA0 cA1 cA2 cA3 cA4 cA5 lA cX0 cX1 cX2 cX3 cX4 cX5 lX
  refine (eqMoveS_k ga ma gc mc E w10 (HOg.out.mem (ga, mvs E) (by simp)) (HOm.out.mem (ma, mvs E) (by simp)) HLE.out).mono ?_
  rintro x w11 ⟨rfl, hk⟩
  replace HK := hide (HK.out.trans hk)
  replace HOA := hide (HOA.out.kept hk)
  replace HOm := hide (HOm.out.kept hk)
  replace HOx := hide (HOx.out.kept hk)
  replace HOX := hide (HOX.out.kept hk)
  replace HOq := hide (HOq.out.kept hk)
  replace HOg := hide (HOg.out.kept hk)
  clear hk
  have cA0 := cell_at HOA.out.mem 0 (by simp)
  have cA1 := cell_at HOA.out.mem 1 (by simp)
  have cA2 := cell_at HOA.out.mem 2 (by simp)
  have cA3 := cell_at HOA.out.mem 3 (by simp)
  have cA4 := cell_at HOA.out.mem 4 (by simp)
  have cA5 := cell_at HOA.out.mem 5 (by simp)
  simp only [Nat.zero_add, List.getElem_cons_zero, List.getElem_cons_succ] at cA0 cA1 cA2 cA3 cA4 cA5
  have lA := lt_of_cell cA0
  have cX0 := cell_at HOX.out.mem 0 (by simp)
  have cX1 := cell_at HOX.out.mem 1 (by simp)
  have cX2 := cell_at HOX.out.mem 2 (by simp)
  have cX3 := cell_at HOX.out.mem 3 (by simp)
  have cX4 := cell_at HOX.out.mem 4 (by simp)
  have cX5 := cell_at HOX.out.mem 5 (by simp)
  simp only [Nat.zero_add, List.getElem_cons_zero, List.getElem_cons_succ] at cX0 cX1 cX2 cX3 cX4 cX5
  have lX := lt_of_cell cX0
  go_wp2_with fail
  clear cA0 cA1 cA2 cA3 cA4 cA5 lA cX0 cX1 cX2 cX3 cX4 cX5 lX
  have cA0 := cell_at HOA.out.mem 0 (by simp)
  have cA1 := cell_at HOA.out.mem 1 (by simp)
  have cA2 := cell_at HOA.out.mem 2 (by simp)
  have cA3 := cell_at HOA.out.mem 3 (by simp)
  have cA4 := cell_at HOA.out.mem 4 (by simp)
  have cA5 := cell_at HOA.out.mem 5 (by simp)
  simp only [Nat.zero_add, List.getElem_cons_zero, List.getElem_cons_succ] at cA0 cA1 cA2 cA3 cA4 cA5
  have lA := lt_of_cell cA0
  have cX0 := cell_at HOX.out.mem 0 (by simp)
  have cX1 := cell_at HOX.out.mem 1 (by simp)
  have cX2 := cell_at HOX.out.mem 2 (by simp)
  have cX3 := cell_at HOX.out.mem 3 (by simp)
  have cX4 := cell_at HOX.out.mem 4 (by simp)
  have cX5 := cell_at HOX.out.mem 5 (by simp)
  simp only [Nat.zero_add, List.getElem_cons_zero, List.getElem_cons_succ] at cX0 cX1 cX2 cX3 cX4 cX5
  have lX := lt_of_cell cX0
  go_region_held3 (fun w' => w'.cell? ⟨w7.heap.size, 0, none⟩ = some (.int .i64 Bx.tk) ∧ w'.cell? ⟨w7.heap.size, 1, none⟩ = some (.int .i64 Bx.nx) ∧ w'.cell? ⟨w7.heap.size, 2, none⟩ = some (.int .i64 Bx.wa) ∧ w'.cell? ⟨w7.heap.size, 3, none⟩ = some (.slice Bx.ca Bx.C.length Bx.cc) ∧ w'.cell? ⟨w7.heap.size, 4, none⟩ = some (.slice Bx.ha Bx.Hs.length Bx.hc) ∧ w'.cell? ⟨w7.heap.size, 5, none⟩ = some (.slice Bx.ra Bx.R.length Bx.rc) ∧ w'.cell? ⟨w.heap.size, 0, none⟩ = some (.int .i64 tk) ∧ w'.cell? ⟨w.heap.size, 1, none⟩ = some (.int .i64 nx) ∧ w'.cell? ⟨w.heap.size, 2, none⟩ = some (.int .i64 wa) ∧ w'.cell? ⟨w.heap.size, 3, none⟩ = some (.slice ca C.length cc) ∧ w'.cell? ⟨w.heap.size, 4, none⟩ = some (.slice ha Hs.length hc) ∧ w'.cell? ⟨w.heap.size, 5, none⟩ = some (.slice ra R.length rc)) (go_keep)
    (first
       | (go_at_call 14
          refine (unhide HTo _ (HK.out.trans (Keeps.refl w11).drew) HL.out).mono ?_
          rintro x w12 ⟨By, rfl, hd, hb, hk⟩
          have HDy := hide hd
          clear hd
          replace hb := hb.old ((Keeps.refl w11).drew)
          replace hk := ((Keeps.refl w11).drew).trans hk
          clear cA0 cA1 cA2 cA3 cA4 cA5 lA cX0 cX1 cX2 cX3 cX4 cX5 lX
          have HDA_y := hide (hb.apart HOA.out.mem)
          have HDy_A := hide (hb.apart' HOA.out.mem)
          have HDm_y := hide (hb.apart HOm.out.mem)
          have HDy_m := hide (hb.apart' HOm.out.mem)
          have HDx_y := hide (hb.apart HOx.out.mem)
          have HDy_x := hide (hb.apart' HOx.out.mem)
          have HDX_y := hide (hb.apart HOX.out.mem)
          have HDy_X := hide (hb.apart' HOX.out.mem)
          have HDq_y := hide (hb.apart HOq.out.mem)
          have HDy_q := hide (hb.apart' HOq.out.mem)
          have HDg_y := hide (hb.apart HOg.out.mem)
          have HDy_g := hide (hb.apart' HOg.out.mem)
          have HNy := hide ((hb.old HK.out).new)
          replace HK := hide (HK.out.trans hk)
          replace HOA := hide (HOA.out.kept hk)
          replace HOm := hide (HOm.out.kept hk)
          replace HOx := hide (HOx.out.kept hk)
          replace HOX := hide (HOX.out.kept hk)
          replace HOq := hide (HOq.out.kept hk)
          replace HOg := hide (HOg.out.kept hk)
          have HOy := hide hb.toOwn
          clear hb hk
          have cA0 := cell_at HOA.out.mem 0 (by simp)
          have cA1 := cell_at HOA.out.mem 1 (by simp)
          have cA2 := cell_at HOA.out.mem 2 (by simp)
          have cA3 := cell_at HOA.out.mem 3 (by simp)
          have cA4 := cell_at HOA.out.mem 4 (by simp)
          have cA5 := cell_at HOA.out.mem 5 (by simp)
          simp only [Nat.zero_add, List.getElem_cons_zero, List.getElem_cons_succ] at cA0 cA1 cA2 cA3 cA4 cA5
          have lA := lt_of_cell cA0
          have cX0 := cell_at HOX.out.mem 0 (by simp)
          have cX1 := cell_at HOX.out.mem 1 (by simp)
          have cX2 := cell_at HOX.out.mem 2 (by simp)
          have cX3 := cell_at HOX.out.mem 3 (by simp)
          have cX4 := cell_at HOX.out.mem 4 (by simp)
          have cX5 := cell_at HOX.out.mem 5 (by simp)
          simp only [Nat.zero_add, List.getElem_cons_zero, List.getElem_cons_succ] at cX0 cX1 cX2 cX3 cX4 cX5
          have lX := lt_of_cell cX0)
       | (go_at_call 17
          refine (eqBook_k Bx By w12 (HDx.out.trans HDy.out.symm) HOx.out.mem HOy.out.mem (unhide HLB _ HDx.out)).mono ?_
          rintro x w13 ⟨rfl, hk⟩
          clear cA0 cA1 cA2 cA3 cA4 cA5 lA cX0 cX1 cX2 cX3 cX4 cX5 lX
          replace HK := hide (HK.out.trans hk)
          replace HOA := hide (HOA.out.kept hk)
          replace HOm := hide (HOm.out.kept hk)
          replace HOx := hide (HOx.out.kept hk)
          replace HOX := hide (HOX.out.kept hk)
          replace HOq := hide (HOq.out.kept hk)
          replace HOg := hide (HOg.out.kept hk)
          replace HOy := hide (HOy.out.kept hk)
          clear hk
          have cA0 := cell_at HOA.out.mem 0 (by simp)
          have cA1 := cell_at HOA.out.mem 1 (by simp)
          have cA2 := cell_at HOA.out.mem 2 (by simp)
          have cA3 := cell_at HOA.out.mem 3 (by simp)
          have cA4 := cell_at HOA.out.mem 4 (by simp)
          have cA5 := cell_at HOA.out.mem 5 (by simp)
          simp only [Nat.zero_add, List.getElem_cons_zero, List.getElem_cons_succ] at cA0 cA1 cA2 cA3 cA4 cA5
          have lA := lt_of_cell cA0
          have cX0 := cell_at HOX.out.mem 0 (by simp)
          have cX1 := cell_at HOX.out.mem 1 (by simp)
          have cX2 := cell_at HOX.out.mem 2 (by simp)
          have cX3 := cell_at HOX.out.mem 3 (by simp)
          have cX4 := cell_at HOX.out.mem 4 (by simp)
          have cX5 := cell_at HOX.out.mem 5 (by simp)
          simp only [Nat.zero_add, List.getElem_cons_zero, List.getElem_cons_succ] at cX0 cX1 cX2 cX3 cX4 cX5
          have lX := lt_of_cell cX0))
  clear HOy HNy HDA_y HDy_A HDm_y HDy_m HDx_y HDy_x HDX_y HDy_X HDq_y HDy_q HDg_y HDy_g
  clear HDy
  go_wp2_with fail
  refine (unhide HTP w13 HK.out HLP.out).mono ?_
  rintro x w14 ⟨by2, rfl, hb, hk⟩
  clear cA0 cA1 cA2 cA3 cA4 cA5 lA cX0 cX1 cX2 cX3 cX4 cX5 lX
  have HDA_y := hide (hb.apart HOA.out.mem)
  have HDy_A := hide (hb.apart' HOA.out.mem)
  have HDm_y := hide (hb.apart HOm.out.mem)
  have HDy_m := hide (hb.apart' HOm.out.mem)
  have HDx_y := hide (hb.apart HOx.out.mem)
  have HDy_x := hide (hb.apart' HOx.out.mem)
  have HDX_y := hide (hb.apart HOX.out.mem)
  have HDy_X := hide (hb.apart' HOX.out.mem)
  have HDq_y := hide (hb.apart HOq.out.mem)
  have HDy_q := hide (hb.apart' HOq.out.mem)
  have HDg_y := hide (hb.apart HOg.out.mem)
  have HDy_g := hide (hb.apart' HOg.out.mem)
  have HNy := hide ((hb.old HK.out).new)
  replace HK := hide (HK.out.trans hk)
  replace HOA := hide (HOA.out.kept hk)
  replace HOm := hide (HOm.out.kept hk)
  replace HOx := hide (HOx.out.kept hk)
  replace HOX := hide (HOX.out.kept hk)
  replace HOq := hide (HOq.out.kept hk)
  replace HOg := hide (HOg.out.kept hk)
  have HOy := hide hb.toOwn
  clear hb hk
  have cA0 := cell_at HOA.out.mem 0 (by simp)
  have cA1 := cell_at HOA.out.mem 1 (by simp)
  have cA2 := cell_at HOA.out.mem 2 (by simp)
  have cA3 := cell_at HOA.out.mem 3 (by simp)
  have cA4 := cell_at HOA.out.mem 4 (by simp)
  have cA5 := cell_at HOA.out.mem 5 (by simp)
  simp only [Nat.zero_add, List.getElem_cons_zero, List.getElem_cons_succ] at cA0 cA1 cA2 cA3 cA4 cA5
  have lA := lt_of_cell cA0
  have cX0 := cell_at HOX.out.mem 0 (by simp)
  have cX1 := cell_at HOX.out.mem 1 (by simp)
  have cX2 := cell_at HOX.out.mem 2 (by simp)
  have cX3 := cell_at HOX.out.mem 3 (by simp)
  have cX4 := cell_at HOX.out.mem 4 (by simp)
  have cX5 := cell_at HOX.out.mem 5 (by simp)
  simp only [Nat.zero_add, List.getElem_cons_zero, List.getElem_cons_succ] at cX0 cX1 cX2 cX3 cX4 cX5
  have lX := lt_of_cell cX0
  go_wp2_with fail
  refine (eqPriceS_k (some ⟨bq, 0, none⟩) (some ⟨by2, 0, none⟩) P.length P.length P w14 (HOq.out.mem ((some ⟨bq, 0, none⟩), pcs P) (by simp)) (HOy.out.mem ((some ⟨by2, 0, none⟩), pcs P) (by simp)) HLP.out).mono ?_
  rintro x w15 ⟨rfl, hk⟩
  clear cA0 cA1 cA2 cA3 cA4 cA5 lA cX0 cX1 cX2 cX3 cX4 cX5 lX
  replace HK := hide (HK.out.trans hk)
  replace HOA := hide (HOA.out.kept hk)
  replace HOm := hide (HOm.out.kept hk)
  replace HOx := hide (HOx.out.kept hk)
  replace HOX := hide (HOX.out.kept hk)
  replace HOq := hide (HOq.out.kept hk)
  replace HOg := hide (HOg.out.kept hk)
  replace HOy := hide (HOy.out.kept hk)
  clear hk
  clear HOy HNy HDA_y HDy_A HDm_y HDy_m HDx_y HDy_x HDX_y HDy_X HDq_y HDy_q HDg_y HDy_g
  have cA0 := cell_at HOA.out.mem 0 (by simp)
  have cA1 := cell_at HOA.out.mem 1 (by simp)
  have cA2 := cell_at HOA.out.mem 2 (by simp)
  have cA3 := cell_at HOA.out.mem 3 (by simp)
  have cA4 := cell_at HOA.out.mem 4 (by simp)
  have cA5 := cell_at HOA.out.mem 5 (by simp)
  simp only [Nat.zero_add, List.getElem_cons_zero, List.getElem_cons_succ] at cA0 cA1 cA2 cA3 cA4 cA5
  have lA := lt_of_cell cA0
  have cX0 := cell_at HOX.out.mem 0 (by simp)
  have cX1 := cell_at HOX.out.mem 1 (by simp)
  have cX2 := cell_at HOX.out.mem 2 (by simp)
  have cX3 := cell_at HOX.out.mem 3 (by simp)
  have cX4 := cell_at HOX.out.mem 4 (by simp)
  have cX5 := cell_at HOX.out.mem 5 (by simp)
  simp only [Nat.zero_add, List.getElem_cons_zero, List.getElem_cons_succ] at cX0 cX1 cX2 cX3 cX4 cX5
  have lX := lt_of_cell cX0
  go_wp2_with fail
  clear cA0 cA1 cA2 cA3 cA4 cA5 lA cX0 cX1 cX2 cX3 cX4 cX5 lX
  have HLX := hide (unhide HLB Bx HDx.out)
  refine (markBook_k Bx 1 w15 HOx.out HLX.out (by decide)).mono ?_
  rintro x w16 ⟨rfl, ho, ht⟩
  replace HK := hide (ht.keeps HK.out HNx.out)
  replace HOA := hide (HOA.out.turn ht HDA_x.out)
  replace HOm := hide (HOm.out.turn ht HDm_x.out)
  replace HOX := hide (HOX.out.turn ht HDX_x.out)
  replace HOq := hide (HOq.out.turn ht HDq_x.out)
  replace HOg := hide (HOg.out.turn ht HDg_x.out)
  clear ht
  clear ho
  have HMN : Hid (markN 1 Bx ≤ 100000000) := by show _ ≤ _; obtain ⟨l1, l2, l3⟩ := HLX.out; unfold markN; omega
  generalize markN 1 Bx = mk at *
  clear HOx HNx HDA_x HDx_A HDm_x HDx_m HDX_x HDx_X HDq_x HDx_q HDg_x HDx_g
  clear HDx
  have cA0 := cell_at HOA.out.mem 0 (by simp)
  have cA1 := cell_at HOA.out.mem 1 (by simp)
  have cA2 := cell_at HOA.out.mem 2 (by simp)
  have cA3 := cell_at HOA.out.mem 3 (by simp)
  have cA4 := cell_at HOA.out.mem 4 (by simp)
  have cA5 := cell_at HOA.out.mem 5 (by simp)
  simp only [Nat.zero_add, List.getElem_cons_zero, List.getElem_cons_succ] at cA0 cA1 cA2 cA3 cA4 cA5
  have lA := lt_of_cell cA0
  have cX0 := cell_at HOX.out.mem 0 (by simp)
  have cX1 := cell_at HOX.out.mem 1 (by simp)
  have cX2 := cell_at HOX.out.mem 2 (by simp)
  have cX3 := cell_at HOX.out.mem 3 (by simp)
  have cX4 := cell_at HOX.out.mem 4 (by simp)
  have cX5 := cell_at HOX.out.mem 5 (by simp)
  simp only [Nat.zero_add, List.getElem_cons_zero, List.getElem_cons_succ] at cX0 cX1 cX2 cX3 cX4 cX5
  have lX := lt_of_cell cX0
  go_wp2_with fail
  clear cA0 cA1 cA2 cA3 cA4 cA5 lA cX0 cX1 cX2 cX3 cX4 cX5 lX
  refine (markPriceS_k (some ⟨bq, 0, none⟩) P.length P mk w16 HOq.out HLP.out (by have := HMN.out; omega)).mono ?_
  rintro x w17 ⟨rfl, ho, ht⟩
  replace HK := hide (ht.keeps HK.out HNq.out)
  replace HOA := hide (HOA.out.turn ht HDA_q.out)
  replace HOm := hide (HOm.out.turn ht HDm_q.out)
  replace HOX := hide (HOX.out.turn ht HDX_q.out)
  replace HOg := hide (HOg.out.turn ht HDg_q.out)
  clear ht
  clear ho
  clear HOq HNq HDA_q HDq_A HDm_q HDq_m HDX_q HDq_X HDg_q HDq_g
  have hp0 : ¬ ((mk + 3 * P.length : Nat) : Int) < 0 := by omega
  generalize ((mk + 3 * P.length : Nat) : Int) = kk at *
  have cA0 := cell_at HOA.out.mem 0 (by simp)
  have cA1 := cell_at HOA.out.mem 1 (by simp)
  have cA2 := cell_at HOA.out.mem 2 (by simp)
  have cA3 := cell_at HOA.out.mem 3 (by simp)
  have cA4 := cell_at HOA.out.mem 4 (by simp)
  have cA5 := cell_at HOA.out.mem 5 (by simp)
  simp only [Nat.zero_add, List.getElem_cons_zero, List.getElem_cons_succ] at cA0 cA1 cA2 cA3 cA4 cA5
  have lA := lt_of_cell cA0
  have cX0 := cell_at HOX.out.mem 0 (by simp)
  have cX1 := cell_at HOX.out.mem 1 (by simp)
  have cX2 := cell_at HOX.out.mem 2 (by simp)
  have cX3 := cell_at HOX.out.mem 3 (by simp)
  have cX4 := cell_at HOX.out.mem 4 (by simp)
  have cX5 := cell_at HOX.out.mem 5 (by simp)
  simp only [Nat.zero_add, List.getElem_cons_zero, List.getElem_cons_succ] at cX0 cX1 cX2 cX3 cX4 cX5
  have lX := lt_of_cell cX0
  go_wp2_with fail
  clear cA0 cA1 cA2 cA3 cA4 cA5 lA cX0 cX1 cX2 cX3 cX4 cX5 lX
  refine (eqMoveS_k ga ma gc mc E w17 (HOg.out.mem (ga, mvs E) (by simp)) (HOm.out.mem (ma, mvs E) (by simp)) HLE.out).mono ?_
  rintro x w18 ⟨rfl, hk⟩
  replace HK := hide (HK.out.trans hk)
  replace HOA := hide (HOA.out.kept hk)
  replace HOm := hide (HOm.out.kept hk)
  replace HOX := hide (HOX.out.kept hk)
  replace HOg := hide (HOg.out.kept hk)
  clear hk
  have cA0 := cell_at HOA.out.mem 0 (by simp)
  have cA1 := cell_at HOA.out.mem 1 (by simp)
  have cA2 := cell_at HOA.out.mem 2 (by simp)
  have cA3 := cell_at HOA.out.mem 3 (by simp)
  have cA4 := cell_at HOA.out.mem 4 (by simp)
  have cA5 := cell_at HOA.out.mem 5 (by simp)
  simp only [Nat.zero_add, List.getElem_cons_zero, List.getElem_cons_succ] at cA0 cA1 cA2 cA3 cA4 cA5
  have lA := lt_of_cell cA0
  have cX0 := cell_at HOX.out.mem 0 (by simp)
  have cX1 := cell_at HOX.out.mem 1 (by simp)
  have cX2 := cell_at HOX.out.mem 2 (by simp)
  have cX3 := cell_at HOX.out.mem 3 (by simp)
  have cX4 := cell_at HOX.out.mem 4 (by simp)
  have cX5 := cell_at HOX.out.mem 5 (by simp)
  simp only [Nat.zero_add, List.getElem_cons_zero, List.getElem_cons_succ] at cX0 cX1 cX2 cX3 cX4 cX5
  have lX := lt_of_cell cX0
  go_wp2_with fail
  clear cA0 cA1 cA2 cA3 cA4 cA5 lA cX0 cX1 cX2 cX3 cX4 cX5 lX
  refine (markMoveS_k ga gc E 1 w18 HOg.out HLE.out (by decide)).mono ?_
  rintro x w19 ⟨rfl, ho, ht⟩
  replace HK := hide (ht.keeps HK.out HNg.out)
  replace HOA := hide (HOA.out.turn ht HDA_g.out)
  replace HOm := hide (HOm.out.turn ht HDm_g.out)
  replace HOX := hide (HOX.out.turn ht HDX_g.out)
  clear ht
  replace HOg := hide ho
  clear ho
  have hp1 : ¬ ((1 + 4 * E.length : Nat) : Int) < 0 := by omega
  have hq1 : (((1 + 4 * E.length : Nat) : Int) != ((1 + 4 * E.length : Nat) : Int)) = false := by simp
  have cA0 := cell_at HOA.out.mem 0 (by simp)
  have cA1 := cell_at HOA.out.mem 1 (by simp)
  have cA2 := cell_at HOA.out.mem 2 (by simp)
  have cA3 := cell_at HOA.out.mem 3 (by simp)
  have cA4 := cell_at HOA.out.mem 4 (by simp)
  have cA5 := cell_at HOA.out.mem 5 (by simp)
  simp only [Nat.zero_add, List.getElem_cons_zero, List.getElem_cons_succ] at cA0 cA1 cA2 cA3 cA4 cA5
  have lA := lt_of_cell cA0
  have cX0 := cell_at HOX.out.mem 0 (by simp)
  have cX1 := cell_at HOX.out.mem 1 (by simp)
  have cX2 := cell_at HOX.out.mem 2 (by simp)
  have cX3 := cell_at HOX.out.mem 3 (by simp)
  have cX4 := cell_at HOX.out.mem 4 (by simp)
  have cX5 := cell_at HOX.out.mem 5 (by simp)
  simp only [Nat.zero_add, List.getElem_cons_zero, List.getElem_cons_succ] at cX0 cX1 cX2 cX3 cX4 cX5
  have lX := lt_of_cell cX0
  go_wp2_with fail
  clear cA0 cA1 cA2 cA3 cA4 cA5 lA cX0 cX1 cX2 cX3 cX4 cX5 lX
  refine (heldMoveS_k ga gc E.length 1 w19 (HOg.out.mem (ga, mvs (marksMov 1 E.length)) (by simp)) HLE.out (by decide)).mono ?_
  rintro x w20 ⟨rfl, hw⟩
  have hk : Keeps w19 w20 := by rw [hw]; exact Keeps.refl _
  clear hw
  replace HK := hide (HK.out.trans hk)
  replace HOA := hide (HOA.out.kept hk)
  replace HOm := hide (HOm.out.kept hk)
  replace HOX := hide (HOX.out.kept hk)
  replace HOg := hide (HOg.out.kept hk)
  clear hk
  have cA0 := cell_at HOA.out.mem 0 (by simp)
  have cA1 := cell_at HOA.out.mem 1 (by simp)
  have cA2 := cell_at HOA.out.mem 2 (by simp)
  have cA3 := cell_at HOA.out.mem 3 (by simp)
  have cA4 := cell_at HOA.out.mem 4 (by simp)
  have cA5 := cell_at HOA.out.mem 5 (by simp)
  simp only [Nat.zero_add, List.getElem_cons_zero, List.getElem_cons_succ] at cA0 cA1 cA2 cA3 cA4 cA5
  have lA := lt_of_cell cA0
  have cX0 := cell_at HOX.out.mem 0 (by simp)
  have cX1 := cell_at HOX.out.mem 1 (by simp)
  have cX2 := cell_at HOX.out.mem 2 (by simp)
  have cX3 := cell_at HOX.out.mem 3 (by simp)
  have cX4 := cell_at HOX.out.mem 4 (by simp)
  have cX5 := cell_at HOX.out.mem 5 (by simp)
  simp only [Nat.zero_add, List.getElem_cons_zero, List.getElem_cons_succ] at cX0 cX1 cX2 cX3 cX4 cX5
  have lX := lt_of_cell cX0
  go_wp2_with fail
  refine (unhide HTo w20 HK.out HL.out).mono ?_
  rintro x w21 ⟨Bs, rfl, hd, hb, hk⟩
  have HDs := hide hd
  clear hd
  clear cA0 cA1 cA2 cA3 cA4 cA5 lA cX0 cX1 cX2 cX3 cX4 cX5 lX
  have HDA_s := hide (hb.apart HOA.out.mem)
  have HDs_A := hide (hb.apart' HOA.out.mem)
  have HDm_s := hide (hb.apart HOm.out.mem)
  have HDs_m := hide (hb.apart' HOm.out.mem)
  have HDX_s := hide (hb.apart HOX.out.mem)
  have HDs_X := hide (hb.apart' HOX.out.mem)
  have HDg_s := hide (hb.apart HOg.out.mem)
  have HDs_g := hide (hb.apart' HOg.out.mem)
  have HNs := hide ((hb.old HK.out).new)
  replace HK := hide (HK.out.trans hk)
  replace HOA := hide (HOA.out.kept hk)
  replace HOm := hide (HOm.out.kept hk)
  replace HOX := hide (HOX.out.kept hk)
  replace HOg := hide (HOg.out.kept hk)
  have HOs := hide hb.toOwn
  clear hb hk
  have cA0 := cell_at HOA.out.mem 0 (by simp)
  have cA1 := cell_at HOA.out.mem 1 (by simp)
  have cA2 := cell_at HOA.out.mem 2 (by simp)
  have cA3 := cell_at HOA.out.mem 3 (by simp)
  have cA4 := cell_at HOA.out.mem 4 (by simp)
  have cA5 := cell_at HOA.out.mem 5 (by simp)
  simp only [Nat.zero_add, List.getElem_cons_zero, List.getElem_cons_succ] at cA0 cA1 cA2 cA3 cA4 cA5
  have lA := lt_of_cell cA0
  have cX0 := cell_at HOX.out.mem 0 (by simp)
  have cX1 := cell_at HOX.out.mem 1 (by simp)
  have cX2 := cell_at HOX.out.mem 2 (by simp)
  have cX3 := cell_at HOX.out.mem 3 (by simp)
  have cX4 := cell_at HOX.out.mem 4 (by simp)
  have cX5 := cell_at HOX.out.mem 5 (by simp)
  simp only [Nat.zero_add, List.getElem_cons_zero, List.getElem_cons_succ] at cX0 cX1 cX2 cX3 cX4 cX5
  have lX := lt_of_cell cX0
  go_wp2_with fail
  refine (unhide HTP w21 HK.out HLP.out).mono ?_
  rintro x w22 ⟨bp, rfl, hb, hk⟩
  clear cA0 cA1 cA2 cA3 cA4 cA5 lA cX0 cX1 cX2 cX3 cX4 cX5 lX
  have HDA_p := hide (hb.apart HOA.out.mem)
  have HDp_A := hide (hb.apart' HOA.out.mem)
  have HDm_p := hide (hb.apart HOm.out.mem)
  have HDp_m := hide (hb.apart' HOm.out.mem)
  have HDX_p := hide (hb.apart HOX.out.mem)
  have HDp_X := hide (hb.apart' HOX.out.mem)
  have HDg_p := hide (hb.apart HOg.out.mem)
  have HDp_g := hide (hb.apart' HOg.out.mem)
  have HDs_p := hide (hb.apart HOs.out.mem)
  have HDp_s := hide (hb.apart' HOs.out.mem)
  have HNp := hide ((hb.old HK.out).new)
  replace HK := hide (HK.out.trans hk)
  replace HOA := hide (HOA.out.kept hk)
  replace HOm := hide (HOm.out.kept hk)
  replace HOX := hide (HOX.out.kept hk)
  replace HOg := hide (HOg.out.kept hk)
  replace HOs := hide (HOs.out.kept hk)
  have HOp := hide hb.toOwn
  clear hb hk
  have cA0 := cell_at HOA.out.mem 0 (by simp)
  have cA1 := cell_at HOA.out.mem 1 (by simp)
  have cA2 := cell_at HOA.out.mem 2 (by simp)
  have cA3 := cell_at HOA.out.mem 3 (by simp)
  have cA4 := cell_at HOA.out.mem 4 (by simp)
  have cA5 := cell_at HOA.out.mem 5 (by simp)
  simp only [Nat.zero_add, List.getElem_cons_zero, List.getElem_cons_succ] at cA0 cA1 cA2 cA3 cA4 cA5
  have lA := lt_of_cell cA0
  have cX0 := cell_at HOX.out.mem 0 (by simp)
  have cX1 := cell_at HOX.out.mem 1 (by simp)
  have cX2 := cell_at HOX.out.mem 2 (by simp)
  have cX3 := cell_at HOX.out.mem 3 (by simp)
  have cX4 := cell_at HOX.out.mem 4 (by simp)
  have cX5 := cell_at HOX.out.mem 5 (by simp)
  simp only [Nat.zero_add, List.getElem_cons_zero, List.getElem_cons_succ] at cX0 cX1 cX2 cX3 cX4 cX5
  have lX := lt_of_cell cX0
  go_wp2_with fail
  clear cA0 cA1 cA2 cA3 cA4 cA5 lA cX0 cX1 cX2 cX3 cX4 cX5 lX
  refine (unhide HCI Bs HDs.out w22 HOs.out.mem (some ⟨bp, 0, none⟩) P.length (HOp.out.mem ((some ⟨bp, 0, none⟩), pcs P) (by simp)) (Nat.le_refl _)).mono ?_
  rintro x w23 ⟨ha, hc, rfl, hnn, hb, hk⟩
  have HNNh := hide hnn
  clear hnn
  have HDA_h := hide (hb.apart HOA.out.mem)
  have HDh_A := hide (hb.apart' HOA.out.mem)
  have HDm_h := hide (hb.apart HOm.out.mem)
  have HDh_m := hide (hb.apart' HOm.out.mem)
  have HDX_h := hide (hb.apart HOX.out.mem)
  have HDh_X := hide (hb.apart' HOX.out.mem)
  have HDg_h := hide (hb.apart HOg.out.mem)
  have HDh_g := hide (hb.apart' HOg.out.mem)
  have HDs_h := hide (hb.apart HOs.out.mem)
  have HDh_s := hide (hb.apart' HOs.out.mem)
  have HDp_h := hide (hb.apart HOp.out.mem)
  have HDh_p := hide (hb.apart' HOp.out.mem)
  have HNh := hide ((hb.old HK.out).new)
  replace HK := hide (HK.out.trans hk)
  replace HOA := hide (HOA.out.kept hk)
  replace HOm := hide (HOm.out.kept hk)
  replace HOX := hide (HOX.out.kept hk)
  replace HOg := hide (HOg.out.kept hk)
  replace HOs := hide (HOs.out.kept hk)
  replace HOp := hide (HOp.out.kept hk)
  have HOh := hide hb.toOwn
  clear hb hk
  clear HOs HNs HDA_s HDs_A HDm_s HDs_m HDX_s HDs_X HDg_s HDs_g HDp_s HDs_p HDh_s HDs_h
  clear HDs
  clear HOp HNp HDA_p HDp_A HDm_p HDp_m HDX_p HDp_X HDg_p HDp_g HDh_p HDp_h
  have cA0 := cell_at HOA.out.mem 0 (by simp)
  have cA1 := cell_at HOA.out.mem 1 (by simp)
  have cA2 := cell_at HOA.out.mem 2 (by simp)
  have cA3 := cell_at HOA.out.mem 3 (by simp)
  have cA4 := cell_at HOA.out.mem 4 (by simp)
  have cA5 := cell_at HOA.out.mem 5 (by simp)
  simp only [Nat.zero_add, List.getElem_cons_zero, List.getElem_cons_succ] at cA0 cA1 cA2 cA3 cA4 cA5
  have lA := lt_of_cell cA0
  have cX0 := cell_at HOX.out.mem 0 (by simp)
  have cX1 := cell_at HOX.out.mem 1 (by simp)
  have cX2 := cell_at HOX.out.mem 2 (by simp)
  have cX3 := cell_at HOX.out.mem 3 (by simp)
  have cX4 := cell_at HOX.out.mem 4 (by simp)
  have cX5 := cell_at HOX.out.mem 5 (by simp)
  simp only [Nat.zero_add, List.getElem_cons_zero, List.getElem_cons_succ] at cX0 cX1 cX2 cX3 cX4 cX5
  have lX := lt_of_cell cX0
  go_wp2_with fail
  clear cA0 cA1 cA2 cA3 cA4 cA5 lA cX0 cX1 cX2 cX3 cX4 cX5 lX
  refine (eqMoveS_k ha ma hc mc E w23 (HOh.out.mem (ha, mvs E) (by simp)) (HOm.out.mem (ma, mvs E) (by simp)) HLE.out).mono ?_
  rintro x w24 ⟨rfl, hk⟩
  replace HK := hide (HK.out.trans hk)
  replace HOA := hide (HOA.out.kept hk)
  replace HOm := hide (HOm.out.kept hk)
  replace HOX := hide (HOX.out.kept hk)
  replace HOg := hide (HOg.out.kept hk)
  replace HOh := hide (HOh.out.kept hk)
  clear hk
  have cA0 := cell_at HOA.out.mem 0 (by simp)
  have cA1 := cell_at HOA.out.mem 1 (by simp)
  have cA2 := cell_at HOA.out.mem 2 (by simp)
  have cA3 := cell_at HOA.out.mem 3 (by simp)
  have cA4 := cell_at HOA.out.mem 4 (by simp)
  have cA5 := cell_at HOA.out.mem 5 (by simp)
  simp only [Nat.zero_add, List.getElem_cons_zero, List.getElem_cons_succ] at cA0 cA1 cA2 cA3 cA4 cA5
  have lA := lt_of_cell cA0
  have cX0 := cell_at HOX.out.mem 0 (by simp)
  have cX1 := cell_at HOX.out.mem 1 (by simp)
  have cX2 := cell_at HOX.out.mem 2 (by simp)
  have cX3 := cell_at HOX.out.mem 3 (by simp)
  have cX4 := cell_at HOX.out.mem 4 (by simp)
  have cX5 := cell_at HOX.out.mem 5 (by simp)
  simp only [Nat.zero_add, List.getElem_cons_zero, List.getElem_cons_succ] at cX0 cX1 cX2 cX3 cX4 cX5
  have lX := lt_of_cell cX0
  go_wp2_with fail
  clear cA0 cA1 cA2 cA3 cA4 cA5 lA cX0 cX1 cX2 cX3 cX4 cX5 lX
  refine (heldMoveS_k ga gc E.length 1 w24 (HOg.out.mem (ga, mvs (marksMov 1 E.length)) (by simp)) HLE.out (by decide)).mono ?_
  rintro x w25 ⟨rfl, hw⟩
  have hk : Keeps w24 w25 := by rw [hw]; exact Keeps.refl _
  clear hw
  replace HK := hide (HK.out.trans hk)
  replace HOA := hide (HOA.out.kept hk)
  replace HOm := hide (HOm.out.kept hk)
  replace HOX := hide (HOX.out.kept hk)
  replace HOg := hide (HOg.out.kept hk)
  replace HOh := hide (HOh.out.kept hk)
  clear hk
  have cA0 := cell_at HOA.out.mem 0 (by simp)
  have cA1 := cell_at HOA.out.mem 1 (by simp)
  have cA2 := cell_at HOA.out.mem 2 (by simp)
  have cA3 := cell_at HOA.out.mem 3 (by simp)
  have cA4 := cell_at HOA.out.mem 4 (by simp)
  have cA5 := cell_at HOA.out.mem 5 (by simp)
  simp only [Nat.zero_add, List.getElem_cons_zero, List.getElem_cons_succ] at cA0 cA1 cA2 cA3 cA4 cA5
  have lA := lt_of_cell cA0
  have cX0 := cell_at HOX.out.mem 0 (by simp)
  have cX1 := cell_at HOX.out.mem 1 (by simp)
  have cX2 := cell_at HOX.out.mem 2 (by simp)
  have cX3 := cell_at HOX.out.mem 3 (by simp)
  have cX4 := cell_at HOX.out.mem 4 (by simp)
  have cX5 := cell_at HOX.out.mem 5 (by simp)
  simp only [Nat.zero_add, List.getElem_cons_zero, List.getElem_cons_succ] at cX0 cX1 cX2 cX3 cX4 cX5
  have lX := lt_of_cell cX0
  go_wp2_with fail
  go_ret
  exact ⟨rfl, HK.out⟩

set_option maxRecDepth 100000 in
theorem lifted (os : Os) (started : os.Started) (H : Type) (enc : TypeId × Value → H) :
    ReturnsInHanded {} Tryz.checked os 5 .any (fun w args => (Rows.fnExactMovesSpec.pre enc Tryz.prog Tryz.f5 [] false w args ∧ laidMetH Tryz.prog Rows.fnExactMovesRow.laid w) ∧ sizedMet enc Tryz.prog Tryz.f5 (OpenSpec.ofChange Rows.fnExactMovesSpec) false w args)
      (Rows.fnExactMovesSpec.post enc Tryz.prog Tryz.f5 false true false false) := by
  refine returnsInHanded_of_change_and (C := Tryz.checked) (X := fun w _ => laidMetH Tryz.prog Rows.fnExactMovesRow.laid w) (fun _ _ _ hh h => h.of_heap hh) own started (by kernel_rfl) Tryz.func5
    (ChangeSpec.witness_shaped (enc := enc) (C := Tryz.checked) (os := os) (X := fun w _ => laidMetH Tryz.prog Rows.fnExactMovesRow.laid w) false (World.doorLaid Tryz.prog 212 os) #[.agg #[.int .i64 0, .int .i64 0, .int .i64 0, .slice none 0 0, .slice none 0 0, .slice none 0 0], .int .i64 0, .int .i64 0, .int .i64 0, .slice none 0 0] 8 rfl (World.shaped_of_RefB (by kernel_rfl) (by kernel_rfl)) (by kernel_rfl) (by kernel_rfl) (by kernel_rfl) (door_met os _)) ?_
  intro W base args ds gs before hval0 hW _ hsz hL _
  have hval : ∀ (j : Nat) t v, Tryz.f5.params[j]? = some t → args[j]? = some v → Value.okWide Tryz.prog W .any base t v := hval0
  have hW' := hW
  obtain ⟨p, q, hA0, hV0, rfl, hfz, hnd⟩ := hW
  have hA : DataW.TrodAll enc Tryz.prog W 0 (fun _ => true) true Tryz.f5.params.toList args.toList ds p := hA0
  have hV : DataW.TrodVars enc Tryz.prog W (fun _ => true) ["loop.example/g00400/impl.errNoAmount", "loop.example/g00400/impl.errNoDivisor"] gs q := hV0
  rw [Tryz.params5] at hA hval
  obtain ⟨v0, vs0, d0, ds0, p0, q0, hargs, rfl, rfl, h0, r0⟩ := trodAll_cons hA
  obtain ⟨v1, vs1, d1, ds1, p1, q1, rfl, rfl, rfl, h1, r1⟩ := trodAll_cons r0
  obtain ⟨v2, vs2, d2, ds2, p2, q2, rfl, rfl, rfl, h2, r2⟩ := trodAll_cons r1
  obtain ⟨v3, vs3, d3, ds3, p3, q3, rfl, rfl, rfl, h3, r3⟩ := trodAll_cons r2
  obtain ⟨v4, vs4, d4, ds4, p4, q4, rfl, rfl, rfl, h4, r4⟩ := trodAll_cons r3
  obtain ⟨rfl, rfl, rfl⟩ := trodAll_nil r4
  obtain rfl : args = #[v0, v1, v2, v3, v4] := by cases args; simp_all
  have k0 := h0
  have lt0 : ∀ x ∈ p0, x.block < W.heap.size := by obtain ⟨m, hm⟩ := k0; exact DataW.trod_lt m _ _ _ hm
  obtain ⟨B0, rfl, hm0, hf0, hb0⟩ := book_row (hval 0 47 v0 rfl rfl) h0
  obtain ⟨a1, rfl, rfl, rfl, w1⟩ := open_int Tryz.underlying3 (hval 1 3 v1 rfl rfl) h1
  obtain ⟨a2, rfl, rfl, rfl, w2⟩ := open_int Tryz.underlying3 (hval 2 3 v2 rfl rfl) h2
  obtain ⟨a3, rfl, rfl, rfl, w3⟩ := open_int Tryz.underlying3 (hval 3 3 v3 rfl rfl) h3
  have k4 := h4
  have lt4 : ∀ x ∈ p4, x.block < W.heap.size := by obtain ⟨m, hm⟩ := k4; exact DataW.trod_lt m _ _ _ hm
  obtain ⟨a4, cap4, L4, rfl, hc4, hf4, hl4⟩ := prices_row (hval 4 48 v4 rfl rfl) h4
  have hL0 : laidMet Tryz.prog Rows.fnExactMovesRow.laid W := by rw [← MakeChecks.laidMetH_plain _ _ _ (by kernel_rfl)]; exact hL
  obtain ⟨xAmount, hvAmount⟩ := sent hL0 gAmount tAmount
  obtain ⟨xDivisor, hvDivisor⟩ := sent (laidMet.tail hL0) gDivisor tDivisor
  obtain ⟨rfl, rfl⟩ := hV.unique (vars_read2 enc gAmount tAmount Tryz.underlying175 hvAmount trivial gDivisor tDivisor Tryz.underlying175 hvDivisor trivial _)
  clear hA0 hV0 hval0
  refine (walk B0 a1 a2 a3 a4 cap4 L4 W hm0 hf0 hb0 w1 w2 w3 hc4 hf4 hl4 _ _ (cell_of_var gAmount hvAmount) _ _ (cell_of_var gDivisor hvDivisor)).mono fun e W' ⟨he, hb⟩ => ?_
  subst he
  refine ⟨_, rfl, _, _, _, [], (p0 ++ ([] ++ ([] ++ ([] ++ (p4 ++ []))))), [.cell 0 0, .cell 1 0], hW', ?_, ?_, ?_, Below.frame hb _, fun h => by cases h⟩
  · exact trodAll_mk1 (shut_bool Tryz.underlying4 _)
  · exact (trodAll_cons_mk (Below.trod laidOut (by kernel_rfl) (of_decide_eq_true (by kernel_rfl)) k0 hb lt0) (trodAll_cons_mk (shut_int Tryz.underlying3 w1) (trodAll_cons_mk (shut_int Tryz.underlying3 w2) (trodAll_cons_mk (shut_int Tryz.underlying3 w3) (trodAll_cons_mk (Below.trod laidOut (by kernel_rfl) (of_decide_eq_true (by kernel_rfl)) k4 hb lt4) trodAll_mk0)))))
  · exact vars_read2 enc gAmount tAmount Tryz.underlying175 (var_kept hb hvAmount) trivial gDivisor tDivisor Tryz.underlying175 (var_kept hb hvDivisor) trivial _

theorem over : Rows.FnExactMovesSaid :=
  OpenClaim.holds_of_wide 5 Tryz.f5 rfl rfl rfl rfl rfl rfl rfl ⟨rfl, rfl, rfl, rfl, rfl⟩ rfl rfl rfl rfl rfl (by kernel_rfl) Tryz.func5 (by kernel_rfl)
    (of_decide_eq_true (by kernel_rfl)) (by unfold Func.isWrapper; first | (rw [if_pos (by decide +kernel)]; kernel_rfl) | (rw [if_neg (by decide +kernel)]; exact ⟨rfl, rfl⟩))
    (fun os started H enc _ => lifted os started H enc)
end Go.Proofs.YtjdbedlgkngdkaaGreatDoor.fnExactMoves
namespace Go.Proofs.YtjdbedlgkngdkaaGreatDoor
theorem fnExactMoves_holds : Rows.FnExactMovesCardSaid :=
  Claim7.holds_tied_plain_at .later [] Rows.fnExactMovesCard.laidKinds true Rows.fnExactMovesCard.stood.harness false
    fnExactMoves.over (fun _ h => by cases h) (by kernel_rfl) (fun _ h => by cases h) fnExactMoves_row_tie rfl ⟨rfl, rfl⟩ (by kernel_rfl) rfl
    (fun f fn hf hfn => by
      obtain rfl : f = 5 := Option.some.inj ((show Tryz.prog.funcNamed Rows.fnExactMovesRow.func = some 5 by kernel_rfl).symm.trans hf) |>.symm
      obtain rfl : fn = Tryz.f5 := (Option.some.inj (Tryz.func5.symm.trans hfn)).symm
      exact ⟨by kernel_rfl, fun j t ht => by
        rw [Tryz.params5] at ht
        have hm : t ∈ [47, 3, 3, 3, 48] := by simpa using Array.mem_of_getElem? ht
        have hall : ([47, 3, 3, 3, 48].all fun u => !Tryz.prog.wantsStandIn u) = true := by kernel_rfl
        exact (show Tryz.prog.wantsStandIn t = false by simpa using List.all_eq_true.1 hall t hm)⟩)
    (by kernel_rfl)
end Go.Proofs.YtjdbedlgkngdkaaGreatDoor
