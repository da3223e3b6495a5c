/- Turns of the program answers as its model at every book and rule, writes into no argument, and its answer owns its memory. -/
import Derived.Test.YteoloapjhlpnjaaGreatDoorTnU
import Derived.Test.YteoloapjhlpnjaaGreatDoorTnG
import Derived.Test.YteoloapjhlpnjaaGreatDoorBgB
import Derived.Test.YteoloapjhlpnjaaGreatDoorBgO
import Derived.Test.YteoloapjhlpnjaaGreatDoorBmB
import Derived.Test.YteoloapjhlpnjaaGreatDoorEvM
import Derived.Test.YteoloapjhlpnjaaGreatDoorVars
import Derived.Test.YteoloapjhlpnjaaGreatDoorSent
import Derived.Test.YteoloapjhlpnjaaGreatDoorCards
import Derived.Test.YteoloapjhlpnjaaGreatDoorTie
import Derived.WalkKit
import Derived.ProofKit
import Derived.OpenShut
import Derived.ShutString
import Derived.LaidMore
import Derived.Stop.Joined
import Derived.SevenTiedAt
import Derived.ChangeOld
import Derived.Below
namespace Go.Proofs.YteoloapjhlpnjaaGreatDoor.fnExactTurns
open Go.ChangeShapes Go.WideShapes Go.ChangeAt Go.RowKit
open Go.ChangeMaps (open_string shut_string)
set_option linter.unusedVariables false
theorem own : ownKnob Tryz.prog.godebug = none := by kernel_rfl
theorem laidOut : laidOutB Tryz.prog = true := by kernel_rfl
theorem gAmount : Tryz.prog.globalNamed "loop.example/g00400/impl.errNoAmount" = some 0 := by kernel_rfl
theorem tAmount : (Tryz.prog.globals[0]?).map (·.type) = some 225 := by kernel_rfl
theorem gDivisor : Tryz.prog.globalNamed "loop.example/g00400/impl.errNoDivisor" = some 1 := by kernel_rfl
theorem tDivisor : (Tryz.prog.globals[1]?).map (·.type) = some 225 := by kernel_rfl
theorem door_met (os : Os) (args : Array Value) : laidMetH Tryz.prog Rows.fnExactTurnsRow.laid ((World.doorLaid Tryz.prog 292 os).forCall (fun _ _ => 0) ⟨#[], args, []⟩).memory :=
  laidMetH_of_parts3 (fuel := 8) (laidMet_of_run' 8 (by kernel_rfl) (by kernel_rfl)) (by kernel_rfl) (by kernel_rfl)

theorem len_d {B B' : Bo} (h : B'.d = B.d) (hl : B.len) : B'.len := by
  have h1 : B'.C = B.C := congrArg Bk.C h
  have h2 : B'.Hs = B.Hs := congrArg Bk.Hs h
  have h3 : B'.R = B.R := congrArg Bk.R h
  unfold Bo.len; rw [h1, h2, h3]; exact hl
set_option maxRecDepth 100000 in
set_option maxHeartbeats 8000000 in
theorem walk (B : Bo) (r : Rul) (w : World) (hm : Mem w B.segs) (hf : B.fit) (hbig : B.big) (u0 : TypeId) (x0 : Value) (hg0 : w.cell? ⟨0, 0, none⟩ = some (.iface u0 x0)) (u3 : TypeId) (x3 : Value) (hg3 : w.cell? ⟨1, 0, none⟩ = some (.iface u3 x3)) :
    Calls Tryz.prog 4 #[B.v, r.v] w fun e w' => e = .returned (.bool true) ∧ Keeps w w' := by
  have HSz := hide (fun w' => szBook_k B 1048576 w' hbig (by decide) (by decide))
  obtain ⟨bd, hbd⟩ : ∃ bd, bd = B.d := ⟨_, rfl⟩
  have HTo : Hid (∀ w', Keeps w w' → B.len → Calls Tryz.prog 14 #[B.v] w' fun e w'' => ∃ B' : Bo, e = .returned B'.v ∧ B'.d = bd ∧ Born w' w'' B'.segs ∧ Keeps w' w'') := fun w' hk hl => (toBook_k B w' (hm.kept hk) hl).mono fun e w'' ⟨B', h1, h2, _, h3, h4⟩ => ⟨B', h1, h2.trans hbd.symm, h3, h4⟩
  have HTR := hide (fun w' => toRule_k r w')
  have HLB : Hid (B.len → ∀ B' : Bo, B'.d = bd → B'.len) := fun hl B' h => len_d (h.trans hbd) hl
  clear hm hf hbig hg0 hg3 hbd
  obtain ⟨tk, nx, wa, ca, cc, C, ha, hc, Hs, ra, rc, R⟩ := B
  dsimp only [Bo.v] at *
  go_enter Tryz.func4, Tryz.ntmps4
  have HK := hide (Keeps.refl w)
  have HCS := hide (fun (hl0 : Bo.len ⟨tk, nx, wa, ca, cc, C, ha, hc, Hs, ra, rc, R⟩) (B' : Bo) (hd : B'.d = bd) w' (hm : Mem w' B'.segs) => (show _ from by have := turns_spec B' r w' hm (unhide HLB hl0 _ hd); rw [hd] at this; exact this))
  have HCI := hide (fun (hl0 : Bo.len ⟨tk, nx, wa, ca, cc, C, ha, hc, Hs, ra, rc, R⟩) (B' : Bo) (hd : B'.d = bd) w' (hm : Mem w' B'.segs) => (show _ from by have := turns_impl B' r w' hm (unhide HLB hl0 _ hd); rw [hd] at this; exact this))
  have HLE : Hid ((turnsV bd r).length ≤ 1048576) := Nat.le_trans (turnsV_len bd r) (by decide)
  generalize turnsV bd r = E at *
  obtain ⟨ok, hok⟩ : ∃ ok : Bool, ok = true := ⟨_, rfl⟩
  clear hok
  obtain ⟨xlo, xhi, xst, xmi, xma⟩ := r
  dsimp only [Rul.v] at *
  have hb := born_alloc w #[.int .i64 tk, .int .i64 nx, .int .i64 wa, .slice ca C.length cc, .slice ha Hs.length hc, .slice ra R.length rc] 52
  dsimp only at hb
  have hk := Keeps.alloc (Keeps.refl w) (.cells #[.int .i64 tk, .int .i64 nx, .int .i64 wa, .slice ca C.length cc, .slice ha Hs.length hc, .slice ra R.length rc] 52)
  have hb2 := born_alloc (w.alloc (.cells #[.int .i64 tk, .int .i64 nx, .int .i64 wa, .slice ca C.length cc, .slice ha Hs.length hc, .slice ra R.length rc] 52)) #[.int .i64 xlo, .int .i64 xhi, .int .i64 xst, .int .i64 xmi, .int .i64 xma] 53
  dsimp only at hb2
  rw [size_alloc1] at hb2
  have hk2 := Keeps.alloc (Keeps.refl (w.alloc (.cells #[.int .i64 tk, .int .i64 nx, .int .i64 wa, .slice ca C.length cc, .slice ha Hs.length hc, .slice ra R.length rc] 52))) (.cells #[.int .i64 xlo, .int .i64 xhi, .int .i64 xst, .int .i64 xmi, .int .i64 xma] 53)
  go_wp2_with fail
  generalize w.alloc (.cells #[.int .i64 tk, .int .i64 nx, .int .i64 wa, .slice ca C.length cc, .slice ha Hs.length hc, .slice ra R.length rc] 52) = w1 at *
  have HNA := hide ((hb.old HK.out).new)
  replace HK := hide (HK.out.trans hk)
  have HOA := hide hb.toOwn
  clear hb hk
  generalize w1.alloc (.cells #[.int .i64 xlo, .int .i64 xhi, .int .i64 xst, .int .i64 xmi, .int .i64 xma] 53) = w2 at *
  have HDA_R := hide (hb2.apart HOA.out.mem)
  have HDR_A := hide (hb2.apart' HOA.out.mem)
  have HNR := hide ((hb2.old HK.out).new)
  replace HK := hide (HK.out.trans hk2)
  replace HOA := hide (HOA.out.kept hk2)
  have HOR := hide hb2.toOwn
  clear hb2 hk2
  have cA0 := cell_at HOA.out.mem 0 (by simp)
  have cA1 := cell_at HOA.out.mem 1 (by simp)
  have cA2 := cell_at HOA.out.mem 2 (by simp)
  have cA3 := cell_at HOA.out.mem 3 (by simp)
  have cA4 := cell_at HOA.out.mem 4 (by simp)
  have cA5 := cell_at HOA.out.mem 5 (by simp)
  simp only [Nat.zero_add, List.getElem_cons_zero, List.getElem_cons_succ] at cA0 cA1 cA2 cA3 cA4 cA5
  have lA := lt_of_cell cA0
  have cR0 := cell_at HOR.out.mem 0 (by simp)
  have cR1 := cell_at HOR.out.mem 1 (by simp)
  have cR2 := cell_at HOR.out.mem 2 (by simp)
  have cR3 := cell_at HOR.out.mem 3 (by simp)
  have cR4 := cell_at HOR.out.mem 4 (by simp)
  simp only [Nat.zero_add, List.getElem_cons_zero, List.getElem_cons_succ] at cR0 cR1 cR2 cR3 cR4
  have lR := lt_of_cell cR0
  refine (unhide HSz w2).mono ?_
  rintro x w3 ⟨r, rfl, hr1, hr, hk⟩
  clear cA0 cA1 cA2 cA3 cA4 cA5 lA cR0 cR1 cR2 cR3 cR4 lR
  replace HK := hide (HK.out.trans hk)
  replace HOA := hide (HOA.out.kept hk)
  replace HOR := hide (HOR.out.kept hk)
  clear hk
  have HL := hide hr
  clear hr HSz
  by_cases hr0 : r < 0
  · go_wp2_with fail
    go_ret
    exact ⟨rfl, HK.out⟩
  replace HL := hide (HL.out (by omega))
  replace HLB := hide (HLB.out HL.out)
  replace HCS := hide (HCS.out HL.out)
  replace HCI := hide (HCI.out HL.out)
  have hrr : (ok != ok) = false := by simp
  have cA0 := cell_at HOA.out.mem 0 (by simp)
  have cA1 := cell_at HOA.out.mem 1 (by simp)
  have cA2 := cell_at HOA.out.mem 2 (by simp)
  have cA3 := cell_at HOA.out.mem 3 (by simp)
  have cA4 := cell_at HOA.out.mem 4 (by simp)
  have cA5 := cell_at HOA.out.mem 5 (by simp)
  simp only [Nat.zero_add, List.getElem_cons_zero, List.getElem_cons_succ] at cA0 cA1 cA2 cA3 cA4 cA5
  have lA := lt_of_cell cA0
  have cR0 := cell_at HOR.out.mem 0 (by simp)
  have cR1 := cell_at HOR.out.mem 1 (by simp)
  have cR2 := cell_at HOR.out.mem 2 (by simp)
  have cR3 := cell_at HOR.out.mem 3 (by simp)
  have cR4 := cell_at HOR.out.mem 4 (by simp)
  simp only [Nat.zero_add, List.getElem_cons_zero, List.getElem_cons_succ] at cR0 cR1 cR2 cR3 cR4
  have lR := lt_of_cell cR0
  go_wp2_with fail
  clear cA0 cA1 cA2 cA3 cA4 cA5 lA cR0 cR1 cR2 cR3 cR4 lR
  have cA0 := cell_at HOA.out.mem 0 (by simp)
  have cA1 := cell_at HOA.out.mem 1 (by simp)
  have cA2 := cell_at HOA.out.mem 2 (by simp)
  have cA3 := cell_at HOA.out.mem 3 (by simp)
  have cA4 := cell_at HOA.out.mem 4 (by simp)
  have cA5 := cell_at HOA.out.mem 5 (by simp)
  simp only [Nat.zero_add, List.getElem_cons_zero, List.getElem_cons_succ] at cA0 cA1 cA2 cA3 cA4 cA5
  have lA := lt_of_cell cA0
  have cR0 := cell_at HOR.out.mem 0 (by simp)
  have cR1 := cell_at HOR.out.mem 1 (by simp)
  have cR2 := cell_at HOR.out.mem 2 (by simp)
  have cR3 := cell_at HOR.out.mem 3 (by simp)
  have cR4 := cell_at HOR.out.mem 4 (by simp)
  simp only [Nat.zero_add, List.getElem_cons_zero, List.getElem_cons_succ] at cR0 cR1 cR2 cR3 cR4
  have lR := lt_of_cell cR0
  go_region_held3 (fun w' => w'.cell? ⟨w.heap.size, 0, none⟩ = some (.int .i64 tk) ∧ w'.cell? ⟨w.heap.size, 1, none⟩ = some (.int .i64 nx) ∧ w'.cell? ⟨w.heap.size, 2, none⟩ = some (.int .i64 wa) ∧ w'.cell? ⟨w.heap.size, 3, none⟩ = some (.slice ca C.length cc) ∧ w'.cell? ⟨w.heap.size, 4, none⟩ = some (.slice ha Hs.length hc) ∧ w'.cell? ⟨w.heap.size, 5, none⟩ = some (.slice ra R.length rc) ∧ w'.cell? ⟨(w.heap.size + 1), 0, none⟩ = some (.int .i64 xlo) ∧ w'.cell? ⟨(w.heap.size + 1), 1, none⟩ = some (.int .i64 xhi) ∧ w'.cell? ⟨(w.heap.size + 1), 2, none⟩ = some (.int .i64 xst) ∧ w'.cell? ⟨(w.heap.size + 1), 3, none⟩ = some (.int .i64 xmi) ∧ w'.cell? ⟨(w.heap.size + 1), 4, none⟩ = some (.int .i64 xma)) (go_keep)
    (first
       | (go_at_call 14
          refine (unhide HTo _ (HK.out.trans ((Keeps.refl w3).drew)) HL.out).mono ?_
          rintro x w4 ⟨Bs, rfl, hd, hb, hk⟩
          have HDs := hide hd
          clear hd
          replace hb := hb.old ((Keeps.refl w3).drew)
          replace hk := ((Keeps.refl w3).drew).trans hk
          clear cA0 cA1 cA2 cA3 cA4 cA5 lA cR0 cR1 cR2 cR3 cR4 lR
          have HDA_s := hide (hb.apart HOA.out.mem)
          have HDs_A := hide (hb.apart' HOA.out.mem)
          have HDR_s := hide (hb.apart HOR.out.mem)
          have HDs_R := hide (hb.apart' HOR.out.mem)
          have HNs := hide ((hb.old HK.out).new)
          replace HK := hide (HK.out.trans hk)
          replace HOA := hide (HOA.out.kept hk)
          replace HOR := hide (HOR.out.kept hk)
          have HOs := hide hb.toOwn
          clear hb hk
          have cA0 := cell_at HOA.out.mem 0 (by simp)
          have cA1 := cell_at HOA.out.mem 1 (by simp)
          have cA2 := cell_at HOA.out.mem 2 (by simp)
          have cA3 := cell_at HOA.out.mem 3 (by simp)
          have cA4 := cell_at HOA.out.mem 4 (by simp)
          have cA5 := cell_at HOA.out.mem 5 (by simp)
          simp only [Nat.zero_add, List.getElem_cons_zero, List.getElem_cons_succ] at cA0 cA1 cA2 cA3 cA4 cA5
          have lA := lt_of_cell cA0
          have cR0 := cell_at HOR.out.mem 0 (by simp)
          have cR1 := cell_at HOR.out.mem 1 (by simp)
          have cR2 := cell_at HOR.out.mem 2 (by simp)
          have cR3 := cell_at HOR.out.mem 3 (by simp)
          have cR4 := cell_at HOR.out.mem 4 (by simp)
          simp only [Nat.zero_add, List.getElem_cons_zero, List.getElem_cons_succ] at cR0 cR1 cR2 cR3 cR4
          have lR := lt_of_cell cR0)
       | (go_at_call 15
          refine (unhide HTR _).mono ?_
          rintro x w5 ⟨rfl, hk⟩
          clear cA0 cA1 cA2 cA3 cA4 cA5 lA cR0 cR1 cR2 cR3 cR4 lR
          replace HK := hide (HK.out.trans hk)
          replace HOA := hide (HOA.out.kept hk)
          replace HOR := hide (HOR.out.kept hk)
          replace HOs := hide (HOs.out.kept hk)
          clear hk
          have cA0 := cell_at HOA.out.mem 0 (by simp)
          have cA1 := cell_at HOA.out.mem 1 (by simp)
          have cA2 := cell_at HOA.out.mem 2 (by simp)
          have cA3 := cell_at HOA.out.mem 3 (by simp)
          have cA4 := cell_at HOA.out.mem 4 (by simp)
          have cA5 := cell_at HOA.out.mem 5 (by simp)
          simp only [Nat.zero_add, List.getElem_cons_zero, List.getElem_cons_succ] at cA0 cA1 cA2 cA3 cA4 cA5
          have lA := lt_of_cell cA0
          have cR0 := cell_at HOR.out.mem 0 (by simp)
          have cR1 := cell_at HOR.out.mem 1 (by simp)
          have cR2 := cell_at HOR.out.mem 2 (by simp)
          have cR3 := cell_at HOR.out.mem 3 (by simp)
          have cR4 := cell_at HOR.out.mem 4 (by simp)
          simp only [Nat.zero_add, List.getElem_cons_zero, List.getElem_cons_succ] at cR0 cR1 cR2 cR3 cR4
          have lR := lt_of_cell cR0)
       | (go_at_call 9
          refine (unhide HCS Bs HDs.out w5 HOs.out.mem).mono ?_
          rintro x w6 ⟨ma, mc, rfl, hnn, hb, hk⟩
          clear hnn
          clear cA0 cA1 cA2 cA3 cA4 cA5 lA cR0 cR1 cR2 cR3 cR4 lR
          have HDA_m := hide (hb.apart HOA.out.mem)
          have HDm_A := hide (hb.apart' HOA.out.mem)
          have HDR_m := hide (hb.apart HOR.out.mem)
          have HDm_R := hide (hb.apart' HOR.out.mem)
          have HDs_m := hide (hb.apart HOs.out.mem)
          have HDm_s := hide (hb.apart' HOs.out.mem)
          have HNm := hide ((hb.old HK.out).new)
          replace HK := hide (HK.out.trans hk)
          replace HOA := hide (HOA.out.kept hk)
          replace HOR := hide (HOR.out.kept hk)
          replace HOs := hide (HOs.out.kept hk)
          have HOm := hide hb.toOwn
          clear hb hk
          have cA0 := cell_at HOA.out.mem 0 (by simp)
          have cA1 := cell_at HOA.out.mem 1 (by simp)
          have cA2 := cell_at HOA.out.mem 2 (by simp)
          have cA3 := cell_at HOA.out.mem 3 (by simp)
          have cA4 := cell_at HOA.out.mem 4 (by simp)
          have cA5 := cell_at HOA.out.mem 5 (by simp)
          simp only [Nat.zero_add, List.getElem_cons_zero, List.getElem_cons_succ] at cA0 cA1 cA2 cA3 cA4 cA5
          have lA := lt_of_cell cA0
          have cR0 := cell_at HOR.out.mem 0 (by simp)
          have cR1 := cell_at HOR.out.mem 1 (by simp)
          have cR2 := cell_at HOR.out.mem 2 (by simp)
          have cR3 := cell_at HOR.out.mem 3 (by simp)
          have cR4 := cell_at HOR.out.mem 4 (by simp)
          simp only [Nat.zero_add, List.getElem_cons_zero, List.getElem_cons_succ] at cR0 cR1 cR2 cR3 cR4
          have lR := lt_of_cell cR0))
  clear HOs HNs HDA_s HDs_A HDR_s HDs_R HDm_s HDs_m
  clear HDs
  go_wp2_with fail
  refine (unhide HTo w6 HK.out HL.out).mono ?_
  rintro x w7 ⟨Bx, rfl, hd, hb, hk⟩
  have HDx := hide hd
  clear hd
  clear cA0 cA1 cA2 cA3 cA4 cA5 lA cR0 cR1 cR2 cR3 cR4 lR
  have HDA_x := hide (hb.apart HOA.out.mem)
  have HDx_A := hide (hb.apart' HOA.out.mem)
  have HDR_x := hide (hb.apart HOR.out.mem)
  have HDx_R := hide (hb.apart' HOR.out.mem)
  have HDm_x := hide (hb.apart HOm.out.mem)
  have HDx_m := hide (hb.apart' HOm.out.mem)
  have HNx := hide ((hb.old HK.out).new)
  replace HK := hide (HK.out.trans hk)
  replace HOA := hide (HOA.out.kept hk)
  replace HOR := hide (HOR.out.kept hk)
  replace HOm := hide (HOm.out.kept hk)
  have HOx := hide hb.toOwn
  clear hb hk
  have cA0 := cell_at HOA.out.mem 0 (by simp)
  have cA1 := cell_at HOA.out.mem 1 (by simp)
  have cA2 := cell_at HOA.out.mem 2 (by simp)
  have cA3 := cell_at HOA.out.mem 3 (by simp)
  have cA4 := cell_at HOA.out.mem 4 (by simp)
  have cA5 := cell_at HOA.out.mem 5 (by simp)
  simp only [Nat.zero_add, List.getElem_cons_zero, List.getElem_cons_succ] at cA0 cA1 cA2 cA3 cA4 cA5
  have lA := lt_of_cell cA0
  have cR0 := cell_at HOR.out.mem 0 (by simp)
  have cR1 := cell_at HOR.out.mem 1 (by simp)
  have cR2 := cell_at HOR.out.mem 2 (by simp)
  have cR3 := cell_at HOR.out.mem 3 (by simp)
  have cR4 := cell_at HOR.out.mem 4 (by simp)
  simp only [Nat.zero_add, List.getElem_cons_zero, List.getElem_cons_succ] at cR0 cR1 cR2 cR3 cR4
  have lR := lt_of_cell cR0
  go_wp2_with fail
  have hb := born_alloc w7 #[.int .i64 Bx.tk, .int .i64 Bx.nx, .int .i64 Bx.wa, .slice Bx.ca Bx.C.length Bx.cc, .slice Bx.ha Bx.Hs.length Bx.hc, .slice Bx.ra Bx.R.length Bx.rc] 27
  dsimp only at hb
  have hk := Keeps.alloc (Keeps.refl w7) (.cells #[.int .i64 Bx.tk, .int .i64 Bx.nx, .int .i64 Bx.wa, .slice Bx.ca Bx.C.length Bx.cc, .slice Bx.ha Bx.Hs.length Bx.hc, .slice Bx.ra Bx.R.length Bx.rc] 27)
  generalize w7.alloc (.cells #[.int .i64 Bx.tk, .int .i64 Bx.nx, .int .i64 Bx.wa, .slice Bx.ca Bx.C.length Bx.cc, .slice Bx.ha Bx.Hs.length Bx.hc, .slice Bx.ra Bx.R.length Bx.rc] 27) = w8 at *
  clear cA0 cA1 cA2 cA3 cA4 cA5 lA cR0 cR1 cR2 cR3 cR4 lR
  have HDA_X := hide (hb.apart HOA.out.mem)
  have HDX_A := hide (hb.apart' HOA.out.mem)
  have HDR_X := hide (hb.apart HOR.out.mem)
  have HDX_R := hide (hb.apart' HOR.out.mem)
  have HDm_X := hide (hb.apart HOm.out.mem)
  have HDX_m := hide (hb.apart' HOm.out.mem)
  have HDx_X := hide (hb.apart HOx.out.mem)
  have HDX_x := hide (hb.apart' HOx.out.mem)
  have HNX := hide ((hb.old HK.out).new)
  replace HK := hide (HK.out.trans hk)
  replace HOA := hide (HOA.out.kept hk)
  replace HOR := hide (HOR.out.kept hk)
  replace HOm := hide (HOm.out.kept hk)
  replace HOx := hide (HOx.out.kept hk)
  have HOX := hide hb.toOwn
  clear hb hk
  have cA0 := cell_at HOA.out.mem 0 (by simp)
  have cA1 := cell_at HOA.out.mem 1 (by simp)
  have cA2 := cell_at HOA.out.mem 2 (by simp)
  have cA3 := cell_at HOA.out.mem 3 (by simp)
  have cA4 := cell_at HOA.out.mem 4 (by simp)
  have cA5 := cell_at HOA.out.mem 5 (by simp)
  simp only [Nat.zero_add, List.getElem_cons_zero, List.getElem_cons_succ] at cA0 cA1 cA2 cA3 cA4 cA5
  have lA := lt_of_cell cA0
  have cR0 := cell_at HOR.out.mem 0 (by simp)
  have cR1 := cell_at HOR.out.mem 1 (by simp)
  have cR2 := cell_at HOR.out.mem 2 (by simp)
  have cR3 := cell_at HOR.out.mem 3 (by simp)
  have cR4 := cell_at HOR.out.mem 4 (by simp)
  simp only [Nat.zero_add, List.getElem_cons_zero, List.getElem_cons_succ] at cR0 cR1 cR2 cR3 cR4
  have lR := lt_of_cell cR0
  have cX0 := cell_at HOX.out.mem 0 (by simp)
  have cX1 := cell_at HOX.out.mem 1 (by simp)
  have cX2 := cell_at HOX.out.mem 2 (by simp)
  have cX3 := cell_at HOX.out.mem 3 (by simp)
  have cX4 := cell_at HOX.out.mem 4 (by simp)
  have cX5 := cell_at HOX.out.mem 5 (by simp)
  simp only [Nat.zero_add, List.getElem_cons_zero, List.getElem_cons_succ] at cX0 cX1 cX2 cX3 cX4 cX5
  have lX := lt_of_cell cX0
  go_region_held3 (fun w' => w'.cell? ⟨w7.heap.size, 0, none⟩ = some (.int .i64 Bx.tk) ∧ w'.cell? ⟨w7.heap.size, 1, none⟩ = some (.int .i64 Bx.nx) ∧ w'.cell? ⟨w7.heap.size, 2, none⟩ = some (.int .i64 Bx.wa) ∧ w'.cell? ⟨w7.heap.size, 3, none⟩ = some (.slice Bx.ca Bx.C.length Bx.cc) ∧ w'.cell? ⟨w7.heap.size, 4, none⟩ = some (.slice Bx.ha Bx.Hs.length Bx.hc) ∧ w'.cell? ⟨w7.heap.size, 5, none⟩ = some (.slice Bx.ra Bx.R.length Bx.rc) ∧ w'.cell? ⟨(w.heap.size + 1), 0, none⟩ = some (.int .i64 xlo) ∧ w'.cell? ⟨(w.heap.size + 1), 1, none⟩ = some (.int .i64 xhi) ∧ w'.cell? ⟨(w.heap.size + 1), 2, none⟩ = some (.int .i64 xst) ∧ w'.cell? ⟨(w.heap.size + 1), 3, none⟩ = some (.int .i64 xmi) ∧ w'.cell? ⟨(w.heap.size + 1), 4, none⟩ = some (.int .i64 xma)) (go_keep)
    (first
       | (go_at_call 15
          refine (unhide HTR _).mono ?_
          rintro x w9 ⟨rfl, hk⟩
          replace hk := ((Keeps.refl w8).drew).trans hk
          clear cA0 cA1 cA2 cA3 cA4 cA5 lA cR0 cR1 cR2 cR3 cR4 lR cX0 cX1 cX2 cX3 cX4 cX5 lX
          replace HK := hide (HK.out.trans hk)
          replace HOA := hide (HOA.out.kept hk)
          replace HOR := hide (HOR.out.kept hk)
          replace HOm := hide (HOm.out.kept hk)
          replace HOx := hide (HOx.out.kept hk)
          replace HOX := hide (HOX.out.kept hk)
          clear hk
          have cA0 := cell_at HOA.out.mem 0 (by simp)
          have cA1 := cell_at HOA.out.mem 1 (by simp)
          have cA2 := cell_at HOA.out.mem 2 (by simp)
          have cA3 := cell_at HOA.out.mem 3 (by simp)
          have cA4 := cell_at HOA.out.mem 4 (by simp)
          have cA5 := cell_at HOA.out.mem 5 (by simp)
          simp only [Nat.zero_add, List.getElem_cons_zero, List.getElem_cons_succ] at cA0 cA1 cA2 cA3 cA4 cA5
          have lA := lt_of_cell cA0
          have cR0 := cell_at HOR.out.mem 0 (by simp)
          have cR1 := cell_at HOR.out.mem 1 (by simp)
          have cR2 := cell_at HOR.out.mem 2 (by simp)
          have cR3 := cell_at HOR.out.mem 3 (by simp)
          have cR4 := cell_at HOR.out.mem 4 (by simp)
          simp only [Nat.zero_add, List.getElem_cons_zero, List.getElem_cons_succ] at cR0 cR1 cR2 cR3 cR4
          have lR := lt_of_cell cR0
          have cX0 := cell_at HOX.out.mem 0 (by simp)
          have cX1 := cell_at HOX.out.mem 1 (by simp)
          have cX2 := cell_at HOX.out.mem 2 (by simp)
          have cX3 := cell_at HOX.out.mem 3 (by simp)
          have cX4 := cell_at HOX.out.mem 4 (by simp)
          have cX5 := cell_at HOX.out.mem 5 (by simp)
          simp only [Nat.zero_add, List.getElem_cons_zero, List.getElem_cons_succ] at cX0 cX1 cX2 cX3 cX4 cX5
          have lX := lt_of_cell cX0)
       | (go_at_call 8
          refine (unhide HCI Bx HDx.out w9 HOx.out.mem).mono ?_
          rintro x w10 ⟨ga, gc, rfl, hnn, hb, hk⟩
          clear hnn
          clear cA0 cA1 cA2 cA3 cA4 cA5 lA cR0 cR1 cR2 cR3 cR4 lR cX0 cX1 cX2 cX3 cX4 cX5 lX
          have HDA_g := hide (hb.apart HOA.out.mem)
          have HDg_A := hide (hb.apart' HOA.out.mem)
          have HDR_g := hide (hb.apart HOR.out.mem)
          have HDg_R := hide (hb.apart' HOR.out.mem)
          have HDm_g := hide (hb.apart HOm.out.mem)
          have HDg_m := hide (hb.apart' HOm.out.mem)
          have HDx_g := hide (hb.apart HOx.out.mem)
          have HDg_x := hide (hb.apart' HOx.out.mem)
          have HDX_g := hide (hb.apart HOX.out.mem)
          have HDg_X := hide (hb.apart' HOX.out.mem)
          have HNg := hide ((hb.old HK.out).new)
          replace HK := hide (HK.out.trans hk)
          replace HOA := hide (HOA.out.kept hk)
          replace HOR := hide (HOR.out.kept hk)
          replace HOm := hide (HOm.out.kept hk)
          replace HOx := hide (HOx.out.kept hk)
          replace HOX := hide (HOX.out.kept hk)
          have HOg := hide hb.toOwn
          clear hb hk
          have cA0 := cell_at HOA.out.mem 0 (by simp)
          have cA1 := cell_at HOA.out.mem 1 (by simp)
          have cA2 := cell_at HOA.out.mem 2 (by simp)
          have cA3 := cell_at HOA.out.mem 3 (by simp)
          have cA4 := cell_at HOA.out.mem 4 (by simp)
          have cA5 := cell_at HOA.out.mem 5 (by simp)
          simp only [Nat.zero_add, List.getElem_cons_zero, List.getElem_cons_succ] at cA0 cA1 cA2 cA3 cA4 cA5
          have lA := lt_of_cell cA0
          have cR0 := cell_at HOR.out.mem 0 (by simp)
          have cR1 := cell_at HOR.out.mem 1 (by simp)
          have cR2 := cell_at HOR.out.mem 2 (by simp)
          have cR3 := cell_at HOR.out.mem 3 (by simp)
          have cR4 := cell_at HOR.out.mem 4 (by simp)
          simp only [Nat.zero_add, List.getElem_cons_zero, List.getElem_cons_succ] at cR0 cR1 cR2 cR3 cR4
          have lR := lt_of_cell cR0
          have cX0 := cell_at HOX.out.mem 0 (by simp)
          have cX1 := cell_at HOX.out.mem 1 (by simp)
          have cX2 := cell_at HOX.out.mem 2 (by simp)
          have cX3 := cell_at HOX.out.mem 3 (by simp)
          have cX4 := cell_at HOX.out.mem 4 (by simp)
          have cX5 := cell_at HOX.out.mem 5 (by simp)
          simp only [Nat.zero_add, List.getElem_cons_zero, List.getElem_cons_succ] at cX0 cX1 cX2 cX3 cX4 cX5
          have lX := lt_of_cell cX0))
  go_wp2_with fail
  clear cA0 cA1 cA2 cA3 cA4 cA5 lA cR0 cR1 cR2 cR3 cR4 lR cX0 cX1 cX2 cX3 cX4 cX5 lX
  refine (eqEventS_k ga ma gc mc E w10 (HOg.out.mem (ga, ecells E) (by simp)) (HOm.out.mem (ma, ecells E) (by simp)) HLE.out).mono ?_
  rintro x w11 ⟨rfl, hk⟩
  replace HK := hide (HK.out.trans hk)
  replace HOA := hide (HOA.out.kept hk)
  replace HOR := hide (HOR.out.kept hk)
  replace HOm := hide (HOm.out.kept hk)
  replace HOx := hide (HOx.out.kept hk)
  replace HOX := hide (HOX.out.kept hk)
  replace HOg := hide (HOg.out.kept hk)
  clear hk
  have cA0 := cell_at HOA.out.mem 0 (by simp)
  have cA1 := cell_at HOA.out.mem 1 (by simp)
  have cA2 := cell_at HOA.out.mem 2 (by simp)
  have cA3 := cell_at HOA.out.mem 3 (by simp)
  have cA4 := cell_at HOA.out.mem 4 (by simp)
  have cA5 := cell_at HOA.out.mem 5 (by simp)
  simp only [Nat.zero_add, List.getElem_cons_zero, List.getElem_cons_succ] at cA0 cA1 cA2 cA3 cA4 cA5
  have lA := lt_of_cell cA0
  have cR0 := cell_at HOR.out.mem 0 (by simp)
  have cR1 := cell_at HOR.out.mem 1 (by simp)
  have cR2 := cell_at HOR.out.mem 2 (by simp)
  have cR3 := cell_at HOR.out.mem 3 (by simp)
  have cR4 := cell_at HOR.out.mem 4 (by simp)
  simp only [Nat.zero_add, List.getElem_cons_zero, List.getElem_cons_succ] at cR0 cR1 cR2 cR3 cR4
  have lR := lt_of_cell cR0
  have cX0 := cell_at HOX.out.mem 0 (by simp)
  have cX1 := cell_at HOX.out.mem 1 (by simp)
  have cX2 := cell_at HOX.out.mem 2 (by simp)
  have cX3 := cell_at HOX.out.mem 3 (by simp)
  have cX4 := cell_at HOX.out.mem 4 (by simp)
  have cX5 := cell_at HOX.out.mem 5 (by simp)
  simp only [Nat.zero_add, List.getElem_cons_zero, List.getElem_cons_succ] at cX0 cX1 cX2 cX3 cX4 cX5
  have lX := lt_of_cell cX0
  go_wp2_with fail
  clear cA0 cA1 cA2 cA3 cA4 cA5 lA cR0 cR1 cR2 cR3 cR4 lR cX0 cX1 cX2 cX3 cX4 cX5 lX
  have cA0 := cell_at HOA.out.mem 0 (by simp)
  have cA1 := cell_at HOA.out.mem 1 (by simp)
  have cA2 := cell_at HOA.out.mem 2 (by simp)
  have cA3 := cell_at HOA.out.mem 3 (by simp)
  have cA4 := cell_at HOA.out.mem 4 (by simp)
  have cA5 := cell_at HOA.out.mem 5 (by simp)
  simp only [Nat.zero_add, List.getElem_cons_zero, List.getElem_cons_succ] at cA0 cA1 cA2 cA3 cA4 cA5
  have lA := lt_of_cell cA0
  have cR0 := cell_at HOR.out.mem 0 (by simp)
  have cR1 := cell_at HOR.out.mem 1 (by simp)
  have cR2 := cell_at HOR.out.mem 2 (by simp)
  have cR3 := cell_at HOR.out.mem 3 (by simp)
  have cR4 := cell_at HOR.out.mem 4 (by simp)
  simp only [Nat.zero_add, List.getElem_cons_zero, List.getElem_cons_succ] at cR0 cR1 cR2 cR3 cR4
  have lR := lt_of_cell cR0
  have cX0 := cell_at HOX.out.mem 0 (by simp)
  have cX1 := cell_at HOX.out.mem 1 (by simp)
  have cX2 := cell_at HOX.out.mem 2 (by simp)
  have cX3 := cell_at HOX.out.mem 3 (by simp)
  have cX4 := cell_at HOX.out.mem 4 (by simp)
  have cX5 := cell_at HOX.out.mem 5 (by simp)
  simp only [Nat.zero_add, List.getElem_cons_zero, List.getElem_cons_succ] at cX0 cX1 cX2 cX3 cX4 cX5
  have lX := lt_of_cell cX0
  go_region_held3 (fun w' => w'.cell? ⟨w7.heap.size, 0, none⟩ = some (.int .i64 Bx.tk) ∧ w'.cell? ⟨w7.heap.size, 1, none⟩ = some (.int .i64 Bx.nx) ∧ w'.cell? ⟨w7.heap.size, 2, none⟩ = some (.int .i64 Bx.wa) ∧ w'.cell? ⟨w7.heap.size, 3, none⟩ = some (.slice Bx.ca Bx.C.length Bx.cc) ∧ w'.cell? ⟨w7.heap.size, 4, none⟩ = some (.slice Bx.ha Bx.Hs.length Bx.hc) ∧ w'.cell? ⟨w7.heap.size, 5, none⟩ = some (.slice Bx.ra Bx.R.length Bx.rc) ∧ w'.cell? ⟨w.heap.size, 0, none⟩ = some (.int .i64 tk) ∧ w'.cell? ⟨w.heap.size, 1, none⟩ = some (.int .i64 nx) ∧ w'.cell? ⟨w.heap.size, 2, none⟩ = some (.int .i64 wa) ∧ w'.cell? ⟨w.heap.size, 3, none⟩ = some (.slice ca C.length cc) ∧ w'.cell? ⟨w.heap.size, 4, none⟩ = some (.slice ha Hs.length hc) ∧ w'.cell? ⟨w.heap.size, 5, none⟩ = some (.slice ra R.length rc)) (go_keep)
    (first
       | (go_at_call 14
          refine (unhide HTo _ (HK.out.trans ((Keeps.refl w11).drew)) HL.out).mono ?_
          rintro x w12 ⟨By, rfl, hd, hb, hk⟩
          have HDy := hide hd
          clear hd
          replace hb := hb.old ((Keeps.refl w11).drew)
          replace hk := ((Keeps.refl w11).drew).trans hk
          clear cA0 cA1 cA2 cA3 cA4 cA5 lA cR0 cR1 cR2 cR3 cR4 lR cX0 cX1 cX2 cX3 cX4 cX5 lX
          have HDA_y := hide (hb.apart HOA.out.mem)
          have HDy_A := hide (hb.apart' HOA.out.mem)
          have HDR_y := hide (hb.apart HOR.out.mem)
          have HDy_R := hide (hb.apart' HOR.out.mem)
          have HDm_y := hide (hb.apart HOm.out.mem)
          have HDy_m := hide (hb.apart' HOm.out.mem)
          have HDx_y := hide (hb.apart HOx.out.mem)
          have HDy_x := hide (hb.apart' HOx.out.mem)
          have HDX_y := hide (hb.apart HOX.out.mem)
          have HDy_X := hide (hb.apart' HOX.out.mem)
          have HDg_y := hide (hb.apart HOg.out.mem)
          have HDy_g := hide (hb.apart' HOg.out.mem)
          have HNy := hide ((hb.old HK.out).new)
          replace HK := hide (HK.out.trans hk)
          replace HOA := hide (HOA.out.kept hk)
          replace HOR := hide (HOR.out.kept hk)
          replace HOm := hide (HOm.out.kept hk)
          replace HOx := hide (HOx.out.kept hk)
          replace HOX := hide (HOX.out.kept hk)
          replace HOg := hide (HOg.out.kept hk)
          have HOy := hide hb.toOwn
          clear hb hk
          have cA0 := cell_at HOA.out.mem 0 (by simp)
          have cA1 := cell_at HOA.out.mem 1 (by simp)
          have cA2 := cell_at HOA.out.mem 2 (by simp)
          have cA3 := cell_at HOA.out.mem 3 (by simp)
          have cA4 := cell_at HOA.out.mem 4 (by simp)
          have cA5 := cell_at HOA.out.mem 5 (by simp)
          simp only [Nat.zero_add, List.getElem_cons_zero, List.getElem_cons_succ] at cA0 cA1 cA2 cA3 cA4 cA5
          have lA := lt_of_cell cA0
          have cR0 := cell_at HOR.out.mem 0 (by simp)
          have cR1 := cell_at HOR.out.mem 1 (by simp)
          have cR2 := cell_at HOR.out.mem 2 (by simp)
          have cR3 := cell_at HOR.out.mem 3 (by simp)
          have cR4 := cell_at HOR.out.mem 4 (by simp)
          simp only [Nat.zero_add, List.getElem_cons_zero, List.getElem_cons_succ] at cR0 cR1 cR2 cR3 cR4
          have lR := lt_of_cell cR0
          have cX0 := cell_at HOX.out.mem 0 (by simp)
          have cX1 := cell_at HOX.out.mem 1 (by simp)
          have cX2 := cell_at HOX.out.mem 2 (by simp)
          have cX3 := cell_at HOX.out.mem 3 (by simp)
          have cX4 := cell_at HOX.out.mem 4 (by simp)
          have cX5 := cell_at HOX.out.mem 5 (by simp)
          simp only [Nat.zero_add, List.getElem_cons_zero, List.getElem_cons_succ] at cX0 cX1 cX2 cX3 cX4 cX5
          have lX := lt_of_cell cX0)
       | (go_at_call 17
          refine (eqBook_k Bx By w12 (HDx.out.trans HDy.out.symm) HOx.out.mem HOy.out.mem (unhide HLB _ HDx.out)).mono ?_
          rintro x w13 ⟨rfl, hk⟩
          clear cA0 cA1 cA2 cA3 cA4 cA5 lA cR0 cR1 cR2 cR3 cR4 lR cX0 cX1 cX2 cX3 cX4 cX5 lX
          replace HK := hide (HK.out.trans hk)
          replace HOA := hide (HOA.out.kept hk)
          replace HOR := hide (HOR.out.kept hk)
          replace HOm := hide (HOm.out.kept hk)
          replace HOx := hide (HOx.out.kept hk)
          replace HOX := hide (HOX.out.kept hk)
          replace HOg := hide (HOg.out.kept hk)
          replace HOy := hide (HOy.out.kept hk)
          clear hk
          have cA0 := cell_at HOA.out.mem 0 (by simp)
          have cA1 := cell_at HOA.out.mem 1 (by simp)
          have cA2 := cell_at HOA.out.mem 2 (by simp)
          have cA3 := cell_at HOA.out.mem 3 (by simp)
          have cA4 := cell_at HOA.out.mem 4 (by simp)
          have cA5 := cell_at HOA.out.mem 5 (by simp)
          simp only [Nat.zero_add, List.getElem_cons_zero, List.getElem_cons_succ] at cA0 cA1 cA2 cA3 cA4 cA5
          have lA := lt_of_cell cA0
          have cR0 := cell_at HOR.out.mem 0 (by simp)
          have cR1 := cell_at HOR.out.mem 1 (by simp)
          have cR2 := cell_at HOR.out.mem 2 (by simp)
          have cR3 := cell_at HOR.out.mem 3 (by simp)
          have cR4 := cell_at HOR.out.mem 4 (by simp)
          simp only [Nat.zero_add, List.getElem_cons_zero, List.getElem_cons_succ] at cR0 cR1 cR2 cR3 cR4
          have lR := lt_of_cell cR0
          have cX0 := cell_at HOX.out.mem 0 (by simp)
          have cX1 := cell_at HOX.out.mem 1 (by simp)
          have cX2 := cell_at HOX.out.mem 2 (by simp)
          have cX3 := cell_at HOX.out.mem 3 (by simp)
          have cX4 := cell_at HOX.out.mem 4 (by simp)
          have cX5 := cell_at HOX.out.mem 5 (by simp)
          simp only [Nat.zero_add, List.getElem_cons_zero, List.getElem_cons_succ] at cX0 cX1 cX2 cX3 cX4 cX5
          have lX := lt_of_cell cX0))
  clear HOy HNy HDA_y HDy_A HDR_y HDy_R HDm_y HDy_m HDx_y HDy_x HDX_y HDy_X HDg_y HDy_g
  clear HDy
  go_wp2_with fail
  clear cA0 cA1 cA2 cA3 cA4 cA5 lA cR0 cR1 cR2 cR3 cR4 lR cX0 cX1 cX2 cX3 cX4 cX5 lX
  have HLX := hide (unhide HLB Bx HDx.out)
  refine (markBook_k Bx 1 w13 HOx.out HLX.out (by decide)).mono ?_
  rintro x w14 ⟨rfl, ho, ht⟩
  replace HK := hide (ht.keeps HK.out HNx.out)
  replace HOA := hide (HOA.out.turn ht HDA_x.out)
  replace HOR := hide (HOR.out.turn ht HDR_x.out)
  replace HOm := hide (HOm.out.turn ht HDm_x.out)
  replace HOX := hide (HOX.out.turn ht HDX_x.out)
  replace HOg := hide (HOg.out.turn ht HDg_x.out)
  clear ht
  clear ho
  have hp0 : ¬ ((markN 1 Bx : Nat) : Int) < 0 := by omega
  generalize ((markN 1 Bx : Nat) : Int) = kk at *
  clear HOx HNx HDA_x HDx_A HDR_x HDx_R HDm_x HDx_m HDX_x HDx_X HDg_x HDx_g
  clear HDx
  have cA0 := cell_at HOA.out.mem 0 (by simp)
  have cA1 := cell_at HOA.out.mem 1 (by simp)
  have cA2 := cell_at HOA.out.mem 2 (by simp)
  have cA3 := cell_at HOA.out.mem 3 (by simp)
  have cA4 := cell_at HOA.out.mem 4 (by simp)
  have cA5 := cell_at HOA.out.mem 5 (by simp)
  simp only [Nat.zero_add, List.getElem_cons_zero, List.getElem_cons_succ] at cA0 cA1 cA2 cA3 cA4 cA5
  have lA := lt_of_cell cA0
  have cR0 := cell_at HOR.out.mem 0 (by simp)
  have cR1 := cell_at HOR.out.mem 1 (by simp)
  have cR2 := cell_at HOR.out.mem 2 (by simp)
  have cR3 := cell_at HOR.out.mem 3 (by simp)
  have cR4 := cell_at HOR.out.mem 4 (by simp)
  simp only [Nat.zero_add, List.getElem_cons_zero, List.getElem_cons_succ] at cR0 cR1 cR2 cR3 cR4
  have lR := lt_of_cell cR0
  have cX0 := cell_at HOX.out.mem 0 (by simp)
  have cX1 := cell_at HOX.out.mem 1 (by simp)
  have cX2 := cell_at HOX.out.mem 2 (by simp)
  have cX3 := cell_at HOX.out.mem 3 (by simp)
  have cX4 := cell_at HOX.out.mem 4 (by simp)
  have cX5 := cell_at HOX.out.mem 5 (by simp)
  simp only [Nat.zero_add, List.getElem_cons_zero, List.getElem_cons_succ] at cX0 cX1 cX2 cX3 cX4 cX5
  have lX := lt_of_cell cX0
  go_wp2_with fail
  clear cA0 cA1 cA2 cA3 cA4 cA5 lA cR0 cR1 cR2 cR3 cR4 lR cX0 cX1 cX2 cX3 cX4 cX5 lX
  refine (eqEventS_k ga ma gc mc E w14 (HOg.out.mem (ga, ecells E) (by simp)) (HOm.out.mem (ma, ecells E) (by simp)) HLE.out).mono ?_
  rintro x w15 ⟨rfl, hk⟩
  replace HK := hide (HK.out.trans hk)
  replace HOA := hide (HOA.out.kept hk)
  replace HOR := hide (HOR.out.kept hk)
  replace HOm := hide (HOm.out.kept hk)
  replace HOX := hide (HOX.out.kept hk)
  replace HOg := hide (HOg.out.kept hk)
  clear hk
  have cA0 := cell_at HOA.out.mem 0 (by simp)
  have cA1 := cell_at HOA.out.mem 1 (by simp)
  have cA2 := cell_at HOA.out.mem 2 (by simp)
  have cA3 := cell_at HOA.out.mem 3 (by simp)
  have cA4 := cell_at HOA.out.mem 4 (by simp)
  have cA5 := cell_at HOA.out.mem 5 (by simp)
  simp only [Nat.zero_add, List.getElem_cons_zero, List.getElem_cons_succ] at cA0 cA1 cA2 cA3 cA4 cA5
  have lA := lt_of_cell cA0
  have cR0 := cell_at HOR.out.mem 0 (by simp)
  have cR1 := cell_at HOR.out.mem 1 (by simp)
  have cR2 := cell_at HOR.out.mem 2 (by simp)
  have cR3 := cell_at HOR.out.mem 3 (by simp)
  have cR4 := cell_at HOR.out.mem 4 (by simp)
  simp only [Nat.zero_add, List.getElem_cons_zero, List.getElem_cons_succ] at cR0 cR1 cR2 cR3 cR4
  have lR := lt_of_cell cR0
  have cX0 := cell_at HOX.out.mem 0 (by simp)
  have cX1 := cell_at HOX.out.mem 1 (by simp)
  have cX2 := cell_at HOX.out.mem 2 (by simp)
  have cX3 := cell_at HOX.out.mem 3 (by simp)
  have cX4 := cell_at HOX.out.mem 4 (by simp)
  have cX5 := cell_at HOX.out.mem 5 (by simp)
  simp only [Nat.zero_add, List.getElem_cons_zero, List.getElem_cons_succ] at cX0 cX1 cX2 cX3 cX4 cX5
  have lX := lt_of_cell cX0
  go_wp2_with fail
  clear cA0 cA1 cA2 cA3 cA4 cA5 lA cR0 cR1 cR2 cR3 cR4 lR cX0 cX1 cX2 cX3 cX4 cX5 lX
  refine (markEventS_k ga gc E 1 w15 HOg.out HLE.out (by decide)).mono ?_
  rintro x w16 ⟨rfl, ho, ht⟩
  replace HK := hide (ht.keeps HK.out HNg.out)
  replace HOA := hide (HOA.out.turn ht HDA_g.out)
  replace HOR := hide (HOR.out.turn ht HDR_g.out)
  replace HOm := hide (HOm.out.turn ht HDm_g.out)
  replace HOX := hide (HOX.out.turn ht HDX_g.out)
  clear ht
  replace HOg := hide ho
  clear ho
  have hp1 : ¬ ((1 + 7 * E.length : Nat) : Int) < 0 := by omega
  have hq1 : (((1 + 7 * E.length : Nat) : Int) != ((1 + 7 * E.length : Nat) : Int)) = false := by simp
  have cA0 := cell_at HOA.out.mem 0 (by simp)
  have cA1 := cell_at HOA.out.mem 1 (by simp)
  have cA2 := cell_at HOA.out.mem 2 (by simp)
  have cA3 := cell_at HOA.out.mem 3 (by simp)
  have cA4 := cell_at HOA.out.mem 4 (by simp)
  have cA5 := cell_at HOA.out.mem 5 (by simp)
  simp only [Nat.zero_add, List.getElem_cons_zero, List.getElem_cons_succ] at cA0 cA1 cA2 cA3 cA4 cA5
  have lA := lt_of_cell cA0
  have cR0 := cell_at HOR.out.mem 0 (by simp)
  have cR1 := cell_at HOR.out.mem 1 (by simp)
  have cR2 := cell_at HOR.out.mem 2 (by simp)
  have cR3 := cell_at HOR.out.mem 3 (by simp)
  have cR4 := cell_at HOR.out.mem 4 (by simp)
  simp only [Nat.zero_add, List.getElem_cons_zero, List.getElem_cons_succ] at cR0 cR1 cR2 cR3 cR4
  have lR := lt_of_cell cR0
  have cX0 := cell_at HOX.out.mem 0 (by simp)
  have cX1 := cell_at HOX.out.mem 1 (by simp)
  have cX2 := cell_at HOX.out.mem 2 (by simp)
  have cX3 := cell_at HOX.out.mem 3 (by simp)
  have cX4 := cell_at HOX.out.mem 4 (by simp)
  have cX5 := cell_at HOX.out.mem 5 (by simp)
  simp only [Nat.zero_add, List.getElem_cons_zero, List.getElem_cons_succ] at cX0 cX1 cX2 cX3 cX4 cX5
  have lX := lt_of_cell cX0
  go_wp2_with fail
  clear cA0 cA1 cA2 cA3 cA4 cA5 lA cR0 cR1 cR2 cR3 cR4 lR cX0 cX1 cX2 cX3 cX4 cX5 lX
  refine (heldEventS_k ga gc E.length 1 w16 (HOg.out.mem (ga, ecells (marksEv 1 E.length)) (by simp)) HLE.out (by decide)).mono ?_
  rintro x w17 ⟨rfl, hw⟩
  have hk : Keeps w16 w17 := by rw [hw]; exact Keeps.refl _
  clear hw
  replace HK := hide (HK.out.trans hk)
  replace HOA := hide (HOA.out.kept hk)
  replace HOR := hide (HOR.out.kept hk)
  replace HOm := hide (HOm.out.kept hk)
  replace HOX := hide (HOX.out.kept hk)
  replace HOg := hide (HOg.out.kept hk)
  clear hk
  have cA0 := cell_at HOA.out.mem 0 (by simp)
  have cA1 := cell_at HOA.out.mem 1 (by simp)
  have cA2 := cell_at HOA.out.mem 2 (by simp)
  have cA3 := cell_at HOA.out.mem 3 (by simp)
  have cA4 := cell_at HOA.out.mem 4 (by simp)
  have cA5 := cell_at HOA.out.mem 5 (by simp)
  simp only [Nat.zero_add, List.getElem_cons_zero, List.getElem_cons_succ] at cA0 cA1 cA2 cA3 cA4 cA5
  have lA := lt_of_cell cA0
  have cR0 := cell_at HOR.out.mem 0 (by simp)
  have cR1 := cell_at HOR.out.mem 1 (by simp)
  have cR2 := cell_at HOR.out.mem 2 (by simp)
  have cR3 := cell_at HOR.out.mem 3 (by simp)
  have cR4 := cell_at HOR.out.mem 4 (by simp)
  simp only [Nat.zero_add, List.getElem_cons_zero, List.getElem_cons_succ] at cR0 cR1 cR2 cR3 cR4
  have lR := lt_of_cell cR0
  have cX0 := cell_at HOX.out.mem 0 (by simp)
  have cX1 := cell_at HOX.out.mem 1 (by simp)
  have cX2 := cell_at HOX.out.mem 2 (by simp)
  have cX3 := cell_at HOX.out.mem 3 (by simp)
  have cX4 := cell_at HOX.out.mem 4 (by simp)
  have cX5 := cell_at HOX.out.mem 5 (by simp)
  simp only [Nat.zero_add, List.getElem_cons_zero, List.getElem_cons_succ] at cX0 cX1 cX2 cX3 cX4 cX5
  have lX := lt_of_cell cX0
  go_wp2_with fail
  clear cA0 cA1 cA2 cA3 cA4 cA5 lA cR0 cR1 cR2 cR3 cR4 lR cX0 cX1 cX2 cX3 cX4 cX5 lX
  have cA0 := cell_at HOA.out.mem 0 (by simp)
  have cA1 := cell_at HOA.out.mem 1 (by simp)
  have cA2 := cell_at HOA.out.mem 2 (by simp)
  have cA3 := cell_at HOA.out.mem 3 (by simp)
  have cA4 := cell_at HOA.out.mem 4 (by simp)
  have cA5 := cell_at HOA.out.mem 5 (by simp)
  simp only [Nat.zero_add, List.getElem_cons_zero, List.getElem_cons_succ] at cA0 cA1 cA2 cA3 cA4 cA5
  have lA := lt_of_cell cA0
  have cR0 := cell_at HOR.out.mem 0 (by simp)
  have cR1 := cell_at HOR.out.mem 1 (by simp)
  have cR2 := cell_at HOR.out.mem 2 (by simp)
  have cR3 := cell_at HOR.out.mem 3 (by simp)
  have cR4 := cell_at HOR.out.mem 4 (by simp)
  simp only [Nat.zero_add, List.getElem_cons_zero, List.getElem_cons_succ] at cR0 cR1 cR2 cR3 cR4
  have lR := lt_of_cell cR0
  have cX0 := cell_at HOX.out.mem 0 (by simp)
  have cX1 := cell_at HOX.out.mem 1 (by simp)
  have cX2 := cell_at HOX.out.mem 2 (by simp)
  have cX3 := cell_at HOX.out.mem 3 (by simp)
  have cX4 := cell_at HOX.out.mem 4 (by simp)
  have cX5 := cell_at HOX.out.mem 5 (by simp)
  simp only [Nat.zero_add, List.getElem_cons_zero, List.getElem_cons_succ] at cX0 cX1 cX2 cX3 cX4 cX5
  have lX := lt_of_cell cX0
  go_region_held3 (fun w' => w'.cell? ⟨w.heap.size, 0, none⟩ = some (.int .i64 tk) ∧ w'.cell? ⟨w.heap.size, 1, none⟩ = some (.int .i64 nx) ∧ w'.cell? ⟨w.heap.size, 2, none⟩ = some (.int .i64 wa) ∧ w'.cell? ⟨w.heap.size, 3, none⟩ = some (.slice ca C.length cc) ∧ w'.cell? ⟨w.heap.size, 4, none⟩ = some (.slice ha Hs.length hc) ∧ w'.cell? ⟨w.heap.size, 5, none⟩ = some (.slice ra R.length rc) ∧ w'.cell? ⟨(w.heap.size + 1), 0, none⟩ = some (.int .i64 xlo) ∧ w'.cell? ⟨(w.heap.size + 1), 1, none⟩ = some (.int .i64 xhi) ∧ w'.cell? ⟨(w.heap.size + 1), 2, none⟩ = some (.int .i64 xst) ∧ w'.cell? ⟨(w.heap.size + 1), 3, none⟩ = some (.int .i64 xmi) ∧ w'.cell? ⟨(w.heap.size + 1), 4, none⟩ = some (.int .i64 xma)) (go_keep)
    (first
       | (go_at_call 14
          refine (unhide HTo _ (HK.out.trans ((Keeps.refl w17).drew)) HL.out).mono ?_
          rintro x w18 ⟨Bs, rfl, hd, hb, hk⟩
          have HDs := hide hd
          clear hd
          replace hb := hb.old ((Keeps.refl w17).drew)
          replace hk := ((Keeps.refl w17).drew).trans hk
          clear cA0 cA1 cA2 cA3 cA4 cA5 lA cR0 cR1 cR2 cR3 cR4 lR cX0 cX1 cX2 cX3 cX4 cX5 lX
          have HDA_s := hide (hb.apart HOA.out.mem)
          have HDs_A := hide (hb.apart' HOA.out.mem)
          have HDR_s := hide (hb.apart HOR.out.mem)
          have HDs_R := hide (hb.apart' HOR.out.mem)
          have HDm_s := hide (hb.apart HOm.out.mem)
          have HDs_m := hide (hb.apart' HOm.out.mem)
          have HDX_s := hide (hb.apart HOX.out.mem)
          have HDs_X := hide (hb.apart' HOX.out.mem)
          have HDg_s := hide (hb.apart HOg.out.mem)
          have HDs_g := hide (hb.apart' HOg.out.mem)
          have HNs := hide ((hb.old HK.out).new)
          replace HK := hide (HK.out.trans hk)
          replace HOA := hide (HOA.out.kept hk)
          replace HOR := hide (HOR.out.kept hk)
          replace HOm := hide (HOm.out.kept hk)
          replace HOX := hide (HOX.out.kept hk)
          replace HOg := hide (HOg.out.kept hk)
          have HOs := hide hb.toOwn
          clear hb hk
          have cA0 := cell_at HOA.out.mem 0 (by simp)
          have cA1 := cell_at HOA.out.mem 1 (by simp)
          have cA2 := cell_at HOA.out.mem 2 (by simp)
          have cA3 := cell_at HOA.out.mem 3 (by simp)
          have cA4 := cell_at HOA.out.mem 4 (by simp)
          have cA5 := cell_at HOA.out.mem 5 (by simp)
          simp only [Nat.zero_add, List.getElem_cons_zero, List.getElem_cons_succ] at cA0 cA1 cA2 cA3 cA4 cA5
          have lA := lt_of_cell cA0
          have cR0 := cell_at HOR.out.mem 0 (by simp)
          have cR1 := cell_at HOR.out.mem 1 (by simp)
          have cR2 := cell_at HOR.out.mem 2 (by simp)
          have cR3 := cell_at HOR.out.mem 3 (by simp)
          have cR4 := cell_at HOR.out.mem 4 (by simp)
          simp only [Nat.zero_add, List.getElem_cons_zero, List.getElem_cons_succ] at cR0 cR1 cR2 cR3 cR4
          have lR := lt_of_cell cR0
          have cX0 := cell_at HOX.out.mem 0 (by simp)
          have cX1 := cell_at HOX.out.mem 1 (by simp)
          have cX2 := cell_at HOX.out.mem 2 (by simp)
          have cX3 := cell_at HOX.out.mem 3 (by simp)
          have cX4 := cell_at HOX.out.mem 4 (by simp)
          have cX5 := cell_at HOX.out.mem 5 (by simp)
          simp only [Nat.zero_add, List.getElem_cons_zero, List.getElem_cons_succ] at cX0 cX1 cX2 cX3 cX4 cX5
          have lX := lt_of_cell cX0)
       | (go_at_call 15
          refine (unhide HTR _).mono ?_
          rintro x w19 ⟨rfl, hk⟩
          clear cA0 cA1 cA2 cA3 cA4 cA5 lA cR0 cR1 cR2 cR3 cR4 lR cX0 cX1 cX2 cX3 cX4 cX5 lX
          replace HK := hide (HK.out.trans hk)
          replace HOA := hide (HOA.out.kept hk)
          replace HOR := hide (HOR.out.kept hk)
          replace HOm := hide (HOm.out.kept hk)
          replace HOX := hide (HOX.out.kept hk)
          replace HOg := hide (HOg.out.kept hk)
          replace HOs := hide (HOs.out.kept hk)
          clear hk
          have cA0 := cell_at HOA.out.mem 0 (by simp)
          have cA1 := cell_at HOA.out.mem 1 (by simp)
          have cA2 := cell_at HOA.out.mem 2 (by simp)
          have cA3 := cell_at HOA.out.mem 3 (by simp)
          have cA4 := cell_at HOA.out.mem 4 (by simp)
          have cA5 := cell_at HOA.out.mem 5 (by simp)
          simp only [Nat.zero_add, List.getElem_cons_zero, List.getElem_cons_succ] at cA0 cA1 cA2 cA3 cA4 cA5
          have lA := lt_of_cell cA0
          have cR0 := cell_at HOR.out.mem 0 (by simp)
          have cR1 := cell_at HOR.out.mem 1 (by simp)
          have cR2 := cell_at HOR.out.mem 2 (by simp)
          have cR3 := cell_at HOR.out.mem 3 (by simp)
          have cR4 := cell_at HOR.out.mem 4 (by simp)
          simp only [Nat.zero_add, List.getElem_cons_zero, List.getElem_cons_succ] at cR0 cR1 cR2 cR3 cR4
          have lR := lt_of_cell cR0
          have cX0 := cell_at HOX.out.mem 0 (by simp)
          have cX1 := cell_at HOX.out.mem 1 (by simp)
          have cX2 := cell_at HOX.out.mem 2 (by simp)
          have cX3 := cell_at HOX.out.mem 3 (by simp)
          have cX4 := cell_at HOX.out.mem 4 (by simp)
          have cX5 := cell_at HOX.out.mem 5 (by simp)
          simp only [Nat.zero_add, List.getElem_cons_zero, List.getElem_cons_succ] at cX0 cX1 cX2 cX3 cX4 cX5
          have lX := lt_of_cell cX0)
       | (go_at_call 8
          refine (unhide HCI Bs HDs.out w19 HOs.out.mem).mono ?_
          rintro x w20 ⟨ha, hc, rfl, hnn, hb, hk⟩
          clear hnn
          clear cA0 cA1 cA2 cA3 cA4 cA5 lA cR0 cR1 cR2 cR3 cR4 lR cX0 cX1 cX2 cX3 cX4 cX5 lX
          have HDA_h := hide (hb.apart HOA.out.mem)
          have HDh_A := hide (hb.apart' HOA.out.mem)
          have HDR_h := hide (hb.apart HOR.out.mem)
          have HDh_R := hide (hb.apart' HOR.out.mem)
          have HDm_h := hide (hb.apart HOm.out.mem)
          have HDh_m := hide (hb.apart' HOm.out.mem)
          have HDX_h := hide (hb.apart HOX.out.mem)
          have HDh_X := hide (hb.apart' HOX.out.mem)
          have HDg_h := hide (hb.apart HOg.out.mem)
          have HDh_g := hide (hb.apart' HOg.out.mem)
          have HDs_h := hide (hb.apart HOs.out.mem)
          have HDh_s := hide (hb.apart' HOs.out.mem)
          have HNh := hide ((hb.old HK.out).new)
          replace HK := hide (HK.out.trans hk)
          replace HOA := hide (HOA.out.kept hk)
          replace HOR := hide (HOR.out.kept hk)
          replace HOm := hide (HOm.out.kept hk)
          replace HOX := hide (HOX.out.kept hk)
          replace HOg := hide (HOg.out.kept hk)
          replace HOs := hide (HOs.out.kept hk)
          have HOh := hide hb.toOwn
          clear hb hk
          have cA0 := cell_at HOA.out.mem 0 (by simp)
          have cA1 := cell_at HOA.out.mem 1 (by simp)
          have cA2 := cell_at HOA.out.mem 2 (by simp)
          have cA3 := cell_at HOA.out.mem 3 (by simp)
          have cA4 := cell_at HOA.out.mem 4 (by simp)
          have cA5 := cell_at HOA.out.mem 5 (by simp)
          simp only [Nat.zero_add, List.getElem_cons_zero, List.getElem_cons_succ] at cA0 cA1 cA2 cA3 cA4 cA5
          have lA := lt_of_cell cA0
          have cR0 := cell_at HOR.out.mem 0 (by simp)
          have cR1 := cell_at HOR.out.mem 1 (by simp)
          have cR2 := cell_at HOR.out.mem 2 (by simp)
          have cR3 := cell_at HOR.out.mem 3 (by simp)
          have cR4 := cell_at HOR.out.mem 4 (by simp)
          simp only [Nat.zero_add, List.getElem_cons_zero, List.getElem_cons_succ] at cR0 cR1 cR2 cR3 cR4
          have lR := lt_of_cell cR0
          have cX0 := cell_at HOX.out.mem 0 (by simp)
          have cX1 := cell_at HOX.out.mem 1 (by simp)
          have cX2 := cell_at HOX.out.mem 2 (by simp)
          have cX3 := cell_at HOX.out.mem 3 (by simp)
          have cX4 := cell_at HOX.out.mem 4 (by simp)
          have cX5 := cell_at HOX.out.mem 5 (by simp)
          simp only [Nat.zero_add, List.getElem_cons_zero, List.getElem_cons_succ] at cX0 cX1 cX2 cX3 cX4 cX5
          have lX := lt_of_cell cX0))
  clear HOs HNs HDA_s HDs_A HDR_s HDs_R HDm_s HDs_m HDX_s HDs_X HDg_s HDs_g HDh_s HDs_h
  clear HDs
  go_wp2_with fail
  clear cA0 cA1 cA2 cA3 cA4 cA5 lA cR0 cR1 cR2 cR3 cR4 lR cX0 cX1 cX2 cX3 cX4 cX5 lX
  refine (eqEventS_k ha ma hc mc E w20 (HOh.out.mem (ha, ecells E) (by simp)) (HOm.out.mem (ma, ecells E) (by simp)) HLE.out).mono ?_
  rintro x w21 ⟨rfl, hk⟩
  replace HK := hide (HK.out.trans hk)
  replace HOA := hide (HOA.out.kept hk)
  replace HOR := hide (HOR.out.kept hk)
  replace HOm := hide (HOm.out.kept hk)
  replace HOX := hide (HOX.out.kept hk)
  replace HOg := hide (HOg.out.kept hk)
  replace HOh := hide (HOh.out.kept hk)
  clear hk
  have cA0 := cell_at HOA.out.mem 0 (by simp)
  have cA1 := cell_at HOA.out.mem 1 (by simp)
  have cA2 := cell_at HOA.out.mem 2 (by simp)
  have cA3 := cell_at HOA.out.mem 3 (by simp)
  have cA4 := cell_at HOA.out.mem 4 (by simp)
  have cA5 := cell_at HOA.out.mem 5 (by simp)
  simp only [Nat.zero_add, List.getElem_cons_zero, List.getElem_cons_succ] at cA0 cA1 cA2 cA3 cA4 cA5
  have lA := lt_of_cell cA0
  have cR0 := cell_at HOR.out.mem 0 (by simp)
  have cR1 := cell_at HOR.out.mem 1 (by simp)
  have cR2 := cell_at HOR.out.mem 2 (by simp)
  have cR3 := cell_at HOR.out.mem 3 (by simp)
  have cR4 := cell_at HOR.out.mem 4 (by simp)
  simp only [Nat.zero_add, List.getElem_cons_zero, List.getElem_cons_succ] at cR0 cR1 cR2 cR3 cR4
  have lR := lt_of_cell cR0
  have cX0 := cell_at HOX.out.mem 0 (by simp)
  have cX1 := cell_at HOX.out.mem 1 (by simp)
  have cX2 := cell_at HOX.out.mem 2 (by simp)
  have cX3 := cell_at HOX.out.mem 3 (by simp)
  have cX4 := cell_at HOX.out.mem 4 (by simp)
  have cX5 := cell_at HOX.out.mem 5 (by simp)
  simp only [Nat.zero_add, List.getElem_cons_zero, List.getElem_cons_succ] at cX0 cX1 cX2 cX3 cX4 cX5
  have lX := lt_of_cell cX0
  go_wp2_with fail
  clear cA0 cA1 cA2 cA3 cA4 cA5 lA cR0 cR1 cR2 cR3 cR4 lR cX0 cX1 cX2 cX3 cX4 cX5 lX
  refine (heldEventS_k ga gc E.length 1 w21 (HOg.out.mem (ga, ecells (marksEv 1 E.length)) (by simp)) HLE.out (by decide)).mono ?_
  rintro x w22 ⟨rfl, hw⟩
  have hk : Keeps w21 w22 := by rw [hw]; exact Keeps.refl _
  clear hw
  replace HK := hide (HK.out.trans hk)
  replace HOA := hide (HOA.out.kept hk)
  replace HOR := hide (HOR.out.kept hk)
  replace HOm := hide (HOm.out.kept hk)
  replace HOX := hide (HOX.out.kept hk)
  replace HOg := hide (HOg.out.kept hk)
  replace HOh := hide (HOh.out.kept hk)
  clear hk
  have cA0 := cell_at HOA.out.mem 0 (by simp)
  have cA1 := cell_at HOA.out.mem 1 (by simp)
  have cA2 := cell_at HOA.out.mem 2 (by simp)
  have cA3 := cell_at HOA.out.mem 3 (by simp)
  have cA4 := cell_at HOA.out.mem 4 (by simp)
  have cA5 := cell_at HOA.out.mem 5 (by simp)
  simp only [Nat.zero_add, List.getElem_cons_zero, List.getElem_cons_succ] at cA0 cA1 cA2 cA3 cA4 cA5
  have lA := lt_of_cell cA0
  have cR0 := cell_at HOR.out.mem 0 (by simp)
  have cR1 := cell_at HOR.out.mem 1 (by simp)
  have cR2 := cell_at HOR.out.mem 2 (by simp)
  have cR3 := cell_at HOR.out.mem 3 (by simp)
  have cR4 := cell_at HOR.out.mem 4 (by simp)
  simp only [Nat.zero_add, List.getElem_cons_zero, List.getElem_cons_succ] at cR0 cR1 cR2 cR3 cR4
  have lR := lt_of_cell cR0
  have cX0 := cell_at HOX.out.mem 0 (by simp)
  have cX1 := cell_at HOX.out.mem 1 (by simp)
  have cX2 := cell_at HOX.out.mem 2 (by simp)
  have cX3 := cell_at HOX.out.mem 3 (by simp)
  have cX4 := cell_at HOX.out.mem 4 (by simp)
  have cX5 := cell_at HOX.out.mem 5 (by simp)
  simp only [Nat.zero_add, List.getElem_cons_zero, List.getElem_cons_succ] at cX0 cX1 cX2 cX3 cX4 cX5
  have lX := lt_of_cell cX0
  go_wp2_with fail
  go_ret
  exact ⟨rfl, HK.out⟩

set_option maxRecDepth 100000 in
theorem lifted (os : Os) (started : os.Started) (H : Type) (enc : TypeId × Value → H) :
    ReturnsInHanded {} Tryz.checked os 4 .any (fun w args => (Rows.fnExactTurnsSpec.pre enc Tryz.prog Tryz.f4 [] false w args ∧ laidMetH Tryz.prog Rows.fnExactTurnsRow.laid w) ∧ sizedMet enc Tryz.prog Tryz.f4 (OpenSpec.ofChange Rows.fnExactTurnsSpec) false w args)
      (Rows.fnExactTurnsSpec.post enc Tryz.prog Tryz.f4 false true false false) := by
  refine returnsInHanded_of_change_and (C := Tryz.checked) (X := fun w _ => laidMetH Tryz.prog Rows.fnExactTurnsRow.laid w) (fun _ _ _ hh h => h.of_heap hh) own started (by kernel_rfl) Tryz.func4
    (ChangeSpec.witness_shaped (enc := enc) (C := Tryz.checked) (os := os) (X := fun w _ => laidMetH Tryz.prog Rows.fnExactTurnsRow.laid w) false (World.doorLaid Tryz.prog 292 os) #[.agg #[.int .i64 0, .int .i64 0, .int .i64 0, .slice none 0 0, .slice none 0 0, .slice none 0 0], .agg #[.int .i64 0, .int .i64 0, .int .i64 0, .int .i64 0, .int .i64 0]] 8 rfl (World.shaped_of_RefB (by kernel_rfl) (by kernel_rfl)) (by kernel_rfl) (by kernel_rfl) (by kernel_rfl) (door_met os _)) ?_
  intro W base args ds gs before hval0 hW _ hsz hL _
  have hval : ∀ (j : Nat) t v, Tryz.f4.params[j]? = some t → args[j]? = some v → Value.okWide Tryz.prog W .any base t v := hval0
  have hW' := hW
  obtain ⟨p, q, hA0, hV0, rfl, hfz, hnd⟩ := hW
  have hA : DataW.TrodAll enc Tryz.prog W 0 (fun _ => true) true Tryz.f4.params.toList args.toList ds p := hA0
  have hV : DataW.TrodVars enc Tryz.prog W (fun _ => true) ["loop.example/g00400/impl.errNoAmount", "loop.example/g00400/impl.errNoDivisor"] gs q := hV0
  rw [Tryz.params4] at hA hval
  obtain ⟨v0, vs0, d0, ds0, p0, q0, hargs, rfl, rfl, h0, r0⟩ := trodAll_cons hA
  obtain ⟨v1, vs1, d1, ds1, p1, q1, rfl, rfl, rfl, h1, r1⟩ := trodAll_cons r0
  obtain ⟨rfl, rfl, rfl⟩ := trodAll_nil r1
  obtain rfl : args = #[v0, v1] := by cases args; simp_all
  have k0 := h0
  have lt0 : ∀ x ∈ p0, x.block < W.heap.size := by obtain ⟨m, hm⟩ := k0; exact DataW.trod_lt m _ _ _ hm
  obtain ⟨B0, rfl, hm0, hf0, hb0⟩ := book_row (hval 0 52 v0 rfl rfl) h0
  have k1 := h1
  have lt1 : ∀ x ∈ p1, x.block < W.heap.size := by obtain ⟨m, hm⟩ := k1; exact DataW.trod_lt m _ _ _ hm
  obtain ⟨r1u, rfl⟩ := rule_row (hval 1 53 v1 rfl rfl) h1
  have hL0 : laidMet Tryz.prog Rows.fnExactTurnsRow.laid W := by rw [← MakeChecks.laidMetH_plain _ _ _ (by kernel_rfl)]; exact hL
  obtain ⟨xAmount, hvAmount⟩ := sent hL0 gAmount tAmount
  obtain ⟨xDivisor, hvDivisor⟩ := sent (laidMet.tail hL0) gDivisor tDivisor
  obtain ⟨rfl, rfl⟩ := hV.unique (vars_read2 enc gAmount tAmount Tryz.underlying225 hvAmount trivial gDivisor tDivisor Tryz.underlying225 hvDivisor trivial _)
  clear hA0 hV0 hval0
  refine (walk B0 r1u W hm0 hf0 hb0 _ _ (cell_of_var gAmount hvAmount) _ _ (cell_of_var gDivisor hvDivisor)).mono fun e W' ⟨he, hb⟩ => ?_
  subst he
  refine ⟨_, rfl, _, _, _, [], (p0 ++ (p1 ++ [])), [.cell 0 0, .cell 1 0], hW', ?_, ?_, ?_, Below.frame hb _, fun h => by cases h⟩
  · exact trodAll_mk1 (shut_bool Tryz.underlying4 _)
  · exact (trodAll_cons_mk (Below.trod laidOut (by kernel_rfl) (of_decide_eq_true (by kernel_rfl)) k0 hb lt0) (trodAll_cons_mk (Below.trod laidOut (by kernel_rfl) (of_decide_eq_true (by kernel_rfl)) k1 hb lt1) trodAll_mk0))
  · exact vars_read2 enc gAmount tAmount Tryz.underlying225 (var_kept hb hvAmount) trivial gDivisor tDivisor Tryz.underlying225 (var_kept hb hvDivisor) trivial _

theorem over : Rows.FnExactTurnsSaid :=
  OpenClaim.holds_of_wide 4 Tryz.f4 rfl rfl rfl rfl rfl rfl rfl ⟨rfl, rfl, rfl, rfl, rfl⟩ rfl rfl rfl rfl rfl (by kernel_rfl) Tryz.func4 (by kernel_rfl)
    (of_decide_eq_true (by kernel_rfl)) (by unfold Func.isWrapper; first | (rw [if_pos (by decide +kernel)]; kernel_rfl) | (rw [if_neg (by decide +kernel)]; exact ⟨rfl, rfl⟩))
    (fun os started H enc _ => lifted os started H enc)
end Go.Proofs.YteoloapjhlpnjaaGreatDoor.fnExactTurns
namespace Go.Proofs.YteoloapjhlpnjaaGreatDoor
theorem fnExactTurns_holds : Rows.FnExactTurnsCardSaid :=
  Claim7.holds_tied_plain_at .later [] Rows.fnExactTurnsCard.laidKinds true Rows.fnExactTurnsCard.stood.harness true
    fnExactTurns.over (fun _ h => by cases h) (by kernel_rfl) (fun _ h => by cases h) fnExactTurns_row_tie rfl ⟨rfl, rfl⟩ (by kernel_rfl) rfl
    (fun f fn hf hfn => by
      obtain rfl : f = 4 := Option.some.inj ((show Tryz.prog.funcNamed Rows.fnExactTurnsRow.func = some 4 by kernel_rfl).symm.trans hf) |>.symm
      obtain rfl : fn = Tryz.f4 := (Option.some.inj (Tryz.func4.symm.trans hfn)).symm
      exact ⟨by kernel_rfl, fun j t ht => by
        rw [Tryz.params4] at ht
        have hm : t ∈ [52, 53] := by simpa using Array.mem_of_getElem? ht
        have hall : ([52, 53].all fun u => !Tryz.prog.wantsStandIn u) = true := by kernel_rfl
        exact (show Tryz.prog.wantsStandIn t = false by simpa using List.all_eq_true.1 hall t hm)⟩)
    (by kernel_rfl)
end Go.Proofs.YteoloapjhlpnjaaGreatDoor
