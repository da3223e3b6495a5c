/- Steady of the program answers as its model at every book and rule, and writes into no argument. -/
import Derived.Test.YteoloapjhlpnjaaDoorTnS
import Derived.Test.YteoloapjhlpnjaaDoorTnG
import Derived.Test.YteoloapjhlpnjaaDoorBgB
import Derived.Test.YteoloapjhlpnjaaDoorBgO
import Derived.Test.YteoloapjhlpnjaaDoorVars
import Derived.Test.YteoloapjhlpnjaaDoorSent
import Derived.Test.YteoloapjhlpnjaaDoorCards
import Derived.Test.YteoloapjhlpnjaaDoorTie
import Derived.WalkKit
import Derived.ProofKit
import Derived.OpenShut
import Derived.ShutString
import Derived.LaidMore
import Derived.Stop.Joined
import Derived.SevenTiedAt
import Derived.ChangeOld
import Derived.Below
namespace Go.Proofs.YteoloapjhlpnjaaDoor.fnExactSteady
open Go.ChangeShapes Go.WideShapes Go.ChangeAt Go.RowKit
open Go.ChangeMaps (open_string shut_string)
set_option linter.unusedVariables false
theorem own : ownKnob Tryd.prog.godebug = none := by kernel_rfl
theorem laidOut : laidOutB Tryd.prog = true := by kernel_rfl
theorem gAmount : Tryd.prog.globalNamed "loop.example/g00400/impl.errNoAmount" = some 0 := by kernel_rfl
theorem tAmount : (Tryd.prog.globals[0]?).map (·.type) = some 107 := by kernel_rfl
theorem gDivisor : Tryd.prog.globalNamed "loop.example/g00400/impl.errNoDivisor" = some 1 := by kernel_rfl
theorem tDivisor : (Tryd.prog.globals[1]?).map (·.type) = some 107 := by kernel_rfl
theorem door_met (os : Os) (args : Array Value) : laidMetH Tryd.prog Rows.fnExactSteadyRow.laid ((World.doorLaid Tryd.prog 124 os).forCall (fun _ _ => 0) ⟨#[], args, []⟩).memory :=
  laidMetH_of_parts3 (fuel := 8) (laidMet_of_run' 8 (by kernel_rfl) (by kernel_rfl)) (by kernel_rfl) (by kernel_rfl)

theorem len_d {B B' : Bo} (h : B'.d = B.d) (hl : B.len) : B'.len := by
  have h1 : B'.C = B.C := congrArg Bk.C h
  have h2 : B'.Hs = B.Hs := congrArg Bk.Hs h
  have h3 : B'.R = B.R := congrArg Bk.R h
  unfold Bo.len; rw [h1, h2, h3]; exact hl
set_option maxRecDepth 100000 in
set_option maxHeartbeats 8000000 in
theorem walk (B : Bo) (r : Rul) (w : World) (hm : Mem w B.segs) (hf : B.fit) (hbig : B.big) (u0 : TypeId) (x0 : Value) (hg0 : w.cell? ⟨0, 0, none⟩ = some (.iface u0 x0)) (u3 : TypeId) (x3 : Value) (hg3 : w.cell? ⟨1, 0, none⟩ = some (.iface u3 x3)) :
    Calls Tryd.prog 4 #[B.v, r.v] w fun e w' => e = .returned (.bool true) ∧ Keeps w w' := by
  have HSz := hide (fun w' => szBook_k B 1048576 w' hbig (by decide) (by decide))
  obtain ⟨bd, hbd⟩ : ∃ bd, bd = B.d := ⟨_, rfl⟩
  have HTo : Hid (∀ w', Keeps w w' → B.len → Calls Tryd.prog 11 #[B.v] w' fun e w'' => ∃ B' : Bo, e = .returned B'.v ∧ B'.d = bd ∧ Born w' w'' B'.segs ∧ Keeps w' w'') := fun w' hk hl => (toBook_k B w' (hm.kept hk) hl).mono fun e w'' ⟨B', h1, h2, _, h3, h4⟩ => ⟨B', h1, h2.trans hbd.symm, h3, h4⟩
  have HTR := hide (fun w' => toRule_k r w')
  have HLB : Hid (B.len → ∀ B' : Bo, B'.d = bd → B'.len) := fun hl B' h => len_d (h.trans hbd) hl
  clear hm hf hbig hg0 hg3 hbd
  obtain ⟨tk, nx, wa, ca, cc, C, ha, hc, Hs, ra, rc, R⟩ := B
  dsimp only [Bo.v] at *
  go_enter Tryd.func4, Tryd.ntmps4
  have HK := hide (Keeps.refl w)
  have HCS := hide (fun (hl0 : Bo.len ⟨tk, nx, wa, ca, cc, C, ha, hc, Hs, ra, rc, R⟩) (B' : Bo) (hd : B'.d = bd) w' (hm : Mem w' B'.segs) => (show _ from by have := steady_spec B' r w' hm (unhide HLB hl0 _ hd); rw [hd] at this; exact this))
  have HCI := hide (fun (hl0 : Bo.len ⟨tk, nx, wa, ca, cc, C, ha, hc, Hs, ra, rc, R⟩) (B' : Bo) (hd : B'.d = bd) w' (hm : Mem w' B'.segs) => (show _ from by have := steady_impl B' r w' hm (unhide HLB hl0 _ hd); rw [hd] at this; exact this))
  generalize steadyB bd r = ok at *
  obtain ⟨xlo, xhi, xst, xmi, xma⟩ := r
  dsimp only [Rul.v] at *
  have hb := born_alloc w #[.int .i64 tk, .int .i64 nx, .int .i64 wa, .slice ca C.length cc, .slice ha Hs.length hc, .slice ra R.length rc] 36
  dsimp only at hb
  have hk := Keeps.alloc (Keeps.refl w) (.cells #[.int .i64 tk, .int .i64 nx, .int .i64 wa, .slice ca C.length cc, .slice ha Hs.length hc, .slice ra R.length rc] 36)
  have hb2 := born_alloc (w.alloc (.cells #[.int .i64 tk, .int .i64 nx, .int .i64 wa, .slice ca C.length cc, .slice ha Hs.length hc, .slice ra R.length rc] 36)) #[.int .i64 xlo, .int .i64 xhi, .int .i64 xst, .int .i64 xmi, .int .i64 xma] 25
  dsimp only at hb2
  rw [size_alloc1] at hb2
  have hk2 := Keeps.alloc (Keeps.refl (w.alloc (.cells #[.int .i64 tk, .int .i64 nx, .int .i64 wa, .slice ca C.length cc, .slice ha Hs.length hc, .slice ra R.length rc] 36))) (.cells #[.int .i64 xlo, .int .i64 xhi, .int .i64 xst, .int .i64 xmi, .int .i64 xma] 25)
  go_wp2_with fail
  generalize w.alloc (.cells #[.int .i64 tk, .int .i64 nx, .int .i64 wa, .slice ca C.length cc, .slice ha Hs.length hc, .slice ra R.length rc] 36) = w1 at *
  have HNA := hide ((hb.old HK.out).new)
  replace HK := hide (HK.out.trans hk)
  have HOA := hide hb.toOwn
  clear hb hk
  generalize w1.alloc (.cells #[.int .i64 xlo, .int .i64 xhi, .int .i64 xst, .int .i64 xmi, .int .i64 xma] 25) = w2 at *
  have HDA_R := hide (hb2.apart HOA.out.mem)
  have HDR_A := hide (hb2.apart' HOA.out.mem)
  have HNR := hide ((hb2.old HK.out).new)
  replace HK := hide (HK.out.trans hk2)
  replace HOA := hide (HOA.out.kept hk2)
  have HOR := hide hb2.toOwn
  clear hb2 hk2
  have cA0 := cell_at HOA.out.mem 0 (by simp)
  have cA1 := cell_at HOA.out.mem 1 (by simp)
  have cA2 := cell_at HOA.out.mem 2 (by simp)
  have cA3 := cell_at HOA.out.mem 3 (by simp)
  have cA4 := cell_at HOA.out.mem 4 (by simp)
  have cA5 := cell_at HOA.out.mem 5 (by simp)
  simp only [Nat.zero_add, List.getElem_cons_zero, List.getElem_cons_succ] at cA0 cA1 cA2 cA3 cA4 cA5
  have lA := lt_of_cell cA0
  have cR0 := cell_at HOR.out.mem 0 (by simp)
  have cR1 := cell_at HOR.out.mem 1 (by simp)
  have cR2 := cell_at HOR.out.mem 2 (by simp)
  have cR3 := cell_at HOR.out.mem 3 (by simp)
  have cR4 := cell_at HOR.out.mem 4 (by simp)
  simp only [Nat.zero_add, List.getElem_cons_zero, List.getElem_cons_succ] at cR0 cR1 cR2 cR3 cR4
  have lR := lt_of_cell cR0
  refine (unhide HSz w2).mono ?_
  rintro x w3 ⟨r, rfl, hr1, hr, hk⟩
  clear cA0 cA1 cA2 cA3 cA4 cA5 lA cR0 cR1 cR2 cR3 cR4 lR
  replace HK := hide (HK.out.trans hk)
  replace HOA := hide (HOA.out.kept hk)
  replace HOR := hide (HOR.out.kept hk)
  clear hk
  have HL := hide hr
  clear hr HSz
  by_cases hr0 : r < 0
  · go_wp2_with fail
    go_ret
    exact ⟨rfl, HK.out⟩
  replace HL := hide (HL.out (by omega))
  replace HLB := hide (HLB.out HL.out)
  replace HCS := hide (HCS.out HL.out)
  replace HCI := hide (HCI.out HL.out)
  have hrr : (ok != ok) = false := by simp
  have cA0 := cell_at HOA.out.mem 0 (by simp)
  have cA1 := cell_at HOA.out.mem 1 (by simp)
  have cA2 := cell_at HOA.out.mem 2 (by simp)
  have cA3 := cell_at HOA.out.mem 3 (by simp)
  have cA4 := cell_at HOA.out.mem 4 (by simp)
  have cA5 := cell_at HOA.out.mem 5 (by simp)
  simp only [Nat.zero_add, List.getElem_cons_zero, List.getElem_cons_succ] at cA0 cA1 cA2 cA3 cA4 cA5
  have lA := lt_of_cell cA0
  have cR0 := cell_at HOR.out.mem 0 (by simp)
  have cR1 := cell_at HOR.out.mem 1 (by simp)
  have cR2 := cell_at HOR.out.mem 2 (by simp)
  have cR3 := cell_at HOR.out.mem 3 (by simp)
  have cR4 := cell_at HOR.out.mem 4 (by simp)
  simp only [Nat.zero_add, List.getElem_cons_zero, List.getElem_cons_succ] at cR0 cR1 cR2 cR3 cR4
  have lR := lt_of_cell cR0
  go_wp2_with fail
  clear cA0 cA1 cA2 cA3 cA4 cA5 lA cR0 cR1 cR2 cR3 cR4 lR
  have cA0 := cell_at HOA.out.mem 0 (by simp)
  have cA1 := cell_at HOA.out.mem 1 (by simp)
  have cA2 := cell_at HOA.out.mem 2 (by simp)
  have cA3 := cell_at HOA.out.mem 3 (by simp)
  have cA4 := cell_at HOA.out.mem 4 (by simp)
  have cA5 := cell_at HOA.out.mem 5 (by simp)
  simp only [Nat.zero_add, List.getElem_cons_zero, List.getElem_cons_succ] at cA0 cA1 cA2 cA3 cA4 cA5
  have lA := lt_of_cell cA0
  have cR0 := cell_at HOR.out.mem 0 (by simp)
  have cR1 := cell_at HOR.out.mem 1 (by simp)
  have cR2 := cell_at HOR.out.mem 2 (by simp)
  have cR3 := cell_at HOR.out.mem 3 (by simp)
  have cR4 := cell_at HOR.out.mem 4 (by simp)
  simp only [Nat.zero_add, List.getElem_cons_zero, List.getElem_cons_succ] at cR0 cR1 cR2 cR3 cR4
  have lR := lt_of_cell cR0
  go_region_held3 (fun w' => w'.cell? ⟨w.heap.size, 0, none⟩ = some (.int .i64 tk) ∧ w'.cell? ⟨w.heap.size, 1, none⟩ = some (.int .i64 nx) ∧ w'.cell? ⟨w.heap.size, 2, none⟩ = some (.int .i64 wa) ∧ w'.cell? ⟨w.heap.size, 3, none⟩ = some (.slice ca C.length cc) ∧ w'.cell? ⟨w.heap.size, 4, none⟩ = some (.slice ha Hs.length hc) ∧ w'.cell? ⟨w.heap.size, 5, none⟩ = some (.slice ra R.length rc) ∧ w'.cell? ⟨(w.heap.size + 1), 0, none⟩ = some (.int .i64 xlo) ∧ w'.cell? ⟨(w.heap.size + 1), 1, none⟩ = some (.int .i64 xhi) ∧ w'.cell? ⟨(w.heap.size + 1), 2, none⟩ = some (.int .i64 xst) ∧ w'.cell? ⟨(w.heap.size + 1), 3, none⟩ = some (.int .i64 xmi) ∧ w'.cell? ⟨(w.heap.size + 1), 4, none⟩ = some (.int .i64 xma)) (go_keep)
    (first
       | (go_at_call 11
          refine (unhide HTo _ (HK.out.trans ((Keeps.refl w3).drew)) HL.out).mono ?_
          rintro x w4 ⟨Bs, rfl, hd, hb, hk⟩
          have HDs := hide hd
          clear hd
          replace hb := hb.old ((Keeps.refl w3).drew)
          replace hk := ((Keeps.refl w3).drew).trans hk
          clear cA0 cA1 cA2 cA3 cA4 cA5 lA cR0 cR1 cR2 cR3 cR4 lR
          have HDA_s := hide (hb.apart HOA.out.mem)
          have HDs_A := hide (hb.apart' HOA.out.mem)
          have HDR_s := hide (hb.apart HOR.out.mem)
          have HDs_R := hide (hb.apart' HOR.out.mem)
          have HNs := hide ((hb.old HK.out).new)
          replace HK := hide (HK.out.trans hk)
          replace HOA := hide (HOA.out.kept hk)
          replace HOR := hide (HOR.out.kept hk)
          have HOs := hide hb.toOwn
          clear hb hk
          have cA0 := cell_at HOA.out.mem 0 (by simp)
          have cA1 := cell_at HOA.out.mem 1 (by simp)
          have cA2 := cell_at HOA.out.mem 2 (by simp)
          have cA3 := cell_at HOA.out.mem 3 (by simp)
          have cA4 := cell_at HOA.out.mem 4 (by simp)
          have cA5 := cell_at HOA.out.mem 5 (by simp)
          simp only [Nat.zero_add, List.getElem_cons_zero, List.getElem_cons_succ] at cA0 cA1 cA2 cA3 cA4 cA5
          have lA := lt_of_cell cA0
          have cR0 := cell_at HOR.out.mem 0 (by simp)
          have cR1 := cell_at HOR.out.mem 1 (by simp)
          have cR2 := cell_at HOR.out.mem 2 (by simp)
          have cR3 := cell_at HOR.out.mem 3 (by simp)
          have cR4 := cell_at HOR.out.mem 4 (by simp)
          simp only [Nat.zero_add, List.getElem_cons_zero, List.getElem_cons_succ] at cR0 cR1 cR2 cR3 cR4
          have lR := lt_of_cell cR0)
       | (go_at_call 7
          refine (unhide HTR _).mono ?_
          rintro x w5 ⟨rfl, hk⟩
          clear cA0 cA1 cA2 cA3 cA4 cA5 lA cR0 cR1 cR2 cR3 cR4 lR
          replace HK := hide (HK.out.trans hk)
          replace HOA := hide (HOA.out.kept hk)
          replace HOR := hide (HOR.out.kept hk)
          replace HOs := hide (HOs.out.kept hk)
          clear hk
          have cA0 := cell_at HOA.out.mem 0 (by simp)
          have cA1 := cell_at HOA.out.mem 1 (by simp)
          have cA2 := cell_at HOA.out.mem 2 (by simp)
          have cA3 := cell_at HOA.out.mem 3 (by simp)
          have cA4 := cell_at HOA.out.mem 4 (by simp)
          have cA5 := cell_at HOA.out.mem 5 (by simp)
          simp only [Nat.zero_add, List.getElem_cons_zero, List.getElem_cons_succ] at cA0 cA1 cA2 cA3 cA4 cA5
          have lA := lt_of_cell cA0
          have cR0 := cell_at HOR.out.mem 0 (by simp)
          have cR1 := cell_at HOR.out.mem 1 (by simp)
          have cR2 := cell_at HOR.out.mem 2 (by simp)
          have cR3 := cell_at HOR.out.mem 3 (by simp)
          have cR4 := cell_at HOR.out.mem 4 (by simp)
          simp only [Nat.zero_add, List.getElem_cons_zero, List.getElem_cons_succ] at cR0 cR1 cR2 cR3 cR4
          have lR := lt_of_cell cR0)
       | (go_at_call 10
          refine (unhide HCS Bs HDs.out w5 HOs.out.mem).mono ?_
          rintro x w6 ⟨rfl, hk⟩
          clear cA0 cA1 cA2 cA3 cA4 cA5 lA cR0 cR1 cR2 cR3 cR4 lR
          replace HK := hide (HK.out.trans hk)
          replace HOA := hide (HOA.out.kept hk)
          replace HOR := hide (HOR.out.kept hk)
          replace HOs := hide (HOs.out.kept hk)
          clear hk
          have cA0 := cell_at HOA.out.mem 0 (by simp)
          have cA1 := cell_at HOA.out.mem 1 (by simp)
          have cA2 := cell_at HOA.out.mem 2 (by simp)
          have cA3 := cell_at HOA.out.mem 3 (by simp)
          have cA4 := cell_at HOA.out.mem 4 (by simp)
          have cA5 := cell_at HOA.out.mem 5 (by simp)
          simp only [Nat.zero_add, List.getElem_cons_zero, List.getElem_cons_succ] at cA0 cA1 cA2 cA3 cA4 cA5
          have lA := lt_of_cell cA0
          have cR0 := cell_at HOR.out.mem 0 (by simp)
          have cR1 := cell_at HOR.out.mem 1 (by simp)
          have cR2 := cell_at HOR.out.mem 2 (by simp)
          have cR3 := cell_at HOR.out.mem 3 (by simp)
          have cR4 := cell_at HOR.out.mem 4 (by simp)
          simp only [Nat.zero_add, List.getElem_cons_zero, List.getElem_cons_succ] at cR0 cR1 cR2 cR3 cR4
          have lR := lt_of_cell cR0))
  clear HOs HNs HDA_s HDs_A HDR_s HDs_R
  clear HDs
  go_wp2_with fail
  refine (unhide HTo w6 HK.out HL.out).mono ?_
  rintro x w7 ⟨Bx, rfl, hd, hb, hk⟩
  have HDx := hide hd
  clear hd
  clear cA0 cA1 cA2 cA3 cA4 cA5 lA cR0 cR1 cR2 cR3 cR4 lR
  have HDA_x := hide (hb.apart HOA.out.mem)
  have HDx_A := hide (hb.apart' HOA.out.mem)
  have HDR_x := hide (hb.apart HOR.out.mem)
  have HDx_R := hide (hb.apart' HOR.out.mem)
  have HNx := hide ((hb.old HK.out).new)
  replace HK := hide (HK.out.trans hk)
  replace HOA := hide (HOA.out.kept hk)
  replace HOR := hide (HOR.out.kept hk)
  have HOx := hide hb.toOwn
  clear hb hk
  have cA0 := cell_at HOA.out.mem 0 (by simp)
  have cA1 := cell_at HOA.out.mem 1 (by simp)
  have cA2 := cell_at HOA.out.mem 2 (by simp)
  have cA3 := cell_at HOA.out.mem 3 (by simp)
  have cA4 := cell_at HOA.out.mem 4 (by simp)
  have cA5 := cell_at HOA.out.mem 5 (by simp)
  simp only [Nat.zero_add, List.getElem_cons_zero, List.getElem_cons_succ] at cA0 cA1 cA2 cA3 cA4 cA5
  have lA := lt_of_cell cA0
  have cR0 := cell_at HOR.out.mem 0 (by simp)
  have cR1 := cell_at HOR.out.mem 1 (by simp)
  have cR2 := cell_at HOR.out.mem 2 (by simp)
  have cR3 := cell_at HOR.out.mem 3 (by simp)
  have cR4 := cell_at HOR.out.mem 4 (by simp)
  simp only [Nat.zero_add, List.getElem_cons_zero, List.getElem_cons_succ] at cR0 cR1 cR2 cR3 cR4
  have lR := lt_of_cell cR0
  go_wp2_with fail
  have hb := born_alloc w7 #[.int .i64 Bx.tk, .int .i64 Bx.nx, .int .i64 Bx.wa, .slice Bx.ca Bx.C.length Bx.cc, .slice Bx.ha Bx.Hs.length Bx.hc, .slice Bx.ra Bx.R.length Bx.rc] 43
  dsimp only at hb
  have hk := Keeps.alloc (Keeps.refl w7) (.cells #[.int .i64 Bx.tk, .int .i64 Bx.nx, .int .i64 Bx.wa, .slice Bx.ca Bx.C.length Bx.cc, .slice Bx.ha Bx.Hs.length Bx.hc, .slice Bx.ra Bx.R.length Bx.rc] 43)
  generalize w7.alloc (.cells #[.int .i64 Bx.tk, .int .i64 Bx.nx, .int .i64 Bx.wa, .slice Bx.ca Bx.C.length Bx.cc, .slice Bx.ha Bx.Hs.length Bx.hc, .slice Bx.ra Bx.R.length Bx.rc] 43) = w8 at *
  clear cA0 cA1 cA2 cA3 cA4 cA5 lA cR0 cR1 cR2 cR3 cR4 lR
  have HDA_X := hide (hb.apart HOA.out.mem)
  have HDX_A := hide (hb.apart' HOA.out.mem)
  have HDR_X := hide (hb.apart HOR.out.mem)
  have HDX_R := hide (hb.apart' HOR.out.mem)
  have HDx_X := hide (hb.apart HOx.out.mem)
  have HDX_x := hide (hb.apart' HOx.out.mem)
  have HNX := hide ((hb.old HK.out).new)
  replace HK := hide (HK.out.trans hk)
  replace HOA := hide (HOA.out.kept hk)
  replace HOR := hide (HOR.out.kept hk)
  replace HOx := hide (HOx.out.kept hk)
  have HOX := hide hb.toOwn
  clear hb hk
  have cA0 := cell_at HOA.out.mem 0 (by simp)
  have cA1 := cell_at HOA.out.mem 1 (by simp)
  have cA2 := cell_at HOA.out.mem 2 (by simp)
  have cA3 := cell_at HOA.out.mem 3 (by simp)
  have cA4 := cell_at HOA.out.mem 4 (by simp)
  have cA5 := cell_at HOA.out.mem 5 (by simp)
  simp only [Nat.zero_add, List.getElem_cons_zero, List.getElem_cons_succ] at cA0 cA1 cA2 cA3 cA4 cA5
  have lA := lt_of_cell cA0
  have cR0 := cell_at HOR.out.mem 0 (by simp)
  have cR1 := cell_at HOR.out.mem 1 (by simp)
  have cR2 := cell_at HOR.out.mem 2 (by simp)
  have cR3 := cell_at HOR.out.mem 3 (by simp)
  have cR4 := cell_at HOR.out.mem 4 (by simp)
  simp only [Nat.zero_add, List.getElem_cons_zero, List.getElem_cons_succ] at cR0 cR1 cR2 cR3 cR4
  have lR := lt_of_cell cR0
  have cX0 := cell_at HOX.out.mem 0 (by simp)
  have cX1 := cell_at HOX.out.mem 1 (by simp)
  have cX2 := cell_at HOX.out.mem 2 (by simp)
  have cX3 := cell_at HOX.out.mem 3 (by simp)
  have cX4 := cell_at HOX.out.mem 4 (by simp)
  have cX5 := cell_at HOX.out.mem 5 (by simp)
  simp only [Nat.zero_add, List.getElem_cons_zero, List.getElem_cons_succ] at cX0 cX1 cX2 cX3 cX4 cX5
  have lX := lt_of_cell cX0
  go_region_held3 (fun w' => w'.cell? ⟨w7.heap.size, 0, none⟩ = some (.int .i64 Bx.tk) ∧ w'.cell? ⟨w7.heap.size, 1, none⟩ = some (.int .i64 Bx.nx) ∧ w'.cell? ⟨w7.heap.size, 2, none⟩ = some (.int .i64 Bx.wa) ∧ w'.cell? ⟨w7.heap.size, 3, none⟩ = some (.slice Bx.ca Bx.C.length Bx.cc) ∧ w'.cell? ⟨w7.heap.size, 4, none⟩ = some (.slice Bx.ha Bx.Hs.length Bx.hc) ∧ w'.cell? ⟨w7.heap.size, 5, none⟩ = some (.slice Bx.ra Bx.R.length Bx.rc) ∧ w'.cell? ⟨(w.heap.size + 1), 0, none⟩ = some (.int .i64 xlo) ∧ w'.cell? ⟨(w.heap.size + 1), 1, none⟩ = some (.int .i64 xhi) ∧ w'.cell? ⟨(w.heap.size + 1), 2, none⟩ = some (.int .i64 xst) ∧ w'.cell? ⟨(w.heap.size + 1), 3, none⟩ = some (.int .i64 xmi) ∧ w'.cell? ⟨(w.heap.size + 1), 4, none⟩ = some (.int .i64 xma)) (go_keep)
    (first
       | (go_at_call 7
          refine (unhide HTR _).mono ?_
          rintro x w9 ⟨rfl, hk⟩
          replace hk := ((Keeps.refl w8).drew).trans hk
          clear cA0 cA1 cA2 cA3 cA4 cA5 lA cR0 cR1 cR2 cR3 cR4 lR cX0 cX1 cX2 cX3 cX4 cX5 lX
          replace HK := hide (HK.out.trans hk)
          replace HOA := hide (HOA.out.kept hk)
          replace HOR := hide (HOR.out.kept hk)
          replace HOx := hide (HOx.out.kept hk)
          replace HOX := hide (HOX.out.kept hk)
          clear hk
          have cA0 := cell_at HOA.out.mem 0 (by simp)
          have cA1 := cell_at HOA.out.mem 1 (by simp)
          have cA2 := cell_at HOA.out.mem 2 (by simp)
          have cA3 := cell_at HOA.out.mem 3 (by simp)
          have cA4 := cell_at HOA.out.mem 4 (by simp)
          have cA5 := cell_at HOA.out.mem 5 (by simp)
          simp only [Nat.zero_add, List.getElem_cons_zero, List.getElem_cons_succ] at cA0 cA1 cA2 cA3 cA4 cA5
          have lA := lt_of_cell cA0
          have cR0 := cell_at HOR.out.mem 0 (by simp)
          have cR1 := cell_at HOR.out.mem 1 (by simp)
          have cR2 := cell_at HOR.out.mem 2 (by simp)
          have cR3 := cell_at HOR.out.mem 3 (by simp)
          have cR4 := cell_at HOR.out.mem 4 (by simp)
          simp only [Nat.zero_add, List.getElem_cons_zero, List.getElem_cons_succ] at cR0 cR1 cR2 cR3 cR4
          have lR := lt_of_cell cR0
          have cX0 := cell_at HOX.out.mem 0 (by simp)
          have cX1 := cell_at HOX.out.mem 1 (by simp)
          have cX2 := cell_at HOX.out.mem 2 (by simp)
          have cX3 := cell_at HOX.out.mem 3 (by simp)
          have cX4 := cell_at HOX.out.mem 4 (by simp)
          have cX5 := cell_at HOX.out.mem 5 (by simp)
          simp only [Nat.zero_add, List.getElem_cons_zero, List.getElem_cons_succ] at cX0 cX1 cX2 cX3 cX4 cX5
          have lX := lt_of_cell cX0)
       | (go_at_call 12
          refine (unhide HCI Bx HDx.out w9 HOx.out.mem).mono ?_
          rintro x w10 ⟨rfl, hk⟩
          clear cA0 cA1 cA2 cA3 cA4 cA5 lA cR0 cR1 cR2 cR3 cR4 lR cX0 cX1 cX2 cX3 cX4 cX5 lX
          replace HK := hide (HK.out.trans hk)
          replace HOA := hide (HOA.out.kept hk)
          replace HOR := hide (HOR.out.kept hk)
          replace HOx := hide (HOx.out.kept hk)
          replace HOX := hide (HOX.out.kept hk)
          clear hk
          have cA0 := cell_at HOA.out.mem 0 (by simp)
          have cA1 := cell_at HOA.out.mem 1 (by simp)
          have cA2 := cell_at HOA.out.mem 2 (by simp)
          have cA3 := cell_at HOA.out.mem 3 (by simp)
          have cA4 := cell_at HOA.out.mem 4 (by simp)
          have cA5 := cell_at HOA.out.mem 5 (by simp)
          simp only [Nat.zero_add, List.getElem_cons_zero, List.getElem_cons_succ] at cA0 cA1 cA2 cA3 cA4 cA5
          have lA := lt_of_cell cA0
          have cR0 := cell_at HOR.out.mem 0 (by simp)
          have cR1 := cell_at HOR.out.mem 1 (by simp)
          have cR2 := cell_at HOR.out.mem 2 (by simp)
          have cR3 := cell_at HOR.out.mem 3 (by simp)
          have cR4 := cell_at HOR.out.mem 4 (by simp)
          simp only [Nat.zero_add, List.getElem_cons_zero, List.getElem_cons_succ] at cR0 cR1 cR2 cR3 cR4
          have lR := lt_of_cell cR0
          have cX0 := cell_at HOX.out.mem 0 (by simp)
          have cX1 := cell_at HOX.out.mem 1 (by simp)
          have cX2 := cell_at HOX.out.mem 2 (by simp)
          have cX3 := cell_at HOX.out.mem 3 (by simp)
          have cX4 := cell_at HOX.out.mem 4 (by simp)
          have cX5 := cell_at HOX.out.mem 5 (by simp)
          simp only [Nat.zero_add, List.getElem_cons_zero, List.getElem_cons_succ] at cX0 cX1 cX2 cX3 cX4 cX5
          have lX := lt_of_cell cX0))
  go_wp2_with fail
  clear cA0 cA1 cA2 cA3 cA4 cA5 lA cR0 cR1 cR2 cR3 cR4 lR cX0 cX1 cX2 cX3 cX4 cX5 lX
  have cA0 := cell_at HOA.out.mem 0 (by simp)
  have cA1 := cell_at HOA.out.mem 1 (by simp)
  have cA2 := cell_at HOA.out.mem 2 (by simp)
  have cA3 := cell_at HOA.out.mem 3 (by simp)
  have cA4 := cell_at HOA.out.mem 4 (by simp)
  have cA5 := cell_at HOA.out.mem 5 (by simp)
  simp only [Nat.zero_add, List.getElem_cons_zero, List.getElem_cons_succ] at cA0 cA1 cA2 cA3 cA4 cA5
  have lA := lt_of_cell cA0
  have cR0 := cell_at HOR.out.mem 0 (by simp)
  have cR1 := cell_at HOR.out.mem 1 (by simp)
  have cR2 := cell_at HOR.out.mem 2 (by simp)
  have cR3 := cell_at HOR.out.mem 3 (by simp)
  have cR4 := cell_at HOR.out.mem 4 (by simp)
  simp only [Nat.zero_add, List.getElem_cons_zero, List.getElem_cons_succ] at cR0 cR1 cR2 cR3 cR4
  have lR := lt_of_cell cR0
  have cX0 := cell_at HOX.out.mem 0 (by simp)
  have cX1 := cell_at HOX.out.mem 1 (by simp)
  have cX2 := cell_at HOX.out.mem 2 (by simp)
  have cX3 := cell_at HOX.out.mem 3 (by simp)
  have cX4 := cell_at HOX.out.mem 4 (by simp)
  have cX5 := cell_at HOX.out.mem 5 (by simp)
  simp only [Nat.zero_add, List.getElem_cons_zero, List.getElem_cons_succ] at cX0 cX1 cX2 cX3 cX4 cX5
  have lX := lt_of_cell cX0
  go_region_held3 (fun w' => w'.cell? ⟨w7.heap.size, 0, none⟩ = some (.int .i64 Bx.tk) ∧ w'.cell? ⟨w7.heap.size, 1, none⟩ = some (.int .i64 Bx.nx) ∧ w'.cell? ⟨w7.heap.size, 2, none⟩ = some (.int .i64 Bx.wa) ∧ w'.cell? ⟨w7.heap.size, 3, none⟩ = some (.slice Bx.ca Bx.C.length Bx.cc) ∧ w'.cell? ⟨w7.heap.size, 4, none⟩ = some (.slice Bx.ha Bx.Hs.length Bx.hc) ∧ w'.cell? ⟨w7.heap.size, 5, none⟩ = some (.slice Bx.ra Bx.R.length Bx.rc) ∧ w'.cell? ⟨w.heap.size, 0, none⟩ = some (.int .i64 tk) ∧ w'.cell? ⟨w.heap.size, 1, none⟩ = some (.int .i64 nx) ∧ w'.cell? ⟨w.heap.size, 2, none⟩ = some (.int .i64 wa) ∧ w'.cell? ⟨w.heap.size, 3, none⟩ = some (.slice ca C.length cc) ∧ w'.cell? ⟨w.heap.size, 4, none⟩ = some (.slice ha Hs.length hc) ∧ w'.cell? ⟨w.heap.size, 5, none⟩ = some (.slice ra R.length rc)) (go_keep)
    (first
       | (go_at_call 11
          refine (unhide HTo _ (HK.out.trans ((Keeps.refl w10).drew)) HL.out).mono ?_
          rintro x w11 ⟨By, rfl, hd, hb, hk⟩
          have HDy := hide hd
          clear hd
          replace hb := hb.old ((Keeps.refl w10).drew)
          replace hk := ((Keeps.refl w10).drew).trans hk
          clear cA0 cA1 cA2 cA3 cA4 cA5 lA cR0 cR1 cR2 cR3 cR4 lR cX0 cX1 cX2 cX3 cX4 cX5 lX
          have HDA_y := hide (hb.apart HOA.out.mem)
          have HDy_A := hide (hb.apart' HOA.out.mem)
          have HDR_y := hide (hb.apart HOR.out.mem)
          have HDy_R := hide (hb.apart' HOR.out.mem)
          have HDx_y := hide (hb.apart HOx.out.mem)
          have HDy_x := hide (hb.apart' HOx.out.mem)
          have HDX_y := hide (hb.apart HOX.out.mem)
          have HDy_X := hide (hb.apart' HOX.out.mem)
          have HNy := hide ((hb.old HK.out).new)
          replace HK := hide (HK.out.trans hk)
          replace HOA := hide (HOA.out.kept hk)
          replace HOR := hide (HOR.out.kept hk)
          replace HOx := hide (HOx.out.kept hk)
          replace HOX := hide (HOX.out.kept hk)
          have HOy := hide hb.toOwn
          clear hb hk
          have cA0 := cell_at HOA.out.mem 0 (by simp)
          have cA1 := cell_at HOA.out.mem 1 (by simp)
          have cA2 := cell_at HOA.out.mem 2 (by simp)
          have cA3 := cell_at HOA.out.mem 3 (by simp)
          have cA4 := cell_at HOA.out.mem 4 (by simp)
          have cA5 := cell_at HOA.out.mem 5 (by simp)
          simp only [Nat.zero_add, List.getElem_cons_zero, List.getElem_cons_succ] at cA0 cA1 cA2 cA3 cA4 cA5
          have lA := lt_of_cell cA0
          have cR0 := cell_at HOR.out.mem 0 (by simp)
          have cR1 := cell_at HOR.out.mem 1 (by simp)
          have cR2 := cell_at HOR.out.mem 2 (by simp)
          have cR3 := cell_at HOR.out.mem 3 (by simp)
          have cR4 := cell_at HOR.out.mem 4 (by simp)
          simp only [Nat.zero_add, List.getElem_cons_zero, List.getElem_cons_succ] at cR0 cR1 cR2 cR3 cR4
          have lR := lt_of_cell cR0
          have cX0 := cell_at HOX.out.mem 0 (by simp)
          have cX1 := cell_at HOX.out.mem 1 (by simp)
          have cX2 := cell_at HOX.out.mem 2 (by simp)
          have cX3 := cell_at HOX.out.mem 3 (by simp)
          have cX4 := cell_at HOX.out.mem 4 (by simp)
          have cX5 := cell_at HOX.out.mem 5 (by simp)
          simp only [Nat.zero_add, List.getElem_cons_zero, List.getElem_cons_succ] at cX0 cX1 cX2 cX3 cX4 cX5
          have lX := lt_of_cell cX0)
       | (go_at_call 13
          refine (eqBook_k Bx By w11 (HDx.out.trans HDy.out.symm) HOx.out.mem HOy.out.mem (unhide HLB _ HDx.out)).mono ?_
          rintro x w12 ⟨rfl, hk⟩
          clear cA0 cA1 cA2 cA3 cA4 cA5 lA cR0 cR1 cR2 cR3 cR4 lR cX0 cX1 cX2 cX3 cX4 cX5 lX
          replace HK := hide (HK.out.trans hk)
          replace HOA := hide (HOA.out.kept hk)
          replace HOR := hide (HOR.out.kept hk)
          replace HOx := hide (HOx.out.kept hk)
          replace HOX := hide (HOX.out.kept hk)
          replace HOy := hide (HOy.out.kept hk)
          clear hk
          have cA0 := cell_at HOA.out.mem 0 (by simp)
          have cA1 := cell_at HOA.out.mem 1 (by simp)
          have cA2 := cell_at HOA.out.mem 2 (by simp)
          have cA3 := cell_at HOA.out.mem 3 (by simp)
          have cA4 := cell_at HOA.out.mem 4 (by simp)
          have cA5 := cell_at HOA.out.mem 5 (by simp)
          simp only [Nat.zero_add, List.getElem_cons_zero, List.getElem_cons_succ] at cA0 cA1 cA2 cA3 cA4 cA5
          have lA := lt_of_cell cA0
          have cR0 := cell_at HOR.out.mem 0 (by simp)
          have cR1 := cell_at HOR.out.mem 1 (by simp)
          have cR2 := cell_at HOR.out.mem 2 (by simp)
          have cR3 := cell_at HOR.out.mem 3 (by simp)
          have cR4 := cell_at HOR.out.mem 4 (by simp)
          simp only [Nat.zero_add, List.getElem_cons_zero, List.getElem_cons_succ] at cR0 cR1 cR2 cR3 cR4
          have lR := lt_of_cell cR0
          have cX0 := cell_at HOX.out.mem 0 (by simp)
          have cX1 := cell_at HOX.out.mem 1 (by simp)
          have cX2 := cell_at HOX.out.mem 2 (by simp)
          have cX3 := cell_at HOX.out.mem 3 (by simp)
          have cX4 := cell_at HOX.out.mem 4 (by simp)
          have cX5 := cell_at HOX.out.mem 5 (by simp)
          simp only [Nat.zero_add, List.getElem_cons_zero, List.getElem_cons_succ] at cX0 cX1 cX2 cX3 cX4 cX5
          have lX := lt_of_cell cX0))
  clear HOy HNy HDA_y HDy_A HDR_y HDy_R HDx_y HDy_x HDX_y HDy_X
  clear HDy
  go_wp2_with fail
  go_ret
  exact ⟨rfl, HK.out⟩

set_option maxRecDepth 100000 in
theorem lifted (os : Os) (started : os.Started) (H : Type) (enc : TypeId × Value → H) :
    ReturnsInHanded {} Tryd.checked os 4 .any (fun w args => (Rows.fnExactSteadySpec.pre enc Tryd.prog Tryd.f4 [] false w args ∧ laidMetH Tryd.prog Rows.fnExactSteadyRow.laid w) ∧ sizedMet enc Tryd.prog Tryd.f4 (OpenSpec.ofChange Rows.fnExactSteadySpec) false w args)
      (Rows.fnExactSteadySpec.post enc Tryd.prog Tryd.f4 false true false false) := by
  refine returnsInHanded_of_change_and (C := Tryd.checked) (X := fun w _ => laidMetH Tryd.prog Rows.fnExactSteadyRow.laid w) (fun _ _ _ hh h => h.of_heap hh) own started (by kernel_rfl) Tryd.func4
    (ChangeSpec.witness_shaped (enc := enc) (C := Tryd.checked) (os := os) (X := fun w _ => laidMetH Tryd.prog Rows.fnExactSteadyRow.laid w) false (World.doorLaid Tryd.prog 124 os) #[.agg #[.int .i64 0, .int .i64 0, .int .i64 0, .slice none 0 0, .slice none 0 0, .slice none 0 0], .agg #[.int .i64 0, .int .i64 0, .int .i64 0, .int .i64 0, .int .i64 0]] 8 rfl (World.shaped_of_RefB (by kernel_rfl) (by kernel_rfl)) (by kernel_rfl) (by kernel_rfl) (by kernel_rfl) (door_met os _)) ?_
  intro W base args ds gs before hval0 hW _ hsz hL _
  have hval : ∀ (j : Nat) t v, Tryd.f4.params[j]? = some t → args[j]? = some v → Value.okWide Tryd.prog W .any base t v := hval0
  have hW' := hW
  obtain ⟨p, q, hA0, hV0, rfl, hfz, hnd⟩ := hW
  have hA : DataW.TrodAll enc Tryd.prog W 0 (fun _ => true) true Tryd.f4.params.toList args.toList ds p := hA0
  have hV : DataW.TrodVars enc Tryd.prog W (fun _ => true) ["loop.example/g00400/impl.errNoAmount", "loop.example/g00400/impl.errNoDivisor"] gs q := hV0
  rw [Tryd.params4] at hA hval
  obtain ⟨v0, vs0, d0, ds0, p0, q0, hargs, rfl, rfl, h0, r0⟩ := trodAll_cons hA
  obtain ⟨v1, vs1, d1, ds1, p1, q1, rfl, rfl, rfl, h1, r1⟩ := trodAll_cons r0
  obtain ⟨rfl, rfl, rfl⟩ := trodAll_nil r1
  obtain rfl : args = #[v0, v1] := by cases args; simp_all
  have k0 := h0
  have lt0 : ∀ x ∈ p0, x.block < W.heap.size := by obtain ⟨m, hm⟩ := k0; exact DataW.trod_lt m _ _ _ hm
  obtain ⟨B0, rfl, hm0, hf0, hb0⟩ := book_row (hval 0 36 v0 rfl rfl) h0
  have k1 := h1
  have lt1 : ∀ x ∈ p1, x.block < W.heap.size := by obtain ⟨m, hm⟩ := k1; exact DataW.trod_lt m _ _ _ hm
  obtain ⟨r1u, rfl⟩ := rule_row (hval 1 25 v1 rfl rfl) h1
  have hL0 : laidMet Tryd.prog Rows.fnExactSteadyRow.laid W := by rw [← MakeChecks.laidMetH_plain _ _ _ (by kernel_rfl)]; exact hL
  obtain ⟨xAmount, hvAmount⟩ := sent hL0 gAmount tAmount
  obtain ⟨xDivisor, hvDivisor⟩ := sent (laidMet.tail hL0) gDivisor tDivisor
  obtain ⟨rfl, rfl⟩ := hV.unique (vars_read2 enc gAmount tAmount Tryd.underlying107 hvAmount trivial gDivisor tDivisor Tryd.underlying107 hvDivisor trivial _)
  clear hA0 hV0 hval0
  refine (walk B0 r1u W hm0 hf0 hb0 _ _ (cell_of_var gAmount hvAmount) _ _ (cell_of_var gDivisor hvDivisor)).mono fun e W' ⟨he, hb⟩ => ?_
  subst he
  refine ⟨_, rfl, _, _, _, [], (p0 ++ (p1 ++ [])), [.cell 0 0, .cell 1 0], hW', ?_, ?_, ?_, Below.frame hb _, fun h => by cases h⟩
  · exact trodAll_mk1 (shut_bool Tryd.underlying4 _)
  · exact (trodAll_cons_mk (Below.trod laidOut (by kernel_rfl) (of_decide_eq_true (by kernel_rfl)) k0 hb lt0) (trodAll_cons_mk (Below.trod laidOut (by kernel_rfl) (of_decide_eq_true (by kernel_rfl)) k1 hb lt1) trodAll_mk0))
  · exact vars_read2 enc gAmount tAmount Tryd.underlying107 (var_kept hb hvAmount) trivial gDivisor tDivisor Tryd.underlying107 (var_kept hb hvDivisor) trivial _

theorem over : Rows.FnExactSteadySaid :=
  OpenClaim.holds_of_wide 4 Tryd.f4 rfl rfl rfl rfl rfl rfl rfl ⟨rfl, rfl, rfl, rfl, rfl⟩ rfl rfl rfl rfl rfl (by kernel_rfl) Tryd.func4 (by kernel_rfl)
    (of_decide_eq_true (by kernel_rfl)) (by unfold Func.isWrapper; first | (rw [if_pos (by decide +kernel)]; kernel_rfl) | (rw [if_neg (by decide +kernel)]; exact ⟨rfl, rfl⟩))
    (fun os started H enc _ => lifted os started H enc)
end Go.Proofs.YteoloapjhlpnjaaDoor.fnExactSteady
namespace Go.Proofs.YteoloapjhlpnjaaDoor
theorem fnExactSteady_holds : Rows.FnExactSteadyCardSaid :=
  Claim7.holds_tied_plain_at .later [] Rows.fnExactSteadyCard.laidKinds true Rows.fnExactSteadyCard.stood.harness false
    fnExactSteady.over (fun _ h => by cases h) (by kernel_rfl) (fun _ h => by cases h) fnExactSteady_row_tie rfl ⟨rfl, rfl⟩ (by kernel_rfl) rfl
    (fun f fn hf hfn => by
      obtain rfl : f = 4 := Option.some.inj ((show Tryd.prog.funcNamed Rows.fnExactSteadyRow.func = some 4 by kernel_rfl).symm.trans hf) |>.symm
      obtain rfl : fn = Tryd.f4 := (Option.some.inj (Tryd.func4.symm.trans hfn)).symm
      exact ⟨by kernel_rfl, fun j t ht => by
        rw [Tryd.params4] at ht
        have hm : t ∈ [36, 25] := by simpa using Array.mem_of_getElem? ht
        have hall : ([36, 25].all fun u => !Tryd.prog.wantsStandIn u) = true := by kernel_rfl
        exact (show Tryd.prog.wantsStandIn t = false by simpa using List.all_eq_true.1 hall t hm)⟩)
    (by kernel_rfl)
end Go.Proofs.YteoloapjhlpnjaaDoor
