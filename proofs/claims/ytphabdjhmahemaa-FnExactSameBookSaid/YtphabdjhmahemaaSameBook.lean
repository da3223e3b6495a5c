/- FnExactSameBook: at every two books the program's SameBook answers as the model's, writes into no argument and keeps nothing of one. -/
import Derived.Test.YtphabdjhmahemaaSb
import Derived.Test.YtphabdjhmahemaaBgO
import Derived.Test.YtphabdjhmahemaaRows
import Derived.WalkKit
import Derived.ProofKit
import Derived.OpenShut
import Derived.ChangeOld
import Derived.Below
namespace Go.Proofs.Ytphabdjhmahemaa.fnExactSameBook
open Go.ChangeShapes Go.WideShapes Go.ChangeAt Go.RowKit
set_option linter.unusedVariables false
theorem len_d {B B' : Bo} (h : B'.d = B.d) (hl : B.len) : B'.len := by
  have h1 : B'.C = B.C := congrArg Bk.C h
  have h2 : B'.Hs = B.Hs := congrArg Bk.Hs h
  have h3 : B'.R = B.R := congrArg Bk.R h
  unfold Bo.len; rw [h1, h2, h3]; exact hl
set_option maxRecDepth 100000 in
set_option maxHeartbeats 8000000 in
theorem walk (B E : Bo) (w : World) (hm : Mem w B.segs) (hf : B.fit) (hbig : B.big) (hm2 : Mem w E.segs) (hf2 : E.fit) (hbig2 : E.big) :
    Calls Try.prog 5 #[B.v, E.v] w fun e w' => e = .returned (.bool true) ∧ Keeps w w' := by
  have HSA := hide (fun w' => szBook_k B 1048576 w' hbig (by decide) (by decide))
  have HSB := hide (fun (r : Int) w' (h0 : 0 ≤ r) (h1 : r ≤ 1048576) => szBook_k E r w' hbig2 h0 h1)
  have HTA := hide (fun w' (hk : Keeps w w') (hl : B.len) => toBook_k B w' (hm.kept hk) hl)
  have HTB := hide (fun w' (hk : Keeps w w') (hl : E.len) => toBook_k E w' (hm2.kept hk) hl)
  clear hm hf hbig hm2 hf2 hbig2
  obtain ⟨tk, nx, wa, ca, cc, C, ha, hc, Hs, ra, rc, R⟩ := B
  obtain ⟨tk2, nx2, wa2, ca2, cc2, C2, ha2, hc2, Hs2, ra2, rc2, R2⟩ := E
  have HBA := hide (book_box ⟨tk, nx, wa, ca, cc, C, ha, hc, Hs, ra, rc, R⟩ w 60)
  have HK1 := hide (Keeps.alloc (Keeps.refl w) (.cells #[.int .i64 tk, .int .i64 nx, .int .i64 wa, .slice ca C.length cc, .slice ha Hs.length hc, .slice ra R.length rc] 60))
  have HBB := hide (book_box ⟨tk2, nx2, wa2, ca2, cc2, C2, ha2, hc2, Hs2, ra2, rc2, R2⟩ (w.alloc (.cells #[.int .i64 tk, .int .i64 nx, .int .i64 wa, .slice ca C.length cc, .slice ha Hs.length hc, .slice ra R.length rc] 60)) 60)
  rw [World.size_alloc] at HBB
  have HK2 := hide (Keeps.alloc (Keeps.refl (w.alloc (.cells #[.int .i64 tk, .int .i64 nx, .int .i64 wa, .slice ca C.length cc, .slice ha Hs.length hc, .slice ra R.length rc] 60))) (.cells #[.int .i64 tk2, .int .i64 nx2, .int .i64 wa2, .slice ca2 C2.length cc2, .slice ha2 Hs2.length hc2, .slice ra2 R2.length rc2] 60))
  dsimp only [Bo.v] at *
  go_enter Try.func5, Try.ntmps5
  go_upto_region 2 with fail
  generalize hW : (w.alloc (.cells #[.int .i64 tk, .int .i64 nx, .int .i64 wa, .slice ca C.length cc, .slice ha Hs.length hc, .slice ra R.length rc] 60)).alloc (.cells #[.int .i64 tk2, .int .i64 nx2, .int .i64 wa2, .slice ca2 C2.length cc2, .slice ha2 Hs2.length hc2, .slice ra2 R2.length rc2] 60) = W0 at *
  replace HBA := hide (HBA.out.kept HK2.out)
  replace HK1 := hide (HK1.out.trans HK2.out)
  clear hW HK2
  have HKW := hide (Keeps.refl W0)
  obtain ⟨a0, a1, a2, a3, a4, a5⟩ := HBA.out.kept HKW.out
  obtain ⟨e0, e1, e2, e3, e4, e5⟩ := HBB.out.kept HKW.out
  dsimp only at a0 a1 a2 a3 a4 a5 e0 e1 e2 e3 e4 e5
  go_wp2_with fail
  refine (unhide HSA _).mono ?_
  rintro e w1 ⟨r, rfl, hr1, hr, hk⟩
  replace HKW := hide (HKW.out.trans hk)
  clear a0 a1 a2 a3 a4 a5 e0 e1 e2 e3 e4 e5
  have HL := hide hr
  clear hk hr HSA
  by_cases hr0 : r < 0
  · go_wp2_with fail
    go_ret
    exact ⟨rfl, HK1.out.trans HKW.out⟩
  replace HL := hide (HL.out (by omega))
  obtain ⟨a0, a1, a2, a3, a4, a5⟩ := HBA.out.kept HKW.out
  obtain ⟨e0, e1, e2, e3, e4, e5⟩ := HBB.out.kept HKW.out
  dsimp only at a0 a1 a2 a3 a4 a5 e0 e1 e2 e3 e4 e5
  have hr2 : 0 ≤ r := by omega
  go_wp2_with fail
  refine (unhide HSB r _ hr2 hr1).mono ?_
  rintro e w2 ⟨r2, rfl, hr3, hr, hk⟩
  clear hr1 hr2 hr0
  replace HKW := hide (HKW.out.trans hk)
  clear a0 a1 a2 a3 a4 a5 e0 e1 e2 e3 e4 e5
  have HL2 := hide hr
  clear hk hr HSB
  by_cases hr0 : r2 < 0
  · go_wp2_with fail
    go_ret
    exact ⟨rfl, HK1.out.trans HKW.out⟩
  replace HL2 := hide (HL2.out (by omega))
  obtain ⟨a0, a1, a2, a3, a4, a5⟩ := HBA.out.kept HKW.out
  obtain ⟨e0, e1, e2, e3, e4, e5⟩ := HBB.out.kept HKW.out
  dsimp only at a0 a1 a2 a3 a4 a5 e0 e1 e2 e3 e4 e5
  go_upto_region 8 with fail
  have ST := hide trivial
  have la := lt_of_cell a0
  have le := lt_of_cell e0
  go_region_held3 (fun w' => w'.cell? ⟨w.heap.size, 0, none⟩ = some (.int .i64 tk) ∧ w'.cell? ⟨w.heap.size, 1, none⟩ = some (.int .i64 nx) ∧ w'.cell? ⟨w.heap.size, 2, none⟩ = some (.int .i64 wa) ∧ w'.cell? ⟨w.heap.size, 3, none⟩ = some (.slice ca C.length cc) ∧ w'.cell? ⟨w.heap.size, 4, none⟩ = some (.slice ha Hs.length hc) ∧ w'.cell? ⟨w.heap.size, 5, none⟩ = some (.slice ra R.length rc) ∧ w'.cell? ⟨w.heap.size + 1, 0, none⟩ = some (.int .i64 tk2) ∧ w'.cell? ⟨w.heap.size + 1, 1, none⟩ = some (.int .i64 nx2) ∧ w'.cell? ⟨w.heap.size + 1, 2, none⟩ = some (.int .i64 wa2) ∧ w'.cell? ⟨w.heap.size + 1, 3, none⟩ = some (.slice ca2 C2.length cc2) ∧ w'.cell? ⟨w.heap.size + 1, 4, none⟩ = some (.slice ha2 Hs2.length hc2) ∧ w'.cell? ⟨w.heap.size + 1, 5, none⟩ = some (.slice ra2 R2.length rc2)) (go_keep)
    (first
      | (go_at_call 26
         clear ST
         refine (unhide HTA _ ((HK1.out.trans HKW.out).trans (Keeps.refl w2).drew) HL.out).mono ?_
         rintro e w3 ⟨B1, rfl, hd, hfit, hb, hk⟩
         have HDB1 := hide hd
         have HOB1 := hide hb.toOwn
         replace hk := ((Keeps.refl w2).drew).trans hk
         replace HKW := hide (HKW.out.trans hk)
         clear hd hfit hb hk
         clear a0 a1 a2 a3 a4 a5 e0 e1 e2 e3 e4 e5 la le
         obtain ⟨a0, a1, a2, a3, a4, a5⟩ := HBA.out.kept HKW.out
         obtain ⟨e0, e1, e2, e3, e4, e5⟩ := HBB.out.kept HKW.out
         dsimp only at a0 a1 a2 a3 a4 a5 e0 e1 e2 e3 e4 e5
         have la := lt_of_cell a0
         have le := lt_of_cell e0)
      | (go_at_call 26
         refine (unhide HTB _ (HK1.out.trans HKW.out) HL2.out).mono ?_
         rintro e w4 ⟨E1, rfl, hd, hfit, hb, hk⟩
         have HDE1 := hide hd
         have HOE1 := hide hb.toOwn
         replace HKW := hide (HKW.out.trans hk)
         replace HOB1 := hide (HOB1.out.kept hk)
         clear hd hfit hb hk
         clear a0 a1 a2 a3 a4 a5 e0 e1 e2 e3 e4 e5 la le
         obtain ⟨a0, a1, a2, a3, a4, a5⟩ := HBA.out.kept HKW.out
         obtain ⟨e0, e1, e2, e3, e4, e5⟩ := HBB.out.kept HKW.out
         dsimp only at a0 a1 a2 a3 a4 a5 e0 e1 e2 e3 e4 e5
         have la := lt_of_cell a0
         have le := lt_of_cell e0)
      | (go_at_call 25
         refine (same_spec B1 E1 _ HOB1.out.mem HOE1.out.mem (len_d HDB1.out HL.out) (len_d HDE1.out HL2.out)).mono ?_
         rintro e w5 ⟨x, rfl, hx, hk⟩
         have HXX := hide hx
         replace HKW := hide (HKW.out.trans hk)
         replace HOB1 := hide (HOB1.out.kept hk)
         replace HOE1 := hide (HOE1.out.kept hk)
         clear hk hx
         clear a0 a1 a2 a3 a4 a5 e0 e1 e2 e3 e4 e5 la le
         obtain ⟨a0, a1, a2, a3, a4, a5⟩ := HBA.out.kept HKW.out
         obtain ⟨e0, e1, e2, e3, e4, e5⟩ := HBB.out.kept HKW.out
         dsimp only at a0 a1 a2 a3 a4 a5 e0 e1 e2 e3 e4 e5
         have la := lt_of_cell a0
         have le := lt_of_cell e0))
  have HXV : Hid (x = true ↔ sameB (Bo.d ⟨tk, nx, wa, ca, cc, C, ha, hc, Hs, ra, rc, R⟩) (Bo.d ⟨tk2, nx2, wa2, ca2, cc2, C2, ha2, hc2, Hs2, ra2, rc2, R2⟩)) := by
    have := HXX.out
    rw [HDB1.out, HDE1.out] at this
    exact this
  clear HXX HDB1 HDE1 HOB1 HOE1 la le
  go_wp2_with fail
  refine (unhide HTA _ (HK1.out.trans HKW.out) HL.out).mono ?_
  rintro e w6 ⟨B2, rfl, hd, hfit, hb, hk⟩
  have HDB2 := hide hd
  have HOB2 := hide hb.toOwn
  replace HKW := hide (HKW.out.trans hk)
  clear hd hfit hb hk
  clear a0 a1 a2 a3 a4 a5 e0 e1 e2 e3 e4 e5
  have HX := hide (book_box B2 w6 67)
  have hkv := Keeps.alloc (Keeps.refl w6) (.cells #[.int .i64 B2.tk, .int .i64 B2.nx, .int .i64 B2.wa, .slice B2.ca B2.C.length B2.cc, .slice B2.ha B2.Hs.length B2.hc, .slice B2.ra B2.R.length B2.rc] 67)
  have HKX := hide (Keeps.refl (w6.alloc (.cells #[.int .i64 B2.tk, .int .i64 B2.nx, .int .i64 B2.wa, .slice B2.ca B2.C.length B2.cc, .slice B2.ha B2.Hs.length B2.hc, .slice B2.ra B2.R.length B2.rc] 67)))
  replace HKW := hide (HKW.out.trans hkv)
  replace HOB2 := hide (HOB2.out.kept hkv)
  clear hkv
  go_upto_region 10 with fail
  obtain ⟨px, hp⟩ : ∃ q, q = w6.heap.size := ⟨_, rfl⟩
  rw [← hp] at HX
  try rw [← hp]
  clear hp
  generalize w6.alloc (.cells #[.int .i64 B2.tk, .int .i64 B2.nx, .int .i64 B2.wa, .slice B2.ca B2.C.length B2.cc, .slice B2.ha B2.Hs.length B2.hc, .slice B2.ra B2.R.length B2.rc] 67) = w6v at *
  obtain ⟨a0, a1, a2, a3, a4, a5⟩ := HBA.out.kept HKW.out
  obtain ⟨e0, e1, e2, e3, e4, e5⟩ := HBB.out.kept HKW.out
  dsimp only at a0 a1 a2 a3 a4 a5 e0 e1 e2 e3 e4 e5
  go_wp2_with fail
  refine (unhide HTB _ (HK1.out.trans HKW.out) HL2.out).mono ?_
  rintro e w7 ⟨E2, rfl, hd, hfit, hb, hk⟩
  have HDE2 := hide hd
  have HOE2 := hide hb.toOwn
  replace HKW := hide (HKW.out.trans hk)
  replace HKX := hide (HKX.out.trans hk)
  replace HOB2 := hide (HOB2.out.kept hk)
  clear hd hfit hb hk
  clear a0 a1 a2 a3 a4 a5 e0 e1 e2 e3 e4 e5
  have HY := hide (book_box E2 w7 67)
  have hkv := Keeps.alloc (Keeps.refl w7) (.cells #[.int .i64 E2.tk, .int .i64 E2.nx, .int .i64 E2.wa, .slice E2.ca E2.C.length E2.cc, .slice E2.ha E2.Hs.length E2.hc, .slice E2.ra E2.R.length E2.rc] 67)
  have HKY := hide (Keeps.refl (w7.alloc (.cells #[.int .i64 E2.tk, .int .i64 E2.nx, .int .i64 E2.wa, .slice E2.ca E2.C.length E2.cc, .slice E2.ha E2.Hs.length E2.hc, .slice E2.ra E2.R.length E2.rc] 67)))
  replace HKW := hide (HKW.out.trans hkv)
  replace HKX := hide (HKX.out.trans hkv)
  replace HOB2 := hide (HOB2.out.kept hkv)
  replace HOE2 := hide (HOE2.out.kept hkv)
  clear hkv
  go_upto_region 11 with fail
  obtain ⟨py, hp⟩ : ∃ q, q = w7.heap.size := ⟨_, rfl⟩
  rw [← hp] at HY
  try rw [← hp]
  clear hp
  generalize w7.alloc (.cells #[.int .i64 E2.tk, .int .i64 E2.nx, .int .i64 E2.wa, .slice E2.ca E2.C.length E2.cc, .slice E2.ha E2.Hs.length E2.hc, .slice E2.ra E2.R.length E2.rc] 67) = w7v at *
  obtain ⟨a0, a1, a2, a3, a4, a5⟩ := HBA.out.kept HKW.out
  obtain ⟨e0, e1, e2, e3, e4, e5⟩ := HBB.out.kept HKW.out
  dsimp only at a0 a1 a2 a3 a4 a5 e0 e1 e2 e3 e4 e5
  obtain ⟨x0, x1, x2, x3, x4, x5⟩ := HX.out.kept HKX.out
  obtain ⟨y0, y1, y2, y3, y4, y5⟩ := HY.out.kept HKY.out
  go_wp2_with fail
  refine (same_impl B2 E2 _ HOB2.out.mem HOE2.out.mem (len_d HDB2.out HL.out) (len_d HDE2.out HL2.out)).mono ?_
  rintro e w8 ⟨z, rfl, hz, hk⟩
  replace HKW := hide (HKW.out.trans hk)
  replace HKX := hide (HKX.out.trans hk)
  replace HKY := hide (HKY.out.trans hk)
  replace HOB2 := hide (HOB2.out.kept hk)
  replace HOE2 := hide (HOE2.out.kept hk)
  rw [HDB2.out, HDE2.out] at hz
  obtain rfl : z = x := by
    rw [Bool.eq_iff_iff]
    exact hz.trans HXV.out.symm
  clear hz hk HXV x0 x1 x2 x3 x4 x5 y0 y1 y2 y3 y4 y5
  clear a0 a1 a2 a3 a4 a5 e0 e1 e2 e3 e4 e5
  have hrr : (z != z) = false := by simp
  go_upto_region 14 with fail
  have ST := hide trivial
  clear hrr
  obtain ⟨a0, a1, a2, a3, a4, a5⟩ := HBA.out.kept HKW.out
  dsimp only at a0 a1 a2 a3 a4 a5
  obtain ⟨x0, x1, x2, x3, x4, x5⟩ := HX.out.kept HKX.out
  have la := lt_of_cell a0
  have lx := lt_of_cell x0
  go_region_held3 (fun w' => w'.cell? ⟨px, 0, none⟩ = some (.int .i64 B2.tk) ∧ w'.cell? ⟨px, 1, none⟩ = some (.int .i64 B2.nx) ∧ w'.cell? ⟨px, 2, none⟩ = some (.int .i64 B2.wa) ∧ w'.cell? ⟨px, 3, none⟩ = some (.slice B2.ca B2.C.length B2.cc) ∧ w'.cell? ⟨px, 4, none⟩ = some (.slice B2.ha B2.Hs.length B2.hc) ∧ w'.cell? ⟨px, 5, none⟩ = some (.slice B2.ra B2.R.length B2.rc) ∧ w'.cell? ⟨w.heap.size, 0, none⟩ = some (.int .i64 tk) ∧ w'.cell? ⟨w.heap.size, 1, none⟩ = some (.int .i64 nx) ∧ w'.cell? ⟨w.heap.size, 2, none⟩ = some (.int .i64 wa) ∧ w'.cell? ⟨w.heap.size, 3, none⟩ = some (.slice ca C.length cc) ∧ w'.cell? ⟨w.heap.size, 4, none⟩ = some (.slice ha Hs.length hc) ∧ w'.cell? ⟨w.heap.size, 5, none⟩ = some (.slice ra R.length rc)) (go_keep)
    (first
      | (go_at_call 26
         clear ST
         refine (unhide HTA _ ((HK1.out.trans HKW.out).trans (Keeps.refl w8).drew) HL.out).mono ?_
         rintro e w9 ⟨B3, rfl, hd, hfit, hb, hk⟩
         have HDB3 := hide hd
         have HOB3 := hide hb.toOwn
         replace hk := ((Keeps.refl w8).drew).trans hk
         replace HKW := hide (HKW.out.trans hk)
         replace HKX := hide (HKX.out.trans hk)
         replace HKY := hide (HKY.out.trans hk)
         replace HOB2 := hide (HOB2.out.kept hk)
         replace HOE2 := hide (HOE2.out.kept hk)
         clear hd hfit hb hk
         clear a0 a1 a2 a3 a4 a5 x0 x1 x2 x3 x4 x5 la lx
         obtain ⟨a0, a1, a2, a3, a4, a5⟩ := HBA.out.kept HKW.out
         dsimp only at a0 a1 a2 a3 a4 a5
         obtain ⟨x0, x1, x2, x3, x4, x5⟩ := HX.out.kept HKX.out
         have la := lt_of_cell a0
         have lx := lt_of_cell x0)
      | (go_at_call 28
         refine (eqBook_k B2 B3 w9 (HDB2.out.trans HDB3.out.symm) HOB2.out.mem HOB3.out.mem (len_d HDB2.out HL.out)).mono ?_
         rintro e w10 ⟨rfl, hk⟩
         replace HKW := hide (HKW.out.trans hk)
         replace HKX := hide (HKX.out.trans hk)
         replace HKY := hide (HKY.out.trans hk)
         replace HOB2 := hide (HOB2.out.kept hk)
         replace HOE2 := hide (HOE2.out.kept hk)
         replace HOB3 := hide (HOB3.out.kept hk)
         clear hk
         clear a0 a1 a2 a3 a4 a5 x0 x1 x2 x3 x4 x5 la lx
         obtain ⟨a0, a1, a2, a3, a4, a5⟩ := HBA.out.kept HKW.out
         dsimp only at a0 a1 a2 a3 a4 a5
         obtain ⟨x0, x1, x2, x3, x4, x5⟩ := HX.out.kept HKX.out
         have la := lt_of_cell a0
         have lx := lt_of_cell x0))
  clear a0 a1 a2 a3 a4 a5 x0 x1 x2 x3 x4 x5 la lx
  go_upto_region 16 with fail
  have ST := hide trivial
  obtain ⟨a0, a1, a2, a3, a4, a5⟩ := HBB.out.kept HKW.out
  dsimp only at a0 a1 a2 a3 a4 a5
  obtain ⟨x0, x1, x2, x3, x4, x5⟩ := HY.out.kept HKY.out
  have la := lt_of_cell a0
  have lx := lt_of_cell x0
  go_region_held3 (fun w' => w'.cell? ⟨py, 0, none⟩ = some (.int .i64 E2.tk) ∧ w'.cell? ⟨py, 1, none⟩ = some (.int .i64 E2.nx) ∧ w'.cell? ⟨py, 2, none⟩ = some (.int .i64 E2.wa) ∧ w'.cell? ⟨py, 3, none⟩ = some (.slice E2.ca E2.C.length E2.cc) ∧ w'.cell? ⟨py, 4, none⟩ = some (.slice E2.ha E2.Hs.length E2.hc) ∧ w'.cell? ⟨py, 5, none⟩ = some (.slice E2.ra E2.R.length E2.rc) ∧ w'.cell? ⟨w.heap.size + 1, 0, none⟩ = some (.int .i64 tk2) ∧ w'.cell? ⟨w.heap.size + 1, 1, none⟩ = some (.int .i64 nx2) ∧ w'.cell? ⟨w.heap.size + 1, 2, none⟩ = some (.int .i64 wa2) ∧ w'.cell? ⟨w.heap.size + 1, 3, none⟩ = some (.slice ca2 C2.length cc2) ∧ w'.cell? ⟨w.heap.size + 1, 4, none⟩ = some (.slice ha2 Hs2.length hc2) ∧ w'.cell? ⟨w.heap.size + 1, 5, none⟩ = some (.slice ra2 R2.length rc2)) (go_keep)
    (first
      | (go_at_call 26
         clear ST
         refine (unhide HTB _ ((HK1.out.trans HKW.out).trans (Keeps.refl w10).drew) HL2.out).mono ?_
         rintro e w11 ⟨E3, rfl, hd, hfit, hb, hk⟩
         have HDE3 := hide hd
         have HOE3 := hide hb.toOwn
         replace hk := ((Keeps.refl w10).drew).trans hk
         replace HKW := hide (HKW.out.trans hk)
         replace HKX := hide (HKX.out.trans hk)
         replace HKY := hide (HKY.out.trans hk)
         replace HOB2 := hide (HOB2.out.kept hk)
         replace HOE2 := hide (HOE2.out.kept hk)
         replace HOB3 := hide (HOB3.out.kept hk)
         clear hd hfit hb hk
         clear a0 a1 a2 a3 a4 a5 x0 x1 x2 x3 x4 x5 la lx
         obtain ⟨a0, a1, a2, a3, a4, a5⟩ := HBB.out.kept HKW.out
         dsimp only at a0 a1 a2 a3 a4 a5
         obtain ⟨x0, x1, x2, x3, x4, x5⟩ := HY.out.kept HKY.out
         have la := lt_of_cell a0
         have lx := lt_of_cell x0)
      | (go_at_call 28
         refine (eqBook_k E2 E3 w11 (HDE2.out.trans HDE3.out.symm) HOE2.out.mem HOE3.out.mem (len_d HDE2.out HL2.out)).mono ?_
         rintro e w12 ⟨rfl, hk⟩
         replace HKW := hide (HKW.out.trans hk)
         replace HKX := hide (HKX.out.trans hk)
         replace HKY := hide (HKY.out.trans hk)
         replace HOB2 := hide (HOB2.out.kept hk)
         replace HOE2 := hide (HOE2.out.kept hk)
         replace HOB3 := hide (HOB3.out.kept hk)
         replace HOE3 := hide (HOE3.out.kept hk)
         clear hk
         clear a0 a1 a2 a3 a4 a5 x0 x1 x2 x3 x4 x5 la lx
         obtain ⟨a0, a1, a2, a3, a4, a5⟩ := HBB.out.kept HKW.out
         dsimp only at a0 a1 a2 a3 a4 a5
         obtain ⟨x0, x1, x2, x3, x4, x5⟩ := HY.out.kept HKY.out
         have la := lt_of_cell a0
         have lx := lt_of_cell x0))
  go_wp2_with fail
  go_ret
  exact ⟨rfl, HK1.out.trans HKW.out⟩

theorem own : ownKnob Try.prog.godebug = none := by kernel_rfl
theorem laidOut : laidOutB Try.prog = true := by kernel_rfl

set_option maxRecDepth 100000 in
theorem lifted (os : Os) (started : os.Started) (H : Type) (enc : TypeId × Value → H) :
    ReturnsInHanded {} Try.checked os 5 .any (Rows.fnExactSameBookSpec.pre6 enc Try.prog Try.f5 Rows.fnExactSameBookRow.domain false) (Rows.fnExactSameBookSpec.post enc Try.prog Try.f5 false true false false) := by
  refine returnsInHanded_of_change (C := Try.checked) own started (by kernel_rfl) Try.func5
    (ChangeSpec.witness6 (enc := enc) (C := Try.checked) false ⟨#[], #[.agg #[.int .i64 0, .int .i64 0, .int .i64 0, .slice none 0 0, .slice none 0 0, .slice none 0 0], .agg #[.int .i64 0, .int .i64 0, .int .i64 0, .slice none 0 0, .slice none 0 0, .slice none 0 0]], []⟩ 8 (by kernel_rfl) (by kernel_rfl) (by kernel_rfl) (by kernel_rfl)) ?_
  intro W base args ds gs before hval0 hW hcnd _
  have hval : ∀ (j : Nat) t v, Try.f5.params[j]? = some t → args[j]? = some v → Value.okWide Try.prog W .any base t v := hval0
  have hW' := hW
  obtain ⟨p, q, hA0, hV, rfl, hfz, hnd⟩ := hW
  have hA : DataW.TrodAll enc Try.prog W 0 (fun _ => true) true Try.f5.params.toList args.toList ds p := hA0
  rw [Try.params5] at hA hval
  obtain ⟨v0, vs0, d0, ds0, p0, q0, hargs, rfl, rfl, h0, r0⟩ := trodAll_cons hA
  obtain ⟨v1, vs1, d1, ds1, p1, q1, rfl, rfl, rfl, h1, r1⟩ := trodAll_cons r0
  obtain ⟨rfl, rfl, rfl⟩ := trodAll_nil r1
  obtain rfl : args = #[v0, v1] := by cases args; simp_all
  obtain ⟨rfl, rfl⟩ := trodVars_none hV
  have lt0 := lt_row h0
  have k0 := h0
  obtain ⟨B0, rfl, hm0, hf0, hb0⟩ := book_row (hval 0 60 v0 rfl rfl) h0
  have lt1 := lt_row h1
  have k1 := h1
  obtain ⟨B1, rfl, hm1, hf1, hb1⟩ := book_row (hval 1 60 v1 rfl rfl) h1
  clear hA0 hval0
  refine (walk B0 B1 W hm0 hf0 hb0 hm1 hf1 hb1).mono fun e W' ⟨he, hb⟩ => ?_
  subst he
  refine ⟨_, rfl, _, _, _, [], (p0 ++ (p1 ++ [])), [], hW', ?_, ?_, ?_, Below.frame hb _, fun h => by cases h⟩
  · exact trodAll_mk1 (shut_bool Try.underlying4 _)
  · exact (trodAll_cons_mk (Below.trod laidOut (by kernel_rfl) (of_decide_eq_true (by kernel_rfl)) k0 hb lt0) (trodAll_cons_mk (Below.trod laidOut (by kernel_rfl) (of_decide_eq_true (by kernel_rfl)) k1 hb lt1) trodAll_mk0))
  · exact rfl

theorem over : Rows.fnExactSameBookRow.holds Try.pinned (OpenSpec.ofChange Rows.fnExactSameBookSpec) :=
  OpenClaim.holds_of_wide 5 Try.f5 rfl rfl rfl rfl rfl rfl rfl ⟨rfl, rfl, rfl, rfl, rfl⟩ rfl rfl rfl rfl rfl (by kernel_rfl) Try.func5 (by kernel_rfl)
    (of_decide_eq_true (by kernel_rfl)) (by unfold Func.isWrapper; first | (rw [if_pos (by decide +kernel)]; kernel_rfl) | (rw [if_neg (by decide +kernel)]; exact ⟨rfl, rfl⟩))
    (fun os started H enc _ => lifted os started H enc)
end Go.Proofs.Ytphabdjhmahemaa.fnExactSameBook
namespace Go.Proofs.Ytphabdjhmahemaa
theorem fnExactSameBook_holds : Rows.FnExactSameBookSaid := fnExactSameBook.over
end Go.Proofs.Ytphabdjhmahemaa
