/- For every book and ledger the program's Agrees and the model's answer the same, and both arguments stay as they were. -/
import Derived.Test.YtfbkhnbbcbccfaaAgI
import Derived.Test.YtfbkhnbbcbccfaaBgO
import Derived.Test.YtfbkhnbbcbccfaaGlue3
import Derived.Test.YtfbkhnbbcbccfaaRows
import Derived.WalkKit
import Derived.ProofKit
import Derived.OpenShut
import Derived.ChangeOld
import Derived.Below
namespace Go.Proofs.Ytfbkhnbbcbccfaa.fnExactAgrees
open Go.ChangeShapes Go.WideShapes Go.ChangeAt Go.RowKit
set_option linter.unusedVariables false
theorem len_d {B B' : Bo} (h : B'.d = B.d) (hl : B.len) : B'.len := by
  have h1 : B'.C = B.C := congrArg Bk.C h
  have h2 : B'.Hs = B.Hs := congrArg Bk.Hs h
  have h3 : B'.R = B.R := congrArg Bk.R h
  unfold Bo.len; rw [h1, h2, h3]; exact hl
set_option maxRecDepth 100000 in
set_option maxHeartbeats 8000000 in
theorem walk (B : Bo) (id : Int) (la : Option Addr) (lc : Nat) (L : List Ln) (w : World) (hm : Mem w B.segs) (hf : B.fit) (hbig : B.big) (hid : (Lit.int .i64 id).wf = true) (hlz : Cells w la (flat L)) (hlb : L.length ≤ 9223372036854775807) :
    Calls Try.prog 3 #[B.v, .agg #[.int .i64 id, .slice la L.length lc]] w fun e w' => e = .returned (.bool true) ∧ Keeps w w' := by
  have HSz := hide (fun w' => szBook_k B 1048576 w' hbig (by decide) (by decide))
  have HSl := hide (fun r w' (h0 : 0 ≤ r) (h1 : r ≤ 1048576) => szLedger_k id la L.length lc r w' h0 h1 hlb)
  have HTo := hide (fun w' (hk : Keeps w w') (hl : B.len) => toBook_k B w' (hm.kept hk) hl)
  have HTl := hide (fun w' (hk : Keeps w w') (hl : L.length ≤ 1048576) => toLedger_k id la lc L w' (hlz.kept hk) hl)
  clear hm hf hbig hid hlz
  obtain ⟨tk, nx, wa, ca, cc, C, ha, hc, Hs, ra, rc, R⟩ := B
  dsimp only [Bo.v] at *
  have HA := hide (rowc6 w (.int .i64 tk) (.int .i64 nx) (.int .i64 wa) (.slice ca C.length cc) (.slice ha Hs.length hc) (.slice ra R.length rc) 26)
  have hz : (w.alloc (.cells #[.int .i64 tk, .int .i64 nx, .int .i64 wa, .slice ca C.length cc, .slice ha Hs.length hc, .slice ra R.length rc] 26)).heap.size = w.heap.size + 1 := by simp
  have HM := hide (cellA' (w.alloc (.cells #[.int .i64 tk, .int .i64 nx, .int .i64 wa, .slice ca C.length cc, .slice ha Hs.length hc, .slice ra R.length rc] 26)) (.int .i64 id) (.slice la L.length lc) 29)
  rw [hz] at HM
  have HK := hide (Keeps.alloc (Keeps.refl w) (.cells #[.int .i64 tk, .int .i64 nx, .int .i64 wa, .slice ca C.length cc, .slice ha Hs.length hc, .slice ra R.length rc] 26))
  have HK2 := hide (Keeps.alloc (Keeps.refl (w.alloc (.cells #[.int .i64 tk, .int .i64 nx, .int .i64 wa, .slice ca C.length cc, .slice ha Hs.length hc, .slice ra R.length rc] 26))) (.cells #[.int .i64 id, .slice la L.length lc] 29))
  clear hz
  go_enter Try.func3, Try.ntmps3
  go_upto_region 2 with fail
  generalize w.alloc (.cells #[.int .i64 tk, .int .i64 nx, .int .i64 wa, .slice ca C.length cc, .slice ha Hs.length hc, .slice ra R.length rc] 26) = W00 at *
  generalize W00.alloc (.cells #[.int .i64 id, .slice la L.length lc] 29) = W0 at *
  replace HA := hide (fun w' (hk : Keeps W0 w') => unhide HA w' (HK2.out.trans hk))
  replace HK := hide (HK.out.trans HK2.out)
  have HKW := hide (Keeps.refl W0)
  clear HK2
  obtain ⟨a0, a1, a2, a3, a4, a5⟩ := unhide HA W0 HKW.out
  obtain ⟨m0, m1⟩ := unhide HM W0 HKW.out
  have la0 := lt_of_cell a0
  have lm0 := lt_of_cell m0
  go_wp2_with fail
  refine (unhide HSz W0).mono ?_
  rintro e w1 ⟨r, rfl, hr1, hr, hk⟩
  replace HKW := hide (HKW.out.trans hk)
  replace HK := hide (HK.out.trans hk)
  have HL := hide hr
  clear hk hr HSz
  clear a0 a1 a2 a3 a4 a5 m0 m1 la0 lm0
  by_cases hr0 : r < 0
  · go_wp2_with fail
    go_ret
    exact ⟨rfl, HK.out⟩
  replace HL := hide (HL.out (by omega))
  obtain ⟨a0, a1, a2, a3, a4, a5⟩ := unhide HA w1 HKW.out
  obtain ⟨m0, m1⟩ := unhide HM w1 HKW.out
  have la0 := lt_of_cell a0
  have lm0 := lt_of_cell m0
  go_wp2_with fail
  refine (unhide HSl r w1 (by omega) hr1).mono ?_
  rintro e w2 ⟨rfl, hk⟩
  replace HKW := hide (HKW.out.trans hk)
  replace HK := hide (HK.out.trans hk)
  clear hk
  clear a0 a1 a2 a3 a4 a5 m0 m1 la0 lm0
  by_cases hq : (L.length : Int) ≤ r
  rotate_left
  · rw [if_neg hq]
    go_wp2_with fail
    go_ret
    exact ⟨rfl, HK.out⟩
  rw [if_pos hq]
  have HLL : Hid (L.length ≤ 1048576) := by show _ ≤ _; omega
  go_upto_region 8 with fail
  obtain ⟨a0, a1, a2, a3, a4, a5⟩ := unhide HA w2 HKW.out
  obtain ⟨m0, m1⟩ := unhide HM w2 HKW.out
  have la0 := lt_of_cell a0
  have lm0 := lt_of_cell m0
  go_region_held3 (fun w' => w'.cell? ⟨w.heap.size, 0, none⟩ = some (.int .i64 tk) ∧ w'.cell? ⟨w.heap.size, 1, none⟩ = some (.int .i64 nx) ∧ w'.cell? ⟨w.heap.size, 2, none⟩ = some (.int .i64 wa) ∧ w'.cell? ⟨w.heap.size, 3, none⟩ = some (.slice ca C.length cc) ∧ w'.cell? ⟨w.heap.size, 4, none⟩ = some (.slice ha Hs.length hc) ∧ w'.cell? ⟨w.heap.size, 5, none⟩ = some (.slice ra R.length rc) ∧ w'.cell? ⟨w.heap.size + 1, 0, none⟩ = some (.int .i64 id) ∧ w'.cell? ⟨w.heap.size + 1, 1, none⟩ = some (.slice la L.length lc)) (go_keep)
    (first
       | (go_at_call 7
          refine (unhide HTo _ (HK.out.trans (Keeps.refl w2).drew) HL.out).mono ?_
          rintro e w3 ⟨B1, rfl, hd, hfit, hb, hk⟩
          have HD1 := hide hd
          have HO1 := hide hb.toOwn
          replace hk := ((Keeps.refl w2).drew).trans hk
          replace HKW := hide (HKW.out.trans hk)
          replace HK := hide (HK.out.trans hk)
          clear hd hfit hb hk
          clear a0 a1 a2 a3 a4 a5 m0 m1 la0 lm0
          obtain ⟨a0, a1, a2, a3, a4, a5⟩ := unhide HA w3 HKW.out
          obtain ⟨m0, m1⟩ := unhide HM w3 HKW.out
          have la0 := lt_of_cell a0
          have lm0 := lt_of_cell m0)
       | (go_at_call 8
          refine (unhide HTl w3 HK.out HLL.out).mono ?_
          rintro e w4 ⟨b1, rfl, _, hc1, hk⟩
          have HC1 := hide hc1
          replace HO1 := hide (HO1.out.kept hk)
          replace HKW := hide (HKW.out.trans hk)
          replace HK := hide (HK.out.trans hk)
          clear hc1 hk
          clear a0 a1 a2 a3 a4 a5 m0 m1 la0 lm0
          obtain ⟨a0, a1, a2, a3, a4, a5⟩ := unhide HA w4 HKW.out
          obtain ⟨m0, m1⟩ := unhide HM w4 HKW.out
          have la0 := lt_of_cell a0
          have lm0 := lt_of_cell m0)
       | (go_at_call 6
          refine (agrees_spec B1 id (some ⟨b1, 0, none⟩) L.length L w4 HO1.out.mem (len_d HD1.out HL.out) HC1.out HLL.out).mono ?_
          rintro e w5 ⟨rfl, hk⟩
          rw [HD1.out]
          replace HKW := hide (HKW.out.trans hk)
          replace HK := hide (HK.out.trans hk)
          clear hk
          clear a0 a1 a2 a3 a4 a5 m0 m1 la0 lm0
          obtain ⟨a0, a1, a2, a3, a4, a5⟩ := unhide HA w5 HKW.out
          obtain ⟨m0, m1⟩ := unhide HM w5 HKW.out
          have la0 := lt_of_cell a0
          have lm0 := lt_of_cell m0))
  clear HO1 HD1 HC1
  go_upto_region 9 with fail
  go_wp2_with fail
  refine (unhide HTo w5 HK.out HL.out).mono ?_
  rintro e w6 ⟨B2, rfl, hd, hfit, hb, hk⟩
  have HDB2 := hide hd
  have HOB2 := hide hb.toOwn
  replace HKW := hide (HKW.out.trans hk)
  replace HK := hide (HK.out.trans hk)
  clear hd hfit hb hk
  clear a0 a1 a2 a3 a4 a5 m0 m1 la0 lm0
  go_upto_region 10 with fail
  have HX := hide (book_box B2 w6 37)
  have hkv := Keeps.alloc (Keeps.refl w6) (.cells #[.int .i64 B2.tk, .int .i64 B2.nx, .int .i64 B2.wa, .slice B2.ca B2.C.length B2.cc, .slice B2.ha B2.Hs.length B2.hc, .slice B2.ra B2.R.length B2.rc] 37)
  have HKX := hide (Keeps.refl (w6.alloc (.cells #[.int .i64 B2.tk, .int .i64 B2.nx, .int .i64 B2.wa, .slice B2.ca B2.C.length B2.cc, .slice B2.ha B2.Hs.length B2.hc, .slice B2.ra B2.R.length B2.rc] 37)))
  replace HKW := hide (HKW.out.trans hkv)
  replace HK := hide (HK.out.trans hkv)
  replace HOB2 := hide (HOB2.out.kept hkv)
  clear hkv
  generalize w6.alloc (.cells #[.int .i64 B2.tk, .int .i64 B2.nx, .int .i64 B2.wa, .slice B2.ca B2.C.length B2.cc, .slice B2.ha B2.Hs.length B2.hc, .slice B2.ra B2.R.length B2.rc] 37) = w7 at *
  obtain ⟨a0, a1, a2, a3, a4, a5⟩ := unhide HA w7 HKW.out
  obtain ⟨m0, m1⟩ := unhide HM w7 HKW.out
  have la0 := lt_of_cell a0
  have lm0 := lt_of_cell m0
  go_wp2_with fail
  refine (unhide HTl w7 HK.out HLL.out).mono ?_
  rintro e w8 ⟨b2, rfl, _, hc2, hk⟩
  have HC2 := hide hc2
  replace HOB2 := hide (HOB2.out.kept hk)
  replace HKW := hide (HKW.out.trans hk)
  replace HK := hide (HK.out.trans hk)
  replace HKX := hide (HKX.out.trans hk)
  clear hc2 hk
  clear a0 a1 a2 a3 a4 a5 m0 m1 la0 lm0
  go_upto_region 11 with fail
  have HY := hide (cellA' w8 (.int .i64 id) (.slice (some ⟨b2, 0, none⟩) L.length L.length) 41)
  have hkv := Keeps.alloc (Keeps.refl w8) (.cells #[.int .i64 id, .slice (some ⟨b2, 0, none⟩) L.length L.length] 41)
  have HKY := hide (Keeps.refl (w8.alloc (.cells #[.int .i64 id, .slice (some ⟨b2, 0, none⟩) L.length L.length] 41)))
  replace HKW := hide (HKW.out.trans hkv)
  replace HK := hide (HK.out.trans hkv)
  replace HKX := hide (HKX.out.trans hkv)
  replace HOB2 := hide (HOB2.out.kept hkv)
  replace HC2 := hide (HC2.out.kept hkv)
  clear hkv
  generalize w8.alloc (.cells #[.int .i64 id, .slice (some ⟨b2, 0, none⟩) L.length L.length] 41) = w9 at *
  obtain ⟨x0, x1, x2, x3, x4, x5⟩ := HX.out.kept HKX.out
  obtain ⟨y0, y1⟩ := unhide HY w9 HKY.out
  go_wp2_with fail
  refine (agrees_impl B2 id (some ⟨b2, 0, none⟩) L.length L w9 HOB2.out.mem (len_d HDB2.out HL.out) HC2.out HLL.out).mono ?_
  rintro e w10 ⟨rfl, hk⟩
  rw [HDB2.out]
  replace HKW := hide (HKW.out.trans hk)
  replace HK := hide (HK.out.trans hk)
  replace HKX := hide (HKX.out.trans hk)
  replace HKY := hide (HKY.out.trans hk)
  replace HOB2 := hide (HOB2.out.kept hk)
  replace HC2 := hide (HC2.out.kept hk)
  clear hk x0 x1 x2 x3 x4 x5 y0 y1
  generalize agrB (Bo.d ⟨tk, nx, wa, ca, cc, C, ha, hc, Hs, ra, rc, R⟩) id L = rr at *
  have hrr : (rr != rr) = false := by simp
  go_upto_region 14 with fail
  obtain ⟨a0, a1, a2, a3, a4, a5⟩ := unhide HA w10 HKW.out
  obtain ⟨m0, m1⟩ := unhide HM w10 HKW.out
  have la0 := lt_of_cell a0
  have lm0 := lt_of_cell m0
  obtain ⟨x0, x1, x2, x3, x4, x5⟩ := HX.out.kept HKX.out
  have lx := lt_of_cell x0
  go_region_held3 (fun w' => w'.cell? ⟨w6.heap.size, 0, none⟩ = some (.int .i64 B2.tk) ∧ w'.cell? ⟨w6.heap.size, 1, none⟩ = some (.int .i64 B2.nx) ∧ w'.cell? ⟨w6.heap.size, 2, none⟩ = some (.int .i64 B2.wa) ∧ w'.cell? ⟨w6.heap.size, 3, none⟩ = some (.slice B2.ca B2.C.length B2.cc) ∧ w'.cell? ⟨w6.heap.size, 4, none⟩ = some (.slice B2.ha B2.Hs.length B2.hc) ∧ w'.cell? ⟨w6.heap.size, 5, none⟩ = some (.slice B2.ra B2.R.length B2.rc) ∧ w'.cell? ⟨w.heap.size, 0, none⟩ = some (.int .i64 tk) ∧ w'.cell? ⟨w.heap.size, 1, none⟩ = some (.int .i64 nx) ∧ w'.cell? ⟨w.heap.size, 2, none⟩ = some (.int .i64 wa) ∧ w'.cell? ⟨w.heap.size, 3, none⟩ = some (.slice ca C.length cc) ∧ w'.cell? ⟨w.heap.size, 4, none⟩ = some (.slice ha Hs.length hc) ∧ w'.cell? ⟨w.heap.size, 5, none⟩ = some (.slice ra R.length rc)) (go_keep)
    (first
       | (go_at_call 7
          refine (unhide HTo _ (HK.out.trans (Keeps.refl w10).drew) HL.out).mono ?_
          rintro e w11 ⟨By, rfl, hd, hfit, hb, hk⟩
          have HDy := hide hd
          have HOy := hide hb.toOwn
          replace hk := ((Keeps.refl w10).drew).trans hk
          replace HKW := hide (HKW.out.trans hk)
          replace HK := hide (HK.out.trans hk)
          replace HKX := hide (HKX.out.trans hk)
          replace HKY := hide (HKY.out.trans hk)
          replace HOB2 := hide (HOB2.out.kept hk)
          replace HC2 := hide (HC2.out.kept hk)
          clear hd hfit hb hk x0 x1 x2 x3 x4 x5 lx
          clear a0 a1 a2 a3 a4 a5 m0 m1 la0 lm0
          obtain ⟨a0, a1, a2, a3, a4, a5⟩ := unhide HA w11 HKW.out
          obtain ⟨m0, m1⟩ := unhide HM w11 HKW.out
          have la0 := lt_of_cell a0
          have lm0 := lt_of_cell m0
          obtain ⟨x0, x1, x2, x3, x4, x5⟩ := HX.out.kept HKX.out
          have lx := lt_of_cell x0)
       | (go_at_call 10
          refine (eqBook_k B2 By w11 (HDB2.out.trans HDy.out.symm) HOB2.out.mem HOy.out.mem (len_d HDB2.out HL.out)).mono ?_
          rintro e w12 ⟨rfl, hk⟩
          replace HKW := hide (HKW.out.trans hk)
          replace HK := hide (HK.out.trans hk)
          replace HKX := hide (HKX.out.trans hk)
          replace HKY := hide (HKY.out.trans hk)
          replace HC2 := hide (HC2.out.kept hk)
          clear hk x0 x1 x2 x3 x4 x5 lx
          clear a0 a1 a2 a3 a4 a5 m0 m1 la0 lm0
          obtain ⟨a0, a1, a2, a3, a4, a5⟩ := unhide HA w12 HKW.out
          obtain ⟨m0, m1⟩ := unhide HM w12 HKW.out
          have la0 := lt_of_cell a0
          have lm0 := lt_of_cell m0
          obtain ⟨x0, x1, x2, x3, x4, x5⟩ := HX.out.kept HKX.out
          have lx := lt_of_cell x0))
  clear x0 x1 x2 x3 x4 x5 lx HOB2 HOy HDy HDB2
  clear a0 a1 a2 a3 a4 a5 m0 m1 la0 lm0
  go_upto_region 16 with fail
  obtain ⟨a0, a1, a2, a3, a4, a5⟩ := unhide HA w12 HKW.out
  obtain ⟨m0, m1⟩ := unhide HM w12 HKW.out
  have la0 := lt_of_cell a0
  have lm0 := lt_of_cell m0
  obtain ⟨y0, y1⟩ := unhide HY w12 HKY.out
  have ly := lt_of_cell y0
  go_region_held3 (fun w' => w'.cell? ⟨w8.heap.size, 0, none⟩ = some (.int .i64 id) ∧ w'.cell? ⟨w8.heap.size, 1, none⟩ = some (.slice (some ⟨b2, 0, none⟩) L.length L.length) ∧ w'.cell? ⟨w.heap.size + 1, 0, none⟩ = some (.int .i64 id) ∧ w'.cell? ⟨w.heap.size + 1, 1, none⟩ = some (.slice la L.length lc)) (go_keep)
    (first
       | (go_at_call 8
          refine (unhide HTl _ (HK.out.trans (Keeps.refl w12).drew) HLL.out).mono ?_
          rintro e w13 ⟨b3, rfl, _, hc3, hk⟩
          replace hk := ((Keeps.refl w12).drew).trans hk
          have HC3 := hide hc3
          replace HC2 := hide (HC2.out.kept hk)
          replace HKW := hide (HKW.out.trans hk)
          replace HK := hide (HK.out.trans hk)
          replace HKY := hide (HKY.out.trans hk)
          clear hc3 hk y0 y1 ly
          clear a0 a1 a2 a3 a4 a5 m0 m1 la0 lm0
          obtain ⟨a0, a1, a2, a3, a4, a5⟩ := unhide HA w13 HKW.out
          obtain ⟨m0, m1⟩ := unhide HM w13 HKW.out
          have la0 := lt_of_cell a0
          have lm0 := lt_of_cell m0
          obtain ⟨y0, y1⟩ := unhide HY w13 HKY.out
          have ly := lt_of_cell y0)
       | (go_at_call 11
          have HQ := hide (eqLedger_k id id (some ⟨b2, 0, none⟩) (some ⟨b3, 0, none⟩) L.length L.length L L w13 HC2.out HC3.out HLL.out HLL.out)
          rw [lsEq_self, decide_eq_true rfl, Bool.and_true] at HQ
          refine (unhide HQ).mono ?_
          rintro e w14 ⟨rfl, hk⟩
          replace HKW := hide (HKW.out.trans hk)
          replace HK := hide (HK.out.trans hk)
          replace HKY := hide (HKY.out.trans hk)
          clear hk y0 y1 ly HQ
          clear a0 a1 a2 a3 a4 a5 m0 m1 la0 lm0
          obtain ⟨a0, a1, a2, a3, a4, a5⟩ := unhide HA w14 HKW.out
          obtain ⟨m0, m1⟩ := unhide HM w14 HKW.out
          have la0 := lt_of_cell a0
          have lm0 := lt_of_cell m0
          obtain ⟨y0, y1⟩ := unhide HY w14 HKY.out
          have ly := lt_of_cell y0))
  go_wp2_with fail
  go_ret
  exact ⟨rfl, HK.out⟩

theorem own : ownKnob Try.prog.godebug = none := by kernel_rfl
theorem laidOut : laidOutB Try.prog = true := by kernel_rfl

set_option maxRecDepth 100000 in
theorem lifted (os : Os) (started : os.Started) (H : Type) (enc : TypeId × Value → H) :
    ReturnsInHanded {} Try.checked os 3 .any (Rows.fnExactAgreesSpec.pre6 enc Try.prog Try.f3 Rows.fnExactAgreesRow.domain false) (Rows.fnExactAgreesSpec.post enc Try.prog Try.f3 false true false false) := by
  refine returnsInHanded_of_change (C := Try.checked) own started (by kernel_rfl) Try.func3
    (ChangeSpec.witness6 (enc := enc) (C := Try.checked) false ⟨#[], #[.agg #[.int .i64 0, .int .i64 0, .int .i64 0, .slice none 0 0, .slice none 0 0, .slice none 0 0], .agg #[.int .i64 0, .slice none 0 0]], []⟩ 8 (by kernel_rfl) (by kernel_rfl) (by kernel_rfl) (by kernel_rfl)) ?_
  intro W base args ds gs before hval0 hW hcnd _
  have hval : ∀ (j : Nat) t v, Try.f3.params[j]? = some t → args[j]? = some v → Value.okWide Try.prog W .any base t v := hval0
  have hW' := hW
  obtain ⟨p, q, hA0, hV, rfl, hfz, hnd⟩ := hW
  have hA : DataW.TrodAll enc Try.prog W 0 (fun _ => true) true Try.f3.params.toList args.toList ds p := hA0
  rw [Try.params3] at hA hval
  obtain ⟨v0, vs0, d0, ds0, p0, q0, hargs, rfl, rfl, h0, r0⟩ := trodAll_cons hA
  obtain ⟨v1, vs1, d1, ds1, p1, q1, rfl, rfl, rfl, h1, r1⟩ := trodAll_cons r0
  obtain ⟨rfl, rfl, rfl⟩ := trodAll_nil r1
  obtain rfl : args = #[v0, v1] := by cases args; simp_all
  obtain ⟨rfl, rfl⟩ := trodVars_none hV
  have lt0 := lt_row h0
  have k0 := h0
  obtain ⟨B0, rfl, hm0, hf0, hb0⟩ := book_row (hval 0 26 v0 rfl rfl) h0
  have lt1 := lt_row h1
  have k1 := h1
  obtain ⟨id1, a1, cap1, L1, rfl, w1, hc1, hl1⟩ := ledger_row (hval 1 29 v1 rfl rfl) h1
  clear hA0 hval0
  refine (walk B0 id1 a1 cap1 L1 W hm0 hf0 hb0 w1 hc1 hl1).mono fun e W' ⟨he, hb⟩ => ?_
  subst he
  refine ⟨_, rfl, _, _, _, [], (p0 ++ (p1 ++ [])), [], hW', ?_, ?_, ?_, Below.frame hb _, fun h => by cases h⟩
  · exact trodAll_mk1 (shut_bool Try.underlying4 _)
  · exact (trodAll_cons_mk (Below.trod laidOut (by kernel_rfl) (of_decide_eq_true (by kernel_rfl)) k0 hb lt0) (trodAll_cons_mk (Below.trod laidOut (by kernel_rfl) (of_decide_eq_true (by kernel_rfl)) k1 hb lt1) trodAll_mk0))
  · exact rfl

theorem over : Rows.fnExactAgreesRow.holds Try.pinned (OpenSpec.ofChange Rows.fnExactAgreesSpec) :=
  OpenClaim.holds_of_wide 3 Try.f3 rfl rfl rfl rfl rfl rfl rfl ⟨rfl, rfl, rfl, rfl, rfl⟩ rfl rfl rfl rfl rfl (by kernel_rfl) Try.func3 (by kernel_rfl)
    (of_decide_eq_true (by kernel_rfl)) (by unfold Func.isWrapper; first | (rw [if_pos (by decide +kernel)]; kernel_rfl) | (rw [if_neg (by decide +kernel)]; exact ⟨rfl, rfl⟩))
    (fun os started H enc _ => lifted os started H enc)
end Go.Proofs.Ytfbkhnbbcbccfaa.fnExactAgrees
namespace Go.Proofs.Ytfbkhnbbcbccfaa
theorem fnExactAgrees_holds : Rows.FnExactAgreesSaid := fnExactAgrees.over
end Go.Proofs.Ytfbkhnbbcbccfaa
