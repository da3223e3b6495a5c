/- At every book and every list of prices PricesOk of the program answers as PricesOk of the model. -/
import Derived.Test.YtjdbedlgkngdkaaPq9
import Derived.Test.YtjdbedlgkngdkaaBgO
import Derived.Test.YtjdbedlgkngdkaaPcO
import Derived.Test.YtjdbedlgkngdkaaRows
import Derived.WalkKit
import Derived.ProofKit
import Derived.OpenShut
import Derived.ChangeOld
import Derived.Below
namespace Go.Proofs.Ytjdbedlgkngdkaa.fnExactPricesOk
open Go.ChangeShapes Go.WideShapes Go.ChangeAt Go.RowKit
set_option linter.unusedVariables false
theorem len_d {B B' : Bo} (h : B'.d = B.d) (hl : B.len) : B'.len := by
  have h1 : B'.C = B.C := congrArg Bk.C h
  have h2 : B'.Hs = B.Hs := congrArg Bk.Hs h
  have h3 : B'.R = B.R := congrArg Bk.R h
  unfold Bo.len; rw [h1, h2, h3]; exact hl
set_option maxRecDepth 100000 in
set_option maxHeartbeats 4000000 in
theorem walk (B : Bo) (pa : Option Addr) (pc : Nat) (P : List Prc) (w : World) (hm : Mem w B.segs) (hf : B.fit) (hbig : B.big) (hcp : Cells w pa (pcs P)) (hfp : (pa = none → pc = 0) ∧ P.length ≤ pc) (hlp : P.length ≤ 9223372036854775807) :
    Calls Try.prog 3 #[B.v, .slice pa P.length pc] w fun e w' => e = .returned (.bool true) ∧ Keeps w w' := by
  have HSz := hide (fun w' => szBook_k B 1048576 w' hbig (by decide) (by decide))
  have HTo := hide (fun w' (hk : Keeps w w') (hl : B.len) => toBook_k B w' (hm.kept hk) hl)
  have HPS := hide (fun r w' (h0 : 0 ≤ r) (h1 : r ≤ 1048576) => szPriceS_k pa P.length pc r w' hlp h0 h1)
  have HTP := hide (fun w' (hk : Keeps w w') (hl : P.length ≤ 1048576) => toPriceS_k pa pc P w' (hcp.kept hk) hl)
  clear hm hf hbig hcp hfp
  obtain ⟨tk, nx, wa, ca, cc, C, ha, hc, Hs, ra, rc, R⟩ := B
  dsimp only [Bo.v] at *
  have HA := hide (rowc6 w (.int .i64 tk) (.int .i64 nx) (.int .i64 wa) (.slice ca C.length cc) (.slice ha Hs.length hc) (.slice ra R.length rc) 26)
  have HK := hide (Keeps.alloc (Keeps.refl w) (.cells #[.int .i64 tk, .int .i64 nx, .int .i64 wa, .slice ca C.length cc, .slice ha Hs.length hc, .slice ra R.length rc] 26))
  go_enter Try.func3, Try.ntmps3
  go_wp2_with fail
  generalize w.alloc (.cells #[.int .i64 tk, .int .i64 nx, .int .i64 wa, .slice ca C.length cc, .slice ha Hs.length hc, .slice ra R.length rc] 26) = W0 at *
  refine (unhide HSz W0).mono ?_
  rintro e w1 ⟨r, rfl, hr1, hr, hk⟩
  have HKW := hide hk
  replace HK := hide (HK.out.trans hk)
  have HL := hide hr
  clear hk hr HSz
  by_cases hr0 : r < 0
  · go_wp2_with fail
    go_ret
    exact ⟨rfl, HK.out⟩
  replace HL := hide (HL.out (by omega))
  go_wp2_with fail
  refine (unhide HPS r w1 (by omega) hr1).mono ?_
  rintro e wz ⟨rfl, hk⟩
  replace hk : Keeps w1 wz := by first | exact hk | (subst hk; exact Keeps.refl _)
  replace HKW := hide (HKW.out.trans hk)
  replace HK := hide (HK.out.trans hk)
  clear hk
  by_cases hq : (P.length : Int) ≤ r
  rotate_left
  · rw [if_neg hq]
    go_wp2_with fail
    go_ret
    exact ⟨rfl, HK.out⟩
  rw [if_pos hq]
  have HLP : Hid (P.length ≤ 1048576) := by show _ ≤ _; omega
  obtain ⟨a0, a1, a2, a3, a4, a5⟩ := unhide HA wz HKW.out
  go_wp2_with fail
  refine (unhide HTo wz HK.out HL.out).mono ?_
  rintro e w2 ⟨B1, rfl, hd, hfit, hb, hk⟩
  have HDB1 := hide hd
  have HOB1 := hide hb.toOwn
  replace HKW := hide (HKW.out.trans hk)
  replace HK := hide (HK.out.trans hk)
  clear hd hfit hb hk
  clear a0 a1 a2 a3 a4 a5
  go_wp2_with fail
  refine (unhide HTP w2 HK.out HLP.out).mono ?_
  rintro e w3 ⟨b1, rfl, hb, hk⟩
  have HPb1 := hide (hb.mem (some ⟨b1, 0, none⟩, pcs P) (by simp))
  replace HKW := hide (HKW.out.trans hk)
  replace HK := hide (HK.out.trans hk)
  replace HOB1 := hide (HOB1.out.kept hk)
  clear hb hk
  go_wp2_with fail
  refine (prices_spec B1 (some ⟨b1, 0, none⟩) P.length P w3 HOB1.out.mem (len_d HDB1.out HL.out) HPb1.out HLP.out).mono ?_
  rintro e w4 ⟨rfl, hk⟩
  replace HKW := hide (HKW.out.trans hk)
  replace HK := hide (HK.out.trans hk)
  rw [HDB1.out]
  clear hk HPb1
  obtain ⟨a0, a1, a2, a3, a4, a5⟩ := unhide HA w4 HKW.out
  go_wp2_with fail
  refine (unhide HTo w4 HK.out HL.out).mono ?_
  rintro e w5 ⟨B2, rfl, hd, hfit, hb, hk⟩
  have HDB2 := hide hd
  have HOB2 := hide hb.toOwn
  replace HKW := hide (HKW.out.trans hk)
  replace HK := hide (HK.out.trans hk)
  clear hd hfit hb hk
  clear a0 a1 a2 a3 a4 a5
  go_upto_region 10 with fail
  have HV2 : Hid (pricesB B2.d P = pricesB (Bo.d ⟨tk, nx, wa, ca, cc, C, ha, hc, Hs, ra, rc, R⟩) P) := by show _ = _; rw [HDB2.out]
  have HX := hide (book_box B2 w5 35)
  have hkv := Keeps.alloc (Keeps.refl w5) (.cells #[.int .i64 B2.tk, .int .i64 B2.nx, .int .i64 B2.wa, .slice B2.ca B2.C.length B2.cc, .slice B2.ha B2.Hs.length B2.hc, .slice B2.ra B2.R.length B2.rc] 35)
  have HKX := hide (Keeps.refl (w5.alloc (.cells #[.int .i64 B2.tk, .int .i64 B2.nx, .int .i64 B2.wa, .slice B2.ca B2.C.length B2.cc, .slice B2.ha B2.Hs.length B2.hc, .slice B2.ra B2.R.length B2.rc] 35)))
  replace HKW := hide (HKW.out.trans hkv)
  replace HK := hide (HK.out.trans hkv)
  replace HOB2 := hide (HOB2.out.kept hkv)
  clear hkv
  generalize w5.alloc (.cells #[.int .i64 B2.tk, .int .i64 B2.nx, .int .i64 B2.wa, .slice B2.ca B2.C.length B2.cc, .slice B2.ha B2.Hs.length B2.hc, .slice B2.ra B2.R.length B2.rc] 35) = W5 at *
  go_wp2_with fail
  refine (unhide HTP W5 HK.out HLP.out).mono ?_
  rintro e w6 ⟨b2, rfl, hb, hk⟩
  have HPb2 := hide (hb.mem (some ⟨b2, 0, none⟩, pcs P) (by simp))
  replace HKW := hide (HKW.out.trans hk)
  replace HK := hide (HK.out.trans hk)
  replace HOB2 := hide (HOB2.out.kept hk)
  replace HKX := hide (HKX.out.trans hk)
  clear hb hk
  obtain ⟨x0, x1, x2, x3, x4, x5⟩ := HX.out.kept HKX.out
  go_wp2_with fail
  refine (prices_impl B2 (some ⟨b2, 0, none⟩) P.length P w6 HOB2.out.mem (len_d HDB2.out HL.out) HPb2.out HLP.out (Nat.le_refl _)).mono ?_
  rintro e w7 ⟨rfl, hk⟩
  replace HKW := hide (HKW.out.trans hk)
  replace HK := hide (HK.out.trans hk)
  replace HKX := hide (HKX.out.trans hk)
  replace HOB2 := hide (HOB2.out.kept hk)
  replace HPb2 := hide (HPb2.out.kept hk)
  rw [HV2.out]
  clear hk x0 x1 x2 x3 x4 x5 HV2
  generalize pricesB (Bo.d ⟨tk, nx, wa, ca, cc, C, ha, hc, Hs, ra, rc, R⟩) P = rr at *
  have hrr : (rr != rr) = false := by simp
  go_upto_region 14 with fail
  obtain ⟨a0, a1, a2, a3, a4, a5⟩ := unhide HA w7 HKW.out
  obtain ⟨x0, x1, x2, x3, x4, x5⟩ := HX.out.kept HKX.out
  have la := lt_of_cell a0
  have lx := lt_of_cell x0
  have HKR := hide (Keeps.refl w7)
  go_region_held3 (fun w' => w'.cell? ⟨w5.heap.size, 0, none⟩ = some (.int .i64 B2.tk) ∧ w'.cell? ⟨w5.heap.size, 1, none⟩ = some (.int .i64 B2.nx) ∧ w'.cell? ⟨w5.heap.size, 2, none⟩ = some (.int .i64 B2.wa) ∧ w'.cell? ⟨w5.heap.size, 3, none⟩ = some (.slice B2.ca B2.C.length B2.cc) ∧ w'.cell? ⟨w5.heap.size, 4, none⟩ = some (.slice B2.ha B2.Hs.length B2.hc) ∧ w'.cell? ⟨w5.heap.size, 5, none⟩ = some (.slice B2.ra B2.R.length B2.rc) ∧ w'.cell? ⟨w.heap.size, 0, none⟩ = some (.int .i64 tk) ∧ w'.cell? ⟨w.heap.size, 1, none⟩ = some (.int .i64 nx) ∧ w'.cell? ⟨w.heap.size, 2, none⟩ = some (.int .i64 wa) ∧ w'.cell? ⟨w.heap.size, 3, none⟩ = some (.slice ca C.length cc) ∧ w'.cell? ⟨w.heap.size, 4, none⟩ = some (.slice ha Hs.length hc) ∧ w'.cell? ⟨w.heap.size, 5, none⟩ = some (.slice ra R.length rc)) (go_keep)
    (first
       | (go_at_call 8
          refine (unhide HTo _ (HK.out.trans (Keeps.refl w7).drew) HL.out).mono ?_
          rintro e w8 ⟨By, rfl, hd, hfit, hb, hk⟩
          have HDy := hide hd
          have HOy := hide hb.toOwn
          replace hk := ((Keeps.refl w7).drew).trans hk
          replace HKW := hide (HKW.out.trans hk)
          replace HK := hide (HK.out.trans hk)
          replace HKX := hide (HKX.out.trans hk)
          replace HOB2 := hide (HOB2.out.kept hk)
          replace HPb2 := hide (HPb2.out.kept hk)
          clear hd hfit hb hk a0 a1 a2 a3 a4 a5 x0 x1 x2 x3 x4 x5 la lx
          obtain ⟨a0, a1, a2, a3, a4, a5⟩ := unhide HA w8 HKW.out
          obtain ⟨x0, x1, x2, x3, x4, x5⟩ := HX.out.kept HKX.out
          have la := lt_of_cell a0
          have lx := lt_of_cell x0)
       | (go_at_call 11
          refine (eqBook_k B2 By w8 (HDB2.out.trans HDy.out.symm) HOB2.out.mem HOy.out.mem (len_d HDB2.out HL.out)).mono ?_
          rintro e w9 ⟨rfl, hk⟩
          replace HKW := hide (HKW.out.trans hk)
          replace HK := hide (HK.out.trans hk)
          replace HKX := hide (HKX.out.trans hk)
          replace HPb2 := hide (HPb2.out.kept hk)
          clear hk a0 a1 a2 a3 a4 a5 x0 x1 x2 x3 x4 x5 la lx
          obtain ⟨a0, a1, a2, a3, a4, a5⟩ := unhide HA w9 HKW.out
          obtain ⟨x0, x1, x2, x3, x4, x5⟩ := HX.out.kept HKX.out
          have la := lt_of_cell a0
          have lx := lt_of_cell x0))
  clear a0 a1 a2 a3 a4 a5 x0 x1 x2 x3 x4 x5 la lx
  go_wp2_with fail
  refine (unhide HTP w9 HK.out HLP.out).mono ?_
  rintro e w10 ⟨b3, rfl, hb, hk⟩
  have HPb3 := hide (hb.mem (some ⟨b3, 0, none⟩, pcs P) (by simp))
  replace HKW := hide (HKW.out.trans hk)
  replace HK := hide (HK.out.trans hk)
  replace HPb2 := hide (HPb2.out.kept hk)
  clear hb hk
  go_wp2_with fail
  refine (eqPriceS_k (some ⟨b2, 0, none⟩) (some ⟨b3, 0, none⟩) P.length P.length P w10 HPb2.out HPb3.out HLP.out).mono ?_
  rintro e w11 ⟨rfl, hk⟩
  replace HK := hide (HK.out.trans hk)
  clear hk
  go_wp2_with fail
  go_ret
  exact ⟨rfl, HK.out⟩

theorem own : ownKnob Try.prog.godebug = none := by kernel_rfl
theorem laidOut : laidOutB Try.prog = true := by kernel_rfl

set_option maxRecDepth 100000 in
theorem lifted (os : Os) (started : os.Started) (H : Type) (enc : TypeId × Value → H) :
    ReturnsInHanded {} Try.checked os 3 .any (Rows.fnExactPricesOkSpec.pre6 enc Try.prog Try.f3 Rows.fnExactPricesOkRow.domain false) (Rows.fnExactPricesOkSpec.post enc Try.prog Try.f3 false true false false) := by
  refine returnsInHanded_of_change (C := Try.checked) own started (by kernel_rfl) Try.func3
    (ChangeSpec.witness6 (enc := enc) (C := Try.checked) false ⟨#[], #[.agg #[.int .i64 0, .int .i64 0, .int .i64 0, .slice none 0 0, .slice none 0 0, .slice none 0 0], .slice none 0 0], []⟩ 8 (by kernel_rfl) (by kernel_rfl) (by kernel_rfl) (by kernel_rfl)) ?_
  intro W base args ds gs before hval0 hW hcnd _
  have hval : ∀ (j : Nat) t v, Try.f3.params[j]? = some t → args[j]? = some v → Value.okWide Try.prog W .any base t v := hval0
  have hW' := hW
  obtain ⟨p, q, hA0, hV, rfl, hfz, hnd⟩ := hW
  have hA : DataW.TrodAll enc Try.prog W 0 (fun _ => true) true Try.f3.params.toList args.toList ds p := hA0
  rw [Try.params3] at hA hval
  obtain ⟨v0, vs0, d0, ds0, p0, q0, hargs, rfl, rfl, h0, r0⟩ := trodAll_cons hA
  obtain ⟨v1, vs1, d1, ds1, p1, q1, rfl, rfl, rfl, h1, r1⟩ := trodAll_cons r0
  obtain ⟨rfl, rfl, rfl⟩ := trodAll_nil r1
  obtain rfl : args = #[v0, v1] := by cases args; simp_all
  obtain ⟨rfl, rfl⟩ := trodVars_none hV
  have lt0 := lt_row h0
  have k0 := h0
  obtain ⟨B0, rfl, hm0, hf0, hb0⟩ := book_row (hval 0 26 v0 rfl rfl) h0
  have lt1 := lt_row h1
  have k1 := h1
  obtain ⟨a1, cap1, L1, rfl, hc1, hf1, hl1⟩ := prices_row (hval 1 27 v1 rfl rfl) h1
  clear hA0 hval0
  refine (walk B0 a1 cap1 L1 W hm0 hf0 hb0 hc1 hf1 hl1).mono fun e W' ⟨he, hb⟩ => ?_
  subst he
  refine ⟨_, rfl, _, _, _, [], (p0 ++ (p1 ++ [])), [], hW', ?_, ?_, ?_, Below.frame hb _, fun h => by cases h⟩
  · exact trodAll_mk1 (shut_bool Try.underlying4 _)
  · exact (trodAll_cons_mk (Below.trod laidOut (by kernel_rfl) (of_decide_eq_true (by kernel_rfl)) k0 hb lt0) (trodAll_cons_mk (Below.trod laidOut (by kernel_rfl) (of_decide_eq_true (by kernel_rfl)) k1 hb lt1) trodAll_mk0))
  · exact rfl

theorem over : Rows.fnExactPricesOkRow.holds Try.pinned (OpenSpec.ofChange Rows.fnExactPricesOkSpec) :=
  OpenClaim.holds_of_wide 3 Try.f3 rfl rfl rfl rfl rfl rfl rfl ⟨rfl, rfl, rfl, rfl, rfl⟩ rfl rfl rfl rfl rfl (by kernel_rfl) Try.func3 (by kernel_rfl)
    (of_decide_eq_true (by kernel_rfl)) (by unfold Func.isWrapper; first | (rw [if_pos (by decide +kernel)]; kernel_rfl) | (rw [if_neg (by decide +kernel)]; exact ⟨rfl, rfl⟩))
    (fun os started H enc _ => lifted os started H enc)
end Go.Proofs.Ytjdbedlgkngdkaa.fnExactPricesOk
namespace Go.Proofs.Ytjdbedlgkngdkaa
theorem fnExactPricesOk_holds : Rows.FnExactPricesOkSaid := fnExactPricesOk.over
end Go.Proofs.Ytjdbedlgkngdkaa
