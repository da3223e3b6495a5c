/- For every book and number the program's Pick and the model's answer the same channel and the same word, and the book stays as it was. -/
import Derived.Test.YtfpgalpfidkngaaBpA
import Derived.Test.YtfpgalpfidkngaaBkF
import Derived.Test.YtfpgalpfidkngaaBgO
import Derived.Test.YtfpgalpfidkngaaRows
import Derived.WalkKit
import Derived.ProofKit
import Derived.OpenShut
import Derived.ChangeOld
import Derived.Below
namespace Go.Proofs.Ytfpgalpfidkngaa.fnExactPick
open Go.ChangeShapes Go.WideShapes Go.ChangeAt Go.RowKit
set_option linter.unusedVariables false
theorem len_d {B B' : Bo} (h : B'.d = B.d) (hl : B.len) : B'.len := by
  have h1 : B'.C = B.C := congrArg Bk.C h
  have h2 : B'.Hs = B.Hs := congrArg Bk.Hs h
  have h3 : B'.R = B.R := congrArg Bk.R h
  unfold Bo.len; rw [h1, h2, h3]; exact hl
set_option maxRecDepth 100000 in
set_option maxHeartbeats 4000000 in
theorem walk (B : Bo) (ch : Int) (w : World) (hm : Mem w B.segs) (hf : B.fit) (hbig : B.big) (hi : (Lit.int .i64 ch).wf = true) :
    Calls Try.prog 5 #[B.v, .int .i64 ch] w fun e w' => e = .returned (.bool true) ∧ Keeps w w' := by
  have HSz := hide (fun w' => szBook_k B 1048576 w' hbig (by decide) (by decide))
  have HTo := hide (fun w' (hk : Keeps w w') (hl : B.len) => toBook_k B w' (hm.kept hk) hl)
  clear hm hf hbig
  obtain ⟨tk, nx, wa, ca, cc, C, ha, hc, Hs, ra, rc, R⟩ := B
  dsimp only [Bo.v] at *
  have HA := hide (rowc6 w (.int .i64 tk) (.int .i64 nx) (.int .i64 wa) (.slice ca C.length cc) (.slice ha Hs.length hc) (.slice ra R.length rc) 26)
  have HK := hide (Keeps.alloc (Keeps.refl w) (.cells #[.int .i64 tk, .int .i64 nx, .int .i64 wa, .slice ca C.length cc, .slice ha Hs.length hc, .slice ra R.length rc] 26))
  go_enter Try.func5, Try.ntmps5
  go_wp2_with fail
  generalize w.alloc (.cells #[.int .i64 tk, .int .i64 nx, .int .i64 wa, .slice ca C.length cc, .slice ha Hs.length hc, .slice ra R.length rc] 26) = W0 at *
  refine (unhide HSz W0).mono ?_
  rintro e w1 ⟨r, rfl, hr1, hr, hk⟩
  have HKW := hide hk
  replace HK := hide (HK.out.trans hk)
  have HL := hide hr
  clear hk hr HSz
  by_cases hr0 : r < 0
  · go_wp2_with fail
    go_ret
    exact ⟨rfl, HK.out⟩
  replace HL := hide (HL.out (by omega))
  obtain ⟨a0, a1, a2, a3, a4, a5⟩ := unhide HA w1 HKW.out
  go_wp2_with fail
  refine (unhide HTo w1 HK.out HL.out).mono ?_
  rintro e w2 ⟨B1, rfl, hd, hfit, hb, hk⟩
  have HDB1 := hide hd
  have HOB1 := hide hb.toOwn
  replace HKW := hide (HKW.out.trans hk)
  replace HK := hide (HK.out.trans hk)
  clear hd hfit hb hk
  clear a0 a1 a2 a3 a4 a5
  go_wp2_with fail
  refine (pick_spec B1 ch w2 HOB1.out.mem (len_d HDB1.out HL.out)).mono ?_
  rintro e w3 ⟨rfl, hk⟩
  replace HKW := hide (HKW.out.trans hk)
  replace HK := hide (HK.out.trans hk)
  rw [HDB1.out]
  clear hk
  have HPC : Hid (pickC (Bo.d ⟨tk, nx, wa, ca, cc, C, ha, hc, Hs, ra, rc, R⟩) ch = pickC (Bo.d ⟨tk, nx, wa, ca, cc, C, ha, hc, Hs, ra, rc, R⟩) ch) := rfl
  generalize hpc : pickC (Bo.d ⟨tk, nx, wa, ca, cc, C, ha, hc, Hs, ra, rc, R⟩) ch = x at HPC ⊢
  generalize hpb : pickB (Bo.d ⟨tk, nx, wa, ca, cc, C, ha, hc, Hs, ra, rc, R⟩) ch = rr at *
  replace HPC := hide hpc
  have HPB := hide hpb
  clear hpc hpb
  obtain ⟨xid, xsz, xlo, xre, xba, xpp, xsc⟩ := x
  dsimp only [Chn.v]
  have HW := hide (rowc7 w3 (.int .i64 xid) (.int .i64 xsz) (.int .i64 xlo) (.int .i64 xre) (.int .i64 xba) (.int .i64 xpp) (.int .i64 xsc) 41)
  have hk := Keeps.alloc (Keeps.refl w3) (.cells #[.int .i64 xid, .int .i64 xsz, .int .i64 xlo, .int .i64 xre, .int .i64 xba, .int .i64 xpp, .int .i64 xsc] 41)
  have HKQ := hide (Keeps.refl (w3.alloc (.cells #[.int .i64 xid, .int .i64 xsz, .int .i64 xlo, .int .i64 xre, .int .i64 xba, .int .i64 xpp, .int .i64 xsc] 41)))
  replace HKW := hide (HKW.out.trans hk)
  replace HK := hide (HK.out.trans hk)
  clear hk
  go_upto_region 6 with fail
  generalize w3.alloc (.cells #[.int .i64 xid, .int .i64 xsz, .int .i64 xlo, .int .i64 xre, .int .i64 xba, .int .i64 xpp, .int .i64 xsc] 41) = w3' at *
  obtain ⟨a0, a1, a2, a3, a4, a5⟩ := unhide HA w3' HKW.out
  go_wp2_with fail
  refine (unhide HTo w3' HK.out HL.out).mono ?_
  rintro e w4 ⟨B2, rfl, hd, hfit, hb, hk⟩
  have HDB2 := hide hd
  have HOB2 := hide hb.toOwn
  replace HKW := hide (HKW.out.trans hk)
  replace HK := hide (HK.out.trans hk)
  replace HKQ := hide (HKQ.out.trans hk)
  clear hd hfit hb hk
  clear a0 a1 a2 a3 a4 a5
  have HV2 : Hid (pickC B2.d ch = ⟨xid, xsz, xlo, xre, xba, xpp, xsc⟩ ∧ pickB B2.d ch = rr) := by rw [HDB2.out]; exact ⟨HPC.out, HPB.out⟩
  go_upto_region 7 with fail
  have HX := hide (book_box B2 w4 33)
  have hkv := Keeps.alloc (Keeps.refl w4) (.cells #[.int .i64 B2.tk, .int .i64 B2.nx, .int .i64 B2.wa, .slice B2.ca B2.C.length B2.cc, .slice B2.ha B2.Hs.length B2.hc, .slice B2.ra B2.R.length B2.rc] 33)
  have HKX := hide (Keeps.refl (w4.alloc (.cells #[.int .i64 B2.tk, .int .i64 B2.nx, .int .i64 B2.wa, .slice B2.ca B2.C.length B2.cc, .slice B2.ha B2.Hs.length B2.hc, .slice B2.ra B2.R.length B2.rc] 33)))
  replace HKW := hide (HKW.out.trans hkv)
  replace HK := hide (HK.out.trans hkv)
  replace HOB2 := hide (HOB2.out.kept hkv)
  replace HKQ := hide (HKQ.out.trans hkv)
  clear hkv
  generalize w4.alloc (.cells #[.int .i64 B2.tk, .int .i64 B2.nx, .int .i64 B2.wa, .slice B2.ca B2.C.length B2.cc, .slice B2.ha B2.Hs.length B2.hc, .slice B2.ra B2.R.length B2.rc] 33) = W5 at *
  obtain ⟨x0, x1, x2, x3, x4, x5⟩ := HX.out
  go_wp2_with fail
  refine (pick_impl B2 ch W5 HOB2.out.mem (len_d HDB2.out HL.out)).mono ?_
  rintro e w6 ⟨rfl, hk⟩
  replace HKW := hide (HKW.out.trans hk)
  replace HK := hide (HK.out.trans hk)
  replace HKX := hide (HKX.out.trans hk)
  replace HKQ := hide (HKQ.out.trans hk)
  replace HOB2 := hide (HOB2.out.kept hk)
  rw [HV2.out.1, HV2.out.2]
  clear hk x0 x1 x2 x3 x4 x5 HV2 HPC HPB
  dsimp only [Chn.v]
  have HG := hide (rowc7 w6 (.int .i64 xid) (.int .i64 xsz) (.int .i64 xlo) (.int .i64 xre) (.int .i64 xba) (.int .i64 xpp) (.int .i64 xsc) 41)
  have hk := Keeps.alloc (Keeps.refl w6) (.cells #[.int .i64 xid, .int .i64 xsz, .int .i64 xlo, .int .i64 xre, .int .i64 xba, .int .i64 xpp, .int .i64 xsc] 41)
  replace HKW := hide (HKW.out.trans hk)
  replace HK := hide (HK.out.trans hk)
  replace HKX := hide (HKX.out.trans hk)
  replace HKQ := hide (HKQ.out.trans hk)
  replace HOB2 := hide (HOB2.out.kept hk)
  clear hk
  go_upto_region 8 with fail
  have HKG := hide (Keeps.refl (w6.alloc (.cells #[.int .i64 xid, .int .i64 xsz, .int .i64 xlo, .int .i64 xre, .int .i64 xba, .int .i64 xpp, .int .i64 xsc] 41)))
  generalize w6.alloc (.cells #[.int .i64 xid, .int .i64 xsz, .int .i64 xlo, .int .i64 xre, .int .i64 xba, .int .i64 xpp, .int .i64 xsc] 41) = w7 at *
  obtain ⟨u0, u1, u2, u3, u4, u5, u6⟩ := unhide HW w7 HKQ.out
  obtain ⟨v0, v1, v2, v3, v4, v5, v6⟩ := unhide HG w7 HKG.out
  have HE := hide (eqChan_same ⟨xid, xsz, xlo, xre, xba, xpp, xsc⟩ w7)
  dsimp only [Chn.v] at HE
  go_wp2_with fail
  refine (unhide HE).mono ?_
  rintro e w8 ⟨rfl, hk⟩
  replace HKW := hide (HKW.out.trans hk)
  replace HK := hide (HK.out.trans hk)
  replace HKX := hide (HKX.out.trans hk)
  replace HOB2 := hide (HOB2.out.kept hk)
  clear hk u0 u1 u2 u3 u4 u5 u6 v0 v1 v2 v3 v4 v5 v6 HE HW HG HKQ HKG
  have hrr : (rr != rr) = false := by simp
  go_upto_region 10 with fail
  obtain ⟨a0, a1, a2, a3, a4, a5⟩ := unhide HA w8 HKW.out
  obtain ⟨x0, x1, x2, x3, x4, x5⟩ := HX.out.kept HKX.out
  have la := lt_of_cell a0
  have lx := lt_of_cell x0
  have HKR := hide (Keeps.refl w8)
  go_region_held3 (fun w' => w'.cell? ⟨w4.heap.size, 0, none⟩ = some (.int .i64 B2.tk) ∧ w'.cell? ⟨w4.heap.size, 1, none⟩ = some (.int .i64 B2.nx) ∧ w'.cell? ⟨w4.heap.size, 2, none⟩ = some (.int .i64 B2.wa) ∧ w'.cell? ⟨w4.heap.size, 3, none⟩ = some (.slice B2.ca B2.C.length B2.cc) ∧ w'.cell? ⟨w4.heap.size, 4, none⟩ = some (.slice B2.ha B2.Hs.length B2.hc) ∧ w'.cell? ⟨w4.heap.size, 5, none⟩ = some (.slice B2.ra B2.R.length B2.rc) ∧ w'.cell? ⟨w.heap.size, 0, none⟩ = some (.int .i64 tk) ∧ w'.cell? ⟨w.heap.size, 1, none⟩ = some (.int .i64 nx) ∧ w'.cell? ⟨w.heap.size, 2, none⟩ = some (.int .i64 wa) ∧ w'.cell? ⟨w.heap.size, 3, none⟩ = some (.slice ca C.length cc) ∧ w'.cell? ⟨w.heap.size, 4, none⟩ = some (.slice ha Hs.length hc) ∧ w'.cell? ⟨w.heap.size, 5, none⟩ = some (.slice ra R.length rc)) (go_keep)
    (first
       | (go_at_call 8
          refine (unhide HTo _ (HK.out.trans (Keeps.refl w8).drew) HL.out).mono ?_
          rintro e w9 ⟨By, rfl, hd, hfit, hb, hk⟩
          have HDy := hide hd
          have HOy := hide hb.toOwn
          replace hk := ((Keeps.refl w8).drew).trans hk
          replace HKW := hide (HKW.out.trans hk)
          replace HK := hide (HK.out.trans hk)
          replace HKX := hide (HKX.out.trans hk)
          replace HOB2 := hide (HOB2.out.kept hk)
          clear hd hfit hb hk a0 a1 a2 a3 a4 a5 x0 x1 x2 x3 x4 x5 la lx
          obtain ⟨a0, a1, a2, a3, a4, a5⟩ := unhide HA w9 HKW.out
          obtain ⟨x0, x1, x2, x3, x4, x5⟩ := HX.out.kept HKX.out
          have la := lt_of_cell a0
          have lx := lt_of_cell x0)
       | (go_at_call 10
          refine (eqBook_k B2 By w9 (HDB2.out.trans HDy.out.symm) HOB2.out.mem HOy.out.mem (len_d HDB2.out HL.out)).mono ?_
          rintro e w10 ⟨rfl, hk⟩
          replace HKW := hide (HKW.out.trans hk)
          replace HK := hide (HK.out.trans hk)
          replace HKX := hide (HKX.out.trans hk)
          clear hk a0 a1 a2 a3 a4 a5 x0 x1 x2 x3 x4 x5 la lx
          obtain ⟨a0, a1, a2, a3, a4, a5⟩ := unhide HA w10 HKW.out
          obtain ⟨x0, x1, x2, x3, x4, x5⟩ := HX.out.kept HKX.out
          have la := lt_of_cell a0
          have lx := lt_of_cell x0))
  go_wp2_with fail
  go_ret
  exact ⟨rfl, HK.out⟩

theorem own : ownKnob Try.prog.godebug = none := by kernel_rfl
theorem laidOut : laidOutB Try.prog = true := by kernel_rfl

set_option maxRecDepth 100000 in
theorem lifted (os : Os) (started : os.Started) (H : Type) (enc : TypeId × Value → H) :
    ReturnsInHanded {} Try.checked os 5 .any (Rows.fnExactPickSpec.pre6 enc Try.prog Try.f5 Rows.fnExactPickRow.domain false) (Rows.fnExactPickSpec.post enc Try.prog Try.f5 false true false false) := by
  refine returnsInHanded_of_change (C := Try.checked) own started (by kernel_rfl) Try.func5
    (ChangeSpec.witness6 (enc := enc) (C := Try.checked) false ⟨#[], #[.agg #[.int .i64 0, .int .i64 0, .int .i64 0, .slice none 0 0, .slice none 0 0, .slice none 0 0], .int .i64 0], []⟩ 8 (by kernel_rfl) (by kernel_rfl) (by kernel_rfl) (by kernel_rfl)) ?_
  intro W base args ds gs before hval0 hW hcnd _
  have hval : ∀ (j : Nat) t v, Try.f5.params[j]? = some t → args[j]? = some v → Value.okWide Try.prog W .any base t v := hval0
  have hW' := hW
  obtain ⟨p, q, hA0, hV, rfl, hfz, hnd⟩ := hW
  have hA : DataW.TrodAll enc Try.prog W 0 (fun _ => true) true Try.f5.params.toList args.toList ds p := hA0
  rw [Try.params5] at hA hval
  obtain ⟨v0, vs0, d0, ds0, p0, q0, hargs, rfl, rfl, h0, r0⟩ := trodAll_cons hA
  obtain ⟨v1, vs1, d1, ds1, p1, q1, rfl, rfl, rfl, h1, r1⟩ := trodAll_cons r0
  obtain ⟨rfl, rfl, rfl⟩ := trodAll_nil r1
  obtain rfl : args = #[v0, v1] := by cases args; simp_all
  obtain ⟨rfl, rfl⟩ := trodVars_none hV
  have lt0 := lt_row h0
  have k0 := h0
  obtain ⟨B0, rfl, hm0, hf0, hb0⟩ := book_row (hval 0 26 v0 rfl rfl) h0
  obtain ⟨a1, rfl, rfl, rfl, w1⟩ := open_int Try.underlying3 (hval 1 3 v1 rfl rfl) h1
  clear hA0 hval0
  refine (walk B0 a1 W hm0 hf0 hb0 w1).mono fun e W' ⟨he, hb⟩ => ?_
  subst he
  refine ⟨_, rfl, _, _, _, [], (p0 ++ ([] ++ [])), [], hW', ?_, ?_, ?_, Below.frame hb _, fun h => by cases h⟩
  · exact trodAll_mk1 (shut_bool Try.underlying4 _)
  · exact (trodAll_cons_mk (Below.trod laidOut (by kernel_rfl) (of_decide_eq_true (by kernel_rfl)) k0 hb lt0) (trodAll_cons_mk (shut_int Try.underlying3 w1) trodAll_mk0))
  · exact rfl

theorem over : Rows.fnExactPickRow.holds Try.pinned (OpenSpec.ofChange Rows.fnExactPickSpec) :=
  OpenClaim.holds_of_wide 5 Try.f5 rfl rfl rfl rfl rfl rfl rfl ⟨rfl, rfl, rfl, rfl, rfl⟩ rfl rfl rfl rfl rfl (by kernel_rfl) Try.func5 (by kernel_rfl)
    (of_decide_eq_true (by kernel_rfl)) (by unfold Func.isWrapper; first | (rw [if_pos (by decide +kernel)]; kernel_rfl) | (rw [if_neg (by decide +kernel)]; exact ⟨rfl, rfl⟩))
    (fun os started H enc _ => lifted os started H enc)
end Go.Proofs.Ytfpgalpfidkngaa.fnExactPick
namespace Go.Proofs.Ytfpgalpfidkngaa
theorem fnExactPick_holds : Rows.FnExactPickSaid := fnExactPick.over
end Go.Proofs.Ytfpgalpfidkngaa
