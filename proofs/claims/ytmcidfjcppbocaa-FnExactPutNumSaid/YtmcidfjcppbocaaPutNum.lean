/- At every list of bytes and every two ints PutNum of the program answers as that of the model, writes into no argument, and its answer owns its memory; no condition. -/
import Derived.Test.YtmcidfjcppbocaaPut
import Derived.Test.YtmcidfjcppbocaaDsk
import Derived.Test.YtmcidfjcppbocaaRows
import Derived.WalkKit
import Derived.ProofKit
import Derived.OpenShut
import Derived.ChangeOld
import Derived.Below
namespace Go.Proofs.Ytmcidfjcppbocaa.fnExactPutNum
open Go.ChangeShapes Go.WideShapes Go.ChangeAt Go.RowKit
set_option linter.unusedVariables false
theorem walk (a : Option Addr) (cap : Nat) (L : List UInt8) (n size : Int) (w : World) (hc : Cells w a (bys L)) (hn : a = none → cap = 0) (hl : L.length ≤ 9223372036854775807) (hw : (Lit.int .i64 n).wf = true) (hw' : (Lit.int .i64 size).wf = true) :
    Calls Try.prog 4 #[.slice a L.length cap, .int .i64 n, .int .i64 size] w fun e w' => e = .returned (.bool true) ∧ Keeps w w' := by
  have HC := hide hc
  have HB : Hid (n < 9223372036854775808) := int_lt hw
  clear hc hn hw hw'
  by_cases hlt : L.length ≤ 1048576
  · have HL := hide hlt
    have HL24 : Hid (L.length ≤ 16777216) := Nat.le_trans hlt (by decide)
    have HR24 : Hid ((putL L n size).length ≤ 16777216) := putL_len L n size hlt
    go_enter Try.func4, Try.ntmps4
    have HK := hide (Keeps.refl w)
    go_wp2_with fail
    refine (toByteS_k a cap L w (HC.out.kept HK.out) HL.out).mono ?_
    rintro e w1 ⟨b1, rfl, hb, hk⟩
    have HNa := hide ((hb.old HK.out).new)
    replace HK := hide (HK.out.trans hk)
    have HOa := hide hb.toOwn
    clear hb hk
    go_wp2_with fail
    refine (putnum_spec (some ⟨b1, 0, none⟩) L.length L n size w1 (HOa.out.mem ((some ⟨b1, 0, none⟩), bys L) (by simp)) (fun e => nomatch e) (Nat.le_trans HL.out (by decide)) HB.out).mono ?_
    rintro e w2 ⟨v, rfl, ho, hk⟩
    obtain ⟨aw, cw, rfl, _, hb⟩ := Born.of_owns ho
    clear ho
    have HDa_w := hide (hb.apart HOa.out.mem)
    have HDw_a := hide (hb.apart' HOa.out.mem)
    have HNw := hide ((hb.old HK.out).new)
    replace HK := hide (HK.out.trans hk)
    replace HOa := hide (HOa.out.kept hk)
    have HOw := hide hb.toOwn
    clear hb hk
    clear HOa HNa HDw_a HDa_w
    go_wp2_with fail
    refine (toByteS_k a cap L w2 (HC.out.kept HK.out) HL.out).mono ?_
    rintro e w3 ⟨b3, rfl, hb, hk⟩
    have HDw_x := hide (hb.apart HOw.out.mem)
    have HDx_w := hide (hb.apart' HOw.out.mem)
    have HNx := hide ((hb.old HK.out).new)
    replace HK := hide (HK.out.trans hk)
    replace HOw := hide (HOw.out.kept hk)
    have HOx := hide hb.toOwn
    clear hb hk
    go_wp2_with fail
    refine (putnum_impl (some ⟨b3, 0, none⟩) L.length L n size w3 (HOx.out.mem ((some ⟨b3, 0, none⟩), bys L) (by simp)) (fun e => nomatch e) (Nat.le_trans HL.out (by decide)) HB.out).mono ?_
    rintro e w4 ⟨v, rfl, ho, hk⟩
    obtain ⟨ag, cg, rfl, _, hb⟩ := Born.of_owns ho
    clear ho
    have HDw_g := hide (hb.apart HOw.out.mem)
    have HDg_w := hide (hb.apart' HOw.out.mem)
    have HDx_g := hide (hb.apart HOx.out.mem)
    have HDg_x := hide (hb.apart' HOx.out.mem)
    have HNg := hide ((hb.old HK.out).new)
    replace HK := hide (HK.out.trans hk)
    replace HOw := hide (HOw.out.kept hk)
    replace HOx := hide (HOx.out.kept hk)
    have HOg := hide hb.toOwn
    clear hb hk
    go_wp2_with fail
    have hq := eqByteS_k ag aw cg cw (putL L n size) (putL L n size) w4 (HOg.out.mem (ag, bys (putL L n size)) (by simp)) (HOw.out.mem (aw, bys (putL L n size)) (by simp)) HR24.out HR24.out
    rw [decide_eq_true rfl] at hq
    refine hq.mono ?_
    clear hq
    rintro e w5 ⟨rfl, hk⟩
    replace HK := hide (HK.out.trans hk)
    replace HOw := hide (HOw.out.kept hk)
    replace HOx := hide (HOx.out.kept hk)
    replace HOg := hide (HOg.out.kept hk)
    clear hk
    go_wp2_with fail
    refine (toByteS_k a cap L w5 (HC.out.kept HK.out) HL.out).mono ?_
    rintro e w6 ⟨b2, rfl, hb, hk⟩
    have HDw_y := hide (hb.apart HOw.out.mem)
    have HDy_w := hide (hb.apart' HOw.out.mem)
    have HDx_y := hide (hb.apart HOx.out.mem)
    have HDy_x := hide (hb.apart' HOx.out.mem)
    have HDg_y := hide (hb.apart HOg.out.mem)
    have HDy_g := hide (hb.apart' HOg.out.mem)
    have HNy := hide ((hb.old HK.out).new)
    replace HK := hide (HK.out.trans hk)
    replace HOw := hide (HOw.out.kept hk)
    replace HOx := hide (HOx.out.kept hk)
    replace HOg := hide (HOg.out.kept hk)
    have HOy := hide hb.toOwn
    clear hb hk
    go_wp2_with fail
    have hq := eqByteS_k (some ⟨b3, 0, none⟩) (some ⟨b2, 0, none⟩) L.length L.length L L w6 (HOx.out.mem ((some ⟨b3, 0, none⟩), bys L) (by simp)) (HOy.out.mem ((some ⟨b2, 0, none⟩), bys L) (by simp)) HL24.out HL24.out
    rw [decide_eq_true rfl] at hq
    refine hq.mono ?_
    clear hq
    rintro e w7 ⟨rfl, hk⟩
    replace HK := hide (HK.out.trans hk)
    replace HOw := hide (HOw.out.kept hk)
    replace HOx := hide (HOx.out.kept hk)
    replace HOg := hide (HOg.out.kept hk)
    replace HOy := hide (HOy.out.kept hk)
    clear hk
    clear HOy HNy HDw_y HDy_w HDx_y HDy_x HDg_y HDy_g
    go_wp2_with fail
    refine (markByteS_k (some ⟨b3, 0, none⟩) L.length L 1 w7 HOx.out HL24.out (by decide)).mono ?_
    rintro e w8 ⟨rfl, ho, ht⟩
    replace HK := hide (ht.keeps HK.out HNx.out)
    replace HOw := hide (HOw.out.turn ht HDw_x.out)
    replace HOg := hide (HOg.out.turn ht HDg_x.out)
    clear ht
    replace HOx := hide ho
    clear ho
    go_wp2_with fail
    have hq := eqByteS_k ag aw cg cw (putL L n size) (putL L n size) w8 (HOg.out.mem (ag, bys (putL L n size)) (by simp)) (HOw.out.mem (aw, bys (putL L n size)) (by simp)) HR24.out HR24.out
    rw [decide_eq_true rfl] at hq
    refine hq.mono ?_
    clear hq
    rintro e w9 ⟨rfl, hk⟩
    replace HK := hide (HK.out.trans hk)
    replace HOw := hide (HOw.out.kept hk)
    replace HOx := hide (HOx.out.kept hk)
    replace HOg := hide (HOg.out.kept hk)
    clear hk
    clear HOx HNx HDw_x HDx_w HDg_x HDx_g
    go_wp2_with fail
    refine (markByteS_k ag cg (putL L n size) 1 w9 HOg.out HR24.out (by decide)).mono ?_
    rintro e w10 ⟨rfl, ho, ht⟩
    replace HK := hide (ht.keeps HK.out HNg.out)
    replace HOw := hide (HOw.out.turn ht HDw_g.out)
    clear ht
    replace HOg := hide ho
    clear ho
    go_wp2_with fail
    refine (heldByteS_k ag cg (putL L n size).length 1 w10 (HOg.out.mem (ag, bys (marksB 1 (putL L n size).length)) (by simp)) HR24.out (by decide)).mono ?_
    rintro e w11 ⟨rfl, hw⟩
    subst hw
    go_wp2_with fail
    refine (toByteS_k a cap L w11 (HC.out.kept HK.out) HL.out).mono ?_
    rintro e w12 ⟨b4, rfl, hb, hk⟩
    have HDw_z := hide (hb.apart HOw.out.mem)
    have HDz_w := hide (hb.apart' HOw.out.mem)
    have HDg_z := hide (hb.apart HOg.out.mem)
    have HDz_g := hide (hb.apart' HOg.out.mem)
    have HNz := hide ((hb.old HK.out).new)
    replace HK := hide (HK.out.trans hk)
    replace HOw := hide (HOw.out.kept hk)
    replace HOg := hide (HOg.out.kept hk)
    have HOz := hide hb.toOwn
    clear hb hk
    go_wp2_with fail
    refine (putnum_impl (some ⟨b4, 0, none⟩) L.length L n size w12 (HOz.out.mem ((some ⟨b4, 0, none⟩), bys L) (by simp)) (fun e => nomatch e) (Nat.le_trans HL.out (by decide)) HB.out).mono ?_
    rintro e w13 ⟨v, rfl, ho, hk⟩
    obtain ⟨ah, ch, rfl, _, hb⟩ := Born.of_owns ho
    clear ho
    have HDw_h := hide (hb.apart HOw.out.mem)
    have HDh_w := hide (hb.apart' HOw.out.mem)
    have HDg_h := hide (hb.apart HOg.out.mem)
    have HDh_g := hide (hb.apart' HOg.out.mem)
    have HDz_h := hide (hb.apart HOz.out.mem)
    have HDh_z := hide (hb.apart' HOz.out.mem)
    have HNh := hide ((hb.old HK.out).new)
    replace HK := hide (HK.out.trans hk)
    replace HOw := hide (HOw.out.kept hk)
    replace HOg := hide (HOg.out.kept hk)
    replace HOz := hide (HOz.out.kept hk)
    have HOh := hide hb.toOwn
    clear hb hk
    clear HOz HNz HDw_z HDz_w HDg_z HDz_g HDh_z HDz_h
    go_wp2_with fail
    have hq := eqByteS_k ah aw ch cw (putL L n size) (putL L n size) w13 (HOh.out.mem (ah, bys (putL L n size)) (by simp)) (HOw.out.mem (aw, bys (putL L n size)) (by simp)) HR24.out HR24.out
    rw [decide_eq_true rfl] at hq
    refine hq.mono ?_
    clear hq
    rintro e w14 ⟨rfl, hk⟩
    replace HK := hide (HK.out.trans hk)
    replace HOw := hide (HOw.out.kept hk)
    replace HOg := hide (HOg.out.kept hk)
    replace HOh := hide (HOh.out.kept hk)
    clear hk
    go_wp2_with fail
    refine (heldByteS_k ag cg (putL L n size).length 1 w14 (HOg.out.mem (ag, bys (marksB 1 (putL L n size).length)) (by simp)) HR24.out (by decide)).mono ?_
    rintro e w15 ⟨rfl, hw⟩
    subst hw
    go_wp2_with fail
    go_ret
    exact ⟨rfl, HK.out⟩
  · have h1 : (1048576 : Int) < L.length := by omega
    clear hlt HB HC
    go_enter Try.func4, Try.ntmps4
    go_wp2_with fail
    go_ret
    exact ⟨rfl, Keeps.refl _⟩

theorem own : ownKnob Try.prog.godebug = none := by kernel_rfl
theorem laidOut : laidOutB Try.prog = true := by kernel_rfl

set_option maxRecDepth 100000 in
theorem lifted (os : Os) (started : os.Started) (H : Type) (enc : TypeId × Value → H) :
    ReturnsInHanded {} Try.checked os 4 .any (Rows.fnExactPutNumSpec.pre6 enc Try.prog Try.f4 Rows.fnExactPutNumRow.domain false) (Rows.fnExactPutNumSpec.post enc Try.prog Try.f4 false true false false) := by
  refine returnsInHanded_of_change (C := Try.checked) own started (by kernel_rfl) Try.func4
    (ChangeSpec.witness6 (enc := enc) (C := Try.checked) false ⟨#[], #[.slice none 0 0, .int .i64 0, .int .i64 0], []⟩ 8 (by kernel_rfl) (by kernel_rfl) (by kernel_rfl) (by kernel_rfl)) ?_
  intro W base args ds gs before hval0 hW hcnd _
  have hval : ∀ (j : Nat) t v, Try.f4.params[j]? = some t → args[j]? = some v → Value.okWide Try.prog W .any base t v := hval0
  have hW' := hW
  obtain ⟨p, q, hA0, hV, rfl, hfz, hnd⟩ := hW
  have hA : DataW.TrodAll enc Try.prog W 0 (fun _ => true) true Try.f4.params.toList args.toList ds p := hA0
  rw [Try.params4] at hA hval
  obtain ⟨v0, vs0, d0, ds0, p0, q0, hargs, rfl, rfl, h0, r0⟩ := trodAll_cons hA
  obtain ⟨v1, vs1, d1, ds1, p1, q1, rfl, rfl, rfl, h1, r1⟩ := trodAll_cons r0
  obtain ⟨v2, vs2, d2, ds2, p2, q2, rfl, rfl, rfl, h2, r2⟩ := trodAll_cons r1
  obtain ⟨rfl, rfl, rfl⟩ := trodAll_nil r2
  obtain rfl : args = #[v0, v1, v2] := by cases args; simp_all
  obtain ⟨rfl, rfl⟩ := trodVars_none hV
  have lt0 := lt_row h0
  have k0 := h0
  obtain ⟨a0, cap0, L0, rfl, hc0, hn0, hl0⟩ := bytes_row (hval 0 22 v0 rfl rfl) h0
  obtain ⟨a1, rfl, rfl, rfl, w1⟩ := open_int Try.underlying3 (hval 1 3 v1 rfl rfl) h1
  obtain ⟨a2, rfl, rfl, rfl, w2⟩ := open_int Try.underlying3 (hval 2 3 v2 rfl rfl) h2
  clear hA0 hval0
  refine (walk a0 cap0 L0 a1 a2 W hc0 hn0 hl0 w1 w2).mono fun e W' ⟨he, hb⟩ => ?_
  subst he
  refine ⟨_, rfl, _, _, _, [], (p0 ++ ([] ++ ([] ++ []))), [], hW', ?_, ?_, ?_, Below.frame hb _, fun h => by cases h⟩
  · exact trodAll_mk1 (shut_bool Try.underlying4 _)
  · exact (trodAll_cons_mk (Below.trod laidOut (by kernel_rfl) (of_decide_eq_true (by kernel_rfl)) k0 hb lt0) (trodAll_cons_mk (shut_int Try.underlying3 w1) (trodAll_cons_mk (shut_int Try.underlying3 w2) trodAll_mk0)))
  · exact rfl

theorem over : Rows.fnExactPutNumRow.holds Try.pinned (OpenSpec.ofChange Rows.fnExactPutNumSpec) :=
  OpenClaim.holds_of_wide 4 Try.f4 rfl rfl rfl rfl rfl rfl rfl ⟨rfl, rfl, rfl, rfl, rfl⟩ rfl rfl rfl rfl rfl (by kernel_rfl) Try.func4 (by kernel_rfl)
    (of_decide_eq_true (by kernel_rfl)) (by unfold Func.isWrapper; first | (rw [if_pos (by decide +kernel)]; kernel_rfl) | (rw [if_neg (by decide +kernel)]; exact ⟨rfl, rfl⟩))
    (fun os started H enc _ => lifted os started H enc)
end Go.Proofs.Ytmcidfjcppbocaa.fnExactPutNum
namespace Go.Proofs.Ytmcidfjcppbocaa
theorem putnum_exact : Rows.FnExactPutNumSaid := fnExactPutNum.over
end Go.Proofs.Ytmcidfjcppbocaa
