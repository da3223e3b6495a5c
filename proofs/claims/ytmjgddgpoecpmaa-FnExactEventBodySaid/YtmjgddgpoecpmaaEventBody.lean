/- At every event the program's EventBody answers as the model's, and its answer owns its memory; no condition but that the argument can be read. -/
import Derived.Test.YtmjgddgpoecpmaaEBI
import Derived.Test.YtmjgddgpoecpmaaEBS
import Derived.Test.YtmjgddgpoecpmaaEvR
import Derived.Test.YtmjgddgpoecpmaaVars
import Derived.Test.YtmjgddgpoecpmaaRows
import Derived.WalkKit
import Derived.ProofKit
import Derived.OpenShut
import Derived.ChangeOld
import Derived.Below
namespace Go.Proofs.Ytmjgddgpoecpmaa.fnExactEventBody
open Go.ChangeShapes Go.WideShapes Go.ChangeAt Go.RowKit
set_option linter.unusedVariables false
set_option maxHeartbeats 2000000 in
theorem walk (k y c t m f : Int) (b : Bool) (w : World) (wk : (Lit.int .i64 k).wf = true) (wy : (Lit.int .i64 y).wf = true) (wc : (Lit.int .i64 c).wf = true) (wt : (Lit.int .i64 t).wf = true) (wm : (Lit.int .i64 m).wf = true) (wf : (Lit.int .i64 f).wf = true) :
    Calls Try.prog 11 #[evV k y c t m f b] w fun e w' => e = .returned (.bool true) ∧ Keeps w w' := by
  have HR24 : Hid ((bodyR k y c t m f b).length ≤ 16777216) := Nat.le_trans (bodyR_length k y c t m f b) (by decide)
  clear wk wy wc wt wm wf
  go_enter Try.func11, Try.ntmps11
  have HK := hide (Keeps.refl w)
  go_wp2_with fail
  have hb := born_alloc w #[.int .i64 k, .int .i64 y, .int .i64 c, .int .i64 t, .int .i64 m, .int .i64 f, .bool b] 87
  dsimp only at hb
  have hk := Keeps.alloc (Keeps.refl w) (.cells #[.int .i64 k, .int .i64 y, .int .i64 c, .int .i64 t, .int .i64 m, .int .i64 f, .bool b] 87)
  generalize w.alloc (.cells #[.int .i64 k, .int .i64 y, .int .i64 c, .int .i64 t, .int .i64 m, .int .i64 f, .bool b] 87) = w1 at *
  have HNA := hide ((hb.old HK.out).new)
  replace HK := hide (HK.out.trans hk)
  have HOA := hide hb.toOwn
  clear hb hk
  have cA0 := cell_at HOA.out.mem 0 (by simp)
  have cA1 := cell_at HOA.out.mem 1 (by simp)
  have cA2 := cell_at HOA.out.mem 2 (by simp)
  have cA3 := cell_at HOA.out.mem 3 (by simp)
  have cA4 := cell_at HOA.out.mem 4 (by simp)
  have cA5 := cell_at HOA.out.mem 5 (by simp)
  have cA6 := cell_at HOA.out.mem 6 (by simp)
  simp only [Nat.zero_add, List.getElem_cons_zero, List.getElem_cons_succ] at cA0 cA1 cA2 cA3 cA4 cA5 cA6
  have lA := lt_of_cell cA0
  refine (toEvent_k k y c t m f b w1).mono ?_
  rintro x w2 ⟨rfl, hk⟩
  clear cA0 cA1 cA2 cA3 cA4 cA5 cA6 lA
  replace HK := hide (HK.out.trans hk)
  replace HOA := hide (HOA.out.kept hk)
  clear hk
  have cA0 := cell_at HOA.out.mem 0 (by simp)
  have cA1 := cell_at HOA.out.mem 1 (by simp)
  have cA2 := cell_at HOA.out.mem 2 (by simp)
  have cA3 := cell_at HOA.out.mem 3 (by simp)
  have cA4 := cell_at HOA.out.mem 4 (by simp)
  have cA5 := cell_at HOA.out.mem 5 (by simp)
  have cA6 := cell_at HOA.out.mem 6 (by simp)
  simp only [Nat.zero_add, List.getElem_cons_zero, List.getElem_cons_succ] at cA0 cA1 cA2 cA3 cA4 cA5 cA6
  have lA := lt_of_cell cA0
  go_wp2_with fail
  refine (body_spec k y c t m f b w2).mono ?_
  rintro x w3 ⟨v, rfl, ho, hk⟩
  obtain ⟨aw, cw, rfl, _, hb⟩ := Born.of_owns ho
  clear ho
  clear cA0 cA1 cA2 cA3 cA4 cA5 cA6 lA
  have HDA_w := hide (hb.apart HOA.out.mem)
  have HDw_A := hide (hb.apart' HOA.out.mem)
  have HNw := hide ((hb.old HK.out).new)
  replace HK := hide (HK.out.trans hk)
  replace HOA := hide (HOA.out.kept hk)
  have HOw := hide hb.toOwn
  clear hb hk
  have cA0 := cell_at HOA.out.mem 0 (by simp)
  have cA1 := cell_at HOA.out.mem 1 (by simp)
  have cA2 := cell_at HOA.out.mem 2 (by simp)
  have cA3 := cell_at HOA.out.mem 3 (by simp)
  have cA4 := cell_at HOA.out.mem 4 (by simp)
  have cA5 := cell_at HOA.out.mem 5 (by simp)
  have cA6 := cell_at HOA.out.mem 6 (by simp)
  simp only [Nat.zero_add, List.getElem_cons_zero, List.getElem_cons_succ] at cA0 cA1 cA2 cA3 cA4 cA5 cA6
  have lA := lt_of_cell cA0
  go_wp2_with fail
  refine (toEvent_k k y c t m f b w3).mono ?_
  rintro x w4 ⟨rfl, hk⟩
  clear cA0 cA1 cA2 cA3 cA4 cA5 cA6 lA
  replace HK := hide (HK.out.trans hk)
  replace HOA := hide (HOA.out.kept hk)
  replace HOw := hide (HOw.out.kept hk)
  clear hk
  have cA0 := cell_at HOA.out.mem 0 (by simp)
  have cA1 := cell_at HOA.out.mem 1 (by simp)
  have cA2 := cell_at HOA.out.mem 2 (by simp)
  have cA3 := cell_at HOA.out.mem 3 (by simp)
  have cA4 := cell_at HOA.out.mem 4 (by simp)
  have cA5 := cell_at HOA.out.mem 5 (by simp)
  have cA6 := cell_at HOA.out.mem 6 (by simp)
  simp only [Nat.zero_add, List.getElem_cons_zero, List.getElem_cons_succ] at cA0 cA1 cA2 cA3 cA4 cA5 cA6
  have lA := lt_of_cell cA0
  go_wp2_with fail
  refine (body_impl k y c t m f b w4).mono ?_
  rintro x w5 ⟨v, rfl, ho, hk⟩
  obtain ⟨ag, cg, rfl, _, hb⟩ := Born.of_owns ho
  clear ho
  clear cA0 cA1 cA2 cA3 cA4 cA5 cA6 lA
  have HDA_g := hide (hb.apart HOA.out.mem)
  have HDg_A := hide (hb.apart' HOA.out.mem)
  have HDw_g := hide (hb.apart HOw.out.mem)
  have HDg_w := hide (hb.apart' HOw.out.mem)
  have HNg := hide ((hb.old HK.out).new)
  replace HK := hide (HK.out.trans hk)
  replace HOA := hide (HOA.out.kept hk)
  replace HOw := hide (HOw.out.kept hk)
  have HOg := hide hb.toOwn
  clear hb hk
  have cA0 := cell_at HOA.out.mem 0 (by simp)
  have cA1 := cell_at HOA.out.mem 1 (by simp)
  have cA2 := cell_at HOA.out.mem 2 (by simp)
  have cA3 := cell_at HOA.out.mem 3 (by simp)
  have cA4 := cell_at HOA.out.mem 4 (by simp)
  have cA5 := cell_at HOA.out.mem 5 (by simp)
  have cA6 := cell_at HOA.out.mem 6 (by simp)
  simp only [Nat.zero_add, List.getElem_cons_zero, List.getElem_cons_succ] at cA0 cA1 cA2 cA3 cA4 cA5 cA6
  have lA := lt_of_cell cA0
  go_wp2_with fail
  have hq := eqByteS_k ag aw cg cw (bodyR k y c t m f b) (bodyR k y c t m f b) w5 (HOg.out.mem (ag, bys (bodyR k y c t m f b)) (by simp)) (HOw.out.mem (aw, bys (bodyR k y c t m f b)) (by simp)) HR24.out HR24.out
  rw [decide_eq_true rfl] at hq
  refine hq.mono ?_
  clear hq
  rintro x w6 ⟨rfl, hk⟩
  clear cA0 cA1 cA2 cA3 cA4 cA5 cA6 lA
  replace HK := hide (HK.out.trans hk)
  replace HOA := hide (HOA.out.kept hk)
  replace HOw := hide (HOw.out.kept hk)
  replace HOg := hide (HOg.out.kept hk)
  clear hk
  have cA0 := cell_at HOA.out.mem 0 (by simp)
  have cA1 := cell_at HOA.out.mem 1 (by simp)
  have cA2 := cell_at HOA.out.mem 2 (by simp)
  have cA3 := cell_at HOA.out.mem 3 (by simp)
  have cA4 := cell_at HOA.out.mem 4 (by simp)
  have cA5 := cell_at HOA.out.mem 5 (by simp)
  have cA6 := cell_at HOA.out.mem 6 (by simp)
  simp only [Nat.zero_add, List.getElem_cons_zero, List.getElem_cons_succ] at cA0 cA1 cA2 cA3 cA4 cA5 cA6
  have lA := lt_of_cell cA0
  go_wp2_with fail
  refine (markByteS_k ag cg (bodyR k y c t m f b) 1 w6 HOg.out HR24.out (by decide)).mono ?_
  rintro x w7 ⟨rfl, ho, ht⟩
  clear cA0 cA1 cA2 cA3 cA4 cA5 cA6 lA
  replace HK := hide (ht.keeps HK.out HNg.out)
  replace HOA := hide (HOA.out.turn ht HDA_g.out)
  replace HOw := hide (HOw.out.turn ht HDw_g.out)
  clear ht
  replace HOg := hide ho
  clear ho
  have cA0 := cell_at HOA.out.mem 0 (by simp)
  have cA1 := cell_at HOA.out.mem 1 (by simp)
  have cA2 := cell_at HOA.out.mem 2 (by simp)
  have cA3 := cell_at HOA.out.mem 3 (by simp)
  have cA4 := cell_at HOA.out.mem 4 (by simp)
  have cA5 := cell_at HOA.out.mem 5 (by simp)
  have cA6 := cell_at HOA.out.mem 6 (by simp)
  simp only [Nat.zero_add, List.getElem_cons_zero, List.getElem_cons_succ] at cA0 cA1 cA2 cA3 cA4 cA5 cA6
  have lA := lt_of_cell cA0
  go_wp2_with fail
  refine (heldByteS_k ag cg (bodyR k y c t m f b).length 1 w7 (HOg.out.mem (ag, bys (marksB 1 (bodyR k y c t m f b).length)) (by simp)) HR24.out (by decide)).mono ?_
  rintro x w8 ⟨rfl, hw⟩
  clear cA0 cA1 cA2 cA3 cA4 cA5 cA6 lA
  subst hw
  have cA0 := cell_at HOA.out.mem 0 (by simp)
  have cA1 := cell_at HOA.out.mem 1 (by simp)
  have cA2 := cell_at HOA.out.mem 2 (by simp)
  have cA3 := cell_at HOA.out.mem 3 (by simp)
  have cA4 := cell_at HOA.out.mem 4 (by simp)
  have cA5 := cell_at HOA.out.mem 5 (by simp)
  have cA6 := cell_at HOA.out.mem 6 (by simp)
  simp only [Nat.zero_add, List.getElem_cons_zero, List.getElem_cons_succ] at cA0 cA1 cA2 cA3 cA4 cA5 cA6
  have lA := lt_of_cell cA0
  go_wp2_with fail
  refine (toEvent_k k y c t m f b w8).mono ?_
  rintro x w9 ⟨rfl, hk⟩
  clear cA0 cA1 cA2 cA3 cA4 cA5 cA6 lA
  replace HK := hide (HK.out.trans hk)
  replace HOA := hide (HOA.out.kept hk)
  replace HOw := hide (HOw.out.kept hk)
  replace HOg := hide (HOg.out.kept hk)
  clear hk
  have cA0 := cell_at HOA.out.mem 0 (by simp)
  have cA1 := cell_at HOA.out.mem 1 (by simp)
  have cA2 := cell_at HOA.out.mem 2 (by simp)
  have cA3 := cell_at HOA.out.mem 3 (by simp)
  have cA4 := cell_at HOA.out.mem 4 (by simp)
  have cA5 := cell_at HOA.out.mem 5 (by simp)
  have cA6 := cell_at HOA.out.mem 6 (by simp)
  simp only [Nat.zero_add, List.getElem_cons_zero, List.getElem_cons_succ] at cA0 cA1 cA2 cA3 cA4 cA5 cA6
  have lA := lt_of_cell cA0
  go_wp2_with fail
  refine (body_impl k y c t m f b w9).mono ?_
  rintro x w10 ⟨v, rfl, ho, hk⟩
  obtain ⟨ah, ch, rfl, _, hb⟩ := Born.of_owns ho
  clear ho
  clear cA0 cA1 cA2 cA3 cA4 cA5 cA6 lA
  have HDA_h := hide (hb.apart HOA.out.mem)
  have HDh_A := hide (hb.apart' HOA.out.mem)
  have HDw_h := hide (hb.apart HOw.out.mem)
  have HDh_w := hide (hb.apart' HOw.out.mem)
  have HDg_h := hide (hb.apart HOg.out.mem)
  have HDh_g := hide (hb.apart' HOg.out.mem)
  have HNh := hide ((hb.old HK.out).new)
  replace HK := hide (HK.out.trans hk)
  replace HOA := hide (HOA.out.kept hk)
  replace HOw := hide (HOw.out.kept hk)
  replace HOg := hide (HOg.out.kept hk)
  have HOh := hide hb.toOwn
  clear hb hk
  have cA0 := cell_at HOA.out.mem 0 (by simp)
  have cA1 := cell_at HOA.out.mem 1 (by simp)
  have cA2 := cell_at HOA.out.mem 2 (by simp)
  have cA3 := cell_at HOA.out.mem 3 (by simp)
  have cA4 := cell_at HOA.out.mem 4 (by simp)
  have cA5 := cell_at HOA.out.mem 5 (by simp)
  have cA6 := cell_at HOA.out.mem 6 (by simp)
  simp only [Nat.zero_add, List.getElem_cons_zero, List.getElem_cons_succ] at cA0 cA1 cA2 cA3 cA4 cA5 cA6
  have lA := lt_of_cell cA0
  go_wp2_with fail
  have hq := eqByteS_k ah aw ch cw (bodyR k y c t m f b) (bodyR k y c t m f b) w10 (HOh.out.mem (ah, bys (bodyR k y c t m f b)) (by simp)) (HOw.out.mem (aw, bys (bodyR k y c t m f b)) (by simp)) HR24.out HR24.out
  rw [decide_eq_true rfl] at hq
  refine hq.mono ?_
  clear hq
  rintro x w11 ⟨rfl, hk⟩
  clear cA0 cA1 cA2 cA3 cA4 cA5 cA6 lA
  replace HK := hide (HK.out.trans hk)
  replace HOA := hide (HOA.out.kept hk)
  replace HOw := hide (HOw.out.kept hk)
  replace HOg := hide (HOg.out.kept hk)
  replace HOh := hide (HOh.out.kept hk)
  clear hk
  have cA0 := cell_at HOA.out.mem 0 (by simp)
  have cA1 := cell_at HOA.out.mem 1 (by simp)
  have cA2 := cell_at HOA.out.mem 2 (by simp)
  have cA3 := cell_at HOA.out.mem 3 (by simp)
  have cA4 := cell_at HOA.out.mem 4 (by simp)
  have cA5 := cell_at HOA.out.mem 5 (by simp)
  have cA6 := cell_at HOA.out.mem 6 (by simp)
  simp only [Nat.zero_add, List.getElem_cons_zero, List.getElem_cons_succ] at cA0 cA1 cA2 cA3 cA4 cA5 cA6
  have lA := lt_of_cell cA0
  go_wp2_with fail
  refine (heldByteS_k ag cg (bodyR k y c t m f b).length 1 w11 (HOg.out.mem (ag, bys (marksB 1 (bodyR k y c t m f b).length)) (by simp)) HR24.out (by decide)).mono ?_
  rintro x w12 ⟨rfl, hw⟩
  clear cA0 cA1 cA2 cA3 cA4 cA5 cA6 lA
  subst hw
  go_wp2_with fail
  go_ret
  exact ⟨rfl, HK.out⟩

theorem own : ownKnob Try.prog.godebug = none := by kernel_rfl
theorem laidOut : laidOutB Try.prog = true := by kernel_rfl

set_option maxRecDepth 100000 in
theorem lifted (os : Os) (started : os.Started) (H : Type) (enc : TypeId × Value → H) :
    ReturnsInHanded {} Try.checked os 11 .any (Rows.fnExactEventBodySpec.pre6 enc Try.prog Try.f11 Rows.fnExactEventBodyRow.domain false) (Rows.fnExactEventBodySpec.post enc Try.prog Try.f11 false true false false) := by
  refine returnsInHanded_of_change (C := Try.checked) own started (by kernel_rfl) Try.func11
    (ChangeSpec.witness6 (enc := enc) (C := Try.checked) false ⟨#[], #[.agg #[.int .i64 0, .int .i64 0, .int .i64 0, .int .i64 0, .int .i64 0, .int .i64 0, .bool false]], []⟩ 8 (by kernel_rfl) (by kernel_rfl) (by kernel_rfl) (by kernel_rfl)) ?_
  intro W base args ds gs before hval0 hW hcnd _
  have hval : ∀ (j : Nat) t v, Try.f11.params[j]? = some t → args[j]? = some v → Value.okWide Try.prog W .any base t v := hval0
  have hW' := hW
  obtain ⟨p, q, hA0, hV, rfl, hfz, hnd⟩ := hW
  have hA : DataW.TrodAll enc Try.prog W 0 (fun _ => true) true Try.f11.params.toList args.toList ds p := hA0
  rw [Try.params11] at hA hval
  obtain ⟨v0, vs0, d0, ds0, p0, q0, hargs, rfl, rfl, h0, r0⟩ := trodAll_cons hA
  obtain ⟨rfl, rfl, rfl⟩ := trodAll_nil r0
  obtain rfl : args = #[v0] := by cases args; simp_all
  obtain ⟨rfl, rfl⟩ := trodVars_none hV
  have lt0 := lt_rowE h0
  have k0 := h0
  obtain ⟨k0e, y0, c0, t0, m0, f0, b0, rfl, wk0, wy0, wc0, wt0, wm0, wf0⟩ := event_row (hval 0 87 v0 rfl rfl) h0
  clear hA0 hval0
  refine (walk k0e y0 c0 t0 m0 f0 b0 W wk0 wy0 wc0 wt0 wm0 wf0).mono fun e W' ⟨he, hb⟩ => ?_
  subst he
  refine ⟨_, rfl, _, _, _, [], (p0 ++ []), [], hW', ?_, ?_, ?_, Below.frame hb _, fun h => by cases h⟩
  · exact trodAll_mk1 (shut_bool Try.underlying4 _)
  · exact (trodAll_cons_mk (Below.trod laidOut (by kernel_rfl) (of_decide_eq_true (by kernel_rfl)) k0 hb lt0) trodAll_mk0)
  · exact rfl

theorem over : Rows.fnExactEventBodyRow.holds Try.pinned (OpenSpec.ofChange Rows.fnExactEventBodySpec) :=
  OpenClaim.holds_of_wide 11 Try.f11 rfl rfl rfl rfl rfl rfl rfl ⟨rfl, rfl, rfl, rfl, rfl⟩ rfl rfl rfl rfl rfl (by kernel_rfl) Try.func11 (by kernel_rfl)
    (of_decide_eq_true (by kernel_rfl)) (by unfold Func.isWrapper; first | (rw [if_pos (by decide +kernel)]; kernel_rfl) | (rw [if_neg (by decide +kernel)]; exact ⟨rfl, rfl⟩))
    (fun os started H enc _ => lifted os started H enc)
end Go.Proofs.Ytmjgddgpoecpmaa.fnExactEventBody
namespace Go.Proofs.Ytmjgddgpoecpmaa
theorem fnExactEventBody_said : Rows.FnExactEventBodySaid := fnExactEventBody.over
end Go.Proofs.Ytmjgddgpoecpmaa
