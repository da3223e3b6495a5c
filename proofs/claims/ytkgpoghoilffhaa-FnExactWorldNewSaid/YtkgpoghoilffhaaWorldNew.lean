/- WorldNew of the program answers at every number as the model does: the same world, the same bool; its answer's memory is its own, behind another call too. -/
import Derived.Test.YtkgpoghoilffhaaWo
import Derived.Test.YtkgpoghoilffhaaRows
import Derived.WalkKit
import Derived.ProofKit
import Derived.OpenShut
import Derived.ChangeOld
import Derived.Below
namespace Go.Proofs.Ytkgpoghoilffhaa.fnExactWorldNew
open Go.ChangeShapes Go.WideShapes Go.ChangeAt Go.RowKit
set_option linter.unusedVariables false
set_option maxRecDepth 100000 in
set_option maxHeartbeats 4000000 in
theorem walk (n : Int) (w : World) (hn : (Lit.int .i64 n).wf = true) : Calls Try.prog 3 #[.int .i64 n] w fun e w' => e = .returned (.bool true) ∧ Keeps w w' := by
  clear hn
  go_enter Try.func3, Try.ntmps3
  go_wp2_with fail
  refine (worldnew_spec n w).mono ?_
  rintro x w1 ⟨v, rfl, hr, hk⟩
  obtain ⟨Aw, rfl, hsw, h1w⟩ := wld_agg hr
  obtain ⟨caw, ccw, csw, daw, dcw, dsw, hAw, hew, hdw, _, _, hbw⟩ := hr
  have HAw := hide hAw
  have HEw := hide hew
  have HDw := hide hdw
  have HBw := hide hbw
  have HK := hide hk
  clear hAw hew hdw hbw hk
  go_wp2_with (refine wp_newW rfl rfl (some 3) rfl rfl (.tmp 3) (.tmp 14) rfl Aw rfl rfl hsw h1w ?_)
  have hk := Keeps.alloc (Keeps.refl w1) (.cells Aw 41)
  have HVw := hide (range_new w1 Aw 41)
  have HSZ : Hid (w1.heap.size < (w1.alloc (.cells Aw 41)).heap.size) := by show _ < _; simp
  generalize w1.alloc (.cells Aw 41) = w2 at *
  replace HK := hide (HK.out.trans hk)
  have HOw := hide (HBw.out.toOwn.kept hk)
  clear hk
  generalize w1.heap.size = bw at *
  refine (worldnew_impl n w2).mono ?_
  rintro x w3 ⟨v, rfl, hr, hk⟩
  obtain ⟨Ag, rfl, hsg, h1g⟩ := wld_agg hr
  obtain ⟨cag, ccg, csg, dag, dcg, dsg, hAg, heg, hdg, _, _, hbg⟩ := hr
  have HAg := hide hAg
  have HEg := hide heg
  have HDg := hide hdg
  have HNg : Hid (∀ b ∈ fp (dsk cag csg dag dsg), w.heap.size ≤ b ∧ b ≠ bw ∧ b < w3.heap.size) := fun b hb => by
    have h1 := hbg.new b hb
    have h2 := HSZ.out
    have h3 := HK.out.size
    have h4 := hbg.mem.lt b hb
    omega
  have HAP := hide (hbg.apart HOw.out.mem)
  have HOg := hide hbg.toOwn
  replace HK := hide (HK.out.trans hk)
  replace HOw := hide (HOw.out.kept hk)
  replace HVw := hide (range_kept HVw.out hk)
  have HEQ := hide (fun W hm hm' => eqWorld_d cag ccg csg dag dcg dsg caw ccw csw daw dcw dsw W (HEw.out.trans HEg.out.symm) hm hm' HDg.out)
  have HMK := hide (fun W ho => markWorld_d cag ccg csg dag dcg dsg W ho HDg.out)
  have HHD := hide (fun W hm => heldWorld_d cag ccg csg dag dcg dsg W hm HDg.out)
  have hnn : ¬ (((1 + tot csg + dsg.length + totW dsg : Nat) : Int) < 0) := Int.not_lt.2 (Int.natCast_nonneg _)
  generalize 1 + tot csg + dsg.length + totW dsg = N at *
  rw [← HAg.out, ← HAw.out] at HEQ
  rw [← HAg.out] at HMK HHD
  clear hAg heg hdg hbg hk HSZ HBw
  go_upto_region 3 with (refine wp_newW rfl rfl (some 5) rfl rfl (.tmp 5) (.tmp 19) rfl Ag rfl rfl hsg h1g ?_)
  have hk := Keeps.alloc (Keeps.refl w3) (.cells Ag 41)
  have HVg := hide (range_new w3 Ag 41)
  generalize w3.alloc (.cells Ag 41) = w4 at *
  replace HK := hide (HK.out.trans hk)
  replace HOw := hide (HOw.out.kept hk)
  replace HOg := hide (HOg.out.kept hk)
  replace HVw := hide (range_kept HVw.out hk)
  clear hk
  generalize w3.heap.size = bg at *
  go_wp2_with (first | (refine wp_loadW rfl (.tmp 5) rfl bg Ag rfl hsg HVg.out ?_) | (refine wp_loadWo (.tmp 5) rfl bg Ag rfl hsg HVg.out ?_) | (refine wp_loadW rfl (.tmp 3) rfl bw Aw rfl hsw HVw.out ?_) | (refine wp_loadWo (.tmp 3) rfl bw Aw rfl hsw HVw.out ?_))
  refine (unhide HEQ w4 HOg.out.mem HOw.out.mem).mono ?_
  rintro x w5 ⟨rfl, hk⟩
  replace HK := hide (HK.out.trans hk)
  replace HOw := hide (HOw.out.kept hk)
  replace HOg := hide (HOg.out.kept hk)
  replace HVw := hide (range_kept HVw.out hk)
  replace HVg := hide (range_kept HVg.out hk)
  clear hk
  go_wp2_with (first | (refine wp_loadW rfl (.tmp 5) rfl bg Ag rfl hsg HVg.out ?_) | (refine wp_loadWo (.tmp 5) rfl bg Ag rfl hsg HVg.out ?_) | (refine wp_loadW rfl (.tmp 3) rfl bw Aw rfl hsw HVw.out ?_) | (refine wp_loadWo (.tmp 3) rfl bw Aw rfl hsw HVw.out ?_))
  refine (unhide HMK w5 HOg.out).mono ?_
  rintro x w6 ⟨rfl, ho, ht⟩
  replace HK := hide (ht.keeps HK.out (fun b hb => (HNg.out b hb).1))
  replace HOw := hide (HOw.out.turn ht HAP.out)
  replace HVw := hide (range_turn HVw.out ht (fun hb => (HNg.out _ hb).2.1 rfl))
  replace HVg := hide (range_turn HVg.out ht (fun hb => Nat.lt_irrefl _ (HNg.out _ hb).2.2))
  replace HOg := hide ho
  clear ho ht
  go_wp2_with (first | (refine wp_loadW rfl (.tmp 5) rfl bg Ag rfl hsg HVg.out ?_) | (refine wp_loadWo (.tmp 5) rfl bg Ag rfl hsg HVg.out ?_) | (refine wp_loadW rfl (.tmp 3) rfl bw Aw rfl hsw HVw.out ?_) | (refine wp_loadWo (.tmp 3) rfl bw Aw rfl hsw HVw.out ?_))
  refine (unhide HHD w6 HOg.out.mem).mono ?_
  rintro x w7 ⟨rfl, hk⟩
  replace HK := hide (HK.out.trans hk)
  replace HOw := hide (HOw.out.kept hk)
  replace HOg := hide (HOg.out.kept hk)
  replace HVw := hide (range_kept HVw.out hk)
  replace HVg := hide (range_kept HVg.out hk)
  clear hk
  go_wp2_with fail
  refine (worldnew_impl n w7).mono ?_
  rintro x w8 ⟨v, rfl, hr, hk⟩
  obtain ⟨Ah, rfl, hsh, h1h⟩ := wld_agg hr
  obtain ⟨cah, cch, csh, dah, dch, dsh, hAh, heh, hdh, _, _, hbh⟩ := hr
  have HAh := hide hAh
  have HOh := hide hbh.toOwn
  replace HK := hide (HK.out.trans hk)
  replace HOw := hide (HOw.out.kept hk)
  replace HOg := hide (HOg.out.kept hk)
  replace HVw := hide (range_kept HVw.out hk)
  replace HVg := hide (range_kept HVg.out hk)
  have HEH := hide (fun W hm hm' => eqWorld_d cah cch csh dah dch dsh caw ccw csw daw dcw dsw W (HEw.out.trans heh.symm) hm hm' hdh)
  rw [← HAh.out, ← HAw.out] at HEH
  clear hAh heh hdh hbh hk
  go_upto_region 14 with (refine wp_newW rfl rfl (some 9) rfl rfl (.tmp 9) (.tmp 44) rfl Ah rfl rfl hsh h1h ?_)
  have hk := Keeps.alloc (Keeps.refl w8) (.cells Ah 41)
  have HVh := hide (range_new w8 Ah 41)
  generalize w8.alloc (.cells Ah 41) = w9 at *
  replace HK := hide (HK.out.trans hk)
  replace HOw := hide (HOw.out.kept hk)
  replace HOg := hide (HOg.out.kept hk)
  replace HOh := hide (HOh.out.kept hk)
  replace HVw := hide (range_kept HVw.out hk)
  replace HVg := hide (range_kept HVg.out hk)
  clear hk
  generalize w8.heap.size = bh at *
  go_wp2_with (first | (refine wp_loadW rfl (.tmp 9) rfl bh Ah rfl hsh HVh.out ?_) | (refine wp_loadWo (.tmp 9) rfl bh Ah rfl hsh HVh.out ?_) | (refine wp_loadW rfl (.tmp 3) rfl bw Aw rfl hsw HVw.out ?_) | (refine wp_loadWo (.tmp 3) rfl bw Aw rfl hsw HVw.out ?_))
  refine (unhide HEH w9 HOh.out.mem HOw.out.mem).mono ?_
  rintro x w10 ⟨rfl, hk⟩
  replace HK := hide (HK.out.trans hk)
  replace HOg := hide (HOg.out.kept hk)
  replace HVg := hide (range_kept HVg.out hk)
  clear hk
  go_wp2_with (first | (refine wp_loadW rfl (.tmp 5) rfl bg Ag rfl hsg HVg.out ?_) | (refine wp_loadWo (.tmp 5) rfl bg Ag rfl hsg HVg.out ?_) | (refine wp_loadW rfl (.tmp 3) rfl bw Aw rfl hsw HVw.out ?_) | (refine wp_loadWo (.tmp 3) rfl bw Aw rfl hsw HVw.out ?_))
  refine (unhide HHD w10 HOg.out.mem).mono ?_
  rintro x w11 ⟨rfl, hk⟩
  replace HK := hide (HK.out.trans hk)
  clear hk
  go_wp2_with fail
  go_ret
  exact ⟨rfl, HK.out⟩

theorem own : ownKnob Try.prog.godebug = none := by kernel_rfl
theorem laidOut : laidOutB Try.prog = true := by kernel_rfl

set_option maxRecDepth 100000 in
theorem lifted (os : Os) (started : os.Started) (H : Type) (enc : TypeId × Value → H) :
    ReturnsInHanded {} Try.checked os 3 .any (Rows.fnExactWorldNewSpec.pre6 enc Try.prog Try.f3 Rows.fnExactWorldNewRow.domain false) (Rows.fnExactWorldNewSpec.post enc Try.prog Try.f3 false true false false) := by
  refine returnsInHanded_of_change (C := Try.checked) own started (by kernel_rfl) Try.func3
    (ChangeSpec.witness6 (enc := enc) (C := Try.checked) false ⟨#[], #[.int .i64 0], []⟩ 8 (by kernel_rfl) (by kernel_rfl) (by kernel_rfl) (by kernel_rfl)) ?_
  intro W base args ds gs before hval0 hW hcnd _
  have hval : ∀ (j : Nat) t v, Try.f3.params[j]? = some t → args[j]? = some v → Value.okWide Try.prog W .any base t v := hval0
  have hW' := hW
  obtain ⟨p, q, hA0, hV, rfl, hfz, hnd⟩ := hW
  have hA : DataW.TrodAll enc Try.prog W 0 (fun _ => true) true Try.f3.params.toList args.toList ds p := hA0
  rw [Try.params3] at hA hval
  obtain ⟨v0, vs0, d0, ds0, p0, q0, hargs, rfl, rfl, h0, r0⟩ := trodAll_cons hA
  obtain ⟨rfl, rfl, rfl⟩ := trodAll_nil r0
  obtain rfl : args = #[v0] := by cases args; simp_all
  obtain ⟨rfl, rfl⟩ := trodVars_none hV
  obtain ⟨a0, rfl, rfl, rfl, w0⟩ := open_int Try.underlying3 (hval 0 3 v0 rfl rfl) h0
  clear hA0 hval0
  refine (walk a0 W w0).mono fun e W' ⟨he, hb⟩ => ?_
  subst he
  refine ⟨_, rfl, _, _, _, [], ([] ++ []), [], hW', ?_, ?_, ?_, Below.frame hb _, fun h => by cases h⟩
  · exact trodAll_mk1 (shut_bool Try.underlying4 _)
  · exact (trodAll_cons_mk (shut_int Try.underlying3 w0) trodAll_mk0)
  · exact rfl

theorem over : Rows.fnExactWorldNewRow.holds Try.pinned (OpenSpec.ofChange Rows.fnExactWorldNewSpec) :=
  OpenClaim.holds_of_wide 3 Try.f3 rfl rfl rfl rfl rfl rfl rfl ⟨rfl, rfl, rfl, rfl, rfl⟩ rfl rfl rfl rfl rfl (by kernel_rfl) Try.func3 (by kernel_rfl)
    (of_decide_eq_true (by kernel_rfl)) (by unfold Func.isWrapper; first | (rw [if_pos (by decide +kernel)]; kernel_rfl) | (rw [if_neg (by decide +kernel)]; exact ⟨rfl, rfl⟩))
    (fun os started H enc _ => lifted os started H enc)
end Go.Proofs.Ytkgpoghoilffhaa.fnExactWorldNew
namespace Go.Proofs.Ytkgpoghoilffhaa
theorem fnExactWorldNew_holds : Rows.FnExactWorldNewSaid := fnExactWorldNew.over
end Go.Proofs.Ytkgpoghoilffhaa
