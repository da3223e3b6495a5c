/- At every argument GraphOk answers as its model, and it changes no argument. -/
import Derived.Test.YtaboogkioehkeaaFgS
import Derived.Test.YtaboogkioehkeaaFgI
import Derived.Test.YtaboogkioehkeaaGrO
import Derived.Test.YtaboogkioehkeaaVars
import Derived.Test.YtaboogkioehkeaaRows
import Derived.WalkKit
import Derived.ProofKit
import Derived.OpenShut
import Derived.ChangeOld
import Derived.Below
namespace Go.Proofs.Ytaboogkioehkeaa.fnExactGraphOk
open Go.ChangeShapes Go.WideShapes Go.ChangeAt Go.RowKit
set_option linter.unusedVariables false
set_option maxRecDepth 100000 in
set_option maxHeartbeats 4000000 in
theorem walk (G : Gf) (w : World) (hm : Mem w G.segs) (hfit : G.fit) (hbig : G.E.length ≤ 9223372036854775807) :
    Calls Try.prog 5 #[G.v] w fun e w' => e = .returned (.bool true) ∧ Keeps w w' := by
  have HS := hide (fun w' => szGraph_k G 1048576 w' hbig (by decide) (by decide))
  have HT := hide (fun w' (hk : Keeps w w') (hl : G.len) => toGraph_k G w' (hm.kept hk) hl)
  clear hm hfit hbig
  obtain ⟨nn, ea, ec, E⟩ := G
  dsimp only [Gf.v] at *
  go_enter Try.func5, Try.ntmps5
  have HK := hide (Keeps.refl w)
  go_wp2_with fail
  have hb := born_alloc w #[.int .i64 nn, .slice ea E.length ec] 40
  dsimp only at hb
  have hk := Keeps.alloc (Keeps.refl w) (.cells #[.int .i64 nn, .slice ea E.length ec] 40)
  generalize w.alloc (.cells #[.int .i64 nn, .slice ea E.length ec] 40) = w1 at *
  have HNA := hide ((hb.old HK.out).new)
  replace HK := hide (HK.out.trans hk)
  have HOA := hide hb.toOwn
  clear hb hk
  have cA0 := cell_at HOA.out.mem 0 (by simp)
  have cA1 := cell_at HOA.out.mem 1 (by simp)
  simp only [Nat.zero_add, List.getElem_cons_zero, List.getElem_cons_succ] at cA0 cA1
  have lA := lt_of_cell cA0
  refine (unhide HS w1).mono ?_
  rintro x w2 ⟨r, rfl, hr1, hr, hk⟩
  clear cA0 cA1 lA
  replace HK := hide (HK.out.trans hk)
  replace HOA := hide (HOA.out.kept hk)
  clear hk
  have HL := hide hr
  clear hr HS
  by_cases hr0 : r < 0
  · go_wp2_with fail
    go_ret
    exact ⟨rfl, HK.out⟩
  replace HL := hide (HL.out (by omega))
  have cA0 := cell_at HOA.out.mem 0 (by simp)
  have cA1 := cell_at HOA.out.mem 1 (by simp)
  simp only [Nat.zero_add, List.getElem_cons_zero, List.getElem_cons_succ] at cA0 cA1
  have lA := lt_of_cell cA0
  go_wp2_with fail
  refine (unhide HT w2 HK.out HL.out).mono ?_
  rintro x w3 ⟨b1, rfl, hb, hk⟩
  clear cA0 cA1 lA
  have HDA_s := hide (hb.apart HOA.out.mem)
  have HDs_A := hide (hb.apart' HOA.out.mem)
  have HNs := hide ((hb.old HK.out).new)
  replace HK := hide (HK.out.trans hk)
  replace HOA := hide (HOA.out.kept hk)
  have HOs := hide hb.toOwn
  clear hb hk
  have cA0 := cell_at HOA.out.mem 0 (by simp)
  have cA1 := cell_at HOA.out.mem 1 (by simp)
  simp only [Nat.zero_add, List.getElem_cons_zero, List.getElem_cons_succ] at cA0 cA1
  have lA := lt_of_cell cA0
  go_wp2_with fail
  refine (graph_spec ⟨nn, some ⟨b1, 0, none⟩, E.length, E⟩ w3 HOs.out.mem HL.out).mono ?_
  rintro x w4 ⟨rfl, hk⟩
  clear cA0 cA1 lA
  replace HK := hide (HK.out.trans hk)
  replace HOA := hide (HOA.out.kept hk)
  replace HOs := hide (HOs.out.kept hk)
  clear hk
  clear HOs HNs HDA_s HDs_A
  dsimp only
  have hrr : (graphB nn E != graphB nn E) = false := by simp
  have cA0 := cell_at HOA.out.mem 0 (by simp)
  have cA1 := cell_at HOA.out.mem 1 (by simp)
  simp only [Nat.zero_add, List.getElem_cons_zero, List.getElem_cons_succ] at cA0 cA1
  have lA := lt_of_cell cA0
  go_wp2_with fail
  refine (unhide HT w4 HK.out HL.out).mono ?_
  rintro x w5 ⟨b2, rfl, hb, hk⟩
  clear cA0 cA1 lA
  have HDA_x := hide (hb.apart HOA.out.mem)
  have HDx_A := hide (hb.apart' HOA.out.mem)
  have HNx := hide ((hb.old HK.out).new)
  replace HK := hide (HK.out.trans hk)
  replace HOA := hide (HOA.out.kept hk)
  have HOx := hide hb.toOwn
  clear hb hk
  have cA0 := cell_at HOA.out.mem 0 (by simp)
  have cA1 := cell_at HOA.out.mem 1 (by simp)
  simp only [Nat.zero_add, List.getElem_cons_zero, List.getElem_cons_succ] at cA0 cA1
  have lA := lt_of_cell cA0
  go_wp2_with fail
  have hb := born_alloc w5 #[.int .i64 nn, .slice (some ⟨b2, 0, none⟩) E.length E.length] 25
  dsimp only at hb
  have hk := Keeps.alloc (Keeps.refl w5) (.cells #[.int .i64 nn, .slice (some ⟨b2, 0, none⟩) E.length E.length] 25)
  generalize w5.alloc (.cells #[.int .i64 nn, .slice (some ⟨b2, 0, none⟩) E.length E.length] 25) = w6 at *
  clear cA0 cA1 lA
  have HDA_X := hide (hb.apart HOA.out.mem)
  have HDX_A := hide (hb.apart' HOA.out.mem)
  have HDx_X := hide (hb.apart HOx.out.mem)
  have HDX_x := hide (hb.apart' HOx.out.mem)
  have HNX := hide ((hb.old HK.out).new)
  replace HK := hide (HK.out.trans hk)
  replace HOA := hide (HOA.out.kept hk)
  replace HOx := hide (HOx.out.kept hk)
  have HOX := hide hb.toOwn
  clear hb hk
  have cA0 := cell_at HOA.out.mem 0 (by simp)
  have cA1 := cell_at HOA.out.mem 1 (by simp)
  simp only [Nat.zero_add, List.getElem_cons_zero, List.getElem_cons_succ] at cA0 cA1
  have lA := lt_of_cell cA0
  have cX0 := cell_at HOX.out.mem 0 (by simp)
  have cX1 := cell_at HOX.out.mem 1 (by simp)
  simp only [Nat.zero_add, List.getElem_cons_zero, List.getElem_cons_succ] at cX0 cX1
  have lX := lt_of_cell cX0
  go_wp2_with fail
  refine (graph_impl ⟨nn, some ⟨b2, 0, none⟩, E.length, E⟩ w6 HOx.out.mem HL.out).mono ?_
  rintro x w7 ⟨rfl, hk⟩
  clear cA0 cA1 lA cX0 cX1 lX
  replace HK := hide (HK.out.trans hk)
  replace HOA := hide (HOA.out.kept hk)
  replace HOx := hide (HOx.out.kept hk)
  replace HOX := hide (HOX.out.kept hk)
  clear hk
  have cA0 := cell_at HOA.out.mem 0 (by simp)
  have cA1 := cell_at HOA.out.mem 1 (by simp)
  simp only [Nat.zero_add, List.getElem_cons_zero, List.getElem_cons_succ] at cA0 cA1
  have lA := lt_of_cell cA0
  have cX0 := cell_at HOX.out.mem 0 (by simp)
  have cX1 := cell_at HOX.out.mem 1 (by simp)
  simp only [Nat.zero_add, List.getElem_cons_zero, List.getElem_cons_succ] at cX0 cX1
  have lX := lt_of_cell cX0
  dsimp only
  go_wp2_with fail
  go_region_held3 (fun w' => w'.cell? ⟨w5.heap.size, 0, none⟩ = some (.int .i64 nn) ∧ w'.cell? ⟨w5.heap.size, 1, none⟩ = some (.slice (some ⟨b2, 0, none⟩) E.length E.length) ∧ w'.cell? ⟨w.heap.size, 0, none⟩ = some (.int .i64 nn) ∧ w'.cell? ⟨w.heap.size, 1, none⟩ = some (.slice ea E.length ec)) (go_keep)
    (first
       | (go_at_call 24
          refine (unhide HT _ (HK.out.trans (Keeps.refl w7).drew) HL.out).mono ?_
          rintro x w8 ⟨by1, rfl, hb, hk⟩
          replace hb := hb.old ((Keeps.refl w7).drew)
          replace hk := ((Keeps.refl w7).drew).trans hk
          clear cA0 cA1 lA cX0 cX1 lX
          have HDA_y := hide (hb.apart HOA.out.mem)
          have HDy_A := hide (hb.apart' HOA.out.mem)
          have HDx_y := hide (hb.apart HOx.out.mem)
          have HDy_x := hide (hb.apart' HOx.out.mem)
          have HDX_y := hide (hb.apart HOX.out.mem)
          have HDy_X := hide (hb.apart' HOX.out.mem)
          have HNy := hide ((hb.old HK.out).new)
          replace HK := hide (HK.out.trans hk)
          replace HOA := hide (HOA.out.kept hk)
          replace HOx := hide (HOx.out.kept hk)
          replace HOX := hide (HOX.out.kept hk)
          have HOy := hide hb.toOwn
          clear hb hk
          have cX0 := cell_at HOX.out.mem 0 (by simp)
          have cX1 := cell_at HOX.out.mem 1 (by simp)
          simp only [Nat.zero_add, List.getElem_cons_zero, List.getElem_cons_succ] at cX0 cX1
          have lX := lt_of_cell cX0
          have cA0 := cell_at HOA.out.mem 0 (by simp)
          have cA1 := cell_at HOA.out.mem 1 (by simp)
          simp only [Nat.zero_add, List.getElem_cons_zero, List.getElem_cons_succ] at cA0 cA1
          have lA := lt_of_cell cA0)
       | (go_at_call 26
          refine (eqGraph_k ⟨nn, some ⟨b2, 0, none⟩, E.length, E⟩ ⟨nn, some ⟨by1, 0, none⟩, E.length, E⟩ w8 rfl HOx.out.mem HOy.out.mem HL.out).mono ?_
          rintro x w9 ⟨rfl, hk⟩
          clear cX0 cX1 lX cA0 cA1 lA
          replace HK := hide (HK.out.trans hk)
          replace HOA := hide (HOA.out.kept hk)
          replace HOx := hide (HOx.out.kept hk)
          replace HOX := hide (HOX.out.kept hk)
          replace HOy := hide (HOy.out.kept hk)
          clear hk
          have cX0 := cell_at HOX.out.mem 0 (by simp)
          have cX1 := cell_at HOX.out.mem 1 (by simp)
          simp only [Nat.zero_add, List.getElem_cons_zero, List.getElem_cons_succ] at cX0 cX1
          have lX := lt_of_cell cX0
          have cA0 := cell_at HOA.out.mem 0 (by simp)
          have cA1 := cell_at HOA.out.mem 1 (by simp)
          simp only [Nat.zero_add, List.getElem_cons_zero, List.getElem_cons_succ] at cA0 cA1
          have lA := lt_of_cell cA0))
  clear HOy HNy HDA_y HDy_A HDx_y HDy_x HDX_y HDy_X
  clear cX0 cX1 lX cA0 cA1 lA
  have cA0 := cell_at HOA.out.mem 0 (by simp)
  have cA1 := cell_at HOA.out.mem 1 (by simp)
  simp only [Nat.zero_add, List.getElem_cons_zero, List.getElem_cons_succ] at cA0 cA1
  have lA := lt_of_cell cA0
  have cX0 := cell_at HOX.out.mem 0 (by simp)
  have cX1 := cell_at HOX.out.mem 1 (by simp)
  simp only [Nat.zero_add, List.getElem_cons_zero, List.getElem_cons_succ] at cX0 cX1
  have lX := lt_of_cell cX0
  go_wp2_with fail
  go_ret
  exact ⟨rfl, HK.out⟩

theorem own : ownKnob Try.prog.godebug = none := by kernel_rfl
theorem laidOut : laidOutB Try.prog = true := by kernel_rfl

set_option maxRecDepth 100000 in
theorem lifted (os : Os) (started : os.Started) (H : Type) (enc : TypeId × Value → H) :
    ReturnsInHanded {} Try.checked os 5 .any (Rows.fnExactGraphOkSpec.pre6 enc Try.prog Try.f5 Rows.fnExactGraphOkRow.domain false) (Rows.fnExactGraphOkSpec.post enc Try.prog Try.f5 false true false false) := by
  refine returnsInHanded_of_change (C := Try.checked) own started (by kernel_rfl) Try.func5
    (ChangeSpec.witness6 (enc := enc) (C := Try.checked) false ⟨#[], #[.agg #[.int .i64 0, .slice none 0 0]], []⟩ 8 (by kernel_rfl) (by kernel_rfl) (by kernel_rfl) (by kernel_rfl)) ?_
  intro W base args ds gs before hval0 hW hcnd _
  have hval : ∀ (j : Nat) t v, Try.f5.params[j]? = some t → args[j]? = some v → Value.okWide Try.prog W .any base t v := hval0
  have hW' := hW
  obtain ⟨p, q, hA0, hV, rfl, hfz, hnd⟩ := hW
  have hA : DataW.TrodAll enc Try.prog W 0 (fun _ => true) true Try.f5.params.toList args.toList ds p := hA0
  rw [Try.params5] at hA hval
  obtain ⟨v0, vs0, d0, ds0, p0, q0, hargs, rfl, rfl, h0, r0⟩ := trodAll_cons hA
  obtain ⟨rfl, rfl, rfl⟩ := trodAll_nil r0
  obtain rfl : args = #[v0] := by cases args; simp_all
  obtain ⟨rfl, rfl⟩ := trodVars_none hV
  have lt0 := lt_row h0
  have k0 := h0
  obtain ⟨G0, rfl, hm0, hf0, hb0⟩ := graph_row (hval 0 40 v0 rfl rfl) h0
  clear hA0 hval0
  refine (walk G0 W hm0 hf0 hb0).mono fun e W' ⟨he, hb⟩ => ?_
  subst he
  refine ⟨_, rfl, _, _, _, [], (p0 ++ []), [], hW', ?_, ?_, ?_, Below.frame hb _, fun h => by cases h⟩
  · exact trodAll_mk1 (shut_bool Try.underlying4 _)
  · exact (trodAll_cons_mk (Below.trod laidOut (by kernel_rfl) (of_decide_eq_true (by kernel_rfl)) k0 hb lt0) trodAll_mk0)
  · exact rfl

theorem over : Rows.fnExactGraphOkRow.holds Try.pinned (OpenSpec.ofChange Rows.fnExactGraphOkSpec) :=
  OpenClaim.holds_of_wide 5 Try.f5 rfl rfl rfl rfl rfl rfl rfl ⟨rfl, rfl, rfl, rfl, rfl⟩ rfl rfl rfl rfl rfl (by kernel_rfl) Try.func5 (by kernel_rfl)
    (of_decide_eq_true (by kernel_rfl)) (by unfold Func.isWrapper; first | (rw [if_pos (by decide +kernel)]; kernel_rfl) | (rw [if_neg (by decide +kernel)]; exact ⟨rfl, rfl⟩))
    (fun os started H enc _ => lifted os started H enc)
end Go.Proofs.Ytaboogkioehkeaa.fnExactGraphOk
namespace Go.Proofs.Ytaboogkioehkeaa
theorem fnExactGraphOk_holds : Rows.FnExactGraphOkSaid := fnExactGraphOk.over
end Go.Proofs.Ytaboogkioehkeaa
