/- At every int DiskNew of the program answers as that of the model, and its answer owns its memory; no condition. -/
import Derived.Test.YtmcidfjcppbocaaKeep
import Derived.Test.YtmcidfjcppbocaaOpen
import Derived.Test.YtmcidfjcppbocaaMem
import Derived.Test.YtmcidfjcppbocaaByt
import Derived.Test.YtmcidfjcppbocaaApn
import Derived.Test.YtmcidfjcppbocaaDsk
import Derived.Test.YtmcidfjcppbocaaVars
import Derived.Test.YtmcidfjcppbocaaSec
import Derived.Test.YtmcidfjcppbocaaLst
import Derived.Test.YtmcidfjcppbocaaDG
import Derived.Test.YtmcidfjcppbocaaDGC
import Derived.Test.YtmcidfjcppbocaaDGD
import Derived.Test.YtmcidfjcppbocaaDGW
import Derived.Test.YtmcidfjcppbocaaDGX
import Derived.Test.YtmcidfjcppbocaaDGK
import Derived.Test.YtmcidfjcppbocaaDOk
import Derived.Test.YtmcidfjcppbocaaDW
import Derived.Test.YtmcidfjcppbocaaDN
import Derived.Test.YtmcidfjcppbocaaRows
import Derived.WalkKit
import Derived.ProofKit
import Derived.OpenShut
import Derived.ChangeOld
import Derived.Below
namespace Go.Proofs.Ytmcidfjcppbocaa.fnExactDiskNew
open Go.ChangeShapes Go.WideShapes Go.ChangeAt Go.RowKit
set_option linter.unusedVariables false
set_option maxHeartbeats 4000000 in
theorem walk (n : Int) (w : World) (hn : (Lit.int .i64 n).wf = true) : Calls Try.prog 8 #[.int .i64 n] w fun e w' => e = .returned (.bool true) ∧ Keeps w w' := by
  clear hn
  go_enter Try.func8, Try.ntmps8
  have HK := hide (Keeps.refl w)
  go_wp2_with fail
  refine (disknew_spec n w).mono ?_
  rintro x w1 ⟨v, rfl, hr, hk⟩
  obtain ⟨caw, ccw, csw, daw, dcw, dsw, rfl, hew, hokw, hnaw, hndw, hb⟩ := hr
  have HEw := hide hew
  have HKw := hide hokw
  have HAw := hide hnaw
  have HBw := hide hndw
  clear hew hokw hnaw hndw
  have HNw := hide ((hb.old HK.out).new)
  replace HK := hide (HK.out.trans hk)
  have HOw := hide hb.toOwn
  clear hb hk
  go_wp2_with fail
  have hb := born_alloc w1 #[.slice caw csw.length ccw, .slice daw dsw.length dcw] 26
  dsimp only at hb
  have hk := Keeps.alloc (Keeps.refl w1) (.cells #[.slice caw csw.length ccw, .slice daw dsw.length dcw] 26)
  generalize w1.alloc (.cells #[.slice caw csw.length ccw, .slice daw dsw.length dcw] 26) = w2 at *
  have HDw_VW := hide (hb.apart HOw.out.mem)
  have HDVW_w := hide (hb.apart' HOw.out.mem)
  have HNVW := hide ((hb.old HK.out).new)
  replace HK := hide (HK.out.trans hk)
  replace HOw := hide (HOw.out.kept hk)
  have HOVW := hide hb.toOwn
  clear hb hk
  refine (disknew_impl n w2).mono ?_
  rintro x w3 ⟨v, rfl, hr, hk⟩
  obtain ⟨cag, ccg, csg, dag, dcg, dsg, rfl, heg, hokg, hnag, hndg, hb⟩ := hr
  have HEg := hide heg
  have HKg := hide hokg
  have HAg := hide hnag
  have HBg := hide hndg
  clear heg hokg hnag hndg
  have HDw_g := hide (hb.apart HOw.out.mem)
  have HDg_w := hide (hb.apart' HOw.out.mem)
  have HDVW_g := hide (hb.apart HOVW.out.mem)
  have HDg_VW := hide (hb.apart' HOVW.out.mem)
  have HNg := hide ((hb.old HK.out).new)
  replace HK := hide (HK.out.trans hk)
  replace HOw := hide (HOw.out.kept hk)
  replace HOVW := hide (HOVW.out.kept hk)
  have HOg := hide hb.toOwn
  clear hb hk
  have cVW0 := cell_at HOVW.out.mem 0 (by simp)
  have cVW1 := cell_at HOVW.out.mem 1 (by simp)
  simp only [Nat.zero_add, List.getElem_cons_zero, List.getElem_cons_succ] at cVW0 cVW1
  have lVW := lt_of_cell cVW0
  go_wp2_with fail
  have hb := born_alloc w3 #[.slice cag csg.length ccg, .slice dag dsg.length dcg] 26
  dsimp only at hb
  have hk := Keeps.alloc (Keeps.refl w3) (.cells #[.slice cag csg.length ccg, .slice dag dsg.length dcg] 26)
  generalize w3.alloc (.cells #[.slice cag csg.length ccg, .slice dag dsg.length dcg] 26) = w4 at *
  clear cVW0 cVW1 lVW
  have HDw_VG := hide (hb.apart HOw.out.mem)
  have HDVG_w := hide (hb.apart' HOw.out.mem)
  have HDVW_VG := hide (hb.apart HOVW.out.mem)
  have HDVG_VW := hide (hb.apart' HOVW.out.mem)
  have HDg_VG := hide (hb.apart HOg.out.mem)
  have HDVG_g := hide (hb.apart' HOg.out.mem)
  have HNVG := hide ((hb.old HK.out).new)
  replace HK := hide (HK.out.trans hk)
  replace HOw := hide (HOw.out.kept hk)
  replace HOVW := hide (HOVW.out.kept hk)
  replace HOg := hide (HOg.out.kept hk)
  have HOVG := hide hb.toOwn
  clear hb hk
  refine (eqDisk' cag ccg csg dag dcg dsg caw ccw csw daw dcw dsw w4 (HEw.out.trans HEg.out.symm) HOg.out.mem HOw.out.mem HKg.out).mono ?_
  rintro x w5 ⟨rfl, hk⟩
  replace HK := hide (HK.out.trans hk)
  replace HOw := hide (HOw.out.kept hk)
  replace HOVW := hide (HOVW.out.kept hk)
  replace HOg := hide (HOg.out.kept hk)
  replace HOVG := hide (HOVG.out.kept hk)
  clear hk
  have cVW0 := cell_at HOVW.out.mem 0 (by simp)
  have cVW1 := cell_at HOVW.out.mem 1 (by simp)
  simp only [Nat.zero_add, List.getElem_cons_zero, List.getElem_cons_succ] at cVW0 cVW1
  have lVW := lt_of_cell cVW0
  have cVG0 := cell_at HOVG.out.mem 0 (by simp)
  have cVG1 := cell_at HOVG.out.mem 1 (by simp)
  simp only [Nat.zero_add, List.getElem_cons_zero, List.getElem_cons_succ] at cVG0 cVG1
  have lVG := lt_of_cell cVG0
  go_wp2_with fail
  refine (markDisk' cag ccg csg dag dcg dsg w5 HOg.out HKg.out).mono ?_
  rintro x w6 ⟨rfl, ho, ht⟩
  clear cVW0 cVW1 lVW cVG0 cVG1 lVG
  replace HK := hide (ht.keeps HK.out HNg.out)
  replace HOw := hide (HOw.out.turn ht HDw_g.out)
  replace HOVW := hide (HOVW.out.turn ht HDVW_g.out)
  replace HOVG := hide (HOVG.out.turn ht HDVG_g.out)
  clear ht
  replace HOg := hide ho
  clear ho
  have cVW0 := cell_at HOVW.out.mem 0 (by simp)
  have cVW1 := cell_at HOVW.out.mem 1 (by simp)
  simp only [Nat.zero_add, List.getElem_cons_zero, List.getElem_cons_succ] at cVW0 cVW1
  have lVW := lt_of_cell cVW0
  have cVG0 := cell_at HOVG.out.mem 0 (by simp)
  have cVG1 := cell_at HOVG.out.mem 1 (by simp)
  simp only [Nat.zero_add, List.getElem_cons_zero, List.getElem_cons_succ] at cVG0 cVG1
  have lVG := lt_of_cell cVG0
  go_wp2_with fail
  refine (heldDisk' cag ccg csg dag dcg dsg w6 HOg.out.mem HKg.out).mono ?_
  rintro x w7 ⟨rfl, hk⟩
  clear cVW0 cVW1 lVW cVG0 cVG1 lVG
  replace HK := hide (HK.out.trans hk)
  replace HOw := hide (HOw.out.kept hk)
  replace HOVW := hide (HOVW.out.kept hk)
  replace HOg := hide (HOg.out.kept hk)
  replace HOVG := hide (HOVG.out.kept hk)
  clear hk
  have cVW0 := cell_at HOVW.out.mem 0 (by simp)
  have cVW1 := cell_at HOVW.out.mem 1 (by simp)
  simp only [Nat.zero_add, List.getElem_cons_zero, List.getElem_cons_succ] at cVW0 cVW1
  have lVW := lt_of_cell cVW0
  have cVG0 := cell_at HOVG.out.mem 0 (by simp)
  have cVG1 := cell_at HOVG.out.mem 1 (by simp)
  simp only [Nat.zero_add, List.getElem_cons_zero, List.getElem_cons_succ] at cVG0 cVG1
  have lVG := lt_of_cell cVG0
  go_wp2_with fail
  refine (disknew_impl n w7).mono ?_
  rintro x w8 ⟨v, rfl, hr, hk⟩
  obtain ⟨cah, cch, csh, dah, dch, dsh, rfl, heh, hokh, hnah, hndh, hb⟩ := hr
  have HEh := hide heh
  have HKh := hide hokh
  have HAh := hide hnah
  have HBh := hide hndh
  clear heh hokh hnah hndh
  clear cVW0 cVW1 lVW cVG0 cVG1 lVG
  have HDw_h := hide (hb.apart HOw.out.mem)
  have HDh_w := hide (hb.apart' HOw.out.mem)
  have HDVW_h := hide (hb.apart HOVW.out.mem)
  have HDh_VW := hide (hb.apart' HOVW.out.mem)
  have HDg_h := hide (hb.apart HOg.out.mem)
  have HDh_g := hide (hb.apart' HOg.out.mem)
  have HDVG_h := hide (hb.apart HOVG.out.mem)
  have HDh_VG := hide (hb.apart' HOVG.out.mem)
  have HNh := hide ((hb.old HK.out).new)
  replace HK := hide (HK.out.trans hk)
  replace HOw := hide (HOw.out.kept hk)
  replace HOVW := hide (HOVW.out.kept hk)
  replace HOg := hide (HOg.out.kept hk)
  replace HOVG := hide (HOVG.out.kept hk)
  have HOh := hide hb.toOwn
  clear hb hk
  have cVW0 := cell_at HOVW.out.mem 0 (by simp)
  have cVW1 := cell_at HOVW.out.mem 1 (by simp)
  simp only [Nat.zero_add, List.getElem_cons_zero, List.getElem_cons_succ] at cVW0 cVW1
  have lVW := lt_of_cell cVW0
  have cVG0 := cell_at HOVG.out.mem 0 (by simp)
  have cVG1 := cell_at HOVG.out.mem 1 (by simp)
  simp only [Nat.zero_add, List.getElem_cons_zero, List.getElem_cons_succ] at cVG0 cVG1
  have lVG := lt_of_cell cVG0
  go_wp2_with fail
  have hb := born_alloc w8 #[.slice cah csh.length cch, .slice dah dsh.length dch] 26
  dsimp only at hb
  have hk := Keeps.alloc (Keeps.refl w8) (.cells #[.slice cah csh.length cch, .slice dah dsh.length dch] 26)
  generalize w8.alloc (.cells #[.slice cah csh.length cch, .slice dah dsh.length dch] 26) = w9 at *
  clear cVW0 cVW1 lVW cVG0 cVG1 lVG
  have HDw_VH := hide (hb.apart HOw.out.mem)
  have HDVH_w := hide (hb.apart' HOw.out.mem)
  have HDVW_VH := hide (hb.apart HOVW.out.mem)
  have HDVH_VW := hide (hb.apart' HOVW.out.mem)
  have HDg_VH := hide (hb.apart HOg.out.mem)
  have HDVH_g := hide (hb.apart' HOg.out.mem)
  have HDVG_VH := hide (hb.apart HOVG.out.mem)
  have HDVH_VG := hide (hb.apart' HOVG.out.mem)
  have HDh_VH := hide (hb.apart HOh.out.mem)
  have HDVH_h := hide (hb.apart' HOh.out.mem)
  have HNVH := hide ((hb.old HK.out).new)
  replace HK := hide (HK.out.trans hk)
  replace HOw := hide (HOw.out.kept hk)
  replace HOVW := hide (HOVW.out.kept hk)
  replace HOg := hide (HOg.out.kept hk)
  replace HOVG := hide (HOVG.out.kept hk)
  replace HOh := hide (HOh.out.kept hk)
  have HOVH := hide hb.toOwn
  clear hb hk
  refine (eqDisk' cah cch csh dah dch dsh caw ccw csw daw dcw dsw w9 (HEw.out.trans HEh.out.symm) HOh.out.mem HOw.out.mem HKh.out).mono ?_
  rintro x w10 ⟨rfl, hk⟩
  replace HK := hide (HK.out.trans hk)
  replace HOw := hide (HOw.out.kept hk)
  replace HOVW := hide (HOVW.out.kept hk)
  replace HOg := hide (HOg.out.kept hk)
  replace HOVG := hide (HOVG.out.kept hk)
  replace HOh := hide (HOh.out.kept hk)
  replace HOVH := hide (HOVH.out.kept hk)
  clear hk
  have cVW0 := cell_at HOVW.out.mem 0 (by simp)
  have cVW1 := cell_at HOVW.out.mem 1 (by simp)
  simp only [Nat.zero_add, List.getElem_cons_zero, List.getElem_cons_succ] at cVW0 cVW1
  have lVW := lt_of_cell cVW0
  have cVG0 := cell_at HOVG.out.mem 0 (by simp)
  have cVG1 := cell_at HOVG.out.mem 1 (by simp)
  simp only [Nat.zero_add, List.getElem_cons_zero, List.getElem_cons_succ] at cVG0 cVG1
  have lVG := lt_of_cell cVG0
  have cVH0 := cell_at HOVH.out.mem 0 (by simp)
  have cVH1 := cell_at HOVH.out.mem 1 (by simp)
  simp only [Nat.zero_add, List.getElem_cons_zero, List.getElem_cons_succ] at cVH0 cVH1
  have lVH := lt_of_cell cVH0
  go_wp2_with fail
  refine (heldDisk' cag ccg csg dag dcg dsg w10 HOg.out.mem HKg.out).mono ?_
  rintro x w11 ⟨rfl, hk⟩
  clear cVW0 cVW1 lVW cVG0 cVG1 lVG cVH0 cVH1 lVH
  replace HK := hide (HK.out.trans hk)
  replace HOw := hide (HOw.out.kept hk)
  replace HOVW := hide (HOVW.out.kept hk)
  replace HOg := hide (HOg.out.kept hk)
  replace HOVG := hide (HOVG.out.kept hk)
  replace HOh := hide (HOh.out.kept hk)
  replace HOVH := hide (HOVH.out.kept hk)
  clear hk
  go_wp2_with fail
  go_ret
  exact ⟨rfl, HK.out⟩

theorem own : ownKnob Try.prog.godebug = none := by kernel_rfl
theorem laidOut : laidOutB Try.prog = true := by kernel_rfl

set_option maxRecDepth 100000 in
theorem lifted (os : Os) (started : os.Started) (H : Type) (enc : TypeId × Value → H) :
    ReturnsInHanded {} Try.checked os 8 .any (Rows.fnExactDiskNewSpec.pre6 enc Try.prog Try.f8 Rows.fnExactDiskNewRow.domain false) (Rows.fnExactDiskNewSpec.post enc Try.prog Try.f8 false true false false) := by
  refine returnsInHanded_of_change (C := Try.checked) own started (by kernel_rfl) Try.func8
    (ChangeSpec.witness6 (enc := enc) (C := Try.checked) false ⟨#[], #[.int .i64 0], []⟩ 8 (by kernel_rfl) (by kernel_rfl) (by kernel_rfl) (by kernel_rfl)) ?_
  intro W base args ds gs before hval0 hW hcnd _
  have hval : ∀ (j : Nat) t v, Try.f8.params[j]? = some t → args[j]? = some v → Value.okWide Try.prog W .any base t v := hval0
  have hW' := hW
  obtain ⟨p, q, hA0, hV, rfl, hfz, hnd⟩ := hW
  have hA : DataW.TrodAll enc Try.prog W 0 (fun _ => true) true Try.f8.params.toList args.toList ds p := hA0
  rw [Try.params8] at hA hval
  obtain ⟨v0, vs0, d0, ds0, p0, q0, hargs, rfl, rfl, h0, r0⟩ := trodAll_cons hA
  obtain ⟨rfl, rfl, rfl⟩ := trodAll_nil r0
  obtain rfl : args = #[v0] := by cases args; simp_all
  obtain ⟨rfl, rfl⟩ := trodVars_none hV
  obtain ⟨a0, rfl, rfl, rfl, w0⟩ := open_int Try.underlying3 (hval 0 3 v0 rfl rfl) h0
  clear hA0 hval0
  refine (walk a0 W w0).mono fun e W' ⟨he, hb⟩ => ?_
  subst he
  refine ⟨_, rfl, _, _, _, [], ([] ++ []), [], hW', ?_, ?_, ?_, Below.frame hb _, fun h => by cases h⟩
  · exact trodAll_mk1 (shut_bool Try.underlying4 _)
  · exact (trodAll_cons_mk (shut_int Try.underlying3 w0) trodAll_mk0)
  · exact rfl

theorem over : Rows.fnExactDiskNewRow.holds Try.pinned (OpenSpec.ofChange Rows.fnExactDiskNewSpec) :=
  OpenClaim.holds_of_wide 8 Try.f8 rfl rfl rfl rfl rfl rfl rfl ⟨rfl, rfl, rfl, rfl, rfl⟩ rfl rfl rfl rfl rfl (by kernel_rfl) Try.func8 (by kernel_rfl)
    (of_decide_eq_true (by kernel_rfl)) (by unfold Func.isWrapper; first | (rw [if_pos (by decide +kernel)]; kernel_rfl) | (rw [if_neg (by decide +kernel)]; exact ⟨rfl, rfl⟩))
    (fun os started H enc _ => lifted os started H enc)
end Go.Proofs.Ytmcidfjcppbocaa.fnExactDiskNew
namespace Go.Proofs.Ytmcidfjcppbocaa
theorem disknew_exact : Rows.FnExactDiskNewSaid := fnExactDiskNew.over
end Go.Proofs.Ytmcidfjcppbocaa
