/- RuleOk of the program and of the model. -/
import Derived.Test.YtjihinkjcplgcaaDoorTn
import Derived.Test.YtjihinkjcplgcaaDoorPf
import Derived.Test.YtjihinkjcplgcaaDoorBkB
namespace Go.Proofs.YtjihinkjcplgcaaDoor
open Go.RowKit Go.Deep
set_option linter.unusedVariables false
set_option linter.unusedSimpArgs false
set_option maxRecDepth 10000

theorem turner_impl (r : Rul) (w : World) : Calls Tryd.prog 41 #[r.v] w fun e w' => e = .returned r.v ∧ Keeps w w' := by
  obtain ⟨xlo, xhi, xst, xmi, xma⟩ := r
  dsimp only [Rul.v]
  go_enter Tryd.func41, Tryd.ntmps41
  go_wp2_with fail
  refine bodyPost_ret (v := .agg #[.int .i64 xlo, .int .i64 xhi, .int .i64 xst, .int .i64 xmi, .int .i64 xma]) (by simp [results, Tryd.results41, go_sem]) rfl ⟨rfl, ?_⟩
  repeat (first | exact Keeps.refl _ | refine Keeps.alloc ?_ _ | refine Keeps.setCell ?_ (by simp) _)
theorem limited_impl (lo hi : Int) (w : World) : Calls Tryd.prog 46 #[.agg #[.int .i64 lo, .int .i64 hi]] w fun e w' => e = .returned (.bool (bandB lo hi)) ∧ Keeps w w' := by
  have HK := hide (Keeps.alloc (Keeps.refl w) (.cells #[.int .i64 lo, .int .i64 hi] 75))
  go_enter Tryd.func46, Tryd.ntmps46
  go_wp2_with fail
  refine (band_impl lo hi _).mono ?_
  rintro e w1 ⟨rfl, hk⟩
  go_wp2_with fail
  go_ret
  exact ⟨rfl, HK.out.trans hk⟩
set_option maxHeartbeats 4000000 in
theorem tright_impl (r : Rul) (w : World) : Calls Tryd.prog 42 #[r.v] w fun e w' => e = .returned (.bool (ruleB r)) ∧ Keeps w w' := by
  obtain ⟨xlo, xhi, xst, xmi, xma⟩ := r
  dsimp only [Rul.v]
  have HA := hide (rowc5 w (.int .i64 xlo) (.int .i64 xhi) (.int .i64 xst) (.int .i64 xmi) (.int .i64 xma) 77)
  have HK := hide (Keeps.alloc (Keeps.refl w) (.cells #[.int .i64 xlo, .int .i64 xhi, .int .i64 xst, .int .i64 xmi, .int .i64 xma] 77))
  obtain ⟨v, hv⟩ : ∃ v : Bool, v = ruleB ⟨xlo, xhi, xst, xmi, xma⟩ := ⟨_, rfl⟩
  rw [← hv]
  replace hv := hide hv
  go_enter Tryd.func42, Tryd.ntmps42
  go_wp2_with fail
  generalize w.alloc (.cells #[.int .i64 xlo, .int .i64 xhi, .int .i64 xst, .int .i64 xmi, .int .i64 xma] 77) = W0 at *
  have HKc := hide (Keeps.refl W0)
  refine (limited_impl xlo xhi _).mono ?_
  rintro e w1 ⟨rfl, hk⟩
  replace HKc := hide (HKc.out.trans hk)
  clear hk
  obtain ⟨d0, d1, d2, d3, d4⟩ := unhide HA w1 HKc.out
  cases h0 : bandB xlo xhi
  · have HV : Hid (v = false) := by show _ = _; rw [hv.out]; simp [ruleB, h0]
    go_wp2_with fail
    go_ret
    exact ⟨ret_b HV.out.symm, HK.out.trans HKc.out⟩
  go_wp2_with fail
  refine (ppm_impl xst _).mono ?_
  rintro e w2 ⟨rfl, hk⟩
  replace HKc := hide (HKc.out.trans hk)
  clear hk d0 d1 d2 d3 d4
  obtain ⟨d0, d1, d2, d3, d4⟩ := unhide HA w2 HKc.out
  cases h1 : ppmB xst
  · have HV : Hid (v = false) := by show _ = _; rw [hv.out]; simp [ruleB, h0, h1]
    go_wp2_with fail
    go_ret
    exact ⟨ret_b HV.out.symm, HK.out.trans HKc.out⟩
  go_wp2_with fail
  refine (ppm_impl xmi _).mono ?_
  rintro e w3 ⟨rfl, hk⟩
  replace HKc := hide (HKc.out.trans hk)
  clear hk d0 d1 d2 d3 d4
  obtain ⟨d0, d1, d2, d3, d4⟩ := unhide HA w3 HKc.out
  cases h2 : ppmB xmi
  · have HV : Hid (v = false) := by show _ = _; rw [hv.out]; simp [ruleB, h0, h1, h2]
    go_wp2_with fail
    go_ret
    exact ⟨ret_b HV.out.symm, HK.out.trans HKc.out⟩
  go_wp2_with fail
  refine (ppm_impl xma _).mono ?_
  rintro e w4 ⟨rfl, hk⟩
  replace HKc := hide (HKc.out.trans hk)
  clear hk d0 d1 d2 d3 d4
  obtain ⟨d0, d1, d2, d3, d4⟩ := unhide HA w4 HKc.out
  cases h3 : ppmB xma
  · have HV : Hid (v = false) := by show _ = _; rw [hv.out]; simp [ruleB, h0, h1, h2, h3]
    go_wp2_with fail
    go_ret
    exact ⟨ret_b HV.out.symm, HK.out.trans HKc.out⟩
  have HV : Hid (v = decide (xmi ≤ xma)) := by show _ = _; rw [hv.out]; simp [ruleB, h0, h1, h2, h3]
  go_wp2_with fail
  go_ret
  exact ⟨ret_b HV.out.symm, HK.out.trans HKc.out⟩
theorem rule_impl (r : Rul) (w : World) : Calls Tryd.prog 32 #[r.v] w fun e w' => e = .returned (.bool (ruleB r)) ∧ Keeps w w' := by
  have HT := hide (fun w' => turner_impl r w')
  have HR := hide (fun w' => tright_impl r w')
  generalize ruleB r = v at *
  obtain ⟨xlo, xhi, xst, xmi, xma⟩ := r
  dsimp only [Rul.v] at *
  have HA := hide (rowc5 w (.int .i64 xlo) (.int .i64 xhi) (.int .i64 xst) (.int .i64 xmi) (.int .i64 xma) 32)
  have HK := hide (Keeps.alloc (Keeps.refl w) (.cells #[.int .i64 xlo, .int .i64 xhi, .int .i64 xst, .int .i64 xmi, .int .i64 xma] 32))
  go_enter Tryd.func32, Tryd.ntmps32
  go_wp2_with fail
  generalize w.alloc (.cells #[.int .i64 xlo, .int .i64 xhi, .int .i64 xst, .int .i64 xmi, .int .i64 xma] 32) = W0 at *
  refine (unhide HT _).mono ?_
  rintro e w1 ⟨rfl, hk⟩
  have HK1 := hide hk
  clear hk
  go_wp2_with fail
  refine (unhide HR _).mono ?_
  rintro e w2 ⟨rfl, hk⟩
  go_wp2_with fail
  go_ret
  exact ⟨rfl, (HK.out.trans HK1.out).trans hk⟩
theorem part_spec (n : Int) (w : World) : Calls Tryd.prog 29 #[.int .i64 n] w fun e w' => e = .returned (.bool (ppmB n)) ∧ Keeps w w' := by
  by_cases h : 0 ≤ n
  · go_enter Tryd.func29, Tryd.ntmps29
    go_wp2
    go_ret
    exact ⟨ret_b (by simp [ppmB, h]), Keeps.refl _⟩
  · go_enter Tryd.func29, Tryd.ntmps29
    go_wp2
    go_ret
    exact ⟨ret_b (by simp [ppmB]; omega), Keeps.refl _⟩
set_option maxHeartbeats 4000000 in
theorem rule_spec (r : Rul) (w : World) : Calls Tryd.prog 15 #[r.v] w fun e w' => e = .returned (.bool (ruleB r)) ∧ Keeps w w' := by
  obtain ⟨xlo, xhi, xst, xmi, xma⟩ := r
  dsimp only [Rul.v]
  have HA := hide (rowc5 w (.int .i64 xlo) (.int .i64 xhi) (.int .i64 xst) (.int .i64 xmi) (.int .i64 xma) 32)
  have HK := hide (Keeps.alloc (Keeps.refl w) (.cells #[.int .i64 xlo, .int .i64 xhi, .int .i64 xst, .int .i64 xmi, .int .i64 xma] 32))
  obtain ⟨v, hv⟩ : ∃ v : Bool, v = ruleB ⟨xlo, xhi, xst, xmi, xma⟩ := ⟨_, rfl⟩
  rw [← hv]
  replace hv := hide hv
  go_enter Tryd.func15, Tryd.ntmps15
  go_wp2_with fail
  generalize w.alloc (.cells #[.int .i64 xlo, .int .i64 xhi, .int .i64 xst, .int .i64 xmi, .int .i64 xma] 32) = W0 at *
  have HKc := hide (Keeps.refl W0)
  refine (band_spec xlo xhi _).mono ?_
  rintro e w1 ⟨rfl, hk⟩
  replace HKc := hide (HKc.out.trans hk)
  clear hk
  obtain ⟨d0, d1, d2, d3, d4⟩ := unhide HA w1 HKc.out
  cases h0 : bandB xlo xhi
  · have HV : Hid (v = false) := by show _ = _; rw [hv.out]; simp [ruleB, h0]
    go_wp2_with fail
    go_ret
    exact ⟨ret_b HV.out.symm, HK.out.trans HKc.out⟩
  go_wp2_with fail
  refine (part_spec xst _).mono ?_
  rintro e w2 ⟨rfl, hk⟩
  replace HKc := hide (HKc.out.trans hk)
  clear hk d0 d1 d2 d3 d4
  obtain ⟨d0, d1, d2, d3, d4⟩ := unhide HA w2 HKc.out
  cases h1 : ppmB xst
  · have HV : Hid (v = false) := by show _ = _; rw [hv.out]; simp [ruleB, h0, h1]
    go_wp2_with fail
    go_ret
    exact ⟨ret_b HV.out.symm, HK.out.trans HKc.out⟩
  go_wp2_with fail
  refine (part_spec xmi _).mono ?_
  rintro e w3 ⟨rfl, hk⟩
  replace HKc := hide (HKc.out.trans hk)
  clear hk d0 d1 d2 d3 d4
  obtain ⟨d0, d1, d2, d3, d4⟩ := unhide HA w3 HKc.out
  cases h2 : ppmB xmi
  · have HV : Hid (v = false) := by show _ = _; rw [hv.out]; simp [ruleB, h0, h1, h2]
    go_wp2_with fail
    go_ret
    exact ⟨ret_b HV.out.symm, HK.out.trans HKc.out⟩
  go_wp2_with fail
  refine (part_spec xma _).mono ?_
  rintro e w4 ⟨rfl, hk⟩
  replace HKc := hide (HKc.out.trans hk)
  clear hk d0 d1 d2 d3 d4
  obtain ⟨d0, d1, d2, d3, d4⟩ := unhide HA w4 HKc.out
  cases h3 : ppmB xma
  · have HV : Hid (v = false) := by show _ = _; rw [hv.out]; simp [ruleB, h0, h1, h2, h3]
    go_wp2_with fail
    go_ret
    exact ⟨ret_b HV.out.symm, HK.out.trans HKc.out⟩
  have HV : Hid (v = decide (xmi ≤ xma)) := by show _ = _; rw [hv.out]; simp [ruleB, h0, h1, h2, h3]
  go_wp2_with fail
  go_ret
  exact ⟨ret_b HV.out.symm, HK.out.trans HKc.out⟩
end Go.Proofs.YtjihinkjcplgcaaDoor
