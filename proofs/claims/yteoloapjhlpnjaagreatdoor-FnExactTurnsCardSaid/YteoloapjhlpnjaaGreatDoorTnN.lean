/- The next fee: program and model. -/
import Derived.Test.YteoloapjhlpnjaaGreatDoorTnR
import Derived.Test.YteoloapjhlpnjaaGreatDoorPe
namespace Go.Proofs.YteoloapjhlpnjaaGreatDoor
open Go.RowKit Go.Deep
set_option linter.unusedVariables false
set_option linter.unusedSimpArgs false
set_option maxRecDepth 10000

theorem rowc2 (w : World) (v0 v1 : Value) (t : TypeId) : ∀ w', Keeps (w.alloc (.cells #[v0, v1] t)) w' → w'.cell? ⟨w.heap.size, 0, none⟩ = some v0 ∧ w'.cell? ⟨w.heap.size, 1, none⟩ = some v1 := fun w' hk => ⟨hk.cell (cellA w v0 v1 t).1, hk.cell (cellA w v0 v1 t).2⟩
theorem boxes57 (w : World) (a0 a1 a2 a3 a4 b0 b1 b2 b3 b4 b5 b6 : Value) (t t' : TypeId) : ∀ w', Keeps ((w.alloc (.cells #[a0, a1, a2, a3, a4] t)).alloc (.cells #[b0, b1, b2, b3, b4, b5, b6] t')) w' → (w'.cell? ⟨w.heap.size, 0, none⟩ = some a0 ∧ w'.cell? ⟨w.heap.size, 1, none⟩ = some a1 ∧ w'.cell? ⟨w.heap.size, 2, none⟩ = some a2 ∧ w'.cell? ⟨w.heap.size, 3, none⟩ = some a3 ∧ w'.cell? ⟨w.heap.size, 4, none⟩ = some a4) ∧ (w'.cell? ⟨w.heap.size + 1, 0, none⟩ = some b0 ∧ w'.cell? ⟨w.heap.size + 1, 1, none⟩ = some b1 ∧ w'.cell? ⟨w.heap.size + 1, 2, none⟩ = some b2 ∧ w'.cell? ⟨w.heap.size + 1, 3, none⟩ = some b3 ∧ w'.cell? ⟨w.heap.size + 1, 4, none⟩ = some b4 ∧ w'.cell? ⟨w.heap.size + 1, 5, none⟩ = some b5 ∧ w'.cell? ⟨w.heap.size + 1, 6, none⟩ = some b6) := by
  intro w' hk
  have h2 := rowc7 (w.alloc (.cells #[a0, a1, a2, a3, a4] t)) b0 b1 b2 b3 b4 b5 b6 t' w' hk
  rw [size_alloc1] at h2
  exact ⟨rowc5 w a0 a1 a2 a3 a4 t w' ((keepsA _ _).trans hk), h2⟩
theorem boxes75 (w : World) (a0 a1 a2 a3 a4 a5 a6 b0 b1 b2 b3 b4 : Value) (t t' : TypeId) : ∀ w', Keeps ((w.alloc (.cells #[a0, a1, a2, a3, a4, a5, a6] t)).alloc (.cells #[b0, b1, b2, b3, b4] t')) w' → (w'.cell? ⟨w.heap.size, 0, none⟩ = some a0 ∧ w'.cell? ⟨w.heap.size, 1, none⟩ = some a1 ∧ w'.cell? ⟨w.heap.size, 2, none⟩ = some a2 ∧ w'.cell? ⟨w.heap.size, 3, none⟩ = some a3 ∧ w'.cell? ⟨w.heap.size, 4, none⟩ = some a4 ∧ w'.cell? ⟨w.heap.size, 5, none⟩ = some a5 ∧ w'.cell? ⟨w.heap.size, 6, none⟩ = some a6) ∧ (w'.cell? ⟨w.heap.size + 1, 0, none⟩ = some b0 ∧ w'.cell? ⟨w.heap.size + 1, 1, none⟩ = some b1 ∧ w'.cell? ⟨w.heap.size + 1, 2, none⟩ = some b2 ∧ w'.cell? ⟨w.heap.size + 1, 3, none⟩ = some b3 ∧ w'.cell? ⟨w.heap.size + 1, 4, none⟩ = some b4) := by
  intro w' hk
  have h2 := rowc5 (w.alloc (.cells #[a0, a1, a2, a3, a4, a5, a6] t)) b0 b1 b2 b3 b4 t' w' hk
  rw [size_alloc1] at h2
  exact ⟨rowc7 w a0 a1 a2 a3 a4 a5 a6 t w' ((keepsA _ _).trans hk), h2⟩
theorem boxes27 (w : World) (a0 a1 b0 b1 b2 b3 b4 b5 b6 : Value) (t t' : TypeId) : ∀ w', Keeps ((w.alloc (.cells #[a0, a1] t)).alloc (.cells #[b0, b1, b2, b3, b4, b5, b6] t')) w' → (w'.cell? ⟨w.heap.size, 0, none⟩ = some a0 ∧ w'.cell? ⟨w.heap.size, 1, none⟩ = some a1) ∧ (w'.cell? ⟨w.heap.size + 1, 0, none⟩ = some b0 ∧ w'.cell? ⟨w.heap.size + 1, 1, none⟩ = some b1 ∧ w'.cell? ⟨w.heap.size + 1, 2, none⟩ = some b2 ∧ w'.cell? ⟨w.heap.size + 1, 3, none⟩ = some b3 ∧ w'.cell? ⟨w.heap.size + 1, 4, none⟩ = some b4 ∧ w'.cell? ⟨w.heap.size + 1, 5, none⟩ = some b5 ∧ w'.cell? ⟨w.heap.size + 1, 6, none⟩ = some b6) := by
  intro w' hk
  have h2 := rowc7 (w.alloc (.cells #[a0, a1] t)) b0 b1 b2 b3 b4 b5 b6 t' w' hk
  rw [size_alloc1] at h2
  exact ⟨rowc2 w a0 a1 t w' ((keepsA _ _).trans hk), h2⟩
theorem clamp3_impl (n lo hi : Int) (w : World) : Calls Tryz.prog 76 #[.int .i64 n, .int .i64 lo, .int .i64 hi] w fun e w' => e = .returned (.int .i64 (clampV n lo hi)) ∧ Keeps w w' := by
  by_cases h : n < lo
  · have HE : Hid (clampV n lo hi = lo) := by show _ = _; simp [clampV, h]
    go_enter Tryz.func76, Tryz.ntmps76
    go_wp2_with fail
    go_ret
    exact ⟨ret_i HE.out.symm, Keeps.refl _⟩
  by_cases h1 : hi < n
  · have HE : Hid (clampV n lo hi = hi) := by show _ = _; simp [clampV, h, h1]
    go_enter Tryz.func76, Tryz.ntmps76
    go_wp2_with fail
    go_ret
    exact ⟨ret_i HE.out.symm, Keeps.refl _⟩
  have HE : Hid (clampV n lo hi = n) := by show _ = _; simp [clampV, h, h1]
  go_enter Tryz.func76, Tryz.ntmps76
  go_wp2_with fail
  go_ret
  exact ⟨ret_i HE.out.symm, Keeps.refl _⟩
theorem clamp3_spec (n lo hi : Int) (w : World) : Calls Tryz.prog 78 #[.int .i64 n, .int .i64 lo, .int .i64 hi] w fun e w' => e = .returned (.int .i64 (clampV n lo hi)) ∧ Keeps w w' := by
  by_cases h : n < lo
  · have HE : Hid (clampV n lo hi = lo) := by show _ = _; simp [clampV, h]
    go_enter Tryz.func78, Tryz.ntmps78
    go_wp2_with fail
    go_ret
    exact ⟨ret_i HE.out.symm, Keeps.refl _⟩
  by_cases h1 : hi < n
  · have HE : Hid (clampV n lo hi = hi) := by show _ = _; simp [clampV, h, h1]
    go_enter Tryz.func78, Tryz.ntmps78
    go_wp2_with fail
    go_ret
    exact ⟨ret_i HE.out.symm, Keeps.refl _⟩
  have HE : Hid (clampV n lo hi = n) := by show _ = _; simp [clampV, h, h1]
  go_enter Tryz.func78, Tryz.ntmps78
  go_wp2_with fail
  go_ret
  exact ⟨ret_i HE.out.symm, Keeps.refl _⟩
theorem scarce_impl (lo hi : Int) (c : Chn) (w : World) : Calls Tryz.prog 74 #[.agg #[.int .i64 lo, .int .i64 hi], c.v] w fun e w' => e = .returned (.bool (decide (c.lo < endV c.sz lo lo hi))) ∧ Keeps w w' := by
  have HE := hide (fun w' => ends_impl c lo hi w')
  obtain ⟨yid, ysz, ylo, yre, yba, ypp, ysc⟩ := c
  dsimp only [Chn.v] at *
  generalize endV ysz lo lo hi = n1 at *
  generalize endV ysz hi lo hi = n2 at *
  have HA := hide (boxes27 w (.int .i64 lo) (.int .i64 hi) (.int .i64 yid) (.int .i64 ysz) (.int .i64 ylo) (.int .i64 yre) (.int .i64 yba) (.int .i64 ypp) (.int .i64 ysc) 71 43)
  have HK := hide ((keepsA w (.cells #[.int .i64 lo, .int .i64 hi] 71)).trans (keepsA _ (.cells #[.int .i64 yid, .int .i64 ysz, .int .i64 ylo, .int .i64 yre, .int .i64 yba, .int .i64 ypp, .int .i64 ysc] 43)))
  go_enter Tryz.func74, Tryz.ntmps74
  go_wp2_with fail
  generalize (w.alloc (.cells #[.int .i64 lo, .int .i64 hi] 71)).alloc (.cells #[.int .i64 yid, .int .i64 ysz, .int .i64 ylo, .int .i64 yre, .int .i64 yba, .int .i64 ypp, .int .i64 ysc] 43) = W0 at *
  refine (unhide HE _).mono ?_
  rintro e w1 ⟨rfl, hk⟩
  obtain ⟨⟨a0, a1⟩, ⟨d0, d1, d2, d3, d4, d5, d6⟩⟩ := unhide HA w1 hk
  replace HK := hide (HK.out.trans hk)
  clear hk
  go_wp2_with fail
  go_ret
  exact ⟨rfl, HK.out⟩
theorem plenty_impl (lo hi : Int) (c : Chn) (w : World) : Calls Tryz.prog 75 #[.agg #[.int .i64 lo, .int .i64 hi], c.v] w fun e w' => e = .returned (.bool (decide (endV c.sz hi lo hi < c.lo))) ∧ Keeps w w' := by
  have HE := hide (fun w' => ends_impl c lo hi w')
  obtain ⟨yid, ysz, ylo, yre, yba, ypp, ysc⟩ := c
  dsimp only [Chn.v] at *
  generalize endV ysz lo lo hi = n1 at *
  generalize endV ysz hi lo hi = n2 at *
  have HA := hide (boxes27 w (.int .i64 lo) (.int .i64 hi) (.int .i64 yid) (.int .i64 ysz) (.int .i64 ylo) (.int .i64 yre) (.int .i64 yba) (.int .i64 ypp) (.int .i64 ysc) 71 43)
  have HK := hide ((keepsA w (.cells #[.int .i64 lo, .int .i64 hi] 71)).trans (keepsA _ (.cells #[.int .i64 yid, .int .i64 ysz, .int .i64 ylo, .int .i64 yre, .int .i64 yba, .int .i64 ypp, .int .i64 ysc] 43)))
  go_enter Tryz.func75, Tryz.ntmps75
  go_wp2_with fail
  generalize (w.alloc (.cells #[.int .i64 lo, .int .i64 hi] 71)).alloc (.cells #[.int .i64 yid, .int .i64 ysz, .int .i64 ylo, .int .i64 yre, .int .i64 yba, .int .i64 ypp, .int .i64 ysc] 43) = W0 at *
  refine (unhide HE _).mono ?_
  rintro e w1 ⟨rfl, hk⟩
  obtain ⟨⟨a0, a1⟩, ⟨d0, d1, d2, d3, d4, d5, d6⟩⟩ := unhide HA w1 hk
  replace HK := hide (HK.out.trans hk)
  clear hk
  go_wp2_with fail
  go_ret
  exact ⟨rfl, HK.out⟩
set_option maxHeartbeats 4000000 in
theorem next_impl (r : Rul) (c : Chn) (w : World) (hr : ruleB r = true) (hp : ppmB c.pp = true) : Calls Tryz.prog 36 #[r.v, c.v] w fun e w' => e = .returned (.int .i64 (nextV c r)) ∧ Keeps w w' := by
  have HS := hide (fun w' => scarce_impl r.lo r.hi c w')
  have HP := hide (fun w' => plenty_impl r.lo r.hi c w')
  obtain ⟨_, ⟨s0, s1⟩, _, _, _⟩ := ruleB_true hr
  obtain ⟨p0, p1⟩ := ppmB_true hp
  have HN : Hid (nextV c r = clampV (stepV c r) r.mi r.ma) := rfl
  have HT : Hid (stepV c r = if c.lo < endV c.sz r.lo r.lo r.hi then c.pp + r.st else if endV c.sz r.hi r.lo r.hi < c.lo then c.pp - r.st else c.pp) := rfl
  generalize nextV c r = v at *
  generalize stepV c r = n at *
  clear hr hp
  obtain ⟨yid, ysz, ylo, yre, yba, ypp, ysc⟩ := c
  obtain ⟨xlo, xhi, xst, xmi, xma⟩ := r
  dsimp only [Chn.v, Rul.v] at *
  generalize endV ysz xlo xlo xhi = n1 at *
  generalize endV ysz xhi xlo xhi = n2 at *
  have HA := hide (boxes57 w (.int .i64 xlo) (.int .i64 xhi) (.int .i64 xst) (.int .i64 xmi) (.int .i64 xma) (.int .i64 yid) (.int .i64 ysz) (.int .i64 ylo) (.int .i64 yre) (.int .i64 yba) (.int .i64 ypp) (.int .i64 ysc) 73 43)
  have HK := hide ((keepsA w (.cells #[.int .i64 xlo, .int .i64 xhi, .int .i64 xst, .int .i64 xmi, .int .i64 xma] 73)).trans (keepsA _ (.cells #[.int .i64 yid, .int .i64 ysz, .int .i64 ylo, .int .i64 yre, .int .i64 yba, .int .i64 ypp, .int .i64 ysc] 43)))
  go_enter Tryz.func36, Tryz.ntmps36
  go_wp2_with fail
  generalize (w.alloc (.cells #[.int .i64 xlo, .int .i64 xhi, .int .i64 xst, .int .i64 xmi, .int .i64 xma] 73)).alloc (.cells #[.int .i64 yid, .int .i64 ysz, .int .i64 ylo, .int .i64 yre, .int .i64 yba, .int .i64 ypp, .int .i64 ysc] 43) = W0 at *
  have HKc := hide (Keeps.refl W0)
  refine (unhide HS _).mono ?_
  rintro e w1 ⟨rfl, hk⟩
  replace HKc := hide (HKc.out.trans hk)
  clear hk
  obtain ⟨⟨a0, a1, a2, a3, a4⟩, ⟨d0, d1, d2, d3, d4, d5, d6⟩⟩ := unhide HA w1 HKc.out
  by_cases h1 : ylo < n1
  · have HE : Hid (n = ypp + xst) := by show _ = _; rw [HT.out, if_pos h1]
    have hb : (decide (ylo < n1)) = true := decide_eq_true h1
    rw [hb]
    clear hb HT
    go_wp2_with fail
    refine (clamp3_impl _ xmi xma _).mono ?_
    rintro e w2 ⟨rfl, hk⟩
    replace HKc := hide (HKc.out.trans hk)
    clear hk
    go_wp2_with fail
    go_ret
    exact ⟨ret_i (by rw [HN.out, HE.out]), HK.out.trans HKc.out⟩
  have hb : (decide (ylo < n1)) = false := decide_eq_false h1
  rw [hb]
  clear hb
  rw [if_neg h1] at HT
  go_wp2_with fail
  refine (unhide HP _).mono ?_
  rintro e w3 ⟨rfl, hk⟩
  replace HKc := hide (HKc.out.trans hk)
  clear hk
  clear a0 a1 a2 a3 a4 d0 d1 d2 d3 d4 d5 d6
  obtain ⟨⟨a0, a1, a2, a3, a4⟩, ⟨d0, d1, d2, d3, d4, d5, d6⟩⟩ := unhide HA w3 HKc.out
  by_cases h2 : n2 < ylo
  · have HE : Hid (n = ypp - xst) := by show _ = _; rw [HT.out, if_pos h2]
    have hb : (decide (n2 < ylo)) = true := decide_eq_true h2
    rw [hb]
    clear hb HT
    go_wp2_with fail
    refine (clamp3_impl _ xmi xma _).mono ?_
    rintro e w4 ⟨rfl, hk⟩
    replace HKc := hide (HKc.out.trans hk)
    clear hk
    go_wp2_with fail
    go_ret
    exact ⟨ret_i (by rw [HN.out, HE.out]), HK.out.trans HKc.out⟩
  have hb : (decide (n2 < ylo)) = false := decide_eq_false h2
  have HE : Hid (n = ypp) := by show _ = _; rw [HT.out, if_neg h2]
  rw [hb]
  clear hb HT
  go_wp2_with fail
  refine (clamp3_impl _ xmi xma _).mono ?_
  rintro e w5 ⟨rfl, hk⟩
  replace HKc := hide (HKc.out.trans hk)
  clear hk
  go_wp2_with fail
  go_ret
  exact ⟨ret_i (by rw [HN.out, HE.out]), HK.out.trans HKc.out⟩
set_option maxHeartbeats 4000000 in
theorem npp_spec (c : Chn) (r : Rul) (w : World) : Calls Tryz.prog 37 #[c.v, r.v] w fun e w' => e = .returned (.int .i64 (nppV c r)) ∧ Keeps w w' := by
  have HR := hide (fun w' => rule_spec r w')
  have HE := hide (fun w' => ends_spec c r.lo r.hi w')
  have HT : Hid (stepV c r = if c.lo < endV c.sz r.lo r.lo r.hi then c.pp + r.st else if endV c.sz r.hi r.lo r.hi < c.lo then c.pp - r.st else c.pp) := rfl
  have HQ : Hid (nextV c r = clampV (stepV c r) r.mi r.ma) := rfl
  have HRB := hide (fun h => ruleB_true (r := r) h)
  generalize stepV c r = n at *
  have HN : Hid (nppV c r = if (ruleB r && amtB c.sz && amtB c.lo && ppmB c.pp) = true then nextV c r else -1) := rfl
  generalize nppV c r = v at *
  generalize nextV c r = v1 at *
  generalize hrb : ruleB r = rb at *
  obtain ⟨yid, ysz, ylo, yre, yba, ypp, ysc⟩ := c
  obtain ⟨xlo, xhi, xst, xmi, xma⟩ := r
  dsimp only [Chn.v, Rul.v] at *
  clear hrb
  have HA := hide (boxes75 w (.int .i64 yid) (.int .i64 ysz) (.int .i64 ylo) (.int .i64 yre) (.int .i64 yba) (.int .i64 ypp) (.int .i64 ysc) (.int .i64 xlo) (.int .i64 xhi) (.int .i64 xst) (.int .i64 xmi) (.int .i64 xma) 43 29)
  have HK := hide ((keepsA w (.cells #[.int .i64 yid, .int .i64 ysz, .int .i64 ylo, .int .i64 yre, .int .i64 yba, .int .i64 ypp, .int .i64 ysc] 43)).trans (keepsA _ (.cells #[.int .i64 xlo, .int .i64 xhi, .int .i64 xst, .int .i64 xmi, .int .i64 xma] 29)))
  go_enter Tryz.func37, Tryz.ntmps37
  go_wp2_with fail
  generalize (w.alloc (.cells #[.int .i64 yid, .int .i64 ysz, .int .i64 ylo, .int .i64 yre, .int .i64 yba, .int .i64 ypp, .int .i64 ysc] 43)).alloc (.cells #[.int .i64 xlo, .int .i64 xhi, .int .i64 xst, .int .i64 xmi, .int .i64 xma] 29) = W0 at *
  have HKc := hide (Keeps.refl W0)
  refine (unhide HR _).mono ?_
  rintro e u0 ⟨rfl, hk⟩
  replace HKc := hide (HKc.out.trans hk)
  clear hk
  obtain ⟨⟨d0, d1, d2, d3, d4, d5, d6⟩, ⟨a0, a1, a2, a3, a4⟩⟩ := unhide HA u0 HKc.out
  cases rb
  · have HV : Hid (v = -1) := by show _ = _; rw [HN.out]; rfl
    go_wp2_with fail
    go_ret
    exact ⟨ret_i HV.out.symm, HK.out.trans HKc.out⟩
  go_wp2_with fail
  refine (amt_spec ysz _).mono ?_
  rintro e u1 ⟨rfl, hk⟩
  replace HKc := hide (HKc.out.trans hk)
  clear hk
  clear a0 a1 a2 a3 a4 d0 d1 d2 d3 d4 d5 d6
  obtain ⟨⟨d0, d1, d2, d3, d4, d5, d6⟩, ⟨a0, a1, a2, a3, a4⟩⟩ := unhide HA u1 HKc.out
  cases h1 : amtB ysz
  · have HV : Hid (v = -1) := by show _ = _; rw [HN.out, h1]; rfl
    go_wp2_with fail
    go_ret
    exact ⟨ret_i HV.out.symm, HK.out.trans HKc.out⟩
  go_wp2_with fail
  refine (amt_spec ylo _).mono ?_
  rintro e u2 ⟨rfl, hk⟩
  replace HKc := hide (HKc.out.trans hk)
  clear hk
  clear a0 a1 a2 a3 a4 d0 d1 d2 d3 d4 d5 d6
  obtain ⟨⟨d0, d1, d2, d3, d4, d5, d6⟩, ⟨a0, a1, a2, a3, a4⟩⟩ := unhide HA u2 HKc.out
  cases h2 : amtB ylo
  · have HV : Hid (v = -1) := by show _ = _; rw [HN.out, h1, h2]; rfl
    go_wp2_with fail
    go_ret
    exact ⟨ret_i HV.out.symm, HK.out.trans HKc.out⟩
  go_wp2_with fail
  refine (part_spec ypp _).mono ?_
  rintro e u3 ⟨rfl, hk⟩
  replace HKc := hide (HKc.out.trans hk)
  clear hk
  clear a0 a1 a2 a3 a4 d0 d1 d2 d3 d4 d5 d6
  obtain ⟨⟨d0, d1, d2, d3, d4, d5, d6⟩, ⟨a0, a1, a2, a3, a4⟩⟩ := unhide HA u3 HKc.out
  cases h3 : ppmB ypp
  · have HV : Hid (v = -1) := by show _ = _; rw [HN.out, h1, h2, h3]; rfl
    go_wp2_with fail
    go_ret
    exact ⟨ret_i HV.out.symm, HK.out.trans HKc.out⟩
  have HV : Hid (v = v1) := by show _ = _; rw [HN.out, h1, h2, h3]; rfl
  obtain ⟨_, ⟨s0, s1⟩, _, _, _⟩ := HRB.out (by first | trivial | rfl)
  obtain ⟨p0, p1⟩ := ppmB_true h3
  clear h1 h2 h3 HRB HN
  go_wp2_with fail
  refine (unhide HE _).mono ?_
  rintro e z1 ⟨rfl, hk⟩
  replace HKc := hide (HKc.out.trans hk)
  clear hk
  clear a0 a1 a2 a3 a4 d0 d1 d2 d3 d4 d5 d6
  obtain ⟨⟨d0, d1, d2, d3, d4, d5, d6⟩, ⟨a0, a1, a2, a3, a4⟩⟩ := unhide HA z1 HKc.out
  generalize endV ysz xlo xlo xhi = n1 at *
  generalize endV ysz xhi xlo xhi = n2 at *
  by_cases g1 : ylo < n1
  · have HE : Hid (n = ypp + xst) := by show _ = _; rw [HT.out, if_pos g1]
    clear HT
    go_wp2_with fail
    refine (clamp3_spec _ xmi xma _).mono ?_
    rintro e z2 ⟨rfl, hk⟩
    replace HKc := hide (HKc.out.trans hk)
    clear hk
    go_wp2_with fail
    go_ret
    exact ⟨ret_i (by rw [HV.out, HQ.out, HE.out]), HK.out.trans HKc.out⟩
  rw [if_neg g1] at HT
  by_cases g2 : n2 < ylo
  · have HE : Hid (n = ypp - xst) := by show _ = _; rw [HT.out, if_pos g2]
    clear HT
    go_wp2_with fail
    refine (clamp3_spec _ xmi xma _).mono ?_
    rintro e z3 ⟨rfl, hk⟩
    replace HKc := hide (HKc.out.trans hk)
    clear hk
    go_wp2_with fail
    go_ret
    exact ⟨ret_i (by rw [HV.out, HQ.out, HE.out]), HK.out.trans HKc.out⟩
  have HE : Hid (n = ypp) := by show _ = _; rw [HT.out, if_neg g2]
  clear HT
  go_wp2_with fail
  refine (clamp3_spec _ xmi xma _).mono ?_
  rintro e z4 ⟨rfl, hk⟩
  replace HKc := hide (HKc.out.trans hk)
  clear hk
  go_wp2_with fail
  go_ret
  exact ⟨ret_i (by rw [HV.out, HQ.out, HE.out]), HK.out.trans HKc.out⟩
end Go.Proofs.YteoloapjhlpnjaaGreatDoor
