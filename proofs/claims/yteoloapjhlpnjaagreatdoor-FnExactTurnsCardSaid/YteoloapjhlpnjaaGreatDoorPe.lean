/- Limits and their parts of a size: Ends of the program and of the model. -/
import Derived.Test.YteoloapjhlpnjaaGreatDoorPf
import Derived.Test.YteoloapjhlpnjaaGreatDoorBk
import Derived.Test.YteoloapjhlpnjaaGreatDoorBkB
import Derived.Test.YteoloapjhlpnjaaGreatDoorBgC
import Derived.Test.YteoloapjhlpnjaaGreatDoorFeesK
import Derived.Test.YteoloapjhlpnjaaGreatDoorJam2
namespace Go.Proofs.YteoloapjhlpnjaaGreatDoor
open Go.RowKit Go.Deep
set_option linter.unusedVariables false
set_option linter.unusedSimpArgs false
set_option maxRecDepth 10000

theorem ends_div {sz lo hi k : Int} (h : (bandB lo hi && amtB sz) = true) (hk : k = lo ∨ k = hi) : divB sz k 100 = true ∧ divV sz k 100 = endV sz k lo hi := by
  have h' := h
  rw [Bool.and_eq_true] at h'
  obtain ⟨b1, b2, b3⟩ := bandB_true h'.1
  obtain ⟨s0, s1⟩ := amtB_true h'.2
  have hp := part_bound s0 s1 (k := k) (by omega) (by omega)
  have hd : divB sz k 100 = true := by
    have e : amtB k = true := amtB_yes (by omega) (by omega)
    simp [divB, h'.2, e]
    omega
  exact ⟨hd, by rw [endV_yes k h]; simp [divV, hd]⟩
/-- MulDiv of the program where it gives an amount: no sentinel is read. -/
theorem mulDiv_yes (a b c : Int) (w : World) (h : divB a b c = true) :
    Calls Tryz.prog 133 #[.int .i64 a, .int .i64 b, .int .i64 c] w fun e w' => e = .returned (.tuple #[.int .i64 (divV a b c), .bool true]) ∧ Keeps w w' := by
  have H : Hid (divV a b c = a * b / c) := by show _ = _; simp [divV, h]
  have HD := hide (divide_ok a b c w h)
  clear h
  go_enter Tryz.func133, Tryz.ntmps133
  go_wp2_with (first | (go_at_call 174; refine (unhide HD).mono ?_; rintro e w1 ⟨rfl, hk⟩) | (go_at_call 175; refine (told_ok _ _).mono ?_; rintro e w' ⟨rfl, rfl⟩))
  go_ret2
  exact ⟨ret_tup H.out.symm rfl, hk⟩
set_option maxHeartbeats 4000000 in
theorem ends_impl (c : Chn) (lo hi : Int) (w : World) : Calls Tryz.prog 102 #[c.v, .int .i64 lo, .int .i64 hi] w fun e w' => e = .returned (.tuple #[.int .i64 (endV c.sz lo lo hi), .int .i64 (endV c.sz hi lo hi)]) ∧ Keeps w w' := by
  obtain ⟨xid, xsz, xlo, xre, xba, xpp, xsc⟩ := c
  dsimp only [Chn.v]
  have HA := hide (rowc7 w (.int .i64 xid) (.int .i64 xsz) (.int .i64 xlo) (.int .i64 xre) (.int .i64 xba) (.int .i64 xpp) (.int .i64 xsc) 43)
  have HK := hide (Keeps.alloc (Keeps.refl w) (.cells #[.int .i64 xid, .int .i64 xsz, .int .i64 xlo, .int .i64 xre, .int .i64 xba, .int .i64 xpp, .int .i64 xsc] 43))
  have HE := hide (fun (k : Int) (h : (bandB lo hi && amtB xsz) = true) (hk : k = lo ∨ k = hi) => ends_div h hk)
  have HZ := hide (fun (k : Int) (h : (bandB lo hi && amtB xsz) = false) => endV_no k h)
  generalize hv1 : endV xsz lo lo hi = v1 at *
  generalize hv2 : endV xsz hi lo hi = v2 at *
  go_enter Tryz.func102, Tryz.ntmps102
  go_wp2_with fail
  generalize w.alloc (.cells #[.int .i64 xid, .int .i64 xsz, .int .i64 xlo, .int .i64 xre, .int .i64 xba, .int .i64 xpp, .int .i64 xsc] 43) = W0 at *
  cases hb : bandB lo hi
  · have HZ1 : Hid (v1 = 0) := by show _ = _; rw [← hv1]; exact HZ.out lo (by rw [hb]; rfl)
    have HZ2 : Hid (v2 = 0) := by show _ = _; rw [← hv2]; exact HZ.out hi (by rw [hb]; rfl)
    clear hv1 hv2
    refine (band_impl lo hi _).mono ?_
    rintro e w1 ⟨rfl, hk1⟩
    rw [hb]
    go_wp2_with fail
    go_ret2
    exact ⟨ret_ii HZ1.out.symm HZ2.out.symm, HK.out.trans hk1⟩
  refine (band_impl lo hi _).mono ?_
  rintro e w1 ⟨rfl, hk1⟩
  rw [hb]
  replace HK := hide (HK.out.trans hk1)
  obtain ⟨c0, c1, c2, c3, c4, c5, c6⟩ := unhide HA w1 hk1
  have HK1 := hide hk1
  clear hk1
  go_wp2_with fail
  refine (amt_impl xsz _).mono ?_
  rintro e w2 ⟨rfl, hk2⟩
  replace HK := hide (HK.out.trans hk2)
  replace HK1 := hide (HK1.out.trans hk2)
  clear hk2 c0 c1 c2 c3 c4 c5 c6
  cases ha : amtB xsz
  · have HZ1 : Hid (v1 = 0) := by show _ = _; rw [← hv1]; exact HZ.out lo (by rw [hb, ha]; rfl)
    have HZ2 : Hid (v2 = 0) := by show _ = _; rw [← hv2]; exact HZ.out hi (by rw [hb, ha]; rfl)
    clear hv1 hv2
    go_wp2_with fail
    go_ret2
    exact ⟨ret_ii HZ1.out.symm HZ2.out.symm, HK.out⟩
  have HD1 := hide (HE.out lo (by rw [hb, ha]; rfl) (.inl rfl)).1
  have HD2 := hide (HE.out hi (by rw [hb, ha]; rfl) (.inr rfl)).1
  have HV1 : Hid (divV xsz lo 100 = v1) := by show _ = _; rw [← hv1]; exact (HE.out lo (by rw [hb, ha]; rfl) (.inl rfl)).2
  have HV2 : Hid (divV xsz hi 100 = v2) := by show _ = _; rw [← hv2]; exact (HE.out hi (by rw [hb, ha]; rfl) (.inr rfl)).2
  clear hv1 hv2 hb ha
  obtain ⟨c0, c1, c2, c3, c4, c5, c6⟩ := unhide HA w2 HK1.out
  go_wp2_with fail
  refine (mulDiv_yes xsz lo 100 _ HD1.out).mono ?_
  rintro e w3 ⟨rfl, hk1⟩
  rw [HV1.out]
  obtain ⟨c0, c1, c2, c3, c4, c5, c6⟩ := unhide HA w3 (HK1.out.trans hk1)
  have HK3 := hide (HK.out.trans hk1)
  clear hk1
  go_wp2_with fail
  refine (mulDiv_yes xsz hi 100 _ HD2.out).mono ?_
  rintro e w4 ⟨rfl, hk2⟩
  rw [HV2.out]
  go_wp2_with fail
  go_ret2
  exact ⟨rfl, HK3.out.trans hk2⟩
set_option maxHeartbeats 4000000 in
theorem ends_spec (c : Chn) (lo hi : Int) (w : World) : Calls Tryz.prog 77 #[c.v, .int .i64 lo, .int .i64 hi] w fun e w' => e = .returned (.tuple #[.int .i64 (endV c.sz lo lo hi), .int .i64 (endV c.sz hi lo hi)]) ∧ Keeps w w' := by
  obtain ⟨xid, xsz, xlo, xre, xba, xpp, xsc⟩ := c
  dsimp only [Chn.v]
  have HA := hide (rowc7 w (.int .i64 xid) (.int .i64 xsz) (.int .i64 xlo) (.int .i64 xre) (.int .i64 xba) (.int .i64 xpp) (.int .i64 xsc) 43)
  have HK := hide (Keeps.alloc (Keeps.refl w) (.cells #[.int .i64 xid, .int .i64 xsz, .int .i64 xlo, .int .i64 xre, .int .i64 xba, .int .i64 xpp, .int .i64 xsc] 43))
  have HE := hide (fun (k : Int) (h : (bandB lo hi && amtB xsz) = true) (hk : k = lo ∨ k = hi) => ends_div h hk)
  have HZ := hide (fun (k : Int) (h : (bandB lo hi && amtB xsz) = false) => endV_no k h)
  generalize hv1 : endV xsz lo lo hi = v1 at *
  generalize hv2 : endV xsz hi lo hi = v2 at *
  go_enter Tryz.func77, Tryz.ntmps77
  go_wp2_with fail
  generalize w.alloc (.cells #[.int .i64 xid, .int .i64 xsz, .int .i64 xlo, .int .i64 xre, .int .i64 xba, .int .i64 xpp, .int .i64 xsc] 43) = W0 at *
  cases hb : bandB lo hi
  · have HZ1 : Hid (v1 = 0) := by show _ = _; rw [← hv1]; exact HZ.out lo (by rw [hb]; rfl)
    have HZ2 : Hid (v2 = 0) := by show _ = _; rw [← hv2]; exact HZ.out hi (by rw [hb]; rfl)
    clear hv1 hv2
    refine (band_spec lo hi _).mono ?_
    rintro e w1 ⟨rfl, hk1⟩
    rw [hb]
    go_wp2_with fail
    go_ret2
    exact ⟨ret_ii HZ1.out.symm HZ2.out.symm, HK.out.trans hk1⟩
  refine (band_spec lo hi _).mono ?_
  rintro e w1 ⟨rfl, hk1⟩
  rw [hb]
  replace HK := hide (HK.out.trans hk1)
  obtain ⟨c0, c1, c2, c3, c4, c5, c6⟩ := unhide HA w1 hk1
  have HK1 := hide hk1
  clear hk1
  go_wp2_with fail
  refine (amt_spec xsz _).mono ?_
  rintro e w2 ⟨rfl, hk2⟩
  replace HK := hide (HK.out.trans hk2)
  replace HK1 := hide (HK1.out.trans hk2)
  clear hk2 c0 c1 c2 c3 c4 c5 c6
  cases ha : amtB xsz
  · have HZ1 : Hid (v1 = 0) := by show _ = _; rw [← hv1]; exact HZ.out lo (by rw [hb, ha]; rfl)
    have HZ2 : Hid (v2 = 0) := by show _ = _; rw [← hv2]; exact HZ.out hi (by rw [hb, ha]; rfl)
    clear hv1 hv2
    go_wp2_with fail
    go_ret2
    exact ⟨ret_ii HZ1.out.symm HZ2.out.symm, HK.out⟩
  have HD1 := hide (HE.out lo (by rw [hb, ha]; rfl) (.inl rfl)).1
  have HD2 := hide (HE.out hi (by rw [hb, ha]; rfl) (.inr rfl)).1
  have HV1 : Hid (divV xsz lo 100 = v1) := by show _ = _; rw [← hv1]; exact (HE.out lo (by rw [hb, ha]; rfl) (.inl rfl)).2
  have HV2 : Hid (divV xsz hi 100 = v2) := by show _ = _; rw [← hv2]; exact (HE.out hi (by rw [hb, ha]; rfl) (.inr rfl)).2
  clear hv1 hv2 hb ha
  obtain ⟨c0, c1, c2, c3, c4, c5, c6⟩ := unhide HA w2 HK1.out
  go_wp2_with fail
  refine (mulDiv_spec xsz lo 100 _).mono ?_
  rintro e w3 ⟨rfl, hw⟩
  rw [HD1.out]
  have hk1 : Keeps w2 w3 := by rw [hw]; exact Keeps.refl _
  clear hw
  rw [HV1.out]
  obtain ⟨c0, c1, c2, c3, c4, c5, c6⟩ := unhide HA w3 (HK1.out.trans hk1)
  have HK3 := hide (HK.out.trans hk1)
  clear hk1
  go_wp2_with fail
  refine (mulDiv_spec xsz hi 100 _).mono ?_
  rintro e w4 ⟨rfl, hw⟩
  rw [HD2.out]
  have hk2 : Keeps w3 w4 := by rw [hw]; exact Keeps.refl _
  clear hw
  rw [HV2.out]
  go_wp2_with fail
  go_ret2
  exact ⟨rfl, HK3.out.trans hk2⟩
end Go.Proofs.YteoloapjhlpnjaaGreatDoor
