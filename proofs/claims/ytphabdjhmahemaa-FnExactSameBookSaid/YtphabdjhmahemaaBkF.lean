/- The program's BookOk and Pick. -/
import Derived.Test.YtphabdjhmahemaaBkE
namespace Go.Proofs.Ytphabdjhmahemaa
open Go.RowKit Go.Deep
set_option linter.unusedVariables false
set_option linter.unusedSimpArgs false
set_option maxRecDepth 10000

theorem small_of {B : Bk} (h1 : B.Hs.length ≤ 60) (h2 : B.R.length ≤ 20) (h3 : B.Hs.all (htB B.C) = true) (h4 : B.R.all (crB B.C) = true) : Small B := by
  refine ⟨fun h hh => ?_, fun c hc => ?_, h1, h2⟩
  · have := List.all_eq_true.1 h3 h hh
    simp only [htB, posB, amtB, Bool.and_eq_true, decide_eq_true_eq] at this
    omega
  · have := List.all_eq_true.1 h4 c hc
    simp only [crB, posB, amtB, Bool.and_eq_true, decide_eq_true_eq] at this
    omega
theorem bookB_def (B : Bk) : bookB B = (amtB B.tk && (amtB B.wa && (posB B.nx && (decide (B.C.length ≤ 20) && (decide (B.Hs.length ≤ 60) && (decide (B.R.length ≤ 20) && (keysB (keysL B) && (B.Hs.all (htB B.C) && (B.R.all (crB B.C) && (idsB B.C && B.C.all (chanB B))))))))))) := by
  unfold bookB headB underB
  cases amtB B.tk <;> cases amtB B.wa <;> cases posB B.nx <;> cases decide (B.C.length ≤ 20) <;> cases decide (B.Hs.length ≤ 60) <;> cases decide (B.R.length ≤ 20) <;> cases keysB (keysL B) <;> cases B.Hs.all (htB B.C) <;> cases B.R.all (crB B.C) <;> cases idsB B.C <;> simp
set_option maxHeartbeats 4000000 in
theorem bookok_impl (B : Bo) (w : World) (hm : Mem w B.segs) (hl : B.len) : Calls Try.prog 58 #[B.v] w fun e w' => e = .returned (.bool (bookB B.d)) ∧ Keeps w w' := by
  have HV := hide (bookB_def B.d)
  have H1 := hide (fun w' (hk : Keeps w w') => keys_impl B w' (hm.kept hk) hl)
  have H2 := hide (fun w' (hk : Keeps w w') => htlcs_impl B w' (hm.kept hk) hl)
  have H3 := hide (fun w' (hk : Keeps w w') => circles_impl B w' (hm.kept hk) hl)
  have H4 := hide (fun w' (hk : Keeps w w') => ids_impl B.ca B.cc B.C w' (Bo.memC (hm.kept hk)) hl.1)
  have H5 := hide (fun w' (hk : Keeps w w') => channels_impl B w' (hm.kept hk) hl)
  have H6 := hide (small_of (B := B.d))
  obtain ⟨tk, nx, wa, ca, cc, C, ha, hc, Hs, ra, rc, R⟩ := B
  have HCC := hide (fun w' (hk : Keeps w w') => Bo.memC (hm.kept hk))
  have HCH := hide (fun w' (hk : Keeps w w') => Bo.memH (hm.kept hk))
  have HCR := hide (fun w' (hk : Keeps w w') => Bo.memR (hm.kept hk))
  have HL := hide hl
  have HBA := hide (book_box ⟨tk, nx, wa, ca, cc, C, ha, hc, Hs, ra, rc, R⟩ w 67)
  have HKA := hide (Keeps.alloc (Keeps.refl w) (.cells #[.int .i64 tk, .int .i64 nx, .int .i64 wa, .slice ca C.length cc, .slice ha Hs.length hc, .slice ra R.length rc] 67))
  dsimp only [Bo.d, Bo.v] at *
  clear hm hl
  go_enter Try.func58, Try.ntmps58
  go_wp2_with fail
  obtain ⟨l1, l2, l3⟩ := HL.out
  dsimp only at l1 l2 l3
  generalize hW : w.alloc (.cells #[.int .i64 tk, .int .i64 nx, .int .i64 wa, .slice ca C.length cc, .slice ha Hs.length hc, .slice ra R.length rc] 67) = W0 at *
  clear hW
  have HKc := hide (Keeps.refl W0)
  refine (amt_impl tk _).mono ?_
  rintro e w1 ⟨rfl, hk⟩
  replace HKc := hide (HKc.out.trans hk)
  clear hk
  obtain ⟨e0, e1, e2, e3, e4, e5⟩ := HBA.out.kept HKc.out
  dsimp only at e0 e1 e2 e3 e4 e5
  cases hb0 : amtB tk
  · go_wp2_with fail
    go_ret
    exact ⟨ret_b (by rw [HV.out]; simp [hb0]), HKA.out.trans HKc.out⟩
  go_wp2_with fail
  refine (amt_impl wa _).mono ?_
  rintro e w2 ⟨rfl, hk⟩
  replace HKc := hide (HKc.out.trans hk)
  clear hk
  clear e0 e1 e2 e3 e4 e5
  obtain ⟨e0, e1, e2, e3, e4, e5⟩ := HBA.out.kept HKc.out
  dsimp only at e0 e1 e2 e3 e4 e5
  cases hb1 : amtB wa
  · go_wp2_with fail
    go_ret
    exact ⟨ret_b (by rw [HV.out]; simp [hb0, hb1]), HKA.out.trans HKc.out⟩
  go_wp2_with fail
  refine (pos_impl nx _).mono ?_
  rintro e w3 ⟨rfl, hk⟩
  replace HKc := hide (HKc.out.trans hk)
  clear hk
  clear e0 e1 e2 e3 e4 e5
  obtain ⟨e0, e1, e2, e3, e4, e5⟩ := HBA.out.kept HKc.out
  dsimp only at e0 e1 e2 e3 e4 e5
  cases hb2 : posB nx
  · go_wp2_with fail
    go_ret
    exact ⟨ret_b (by rw [HV.out]; simp [hb0, hb1, hb2]), HKA.out.trans HKc.out⟩
  by_cases hn0 : C.length ≤ 20
  rotate_left
  · have hn0d := hide hn0
    go_wp2_with fail
    go_ret
    exact ⟨ret_b (by rw [HV.out]; simp [hb0, hb1, hb2, hn0d.out]), HKA.out.trans HKc.out⟩
  have hn0d := hide hn0
  by_cases hn1 : Hs.length ≤ 60
  rotate_left
  · have hn1d := hide hn1
    go_wp2_with fail
    go_ret
    exact ⟨ret_b (by rw [HV.out]; simp [hb0, hb1, hb2, hn0d.out, hn1d.out]), HKA.out.trans HKc.out⟩
  have hn1d := hide hn1
  by_cases hn2 : R.length ≤ 20
  rotate_left
  · have hn2d := hide hn2
    go_wp2_with fail
    go_ret
    exact ⟨ret_b (by rw [HV.out]; simp [hb0, hb1, hb2, hn0d.out, hn1d.out, hn2d.out]), HKA.out.trans HKc.out⟩
  have hn2d := hide hn2
  go_wp2_with fail
  refine (unhide H1 w3 (HKA.out.trans HKc.out) hn1d.out hn2d.out).mono ?_
  rintro e w4 ⟨rfl, hk⟩
  replace HKc := hide (HKc.out.trans hk)
  clear hk e0 e1 e2 e3 e4 e5
  obtain ⟨e0, e1, e2, e3, e4, e5⟩ := HBA.out.kept HKc.out
  dsimp only at e0 e1 e2 e3 e4 e5
  cases hc0 : keysB (keysL ⟨tk, nx, wa, C, Hs, R⟩)
  · go_wp2_with fail
    go_ret
    exact ⟨ret_b (by rw [HV.out]; simp [hb0, hb1, hb2, hn0d.out, hn1d.out, hn2d.out, hc0]), HKA.out.trans HKc.out⟩
  go_wp2_with fail
  refine (unhide H2 w4 (HKA.out.trans HKc.out)).mono ?_
  rintro e w5 ⟨rfl, hk⟩
  replace HKc := hide (HKc.out.trans hk)
  clear hk e0 e1 e2 e3 e4 e5
  obtain ⟨e0, e1, e2, e3, e4, e5⟩ := HBA.out.kept HKc.out
  dsimp only at e0 e1 e2 e3 e4 e5
  cases hc1 : Hs.all (htB C)
  · go_wp2_with fail
    go_ret
    exact ⟨ret_b (by rw [HV.out]; simp [hb0, hb1, hb2, hn0d.out, hn1d.out, hn2d.out, hc0, hc1]), HKA.out.trans HKc.out⟩
  go_wp2_with fail
  refine (unhide H3 w5 (HKA.out.trans HKc.out)).mono ?_
  rintro e w6 ⟨rfl, hk⟩
  replace HKc := hide (HKc.out.trans hk)
  clear hk e0 e1 e2 e3 e4 e5
  obtain ⟨e0, e1, e2, e3, e4, e5⟩ := HBA.out.kept HKc.out
  dsimp only at e0 e1 e2 e3 e4 e5
  cases hc2 : R.all (crB C)
  · go_wp2_with fail
    go_ret
    exact ⟨ret_b (by rw [HV.out]; simp [hb0, hb1, hb2, hn0d.out, hn1d.out, hn2d.out, hc0, hc1, hc2]), HKA.out.trans HKc.out⟩
  go_wp2_with fail
  refine (unhide H4 w6 (HKA.out.trans HKc.out)).mono ?_
  rintro e w7 ⟨rfl, hk⟩
  replace HKc := hide (HKc.out.trans hk)
  clear hk e0 e1 e2 e3 e4 e5
  obtain ⟨e0, e1, e2, e3, e4, e5⟩ := HBA.out.kept HKc.out
  dsimp only at e0 e1 e2 e3 e4 e5
  cases hc3 : idsB C
  · go_wp2_with fail
    go_ret
    exact ⟨ret_b (by rw [HV.out]; simp [hb0, hb1, hb2, hn0d.out, hn1d.out, hn2d.out, hc0, hc1, hc2, hc3]), HKA.out.trans HKc.out⟩
  go_wp2_with fail
  refine (unhide H5 w7 (HKA.out.trans HKc.out) (H6.out hn1d.out hn2d.out hc1 hc2)).mono ?_
  rintro e w8 ⟨rfl, hk⟩
  replace HKc := hide (HKc.out.trans hk)
  clear hk e0 e1 e2 e3 e4 e5
  obtain ⟨e0, e1, e2, e3, e4, e5⟩ := HBA.out.kept HKc.out
  dsimp only at e0 e1 e2 e3 e4 e5
  go_wp2_with fail
  go_ret
  exact ⟨ret_b (by rw [HV.out]; simp [hb0, hb1, hb2, hn0d.out, hn1d.out, hn2d.out, hc0, hc1, hc2, hc3]), HKA.out.trans HKc.out⟩
end Go.Proofs.Ytphabdjhmahemaa
