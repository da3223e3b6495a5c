/- Steady of the program and of the model. -/
import Derived.Test.YteoloapjhlpnjaaDoorTnU
namespace Go.Proofs.YteoloapjhlpnjaaDoor
open Go.RowKit Go.Deep
set_option linter.unusedVariables false
set_option linter.unusedSimpArgs false
set_option maxRecDepth 10000

def steadyB (B : Bk) (r : Rul) : Bool := (bookB B && ruleB r) && decide ((turnsV B r).length = 0)
set_option maxHeartbeats 8000000 in
theorem steady_impl (B : Bo) (r : Rul) (w : World) (hm : Mem w B.segs) (hl : B.len) :
    Calls Tryd.prog 12 #[B.v, r.v] w fun e w' => e = .returned (.bool (steadyB B.d r)) ∧ Keeps w w' := by
  have HBO := hide (fun w' (hk : Keeps w w') => bookok_impl B w' (hm.kept hk) hl)
  have HRO := hide (fun w' => rule_impl r w')
  have HTU := hide (fun w' (hk : Keeps w w') => turns_impl B r w' (hm.kept hk) hl)
  have HSB : Hid (steadyB B.d r = ((bookB B.d && ruleB r) && decide ((turnsV B.d r).length = 0))) := rfl
  have HTL := hide (turnsV_len B.d r)
  generalize steadyB B.d r = v at *
  generalize turnsV B.d r = TV at *
  generalize bookB B.d = bb at *
  generalize ruleB r = rb at *
  obtain ⟨tk, nx, wa, ca, cc, C, ha, hc, Hs, ra, rc, R⟩ := B
  obtain ⟨xlo, xhi, xst, xmi, xma⟩ := r
  dsimp only [Rul.v, Bo.v] at *
  clear hm hl
  have HA := hide (boxes65 w (.int .i64 tk) (.int .i64 nx) (.int .i64 wa) (.slice ca C.length cc) (.slice ha Hs.length hc) (.slice ra R.length rc) (.int .i64 xlo) (.int .i64 xhi) (.int .i64 xst) (.int .i64 xmi) (.int .i64 xma) 43 29)
  have HK := hide ((keepsA w (.cells #[.int .i64 tk, .int .i64 nx, .int .i64 wa, .slice ca C.length cc, .slice ha Hs.length hc, .slice ra R.length rc] 43)).trans (keepsA _ (.cells #[.int .i64 xlo, .int .i64 xhi, .int .i64 xst, .int .i64 xmi, .int .i64 xma] 29)))
  go_enter Tryd.func12, Tryd.ntmps12
  go_wp2_with fail
  generalize (w.alloc (.cells #[.int .i64 tk, .int .i64 nx, .int .i64 wa, .slice ca C.length cc, .slice ha Hs.length hc, .slice ra R.length rc] 43)).alloc (.cells #[.int .i64 xlo, .int .i64 xhi, .int .i64 xst, .int .i64 xmi, .int .i64 xma] 29) = W0 at *
  have HKc := hide (Keeps.refl W0)
  refine (unhide HBO _ (HK.out.trans HKc.out)).mono ?_
  rintro e u0 ⟨rfl, hk⟩
  replace HKc := hide (HKc.out.trans hk)
  clear hk
  obtain ⟨⟨b0, b1, b2, b3, b4, b5⟩, ⟨a0, a1, a2, a3, a4⟩⟩ := unhide HA u0 HKc.out
  cases bb
  · have HNO : Hid (v = false) := by show _ = _; rw [HSB.out]; rfl
    go_wp2_with fail
    go_ret
    exact ⟨ret_b HNO.out.symm, HK.out.trans HKc.out⟩
  go_wp2_with fail
  refine (unhide HRO _).mono ?_
  rintro e u1 ⟨rfl, hk⟩
  replace HKc := hide (HKc.out.trans hk)
  clear hk
  clear b0 b1 b2 b3 b4 b5 a0 a1 a2 a3 a4
  obtain ⟨⟨b0, b1, b2, b3, b4, b5⟩, ⟨a0, a1, a2, a3, a4⟩⟩ := unhide HA u1 HKc.out
  cases rb
  · have HNO : Hid (v = false) := by show _ = _; rw [HSB.out]; rfl
    go_wp2_with fail
    go_ret
    exact ⟨ret_b HNO.out.symm, HK.out.trans HKc.out⟩
  go_wp2_with fail
  refine (unhide HTU _ (HK.out.trans HKc.out)).mono ?_
  rintro e u2 ⟨va, vc, rfl, _, _, hk⟩
  replace HKc := hide (HKc.out.trans hk)
  clear hk
  clear b0 b1 b2 b3 b4 b5 a0 a1 a2 a3 a4
  have ht : TV.length ≤ 20 := HTL.out
  generalize TV.length = m at *
  by_cases h0 : m = 0
  · subst h0
    have HNO : Hid (v = true) := by show _ = _; rw [HSB.out]; rfl
    go_wp2_with fail
    go_ret
    exact ⟨ret_b HNO.out.symm, HK.out.trans HKc.out⟩
  have HNO : Hid (v = false) := by show _ = _; rw [HSB.out, decide_eq_false h0]; rfl
  have hq : ((m : Int) == 0) = false := by simp; omega
  go_wp2_with fail
  go_ret
  exact ⟨ret_b HNO.out.symm, HK.out.trans HKc.out⟩
set_option maxHeartbeats 8000000 in
theorem steady_spec (B : Bo) (r : Rul) (w : World) (hm : Mem w B.segs) (hl : B.len) :
    Calls Tryd.prog 10 #[B.v, r.v] w fun e w' => e = .returned (.bool (steadyB B.d r)) ∧ Keeps w w' := by
  have HBO := hide (fun w' (hk : Keeps w w') => bookok_spec B w' (hm.kept hk) hl)
  have HRO := hide (fun w' => rule_spec r w')
  have HTU := hide (fun w' (hk : Keeps w w') => turns_spec B r w' (hm.kept hk) hl)
  have HSB : Hid (steadyB B.d r = ((bookB B.d && ruleB r) && decide ((turnsV B.d r).length = 0))) := rfl
  have HTL := hide (turnsV_len B.d r)
  generalize steadyB B.d r = v at *
  generalize turnsV B.d r = TV at *
  generalize bookB B.d = bb at *
  generalize ruleB r = rb at *
  obtain ⟨tk, nx, wa, ca, cc, C, ha, hc, Hs, ra, rc, R⟩ := B
  obtain ⟨xlo, xhi, xst, xmi, xma⟩ := r
  dsimp only [Rul.v, Bo.v] at *
  clear hm hl
  have HA := hide (boxes65 w (.int .i64 tk) (.int .i64 nx) (.int .i64 wa) (.slice ca C.length cc) (.slice ha Hs.length hc) (.slice ra R.length rc) (.int .i64 xlo) (.int .i64 xhi) (.int .i64 xst) (.int .i64 xmi) (.int .i64 xma) 43 29)
  have HK := hide ((keepsA w (.cells #[.int .i64 tk, .int .i64 nx, .int .i64 wa, .slice ca C.length cc, .slice ha Hs.length hc, .slice ra R.length rc] 43)).trans (keepsA _ (.cells #[.int .i64 xlo, .int .i64 xhi, .int .i64 xst, .int .i64 xmi, .int .i64 xma] 29)))
  go_enter Tryd.func10, Tryd.ntmps10
  go_wp2_with fail
  generalize (w.alloc (.cells #[.int .i64 tk, .int .i64 nx, .int .i64 wa, .slice ca C.length cc, .slice ha Hs.length hc, .slice ra R.length rc] 43)).alloc (.cells #[.int .i64 xlo, .int .i64 xhi, .int .i64 xst, .int .i64 xmi, .int .i64 xma] 29) = W0 at *
  have HKc := hide (Keeps.refl W0)
  refine (unhide HBO _ (HK.out.trans HKc.out)).mono ?_
  rintro e u0 ⟨rfl, hk⟩
  replace HKc := hide (HKc.out.trans hk)
  clear hk
  obtain ⟨⟨b0, b1, b2, b3, b4, b5⟩, ⟨a0, a1, a2, a3, a4⟩⟩ := unhide HA u0 HKc.out
  cases bb
  · have HNO : Hid (v = false) := by show _ = _; rw [HSB.out]; rfl
    go_wp2_with fail
    go_ret
    exact ⟨ret_b HNO.out.symm, HK.out.trans HKc.out⟩
  go_wp2_with fail
  refine (unhide HRO _).mono ?_
  rintro e u1 ⟨rfl, hk⟩
  replace HKc := hide (HKc.out.trans hk)
  clear hk
  clear b0 b1 b2 b3 b4 b5 a0 a1 a2 a3 a4
  obtain ⟨⟨b0, b1, b2, b3, b4, b5⟩, ⟨a0, a1, a2, a3, a4⟩⟩ := unhide HA u1 HKc.out
  cases rb
  · have HNO : Hid (v = false) := by show _ = _; rw [HSB.out]; rfl
    go_wp2_with fail
    go_ret
    exact ⟨ret_b HNO.out.symm, HK.out.trans HKc.out⟩
  go_wp2_with fail
  refine (unhide HTU _ (HK.out.trans HKc.out)).mono ?_
  rintro e u2 ⟨va, vc, rfl, _, _, hk⟩
  replace HKc := hide (HKc.out.trans hk)
  clear hk
  clear b0 b1 b2 b3 b4 b5 a0 a1 a2 a3 a4
  have ht : TV.length ≤ 20 := HTL.out
  generalize TV.length = m at *
  by_cases h0 : m = 0
  · subst h0
    have HNO : Hid (v = true) := by show _ = _; rw [HSB.out]; rfl
    go_wp2_with fail
    go_ret
    exact ⟨ret_b HNO.out.symm, HK.out.trans HKc.out⟩
  have HNO : Hid (v = false) := by show _ = _; rw [HSB.out, decide_eq_false h0]; rfl
  have hq : ((m : Int) == 0) = false := by simp; omega
  go_wp2_with fail
  go_ret
  exact ⟨ret_b HNO.out.symm, HK.out.trans HKc.out⟩
end Go.Proofs.YteoloapjhlpnjaaDoor
