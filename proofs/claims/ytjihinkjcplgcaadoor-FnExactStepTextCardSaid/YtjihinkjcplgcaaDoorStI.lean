/- The program's word on steps. -/
import Derived.Test.YtjihinkjcplgcaaDoorStD
import Derived.Deep.Cut
namespace Go.Proofs.YtjihinkjcplgcaaDoor
open Go.RowKit Go.Deep
set_option linter.unusedVariables false
set_option linter.unusedSimpArgs false
set_option maxRecDepth 10000
def stF (k : Int) (zE zK zR bE bA bR : Bool) : Bool :=
  if k = 1 then bE && zK && zR else if k = 2 ∨ k = 4 then zE && zK && zR else if k = 3 then zE && bA && zR else if k = 5 then zE && zK && bR else false
set_option maxHeartbeats 8000000 in
theorem stepok_1 (e : Ev) (ks : List Int) (r : Rul) (a : Option Addr) (c : Nat) (zE zK zR bE bA bR : Bool) (w : World) (hzE : ∀ w, (binOp .eql 31 (evV e.k e.y e.c e.t e.m e.f e.b) (evV 0 0 0 0 0 0 false)).run Tryd.prog w = .ok (.bool zE) w) (hzR : ∀ w, (binOp .eql 32 r.v noR.v).run Tryd.prog w = .ok (.bool zR) w) (hzK : ((ks.length : Int) == 0) = zK)
    (hE : ∀ w, Calls Tryd.prog 30 #[evV e.k e.y e.c e.t e.m e.f e.b] w fun x w' => x = .returned (.bool bE) ∧ Keeps w w') (hA : ∀ w', Keeps w w' → Calls Tryd.prog 31 #[.slice a ks.length c] w' fun x w'' => x = .returned (.bool bA) ∧ w'' = w') (hR : ∀ w, Calls Tryd.prog 32 #[r.v] w fun x w' => x = .returned (.bool bR) ∧ Keeps w w') :
    Calls Tryd.prog 19 #[Stp.v ⟨1, e, ks, r⟩ a c] w fun x w' => x = .returned (.bool (stF 1 zE zK zR bE bA bR)) ∧ Keeps w w' := by
  have HK := hide (Keeps.alloc (Keeps.refl w) (.cells (Stp.cells ⟨1, e, ks, r⟩ a c) 34))
  have HB := hide (stp_box ⟨1, e, ks, r⟩ a c w 34)
  have HE := hide hE
  have HA := hide hA
  have HR := hide hR
  dsimp only [Rul.v, noR] at hzR HR
  clear hE hA hR
  go_enter Tryd.func19, Tryd.ntmps19
  go_upto_region 2 with fail
  generalize w.alloc (.cells (Stp.cells ⟨1, e, ks, r⟩ a c) 34) = W1 at *
  obtain ⟨c0, ⟨c1, c2, c3, c4, c5, c6, c7⟩, c8, c9, c10, c11, c12, c13⟩ := HB.out W1 (Keeps.refl _)
  go_quiet (fail)
  clear c0 c1 c2 c3 c4 c5 c6 c7 c8 c9 c10 c11 c12 c13
  have hcl := HB.out _ ((Keeps.refl W1).drewN nq)
  replace HK := hide (HK.out.drewN nq)
  generalize W1.drewN nq = W2 at *
  obtain ⟨c0, ⟨c1, c2, c3, c4, c5, c6, c7⟩, c8, c9, c10, c11, c12, c13⟩ := hcl
  cases zK <;> cases zR <;> cases bE
  all_goals
    go_wp2_with fail
    first
      | (go_ret; exact ⟨rfl, HK.out⟩)
      | (refine (unhide HE _).mono ?_
         rintro x w1 ⟨rfl, hk1⟩
         go_wp2_with fail
         go_ret
         exact ⟨rfl, HK.out.trans hk1⟩)
set_option maxHeartbeats 8000000 in
theorem stepok_2 (e : Ev) (ks : List Int) (r : Rul) (a : Option Addr) (c : Nat) (zE zK zR bE bA bR : Bool) (w : World) (hzE : ∀ w, (binOp .eql 31 (evV e.k e.y e.c e.t e.m e.f e.b) (evV 0 0 0 0 0 0 false)).run Tryd.prog w = .ok (.bool zE) w) (hzR : ∀ w, (binOp .eql 32 r.v noR.v).run Tryd.prog w = .ok (.bool zR) w) (hzK : ((ks.length : Int) == 0) = zK)
    (hE : ∀ w, Calls Tryd.prog 30 #[evV e.k e.y e.c e.t e.m e.f e.b] w fun x w' => x = .returned (.bool bE) ∧ Keeps w w') (hA : ∀ w', Keeps w w' → Calls Tryd.prog 31 #[.slice a ks.length c] w' fun x w'' => x = .returned (.bool bA) ∧ w'' = w') (hR : ∀ w, Calls Tryd.prog 32 #[r.v] w fun x w' => x = .returned (.bool bR) ∧ Keeps w w') :
    Calls Tryd.prog 19 #[Stp.v ⟨2, e, ks, r⟩ a c] w fun x w' => x = .returned (.bool (stF 2 zE zK zR bE bA bR)) ∧ Keeps w w' := by
  have HK := hide (Keeps.alloc (Keeps.refl w) (.cells (Stp.cells ⟨2, e, ks, r⟩ a c) 34))
  have HB := hide (stp_box ⟨2, e, ks, r⟩ a c w 34)
  have HE := hide hE
  have HA := hide hA
  have HR := hide hR
  dsimp only [Rul.v, noR] at hzR HR
  clear hE hA hR
  go_enter Tryd.func19, Tryd.ntmps19
  go_upto_region 2 with fail
  generalize w.alloc (.cells (Stp.cells ⟨2, e, ks, r⟩ a c) 34) = W1 at *
  obtain ⟨c0, ⟨c1, c2, c3, c4, c5, c6, c7⟩, c8, c9, c10, c11, c12, c13⟩ := HB.out W1 (Keeps.refl _)
  go_quiet (fail)
  clear c0 c1 c2 c3 c4 c5 c6 c7 c8 c9 c10 c11 c12 c13
  have hcl := HB.out _ ((Keeps.refl W1).drewN nq)
  replace HK := hide (HK.out.drewN nq)
  generalize W1.drewN nq = W2 at *
  obtain ⟨c0, ⟨c1, c2, c3, c4, c5, c6, c7⟩, c8, c9, c10, c11, c12, c13⟩ := hcl
  cases zE <;> cases zK <;> cases zR
  all_goals
    go_wp2_with fail
    go_ret
    exact ⟨rfl, HK.out⟩
set_option maxHeartbeats 8000000 in
theorem stepok_4 (e : Ev) (ks : List Int) (r : Rul) (a : Option Addr) (c : Nat) (zE zK zR bE bA bR : Bool) (w : World) (hzE : ∀ w, (binOp .eql 31 (evV e.k e.y e.c e.t e.m e.f e.b) (evV 0 0 0 0 0 0 false)).run Tryd.prog w = .ok (.bool zE) w) (hzR : ∀ w, (binOp .eql 32 r.v noR.v).run Tryd.prog w = .ok (.bool zR) w) (hzK : ((ks.length : Int) == 0) = zK)
    (hE : ∀ w, Calls Tryd.prog 30 #[evV e.k e.y e.c e.t e.m e.f e.b] w fun x w' => x = .returned (.bool bE) ∧ Keeps w w') (hA : ∀ w', Keeps w w' → Calls Tryd.prog 31 #[.slice a ks.length c] w' fun x w'' => x = .returned (.bool bA) ∧ w'' = w') (hR : ∀ w, Calls Tryd.prog 32 #[r.v] w fun x w' => x = .returned (.bool bR) ∧ Keeps w w') :
    Calls Tryd.prog 19 #[Stp.v ⟨4, e, ks, r⟩ a c] w fun x w' => x = .returned (.bool (stF 4 zE zK zR bE bA bR)) ∧ Keeps w w' := by
  have HK := hide (Keeps.alloc (Keeps.refl w) (.cells (Stp.cells ⟨4, e, ks, r⟩ a c) 34))
  have HB := hide (stp_box ⟨4, e, ks, r⟩ a c w 34)
  have HE := hide hE
  have HA := hide hA
  have HR := hide hR
  dsimp only [Rul.v, noR] at hzR HR
  clear hE hA hR
  go_enter Tryd.func19, Tryd.ntmps19
  go_upto_region 2 with fail
  generalize w.alloc (.cells (Stp.cells ⟨4, e, ks, r⟩ a c) 34) = W1 at *
  obtain ⟨c0, ⟨c1, c2, c3, c4, c5, c6, c7⟩, c8, c9, c10, c11, c12, c13⟩ := HB.out W1 (Keeps.refl _)
  go_quiet (fail)
  clear c0 c1 c2 c3 c4 c5 c6 c7 c8 c9 c10 c11 c12 c13
  have hcl := HB.out _ ((Keeps.refl W1).drewN nq)
  replace HK := hide (HK.out.drewN nq)
  generalize W1.drewN nq = W2 at *
  obtain ⟨c0, ⟨c1, c2, c3, c4, c5, c6, c7⟩, c8, c9, c10, c11, c12, c13⟩ := hcl
  cases zE <;> cases zK <;> cases zR
  all_goals
    go_wp2_with fail
    go_ret
    exact ⟨rfl, HK.out⟩
set_option maxHeartbeats 8000000 in
theorem stepok_3 (e : Ev) (ks : List Int) (r : Rul) (a : Option Addr) (c : Nat) (zE zK zR bE bA bR : Bool) (w : World) (hzE : ∀ w, (binOp .eql 31 (evV e.k e.y e.c e.t e.m e.f e.b) (evV 0 0 0 0 0 0 false)).run Tryd.prog w = .ok (.bool zE) w) (hzR : ∀ w, (binOp .eql 32 r.v noR.v).run Tryd.prog w = .ok (.bool zR) w) (hzK : ((ks.length : Int) == 0) = zK)
    (hE : ∀ w, Calls Tryd.prog 30 #[evV e.k e.y e.c e.t e.m e.f e.b] w fun x w' => x = .returned (.bool bE) ∧ Keeps w w') (hA : ∀ w', Keeps w w' → Calls Tryd.prog 31 #[.slice a ks.length c] w' fun x w'' => x = .returned (.bool bA) ∧ w'' = w') (hR : ∀ w, Calls Tryd.prog 32 #[r.v] w fun x w' => x = .returned (.bool bR) ∧ Keeps w w') :
    Calls Tryd.prog 19 #[Stp.v ⟨3, e, ks, r⟩ a c] w fun x w' => x = .returned (.bool (stF 3 zE zK zR bE bA bR)) ∧ Keeps w w' := by
  have HK := hide (Keeps.alloc (Keeps.refl w) (.cells (Stp.cells ⟨3, e, ks, r⟩ a c) 34))
  have HB := hide (stp_box ⟨3, e, ks, r⟩ a c w 34)
  have HE := hide hE
  have HA := hide hA
  have HR := hide hR
  dsimp only [Rul.v, noR] at hzR HR
  clear hE hA hR
  go_enter Tryd.func19, Tryd.ntmps19
  go_upto_region 2 with fail
  generalize w.alloc (.cells (Stp.cells ⟨3, e, ks, r⟩ a c) 34) = W1 at *
  obtain ⟨c0, ⟨c1, c2, c3, c4, c5, c6, c7⟩, c8, c9, c10, c11, c12, c13⟩ := HB.out W1 (Keeps.refl _)
  go_quiet (fail)
  clear c0 c1 c2 c3 c4 c5 c6 c7 c8 c9 c10 c11 c12 c13
  have hcl := HB.out _ ((Keeps.refl W1).drewN nq)
  replace HK := hide (HK.out.drewN nq)
  generalize W1.drewN nq = W2 at *
  obtain ⟨c0, ⟨c1, c2, c3, c4, c5, c6, c7⟩, c8, c9, c10, c11, c12, c13⟩ := hcl
  cases zE <;> cases bA <;> cases zR
  all_goals
    go_wp2_with fail
    first
      | (go_ret; exact ⟨rfl, HK.out⟩)
      | (refine (unhide HA _ HK.out).mono ?_
         rintro x w1 ⟨rfl, hw⟩; obtain rfl := Eq.symm hw; clear hw
         go_wp2_with fail
         go_ret
         exact ⟨rfl, HK.out⟩)
set_option maxHeartbeats 8000000 in
theorem stepok_5 (e : Ev) (ks : List Int) (r : Rul) (a : Option Addr) (c : Nat) (zE zK zR bE bA bR : Bool) (w : World) (hzE : ∀ w, (binOp .eql 31 (evV e.k e.y e.c e.t e.m e.f e.b) (evV 0 0 0 0 0 0 false)).run Tryd.prog w = .ok (.bool zE) w) (hzR : ∀ w, (binOp .eql 32 r.v noR.v).run Tryd.prog w = .ok (.bool zR) w) (hzK : ((ks.length : Int) == 0) = zK)
    (hE : ∀ w, Calls Tryd.prog 30 #[evV e.k e.y e.c e.t e.m e.f e.b] w fun x w' => x = .returned (.bool bE) ∧ Keeps w w') (hA : ∀ w', Keeps w w' → Calls Tryd.prog 31 #[.slice a ks.length c] w' fun x w'' => x = .returned (.bool bA) ∧ w'' = w') (hR : ∀ w, Calls Tryd.prog 32 #[r.v] w fun x w' => x = .returned (.bool bR) ∧ Keeps w w') :
    Calls Tryd.prog 19 #[Stp.v ⟨5, e, ks, r⟩ a c] w fun x w' => x = .returned (.bool (stF 5 zE zK zR bE bA bR)) ∧ Keeps w w' := by
  have HK := hide (Keeps.alloc (Keeps.refl w) (.cells (Stp.cells ⟨5, e, ks, r⟩ a c) 34))
  have HB := hide (stp_box ⟨5, e, ks, r⟩ a c w 34)
  have HE := hide hE
  have HA := hide hA
  have HR := hide hR
  dsimp only [Rul.v, noR] at hzR HR
  clear hE hA hR
  go_enter Tryd.func19, Tryd.ntmps19
  go_upto_region 2 with fail
  generalize w.alloc (.cells (Stp.cells ⟨5, e, ks, r⟩ a c) 34) = W1 at *
  obtain ⟨c0, ⟨c1, c2, c3, c4, c5, c6, c7⟩, c8, c9, c10, c11, c12, c13⟩ := HB.out W1 (Keeps.refl _)
  go_quiet (fail)
  clear c0 c1 c2 c3 c4 c5 c6 c7 c8 c9 c10 c11 c12 c13
  have hcl := HB.out _ ((Keeps.refl W1).drewN nq)
  replace HK := hide (HK.out.drewN nq)
  generalize W1.drewN nq = W2 at *
  obtain ⟨c0, ⟨c1, c2, c3, c4, c5, c6, c7⟩, c8, c9, c10, c11, c12, c13⟩ := hcl
  cases zE <;> cases zK <;> cases bR
  all_goals
    go_wp2_with fail
    first
      | (go_ret; exact ⟨rfl, HK.out⟩)
      | (refine (unhide HR _).mono ?_
         rintro x w1 ⟨rfl, hk1⟩
         go_wp2_with fail
         go_ret
         exact ⟨rfl, HK.out.trans hk1⟩)
set_option maxHeartbeats 8000000 in
theorem stepok_0 (k : Int) (e : Ev) (ks : List Int) (r : Rul) (a : Option Addr) (c : Nat) (zE zK zR bE bA bR : Bool) (w : World) (hzE : ∀ w, (binOp .eql 31 (evV e.k e.y e.c e.t e.m e.f e.b) (evV 0 0 0 0 0 0 false)).run Tryd.prog w = .ok (.bool zE) w) (hzR : ∀ w, (binOp .eql 32 r.v noR.v).run Tryd.prog w = .ok (.bool zR) w) (hzK : ((ks.length : Int) == 0) = zK)
    (hE : ∀ w, Calls Tryd.prog 30 #[evV e.k e.y e.c e.t e.m e.f e.b] w fun x w' => x = .returned (.bool bE) ∧ Keeps w w') (hA : ∀ w', Keeps w w' → Calls Tryd.prog 31 #[.slice a ks.length c] w' fun x w'' => x = .returned (.bool bA) ∧ w'' = w') (hR : ∀ w, Calls Tryd.prog 32 #[r.v] w fun x w' => x = .returned (.bool bR) ∧ Keeps w w') (hk : k ≠ 1 ∧ k ≠ 2 ∧ k ≠ 3 ∧ k ≠ 4 ∧ k ≠ 5) :
    Calls Tryd.prog 19 #[Stp.v ⟨k, e, ks, r⟩ a c] w fun x w' => x = .returned (.bool (stF k zE zK zR bE bA bR)) ∧ Keeps w w' := by
  have HK := hide (Keeps.alloc (Keeps.refl w) (.cells (Stp.cells ⟨k, e, ks, r⟩ a c) 34))
  have HB := hide (stp_box ⟨k, e, ks, r⟩ a c w 34)
  have HE := hide hE
  have HA := hide hA
  have HR := hide hR
  dsimp only [Rul.v, noR] at hzR HR
  clear hE hA hR
  obtain ⟨h1, h2, h3, h4, h5⟩ := hk
  have HF : Hid (stF k zE zK zR bE bA bR = false) := by show _ = _; simp [stF, h1, h2, h3, h4, h5]
  go_enter Tryd.func19, Tryd.ntmps19
  go_upto_region 2 with fail
  generalize w.alloc (.cells (Stp.cells ⟨k, e, ks, r⟩ a c) 34) = W1 at *
  obtain ⟨c0, ⟨c1, c2, c3, c4, c5, c6, c7⟩, c8, c9, c10, c11, c12, c13⟩ := HB.out W1 (Keeps.refl _)
  go_quiet (fail)
  clear c0 c1 c2 c3 c4 c5 c6 c7 c8 c9 c10 c11 c12 c13
  have hcl := HB.out _ ((Keeps.refl W1).drewN nq)
  replace HK := hide (HK.out.drewN nq)
  generalize W1.drewN nq = W2 at *
  obtain ⟨c0, ⟨c1, c2, c3, c4, c5, c6, c7⟩, c8, c9, c10, c11, c12, c13⟩ := hcl
  go_wp2_with fail
  go_ret
  exact ⟨ret_b HF.out.symm, HK.out⟩
theorem stF_eq (D : Stp) : stF D.k (zeroE D.e) (noK D.ks) (zeroR D.r) (evB D.e.k D.e.y D.e.c D.e.t D.e.m D.e.f D.e.b) (allA D.ks) (ruleB D.r) = stpB D := rfl
theorem stepok_impl (D : Stp) (a : Option Addr) (c : Nat) (w : World) (hc : Cells w a (its D.ks)) (hl : D.ks.length ≤ 1048576) :
    Calls Tryd.prog 19 #[D.v a c] w fun e w' => e = .returned (.bool (stpB D)) ∧ Keeps w w' := by
  have hK : ((D.ks.length : Int) == 0) = noK D.ks := by
    unfold noK
    cases h : D.ks.length == 0
    · have h2 : D.ks.length ≠ 0 := by simpa using h
      simp
      intro h3; exact h2 (by simp [h3])
    · have h2 : D.ks.length = 0 := by simpa using h
      rw [h2]; rfl
  have hA := fun w' (hk : Keeps w w') => allamts_k a c D.ks w' (hc.kept hk) hl
  have hE := fun w' => evok_impl D.e.k D.e.y D.e.c D.e.t D.e.m D.e.f D.e.b w'
  have hR := fun w' => rule_impl D.r w'
  have q1 := ev_eql D.e.k D.e.y D.e.c D.e.t D.e.m D.e.f D.e.b 0 0 0 0 0 0 false
  have q2 := rul_eql D.r noR
  rw [← stF_eq]
  obtain ⟨k, e, ks, r⟩ := D
  dsimp only at *
  by_cases h1 : k = 1
  · subst h1; exact stepok_1 e ks r a c _ _ _ _ _ _ w q1 q2 hK hE hA hR
  by_cases h2 : k = 2
  · subst h2; exact stepok_2 e ks r a c _ _ _ _ _ _ w q1 q2 hK hE hA hR
  by_cases h3 : k = 3
  · subst h3; exact stepok_3 e ks r a c _ _ _ _ _ _ w q1 q2 hK hE hA hR
  by_cases h4 : k = 4
  · subst h4; exact stepok_4 e ks r a c _ _ _ _ _ _ w q1 q2 hK hE hA hR
  by_cases h5 : k = 5
  · subst h5; exact stepok_5 e ks r a c _ _ _ _ _ _ w q1 q2 hK hE hA hR
  exact stepok_0 k e ks r a c _ _ _ _ _ _ w q1 q2 hK hE hA hR ⟨h1, h2, h3, h4, h5⟩

end Go.Proofs.YtjihinkjcplgcaaDoor
