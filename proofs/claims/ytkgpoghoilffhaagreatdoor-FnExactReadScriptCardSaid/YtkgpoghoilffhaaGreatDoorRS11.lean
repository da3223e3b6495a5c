/- Texts of the verifier, joined: StI, StJ, ShelfF. -/
import Derived.Test.YtkgpoghoilffhaaGreatDoorRS6
import Derived.Deep.Cut
import Derived.Test.YtkgpoghoilffhaaGreatDoorRS2
import Derived.Shelf.Strings.Cut
import Derived.Test.YtkgpoghoilffhaaGreatDoorProg
namespace Go.Proofs.YtkgpoghoilffhaaGreatDoor
open Go.RowKit Go.Deep
set_option linter.unusedVariables false
set_option linter.unusedSimpArgs false
set_option maxRecDepth 10000
def stF (k : Int) (zE zK zR bE bA bR : Bool) : Bool :=
  if k = 1 then bE && zK && zR else if k = 2 ∨ k = 4 then zE && zK && zR else if k = 3 then zE && bA && zR else if k = 5 then zE && zK && bR else false
set_option maxHeartbeats 8000000 in
theorem stepok_1 (e : Ev) (ks : List Int) (r : Rul) (a : Option Addr) (c : Nat) (zE zK zR bE bA bR : Bool) (w : World) (hzE : ∀ w, (binOp .eql 28 (evV e.k e.y e.c e.t e.m e.f e.b) (evV 0 0 0 0 0 0 false)).run Tryz.prog w = .ok (.bool zE) w) (hzR : ∀ w, (binOp .eql 31 r.v noR.v).run Tryz.prog w = .ok (.bool zR) w) (hzK : ((ks.length : Int) == 0) = zK)
    (hE : ∀ w, Calls Tryz.prog 36 #[evV e.k e.y e.c e.t e.m e.f e.b] w fun x w' => x = .returned (.bool bE) ∧ Keeps w w') (hA : ∀ w', Keeps w w' → Calls Tryz.prog 37 #[.slice a ks.length c] w' fun x w'' => x = .returned (.bool bA) ∧ w'' = w') (hR : ∀ w, Calls Tryz.prog 38 #[r.v] w fun x w' => x = .returned (.bool bR) ∧ Keeps w w') :
    Calls Tryz.prog 22 #[Stp.v ⟨1, e, ks, r⟩ a c] w fun x w' => x = .returned (.bool (stF 1 zE zK zR bE bA bR)) ∧ Keeps w w' := by
  have HK := hide (Keeps.alloc (Keeps.refl w) (.cells (Stp.cells ⟨1, e, ks, r⟩ a c) 33))
  have HB := hide (stp_box ⟨1, e, ks, r⟩ a c w 33)
  have HE := hide hE
  have HA := hide hA
  have HR := hide hR
  dsimp only [Rul.v, noR] at hzR HR
  clear hE hA hR
  go_enter Tryz.func22, Tryz.ntmps22
  go_upto_region 2 with fail
  generalize w.alloc (.cells (Stp.cells ⟨1, e, ks, r⟩ a c) 33) = W1 at *
  obtain ⟨c0, ⟨c1, c2, c3, c4, c5, c6, c7⟩, c8, c9, c10, c11, c12, c13⟩ := HB.out W1 (Keeps.refl _)
  go_quiet (fail)
  clear c0 c1 c2 c3 c4 c5 c6 c7 c8 c9 c10 c11 c12 c13
  have hcl := HB.out _ ((Keeps.refl W1).drewN nq)
  replace HK := hide (HK.out.drewN nq)
  generalize W1.drewN nq = W2 at *
  obtain ⟨c0, ⟨c1, c2, c3, c4, c5, c6, c7⟩, c8, c9, c10, c11, c12, c13⟩ := hcl
  cases zK <;> cases zR <;> cases bE
  all_goals
    go_wp2_with fail
    first
      | (go_ret; exact ⟨rfl, HK.out⟩)
      | (refine (unhide HE _).mono ?_
         rintro x w1 ⟨rfl, hk1⟩
         go_wp2_with fail
         go_ret
         exact ⟨rfl, HK.out.trans hk1⟩)
set_option maxHeartbeats 8000000 in
theorem stepok_2 (e : Ev) (ks : List Int) (r : Rul) (a : Option Addr) (c : Nat) (zE zK zR bE bA bR : Bool) (w : World) (hzE : ∀ w, (binOp .eql 28 (evV e.k e.y e.c e.t e.m e.f e.b) (evV 0 0 0 0 0 0 false)).run Tryz.prog w = .ok (.bool zE) w) (hzR : ∀ w, (binOp .eql 31 r.v noR.v).run Tryz.prog w = .ok (.bool zR) w) (hzK : ((ks.length : Int) == 0) = zK)
    (hE : ∀ w, Calls Tryz.prog 36 #[evV e.k e.y e.c e.t e.m e.f e.b] w fun x w' => x = .returned (.bool bE) ∧ Keeps w w') (hA : ∀ w', Keeps w w' → Calls Tryz.prog 37 #[.slice a ks.length c] w' fun x w'' => x = .returned (.bool bA) ∧ w'' = w') (hR : ∀ w, Calls Tryz.prog 38 #[r.v] w fun x w' => x = .returned (.bool bR) ∧ Keeps w w') :
    Calls Tryz.prog 22 #[Stp.v ⟨2, e, ks, r⟩ a c] w fun x w' => x = .returned (.bool (stF 2 zE zK zR bE bA bR)) ∧ Keeps w w' := by
  have HK := hide (Keeps.alloc (Keeps.refl w) (.cells (Stp.cells ⟨2, e, ks, r⟩ a c) 33))
  have HB := hide (stp_box ⟨2, e, ks, r⟩ a c w 33)
  have HE := hide hE
  have HA := hide hA
  have HR := hide hR
  dsimp only [Rul.v, noR] at hzR HR
  clear hE hA hR
  go_enter Tryz.func22, Tryz.ntmps22
  go_upto_region 2 with fail
  generalize w.alloc (.cells (Stp.cells ⟨2, e, ks, r⟩ a c) 33) = W1 at *
  obtain ⟨c0, ⟨c1, c2, c3, c4, c5, c6, c7⟩, c8, c9, c10, c11, c12, c13⟩ := HB.out W1 (Keeps.refl _)
  go_quiet (fail)
  clear c0 c1 c2 c3 c4 c5 c6 c7 c8 c9 c10 c11 c12 c13
  have hcl := HB.out _ ((Keeps.refl W1).drewN nq)
  replace HK := hide (HK.out.drewN nq)
  generalize W1.drewN nq = W2 at *
  obtain ⟨c0, ⟨c1, c2, c3, c4, c5, c6, c7⟩, c8, c9, c10, c11, c12, c13⟩ := hcl
  cases zE <;> cases zK <;> cases zR
  all_goals
    go_wp2_with fail
    go_ret
    exact ⟨rfl, HK.out⟩
set_option maxHeartbeats 8000000 in
theorem stepok_4 (e : Ev) (ks : List Int) (r : Rul) (a : Option Addr) (c : Nat) (zE zK zR bE bA bR : Bool) (w : World) (hzE : ∀ w, (binOp .eql 28 (evV e.k e.y e.c e.t e.m e.f e.b) (evV 0 0 0 0 0 0 false)).run Tryz.prog w = .ok (.bool zE) w) (hzR : ∀ w, (binOp .eql 31 r.v noR.v).run Tryz.prog w = .ok (.bool zR) w) (hzK : ((ks.length : Int) == 0) = zK)
    (hE : ∀ w, Calls Tryz.prog 36 #[evV e.k e.y e.c e.t e.m e.f e.b] w fun x w' => x = .returned (.bool bE) ∧ Keeps w w') (hA : ∀ w', Keeps w w' → Calls Tryz.prog 37 #[.slice a ks.length c] w' fun x w'' => x = .returned (.bool bA) ∧ w'' = w') (hR : ∀ w, Calls Tryz.prog 38 #[r.v] w fun x w' => x = .returned (.bool bR) ∧ Keeps w w') :
    Calls Tryz.prog 22 #[Stp.v ⟨4, e, ks, r⟩ a c] w fun x w' => x = .returned (.bool (stF 4 zE zK zR bE bA bR)) ∧ Keeps w w' := by
  have HK := hide (Keeps.alloc (Keeps.refl w) (.cells (Stp.cells ⟨4, e, ks, r⟩ a c) 33))
  have HB := hide (stp_box ⟨4, e, ks, r⟩ a c w 33)
  have HE := hide hE
  have HA := hide hA
  have HR := hide hR
  dsimp only [Rul.v, noR] at hzR HR
  clear hE hA hR
  go_enter Tryz.func22, Tryz.ntmps22
  go_upto_region 2 with fail
  generalize w.alloc (.cells (Stp.cells ⟨4, e, ks, r⟩ a c) 33) = W1 at *
  obtain ⟨c0, ⟨c1, c2, c3, c4, c5, c6, c7⟩, c8, c9, c10, c11, c12, c13⟩ := HB.out W1 (Keeps.refl _)
  go_quiet (fail)
  clear c0 c1 c2 c3 c4 c5 c6 c7 c8 c9 c10 c11 c12 c13
  have hcl := HB.out _ ((Keeps.refl W1).drewN nq)
  replace HK := hide (HK.out.drewN nq)
  generalize W1.drewN nq = W2 at *
  obtain ⟨c0, ⟨c1, c2, c3, c4, c5, c6, c7⟩, c8, c9, c10, c11, c12, c13⟩ := hcl
  cases zE <;> cases zK <;> cases zR
  all_goals
    go_wp2_with fail
    go_ret
    exact ⟨rfl, HK.out⟩
set_option maxHeartbeats 8000000 in
theorem stepok_3 (e : Ev) (ks : List Int) (r : Rul) (a : Option Addr) (c : Nat) (zE zK zR bE bA bR : Bool) (w : World) (hzE : ∀ w, (binOp .eql 28 (evV e.k e.y e.c e.t e.m e.f e.b) (evV 0 0 0 0 0 0 false)).run Tryz.prog w = .ok (.bool zE) w) (hzR : ∀ w, (binOp .eql 31 r.v noR.v).run Tryz.prog w = .ok (.bool zR) w) (hzK : ((ks.length : Int) == 0) = zK)
    (hE : ∀ w, Calls Tryz.prog 36 #[evV e.k e.y e.c e.t e.m e.f e.b] w fun x w' => x = .returned (.bool bE) ∧ Keeps w w') (hA : ∀ w', Keeps w w' → Calls Tryz.prog 37 #[.slice a ks.length c] w' fun x w'' => x = .returned (.bool bA) ∧ w'' = w') (hR : ∀ w, Calls Tryz.prog 38 #[r.v] w fun x w' => x = .returned (.bool bR) ∧ Keeps w w') :
    Calls Tryz.prog 22 #[Stp.v ⟨3, e, ks, r⟩ a c] w fun x w' => x = .returned (.bool (stF 3 zE zK zR bE bA bR)) ∧ Keeps w w' := by
  have HK := hide (Keeps.alloc (Keeps.refl w) (.cells (Stp.cells ⟨3, e, ks, r⟩ a c) 33))
  have HB := hide (stp_box ⟨3, e, ks, r⟩ a c w 33)
  have HE := hide hE
  have HA := hide hA
  have HR := hide hR
  dsimp only [Rul.v, noR] at hzR HR
  clear hE hA hR
  go_enter Tryz.func22, Tryz.ntmps22
  go_upto_region 2 with fail
  generalize w.alloc (.cells (Stp.cells ⟨3, e, ks, r⟩ a c) 33) = W1 at *
  obtain ⟨c0, ⟨c1, c2, c3, c4, c5, c6, c7⟩, c8, c9, c10, c11, c12, c13⟩ := HB.out W1 (Keeps.refl _)
  go_quiet (fail)
  clear c0 c1 c2 c3 c4 c5 c6 c7 c8 c9 c10 c11 c12 c13
  have hcl := HB.out _ ((Keeps.refl W1).drewN nq)
  replace HK := hide (HK.out.drewN nq)
  generalize W1.drewN nq = W2 at *
  obtain ⟨c0, ⟨c1, c2, c3, c4, c5, c6, c7⟩, c8, c9, c10, c11, c12, c13⟩ := hcl
  cases zE <;> cases bA <;> cases zR
  all_goals
    go_wp2_with fail
    first
      | (go_ret; exact ⟨rfl, HK.out⟩)
      | (refine (unhide HA _ HK.out).mono ?_
         rintro x w1 ⟨rfl, hw⟩; obtain rfl := Eq.symm hw; clear hw
         go_wp2_with fail
         go_ret
         exact ⟨rfl, HK.out⟩)
set_option maxHeartbeats 8000000 in
theorem stepok_5 (e : Ev) (ks : List Int) (r : Rul) (a : Option Addr) (c : Nat) (zE zK zR bE bA bR : Bool) (w : World) (hzE : ∀ w, (binOp .eql 28 (evV e.k e.y e.c e.t e.m e.f e.b) (evV 0 0 0 0 0 0 false)).run Tryz.prog w = .ok (.bool zE) w) (hzR : ∀ w, (binOp .eql 31 r.v noR.v).run Tryz.prog w = .ok (.bool zR) w) (hzK : ((ks.length : Int) == 0) = zK)
    (hE : ∀ w, Calls Tryz.prog 36 #[evV e.k e.y e.c e.t e.m e.f e.b] w fun x w' => x = .returned (.bool bE) ∧ Keeps w w') (hA : ∀ w', Keeps w w' → Calls Tryz.prog 37 #[.slice a ks.length c] w' fun x w'' => x = .returned (.bool bA) ∧ w'' = w') (hR : ∀ w, Calls Tryz.prog 38 #[r.v] w fun x w' => x = .returned (.bool bR) ∧ Keeps w w') :
    Calls Tryz.prog 22 #[Stp.v ⟨5, e, ks, r⟩ a c] w fun x w' => x = .returned (.bool (stF 5 zE zK zR bE bA bR)) ∧ Keeps w w' := by
  have HK := hide (Keeps.alloc (Keeps.refl w) (.cells (Stp.cells ⟨5, e, ks, r⟩ a c) 33))
  have HB := hide (stp_box ⟨5, e, ks, r⟩ a c w 33)
  have HE := hide hE
  have HA := hide hA
  have HR := hide hR
  dsimp only [Rul.v, noR] at hzR HR
  clear hE hA hR
  go_enter Tryz.func22, Tryz.ntmps22
  go_upto_region 2 with fail
  generalize w.alloc (.cells (Stp.cells ⟨5, e, ks, r⟩ a c) 33) = W1 at *
  obtain ⟨c0, ⟨c1, c2, c3, c4, c5, c6, c7⟩, c8, c9, c10, c11, c12, c13⟩ := HB.out W1 (Keeps.refl _)
  go_quiet (fail)
  clear c0 c1 c2 c3 c4 c5 c6 c7 c8 c9 c10 c11 c12 c13
  have hcl := HB.out _ ((Keeps.refl W1).drewN nq)
  replace HK := hide (HK.out.drewN nq)
  generalize W1.drewN nq = W2 at *
  obtain ⟨c0, ⟨c1, c2, c3, c4, c5, c6, c7⟩, c8, c9, c10, c11, c12, c13⟩ := hcl
  cases zE <;> cases zK <;> cases bR
  all_goals
    go_wp2_with fail
    first
      | (go_ret; exact ⟨rfl, HK.out⟩)
      | (refine (unhide HR _).mono ?_
         rintro x w1 ⟨rfl, hk1⟩
         go_wp2_with fail
         go_ret
         exact ⟨rfl, HK.out.trans hk1⟩)
set_option maxHeartbeats 8000000 in
theorem stepok_0 (k : Int) (e : Ev) (ks : List Int) (r : Rul) (a : Option Addr) (c : Nat) (zE zK zR bE bA bR : Bool) (w : World) (hzE : ∀ w, (binOp .eql 28 (evV e.k e.y e.c e.t e.m e.f e.b) (evV 0 0 0 0 0 0 false)).run Tryz.prog w = .ok (.bool zE) w) (hzR : ∀ w, (binOp .eql 31 r.v noR.v).run Tryz.prog w = .ok (.bool zR) w) (hzK : ((ks.length : Int) == 0) = zK)
    (hE : ∀ w, Calls Tryz.prog 36 #[evV e.k e.y e.c e.t e.m e.f e.b] w fun x w' => x = .returned (.bool bE) ∧ Keeps w w') (hA : ∀ w', Keeps w w' → Calls Tryz.prog 37 #[.slice a ks.length c] w' fun x w'' => x = .returned (.bool bA) ∧ w'' = w') (hR : ∀ w, Calls Tryz.prog 38 #[r.v] w fun x w' => x = .returned (.bool bR) ∧ Keeps w w') (hk : k ≠ 1 ∧ k ≠ 2 ∧ k ≠ 3 ∧ k ≠ 4 ∧ k ≠ 5) :
    Calls Tryz.prog 22 #[Stp.v ⟨k, e, ks, r⟩ a c] w fun x w' => x = .returned (.bool (stF k zE zK zR bE bA bR)) ∧ Keeps w w' := by
  have HK := hide (Keeps.alloc (Keeps.refl w) (.cells (Stp.cells ⟨k, e, ks, r⟩ a c) 33))
  have HB := hide (stp_box ⟨k, e, ks, r⟩ a c w 33)
  have HE := hide hE
  have HA := hide hA
  have HR := hide hR
  dsimp only [Rul.v, noR] at hzR HR
  clear hE hA hR
  obtain ⟨h1, h2, h3, h4, h5⟩ := hk
  have HF : Hid (stF k zE zK zR bE bA bR = false) := by show _ = _; simp [stF, h1, h2, h3, h4, h5]
  go_enter Tryz.func22, Tryz.ntmps22
  go_upto_region 2 with fail
  generalize w.alloc (.cells (Stp.cells ⟨k, e, ks, r⟩ a c) 33) = W1 at *
  obtain ⟨c0, ⟨c1, c2, c3, c4, c5, c6, c7⟩, c8, c9, c10, c11, c12, c13⟩ := HB.out W1 (Keeps.refl _)
  go_quiet (fail)
  clear c0 c1 c2 c3 c4 c5 c6 c7 c8 c9 c10 c11 c12 c13
  have hcl := HB.out _ ((Keeps.refl W1).drewN nq)
  replace HK := hide (HK.out.drewN nq)
  generalize W1.drewN nq = W2 at *
  obtain ⟨c0, ⟨c1, c2, c3, c4, c5, c6, c7⟩, c8, c9, c10, c11, c12, c13⟩ := hcl
  go_wp2_with fail
  go_ret
  exact ⟨ret_b HF.out.symm, HK.out⟩
theorem stF_eq (D : Stp) : stF D.k (zeroE D.e) (noK D.ks) (zeroR D.r) (evB D.e.k D.e.y D.e.c D.e.t D.e.m D.e.f D.e.b) (allA D.ks) (ruleB D.r) = stpB D := rfl
theorem stepok_impl (D : Stp) (a : Option Addr) (c : Nat) (w : World) (hc : Cells w a (its D.ks)) (hl : D.ks.length ≤ 1048576) :
    Calls Tryz.prog 22 #[D.v a c] w fun e w' => e = .returned (.bool (stpB D)) ∧ Keeps w w' := by
  have hK : ((D.ks.length : Int) == 0) = noK D.ks := by
    unfold noK
    cases h : D.ks.length == 0
    · have h2 : D.ks.length ≠ 0 := by simpa using h
      simp
      intro h3; exact h2 (by simp [h3])
    · have h2 : D.ks.length = 0 := by simpa using h
      rw [h2]; rfl
  have hA := fun w' (hk : Keeps w w') => allamts_k a c D.ks w' (hc.kept hk) hl
  have hE := fun w' => evok_impl D.e.k D.e.y D.e.c D.e.t D.e.m D.e.f D.e.b w'
  have hR := fun w' => rule_impl D.r w'
  have q1 := ev_eql D.e.k D.e.y D.e.c D.e.t D.e.m D.e.f D.e.b 0 0 0 0 0 0 false
  have q2 := rul_eql D.r noR
  rw [← stF_eq]
  obtain ⟨k, e, ks, r⟩ := D
  dsimp only at *
  by_cases h1 : k = 1
  · subst h1; exact stepok_1 e ks r a c _ _ _ _ _ _ w q1 q2 hK hE hA hR
  by_cases h2 : k = 2
  · subst h2; exact stepok_2 e ks r a c _ _ _ _ _ _ w q1 q2 hK hE hA hR
  by_cases h3 : k = 3
  · subst h3; exact stepok_3 e ks r a c _ _ _ _ _ _ w q1 q2 hK hE hA hR
  by_cases h4 : k = 4
  · subst h4; exact stepok_4 e ks r a c _ _ _ _ _ _ w q1 q2 hK hE hA hR
  by_cases h5 : k = 5
  · subst h5; exact stepok_5 e ks r a c _ _ _ _ _ _ w q1 q2 hK hE hA hR
  exact stepok_0 k e ks r a c _ _ _ _ _ _ w q1 q2 hK hE hA hR ⟨h1, h2, h3, h4, h5⟩

end Go.Proofs.YtkgpoghoilffhaaGreatDoor
namespace Go.Proofs.YtkgpoghoilffhaaGreatDoor
open Go.RowKit Go.Deep
set_option linter.unusedVariables false
set_option linter.unusedSimpArgs false
set_option maxRecDepth 10000
theorem st_cat (X Y : List UInt8) : Ending.returned (.string ((⟨X.toArray⟩ : ByteArray) ++ ⟨Y.toArray⟩)) = .returned (.string ⟨(X ++ Y).toArray⟩) := by
  congr 2
theorem evT_len {k y c t m f : Int} {b : Bool} (h : evB k y c t m f b = true) : (evT k y c t m f b).length ≤ 200 := by
  have hk := (ev_bounds h).1
  have hs : ∀ (W : List UInt8) (ns : List Int), W.length ≤ 8 → ns.length ≤ 5 → (sen W ns).length ≤ 118 := by
    intro W ns h1 h2
    have := senN_len ns
    unfold sen
    simp only [List.length_append]
    omega
  have hq : k = 1 ∨ k = 2 ∨ k = 3 ∨ k = 4 ∨ k = 5 ∨ k = 6 ∨ k = 7 ∨ k = 8 ∨ k = 9 ∨ k = 10 ∨ k = 11 := by omega
  rcases hq with rfl | rfl | rfl | rfl | rfl | rfl | rfl | rfl | rfl | rfl | rfl
  · rw [evT_1]; exact Nat.le_trans (hs _ _ (by simp) (by simp)) (by decide)
  · rw [evT_2]; exact Nat.le_trans (hs _ _ (by simp) (by simp)) (by decide)
  · rw [evT_3]; exact Nat.le_trans (hs _ _ (by simp) (by simp)) (by decide)
  · rw [evT_4]; exact Nat.le_trans (hs _ _ (by simp) (by simp)) (by decide)
  · rw [evT_5, List.length_append]
    have h1 := hs [97, 100, 109, 105, 116] [y, c, t, m] (by simp) (by simp)
    split <;> simp only [List.length_cons, List.length_nil] <;> omega
  · rw [evT_6]; exact Nat.le_trans (hs _ _ (by simp) (by simp)) (by decide)
  · rw [evT_7]; exact Nat.le_trans (hs _ _ (by simp) (by simp)) (by decide)
  · rw [evT_8]; exact Nat.le_trans (hs _ _ (by simp) (by simp)) (by decide)
  · rw [evT_9]; exact Nat.le_trans (hs _ _ (by simp) (by simp)) (by decide)
  · rw [evT_10]; exact Nat.le_trans (hs _ _ (by simp) (by simp)) (by decide)
  · rw [evT_11]; exact Nat.le_trans (hs _ _ (by simp) (by simp)) (by decide)
theorem etL_len (k y c t m f : Int) (b : Bool) : (etL k y c t m f b).length ≤ 200 := by
  unfold etL
  split
  · next h => exact evT_len h
  · simp
theorem ret_stL {X : List UInt8} {D : Stp} (h : X = stL D) : Ending.returned (.string ⟨X.toArray⟩) = .returned (.string ⟨(stL D).toArray⟩) := by rw [h]
theorem stL_yes {D : Stp} (h : stpB D = true) : stL D = stT D := by unfold stL; rw [if_pos h]
theorem stL_no {D : Stp} (h : stpB D = false) : stL D = [] := by unfold stL; rw [if_neg (by simp [h])]
set_option maxHeartbeats 4000000 in
theorem stept_no (D : Stp) (a : Option Addr) (c : Nat) (w : World) (hc : Cells w a (its D.ks)) (hl : D.ks.length ≤ 1048576) (ht : Tab w) (hB : stpB D = false) :
    Calls Tryz.prog 8 #[D.v a c] w fun e w' => e = .returned (.string ⟨(stL D).toArray⟩) ∧ Keeps w w' := by
  have HK := hide (Keeps.alloc (Keeps.refl w) (.cells (D.cells a c) 33))
  have HB := hide (stp_box D a c w 33)
  have HC := hide hc
  have HT := hide ht
  have HO := hide (fun w' (hk : Keeps w w') => stepok_impl D a c w' (hc.kept hk) hl)
  rw [hB] at HO
  have HD := hide hB
  clear hc ht hB
  go_enter Tryz.func8, Tryz.ntmps8
  go_wp2_with fail
  generalize w.alloc (.cells (D.cells a c) 33) = W1 at *
  refine (unhide HO W1 HK.out).mono ?_
  rintro x w1 ⟨rfl, hk1⟩
  have HK1 := hide (HK.out.trans hk1)
  have hcl := HB.out w1 hk1
  clear hk1 HK HO HB
  obtain ⟨c0, ⟨c1, c2, c3, c4, c5, c6, c7⟩, c8, c9, c10, c11, c12, c13⟩ := hcl
  go_wp2_with fail
  go_ret
  exact ⟨ret_stL (stL_no HD.out).symm, HK1.out⟩
set_option maxHeartbeats 4000000 in
theorem stept_1 (D : Stp) (a : Option Addr) (c : Nat) (w : World) (hc : Cells w a (its D.ks)) (hl : D.ks.length ≤ 1048576) (ht : Tab w) (hB : stpB D = true) (hk : D.k = 1) :
    Calls Tryz.prog 8 #[D.v a c] w fun e w' => e = .returned (.string ⟨(stL D).toArray⟩) ∧ Keeps w w' := by
  have HK := hide (Keeps.alloc (Keeps.refl w) (.cells (D.cells a c) 33))
  have HB := hide (stp_box D a c w 33)
  have HC := hide hc
  have HT := hide ht
  have HO := hide (fun w' (hk : Keeps w w') => stepok_impl D a c w' (hc.kept hk) hl)
  rw [hB] at HO
  have HD := hide hB
  clear hc ht hB
  have HX : Hid (stL D = stT D) := stL_yes HD.out
  obtain ⟨k, e, ks, r⟩ := D
  dsimp only at hk
  subst hk
  go_enter Tryz.func8, Tryz.ntmps8
  go_wp2_with fail
  generalize w.alloc (.cells (Stp.cells ⟨1, e, ks, r⟩ a c) 33) = W1 at *
  refine (unhide HO W1 HK.out).mono ?_
  rintro x w1 ⟨rfl, hk1⟩
  have HK1 := hide (HK.out.trans hk1)
  have hcl := HB.out w1 hk1
  clear hk1 HK HO HB
  obtain ⟨c0, ⟨c1, c2, c3, c4, c5, c6, c7⟩, c8, c9, c10, c11, c12, c13⟩ := hcl
  go_wp2_with fail
  refine (etx_impl e.k e.y e.c e.t e.m e.f e.b w1 (HT.out.kept HK1.out)).mono ?_
  rintro x w2 ⟨rfl, hk2⟩
  obtain ⟨A, hA⟩ : ∃ A : ByteArray, A = ⟨(etL e.k e.y e.c e.t e.m e.f e.b).toArray⟩ := ⟨_, rfl⟩
  have hy : A.size ≤ 200 := by
    rw [hA]
    have h2 := etL_len e.k e.y e.c e.t e.m e.f e.b
    have e2 : (⟨(etL e.k e.y e.c e.t e.m e.f e.b).toArray⟩ : ByteArray).size = (etL e.k e.y e.c e.t e.m e.f e.b).length := by show (etL e.k e.y e.c e.t e.m e.f e.b).toArray.size = _; simp
    omega
  rw [← hA]
  have HA := hide hA
  clear hA
  have qa : ∀ w, (Op.stringOp .add (⟨#[116, 97, 107, 101, 32]⟩ : ByteArray) A).run Tryz.prog w = .ok (.string ((⟨#[116, 97, 107, 101, 32]⟩ : ByteArray) ++ A)) w := fun w => run_string_add_sum w _ _ (by
    have e1 : (⟨#[116, 97, 107, 101, 32]⟩ : ByteArray).size = 5 := rfl
    rw [e1]; omega)
  clear hy
  go_wp2_with fail
  go_ret
  rw [HA.out]
  refine ⟨(st_cat [116, 97, 107, 101, 32] _).trans (ret_stL ?_), HK1.out.trans hk2⟩
  rw [HX.out]
  have h2 := HD.out
  simp only [stpB, if_pos, Bool.and_eq_true] at h2
  simp [stT, etL, h2.1.1]
set_option maxHeartbeats 4000000 in
theorem stept_2 (D : Stp) (a : Option Addr) (c : Nat) (w : World) (hc : Cells w a (its D.ks)) (hl : D.ks.length ≤ 1048576) (ht : Tab w) (hB : stpB D = true) (hk : D.k = 2) :
    Calls Tryz.prog 8 #[D.v a c] w fun e w' => e = .returned (.string ⟨(stL D).toArray⟩) ∧ Keeps w w' := by
  have HK := hide (Keeps.alloc (Keeps.refl w) (.cells (D.cells a c) 33))
  have HB := hide (stp_box D a c w 33)
  have HC := hide hc
  have HT := hide ht
  have HO := hide (fun w' (hk : Keeps w w') => stepok_impl D a c w' (hc.kept hk) hl)
  rw [hB] at HO
  have HD := hide hB
  clear hc ht hB
  have HX : Hid (stL D = stT D) := stL_yes HD.out
  obtain ⟨k, e, ks, r⟩ := D
  dsimp only at hk
  subst hk
  go_enter Tryz.func8, Tryz.ntmps8
  go_wp2_with fail
  generalize w.alloc (.cells (Stp.cells ⟨2, e, ks, r⟩ a c) 33) = W1 at *
  refine (unhide HO W1 HK.out).mono ?_
  rintro x w1 ⟨rfl, hk1⟩
  have HK1 := hide (HK.out.trans hk1)
  have hcl := HB.out w1 hk1
  clear hk1 HK HO HB
  obtain ⟨c0, ⟨c1, c2, c3, c4, c5, c6, c7⟩, c8, c9, c10, c11, c12, c13⟩ := hcl
  go_wp2_with fail
  go_ret
  exact ⟨ret_stL (X := [115, 121, 110, 99]) (by rw [HX.out]; simp [stT]), HK1.out⟩
set_option maxHeartbeats 4000000 in
theorem stept_3 (D : Stp) (a : Option Addr) (c : Nat) (w : World) (hc : Cells w a (its D.ks)) (hl : D.ks.length ≤ 1048576) (ht : Tab w) (hB : stpB D = true) (hk : D.k = 3) :
    Calls Tryz.prog 8 #[D.v a c] w fun e w' => e = .returned (.string ⟨(stL D).toArray⟩) ∧ Keeps w w' := by
  have HK := hide (Keeps.alloc (Keeps.refl w) (.cells (D.cells a c) 33))
  have HB := hide (stp_box D a c w 33)
  have HC := hide hc
  have HT := hide ht
  have HO := hide (fun w' (hk : Keeps w w') => stepok_impl D a c w' (hc.kept hk) hl)
  rw [hB] at HO
  have HD := hide hB
  clear hc ht hB
  have HX : Hid (stL D = stT D) := stL_yes HD.out
  obtain ⟨k, e, ks, r⟩ := D
  dsimp only at hk
  subst hk
  go_enter Tryz.func8, Tryz.ntmps8
  go_wp2_with fail
  generalize w.alloc (.cells (Stp.cells ⟨3, e, ks, r⟩ a c) 33) = W1 at *
  refine (unhide HO W1 HK.out).mono ?_
  rintro x w1 ⟨rfl, hk1⟩
  have HK1 := hide (HK.out.trans hk1)
  have hcl := HB.out w1 hk1
  clear hk1 HK HO HB
  obtain ⟨c0, ⟨c1, c2, c3, c4, c5, c6, c7⟩, c8, c9, c10, c11, c12, c13⟩ := hcl
  go_wp2_with fail
  refine (sentence_big [99, 114, 97, 115, 104] a c ks w1 (by decide) (by decide) hl (HC.out.kept HK1.out) (HT.out.kept HK1.out)).mono ?_
  rintro x w2 ⟨rfl, hk2⟩
  go_wp2_with fail
  go_ret
  exact ⟨ret_stL (by rw [HX.out]; simp [stT]), HK1.out.trans hk2⟩
set_option maxHeartbeats 4000000 in
theorem stept_4 (D : Stp) (a : Option Addr) (c : Nat) (w : World) (hc : Cells w a (its D.ks)) (hl : D.ks.length ≤ 1048576) (ht : Tab w) (hB : stpB D = true) (hk : D.k = 4) :
    Calls Tryz.prog 8 #[D.v a c] w fun e w' => e = .returned (.string ⟨(stL D).toArray⟩) ∧ Keeps w w' := by
  have HK := hide (Keeps.alloc (Keeps.refl w) (.cells (D.cells a c) 33))
  have HB := hide (stp_box D a c w 33)
  have HC := hide hc
  have HT := hide ht
  have HO := hide (fun w' (hk : Keeps w w') => stepok_impl D a c w' (hc.kept hk) hl)
  rw [hB] at HO
  have HD := hide hB
  clear hc ht hB
  have HX : Hid (stL D = stT D) := stL_yes HD.out
  obtain ⟨k, e, ks, r⟩ := D
  dsimp only at hk
  subst hk
  go_enter Tryz.func8, Tryz.ntmps8
  go_wp2_with fail
  generalize w.alloc (.cells (Stp.cells ⟨4, e, ks, r⟩ a c) 33) = W1 at *
  refine (unhide HO W1 HK.out).mono ?_
  rintro x w1 ⟨rfl, hk1⟩
  have HK1 := hide (HK.out.trans hk1)
  have hcl := HB.out w1 hk1
  clear hk1 HK HO HB
  obtain ⟨c0, ⟨c1, c2, c3, c4, c5, c6, c7⟩, c8, c9, c10, c11, c12, c13⟩ := hcl
  go_wp2_with fail
  go_ret
  exact ⟨ret_stL (X := [115, 116, 97, 114, 116]) (by rw [HX.out]; simp [stT]), HK1.out⟩
set_option maxHeartbeats 4000000 in
theorem stept_5 (D : Stp) (a : Option Addr) (c : Nat) (w : World) (hc : Cells w a (its D.ks)) (hl : D.ks.length ≤ 1048576) (ht : Tab w) (hB : stpB D = true) (hk : D.k = 5) :
    Calls Tryz.prog 8 #[D.v a c] w fun e w' => e = .returned (.string ⟨(stL D).toArray⟩) ∧ Keeps w w' := by
  have HK := hide (Keeps.alloc (Keeps.refl w) (.cells (D.cells a c) 33))
  have HB := hide (stp_box D a c w 33)
  have HC := hide hc
  have HT := hide ht
  have HO := hide (fun w' (hk : Keeps w w') => stepok_impl D a c w' (hc.kept hk) hl)
  rw [hB] at HO
  have HD := hide hB
  clear hc ht hB
  have HX : Hid (stL D = stT D) := stL_yes HD.out
  obtain ⟨k, e, ks, r⟩ := D
  dsimp only at hk
  subst hk
  go_enter Tryz.func8, Tryz.ntmps8
  go_wp2_with fail
  generalize w.alloc (.cells (Stp.cells ⟨5, e, ks, r⟩ a c) 33) = W1 at *
  refine (unhide HO W1 HK.out).mono ?_
  rintro x w1 ⟨rfl, hk1⟩
  have HK1 := hide (HK.out.trans hk1)
  have hcl := HB.out w1 hk1
  clear hk1 HK HO HB
  obtain ⟨c0, ⟨c1, c2, c3, c4, c5, c6, c7⟩, c8, c9, c10, c11, c12, c13⟩ := hcl
  go_wp2_with fail
  have hk2 := Keeps.alloc HK1.out (.cells #[.int .i64 r.lo, .int .i64 r.hi, .int .i64 r.st, .int .i64 r.mi, .int .i64 r.ma] 3)
  refine (sentence_big [116, 117, 114, 110] (some ⟨w1.heap.size, 0, none⟩) 5 [r.lo, r.hi, r.st, r.mi, r.ma] _ (by decide) (by decide) (by simp) ?_ (HT.out.kept hk2)).mono ?_
  · refine Or.inr ⟨_, _, rfl, fun i hi => ?_⟩
    match i, hi with
    | 0, _ => simp [nums]
    | 1, _ => simp [nums]
    | 2, _ => simp [nums]
    | 3, _ => simp [nums]
    | 4, _ => simp [nums]
    | n + 5, hi => exact absurd hi (by simp [nums])
  rintro x w2 ⟨rfl, hk3⟩
  go_wp2_with fail
  go_ret
  exact ⟨ret_stL (by rw [HX.out]; simp [stT]), hk2.trans hk3⟩
theorem stpB_kind {D : Stp} (h : stpB D = true) : D.k = 1 ∨ D.k = 2 ∨ D.k = 3 ∨ D.k = 4 ∨ D.k = 5 := by
  unfold stpB at h
  by_cases h1 : D.k = 1
  · exact Or.inl h1
  by_cases h2 : D.k = 2
  · exact Or.inr (Or.inl h2)
  by_cases h3 : D.k = 3
  · exact Or.inr (Or.inr (Or.inl h3))
  by_cases h4 : D.k = 4
  · exact Or.inr (Or.inr (Or.inr (Or.inl h4)))
  by_cases h5 : D.k = 5
  · exact Or.inr (Or.inr (Or.inr (Or.inr h5)))
  simp [h1, h2, h3, h4, h5] at h
theorem stept_impl (D : Stp) (a : Option Addr) (c : Nat) (w : World) (hc : Cells w a (its D.ks)) (hl : D.ks.length ≤ 1048576) (ht : Tab w) :
    Calls Tryz.prog 8 #[D.v a c] w fun e w' => e = .returned (.string ⟨(stL D).toArray⟩) ∧ Keeps w w' := by
  cases h : stpB D
  · exact stept_no D a c w hc hl ht h
  · rcases stpB_kind h with h1 | h1 | h1 | h1 | h1
    · exact stept_1 D a c w hc hl ht h h1
    · exact stept_2 D a c w hc hl ht h h1
    · exact stept_3 D a c w hc hl ht h h1
    · exact stept_4 D a c w hc hl ht h h1
    · exact stept_5 D a c w hc hl ht h h1
end Go.Proofs.YtkgpoghoilffhaaGreatDoor
namespace Go.Proofs
open Go.Shelf
def Tryz.lays145_ren : Go.Shelf.Ren := ⟨fun | 145 => 43 | 220 => 72 | 219 => 87 | 217 => 93 | 225 => 94 | 224 => 95 | 267 => 96 | 266 => 106 | 314 => 107 | n => n, fun | 9 => 9 | 4 => 4 | 59 => 84 | 3 => 3 | 5 => 5 | 46 => 95 | 146 => 154 | 51 => 153 | n => n, fun | 1 => 1 | n => n⟩
theorem Tryz.lays145 : Go.Proofs.Lays.n145 Tryz.prog Tryz.lays145_ren := {
  mixed := by kernel_rfl
  f145 := Tryz.func43.trans (congrArg some (by kernel_rfl))
  f217 := Tryz.func93.trans (congrArg some (by kernel_rfl))
  f219 := Tryz.func87.trans (congrArg some (by kernel_rfl))
  f220 := Tryz.func72.trans (congrArg some (by kernel_rfl))
  f224 := Tryz.func95.trans (congrArg some (by kernel_rfl))
  f225 := Tryz.func94.trans (congrArg some (by kernel_rfl))
  f266 := Tryz.func106.trans (congrArg some (by kernel_rfl))
  f267 := Tryz.func96.trans (congrArg some (by kernel_rfl))
  f314 := Tryz.func107.trans (congrArg some (by kernel_rfl))
  t3 := Tryz.underlying3
  a3 := Tryz.isAgg3
  z3 := Tryz.sizeOf3
  v3 := Tryz.zeroValue3
  t4 := Tryz.underlying4
  a4 := Tryz.isAgg4
  z4 := Tryz.sizeOf4
  v4 := Tryz.zeroValue4
  t5 := Tryz.underlying5
  a5 := Tryz.isAgg5
  z5 := Tryz.sizeOf5
  v5 := Tryz.zeroValue5
  t9 := Tryz.underlying9
  a9 := Tryz.isAgg9
  z9 := Tryz.sizeOf9
  v9 := Tryz.zeroValue9
  t46 := Tryz.underlying95
  a46 := Tryz.isAgg95
  z46 := Tryz.sizeOf95
  v46 := Tryz.zeroValue95
  t51 := Tryz.underlying153
  a51 := Tryz.isAgg153
  z51 := Tryz.sizeOf153
  v51 := Tryz.zeroValue153
  t59 := Tryz.underlying84
  a59 := Tryz.isAgg84
  z59 := Tryz.sizeOf84
  v59 := Tryz.zeroValue84
  t146 := Tryz.underlying154
  a146 := Tryz.isAgg154
  z146 := Tryz.sizeOf154
  v146 := Tryz.zeroValue154
  g1 := by kernel_rfl }
open Go.RowKit Go.Lib in
theorem Tryz.strings_Cut (s sep : ByteArray) (m : Int) (w : World) (hs : s.size < 4294967281) (hm : w.cell? ⟨1, 0, none⟩ = some (.int .i64 m)) :
    Calls Tryz.prog 43 #[.string s, .string sep] w fun e w' => e = .returned (.tuple #[.string ⟨(Lib.cut s.data.toList sep.data.toList).1.toArray⟩, .string ⟨(Lib.cut s.data.toList sep.data.toList).2.1.toArray⟩, .bool (Lib.cut s.data.toList sep.data.toList).2.2]) ∧ ∃ n, w' = w.drewN n := Any.strings_Cut Tryz.lays145 s sep m w hs hm
end Go.Proofs
