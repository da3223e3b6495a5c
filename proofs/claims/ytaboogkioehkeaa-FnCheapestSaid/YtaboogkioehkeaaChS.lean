/- Cheapest of the model. -/
import Derived.Test.YtaboogkioehkeaaCh
namespace Go.Proofs.Ytaboogkioehkeaa
open Go.RowKit Go.Deep
set_option linter.unusedVariables false
set_option linter.unusedSimpArgs false
set_option maxRecDepth 10000

set_option maxHeartbeats 8000000 in
theorem cheap_spec (G : Gf) (w : World) (hm : Mem w G.segs) (hl : G.len) :
    Calls Try.prog 13 #[G.v] w fun e w' => ∃ a c, e = .returned (.tuple #[.slice a (chV G.nn G.E).length c, .bool (chOk G.nn G.E)]) ∧ Born w w' [(a, its (chV G.nn G.E))] ∧ (a = none → c = 0) ∧ Keeps w w' := by
  have HQ := hide (fun w' (hk : Keeps w w') => graph_spec G w' (hm.kept hk) hl)
  have HRI := hide (fun a c (f : List Int) w' (hk : Keeps w w') (hf : Cells w' a (its f)) (hlf : f.length ≤ 1048576) => ring_spec G a c f w' (hm.kept hk) hf hl hlf)
  have HPI := hide (fun a c (f : List Int) ra rc (Q : List Int) w' (hk : Keeps w w') (hf : Cells w' a (its f)) (hq : Cells w' ra (its Q)) (hlf : f.length ≤ 1048576) (hlq : Q.length ≤ 1048576) => push_spec G a c f ra rc Q w' (hm.kept hk) hf hq hl hlf hlq)
  obtain ⟨nn, ea, ec, E⟩ := G
  have HB := hide (gr_box ⟨nn, ea, ec, E⟩ w 25)
  have HK := hide (Keeps.alloc (Keeps.refl w) (.cells #[.int .i64 nn, .slice ea E.length ec] 25))
  dsimp only [Gf.v, Gf.len, Gf.segs] at *
  clear hm
  cases hb : graphB nn E
  · obtain ⟨h1, h2⟩ := ch_no (show chRes nn E = none by simp [chRes, hb])
    rw [h1, h2]
    clear h1 h2 HRI HPI
    go_enter Try.func13, Try.ntmps13
    go_wp2_with fail
    refine (unhide HQ _ HK.out).mono ?_
    rintro e w1 ⟨rfl, hk⟩
    rw [hb]
    go_wp2_with fail
    go_ret2
    exact ⟨none, 0, rfl, born_none _ _, fun _ => rfl, HK.out.trans hk⟩
  have HR0 : Hid (chGo nn E 400 (List.replicate E.length 0) = chRes nn E) := by show _ = _; simp [chRes, hb]
  obtain ⟨g1, g2, g3, -⟩ := graphB_true hb
  have hmk := make_ints E.length (by omega)
  go_enter Try.func13, Try.ntmps13
  go_wp2_with fail
  refine (unhide HQ _ HK.out).mono ?_
  rintro e w1 ⟨rfl, hk⟩
  rw [hb]
  clear hb
  generalize w.alloc (.cells #[.int .i64 nn, .slice ea E.length ec] 25) = W0 at *
  replace HB := hide (HB.out.kept hk)
  replace HK := hide (HK.out.trans hk)
  clear hk HQ
  obtain ⟨q0, q1⟩ := HB.out
  dsimp only at q0 q1
  have HBM := hide ((born_made w1 E.length).old HK.out)
  have HKM := hide (Keeps.alloc (Keeps.refl w1) (.cells (madeCells #[.int .i64 0] E.length) 3))
  have lb := lt_of_cell q0
  go_wp2_with fail
  clear hmk q0 q1 lb
  generalize w1.alloc (.cells (madeCells #[.int .i64 0] E.length) 3) = W2 at *
  replace HB := hide (HB.out.kept HKM.out)
  replace HK := hide (HK.out.trans HKM.out)
  clear HKM
  have HL0 : Hid ((List.replicate E.length (0 : Int)).length = E.length) := by show _ = _; simp
  go_loopw [4, 5] (fun v y wr => ∃ (k : Nat) (a : Option Addr) (c : Nat) (f : List Int), k ≤ 400 ∧ f.length ≤ 60 ∧ v = .slice a f.length c ∧ y = .int .i64 (k : Int) ∧ Hid (Born w wr [(a, its f)]) ∧ Hid (a = none → c = 0) ∧ Hid (chGo nn E (400 - k) f = chRes nn E) ∧ Hid (GrAt wr w.heap.size ⟨nn, ea, ec, E⟩) ∧ Hid (Keeps w wr)) (fun _ y _ => 400 - (intOf y).toNat)
  case atStart => exact ⟨0, _, _, List.replicate E.length 0, by omega, by rw [HL0.out]; exact g3, by rw [HL0.out], rfl, HBM.out, fun h => (nomatch h), HR0.out, HB.out, HK.out⟩
  case round =>
    obtain ⟨k, a, c, f, hk, hf60, rfl, rfl, HBF, HAN, HRS, HBr, HKr⟩ := hrel
    clear HBM HB HK HR0 HL0
    obtain ⟨q0, q1⟩ := HBr.out
    dsimp only at q0 q1
    have HRC := hide (HRI.out a c f wr HKr.out (HBF.out.toOwn.mem (a, its f) (by simp)) (by omega))
    by_cases hk4 : k < 400
    · go_wp2_with fail
      refine (unhide HRC).mono ?_
      rintro e w3 ⟨ra, rc, rfl, hb3, hrn, hk3⟩
      have HBR := hide hb3
      replace HBF : Hid (Born w w3 [(a, its f)]) := ⟨HBF.out.toOwn.kept hk3, HBF.out.new⟩
      replace HBr := hide (HBr.out.kept hk3)
      replace HKr := hide (HKr.out.trans hk3)
      have HRL := hide (ringV_24 nn E f)
      clear hb3 hrn hk3 q0 q1 HRC
      obtain ⟨q0, q1⟩ := HBr.out
      dsimp only at q0 q1
      cases hro : ringOk nn E f
      · skip
        obtain ⟨h1, h2⟩ := ch_yes (show chRes nn E = some f by rw [← HRS.out]; exact chGo_no hro _)
        have HO1 := hide h1
        have HO2 := hide h2
        clear h1 h2
        go_wp2_with fail
        go_ret2
        exact ⟨a, c, by rw [HO1.out, HO2.out]; rfl, by rw [HO2.out]; exact HBF.out, HAN.out, HKr.out⟩
      · skip
        have HRN : Hid (chGo nn E (400 - (k + 1)) (pushV nn E f (ringV nn E f)) = chRes nn E) := by
          show _ = _
          rw [← HRS.out, show 400 - k = 400 - (k + 1) + 1 by omega, chGo_on hro]
        have HPC := hide (HPI.out a c f ra rc (ringV nn E f) w3 HKr.out (HBF.out.toOwn.mem (a, its f) (by simp)) (HBR.out.toOwn.mem (ra, its (ringV nn E f)) (by simp)) (by omega) (by have := HRL.out; omega))
        have hrl := HRL.out
        generalize ringV nn E f = RV at *
        go_wp2_with fail
        refine (unhide HPC).mono ?_
        rintro e w4 ⟨pa, pc, rfl, hb4, hpn, hk4⟩
        have HPN := hide hpn
        have HBP := hide (hb4.old HKr.out)
        have HB4 := hide (HBr.out.kept hk4)
        have HK4 := hide (HKr.out.trans hk4)
        have HP60 := hide (pushV_60 nn E f RV)
        clear hb4 hpn hk4 q0 q1
        go_wp2_with fail
        go_roundw
        case rel => exact ⟨k + 1, pa, pc, pushV nn E f RV, by omega, HP60.out, rfl, by go_num, HBP.out, HPN.out, HRN.out, HB4.out, HK4.out⟩
        case measure => simp [intOf]; omega
    · have e : k = 400 := by omega
      subst e
      go_wp2_with fail
      refine (unhide HRC).mono ?_
      rintro e w3 ⟨ra, rc, rfl, hb3, hrn, hk3⟩
      have HBR := hide hb3
      replace HBF : Hid (Born w w3 [(a, its f)]) := ⟨HBF.out.toOwn.kept hk3, HBF.out.new⟩
      replace HBr := hide (HBr.out.kept hk3)
      replace HKr := hide (HKr.out.trans hk3)
      have HRL := hide (ringV_24 nn E f)
      clear hb3 hrn hk3 q0 q1 HRC
      obtain ⟨q0, q1⟩ := HBr.out
      dsimp only at q0 q1
      cases hro : ringOk nn E f
      · skip
        obtain ⟨h1, h2⟩ := ch_yes (show chRes nn E = some f by rw [← HRS.out]; exact chGo_no hro _)
        have HO1 := hide h1
        have HO2 := hide h2
        clear h1 h2
        go_wp2_with fail
        go_ret2
        exact ⟨a, c, by rw [HO1.out, HO2.out]; rfl, by rw [HO2.out]; exact HBF.out, HAN.out, HKr.out⟩
      · skip
        obtain ⟨h1, h2⟩ := ch_no (show chRes nn E = none by rw [← HRS.out];  exact chGo_end hro)
        have HO1 := hide h1
        have HO2 := hide h2
        clear h1 h2
        go_wp2_with fail
        go_ret2
        exact ⟨none, 0, by rw [HO1.out, HO2.out]; rfl, by rw [HO2.out]; exact born_none _ _, fun _ => rfl, HKr.out⟩
end Go.Proofs.Ytaboogkioehkeaa
