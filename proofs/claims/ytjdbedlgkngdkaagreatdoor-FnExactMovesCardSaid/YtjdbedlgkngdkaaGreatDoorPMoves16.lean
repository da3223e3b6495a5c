/- Texts of the verifier, joined: PiC, ChIC, Mz, BgH, BgR. -/
import Derived.Test.YtjdbedlgkngdkaaGreatDoorPMoves15
import Derived.Test.YtjdbedlgkngdkaaGreatDoorPMoves9
import Derived.Test.YtjdbedlgkngdkaaGreatDoorPMoves10
import Derived.Test.YtjdbedlgkngdkaaGreatDoorPMoves1
import Derived.Test.YtjdbedlgkngdkaaGreatDoorPMoves3
namespace Go.Proofs.YtjdbedlgkngdkaaGreatDoor
open Go.RowKit Go.Deep
set_option linter.unusedVariables false
set_option linter.unusedSimpArgs false
set_option maxRecDepth 10000

set_option maxHeartbeats 8000000 in
theorem push_implC (G : Gf) (fa : Option Addr) (fc : Nat) (f : List Int) (ra : Option Addr) (rc : Nat) (Q : List Int) (w : World) (hm : Mem w G.segs) (hf : Cells w fa (its f)) (hq : Cells w ra (its Q)) (hl : G.len) (hlf : f.length ≤ 1048576) (hlq : Q.length ≤ 1048576) :
    Calls Tryz.prog 64 #[G.v, .slice fa f.length fc, .slice ra Q.length rc] w fun e w' => ∃ a c, e = .returned (.tuple #[.slice a (pushV G.nn G.E f Q).length c, .bool (pushOk G.nn G.E f Q)]) ∧ Born w w' [(a, its (pushV G.nn G.E f Q))] ∧ ((a = none → c = 0) ∧ (pushV G.nn G.E f Q).length ≤ c) ∧ Keeps w w' := by
  have HQ := hide (fun w' (hk : Keeps w w') => flow_impl G fa fc f w' (hm.kept hk) (hf.kept hk) hl hlf)
  have HQ2 := hide (fun g cap (L : List Int) w' (hk : Keeps w w') (hc : Cells w' (some ⟨g, 0, none⟩) (its L)) (hl2 : L.length ≤ 1048576) => flow_impl G (some ⟨g, 0, none⟩) cap L w' (hm.kept hk) hc hl hl2)
  obtain ⟨nn, ea, ec, E⟩ := G
  have HM := hide hm
  have HF := hide hf
  have HR := hide hq
  have HB := hide (gr_box ⟨nn, ea, ec, E⟩ w 36)
  have HK := hide (Keeps.alloc (Keeps.refl w) (.cells #[.int .i64 nn, .slice ea E.length ec] 36))
  dsimp only [Gf.v, Gf.len, Gf.segs] at *
  clear hm hf hq
  cases hb : flowB nn E f
  · obtain ⟨h1, h2⟩ := push_no (R := Q) (show ¬ pushP nn E f Q from fun h => by rw [h.1] at hb; cases hb)
    rw [h1, h2]
    clear h1 h2 HQ2
    go_enter Tryz.func64, Tryz.ntmps64
    go_wp2_with fail
    refine (unhide HQ _ HK.out).mono ?_
    rintro e w1 ⟨rfl, hk⟩
    rw [hb]
    go_wp2_with fail
    go_ret2
    exact ⟨none, 0, rfl, born_none _ _, ⟨fun _ => rfl, (by first | exact Nat.le_refl _ | (rw [HO2.out]; exact Nat.le_refl _))⟩, HK.out.trans hk⟩
  have HFL := hide hb
  obtain ⟨hg, hle, hcap, -⟩ := flowB_true hb
  obtain ⟨g1, g2, g3, g4⟩ := graphB_true hg
  obtain ⟨n, rfl⟩ : ∃ n : Nat, nn = (n : Int) := ⟨nn.toNat, by omega⟩
  have HFB : Hid (∀ j (hj : j < f.length), 0 ≤ f[j] ∧ f[j] ≤ 1000000000) := fun j hj => by
    have a := hcap j (by omega) hj
    have b := edgeB_true (g4 j (by omega))
    omega
  have HL := hide hle
  rw [hle] at HQ hlf ⊢
  clear hg hle hcap g4
  go_enter Tryz.func64, Tryz.ntmps64
  go_wp2_with fail
  refine (unhide HQ _ HK.out).mono ?_
  rintro e w1 ⟨rfl, hk⟩
  rw [hb]
  clear hb
  generalize w.alloc (.cells #[.int .i64 (n : Int), .slice ea E.length ec] 36) = W0 at *
  replace HB := hide (HB.out.kept hk)
  replace HK := hide (HK.out.trans hk)
  clear hk HQ
  have HLK := hide (least_k n E f ea ec fa fc ra rc Q w1 HFL.out (HM.out.kept HK.out) (HF.out.kept HK.out) (HR.out.kept HK.out) hlq)
  obtain ⟨q0, q1⟩ := HB.out
  dsimp only at q0 q1
  go_wp2_with fail
  refine (unhide HLK).mono ?_
  rintro e w2 ⟨amt, b, rfl, hbi, hbx, hk⟩
  replace HB := hide (HB.out.kept hk)
  replace HK := hide (HK.out.trans hk)
  clear hk HLK q0 q1
  cases b
  · obtain ⟨h1, h2⟩ := push_no (show ¬ pushP (n : Int) E f Q from fun h => Bool.noConfusion (hbi.2 ⟨h.2.1, h.2.2.1⟩))
    have HO1 := hide h1
    have HO2 := hide h2
    clear h1 h2 hbi hbx
    go_wp2_with fail
    go_ret2
    exact ⟨none, 0, by rw [HO1.out, HO2.out]; rfl, by rw [HO2.out]; exact born_none _ _, ⟨fun _ => rfl, (by first | exact Nat.le_refl _ | (rw [HO2.out]; exact Nat.le_refl _))⟩, HK.out⟩
  obtain ⟨hq0, hvl⟩ := hbi.1 rfl
  have HVL := hide hvl
  have HQ0 := hide hq0
  have hamt := hbx rfl
  have hab := lst_bound HFL.out Q Q.length
  rw [← hamt] at hab
  have HPY : Hid (flowB (n : Int) E (psh f Q amt Q.length) = true → pushOk (n : Int) E f Q = true ∧ pushV (n : Int) E f Q = psh f Q amt Q.length) := fun h => by
    have := push_yes (N := (n : Int)) (E := E) (f := f) (R := Q) ⟨HFL.out, hq0, hvl, by rw [← hamt]; exact h⟩
    rw [← hamt] at this; exact this
  have HPN : Hid (flowB (n : Int) E (psh f Q amt Q.length) = false → pushOk (n : Int) E f Q = false ∧ pushV (n : Int) E f Q = []) := fun h => push_no (fun hp => by
    have := hp.2.2.2
    rw [← hamt, h] at this; cases this)
  have hel : 0 < E.length := by
    have := ok_range HFL.out (hvl 0 (List.length_pos_iff.2 hq0))
    omega
  clear hbi hbx hvl hq0 hamt
  obtain ⟨fb, foff, hfa, hy0⟩ := its_at HF.out 0 (by rw [HL.out]; exact hel)
  subst hfa
  have HCL := hide (clone_k fb foff fc f w2 (HF.out.kept HK.out) (by rw [HL.out]; omega))
  rw [HL.out] at HCL
  clear hy0
  go_wp2_with fail
  refine (unhide HCL).mono ?_
  rintro e w3 ⟨g, cap, rfl, ho3, hk⟩
  have HKs : Hid (w.heap.size < w2.heap.size) := lt_of_cell HB.out.1
  replace HB := hide (HB.out.kept hk)
  have HKw := hide HK.out.size
  replace HK := hide (HK.out.trans hk)
  have HO3 := hide ho3
  have HCAP : Hid (E.length ≤ cap) := by
    obtain ⟨a', c', e1, h1, _⟩ := Own.of_owns ho3
    injection e1 with _ e2 e3
    show _ ≤ _
    rw [e2, e3]
    exact h1
  clear hk HCL ho3
  go_wp2_with fail
  go_loopw [30] (fun y wr => ∃ i : Nat, i ≤ Q.length ∧ y = .int .i64 (i : Int) ∧ Hid (OwnsI wr w2.heap.size (.slice (some ⟨g, 0, none⟩) E.length cap) (psh f Q amt i)) ∧ Hid (Turn [g] w3 wr)) (fun y _ => Q.length - (intOf y).toNat)
  case atStart => exact ⟨0, by omega, rfl, HO3.out, Turn.refl _ _⟩
  case round =>
    obtain ⟨i, hi, rfl, HO, HT⟩ := hrel
    have hgb := (HO3.out.lt g rfl).1
    have HKr : Hid (Keeps w wr) := HT.out.keeps HK.out (by have := HKw.out; simp; omega)
    by_cases hlt : i < Q.length
    · obtain ⟨qb, qoff, qa, y0⟩ := its_at (HR.out.kept HKr.out) i hlt
      have hrg := ok_range HFL.out (HVL.out i hlt)
      have hgd := getD_at hlt
      have HPS : Hid (psh f Q amt (i + 1) = (psh f Q amt i).set (Q.getD i (-1) / 2).toNat (if Q.getD i (-1) % 2 = 0 then (psh f Q amt i).getD (Q.getD i (-1) / 2).toNat 0 + amt else (psh f Q amt i).getD (Q.getD i (-1) / 2).toNat 0 - amt)) := rfl
      rw [hgd] at hrg HPS
      clear hgd
      generalize Q[i] = x at *
      obtain rfl := qa
      obtain ⟨p, rfl⟩ : ∃ p : Nat, x = (p : Int) := ⟨x.toNat, by omega⟩
      obtain ⟨k, hkp⟩ : ∃ k, k = p / 2 := ⟨_, rfl⟩
      have hkl : k < E.length := by omega
      have HKP := hide hkp
      have hpl := psh_len f Q amt i
      have hkf : k < (psh f Q amt i).length := by rw [hpl, HL.out]; exact hkl
      have e1 : ((p : Int) / 2).toNat = k := by omega
      rw [e1] at HPS
      have e2 : (psh f Q amt i).getD k 0 = (psh f Q amt i)[k] := by rw [List.getD_eq_getElem?_getD, List.getElem?_eq_getElem hkf]; rfl
      rw [e2] at HPS
      have hbd := psh_bound HFB.out hab.1 hab.2 (R := Q) i k hkf
      have hoe : wr.ownsRow w2.heap.size 3 1 (.slice (some ⟨g, 0, none⟩) E.length cap) E.length (its (psh f Q amt i)) := by
        have h := HO.out
        unfold OwnsI at h
        rw [hpl, HL.out] at h
        exact h
      have r0 : wr.cell? ⟨g, k, none⟩ = some (.int .i64 (psh f Q amt i)[k]) := by rw [hoe.cellAt k (by omega)]; simp [its, hkf]
      have f0 : wr.frozen? ⟨g, k, none⟩ = false := hoe.frozenAt k
      have HST := hide (fun u => (hoe.stored k (.int .i64 u)))
      have HIT : Hid (∀ u, (its (psh f Q amt i)).set k (.int .i64 u) = its ((psh f Q amt i).set k u)) := fun u => by simp [its, List.map_set]
      have HLL : Hid (∀ u, ((psh f Q amt i).set k u).length = (psh f Q amt i).length) := fun u => by simp
      generalize hz : (psh f Q amt i)[k] = z at *
      clear hz e1 e2 hoe hkp
      by_cases hpar : (p : Int) % 2 = 0
      · have hm0 : (p : Int) % 2 = 0 := hpar
        have hm1 : ((p : Int) % 2 == 0) = true := by rw [hm0]; rfl
        have hd0 : (p : Int) / 2 = (k : Int) := by have := HKP.out; omega
        clear hpar
        rw [if_pos hm0] at HPS
        have hw : IntKind.i64.wrap (z + amt) = z + amt := by rw [IntKind.wrap_i64]; omega
        have hsv := HST.out (z + amt)
        have HSV := hide hsv.1
        have HTG : Hid (Turn [g] w3 (wr.setCell ⟨g, k, none⟩ (.int .i64 (z + amt)))) := HT.out.trans' (Turn.set (by simp) _)
        clear hsv
        go_wp2_with fail
        go_roundw
        case rel =>
          refine ⟨i + 1, by omega, by go_num, ?_, HTG.out⟩
          show OwnsI _ _ _ _
          unfold OwnsI
          rw [HPS.out, HLL.out, hpl, HL.out, ← HIT.out]
          exact HSV.out
        case measure => simp [intOf]; omega
      · have hm0 : (p : Int) % 2 = 1 := by omega
        have hm1 : ((p : Int) % 2 == 0) = false := by rw [hm0]; rfl
        have hd0 : (p : Int) / 2 = (k : Int) := by have := HKP.out; omega
        clear hpar
        rw [if_neg (by omega)] at HPS
        have hw : IntKind.i64.wrap (z - amt) = z - amt := by rw [IntKind.wrap_i64]; omega
        have hsv := HST.out (z - amt)
        have HSV := hide hsv.1
        have HTG : Hid (Turn [g] w3 (wr.setCell ⟨g, k, none⟩ (.int .i64 (z - amt)))) := HT.out.trans' (Turn.set (by simp) _)
        clear hsv
        go_wp2_with fail
        go_roundw
        case rel =>
          refine ⟨i + 1, by omega, by go_num, ?_, HTG.out⟩
          show OwnsI _ _ _ _
          unfold OwnsI
          rw [HPS.out, HLL.out, hpl, HL.out, ← HIT.out]
          exact HSV.out
        case measure => simp [intOf]; omega
    · have e : i = Q.length := by omega
      subst e
      have hpl := psh_len f Q amt Q.length
      have ho2 : OwnsI wr w2.heap.size (.slice (some ⟨g, 0, none⟩) (psh f Q amt Q.length).length cap) (psh f Q amt Q.length) := by rw [hpl, HL.out]; exact HO.out
      have HBO := hide (born_owns (W := w) ho2 HKw.out)
      have HQF := hide (HQ2.out g cap (psh f Q amt Q.length) wr HKr.out (HBO.out.toOwn.mem (some ⟨g, 0, none⟩, its (psh f Q amt Q.length)) (by simp)) (by rw [hpl, HL.out]; omega))
      rw [hpl, HL.out] at HQF
      have HPL : Hid ((psh f Q amt Q.length).length = E.length) := by show _ = _; rw [hpl, HL.out]
      have HBr : Hid (GrAt wr w.heap.size ⟨(n : Int), ea, ec, E⟩) := by
        have h1 := HKs.out
        exact ⟨HT.out.cell (by simp; omega) HB.out.1, HT.out.cell (by simp; omega) HB.out.2⟩
      obtain ⟨q0, q1⟩ := HBr.out
      dsimp only at q0 q1
      clear hpl ho2
      go_wp2_with fail
      refine (unhide HQF).mono ?_
      rintro e w5 ⟨rfl, hk⟩
      cases hfb : flowB (n : Int) E (psh f Q amt Q.length)
      · obtain ⟨h1, h2⟩ := HPN.out hfb
        have HO1 := hide h1
        have HO2 := hide h2
        clear h1 h2 hfb
        go_wp2_with fail
        go_ret2
        exact ⟨none, 0, by rw [HO1.out, HO2.out]; rfl, by rw [HO2.out]; exact born_none _ _, ⟨fun _ => rfl, (by first | exact Nat.le_refl _ | (rw [HO2.out]; exact Nat.le_refl _))⟩, HKr.out.trans hk⟩
      · obtain ⟨h1, h2⟩ := HPY.out hfb
        have HO1 := hide h1
        have HO2 := hide h2
        clear h1 h2 hfb
        go_wp2_with fail
        go_ret2
        exact ⟨some ⟨g, 0, none⟩, cap, by rw [HO1.out, HO2.out, HPL.out]; rfl, by rw [HO2.out]; exact ⟨HBO.out.toOwn.kept hk, HBO.out.new⟩, ⟨fun h => (nomatch h), by rw [HO2.out, HPL.out]; exact HCAP.out⟩, HKr.out.trans hk⟩
end Go.Proofs.YtjdbedlgkngdkaaGreatDoor
namespace Go.Proofs.YtjdbedlgkngdkaaGreatDoor
open Go.RowKit Go.Deep
set_option linter.unusedVariables false
set_option linter.unusedSimpArgs false
set_option maxRecDepth 10000

set_option maxHeartbeats 8000000 in
theorem cheap_implC (G : Gf) (w : World) (hm : Mem w G.segs) (hl : G.len) :
    Calls Tryz.prog 28 #[G.v] w fun e w' => ∃ a c, e = .returned (.tuple #[.slice a (chV G.nn G.E).length c, .bool (chOk G.nn G.E)]) ∧ Born w w' [(a, its (chV G.nn G.E))] ∧ ((a = none → c = 0) ∧ (chV G.nn G.E).length ≤ c) ∧ Keeps w w' := by
  have HQ := hide (fun w' (hk : Keeps w w') => graph_impl G w' (hm.kept hk) hl)
  have HRI := hide (fun a c (f : List Int) w' (hk : Keeps w w') (hf : Cells w' a (its f)) (hlf : f.length ≤ 1048576) => ring_impl G a c f w' (hm.kept hk) hf hl hlf)
  have HPI := hide (fun a c (f : List Int) ra rc (Q : List Int) w' (hk : Keeps w w') (hf : Cells w' a (its f)) (hq : Cells w' ra (its Q)) (hlf : f.length ≤ 1048576) (hlq : Q.length ≤ 1048576) => push_implC G a c f ra rc Q w' (hm.kept hk) hf hq hl hlf hlq)
  obtain ⟨nn, ea, ec, E⟩ := G
  have HB := hide (gr_box ⟨nn, ea, ec, E⟩ w 36)
  have HK := hide (Keeps.alloc (Keeps.refl w) (.cells #[.int .i64 nn, .slice ea E.length ec] 36))
  dsimp only [Gf.v, Gf.len, Gf.segs] at *
  clear hm
  cases hb : graphB nn E
  · obtain ⟨h1, h2⟩ := ch_no (show chRes nn E = none by simp [chRes, hb])
    rw [h1, h2]
    clear h1 h2 HRI HPI
    go_enter Tryz.func28, Tryz.ntmps28
    go_wp2_with fail
    refine (unhide HQ _ HK.out).mono ?_
    rintro e w1 ⟨rfl, hk⟩
    rw [hb]
    go_wp2_with fail
    go_ret2
    exact ⟨none, 0, rfl, born_none _ _, ⟨fun _ => rfl, (by first | exact Nat.le_refl _ | (rw [HO2.out]; exact Nat.le_refl _))⟩, HK.out.trans hk⟩
  have HR0 : Hid (chGo nn E 400 (List.replicate E.length 0) = chRes nn E) := by show _ = _; simp [chRes, hb]
  obtain ⟨g1, g2, g3, -⟩ := graphB_true hb
  have hmk := make_ints E.length (by omega)
  go_enter Tryz.func28, Tryz.ntmps28
  go_wp2_with fail
  refine (unhide HQ _ HK.out).mono ?_
  rintro e w1 ⟨rfl, hk⟩
  rw [hb]
  clear hb
  generalize w.alloc (.cells #[.int .i64 nn, .slice ea E.length ec] 36) = W0 at *
  replace HB := hide (HB.out.kept hk)
  replace HK := hide (HK.out.trans hk)
  clear hk HQ
  obtain ⟨q0, q1⟩ := HB.out
  dsimp only at q0 q1
  have HBM := hide ((born_made w1 E.length).old HK.out)
  have HKM := hide (Keeps.alloc (Keeps.refl w1) (.cells (madeCells #[.int .i64 0] E.length) 3))
  have lb := lt_of_cell q0
  go_wp2_with fail
  clear hmk q0 q1 lb
  generalize w1.alloc (.cells (madeCells #[.int .i64 0] E.length) 3) = W2 at *
  replace HB := hide (HB.out.kept HKM.out)
  replace HK := hide (HK.out.trans HKM.out)
  clear HKM
  have HL0 : Hid ((List.replicate E.length (0 : Int)).length = E.length) := by show _ = _; simp
  go_loopw [4, 5] (fun v y wr => ∃ (k : Nat) (a : Option Addr) (c : Nat) (f : List Int), k ≤ 400 ∧ f.length ≤ 60 ∧ v = .slice a f.length c ∧ y = .int .i64 (k : Int) ∧ Hid (Born w wr [(a, its f)]) ∧ Hid ((a = none → c = 0) ∧ f.length ≤ c) ∧ Hid (chGo nn E (400 - k) f = chRes nn E) ∧ Hid (GrAt wr w.heap.size ⟨nn, ea, ec, E⟩) ∧ Hid (Keeps w wr)) (fun _ y _ => 400 - (intOf y).toNat)
  case atStart => exact ⟨0, _, _, List.replicate E.length 0, by omega, by rw [HL0.out]; exact g3, by rw [HL0.out], rfl, HBM.out, ⟨fun h => (nomatch h), by rw [HL0.out]; exact Nat.le_refl _⟩, HR0.out, HB.out, HK.out⟩
  case round =>
    obtain ⟨k, a, c, f, hk, hf60, rfl, rfl, HBF, HAN, HRS, HBr, HKr⟩ := hrel
    clear HBM HB HK HR0 HL0
    obtain ⟨q0, q1⟩ := HBr.out
    dsimp only at q0 q1
    have HRC := hide (HRI.out a c f wr HKr.out (HBF.out.toOwn.mem (a, its f) (by simp)) (by omega))
    go_wp2_with fail
    refine (unhide HRC).mono ?_
    rintro e w3 ⟨ra, rc, rfl, hb3, hrn, hk3⟩
    have HBR := hide hb3
    replace HBF : Hid (Born w w3 [(a, its f)]) := ⟨HBF.out.toOwn.kept hk3, HBF.out.new⟩
    replace HBr := hide (HBr.out.kept hk3)
    replace HKr := hide (HKr.out.trans hk3)
    have HRL := hide (ringV_24 nn E f)
    clear hb3 hrn hk3 q0 q1 HRC
    obtain ⟨q0, q1⟩ := HBr.out
    dsimp only at q0 q1
    cases hro : ringOk nn E f
    · skip
      obtain ⟨h1, h2⟩ := ch_yes (show chRes nn E = some f by rw [← HRS.out]; exact chGo_no hro _)
      have HO1 := hide h1
      have HO2 := hide h2
      clear h1 h2
      go_wp2_with fail
      go_ret2
      exact ⟨a, c, by rw [HO1.out, HO2.out]; rfl, by rw [HO2.out]; exact HBF.out, ⟨HAN.out.1, by rw [HO2.out]; exact HAN.out.2⟩, HKr.out⟩
    · by_cases hk4 : k = 400
      · subst hk4
        obtain ⟨h1, h2⟩ := ch_no (show chRes nn E = none by rw [← HRS.out];  exact chGo_end hro)
        have HO1 := hide h1
        have HO2 := hide h2
        clear h1 h2
        go_wp2_with fail
        go_ret2
        exact ⟨none, 0, by rw [HO1.out, HO2.out]; rfl, by rw [HO2.out]; exact born_none _ _, ⟨fun _ => rfl, (by first | exact Nat.le_refl _ | (rw [HO2.out]; exact Nat.le_refl _))⟩, HKr.out⟩
      · have hk5 : ((k : Int) == 400) = false := by simp; omega
        have HRN : Hid (chGo nn E (400 - (k + 1)) (pushV nn E f (ringV nn E f)) = chRes nn E) := by
          show _ = _
          rw [← HRS.out, show 400 - k = 400 - (k + 1) + 1 by omega, chGo_on hro]
        have HPC := hide (HPI.out a c f ra rc (ringV nn E f) w3 HKr.out (HBF.out.toOwn.mem (a, its f) (by simp)) (HBR.out.toOwn.mem (ra, its (ringV nn E f)) (by simp)) (by omega) (by have := HRL.out; omega))
        have hrl := HRL.out
        generalize ringV nn E f = RV at *
        go_wp2_with fail
        refine (unhide HPC).mono ?_
        rintro e w4 ⟨pa, pc, rfl, hb4, hpn, hk4⟩
        have HPN := hide hpn
        have HBP := hide (hb4.old HKr.out)
        have HB4 := hide (HBr.out.kept hk4)
        have HK4 := hide (HKr.out.trans hk4)
        have HP60 := hide (pushV_60 nn E f RV)
        clear hb4 hpn hk4 q0 q1
        go_wp2_with fail
        go_roundw
        case rel => exact ⟨k + 1, pa, pc, pushV nn E f RV, by omega, HP60.out, rfl, by go_num, HBP.out, HPN.out, HRN.out, HB4.out, HK4.out⟩
        case measure => simp [intOf]; omega
end Go.Proofs.YtjdbedlgkngdkaaGreatDoor
namespace Go.Proofs.YtjdbedlgkngdkaaGreatDoor
open Go.RowKit Go.Deep
set_option linter.unusedVariables false
set_option linter.unusedSimpArgs false
set_option maxRecDepth 10000

set_option maxHeartbeats 8000000 in
theorem moves_impl (B : Bo) (lo hi gain : Int) (a : Option Addr) (cap : Nat) (L : List Prc) (w : World) (hm : Mem w B.segs) (hl : B.len) (hp : Cells w a (pcs L)) (hlp : L.length ≤ 1048576) (hcp : L.length ≤ cap) :
    Calls Tryz.prog 7 #[B.v, .int .i64 lo, .int .i64 hi, .int .i64 gain, .slice a L.length cap] w fun e w' => ∃ va vc, e = .returned (.tuple #[.slice va (movV B.d lo hi gain L).length vc, .bool (movOk B.d lo hi gain L)]) ∧ (va = none → vc = 0) ∧ Born w w' [(va, mvs (movV B.d lo hi gain L))] ∧ Keeps w w' := by
  have HPO := hide (fun w' (hk : Keeps w w') => plan_impl B lo hi gain a cap L w' (hm.kept hk) hl (hp.kept hk) hlp hcp)
  have HPP := hide (fun w' (hk : Keeps w w') => hp.kept hk)
  have HMO : Hid (movOk B.d lo hi gain L = (planB B.d lo hi gain L && chOk (planN B.d lo hi gain L) (planV B.d lo hi gain L))) := rfl
  have HNV := hide (fun h => mov_no (B := B.d) (lo := lo) (hi := hi) (gain := gain) (L := L) h)
  have HYV := hide (fun h => mov_yes (B := B.d) (lo := lo) (hi := hi) (gain := gain) (L := L) h)
  have HML := hide (fun h1 h2 => mov_len (B := B.d) (lo := lo) (hi := hi) (gain := gain) (L := L) h1 h2)
  have HFV : Hid (movF B.d lo hi gain L = chV (planN B.d lo hi gain L) (planV B.d lo hi gain L)) := rfl
  have HEL := hide (planV_len B.d lo hi gain L)
  generalize movV B.d lo hi gain L = MV at *
  generalize movOk B.d lo hi gain L = ok at *
  generalize movF B.d lo hi gain L = F at *
  generalize planV B.d lo hi gain L = E at *
  generalize planN B.d lo hi gain L = nn at *
  generalize planB B.d lo hi gain L = r1 at *
  obtain ⟨tk, nx, wa, ca, cc, C, ha, hc, Hs, ra, rc, R⟩ := B
  dsimp only [Bo.v] at *
  have HK1 := hide (Keeps.alloc (Keeps.refl w) (.cells #[.int .i64 tk, .int .i64 nx, .int .i64 wa, .slice ca C.length cc, .slice ha Hs.length hc, .slice ra R.length rc] 27))
  clear hm hl hp
  go_enter Tryz.func7, Tryz.ntmps7
  go_wp2_with fail
  refine (unhide HPO _ HK1.out).mono ?_
  rintro e W1 ⟨ea, ec, rfl, hen, hb, hk⟩
  have HKW := hide (HK1.out.trans hk)
  have HB1 := hide (hb.old HK1.out)
  clear hb hk HPO HK1
  have HGB := hide (gr_box ⟨nn, ea, ec, E⟩ W1 36)
  have HGK := hide (Keeps.alloc (Keeps.refl W1) (.cells #[.int .i64 nn, .slice ea E.length ec] 36))
  go_upto_region 2 with fail
  generalize W1.heap.size = G at *
  generalize W1.alloc (.cells #[.int .i64 nn, .slice ea E.length ec] 36) = W2 at *
  replace HKW := hide (HKW.out.trans HGK.out)
  replace HB1 := hide (HB1.out.kept HGK.out)
  clear HGK
  cases r1
  · have HNO : Hid (ok = false) := by show _ = _; rw [HMO.out]; rfl
    replace HNV := hide (HNV.out HNO.out)
    go_wp2_with fail
    go_ret2
    exact ⟨none, 0, by rw [HNV.out, HNO.out]; rfl, fun _ => rfl, by rw [HNV.out]; exact ⟨⟨fun s hs => by rw [List.mem_singleton.1 hs]; exact Cells.nil _ _, by simp [fp, fpS, mvs], fun b hb => absurd hb (by simp [fp, fpS, mvs])⟩, fun b hb => absurd hb (by simp [fp, fpS, mvs])⟩, HKW.out⟩
  obtain ⟨g0, g1⟩ := HGB.out
  dsimp only at g0 g1
  go_wp2_with fail
  refine (cheap_implC ⟨nn, ea, ec, E⟩ W2 HB1.out.mem (Nat.le_trans HEL.out (by decide))).mono ?_
  rintro e W3 ⟨fa, fc, rfl, hb, ⟨hfn, hfp⟩, hk⟩
  dsimp only at hb
  rw [← HFV.out] at hb ⊢
  have HKX := hide hk
  replace HKW := hide (HKW.out.trans hk)
  have HFC := hide (hb.mem (fa, its F) (by simp))
  have HFN := hide hfn
  dsimp only at hfp
  rw [← HFV.out] at hfp
  have HFP := hide hfp
  clear hb hk hfn hfp g0 g1 HB1
  replace HGB := hide (HGB.out.kept HKX.out)
  clear HKX
  cases r2 : chOk nn E
  · have HNO : Hid (ok = false) := by show _ = _; rw [HMO.out, r2]; rfl
    replace HNV := hide (HNV.out HNO.out)
    go_wp2_with fail
    go_ret2
    exact ⟨none, 0, by rw [HNV.out, HNO.out]; rfl, fun _ => rfl, by rw [HNV.out]; exact ⟨⟨fun s hs => by rw [List.mem_singleton.1 hs]; exact Cells.nil _ _, by simp [fp, fpS, mvs], fun b hb => absurd hb (by simp [fp, fpS, mvs])⟩, fun b hb => absurd hb (by simp [fp, fpS, mvs])⟩, HKW.out⟩
  have HOK : Hid (ok = true) := by show _ = _; rw [HMO.out, r2]; rfl
  replace HYV := hide (HYV.out HOK.out)
  replace HML := hide (HML.out (by first | trivial | rfl) r2)
  clear r2 HMO HNV HFV
  have hle : L.length ≤ F.length := by have := HML.out; omega
  have hF60 : F.length ≤ 60 := by have := HML.out.1; have := HEL.out; omega
  have hs1 : IntKind.i64.wrap ((F.length : Int) - (L.length : Int)) = ((F.length - L.length : Nat) : Int) := by rw [IntKind.wrap_i64]; omega
  go_upto_region 8 with fail
  have hq2 : F.length - (F.length - L.length) = L.length := by omega
  rw [hq2]
  obtain ⟨qa, hqa⟩ : ∃ qa, qa = (if fc = F.length - L.length then fa else Option.map (fun x => x.add (F.length - L.length)) fa) := ⟨_, rfl⟩
  rw [← hqa]
  have HQA : Hid (∀ k (hk : k < L.length) (hf : E.length - L.length + k < F.length), ∃ qb qoff, qa = some ⟨qb, qoff, none⟩ ∧ ∀ w', Keeps W3 w' → w'.cell? ⟨qb, qoff + k, none⟩ = some (.int .i64 F[E.length - L.length + k])) := by
    intro k hk hf
    obtain ⟨fb, foff, e, z⟩ := its_at HFC.out (E.length - L.length + k) hf
    have hne : fc ≠ F.length - L.length := by have := HFP.out; omega
    have hFE := HML.out.1
    refine ⟨fb, foff + (F.length - L.length), by rw [hqa, if_neg hne, e, Option.map_some, addr_at], fun w' hk' => ?_⟩
    have e2 : foff + (F.length - L.length) + k = foff + (E.length - L.length + k) := by omega
    rw [e2]
    exact hk'.cell z
  clear hqa hq2 hs1 hle hF60 HFC HFP HFN
  generalize fc - (F.length - L.length) = qc at *
  generalize F.length - L.length = qn at *
  go_wp2_with fail
  go_loopw [16, 46] (fun v y wr => ∃ k : Nat, k ≤ L.length ∧ y = .int .i64 (k : Int) ∧ Hid (OwnsMove wr W3.heap.size v (movesTo L F (E.length - L.length) k)) ∧ Hid (Keeps W3 wr)) (fun _ y _ => L.length - (intOf y).toNat)
  case atStart => exact ⟨0, by omega, rfl, ⟨by simp [mvs, movesTo], .inl ⟨rfl, rfl⟩⟩, Keeps.refl _⟩
  case round =>
    obtain ⟨k, hk, rfl, HO, HKr⟩ := hrel
    by_cases hlt : k < L.length
    · obtain ⟨b, off, ea0, c0, c1, c2⟩ := pcs_at (unhide HPP _ (HKW.out.trans HKr.out)) k hlt
      have HX := hide ea0
      clear ea0
      have hfl : E.length - L.length + k < F.length := by have := HML.out; omega
      obtain ⟨fb, foff, ea1, z1⟩ := HQA.out k hlt hfl
      have z0 := z1 _ HKr.out
      clear z1
      have HX1 := hide ea1
      clear ea1
      have HST := hide (movesTo_step hlt hfl)
      have HLN := hide (movesTo_len L F (E.length - L.length) k)
      have HL20 : Hid (L.length ≤ 20) := HML.out.2.2
      have HMP : Hid (moveP L[k] F[E.length - L.length + k] = if 0 < F[E.length - L.length + k] then [⟨L[k].fr, L[k].to, F[E.length - L.length + k], L[k].pp⟩] else []) := rfl
      obtain ⟨M1, hM1⟩ : ∃ M1, M1 = movesTo L F (E.length - L.length) (k + 1) := ⟨_, rfl⟩
      have HM1 := hide hM1
      rw [← hM1] at HST
      clear hM1
      generalize movesTo L F (E.length - L.length) k = M at *
      generalize F[E.length - L.length + k] = n at *
      generalize L[k] = x at *
      obtain ⟨xfr, xto, xpp⟩ := x
      dsimp only at c0 c1 c2 HMP HST
      have HA := hide (rowc3 wr (.int .i64 xfr) (.int .i64 xto) (.int .i64 xpp) 69)
      have HKA := hide (Keeps.alloc (Keeps.refl wr) (.cells #[.int .i64 xfr, .int .i64 xto, .int .i64 xpp] 69))
      obtain rfl := HX.out
      obtain rfl := HX1.out
      go_upto_region 12 with fail
      generalize wr.heap.size = V at *
      generalize hW1 : wr.alloc (.cells #[.int .i64 xfr, .int .i64 xto, .int .i64 xpp] 69) = Wp at *
      have HW1 := hide hW1
      clear hW1
      obtain ⟨d0, d1, d2⟩ := unhide HA Wp (Keeps.refl _)
      clear c0 c1 c2 HX
      replace HO := hide (OwnsMove.kept' HO.out HKA.out)
      replace HKr := hide (HKr.out.trans HKA.out)
      replace z0 := HKA.out.cell z0
      clear HA HKA HW1
      by_cases hn : 0 < n
      · rw [if_pos hn] at HMP
        have D0 := gr_cell d0
        have D1 := gr_cell d1
        have D2 := gr_cell d2
        have Z0 := gr_cell z0
        go_upto_region 13 with fail
        refine wp_region_app [.u, .h, .h, .h, .h, .h, .h, .h, .h, .h, .h, .h, .b, .t, .t] (by kernel_rfl) (by kernel_rfl) rfl rfl rfl rfl rfl rfl rfl (fun _ _ d _ _ h => by cases d <;> exact h) ?_
        simp only [pkU, pkF, pkH, pkT, pkB]
        refine wpUni_step ?v0 (by rfl) ?f0 ?_
        case f0 =>
          intro w9
          go_simp
          with_reducible rfl
        try simp only [Act.put, List.setIfInBounds_toArray, List.set_cons_zero, List.set_cons_succ]
        refine wpUni_nil ?_
        refine wpFlo_nil ?_
        repeat (go_big_quiet_step (fail))
        refine wpQuiet_nil ?_
        refine ⟨rfl, ?_⟩
        rintro w9 ⟨t9, rfl⟩ K9 hK9
        go_simp
        refine hK9.out _ _ (gr_gr (Keeps.alloc (Keeps.refl _) _)) ?_
        clear hK9 K9
        replace HO := hide (OwnsMove.kept' HO.out (gr_keeps Wp t9))
        replace HKr := hide (HKr.out.trans (gr_keeps Wp t9))
        generalize gr Wp t9 = W9 at *
        have HM2 := hide (one_Move W9 ⟨xfr, xto, n, xpp⟩)
        have HK2 := hide (Keeps.alloc (Keeps.refl W9) (.cells #[.int .i64 xfr, .int .i64 xto, .int .i64 n, .int .i64 xpp] 71))
        have HO2 := hide (OwnsMove.kept' HO.out HK2.out)
        have HB2 : Hid (W3.heap.size ≤ (W9.alloc (.cells #[.int .i64 xfr, .int .i64 xto, .int .i64 n, .int .i64 xpp] 71)).heap.size) := Nat.le_trans HKr.out.size HK2.out.size
        dsimp only at HM2
        clear D0 D1 D2 Z0 d0 d1 d2 z0
        go_wp2_with (at_builtin; refine app_Move rfl (.tmp 56) (.tmp 68) rfl W3.heap.size _ M [⟨xfr, xto, n, xpp⟩] rfl (some ⟨W9.heap.size, 0, none⟩) 1 rfl HM2.out (fun h => nomatch h) HO2.out (by have := HLN.out; have := HL20.out; simp; omega) HB2.out ?_; intro v' w' ho hg hnn)
        go_roundw
        case rel =>
          refine ⟨k + 1, by omega, by go_num, ?_, Keeps.grown (HKr.out.trans HK2.out) hg (fun j hj => (HO2.out.lt j hj).1)⟩
          show OwnsMove _ _ _ _
          rw [← HM1.out, HST.out, HMP.out]
          exact ho
        case measure => simp [intOf]; omega
      · rw [if_neg hn] at HMP
        rw [HMP.out, List.append_nil] at HST
        go_wp2_with fail
        go_roundw
        case rel => exact ⟨k + 1, by omega, by go_num, by rw [← HM1.out, HST.out]; exact HO.out, HKr.out⟩
        case measure => simp [intOf]; omega
    · have e : k = L.length := by omega
      subst e
      rw [← HYV.out] at HO
      obtain ⟨va, vc, rfl, hvn, hvb⟩ := bornM HO.out HKW.out.size
      have HVB := hide hvb
      have HVN := hide hvn
      clear hvb hvn
      go_wp2_with fail
      go_ret2
      exact ⟨va, vc, ret_mv rfl HOK.out.symm, HVN.out, HVB.out, HKW.out.trans HKr.out⟩
end Go.Proofs.YtjdbedlgkngdkaaGreatDoor
namespace Go.Proofs.YtjdbedlgkngdkaaGreatDoor
open Go.RowKit Go.Deep
set_option linter.unusedVariables false
set_option linter.unusedSimpArgs false
set_option maxRecDepth 10000

def Htl.v (x : Htl) : Value := .agg #[.int .i64 x.ky, .int .i64 x.inn, .int .i64 x.out, .int .i64 x.ai, .int .i64 x.ao, .bool x.kp, .int .i64 x.ag]
theorem toHtlc_k (x : Htl) (w : World) : Calls Tryz.prog 80 #[x.v] w fun e w' => e = .returned x.v ∧ Keeps w w' := by
  obtain ⟨xky, xinn, xout, xai, xao, xkp, xag⟩ := x
  dsimp only [Htl.v]
  go_enter Tryz.func80, Tryz.ntmps80
  go_wp2_with fail
  refine bodyPost_ret (v := .agg #[.int .i64 xky, .int .i64 xinn, .int .i64 xout, .int .i64 xai, .int .i64 xao, .bool xkp, .int .i64 xag]) (by simp [results, Tryz.results80, go_sem]) rfl ⟨rfl, ?_⟩
  repeat (first | exact Keeps.refl _ | refine Keeps.alloc ?_ _ | refine Keeps.setCell ?_ (by simp) _)
theorem szHtlcS_k (a : Option Addr) (len cap : Nat) (left : Int) (w : World) (hl : len ≤ 9223372036854775807) (h0 : 0 ≤ left) (h1 : left ≤ 1048576) :
    Calls Tryz.prog 37 #[.slice a len cap, .int .i64 left] w fun e w' => e = .returned (.int .i64 (if (len : Int) ≤ left then left - len else -1)) ∧ w' = w := by
  by_cases h : (len : Int) ≤ left
  · rw [if_pos h]
    go_enter Tryz.func37, Tryz.ntmps37
    go_wp2_with fail
    go_ret
    exact ⟨rfl, rfl⟩
  · rw [if_neg h]
    go_enter Tryz.func37, Tryz.ntmps37
    go_wp2_with fail
    go_ret
    exact ⟨rfl, rfl⟩
theorem infoHtlc : (Tryz.prog.info? 126).map (fun i => (i.zero, i.size, i.bytes)) = some (some (.agg #[.int .i64 0, .int .i64 0, .int .i64 0, .int .i64 0, .int .i64 0, .bool false, .int .i64 0]), 7, 56) := by kernel_rfl
theorem underHtlcs : Tryz.prog.underlying 24 = some (.slice 126) := by kernel_rfl
theorem make_Htlcs (n : Nat) (hn : n ≤ 1048576) (w : World) : (Instr.makeSlice 24 (.int .i64 (n : Int)) (.int .i64 (n : Int))).run Tryz.prog w = .ok (.slice (some ⟨w.heap.size, 0, none⟩) n n) (w.alloc (.cells (madeCells #[.int .i64 0, .int .i64 0, .int .i64 0, .int .i64 0, .int .i64 0, .bool false, .int .i64 0] (n * 7)) 126)) := by
  have hI := infoHtlc
  cases hi : Tryz.prog.info? 126 with
  | none => rw [hi] at hI; simp at hI
  | some i =>
    rw [hi] at hI
    simp at hI
    obtain ⟨hz, hs, hb⟩ := hI
    have h := run_make (P := Tryz.prog) w 24 126 i _ underHtlcs hi hz .i64 .i64 n n (by omega) (Int.le_refl _) (by rw [hb]; omega) (by omega)
    rw [hs] at h
    simpa [Value.cells] using h
/-- The row of the new list while it is filled. -/
def rowHtlc (L : List Htl) (k : Nat) : Nat → Value := fun j => if j < k * 7 then (hts L).getD j (.int .i64 0) else (#[.int .i64 0, .int .i64 0, .int .i64 0, .int .i64 0, .int .i64 0, .bool false, .int .i64 0] : Array Value)[j % 7]!
theorem made_Htlc (L : List Htl) (w : World) (m : Nat) (t : TypeId) : (w.alloc (.cells (madeCells #[.int .i64 0, .int .i64 0, .int .i64 0, .int .i64 0, .int .i64 0, .bool false, .int .i64 0] m) t)).rowIs w.heap.size t m (rowHtlc L 0) := by
  have h := World.rowIs_alloc w (madeCells #[.int .i64 0, .int .i64 0, .int .i64 0, .int .i64 0, .int .i64 0, .bool false, .int .i64 0] m) t (rowHtlc L 0) (by
    intro i hi
    rw [size_madeCells] at hi
    simp only [madeCells, Array.getElem?_map, Array.getElem?_range]
    rw [if_pos hi]
    simp [rowHtlc])
  rw [size_madeCells] at h
  exact h
theorem rowHtlc_step (L : List Htl) (k : Nat) (h : k < L.length) (j : Nat) : (if j = k * 7 + 6 then (.int .i64 L[k].ag : Value) else if j = k * 7 + 5 then (.bool L[k].kp : Value) else if j = k * 7 + 4 then (.int .i64 L[k].ao : Value) else if j = k * 7 + 3 then (.int .i64 L[k].ai : Value) else if j = k * 7 + 2 then (.int .i64 L[k].out : Value) else if j = k * 7 + 1 then (.int .i64 L[k].inn : Value) else if j = k * 7 then (.int .i64 L[k].ky : Value) else rowHtlc L k j) = rowHtlc L (k + 1) j := by
  have hL := hts_len L
  have hk := Nat.mul_le_mul_right 7 (show k + 1 ≤ L.length from h)
  have ha := fun r (hr : r < 7) => flatMap_at (f := Htl.cells) (sz := 7) (fun _ => rfl) L k h r hr
  unfold rowHtlc
  by_cases h6 : j = k * 7 + 6
  · subst h6
    (try simp only [if_true])
    (try rw [if_pos rfl])
    rw [if_pos (by omega), List.getD_eq_getElem?_getD]
    have e := ha 6 (by decide)
    skip
    unfold hts
    rw [e]; rfl
  rw [if_neg h6]
  by_cases h5 : j = k * 7 + 5
  · subst h5
    (try simp only [if_true])
    (try rw [if_pos rfl])
    rw [if_pos (by omega), List.getD_eq_getElem?_getD]
    have e := ha 5 (by decide)
    skip
    unfold hts
    rw [e]; rfl
  rw [if_neg h5]
  by_cases h4 : j = k * 7 + 4
  · subst h4
    (try simp only [if_true])
    (try rw [if_pos rfl])
    rw [if_pos (by omega), List.getD_eq_getElem?_getD]
    have e := ha 4 (by decide)
    skip
    unfold hts
    rw [e]; rfl
  rw [if_neg h4]
  by_cases h3 : j = k * 7 + 3
  · subst h3
    (try simp only [if_true])
    (try rw [if_pos rfl])
    rw [if_pos (by omega), List.getD_eq_getElem?_getD]
    have e := ha 3 (by decide)
    skip
    unfold hts
    rw [e]; rfl
  rw [if_neg h3]
  by_cases h2 : j = k * 7 + 2
  · subst h2
    (try simp only [if_true])
    (try rw [if_pos rfl])
    rw [if_pos (by omega), List.getD_eq_getElem?_getD]
    have e := ha 2 (by decide)
    skip
    unfold hts
    rw [e]; rfl
  rw [if_neg h2]
  by_cases h1 : j = k * 7 + 1
  · subst h1
    (try simp only [if_true])
    (try rw [if_pos rfl])
    rw [if_pos (by omega), List.getD_eq_getElem?_getD]
    have e := ha 1 (by decide)
    skip
    unfold hts
    rw [e]; rfl
  rw [if_neg h1]
  by_cases h0 : j = k * 7
  · subst h0
    (try simp only [if_true])
    (try rw [if_pos rfl])
    rw [if_pos (by omega), List.getD_eq_getElem?_getD]
    have e := ha 0 (by decide)
    simp only [Nat.add_zero] at e
    unfold hts
    rw [e]; rfl
  rw [if_neg h0]
  by_cases hlt : j < k * 7
  · rw [if_pos hlt, if_pos (by omega)]
  · rw [if_neg hlt, if_neg (by omega)]
theorem rowHtlc_end (L : List Htl) (j : Nat) (hj : j < (hts L).length) : rowHtlc L L.length j = (hts L)[j] := by
  have hL := hts_len L
  unfold rowHtlc
  rw [if_pos (by omega), List.getD_eq_getElem?_getD, List.getElem?_eq_getElem hj]
  rfl
set_option maxHeartbeats 2000000 in
theorem toHtlcS_k (a : Option Addr) (cap : Nat) (L : List Htl) (w : World) (hc : Cells w a (hts L)) (hl : L.length ≤ 1048576) :
    Calls Tryz.prog 45 #[.slice a L.length cap] w fun e w' => ∃ b, e = .returned (.slice (some ⟨b, 0, none⟩) L.length L.length) ∧ Born w w' [(some ⟨b, 0, none⟩, hts L)] ∧ Keeps w w' := by
  have HC := hide hc
  clear hc
  have hmk := make_Htlcs L.length hl
  have HR := hide (made_Htlc L w (L.length * 7) 126)
  have HKA := hide (Keeps.alloc (Keeps.refl w) (.cells (madeCells #[.int .i64 0, .int .i64 0, .int .i64 0, .int .i64 0, .int .i64 0, .bool false, .int .i64 0] (L.length * 7)) 126))
  go_enter Tryz.func45, Tryz.ntmps45
  go_wp2_with fail
  clear hmk
  go_loopw [4] (fun y w1 => ∃ k : Nat, k ≤ L.length ∧ y = .int .i64 (k : Int) ∧ w1.rowIs w.heap.size 126 (L.length * 7) (rowHtlc L k) ∧ Keeps w w1) (fun y _ => L.length - (intOf y).toNat)
  case atStart => exact ⟨0, by omega, rfl, HR.out, HKA.out⟩
  case round =>
    obtain ⟨k, hk, rfl, hr, hkw⟩ := hrel
    clear HR HKA
    by_cases hlt : k < L.length
    · obtain ⟨b, off, ea, c0, c1, c2, c3, c4, c5, c6⟩ := hts_at (HC.out.kept hkw) k hlt
      subst ea
      have HQ := hide (fun w1 => toHtlc_k L[k] w1)
      have HS := hide (rowHtlc_step L k hlt)
      have HRR := hide hr
      have HKW := hide hkw
      have hkz := Nat.mul_le_mul_right 7 (show k + 1 ≤ L.length from hlt)
      clear hr hkw
      generalize L[k] = x at *
      obtain ⟨xky, xinn, xout, xai, xao, xkp, xag⟩ := x
      dsimp only [Htl.v] at *
      go_wp2_with fail
      refine (unhide HQ _).mono ?_
      rintro e w2 ⟨rfl, hk2⟩
      have r2 := hk2.rowK HRR.out
      have d0 := r2.cell (i := k * 7) (by omega)
      have f0 := r2.frozen (k * 7)
      have d1 := r2.cell (i := k * 7 + 1) (by omega)
      have f1 := r2.frozen (k * 7 + 1)
      have d2 := r2.cell (i := k * 7 + 2) (by omega)
      have f2 := r2.frozen (k * 7 + 2)
      have d3 := r2.cell (i := k * 7 + 3) (by omega)
      have f3 := r2.frozen (k * 7 + 3)
      have d4 := r2.cell (i := k * 7 + 4) (by omega)
      have f4 := r2.frozen (k * 7 + 4)
      have d5 := r2.cell (i := k * 7 + 5) (by omega)
      have f5 := r2.frozen (k * 7 + 5)
      have d6 := r2.cell (i := k * 7 + 6) (by omega)
      have f6 := r2.frozen (k * 7 + 6)
      have HR2 := hide r2
      have HK2 := hide (HKW.out.trans hk2)
      clear r2 hk2
      go_wp2_with fail
      go_roundw
      case rel => exact ⟨k + 1, by omega, by go_num, ((((((((HR2.out.set (k * 7) (.int .i64 xky)).set (k * 7 + 1) (.int .i64 xinn)).set (k * 7 + 2) (.int .i64 xout)).set (k * 7 + 3) (.int .i64 xai)).set (k * 7 + 4) (.int .i64 xao)).set (k * 7 + 5) (.bool xkp)).set (k * 7 + 6) (.int .i64 xag))).congr (fun j _ => HS.out j), (Keeps.setCell (Keeps.setCell (Keeps.setCell (Keeps.setCell (Keeps.setCell (Keeps.setCell (Keeps.setCell HK2.out (Nat.le_refl _) _) (Nat.le_refl _) _) (Nat.le_refl _) _) (Nat.le_refl _) _) (Nat.le_refl _) _) (Nat.le_refl _) _) (Nat.le_refl _) _)⟩
      case measure => simp [intOf]; omega
    · have e : k = L.length := by omega
      subst e
      go_wp2_with fail
      go_ret
      exact ⟨_, rfl, born_row hr (hts L) (by rw [hts_len]; exact Nat.le_refl _) (fun j hj => rowHtlc_end L j hj) (Nat.le_refl _), hkw⟩
theorem eqHtlc_same (x : Htl) (w : World) : Calls Tryz.prog 84 #[x.v, x.v] w fun e w' => e = .returned (.bool true) ∧ Keeps w w' := by
  obtain ⟨xky, xinn, xout, xai, xao, xkp, xag⟩ := x
  dsimp only [Htl.v]
  cases xkp
  all_goals
    go_enter Tryz.func84, Tryz.ntmps84
    go_wp2_with fail
    go_ret
    exact ⟨rfl, Keeps.alloc (Keeps.alloc (Keeps.refl _) _) _⟩
set_option maxHeartbeats 4000000 in
theorem eqHtlcS_k (a a' : Option Addr) (cap cap' : Nat) (xs : List Htl) (w : World) (hc : Cells w a (hts xs)) (hc' : Cells w a' (hts xs)) (hl : xs.length ≤ 1048576) :
    Calls Tryz.prog 50 #[.slice a xs.length cap, .slice a' xs.length cap'] w fun e w' => e = .returned (.bool true) ∧ Keeps w w' := by
  have HC := hide hc
  have HC' := hide hc'
  clear hc hc'
  go_enter Tryz.func50, Tryz.ntmps50
  go_wp2_with fail
  go_loopw [5] (fun y w1 => ∃ k : Nat, k ≤ xs.length ∧ y = .int .i64 (k : Int) ∧ Keeps w w1) (fun y _ => xs.length - (intOf y).toNat)
  case atStart => exact ⟨0, by omega, rfl, Keeps.refl _⟩
  case round =>
    obtain ⟨k, hk, rfl, hkw⟩ := hrel
    by_cases hlt : k < xs.length
    · obtain ⟨b, off, ea, c0, c1, c2, c3, c4, c5, c6⟩ := hts_at (HC.out.kept hkw) k hlt
      obtain ⟨b', off', ea', d0, d1, d2, d3, d4, d5, d6⟩ := hts_at (HC'.out.kept hkw) k hlt
      have HEA := hide ea
      have HEA' := hide ea'
      clear ea ea'
      obtain rfl := HEA.out
      obtain rfl := HEA'.out
      have HQ := hide (fun t => eqHtlc_same xs[k] (gr wr t))
      have g0 := gr_cell c0
      have i0 := gr_cell d0
      have g1 := gr_cell c1
      have i1 := gr_cell d1
      have g2 := gr_cell c2
      have i2 := gr_cell d2
      have g3 := gr_cell c3
      have i3 := gr_cell d3
      have g4 := gr_cell c4
      have i4 := gr_cell d4
      have g5 := gr_cell c5
      have i5 := gr_cell d5
      have g6 := gr_cell c6
      have i6 := gr_cell d6
      generalize xs[k] = x at *
      obtain ⟨xky, xinn, xout, xai, xao, xkp, xag⟩ := x
      dsimp only [Htl.v] at c0 d0 g0 i0 c1 d1 g1 i1 c2 d2 g2 i2 c3 d3 g3 i3 c4 d4 g4 i4 c5 d5 g5 i5 c6 d6 g6 i6 HQ
      go_wp2_with fail
      refine region_gr (by kernel_rfl) (by kernel_rfl) ?_
      repeat (go_big_quiet_step (first | (go_at_call 84; exact gr_call (unhide HQ _))))
      refine wpQuiet_nil ?_
      intro w' hw'
      have hk' := hkw.trans (Keeps.of_gr hw')
      clear hw'
      go_wp2_with fail
      go_roundw
      case rel => exact ⟨k + 1, by omega, by go_num, hk'⟩
      case measure => simp [intOf]; omega
    · go_wp2_with fail
      go_ret
      exact ⟨rfl, hkw⟩
end Go.Proofs.YtjdbedlgkngdkaaGreatDoor
namespace Go.Proofs.YtjdbedlgkngdkaaGreatDoor
open Go.RowKit Go.Deep
set_option linter.unusedVariables false
set_option linter.unusedSimpArgs false
set_option maxRecDepth 10000

def Crc.v (x : Crc) : Value := .agg #[.int .i64 x.ky, .int .i64 x.fr, .int .i64 x.to, .int .i64 x.am, .int .i64 x.fe]
theorem toCircle_k (x : Crc) (w : World) : Calls Tryz.prog 81 #[x.v] w fun e w' => e = .returned x.v ∧ Keeps w w' := by
  obtain ⟨xky, xfr, xto, xam, xfe⟩ := x
  dsimp only [Crc.v]
  go_enter Tryz.func81, Tryz.ntmps81
  go_wp2_with fail
  refine bodyPost_ret (v := .agg #[.int .i64 xky, .int .i64 xfr, .int .i64 xto, .int .i64 xam, .int .i64 xfe]) (by simp [results, Tryz.results81, go_sem]) rfl ⟨rfl, ?_⟩
  repeat (first | exact Keeps.refl _ | refine Keeps.alloc ?_ _ | refine Keeps.setCell ?_ (by simp) _)
theorem szCircleS_k (a : Option Addr) (len cap : Nat) (left : Int) (w : World) (hl : len ≤ 9223372036854775807) (h0 : 0 ≤ left) (h1 : left ≤ 1048576) :
    Calls Tryz.prog 38 #[.slice a len cap, .int .i64 left] w fun e w' => e = .returned (.int .i64 (if (len : Int) ≤ left then left - len else -1)) ∧ w' = w := by
  by_cases h : (len : Int) ≤ left
  · rw [if_pos h]
    go_enter Tryz.func38, Tryz.ntmps38
    go_wp2_with fail
    go_ret
    exact ⟨rfl, rfl⟩
  · rw [if_neg h]
    go_enter Tryz.func38, Tryz.ntmps38
    go_wp2_with fail
    go_ret
    exact ⟨rfl, rfl⟩
theorem infoCircle : (Tryz.prog.info? 130).map (fun i => (i.zero, i.size, i.bytes)) = some (some (.agg #[.int .i64 0, .int .i64 0, .int .i64 0, .int .i64 0, .int .i64 0]), 5, 40) := by kernel_rfl
theorem underCircles : Tryz.prog.underlying 25 = some (.slice 130) := by kernel_rfl
theorem make_Circles (n : Nat) (hn : n ≤ 1048576) (w : World) : (Instr.makeSlice 25 (.int .i64 (n : Int)) (.int .i64 (n : Int))).run Tryz.prog w = .ok (.slice (some ⟨w.heap.size, 0, none⟩) n n) (w.alloc (.cells (madeCells #[.int .i64 0, .int .i64 0, .int .i64 0, .int .i64 0, .int .i64 0] (n * 5)) 130)) := by
  have hI := infoCircle
  cases hi : Tryz.prog.info? 130 with
  | none => rw [hi] at hI; simp at hI
  | some i =>
    rw [hi] at hI
    simp at hI
    obtain ⟨hz, hs, hb⟩ := hI
    have h := run_make (P := Tryz.prog) w 25 130 i _ underCircles hi hz .i64 .i64 n n (by omega) (Int.le_refl _) (by rw [hb]; omega) (by omega)
    rw [hs] at h
    simpa [Value.cells] using h
/-- The row of the new list while it is filled. -/
def rowCircle (L : List Crc) (k : Nat) : Nat → Value := fun j => if j < k * 5 then (crs L).getD j (.int .i64 0) else (#[.int .i64 0, .int .i64 0, .int .i64 0, .int .i64 0, .int .i64 0] : Array Value)[j % 5]!
theorem made_Circle (L : List Crc) (w : World) (m : Nat) (t : TypeId) : (w.alloc (.cells (madeCells #[.int .i64 0, .int .i64 0, .int .i64 0, .int .i64 0, .int .i64 0] m) t)).rowIs w.heap.size t m (rowCircle L 0) := by
  have h := World.rowIs_alloc w (madeCells #[.int .i64 0, .int .i64 0, .int .i64 0, .int .i64 0, .int .i64 0] m) t (rowCircle L 0) (by
    intro i hi
    rw [size_madeCells] at hi
    simp only [madeCells, Array.getElem?_map, Array.getElem?_range]
    rw [if_pos hi]
    simp [rowCircle])
  rw [size_madeCells] at h
  exact h
theorem rowCircle_step (L : List Crc) (k : Nat) (h : k < L.length) (j : Nat) : (if j = k * 5 + 4 then (.int .i64 L[k].fe : Value) else if j = k * 5 + 3 then (.int .i64 L[k].am : Value) else if j = k * 5 + 2 then (.int .i64 L[k].to : Value) else if j = k * 5 + 1 then (.int .i64 L[k].fr : Value) else if j = k * 5 then (.int .i64 L[k].ky : Value) else rowCircle L k j) = rowCircle L (k + 1) j := by
  have hL := crs_len L
  have hk := Nat.mul_le_mul_right 5 (show k + 1 ≤ L.length from h)
  have ha := fun r (hr : r < 5) => flatMap_at (f := Crc.cells) (sz := 5) (fun _ => rfl) L k h r hr
  unfold rowCircle
  by_cases h4 : j = k * 5 + 4
  · subst h4
    (try simp only [if_true])
    (try rw [if_pos rfl])
    rw [if_pos (by omega), List.getD_eq_getElem?_getD]
    have e := ha 4 (by decide)
    skip
    unfold crs
    rw [e]; rfl
  rw [if_neg h4]
  by_cases h3 : j = k * 5 + 3
  · subst h3
    (try simp only [if_true])
    (try rw [if_pos rfl])
    rw [if_pos (by omega), List.getD_eq_getElem?_getD]
    have e := ha 3 (by decide)
    skip
    unfold crs
    rw [e]; rfl
  rw [if_neg h3]
  by_cases h2 : j = k * 5 + 2
  · subst h2
    (try simp only [if_true])
    (try rw [if_pos rfl])
    rw [if_pos (by omega), List.getD_eq_getElem?_getD]
    have e := ha 2 (by decide)
    skip
    unfold crs
    rw [e]; rfl
  rw [if_neg h2]
  by_cases h1 : j = k * 5 + 1
  · subst h1
    (try simp only [if_true])
    (try rw [if_pos rfl])
    rw [if_pos (by omega), List.getD_eq_getElem?_getD]
    have e := ha 1 (by decide)
    skip
    unfold crs
    rw [e]; rfl
  rw [if_neg h1]
  by_cases h0 : j = k * 5
  · subst h0
    (try simp only [if_true])
    (try rw [if_pos rfl])
    rw [if_pos (by omega), List.getD_eq_getElem?_getD]
    have e := ha 0 (by decide)
    simp only [Nat.add_zero] at e
    unfold crs
    rw [e]; rfl
  rw [if_neg h0]
  by_cases hlt : j < k * 5
  · rw [if_pos hlt, if_pos (by omega)]
  · rw [if_neg hlt, if_neg (by omega)]
theorem rowCircle_end (L : List Crc) (j : Nat) (hj : j < (crs L).length) : rowCircle L L.length j = (crs L)[j] := by
  have hL := crs_len L
  unfold rowCircle
  rw [if_pos (by omega), List.getD_eq_getElem?_getD, List.getElem?_eq_getElem hj]
  rfl
set_option maxHeartbeats 2000000 in
theorem toCircleS_k (a : Option Addr) (cap : Nat) (L : List Crc) (w : World) (hc : Cells w a (crs L)) (hl : L.length ≤ 1048576) :
    Calls Tryz.prog 46 #[.slice a L.length cap] w fun e w' => ∃ b, e = .returned (.slice (some ⟨b, 0, none⟩) L.length L.length) ∧ Born w w' [(some ⟨b, 0, none⟩, crs L)] ∧ Keeps w w' := by
  have HC := hide hc
  clear hc
  have hmk := make_Circles L.length hl
  have HR := hide (made_Circle L w (L.length * 5) 130)
  have HKA := hide (Keeps.alloc (Keeps.refl w) (.cells (madeCells #[.int .i64 0, .int .i64 0, .int .i64 0, .int .i64 0, .int .i64 0] (L.length * 5)) 130))
  go_enter Tryz.func46, Tryz.ntmps46
  go_wp2_with fail
  clear hmk
  go_loopw [4] (fun y w1 => ∃ k : Nat, k ≤ L.length ∧ y = .int .i64 (k : Int) ∧ w1.rowIs w.heap.size 130 (L.length * 5) (rowCircle L k) ∧ Keeps w w1) (fun y _ => L.length - (intOf y).toNat)
  case atStart => exact ⟨0, by omega, rfl, HR.out, HKA.out⟩
  case round =>
    obtain ⟨k, hk, rfl, hr, hkw⟩ := hrel
    clear HR HKA
    by_cases hlt : k < L.length
    · obtain ⟨b, off, ea, c0, c1, c2, c3, c4⟩ := crs_at (HC.out.kept hkw) k hlt
      subst ea
      have HQ := hide (fun w1 => toCircle_k L[k] w1)
      have HS := hide (rowCircle_step L k hlt)
      have HRR := hide hr
      have HKW := hide hkw
      have hkz := Nat.mul_le_mul_right 5 (show k + 1 ≤ L.length from hlt)
      clear hr hkw
      generalize L[k] = x at *
      obtain ⟨xky, xfr, xto, xam, xfe⟩ := x
      dsimp only [Crc.v] at *
      go_wp2_with fail
      refine (unhide HQ _).mono ?_
      rintro e w2 ⟨rfl, hk2⟩
      have r2 := hk2.rowK HRR.out
      have d0 := r2.cell (i := k * 5) (by omega)
      have f0 := r2.frozen (k * 5)
      have d1 := r2.cell (i := k * 5 + 1) (by omega)
      have f1 := r2.frozen (k * 5 + 1)
      have d2 := r2.cell (i := k * 5 + 2) (by omega)
      have f2 := r2.frozen (k * 5 + 2)
      have d3 := r2.cell (i := k * 5 + 3) (by omega)
      have f3 := r2.frozen (k * 5 + 3)
      have d4 := r2.cell (i := k * 5 + 4) (by omega)
      have f4 := r2.frozen (k * 5 + 4)
      have HR2 := hide r2
      have HK2 := hide (HKW.out.trans hk2)
      clear r2 hk2
      go_wp2_with fail
      go_roundw
      case rel => exact ⟨k + 1, by omega, by go_num, ((((((HR2.out.set (k * 5) (.int .i64 xky)).set (k * 5 + 1) (.int .i64 xfr)).set (k * 5 + 2) (.int .i64 xto)).set (k * 5 + 3) (.int .i64 xam)).set (k * 5 + 4) (.int .i64 xfe))).congr (fun j _ => HS.out j), (Keeps.setCell (Keeps.setCell (Keeps.setCell (Keeps.setCell (Keeps.setCell HK2.out (Nat.le_refl _) _) (Nat.le_refl _) _) (Nat.le_refl _) _) (Nat.le_refl _) _) (Nat.le_refl _) _)⟩
      case measure => simp [intOf]; omega
    · have e : k = L.length := by omega
      subst e
      go_wp2_with fail
      go_ret
      exact ⟨_, rfl, born_row hr (crs L) (by rw [crs_len]; exact Nat.le_refl _) (fun j hj => rowCircle_end L j hj) (Nat.le_refl _), hkw⟩
theorem eqCircle_same (x : Crc) (w : World) : Calls Tryz.prog 85 #[x.v, x.v] w fun e w' => e = .returned (.bool true) ∧ Keeps w w' := by
  obtain ⟨xky, xfr, xto, xam, xfe⟩ := x
  dsimp only [Crc.v]
  skip
  all_goals
    go_enter Tryz.func85, Tryz.ntmps85
    go_wp2_with fail
    go_ret
    exact ⟨rfl, Keeps.alloc (Keeps.alloc (Keeps.refl _) _) _⟩
set_option maxHeartbeats 4000000 in
theorem eqCircleS_k (a a' : Option Addr) (cap cap' : Nat) (xs : List Crc) (w : World) (hc : Cells w a (crs xs)) (hc' : Cells w a' (crs xs)) (hl : xs.length ≤ 1048576) :
    Calls Tryz.prog 51 #[.slice a xs.length cap, .slice a' xs.length cap'] w fun e w' => e = .returned (.bool true) ∧ Keeps w w' := by
  have HC := hide hc
  have HC' := hide hc'
  clear hc hc'
  go_enter Tryz.func51, Tryz.ntmps51
  go_wp2_with fail
  go_loopw [5] (fun y w1 => ∃ k : Nat, k ≤ xs.length ∧ y = .int .i64 (k : Int) ∧ Keeps w w1) (fun y _ => xs.length - (intOf y).toNat)
  case atStart => exact ⟨0, by omega, rfl, Keeps.refl _⟩
  case round =>
    obtain ⟨k, hk, rfl, hkw⟩ := hrel
    by_cases hlt : k < xs.length
    · obtain ⟨b, off, ea, c0, c1, c2, c3, c4⟩ := crs_at (HC.out.kept hkw) k hlt
      obtain ⟨b', off', ea', d0, d1, d2, d3, d4⟩ := crs_at (HC'.out.kept hkw) k hlt
      have HEA := hide ea
      have HEA' := hide ea'
      clear ea ea'
      obtain rfl := HEA.out
      obtain rfl := HEA'.out
      have HQ := hide (fun t => eqCircle_same xs[k] (gr wr t))
      have g0 := gr_cell c0
      have i0 := gr_cell d0
      have g1 := gr_cell c1
      have i1 := gr_cell d1
      have g2 := gr_cell c2
      have i2 := gr_cell d2
      have g3 := gr_cell c3
      have i3 := gr_cell d3
      have g4 := gr_cell c4
      have i4 := gr_cell d4
      generalize xs[k] = x at *
      obtain ⟨xky, xfr, xto, xam, xfe⟩ := x
      dsimp only [Crc.v] at c0 d0 g0 i0 c1 d1 g1 i1 c2 d2 g2 i2 c3 d3 g3 i3 c4 d4 g4 i4 HQ
      go_wp2_with fail
      refine region_gr (by kernel_rfl) (by kernel_rfl) ?_
      repeat (go_big_quiet_step (first | (go_at_call 85; exact gr_call (unhide HQ _))))
      refine wpQuiet_nil ?_
      intro w' hw'
      have hk' := hkw.trans (Keeps.of_gr hw')
      clear hw'
      go_wp2_with fail
      go_roundw
      case rel => exact ⟨k + 1, by omega, by go_num, hk'⟩
      case measure => simp [intOf]; omega
    · go_wp2_with fail
      go_ret
      exact ⟨rfl, hkw⟩
end Go.Proofs.YtjdbedlgkngdkaaGreatDoor
