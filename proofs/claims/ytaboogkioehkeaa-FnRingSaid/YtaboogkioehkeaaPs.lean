/- Push of the model. -/
import Derived.Test.YtaboogkioehkeaaSb
import Derived.Test.YtaboogkioehkeaaPb
import Derived.Test.YtaboogkioehkeaaPi
namespace Go.Proofs.Ytaboogkioehkeaa
open Go.RowKit Go.Deep
set_option linter.unusedVariables false
set_option linter.unusedSimpArgs false
set_option maxRecDepth 10000

theorem own_lit {w : World} {base : Nat} {v : Value} {f : List Int} {m : Nat} (h : OwnsI w base v ([] ++ f)) (hv : v ≠ .slice none 0 0) (hl : f.length = m) : ∃ g cap, v = .slice (some ⟨g, 0, none⟩) m cap ∧ Hid (OwnsI w base (.slice (some ⟨g, 0, none⟩) m cap) f) := by
  rw [List.nil_append] at h
  obtain ⟨h1, h2⟩ := h
  rcases h2 with ⟨hz, _⟩ | ⟨g, cap, cur, e, h3⟩
  · exact absurd hz hv
  · subst e hl
    exact ⟨g, cap, rfl, ⟨h1, .inr ⟨g, cap, cur, rfl, h3⟩⟩⟩
set_option maxHeartbeats 16000000 in
theorem push_spec (G : Gf) (fa : Option Addr) (fc : Nat) (f : List Int) (ra : Option Addr) (rc : Nat) (Q : List Int) (w : World) (hm : Mem w G.segs) (hf : Cells w fa (its f)) (hq : Cells w ra (its Q)) (hl : G.len) (hlf : f.length ≤ 1048576) (hlq : Q.length ≤ 1048576) :
    Calls Try.prog 33 #[G.v, .slice fa f.length fc, .slice ra Q.length rc] w fun e w' => ∃ a c, e = .returned (.tuple #[.slice a (pushV G.nn G.E f Q).length c, .bool (pushOk G.nn G.E f Q)]) ∧ Born w w' [(a, its (pushV G.nn G.E f Q))] ∧ (a = none → c = 0) ∧ Keeps w w' := by
  have HQ := hide (fun w' (hk : Keeps w w') => flow_spec G fa fc f w' (hm.kept hk) (hf.kept hk) hl hlf)
  have HQ2 := hide (fun g cap (L : List Int) w' (hk : Keeps w w') (hc : Cells w' (some ⟨g, 0, none⟩) (its L)) (hl2 : L.length ≤ 1048576) => flow_spec G (some ⟨g, 0, none⟩) cap L w' (hm.kept hk) hc hl hl2)
  obtain ⟨nn, ea, ec, E⟩ := G
  have HM := hide hm
  have HF := hide hf
  have HR := hide hq
  have HB := hide (gr_box ⟨nn, ea, ec, E⟩ w 25)
  have HK := hide (Keeps.alloc (Keeps.refl w) (.cells #[.int .i64 nn, .slice ea E.length ec] 25))
  dsimp only [Gf.v, Gf.len, Gf.segs] at *
  clear hm hf hq
  cases hb : flowB nn E f
  · obtain ⟨h1, h2⟩ := push_no (R := Q) (show ¬ pushP nn E f Q from fun h => by rw [h.1] at hb; cases hb)
    rw [h1, h2]
    clear h1 h2 HQ2
    go_enter Try.func33, Try.ntmps33
    go_wp2_with fail
    refine (unhide HQ _ HK.out).mono ?_
    rintro e w1 ⟨rfl, hk⟩
    rw [hb]
    go_wp2_with fail
    go_ret2
    exact ⟨none, 0, rfl, born_none _ _, fun _ => rfl, HK.out.trans hk⟩
  have HFL := hide hb
  obtain ⟨hg, hle, hcap, -⟩ := flowB_true hb
  obtain ⟨g1, g2, g3, g4⟩ := graphB_true hg
  obtain ⟨n, rfl⟩ : ∃ n : Nat, nn = (n : Int) := ⟨nn.toNat, by omega⟩
  have HFB : Hid (∀ j (hj : j < f.length), 0 ≤ f[j] ∧ f[j] ≤ 1000000000) := fun j hj => by
    have a := hcap j (by omega) hj
    have b := edgeB_true (g4 j (by omega))
    omega
  have HL := hide hle
  rw [hle] at HQ hlf ⊢
  clear hg hle hcap g4
  by_cases hq0 : Q = []
  · obtain ⟨h1, h2⟩ := push_no (R := Q) (show ¬ pushP (n : Int) E f Q from fun h => h.2.1 hq0)
    rw [h1, h2]
    have hq1 : ((Q.length : Int) == 0) = true := by rw [hq0]; rfl
    clear h1 h2 HQ2 hq0
    go_enter Try.func33, Try.ntmps33
    go_wp2_with fail
    refine (unhide HQ _ HK.out).mono ?_
    rintro e w1 ⟨rfl, hk⟩
    rw [hb]
    go_wp2_with fail
    go_ret2
    exact ⟨none, 0, rfl, born_none _ _, fun _ => rfl, HK.out.trans hk⟩
  have hqp : 0 < Q.length := List.length_pos_iff.2 hq0
  have hq1 : ((Q.length : Int) == 0) = false := by simp [hq0]
  have HQ0 := hide hq0
  clear hq0
  go_enter Try.func33, Try.ntmps33
  go_wp2_with fail
  refine (unhide HQ _ HK.out).mono ?_
  rintro e w1 ⟨rfl, hk⟩
  rw [hb]
  clear hb
  generalize w.alloc (.cells #[.int .i64 (n : Int), .slice ea E.length ec] 25) = W0 at *
  replace HB := hide (HB.out.kept hk)
  replace HK := hide (HK.out.trans hk)
  clear hk HQ
  obtain ⟨q0, q1⟩ := HB.out
  dsimp only at q0 q1
  have HAR := hide (arcs_spec ⟨(n : Int), ea, ec, E⟩ n fa fc f w1 rfl HFL.out (HM.out.kept HK.out) (HF.out.kept HK.out))
  dsimp only [Gf.v] at HAR
  go_wp2_with fail
  refine (unhide HAR).mono ?_
  rintro e w2 ⟨ga, ca, rfl, hb, hk⟩
  replace HB := hide (HB.out.kept hk)
  replace HK := hide (HK.out.trans hk)
  have HGA := hide (hb.toOwn.mem (some ⟨ga, 0, none⟩, ars (arcs E f)) (by simp))
  clear hb hk HAR q0 q1 hq1
  have h120 := (arcs_ok HFL.out).1
  go_wp2_with fail
  go_loopw [9, 33] (fun l y wr => ∃ i : Nat, i ≤ Q.length ∧ l = .int .i64 (lstM (arcs E f) Q i) ∧ y = .int .i64 (i : Int) ∧ Hid (vld (arcs E f) Q i) ∧ Hid (Keeps w2 wr)) (fun _ y _ => Q.length - (intOf y).toNat)
  case atStart => exact ⟨0, by omega, rfl, rfl, fun j hj => absurd hj (by omega), Keeps.refl _⟩
  case round =>
    obtain ⟨i, hi, rfl, rfl, HV, HKo⟩ := hrel
    obtain ⟨wo, hwo⟩ : ∃ wo, wo = wr := ⟨_, rfl⟩
    subst hwo
    by_cases hlt : i < Q.length
    · obtain ⟨qb, qoff, qa, y0⟩ := its_at (HR.out.kept HK.out) i hlt
      have HYQ : Hid (∀ w', Keeps w2 w' → ∀ k (hk : k < Q.length), w'.cell? ⟨qb, qoff + k, none⟩ = some (.int .i64 Q[k])) := fun w' hk' k hk => by
        obtain ⟨qb', qoff', qa', y'⟩ := its_at (HR.out.kept HK.out) k hk
        rw [qa] at qa'
        cases qa'
        exact hk'.cell y'
      replace y0 := HKo.out.cell y0
      have HGD := hide (getD_at hlt)
      have HNO : Hid (¬ okAt (arcs E f) Q i → pushOk (n : Int) E f Q = false ∧ pushV (n : Int) E f Q = []) := fun hno => push_no (fun hp => hno (hp.2.2.1 i hlt))
      have HOI := hide (okAt_iff (A := arcs E f) (Q := Q) (i := i))
      have HLS := hide (fun ho => lstM_step (Q := Q) (i := i) HFL.out ho)
      rw [HGD.out] at HOI HLS
      have HXQ := hide (rfl : Q[i] = Q[i])
      generalize hxx : Q[i] = x at y0 HOI HLS HXQ
      replace HXQ := hide hxx
      clear hxx
      obtain rfl := qa
      have hlb := lstM_bound HFL.out Q i
      go_wp2_with fail
      clear y0
      go_loopw [9, 12, 40] (fun l b y wr => ∃ j : Nat, j ≤ (arcs E f).length ∧ l = .int .i64 (scanL (arcs E f) x (lstM (arcs E f) Q i) j) ∧ b = .bool (scanB (arcs E f) x j) ∧ y = .int .i64 (j : Int) ∧ Hid (Keeps w2 wr)) (fun _ _ y _ => (arcs E f).length - (intOf y).toNat)
      case atStart => exact ⟨0, by omega, rfl, rfl, rfl, HKo.out⟩
      case round =>
        obtain ⟨j, hj, rfl, rfl, rfl, HKi⟩ := hrel
        by_cases hjl : j < (arcs E f).length
        · obtain ⟨gb, goff, hga, c0, c1, c2, c3, c4⟩ := ars_at (HGA.out.kept HKi.out) j hjl
          cases hga
          simp only [Nat.zero_add] at c0 c1 c2 c3 c4
          have HS1 := hide (scanL_step (id := x) (l0 := lstM (arcs E f) Q i) hjl)
          have HS2 := hide (scanB_step (id := x) hjl)
          generalize scanL (arcs E f) x (lstM (arcs E f) Q i) j = l at *
          generalize scanB (arcs E f) x j = b at *
          generalize (arcs E f)[j] = a at *
          obtain ⟨xnm, xfr, xto, xrs, xco⟩ := a
          dsimp only at c0 c1 c2 c3 c4 HS1 HS2
          have HKA := hide (HKi.out.alloc (.cells #[.int .i64 xnm, .int .i64 xfr, .int .i64 xto, .int .i64 xrs, .int .i64 xco] 73))
          by_cases hx : xnm = x
          · rw [if_pos hx] at HS1 HS2
            have hx1 : (xnm == x) = true := by simp [hx]
            clear hx
            by_cases hr : xrs < l
            · rw [if_pos hr] at HS1
              go_wp2_with fail
              go_roundw
              case rel => exact ⟨j + 1, by omega, by rw [HS1.out], by rw [HS2.out], by go_num, HKA.out⟩
              case measure => simp [intOf]; omega
            · rw [if_neg hr] at HS1
              go_wp2_with fail
              go_roundw
              case rel => exact ⟨j + 1, by omega, by rw [HS1.out], by rw [HS2.out], by go_num, HKA.out⟩
              case measure => simp [intOf]; omega
          · rw [if_neg hx] at HS1 HS2
            have hx1 : (xnm == x) = false := by simp [hx]
            clear hx
            go_wp2_with fail
            go_roundw
            case rel => exact ⟨j + 1, by omega, by rw [HS1.out], by rw [HS2.out], by go_num, HKA.out⟩
            case measure => simp [intOf]; omega
        · have e : j = (arcs E f).length := by omega
          subst e
          obtain ⟨wi, hwi⟩ : ∃ wi, wi = wr := ⟨_, rfl⟩
          subst hwi
          generalize scanB (arcs E f) x (arcs E f).length = b at *
          go_wp2_with fail
          go_loop [12, 15] (fun c y => ∃ k : Nat, k ≤ i ∧ c = .bool (b && !dup Q x k) ∧ y = .int .i64 (k : Int)) (fun _ y => i - (intOf y).toNat)
          case atStart => exact ⟨0, by omega, by simp [dup], rfl⟩
          case round =>
            obtain ⟨k, hk, rfl, rfl⟩ := hrel
            by_cases hki : k < i
            · have y0 := HYQ.out _ HKi.out k (by omega)
              have HDU : Hid (dup Q x (k + 1) = if Q.getD k (-1) = x then true else dup Q x k) := rfl
              rw [getD_at (show k < Q.length by omega)] at HDU
              generalize Q[k] = z at y0 HDU
              by_cases hz : z = x
              · rw [if_pos hz] at HDU
                have hz1 : (z == x) = true := by simp [hz]
                clear hz
                go_wp2_with fail
                go_round
                case rel => exact ⟨k + 1, by omega, by rw [HDU.out]; simp, by go_num⟩
                case measure => simp [intOf]; omega
              · rw [if_neg hz] at HDU
                have hz1 : (z == x) = false := by simp [hz]
                clear hz
                go_wp2_with fail
                go_round
                case rel => exact ⟨k + 1, by omega, by rw [HDU.out], by go_num⟩
                case measure => simp [intOf]; omega
            · have e : i = k := by omega
              subst e
              cases hbd : (b && !dup Q x i)
              · obtain ⟨h1, h2⟩ := HNO.out (fun ho => by have := HOI.out.1 ho; rw [hbd] at this; cases this)
                have HO1 := hide h1
                have HO2 := hide h2
                clear h1 h2 hbd
                go_wp2_with fail
                go_ret2
                exact ⟨none, 0, by rw [HO1.out, HO2.out]; rfl, by rw [HO2.out]; exact born_none _ _, fun _ => rfl, HK.out.trans HKi.out⟩
              · have HOK := hide (HOI.out.2 hbd)
                have HLN := hide (HLS.out HOK.out)
                clear hbd
                go_wp2_with fail
                go_roundw
                case rel => exact ⟨i + 1, by omega, by rw [HLN.out], by go_num, vld_succ HV.out HOK.out, HKi.out⟩
                case measure => simp [intOf]; omega
    · have e : i = Q.length := by omega
      subst e
      have hla : lstM (arcs E f) Q Q.length = lst (arcs E f) Q Q.length := by
        obtain ⟨m, hm⟩ : ∃ m, Q.length = m + 1 := ⟨Q.length - 1, by omega⟩
        rw [hm]; rfl
      rw [hla]
      have hab := lst_bound HFL.out Q Q.length
      have HPY : Hid (flowB (n : Int) E (psh f Q (lst (arcs E f) Q Q.length) Q.length) = true → pushOk (n : Int) E f Q = true ∧ pushV (n : Int) E f Q = psh f Q (lst (arcs E f) Q Q.length) Q.length) := fun h => push_yes ⟨HFL.out, HQ0.out, HV.out, h⟩
      have HPN : Hid (flowB (n : Int) E (psh f Q (lst (arcs E f) Q Q.length) Q.length) = false → pushOk (n : Int) E f Q = false ∧ pushV (n : Int) E f Q = []) := fun h => push_no (fun hp => by
        have := hp.2.2.2
        rw [h] at this; cases this)
      have hel : 0 < E.length := by
        have := ok_range HFL.out (HV.out 0 hqp)
        omega
      obtain ⟨fb, foff, hfa, hy0⟩ := its_at HF.out 0 (by rw [HL.out]; exact hel)
      subst hfa
      generalize lst (arcs E f) Q Q.length = amt at *
      have HKA := hide (Keeps.alloc (Keeps.refl wo) (.cells #[] 3))
      have HMF := hide (cells_add_at ((HF.out.kept HK.out).kept (HKo.out.trans HKA.out)))
      have HO0 : Hid (OwnsI (wo.alloc (.cells #[] 3)) wo.heap.size (.slice (some ⟨wo.heap.size, 0, none⟩) 0 0) []) := World.ownsRow_made (base := wo.heap.size) (e := 3) (size := 1) wo #[] 0 (Nat.le_refl _) (by decide) (by simp)
      have HBS : Hid (wo.heap.size ≤ (wo.alloc (.cells #[] 3)).heap.size) := by show _ ≤ _; simp
      have HFE : Hid (f.length = E.length) := HL.out
      have HXX : Hid ((Value.slice (some ⟨fb, foff, none⟩) E.length fc) = .slice (some ⟨fb, foff, none⟩) f.length fc) := by show _ = _; rw [HFE.out]
      clear hy0 hla
      go_wp2_with (at_builtin; refine app_its rfl (.tmp 69) (.tmp 70) rfl wo.heap.size _ [] f rfl ⟨fb, foff, none⟩ fc HXX.out HMF.out HO0.out (by simp; rw [HFE.out]; omega) HBS.out ?_; intro v' W5 ho hg hnn; obtain ⟨g, cap, rfl, HO5⟩ : ∃ g cap, v' = .slice (some ⟨g, 0, none⟩) E.length cap ∧ Hid (OwnsI W5 wo.heap.size (.slice (some ⟨g, 0, none⟩) E.length cap) f) := own_lit ho (hnn (by intro h; cases h)) HFE.out; have HK5 := hide (Keeps.grown HKA.out hg (fun j hj => (HO0.out.lt j hj).1)); clear ho hg hnn)
      go_loopw [74] (fun y wr => ∃ i : Nat, i ≤ Q.length ∧ y = .int .i64 (i : Int) ∧ Hid (OwnsI wr wo.heap.size (.slice (some ⟨g, 0, none⟩) E.length cap) (psh f Q amt i)) ∧ Hid (Turn [g] W5 wr)) (fun y _ => Q.length - (intOf y).toNat)
      case atStart => exact ⟨0, by omega, rfl, HO5.out, Turn.refl _ _⟩
      case round =>
        obtain ⟨i, hi, rfl, HO, HT⟩ := hrel
        have hgb := (HO5.out.lt g rfl).1
        have HKw := hide ((HK.out.trans HKo.out).size)
        have HKr : Hid (Keeps w wr) := HT.out.keeps ((HK.out.trans HKo.out).trans HK5.out) (by have := HKw.out; simp; omega)
        by_cases hlt : i < Q.length
        · obtain ⟨qb, qoff, qa, y0⟩ := its_at (HR.out.kept HKr.out) i hlt
          have hrg := ok_range HFL.out (HV.out i hlt)
          have hgd := getD_at hlt
          have HPS : Hid (psh f Q amt (i + 1) = (psh f Q amt i).set (Q.getD i (-1) / 2).toNat (if Q.getD i (-1) % 2 = 0 then (psh f Q amt i).getD (Q.getD i (-1) / 2).toNat 0 + amt else (psh f Q amt i).getD (Q.getD i (-1) / 2).toNat 0 - amt)) := rfl
          rw [hgd] at hrg HPS
          clear hgd
          generalize Q[i] = x at *
          obtain rfl := qa
          obtain ⟨p, rfl⟩ : ∃ p : Nat, x = (p : Int) := ⟨x.toNat, by omega⟩
          obtain ⟨k, hkp⟩ : ∃ k, k = p / 2 := ⟨_, rfl⟩
          have hkl : k < E.length := by omega
          have HKP := hide hkp
          have hpl := psh_len f Q amt i
          have hkf : k < (psh f Q amt i).length := by rw [hpl, HL.out]; exact hkl
          have e1 : ((p : Int) / 2).toNat = k := by omega
          rw [e1] at HPS
          have e2 : (psh f Q amt i).getD k 0 = (psh f Q amt i)[k] := by rw [List.getD_eq_getElem?_getD, List.getElem?_eq_getElem hkf]; rfl
          rw [e2] at HPS
          have hbd := psh_bound HFB.out hab.1 hab.2 (R := Q) i k hkf
          have hoe : wr.ownsRow wo.heap.size 3 1 (.slice (some ⟨g, 0, none⟩) E.length cap) E.length (its (psh f Q amt i)) := by
            have h := HO.out
            unfold OwnsI at h
            rw [hpl, HL.out] at h
            exact h
          have r0 : wr.cell? ⟨g, k, none⟩ = some (.int .i64 (psh f Q amt i)[k]) := by rw [hoe.cellAt k (by omega)]; simp [its, hkf]
          have f0 : wr.frozen? ⟨g, k, none⟩ = false := hoe.frozenAt k
          have HST := hide (fun u => (hoe.stored k (.int .i64 u)))
          have HIT : Hid (∀ u, (its (psh f Q amt i)).set k (.int .i64 u) = its ((psh f Q amt i).set k u)) := fun u => by simp [its, List.map_set]
          have HLL : Hid (∀ u, ((psh f Q amt i).set k u).length = (psh f Q amt i).length) := fun u => by simp
          generalize hz : (psh f Q amt i)[k] = z at *
          clear hz e1 e2 hoe hkp
          by_cases hpar : (p : Int) % 2 = 0
          · have hm0 : (p : Int) % 2 = 0 := hpar
            have hm1 : ((p : Int) % 2 == 0) = true := by rw [hm0]; rfl
            have hd0 : (p : Int) / 2 = (k : Int) := by have := HKP.out; omega
            clear hpar
            rw [if_pos hm0] at HPS
            have hw : IntKind.i64.wrap (z + amt) = z + amt := by rw [IntKind.wrap_i64]; omega
            have hsv := HST.out (z + amt)
            have HSV := hide hsv.1
            have HTG : Hid (Turn [g] W5 (wr.setCell ⟨g, k, none⟩ (.int .i64 (z + amt)))) := HT.out.trans' (Turn.set (by simp) _)
            clear hsv
            go_wp2_with fail
            go_roundw
            case rel =>
              refine ⟨i + 1, by omega, by go_num, ?_, HTG.out⟩
              show OwnsI _ _ _ _
              unfold OwnsI
              rw [HPS.out, HLL.out, hpl, HL.out, ← HIT.out]
              exact HSV.out
            case measure => simp [intOf]; omega
          · have hm0 : (p : Int) % 2 = 1 := by omega
            have hm1 : ((p : Int) % 2 == 0) = false := by rw [hm0]; rfl
            have hd0 : (p : Int) / 2 = (k : Int) := by have := HKP.out; omega
            clear hpar
            rw [if_neg (by omega)] at HPS
            have hw : IntKind.i64.wrap (z - amt) = z - amt := by rw [IntKind.wrap_i64]; omega
            have hsv := HST.out (z - amt)
            have HSV := hide hsv.1
            have HTG : Hid (Turn [g] W5 (wr.setCell ⟨g, k, none⟩ (.int .i64 (z - amt)))) := HT.out.trans' (Turn.set (by simp) _)
            clear hsv
            go_wp2_with fail
            go_roundw
            case rel =>
              refine ⟨i + 1, by omega, by go_num, ?_, HTG.out⟩
              show OwnsI _ _ _ _
              unfold OwnsI
              rw [HPS.out, HLL.out, hpl, HL.out, ← HIT.out]
              exact HSV.out
            case measure => simp [intOf]; omega
        · have e : i = Q.length := by omega
          subst e
          have hpl := psh_len f Q amt Q.length
          have ho2 : OwnsI wr wo.heap.size (.slice (some ⟨g, 0, none⟩) (psh f Q amt Q.length).length cap) (psh f Q amt Q.length) := by rw [hpl, HL.out]; exact HO.out
          have HBO := hide (born_owns (W := w) ho2 HKw.out)
          have HQF := hide (HQ2.out g cap (psh f Q amt Q.length) wr HKr.out (HBO.out.toOwn.mem (some ⟨g, 0, none⟩, its (psh f Q amt Q.length)) (by simp)) (by rw [hpl, HL.out]; omega))
          rw [hpl, HL.out] at HQF
          have HPL : Hid ((psh f Q amt Q.length).length = E.length) := by show _ = _; rw [hpl, HL.out]
          have HBr : Hid (GrAt wr w.heap.size ⟨(n : Int), ea, ec, E⟩) := by
            have h1 := lt_of_cell HB.out.1
            have h2 := HKo.out.size
            have hb := (HB.out.kept HKo.out).kept HK5.out
            exact ⟨HT.out.cell (by simp; omega) hb.1, HT.out.cell (by simp; omega) hb.2⟩
          obtain ⟨q0, q1⟩ := HBr.out
          dsimp only at q0 q1
          clear hpl ho2
          go_wp2_with fail
          refine (unhide HQF).mono ?_
          rintro e w5 ⟨rfl, hk⟩
          cases hfb : flowB (n : Int) E (psh f Q amt Q.length)
          · obtain ⟨h1, h2⟩ := HPN.out hfb
            have HO1 := hide h1
            have HO2 := hide h2
            clear h1 h2 hfb
            go_wp2_with fail
            go_ret2
            exact ⟨none, 0, by rw [HO1.out, HO2.out]; rfl, by rw [HO2.out]; exact born_none _ _, fun _ => rfl, HKr.out.trans hk⟩
          · obtain ⟨h1, h2⟩ := HPY.out hfb
            have HO1 := hide h1
            have HO2 := hide h2
            clear h1 h2 hfb
            go_wp2_with fail
            go_ret2
            exact ⟨some ⟨g, 0, none⟩, cap, by rw [HO1.out, HO2.out, HPL.out]; rfl, by rw [HO2.out]; exact ⟨HBO.out.toOwn.kept hk, HBO.out.new⟩, fun h => (nomatch h), HKr.out.trans hk⟩
end Go.Proofs.Ytaboogkioehkeaa
