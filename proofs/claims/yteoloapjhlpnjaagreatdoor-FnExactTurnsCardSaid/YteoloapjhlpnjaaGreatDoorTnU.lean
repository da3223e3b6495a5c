/- Turns of the model. -/
import Derived.Test.YteoloapjhlpnjaaGreatDoorTnT
import Derived.Test.YteoloapjhlpnjaaGreatDoorBsD
namespace Go.Proofs.YteoloapjhlpnjaaGreatDoor
open Go.RowKit Go.Deep
set_option linter.unusedVariables false
set_option linter.unusedSimpArgs false
set_option maxRecDepth 10000

set_option maxHeartbeats 8000000 in
theorem turns_spec (B : Bo) (r : Rul) (w : World) (hm : Mem w B.segs) (hl : B.len) :
    Calls Tryz.prog 9 #[B.v, r.v] w fun e w' => ∃ va vc, e = .returned (.slice va (turnsV B.d r).length vc) ∧ (va = none → vc = 0) ∧ Born w w' [(va, ecells (turnsV B.d r))] ∧ Keeps w w' := by
  have HBO := hide (fun w' (hk : Keeps w w') => bookok_spec B w' (hm.kept hk) hl)
  have HRO := hide (fun w' => rule_spec r w')
  have HNX := hide (fun (h : turnOk B.d r = true) (j : Nat) (hj : j < B.C.length) w' => (show Calls Tryz.prog 37 #[B.C[j].v, r.v] w' (fun e w'' => e = .returned (.int .i64 (nextV B.C[j] r)) ∧ Keeps w' w'') from by
    obtain ⟨h1, h2, h3⟩ := next_fits (B := B.d) h j hj
    have h4 := npp_spec B.C[j] r w'; rw [show nppV B.C[j] r = nextV B.C[j] r from h3] at h4; exact h4))
  have HMC := hide (fun w' (hk : Keeps w w') => Bo.memC (hm.kept hk))
  have HTO : Hid (turnOk B.d r = (bookB B.d && ruleB r)) := rfl
  have HNV := hide (fun h => turns_no (B := B.d) (r := r) h)
  have HYV := hide (fun h => turns_yes (B := B.d) (r := r) h)
  have HC20 := hide (fun (h : bookB B.d = true) => (book_chans h).1)
  have HST := hide (fun k (h : k < B.C.length) => turnsTo_step (C := B.C) (r := r) h)
  have HLN := hide (fun k => turnsTo_len B.C r k)
  generalize turnsV B.d r = TV at *
  generalize turnOk B.d r = ok at *
  generalize hbb : bookB B.d = bb at *
  generalize hrr : ruleB r = rb at *
  obtain ⟨tk, nx, wa, ca, cc, C, ha, hc, Hs, ra, rc, R⟩ := B
  obtain ⟨TR, hTR⟩ : ∃ TR, TR = turnsTo C r := ⟨_, rfl⟩
  obtain ⟨nf, hnf⟩ : ∃ nf : Chn → Int, nf = fun c => nextV c r := ⟨_, rfl⟩
  have HTP : Hid (∀ c, turnP c r = if nf c = c.pp then [] else [⟨4, 0, c.id, 0, c.ba, nf c, false⟩]) := fun c => by rw [hnf]; rfl
  have HT0 : Hid (TR 0 = []) := by show _ = _; rw [hTR]; simp [turnsTo]
  dsimp only [Bo.v, Bo.d] at *
  replace HNX : Hid (ok = true → ∀ (j : Nat) (hj : j < C.length) w', Calls Tryz.prog 37 #[C[j].v, r.v] w' (fun e w'' => e = .returned (.int .i64 (nf C[j])) ∧ Keeps w' w'')) := fun h j hj w' => by rw [hnf]; exact HNX.out h j hj w'
  rw [← hTR] at HST HLN HYV
  obtain ⟨tp, htp⟩ : ∃ tp : Chn → List Ev, tp = fun c => turnP c r := ⟨_, rfl⟩
  replace HST : Hid (∀ k (h : k < C.length), TR (k + 1) = TR k ++ tp C[k]) := fun k h => by rw [htp]; exact HST.out k h
  replace HTP : Hid (∀ c, tp c = if nf c = c.pp then [] else [⟨4, 0, c.id, 0, c.ba, nf c, false⟩]) := fun c => by rw [htp]; exact HTP.out c
  clear hTR hnf htp hm hl hbb hrr
  obtain ⟨xlo, xhi, xst, xmi, xma⟩ := r
  dsimp only [Rul.v] at *
  have HA := hide (boxes65 w (.int .i64 tk) (.int .i64 nx) (.int .i64 wa) (.slice ca C.length cc) (.slice ha Hs.length hc) (.slice ra R.length rc) (.int .i64 xlo) (.int .i64 xhi) (.int .i64 xst) (.int .i64 xmi) (.int .i64 xma) 27 29)
  have HK := hide ((keepsA w (.cells #[.int .i64 tk, .int .i64 nx, .int .i64 wa, .slice ca C.length cc, .slice ha Hs.length hc, .slice ra R.length rc] 27)).trans (keepsA _ (.cells #[.int .i64 xlo, .int .i64 xhi, .int .i64 xst, .int .i64 xmi, .int .i64 xma] 29)))
  go_enter Tryz.func9, Tryz.ntmps9
  go_upto_region 1 with fail
  generalize (w.alloc (.cells #[.int .i64 tk, .int .i64 nx, .int .i64 wa, .slice ca C.length cc, .slice ha Hs.length hc, .slice ra R.length rc] 27)).alloc (.cells #[.int .i64 xlo, .int .i64 xhi, .int .i64 xst, .int .i64 xmi, .int .i64 xma] 29) = W0 at *
  have HKc := hide (Keeps.refl W0)
  have HOE : Hid (OwnsEvent (W0.alloc (.cells #[] 41)) W0.heap.size (.slice (some ⟨W0.heap.size, 0, none⟩) 0 0) []) := ⟨by simp [ecells], .inr ⟨W0.heap.size, 0, #[], rfl, Nat.le_refl _, blk_alloc_new W0 _, by simp, by simp [maxLen], by simp, by simp [ecells]⟩⟩
  have HKE := hide (keepsA W0 (.cells #[] 41))
  go_upto_region 2 with fail
  generalize W0.alloc (.cells #[] 41) = W1 at *
  replace HKc := hide (HKc.out.trans HKE.out)
  have HKt := hide (Keeps.refl W1)
  clear HKE
  obtain ⟨⟨b0, b1, b2, b3, b4, b5⟩, ⟨a0, a1, a2, a3, a4⟩⟩ := unhide HA W1 HKc.out
  go_wp2_with fail
  refine (unhide HBO _ (HK.out.trans HKc.out)).mono ?_
  rintro e u0 ⟨rfl, hk⟩
  replace HKc := hide (HKc.out.trans hk)
  replace HKt := hide (HKt.out.trans hk)
  clear hk
  clear b0 b1 b2 b3 b4 b5 a0 a1 a2 a3 a4
  obtain ⟨⟨b0, b1, b2, b3, b4, b5⟩, ⟨a0, a1, a2, a3, a4⟩⟩ := unhide HA u0 HKc.out
  cases bb
  · have HNO : Hid (ok = false) := by show _ = _; rw [HTO.out]; rfl
    go_wp2_with fail
    go_ret
    exact ⟨some ⟨W0.heap.size, 0, none⟩, 0, by rw [HNV.out HNO.out]; rfl, fun _ => rfl, by rw [HNV.out HNO.out]; exact ⟨⟨fun s hs => by rw [List.mem_singleton.1 hs]; exact Cells.nil _ _, by simp [fp, fpS, ecells], fun b hb => absurd hb (by simp [fp, fpS, ecells])⟩, fun b hb => absurd hb (by simp [fp, fpS, ecells])⟩, HK.out.trans HKc.out⟩
  go_wp2_with fail
  refine (unhide HRO _).mono ?_
  rintro e u1 ⟨rfl, hk⟩
  replace HKc := hide (HKc.out.trans hk)
  replace HKt := hide (HKt.out.trans hk)
  clear hk
  clear b0 b1 b2 b3 b4 b5 a0 a1 a2 a3 a4
  obtain ⟨⟨b0, b1, b2, b3, b4, b5⟩, ⟨a0, a1, a2, a3, a4⟩⟩ := unhide HA u1 HKc.out
  cases rb
  · have HNO : Hid (ok = false) := by show _ = _; rw [HTO.out]; rfl
    go_wp2_with fail
    go_ret
    exact ⟨some ⟨W0.heap.size, 0, none⟩, 0, by rw [HNV.out HNO.out]; rfl, fun _ => rfl, by rw [HNV.out HNO.out]; exact ⟨⟨fun s hs => by rw [List.mem_singleton.1 hs]; exact Cells.nil _ _, by simp [fp, fpS, ecells], fun b hb => absurd hb (by simp [fp, fpS, ecells])⟩, fun b hb => absurd hb (by simp [fp, fpS, ecells])⟩, HK.out.trans HKc.out⟩
  have HOK : Hid (ok = true) := by show _ = _; rw [HTO.out]; rfl
  replace HYV := hide (HYV.out HOK.out)
  replace HNX := hide (HNX.out HOK.out)
  replace HC20 := hide (HC20.out (by first | trivial | rfl))
  clear HTO HNV HBO HRO
  have hc20 : C.length ≤ 20 := HC20.out
  go_wp2_with fail
  clear b0 b1 b2 b3 b4 b5 a0 a1 a2 a3 a4
  replace HOE := hide (OwnsEvent.kept' HOE.out HKt.out)
  have HKw := hide (HK.out)
  go_loopw [5, 22] (fun v y wr => ∃ k : Nat, k ≤ C.length ∧ y = .int .i64 (k : Int) ∧ Hid (OwnsEvent wr W0.heap.size v (TR k)) ∧ Hid (Keeps W0 wr)) (fun _ y _ => C.length - (intOf y).toNat)
  case atStart => exact ⟨0, by omega, rfl, by show OwnsEvent _ _ _ _; rw [HT0.out]; exact HOE.out, HKc.out⟩
  case round =>
    obtain ⟨k, hk, rfl, HO, HKr⟩ := hrel
    by_cases hlt : k < C.length
    · obtain ⟨b, off, ea0, c0, c1, c2, c3, c4, c5, c6⟩ := chs_at (unhide HMC _ (HKw.out.trans HKr.out)) k hlt
      have HX := hide ea0
      clear ea0
      replace HST := hide (HST.out k hlt)
      replace HTP := hide (HTP.out C[k])
      replace HNX := hide (fun w' => HNX.out k hlt w')
      have HLN1 := hide (HLN.out k)
      clear HLN
      obtain ⟨M1, hM1⟩ : ∃ M1, M1 = TR (k + 1) := ⟨_, rfl⟩
      have HM1 := hide hM1
      rw [← hM1] at HST
      clear hM1
      generalize TR k = M at *
      generalize nf C[k] = n at *
      generalize tp C[k] = P at *
      generalize C[k] = x at *
      obtain ⟨yid, ysz, ylo, yre, yba, ypp, ysc⟩ := x
      dsimp only [Chn.v] at c0 c1 c2 c3 c4 c5 c6 HTP HST HNX
      obtain rfl := HX.out
      have HAv := hide (rowc7 wr (.int .i64 yid) (.int .i64 ysz) (.int .i64 ylo) (.int .i64 yre) (.int .i64 yba) (.int .i64 ypp) (.int .i64 ysc) 43)
      have HKA := hide (keepsA wr (.cells #[.int .i64 yid, .int .i64 ysz, .int .i64 ylo, .int .i64 yre, .int .i64 yba, .int .i64 ypp, .int .i64 ysc] 43))
      go_upto_region 7 with fail
      generalize wr.heap.size = V at *
      generalize wr.alloc (.cells #[.int .i64 yid, .int .i64 ysz, .int .i64 ylo, .int .i64 yre, .int .i64 yba, .int .i64 ypp, .int .i64 ysc] 43) = Wp at *
      have HKv := hide (Keeps.refl Wp)
      clear c0 c1 c2 c3 c4 c5 c6 HX
      replace HO := hide (OwnsEvent.kept' HO.out HKA.out)
      replace HKr := hide (HKr.out.trans HKA.out)
      clear HKA
      obtain ⟨d0, d1, d2, d3, d4, d5, d6⟩ := unhide HAv Wp HKv.out
      obtain ⟨⟨b0, b1, b2, b3, b4, b5⟩, ⟨t0, t1, t2, t3, t4⟩⟩ := unhide HA Wp HKr.out
      clear b0 b1 b2 b3 b4 b5
      go_wp2_with fail
      refine (unhide HNX _).mono ?_
      rintro e Wq ⟨rfl, hk'⟩
      replace HKv := hide (HKv.out.trans hk')
      replace HKr := hide (HKr.out.trans hk')
      replace HO := hide (OwnsEvent.kept' HO.out hk')
      clear hk' d0 d1 d2 d3 d4 d5 d6 t0 t1 t2 t3 t4
      obtain ⟨d0, d1, d2, d3, d4, d5, d6⟩ := unhide HAv Wq HKv.out
      by_cases hn : n = ypp
      · rw [if_pos hn] at HTP
        rw [HTP.out, List.append_nil] at HST
        subst hn
        have hq : (n != n) = false := by simp
        go_wp2_with fail
        go_roundw
        case rel => exact ⟨k + 1, by omega, by go_num, by show OwnsEvent _ _ _ _; rw [← HM1.out, HST.out]; exact HO.out, HKr.out⟩
        case measure => simp [intOf]; omega
      · rw [if_neg hn] at HTP
        have hq : (n != ypp) = true := by simp [hn]
        have HM2 := hide (one_Event Wq ⟨4, 0, yid, 0, yba, n, false⟩)
        have HK2 := hide (keepsA Wq (.cells #[.int .i64 4, .int .i64 0, .int .i64 yid, .int .i64 0, .int .i64 yba, .int .i64 n, .bool false] 41))
        have HO2 := hide (OwnsEvent.kept' HO.out HK2.out)
        have HB2 : Hid (W0.heap.size ≤ (Wq.alloc (.cells #[.int .i64 4, .int .i64 0, .int .i64 yid, .int .i64 0, .int .i64 yba, .int .i64 n, .bool false] 41)).heap.size) := Nat.le_trans HKr.out.size HK2.out.size
        dsimp only at HM2
        go_wp2_with (at_builtin; refine app_Event rfl (.tmp 33) (.tmp 40) rfl W0.heap.size _ M [⟨4, 0, yid, 0, yba, n, false⟩] rfl (some ⟨Wq.heap.size, 0, none⟩) 1 rfl HM2.out (fun h => nomatch h) HO2.out (by have := HLN1.out; simp; omega) HB2.out ?_; intro v' w' ho hg hnn)
        go_roundw
        case rel =>
          refine ⟨k + 1, by omega, by go_num, ?_, Keeps.grown (HKr.out.trans HK2.out) hg (fun j hj => (HO2.out.lt j hj).1)⟩
          show OwnsEvent _ _ _ _
          rw [← HM1.out, HST.out, HTP.out]
          exact ho
        case measure => simp [intOf]; omega
    · have e : k = C.length := by omega
      subst e
      rw [← HYV.out] at HO
      obtain ⟨va, vc, rfl, hvn, hvb⟩ := bornE HO.out HKw.out.size
      have HVB := hide hvb
      have HVN := hide hvn
      clear hvb hvn
      go_wp2_with fail
      go_ret
      exact ⟨va, vc, rfl, HVN.out, HVB.out, HKw.out.trans HKr.out⟩
end Go.Proofs.YteoloapjhlpnjaaGreatDoor
