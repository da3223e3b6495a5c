/- Texts of the verifier, joined: Ph, BgH. -/
import Derived.Test.YtjdbedlgkngdkaaGreatDoorPPlanGraph8
import Derived.Test.YtjdbedlgkngdkaaGreatDoorPPlanGraph4
import Derived.Test.YtjdbedlgkngdkaaGreatDoorPPlanGraph6
import Derived.Deep.Cut
import Derived.Test.YtjdbedlgkngdkaaGreatDoorPPlanGraph1
import Derived.Test.YtjdbedlgkngdkaaGreatDoorPPlanGraph3
namespace Go.Proofs.YtjdbedlgkngdkaaGreatDoor
open Go.RowKit Go.Deep
set_option linter.unusedVariables false
set_option linter.unusedSimpArgs false
set_option maxRecDepth 10000

set_option maxHeartbeats 8000000 in
theorem plan_spec (B : Bo) (lo hi gain : Int) (a : Option Addr) (cap : Nat) (L : List Prc) (w : World) (hm : Mem w B.segs) (hl : B.len) (hp : Cells w a (pcs L)) (hlp : L.length ≤ 1048576) :
    Calls Tryz.prog 13 #[B.v, .int .i64 lo, .int .i64 hi, .int .i64 gain, .slice a L.length cap] w fun e w' => ∃ ea ec, e = .returned (.tuple #[.agg #[.int .i64 (planN B.d lo hi gain L), .slice ea (planV B.d lo hi gain L).length ec], .bool (planB B.d lo hi gain L)]) ∧ (ea = none → ec = 0) ∧ Born w w' [(ea, egs (planV B.d lo hi gain L))] ∧ Keeps w w' := by
  have HPO := hide (fun w' (hk : Keeps w w') => prices_spec B a cap L w' (hm.kept hk) hl (hp.kept hk) hlp)
  have HAT := hide (fun x w' (hk : Keeps w w') => at_spec B x w' (hm.kept hk) hl.1)
  have HPP := hide (fun w' (hk : Keeps w w') => hp.kept hk)
  have HCC := hide (fun w' (hk : Keeps w w') => Bo.memC (hm.kept hk))
  obtain ⟨tk, nx, wa, ca, cc, C, ha, hc, Hs, ra, rc, R⟩ := B
  have HBA := hide (book_box ⟨tk, nx, wa, ca, cc, C, ha, hc, Hs, ra, rc, R⟩ w 27)
  dsimp only [Bo.v] at *
  clear hm hl hp
  obtain ⟨bd, hbd⟩ : ∃ bd, bd = Bo.d ⟨tk, nx, wa, ca, cc, C, ha, hc, Hs, ra, rc, R⟩ := ⟨_, rfl⟩
  have HBD : Hid (bd.C = C) := by show _ = _; rw [hbd]; rfl
  rw [← hbd] at HPO ⊢
  clear hbd
  have s1 : (w.alloc (.cells #[.int .i64 tk, .int .i64 nx, .int .i64 wa, .slice ca C.length cc, .slice ha Hs.length hc, .slice ra R.length rc] 27)).heap.size = w.heap.size + 1 := by simp
  have HK1 := hide (Keeps.alloc (Keeps.refl w) (.cells #[.int .i64 tk, .int .i64 nx, .int .i64 wa, .slice ca C.length cc, .slice ha Hs.length hc, .slice ra R.length rc] 27))
  have HK2 := hide (Keeps.alloc (Keeps.refl (w.alloc (.cells #[.int .i64 tk, .int .i64 nx, .int .i64 wa, .slice ca C.length cc, .slice ha Hs.length hc, .slice ra R.length rc] 27))) (.cells #[.int .i64 0, .slice none 0 0] 36))
  have HR := hide (World.rowIs_alloc (w.alloc (.cells #[.int .i64 tk, .int .i64 nx, .int .i64 wa, .slice ca C.length cc, .slice ha Hs.length hc, .slice ra R.length rc] 27)) #[.int .i64 0, .slice none 0 0] 36 (row2 (.int .i64 0) (.slice none 0 0)) (row2_at _ _))
  rw [s1] at HR
  go_enter Tryz.func13, Tryz.ntmps13
  go_upto_region 1 with fail
  have HS00 := hide s1
  clear s1
  generalize w.alloc (.cells #[.int .i64 tk, .int .i64 nx, .int .i64 wa, .slice ca C.length cc, .slice ha Hs.length hc, .slice ra R.length rc] 27) = W00 at *
  generalize W00.alloc (.cells #[.int .i64 0, .slice none 0 0] 36) = W0 at *
  have HKA := hide (HK1.out.trans HK2.out)
  obtain ⟨q0, q1, q2, q3, q4, q5⟩ := HBA.out.kept HK2.out
  have HBW := hide (fun w' (hk : Keeps W00 w') => HBA.out.kept hk)
  have HKX := hide HK1.out
  have HKV := hide HK2.out
  dsimp only at q0 q1 q2 q3 q4 q5
  clear HK1 HK2 HBA
  cases h1 : pricesB bd L
  · have HPN := hide (plan_no (B := bd) (lo := lo) (hi := hi) (gain := gain) (L := L) (by simp [planB, h1]))
    go_wp2_with fail
    refine (unhide HPO _ HKA.out).mono ?_
    rintro e W1 ⟨rfl, hk⟩
    rw [h1]
    have HKW := hide (HKA.out.trans hk)
    have HRW := hide (hk.rowK HR.out)
    clear hk q0 q1 q2 q3 q4 q5
    have r0 := HRW.out.cell (i := 0) (by decide)
    have r1 := HRW.out.cell (i := 1) (by decide)
    have f0 := HRW.out.frozen 0
    have f1 := HRW.out.frozen 1
    have hlt := HRW.out.lt
    go_wp2_with fail
    have hr := (HRW.out.set 0 (.int .i64 0)).set 1 (.slice none 0 0)
    have p0 := hr.cell (i := 0) (by decide)
    have p1 := hr.cell (i := 1) (by decide)
    simp only [if_true, if_false, show ¬ (0 : Nat) = 1 by decide] at p0 p1
    have hkF : Keeps w ((W1.setCell ⟨w.heap.size + 1, 0, none⟩ (.int .i64 0)).setCell ⟨w.heap.size + 1, 1, none⟩ (.slice none 0 0)) := ((HKW.out).setCell (by dsimp only; omega) _).setCell (by dsimp only; omega) _
    have HFIN : Hid (∃ ea ec, Ending.returned (.tuple #[.agg #[.int .i64 0, .slice none 0 0], .bool false]) = .returned (.tuple #[.agg #[.int .i64 (planN bd lo hi gain L), .slice ea (planV bd lo hi gain L).length ec], .bool (planB bd lo hi gain L)]) ∧ (ea = none → ec = 0) ∧ Born w ((W1.setCell ⟨w.heap.size + 1, 0, none⟩ (.int .i64 0)).setCell ⟨w.heap.size + 1, 1, none⟩ (.slice none 0 0)) [(ea, egs (planV bd lo hi gain L))] ∧ Keeps w ((W1.setCell ⟨w.heap.size + 1, 0, none⟩ (.int .i64 0)).setCell ⟨w.heap.size + 1, 1, none⟩ (.slice none 0 0))) := by
      obtain ⟨e1, e2, e3⟩ := HPN.out
      refine ⟨none, 0, ?_, fun _ => rfl, ?_, hkF⟩
      · rw [e1, e2, e3]; rfl
      · rw [e2]
        exact ⟨⟨fun s hs => by rw [List.mem_singleton.1 hs]; exact Cells.nil _ _, by simp [fp, fpS, egs], fun b hb => absurd hb (by simp [fp, fpS, egs])⟩, fun b hb => absurd hb (by simp [fp, fpS, egs])⟩
    clear hr r0 r1 f0 f1 hlt
    refine bodyPost_ret (v := .tuple #[.agg #[.int .i64 0, .slice none 0 0], .bool false]) ?_ rfl HFIN.out
    clear hkF HFIN
    revert p0 p1
    generalize World.setCell (World.setCell _ _ _) _ _ = WW
    intro p0 p1
    simp [results, Tryz.results13, go_sem, p0, p1]
  go_wp2_with fail
  refine (unhide HPO _ HKA.out).mono ?_
  rintro e W1 ⟨rfl, hk⟩
  rw [h1]
  have HKW := hide (HKA.out.trans hk)
  have HRW := hide (hk.rowK HR.out)
  replace HKV := hide (HKV.out.trans hk)
  clear hk q0 q1 q2 q3 q4 q5 HR HKA HPO
  go_wp2_with fail
  refine (band_spec lo hi _).mono ?_
  rintro e W2 ⟨rfl, hk⟩
  replace HKW := hide (HKW.out.trans hk)
  replace HRW := hide (hk.rowK HRW.out)
  replace HKV := hide (HKV.out.trans hk)
  clear hk
  cases h2 : bandB lo hi
  · have HPN := hide (plan_no (B := bd) (lo := lo) (hi := hi) (gain := gain) (L := L) (by simp [planB, h2]))
    have r0 := HRW.out.cell (i := 0) (by decide)
    have r1 := HRW.out.cell (i := 1) (by decide)
    have f0 := HRW.out.frozen 0
    have f1 := HRW.out.frozen 1
    have hlt := HRW.out.lt
    go_wp2_with fail
    have hr := (HRW.out.set 0 (.int .i64 0)).set 1 (.slice none 0 0)
    have p0 := hr.cell (i := 0) (by decide)
    have p1 := hr.cell (i := 1) (by decide)
    simp only [if_true, if_false, show ¬ (0 : Nat) = 1 by decide] at p0 p1
    have hkF : Keeps w ((W2.setCell ⟨w.heap.size + 1, 0, none⟩ (.int .i64 0)).setCell ⟨w.heap.size + 1, 1, none⟩ (.slice none 0 0)) := ((HKW.out).setCell (by dsimp only; omega) _).setCell (by dsimp only; omega) _
    have HFIN : Hid (∃ ea ec, Ending.returned (.tuple #[.agg #[.int .i64 0, .slice none 0 0], .bool false]) = .returned (.tuple #[.agg #[.int .i64 (planN bd lo hi gain L), .slice ea (planV bd lo hi gain L).length ec], .bool (planB bd lo hi gain L)]) ∧ (ea = none → ec = 0) ∧ Born w ((W2.setCell ⟨w.heap.size + 1, 0, none⟩ (.int .i64 0)).setCell ⟨w.heap.size + 1, 1, none⟩ (.slice none 0 0)) [(ea, egs (planV bd lo hi gain L))] ∧ Keeps w ((W2.setCell ⟨w.heap.size + 1, 0, none⟩ (.int .i64 0)).setCell ⟨w.heap.size + 1, 1, none⟩ (.slice none 0 0))) := by
      obtain ⟨e1, e2, e3⟩ := HPN.out
      refine ⟨none, 0, ?_, fun _ => rfl, ?_, hkF⟩
      · rw [e1, e2, e3]; rfl
      · rw [e2]
        exact ⟨⟨fun s hs => by rw [List.mem_singleton.1 hs]; exact Cells.nil _ _, by simp [fp, fpS, egs], fun b hb => absurd hb (by simp [fp, fpS, egs])⟩, fun b hb => absurd hb (by simp [fp, fpS, egs])⟩
    clear hr r0 r1 f0 f1 hlt
    refine bodyPost_ret (v := .tuple #[.agg #[.int .i64 0, .slice none 0 0], .bool false]) ?_ rfl HFIN.out
    clear hkF HFIN
    revert p0 p1
    generalize World.setCell (World.setCell _ _ _) _ _ = WW
    intro p0 p1
    simp [results, Tryz.results13, go_sem, p0, p1]
  by_cases h3 : gain < 0
  · have HPN := hide (plan_no (B := bd) (lo := lo) (hi := hi) (gain := gain) (L := L) (by simp [planB, ppmB]; omega))
    have r0 := HRW.out.cell (i := 0) (by decide)
    have r1 := HRW.out.cell (i := 1) (by decide)
    have f0 := HRW.out.frozen 0
    have f1 := HRW.out.frozen 1
    have hlt := HRW.out.lt
    go_wp2_with fail
    have hr := (HRW.out.set 0 (.int .i64 0)).set 1 (.slice none 0 0)
    have p0 := hr.cell (i := 0) (by decide)
    have p1 := hr.cell (i := 1) (by decide)
    simp only [if_true, if_false, show ¬ (0 : Nat) = 1 by decide] at p0 p1
    have hkF : Keeps w ((W2.setCell ⟨w.heap.size + 1, 0, none⟩ (.int .i64 0)).setCell ⟨w.heap.size + 1, 1, none⟩ (.slice none 0 0)) := ((HKW.out).setCell (by dsimp only; omega) _).setCell (by dsimp only; omega) _
    have HFIN : Hid (∃ ea ec, Ending.returned (.tuple #[.agg #[.int .i64 0, .slice none 0 0], .bool false]) = .returned (.tuple #[.agg #[.int .i64 (planN bd lo hi gain L), .slice ea (planV bd lo hi gain L).length ec], .bool (planB bd lo hi gain L)]) ∧ (ea = none → ec = 0) ∧ Born w ((W2.setCell ⟨w.heap.size + 1, 0, none⟩ (.int .i64 0)).setCell ⟨w.heap.size + 1, 1, none⟩ (.slice none 0 0)) [(ea, egs (planV bd lo hi gain L))] ∧ Keeps w ((W2.setCell ⟨w.heap.size + 1, 0, none⟩ (.int .i64 0)).setCell ⟨w.heap.size + 1, 1, none⟩ (.slice none 0 0))) := by
      obtain ⟨e1, e2, e3⟩ := HPN.out
      refine ⟨none, 0, ?_, fun _ => rfl, ?_, hkF⟩
      · rw [e1, e2, e3]; rfl
      · rw [e2]
        exact ⟨⟨fun s hs => by rw [List.mem_singleton.1 hs]; exact Cells.nil _ _, by simp [fp, fpS, egs], fun b hb => absurd hb (by simp [fp, fpS, egs])⟩, fun b hb => absurd hb (by simp [fp, fpS, egs])⟩
    clear hr r0 r1 f0 f1 hlt
    refine bodyPost_ret (v := .tuple #[.agg #[.int .i64 0, .slice none 0 0], .bool false]) ?_ rfl HFIN.out
    clear hkF HFIN
    revert p0 p1
    generalize World.setCell (World.setCell _ _ _) _ _ = WW
    intro p0 p1
    simp [results, Tryz.results13, go_sem, p0, p1]
  by_cases h4 : 1000000 < gain
  · have HPN := hide (plan_no (B := bd) (lo := lo) (hi := hi) (gain := gain) (L := L) (by simp [planB, ppmB]; omega))
    have r0 := HRW.out.cell (i := 0) (by decide)
    have r1 := HRW.out.cell (i := 1) (by decide)
    have f0 := HRW.out.frozen 0
    have f1 := HRW.out.frozen 1
    have hlt := HRW.out.lt
    go_wp2_with fail
    have hr := (HRW.out.set 0 (.int .i64 0)).set 1 (.slice none 0 0)
    have p0 := hr.cell (i := 0) (by decide)
    have p1 := hr.cell (i := 1) (by decide)
    simp only [if_true, if_false, show ¬ (0 : Nat) = 1 by decide] at p0 p1
    have hkF : Keeps w ((W2.setCell ⟨w.heap.size + 1, 0, none⟩ (.int .i64 0)).setCell ⟨w.heap.size + 1, 1, none⟩ (.slice none 0 0)) := ((HKW.out).setCell (by dsimp only; omega) _).setCell (by dsimp only; omega) _
    have HFIN : Hid (∃ ea ec, Ending.returned (.tuple #[.agg #[.int .i64 0, .slice none 0 0], .bool false]) = .returned (.tuple #[.agg #[.int .i64 (planN bd lo hi gain L), .slice ea (planV bd lo hi gain L).length ec], .bool (planB bd lo hi gain L)]) ∧ (ea = none → ec = 0) ∧ Born w ((W2.setCell ⟨w.heap.size + 1, 0, none⟩ (.int .i64 0)).setCell ⟨w.heap.size + 1, 1, none⟩ (.slice none 0 0)) [(ea, egs (planV bd lo hi gain L))] ∧ Keeps w ((W2.setCell ⟨w.heap.size + 1, 0, none⟩ (.int .i64 0)).setCell ⟨w.heap.size + 1, 1, none⟩ (.slice none 0 0))) := by
      obtain ⟨e1, e2, e3⟩ := HPN.out
      refine ⟨none, 0, ?_, fun _ => rfl, ?_, hkF⟩
      · rw [e1, e2, e3]; rfl
      · rw [e2]
        exact ⟨⟨fun s hs => by rw [List.mem_singleton.1 hs]; exact Cells.nil _ _, by simp [fp, fpS, egs], fun b hb => absurd hb (by simp [fp, fpS, egs])⟩, fun b hb => absurd hb (by simp [fp, fpS, egs])⟩
    clear hr r0 r1 f0 f1 hlt
    refine bodyPost_ret (v := .tuple #[.agg #[.int .i64 0, .slice none 0 0], .bool false]) ?_ rfl HFIN.out
    clear hkF HFIN
    revert p0 p1
    generalize World.setCell (World.setCell _ _ _) _ _ = WW
    intro p0 p1
    simp [results, Tryz.results13, go_sem, p0, p1]
  have HPB : Hid (planB bd lo hi gain L = true) := by show _ = _; simp [planB, ppmB, h1, h2]; omega
  obtain ⟨q0, q1, q2, q3, q4, q5⟩ := unhide HBW _ HKV.out
  dsimp only at q0 q1 q2 q3 q4 q5
  have HBK := hide (prices_true (B := bd) (L := L) h1)
  have HGB0 : Hid (0 ≤ gain ∧ gain ≤ 1000000) := by constructor <;> omega
  have HL20 : Hid (L.length ≤ 20) := HBK.out.2.1
  have HLO : Hid (∀ k (hk : k < C.length), 0 ≤ C[k].lo ∧ C[k].lo ≤ 1125899906842624) := by
    have hb := book_lo HBK.out.1
    rw [HBD.out] at hb
    exact hb
  have hc20 : C.length ≤ 20 := by
    have hb := HBK.out.1
    simp only [bookB, headB, Bool.and_eq_true, decide_eq_true_eq] at hb
    have := HBD.out
    rw [← this]
    omega
  have HGA := hide (World.rowIs_alloc W2 #[.int .i64 ((C.length : Int) + 1), .slice none 0 0] 36 (row2 (.int .i64 ((C.length : Int) + 1)) (.slice none 0 0)) (row2_at _ _))
  have HGK := hide (Keeps.alloc (Keeps.refl W2) (.cells #[.int .i64 ((C.length : Int) + 1), .slice none 0 0] 36))
  have hwc : IntKind.i64.wrap ((C.length : Int) + 1) = (C.length : Int) + 1 := by rw [IntKind.wrap_i64]; omega
  have HRL := hide HRW.out.lt
  go_upto_region 4 with fail
  clear hwc q0 q1 q2 q3 q4 q5 h1 h2 h3 h4
  generalize hG : W2.heap.size = G at *
  have HP0 : Hid (PlS W00 (W2.alloc (.cells #[.int .i64 ((C.length : Int) + 1), .slice none 0 0] 36)) (w.heap.size + 1) G 36 (.int .i64 ((C.length : Int) + 1)) none 0 []) :=
    ⟨HKV.out.trans HGK.out, HGA.out, ⟨_, HGK.out.rowK HRW.out⟩, ⟨by simp [egs], .inl ⟨rfl, rfl⟩⟩, by have := HS00.out; omega, by have := HRL.out; omega⟩
  generalize W2.alloc (.cells #[.int .i64 ((C.length : Int) + 1), .slice none 0 0] 36) = W3 at *
  clear HGA HGK HRW HKW HRL hG HKV
  have HGB : Hid (0 ≤ gain ∧ gain ≤ 1000000) := HGB0.out
  obtain ⟨q0, q1, q2, q3, q4, q5⟩ := unhide HBW _ HP0.out.keep
  dsimp only at q0 q1 q2 q3 q4 q5
  go_wp2_with fail
  clear q0 q1 q2 q3 q4 q5
  go_loopw [50] (fun y wr => ∃ (k : Nat) (ea : Option Addr) (ec : Nat), k ≤ C.length ∧ y = .int .i64 (k : Int) ∧ Hid (ea = none → ec = 0) ∧ Hid (PlS W00 wr (w.heap.size + 1) G 36 (.int .i64 ((C.length : Int) + 1)) ea ec (overC (aboveE lo hi) C k))) (fun y _ => C.length - (intOf y).toNat)
  case atStart => exact ⟨0, none, 0, by omega, rfl, fun _ => rfl, HP0.out⟩
  case round =>
    clear HP0
    obtain ⟨k, ea, ec, hk, rfl, HEN, HP⟩ := hrel
    by_cases hlt : k < C.length
    · obtain ⟨b, off, ea0, c0, c1, c2, c3, c4, c5, c6⟩ := chs_at (unhide HCC _ (HKX.out.trans HP.out.keep)) k hlt
      subst ea0
      have HST : Hid (overC (aboveE lo hi) C (k + 1) = (overC (aboveE lo hi) C k) ++ aboveE lo hi k C[k]) := by show _ = _; rw [overC_step (aboveE lo hi) C hlt]
      have HEN2 : Hid ((overC (aboveE lo hi) C k).length ≤ k) := by
        show _ ≤ _
        have h1 := overC_len (aboveE_len lo hi) C k
        omega
      have HAM : Hid (0 ≤ C[k].lo ∧ C[k].lo ≤ 1125899906842624) := HLO.out k hlt
      have HEB := hide (endV_bound (sz := C[k].sz) (lo := lo) (hi := hi) (k := hi) (.inr rfl))
      have HED := hide (fun w1 => ends_spec C[k] lo hi w1)
      have HAE : Hid (aboveE lo hi k C[k] = if endV C[k].sz hi lo hi < C[k].lo then [⟨0, (k : Int) + 1, capV (C[k].lo - endV C[k].sz hi lo hi), 0⟩] else []) := rfl
      obtain ⟨E1, hE1⟩ : ∃ E1, E1 = overC (aboveE lo hi) C (k + 1) := ⟨_, rfl⟩
      have HE1 := hide hE1
      rw [← hE1] at HST
      clear hE1
      generalize overC (aboveE lo hi) C k = E at *
      generalize aboveE lo hi k C[k] = F at *
      generalize C[k] = x at *
      obtain ⟨xid, xsz, xlo, xre, xba, xpp, xsc⟩ := x
      dsimp only [Chn.v] at *
      generalize endV xsz lo lo hi = v1 at *
      generalize endV xsz hi lo hi = v2 at *
      have HA := hide (rowc7 wr (.int .i64 xid) (.int .i64 xsz) (.int .i64 xlo) (.int .i64 xre) (.int .i64 xba) (.int .i64 xpp) (.int .i64 xsc) 84)
      have HKA := hide (Keeps.alloc (Keeps.refl wr) (.cells #[.int .i64 xid, .int .i64 xsz, .int .i64 xlo, .int .i64 xre, .int .i64 xba, .int .i64 xpp, .int .i64 xsc] 84))
      go_upto_region 7 with fail
      generalize wr.heap.size = V at *
      generalize wr.alloc (.cells #[.int .i64 xid, .int .i64 xsz, .int .i64 xlo, .int .i64 xre, .int .i64 xba, .int .i64 xpp, .int .i64 xsc] 84) = W1 at *
      obtain ⟨d0, d1, d2, d3, d4, d5, d6⟩ := unhide HA W1 (Keeps.refl _)
      clear c0 c1 c2 c3 c4 c5 c6
      go_wp2_with fail
      refine (unhide HED W1).mono ?_
      rintro e W2 ⟨rfl, hk2⟩
      obtain ⟨d0, d1, d2, d3, d4, d5, d6⟩ := unhide HA W2 hk2
      have HP2 := hide ((HP.out.kept HKA.out).kept hk2)
      clear hk2 HP HKA HED HA
      by_cases hc : v2 < xlo
      · rw [if_pos hc] at HAE
        go_upto_region 9 with fail
        refine wp_region_app [.f, .f, .h, .h, .h, .h, .h, .h, .h, .h, .b, .t, .t, .t] (by kernel_rfl) (by kernel_rfl) rfl rfl rfl rfl rfl rfl rfl (fun _ _ d _ _ h => by cases d <;> exact h) ?_
        simp only [pkU, pkF, pkH, pkT, pkB]
        refine wpUni_nil ?_
        have G1 := gr_cell HP2.out.cell1
        have D2 := gr_cell d2
        refine wpFlo_step ?va67 (by rfl) ?fa67 ?_
        case fa67 =>
          rintro w9 ⟨t9, rfl⟩
          go_simp
          with_reducible rfl
        try simp only [Act.put, List.setIfInBounds_toArray, List.set_cons_zero, List.set_cons_succ]
        refine wpFlo_step ?vb67 (by rfl) ?fb67 ?_
        case fb67 =>
          rintro w9 ⟨t9, rfl⟩
          go_simp
          with_reducible rfl
        try simp only [Act.put, List.setIfInBounds_toArray, List.set_cons_zero, List.set_cons_succ]
        refine wpFlo_nil ?_
        have hw1 : IntKind.i64.wrap ((k : Int) + 1) = (k : Int) + 1 := by rw [IntKind.wrap_i64]; omega
        have hw2 : IntKind.i64.wrap (xlo - v2) = xlo - v2 := by rw [IntKind.wrap_i64]; have := HAM.out; have := HEB.out; omega
        have hw3 : IntKind.i64.wrap (-gain) = -gain := by rw [IntKind.wrap_i64]; have := HGB.out; omega
        have HQ := hide (fun t => cap_spec (xlo - v2) (gr W2 t) (by omega))
        repeat (go_big_quiet_step (fail))
        go_big_quiet_step (first | (go_at_call 42; exact gr_call (unhide HQ _)))
        repeat (go_big_quiet_step (fail))
        refine wpQuiet_nil ?_
        refine ⟨rfl, ?_⟩
        rintro w9 ⟨t9, rfl⟩ K9 hK9
        go_simp
        refine hK9.out _ _ (gr_gr (Keeps.alloc (Keeps.refl _) _)) ?_
        clear hK9 K9
        have HP9 := hide (HP2.out.kept (gr_keeps W2 t9))
        generalize gr W2 t9 = W9 at *
        have HK9 := hide (Keeps.alloc (Keeps.refl W9) (.cells #[.int .i64 0, .int .i64 ((k : Int) + 1), .int .i64 (capV (xlo - v2)), .int .i64 0] 40))
        have HM9 := hide (mem_one W9 ⟨0, (k : Int) + 1, capV (xlo - v2), 0⟩)
        have HO9 := hide ((HP9.out.kept HK9.out).ow)
        have HB9 : Hid (G + 1 ≤ (W9.alloc (.cells #[.int .i64 0, .int .i64 ((k : Int) + 1), .int .i64 (capV (xlo - v2)), .int .i64 0] 40)).heap.size) := by show _ ≤ _; have := HP9.out.gr.lt; simp; omega
        dsimp only at HM9
        clear G1 D2 d0 d1 d2 d3 d4 d5 d6 hw1 hw2 hw3 HQ
        go_wp2_with (at_builtin; refine app_Edge rfl (.tmp 67) (.tmp 76) rfl (G + 1) _ E [⟨0, (k : Int) + 1, capV (xlo - v2), 0⟩] rfl (some ⟨W9.heap.size, 0, none⟩) 1 rfl HM9.out (fun h => nomatch h) HO9.out (by have := HEN2.out; simp; omega) HB9.out ?_; intro v' w' ho hg hnn; obtain ⟨ea', ec', rfl, hen, hDG, q1, q2, q3⟩ := HP9.out.grow HK9.out ho hg; have HDG := hide hDG; have HENN := hide hen; clear hDG ho hg hnn hen)
        go_roundw
        case rel => exact ⟨k + 1, ea', ec', by omega, by go_num, HENN.out, by rw [← HE1.out, HST.out, HAE.out]; exact HDG.out⟩
        case measure => simp [intOf]; omega
      · rw [if_neg hc] at HAE
        have HE : Hid (E1 = E) := by show _ = _; rw [HST.out, HAE.out, List.append_nil]
        go_wp2_with fail
        go_roundw
        case rel => exact ⟨k + 1, ea, ec, by omega, by go_num, HEN.out, by rw [← HE1.out, HE.out]; exact HP2.out⟩
        case measure => simp [intOf]; omega
    · have e : k = C.length := by omega
      subst e
      have HE0 : Hid ((overC (aboveE lo hi) C C.length).length ≤ 20) := by show _ ≤ _; have := overC_len (aboveE_len lo hi) C C.length; omega
      obtain ⟨E0, hE0⟩ : ∃ E0, E0 = overC (aboveE lo hi) C C.length := ⟨_, rfl⟩
      rw [← hE0] at HP HE0
      have HV0 := hide hE0
      clear hE0
      obtain ⟨q0, q1, q2, q3, q4, q5⟩ := unhide HBW _ HP.out.keep
      dsimp only at q0 q1 q2 q3 q4 q5
      go_wp2_with fail
      clear q0 q1 q2 q3 q4 q5
      go_loopw [83] (fun y wr => ∃ (k : Nat) (ea : Option Addr) (ec : Nat), k ≤ C.length ∧ y = .int .i64 (k : Int) ∧ Hid (ea = none → ec = 0) ∧ Hid (PlS W00 wr (w.heap.size + 1) G 36 (.int .i64 ((C.length : Int) + 1)) ea ec (E0 ++ overC (lackE lo hi gain) C k))) (fun y _ => C.length - (intOf y).toNat)
      case atStart => exact ⟨0, ea, ec, by omega, rfl, HEN.out, (by show PlS _ _ _ _ _ _ _ _ _; simpa [overC] using HP.out)⟩
      case round =>
        clear HP HEN
        obtain ⟨k, ea, ec, hk, rfl, HEN, HP⟩ := hrel
        by_cases hlt : k < C.length
        · obtain ⟨b, off, ea0, c0, c1, c2, c3, c4, c5, c6⟩ := chs_at (unhide HCC _ (HKX.out.trans HP.out.keep)) k hlt
          subst ea0
          have HST : Hid (E0 ++ overC (lackE lo hi gain) C (k + 1) = (E0 ++ overC (lackE lo hi gain) C k) ++ lackE lo hi gain k C[k]) := by show _ = _; rw [overC_step (lackE lo hi gain) C hlt]; simp only [List.append_assoc]
          have HEN2 : Hid ((E0 ++ overC (lackE lo hi gain) C k).length ≤ 20 + k) := by
            show _ ≤ _
            have h1 := overC_len (lackE_len lo hi gain) C k
            have h0 := HE0.out; rw [List.length_append]; omega
          have HAM : Hid (0 ≤ C[k].lo ∧ C[k].lo ≤ 1125899906842624) := HLO.out k hlt
          have HEB := hide (endV_bound (sz := C[k].sz) (lo := lo) (hi := hi) (k := lo) (.inl rfl))
          have HED := hide (fun w1 => ends_spec C[k] lo hi w1)
          have HAE : Hid (lackE lo hi gain k C[k] = if C[k].lo < endV C[k].sz lo lo hi then [⟨(k : Int) + 1, 0, capV (endV C[k].sz lo lo hi - C[k].lo), -gain⟩] else []) := rfl
          obtain ⟨E1, hE1⟩ : ∃ E1, E1 = E0 ++ overC (lackE lo hi gain) C (k + 1) := ⟨_, rfl⟩
          have HE1 := hide hE1
          rw [← hE1] at HST
          clear hE1
          generalize E0 ++ overC (lackE lo hi gain) C k = E at *
          generalize lackE lo hi gain k C[k] = F at *
          generalize C[k] = x at *
          obtain ⟨xid, xsz, xlo, xre, xba, xpp, xsc⟩ := x
          dsimp only [Chn.v] at *
          generalize endV xsz lo lo hi = v1 at *
          generalize endV xsz hi lo hi = v2 at *
          have HA := hide (rowc7 wr (.int .i64 xid) (.int .i64 xsz) (.int .i64 xlo) (.int .i64 xre) (.int .i64 xba) (.int .i64 xpp) (.int .i64 xsc) 84)
          have HKA := hide (Keeps.alloc (Keeps.refl wr) (.cells #[.int .i64 xid, .int .i64 xsz, .int .i64 xlo, .int .i64 xre, .int .i64 xba, .int .i64 xpp, .int .i64 xsc] 84))
          go_upto_region 14 with fail
          generalize wr.heap.size = V at *
          generalize wr.alloc (.cells #[.int .i64 xid, .int .i64 xsz, .int .i64 xlo, .int .i64 xre, .int .i64 xba, .int .i64 xpp, .int .i64 xsc] 84) = W1 at *
          obtain ⟨d0, d1, d2, d3, d4, d5, d6⟩ := unhide HA W1 (Keeps.refl _)
          clear c0 c1 c2 c3 c4 c5 c6
          go_wp2_with fail
          refine (unhide HED W1).mono ?_
          rintro e W2 ⟨rfl, hk2⟩
          obtain ⟨d0, d1, d2, d3, d4, d5, d6⟩ := unhide HA W2 hk2
          have HP2 := hide ((HP.out.kept HKA.out).kept hk2)
          clear hk2 HP HKA HED HA
          by_cases hc : xlo < v1
          · rw [if_pos hc] at HAE
            go_upto_region 16 with fail
            refine wp_region_app [.f, .f, .h, .h, .h, .h, .h, .h, .h, .h, .h, .h, .b, .t, .t, .t] (by kernel_rfl) (by kernel_rfl) rfl rfl rfl rfl rfl rfl rfl (fun _ _ d _ _ h => by cases d <;> exact h) ?_
            simp only [pkU, pkF, pkH, pkT, pkB]
            refine wpUni_nil ?_
            have G1 := gr_cell HP2.out.cell1
            have D2 := gr_cell d2
            refine wpFlo_step ?va100 (by rfl) ?fa100 ?_
            case fa100 =>
              rintro w9 ⟨t9, rfl⟩
              go_simp
              with_reducible rfl
            try simp only [Act.put, List.setIfInBounds_toArray, List.set_cons_zero, List.set_cons_succ]
            refine wpFlo_step ?vb100 (by rfl) ?fb100 ?_
            case fb100 =>
              rintro w9 ⟨t9, rfl⟩
              go_simp
              with_reducible rfl
            try simp only [Act.put, List.setIfInBounds_toArray, List.set_cons_zero, List.set_cons_succ]
            refine wpFlo_nil ?_
            have hw1 : IntKind.i64.wrap ((k : Int) + 1) = (k : Int) + 1 := by rw [IntKind.wrap_i64]; omega
            have hw2 : IntKind.i64.wrap (v1 - xlo) = v1 - xlo := by rw [IntKind.wrap_i64]; have := HAM.out; have := HEB.out; omega
            have hw3 : IntKind.i64.wrap (-gain) = -gain := by rw [IntKind.wrap_i64]; have := HGB.out; omega
            have HQ := hide (fun t => cap_spec (v1 - xlo) (gr W2 t) (by omega))
            repeat (go_big_quiet_step (fail))
            go_big_quiet_step (first | (go_at_call 42; exact gr_call (unhide HQ _)))
            repeat (go_big_quiet_step (fail))
            refine wpQuiet_nil ?_
            refine ⟨rfl, ?_⟩
            rintro w9 ⟨t9, rfl⟩ K9 hK9
            go_simp
            refine hK9.out _ _ (gr_gr (Keeps.alloc (Keeps.refl _) _)) ?_
            clear hK9 K9
            have HP9 := hide (HP2.out.kept (gr_keeps W2 t9))
            generalize gr W2 t9 = W9 at *
            have HK9 := hide (Keeps.alloc (Keeps.refl W9) (.cells #[.int .i64 ((k : Int) + 1), .int .i64 0, .int .i64 (capV (v1 - xlo)), .int .i64 (-gain)] 40))
            have HM9 := hide (mem_one W9 ⟨(k : Int) + 1, 0, capV (v1 - xlo), -gain⟩)
            have HO9 := hide ((HP9.out.kept HK9.out).ow)
            have HB9 : Hid (G + 1 ≤ (W9.alloc (.cells #[.int .i64 ((k : Int) + 1), .int .i64 0, .int .i64 (capV (v1 - xlo)), .int .i64 (-gain)] 40)).heap.size) := by show _ ≤ _; have := HP9.out.gr.lt; simp; omega
            dsimp only at HM9
            clear G1 D2 d0 d1 d2 d3 d4 d5 d6 hw1 hw2 hw3 HQ
            go_wp2_with (at_builtin; refine app_Edge rfl (.tmp 100) (.tmp 111) rfl (G + 1) _ E [⟨(k : Int) + 1, 0, capV (v1 - xlo), -gain⟩] rfl (some ⟨W9.heap.size, 0, none⟩) 1 rfl HM9.out (fun h => nomatch h) HO9.out (by have := HEN2.out; simp; omega) HB9.out ?_; intro v' w' ho hg hnn; obtain ⟨ea', ec', rfl, hen, hDG, q1, q2, q3⟩ := HP9.out.grow HK9.out ho hg; have HDG := hide hDG; have HENN := hide hen; clear hDG ho hg hnn hen)
            go_roundw
            case rel => exact ⟨k + 1, ea', ec', by omega, by go_num, HENN.out, by rw [← HE1.out, HST.out, HAE.out]; exact HDG.out⟩
            case measure => simp [intOf]; omega
          · rw [if_neg hc] at HAE
            have HE : Hid (E1 = E) := by show _ = _; rw [HST.out, HAE.out, List.append_nil]
            go_wp2_with fail
            go_roundw
            case rel => exact ⟨k + 1, ea, ec, by omega, by go_num, HEN.out, by rw [← HE1.out, HE.out]; exact HP2.out⟩
            case measure => simp [intOf]; omega
        · have e : k = C.length := by omega
          subst e
          have HE00 : Hid ((E0 ++ overC (lackE lo hi gain) C C.length).length ≤ 40) := by show _ ≤ _; have := overC_len (lackE_len lo hi gain) C C.length; have := HE0.out; rw [List.length_append]; omega
          obtain ⟨E00, hE0⟩ : ∃ E00, E00 = E0 ++ overC (lackE lo hi gain) C C.length := ⟨_, rfl⟩
          rw [← hE0] at HP HE00
          have HV00 := hide hE0
          clear hE0
          go_wp2_with fail
          go_loopw [117] (fun y wr => ∃ (k : Nat) (ea : Option Addr) (ec : Nat), k ≤ L.length ∧ y = .int .i64 (k : Int) ∧ Hid (ea = none → ec = 0) ∧ Hid (PlS W00 wr (w.heap.size + 1) G 36 (.int .i64 ((C.length : Int) + 1)) ea ec (E00 ++ (L.take k).map (priceE C)))) (fun y _ => L.length - (intOf y).toNat)
          case atStart => exact ⟨0, ea, ec, by omega, rfl, HEN.out, (by show PlS _ _ _ _ _ _ _ _ _; simpa using HP.out)⟩
          case round =>
            clear HP HEN
            obtain ⟨k, ea, ec, hk, rfl, HEN, HP⟩ := hrel
            by_cases hlt : k < L.length
            · obtain ⟨b, off, ea0, c0, c1, c2⟩ := pcs_at (unhide HPP _ (HKX.out.trans HP.out.keep)) k hlt
              subst ea0
              have HST : Hid (E00 ++ (L.take (k + 1)).map (priceE C) = (E00 ++ (L.take k).map (priceE C)) ++ [priceE C L[k]]) := by show _ = _; rw [List.take_add_one, List.getElem?_eq_getElem hlt, Option.toList_some, List.map_append, List.map_singleton, List.append_assoc]
              have HEN2 : Hid ((E00 ++ (L.take k).map (priceE C)).length ≤ 40 + k) := by
                show _ ≤ _
                have := HE00.out
                rw [List.length_append, List.length_map, List.length_take]
                omega
              have HPE : Hid (priceE C L[k] = ⟨atI C L[k].fr + 1, atI C L[k].to + 1, 1000000000, L[k].pp⟩) := rfl
              have HI1 := hide (atI_bound C L[k].fr)
              have HI2 := hide (atI_bound C L[k].to)
              have HAT1 := hide (fun w' hk => HAT.out L[k].fr w' hk)
              have HAT2 := hide (fun w' hk => HAT.out L[k].to w' hk)
              obtain ⟨E1, hE1⟩ : ∃ E1, E1 = E00 ++ (L.take (k + 1)).map (priceE C) := ⟨_, rfl⟩
              have HE1 := hide hE1
              rw [← hE1, HPE.out] at HST
              clear hE1 HPE
              generalize E00 ++ (L.take k).map (priceE C) = E at *
              try dsimp only at HAT1 HAT2
              generalize L[k] = x at *
              obtain ⟨xfr, xto, xpp⟩ := x
              dsimp only [Prc.v] at *
              generalize atI C xfr = i1 at *
              generalize atI C xto = i2 at *
              have HA := hide (rowc3 wr (.int .i64 xfr) (.int .i64 xto) (.int .i64 xpp) 69)
              have HKA := hide (Keeps.alloc (Keeps.refl wr) (.cells #[.int .i64 xfr, .int .i64 xto, .int .i64 xpp] 69))
              go_upto_region 21 with fail
              generalize wr.heap.size = V at *
              generalize wr.alloc (.cells #[.int .i64 xfr, .int .i64 xto, .int .i64 xpp] 69) = W2 at *
              obtain ⟨d0, d1, d2⟩ := unhide HA W2 (Keeps.refl _)
              have HP2 := hide (HP.out.kept HKA.out)
              have hL20 : L.length ≤ 20 := HL20.out
              clear c0 c1 c2 HP HKA HA
              refine wp_region_app [.f, .f, .h, .h, .h, .h, .h, .h, .h, .h, .h, .h, .h, .h, .h, .b, .t, .t, .t] (by kernel_rfl) (by kernel_rfl) rfl rfl rfl rfl rfl rfl rfl (fun _ _ d _ _ h => by cases d <;> exact h) ?_
              simp only [pkU, pkF, pkH, pkT, pkB]
              refine wpUni_nil ?_
              have G1 := gr_cell HP2.out.cell1
              have D2 := gr_cell d2
              refine wpFlo_step ?va122 (by rfl) ?fa122 ?_
              case fa122 =>
                rintro w9 ⟨t9, rfl⟩
                go_simp
                with_reducible rfl
              try simp only [Act.put, List.setIfInBounds_toArray, List.set_cons_zero, List.set_cons_succ]
              refine wpFlo_step ?vb122 (by rfl) ?fb122 ?_
              case fb122 =>
                rintro w9 ⟨t9, rfl⟩
                go_simp
                with_reducible rfl
              try simp only [Act.put, List.setIfInBounds_toArray, List.set_cons_zero, List.set_cons_succ]
              refine wpFlo_nil ?_
              have hw1 : IntKind.i64.wrap (i1 + 1) = i1 + 1 := by rw [IntKind.wrap_i64]; have := HI1.out; omega
              have hw2 : IntKind.i64.wrap (i2 + 1) = i2 + 1 := by rw [IntKind.wrap_i64]; have := HI2.out; omega
              have D0 := gr_cell d0
              have D1 := gr_cell d1
              obtain ⟨q0, q1, q2, q3, q4, q5⟩ := unhide HBW W2 HP2.out.keep
              dsimp only at q0 q1 q2 q3 q4 q5
              have Q0 := gr_cell q0
              have Q1 := gr_cell q1
              have Q2 := gr_cell q2
              have Q3 := gr_cell q3
              have Q4 := gr_cell q4
              have Q5 := gr_cell q5
              clear q0 q1 q2 q3 q4 q5
              have HQ1 := hide (fun t => HAT1.out (gr W2 t) (HKX.out.trans (HP2.out.keep.trans (gr_keeps W2 t))))
              have HQ2 := hide (fun t => HAT2.out (gr W2 t) (HKX.out.trans (HP2.out.keep.trans (gr_keeps W2 t))))
              repeat (go_big_quiet_step (fail))
              go_big_quiet_step (first | (go_at_call 43; exact gr_call (unhide HQ1 _)))
              repeat (go_big_quiet_step (fail))
              go_big_quiet_step (first | (go_at_call 43; exact gr_call (unhide HQ2 _)))
              repeat (go_big_quiet_step (fail))
              refine wpQuiet_nil ?_
              refine ⟨rfl, ?_⟩
              rintro w9 ⟨t9, rfl⟩ K9 hK9
              go_simp
              refine hK9.out _ _ (gr_gr (Keeps.alloc (Keeps.refl _) _)) ?_
              clear hK9 K9
              have HP9 := hide (HP2.out.kept (gr_keeps W2 t9))
              generalize gr W2 t9 = W9 at *
              have HK9 := hide (Keeps.alloc (Keeps.refl W9) (.cells #[.int .i64 (i1 + 1), .int .i64 (i2 + 1), .int .i64 1000000000, .int .i64 xpp] 40))
              have HM9 := hide (mem_one W9 ⟨i1 + 1, i2 + 1, 1000000000, xpp⟩)
              have HO9 := hide ((HP9.out.kept HK9.out).ow)
              have HB9 : Hid (G + 1 ≤ (W9.alloc (.cells #[.int .i64 (i1 + 1), .int .i64 (i2 + 1), .int .i64 1000000000, .int .i64 xpp] 40)).heap.size) := by show _ ≤ _; have := HP9.out.gr.lt; simp; omega
              dsimp only at HM9
              clear G1 D2 d0 d1 d2 D0 D1 Q0 Q1 Q2 Q3 Q4 Q5 hw1 hw2 HQ1 HQ2
              go_wp2_with (at_builtin; refine app_Edge rfl (.tmp 122) (.tmp 136) rfl (G + 1) _ E [⟨i1 + 1, i2 + 1, 1000000000, xpp⟩] rfl (some ⟨W9.heap.size, 0, none⟩) 1 rfl HM9.out (fun h => nomatch h) HO9.out (by have := HEN2.out; simp; omega) HB9.out ?_; intro v' w' ho hg hnn; obtain ⟨ea', ec', rfl, hen, hDG, q1, q2, q3⟩ := HP9.out.grow HK9.out ho hg; have HDG := hide hDG; have HENN := hide hen; clear hDG ho hg hnn hen)
              go_roundw
              case rel => exact ⟨k + 1, ea', ec', by omega, by go_num, HENN.out, by rw [← HE1.out, HST.out]; exact HDG.out⟩
              case measure => simp [intOf]; omega
            · have e : k = L.length := by omega
              subst e
              have HFE : Hid (planV bd lo hi gain L = E00 ++ (L.take L.length).map (priceE C)) := by
                show _ = _
                rw [(plan_yes HPB.out).2, HBD.out]
                unfold planE
                rw [HV00.out, HV0.out, List.take_length]
              have HFN : Hid (planN bd lo hi gain L = (C.length : Int) + 1) := by
                show _ = _
                rw [(plan_yes HPB.out).1, HBD.out]
              generalize E00 ++ (L.take L.length).map (priceE C) = E at *
              obtain ⟨fr, hfr⟩ := HP.out.rs
              have HRW := hide hfr
              have HKW := hide (HKX.out.trans HP.out.keep)
              have g0 := HP.out.cell0
              have g1 := HP.out.cell1
              have hR := HP.out.lt
              clear hfr
              have r0 := HRW.out.cell (i := 0) (by decide)
              have r1 := HRW.out.cell (i := 1) (by decide)
              have f0 := HRW.out.frozen 0
              have f1 := HRW.out.frozen 1
              have hlt := HRW.out.lt
              go_wp2_with fail
              have hr := (HRW.out.set 0 (.int .i64 ((C.length : Int) + 1))).set 1 (.slice ea E.length ec)
              have p0 := hr.cell (i := 0) (by decide)
              have p1 := hr.cell (i := 1) (by decide)
              simp only [if_true, if_false, show ¬ (0 : Nat) = 1 by decide] at p0 p1
              have hkF : Keeps w ((wr.setCell ⟨w.heap.size + 1, 0, none⟩ (.int .i64 ((C.length : Int) + 1))).setCell ⟨w.heap.size + 1, 1, none⟩ (.slice ea E.length ec)) := ((HKW.out).setCell (by dsimp only; omega) _).setCell (by dsimp only; omega) _
              have ht : Turn [w.heap.size + 1] wr ((wr.setCell ⟨w.heap.size + 1, 0, none⟩ (.int .i64 ((C.length : Int) + 1))).setCell ⟨w.heap.size + 1, 1, none⟩ (.slice ea E.length ec)) := (Turn.set (by simp) _).trans' (Turn.set (by simp) _)
              have ho := ownsE_turn HP.out.ow (fun j hj => ht.block j (HP.out.ow.lt j hj).2 (by have h1 := (HP.out.ow.lt j hj).1; simp; omega))
              have HFIN : Hid (∃ ea' ec', Ending.returned (.tuple #[.agg #[.int .i64 ((C.length : Int) + 1), .slice ea E.length ec], .bool true]) = .returned (.tuple #[.agg #[.int .i64 (planN bd lo hi gain L), .slice ea' (planV bd lo hi gain L).length ec'], .bool (planB bd lo hi gain L)]) ∧ (ea' = none → ec' = 0) ∧ Born w ((wr.setCell ⟨w.heap.size + 1, 0, none⟩ (.int .i64 ((C.length : Int) + 1))).setCell ⟨w.heap.size + 1, 1, none⟩ (.slice ea E.length ec)) [(ea', egs (planV bd lo hi gain L))] ∧ Keeps w ((wr.setCell ⟨w.heap.size + 1, 0, none⟩ (.int .i64 ((C.length : Int) + 1))).setCell ⟨w.heap.size + 1, 1, none⟩ (.slice ea E.length ec))) := by
                refine ⟨ea, ec, ?_, HEN.out, ?_, hkF⟩
                · rw [HFN.out, HFE.out, HPB.out]
                · rw [HFE.out]
                  exact bornE ho (by omega)
              clear ht ho g0 g1
              clear hr r0 r1 f0 f1 hlt
              refine bodyPost_ret (v := .tuple #[.agg #[.int .i64 ((C.length : Int) + 1), .slice ea E.length ec], .bool true]) ?_ rfl HFIN.out
              clear hkF HFIN
              revert p0 p1
              generalize World.setCell (World.setCell _ _ _) _ _ = WW
              intro p0 p1
              simp [results, Tryz.results13, go_sem, p0, p1]

end Go.Proofs.YtjdbedlgkngdkaaGreatDoor
namespace Go.Proofs.YtjdbedlgkngdkaaGreatDoor
open Go.RowKit Go.Deep
set_option linter.unusedVariables false
set_option linter.unusedSimpArgs false
set_option maxRecDepth 10000

def Htl.v (x : Htl) : Value := .agg #[.int .i64 x.ky, .int .i64 x.inn, .int .i64 x.out, .int .i64 x.ai, .int .i64 x.ao, .bool x.kp, .int .i64 x.ag]
theorem toHtlc_k (x : Htl) (w : World) : Calls Tryz.prog 80 #[x.v] w fun e w' => e = .returned x.v ∧ Keeps w w' := by
  obtain ⟨xky, xinn, xout, xai, xao, xkp, xag⟩ := x
  dsimp only [Htl.v]
  go_enter Tryz.func80, Tryz.ntmps80
  go_wp2_with fail
  refine bodyPost_ret (v := .agg #[.int .i64 xky, .int .i64 xinn, .int .i64 xout, .int .i64 xai, .int .i64 xao, .bool xkp, .int .i64 xag]) (by simp [results, Tryz.results80, go_sem]) rfl ⟨rfl, ?_⟩
  repeat (first | exact Keeps.refl _ | refine Keeps.alloc ?_ _ | refine Keeps.setCell ?_ (by simp) _)
theorem szHtlcS_k (a : Option Addr) (len cap : Nat) (left : Int) (w : World) (hl : len ≤ 9223372036854775807) (h0 : 0 ≤ left) (h1 : left ≤ 1048576) :
    Calls Tryz.prog 37 #[.slice a len cap, .int .i64 left] w fun e w' => e = .returned (.int .i64 (if (len : Int) ≤ left then left - len else -1)) ∧ w' = w := by
  by_cases h : (len : Int) ≤ left
  · rw [if_pos h]
    go_enter Tryz.func37, Tryz.ntmps37
    go_wp2_with fail
    go_ret
    exact ⟨rfl, rfl⟩
  · rw [if_neg h]
    go_enter Tryz.func37, Tryz.ntmps37
    go_wp2_with fail
    go_ret
    exact ⟨rfl, rfl⟩
theorem infoHtlc : (Tryz.prog.info? 126).map (fun i => (i.zero, i.size, i.bytes)) = some (some (.agg #[.int .i64 0, .int .i64 0, .int .i64 0, .int .i64 0, .int .i64 0, .bool false, .int .i64 0]), 7, 56) := by kernel_rfl
theorem underHtlcs : Tryz.prog.underlying 24 = some (.slice 126) := by kernel_rfl
theorem make_Htlcs (n : Nat) (hn : n ≤ 1048576) (w : World) : (Instr.makeSlice 24 (.int .i64 (n : Int)) (.int .i64 (n : Int))).run Tryz.prog w = .ok (.slice (some ⟨w.heap.size, 0, none⟩) n n) (w.alloc (.cells (madeCells #[.int .i64 0, .int .i64 0, .int .i64 0, .int .i64 0, .int .i64 0, .bool false, .int .i64 0] (n * 7)) 126)) := by
  have hI := infoHtlc
  cases hi : Tryz.prog.info? 126 with
  | none => rw [hi] at hI; simp at hI
  | some i =>
    rw [hi] at hI
    simp at hI
    obtain ⟨hz, hs, hb⟩ := hI
    have h := run_make (P := Tryz.prog) w 24 126 i _ underHtlcs hi hz .i64 .i64 n n (by omega) (Int.le_refl _) (by rw [hb]; omega) (by omega)
    rw [hs] at h
    simpa [Value.cells] using h
/-- The row of the new list while it is filled. -/
def rowHtlc (L : List Htl) (k : Nat) : Nat → Value := fun j => if j < k * 7 then (hts L).getD j (.int .i64 0) else (#[.int .i64 0, .int .i64 0, .int .i64 0, .int .i64 0, .int .i64 0, .bool false, .int .i64 0] : Array Value)[j % 7]!
theorem made_Htlc (L : List Htl) (w : World) (m : Nat) (t : TypeId) : (w.alloc (.cells (madeCells #[.int .i64 0, .int .i64 0, .int .i64 0, .int .i64 0, .int .i64 0, .bool false, .int .i64 0] m) t)).rowIs w.heap.size t m (rowHtlc L 0) := by
  have h := World.rowIs_alloc w (madeCells #[.int .i64 0, .int .i64 0, .int .i64 0, .int .i64 0, .int .i64 0, .bool false, .int .i64 0] m) t (rowHtlc L 0) (by
    intro i hi
    rw [size_madeCells] at hi
    simp only [madeCells, Array.getElem?_map, Array.getElem?_range]
    rw [if_pos hi]
    simp [rowHtlc])
  rw [size_madeCells] at h
  exact h
theorem rowHtlc_step (L : List Htl) (k : Nat) (h : k < L.length) (j : Nat) : (if j = k * 7 + 6 then (.int .i64 L[k].ag : Value) else if j = k * 7 + 5 then (.bool L[k].kp : Value) else if j = k * 7 + 4 then (.int .i64 L[k].ao : Value) else if j = k * 7 + 3 then (.int .i64 L[k].ai : Value) else if j = k * 7 + 2 then (.int .i64 L[k].out : Value) else if j = k * 7 + 1 then (.int .i64 L[k].inn : Value) else if j = k * 7 then (.int .i64 L[k].ky : Value) else rowHtlc L k j) = rowHtlc L (k + 1) j := by
  have hL := hts_len L
  have hk := Nat.mul_le_mul_right 7 (show k + 1 ≤ L.length from h)
  have ha := fun r (hr : r < 7) => flatMap_at (f := Htl.cells) (sz := 7) (fun _ => rfl) L k h r hr
  unfold rowHtlc
  by_cases h6 : j = k * 7 + 6
  · subst h6
    (try simp only [if_true])
    (try rw [if_pos rfl])
    rw [if_pos (by omega), List.getD_eq_getElem?_getD]
    have e := ha 6 (by decide)
    skip
    unfold hts
    rw [e]; rfl
  rw [if_neg h6]
  by_cases h5 : j = k * 7 + 5
  · subst h5
    (try simp only [if_true])
    (try rw [if_pos rfl])
    rw [if_pos (by omega), List.getD_eq_getElem?_getD]
    have e := ha 5 (by decide)
    skip
    unfold hts
    rw [e]; rfl
  rw [if_neg h5]
  by_cases h4 : j = k * 7 + 4
  · subst h4
    (try simp only [if_true])
    (try rw [if_pos rfl])
    rw [if_pos (by omega), List.getD_eq_getElem?_getD]
    have e := ha 4 (by decide)
    skip
    unfold hts
    rw [e]; rfl
  rw [if_neg h4]
  by_cases h3 : j = k * 7 + 3
  · subst h3
    (try simp only [if_true])
    (try rw [if_pos rfl])
    rw [if_pos (by omega), List.getD_eq_getElem?_getD]
    have e := ha 3 (by decide)
    skip
    unfold hts
    rw [e]; rfl
  rw [if_neg h3]
  by_cases h2 : j = k * 7 + 2
  · subst h2
    (try simp only [if_true])
    (try rw [if_pos rfl])
    rw [if_pos (by omega), List.getD_eq_getElem?_getD]
    have e := ha 2 (by decide)
    skip
    unfold hts
    rw [e]; rfl
  rw [if_neg h2]
  by_cases h1 : j = k * 7 + 1
  · subst h1
    (try simp only [if_true])
    (try rw [if_pos rfl])
    rw [if_pos (by omega), List.getD_eq_getElem?_getD]
    have e := ha 1 (by decide)
    skip
    unfold hts
    rw [e]; rfl
  rw [if_neg h1]
  by_cases h0 : j = k * 7
  · subst h0
    (try simp only [if_true])
    (try rw [if_pos rfl])
    rw [if_pos (by omega), List.getD_eq_getElem?_getD]
    have e := ha 0 (by decide)
    simp only [Nat.add_zero] at e
    unfold hts
    rw [e]; rfl
  rw [if_neg h0]
  by_cases hlt : j < k * 7
  · rw [if_pos hlt, if_pos (by omega)]
  · rw [if_neg hlt, if_neg (by omega)]
theorem rowHtlc_end (L : List Htl) (j : Nat) (hj : j < (hts L).length) : rowHtlc L L.length j = (hts L)[j] := by
  have hL := hts_len L
  unfold rowHtlc
  rw [if_pos (by omega), List.getD_eq_getElem?_getD, List.getElem?_eq_getElem hj]
  rfl
set_option maxHeartbeats 2000000 in
theorem toHtlcS_k (a : Option Addr) (cap : Nat) (L : List Htl) (w : World) (hc : Cells w a (hts L)) (hl : L.length ≤ 1048576) :
    Calls Tryz.prog 45 #[.slice a L.length cap] w fun e w' => ∃ b, e = .returned (.slice (some ⟨b, 0, none⟩) L.length L.length) ∧ Born w w' [(some ⟨b, 0, none⟩, hts L)] ∧ Keeps w w' := by
  have HC := hide hc
  clear hc
  have hmk := make_Htlcs L.length hl
  have HR := hide (made_Htlc L w (L.length * 7) 126)
  have HKA := hide (Keeps.alloc (Keeps.refl w) (.cells (madeCells #[.int .i64 0, .int .i64 0, .int .i64 0, .int .i64 0, .int .i64 0, .bool false, .int .i64 0] (L.length * 7)) 126))
  go_enter Tryz.func45, Tryz.ntmps45
  go_wp2_with fail
  clear hmk
  go_loopw [4] (fun y w1 => ∃ k : Nat, k ≤ L.length ∧ y = .int .i64 (k : Int) ∧ w1.rowIs w.heap.size 126 (L.length * 7) (rowHtlc L k) ∧ Keeps w w1) (fun y _ => L.length - (intOf y).toNat)
  case atStart => exact ⟨0, by omega, rfl, HR.out, HKA.out⟩
  case round =>
    obtain ⟨k, hk, rfl, hr, hkw⟩ := hrel
    clear HR HKA
    by_cases hlt : k < L.length
    · obtain ⟨b, off, ea, c0, c1, c2, c3, c4, c5, c6⟩ := hts_at (HC.out.kept hkw) k hlt
      subst ea
      have HQ := hide (fun w1 => toHtlc_k L[k] w1)
      have HS := hide (rowHtlc_step L k hlt)
      have HRR := hide hr
      have HKW := hide hkw
      have hkz := Nat.mul_le_mul_right 7 (show k + 1 ≤ L.length from hlt)
      clear hr hkw
      generalize L[k] = x at *
      obtain ⟨xky, xinn, xout, xai, xao, xkp, xag⟩ := x
      dsimp only [Htl.v] at *
      go_wp2_with fail
      refine (unhide HQ _).mono ?_
      rintro e w2 ⟨rfl, hk2⟩
      have r2 := hk2.rowK HRR.out
      have d0 := r2.cell (i := k * 7) (by omega)
      have f0 := r2.frozen (k * 7)
      have d1 := r2.cell (i := k * 7 + 1) (by omega)
      have f1 := r2.frozen (k * 7 + 1)
      have d2 := r2.cell (i := k * 7 + 2) (by omega)
      have f2 := r2.frozen (k * 7 + 2)
      have d3 := r2.cell (i := k * 7 + 3) (by omega)
      have f3 := r2.frozen (k * 7 + 3)
      have d4 := r2.cell (i := k * 7 + 4) (by omega)
      have f4 := r2.frozen (k * 7 + 4)
      have d5 := r2.cell (i := k * 7 + 5) (by omega)
      have f5 := r2.frozen (k * 7 + 5)
      have d6 := r2.cell (i := k * 7 + 6) (by omega)
      have f6 := r2.frozen (k * 7 + 6)
      have HR2 := hide r2
      have HK2 := hide (HKW.out.trans hk2)
      clear r2 hk2
      go_wp2_with fail
      go_roundw
      case rel => exact ⟨k + 1, by omega, by go_num, ((((((((HR2.out.set (k * 7) (.int .i64 xky)).set (k * 7 + 1) (.int .i64 xinn)).set (k * 7 + 2) (.int .i64 xout)).set (k * 7 + 3) (.int .i64 xai)).set (k * 7 + 4) (.int .i64 xao)).set (k * 7 + 5) (.bool xkp)).set (k * 7 + 6) (.int .i64 xag))).congr (fun j _ => HS.out j), (Keeps.setCell (Keeps.setCell (Keeps.setCell (Keeps.setCell (Keeps.setCell (Keeps.setCell (Keeps.setCell HK2.out (Nat.le_refl _) _) (Nat.le_refl _) _) (Nat.le_refl _) _) (Nat.le_refl _) _) (Nat.le_refl _) _) (Nat.le_refl _) _) (Nat.le_refl _) _)⟩
      case measure => simp [intOf]; omega
    · have e : k = L.length := by omega
      subst e
      go_wp2_with fail
      go_ret
      exact ⟨_, rfl, born_row hr (hts L) (by rw [hts_len]; exact Nat.le_refl _) (fun j hj => rowHtlc_end L j hj) (Nat.le_refl _), hkw⟩
theorem eqHtlc_same (x : Htl) (w : World) : Calls Tryz.prog 84 #[x.v, x.v] w fun e w' => e = .returned (.bool true) ∧ Keeps w w' := by
  obtain ⟨xky, xinn, xout, xai, xao, xkp, xag⟩ := x
  dsimp only [Htl.v]
  cases xkp
  all_goals
    go_enter Tryz.func84, Tryz.ntmps84
    go_wp2_with fail
    go_ret
    exact ⟨rfl, Keeps.alloc (Keeps.alloc (Keeps.refl _) _) _⟩
set_option maxHeartbeats 4000000 in
theorem eqHtlcS_k (a a' : Option Addr) (cap cap' : Nat) (xs : List Htl) (w : World) (hc : Cells w a (hts xs)) (hc' : Cells w a' (hts xs)) (hl : xs.length ≤ 1048576) :
    Calls Tryz.prog 50 #[.slice a xs.length cap, .slice a' xs.length cap'] w fun e w' => e = .returned (.bool true) ∧ Keeps w w' := by
  have HC := hide hc
  have HC' := hide hc'
  clear hc hc'
  go_enter Tryz.func50, Tryz.ntmps50
  go_wp2_with fail
  go_loopw [5] (fun y w1 => ∃ k : Nat, k ≤ xs.length ∧ y = .int .i64 (k : Int) ∧ Keeps w w1) (fun y _ => xs.length - (intOf y).toNat)
  case atStart => exact ⟨0, by omega, rfl, Keeps.refl _⟩
  case round =>
    obtain ⟨k, hk, rfl, hkw⟩ := hrel
    by_cases hlt : k < xs.length
    · obtain ⟨b, off, ea, c0, c1, c2, c3, c4, c5, c6⟩ := hts_at (HC.out.kept hkw) k hlt
      obtain ⟨b', off', ea', d0, d1, d2, d3, d4, d5, d6⟩ := hts_at (HC'.out.kept hkw) k hlt
      have HEA := hide ea
      have HEA' := hide ea'
      clear ea ea'
      obtain rfl := HEA.out
      obtain rfl := HEA'.out
      have HQ := hide (fun t => eqHtlc_same xs[k] (gr wr t))
      have g0 := gr_cell c0
      have i0 := gr_cell d0
      have g1 := gr_cell c1
      have i1 := gr_cell d1
      have g2 := gr_cell c2
      have i2 := gr_cell d2
      have g3 := gr_cell c3
      have i3 := gr_cell d3
      have g4 := gr_cell c4
      have i4 := gr_cell d4
      have g5 := gr_cell c5
      have i5 := gr_cell d5
      have g6 := gr_cell c6
      have i6 := gr_cell d6
      generalize xs[k] = x at *
      obtain ⟨xky, xinn, xout, xai, xao, xkp, xag⟩ := x
      dsimp only [Htl.v] at c0 d0 g0 i0 c1 d1 g1 i1 c2 d2 g2 i2 c3 d3 g3 i3 c4 d4 g4 i4 c5 d5 g5 i5 c6 d6 g6 i6 HQ
      go_wp2_with fail
      refine region_gr (by kernel_rfl) (by kernel_rfl) ?_
      repeat (go_big_quiet_step (first | (go_at_call 84; exact gr_call (unhide HQ _))))
      refine wpQuiet_nil ?_
      intro w' hw'
      have hk' := hkw.trans (Keeps.of_gr hw')
      clear hw'
      go_wp2_with fail
      go_roundw
      case rel => exact ⟨k + 1, by omega, by go_num, hk'⟩
      case measure => simp [intOf]; omega
    · go_wp2_with fail
      go_ret
      exact ⟨rfl, hkw⟩
end Go.Proofs.YtjdbedlgkngdkaaGreatDoor
