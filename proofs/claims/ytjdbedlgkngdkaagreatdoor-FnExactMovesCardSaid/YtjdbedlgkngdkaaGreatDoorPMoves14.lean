/- Texts of the verifier, joined: Ph, ChS, My, Pj. -/
import Derived.Test.YtjdbedlgkngdkaaGreatDoorPMoves13
import Derived.Test.YtjdbedlgkngdkaaGreatDoorPMoves4
import Derived.Test.YtjdbedlgkngdkaaGreatDoorPMoves12
import Derived.Deep.Cut
import Derived.Test.YtjdbedlgkngdkaaGreatDoorPMoves9
import Derived.Test.YtjdbedlgkngdkaaGreatDoorPMoves10
namespace Go.Proofs.YtjdbedlgkngdkaaGreatDoor
open Go.RowKit Go.Deep
set_option linter.unusedVariables false
set_option linter.unusedSimpArgs false
set_option maxRecDepth 10000

set_option maxHeartbeats 8000000 in
theorem plan_spec (B : Bo) (lo hi gain : Int) (a : Option Addr) (cap : Nat) (L : List Prc) (w : World) (hm : Mem w B.segs) (hl : B.len) (hp : Cells w a (pcs L)) (hlp : L.length ≤ 1048576) :
    Calls Tryz.prog 13 #[B.v, .int .i64 lo, .int .i64 hi, .int .i64 gain, .slice a L.length cap] w fun e w' => ∃ ea ec, e = .returned (.tuple #[.agg #[.int .i64 (planN B.d lo hi gain L), .slice ea (planV B.d lo hi gain L).length ec], .bool (planB B.d lo hi gain L)]) ∧ (ea = none → ec = 0) ∧ Born w w' [(ea, egs (planV B.d lo hi gain L))] ∧ Keeps w w' := by
  have HPO := hide (fun w' (hk : Keeps w w') => prices_spec B a cap L w' (hm.kept hk) hl (hp.kept hk) hlp)
  have HAT := hide (fun x w' (hk : Keeps w w') => at_spec B x w' (hm.kept hk) hl.1)
  have HPP := hide (fun w' (hk : Keeps w w') => hp.kept hk)
  have HCC := hide (fun w' (hk : Keeps w w') => Bo.memC (hm.kept hk))
  obtain ⟨tk, nx, wa, ca, cc, C, ha, hc, Hs, ra, rc, R⟩ := B
  have HBA := hide (book_box ⟨tk, nx, wa, ca, cc, C, ha, hc, Hs, ra, rc, R⟩ w 27)
  dsimp only [Bo.v] at *
  clear hm hl hp
  obtain ⟨bd, hbd⟩ : ∃ bd, bd = Bo.d ⟨tk, nx, wa, ca, cc, C, ha, hc, Hs, ra, rc, R⟩ := ⟨_, rfl⟩
  have HBD : Hid (bd.C = C) := by show _ = _; rw [hbd]; rfl
  rw [← hbd] at HPO ⊢
  clear hbd
  have s1 : (w.alloc (.cells #[.int .i64 tk, .int .i64 nx, .int .i64 wa, .slice ca C.length cc, .slice ha Hs.length hc, .slice ra R.length rc] 27)).heap.size = w.heap.size + 1 := by simp
  have HK1 := hide (Keeps.alloc (Keeps.refl w) (.cells #[.int .i64 tk, .int .i64 nx, .int .i64 wa, .slice ca C.length cc, .slice ha Hs.length hc, .slice ra R.length rc] 27))
  have HK2 := hide (Keeps.alloc (Keeps.refl (w.alloc (.cells #[.int .i64 tk, .int .i64 nx, .int .i64 wa, .slice ca C.length cc, .slice ha Hs.length hc, .slice ra R.length rc] 27))) (.cells #[.int .i64 0, .slice none 0 0] 36))
  have HR := hide (World.rowIs_alloc (w.alloc (.cells #[.int .i64 tk, .int .i64 nx, .int .i64 wa, .slice ca C.length cc, .slice ha Hs.length hc, .slice ra R.length rc] 27)) #[.int .i64 0, .slice none 0 0] 36 (row2 (.int .i64 0) (.slice none 0 0)) (row2_at _ _))
  rw [s1] at HR
  go_enter Tryz.func13, Tryz.ntmps13
  go_upto_region 1 with fail
  have HS00 := hide s1
  clear s1
  generalize w.alloc (.cells #[.int .i64 tk, .int .i64 nx, .int .i64 wa, .slice ca C.length cc, .slice ha Hs.length hc, .slice ra R.length rc] 27) = W00 at *
  generalize W00.alloc (.cells #[.int .i64 0, .slice none 0 0] 36) = W0 at *
  have HKA := hide (HK1.out.trans HK2.out)
  obtain ⟨q0, q1, q2, q3, q4, q5⟩ := HBA.out.kept HK2.out
  have HBW := hide (fun w' (hk : Keeps W00 w') => HBA.out.kept hk)
  have HKX := hide HK1.out
  have HKV := hide HK2.out
  dsimp only at q0 q1 q2 q3 q4 q5
  clear HK1 HK2 HBA
  cases h1 : pricesB bd L
  · have HPN := hide (plan_no (B := bd) (lo := lo) (hi := hi) (gain := gain) (L := L) (by simp [planB, h1]))
    go_wp2_with fail
    refine (unhide HPO _ HKA.out).mono ?_
    rintro e W1 ⟨rfl, hk⟩
    rw [h1]
    have HKW := hide (HKA.out.trans hk)
    have HRW := hide (hk.rowK HR.out)
    clear hk q0 q1 q2 q3 q4 q5
    have r0 := HRW.out.cell (i := 0) (by decide)
    have r1 := HRW.out.cell (i := 1) (by decide)
    have f0 := HRW.out.frozen 0
    have f1 := HRW.out.frozen 1
    have hlt := HRW.out.lt
    go_wp2_with fail
    have hr := (HRW.out.set 0 (.int .i64 0)).set 1 (.slice none 0 0)
    have p0 := hr.cell (i := 0) (by decide)
    have p1 := hr.cell (i := 1) (by decide)
    simp only [if_true, if_false, show ¬ (0 : Nat) = 1 by decide] at p0 p1
    have hkF : Keeps w ((W1.setCell ⟨w.heap.size + 1, 0, none⟩ (.int .i64 0)).setCell ⟨w.heap.size + 1, 1, none⟩ (.slice none 0 0)) := ((HKW.out).setCell (by dsimp only; omega) _).setCell (by dsimp only; omega) _
    have HFIN : Hid (∃ ea ec, Ending.returned (.tuple #[.agg #[.int .i64 0, .slice none 0 0], .bool false]) = .returned (.tuple #[.agg #[.int .i64 (planN bd lo hi gain L), .slice ea (planV bd lo hi gain L).length ec], .bool (planB bd lo hi gain L)]) ∧ (ea = none → ec = 0) ∧ Born w ((W1.setCell ⟨w.heap.size + 1, 0, none⟩ (.int .i64 0)).setCell ⟨w.heap.size + 1, 1, none⟩ (.slice none 0 0)) [(ea, egs (planV bd lo hi gain L))] ∧ Keeps w ((W1.setCell ⟨w.heap.size + 1, 0, none⟩ (.int .i64 0)).setCell ⟨w.heap.size + 1, 1, none⟩ (.slice none 0 0))) := by
      obtain ⟨e1, e2, e3⟩ := HPN.out
      refine ⟨none, 0, ?_, fun _ => rfl, ?_, hkF⟩
      · rw [e1, e2, e3]; rfl
      · rw [e2]
        exact ⟨⟨fun s hs => by rw [List.mem_singleton.1 hs]; exact Cells.nil _ _, by simp [fp, fpS, egs], fun b hb => absurd hb (by simp [fp, fpS, egs])⟩, fun b hb => absurd hb (by simp [fp, fpS, egs])⟩
    clear hr r0 r1 f0 f1 hlt
    refine bodyPost_ret (v := .tuple #[.agg #[.int .i64 0, .slice none 0 0], .bool false]) ?_ rfl HFIN.out
    clear hkF HFIN
    revert p0 p1
    generalize World.setCell (World.setCell _ _ _) _ _ = WW
    intro p0 p1
    simp [results, Tryz.results13, go_sem, p0, p1]
  go_wp2_with fail
  refine (unhide HPO _ HKA.out).mono ?_
  rintro e W1 ⟨rfl, hk⟩
  rw [h1]
  have HKW := hide (HKA.out.trans hk)
  have HRW := hide (hk.rowK HR.out)
  replace HKV := hide (HKV.out.trans hk)
  clear hk q0 q1 q2 q3 q4 q5 HR HKA HPO
  go_wp2_with fail
  refine (band_spec lo hi _).mono ?_
  rintro e W2 ⟨rfl, hk⟩
  replace HKW := hide (HKW.out.trans hk)
  replace HRW := hide (hk.rowK HRW.out)
  replace HKV := hide (HKV.out.trans hk)
  clear hk
  cases h2 : bandB lo hi
  · have HPN := hide (plan_no (B := bd) (lo := lo) (hi := hi) (gain := gain) (L := L) (by simp [planB, h2]))
    have r0 := HRW.out.cell (i := 0) (by decide)
    have r1 := HRW.out.cell (i := 1) (by decide)
    have f0 := HRW.out.frozen 0
    have f1 := HRW.out.frozen 1
    have hlt := HRW.out.lt
    go_wp2_with fail
    have hr := (HRW.out.set 0 (.int .i64 0)).set 1 (.slice none 0 0)
    have p0 := hr.cell (i := 0) (by decide)
    have p1 := hr.cell (i := 1) (by decide)
    simp only [if_true, if_false, show ¬ (0 : Nat) = 1 by decide] at p0 p1
    have hkF : Keeps w ((W2.setCell ⟨w.heap.size + 1, 0, none⟩ (.int .i64 0)).setCell ⟨w.heap.size + 1, 1, none⟩ (.slice none 0 0)) := ((HKW.out).setCell (by dsimp only; omega) _).setCell (by dsimp only; omega) _
    have HFIN : Hid (∃ ea ec, Ending.returned (.tuple #[.agg #[.int .i64 0, .slice none 0 0], .bool false]) = .returned (.tuple #[.agg #[.int .i64 (planN bd lo hi gain L), .slice ea (planV bd lo hi gain L).length ec], .bool (planB bd lo hi gain L)]) ∧ (ea = none → ec = 0) ∧ Born w ((W2.setCell ⟨w.heap.size + 1, 0, none⟩ (.int .i64 0)).setCell ⟨w.heap.size + 1, 1, none⟩ (.slice none 0 0)) [(ea, egs (planV bd lo hi gain L))] ∧ Keeps w ((W2.setCell ⟨w.heap.size + 1, 0, none⟩ (.int .i64 0)).setCell ⟨w.heap.size + 1, 1, none⟩ (.slice none 0 0))) := by
      obtain ⟨e1, e2, e3⟩ := HPN.out
      refine ⟨none, 0, ?_, fun _ => rfl, ?_, hkF⟩
      · rw [e1, e2, e3]; rfl
      · rw [e2]
        exact ⟨⟨fun s hs => by rw [List.mem_singleton.1 hs]; exact Cells.nil _ _, by simp [fp, fpS, egs], fun b hb => absurd hb (by simp [fp, fpS, egs])⟩, fun b hb => absurd hb (by simp [fp, fpS, egs])⟩
    clear hr r0 r1 f0 f1 hlt
    refine bodyPost_ret (v := .tuple #[.agg #[.int .i64 0, .slice none 0 0], .bool false]) ?_ rfl HFIN.out
    clear hkF HFIN
    revert p0 p1
    generalize World.setCell (World.setCell _ _ _) _ _ = WW
    intro p0 p1
    simp [results, Tryz.results13, go_sem, p0, p1]
  by_cases h3 : gain < 0
  · have HPN := hide (plan_no (B := bd) (lo := lo) (hi := hi) (gain := gain) (L := L) (by simp [planB, ppmB]; omega))
    have r0 := HRW.out.cell (i := 0) (by decide)
    have r1 := HRW.out.cell (i := 1) (by decide)
    have f0 := HRW.out.frozen 0
    have f1 := HRW.out.frozen 1
    have hlt := HRW.out.lt
    go_wp2_with fail
    have hr := (HRW.out.set 0 (.int .i64 0)).set 1 (.slice none 0 0)
    have p0 := hr.cell (i := 0) (by decide)
    have p1 := hr.cell (i := 1) (by decide)
    simp only [if_true, if_false, show ¬ (0 : Nat) = 1 by decide] at p0 p1
    have hkF : Keeps w ((W2.setCell ⟨w.heap.size + 1, 0, none⟩ (.int .i64 0)).setCell ⟨w.heap.size + 1, 1, none⟩ (.slice none 0 0)) := ((HKW.out).setCell (by dsimp only; omega) _).setCell (by dsimp only; omega) _
    have HFIN : Hid (∃ ea ec, Ending.returned (.tuple #[.agg #[.int .i64 0, .slice none 0 0], .bool false]) = .returned (.tuple #[.agg #[.int .i64 (planN bd lo hi gain L), .slice ea (planV bd lo hi gain L).length ec], .bool (planB bd lo hi gain L)]) ∧ (ea = none → ec = 0) ∧ Born w ((W2.setCell ⟨w.heap.size + 1, 0, none⟩ (.int .i64 0)).setCell ⟨w.heap.size + 1, 1, none⟩ (.slice none 0 0)) [(ea, egs (planV bd lo hi gain L))] ∧ Keeps w ((W2.setCell ⟨w.heap.size + 1, 0, none⟩ (.int .i64 0)).setCell ⟨w.heap.size + 1, 1, none⟩ (.slice none 0 0))) := by
      obtain ⟨e1, e2, e3⟩ := HPN.out
      refine ⟨none, 0, ?_, fun _ => rfl, ?_, hkF⟩
      · rw [e1, e2, e3]; rfl
      · rw [e2]
        exact ⟨⟨fun s hs => by rw [List.mem_singleton.1 hs]; exact Cells.nil _ _, by simp [fp, fpS, egs], fun b hb => absurd hb (by simp [fp, fpS, egs])⟩, fun b hb => absurd hb (by simp [fp, fpS, egs])⟩
    clear hr r0 r1 f0 f1 hlt
    refine bodyPost_ret (v := .tuple #[.agg #[.int .i64 0, .slice none 0 0], .bool false]) ?_ rfl HFIN.out
    clear hkF HFIN
    revert p0 p1
    generalize World.setCell (World.setCell _ _ _) _ _ = WW
    intro p0 p1
    simp [results, Tryz.results13, go_sem, p0, p1]
  by_cases h4 : 1000000 < gain
  · have HPN := hide (plan_no (B := bd) (lo := lo) (hi := hi) (gain := gain) (L := L) (by simp [planB, ppmB]; omega))
    have r0 := HRW.out.cell (i := 0) (by decide)
    have r1 := HRW.out.cell (i := 1) (by decide)
    have f0 := HRW.out.frozen 0
    have f1 := HRW.out.frozen 1
    have hlt := HRW.out.lt
    go_wp2_with fail
    have hr := (HRW.out.set 0 (.int .i64 0)).set 1 (.slice none 0 0)
    have p0 := hr.cell (i := 0) (by decide)
    have p1 := hr.cell (i := 1) (by decide)
    simp only [if_true, if_false, show ¬ (0 : Nat) = 1 by decide] at p0 p1
    have hkF : Keeps w ((W2.setCell ⟨w.heap.size + 1, 0, none⟩ (.int .i64 0)).setCell ⟨w.heap.size + 1, 1, none⟩ (.slice none 0 0)) := ((HKW.out).setCell (by dsimp only; omega) _).setCell (by dsimp only; omega) _
    have HFIN : Hid (∃ ea ec, Ending.returned (.tuple #[.agg #[.int .i64 0, .slice none 0 0], .bool false]) = .returned (.tuple #[.agg #[.int .i64 (planN bd lo hi gain L), .slice ea (planV bd lo hi gain L).length ec], .bool (planB bd lo hi gain L)]) ∧ (ea = none → ec = 0) ∧ Born w ((W2.setCell ⟨w.heap.size + 1, 0, none⟩ (.int .i64 0)).setCell ⟨w.heap.size + 1, 1, none⟩ (.slice none 0 0)) [(ea, egs (planV bd lo hi gain L))] ∧ Keeps w ((W2.setCell ⟨w.heap.size + 1, 0, none⟩ (.int .i64 0)).setCell ⟨w.heap.size + 1, 1, none⟩ (.slice none 0 0))) := by
      obtain ⟨e1, e2, e3⟩ := HPN.out
      refine ⟨none, 0, ?_, fun _ => rfl, ?_, hkF⟩
      · rw [e1, e2, e3]; rfl
      · rw [e2]
        exact ⟨⟨fun s hs => by rw [List.mem_singleton.1 hs]; exact Cells.nil _ _, by simp [fp, fpS, egs], fun b hb => absurd hb (by simp [fp, fpS, egs])⟩, fun b hb => absurd hb (by simp [fp, fpS, egs])⟩
    clear hr r0 r1 f0 f1 hlt
    refine bodyPost_ret (v := .tuple #[.agg #[.int .i64 0, .slice none 0 0], .bool false]) ?_ rfl HFIN.out
    clear hkF HFIN
    revert p0 p1
    generalize World.setCell (World.setCell _ _ _) _ _ = WW
    intro p0 p1
    simp [results, Tryz.results13, go_sem, p0, p1]
  have HPB : Hid (planB bd lo hi gain L = true) := by show _ = _; simp [planB, ppmB, h1, h2]; omega
  obtain ⟨q0, q1, q2, q3, q4, q5⟩ := unhide HBW _ HKV.out
  dsimp only at q0 q1 q2 q3 q4 q5
  have HBK := hide (prices_true (B := bd) (L := L) h1)
  have HGB0 : Hid (0 ≤ gain ∧ gain ≤ 1000000) := by constructor <;> omega
  have HL20 : Hid (L.length ≤ 20) := HBK.out.2.1
  have HLO : Hid (∀ k (hk : k < C.length), 0 ≤ C[k].lo ∧ C[k].lo ≤ 1125899906842624) := by
    have hb := book_lo HBK.out.1
    rw [HBD.out] at hb
    exact hb
  have hc20 : C.length ≤ 20 := by
    have hb := HBK.out.1
    simp only [bookB, headB, Bool.and_eq_true, decide_eq_true_eq] at hb
    have := HBD.out
    rw [← this]
    omega
  have HGA := hide (World.rowIs_alloc W2 #[.int .i64 ((C.length : Int) + 1), .slice none 0 0] 36 (row2 (.int .i64 ((C.length : Int) + 1)) (.slice none 0 0)) (row2_at _ _))
  have HGK := hide (Keeps.alloc (Keeps.refl W2) (.cells #[.int .i64 ((C.length : Int) + 1), .slice none 0 0] 36))
  have hwc : IntKind.i64.wrap ((C.length : Int) + 1) = (C.length : Int) + 1 := by rw [IntKind.wrap_i64]; omega
  have HRL := hide HRW.out.lt
  go_upto_region 4 with fail
  clear hwc q0 q1 q2 q3 q4 q5 h1 h2 h3 h4
  generalize hG : W2.heap.size = G at *
  have HP0 : Hid (PlS W00 (W2.alloc (.cells #[.int .i64 ((C.length : Int) + 1), .slice none 0 0] 36)) (w.heap.size + 1) G 36 (.int .i64 ((C.length : Int) + 1)) none 0 []) :=
    ⟨HKV.out.trans HGK.out, HGA.out, ⟨_, HGK.out.rowK HRW.out⟩, ⟨by simp [egs], .inl ⟨rfl, rfl⟩⟩, by have := HS00.out; omega, by have := HRL.out; omega⟩
  generalize W2.alloc (.cells #[.int .i64 ((C.length : Int) + 1), .slice none 0 0] 36) = W3 at *
  clear HGA HGK HRW HKW HRL hG HKV
  have HGB : Hid (0 ≤ gain ∧ gain ≤ 1000000) := HGB0.out
  obtain ⟨q0, q1, q2, q3, q4, q5⟩ := unhide HBW _ HP0.out.keep
  dsimp only at q0 q1 q2 q3 q4 q5
  go_wp2_with fail
  clear q0 q1 q2 q3 q4 q5
  go_loopw [50] (fun y wr => ∃ (k : Nat) (ea : Option Addr) (ec : Nat), k ≤ C.length ∧ y = .int .i64 (k : Int) ∧ Hid (ea = none → ec = 0) ∧ Hid (PlS W00 wr (w.heap.size + 1) G 36 (.int .i64 ((C.length : Int) + 1)) ea ec (overC (aboveE lo hi) C k))) (fun y _ => C.length - (intOf y).toNat)
  case atStart => exact ⟨0, none, 0, by omega, rfl, fun _ => rfl, HP0.out⟩
  case round =>
    clear HP0
    obtain ⟨k, ea, ec, hk, rfl, HEN, HP⟩ := hrel
    by_cases hlt : k < C.length
    · obtain ⟨b, off, ea0, c0, c1, c2, c3, c4, c5, c6⟩ := chs_at (unhide HCC _ (HKX.out.trans HP.out.keep)) k hlt
      subst ea0
      have HST : Hid (overC (aboveE lo hi) C (k + 1) = (overC (aboveE lo hi) C k) ++ aboveE lo hi k C[k]) := by show _ = _; rw [overC_step (aboveE lo hi) C hlt]
      have HEN2 : Hid ((overC (aboveE lo hi) C k).length ≤ k) := by
        show _ ≤ _
        have h1 := overC_len (aboveE_len lo hi) C k
        omega
      have HAM : Hid (0 ≤ C[k].lo ∧ C[k].lo ≤ 1125899906842624) := HLO.out k hlt
      have HEB := hide (endV_bound (sz := C[k].sz) (lo := lo) (hi := hi) (k := hi) (.inr rfl))
      have HED := hide (fun w1 => ends_spec C[k] lo hi w1)
      have HAE : Hid (aboveE lo hi k C[k] = if endV C[k].sz hi lo hi < C[k].lo then [⟨0, (k : Int) + 1, capV (C[k].lo - endV C[k].sz hi lo hi), 0⟩] else []) := rfl
      obtain ⟨E1, hE1⟩ : ∃ E1, E1 = overC (aboveE lo hi) C (k + 1) := ⟨_, rfl⟩
      have HE1 := hide hE1
      rw [← hE1] at HST
      clear hE1
      generalize overC (aboveE lo hi) C k = E at *
      generalize aboveE lo hi k C[k] = F at *
      generalize C[k] = x at *
      obtain ⟨xid, xsz, xlo, xre, xba, xpp, xsc⟩ := x
      dsimp only [Chn.v] at *
      generalize endV xsz lo lo hi = v1 at *
      generalize endV xsz hi lo hi = v2 at *
      have HA := hide (rowc7 wr (.int .i64 xid) (.int .i64 xsz) (.int .i64 xlo) (.int .i64 xre) (.int .i64 xba) (.int .i64 xpp) (.int .i64 xsc) 84)
      have HKA := hide (Keeps.alloc (Keeps.refl wr) (.cells #[.int .i64 xid, .int .i64 xsz, .int .i64 xlo, .int .i64 xre, .int .i64 xba, .int .i64 xpp, .int .i64 xsc] 84))
      go_upto_region 7 with fail
      generalize wr.heap.size = V at *
      generalize wr.alloc (.cells #[.int .i64 xid, .int .i64 xsz, .int .i64 xlo, .int .i64 xre, .int .i64 xba, .int .i64 xpp, .int .i64 xsc] 84) = W1 at *
      obtain ⟨d0, d1, d2, d3, d4, d5, d6⟩ := unhide HA W1 (Keeps.refl _)
      clear c0 c1 c2 c3 c4 c5 c6
      go_wp2_with fail
      refine (unhide HED W1).mono ?_
      rintro e W2 ⟨rfl, hk2⟩
      obtain ⟨d0, d1, d2, d3, d4, d5, d6⟩ := unhide HA W2 hk2
      have HP2 := hide ((HP.out.kept HKA.out).kept hk2)
      clear hk2 HP HKA HED HA
      by_cases hc : v2 < xlo
      · rw [if_pos hc] at HAE
        go_upto_region 9 with fail
        refine wp_region_app [.f, .f, .h, .h, .h, .h, .h, .h, .h, .h, .b, .t, .t, .t] (by kernel_rfl) (by kernel_rfl) rfl rfl rfl rfl rfl rfl rfl (fun _ _ d _ _ h => by cases d <;> exact h) ?_
        simp only [pkU, pkF, pkH, pkT, pkB]
        refine wpUni_nil ?_
        have G1 := gr_cell HP2.out.cell1
        have D2 := gr_cell d2
        refine wpFlo_step ?va67 (by rfl) ?fa67 ?_
        case fa67 =>
          rintro w9 ⟨t9, rfl⟩
          go_simp
          with_reducible rfl
        try simp only [Act.put, List.setIfInBounds_toArray, List.set_cons_zero, List.set_cons_succ]
        refine wpFlo_step ?vb67 (by rfl) ?fb67 ?_
        case fb67 =>
          rintro w9 ⟨t9, rfl⟩
          go_simp
          with_reducible rfl
        try simp only [Act.put, List.setIfInBounds_toArray, List.set_cons_zero, List.set_cons_succ]
        refine wpFlo_nil ?_
        have hw1 : IntKind.i64.wrap ((k : Int) + 1) = (k : Int) + 1 := by rw [IntKind.wrap_i64]; omega
        have hw2 : IntKind.i64.wrap (xlo - v2) = xlo - v2 := by rw [IntKind.wrap_i64]; have := HAM.out; have := HEB.out; omega
        have hw3 : IntKind.i64.wrap (-gain) = -gain := by rw [IntKind.wrap_i64]; have := HGB.out; omega
        have HQ := hide (fun t => cap_spec (xlo - v2) (gr W2 t) (by omega))
        repeat (go_big_quiet_step (fail))
        go_big_quiet_step (first | (go_at_call 42; exact gr_call (unhide HQ _)))
        repeat (go_big_quiet_step (fail))
        refine wpQuiet_nil ?_
        refine ⟨rfl, ?_⟩
        rintro w9 ⟨t9, rfl⟩ K9 hK9
        go_simp
        refine hK9.out _ _ (gr_gr (Keeps.alloc (Keeps.refl _) _)) ?_
        clear hK9 K9
        have HP9 := hide (HP2.out.kept (gr_keeps W2 t9))
        generalize gr W2 t9 = W9 at *
        have HK9 := hide (Keeps.alloc (Keeps.refl W9) (.cells #[.int .i64 0, .int .i64 ((k : Int) + 1), .int .i64 (capV (xlo - v2)), .int .i64 0] 40))
        have HM9 := hide (mem_one W9 ⟨0, (k : Int) + 1, capV (xlo - v2), 0⟩)
        have HO9 := hide ((HP9.out.kept HK9.out).ow)
        have HB9 : Hid (G + 1 ≤ (W9.alloc (.cells #[.int .i64 0, .int .i64 ((k : Int) + 1), .int .i64 (capV (xlo - v2)), .int .i64 0] 40)).heap.size) := by show _ ≤ _; have := HP9.out.gr.lt; simp; omega
        dsimp only at HM9
        clear G1 D2 d0 d1 d2 d3 d4 d5 d6 hw1 hw2 hw3 HQ
        go_wp2_with (at_builtin; refine app_Edge rfl (.tmp 67) (.tmp 76) rfl (G + 1) _ E [⟨0, (k : Int) + 1, capV (xlo - v2), 0⟩] rfl (some ⟨W9.heap.size, 0, none⟩) 1 rfl HM9.out (fun h => nomatch h) HO9.out (by have := HEN2.out; simp; omega) HB9.out ?_; intro v' w' ho hg hnn; obtain ⟨ea', ec', rfl, hen, hDG, q1, q2, q3⟩ := HP9.out.grow HK9.out ho hg; have HDG := hide hDG; have HENN := hide hen; clear hDG ho hg hnn hen)
        go_roundw
        case rel => exact ⟨k + 1, ea', ec', by omega, by go_num, HENN.out, by rw [← HE1.out, HST.out, HAE.out]; exact HDG.out⟩
        case measure => simp [intOf]; omega
      · rw [if_neg hc] at HAE
        have HE : Hid (E1 = E) := by show _ = _; rw [HST.out, HAE.out, List.append_nil]
        go_wp2_with fail
        go_roundw
        case rel => exact ⟨k + 1, ea, ec, by omega, by go_num, HEN.out, by rw [← HE1.out, HE.out]; exact HP2.out⟩
        case measure => simp [intOf]; omega
    · have e : k = C.length := by omega
      subst e
      have HE0 : Hid ((overC (aboveE lo hi) C C.length).length ≤ 20) := by show _ ≤ _; have := overC_len (aboveE_len lo hi) C C.length; omega
      obtain ⟨E0, hE0⟩ : ∃ E0, E0 = overC (aboveE lo hi) C C.length := ⟨_, rfl⟩
      rw [← hE0] at HP HE0
      have HV0 := hide hE0
      clear hE0
      obtain ⟨q0, q1, q2, q3, q4, q5⟩ := unhide HBW _ HP.out.keep
      dsimp only at q0 q1 q2 q3 q4 q5
      go_wp2_with fail
      clear q0 q1 q2 q3 q4 q5
      go_loopw [83] (fun y wr => ∃ (k : Nat) (ea : Option Addr) (ec : Nat), k ≤ C.length ∧ y = .int .i64 (k : Int) ∧ Hid (ea = none → ec = 0) ∧ Hid (PlS W00 wr (w.heap.size + 1) G 36 (.int .i64 ((C.length : Int) + 1)) ea ec (E0 ++ overC (lackE lo hi gain) C k))) (fun y _ => C.length - (intOf y).toNat)
      case atStart => exact ⟨0, ea, ec, by omega, rfl, HEN.out, (by show PlS _ _ _ _ _ _ _ _ _; simpa [overC] using HP.out)⟩
      case round =>
        clear HP HEN
        obtain ⟨k, ea, ec, hk, rfl, HEN, HP⟩ := hrel
        by_cases hlt : k < C.length
        · obtain ⟨b, off, ea0, c0, c1, c2, c3, c4, c5, c6⟩ := chs_at (unhide HCC _ (HKX.out.trans HP.out.keep)) k hlt
          subst ea0
          have HST : Hid (E0 ++ overC (lackE lo hi gain) C (k + 1) = (E0 ++ overC (lackE lo hi gain) C k) ++ lackE lo hi gain k C[k]) := by show _ = _; rw [overC_step (lackE lo hi gain) C hlt]; simp only [List.append_assoc]
          have HEN2 : Hid ((E0 ++ overC (lackE lo hi gain) C k).length ≤ 20 + k) := by
            show _ ≤ _
            have h1 := overC_len (lackE_len lo hi gain) C k
            have h0 := HE0.out; rw [List.length_append]; omega
          have HAM : Hid (0 ≤ C[k].lo ∧ C[k].lo ≤ 1125899906842624) := HLO.out k hlt
          have HEB := hide (endV_bound (sz := C[k].sz) (lo := lo) (hi := hi) (k := lo) (.inl rfl))
          have HED := hide (fun w1 => ends_spec C[k] lo hi w1)
          have HAE : Hid (lackE lo hi gain k C[k] = if C[k].lo < endV C[k].sz lo lo hi then [⟨(k : Int) + 1, 0, capV (endV C[k].sz lo lo hi - C[k].lo), -gain⟩] else []) := rfl
          obtain ⟨E1, hE1⟩ : ∃ E1, E1 = E0 ++ overC (lackE lo hi gain) C (k + 1) := ⟨_, rfl⟩
          have HE1 := hide hE1
          rw [← hE1] at HST
          clear hE1
          generalize E0 ++ overC (lackE lo hi gain) C k = E at *
          generalize lackE lo hi gain k C[k] = F at *
          generalize C[k] = x at *
          obtain ⟨xid, xsz, xlo, xre, xba, xpp, xsc⟩ := x
          dsimp only [Chn.v] at *
          generalize endV xsz lo lo hi = v1 at *
          generalize endV xsz hi lo hi = v2 at *
          have HA := hide (rowc7 wr (.int .i64 xid) (.int .i64 xsz) (.int .i64 xlo) (.int .i64 xre) (.int .i64 xba) (.int .i64 xpp) (.int .i64 xsc) 84)
          have HKA := hide (Keeps.alloc (Keeps.refl wr) (.cells #[.int .i64 xid, .int .i64 xsz, .int .i64 xlo, .int .i64 xre, .int .i64 xba, .int .i64 xpp, .int .i64 xsc] 84))
          go_upto_region 14 with fail
          generalize wr.heap.size = V at *
          generalize wr.alloc (.cells #[.int .i64 xid, .int .i64 xsz, .int .i64 xlo, .int .i64 xre, .int .i64 xba, .int .i64 xpp, .int .i64 xsc] 84) = W1 at *
          obtain ⟨d0, d1, d2, d3, d4, d5, d6⟩ := unhide HA W1 (Keeps.refl _)
          clear c0 c1 c2 c3 c4 c5 c6
          go_wp2_with fail
          refine (unhide HED W1).mono ?_
          rintro e W2 ⟨rfl, hk2⟩
          obtain ⟨d0, d1, d2, d3, d4, d5, d6⟩ := unhide HA W2 hk2
          have HP2 := hide ((HP.out.kept HKA.out).kept hk2)
          clear hk2 HP HKA HED HA
          by_cases hc : xlo < v1
          · rw [if_pos hc] at HAE
            go_upto_region 16 with fail
            refine wp_region_app [.f, .f, .h, .h, .h, .h, .h, .h, .h, .h, .h, .h, .b, .t, .t, .t] (by kernel_rfl) (by kernel_rfl) rfl rfl rfl rfl rfl rfl rfl (fun _ _ d _ _ h => by cases d <;> exact h) ?_
            simp only [pkU, pkF, pkH, pkT, pkB]
            refine wpUni_nil ?_
            have G1 := gr_cell HP2.out.cell1
            have D2 := gr_cell d2
            refine wpFlo_step ?va100 (by rfl) ?fa100 ?_
            case fa100 =>
              rintro w9 ⟨t9, rfl⟩
              go_simp
              with_reducible rfl
            try simp only [Act.put, List.setIfInBounds_toArray, List.set_cons_zero, List.set_cons_succ]
            refine wpFlo_step ?vb100 (by rfl) ?fb100 ?_
            case fb100 =>
              rintro w9 ⟨t9, rfl⟩
              go_simp
              with_reducible rfl
            try simp only [Act.put, List.setIfInBounds_toArray, List.set_cons_zero, List.set_cons_succ]
            refine wpFlo_nil ?_
            have hw1 : IntKind.i64.wrap ((k : Int) + 1) = (k : Int) + 1 := by rw [IntKind.wrap_i64]; omega
            have hw2 : IntKind.i64.wrap (v1 - xlo) = v1 - xlo := by rw [IntKind.wrap_i64]; have := HAM.out; have := HEB.out; omega
            have hw3 : IntKind.i64.wrap (-gain) = -gain := by rw [IntKind.wrap_i64]; have := HGB.out; omega
            have HQ := hide (fun t => cap_spec (v1 - xlo) (gr W2 t) (by omega))
            repeat (go_big_quiet_step (fail))
            go_big_quiet_step (first | (go_at_call 42; exact gr_call (unhide HQ _)))
            repeat (go_big_quiet_step (fail))
            refine wpQuiet_nil ?_
            refine ⟨rfl, ?_⟩
            rintro w9 ⟨t9, rfl⟩ K9 hK9
            go_simp
            refine hK9.out _ _ (gr_gr (Keeps.alloc (Keeps.refl _) _)) ?_
            clear hK9 K9
            have HP9 := hide (HP2.out.kept (gr_keeps W2 t9))
            generalize gr W2 t9 = W9 at *
            have HK9 := hide (Keeps.alloc (Keeps.refl W9) (.cells #[.int .i64 ((k : Int) + 1), .int .i64 0, .int .i64 (capV (v1 - xlo)), .int .i64 (-gain)] 40))
            have HM9 := hide (mem_one W9 ⟨(k : Int) + 1, 0, capV (v1 - xlo), -gain⟩)
            have HO9 := hide ((HP9.out.kept HK9.out).ow)
            have HB9 : Hid (G + 1 ≤ (W9.alloc (.cells #[.int .i64 ((k : Int) + 1), .int .i64 0, .int .i64 (capV (v1 - xlo)), .int .i64 (-gain)] 40)).heap.size) := by show _ ≤ _; have := HP9.out.gr.lt; simp; omega
            dsimp only at HM9
            clear G1 D2 d0 d1 d2 d3 d4 d5 d6 hw1 hw2 hw3 HQ
            go_wp2_with (at_builtin; refine app_Edge rfl (.tmp 100) (.tmp 111) rfl (G + 1) _ E [⟨(k : Int) + 1, 0, capV (v1 - xlo), -gain⟩] rfl (some ⟨W9.heap.size, 0, none⟩) 1 rfl HM9.out (fun h => nomatch h) HO9.out (by have := HEN2.out; simp; omega) HB9.out ?_; intro v' w' ho hg hnn; obtain ⟨ea', ec', rfl, hen, hDG, q1, q2, q3⟩ := HP9.out.grow HK9.out ho hg; have HDG := hide hDG; have HENN := hide hen; clear hDG ho hg hnn hen)
            go_roundw
            case rel => exact ⟨k + 1, ea', ec', by omega, by go_num, HENN.out, by rw [← HE1.out, HST.out, HAE.out]; exact HDG.out⟩
            case measure => simp [intOf]; omega
          · rw [if_neg hc] at HAE
            have HE : Hid (E1 = E) := by show _ = _; rw [HST.out, HAE.out, List.append_nil]
            go_wp2_with fail
            go_roundw
            case rel => exact ⟨k + 1, ea, ec, by omega, by go_num, HEN.out, by rw [← HE1.out, HE.out]; exact HP2.out⟩
            case measure => simp [intOf]; omega
        · have e : k = C.length := by omega
          subst e
          have HE00 : Hid ((E0 ++ overC (lackE lo hi gain) C C.length).length ≤ 40) := by show _ ≤ _; have := overC_len (lackE_len lo hi gain) C C.length; have := HE0.out; rw [List.length_append]; omega
          obtain ⟨E00, hE0⟩ : ∃ E00, E00 = E0 ++ overC (lackE lo hi gain) C C.length := ⟨_, rfl⟩
          rw [← hE0] at HP HE00
          have HV00 := hide hE0
          clear hE0
          go_wp2_with fail
          go_loopw [117] (fun y wr => ∃ (k : Nat) (ea : Option Addr) (ec : Nat), k ≤ L.length ∧ y = .int .i64 (k : Int) ∧ Hid (ea = none → ec = 0) ∧ Hid (PlS W00 wr (w.heap.size + 1) G 36 (.int .i64 ((C.length : Int) + 1)) ea ec (E00 ++ (L.take k).map (priceE C)))) (fun y _ => L.length - (intOf y).toNat)
          case atStart => exact ⟨0, ea, ec, by omega, rfl, HEN.out, (by show PlS _ _ _ _ _ _ _ _ _; simpa using HP.out)⟩
          case round =>
            clear HP HEN
            obtain ⟨k, ea, ec, hk, rfl, HEN, HP⟩ := hrel
            by_cases hlt : k < L.length
            · obtain ⟨b, off, ea0, c0, c1, c2⟩ := pcs_at (unhide HPP _ (HKX.out.trans HP.out.keep)) k hlt
              subst ea0
              have HST : Hid (E00 ++ (L.take (k + 1)).map (priceE C) = (E00 ++ (L.take k).map (priceE C)) ++ [priceE C L[k]]) := by show _ = _; rw [List.take_add_one, List.getElem?_eq_getElem hlt, Option.toList_some, List.map_append, List.map_singleton, List.append_assoc]
              have HEN2 : Hid ((E00 ++ (L.take k).map (priceE C)).length ≤ 40 + k) := by
                show _ ≤ _
                have := HE00.out
                rw [List.length_append, List.length_map, List.length_take]
                omega
              have HPE : Hid (priceE C L[k] = ⟨atI C L[k].fr + 1, atI C L[k].to + 1, 1000000000, L[k].pp⟩) := rfl
              have HI1 := hide (atI_bound C L[k].fr)
              have HI2 := hide (atI_bound C L[k].to)
              have HAT1 := hide (fun w' hk => HAT.out L[k].fr w' hk)
              have HAT2 := hide (fun w' hk => HAT.out L[k].to w' hk)
              obtain ⟨E1, hE1⟩ : ∃ E1, E1 = E00 ++ (L.take (k + 1)).map (priceE C) := ⟨_, rfl⟩
              have HE1 := hide hE1
              rw [← hE1, HPE.out] at HST
              clear hE1 HPE
              generalize E00 ++ (L.take k).map (priceE C) = E at *
              try dsimp only at HAT1 HAT2
              generalize L[k] = x at *
              obtain ⟨xfr, xto, xpp⟩ := x
              dsimp only [Prc.v] at *
              generalize atI C xfr = i1 at *
              generalize atI C xto = i2 at *
              have HA := hide (rowc3 wr (.int .i64 xfr) (.int .i64 xto) (.int .i64 xpp) 69)
              have HKA := hide (Keeps.alloc (Keeps.refl wr) (.cells #[.int .i64 xfr, .int .i64 xto, .int .i64 xpp] 69))
              go_upto_region 21 with fail
              generalize wr.heap.size = V at *
              generalize wr.alloc (.cells #[.int .i64 xfr, .int .i64 xto, .int .i64 xpp] 69) = W2 at *
              obtain ⟨d0, d1, d2⟩ := unhide HA W2 (Keeps.refl _)
              have HP2 := hide (HP.out.kept HKA.out)
              have hL20 : L.length ≤ 20 := HL20.out
              clear c0 c1 c2 HP HKA HA
              refine wp_region_app [.f, .f, .h, .h, .h, .h, .h, .h, .h, .h, .h, .h, .h, .h, .h, .b, .t, .t, .t] (by kernel_rfl) (by kernel_rfl) rfl rfl rfl rfl rfl rfl rfl (fun _ _ d _ _ h => by cases d <;> exact h) ?_
              simp only [pkU, pkF, pkH, pkT, pkB]
              refine wpUni_nil ?_
              have G1 := gr_cell HP2.out.cell1
              have D2 := gr_cell d2
              refine wpFlo_step ?va122 (by rfl) ?fa122 ?_
              case fa122 =>
                rintro w9 ⟨t9, rfl⟩
                go_simp
                with_reducible rfl
              try simp only [Act.put, List.setIfInBounds_toArray, List.set_cons_zero, List.set_cons_succ]
              refine wpFlo_step ?vb122 (by rfl) ?fb122 ?_
              case fb122 =>
                rintro w9 ⟨t9, rfl⟩
                go_simp
                with_reducible rfl
              try simp only [Act.put, List.setIfInBounds_toArray, List.set_cons_zero, List.set_cons_succ]
              refine wpFlo_nil ?_
              have hw1 : IntKind.i64.wrap (i1 + 1) = i1 + 1 := by rw [IntKind.wrap_i64]; have := HI1.out; omega
              have hw2 : IntKind.i64.wrap (i2 + 1) = i2 + 1 := by rw [IntKind.wrap_i64]; have := HI2.out; omega
              have D0 := gr_cell d0
              have D1 := gr_cell d1
              obtain ⟨q0, q1, q2, q3, q4, q5⟩ := unhide HBW W2 HP2.out.keep
              dsimp only at q0 q1 q2 q3 q4 q5
              have Q0 := gr_cell q0
              have Q1 := gr_cell q1
              have Q2 := gr_cell q2
              have Q3 := gr_cell q3
              have Q4 := gr_cell q4
              have Q5 := gr_cell q5
              clear q0 q1 q2 q3 q4 q5
              have HQ1 := hide (fun t => HAT1.out (gr W2 t) (HKX.out.trans (HP2.out.keep.trans (gr_keeps W2 t))))
              have HQ2 := hide (fun t => HAT2.out (gr W2 t) (HKX.out.trans (HP2.out.keep.trans (gr_keeps W2 t))))
              repeat (go_big_quiet_step (fail))
              go_big_quiet_step (first | (go_at_call 43; exact gr_call (unhide HQ1 _)))
              repeat (go_big_quiet_step (fail))
              go_big_quiet_step (first | (go_at_call 43; exact gr_call (unhide HQ2 _)))
              repeat (go_big_quiet_step (fail))
              refine wpQuiet_nil ?_
              refine ⟨rfl, ?_⟩
              rintro w9 ⟨t9, rfl⟩ K9 hK9
              go_simp
              refine hK9.out _ _ (gr_gr (Keeps.alloc (Keeps.refl _) _)) ?_
              clear hK9 K9
              have HP9 := hide (HP2.out.kept (gr_keeps W2 t9))
              generalize gr W2 t9 = W9 at *
              have HK9 := hide (Keeps.alloc (Keeps.refl W9) (.cells #[.int .i64 (i1 + 1), .int .i64 (i2 + 1), .int .i64 1000000000, .int .i64 xpp] 40))
              have HM9 := hide (mem_one W9 ⟨i1 + 1, i2 + 1, 1000000000, xpp⟩)
              have HO9 := hide ((HP9.out.kept HK9.out).ow)
              have HB9 : Hid (G + 1 ≤ (W9.alloc (.cells #[.int .i64 (i1 + 1), .int .i64 (i2 + 1), .int .i64 1000000000, .int .i64 xpp] 40)).heap.size) := by show _ ≤ _; have := HP9.out.gr.lt; simp; omega
              dsimp only at HM9
              clear G1 D2 d0 d1 d2 D0 D1 Q0 Q1 Q2 Q3 Q4 Q5 hw1 hw2 HQ1 HQ2
              go_wp2_with (at_builtin; refine app_Edge rfl (.tmp 122) (.tmp 136) rfl (G + 1) _ E [⟨i1 + 1, i2 + 1, 1000000000, xpp⟩] rfl (some ⟨W9.heap.size, 0, none⟩) 1 rfl HM9.out (fun h => nomatch h) HO9.out (by have := HEN2.out; simp; omega) HB9.out ?_; intro v' w' ho hg hnn; obtain ⟨ea', ec', rfl, hen, hDG, q1, q2, q3⟩ := HP9.out.grow HK9.out ho hg; have HDG := hide hDG; have HENN := hide hen; clear hDG ho hg hnn hen)
              go_roundw
              case rel => exact ⟨k + 1, ea', ec', by omega, by go_num, HENN.out, by rw [← HE1.out, HST.out]; exact HDG.out⟩
              case measure => simp [intOf]; omega
            · have e : k = L.length := by omega
              subst e
              have HFE : Hid (planV bd lo hi gain L = E00 ++ (L.take L.length).map (priceE C)) := by
                show _ = _
                rw [(plan_yes HPB.out).2, HBD.out]
                unfold planE
                rw [HV00.out, HV0.out, List.take_length]
              have HFN : Hid (planN bd lo hi gain L = (C.length : Int) + 1) := by
                show _ = _
                rw [(plan_yes HPB.out).1, HBD.out]
              generalize E00 ++ (L.take L.length).map (priceE C) = E at *
              obtain ⟨fr, hfr⟩ := HP.out.rs
              have HRW := hide hfr
              have HKW := hide (HKX.out.trans HP.out.keep)
              have g0 := HP.out.cell0
              have g1 := HP.out.cell1
              have hR := HP.out.lt
              clear hfr
              have r0 := HRW.out.cell (i := 0) (by decide)
              have r1 := HRW.out.cell (i := 1) (by decide)
              have f0 := HRW.out.frozen 0
              have f1 := HRW.out.frozen 1
              have hlt := HRW.out.lt
              go_wp2_with fail
              have hr := (HRW.out.set 0 (.int .i64 ((C.length : Int) + 1))).set 1 (.slice ea E.length ec)
              have p0 := hr.cell (i := 0) (by decide)
              have p1 := hr.cell (i := 1) (by decide)
              simp only [if_true, if_false, show ¬ (0 : Nat) = 1 by decide] at p0 p1
              have hkF : Keeps w ((wr.setCell ⟨w.heap.size + 1, 0, none⟩ (.int .i64 ((C.length : Int) + 1))).setCell ⟨w.heap.size + 1, 1, none⟩ (.slice ea E.length ec)) := ((HKW.out).setCell (by dsimp only; omega) _).setCell (by dsimp only; omega) _
              have ht : Turn [w.heap.size + 1] wr ((wr.setCell ⟨w.heap.size + 1, 0, none⟩ (.int .i64 ((C.length : Int) + 1))).setCell ⟨w.heap.size + 1, 1, none⟩ (.slice ea E.length ec)) := (Turn.set (by simp) _).trans' (Turn.set (by simp) _)
              have ho := ownsE_turn HP.out.ow (fun j hj => ht.block j (HP.out.ow.lt j hj).2 (by have h1 := (HP.out.ow.lt j hj).1; simp; omega))
              have HFIN : Hid (∃ ea' ec', Ending.returned (.tuple #[.agg #[.int .i64 ((C.length : Int) + 1), .slice ea E.length ec], .bool true]) = .returned (.tuple #[.agg #[.int .i64 (planN bd lo hi gain L), .slice ea' (planV bd lo hi gain L).length ec'], .bool (planB bd lo hi gain L)]) ∧ (ea' = none → ec' = 0) ∧ Born w ((wr.setCell ⟨w.heap.size + 1, 0, none⟩ (.int .i64 ((C.length : Int) + 1))).setCell ⟨w.heap.size + 1, 1, none⟩ (.slice ea E.length ec)) [(ea', egs (planV bd lo hi gain L))] ∧ Keeps w ((wr.setCell ⟨w.heap.size + 1, 0, none⟩ (.int .i64 ((C.length : Int) + 1))).setCell ⟨w.heap.size + 1, 1, none⟩ (.slice ea E.length ec))) := by
                refine ⟨ea, ec, ?_, HEN.out, ?_, hkF⟩
                · rw [HFN.out, HFE.out, HPB.out]
                · rw [HFE.out]
                  exact bornE ho (by omega)
              clear ht ho g0 g1
              clear hr r0 r1 f0 f1 hlt
              refine bodyPost_ret (v := .tuple #[.agg #[.int .i64 ((C.length : Int) + 1), .slice ea E.length ec], .bool true]) ?_ rfl HFIN.out
              clear hkF HFIN
              revert p0 p1
              generalize World.setCell (World.setCell _ _ _) _ _ = WW
              intro p0 p1
              simp [results, Tryz.results13, go_sem, p0, p1]

end Go.Proofs.YtjdbedlgkngdkaaGreatDoor
namespace Go.Proofs.YtjdbedlgkngdkaaGreatDoor
open Go.RowKit Go.Deep
set_option linter.unusedVariables false
set_option linter.unusedSimpArgs false
set_option maxRecDepth 10000

set_option maxHeartbeats 8000000 in
theorem cheap_spec (G : Gf) (w : World) (hm : Mem w G.segs) (hl : G.len) :
    Calls Tryz.prog 29 #[G.v] w fun e w' => ∃ a c, e = .returned (.tuple #[.slice a (chV G.nn G.E).length c, .bool (chOk G.nn G.E)]) ∧ Born w w' [(a, its (chV G.nn G.E))] ∧ (a = none → c = 0) ∧ Keeps w w' := by
  have HQ := hide (fun w' (hk : Keeps w w') => graph_spec G w' (hm.kept hk) hl)
  have HRI := hide (fun a c (f : List Int) w' (hk : Keeps w w') (hf : Cells w' a (its f)) (hlf : f.length ≤ 1048576) => ring_spec G a c f w' (hm.kept hk) hf hl hlf)
  have HPI := hide (fun a c (f : List Int) ra rc (Q : List Int) w' (hk : Keeps w w') (hf : Cells w' a (its f)) (hq : Cells w' ra (its Q)) (hlf : f.length ≤ 1048576) (hlq : Q.length ≤ 1048576) => push_spec G a c f ra rc Q w' (hm.kept hk) hf hq hl hlf hlq)
  obtain ⟨nn, ea, ec, E⟩ := G
  have HB := hide (gr_box ⟨nn, ea, ec, E⟩ w 36)
  have HK := hide (Keeps.alloc (Keeps.refl w) (.cells #[.int .i64 nn, .slice ea E.length ec] 36))
  dsimp only [Gf.v, Gf.len, Gf.segs] at *
  clear hm
  cases hb : graphB nn E
  · obtain ⟨h1, h2⟩ := ch_no (show chRes nn E = none by simp [chRes, hb])
    rw [h1, h2]
    clear h1 h2 HRI HPI
    go_enter Tryz.func29, Tryz.ntmps29
    go_wp2_with fail
    refine (unhide HQ _ HK.out).mono ?_
    rintro e w1 ⟨rfl, hk⟩
    rw [hb]
    go_wp2_with fail
    go_ret2
    exact ⟨none, 0, rfl, born_none _ _, fun _ => rfl, HK.out.trans hk⟩
  have HR0 : Hid (chGo nn E 400 (List.replicate E.length 0) = chRes nn E) := by show _ = _; simp [chRes, hb]
  obtain ⟨g1, g2, g3, -⟩ := graphB_true hb
  have hmk := make_ints E.length (by omega)
  go_enter Tryz.func29, Tryz.ntmps29
  go_wp2_with fail
  refine (unhide HQ _ HK.out).mono ?_
  rintro e w1 ⟨rfl, hk⟩
  rw [hb]
  clear hb
  generalize w.alloc (.cells #[.int .i64 nn, .slice ea E.length ec] 36) = W0 at *
  replace HB := hide (HB.out.kept hk)
  replace HK := hide (HK.out.trans hk)
  clear hk HQ
  obtain ⟨q0, q1⟩ := HB.out
  dsimp only at q0 q1
  have HBM := hide ((born_made w1 E.length).old HK.out)
  have HKM := hide (Keeps.alloc (Keeps.refl w1) (.cells (madeCells #[.int .i64 0] E.length) 3))
  have lb := lt_of_cell q0
  go_wp2_with fail
  clear hmk q0 q1 lb
  generalize w1.alloc (.cells (madeCells #[.int .i64 0] E.length) 3) = W2 at *
  replace HB := hide (HB.out.kept HKM.out)
  replace HK := hide (HK.out.trans HKM.out)
  clear HKM
  have HL0 : Hid ((List.replicate E.length (0 : Int)).length = E.length) := by show _ = _; simp
  go_loopw [4, 5] (fun v y wr => ∃ (k : Nat) (a : Option Addr) (c : Nat) (f : List Int), k ≤ 400 ∧ f.length ≤ 60 ∧ v = .slice a f.length c ∧ y = .int .i64 (k : Int) ∧ Hid (Born w wr [(a, its f)]) ∧ Hid (a = none → c = 0) ∧ Hid (chGo nn E (400 - k) f = chRes nn E) ∧ Hid (GrAt wr w.heap.size ⟨nn, ea, ec, E⟩) ∧ Hid (Keeps w wr)) (fun _ y _ => 400 - (intOf y).toNat)
  case atStart => exact ⟨0, _, _, List.replicate E.length 0, by omega, by rw [HL0.out]; exact g3, by rw [HL0.out], rfl, HBM.out, fun h => (nomatch h), HR0.out, HB.out, HK.out⟩
  case round =>
    obtain ⟨k, a, c, f, hk, hf60, rfl, rfl, HBF, HAN, HRS, HBr, HKr⟩ := hrel
    clear HBM HB HK HR0 HL0
    obtain ⟨q0, q1⟩ := HBr.out
    dsimp only at q0 q1
    have HRC := hide (HRI.out a c f wr HKr.out (HBF.out.toOwn.mem (a, its f) (by simp)) (by omega))
    by_cases hk4 : k < 400
    · go_wp2_with fail
      refine (unhide HRC).mono ?_
      rintro e w3 ⟨ra, rc, rfl, hb3, hrn, hk3⟩
      have HBR := hide hb3
      replace HBF : Hid (Born w w3 [(a, its f)]) := ⟨HBF.out.toOwn.kept hk3, HBF.out.new⟩
      replace HBr := hide (HBr.out.kept hk3)
      replace HKr := hide (HKr.out.trans hk3)
      have HRL := hide (ringV_24 nn E f)
      clear hb3 hrn hk3 q0 q1 HRC
      obtain ⟨q0, q1⟩ := HBr.out
      dsimp only at q0 q1
      cases hro : ringOk nn E f
      · skip
        obtain ⟨h1, h2⟩ := ch_yes (show chRes nn E = some f by rw [← HRS.out]; exact chGo_no hro _)
        have HO1 := hide h1
        have HO2 := hide h2
        clear h1 h2
        go_wp2_with fail
        go_ret2
        exact ⟨a, c, by rw [HO1.out, HO2.out]; rfl, by rw [HO2.out]; exact HBF.out, HAN.out, HKr.out⟩
      · skip
        have HRN : Hid (chGo nn E (400 - (k + 1)) (pushV nn E f (ringV nn E f)) = chRes nn E) := by
          show _ = _
          rw [← HRS.out, show 400 - k = 400 - (k + 1) + 1 by omega, chGo_on hro]
        have HPC := hide (HPI.out a c f ra rc (ringV nn E f) w3 HKr.out (HBF.out.toOwn.mem (a, its f) (by simp)) (HBR.out.toOwn.mem (ra, its (ringV nn E f)) (by simp)) (by omega) (by have := HRL.out; omega))
        have hrl := HRL.out
        generalize ringV nn E f = RV at *
        go_wp2_with fail
        refine (unhide HPC).mono ?_
        rintro e w4 ⟨pa, pc, rfl, hb4, hpn, hk4⟩
        have HPN := hide hpn
        have HBP := hide (hb4.old HKr.out)
        have HB4 := hide (HBr.out.kept hk4)
        have HK4 := hide (HKr.out.trans hk4)
        have HP60 := hide (pushV_60 nn E f RV)
        clear hb4 hpn hk4 q0 q1
        go_wp2_with fail
        go_roundw
        case rel => exact ⟨k + 1, pa, pc, pushV nn E f RV, by omega, HP60.out, rfl, by go_num, HBP.out, HPN.out, HRN.out, HB4.out, HK4.out⟩
        case measure => simp [intOf]; omega
    · have e : k = 400 := by omega
      subst e
      go_wp2_with fail
      refine (unhide HRC).mono ?_
      rintro e w3 ⟨ra, rc, rfl, hb3, hrn, hk3⟩
      have HBR := hide hb3
      replace HBF : Hid (Born w w3 [(a, its f)]) := ⟨HBF.out.toOwn.kept hk3, HBF.out.new⟩
      replace HBr := hide (HBr.out.kept hk3)
      replace HKr := hide (HKr.out.trans hk3)
      have HRL := hide (ringV_24 nn E f)
      clear hb3 hrn hk3 q0 q1 HRC
      obtain ⟨q0, q1⟩ := HBr.out
      dsimp only at q0 q1
      cases hro : ringOk nn E f
      · skip
        obtain ⟨h1, h2⟩ := ch_yes (show chRes nn E = some f by rw [← HRS.out]; exact chGo_no hro _)
        have HO1 := hide h1
        have HO2 := hide h2
        clear h1 h2
        go_wp2_with fail
        go_ret2
        exact ⟨a, c, by rw [HO1.out, HO2.out]; rfl, by rw [HO2.out]; exact HBF.out, HAN.out, HKr.out⟩
      · skip
        obtain ⟨h1, h2⟩ := ch_no (show chRes nn E = none by rw [← HRS.out];  exact chGo_end hro)
        have HO1 := hide h1
        have HO2 := hide h2
        clear h1 h2
        go_wp2_with fail
        go_ret2
        exact ⟨none, 0, by rw [HO1.out, HO2.out]; rfl, by rw [HO2.out]; exact born_none _ _, fun _ => rfl, HKr.out⟩
end Go.Proofs.YtjdbedlgkngdkaaGreatDoor
namespace Go.Proofs.YtjdbedlgkngdkaaGreatDoor
open Go.RowKit Go.Deep
set_option linter.unusedVariables false
set_option linter.unusedSimpArgs false
set_option maxRecDepth 10000

set_option maxHeartbeats 8000000 in
theorem moves_spec (B : Bo) (lo hi gain : Int) (a : Option Addr) (cap : Nat) (L : List Prc) (w : World) (hm : Mem w B.segs) (hl : B.len) (hp : Cells w a (pcs L)) (hlp : L.length ≤ 1048576) :
    Calls Tryz.prog 8 #[B.v, .int .i64 lo, .int .i64 hi, .int .i64 gain, .slice a L.length cap] w fun e w' => ∃ va vc, e = .returned (.tuple #[.slice va (movV B.d lo hi gain L).length vc, .bool (movOk B.d lo hi gain L)]) ∧ (va = none → vc = 0) ∧ Born w w' [(va, mvs (movV B.d lo hi gain L))] ∧ Keeps w w' := by
  have HPO := hide (fun w' (hk : Keeps w w') => plan_spec B lo hi gain a cap L w' (hm.kept hk) hl (hp.kept hk) hlp)
  have HPP := hide (fun w' (hk : Keeps w w') => hp.kept hk)
  have HMO : Hid (movOk B.d lo hi gain L = (planB B.d lo hi gain L && chOk (planN B.d lo hi gain L) (planV B.d lo hi gain L))) := rfl
  have HNV := hide (fun h => mov_no (B := B.d) (lo := lo) (hi := hi) (gain := gain) (L := L) h)
  have HYV := hide (fun h => mov_yes (B := B.d) (lo := lo) (hi := hi) (gain := gain) (L := L) h)
  have HML := hide (fun h1 h2 => mov_len (B := B.d) (lo := lo) (hi := hi) (gain := gain) (L := L) h1 h2)
  have HFV : Hid (movF B.d lo hi gain L = chV (planN B.d lo hi gain L) (planV B.d lo hi gain L)) := rfl
  have HEL := hide (planV_len B.d lo hi gain L)
  generalize movV B.d lo hi gain L = MV at *
  generalize movOk B.d lo hi gain L = ok at *
  generalize movF B.d lo hi gain L = F at *
  generalize planV B.d lo hi gain L = E at *
  generalize planN B.d lo hi gain L = nn at *
  generalize planB B.d lo hi gain L = r1 at *
  obtain ⟨tk, nx, wa, ca, cc, C, ha, hc, Hs, ra, rc, R⟩ := B
  dsimp only [Bo.v] at *
  have HK1 := hide (Keeps.alloc (Keeps.refl w) (.cells #[.int .i64 tk, .int .i64 nx, .int .i64 wa, .slice ca C.length cc, .slice ha Hs.length hc, .slice ra R.length rc] 27))
  clear hm hl hp
  go_enter Tryz.func8, Tryz.ntmps8
  go_wp2_with fail
  refine (unhide HPO _ HK1.out).mono ?_
  rintro e W1 ⟨ea, ec, rfl, hen, hb, hk⟩
  have HKW := hide (HK1.out.trans hk)
  have HB1 := hide (hb.old HK1.out)
  clear hb hk HPO HK1
  have HGB := hide (gr_box ⟨nn, ea, ec, E⟩ W1 36)
  have HGK := hide (Keeps.alloc (Keeps.refl W1) (.cells #[.int .i64 nn, .slice ea E.length ec] 36))
  go_upto_region 2 with fail
  generalize W1.heap.size = G at *
  generalize W1.alloc (.cells #[.int .i64 nn, .slice ea E.length ec] 36) = W2 at *
  replace HKW := hide (HKW.out.trans HGK.out)
  replace HB1 := hide (HB1.out.kept HGK.out)
  clear HGK
  cases r1
  · have HNO : Hid (ok = false) := by show _ = _; rw [HMO.out]; rfl
    replace HNV := hide (HNV.out HNO.out)
    go_wp2_with fail
    go_ret2
    exact ⟨none, 0, by rw [HNV.out, HNO.out]; rfl, fun _ => rfl, by rw [HNV.out]; exact ⟨⟨fun s hs => by rw [List.mem_singleton.1 hs]; exact Cells.nil _ _, by simp [fp, fpS, mvs], fun b hb => absurd hb (by simp [fp, fpS, mvs])⟩, fun b hb => absurd hb (by simp [fp, fpS, mvs])⟩, HKW.out⟩
  obtain ⟨g0, g1⟩ := HGB.out
  dsimp only at g0 g1
  go_wp2_with fail
  refine (cheap_spec ⟨nn, ea, ec, E⟩ W2 HB1.out.mem (Nat.le_trans HEL.out (by decide))).mono ?_
  rintro e W3 ⟨fa, fc, rfl, hb, hfn, hk⟩
  dsimp only at hb
  rw [← HFV.out] at hb ⊢
  have HKX := hide hk
  replace HKW := hide (HKW.out.trans hk)
  have HFC := hide (hb.mem (fa, its F) (by simp))
  have HFN := hide hfn
  clear hb hk hfn g0 g1 HB1
  replace HGB := hide (HGB.out.kept HKX.out)
  clear HKX
  cases r2 : chOk nn E
  · have HNO : Hid (ok = false) := by show _ = _; rw [HMO.out, r2]; rfl
    replace HNV := hide (HNV.out HNO.out)
    go_wp2_with fail
    go_ret2
    exact ⟨none, 0, by rw [HNV.out, HNO.out]; rfl, fun _ => rfl, by rw [HNV.out]; exact ⟨⟨fun s hs => by rw [List.mem_singleton.1 hs]; exact Cells.nil _ _, by simp [fp, fpS, mvs], fun b hb => absurd hb (by simp [fp, fpS, mvs])⟩, fun b hb => absurd hb (by simp [fp, fpS, mvs])⟩, HKW.out⟩
  have HOK : Hid (ok = true) := by show _ = _; rw [HMO.out, r2]; rfl
  replace HYV := hide (HYV.out HOK.out)
  replace HML := hide (HML.out (by first | trivial | rfl) r2)
  clear r2 HMO HNV HFV
  have HOE : Hid (OwnsMove (W3.alloc (.cells #[] 71)) W3.heap.size (.slice (some ⟨W3.heap.size, 0, none⟩) 0 0) []) := ⟨by simp [mvs], .inr ⟨W3.heap.size, 0, #[], rfl, Nat.le_refl _, blk_alloc_new W3 _, by simp, by simp [maxLen], by simp, by simp [mvs]⟩⟩
  have HKE := hide (Keeps.alloc (Keeps.refl W3) (.cells #[] 71))
  go_wp2_with fail
  generalize W3.alloc (.cells #[] 71) = W4 at *
  go_loopw [16, 41] (fun v y wr => ∃ k : Nat, k ≤ L.length ∧ y = .int .i64 (k : Int) ∧ Hid (OwnsMove wr W3.heap.size v (movesTo L F (E.length - L.length) k)) ∧ Hid (Keeps W3 wr)) (fun _ y _ => L.length - (intOf y).toNat)
  case atStart => exact ⟨0, by omega, rfl, HOE.out, HKE.out⟩
  case round =>
    obtain ⟨k, hk, rfl, HO, HKr⟩ := hrel
    by_cases hlt : k < L.length
    · obtain ⟨b, off, ea0, c0, c1, c2⟩ := pcs_at (unhide HPP _ (HKW.out.trans HKr.out)) k hlt
      have HX := hide ea0
      clear ea0
      have hfl : E.length - L.length + k < F.length := by have := HML.out; omega
      obtain ⟨fb, foff, ea1, z0⟩ := its_at (HFC.out.kept HKr.out) (E.length - L.length + k) hfl
      have HX1 := hide ea1
      clear ea1
      have HST := hide (movesTo_step hlt hfl)
      have HLN := hide (movesTo_len L F (E.length - L.length) k)
      have HL20 : Hid (L.length ≤ 20) := HML.out.2.2
      have HMP : Hid (moveP L[k] F[E.length - L.length + k] = if 0 < F[E.length - L.length + k] then [⟨L[k].fr, L[k].to, F[E.length - L.length + k], L[k].pp⟩] else []) := rfl
      obtain ⟨M1, hM1⟩ : ∃ M1, M1 = movesTo L F (E.length - L.length) (k + 1) := ⟨_, rfl⟩
      have HM1 := hide hM1
      rw [← hM1] at HST
      clear hM1
      generalize movesTo L F (E.length - L.length) k = M at *
      generalize F[E.length - L.length + k] = n at *
      generalize L[k] = x at *
      obtain ⟨xfr, xto, xpp⟩ := x
      dsimp only at c0 c1 c2 HMP HST
      have HA := hide (rowc3 wr (.int .i64 xfr) (.int .i64 xto) (.int .i64 xpp) 69)
      have HKA := hide (Keeps.alloc (Keeps.refl wr) (.cells #[.int .i64 xfr, .int .i64 xto, .int .i64 xpp] 69))
      obtain rfl := HX.out
      go_upto_region 11 with fail
      generalize wr.heap.size = V at *
      generalize hW1 : wr.alloc (.cells #[.int .i64 xfr, .int .i64 xto, .int .i64 xpp] 69) = Wp at *
      have HW1 := hide hW1
      clear hW1
      obtain ⟨d0, d1, d2⟩ := unhide HA Wp (Keeps.refl _)
      clear c0 c1 c2 HX
      replace HO := hide (OwnsMove.kept' HO.out HKA.out)
      replace HKr := hide (HKr.out.trans HKA.out)
      replace z0 := HKA.out.cell z0
      clear HA HKA HW1
      obtain ⟨g0, g1⟩ := HGB.out.kept HKr.out
      dsimp only at g0 g1
      have hE60 : E.length ≤ 60 := HEL.out
      have hle : L.length ≤ E.length := HML.out.2.1
      have hs1 : IntKind.i64.wrap ((E.length : Int) - (L.length : Int)) = (E.length : Int) - (L.length : Int) := by rw [IntKind.wrap_i64]; omega
      have hs2 : IntKind.i64.wrap ((E.length : Int) - (L.length : Int) + (k : Int)) = ((E.length - L.length + k : Nat) : Int) := by rw [IntKind.wrap_i64]; omega
      obtain rfl := HX1.out
      by_cases hn : 0 < n
      · rw [if_pos hn] at HMP
        have HM2 := hide (one_Move Wp ⟨xfr, xto, n, xpp⟩)
        have HK2 := hide (Keeps.alloc (Keeps.refl Wp) (.cells #[.int .i64 xfr, .int .i64 xto, .int .i64 n, .int .i64 xpp] 71))
        have HO2 := hide (OwnsMove.kept' HO.out HK2.out)
        have HB2 : Hid (W3.heap.size ≤ (Wp.alloc (.cells #[.int .i64 xfr, .int .i64 xto, .int .i64 n, .int .i64 xpp] 71)).heap.size) := Nat.le_trans HKr.out.size HK2.out.size
        dsimp only at HM2
        go_wp2_with (at_builtin; refine app_Move rfl (.tmp 59) (.tmp 68) rfl W3.heap.size _ M [⟨xfr, xto, n, xpp⟩] rfl (some ⟨Wp.heap.size, 0, none⟩) 1 rfl HM2.out (fun h => nomatch h) HO2.out (by have := HLN.out; have := HL20.out; simp; omega) HB2.out ?_; intro v' w' ho hg hnn)
        go_roundw
        case rel =>
          refine ⟨k + 1, by omega, by go_num, ?_, Keeps.grown (HKr.out.trans HK2.out) hg (fun j hj => (HO2.out.lt j hj).1)⟩
          show OwnsMove _ _ _ _
          rw [← HM1.out, HST.out, HMP.out]
          exact ho
        case measure => simp [intOf]; omega
      · rw [if_neg hn] at HMP
        rw [HMP.out, List.append_nil] at HST
        go_wp2_with fail
        go_roundw
        case rel => exact ⟨k + 1, by omega, by go_num, by rw [← HM1.out, HST.out]; exact HO.out, HKr.out⟩
        case measure => simp [intOf]; omega
    · have e : k = L.length := by omega
      subst e
      rw [← HYV.out] at HO
      obtain ⟨va, vc, rfl, hvn, hvb⟩ := bornM HO.out HKW.out.size
      have HVB := hide hvb
      have HVN := hide hvn
      clear hvb hvn
      go_wp2_with fail
      go_ret2
      exact ⟨va, vc, ret_mv rfl HOK.out.symm, HVN.out, HVB.out, HKW.out.trans HKr.out⟩
end Go.Proofs.YtjdbedlgkngdkaaGreatDoor
namespace Go.Proofs.YtjdbedlgkngdkaaGreatDoor
open Go.RowKit Go.Deep
set_option linter.unusedVariables false
set_option linter.unusedSimpArgs false
set_option maxRecDepth 10000

theorem is_impl (c : Chn) (ch : Int) (p : Nat) (w : World) (h : w.cell? ⟨p, 0, none⟩ = some (.int .i64 ch)) : Calls Tryz.prog 132 #[c.v, .pointer (some ⟨p, 0, none⟩)] w fun e w' => e = .returned (.bool (decide (c.id = ch))) ∧ Keeps w w' := by
  obtain ⟨xid, xsz, xlo, xre, xba, xpp, xsc⟩ := c
  dsimp only [Chn.v]
  have HK := hide (Keeps.alloc (Keeps.refl w) (.cells #[.int .i64 xid, .int .i64 xsz, .int .i64 xlo, .int .i64 xre, .int .i64 xba, .int .i64 xpp, .int .i64 xsc] 84))
  have h1 := HK.out.cell h
  have hp := lt_of_cell h
  by_cases e : xid = ch
  · subst e
    go_enter Tryz.func132, Tryz.ntmps132
    go_wp2_with fail
    go_ret
    exact ⟨ret_b (by simp), HK.out⟩
  · have e' : (xid == ch) = false := by simpa using e
    go_enter Tryz.func132, Tryz.ntmps132
    go_wp2_with fail
    go_ret
    exact ⟨ret_b (by simp [e]), HK.out⟩
set_option maxHeartbeats 2000000 in
theorem index_chan (ch : Int) (p : Nat) (a : Option Addr) (cap : Nat) (C : List Chn) (w : World) (h : w.cell? ⟨p, 0, none⟩ = some (.int .i64 ch)) (hc : Cells w a (chs C)) (hl : C.length ≤ 1048576) :
    Calls Tryz.prog 131 #[.slice a C.length cap, .func (Fn.func 132) #[] #[.pointer (some ⟨p, 0, none⟩)]] w fun e w' => e = .returned (.int .i64 (atI C ch)) ∧ Keeps w w' := by
  have HC := hide (fun w' (hk : Keeps w w') => hc.kept hk)
  have HB := hide (fun w' (hk : Keeps w w') => hk.cell h)
  clear hc h
  go_enter Tryz.func131, Tryz.ntmps131
  go_wp2_with fail
  go_loopw [8] (fun y wr => ∃ k : Nat, k ≤ C.length ∧ y = .int .i64 (k : Int) ∧ Hid (∀ j (hj : j < C.length), j < k → C[j].id ≠ ch) ∧ Hid (Keeps w wr)) (fun y _ => C.length - (intOf y).toNat)
  case atStart => exact ⟨0, by omega, rfl, fun j hj h => absurd h (by omega), Keeps.refl _⟩
  case round =>
    obtain ⟨k, hk, rfl, HG, HKr⟩ := hrel
    by_cases hlt : k < C.length
    · obtain ⟨b, off, ea, c0, c1, c2, c3, c4, c5, c6⟩ := chs_at (unhide HC _ HKr.out) k hlt
      subst ea
      have HQ := hide (fun w1 hb => is_impl C[k] ch p w1 hb)
      have HF : Hid (C[k].id = ch → atI C ch = (k : Int)) := fun h => atI_some (atC_some hlt h (fun j hj hjk => HG.out j hj hjk))
      have HG2 : Hid (C[k].id ≠ ch → ∀ j (hj : j < C.length), j < k + 1 → C[j].id ≠ ch) := fun h j hj h' => by
        by_cases e : j = k
        · subst e; exact h
        · exact HG.out j hj (by omega)
      have hb := unhide HB _ HKr.out
      generalize C[k] = x at *
      obtain ⟨xid, xsz, xlo, xre, xba, xpp, xsc⟩ := x
      dsimp only [Chn.v] at *
      go_wp2_with fail
      refine (unhide HQ _ hb).mono ?_
      rintro e w2 ⟨rfl, hk2⟩
      have HK2 := hide (HKr.out.trans hk2)
      clear hk2 c0 c1 c2 c3 c4 c5 c6 hb
      by_cases hs : xid = ch
      · have HF2 := hide (HF.out hs)
        have hs' : decide (xid = ch) = true := decide_eq_true hs
        rw [hs']
        clear hs hs'
        go_wp2_with fail
        go_ret
        exact ⟨ret_i HF2.out.symm, HK2.out⟩
      · have HG3 := hide (HG2.out hs)
        have hs' : decide (xid = ch) = false := decide_eq_false hs
        rw [hs']
        clear hs hs'
        go_wp2_with fail
        go_roundw
        case rel => exact ⟨k + 1, by omega, by go_num, HG3.out, HK2.out⟩
        case measure => simp [intOf]; omega
    · have HN : Hid (atI C ch = -1) := atI_none (atC_none (fun j hj => HG.out j hj (by omega)))
      go_wp2_with fail
      go_ret
      exact ⟨ret_i HN.out.symm, HKr.out⟩
theorem node_impl (G : Nat) (ca : Option Addr) (cc : Nat) (C : List Chn) (ch : Int) (w : World) (h : w.cell? ⟨G, 0, none⟩ = some (.slice ca C.length cc)) (hc : Cells w ca (chs C)) (hl : C.length ≤ 1048576) :
    Calls Tryz.prog 111 #[.pointer (some ⟨G, 0, none⟩), .int .i64 ch] w fun e w' => e = .returned (.int .i64 (atI C ch + 1)) ∧ Keeps w w' := by
  have HK := hide (Keeps.alloc (Keeps.refl w) (.cells #[.int .i64 ch] 3))
  have HI : Hid (Calls Tryz.prog 131 #[.slice ca C.length cc, .func (Fn.func 132) #[] #[.pointer (some ⟨w.heap.size, 0, none⟩)]] (w.alloc (.cells #[.int .i64 ch] 3)) fun e w' => e = .returned (.int .i64 (atI C ch)) ∧ Keeps (w.alloc (.cells #[.int .i64 ch] 3)) w') := index_chan ch w.heap.size ca cc C _ (by simp) (hc.kept HK.out) hl
  have HB := hide (atI_bound C ch)
  have hg := HK.out.cell h
  have hG := lt_of_cell h
  clear hc
  generalize atI C ch = i at *
  have hw : IntKind.i64.wrap (1 + i) = i + 1 := by rw [IntKind.wrap_i64]; have := HB.out; omega
  go_enter Tryz.func111, Tryz.ntmps111
  go_wp2_with fail
  refine (unhide HI).mono ?_
  rintro e w2 ⟨rfl, hk2⟩
  go_wp2_with fail
  go_ret
  exact ⟨ret_i (by have := HB.out; first | omega | (simp only [wrap64]; omega)), HK.out.trans hk2⟩
end Go.Proofs.YtjdbedlgkngdkaaGreatDoor
