/- The model's draw of a flow: its memory whole. -/
import Derived.Test.YtaboogkioehkeaaDw
import Derived.Test.YtaboogkioehkeaaPq
namespace Go.Proofs.Ytaboogkioehkeaa
open Go.RowKit Go.Deep
set_option linter.unusedVariables false
set_option linter.unusedSimpArgs false
set_option maxRecDepth 10000

/-- A list of numbers was answered, in memory of its own. -/
def FlOwn (w w' : World) (e : Ending) : Prop := ∃ (fa : Option Addr) (fc : Nat) (f : List Int), e = .returned (.slice fa f.length fc) ∧ f.length ≤ 60 ∧ (fa = none → fc = 0) ∧ OwnsI w' w.heap.size (.slice fa f.length fc) f
set_option maxHeartbeats 16000000 in
theorem flow_own {B0 B : Nat} {a : Option Addr} {len cap : Nat} {w : World} (s : Dr B0 B a len cap w) (nn : Int) (ea : Option Addr) (ec : Nat) (E : List Edg) (hm : Mem w [(ea, egs E)]) (hBE : ∀ b ∈ fp [(ea, egs E)], b ∉ [B]) (hl : E.length ≤ 12) :
    Calls Try.prog 41 #[.pointer (some ⟨B, 0, none⟩), .agg #[.int .i64 nn, .slice ea E.length ec]] w fun e w' => FlOwn w w' e ∧ Dr B0 B a len cap w' ∧ Turn [B] w w' := by
  have hBw := s.lt
  have hBle := s.le
  have HM := hide hm
  have HBE := hide hBE
  have HK0 := hide (Keeps.alloc (Keeps.refl w) (.cells #[.int .i64 nn, .slice ea E.length ec] 25))
  have HR0 := hide (World.rowIs_alloc w #[.int .i64 nn, .slice ea E.length ec] 25 (row2 (.int .i64 nn) (.slice ea E.length ec)) (row2_at _ _))
  have HZ0 : Hid ((w.alloc (.cells #[.int .i64 nn, .slice ea E.length ec] 25)).heap.size = w.heap.size + 1) := by show _ = _; simp
  have HD := hide (s.turned (Turn.of_keeps HK0.out []) (by simp) (by simp))
  have hmk := make_ints E.length (by omega)
  clear s hm hBE
  go_enter Try.func41, Try.ntmps41
  go_upto_region 2 with fail
  have HRF := hide (World.rowIs_made (w.alloc (.cells #[.int .i64 nn, .slice ea E.length ec] 25)) (.int .i64 0) E.length 3)
  have HK1 := hide (Keeps.alloc (Keeps.refl (w.alloc (.cells #[.int .i64 nn, .slice ea E.length ec] 25))) (.cells (madeCells #[.int .i64 0] E.length) 3))
  have HZ1 : Hid (((w.alloc (.cells #[.int .i64 nn, .slice ea E.length ec] 25)).alloc (.cells (madeCells #[.int .i64 0] E.length) 3)).heap.size = w.heap.size + 2) := by show _ = _; simp
  rw [HZ0.out] at HRF
  generalize w.alloc (.cells #[.int .i64 nn, .slice ea E.length ec] 25) = W0 at *
  have HR0 : Hid (W0.rowIs w.heap.size 25 2 (row2 (.int .i64 nn) (.slice ea E.length ec))) := HR0.out
  generalize W0.alloc (.cells (madeCells #[.int .i64 0] E.length) 3) = W1 at *
  have HR1 := hide (HK1.out.rowK HR0.out)
  have q0 := HR1.out.cell (i := 0) (by decide)
  simp only [row2, if_true] at q0
  have lw := HR1.out.lt
  go_upto_region 3 with fail
  have HK2 := hide (Keeps.alloc (Keeps.refl W1) (.cells #[.int .i64 nn, .slice none 0 0] 25))
  have HRG := hide (World.rowIs_alloc W1 #[.int .i64 nn, .slice none 0 0] 25 (row2 (.int .i64 nn) (.slice none 0 0)) (row2_at _ _))
  rw [HZ1.out] at HRG
  generalize W1.alloc (.cells #[.int .i64 nn, .slice none 0 0] 25) = W2 at *
  have HRG : Hid (W2.rowIs (w.heap.size + 2) 25 2 (row2 (.int .i64 nn) (.slice none 0 0))) := HRG.out
  have HG0 : Hid (DgS B0 B a len cap w W2 (w.heap.size + 2) nn none 0 []) := ⟨HD.out.turned (Turn.of_keeps (HK1.out.trans HK2.out) []) (by simp) (by simp), Turn.of_keeps ((HK0.out.trans HK1.out).trans HK2.out) _, HRG.out, ⟨_, HK2.out.rowK HR1.out⟩, ⟨by simp [egs], .inl ⟨rfl, rfl⟩⟩, by omega, hBw⟩
  have HRF2 := hide (HK2.out.rowK HRF.out)
  have HRW2 : Hid (W2.cell? ⟨w.heap.size, 1, none⟩ = some (.slice ea E.length ec)) := by
    have h := (HK2.out.rowK HR1.out).cell (i := 1) (by decide)
    exact h
  obtain ⟨G, hG⟩ : ∃ G, G = w.heap.size + 2 := ⟨_, rfl⟩
  obtain ⟨F, hF⟩ : ∃ F, F = w.heap.size + 1 := ⟨_, rfl⟩
  have hGF : F < G := by omega
  have hFw : w.heap.size < F := by omega
  rw [← hG] at HG0
  rw [← hF] at HRF2
  rw [HZ1.out, ← hG, ← hF]
  clear hG hF HRG HRF HK0 HK1 HK2 HR0 HR1 HZ0 HZ1 HD q0 lw hmk
  have q1 := HRW2.out
  go_wp2_with fail
  clear q1 HRW2
  go_loopw [24] (fun y wr => ∃ (k : Nat) (ha : Option Addr) (hc : Nat) (Eh : List Edg), k ≤ E.length ∧ Eh.length = k ∧ y = .int .i64 (k : Int) ∧ Hid (ha = none → hc = 0) ∧ Hid (DgS B0 B a len cap w wr G nn ha hc Eh) ∧ Hid (wr.rowIs F 3 E.length (fun _ => .int .i64 0))) (fun y _ => E.length - (intOf y).toNat)
  case atStart => exact ⟨0, none, 0, [], by omega, rfl, rfl, fun _ => rfl, HG0.out, HRF2.out⟩
  case round =>
    obtain ⟨k, ha, hc, Eh, hk, hEh, rfl, HEN0, HG, HRF⟩ := hrel
    have HEh := hide hEh
    clear hEh HG0 HRF2
    by_cases hlt : k < E.length
    · obtain ⟨eb, eoff, ea', c0, c1, c2, c3⟩ := egs_at ((HM.out.turn HG.out.tu HBE.out) (ea, egs E) (by simp)) k hlt
      generalize E[k] = x at *
      obtain ⟨y0, y1, y2, y3⟩ := x
      dsimp only at c0 c1 c2 c3
      subst ea'
      have HKE := hide (Keeps.alloc (Keeps.refl wr) (.cells #[.int .i64 y0, .int .i64 y1, .int .i64 y2, .int .i64 y3] 66))
      have HE := hide (World.rowIs_alloc wr #[.int .i64 y0, .int .i64 y1, .int .i64 y2, .int .i64 y3] 66 (rowE y0 y1 y2 y3) (rowE_at _ _ _ _))
      have HVB0 : Hid (∀ j, Value.ownBlock (.slice ha Eh.length hc) = some j → j ≠ wr.heap.size) := fun j hj e => by have := (HG.out.ow.lt j hj).2; omega
      go_upto_region 6 with fail
      generalize wr.alloc (.cells #[.int .i64 y0, .int .i64 y1, .int .i64 y2, .int .i64 y3] 66) = W7 at *
      have HE : Hid (W7.rowIs wr.heap.size 66 4 (rowE y0 y1 y2 y3)) := HE.out
      have HGl := hide HG.out.gr.lt
      have HwG := hide HG.out.lt
      replace HG := hide (HG.out.kept HKE.out)
      replace HRF := hide (HKE.out.rowK HRF.out)
      obtain ⟨V, hV⟩ : ∃ V, V = wr.heap.size := ⟨_, rfl⟩
      rw [← hV] at HE HGl HVB0
      rw [← hV]
      have HVG : Hid (V ≠ G ∧ w.heap.size < V) := ⟨by have := HGl.out; omega, by have := HGl.out; have := HwG.out; omega⟩
      have HVF : Hid (F ≠ V) := by have := HGl.out; show ¬ _; omega
      have HVB := hide HVB0.out
      clear hV HKE HVB0 c0 c1 c2 c3
      go_wp2_with fail
      refine (below_t 21 HG.out.dr (by decide) (by decide)).mono ?_
      rintro e w8 ⟨⟨z, z0, z1, rfl⟩, hd, ht⟩
      have hnB := HG.out.nB
      replace HG := hide (HG.out.turn hd ht)
      replace HE := hide (HE.out.of_block (ht.block V HE.out.lt (by have := HVG.out.2; simp; omega)))
      replace HRF := hide (HRF.out.of_block (ht.block F HRF.out.lt (by simp; omega)))
      clear hd ht
      have hwz : IntKind.i64.wrap (z - 10) = z - 10 := by rw [IntKind.wrap_i64]; omega
      have v3 := HE.out.cell (i := 3) (by decide)
      have fv3 := HE.out.frozen 3
      simp only [rowE, if_false, show ¬ (3 : Nat) = 0 by decide, show ¬ (3 : Nat) = 1 by decide, show ¬ (3 : Nat) = 2 by decide] at v3
      have lV := HE.out.lt
      go_upto_region 7 with fail
      have HGT := hide (Turn.set (fs := [V]) (w := w8) (a := ⟨V, 3, none⟩) (by simp) (.int .i64 (z - 10)))
      have HE2 := hide ((HE.out.set 3 (.int .i64 (z - 10))).congr (g := rowE y0 y1 y2 (z - 10)) (fun j hj => by rcases (show j = 0 ∨ j = 1 ∨ j = 2 ∨ j = 3 by omega) with rfl | rfl | rfl | rfl <;> rfl))
      have HG2 := hide (HG.out.other HGT.out HVG.out HVB.out)
      have HRF2 := hide (HRF.out.of_block (HGT.out.block F HRF.out.lt (by have := HVF.out; simp; omega)))
      clear HGT HE HG HRF v3 fv3 lV hwz
      generalize w8.setCell ⟨V, 3, none⟩ (.int .i64 (z - 10)) = WX at *
      generalize z - 10 = y4 at *
      have c0 := HE2.out.cell (i := 0) (by decide)
      have c1 := HE2.out.cell (i := 1) (by decide)
      have c2 := HE2.out.cell (i := 2) (by decide)
      have c3 := HE2.out.cell (i := 3) (by decide)
      simp only [rowE, if_true, if_false, show ¬ (1 : Nat) = 0 by decide, show ¬ (2 : Nat) = 0 by decide, show ¬ (2 : Nat) = 1 by decide, show ¬ (3 : Nat) = 0 by decide, show ¬ (3 : Nat) = 1 by decide, show ¬ (3 : Nat) = 2 by decide] at c0 c1 c2 c3
      have g1 := HG2.out.gr.cell (i := 1) (by decide)
      simp only [row2, if_false, show ¬ (1 : Nat) = 0 by decide] at g1
      have hGl := HG2.out.gr.lt
      have HM2 : Hid (Cells (WX.alloc (.cells #[.int .i64 y0, .int .i64 y1, .int .i64 y2, .int .i64 y4] 66)) (some ⟨WX.heap.size, 0, none⟩) (egs [⟨y0, y1, y2, y4⟩])) := Or.inr ⟨WX.heap.size, 0, rfl, fun j hj => by
        have hj' : j < 4 := by have h4 := egs_len [(⟨y0, y1, y2, y4⟩ : Edg)]; rw [h4] at hj; simpa using hj
        rcases (show j = 0 ∨ j = 1 ∨ j = 2 ∨ j = 3 by omega) with rfl | rfl | rfl | rfl <;> simp [egs, Edg.cells]⟩
      have HK2 := hide (Keeps.alloc (Keeps.refl WX) (.cells #[.int .i64 y0, .int .i64 y1, .int .i64 y2, .int .i64 y4] 66))
      have HO2 := hide ((HG2.out.kept HK2.out).ow)
      have HB2 : Hid (G + 1 ≤ (WX.alloc (.cells #[.int .i64 y0, .int .i64 y1, .int .i64 y2, .int .i64 y4] 66)).heap.size) := by show _ ≤ _; simp; omega
      have HLE : Hid (Eh.length + 1 ≤ 4194304) := by show _ ≤ _; have := HEh.out; omega
      have HOW := hide HG2.out.ow
      go_wp2_with (at_builtin; refine app_Edge rfl (.tmp 33) (.tmp 35) rfl (G + 1) _ Eh [⟨y0, y1, y2, y4⟩] rfl (some ⟨WX.heap.size, 0, none⟩) 1 rfl HM2.out (fun h => nomatch h) HO2.out HLE.out HB2.out ?_; intro v' w' ho hg hnn; have HRF3 := hide (HRF2.out.of_block ((hg.block F (by have := HRF2.out.lt; simp; omega) (fun e => by have := (HOW.out.lt F e.symm).1; omega)).trans (Below.block HK2.out F HRF2.out.lt))); obtain ⟨ha', hc', rfl, hen, hDG, p1, p2, p3⟩ := HG2.out.grow HK2.out ho hg; have HDG := hide hDG; have HEN := hide hen; clear hDG ho hg hnn hen)
      go_roundw
      case rel => exact ⟨k + 1, ha', hc', Eh ++ [(⟨y0, y1, y2, y4⟩ : Edg)], by omega, by simp [HEh.out], by go_num, HEN.out, HDG.out, by
        show World.rowIs _ _ _ _ _
        exact HRF3.out.setOther (a := ⟨G, 1, none⟩) (by show F ≠ G; omega) _⟩
      case measure => simp [intOf]; omega
    · have e : k = E.length := by omega
      subst e
      have hnB := HG.out.nB
      have HEL12 : Hid (Eh.length ≤ 12) := by show _ ≤ _; have := HEh.out; omega
      go_wp2_with fail
      refine (below_t 4 HG.out.dr (by decide) (by decide)).mono ?_
      rintro e w8 ⟨⟨z, z0, z1, rfl⟩, hd, ht⟩
      replace HG := hide (HG.out.turn hd ht)
      replace HRF := hide (HRF.out.of_block (ht.block F HRF.out.lt (by simp; omega)))
      obtain ⟨z, rfl⟩ : ∃ n : Nat, z = (n : Int) := ⟨z.toNat, by omega⟩
      clear hd ht
      have HB8 : Hid (OwnsI w8 w.heap.size (.slice (some ⟨F, 0, none⟩) (List.replicate E.length (0 : Int)).length E.length) (List.replicate E.length 0)) := owns_row HRF.out (by simp) (fun j hj => by simp) (by omega) (by omega)
      have HL0 : Hid ((List.replicate E.length (0 : Int)).length = E.length) := by show _ = _; simp
      clear HRF
      go_wp2_with fail
      go_loopw [5, 9] (fun v y wr => ∃ (k : Nat) (fa : Option Addr) (fc : Nat) (f : List Int), k ≤ 3 ∧ f.length ≤ 60 ∧ v = .slice fa f.length fc ∧ y = .int .i64 (k : Int) ∧ Hid (OwnsI wr w.heap.size (.slice fa f.length fc) f) ∧ Hid (fa = none → fc = 0) ∧ Hid (DgS B0 B a len cap w wr G nn ha hc Eh)) (fun _ y _ => (intOf y).toNat)
      case atStart => exact ⟨z, _, _, List.replicate E.length 0, by omega, by rw [HL0.out]; omega, by rw [HL0.out], rfl, HB8.out, fun h => (nomatch h), HG.out⟩
      case round =>
        obtain ⟨k, fa, fc, f, hk, hf60, rfl, rfl, HBF, HAN, HG2⟩ := hrel
        clear HB8 HG HL0
        have g0 := HG2.out.gr.cell (i := 0) (by decide)
        have g1 := HG2.out.gr.cell (i := 1) (by decide)
        simp only [row2, if_true, if_false, show ¬ (1 : Nat) = 0 by decide] at g0 g1
        by_cases hk0 : 0 < k
        · have HRC := hide (ring_spec ⟨nn, ha, hc, Eh⟩ fa fc f wr (fun s hs => by rw [List.mem_singleton.1 hs]; exact (bornE (W := w) HG2.out.ow (by have := HG2.out.lt; omega)).toOwn.mem (ha, egs Eh) (by simp)) (cellsI HBF.out) (by show Eh.length ≤ 1048576; have := HEL12.out; omega) (by omega))
          dsimp only [Gf.v] at HRC
          go_wp2_with fail
          refine (unhide HRC).mono ?_
          rintro e w3 ⟨ra, rc, rfl, hb3, hrn, hk3⟩
          have HBR := hide hb3
          have HRL := hide (ringV_24 nn Eh f)
          replace HBF := hide (ownsI_kept HBF.out hk3)
          replace HG2 := hide (HG2.out.kept hk3)
          clear hb3 hrn hk3 HRC g0 g1
          cases hro : ringOk nn Eh f
          · clear hro
            go_wp2_with fail
            go_ret
            exact ⟨⟨fa, fc, f, rfl, hf60, HAN.out, HBF.out⟩, HG2.out.dr, HG2.out.tu⟩
          · clear hro
            have g0 := HG2.out.gr.cell (i := 0) (by decide)
            have g1 := HG2.out.gr.cell (i := 1) (by decide)
            simp only [row2, if_true, if_false, show ¬ (1 : Nat) = 0 by decide] at g0 g1
            have HPC := hide (push_own ⟨nn, ha, hc, Eh⟩ fa fc f ra rc (ringV nn Eh f) w3 (fun s hs => by rw [List.mem_singleton.1 hs]; exact (bornE (W := w) HG2.out.ow (by have := HG2.out.lt; omega)).toOwn.mem (ha, egs Eh) (by simp)) (cellsI HBF.out) (HBR.out.toOwn.mem (ra, its (ringV nn Eh f)) (by simp)) (by show Eh.length ≤ 1048576; have := HEL12.out; omega) (by omega) (by have := HRL.out; omega))
            dsimp only [Gf.v] at HPC
            have hrl := HRL.out
            generalize ringV nn Eh f = RV at *
            go_wp2_with fail
            refine (unhide HPC).mono ?_
            rintro e w4 ⟨pa, pc, rfl, hb4, hpn, hk4⟩
            have HPN := hide hpn
            have HBP := hide (ownsI_mono hb4 HG2.out.tu.size)
            have HP60 := hide (pushV_60 nn Eh f RV)
            replace HBF := hide (ownsI_kept HBF.out hk4)
            replace HG2 := hide (HG2.out.kept hk4)
            clear hb4 hpn hk4 g0 g1 HPC
            generalize pushV nn Eh f RV = PV at *
            cases hpo : pushOk nn Eh f RV
            · clear hpo
              go_wp2_with fail
              go_roundw
              case rel => exact ⟨k - 1, fa, fc, f, by omega, hf60, rfl, by go_num, HBF.out, HAN.out, HG2.out⟩
              case measure => simp [intOf]; omega
            · clear hpo
              go_wp2_with fail
              go_roundw
              case rel => exact ⟨k - 1, pa, pc, PV, by omega, HP60.out, rfl, by go_num, HBP.out, HPN.out, HG2.out⟩
              case measure => simp [intOf]; omega
        · go_wp2_with fail
          go_ret
          exact ⟨⟨fa, fc, f, rfl, hf60, HAN.out, HBF.out⟩, HG2.out.dr, HG2.out.tu⟩
end Go.Proofs.Ytaboogkioehkeaa
