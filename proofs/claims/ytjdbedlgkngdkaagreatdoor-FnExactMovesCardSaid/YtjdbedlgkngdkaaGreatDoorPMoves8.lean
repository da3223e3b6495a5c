/- Texts of the verifier, joined: Sb, Pa, Pb, Rh. -/
import Derived.Test.YtjdbedlgkngdkaaGreatDoorPMoves7
import Derived.Test.YtjdbedlgkngdkaaGreatDoorPMoves5
import Derived.Test.YtjdbedlgkngdkaaGreatDoorPMoves6
import Derived.Deep.RegionHeld3
namespace Go.Proofs.YtjdbedlgkngdkaaGreatDoor
open Go.RowKit Go.Deep
set_option linter.unusedVariables false
set_option linter.unusedSimpArgs false
set_option maxRecDepth 10000

/-- What the model's search holds. -/
structure MdR (w : World) (D La n : Nat) (S : Srch) : Prop where
  rd : w.rowIs D 3 n (fun v => .int .i64 (S.d v))
  rl : w.rowIs La 3 n (fun v => .int .i64 (S.k v : Int))
theorem MdR.kept {w w' : World} {D La n : Nat} {S : Srch} (h : MdR w D La n S) (hk : Keeps w w') : MdR w' D La n S := ⟨hk.rowK h.rd, hk.rowK h.rl⟩
theorem MdR.turn {w w' : World} {D La n : Nat} {S : Srch} (h : MdR w D La n S) {fs : List Nat} (ht : Turn fs w w') (h1 : D ∉ fs) (h2 : La ∉ fs) : MdR w' D La n S := ⟨h.rd.of_block (ht.block D h.rd.lt h1), h.rl.of_block (ht.block La h.rl.lt h2)⟩
theorem made_k (A : List Arc) (w : World) (n : Nat) : (w.alloc (.cells (madeCells #[.int .i64 0] n) 3)).rowIs w.heap.size 3 n (fun v => .int .i64 ((turns A 0).k v : Int)) :=
  (World.rowIs_made w (.int .i64 0) n 3).congr (fun i _ => by simp [turns])
set_option maxHeartbeats 16000000 in
theorem ring_spec (G : Gf) (fa : Option Addr) (fc : Nat) (f : List Int) (w : World) (hm : Mem w G.segs) (hf : Cells w fa (its f)) (hl : G.len) (hlf : f.length ≤ 1048576) :
    Calls Tryz.prog 66 #[G.v, .slice fa f.length fc] w fun e w' => ∃ a c, e = .returned (.tuple #[.slice a (ringV G.nn G.E f).length c, .bool (ringOk G.nn G.E f)]) ∧ Born w w' [(a, its (ringV G.nn G.E f))] ∧ (a = none → c = 0) ∧ Keeps w w' := by
  have HQ := hide (fun w' (hk : Keeps w w') => flow_spec G fa fc f w' (hm.kept hk) (hf.kept hk) hl hlf)
  obtain ⟨nn, ea, ec, E⟩ := G
  have HM := hide hm
  have HF := hide hf
  have HB := hide (gr_box ⟨nn, ea, ec, E⟩ w 36)
  have HK := hide (Keeps.alloc (Keeps.refl w) (.cells #[.int .i64 nn, .slice ea E.length ec] 36))
  dsimp only [Gf.v, Gf.len, Gf.segs] at *
  clear hm hf
  cases hb : flowB nn E f
  · obtain ⟨h1, h2⟩ := ringOk_no hb
    rw [h1, h2]
    clear h1 h2
    go_enter Tryz.func66, Tryz.ntmps66
    go_wp2_with fail
    refine (unhide HQ _ HK.out).mono ?_
    rintro e w1 ⟨rfl, hk⟩
    rw [hb]
    go_wp2_with fail
    go_ret2
    exact ⟨none, 0, rfl, born_none _ _, fun _ => rfl, HK.out.trans hk⟩
  have HFL := hide hb
  obtain ⟨hg, hle, -, -⟩ := flowB_true hb
  obtain ⟨g1, g2, g3, -⟩ := graphB_true hg
  obtain ⟨n, rfl⟩ : ∃ n : Nat, nn = (n : Int) := ⟨nn.toNat, by omega⟩
  have hmk := make_ints n (by omega)
  have HL := hide hle
  rw [hle] at HQ hlf ⊢
  clear hg hle
  go_enter Tryz.func66, Tryz.ntmps66
  go_wp2_with fail
  refine (unhide HQ _ HK.out).mono ?_
  rintro e w1 ⟨rfl, hk⟩
  rw [hb]
  clear hb
  generalize w.alloc (.cells #[.int .i64 (n : Int), .slice ea E.length ec] 36) = W0 at *
  replace HB := hide (HB.out.kept hk)
  replace HK := hide (HK.out.trans hk)
  clear hk HQ
  obtain ⟨q0, q1⟩ := HB.out
  dsimp only at q0 q1
  have HAR := hide (arcs_spec ⟨(n : Int), ea, ec, E⟩ n fa fc f w1 rfl HFL.out (HM.out.kept HK.out) (HF.out.kept HK.out))
  dsimp only [Gf.v] at HAR
  go_wp2_with fail
  refine (unhide HAR).mono ?_
  rintro e w2 ⟨ga, ca, rfl, hb, hk⟩
  replace HB := hide (HB.out.kept hk)
  replace HK := hide (HK.out.trans hk)
  have HGA := hide (hb.toOwn.mem (some ⟨ga, 0, none⟩, ars (arcs E f)) (by simp))
  clear hb hk HAR q0 q1
  obtain ⟨q0, q1⟩ := HB.out
  dsimp only at q0 q1
  have lb := lt_of_cell q0
  have h120 := (arcs_ok HFL.out).1
  go_upto_region 6 with fail
  have HRD := hide (made_dist (arcs E f) w2 n)
  have HK3 := hide (Keeps.alloc (Keeps.refl w2) (.cells (madeCells #[.int .i64 0] n) 3))
  have HS3 : Hid ((w2.alloc (.cells (madeCells #[.int .i64 0] n) 3)).heap.size = w2.heap.size + 1) := by show _ = _; simp
  have HRL := hide (made_k (arcs E f) (w2.alloc (.cells (madeCells #[.int .i64 0] n) 3)) n)
  have HK4 := hide (Keeps.alloc (Keeps.refl (w2.alloc (.cells (madeCells #[.int .i64 0] n) 3))) (.cells (madeCells #[.int .i64 0] n) 3))
  rw [HS3.out] at HRL
  generalize w2.alloc (.cells (madeCells #[.int .i64 0] n) 3) = W3 at *
  generalize W3.alloc (.cells (madeCells #[.int .i64 0] n) 3) = W4 at *
  have HGL := hide (Cells.lt (s := (some (⟨ga, 0, none⟩ : Addr), ars (arcs E f))) HGA.out)
  replace HB := hide ((HB.out.kept HK3.out).kept HK4.out)
  replace HK := hide ((HK.out.trans HK3.out).trans HK4.out)
  replace HGA := hide ((HGA.out.kept HK3.out).kept HK4.out)
  have HMD : Hid (MdR W4 w2.heap.size (w2.heap.size + 1) n (turns (arcs E f) 0)) := ⟨HK4.out.rowK HRD.out, HRL.out⟩
  obtain ⟨D, hD⟩ : ∃ D, D = w2.heap.size := ⟨_, rfl⟩
  obtain ⟨La, hLa⟩ : ∃ La, La = w2.heap.size + 1 := ⟨_, rfl⟩
  have HDL : Hid (w.heap.size < D ∧ D < La) := ⟨by omega, by omega⟩
  have HGD : Hid (∀ b ∈ fpS (some (⟨ga, 0, none⟩ : Addr), ars (arcs E f)), b < D) := fun b hb => by have := HGL.out b hb; omega
  rw [← hLa, ← hD] at HMD
  rw [← hLa, ← hD]
  clear hD hLa HGL HRD HRL HK3 HK4 HS3 lb q0 q1
  have HFIX : Hid (∀ w', Turn [D, La] W4 w' → Cells w' (some ⟨ga, 0, none⟩) (ars (arcs E f)) ∧ GrAt w' w.heap.size ⟨(n : Int), ea, ec, E⟩ ∧ Keeps w w') := fun w' ht => by
    have h1 := HDL.out
    refine ⟨Cells.turn (s := (some (⟨ga, 0, none⟩ : Addr), ars (arcs E f))) HGA.out ht (fun b hb hx => by have := HGD.out b hb; simp at hx; omega), ⟨ht.cell (by simp; omega) HB.out.1, ht.cell (by simp; omega) HB.out.2⟩, ht.keeps HK.out (by simp; omega)⟩
  have HAO := hide (arcs_ok HFL.out)
  clear HB HK HGA hmk
  go_wp2_with fail
  go_loopw [9, 10] (fun e y wr => ∃ r : Nat, r ≤ n ∧ e = .int .i64 (turns (arcs E f) r).e ∧ y = .int .i64 (r : Int) ∧ Hid (MdR wr D La n (turns (arcs E f) r)) ∧ Hid (Turn [D, La] W4 wr)) (fun _ y _ => n - (intOf y).toNat)
  case atStart => exact ⟨0, by omega, rfl, rfl, HMD.out, Turn.refl _ _⟩
  case round =>
    obtain ⟨r, hr, rfl, rfl, HMo, HTo⟩ := hrel
    clear HMD
    obtain ⟨q0, q1⟩ := (HFIX.out _ HTo.out).2.1
    dsimp only at q0 q1
    by_cases hrn : r < n
    · go_wp2_with fail
      clear q0 q1
      obtain ⟨wo, hwo⟩ : ∃ wo, wo = wr := ⟨_, rfl⟩
      subst hwo
      go_loopw [9, 37] (fun e y wr => ∃ j : Nat, j ≤ (arcs E f).length ∧ e = .int .i64 (turnTo (arcs E f) (r + 1) (turns (arcs E f) r) j).e ∧ y = .int .i64 (j : Int) ∧ Hid (MdR wr D La n (turnTo (arcs E f) (r + 1) (turns (arcs E f) r) j)) ∧ Hid (Turn [D, La] W4 wr)) (fun _ y _ => (arcs E f).length - (intOf y).toNat)
      case atStart => exact ⟨0, by omega, rfl, rfl, ⟨HMo.out.rd, HMo.out.rl⟩, HTo.out⟩
      case round =>
        obtain ⟨j, hj, rfl, rfl, HMi, HTi⟩ := hrel
        by_cases hlt : j < (arcs E f).length
        · have HTS := hide (turnTo_step (n := r + 1) (S := turns (arcs E f) r) hlt)
          have hbd := (turns_mid HAO.out r j hj).bnd
          have haj := HAO.out.2 _ (List.getElem_mem hlt)
          obtain ⟨gb, goff, hga, c0, c1, c2, c3, c4⟩ := ars_at (HFIX.out _ HTi.out).1 j hlt
          cases hga
          simp only [Nat.zero_add] at c0 c1 c2 c3 c4
          have hgl : ga < D := HGD.out ga (by rw [fpS_some (by intro e; have h5 := ars_len (arcs E f); rw [e] at h5; simp only [List.length_nil] at h5; omega)]; simp)
          have e1 : r + 1 - 1 = r := by omega
          rw [e1] at hbd
          have hbd : ∀ v, (turnTo (arcs E f) (r + 1) (turns (arcs E f) r) j).d v ≤ 0 ∧ -4000000000 ≤ (turnTo (arcs E f) (r + 1) (turns (arcs E f) r) j).d v := fun v => by have := hbd v; omega
          clear e1
          generalize turnTo (arcs E f) (r + 1) (turns (arcs E f) r) j = S at *
          have HRY := hide (relax_yes (n := r + 1) (j := j) (a := (arcs E f)[j]) (S := S))
          have HRN := hide (relax_no (n := r + 1) (j := j) (a := (arcs E f)[j]) (S := S))
          generalize (arcs E f)[j] = x at *
          obtain ⟨xnm, xfr, xto, xrs, xco⟩ := x
          dsimp only at c0 c1 c2 c3 c4 haj HRY HRN
          obtain ⟨a0, a1, a2, a3, a4, a5, a6⟩ := haj
          obtain ⟨u, rfl⟩ : ∃ u : Nat, xfr = (u : Int) := ⟨xfr.toNat, by omega⟩
          obtain ⟨v, rfl⟩ : ∃ v : Nat, xto = (v : Int) := ⟨xto.toNat, by omega⟩
          simp only [Int.toNat_natCast] at HRY HRN
          have hu : u < n := by omega
          have hv : v < n := by omega
          have hdu := hbd u
          have hdv := hbd v
          have w0 : IntKind.i64.wrap (S.d u + xco) = S.d u + xco := by rw [IntKind.wrap_i64]; omega
          have HKA := hide (Keeps.alloc (Keeps.refl wr) (.cells #[.int .i64 xnm, .int .i64 (u : Int), .int .i64 (v : Int), .int .i64 xrs, .int .i64 xco] 156))
          have HBX := hide (arc_box wr ⟨xnm, (u : Int), (v : Int), xrs, xco⟩ 156)
          dsimp only at HBX
          have hDl := HMi.out.rd.lt
          have hLl := HMi.out.rl.lt
          go_upto_region 14 with fail
          obtain ⟨V, hV⟩ : ∃ V, V = wr.heap.size := ⟨_, rfl⟩
          rw [← hV] at HBX hDl hLl
          rw [← hV]
          clear hV c0 c1 c2 c3 c4
          generalize wr.alloc (.cells #[.int .i64 xnm, .int .i64 (u : Int), .int .i64 (v : Int), .int .i64 xrs, .int .i64 xco] 156) = W5 at *
          replace HMi := hide (HMi.out.kept HKA.out)
          replace HTi := hide (HTi.out.trans' (Turn.of_keeps HKA.out _))
          obtain ⟨v0, v1, v2, v3, v4⟩ := HBX.out
          have r0 := HMi.out.rd.cell (i := u) hu
          have r1 := HMi.out.rd.cell (i := v) hv
          clear HKA HBX
          by_cases hx : S.d u + xco < S.d v
          · have hd : decide (S.d u + xco < S.d v) = true := by simp [hx]
            replace HRY := hide (HRY.out hx)
            clear HRN
            go_quiet (fail)
            have hk6 := (Keeps.refl W5).drewN nq
            replace v0 := hk6.cell v0
            replace v1 := hk6.cell v1
            replace v2 := hk6.cell v2
            replace v4 := hk6.cell v4
            replace r0 := hk6.cell r0
            replace r1 := hk6.cell r1
            replace HMi := hide (HMi.out.kept hk6)
            replace HTi := hide (HTi.out.trans' (Turn.of_keeps hk6 _))
            clear hk6 v3
            generalize W5.drewN nq = W6 at *
            have f1 := HMi.out.rd.frozen v
            have hDL := HDL.out
            go_upto_region 15 with fail
            go_big_region
            have ht : Turn [D] W6 (W6.setCell ⟨D, v, none⟩ (.int .i64 (S.d u + xco))).drew := (Turn.set (by simp) _).trans' (Turn.of_keeps ((Keeps.refl _).drew) _)
            have HRD := hide (((Keeps.refl _).drew).rowK (HMi.out.rd.set v (.int .i64 (S.d u + xco))))
            have HRL := hide (HMi.out.rl.of_block (ht.block La HMi.out.rl.lt (by simp; omega)))
            replace v2 := ht.cell (by simp; omega) v2
            replace HTi := hide (HTi.out.trans' (ht.mono (by simp)))
            clear ht v0 v1 v4 r0 r1 f1 HMi
            generalize (W6.setCell ⟨D, v, none⟩ (.int .i64 (S.d u + xco))).drew = W7 at *
            have l1 := HRL.out.cell (i := v) hv
            have fl := HRL.out.frozen v
            go_wp2_with fail
            have ht : Turn [La] W7 (W7.setCell ⟨La, v, none⟩ (.int .i64 (j : Int))) := Turn.set (by simp) _
            go_roundw
            case rel =>
              refine ⟨j + 1, by omega, by rw [HTS.out, HRY.out], by go_num, ?_, HTi.out.trans' (ht.mono (by simp))⟩
              rw [HTS.out, HRY.out]
              refine ⟨(HRD.out.of_block (ht.block D HRD.out.lt (by simp; omega))).congr (fun i _ => ?_), (HRL.out.set v (.int .i64 (j : Int))).congr (fun i _ => ?_)⟩
              · by_cases e : i = v
                · subst e; simp [upd_same]
                · simp [e, upd_other _ e]
              · by_cases e : i = v
                · subst e; simp [upd_same]
                · simp [e, upd_other _ e]
            case measure => simp [intOf]; omega
          · have hd : decide (S.d u + xco < S.d v) = false := by simp; omega
            replace HRN := hide (HRN.out hx)
            clear HRY
            go_quiet (fail)
            go_wp2_with fail
            go_roundw
            case rel => exact ⟨j + 1, by omega, by rw [HTS.out, HRN.out], by go_num, by rw [HTS.out, HRN.out]; exact HMi.out.kept ((Keeps.refl _).drewN _), HTi.out.trans' (Turn.of_keeps ((Keeps.refl _).drewN _) _)⟩
            case measure => simp [intOf]; omega
        · have e : j = (arcs E f).length := by omega
          subst e
          go_wp2_with fail
          go_roundw
          case rel => exact ⟨r + 1, by omega, rfl, by go_num, HMi.out, HTi.out⟩
          case measure => simp [intOf]; omega
    · have e : n = r := by omega
      subst e
      by_cases he : (turns (arcs E f) n).e = -1
      · obtain ⟨h1, h2⟩ := ring_none (r := n - 1) HFL.out (by omega) (by rw [show n - 1 + 1 = n by omega]; exact he)
        rw [he]
        have HO1 := hide h1
        have HO2 := hide h2
        have HKr := hide (HFIX.out _ HTo.out).2.2
        clear h1 h2 he
        go_wp2_with fail
        go_ret2
        exact ⟨none, 0, by rw [HO1.out, HO2.out]; rfl, by rw [HO2.out]; exact born_none _ _, fun _ => rfl, HKr.out⟩
      · have hsi : SInv (arcs E f) n (arcs E f).length (turns (arcs E f) n) := by have := turns_inv HAO.out (n - 1); rw [show n - 1 + 1 = n by omega] at this; exact this
        obtain ⟨hset, hlt, m, hor⟩ := on_ring HAO.out (by omega) hsi he
        obtain ⟨o1, o2⟩ := ring_yes HFL.out he hor
        have he0 := (hsi.fin he).1
        obtain ⟨e0, he0⟩ : ∃ e0 : Nat, (turns (arcs E f) n).e = (e0 : Int) := ⟨(turns (arcs E f) n).e.toNat, by omega⟩
        rw [he0] at hset hlt hor o2
        rw [he0]
        simp only [Int.toNat_natCast] at hset hlt hor o2
        have HPA : Hid (∀ v, (turns (arcs E f) n).s v = true → (turns (arcs E f) n).k v < (arcs E f).length ∧ 0 ≤ (pa (arcs E f) (turns (arcs E f) n) v).fr) := fun v hv => ⟨(hsi.set v hv).1, (HAO.out.2 _ (pa_mem (hsi.set v hv).1)).1⟩
        have HSET := hide hset
        have HLT := hide hlt
        have HOR := hide hor
        have HO1 := hide o1
        have HO2 := hide o2
        have HCA := hide (HFIX.out _ HTo.out).1
        have HKr := hide (HFIX.out _ HTo.out).2.2
        clear hset hlt hor o1 o2 he0 he hsi hrn
        obtain ⟨wz, hwz⟩ : ∃ wz, wz = wr := ⟨_, rfl⟩
        subst hwz
        generalize turns (arcs E f) n = S at *
        have HRD : Hid (∀ v, S.s v = true → v < n → ∀ w', (MdR w' D La n S) → Cells w' (some ⟨ga, 0, none⟩) (ars (arcs E f)) → w'.cell? ⟨La, v, none⟩ = some (.int .i64 (S.k v : Int)) ∧ S.k v < (arcs E f).length ∧ w'.cell? ⟨ga, S.k v * 5, none⟩ = some (.int .i64 (pa (arcs E f) S v).nm) ∧ w'.cell? ⟨ga, S.k v * 5 + 1, none⟩ = some (.int .i64 ((pa (arcs E f) S v).fr.toNat : Int))) := fun v hs hv w' hM hC => by
          obtain ⟨k1, k2⟩ := HPA.out v hs
          obtain ⟨gb, goff, hga, c0, c1, -, -, -⟩ := ars_at hC (S.k v) k1
          cases hga
          simp only [Nat.zero_add] at c0 c1
          rw [← pa_at k1] at c0 c1
          refine ⟨hM.rl.cell hv, k1, c0, ?_⟩
          rw [c1]
          congr 2
          omega
        go_wp2_with fail
        go_loop [9, 13] (fun e y => ∃ i : Nat, i ≤ n ∧ e = .int .i64 ((bk (arcs E f) S i e0 : Nat) : Int) ∧ y = .int .i64 (i : Int)) (fun _ y => n - (intOf y).toNat)
        case atStart => exact ⟨0, by omega, rfl, rfl⟩
        case round =>
          obtain ⟨i, hi, rfl, rfl⟩ := hrel
          by_cases hin : i < n
          · obtain ⟨l0, k1, c0, c1⟩ := HRD.out _ (HSET.out i hin) (HLT.out i hi) _ HMo.out HCA.out
            have hv := HLT.out i hi
            have HN : Hid ((pa (arcs E f) S (bk (arcs E f) S i e0)).fr.toNat = bk (arcs E f) S (i + 1) e0) := rfl
            rw [HN.out] at c1
            generalize hb0 : bk (arcs E f) S i e0 = v at *
            have HB0 := hide hb0
            clear hb0
            go_wp2_with fail
            go_round
            case rel => exact ⟨i + 1, by omega, rfl, by go_num⟩
            case measure => simp [intOf]; omega
          · have e : n = i := by omega
            subst e
            have hpos := HOR.out.pos
            have hle := HOR.out.le
            have HSB := hide HOR.out.set
            have HLB := hide HOR.out.lt
            have HBK := hide HOR.out.back
            have HFI := hide HOR.out.first
            generalize bk (arcs E f) S n e0 = b at *
            have HK0 := hide (Keeps.alloc (Keeps.refl wz) (.cells #[] 3))
            have HO0 : Hid (OwnsI (wz.alloc (.cells #[] 3)) wz.heap.size (.slice (some ⟨wz.heap.size, 0, none⟩) 0 0) []) := World.ownsRow_made (base := wz.heap.size) (e := 3) (size := 1) wz #[] 0 (Nat.le_refl _) (by decide) (by simp)
            have HLZ : Hid (D < wz.heap.size ∧ La < wz.heap.size ∧ ga < D ∧ w.heap.size ≤ wz.heap.size) := ⟨HMo.out.rd.lt, HMo.out.rl.lt, HGD.out ga (by
              have h0 := (HPA.out _ (HSB.out 0)).1
              rw [fpS_some (by intro e; have h5 := ars_len (arcs E f); rw [e] at h5; simp only [List.length_nil] at h5; omega)]; simp), HKr.out.size⟩
            clear HSET HLT HOR
            go_wp2_with fail
            clear q0 q1 hin
            generalize wz.alloc (.cells #[] 3) = W5 at *
            have HM5 := hide (HMo.out.kept HK0.out)
            have HC5 := hide (HCA.out.kept HK0.out)
            have HK5 := hide (HKr.out.trans HK0.out)
            go_loopw [14, 15] (fun v y wx => ∃ i g cap, i ≤ m ∧ v = .slice (some ⟨g, 0, none⟩) i cap ∧ y = .int .i64 ((bk (arcs E f) S i b : Nat) : Int) ∧ Hid (OwnsI wx wz.heap.size (.slice (some ⟨g, 0, none⟩) i cap) (ringL (arcs E f) S b i)) ∧ Hid (MdR wx D La n S) ∧ Hid (Cells wx (some ⟨ga, 0, none⟩) (ars (arcs E f))) ∧ Hid (Keeps w wx)) (fun v _ _ => m - lenOf v)
            case atStart => exact ⟨0, _, _, by omega, rfl, rfl, HO0.out, HM5.out, HC5.out, HK5.out⟩
            case round =>
              obtain ⟨i, g, cap, him, rfl, rfl, HO, HMx, HCx, HKx⟩ := hrel
              clear HO0 HM5 HC5 HK5
              have hgw := HO.out.lt g rfl
              by_cases hend : i = m
              · have HE := hide hend
                have hb1 : bk (arcs E f) S i b = b := by rw [hend]; exact HBK.out
                rw [hb1]
                have hi0 : ((i : Int) == 0) = false := by simp; omega
                have hne : ((b : Int) != (b : Int)) = false := by simp
                clear hb1 hend
                go_wp2_with fail
                go_ret2
                have ho := HO.out
                rw [HE.out] at ho
                have ho2 : OwnsI wr wz.heap.size (.slice (some ⟨g, 0, none⟩) (ringL (arcs E f) S b m).length cap) (ringL (arcs E f) S b m) := by rw [ringL_len]; exact ho
                exact ⟨some ⟨g, 0, none⟩, cap, by rw [HO1.out, HO2.out, ringL_len, ← HE.out]; rfl, by rw [HO2.out]; exact born_owns ho2 HLZ.out.2.2.2, fun h => (nomatch h), HKx.out⟩
              · by_cases hi0 : i = 0
                · subst hi0
                  obtain ⟨l0, k1, c0, c1⟩ := HRD.out _ (HSB.out 0) (HLB.out 0) _ HMx.out HCx.out
                  have hv := HLB.out 0
                  have HN : Hid ((pa (arcs E f) S (bk (arcs E f) S 0 b)).fr.toNat = bk (arcs E f) S (0 + 1) b) := rfl
                  rw [HN.out] at c1
                  have HRS := hide (ringL_succ (arcs E f) S b 0)
                  have hi1 : (((0 : Nat) : Int) == 0) = true := by simp
                  generalize (pa (arcs E f) S (bk (arcs E f) S 0 b)).nm = xnm at c0 HRS
                  generalize hbv : bk (arcs E f) S 0 b = v at *
                  have HBV := hide hbv
                  clear hbv HN
                  have HM2 := hide (its_oneR wr xnm 3)
                  have HO2 := hide (HO.out.alloc (.cells #[.int .i64 xnm] 3))
                  have HK2 := hide (Keeps.alloc (Keeps.refl wr) (.cells #[.int .i64 xnm] 3))
                  have HB2 : Hid (wz.heap.size ≤ (wr.alloc (.cells #[.int .i64 xnm] 3)).heap.size) := by show _ ≤ _; simp; omega
                  obtain ⟨z1, z2, z3, z4⟩ := HLZ.out
                  go_wp2_with (at_builtin; refine app_its rfl (.tmp 102) (.tmp 111) rfl wz.heap.size _ (ringL (arcs E f) S b 0) [xnm] rfl ⟨wr.heap.size, 0, none⟩ 1 rfl HM2.out HO2.out (by rw [ringL_len]; simp <;> omega) HB2.out ?_; intro v' w' ho hg hnn; have htg : Turn [g] wr w' := (Turn.of_keeps HK2.out _).trans' (Turn.of_grown hg (fun k hk => by cases hk; simp)); have l0' := htg.cell (by simp; omega) l0; have c1' := htg.cell (by simp; omega) c1)
                  go_roundw
                  case rel =>
                    obtain ⟨ho1, ho2⟩ := ho
                    rcases ho2 with ⟨_, hz⟩ | ⟨g', cap', cur, e, ho3⟩
                    · simp at hz
                    · refine ⟨0 + 1, g', cap', by omega, by rw [e]; simp [ringL_len], rfl, ?_, HMx.out.turn htg (by simp; omega) (by simp; omega), Cells.turn (s := (some (⟨ga, 0, none⟩ : Addr), ars (arcs E f))) HCx.out htg (fun b' hb' hx => by have := HGD.out b' hb'; simp at hx; omega), htg.keeps HKx.out (by simp; omega)⟩
                      show OwnsI _ _ _ _
                      rw [HRS.out]
                      refine ⟨ho1, .inr ⟨g', cap', cur, by simp [ringL_len], ho3⟩⟩
                  case measure =>
                    rcases ho.2 with ⟨_, hz⟩ | ⟨g', cap', cur, e, ho3⟩
                    · simp at hz
                    · rw [e]
                      simp [lenOf, ringL_len]
                      omega
                · have hi1 : ((i : Int) == 0) = false := by simp; omega
                  obtain ⟨l0, k1, c0, c1⟩ := HRD.out _ (HSB.out i) (HLB.out i) _ HMx.out HCx.out
                  have hv := HLB.out i
                  have HN : Hid ((pa (arcs E f) S (bk (arcs E f) S i b)).fr.toNat = bk (arcs E f) S (i + 1) b) := rfl
                  rw [HN.out] at c1
                  have HRS := hide (ringL_succ (arcs E f) S b i)
                  have hne0 : bk (arcs E f) S i b ≠ b := HFI.out i (by omega) (by omega)
                  have hne : (((bk (arcs E f) S i b : Nat) : Int) != (b : Int)) = true := by simp; omega
                  clear hne0
                  generalize (pa (arcs E f) S (bk (arcs E f) S i b)).nm = xnm at c0 HRS
                  generalize hbv : bk (arcs E f) S i b = v at *
                  have HBV := hide hbv
                  clear hbv HN
                  have HM2 := hide (its_oneR wr xnm 3)
                  have HO2 := hide (HO.out.alloc (.cells #[.int .i64 xnm] 3))
                  have HK2 := hide (Keeps.alloc (Keeps.refl wr) (.cells #[.int .i64 xnm] 3))
                  have HB2 : Hid (wz.heap.size ≤ (wr.alloc (.cells #[.int .i64 xnm] 3)).heap.size) := by show _ ≤ _; simp; omega
                  obtain ⟨z1, z2, z3, z4⟩ := HLZ.out
                  go_wp2_with (at_builtin; refine app_its rfl (.tmp 102) (.tmp 111) rfl wz.heap.size _ (ringL (arcs E f) S b i) [xnm] rfl ⟨wr.heap.size, 0, none⟩ 1 rfl HM2.out HO2.out (by rw [ringL_len]; simp <;> omega) HB2.out ?_; intro v' w' ho hg hnn; have htg : Turn [g] wr w' := (Turn.of_keeps HK2.out _).trans' (Turn.of_grown hg (fun k hk => by cases hk; simp)); have l0' := htg.cell (by simp; omega) l0; have c1' := htg.cell (by simp; omega) c1)
                  go_roundw
                  case rel =>
                    obtain ⟨ho1, ho2⟩ := ho
                    rcases ho2 with ⟨_, hz⟩ | ⟨g', cap', cur, e, ho3⟩
                    · simp at hz
                    · refine ⟨i + 1, g', cap', by omega, by rw [e]; simp [ringL_len], rfl, ?_, HMx.out.turn htg (by simp; omega) (by simp; omega), Cells.turn (s := (some (⟨ga, 0, none⟩ : Addr), ars (arcs E f))) HCx.out htg (fun b' hb' hx => by have := HGD.out b' hb'; simp at hx; omega), htg.keeps HKx.out (by simp; omega)⟩
                      show OwnsI _ _ _ _
                      rw [HRS.out]
                      refine ⟨ho1, .inr ⟨g', cap', cur, by simp [ringL_len], ho3⟩⟩
                  case measure =>
                    rcases ho.2 with ⟨_, hz⟩ | ⟨g', cap', cur, e, ho3⟩
                    · simp at hz
                    · rw [e]
                      simp [lenOf, ringL_len]
                      omega
end Go.Proofs.YtjdbedlgkngdkaaGreatDoor
namespace Go.Proofs.YtjdbedlgkngdkaaGreatDoor
open Go.RowKit Go.Deep
set_option linter.unusedVariables false
set_option linter.unusedSimpArgs false
set_option maxRecDepth 10000

/-- The rest of the arc of a name, over the first j arcs (0: there is none). -/
def restTo (A : List Arc) : Nat → Nat → Int
  | 0, _ => 0
  | j + 1, id => if (A.getD j arc0).nm = (id : Int) then (A.getD j arc0).rs else restTo A j id
def restV (A : List Arc) (id : Nat) : Int := restTo A A.length id
theorem restTo_step {A : List Arc} {j : Nat} (hj : j < A.length) (id : Nat) : restTo A (j + 1) id = if A[j].nm = (id : Int) then A[j].rs else restTo A j id := by
  simp [restTo, List.getD_eq_getElem?_getD, hj]
theorem restTo_no {A : List Arc} {id : Nat} (h : ∀ a ∈ A, a.nm ≠ (id : Int)) : ∀ j, j ≤ A.length → restTo A j id = 0
  | 0, _ => rfl
  | j + 1, hj => by
    rw [restTo_step (by omega), if_neg (h _ (List.getElem_mem (by omega)))]
    exact restTo_no h j (by omega)
theorem restTo_at {A : List Arc} (hp : A.Pairwise (fun a b => a.nm < b.nm)) {i : Nat} (hi : i < A.length) (h0 : 0 ≤ A[i].nm) : ∀ j, j ≤ A.length → i < j → restTo A j A[i].nm.toNat = A[i].rs
  | 0, _, h => absurd h (by omega)
  | j + 1, hj, hij => by
    rw [restTo_step (by omega)]
    by_cases e : j = i
    · subst e
      rw [if_pos (by omega)]
    · have := List.pairwise_iff_getElem.1 hp i j hi (by omega) (by omega)
      rw [if_neg (by omega)]
      exact restTo_at hp hi h0 j (by omega) (by omega)
/-- Arcs of a right flow: their rests by name. -/
theorem rest_iff {n : Nat} {E : List Edg} {f : List Int} (h : flowB (n : Int) E f = true) (id : Nat) : (restV (arcs E f) id ≠ 0 ↔ ∃ a ∈ arcs E f, a.nm = (id : Int)) ∧ 0 ≤ restV (arcs E f) id ∧ restV (arcs E f) id ≤ 1000000000 := by
  have hle := (flowB_true h).2.1
  by_cases hx : ∃ a ∈ arcs E f, a.nm = (id : Int)
  · obtain ⟨a, ha, e⟩ := hx
    obtain ⟨i, hi, rfl⟩ := List.getElem_of_mem ha
    have hok := arc_ok h (List.getElem_mem hi)
    have hr : restV (arcs E f) id = (arcs E f)[i].rs := by
      have h1 : restTo (arcs E f) (arcs E f).length (arcs E f)[i].nm.toNat = (arcs E f)[i].rs := restTo_at (arcs_names (E := E) (f := f) (Nat.le_refl _) (by omega)) hi hok.2.2.2.2.2.2.2.2.2.1 (arcs E f).length (Nat.le_refl _) hi
      rw [e, Int.toNat_natCast] at h1
      exact h1
    rw [hr]
    exact ⟨⟨fun _ => ⟨_, ha, e⟩, fun _ => by omega⟩, by omega, by omega⟩
  · have hr : restV (arcs E f) id = 0 := restTo_no (fun a ha e => hx ⟨a, ha, e⟩) _ (Nat.le_refl _)
    rw [hr]
    exact ⟨⟨fun h => absurd rfl h, fun h => absurd h hx⟩, by omega, by omega⟩
theorem rest_of {n : Nat} {E : List Edg} {f : List Int} (h : flowB (n : Int) E f = true) {a : Arc} (ha : a ∈ arcs E f) : restV (arcs E f) a.nm.toNat = a.rs := by
  have hle := (flowB_true h).2.1
  obtain ⟨i, hi, rfl⟩ := List.getElem_of_mem ha
  have hok := arc_ok h (List.getElem_mem hi)
  exact restTo_at (arcs_names (E := E) (f := f) (Nat.le_refl _) (by omega)) hi hok.2.2.2.2.2.2.2.2.2.1 (arcs E f).length (Nat.le_refl _) hi
/-- Name i of a ring is an arc's, and new. -/
def okAt (A : List Arc) (R : List Int) (i : Nat) : Prop := (∃ a ∈ A, a.nm = R.getD i (-1)) ∧ ∀ k, k < i → R.getD k (-1) ≠ R.getD i (-1)
def vld (A : List Arc) (R : List Int) (i : Nat) : Prop := ∀ j, j < i → okAt A R j
theorem vld_succ {A : List Arc} {R : List Int} {i : Nat} (h : vld A R i) (h' : okAt A R i) : vld A R (i + 1) := fun j hj => by
  by_cases e : j = i
  · subst e; exact h'
  · exact h j (by omega)
theorem getD_at {R : List Int} {i : Nat} (hi : i < R.length) : R.getD i (-1) = R[i] := by simp [List.getD_eq_getElem?_getD, hi]
/-- The rests that are left when i names are used up. -/
def rstTo (A : List Arc) (R : List Int) : Nat → Nat → Int
  | 0, id => restV A id
  | i + 1, id => if R.getD i (-1) = (id : Int) then 0 else rstTo A R i id
theorem rstTo_eq (A : List Arc) (R : List Int) (id : Nat) : ∀ i, rstTo A R i id = restV A id ∨ (rstTo A R i id = 0 ∧ ∃ k, k < i ∧ R.getD k (-1) = (id : Int))
  | 0 => Or.inl rfl
  | i + 1 => by
    unfold rstTo
    split
    · next h => exact Or.inr ⟨rfl, i, by omega, h⟩
    · rcases rstTo_eq A R id i with h | ⟨h, k, hk, e⟩
      · exact Or.inl h
      · exact Or.inr ⟨h, k, by omega, e⟩
theorem rstTo_used {A : List Arc} {R : List Int} {id k : Nat} : ∀ i, k < i → R.getD k (-1) = (id : Int) → rstTo A R i id = 0
  | 0, h, _ => absurd h (by omega)
  | i + 1, h, e => by
    unfold rstTo
    split
    · rfl
    · by_cases ek : k = i
      · subst ek; contradiction
      · exact rstTo_used i (by omega) e
theorem rst_ok {n : Nat} {E : List Edg} {f : List Int} (h : flowB (n : Int) E f = true) {R : List Int} {i id : Nat} (hid : R.getD i (-1) = (id : Int)) : (rstTo (arcs E f) R i id ≠ 0 ↔ okAt (arcs E f) R i) ∧ (rstTo (arcs E f) R i id ≠ 0 → rstTo (arcs E f) R i id = restV (arcs E f) id) ∧ 0 ≤ rstTo (arcs E f) R i id ∧ rstTo (arcs E f) R i id ≤ 1000000000 := by
  have hr := rest_iff h id
  rcases rstTo_eq (arcs E f) R id i with e | ⟨e, k, hk, ek⟩
  · rw [e]
    refine ⟨⟨fun hne => ?_, fun ho => ?_⟩, fun _ => rfl, hr.2.1, hr.2.2⟩
    · refine ⟨by rw [hid]; exact hr.1.1 hne, fun k hk ek => ?_⟩
      have := rstTo_used (A := arcs E f) i hk (ek.trans hid)
      omega
    · refine hr.1.2 ?_
      have := ho.1
      rw [hid] at this; exact this
  · rw [e]
    refine ⟨⟨fun hne => absurd rfl hne, fun ho => absurd (ek.trans hid.symm) (ho.2 k hk)⟩, fun hne => absurd rfl hne, by omega, by omega⟩
/-- The least rest of the first i names. -/
def lst (A : List Arc) (R : List Int) : Nat → Int
  | 0 => 1000000000
  | i + 1 => min (lst A R i) (restV A (R.getD i (-1)).toNat)
theorem lst_bound {n : Nat} {E : List Edg} {f : List Int} (h : flowB (n : Int) E f = true) (R : List Int) : ∀ i, 0 ≤ lst (arcs E f) R i ∧ lst (arcs E f) R i ≤ 1000000000
  | 0 => by simp [lst]
  | i + 1 => by
    have h1 := lst_bound h R i
    have h2 := (rest_iff h (R.getD i (-1)).toNat).2
    unfold lst
    omega
/-- The numbers when amt is put on the first i arcs. -/
def psh (f : List Int) (R : List Int) (amt : Int) : Nat → List Int
  | 0 => f
  | i + 1 => (psh f R amt i).set (R.getD i (-1) / 2).toNat (if R.getD i (-1) % 2 = 0 then (psh f R amt i).getD (R.getD i (-1) / 2).toNat 0 + amt else (psh f R amt i).getD (R.getD i (-1) / 2).toNat 0 - amt)
theorem psh_len (f R : List Int) (amt : Int) : ∀ i, (psh f R amt i).length = f.length
  | 0 => rfl
  | i + 1 => by unfold psh; rw [List.length_set]; exact psh_len f R amt i
theorem psh_bound {f R : List Int} {amt : Int} (hf : ∀ j (hj : j < f.length), 0 ≤ f[j] ∧ f[j] ≤ 1000000000) (h0 : 0 ≤ amt) (h1 : amt ≤ 1000000000) : ∀ i j (hj : j < (psh f R amt i).length), -(1000000000 * (i : Int)) ≤ (psh f R amt i)[j] ∧ (psh f R amt i)[j] ≤ 1000000000 * ((i : Int) + 1)
  | 0, j, hj => by have := hf j hj; simp [psh]; omega
  | i + 1, j, hj => by
    have hl := psh_len f R amt i
    have hl' := psh_len f R amt (i + 1)
    have ih := psh_bound hf h0 h1 (R := R) i
    simp only [psh, List.getElem_set]
    split
    · next e =>
      have hp : (R.getD i (-1) / 2).toNat < (psh f R amt i).length := by omega
      have hg : (psh f R amt i).getD (R.getD i (-1) / 2).toNat 0 = (psh f R amt i)[(R.getD i (-1) / 2).toNat] := by rw [List.getD_eq_getElem?_getD, List.getElem?_eq_getElem hp]; rfl
      rw [hg]
      have := ih _ hp
      split <;> omega
    · have := ih j (by omega)
      omega
/-- Does the push go, and what comes. -/
def pushP (N : Int) (E : List Edg) (f R : List Int) : Prop := flowB N E f = true ∧ R ≠ [] ∧ vld (arcs E f) R R.length ∧ flowB N E (psh f R (lst (arcs E f) R R.length) R.length) = true
noncomputable def pushOk (N : Int) (E : List Edg) (f R : List Int) : Bool := @decide (pushP N E f R) (Classical.propDecidable _)
noncomputable def pushV (N : Int) (E : List Edg) (f R : List Int) : List Int := if pushOk N E f R = true then psh f R (lst (arcs E f) R R.length) R.length else []
theorem push_no {N : Int} {E : List Edg} {f R : List Int} (h : ¬ pushP N E f R) : pushOk N E f R = false ∧ pushV N E f R = [] := by
  have e : pushOk N E f R = false := by simp only [pushOk, decide_eq_false_iff_not]; exact h
  exact ⟨e, by simp [pushV, e]⟩
theorem push_yes {N : Int} {E : List Edg} {f R : List Int} (h : pushP N E f R) : pushOk N E f R = true ∧ pushV N E f R = psh f R (lst (arcs E f) R R.length) R.length := by
  have e : pushOk N E f R = true := by simp only [pushOk, decide_eq_true_eq]; exact h
  exact ⟨e, by simp [pushV, e]⟩
theorem ok_range {n : Nat} {E : List Edg} {f R : List Int} {i : Nat} (h : flowB (n : Int) E f = true) (ho : okAt (arcs E f) R i) : 0 ≤ R.getD i (-1) ∧ R.getD i (-1) < 2 * (E.length : Int) := by
  obtain ⟨⟨a, ha, e⟩, _⟩ := ho
  have := arc_ok h ha
  omega
end Go.Proofs.YtjdbedlgkngdkaaGreatDoor
namespace Go.Proofs.YtjdbedlgkngdkaaGreatDoor
open Go.RowKit Go.Deep
set_option linter.unusedVariables false
set_option linter.unusedSimpArgs false
set_option maxRecDepth 10000

/-- The least so far and whether the name was met, over the first j arcs. -/
def scanL (A : List Arc) (id l0 : Int) : Nat → Int
  | 0 => l0
  | j + 1 => if (A.getD j arc0).nm = id then (if (A.getD j arc0).rs < scanL A id l0 j then (A.getD j arc0).rs else scanL A id l0 j) else scanL A id l0 j
def scanB (A : List Arc) (id : Int) : Nat → Bool
  | 0 => false
  | j + 1 => if (A.getD j arc0).nm = id then true else scanB A id j
theorem scanL_step {A : List Arc} {id l0 : Int} {j : Nat} (hj : j < A.length) : scanL A id l0 (j + 1) = if A[j].nm = id then (if A[j].rs < scanL A id l0 j then A[j].rs else scanL A id l0 j) else scanL A id l0 j := by
  simp [scanL, List.getD_eq_getElem?_getD, hj]
theorem scanB_step {A : List Arc} {id : Int} {j : Nat} (hj : j < A.length) : scanB A id (j + 1) = if A[j].nm = id then true else scanB A id j := by
  simp [scanB, List.getD_eq_getElem?_getD, hj]
theorem scanB_iff {A : List Arc} {id : Int} : ∀ j, j ≤ A.length → (scanB A id j = true ↔ ∃ i, ∃ hi : i < A.length, i < j ∧ A[i].nm = id)
  | 0, _ => ⟨fun h => by simp [scanB] at h, fun ⟨i, _, h, _⟩ => absurd h (by omega)⟩
  | j + 1, hj => by
    rw [scanB_step (by omega)]
    have ih := scanB_iff (A := A) (id := id) j (by omega)
    split
    · next h => exact ⟨fun _ => ⟨j, by omega, by omega, h⟩, fun _ => rfl⟩
    · next h =>
      rw [ih]
      constructor
      · rintro ⟨i, hi, h1, h2⟩; exact ⟨i, hi, by omega, h2⟩
      · rintro ⟨i, hi, h1, h2⟩
        by_cases e : i = j
        · subst e; contradiction
        · exact ⟨i, hi, by omega, h2⟩
theorem scan_none {A : List Arc} {id l0 : Int} : ∀ j, j ≤ A.length → scanB A id j = false → scanL A id l0 j = l0
  | 0, _, _ => rfl
  | j + 1, hj, h => by
    rw [scanB_step (by omega)] at h
    rw [scanL_step (by omega)]
    split at h
    · cases h
    · next hn => rw [if_neg hn]; exact scan_none j (by omega) h
theorem scan_some {A : List Arc} {l0 : Int} (hp : A.Pairwise (fun a b => a.nm < b.nm)) {p : Nat} : ∀ j, j ≤ A.length → scanB A (p : Int) j = true → scanL A (p : Int) l0 j = min l0 (restTo A j p)
  | 0, _, h => by simp [scanB] at h
  | j + 1, hj, h => by
    rw [scanB_step (by omega)] at h
    rw [scanL_step (by omega), restTo_step (by omega)]
    split at h
    · next hn =>
      rw [if_pos hn, if_pos hn]
      have hb : scanB A (p : Int) j = false := by
        cases hc : scanB A (p : Int) j
        · rfl
        · obtain ⟨i, hi, h1, h2⟩ := (scanB_iff j (by omega)).1 hc
          have := List.pairwise_iff_getElem.1 hp i j hi (by omega) h1
          omega
      rw [scan_none j (by omega) hb]
      split <;> omega
    · next hn =>
      rw [if_neg hn, if_neg hn]
      exact scan_some hp j (by omega) h
/-- Was the name there among the first k. -/
def dup (Q : List Int) (id : Int) : Nat → Bool
  | 0 => false
  | k + 1 => if Q.getD k (-1) = id then true else dup Q id k
theorem dup_iff {Q : List Int} {id : Int} : ∀ k, (dup Q id k = true ↔ ∃ i, i < k ∧ Q.getD i (-1) = id)
  | 0 => ⟨fun h => by simp [dup] at h, fun ⟨i, h, _⟩ => absurd h (by omega)⟩
  | k + 1 => by
    have ih := dup_iff (Q := Q) (id := id) k
    unfold dup
    split
    · next h => exact ⟨fun _ => ⟨k, by omega, h⟩, fun _ => rfl⟩
    · next h =>
      rw [ih]
      constructor
      · rintro ⟨i, h1, h2⟩; exact ⟨i, by omega, h2⟩
      · rintro ⟨i, h1, h2⟩
        by_cases e : i = k
        · subst e; contradiction
        · exact ⟨i, by omega, h2⟩
theorem okAt_iff {A : List Arc} {Q : List Int} {i : Nat} : okAt A Q i ↔ (scanB A (Q.getD i (-1)) A.length && !dup Q (Q.getD i (-1)) i) = true := by
  rw [Bool.and_eq_true, Bool.not_eq_true', ← Bool.not_eq_true, dup_iff, scanB_iff _ (Nat.le_refl _)]
  unfold okAt
  constructor
  · rintro ⟨⟨a, ha, e⟩, h⟩
    obtain ⟨j, hj, rfl⟩ := List.getElem_of_mem ha
    exact ⟨⟨j, hj, hj, e⟩, fun ⟨k, hk, ek⟩ => h k hk ek⟩
  · rintro ⟨⟨j, hj, _, e⟩, h⟩
    exact ⟨⟨A[j], List.getElem_mem hj, e⟩, fun k hk ek => h ⟨k, hk, ek⟩⟩
/-- The model's least begins one higher. -/
def lstM (A : List Arc) (Q : List Int) : Nat → Int
  | 0 => 1000000001
  | i + 1 => lst A Q (i + 1)
theorem lstM_step {n : Nat} {E : List Edg} {f : List Int} (h : flowB (n : Int) E f = true) {Q : List Int} {i : Nat} (ho : okAt (arcs E f) Q i) : scanL (arcs E f) (Q.getD i (-1)) (lstM (arcs E f) Q i) (arcs E f).length = lstM (arcs E f) Q (i + 1) := by
  have hle := (flowB_true h).2.1
  have hr := ok_range h ho
  obtain ⟨p, hp⟩ : ∃ p : Nat, Q.getD i (-1) = (p : Int) := ⟨(Q.getD i (-1)).toNat, by omega⟩
  have hb := (okAt_iff.1 ho)
  rw [Bool.and_eq_true] at hb
  rw [hp] at hb ⊢
  have hpw : (arcs E f).Pairwise (fun a b => a.nm < b.nm) := arcs_names (E := E) (f := f) (Nat.le_refl _) (by omega)
  rw [scan_some hpw _ (Nat.le_refl _) hb.1]
  have h2 := (rest_iff h p).2
  show min _ (restV (arcs E f) p) = lst (arcs E f) Q (i + 1)
  unfold lst
  rw [hp, Int.toNat_natCast]
  cases i with
  | zero => simp only [lstM, lst]; omega
  | succ i => rfl
theorem lstM_bound {n : Nat} {E : List Edg} {f : List Int} (h : flowB (n : Int) E f = true) (Q : List Int) (i : Nat) : 0 ≤ lstM (arcs E f) Q i ∧ lstM (arcs E f) Q i ≤ 1000000001 := by
  cases i with
  | zero => simp [lstM]
  | succ i => have := lst_bound h Q (i + 1); simp only [lstM]; omega
end Go.Proofs.YtjdbedlgkngdkaaGreatDoor
namespace Go.Proofs.YtjdbedlgkngdkaaGreatDoor
open Go.RowKit Go.Deep
set_option linter.unusedVariables false
set_option linter.unusedSimpArgs false
set_option maxRecDepth 10000

set_option maxHeartbeats 8000000 in
theorem each_least (G : Gf) (n : Nat) (fa : Option Addr) (fc : Nat) (f : List Int) (rb : Nat) (J : Nat → World → Prop) (fs : List Nat) (w : World) (hnn : G.nn = (n : Int)) (hflow : flowB (n : Int) G.E f = true) (hm : Mem w G.segs) (hf : Cells w fa (its f))
    (hE : ∀ b ∈ fp G.segs, b ∉ fs) (hF : ∀ b ∈ fp [(fa, its f)], b ∉ fs) (hfs : ∀ b ∈ fs, b < w.heap.size)
    (hst : ∀ j w1 w2, J j w1 → Keeps w1 w2 → J j w2)
    (hcl : ∀ j (hj : j < (arcs G.E f).length) w1, J j w1 → Calls Tryz.prog 123 #[(arcs G.E f)[j].v, .pointer (some ⟨rb, 0, none⟩)] w1 fun e w' => e = .returned (.tuple #[]) ∧ J (j + 1) w' ∧ Turn fs w1 w')
    (h0 : J 0 w) :
    Calls Tryz.prog 92 #[G.v, .slice fa f.length fc, .func (Fn.func 123) #[] #[.pointer (some ⟨rb, 0, none⟩)]] w fun e w' => e = .returned (.tuple #[]) ∧ J (arcs G.E f).length w' ∧ Turn fs w w' := by
  obtain ⟨nn, ea, ec, E⟩ := G
  dsimp only [Gf.v, Gf.segs] at *
  subst hnn
  have HM := hide hm
  have HF := hide hf
  have HEf := hide hE
  have HFf := hide hF
  have HST := hide hst
  have HCL := hide hcl
  have HFS := hide hfs
  have HB := hide (gr_box ⟨(n : Int), ea, ec, E⟩ w 36)
  have HK := hide (Keeps.alloc (Keeps.refl w) (.cells #[.int .i64 (n : Int), .slice ea E.length ec] 36))
  have HJ0 := hide (hst 0 _ _ h0 HK.out)
  obtain ⟨hg, hle, hcap, hbal⟩ := flowB_true hflow
  obtain ⟨g1, g2, g3, g4⟩ := graphB_true hg
  have HL := hide hle
  have HG4 := hide g4
  have HCP := hide hcap
  clear hm hf hE hF hst hcl hfs h0 hg hcap hbal g4 hflow
  rw [hle]
  clear hle
  have HS0 : Hid ((w.alloc (.cells #[.int .i64 (n : Int), .slice ea E.length ec] 36)).heap.size = w.heap.size + 1) := by show _ = _; simp
  go_enter Tryz.func92, Tryz.ntmps92
  go_wp2_with fail
  generalize w.alloc (.cells #[.int .i64 (n : Int), .slice ea E.length ec] 36) = W0 at *
  go_loopw [11] (fun y wr => ∃ k : Nat, k ≤ E.length ∧ y = .int .i64 (k : Int) ∧ Hid (J (arcsTo E f k).length wr) ∧ Hid (Turn fs W0 wr)) (fun y _ => E.length - (intOf y).toNat)
  case atStart => exact ⟨0, by omega, rfl, HJ0.out, Turn.refl _ _⟩
  case round =>
    obtain ⟨k, hk, rfl, HJ, HTr⟩ := hrel
    by_cases hlt : k < E.length
    · have hkf : k < f.length := by rw [HL.out]; exact hlt
      have HTw : Hid (Turn fs w wr) := (Turn.of_keeps HK.out _).trans' HTr.out
      obtain ⟨eb0, eoff, ea', c0, c1, c2, c3⟩ := egs_at ((HM.out.turn HTw.out HEf.out) (ea, egs E) (by simp)) k hlt
      obtain ⟨fb, foff, fa', y0⟩ := its_at HF.out k hkf
      have hFf : fb ∉ fs := HFf.out fb (by rw [fp_one, fa', fpS_some (by rw [ne_eq, its_nil]; intro e; rw [e] at hkf; simp at hkf)]; simp)
      replace y0 := HTw.out.cell hFf y0
      have he := edgeB_true (HG4.out k hlt)
      have hcy := HCP.out k hlt hkf
      have HAS : Hid (arcsTo E f (k + 1) = arcsTo E f k ++ (if f[k] < E[k].cp then [(⟨2 * (k : Int), E[k].fr, E[k].to, E[k].cp - f[k], E[k].co⟩ : Arc)] else []) ++ (if 0 < f[k] then [(⟨2 * (k : Int) + 1, E[k].to, E[k].fr, f[k], -E[k].co⟩ : Arc)] else [])) := by
        show _ = _; rw [arcsTo_step hlt hkf]; rfl
      have HA : Hid (f[k] < E[k].cp → ∀ w1, J (arcsTo E f k).length w1 → Calls Tryz.prog 123 #[(⟨2 * (k : Int), E[k].fr, E[k].to, E[k].cp - f[k], E[k].co⟩ : Arc).v, .pointer (some ⟨rb, 0, none⟩)] w1 fun e w' => e = .returned (.tuple #[]) ∧ J ((arcsTo E f k).length + 1) w' ∧ Turn fs w1 w') := fun h w1 hj => by
        obtain ⟨hj', e⟩ := arcs_a hlt hkf h
        have := HCL.out _ hj' w1 hj
        rw [e] at this; exact this
      have HZ : Hid (0 < f[k] → ∀ w1, J (arcsTo E f k ++ (if f[k] < E[k].cp then [(⟨2 * (k : Int), E[k].fr, E[k].to, E[k].cp - f[k], E[k].co⟩ : Arc)] else [])).length w1 → Calls Tryz.prog 123 #[(⟨2 * (k : Int) + 1, E[k].to, E[k].fr, f[k], -E[k].co⟩ : Arc).v, .pointer (some ⟨rb, 0, none⟩)] w1 fun e w' => e = .returned (.tuple #[]) ∧ J ((arcsTo E f k ++ (if f[k] < E[k].cp then [(⟨2 * (k : Int), E[k].fr, E[k].to, E[k].cp - f[k], E[k].co⟩ : Arc)] else [])).length + 1) w' ∧ Turn fs w1 w') := fun h w1 hj => by
        obtain ⟨hj', e⟩ := arcs_z hlt hkf h
        have := HCL.out _ hj' w1 hj
        rw [e] at this; exact this
      have hVf : wr.heap.size ∉ fs := fun hx => by have := HFS.out _ hx; have := HTr.out.size; have := HS0.out; omega
      generalize E[k] = x at *
      generalize f[k] = y at *
      obtain ⟨xfr, xto, xcp, xco⟩ := x
      dsimp only [Arc.v] at c0 c1 c2 c3 he hcy HAS HA HZ
      have HX := hide ea'
      obtain rfl := fa'
      clear ea'
      obtain rfl := HX.out
      obtain ⟨-, -, -, -, -, e5, e6, e7, e8⟩ := he
      have w0 : IntKind.i64.wrap (2 * (k : Int)) = 2 * (k : Int) := by rw [IntKind.wrap_i64]; omega
      have w1 : IntKind.i64.wrap (2 * (k : Int) + 1) = 2 * (k : Int) + 1 := by rw [IntKind.wrap_i64]; omega
      have w2 : IntKind.i64.wrap (xcp - y) = xcp - y := by rw [IntKind.wrap_i64]; omega
      have w3 : IntKind.i64.wrap (-xco) = -xco := by rw [IntKind.wrap_i64]; omega
      go_upto_region 4 with fail
      have HKA := hide (Keeps.alloc (Keeps.refl wr) (.cells #[.int .i64 xfr, .int .i64 xto, .int .i64 xcp, .int .i64 xco] 40))
      have v0 : (wr.alloc (.cells #[.int .i64 xfr, .int .i64 xto, .int .i64 xcp, .int .i64 xco] 40)).cell? ⟨wr.heap.size, 0, none⟩ = some (.int .i64 xfr) := by simp
      have v1 : (wr.alloc (.cells #[.int .i64 xfr, .int .i64 xto, .int .i64 xcp, .int .i64 xco] 40)).cell? ⟨wr.heap.size, 1, none⟩ = some (.int .i64 xto) := by simp
      have v2 : (wr.alloc (.cells #[.int .i64 xfr, .int .i64 xto, .int .i64 xcp, .int .i64 xco] 40)).cell? ⟨wr.heap.size, 2, none⟩ = some (.int .i64 xcp) := by simp
      have v3 : (wr.alloc (.cells #[.int .i64 xfr, .int .i64 xto, .int .i64 xcp, .int .i64 xco] 40)).cell? ⟨wr.heap.size, 3, none⟩ = some (.int .i64 xco) := by simp
      replace y0 := HKA.out.cell y0
      replace HJ := hide (HST.out _ _ _ HJ.out HKA.out)
      have HTA := hide (HTr.out.trans' (Turn.of_keeps HKA.out fs))
      obtain ⟨V, hV⟩ : ∃ V, V = wr.heap.size := ⟨_, rfl⟩
      rw [← hV] at v0 v1 v2 v3 hVf ⊢
      have HV := hide hV
      clear hV c0 c1 c2 c3 HKA HTw
      generalize wr.alloc (.cells #[.int .i64 xfr, .int .i64 xto, .int .i64 xcp, .int .i64 xco] 40) = W2 at *
      clear HV HTr
      by_cases hy1 : y < xcp
      · have HCA := hide (HA.out hy1)
        simp only [if_pos hy1] at HAS HZ
        have hd : decide (y < xcp) = true := by simp [hy1]
        go_quiet (fail)
        have hk3 := (Keeps.refl W2).drewN nq
        replace v0 := hk3.cell v0
        replace v1 := hk3.cell v1
        replace v2 := hk3.cell v2
        replace v3 := hk3.cell v3
        replace y0 := hk3.cell y0
        replace HJ := hide (HST.out _ _ _ HJ.out hk3)
        replace HTA := hide (HTA.out.trans' (Turn.of_keeps hk3 fs))
        clear hk3
        generalize W2.drewN nq = W3 at *
        go_upto_region 5 with fail
        go_region_held3 (fun w' => w'.cell? ⟨V, 0, none⟩ = some (.int .i64 xfr) ∧ w'.cell? ⟨V, 1, none⟩ = some (.int .i64 xto) ∧ w'.cell? ⟨V, 2, none⟩ = some (.int .i64 xcp) ∧ w'.cell? ⟨V, 3, none⟩ = some (.int .i64 xco) ∧ w'.cell? ⟨fb, foff + k, none⟩ = some (.int .i64 y)) (go_keep)
          (first
            | (go_at_call 123
               refine (unhide HCA _ (HST.out _ _ _ HJ.out ((Keeps.refl W3).drew))).mono ?_
               rintro e w4 ⟨rfl, hj, ht⟩
               replace ht := (Turn.of_keeps ((Keeps.refl W3).drew) fs).trans' ht
               replace HJ := hide hj
               replace HTA := hide (HTA.out.trans' ht)
               replace v0 := ht.cell hVf v0
               replace v1 := ht.cell hVf v1
               replace v2 := ht.cell hVf v2
               replace v3 := ht.cell hVf v3
               replace y0 := ht.cell hFf y0
               clear hj ht))
        replace HJ : Hid (J (arcsTo E f k ++ [(⟨2 * (k : Int), xfr, xto, xcp - y, xco⟩ : Arc)]).length w4) := by show J _ _; rw [List.length_append]; exact HJ.out
        by_cases hy2 : 0 < y
        · have HCZ := hide (HZ.out hy2)
          rw [if_pos hy2] at HAS
          have hp : decide (0 < y) = true := by simp [hy2]
          go_upto_region 7 with fail
          go_region_held3 (fun w' => w'.cell? ⟨V, 0, none⟩ = some (.int .i64 xfr) ∧ w'.cell? ⟨V, 1, none⟩ = some (.int .i64 xto) ∧ w'.cell? ⟨V, 2, none⟩ = some (.int .i64 xcp) ∧ w'.cell? ⟨V, 3, none⟩ = some (.int .i64 xco) ∧ w'.cell? ⟨fb, foff + k, none⟩ = some (.int .i64 y)) (go_keep)
            (first
              | (go_at_call 123
                 refine (unhide HCZ _ (HST.out _ _ _ HJ.out ((Keeps.refl w4).drew))).mono ?_
                 rintro e w5 ⟨rfl, hj, ht⟩
                 replace ht := (Turn.of_keeps ((Keeps.refl w4).drew) fs).trans' ht
                 replace HJ := hide hj
                 replace HTA := hide (HTA.out.trans' ht)
                 replace v0 := ht.cell hVf v0
                 replace v1 := ht.cell hVf v1
                 replace v2 := ht.cell hVf v2
                 replace v3 := ht.cell hVf v3
                 replace y0 := ht.cell hFf y0
                 clear hj ht))
          go_wp2_with fail
          go_roundw
          case rel => exact ⟨k + 1, by omega, by go_num, (by show J (arcsTo E f (k + 1)).length _; rw [HAS.out]; simpa using HJ.out), HTA.out⟩
          case measure => simp [intOf]; omega
        · rw [if_neg hy2] at HAS
          have hp : decide (0 < y) = false := by simp; omega
          go_wp2_with fail
          go_roundw
          case rel => exact ⟨k + 1, by omega, by go_num, (by show J (arcsTo E f (k + 1)).length _; rw [HAS.out]; simpa using HJ.out), HTA.out⟩
          case measure => simp [intOf]; omega
      · simp only [if_neg hy1] at HAS HZ
        simp only [List.append_nil] at HAS HZ
        have hd : decide (y < xcp) = false := by simp; omega
        go_quiet (fail)
        have hk3 := (Keeps.refl W2).drewN nq
        replace v0 := hk3.cell v0
        replace v1 := hk3.cell v1
        replace v2 := hk3.cell v2
        replace v3 := hk3.cell v3
        replace y0 := hk3.cell y0
        replace HJ := hide (HST.out _ _ _ HJ.out hk3)
        replace HTA := hide (HTA.out.trans' (Turn.of_keeps hk3 fs))
        clear hk3
        generalize W2.drewN nq = W3 at *
        by_cases hy2 : 0 < y
        · have HCZ := hide (HZ.out hy2)
          rw [if_pos hy2] at HAS
          have hp : decide (0 < y) = true := by simp [hy2]
          go_upto_region 7 with fail
          go_region_held3 (fun w' => w'.cell? ⟨V, 0, none⟩ = some (.int .i64 xfr) ∧ w'.cell? ⟨V, 1, none⟩ = some (.int .i64 xto) ∧ w'.cell? ⟨V, 2, none⟩ = some (.int .i64 xcp) ∧ w'.cell? ⟨V, 3, none⟩ = some (.int .i64 xco) ∧ w'.cell? ⟨fb, foff + k, none⟩ = some (.int .i64 y)) (go_keep)
            (first
              | (go_at_call 123
                 refine (unhide HCZ _ (HST.out _ _ _ HJ.out ((Keeps.refl W3).drew))).mono ?_
                 rintro e w5 ⟨rfl, hj, ht⟩
                 replace ht := (Turn.of_keeps ((Keeps.refl W3).drew) fs).trans' ht
                 replace HJ := hide hj
                 replace HTA := hide (HTA.out.trans' ht)
                 replace v0 := ht.cell hVf v0
                 replace v1 := ht.cell hVf v1
                 replace v2 := ht.cell hVf v2
                 replace v3 := ht.cell hVf v3
                 replace y0 := ht.cell hFf y0
                 clear hj ht))
          go_wp2_with fail
          go_roundw
          case rel => exact ⟨k + 1, by omega, by go_num, (by show J (arcsTo E f (k + 1)).length _; rw [HAS.out]; simpa using HJ.out), HTA.out⟩
          case measure => simp [intOf]; omega
        · rw [if_neg hy2] at HAS
          have hp : decide (0 < y) = false := by simp; omega
          go_wp2_with fail
          go_roundw
          case rel => exact ⟨k + 1, by omega, by go_num, (by show J (arcsTo E f (k + 1)).length _; rw [HAS.out]; simpa using HJ.out), HTA.out⟩
          case measure => simp [intOf]; omega
    · have e : k = E.length := by omega
      subst e
      go_wp2_with fail
      go_end0
      exact ⟨rfl, HJ.out, (Turn.of_keeps HK.out _).trans' HTr.out⟩
end Go.Proofs.YtjdbedlgkngdkaaGreatDoor
