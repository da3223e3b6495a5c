/- Ring of the model. -/
import Derived.Test.YtaboogkioehkeaaSa
import Derived.Test.YtaboogkioehkeaaFfS
import Derived.Test.YtaboogkioehkeaaRg
namespace Go.Proofs.Ytaboogkioehkeaa
open Go.RowKit Go.Deep
set_option linter.unusedVariables false
set_option linter.unusedSimpArgs false
set_option maxRecDepth 10000

/-- What the model's search holds. -/
structure MdR (w : World) (D La n : Nat) (S : Srch) : Prop where
  rd : w.rowIs D 3 n (fun v => .int .i64 (S.d v))
  rl : w.rowIs La 3 n (fun v => .int .i64 (S.k v : Int))
theorem MdR.kept {w w' : World} {D La n : Nat} {S : Srch} (h : MdR w D La n S) (hk : Keeps w w') : MdR w' D La n S := ⟨hk.rowK h.rd, hk.rowK h.rl⟩
theorem MdR.turn {w w' : World} {D La n : Nat} {S : Srch} (h : MdR w D La n S) {fs : List Nat} (ht : Turn fs w w') (h1 : D ∉ fs) (h2 : La ∉ fs) : MdR w' D La n S := ⟨h.rd.of_block (ht.block D h.rd.lt h1), h.rl.of_block (ht.block La h.rl.lt h2)⟩
theorem made_k (A : List Arc) (w : World) (n : Nat) : (w.alloc (.cells (madeCells #[.int .i64 0] n) 3)).rowIs w.heap.size 3 n (fun v => .int .i64 ((turns A 0).k v : Int)) :=
  (World.rowIs_made w (.int .i64 0) n 3).congr (fun i _ => by simp [turns])
set_option maxHeartbeats 16000000 in
theorem ring_spec (G : Gf) (fa : Option Addr) (fc : Nat) (f : List Int) (w : World) (hm : Mem w G.segs) (hf : Cells w fa (its f)) (hl : G.len) (hlf : f.length ≤ 1048576) :
    Calls Try.prog 20 #[G.v, .slice fa f.length fc] w fun e w' => ∃ a c, e = .returned (.tuple #[.slice a (ringV G.nn G.E f).length c, .bool (ringOk G.nn G.E f)]) ∧ Born w w' [(a, its (ringV G.nn G.E f))] ∧ (a = none → c = 0) ∧ Keeps w w' := by
  have HQ := hide (fun w' (hk : Keeps w w') => flow_spec G fa fc f w' (hm.kept hk) (hf.kept hk) hl hlf)
  obtain ⟨nn, ea, ec, E⟩ := G
  have HM := hide hm
  have HF := hide hf
  have HB := hide (gr_box ⟨nn, ea, ec, E⟩ w 25)
  have HK := hide (Keeps.alloc (Keeps.refl w) (.cells #[.int .i64 nn, .slice ea E.length ec] 25))
  dsimp only [Gf.v, Gf.len, Gf.segs] at *
  clear hm hf
  cases hb : flowB nn E f
  · obtain ⟨h1, h2⟩ := ringOk_no hb
    rw [h1, h2]
    clear h1 h2
    go_enter Try.func20, Try.ntmps20
    go_wp2_with fail
    refine (unhide HQ _ HK.out).mono ?_
    rintro e w1 ⟨rfl, hk⟩
    rw [hb]
    go_wp2_with fail
    go_ret2
    exact ⟨none, 0, rfl, born_none _ _, fun _ => rfl, HK.out.trans hk⟩
  have HFL := hide hb
  obtain ⟨hg, hle, -, -⟩ := flowB_true hb
  obtain ⟨g1, g2, g3, -⟩ := graphB_true hg
  obtain ⟨n, rfl⟩ : ∃ n : Nat, nn = (n : Int) := ⟨nn.toNat, by omega⟩
  have hmk := make_ints n (by omega)
  have HL := hide hle
  rw [hle] at HQ hlf ⊢
  clear hg hle
  go_enter Try.func20, Try.ntmps20
  go_wp2_with fail
  refine (unhide HQ _ HK.out).mono ?_
  rintro e w1 ⟨rfl, hk⟩
  rw [hb]
  clear hb
  generalize w.alloc (.cells #[.int .i64 (n : Int), .slice ea E.length ec] 25) = W0 at *
  replace HB := hide (HB.out.kept hk)
  replace HK := hide (HK.out.trans hk)
  clear hk HQ
  obtain ⟨q0, q1⟩ := HB.out
  dsimp only at q0 q1
  have HAR := hide (arcs_spec ⟨(n : Int), ea, ec, E⟩ n fa fc f w1 rfl HFL.out (HM.out.kept HK.out) (HF.out.kept HK.out))
  dsimp only [Gf.v] at HAR
  go_wp2_with fail
  refine (unhide HAR).mono ?_
  rintro e w2 ⟨ga, ca, rfl, hb, hk⟩
  replace HB := hide (HB.out.kept hk)
  replace HK := hide (HK.out.trans hk)
  have HGA := hide (hb.toOwn.mem (some ⟨ga, 0, none⟩, ars (arcs E f)) (by simp))
  clear hb hk HAR q0 q1
  obtain ⟨q0, q1⟩ := HB.out
  dsimp only at q0 q1
  have lb := lt_of_cell q0
  have h120 := (arcs_ok HFL.out).1
  go_upto_region 6 with fail
  have HRD := hide (made_dist (arcs E f) w2 n)
  have HK3 := hide (Keeps.alloc (Keeps.refl w2) (.cells (madeCells #[.int .i64 0] n) 3))
  have HS3 : Hid ((w2.alloc (.cells (madeCells #[.int .i64 0] n) 3)).heap.size = w2.heap.size + 1) := by show _ = _; simp
  have HRL := hide (made_k (arcs E f) (w2.alloc (.cells (madeCells #[.int .i64 0] n) 3)) n)
  have HK4 := hide (Keeps.alloc (Keeps.refl (w2.alloc (.cells (madeCells #[.int .i64 0] n) 3))) (.cells (madeCells #[.int .i64 0] n) 3))
  rw [HS3.out] at HRL
  generalize w2.alloc (.cells (madeCells #[.int .i64 0] n) 3) = W3 at *
  generalize W3.alloc (.cells (madeCells #[.int .i64 0] n) 3) = W4 at *
  have HGL := hide (Cells.lt (s := (some (⟨ga, 0, none⟩ : Addr), ars (arcs E f))) HGA.out)
  replace HB := hide ((HB.out.kept HK3.out).kept HK4.out)
  replace HK := hide ((HK.out.trans HK3.out).trans HK4.out)
  replace HGA := hide ((HGA.out.kept HK3.out).kept HK4.out)
  have HMD : Hid (MdR W4 w2.heap.size (w2.heap.size + 1) n (turns (arcs E f) 0)) := ⟨HK4.out.rowK HRD.out, HRL.out⟩
  obtain ⟨D, hD⟩ : ∃ D, D = w2.heap.size := ⟨_, rfl⟩
  obtain ⟨La, hLa⟩ : ∃ La, La = w2.heap.size + 1 := ⟨_, rfl⟩
  have HDL : Hid (w.heap.size < D ∧ D < La) := ⟨by omega, by omega⟩
  have HGD : Hid (∀ b ∈ fpS (some (⟨ga, 0, none⟩ : Addr), ars (arcs E f)), b < D) := fun b hb => by have := HGL.out b hb; omega
  rw [← hLa, ← hD] at HMD
  rw [← hLa, ← hD]
  clear hD hLa HGL HRD HRL HK3 HK4 HS3 lb q0 q1
  have HFIX : Hid (∀ w', Turn [D, La] W4 w' → Cells w' (some ⟨ga, 0, none⟩) (ars (arcs E f)) ∧ GrAt w' w.heap.size ⟨(n : Int), ea, ec, E⟩ ∧ Keeps w w') := fun w' ht => by
    have h1 := HDL.out
    refine ⟨Cells.turn (s := (some (⟨ga, 0, none⟩ : Addr), ars (arcs E f))) HGA.out ht (fun b hb hx => by have := HGD.out b hb; simp at hx; omega), ⟨ht.cell (by simp; omega) HB.out.1, ht.cell (by simp; omega) HB.out.2⟩, ht.keeps HK.out (by simp; omega)⟩
  have HAO := hide (arcs_ok HFL.out)
  clear HB HK HGA hmk
  go_wp2_with fail
  go_loopw [9, 10] (fun e y wr => ∃ r : Nat, r ≤ n ∧ e = .int .i64 (turns (arcs E f) r).e ∧ y = .int .i64 (r : Int) ∧ Hid (MdR wr D La n (turns (arcs E f) r)) ∧ Hid (Turn [D, La] W4 wr)) (fun _ y _ => n - (intOf y).toNat)
  case atStart => exact ⟨0, by omega, rfl, rfl, HMD.out, Turn.refl _ _⟩
  case round =>
    obtain ⟨r, hr, rfl, rfl, HMo, HTo⟩ := hrel
    clear HMD
    obtain ⟨q0, q1⟩ := (HFIX.out _ HTo.out).2.1
    dsimp only at q0 q1
    by_cases hrn : r < n
    · go_wp2_with fail
      clear q0 q1
      obtain ⟨wo, hwo⟩ : ∃ wo, wo = wr := ⟨_, rfl⟩
      subst hwo
      go_loopw [9, 37] (fun e y wr => ∃ j : Nat, j ≤ (arcs E f).length ∧ e = .int .i64 (turnTo (arcs E f) (r + 1) (turns (arcs E f) r) j).e ∧ y = .int .i64 (j : Int) ∧ Hid (MdR wr D La n (turnTo (arcs E f) (r + 1) (turns (arcs E f) r) j)) ∧ Hid (Turn [D, La] W4 wr)) (fun _ y _ => (arcs E f).length - (intOf y).toNat)
      case atStart => exact ⟨0, by omega, rfl, rfl, ⟨HMo.out.rd, HMo.out.rl⟩, HTo.out⟩
      case round =>
        obtain ⟨j, hj, rfl, rfl, HMi, HTi⟩ := hrel
        by_cases hlt : j < (arcs E f).length
        · have HTS := hide (turnTo_step (n := r + 1) (S := turns (arcs E f) r) hlt)
          have hbd := (turns_mid HAO.out r j hj).bnd
          have haj := HAO.out.2 _ (List.getElem_mem hlt)
          obtain ⟨gb, goff, hga, c0, c1, c2, c3, c4⟩ := ars_at (HFIX.out _ HTi.out).1 j hlt
          cases hga
          simp only [Nat.zero_add] at c0 c1 c2 c3 c4
          have hgl : ga < D := HGD.out ga (by rw [fpS_some (by intro e; have h5 := ars_len (arcs E f); rw [e] at h5; simp only [List.length_nil] at h5; omega)]; simp)
          have e1 : r + 1 - 1 = r := by omega
          rw [e1] at hbd
          have hbd : ∀ v, (turnTo (arcs E f) (r + 1) (turns (arcs E f) r) j).d v ≤ 0 ∧ -4000000000 ≤ (turnTo (arcs E f) (r + 1) (turns (arcs E f) r) j).d v := fun v => by have := hbd v; omega
          clear e1
          generalize turnTo (arcs E f) (r + 1) (turns (arcs E f) r) j = S at *
          have HRY := hide (relax_yes (n := r + 1) (j := j) (a := (arcs E f)[j]) (S := S))
          have HRN := hide (relax_no (n := r + 1) (j := j) (a := (arcs E f)[j]) (S := S))
          generalize (arcs E f)[j] = x at *
          obtain ⟨xnm, xfr, xto, xrs, xco⟩ := x
          dsimp only at c0 c1 c2 c3 c4 haj HRY HRN
          obtain ⟨a0, a1, a2, a3, a4, a5, a6⟩ := haj
          obtain ⟨u, rfl⟩ : ∃ u : Nat, xfr = (u : Int) := ⟨xfr.toNat, by omega⟩
          obtain ⟨v, rfl⟩ : ∃ v : Nat, xto = (v : Int) := ⟨xto.toNat, by omega⟩
          simp only [Int.toNat_natCast] at HRY HRN
          have hu : u < n := by omega
          have hv : v < n := by omega
          have hdu := hbd u
          have hdv := hbd v
          have w0 : IntKind.i64.wrap (S.d u + xco) = S.d u + xco := by rw [IntKind.wrap_i64]; omega
          have HKA := hide (Keeps.alloc (Keeps.refl wr) (.cells #[.int .i64 xnm, .int .i64 (u : Int), .int .i64 (v : Int), .int .i64 xrs, .int .i64 xco] 73))
          have HBX := hide (arc_box wr ⟨xnm, (u : Int), (v : Int), xrs, xco⟩ 73)
          dsimp only at HBX
          have hDl := HMi.out.rd.lt
          have hLl := HMi.out.rl.lt
          go_upto_region 14 with fail
          obtain ⟨V, hV⟩ : ∃ V, V = wr.heap.size := ⟨_, rfl⟩
          rw [← hV] at HBX hDl hLl
          rw [← hV]
          clear hV c0 c1 c2 c3 c4
          generalize wr.alloc (.cells #[.int .i64 xnm, .int .i64 (u : Int), .int .i64 (v : Int), .int .i64 xrs, .int .i64 xco] 73) = W5 at *
          replace HMi := hide (HMi.out.kept HKA.out)
          replace HTi := hide (HTi.out.trans' (Turn.of_keeps HKA.out _))
          obtain ⟨v0, v1, v2, v3, v4⟩ := HBX.out
          have r0 := HMi.out.rd.cell (i := u) hu
          have r1 := HMi.out.rd.cell (i := v) hv
          clear HKA HBX
          by_cases hx : S.d u + xco < S.d v
          · have hd : decide (S.d u + xco < S.d v) = true := by simp [hx]
            replace HRY := hide (HRY.out hx)
            clear HRN
            go_quiet (fail)
            have hk6 := (Keeps.refl W5).drewN nq
            replace v0 := hk6.cell v0
            replace v1 := hk6.cell v1
            replace v2 := hk6.cell v2
            replace v4 := hk6.cell v4
            replace r0 := hk6.cell r0
            replace r1 := hk6.cell r1
            replace HMi := hide (HMi.out.kept hk6)
            replace HTi := hide (HTi.out.trans' (Turn.of_keeps hk6 _))
            clear hk6 v3
            generalize W5.drewN nq = W6 at *
            have f1 := HMi.out.rd.frozen v
            have hDL := HDL.out
            go_upto_region 15 with fail
            go_big_region
            have ht : Turn [D] W6 (W6.setCell ⟨D, v, none⟩ (.int .i64 (S.d u + xco))).drew := (Turn.set (by simp) _).trans' (Turn.of_keeps ((Keeps.refl _).drew) _)
            have HRD := hide (((Keeps.refl _).drew).rowK (HMi.out.rd.set v (.int .i64 (S.d u + xco))))
            have HRL := hide (HMi.out.rl.of_block (ht.block La HMi.out.rl.lt (by simp; omega)))
            replace v2 := ht.cell (by simp; omega) v2
            replace HTi := hide (HTi.out.trans' (ht.mono (by simp)))
            clear ht v0 v1 v4 r0 r1 f1 HMi
            generalize (W6.setCell ⟨D, v, none⟩ (.int .i64 (S.d u + xco))).drew = W7 at *
            have l1 := HRL.out.cell (i := v) hv
            have fl := HRL.out.frozen v
            go_wp2_with fail
            have ht : Turn [La] W7 (W7.setCell ⟨La, v, none⟩ (.int .i64 (j : Int))) := Turn.set (by simp) _
            go_roundw
            case rel =>
              refine ⟨j + 1, by omega, by rw [HTS.out, HRY.out], by go_num, ?_, HTi.out.trans' (ht.mono (by simp))⟩
              rw [HTS.out, HRY.out]
              refine ⟨(HRD.out.of_block (ht.block D HRD.out.lt (by simp; omega))).congr (fun i _ => ?_), (HRL.out.set v (.int .i64 (j : Int))).congr (fun i _ => ?_)⟩
              · by_cases e : i = v
                · subst e; simp [upd_same]
                · simp [e, upd_other _ e]
              · by_cases e : i = v
                · subst e; simp [upd_same]
                · simp [e, upd_other _ e]
            case measure => simp [intOf]; omega
          · have hd : decide (S.d u + xco < S.d v) = false := by simp; omega
            replace HRN := hide (HRN.out hx)
            clear HRY
            go_quiet (fail)
            go_wp2_with fail
            go_roundw
            case rel => exact ⟨j + 1, by omega, by rw [HTS.out, HRN.out], by go_num, by rw [HTS.out, HRN.out]; exact HMi.out.kept ((Keeps.refl _).drewN _), HTi.out.trans' (Turn.of_keeps ((Keeps.refl _).drewN _) _)⟩
            case measure => simp [intOf]; omega
        · have e : j = (arcs E f).length := by omega
          subst e
          go_wp2_with fail
          go_roundw
          case rel => exact ⟨r + 1, by omega, rfl, by go_num, HMi.out, HTi.out⟩
          case measure => simp [intOf]; omega
    · have e : n = r := by omega
      subst e
      by_cases he : (turns (arcs E f) n).e = -1
      · obtain ⟨h1, h2⟩ := ring_none (r := n - 1) HFL.out (by omega) (by rw [show n - 1 + 1 = n by omega]; exact he)
        rw [he]
        have HO1 := hide h1
        have HO2 := hide h2
        have HKr := hide (HFIX.out _ HTo.out).2.2
        clear h1 h2 he
        go_wp2_with fail
        go_ret2
        exact ⟨none, 0, by rw [HO1.out, HO2.out]; rfl, by rw [HO2.out]; exact born_none _ _, fun _ => rfl, HKr.out⟩
      · have hsi : SInv (arcs E f) n (arcs E f).length (turns (arcs E f) n) := by have := turns_inv HAO.out (n - 1); rw [show n - 1 + 1 = n by omega] at this; exact this
        obtain ⟨hset, hlt, m, hor⟩ := on_ring HAO.out (by omega) hsi he
        obtain ⟨o1, o2⟩ := ring_yes HFL.out he hor
        have he0 := (hsi.fin he).1
        obtain ⟨e0, he0⟩ : ∃ e0 : Nat, (turns (arcs E f) n).e = (e0 : Int) := ⟨(turns (arcs E f) n).e.toNat, by omega⟩
        rw [he0] at hset hlt hor o2
        rw [he0]
        simp only [Int.toNat_natCast] at hset hlt hor o2
        have HPA : Hid (∀ v, (turns (arcs E f) n).s v = true → (turns (arcs E f) n).k v < (arcs E f).length ∧ 0 ≤ (pa (arcs E f) (turns (arcs E f) n) v).fr) := fun v hv => ⟨(hsi.set v hv).1, (HAO.out.2 _ (pa_mem (hsi.set v hv).1)).1⟩
        have HSET := hide hset
        have HLT := hide hlt
        have HOR := hide hor
        have HO1 := hide o1
        have HO2 := hide o2
        have HCA := hide (HFIX.out _ HTo.out).1
        have HKr := hide (HFIX.out _ HTo.out).2.2
        clear hset hlt hor o1 o2 he0 he hsi hrn
        obtain ⟨wz, hwz⟩ : ∃ wz, wz = wr := ⟨_, rfl⟩
        subst hwz
        generalize turns (arcs E f) n = S at *
        have HRD : Hid (∀ v, S.s v = true → v < n → ∀ w', (MdR w' D La n S) → Cells w' (some ⟨ga, 0, none⟩) (ars (arcs E f)) → w'.cell? ⟨La, v, none⟩ = some (.int .i64 (S.k v : Int)) ∧ S.k v < (arcs E f).length ∧ w'.cell? ⟨ga, S.k v * 5, none⟩ = some (.int .i64 (pa (arcs E f) S v).nm) ∧ w'.cell? ⟨ga, S.k v * 5 + 1, none⟩ = some (.int .i64 ((pa (arcs E f) S v).fr.toNat : Int))) := fun v hs hv w' hM hC => by
          obtain ⟨k1, k2⟩ := HPA.out v hs
          obtain ⟨gb, goff, hga, c0, c1, -, -, -⟩ := ars_at hC (S.k v) k1
          cases hga
          simp only [Nat.zero_add] at c0 c1
          rw [← pa_at k1] at c0 c1
          refine ⟨hM.rl.cell hv, k1, c0, ?_⟩
          rw [c1]
          congr 2
          omega
        go_wp2_with fail
        go_loop [9, 13] (fun e y => ∃ i : Nat, i ≤ n ∧ e = .int .i64 ((bk (arcs E f) S i e0 : Nat) : Int) ∧ y = .int .i64 (i : Int)) (fun _ y => n - (intOf y).toNat)
        case atStart => exact ⟨0, by omega, rfl, rfl⟩
        case round =>
          obtain ⟨i, hi, rfl, rfl⟩ := hrel
          by_cases hin : i < n
          · obtain ⟨l0, k1, c0, c1⟩ := HRD.out _ (HSET.out i hin) (HLT.out i hi) _ HMo.out HCA.out
            have hv := HLT.out i hi
            have HN : Hid ((pa (arcs E f) S (bk (arcs E f) S i e0)).fr.toNat = bk (arcs E f) S (i + 1) e0) := rfl
            rw [HN.out] at c1
            generalize hb0 : bk (arcs E f) S i e0 = v at *
            have HB0 := hide hb0
            clear hb0
            go_wp2_with fail
            go_round
            case rel => exact ⟨i + 1, by omega, rfl, by go_num⟩
            case measure => simp [intOf]; omega
          · have e : n = i := by omega
            subst e
            have hpos := HOR.out.pos
            have hle := HOR.out.le
            have HSB := hide HOR.out.set
            have HLB := hide HOR.out.lt
            have HBK := hide HOR.out.back
            have HFI := hide HOR.out.first
            generalize bk (arcs E f) S n e0 = b at *
            have HK0 := hide (Keeps.alloc (Keeps.refl wz) (.cells #[] 3))
            have HO0 : Hid (OwnsI (wz.alloc (.cells #[] 3)) wz.heap.size (.slice (some ⟨wz.heap.size, 0, none⟩) 0 0) []) := World.ownsRow_made (base := wz.heap.size) (e := 3) (size := 1) wz #[] 0 (Nat.le_refl _) (by decide) (by simp)
            have HLZ : Hid (D < wz.heap.size ∧ La < wz.heap.size ∧ ga < D ∧ w.heap.size ≤ wz.heap.size) := ⟨HMo.out.rd.lt, HMo.out.rl.lt, HGD.out ga (by
              have h0 := (HPA.out _ (HSB.out 0)).1
              rw [fpS_some (by intro e; have h5 := ars_len (arcs E f); rw [e] at h5; simp only [List.length_nil] at h5; omega)]; simp), HKr.out.size⟩
            clear HSET HLT HOR
            go_wp2_with fail
            clear q0 q1 hin
            generalize wz.alloc (.cells #[] 3) = W5 at *
            have HM5 := hide (HMo.out.kept HK0.out)
            have HC5 := hide (HCA.out.kept HK0.out)
            have HK5 := hide (HKr.out.trans HK0.out)
            go_loopw [14, 15] (fun v y wx => ∃ i g cap, i ≤ m ∧ v = .slice (some ⟨g, 0, none⟩) i cap ∧ y = .int .i64 ((bk (arcs E f) S i b : Nat) : Int) ∧ Hid (OwnsI wx wz.heap.size (.slice (some ⟨g, 0, none⟩) i cap) (ringL (arcs E f) S b i)) ∧ Hid (MdR wx D La n S) ∧ Hid (Cells wx (some ⟨ga, 0, none⟩) (ars (arcs E f))) ∧ Hid (Keeps w wx)) (fun v _ _ => m - lenOf v)
            case atStart => exact ⟨0, _, _, by omega, rfl, rfl, HO0.out, HM5.out, HC5.out, HK5.out⟩
            case round =>
              obtain ⟨i, g, cap, him, rfl, rfl, HO, HMx, HCx, HKx⟩ := hrel
              clear HO0 HM5 HC5 HK5
              have hgw := HO.out.lt g rfl
              by_cases hend : i = m
              · have HE := hide hend
                have hb1 : bk (arcs E f) S i b = b := by rw [hend]; exact HBK.out
                rw [hb1]
                have hi0 : ((i : Int) == 0) = false := by simp; omega
                have hne : ((b : Int) != (b : Int)) = false := by simp
                clear hb1 hend
                go_wp2_with fail
                go_ret2
                have ho := HO.out
                rw [HE.out] at ho
                have ho2 : OwnsI wr wz.heap.size (.slice (some ⟨g, 0, none⟩) (ringL (arcs E f) S b m).length cap) (ringL (arcs E f) S b m) := by rw [ringL_len]; exact ho
                exact ⟨some ⟨g, 0, none⟩, cap, by rw [HO1.out, HO2.out, ringL_len, ← HE.out]; rfl, by rw [HO2.out]; exact born_owns ho2 HLZ.out.2.2.2, fun h => (nomatch h), HKx.out⟩
              · by_cases hi0 : i = 0
                · subst hi0
                  obtain ⟨l0, k1, c0, c1⟩ := HRD.out _ (HSB.out 0) (HLB.out 0) _ HMx.out HCx.out
                  have hv := HLB.out 0
                  have HN : Hid ((pa (arcs E f) S (bk (arcs E f) S 0 b)).fr.toNat = bk (arcs E f) S (0 + 1) b) := rfl
                  rw [HN.out] at c1
                  have HRS := hide (ringL_succ (arcs E f) S b 0)
                  have hi1 : (((0 : Nat) : Int) == 0) = true := by simp
                  generalize (pa (arcs E f) S (bk (arcs E f) S 0 b)).nm = xnm at c0 HRS
                  generalize hbv : bk (arcs E f) S 0 b = v at *
                  have HBV := hide hbv
                  clear hbv HN
                  have HM2 := hide (its_oneR wr xnm 3)
                  have HO2 := hide (HO.out.alloc (.cells #[.int .i64 xnm] 3))
                  have HK2 := hide (Keeps.alloc (Keeps.refl wr) (.cells #[.int .i64 xnm] 3))
                  have HB2 : Hid (wz.heap.size ≤ (wr.alloc (.cells #[.int .i64 xnm] 3)).heap.size) := by show _ ≤ _; simp; omega
                  obtain ⟨z1, z2, z3, z4⟩ := HLZ.out
                  go_wp2_with (at_builtin; refine app_its rfl (.tmp 102) (.tmp 111) rfl wz.heap.size _ (ringL (arcs E f) S b 0) [xnm] rfl ⟨wr.heap.size, 0, none⟩ 1 rfl HM2.out HO2.out (by rw [ringL_len]; simp <;> omega) HB2.out ?_; intro v' w' ho hg hnn; have htg : Turn [g] wr w' := (Turn.of_keeps HK2.out _).trans' (Turn.of_grown hg (fun k hk => by cases hk; simp)); have l0' := htg.cell (by simp; omega) l0; have c1' := htg.cell (by simp; omega) c1)
                  go_roundw
                  case rel =>
                    obtain ⟨ho1, ho2⟩ := ho
                    rcases ho2 with ⟨_, hz⟩ | ⟨g', cap', cur, e, ho3⟩
                    · simp at hz
                    · refine ⟨0 + 1, g', cap', by omega, by rw [e]; simp [ringL_len], rfl, ?_, HMx.out.turn htg (by simp; omega) (by simp; omega), Cells.turn (s := (some (⟨ga, 0, none⟩ : Addr), ars (arcs E f))) HCx.out htg (fun b' hb' hx => by have := HGD.out b' hb'; simp at hx; omega), htg.keeps HKx.out (by simp; omega)⟩
                      show OwnsI _ _ _ _
                      rw [HRS.out]
                      refine ⟨ho1, .inr ⟨g', cap', cur, by simp [ringL_len], ho3⟩⟩
                  case measure =>
                    rcases ho.2 with ⟨_, hz⟩ | ⟨g', cap', cur, e, ho3⟩
                    · simp at hz
                    · rw [e]
                      simp [lenOf, ringL_len]
                      omega
                · have hi1 : ((i : Int) == 0) = false := by simp; omega
                  obtain ⟨l0, k1, c0, c1⟩ := HRD.out _ (HSB.out i) (HLB.out i) _ HMx.out HCx.out
                  have hv := HLB.out i
                  have HN : Hid ((pa (arcs E f) S (bk (arcs E f) S i b)).fr.toNat = bk (arcs E f) S (i + 1) b) := rfl
                  rw [HN.out] at c1
                  have HRS := hide (ringL_succ (arcs E f) S b i)
                  have hne0 : bk (arcs E f) S i b ≠ b := HFI.out i (by omega) (by omega)
                  have hne : (((bk (arcs E f) S i b : Nat) : Int) != (b : Int)) = true := by simp; omega
                  clear hne0
                  generalize (pa (arcs E f) S (bk (arcs E f) S i b)).nm = xnm at c0 HRS
                  generalize hbv : bk (arcs E f) S i b = v at *
                  have HBV := hide hbv
                  clear hbv HN
                  have HM2 := hide (its_oneR wr xnm 3)
                  have HO2 := hide (HO.out.alloc (.cells #[.int .i64 xnm] 3))
                  have HK2 := hide (Keeps.alloc (Keeps.refl wr) (.cells #[.int .i64 xnm] 3))
                  have HB2 : Hid (wz.heap.size ≤ (wr.alloc (.cells #[.int .i64 xnm] 3)).heap.size) := by show _ ≤ _; simp; omega
                  obtain ⟨z1, z2, z3, z4⟩ := HLZ.out
                  go_wp2_with (at_builtin; refine app_its rfl (.tmp 102) (.tmp 111) rfl wz.heap.size _ (ringL (arcs E f) S b i) [xnm] rfl ⟨wr.heap.size, 0, none⟩ 1 rfl HM2.out HO2.out (by rw [ringL_len]; simp <;> omega) HB2.out ?_; intro v' w' ho hg hnn; have htg : Turn [g] wr w' := (Turn.of_keeps HK2.out _).trans' (Turn.of_grown hg (fun k hk => by cases hk; simp)); have l0' := htg.cell (by simp; omega) l0; have c1' := htg.cell (by simp; omega) c1)
                  go_roundw
                  case rel =>
                    obtain ⟨ho1, ho2⟩ := ho
                    rcases ho2 with ⟨_, hz⟩ | ⟨g', cap', cur, e, ho3⟩
                    · simp at hz
                    · refine ⟨i + 1, g', cap', by omega, by rw [e]; simp [ringL_len], rfl, ?_, HMx.out.turn htg (by simp; omega) (by simp; omega), Cells.turn (s := (some (⟨ga, 0, none⟩ : Addr), ars (arcs E f))) HCx.out htg (fun b' hb' hx => by have := HGD.out b' hb'; simp at hx; omega), htg.keeps HKx.out (by simp; omega)⟩
                      show OwnsI _ _ _ _
                      rw [HRS.out]
                      refine ⟨ho1, .inr ⟨g', cap', cur, by simp [ringL_len], ho3⟩⟩
                  case measure =>
                    rcases ho.2 with ⟨_, hz⟩ | ⟨g', cap', cur, e, ho3⟩
                    · simp at hz
                    · rw [e]
                      simp [lenOf, ringL_len]
                      omega
end Go.Proofs.Ytaboogkioehkeaa
