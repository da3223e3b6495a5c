/- Texts of the verifier, joined: DrLd, DrE, DrOp. -/
import Derived.Test.YtdlgoccbmemjgaaGreatDoorPFnLog22
import Derived.Test.YtdlgoccbmemjgaaGreatDoorPFnLog20
import Derived.Deep.RegionWith
import Derived.Test.YtdlgoccbmemjgaaGreatDoorPFnLog17
namespace Go.Proofs.YtdlgoccbmemjgaaGreatDoor
open Go.RowKit Go.Deep
set_option linter.unusedVariables false
set_option linter.unusedSimpArgs false
set_option maxRecDepth 10000
/-- A log of the call's own, on a right disk of a few cells. -/
def IsLog (w w' : World) (e : Ending) : Prop := ∃ v M nx ep, e = .returned v ∧ LogRes w w' v M nx ep ∧ FewM M
set_option maxRecDepth 100000 in
set_option maxHeartbeats 8000000 in
theorem log_any {B0 B : Nat} {a : Option Addr} {len cap : Nat} {w : World} (s : Dr B0 B a len cap w) :
    Calls Tryz.prog 51 #[.pointer (some ⟨B, 0, none⟩)] w fun e w' => IsLog w w' e ∧ Dr B0 B a len cap w' ∧ w.grownBy w' (some B) := by
  have hB := s.lt
  have hB0 := s.le
  have HS0 := hide (s.grown (World.grownBy_alloc w (.cells #[.slice none 0 0, .slice none 0 0, .int .i64 0, .int .i64 0] 28) none) (by simp) (by simp))
  have HG0 := hide (grown_alloc (grown_refl w (some B)) (.cells #[.slice none 0 0, .slice none 0 0, .int .i64 0, .int .i64 0] 28))
  have HR0 := hide (World.rowIs_alloc w #[.slice none 0 0, .slice none 0 0, .int .i64 0, .int .i64 0] 28 _ (four_row _ _ _ _))
  clear s
  go_enter Tryz.func51, Tryz.ntmps51
  go_wp2_with fail
  refine (below_any 14 HS0.out (by omega) (by omega)).mono ?_
  rintro e w1 ⟨⟨x, x0, x6, rfl⟩, s1, g1⟩
  have HS1 := hide s1
  have HG1 := hide (HG0.out.trans g1)
  have HR1 := hide (grown_row g1 (by intro e; injection e with e; omega) HR0.out)
  clear s1 g1 HS0 HG0 HR0
  have HN := hide (new_open (n := 3 + x) (by omega) (by omega))
  go_wp2_with fail
  refine (disknew_spec (3 + x) w1).mono ?_
  rintro e w2 ⟨v, rfl, hr, hk⟩
  obtain ⟨ca0, cc0, cs0, da0, dc0, ds0, rfl, he0, hok0, hna0, hnd0, hb0⟩ := hr
  replace hk := hk.trans (Keeps.alloc (Keeps.refl w2) (.cells #[.slice ca0 cs0.length cc0, .slice da0 ds0.length dc0] 26))
  have HP := hide (logopen_spec ca0 cc0 cs0 da0 dc0 ds0 _ (hb0.mem.kept (Keeps.alloc (Keeps.refl w2) (.cells #[.slice ca0 cs0.length cc0, .slice da0 ds0.length dc0] 26))) hok0)
  rw [he0] at HP
  have HS2 := hide (HS1.out.grown (row := none) (hk.grows none) (by simp) (by simp))
  have HG2 := hide (HG1.out.trans (hk.grows (some B)))
  have HR2 := hide (Keeps.row hk HR1.out)
  clear hb0 hk he0 hok0 hna0 hnd0 HS1 HG1 HR1
  go_wp2_with fail
  refine HP.out.mono ?_
  rintro e w3 ⟨ca, cc, cs, da, dc, ds, ea, ec, rfl, he, hok, hna, hnd, hb, hk⟩
  have hz := HR2.out.lt
  have hz2 := hk.size
  have HA := hide (Keeps.alloc (Keeps.refl w3) (.cells #[.slice ca cs.length cc, .slice da ds.length dc, .int .i64 (opN (newM (3 + x))), .int .i64 (opE (newM (3 + x)))] 28))
  have HDS : Hid (LoSt (w.heap.size + 1) w3.heap.size ca cc cs da dc ds (opN (newM (3 + x))) (opE (newM (3 + x))) (w3.alloc (.cells #[.slice ca cs.length cc, .slice da ds.length dc, .int .i64 (opN (newM (3 + x))), .int .i64 (opE (newM (3 + x)))] 28))) :=
    ⟨World.rowIs_alloc w3 #[.slice ca cs.length cc, .slice da ds.length dc, .int .i64 (opN (newM (3 + x))), .int .i64 (opE (newM (3 + x)))] 28 _ (four_row _ _ _ _), hb.toOwn.left.kept HA.out, fun b hb' => by have h1 := hb.new b (by rw [fp_append]; exact List.mem_append_left _ hb'); have h2 := hb.toOwn.left.mem.lt b hb'; omega, by omega, hok, hna, hnd⟩
  have HM : Hid (FewM (dat cs ds)) := by show FewM _; rw [he]; exact HN.out.1.open HN.out.2
  have HS3 := hide (HS2.out.grown (row := none) ((hk.trans HA.out).grows none) (by simp) (by simp))
  have HG3 := hide (HG2.out.trans ((hk.trans HA.out).grows (some B)))
  have HR3 := hide (Keeps.row (hk.trans HA.out) HR2.out)
  clear hb hk he hok hna hnd HS2 HG2 HR2 HN HA HP
  go_wp2_with fail
  generalize w3.heap.size = Lb at *
  generalize w3.alloc (.cells #[.slice ca cs.length cc, .slice da ds.length dc, .int .i64 (opN (newM (3 + x))), .int .i64 (opE (newM (3 + x)))] 28) = W3 at *
  generalize opN (newM (3 + x)) = nx at *
  generalize opE (newM (3 + x)) = ep at *
  refine (below_any 12 HS3.out (by omega) (by omega)).mono ?_
  rintro e w4 ⟨⟨y, y0, y7, rfl⟩, s3, g3⟩
  have HS4 := hide s3
  have HG4 := hide (HG3.out.trans g3)
  have HR4 := hide (grown_row g3 (by intro e; injection e with e; omega) HR3.out)
  have HD4 := hide (HDS.out.grown g3 (by omega))
  obtain ⟨n0, rfl⟩ := Int.eq_ofNat_of_zero_le y0
  clear s3 g3 HS3 HG3 HR3 HDS
  go_wp2_with fail
  go_loopw [8] (fun y wr => ∃ (n : Nat) (ca : Option Addr) (cc : Nat) (cs : List Bs) (da : Option Addr) (dc : Nat) (ds : List Wr) (nx ep : Int), n ≤ 11 ∧ y = .int .i64 (n : Int) ∧ Hid (LoSt (w.heap.size + 1) Lb ca cc cs da dc ds nx ep wr) ∧ Hid (FewM (dat cs ds)) ∧ Hid (Dr B0 B a len cap wr) ∧ Hid (w.grownBy wr (some B)) ∧ Hid (wr.rowIs w.heap.size 28 4 (logRow (.slice none 0 0) (.slice none 0 0) (.int .i64 0) (.int .i64 0)))) (fun y _ => (intOf y).toNat)
  case atStart => exact ⟨n0, ca, cc, cs, da, dc, ds, nx, ep, by omega, rfl, HD4, HM, HS4, HG4, HR4⟩
  case round =>
    clear HD4 HM HS4 HG4 HR4
    obtain ⟨n, ca, cc, cs, da, dc, ds, nx, ep, hn, rfl, HD, HM, HS, HG, HR⟩ := hrel
    have hzr := HR.out.lt
    have hLb := HD.out.new
    by_cases hlt : 0 < n
    · go_wp2_with fail
      refine (below_any 8 HS.out (by omega) (by omega)).mono ?_
      rintro e w4 ⟨⟨k, k0, k6, rfl⟩, s4, g4⟩
      have HS4 := hide s4
      have HG4 := hide (HG.out.trans g4)
      have HR4 := hide (grown_row g4 (by intro e; injection e with e; omega) HR.out)
      have HD4 := hide (HD.out.grown g4 (by omega))
      clear s4 g4 HS HG HR HD
      have q0 := HD4.out.row.cell (i := 0) (by decide)
      have q1 := HD4.out.row.cell (i := 1) (by decide)
      have q2 := HD4.out.row.cell (i := 2) (by decide)
      have q3 := HD4.out.row.cell (i := 3) (by decide)
      have qf0 := HD4.out.row.frozen 0
      have qf1 := HD4.out.row.frozen 1
      have qf2 := HD4.out.row.frozen 2
      have qf3 := HD4.out.row.frozen 3
      have ql := HD4.out.row.lt
      have hz4 := HG4.out.size
      have lR4 := HR4.out.lt
      simp [logRow] at q0 q1 q2 q3
      by_cases hk0 : k = 0
      · subst hk0
        go_wp2_with fail
        refine (logsync_spec ca cc cs da dc ds nx ep w4 HD4.out.own.mem HD4.out.ok).mono ?_
        rintro e w7 ⟨v, rfl, hr, hk7⟩
        obtain ⟨ca', cc', cs', da', dc', ds', rfl, he, hok, hna, hnd, hb⟩ := hr
        have HM7 : Hid (FewM (dat cs' ds')) := by show FewM _; rw [he]; exact HM.out.sync
        have HD7 := hide (HD4.out.put (nx' := syncN (dat cs ds) nx) (ep' := syncN (dat cs ds) ep) (Keeps.refl w4) (by omega) hb hk7 hok hna hnd)
        have HS7 := hide (HS4.out.grown (row := none) (hk7.grows none) (by simp) (by simp))
        have HG7 := hide (HG4.out.trans (hk7.grows (some B)))
        have HR7 := hide (Keeps.row hk7 HR4.out)
        have r7 := Keeps.row hk7 HD4.out.row
        have y0 := r7.cell (i := 0) (by decide)
        have y1 := r7.cell (i := 1) (by decide)
        have y2 := r7.cell (i := 2) (by decide)
        have y3 := r7.cell (i := 3) (by decide)
        have yf0 := r7.frozen 0
        have yf1 := r7.frozen 1
        have yf2 := r7.frozen 2
        have yf3 := r7.frozen 3
        have yl := r7.lt
        simp [logRow] at y0 y1 y2 y3
        clear hk7 hb he hok hna hnd HS4 HG4 HR4 HD4 HM r7
        generalize syncN (dat cs ds) nx = nx2 at *
        generalize syncN (dat cs ds) ep = ep2 at *
        go_wp2_with fail
        go_roundw
        case rel => exact ⟨n - 1, ca', cc', cs', da', dc', ds', nx2, ep2, by omega, by congr 1; omega, HD7, HM7, (((HS7.out.set (by omega) (by omega) _).set (by omega) (by omega) _).set (by omega) (by omega) _).set (by omega) (by omega) _, grown_new (grown_new (grown_new (grown_new HG7.out (by omega)) (by omega)) (by omega)) (by omega), (((HR7.out.setOther (by simp; omega) _).setOther (by simp; omega) _).setOther (by simp; omega) _).setOther (by simp; omega) _⟩
        case measure => simp [intOf]; omega
      · have hk0' : (k == 0) = false := beq_eq_false_iff_ne.2 hk0
        by_cases hk1 : k = 1
        · skip
          subst hk1
          have HT4 : Hid (DrSt w B0 B a len cap w4) := ⟨HS4.out, HG4.out, HR4.out, hB, hB0⟩
          have HL4 := hide HD4.out.own.mem.lt
          have hKA := Keeps.alloc (Keeps.refl w4) (.cells #[] 3)
          have HO0 : Hid (OwnsI (w4.alloc (.cells #[] 3)) w4.heap.size (.slice (some ⟨w4.heap.size, 0, none⟩) 0 0) []) := World.ownsRow_made (base := w4.heap.size) (e := 3) (size := 1) w4 #[] 0 (Nat.le_refl _) (by decide) rfl
          have HT0 := hide (HT4.out.kept hKA)
          have HD0 := hide (HD4.out.kept hKA)
          have hz0 : w4.heap.size ≤ (w4.alloc (.cells #[] 3)).heap.size := hKA.size
          clear HS4 HG4 HR4 HT4 HD4 hKA q0 q1 q2 q3 qf0 qf1 qf2 qf3
          go_wp2_with fail
          go_loopw [10, 11] (fun x y wi => ∃ (i : Nat) (K : List Int), i ≤ 5 ∧ y = .int .i64 (i : Int) ∧ Hid (K.length = i) ∧ Hid (OwnsI wi w4.heap.size x K) ∧ Hid (DrSt w B0 B a len cap wi) ∧ Hid (LoSt (w.heap.size + 1) Lb ca cc cs da dc ds nx ep wi) ∧ w4.heap.size ≤ wi.heap.size) (fun _ y _ => 5 - (intOf y).toNat)
          case atStart => exact ⟨0, [], by omega, rfl, rfl, HO0, HT0, HD0, hz0⟩
          case round =>
            clear HO0 HT0 HD0 hz0
            obtain ⟨i, K, hi, rfl, HKl, HOr, HTr, HDr, hzi⟩ := hrel
            by_cases hlt5 : i < 5
            · have hka := Keeps.alloc (Keeps.refl wr) (.cells #[.int .i64 0, .int .i64 50, .int .i64 127, .int .i64 128] 3)
              have hTb := HTr.out.b
              go_wp2_with fail
              refine (below_any 4 (HTr.out.kept hka).dr (by omega) (by omega)).mono ?_
              rintro _ w5 ⟨⟨z, z0, z4, rfl⟩, s5, g5⟩
              obtain ⟨z, rfl⟩ := Int.eq_ofNat_of_zero_le z0
              have hz4' : z < 4 := by omega
              obtain ⟨d, hd⟩ := four_at hz4'
              have hd5 := many_inL wr g5 hd (by omega)
              have HT5 := hide (((HTr.out.kept hka).drawn s5 g5).kept (Keeps.alloc (Keeps.refl w5) (.cells #[.int .i64 d] 3)))
              have HD5 := hide (((HDr.out.kept hka).grown g5 (by omega)).kept (Keeps.alloc (Keeps.refl w5) (.cells #[.int .i64 d] 3)))
              have HO5 : Hid (OwnsI (w5.alloc (.cells #[.int .i64 d] 3)) w4.heap.size u10 K) := World.ownsRow.alloc (World.ownsRow.kept (World.ownsRow.alloc HOr.out (.cells #[.int .i64 0, .int .i64 50, .int .i64 127, .int .i64 128] 3)) g5 (.inr fun e => by have := (HOr.out.lt B e).1; omega)) _
              have HC5 := hide (one_in w5 d)
              have HLn : Hid (K.length + [d].length ≤ 1048576) := by show _ ≤ _; have := HKl.out; simp; omega
              have hz5 := g5.size
              rw [size_alloc1] at hz5
              clear s5 g5 hd hka HTr HDr
              go_wp2_with (at_builtin; refine app_its rfl _ _ rfl w4.heap.size _ K [d] rfl ⟨w5.heap.size, 0, none⟩ 1 rfl HC5.out HO5.out HLn.out (by rw [size_alloc1]; omega) ?_; intro v' w' ho hg)
              have hlo : ∀ r, u10.ownBlock = some r → w4.heap.size ≤ r := fun r hr => (HO5.out.lt r hr).1
              have HT6 := hide (HT5.out.turned hg (fun r hr => by have := hlo r hr; omega))
              have HD6 := hide (HD5.out.turned hg (fun r hr => by have h1 := hlo r hr; exact ⟨by omega, fun b hb => by have := HL4.out b hb; omega⟩))
              have HOn := hide ho
              have hz6 := hg.size
              rw [size_alloc1] at hz6
              clear ho hg HT5 HD5 HO5 HC5
              go_roundw
              case rel => exact ⟨i + 1, K ++ [d], by omega, by go_num, by show _ = _; have := HKl.out; simp; omega, HOn, HT6, HD6, by omega⟩
              case measure => simp [intOf]; omega
            · have e5 : i = 5 := by omega
              subst e5
              obtain ⟨ka, kc, hve, _, _, _, hown, _⟩ := Own.of_owns HOr.out
              subst hve
              have HKc := hide hown.one
              have q0 := HDr.out.row.cell (i := 0) (by decide)
              have q1 := HDr.out.row.cell (i := 1) (by decide)
              have q2 := HDr.out.row.cell (i := 2) (by decide)
              have q3 := HDr.out.row.cell (i := 3) (by decide)
              have qd := HDr.out.row.lt
              have hKl5 : K.length ≤ 1048576 := by have := HKl.out; omega
              simp [logRow] at q0 q1 q2 q3
              obtain ⟨M, eM⟩ : ∃ M, crashM (dat cs ds) (keepN K) = M := ⟨_, rfl⟩
              have HM5 : Hid (FewM M) := by show FewM M; rw [← eM]; exact HM.out.crash (keepN_le K)
              clear hown HOr HKl
              go_wp2_with fail
              refine (diskcrash_spec ca cc cs da dc ds ka kc K _ HDr.out.own.mem HDr.out.ok HKc.out hKl5).mono ?_
              rintro _ w5 ⟨v, rfl, hr, hk5⟩
              obtain ⟨cad, ccd, csd, dad, dcd, dsd, rfl, hed, hokd, hnad, hndd, hbd⟩ := hr
              have HEd : Hid (dat csd dsd = M) := hed.trans eM
              have HOkd := hide hokd
              have HMd := hide hbd.mem
              have HT5 := hide (HTr.out.kept hk5)
              have HD5 := hide (HDr.out.kept hk5)
              have hz5 := hk5.size
              clear hk5 hed hokd hnad hndd hbd HTr HDr HKc q0 q1 q2 q3 qd
              go_wp2_with fail
              refine (logopen_spec cad ccd csd dad dcd dsd _ HMd.out HOkd.out).mono ?_
              rintro _ w6 ⟨ca', cc', cs', da', dc', ds', ea', ec', rfl, he, hok, hna, hnd, hb, hk6⟩
              rw [HEd.out] at he ⊢
              have HE6 := hide he
              have HN6 : Hid (NxSt w B0 B a len cap Lb w6.heap.size ca cc cs da dc ds nx ep ca' cc' cs' da' dc' ds' (opN M) (opE M) (w6.alloc (.cells #[.slice ca' cs'.length cc', .slice da' ds'.length dc', .int .i64 (opN M), .int .i64 (opE M)] 28))) := NxSt.mkNew (HT5.out.kept hk6) (HD5.out.kept hk6) hb.toOwn.left (fun b hb' => by have := hb.new b (by rw [fp_append]; exact List.mem_append_left _ hb'); omega) hok hna hnd
              have hD6 := HD5.out.kept hk6
              have r0 := hD6.row.cell (i := 0) (by decide)
              have r1 := hD6.row.cell (i := 1) (by decide)
              have r2 := hD6.row.cell (i := 2) (by decide)
              have r3 := hD6.row.cell (i := 3) (by decide)
              have rf0 := hD6.row.frozen 0
              have rf1 := hD6.row.frozen 1
              have rf2 := hD6.row.frozen 2
              have rf3 := hD6.row.frozen 3
              have rl := hD6.row.lt
              simp [logRow] at r0 r1 r2 r3
              clear hk6 he hok hna hnd hb HT5 HD5 HMd HOkd HEd hD6
              by_cases hc : opC M = 0
              · have HM7 : Hid (FewM (dat cs' ds')) := by show FewM _; rw [HE6.out]; exact HM5.out.open hc
                rw [hc]
                clear HM HE6 hc HM5 eM
                generalize opN M = nx2 at *
                generalize opE M = ep2 at *
                go_wp2_with fail
                go_roundw
                case rel =>
                  obtain ⟨t1, t2⟩ := HN6.out.take
                  rw [World.setCell_alloc_past _ Lb 0 _ rl, World.setCell_alloc_past _ Lb 1 _ (by simpa [World.setCell] using rl), World.setCell_alloc_past _ Lb 2 _ (by simpa [World.setCell] using rl), World.setCell_alloc_past _ Lb 3 _ (by simpa [World.setCell] using rl)] at t1 t2
                  exact ⟨n - 1, ca', cc', cs', da', dc', ds', nx2, ep2, by omega, by congr 1; omega, t1, HM7, t2.dr, t2.g, t2.r⟩
                case measure => simp [intOf]; omega
              · have hc' : (opC M == 0) = false := beq_eq_false_iff_ne.2 hc
                clear HE6 HM5 eM
                generalize opC M = code at *
                generalize opN M = nx2 at *
                generalize opE M = ep2 at *
                go_wp2_with fail
                go_roundw
                case rel => exact ⟨n - 1, ca, cc, cs, da, dc, ds, nx, ep, by omega, by congr 1; omega, HN6.out.lo, HM, HN6.out.st.dr, HN6.out.st.g, HN6.out.st.r⟩
                case measure => simp [intOf]; omega
        · have hk1' : (k == 1) = false := beq_eq_false_iff_ne.2 hk1
          go_wp2_with fail
          have HT4 : Hid (DrSt w B0 B a len cap w4) := ⟨HS4.out, HG4.out, HR4.out, hB, hB0⟩
          have HL4 := hide HD4.out.own.mem.lt
          clear HS4 HG4 HR4
          apply onceT14 (F := fun (VB : Nat) (ek ey ec et em ef : Int) (eb : Bool) (ca' : Option Addr) (cc' : Nat) (cs' : List Bs) (da' : Option Addr) (dc' : Nat) (ds' : List Wr) w' => NxSt w B0 B a len cap Lb VB ca cc cs da dc ds nx ep ca' cc' cs' da' dc' ds' (addN (dat cs ds) nx ep (evB ek ey ec et em ef eb)) (addE (dat cs ds) nx ep (evB ek ey ec et em ef eb)) w' ∧ dat cs' ds' = addM (dat cs ds) nx ep (evB ek ey ec et em ef eb) (bodyR ek ey ec et em ef eb))
          · skip
            go_region_with (first
              | (go_at_call 68
                 (first
                  | (refine (event_any (HT4.out.kept ((Keeps.refl w4).drew)).dr).mono ?_
                     rintro _ w5 ⟨⟨ek, ey, ec, et, em, ef, eb, rfl⟩, s5, g5⟩
                     have HT5 := hide ((HT4.out.kept ((Keeps.refl w4).drew)).drawn s5 g5)
                     have HD5 := hide ((HD4.out.kept ((Keeps.refl w4).drew)).grown g5 (by omega))
                     have hz5 := g5.size
                     have hz5' : w4.heap.size ≤ w5.heap.size := hz5
                     clear s5 g5)
                  | (refine (event_any (HT4.out.kept ((Keeps.alloc (Keeps.refl w4) (.cells #[.slice none 0 0, .slice none 0 0, .int .i64 0, .int .i64 0] 28)).drew)).dr).mono ?_
                     rintro _ w5 ⟨⟨ek, ey, ec, et, em, ef, eb, rfl⟩, s5, g5⟩
                     have HT5 := hide ((HT4.out.kept ((Keeps.alloc (Keeps.refl w4) (.cells #[.slice none 0 0, .slice none 0 0, .int .i64 0, .int .i64 0] 28)).drew)).drawn s5 g5)
                     have HD5 := hide ((HD4.out.kept ((Keeps.alloc (Keeps.refl w4) (.cells #[.slice none 0 0, .slice none 0 0, .int .i64 0, .int .i64 0] 28)).drew)).grown g5 (by omega))
                     have hz5 := g5.size
                     have HV5 := hide (grown_row g5 (by intro e; injection e with e; omega) (Keeps.row ((Keeps.refl _).drew) (World.rowIs_alloc w4 #[.slice none 0 0, .slice none 0 0, .int .i64 0, .int .i64 0] 28 _ (four_row _ _ _ _))))
                     have hz5' : w4.heap.size < w5.heap.size := HV5.out.lt
                     clear s5 g5)
                  | (refine (event_any (HT4.out.kept (Keeps.refl w4)).dr).mono ?_
                     rintro _ w5 ⟨⟨ek, ey, ec, et, em, ef, eb, rfl⟩, s5, g5⟩
                     have HT5 := hide ((HT4.out.kept (Keeps.refl w4)).drawn s5 g5)
                     have HD5 := hide ((HD4.out.kept (Keeps.refl w4)).grown g5 (by omega))
                     have hz5 := g5.size
                     have hz5' : w4.heap.size ≤ w5.heap.size := hz5
                     clear s5 g5))
                 have u0 := HD5.out.row.cell (i := 0) (by decide)
                 have u1 := HD5.out.row.cell (i := 1) (by decide)
                 have u2 := HD5.out.row.cell (i := 2) (by decide)
                 have u3 := HD5.out.row.cell (i := 3) (by decide)
                 simp [logRow] at u0 u1 u2 u3
                 have ul := HD5.out.row.lt)
              | (go_at_call 8
                 (first
                  | (refine (logadd_spec ca cc cs da dc ds nx ep ek ey ec et em ef eb _ (HD5.out.own.mem.kept (Keeps.refl w5)) HD5.out.ok).mono ?_
                     rintro _ w6 ⟨v, rfl, hr, hk6⟩
                     obtain ⟨ca', cc', cs', da', dc', ds', rfl, he, hok, hna, hnd, hb⟩ := hr
                     have HV6 := hide (Keeps.row hk6 HV5.out)
                     have HN6 := hide (fun b hb' => by have := hb.new b hb'; omega : ∀ b ∈ fp (dsk ca' cs' da' ds'), w4.heap.size < b)
                     have x0 := HV6.out.cell (i := 0) (by decide)
                     have x1 := HV6.out.cell (i := 1) (by decide)
                     have x2 := HV6.out.cell (i := 2) (by decide)
                     have x3 := HV6.out.cell (i := 3) (by decide)
                     have xf0 := HV6.out.frozen 0
                     have xf1 := HV6.out.frozen 1
                     have xf2 := HV6.out.frozen 2
                     have xf3 := HV6.out.frozen 3
                     have xl := HV6.out.lt
                     simp [logRow] at x0 x1 x2 x3
                     have HE6 := hide he
                     have HOk := hide hok
                     have HNa := hide hna
                     have HNd := hide hnd
                     have HB6 := hide (hb.old (Keeps.refl w5))
                     have HT6 := hide (HT5.out.kept ((Keeps.refl w5).trans hk6))
                     have HD6 := hide (HD5.out.kept ((Keeps.refl w5).trans hk6))
                     clear hk6 he hok hna hnd hb)
                  | (refine (logadd_spec ca cc cs da dc ds nx ep ek ey ec et em ef eb _ (HD5.out.own.mem.kept (Keeps.refl w5)) HD5.out.ok).mono ?_
                     rintro _ w6 ⟨v, rfl, hr, hk6⟩
                     obtain ⟨ca', cc', cs', da', dc', ds', rfl, he, hok, hna, hnd, hb⟩ := hr
                     have HE6 := hide he
                     have HOk := hide hok
                     have HNa := hide hna
                     have HNd := hide hnd
                     have HB6 := hide (hb.old (Keeps.refl w5))
                     have HT6 := hide (HT5.out.kept ((Keeps.refl w5).trans hk6))
                     have HD6 := hide (HD5.out.kept ((Keeps.refl w5).trans hk6))
                     clear hk6 he hok hna hnd hb)
                  | (refine (logadd_spec ca cc cs da dc ds nx ep ek ey ec et em ef eb _ (HD5.out.own.mem.kept (Keeps.alloc (Keeps.refl w5) (.cells #[.slice none 0 0, .slice none 0 0, .int .i64 0, .int .i64 0] 28))) HD5.out.ok).mono ?_
                     rintro _ w6 ⟨v, rfl, hr, hk6⟩
                     obtain ⟨ca', cc', cs', da', dc', ds', rfl, he, hok, hna, hnd, hb⟩ := hr
                     have HV6 := hide (Keeps.row hk6 (World.rowIs_alloc w5 #[.slice none 0 0, .slice none 0 0, .int .i64 0, .int .i64 0] 28 _ (four_row _ _ _ _)))
                     have HN6 := hide (fun b hb' => by have h := hb.new b hb'; rw [size_alloc1] at h; omega : ∀ b ∈ fp (dsk ca' cs' da' ds'), w5.heap.size < b)
                     have x0 := HV6.out.cell (i := 0) (by decide)
                     have x1 := HV6.out.cell (i := 1) (by decide)
                     have x2 := HV6.out.cell (i := 2) (by decide)
                     have x3 := HV6.out.cell (i := 3) (by decide)
                     have xf0 := HV6.out.frozen 0
                     have xf1 := HV6.out.frozen 1
                     have xf2 := HV6.out.frozen 2
                     have xf3 := HV6.out.frozen 3
                     have xl := HV6.out.lt
                     simp [logRow] at x0 x1 x2 x3
                     have HE6 := hide he
                     have HOk := hide hok
                     have HNa := hide hna
                     have HNd := hide hnd
                     have HB6 := hide (hb.old (Keeps.alloc (Keeps.refl w5) (.cells #[.slice none 0 0, .slice none 0 0, .int .i64 0, .int .i64 0] 28)))
                     have HT6 := hide (HT5.out.kept ((Keeps.alloc (Keeps.refl w5) (.cells #[.slice none 0 0, .slice none 0 0, .int .i64 0, .int .i64 0] 28)).trans hk6))
                     have HD6 := hide (HD5.out.kept ((Keeps.alloc (Keeps.refl w5) (.cells #[.slice none 0 0, .slice none 0 0, .int .i64 0, .int .i64 0] 28)).trans hk6))
                     clear hk6 he hok hna hnd hb))))
            all_goals first
              | (have hF := NxSt.mkSet (nx' := addN (dat cs ds) nx ep (evB ek ey ec et em ef eb)) (ep' := addE (dat cs ds) nx ep (evB ek ey ec et em ef eb)) (VB := w4.heap.size) HT6.out HD6.out HV6.out (by omega) (fun b hb => HL4.out b hb) HB6.out.toOwn HN6.out HOk.out HNa.out HNd.out
                 generalize w4.heap.size = VB at *
                 exact ⟨VB, ek, ey, ec, et, em, ef, eb, ca', cc', cs', da', dc', ds', rfl, hF, HE6.out⟩)
              | (have hF := NxSt.mkSet (nx' := addN (dat cs ds) nx ep (evB ek ey ec et em ef eb)) (ep' := addE (dat cs ds) nx ep (evB ek ey ec et em ef eb)) (VB := w5.heap.size) HT6.out HD6.out HV6.out (by omega) (fun b hb => by have := HL4.out b hb; omega) HB6.out.toOwn HN6.out HOk.out HNa.out HNd.out
                 generalize w5.heap.size = VB at *
                 exact ⟨VB, ek, ey, ec, et, em, ef, eb, ca', cc', cs', da', dc', ds', rfl, hF, HE6.out⟩)
              | (have hF := NxSt.mkNew (nx' := addN (dat cs ds) nx ep (evB ek ey ec et em ef eb)) (ep' := addE (dat cs ds) nx ep (evB ek ey ec et em ef eb)) HT6.out HD6.out HB6.out.toOwn (fun b hb => by have := HB6.out.new b hb; omega) HOk.out HNa.out HNd.out
                 generalize w6.heap.size = VB at *
                 exact ⟨VB, ek, ey, ec, et, em, ef, eb, ca', cc', cs', da', dc', ds', rfl, hF, HE6.out⟩)
          · rintro VB ek ey ec et em ef eb ca' cc' cs' da' dc' ds' w6 ⟨hN, he⟩
            have HN := hide hN
            have HE := hide he
            clear hN he HT4 HL4 HD4 q0 q1 q2 q3 qf0 qf1 qf2 qf3 ql hz4 lR4
            have q0 := HN.out.nw.row.cell (i := 0) (by decide)
            have q1 := HN.out.nw.row.cell (i := 1) (by decide)
            have q2 := HN.out.nw.row.cell (i := 2) (by decide)
            have q3 := HN.out.nw.row.cell (i := 3) (by decide)
            have r0 := HN.out.lo.row.cell (i := 0) (by decide)
            have r1 := HN.out.lo.row.cell (i := 1) (by decide)
            have r2 := HN.out.lo.row.cell (i := 2) (by decide)
            have r3 := HN.out.lo.row.cell (i := 3) (by decide)
            have rf0 := HN.out.lo.row.frozen 0
            have rf1 := HN.out.lo.row.frozen 1
            have rf2 := HN.out.lo.row.frozen 2
            have rf3 := HN.out.lo.row.frozen 3
            have rl := HN.out.lo.row.lt
            have hne := HN.out.ne
            have qz := HN.out.nw.row.lt
            simp [logRow] at q0 q1 q2 q3 r0 r1 r2 r3
            have HAd := hide (fun h => HM.out.add (L := bodyR ek ey ec et em ef eb) (nx := nx) (ep := ep) (e := evB ek ey ec et em ef eb) (Nat.le_trans (bodyR_length ek ey ec et em ef eb) (by omega)) h)
            by_cases hc : addC (dat cs ds) nx ep (evB ek ey ec et em ef eb) = 0
            · have HM7 : Hid (FewM (dat cs' ds')) := by show FewM _; rw [HE.out]; exact HAd.out hc
              rw [hc]
              clear HM HAd HE hc
              generalize addN (dat cs ds) nx ep (evB ek ey ec et em ef eb) = nx2 at *
              generalize addE (dat cs ds) nx ep (evB ek ey ec et em ef eb) = ep2 at *
              go_wp2_with fail
              go_roundw
              case rel =>
                obtain ⟨t1, t2⟩ := HN.out.take
                exact ⟨n - 1, ca', cc', cs', da', dc', ds', nx2, ep2, by omega, by congr 1; omega, t1, HM7, t2.dr, t2.g, t2.r⟩
              case measure => simp [intOf]; omega
            · have hc' : (addC (dat cs ds) nx ep (evB ek ey ec et em ef eb) == 0) = false := beq_eq_false_iff_ne.2 hc
              clear HAd HE
              generalize addC (dat cs ds) nx ep (evB ek ey ec et em ef eb) = code at *
              generalize addN (dat cs ds) nx ep (evB ek ey ec et em ef eb) = nx2 at *
              generalize addE (dat cs ds) nx ep (evB ek ey ec et em ef eb) = ep2 at *
              go_wp2_with fail
              go_roundw
              case rel => exact ⟨n - 1, ca, cc, cs, da, dc, ds, nx, ep, by omega, by congr 1; omega, HN.out.lo, HM, HN.out.st.dr, HN.out.st.g, HN.out.st.r⟩
              case measure => simp [intOf]; omega
    · have e : n = 0 := by omega
      subst e
      have q0 := HD.out.row.cell (i := 0) (by decide)
      have q1 := HD.out.row.cell (i := 1) (by decide)
      have q2 := HD.out.row.cell (i := 2) (by decide)
      have q3 := HD.out.row.cell (i := 3) (by decide)
      have z0 := HR.out.cell (i := 0) (by decide)
      have z1 := HR.out.cell (i := 1) (by decide)
      have z2 := HR.out.cell (i := 2) (by decide)
      have z3 := HR.out.cell (i := 3) (by decide)
      have f0 := HR.out.frozen 0
      have f1 := HR.out.frozen 1
      have f2 := HR.out.frozen 2
      have f3 := HR.out.frozen 3
      simp [logRow] at q0 q1 q2 q3 z0 z1 z2 z3
      go_wp2_with fail
      have r9 := row_four HR.out (.slice ca cs.length cc) (.slice da ds.length dc) (.int .i64 nx) (.int .i64 ep)
      have o0 := r9.cell (i := 0) (by decide)
      have o1 := r9.cell (i := 1) (by decide)
      have o2 := r9.cell (i := 2) (by decide)
      have o3 := r9.cell (i := 3) (by decide)
      simp only [logRow, if_true, Nat.one_ne_zero, if_false, Nat.reduceEqDiff] at o0 o1 o2 o3
      have ht : Turn [w.heap.size] wr ((((wr.setCell ⟨w.heap.size, 0, none⟩ (.slice ca cs.length cc)).setCell ⟨w.heap.size, 1, none⟩ (.slice da ds.length dc)).setCell ⟨w.heap.size, 2, none⟩ (.int .i64 nx)).setCell ⟨w.heap.size, 3, none⟩ (.int .i64 ep)) := (((Turn.set (by simp) _).trans' (Turn.set (by simp) _)).trans' (Turn.set (by simp) _)).trans' (Turn.set (by simp) _)
      have hBn : Born w ((((wr.setCell ⟨w.heap.size, 0, none⟩ (.slice ca cs.length cc)).setCell ⟨w.heap.size, 1, none⟩ (.slice da ds.length dc)).setCell ⟨w.heap.size, 2, none⟩ (.int .i64 nx)).setCell ⟨w.heap.size, 3, none⟩ (.int .i64 ep)) (dsk ca cs da ds) :=
        ⟨HD.out.own.turn ht (fun b hb hx => by have h1 := (HD.out.far b hb).1; have h2 : b = w.heap.size := (by simpa using hx); omega), fun b hb => by have := (HD.out.far b hb).1; omega⟩
      refine bodyPost_ret (v := logV ca cs.length cc da ds.length dc nx ep) ?_ rfl ⟨⟨_, dat cs ds, nx, ep, rfl, ⟨ca, cc, cs, da, dc, ds, rfl, rfl, HD.out.ok, HD.out.na, HD.out.nd, hBn⟩, HM.out⟩, (((HS.out.set (by omega) (by omega) _).set (by omega) (by omega) _).set (by omega) (by omega) _).set (by omega) (by omega) _, grown_new (grown_new (grown_new (grown_new HG.out (Nat.le_refl _)) (Nat.le_refl _)) (Nat.le_refl _)) (Nat.le_refl _)⟩
      clear hBn ht r9 HD HM HS HG HR q0 q1 q2 q3 z0 z1 z2 z3 f0 f1 f2 f3
      revert o0 o1 o2 o3
      generalize World.setCell (World.setCell _ _ _) _ _ = W'
      intro o0 o1 o2 o3
      simp [results, Tryz.results51, go_sem, o0, o1, o2, o3]
end Go.Proofs.YtdlgoccbmemjgaaGreatDoor
namespace Go.Proofs.YtdlgoccbmemjgaaGreatDoor
open Go.RowKit Go.Deep
set_option linter.unusedVariables false
set_option linter.unusedSimpArgs false
set_option maxRecDepth 10000
/-- A disk of the call's own. -/
def AnyDisk (w w' : World) (e : Ending) : Prop := ∃ v M, e = .returned v ∧ DiskRes w w' v M ∧ M.cells.length ≤ 6 ∧ M.dirty.length ≤ 7
theorem ccells_cons (b : Bs) (cs : List Bs) : ccells (b :: cs) = b.v :: ccells cs := by simp [ccells, Bs.cells]
theorem wcells_cons (x : Wr) (ds : List Wr) : wcells (x :: ds) = .int .i64 x.i :: x.b.v :: wcells ds := by simp [wcells, Wr.cells]
/-- The first cell's bytes are another list. -/
theorem own_first {w : World} {b off : Nat} {c0 : Bs} {ct : List Bs} {da : Option Addr} {ds : List Wr} (h : Own w (dsk (some ⟨b, off, none⟩) (c0 :: ct) da ds)) {n : Bs} (hn : Own w [n.seg]) (hap : ∀ x ∈ fp (dsk (some ⟨b, off, none⟩) (c0 :: ct) da ds), x ∉ fp [n.seg]) :
    Own (w.setCell ⟨b, off, none⟩ n.v) (dsk (some ⟨b, off, none⟩) (n :: ct) da ds) := by
  have e : dsk (some ⟨b, off, none⟩) (c0 :: ct) da ds = [((some ⟨b, off, none⟩ : Option Addr), ccells (c0 :: ct))] ++ ([c0.seg] ++ (ct.map Bs.seg ++ ((da, wcells ds) :: ds.map Wr.seg))) := by simp [dsk]
  have e' : dsk (some ⟨b, off, none⟩) (n :: ct) da ds = [((some ⟨b, off, none⟩ : Option Addr), ccells (n :: ct))] ++ ([n.seg] ++ (ct.map Bs.seg ++ ((da, wcells ds) :: ds.map Wr.seg))) := by simp [dsk]
  rw [e] at h hap
  have hA := h.left
  have hR := h.right.right
  have a1 : ∀ x ∈ fp [((some ⟨b, off, none⟩ : Option Addr), ccells (c0 :: ct))], x ∉ fp (ct.map Bs.seg ++ ((da, wcells ds) :: ds.map Wr.seg)) := fun x hx hx' => h.apart x hx (by rw [fp_append]; exact List.mem_append_right _ hx')
  have hNR : Own w ([n.seg] ++ (ct.map Bs.seg ++ ((da, wcells ds) :: ds.map Wr.seg))) := hn.append hR (fun x hx hx' => hap x (by rw [fp_append, fp_append]; exact List.mem_append_right _ (List.mem_append_right _ hx')) hx)
  have hall : Own w ([((some ⟨b, off, none⟩ : Option Addr), ccells (c0 :: ct))] ++ ([n.seg] ++ (ct.map Bs.seg ++ ((da, wcells ds) :: ds.map Wr.seg)))) := hA.append hNR (fun x hx hx' => by
    rw [fp_append] at hx'
    rcases List.mem_append.1 hx' with h1 | h1
    · exact hap x (by rw [fp_append]; exact List.mem_append_left _ hx) h1
    · exact a1 x hx h1)
  rw [e']
  have hset := hA.setCell 0 n.v (by simp [ccells_cons])
  rw [Nat.add_zero] at hset
  have es : (ccells (c0 :: ct)).set 0 n.v = ccells (n :: ct) := by rw [ccells_cons, ccells_cons]; rfl
  rw [es] at hset
  refine Own.upd (A := []) hall hset (fpS_len (by simp [ccells_cons])) (Turn.set ?_ _)
  rw [fp_one, fpS_some (by simp [ccells_cons])]
  simp
/-- The first write's place is another number. -/
theorem own_at {w : World} {ca : Option Addr} {cs : List Bs} {b off : Nat} {x0 : Wr} {xt : List Wr} (h : Own w (dsk ca cs (some ⟨b, off, none⟩) (x0 :: xt))) (n : Int) :
    Own (w.setCell ⟨b, off, none⟩ (.int .i64 n)) (dsk ca cs (some ⟨b, off, none⟩) (⟨n, x0.b⟩ :: xt)) := by
  have hD : Own w ([((some ⟨b, off, none⟩ : Option Addr), wcells (x0 :: xt))] ++ (x0 :: xt).map Wr.seg) := h.right
  have hset := hD.left.setCell 0 (.int .i64 n) (by simp [wcells_cons])
  rw [Nat.add_zero] at hset
  have es : (wcells (x0 :: xt)).set 0 (.int .i64 n) = wcells ((⟨n, x0.b⟩ : Wr) :: xt) := by rw [wcells_cons, wcells_cons]; rfl
  rw [es] at hset
  have k := Own.upd (A := (ca, ccells cs) :: cs.map Bs.seg) (B := (x0 :: xt).map Wr.seg) h hset (fpS_len (by simp [wcells_cons])) (Turn.set (by rw [fp_one, fpS_some (by simp [wcells_cons])]; simp) _)
  exact k
theorem fp_at {ca : Option Addr} {cs : List Bs} {da : Option Addr} {x0 : Wr} {xt : List Wr} {n : Int} : fp (dsk ca cs da (⟨n, x0.b⟩ :: xt)) = fp (dsk ca cs da (x0 :: xt)) := by
  unfold dsk
  rw [fp_append, fp_append, fp_cons (da, _), fp_cons (da, _), fpS_len (xs := wcells ((⟨n, x0.b⟩ : Wr) :: xt)) (ys := wcells (x0 :: xt)) (by simp [wcells_cons])]
  rfl
theorem dok_first {c0 : Bs} {ct : List Bs} {ds : List Wr} (h : DOk (c0 :: ct) ds) (hl : (c0 :: ct).length ≤ 6) (ht : tot (c0 :: ct) ≤ 1000) {n : Bs} (hn : n.fit) (hn1 : n.L.length ≤ 1) : DOk (n :: ct) ds := by
  refine ⟨by have := h.c; simpa using this, h.d, ?_, h.td, fun b hb => ?_, h.nd⟩
  · have : tot (n :: ct) ≤ tot (c0 :: ct) + n.L.length := by simp [tot]; omega
    omega
  · rcases List.mem_cons.1 hb with rfl | hb
    · exact hn
    · exact h.nc b (List.mem_cons_of_mem _ hb)
theorem dok_at {cs : List Bs} {x0 : Wr} {xt : List Wr} (h : DOk cs (x0 :: xt)) (n : Int) : DOk cs (⟨n, x0.b⟩ :: xt) := by
  refine ⟨h.c, by have := h.d; simpa using this, h.tc, by have := h.td; simpa [totW] using this, h.nc, fun x hx => ?_⟩
  rcases List.mem_cons.1 hx with rfl | hx
  · exact h.nd x0 (List.mem_cons_self ..)
  · exact h.nd x (List.mem_cons_of_mem _ hx)
theorem dok_none {cs : List Bs} {ds : List Wr} (h : DOk cs ds) : DOk [] ds := ⟨by simp, h.d, by simp [tot], h.td, fun b hb => absurd hb (by simp), h.nd⟩
theorem own_noneD {w : World} {ca : Option Addr} {cs : List Bs} {da : Option Addr} {ds : List Wr} (h : Own w (dsk ca cs da ds)) : Own w (dsk none [] da ds) := by
  have hD : Own w ((da, wcells ds) :: ds.map Wr.seg) := h.right
  have h0 : Own w [((none : Option Addr), ([] : List Value))] := ⟨fun s hs => by rw [List.mem_singleton.1 hs]; exact Cells.nil _ _, by simp [fp, fpS], fun b hb => absurd hb (by simp [fp, fpS])⟩
  exact h0.append hD (fun b hb => absurd hb (by simp [fp, fpS]))
theorem fp_noneD {ca : Option Addr} {cs : List Bs} {da : Option Addr} {ds : List Wr} : ∀ b ∈ fp (dsk none [] da ds), b ∈ fp (dsk ca cs da ds) := fun b hb => by
  unfold dsk at hb ⊢
  rw [fp_append] at hb ⊢
  rcases List.mem_append.1 hb with h | h
  · simp [fp, fpS, ccells] at h
  · exact List.mem_append_right _ h
theorem any_done {w W : World} {B0 B Db : Nat} {a : Option Addr} {len cap : Nat} {ca : Option Addr} {cc : Nat} {cs : List Bs} {da : Option Addr} {dc : Nat} {ds : List Wr} (hD : DSt (w.heap.size + 1) Db ca cc cs da dc ds W) (hc : cs.length ≤ 6) (hd : ds.length ≤ 7) (hS : Dr B0 B a len cap W) (hG : w.grownBy W (some B)) (hB : B < w.heap.size) (hB0 : B0 ≤ B) :
    AnyDisk w ((W.setCell ⟨w.heap.size, 0, none⟩ (.slice ca cs.length cc)).setCell ⟨w.heap.size, 1, none⟩ (.slice da ds.length dc)) (.returned (dskV ca cs.length cc da ds.length dc)) ∧ Dr B0 B a len cap ((W.setCell ⟨w.heap.size, 0, none⟩ (.slice ca cs.length cc)).setCell ⟨w.heap.size, 1, none⟩ (.slice da ds.length dc)) ∧ w.grownBy ((W.setCell ⟨w.heap.size, 0, none⟩ (.slice ca cs.length cc)).setCell ⟨w.heap.size, 1, none⟩ (.slice da ds.length dc)) (some B) := by
  have ht : Turn [w.heap.size] W ((W.setCell ⟨w.heap.size, 0, none⟩ (.slice ca cs.length cc)).setCell ⟨w.heap.size, 1, none⟩ (.slice da ds.length dc)) := (Turn.set (by simp) _).trans' (Turn.set (by simp) _)
  have hBn : Born w ((W.setCell ⟨w.heap.size, 0, none⟩ (.slice ca cs.length cc)).setCell ⟨w.heap.size, 1, none⟩ (.slice da ds.length dc)) (dsk ca cs da ds) :=
    ⟨hD.own.turn ht (fun b hb hx => by have h1 := (hD.far b hb).1; have h2 : b = w.heap.size := (by simpa using hx); omega), fun b hb => by have := (hD.far b hb).1; omega⟩
  exact ⟨⟨_, dat cs ds, rfl, ⟨ca, cc, cs, da, dc, ds, rfl, rfl, hD.ok, hD.na, hD.nd, hBn⟩, by simpa [dat] using hc, by simpa [dat] using hd⟩, (hS.set (by omega) (by omega) _).set (by omega) (by omega) _, grown_new (grown_new hG (Nat.le_refl _)) (Nat.le_refl _)⟩
theorem tot_small {cs : List Bs} {ds : List Wr} (h : dokM (dat cs ds) = true) (hl : cs.length ≤ 6) : tot cs ≤ 1000 := by
  have h1 : ∀ b ∈ cs, b.L.length ≤ 128 := fun b hb => by
    have := dokM_cell h (L := b.L) (by simp [dat]; exact ⟨b, hb, rfl⟩)
    omega
  have h2 : ∀ l : List Bs, (∀ b ∈ l, b.L.length ≤ 128) → tot l ≤ 128 * l.length := by
    intro l
    induction l with
    | nil => intro _; simp [tot]
    | cons x t ih =>
      intro hh
      have a1 := ih (fun b hb => hh b (List.mem_cons_of_mem _ hb))
      have a2 := hh x (List.mem_cons_self ..)
      simp only [tot, List.map_cons, List.sum_cons, List.length_cons] at a1 ⊢
      omega
  have := h2 cs h1
  omega
set_option maxRecDepth 100000 in
set_option maxHeartbeats 8000000 in
theorem anydisk_any {B0 B : Nat} {a : Option Addr} {len cap : Nat} {w : World} (s : Dr B0 B a len cap w) :
    Calls Tryz.prog 53 #[.pointer (some ⟨B, 0, none⟩)] w fun e w' => AnyDisk w w' e ∧ Dr B0 B a len cap w' ∧ w.grownBy w' (some B) := by
  have hB := s.lt
  have hB0 := s.le
  have HS0 := hide (s.grown (World.grownBy_alloc w (.cells #[.slice none 0 0, .slice none 0 0] 26) none) (by simp) (by simp))
  have HG0 := hide (grown_alloc (grown_refl w (some B)) (.cells #[.slice none 0 0, .slice none 0 0] 26))
  have HR0 := hide (World.rowIs_alloc w #[.slice none 0 0, .slice none 0 0] 26 _ (two_rowD _ _))
  clear s
  go_enter Tryz.func53, Tryz.ntmps53
  go_wp2_with fail
  refine (disk_any HS0.out).mono ?_
  rintro e w1 ⟨⟨v, M, rfl, hr, hM1, hM2, hM3⟩, s1, g1⟩
  obtain ⟨ca, cc, cs, da, dc, ds, rfl, he, hok, hna, hnd, hb⟩ := hr
  subst he
  have hz1 : w.heap.size < w1.heap.size := by have := g1.size; simp at this; omega
  have HA := hide (Keeps.alloc (Keeps.refl w1) (.cells #[.slice ca cs.length cc, .slice da ds.length dc] 26))
  have HD1 : Hid (DSt (w.heap.size + 1) w1.heap.size ca cc cs da dc ds (w1.alloc (.cells #[.slice ca cs.length cc, .slice da ds.length dc] 26))) :=
    ⟨World.rowIs_alloc w1 #[.slice ca cs.length cc, .slice da ds.length dc] 26 _ (two_rowD _ _), hb.toOwn.kept HA.out, fun b hb' => by have h1 := hb.new b hb'; have h2 := hb.mem.lt b hb'; simp at h1; omega, by omega, hok, hna, hnd⟩
  have HS1 := hide (s1.grown (row := none) (HA.out.grows none) (by simp) (by simp))
  have HG1 := hide ((HG0.out.trans g1).trans (HA.out.grows (some B)))
  have HR1 := hide (Keeps.row HA.out (grown_row g1 (by intro e; injection e with e; omega) HR0.out))
  have HM : Hid (dokM (dat cs ds) = true ∧ (dat cs ds).cells.length ≤ 6 ∧ (dat cs ds).dirty.length ≤ 7) := ⟨hM1, hM2, hM3⟩
  clear s1 g1 hb hok hna hnd HS0 HG0 HR0 hM1 hM2 hM3
  go_wp2_with fail
  generalize w1.heap.size = Db at *
  generalize w1.alloc (.cells #[.slice ca cs.length cc, .slice da ds.length dc] 26) = W1 at *
  refine (below_any 12 HS1.out (by omega) (by omega)).mono ?_
  rintro e w2 ⟨⟨k, k0, k12, rfl⟩, s2, g2⟩
  have HS2 := hide s2
  have HG2 := hide (HG1.out.trans g2)
  have HR2 := hide (grown_row g2 (by intro e; injection e with e; omega) HR1.out)
  have HD2 := hide (HD1.out.grown g2 (by omega))
  clear s2 g2 HS1 HG1 HR1 HD1 HA
  have q0 := HD2.out.row.cell (i := 0) (by decide)
  have q1 := HD2.out.row.cell (i := 1) (by decide)
  have qf0 := HD2.out.row.frozen 0
  have qf1 := HD2.out.row.frozen 1
  have lD2 := HD2.out.row.lt
  have z0 := HR2.out.cell (i := 0) (by decide)
  have z1 := HR2.out.cell (i := 1) (by decide)
  have zf0 := HR2.out.frozen 0
  have zf1 := HR2.out.frozen 1
  have lR2 := HR2.out.lt
  have hDb := HD2.out.new
  simp at q0 q1 z0 z1
  have hcl : cs.length ≤ 6 := by have h := HM.out.2.1; simpa [dat] using h
  have hdl : ds.length ≤ 7 := by have h := HM.out.2.2; simpa [dat] using h
  have hc1 : 1 ≤ cs.length := by
    have h1 := HM.out.1
    simp only [dokM, Bool.and_eq_true, decide_eq_true_eq] at h1
    have h2 := h1.1.1.1.1
    simpa [dat] using h2
  have HT := hide (tot_small HM.out.1 hcl)
  by_cases e0 : k = 0
  · subst e0
    cases cs with
    | nil => simp at hc1
    | cons c0 ct =>
      obtain ⟨b, off, ea, k0⟩ := cell1 (dsk_mem HD2.out.own.mem).1 0 (by simp)
      subst ea
      simp only [Nat.add_zero, List.getElem_cons_zero] at k0
      have hbf : b ∈ fp (dsk (some ⟨b, off, none⟩) (c0 :: ct) da ds) := by
        unfold dsk
        rw [fp_append, fp_cons, fpS_some (by simp [ccells_cons])]
        simp
      have kf : w2.frozen? ⟨b, off, none⟩ = false := HD2.out.own.free b hbf off
      have hbn := HD2.out.far b hbf
      have lb := lt_of_cell k0
      unfold Bs.v at k0
      have hlen : (c0 :: ct).length = ct.length + 1 := rfl
      have HA := hide (Keeps.alloc (Keeps.refl w2) (.cells #[.int .u8 1] 5))
      have HN : Hid (Own (w2.alloc (.cells #[.int .u8 1] 5)) [Bs.seg ⟨some ⟨w2.heap.size, 0, none⟩, 1, [1]⟩]) := (born_alloc w2 #[.int .u8 1] 5).toOwn
      have HNb : Hid (∀ x ∈ fp [Bs.seg ⟨some ⟨w2.heap.size, 0, none⟩, 1, [1]⟩], x = w2.heap.size) := fun x hx => by simpa [fp, fpS, Bs.seg, bys] using hx
      have HO3 : Hid (Own ((w2.alloc (.cells #[.int .u8 1] 5)).setCell ⟨b, off, none⟩ (.slice (some ⟨w2.heap.size, 0, none⟩) 1 1)) (dsk (some ⟨b, off, none⟩) (⟨some ⟨w2.heap.size, 0, none⟩, 1, [1]⟩ :: ct) da ds)) := own_first (HD2.out.own.kept HA.out) HN.out (fun x hx hx' => by have h1 := HNb.out x hx'; have h2 := HD2.out.own.mem.lt x hx; omega)
      have HF3 : Hid (∀ x ∈ fp (dsk (some ⟨b, off, none⟩) (⟨some ⟨w2.heap.size, 0, none⟩, 1, [1]⟩ :: ct) da ds), w.heap.size + 1 ≤ x ∧ x ≠ Db) := fun x hx => by
        have e9 : dsk (some ⟨b, off, none⟩) (⟨some ⟨w2.heap.size, 0, none⟩, 1, [1]⟩ :: ct) da ds = [((some ⟨b, off, none⟩ : Option Addr), ccells (⟨some ⟨w2.heap.size, 0, none⟩, 1, [1]⟩ :: ct))] ++ ([Bs.seg ⟨some ⟨w2.heap.size, 0, none⟩, 1, [1]⟩] ++ (ct.map Bs.seg ++ ((da, wcells ds) :: ds.map Wr.seg))) := by simp [dsk]
        have e8 : dsk (some ⟨b, off, none⟩) (c0 :: ct) da ds = [((some ⟨b, off, none⟩ : Option Addr), ccells (c0 :: ct))] ++ ([c0.seg] ++ (ct.map Bs.seg ++ ((da, wcells ds) :: ds.map Wr.seg))) := by simp [dsk]
        rw [e9, fp_append, fp_append] at hx
        rcases List.mem_append.1 hx with h1 | h1
        · rw [fp_one, fpS_some (by simp [ccells_cons])] at h1
          have h2 : x = b := by simpa using h1
          rw [h2]; exact hbn
        · rcases List.mem_append.1 h1 with h2 | h2
          · have := HNb.out x h2; omega
          · exact HD2.out.far x (by rw [e8, fp_append, fp_append]; exact List.mem_append_right _ (List.mem_append_right _ h2))
      have HD3 : Hid (DSt (w.heap.size + 1) Db (some ⟨b, off, none⟩) cc (⟨some ⟨w2.heap.size, 0, none⟩, 1, [1]⟩ :: ct) da dc ds ((w2.alloc (.cells #[.int .u8 1] 5)).setCell ⟨b, off, none⟩ (.slice (some ⟨w2.heap.size, 0, none⟩) 1 1))) :=
        ⟨(Keeps.row HA.out HD2.out.row).setOther (by simp; omega) _, HO3.out, HF3.out, HD2.out.new, dok_first HD2.out.ok hcl HT.out ⟨(fun e => nomatch e), by simp⟩ (by simp), (fun e => nomatch e), HD2.out.nd⟩
      have HS3 := hide ((HS2.out.grown (row := none) (HA.out.grows none) (by simp) (by simp)).set (b := b) (o := off) (by omega) (by omega) (.slice (some ⟨w2.heap.size, 0, none⟩) 1 1))
      have HG3 := hide (grown_new (b := b) (o := off) (v := .slice (some ⟨w2.heap.size, 0, none⟩) 1 1) (HG2.out.trans (HA.out.grows (some B))) (by omega))
      have HR3 := hide ((Keeps.row HA.out HR2.out).setOther (a := ⟨b, off, none⟩) (by simp; omega) (.slice (some ⟨w2.heap.size, 0, none⟩) 1 1))
      clear HN HNb HO3 HF3 HA
      go_wp2_with fail
      have hfin := any_done HD3.out (by simpa using hcl) (by exact hdl) HS3.out HG3.out hB hB0
      have e9 : ((((w2.alloc (.cells #[.int .u8 1] 5)).setCell ⟨b, off, none⟩ (.slice (some ⟨w2.heap.size, 0, none⟩) 1 1)).setCell ⟨w.heap.size, 0, none⟩ (.slice (some ⟨b, off, none⟩) (ct.length + 1) cc)).setCell ⟨w.heap.size, 1, none⟩ (.slice da ds.length dc)) = (((w2.setCell ⟨b, off, none⟩ (.slice (some ⟨w2.heap.size, 0, none⟩) 1 1)).setCell ⟨w.heap.size, 0, none⟩ (.slice (some ⟨b, off, none⟩) (ct.length + 1) cc)).setCell ⟨w.heap.size, 1, none⟩ (.slice da ds.length dc)).alloc (.cells #[.int .u8 1] 5) := by
        rw [World.setCell_alloc_past _ b off _ lb, World.setCell_alloc_past _ _ _ _ (by simp [World.setCell]; omega), World.setCell_alloc_past _ _ _ _ (by simp [World.setCell]; omega)]
      have r9 := row_two' HR3.out (.slice (some ⟨b, off, none⟩) (ct.length + 1) cc) (.slice da ds.length dc)
      have o0 := r9.cell (i := 0) (by decide)
      have o1 := r9.cell (i := 1) (by decide)
      simp only [if_true, Nat.one_ne_zero, if_false] at o0 o1
      clear r9
      simp only [List.length_cons] at hfin
      rw [e9] at hfin o0 o1
      refine bodyPost_ret (v := dskV (some ⟨b, off, none⟩) (ct.length + 1) cc da ds.length dc) ?_ rfl hfin
      clear hfin e9
      revert o0 o1
      generalize World.alloc _ _ = W'
      intro o0 o1
      simp [results, Tryz.results53, go_sem, o0, o1]
  · by_cases e1 : k = 1
    · subst e1
      have HD3 : Hid (DSt (w.heap.size + 1) Db none 0 [] da dc ds (w2.setCell ⟨Db, 0, none⟩ (.slice none 0 0))) :=
        ⟨(HD2.out.row.set 0 (.slice none 0 0)).congr (fun i hi => by match i, hi with | 0, _ => simp | 1, _ => simp), (own_noneD HD2.out.own).turn (Turn.set (fs := [Db]) (by simp) _) (fun b hb hx => (HD2.out.far b (fp_noneD b hb)).2 (by simpa using hx)), fun b hb => HD2.out.far b (fp_noneD b hb), HD2.out.new, dok_none HD2.out.ok, fun _ => rfl, HD2.out.nd⟩
      have HS3 := hide (HS2.out.set (b := Db) (o := 0) (by omega) (by omega) (.slice none 0 0))
      have HG3 := hide (grown_new (b := Db) (o := 0) (v := .slice none 0 0) HG2.out (by omega))
      have HR3 := hide (HR2.out.setOther (a := ⟨Db, 0, none⟩) (by simp; omega) (.slice none 0 0))
      go_wp2_with fail
      refine bodyPost_ret (v := dskV none 0 0 da ds.length dc) ?_ rfl (any_done HD3.out (by simp) (by exact hdl) HS3.out HG3.out hB hB0)
      have r9 := row_two' HR3.out (.slice none 0 0) (.slice da ds.length dc)
      have o0 := r9.cell (i := 0) (by decide)
      have o1 := r9.cell (i := 1) (by decide)
      simp only [if_true, Nat.one_ne_zero, if_false] at o0 o1
      clear r9
      revert o0 o1
      generalize World.setCell _ _ _ = W'
      intro o0 o1
      simp [results, Tryz.results53, go_sem, o0, o1]
    · by_cases e2 : k = 2
      · subst e2
        cases ds with
        | nil =>
          go_wp2_with fail
          refine bodyPost_ret (v := dskV ca cs.length cc da 0 dc) ?_ rfl (any_done HD2.out hcl (by simp) HS2.out HG2.out hB hB0)
          have r9 := row_two' HR2.out (.slice ca cs.length cc) (.slice da 0 dc)
          have o0 := r9.cell (i := 0) (by decide)
          have o1 := r9.cell (i := 1) (by decide)
          simp only [if_true, Nat.one_ne_zero, if_false] at o0 o1
          clear r9
          revert o0 o1
          generalize World.setCell _ _ _ = W'
          intro o0 o1
          simp [results, Tryz.results53, go_sem, o0, o1]
        | cons x0 xt =>
          obtain ⟨b, off, ea, k0, _⟩ := cell2 (dsk_mem HD2.out.own.mem).2.2.1 0 (by simp)
          subst ea
          have hbf : b ∈ fp (dsk ca cs (some ⟨b, off, none⟩) (x0 :: xt)) := by
            unfold dsk
            rw [fp_append, fp_cons (some ⟨b, off, none⟩, wcells (x0 :: xt)), fpS_some (by simp [wcells_cons])]
            simp
          have hbn := HD2.out.far b hbf
          clear k0
          go_wp2_with fail
          go_region_held3 (fun w' => w'.cell? ⟨Db, 1, none⟩ = some (.slice (some ⟨b, off, none⟩) (xt.length + 1) dc)) (first | go_keep | (rw [World.cell?_setCell_other _ _ _ _ (by simp <;> omega)]; assumption))
            ((go_at_call 67
              refine (raw_any HS2.out.drew).mono ?_
              rintro e w3 ⟨⟨n, rfl⟩, s3, g3⟩
              have HS3 := hide s3
              have HG3 := hide ((grown_drew HG2.out).trans g3)
              have HR3 := hide (grown_row g3 (by intro e; injection e with e; omega) (Keeps.row ((Keeps.refl w2).drew) HR2.out))
              have HD3 := hide (HD2.out.drew.grown g3 (by omega))
              have t1 := HD3.out.row.cell (i := 1) (by decide)
              have lD3 := HD3.out.row.lt
              obtain ⟨b', off', ea', k0, _⟩ := cell2 (dsk_mem HD3.out.own.mem).2.2.1 0 (by simp)
              have eb := Option.some.inj ea'
              injection eb with eb1 eb2
              subst eb1 eb2
              simp only [Nat.zero_mul, Nat.add_zero, List.getElem_cons_zero] at k0
              have kf := HD3.out.own.free b hbf off
              have lb3 := lt_of_cell k0
              simp at t1
              clear s3 g3 ea'))
          have HD4 : Hid (DSt (w.heap.size + 1) Db ca cc cs (some ⟨b, off, none⟩) dc (⟨n, x0.b⟩ :: xt) (w3.setCell ⟨b, off, none⟩ (.int .i64 n))) :=
            ⟨HD3.out.row.setOther (by simp; omega) _, own_at HD3.out.own n, fun x hx => HD3.out.far x (by rwa [fp_at] at hx), HD3.out.new, dok_at HD3.out.ok n, HD3.out.na, (fun e => nomatch e)⟩
          have HS4 := hide (HS3.out.set (b := b) (o := off) (by omega) (by omega) (.int .i64 n))
          have HG4 := hide (grown_new (b := b) (o := off) (v := .int .i64 n) HG3.out (by omega))
          have HR4 := hide (HR3.out.setOther (a := ⟨b, off, none⟩) (by simp; omega) (.int .i64 n))
          have q4 := HD4.out.row.cell (i := 0) (by decide)
          have q5 := HD4.out.row.cell (i := 1) (by decide)
          have z4 := HR4.out.cell (i := 0) (by decide)
          have z5 := HR4.out.cell (i := 1) (by decide)
          have y4 := HR4.out.frozen 0
          have y5 := HR4.out.frozen 1
          simp at q4 q5 z4 z5
          generalize w3.setCell ⟨b, off, none⟩ (.int .i64 n) = W4 at *
          go_wp2_with fail
          refine bodyPost_ret (v := dskV ca cs.length cc (some ⟨b, off, none⟩) (xt.length + 1) dc) ?_ rfl (any_done HD4.out hcl (by simpa using hdl) HS4.out HG4.out hB hB0)
          have r9 := row_two' HR4.out (.slice ca cs.length cc) (.slice (some ⟨b, off, none⟩) (xt.length + 1) dc)
          have o0 := r9.cell (i := 0) (by decide)
          have o1 := r9.cell (i := 1) (by decide)
          simp only [if_true, Nat.one_ne_zero, if_false] at o0 o1
          clear r9
          revert o0 o1
          generalize World.setCell _ _ _ = W'
          intro o0 o1
          simp [results, Tryz.results53, go_sem, o0, o1]
      · have b0 : (k == 0) = false := by rw [beq_eq_false_iff_ne]; exact e0
        have b1 : (k == 1) = false := by rw [beq_eq_false_iff_ne]; exact e1
        have b2 : (k == 2) = false := by rw [beq_eq_false_iff_ne]; exact e2
        clear e0 e1 e2
        go_wp2_with fail
        refine bodyPost_ret (v := dskV ca cs.length cc da ds.length dc) ?_ rfl (any_done HD2.out (by exact hcl) (by exact hdl) HS2.out HG2.out hB hB0)
        have r9 := row_two' HR2.out (.slice ca cs.length cc) (.slice da ds.length dc)
        have o0 := r9.cell (i := 0) (by decide)
        have o1 := r9.cell (i := 1) (by decide)
        simp only [if_true, Nat.one_ne_zero, if_false] at o0 o1
        clear r9
        revert o0 o1
        generalize World.setCell _ _ _ = W'
        intro o0 o1
        simp [results, Tryz.results53, go_sem, o0, o1]
end Go.Proofs.YtdlgoccbmemjgaaGreatDoor
namespace Go.Proofs.YtdlgoccbmemjgaaGreatDoor
open Go.RowKit Go.Deep
set_option linter.unusedVariables false
set_option linter.unusedSimpArgs false
set_option maxRecDepth 10000
section
variable {w W W' : World} {base Db : Nat} {ca : Option Addr} {cc : Nat} {cs : List Bs} {da : Option Addr} {dc : Nat} {ds : List Wr}
end
theorem log_disk (ca : Option Addr) (cc : Nat) (cs : List Bs) (da : Option Addr) (dc : Nat) (ds : List Wr) (nx ep : Int) (w : World) : (Instr.field 28 (logV ca cs.length cc da ds.length dc nx ep) 0).run Tryz.prog w = .ok (dskV ca cs.length cc da ds.length dc) w := by kernel_rfl
end Go.Proofs.YtdlgoccbmemjgaaGreatDoor
