/- The model's draws of logs: l05Draw. -/
import Derived.Test.YtkdnddckogbgaaaGreatDoorFO27
import Derived.Test.YtkdnddckogbgaaaGreatDoorFO32
import Derived.Deep.RegionWith
namespace Go.Proofs.YtkdnddckogbgaaaGreatDoor
open Go.RowKit Go.Deep
set_option linter.unusedVariables false
set_option linter.unusedSimpArgs false
set_option maxRecDepth 10000
/-- A log of the call's own, on a right disk of a few cells. -/
def IsLog (w w' : World) (e : Ending) : Prop := ∃ v M nx ep, e = .returned v ∧ LogRes w w' v M nx ep ∧ FewM M
set_option maxRecDepth 100000 in
set_option maxHeartbeats 8000000 in
theorem log_any {B0 B : Nat} {a : Option Addr} {len cap : Nat} {w : World} (s : Dr B0 B a len cap w) :
    Calls Tryz.prog 51 #[.pointer (some ⟨B, 0, none⟩)] w fun e w' => IsLog w w' e ∧ Dr B0 B a len cap w' ∧ w.grownBy w' (some B) := by
  have hB := s.lt
  have hB0 := s.le
  have HS0 := hide (s.grown (World.grownBy_alloc w (.cells #[.slice none 0 0, .slice none 0 0, .int .i64 0, .int .i64 0] 28) none) (by simp) (by simp))
  have HG0 := hide (grown_alloc (grown_refl w (some B)) (.cells #[.slice none 0 0, .slice none 0 0, .int .i64 0, .int .i64 0] 28))
  have HR0 := hide (World.rowIs_alloc w #[.slice none 0 0, .slice none 0 0, .int .i64 0, .int .i64 0] 28 _ (four_row _ _ _ _))
  clear s
  go_enter Tryz.func51, Tryz.ntmps51
  go_wp2_with fail
  refine (below_any 14 HS0.out (by omega) (by omega)).mono ?_
  rintro e w1 ⟨⟨x, x0, x6, rfl⟩, s1, g1⟩
  have HS1 := hide s1
  have HG1 := hide (HG0.out.trans g1)
  have HR1 := hide (grown_row g1 (by intro e; injection e with e; omega) HR0.out)
  clear s1 g1 HS0 HG0 HR0
  have HN := hide (new_open (n := 3 + x) (by omega) (by omega))
  go_wp2_with fail
  refine (disknew_spec (3 + x) w1).mono ?_
  rintro e w2 ⟨v, rfl, hr, hk⟩
  obtain ⟨ca0, cc0, cs0, da0, dc0, ds0, rfl, he0, hok0, hna0, hnd0, hb0⟩ := hr
  replace hk := hk.trans (Keeps.alloc (Keeps.refl w2) (.cells #[.slice ca0 cs0.length cc0, .slice da0 ds0.length dc0] 26))
  have HP := hide (logopen_spec ca0 cc0 cs0 da0 dc0 ds0 _ (hb0.mem.kept (Keeps.alloc (Keeps.refl w2) (.cells #[.slice ca0 cs0.length cc0, .slice da0 ds0.length dc0] 26))) hok0)
  rw [he0] at HP
  have HS2 := hide (HS1.out.grown (row := none) (hk.grows none) (by simp) (by simp))
  have HG2 := hide (HG1.out.trans (hk.grows (some B)))
  have HR2 := hide (Keeps.row hk HR1.out)
  clear hb0 hk he0 hok0 hna0 hnd0 HS1 HG1 HR1
  go_wp2_with fail
  refine HP.out.mono ?_
  rintro e w3 ⟨ca, cc, cs, da, dc, ds, ea, ec, rfl, he, hok, hna, hnd, hb, hk⟩
  have hz := HR2.out.lt
  have hz2 := hk.size
  have HA := hide (Keeps.alloc (Keeps.refl w3) (.cells #[.slice ca cs.length cc, .slice da ds.length dc, .int .i64 (opN (newM (3 + x))), .int .i64 (opE (newM (3 + x)))] 28))
  have HDS : Hid (LoSt (w.heap.size + 1) w3.heap.size ca cc cs da dc ds (opN (newM (3 + x))) (opE (newM (3 + x))) (w3.alloc (.cells #[.slice ca cs.length cc, .slice da ds.length dc, .int .i64 (opN (newM (3 + x))), .int .i64 (opE (newM (3 + x)))] 28))) :=
    ⟨World.rowIs_alloc w3 #[.slice ca cs.length cc, .slice da ds.length dc, .int .i64 (opN (newM (3 + x))), .int .i64 (opE (newM (3 + x)))] 28 _ (four_row _ _ _ _), hb.toOwn.left.kept HA.out, fun b hb' => by have h1 := hb.new b (by rw [fp_append]; exact List.mem_append_left _ hb'); have h2 := hb.toOwn.left.mem.lt b hb'; omega, by omega, hok, hna, hnd⟩
  have HM : Hid (FewM (dat cs ds)) := by show FewM _; rw [he]; exact HN.out.1.open HN.out.2
  have HS3 := hide (HS2.out.grown (row := none) ((hk.trans HA.out).grows none) (by simp) (by simp))
  have HG3 := hide (HG2.out.trans ((hk.trans HA.out).grows (some B)))
  have HR3 := hide (Keeps.row (hk.trans HA.out) HR2.out)
  clear hb hk he hok hna hnd HS2 HG2 HR2 HN HA HP
  go_wp2_with fail
  generalize w3.heap.size = Lb at *
  generalize w3.alloc (.cells #[.slice ca cs.length cc, .slice da ds.length dc, .int .i64 (opN (newM (3 + x))), .int .i64 (opE (newM (3 + x)))] 28) = W3 at *
  generalize opN (newM (3 + x)) = nx at *
  generalize opE (newM (3 + x)) = ep at *
  refine (below_any 12 HS3.out (by omega) (by omega)).mono ?_
  rintro e w4 ⟨⟨y, y0, y7, rfl⟩, s3, g3⟩
  have HS4 := hide s3
  have HG4 := hide (HG3.out.trans g3)
  have HR4 := hide (grown_row g3 (by intro e; injection e with e; omega) HR3.out)
  have HD4 := hide (HDS.out.grown g3 (by omega))
  obtain ⟨n0, rfl⟩ := Int.eq_ofNat_of_zero_le y0
  clear s3 g3 HS3 HG3 HR3 HDS
  go_wp2_with fail
  go_loopw [8] (fun y wr => ∃ (n : Nat) (ca : Option Addr) (cc : Nat) (cs : List Bs) (da : Option Addr) (dc : Nat) (ds : List Wr) (nx ep : Int), n ≤ 11 ∧ y = .int .i64 (n : Int) ∧ Hid (LoSt (w.heap.size + 1) Lb ca cc cs da dc ds nx ep wr) ∧ Hid (FewM (dat cs ds)) ∧ Hid (Dr B0 B a len cap wr) ∧ Hid (w.grownBy wr (some B)) ∧ Hid (wr.rowIs w.heap.size 28 4 (logRow (.slice none 0 0) (.slice none 0 0) (.int .i64 0) (.int .i64 0)))) (fun y _ => (intOf y).toNat)
  case atStart => exact ⟨n0, ca, cc, cs, da, dc, ds, nx, ep, by omega, rfl, HD4, HM, HS4, HG4, HR4⟩
  case round =>
    clear HD4 HM HS4 HG4 HR4
    obtain ⟨n, ca, cc, cs, da, dc, ds, nx, ep, hn, rfl, HD, HM, HS, HG, HR⟩ := hrel
    have hzr := HR.out.lt
    have hLb := HD.out.new
    by_cases hlt : 0 < n
    · go_wp2_with fail
      refine (below_any 8 HS.out (by omega) (by omega)).mono ?_
      rintro e w4 ⟨⟨k, k0, k6, rfl⟩, s4, g4⟩
      have HS4 := hide s4
      have HG4 := hide (HG.out.trans g4)
      have HR4 := hide (grown_row g4 (by intro e; injection e with e; omega) HR.out)
      have HD4 := hide (HD.out.grown g4 (by omega))
      clear s4 g4 HS HG HR HD
      have q0 := HD4.out.row.cell (i := 0) (by decide)
      have q1 := HD4.out.row.cell (i := 1) (by decide)
      have q2 := HD4.out.row.cell (i := 2) (by decide)
      have q3 := HD4.out.row.cell (i := 3) (by decide)
      have qf0 := HD4.out.row.frozen 0
      have qf1 := HD4.out.row.frozen 1
      have qf2 := HD4.out.row.frozen 2
      have qf3 := HD4.out.row.frozen 3
      have ql := HD4.out.row.lt
      have hz4 := HG4.out.size
      have lR4 := HR4.out.lt
      simp [logRow] at q0 q1 q2 q3
      by_cases hk0 : k = 0
      · subst hk0
        go_wp2_with fail
        refine (logsync_spec ca cc cs da dc ds nx ep w4 HD4.out.own.mem HD4.out.ok).mono ?_
        rintro e w7 ⟨v, rfl, hr, hk7⟩
        obtain ⟨ca', cc', cs', da', dc', ds', rfl, he, hok, hna, hnd, hb⟩ := hr
        have HM7 : Hid (FewM (dat cs' ds')) := by show FewM _; rw [he]; exact HM.out.sync
        have HD7 := hide (HD4.out.put (nx' := syncN (dat cs ds) nx) (ep' := syncN (dat cs ds) ep) (Keeps.refl w4) (by omega) hb hk7 hok hna hnd)
        have HS7 := hide (HS4.out.grown (row := none) (hk7.grows none) (by simp) (by simp))
        have HG7 := hide (HG4.out.trans (hk7.grows (some B)))
        have HR7 := hide (Keeps.row hk7 HR4.out)
        have r7 := Keeps.row hk7 HD4.out.row
        have y0 := r7.cell (i := 0) (by decide)
        have y1 := r7.cell (i := 1) (by decide)
        have y2 := r7.cell (i := 2) (by decide)
        have y3 := r7.cell (i := 3) (by decide)
        have yf0 := r7.frozen 0
        have yf1 := r7.frozen 1
        have yf2 := r7.frozen 2
        have yf3 := r7.frozen 3
        have yl := r7.lt
        simp [logRow] at y0 y1 y2 y3
        clear hk7 hb he hok hna hnd HS4 HG4 HR4 HD4 HM r7
        generalize syncN (dat cs ds) nx = nx2 at *
        generalize syncN (dat cs ds) ep = ep2 at *
        go_wp2_with fail
        go_roundw
        case rel => exact ⟨n - 1, ca', cc', cs', da', dc', ds', nx2, ep2, by omega, by congr 1; omega, HD7, HM7, (((HS7.out.set (by omega) (by omega) _).set (by omega) (by omega) _).set (by omega) (by omega) _).set (by omega) (by omega) _, grown_new (grown_new (grown_new (grown_new HG7.out (by omega)) (by omega)) (by omega)) (by omega), (((HR7.out.setOther (by simp; omega) _).setOther (by simp; omega) _).setOther (by simp; omega) _).setOther (by simp; omega) _⟩
        case measure => simp [intOf]; omega
      · have hk0' : (k == 0) = false := beq_eq_false_iff_ne.2 hk0
        by_cases hk1 : k = 1
        · skip
          subst hk1
          have HT4 : Hid (DrSt w B0 B a len cap w4) := ⟨HS4.out, HG4.out, HR4.out, hB, hB0⟩
          have HL4 := hide HD4.out.own.mem.lt
          have hKA := Keeps.alloc (Keeps.refl w4) (.cells #[] 3)
          have HO0 : Hid (OwnsI (w4.alloc (.cells #[] 3)) w4.heap.size (.slice (some ⟨w4.heap.size, 0, none⟩) 0 0) []) := World.ownsRow_made (base := w4.heap.size) (e := 3) (size := 1) w4 #[] 0 (Nat.le_refl _) (by decide) rfl
          have HT0 := hide (HT4.out.kept hKA)
          have HD0 := hide (HD4.out.kept hKA)
          have hz0 : w4.heap.size ≤ (w4.alloc (.cells #[] 3)).heap.size := hKA.size
          clear HS4 HG4 HR4 HT4 HD4 hKA q0 q1 q2 q3 qf0 qf1 qf2 qf3
          go_wp2_with fail
          go_loopw [10, 11] (fun x y wi => ∃ (i : Nat) (K : List Int), i ≤ 5 ∧ y = .int .i64 (i : Int) ∧ Hid (K.length = i) ∧ Hid (OwnsI wi w4.heap.size x K) ∧ Hid (DrSt w B0 B a len cap wi) ∧ Hid (LoSt (w.heap.size + 1) Lb ca cc cs da dc ds nx ep wi) ∧ w4.heap.size ≤ wi.heap.size) (fun _ y _ => 5 - (intOf y).toNat)
          case atStart => exact ⟨0, [], by omega, rfl, rfl, HO0, HT0, HD0, hz0⟩
          case round =>
            clear HO0 HT0 HD0 hz0
            obtain ⟨i, K, hi, rfl, HKl, HOr, HTr, HDr, hzi⟩ := hrel
            by_cases hlt5 : i < 5
            · have hka := Keeps.alloc (Keeps.refl wr) (.cells #[.int .i64 0, .int .i64 50, .int .i64 127, .int .i64 128] 3)
              have hTb := HTr.out.b
              go_wp2_with fail
              refine (below_any 4 (HTr.out.kept hka).dr (by omega) (by omega)).mono ?_
              rintro _ w5 ⟨⟨z, z0, z4, rfl⟩, s5, g5⟩
              obtain ⟨z, rfl⟩ := Int.eq_ofNat_of_zero_le z0
              have hz4' : z < 4 := by omega
              obtain ⟨d, hd⟩ := four_at hz4'
              have hd5 := many_inL wr g5 hd (by omega)
              have HT5 := hide (((HTr.out.kept hka).drawn s5 g5).kept (Keeps.alloc (Keeps.refl w5) (.cells #[.int .i64 d] 3)))
              have HD5 := hide (((HDr.out.kept hka).grown g5 (by omega)).kept (Keeps.alloc (Keeps.refl w5) (.cells #[.int .i64 d] 3)))
              have HO5 : Hid (OwnsI (w5.alloc (.cells #[.int .i64 d] 3)) w4.heap.size u10 K) := World.ownsRow.alloc (World.ownsRow.kept (World.ownsRow.alloc HOr.out (.cells #[.int .i64 0, .int .i64 50, .int .i64 127, .int .i64 128] 3)) g5 (.inr fun e => by have := (HOr.out.lt B e).1; omega)) _
              have HC5 := hide (one_in w5 d)
              have HLn : Hid (K.length + [d].length ≤ 1048576) := by show _ ≤ _; have := HKl.out; simp; omega
              have hz5 := g5.size
              rw [size_alloc1] at hz5
              clear s5 g5 hd hka HTr HDr
              go_wp2_with (at_builtin; refine app_its rfl _ _ rfl w4.heap.size _ K [d] rfl ⟨w5.heap.size, 0, none⟩ 1 rfl HC5.out HO5.out HLn.out (by rw [size_alloc1]; omega) ?_; intro v' w' ho hg _)
              have hlo : ∀ r, u10.ownBlock = some r → w4.heap.size ≤ r := fun r hr => (HO5.out.lt r hr).1
              have HT6 := hide (HT5.out.turned hg (fun r hr => by have := hlo r hr; omega))
              have HD6 := hide (HD5.out.turned hg (fun r hr => by have h1 := hlo r hr; exact ⟨by omega, fun b hb => by have := HL4.out b hb; omega⟩))
              have HOn := hide ho
              have hz6 := hg.size
              rw [size_alloc1] at hz6
              clear ho hg HT5 HD5 HO5 HC5
              go_roundw
              case rel => exact ⟨i + 1, K ++ [d], by omega, by go_num, by show _ = _; have := HKl.out; simp; omega, HOn, HT6, HD6, by omega⟩
              case measure => simp [intOf]; omega
            · have e5 : i = 5 := by omega
              subst e5
              obtain ⟨ka, kc, hve, _, _, _, hown, _⟩ := Own.of_owns HOr.out
              subst hve
              have HKc := hide hown.one
              have q0 := HDr.out.row.cell (i := 0) (by decide)
              have q1 := HDr.out.row.cell (i := 1) (by decide)
              have q2 := HDr.out.row.cell (i := 2) (by decide)
              have q3 := HDr.out.row.cell (i := 3) (by decide)
              have qd := HDr.out.row.lt
              have hKl5 : K.length ≤ 1048576 := by have := HKl.out; omega
              simp [logRow] at q0 q1 q2 q3
              obtain ⟨M, eM⟩ : ∃ M, crashM (dat cs ds) (keepN K) = M := ⟨_, rfl⟩
              have HM5 : Hid (FewM M) := by show FewM M; rw [← eM]; exact HM.out.crash (keepN_le K)
              clear hown HOr HKl
              go_wp2_with fail
              refine (diskcrash_spec ca cc cs da dc ds ka kc K _ HDr.out.own.mem HDr.out.ok HKc.out hKl5).mono ?_
              rintro _ w5 ⟨v, rfl, hr, hk5⟩
              obtain ⟨cad, ccd, csd, dad, dcd, dsd, rfl, hed, hokd, hnad, hndd, hbd⟩ := hr
              have HEd : Hid (dat csd dsd = M) := hed.trans eM
              have HOkd := hide hokd
              have HMd := hide hbd.mem
              have HT5 := hide (HTr.out.kept hk5)
              have HD5 := hide (HDr.out.kept hk5)
              have hz5 := hk5.size
              clear hk5 hed hokd hnad hndd hbd HTr HDr HKc q0 q1 q2 q3 qd
              go_wp2_with fail
              refine (logopen_spec cad ccd csd dad dcd dsd _ HMd.out HOkd.out).mono ?_
              rintro _ w6 ⟨ca', cc', cs', da', dc', ds', ea', ec', rfl, he, hok, hna, hnd, hb, hk6⟩
              rw [HEd.out] at he ⊢
              have HE6 := hide he
              have HN6 : Hid (NxSt w B0 B a len cap Lb w6.heap.size ca cc cs da dc ds nx ep ca' cc' cs' da' dc' ds' (opN M) (opE M) (w6.alloc (.cells #[.slice ca' cs'.length cc', .slice da' ds'.length dc', .int .i64 (opN M), .int .i64 (opE M)] 28))) := NxSt.mkNew (HT5.out.kept hk6) (HD5.out.kept hk6) hb.toOwn.left (fun b hb' => by have := hb.new b (by rw [fp_append]; exact List.mem_append_left _ hb'); omega) hok hna hnd
              have hD6 := HD5.out.kept hk6
              have r0 := hD6.row.cell (i := 0) (by decide)
              have r1 := hD6.row.cell (i := 1) (by decide)
              have r2 := hD6.row.cell (i := 2) (by decide)
              have r3 := hD6.row.cell (i := 3) (by decide)
              have rf0 := hD6.row.frozen 0
              have rf1 := hD6.row.frozen 1
              have rf2 := hD6.row.frozen 2
              have rf3 := hD6.row.frozen 3
              have rl := hD6.row.lt
              simp [logRow] at r0 r1 r2 r3
              clear hk6 he hok hna hnd hb HT5 HD5 HMd HOkd HEd hD6
              by_cases hc : opC M = 0
              · have HM7 : Hid (FewM (dat cs' ds')) := by show FewM _; rw [HE6.out]; exact HM5.out.open hc
                rw [hc]
                clear HM HE6 hc HM5 eM
                generalize opN M = nx2 at *
                generalize opE M = ep2 at *
                go_wp2_with fail
                go_roundw
                case rel =>
                  obtain ⟨t1, t2⟩ := HN6.out.take
                  rw [World.setCell_alloc_past _ Lb 0 _ rl, World.setCell_alloc_past _ Lb 1 _ (by simpa [World.setCell] using rl), World.setCell_alloc_past _ Lb 2 _ (by simpa [World.setCell] using rl), World.setCell_alloc_past _ Lb 3 _ (by simpa [World.setCell] using rl)] at t1 t2
                  exact ⟨n - 1, ca', cc', cs', da', dc', ds', nx2, ep2, by omega, by congr 1; omega, t1, HM7, t2.dr, t2.g, t2.r⟩
                case measure => simp [intOf]; omega
              · have hc' : (opC M == 0) = false := beq_eq_false_iff_ne.2 hc
                clear HE6 HM5 eM
                generalize opC M = code at *
                generalize opN M = nx2 at *
                generalize opE M = ep2 at *
                go_wp2_with fail
                go_roundw
                case rel => exact ⟨n - 1, ca, cc, cs, da, dc, ds, nx, ep, by omega, by congr 1; omega, HN6.out.lo, HM, HN6.out.st.dr, HN6.out.st.g, HN6.out.st.r⟩
                case measure => simp [intOf]; omega
        · have hk1' : (k == 1) = false := beq_eq_false_iff_ne.2 hk1
          go_wp2_with fail
          have HT4 : Hid (DrSt w B0 B a len cap w4) := ⟨HS4.out, HG4.out, HR4.out, hB, hB0⟩
          have HL4 := hide HD4.out.own.mem.lt
          clear HS4 HG4 HR4
          apply onceT14 (F := fun (VB : Nat) (ek ey ec et em ef : Int) (eb : Bool) (ca' : Option Addr) (cc' : Nat) (cs' : List Bs) (da' : Option Addr) (dc' : Nat) (ds' : List Wr) w' => NxSt w B0 B a len cap Lb VB ca cc cs da dc ds nx ep ca' cc' cs' da' dc' ds' (addN (dat cs ds) nx ep (evB ek ey ec et em ef eb)) (addE (dat cs ds) nx ep (evB ek ey ec et em ef eb)) w' ∧ dat cs' ds' = addM (dat cs ds) nx ep (evB ek ey ec et em ef eb) (bodyR ek ey ec et em ef eb))
          · skip
            go_region_with (first
              | (go_at_call 68
                 (first
                  | (refine (event_any (HT4.out.kept ((Keeps.refl w4).drew)).dr).mono ?_
                     rintro _ w5 ⟨⟨ek, ey, ec, et, em, ef, eb, rfl⟩, s5, g5⟩
                     have HT5 := hide ((HT4.out.kept ((Keeps.refl w4).drew)).drawn s5 g5)
                     have HD5 := hide ((HD4.out.kept ((Keeps.refl w4).drew)).grown g5 (by omega))
                     have hz5 := g5.size
                     have hz5' : w4.heap.size ≤ w5.heap.size := hz5
                     clear s5 g5)
                  | (refine (event_any (HT4.out.kept ((Keeps.alloc (Keeps.refl w4) (.cells #[.slice none 0 0, .slice none 0 0, .int .i64 0, .int .i64 0] 28)).drew)).dr).mono ?_
                     rintro _ w5 ⟨⟨ek, ey, ec, et, em, ef, eb, rfl⟩, s5, g5⟩
                     have HT5 := hide ((HT4.out.kept ((Keeps.alloc (Keeps.refl w4) (.cells #[.slice none 0 0, .slice none 0 0, .int .i64 0, .int .i64 0] 28)).drew)).drawn s5 g5)
                     have HD5 := hide ((HD4.out.kept ((Keeps.alloc (Keeps.refl w4) (.cells #[.slice none 0 0, .slice none 0 0, .int .i64 0, .int .i64 0] 28)).drew)).grown g5 (by omega))
                     have hz5 := g5.size
                     have HV5 := hide (grown_row g5 (by intro e; injection e with e; omega) (Keeps.row ((Keeps.refl _).drew) (World.rowIs_alloc w4 #[.slice none 0 0, .slice none 0 0, .int .i64 0, .int .i64 0] 28 _ (four_row _ _ _ _))))
                     have hz5' : w4.heap.size < w5.heap.size := HV5.out.lt
                     clear s5 g5)
                  | (refine (event_any (HT4.out.kept (Keeps.refl w4)).dr).mono ?_
                     rintro _ w5 ⟨⟨ek, ey, ec, et, em, ef, eb, rfl⟩, s5, g5⟩
                     have HT5 := hide ((HT4.out.kept (Keeps.refl w4)).drawn s5 g5)
                     have HD5 := hide ((HD4.out.kept (Keeps.refl w4)).grown g5 (by omega))
                     have hz5 := g5.size
                     have hz5' : w4.heap.size ≤ w5.heap.size := hz5
                     clear s5 g5))
                 have u0 := HD5.out.row.cell (i := 0) (by decide)
                 have u1 := HD5.out.row.cell (i := 1) (by decide)
                 have u2 := HD5.out.row.cell (i := 2) (by decide)
                 have u3 := HD5.out.row.cell (i := 3) (by decide)
                 simp [logRow] at u0 u1 u2 u3
                 have ul := HD5.out.row.lt)
              | (go_at_call 8
                 (first
                  | (refine (logadd_spec ca cc cs da dc ds nx ep ek ey ec et em ef eb _ (HD5.out.own.mem.kept (Keeps.refl w5)) HD5.out.ok).mono ?_
                     rintro _ w6 ⟨v, rfl, hr, hk6⟩
                     obtain ⟨ca', cc', cs', da', dc', ds', rfl, he, hok, hna, hnd, hb⟩ := hr
                     have HV6 := hide (Keeps.row hk6 HV5.out)
                     have HN6 := hide (fun b hb' => by have := hb.new b hb'; omega : ∀ b ∈ fp (dsk ca' cs' da' ds'), w4.heap.size < b)
                     have x0 := HV6.out.cell (i := 0) (by decide)
                     have x1 := HV6.out.cell (i := 1) (by decide)
                     have x2 := HV6.out.cell (i := 2) (by decide)
                     have x3 := HV6.out.cell (i := 3) (by decide)
                     have xf0 := HV6.out.frozen 0
                     have xf1 := HV6.out.frozen 1
                     have xf2 := HV6.out.frozen 2
                     have xf3 := HV6.out.frozen 3
                     have xl := HV6.out.lt
                     simp [logRow] at x0 x1 x2 x3
                     have HE6 := hide he
                     have HOk := hide hok
                     have HNa := hide hna
                     have HNd := hide hnd
                     have HB6 := hide (hb.old (Keeps.refl w5))
                     have HT6 := hide (HT5.out.kept ((Keeps.refl w5).trans hk6))
                     have HD6 := hide (HD5.out.kept ((Keeps.refl w5).trans hk6))
                     clear hk6 he hok hna hnd hb)
                  | (refine (logadd_spec ca cc cs da dc ds nx ep ek ey ec et em ef eb _ (HD5.out.own.mem.kept (Keeps.refl w5)) HD5.out.ok).mono ?_
                     rintro _ w6 ⟨v, rfl, hr, hk6⟩
                     obtain ⟨ca', cc', cs', da', dc', ds', rfl, he, hok, hna, hnd, hb⟩ := hr
                     have HE6 := hide he
                     have HOk := hide hok
                     have HNa := hide hna
                     have HNd := hide hnd
                     have HB6 := hide (hb.old (Keeps.refl w5))
                     have HT6 := hide (HT5.out.kept ((Keeps.refl w5).trans hk6))
                     have HD6 := hide (HD5.out.kept ((Keeps.refl w5).trans hk6))
                     clear hk6 he hok hna hnd hb)
                  | (refine (logadd_spec ca cc cs da dc ds nx ep ek ey ec et em ef eb _ (HD5.out.own.mem.kept (Keeps.alloc (Keeps.refl w5) (.cells #[.slice none 0 0, .slice none 0 0, .int .i64 0, .int .i64 0] 28))) HD5.out.ok).mono ?_
                     rintro _ w6 ⟨v, rfl, hr, hk6⟩
                     obtain ⟨ca', cc', cs', da', dc', ds', rfl, he, hok, hna, hnd, hb⟩ := hr
                     have HV6 := hide (Keeps.row hk6 (World.rowIs_alloc w5 #[.slice none 0 0, .slice none 0 0, .int .i64 0, .int .i64 0] 28 _ (four_row _ _ _ _)))
                     have HN6 := hide (fun b hb' => by have h := hb.new b hb'; rw [size_alloc1] at h; omega : ∀ b ∈ fp (dsk ca' cs' da' ds'), w5.heap.size < b)
                     have x0 := HV6.out.cell (i := 0) (by decide)
                     have x1 := HV6.out.cell (i := 1) (by decide)
                     have x2 := HV6.out.cell (i := 2) (by decide)
                     have x3 := HV6.out.cell (i := 3) (by decide)
                     have xf0 := HV6.out.frozen 0
                     have xf1 := HV6.out.frozen 1
                     have xf2 := HV6.out.frozen 2
                     have xf3 := HV6.out.frozen 3
                     have xl := HV6.out.lt
                     simp [logRow] at x0 x1 x2 x3
                     have HE6 := hide he
                     have HOk := hide hok
                     have HNa := hide hna
                     have HNd := hide hnd
                     have HB6 := hide (hb.old (Keeps.alloc (Keeps.refl w5) (.cells #[.slice none 0 0, .slice none 0 0, .int .i64 0, .int .i64 0] 28)))
                     have HT6 := hide (HT5.out.kept ((Keeps.alloc (Keeps.refl w5) (.cells #[.slice none 0 0, .slice none 0 0, .int .i64 0, .int .i64 0] 28)).trans hk6))
                     have HD6 := hide (HD5.out.kept ((Keeps.alloc (Keeps.refl w5) (.cells #[.slice none 0 0, .slice none 0 0, .int .i64 0, .int .i64 0] 28)).trans hk6))
                     clear hk6 he hok hna hnd hb))))
            all_goals first
              | (have hF := NxSt.mkSet (nx' := addN (dat cs ds) nx ep (evB ek ey ec et em ef eb)) (ep' := addE (dat cs ds) nx ep (evB ek ey ec et em ef eb)) (VB := w4.heap.size) HT6.out HD6.out HV6.out (by omega) (fun b hb => HL4.out b hb) HB6.out.toOwn HN6.out HOk.out HNa.out HNd.out
                 generalize w4.heap.size = VB at *
                 exact ⟨VB, ek, ey, ec, et, em, ef, eb, ca', cc', cs', da', dc', ds', rfl, hF, HE6.out⟩)
              | (have hF := NxSt.mkSet (nx' := addN (dat cs ds) nx ep (evB ek ey ec et em ef eb)) (ep' := addE (dat cs ds) nx ep (evB ek ey ec et em ef eb)) (VB := w5.heap.size) HT6.out HD6.out HV6.out (by omega) (fun b hb => by have := HL4.out b hb; omega) HB6.out.toOwn HN6.out HOk.out HNa.out HNd.out
                 generalize w5.heap.size = VB at *
                 exact ⟨VB, ek, ey, ec, et, em, ef, eb, ca', cc', cs', da', dc', ds', rfl, hF, HE6.out⟩)
              | (have hF := NxSt.mkNew (nx' := addN (dat cs ds) nx ep (evB ek ey ec et em ef eb)) (ep' := addE (dat cs ds) nx ep (evB ek ey ec et em ef eb)) HT6.out HD6.out HB6.out.toOwn (fun b hb => by have := HB6.out.new b hb; omega) HOk.out HNa.out HNd.out
                 generalize w6.heap.size = VB at *
                 exact ⟨VB, ek, ey, ec, et, em, ef, eb, ca', cc', cs', da', dc', ds', rfl, hF, HE6.out⟩)
          · rintro VB ek ey ec et em ef eb ca' cc' cs' da' dc' ds' w6 ⟨hN, he⟩
            have HN := hide hN
            have HE := hide he
            clear hN he HT4 HL4 HD4 q0 q1 q2 q3 qf0 qf1 qf2 qf3 ql hz4 lR4
            have q0 := HN.out.nw.row.cell (i := 0) (by decide)
            have q1 := HN.out.nw.row.cell (i := 1) (by decide)
            have q2 := HN.out.nw.row.cell (i := 2) (by decide)
            have q3 := HN.out.nw.row.cell (i := 3) (by decide)
            have r0 := HN.out.lo.row.cell (i := 0) (by decide)
            have r1 := HN.out.lo.row.cell (i := 1) (by decide)
            have r2 := HN.out.lo.row.cell (i := 2) (by decide)
            have r3 := HN.out.lo.row.cell (i := 3) (by decide)
            have rf0 := HN.out.lo.row.frozen 0
            have rf1 := HN.out.lo.row.frozen 1
            have rf2 := HN.out.lo.row.frozen 2
            have rf3 := HN.out.lo.row.frozen 3
            have rl := HN.out.lo.row.lt
            have hne := HN.out.ne
            have qz := HN.out.nw.row.lt
            simp [logRow] at q0 q1 q2 q3 r0 r1 r2 r3
            have HAd := hide (fun h => HM.out.add (L := bodyR ek ey ec et em ef eb) (nx := nx) (ep := ep) (e := evB ek ey ec et em ef eb) (Nat.le_trans (bodyR_length ek ey ec et em ef eb) (by omega)) h)
            by_cases hc : addC (dat cs ds) nx ep (evB ek ey ec et em ef eb) = 0
            · have HM7 : Hid (FewM (dat cs' ds')) := by show FewM _; rw [HE.out]; exact HAd.out hc
              rw [hc]
              clear HM HAd HE hc
              generalize addN (dat cs ds) nx ep (evB ek ey ec et em ef eb) = nx2 at *
              generalize addE (dat cs ds) nx ep (evB ek ey ec et em ef eb) = ep2 at *
              go_wp2_with fail
              go_roundw
              case rel =>
                obtain ⟨t1, t2⟩ := HN.out.take
                exact ⟨n - 1, ca', cc', cs', da', dc', ds', nx2, ep2, by omega, by congr 1; omega, t1, HM7, t2.dr, t2.g, t2.r⟩
              case measure => simp [intOf]; omega
            · have hc' : (addC (dat cs ds) nx ep (evB ek ey ec et em ef eb) == 0) = false := beq_eq_false_iff_ne.2 hc
              clear HAd HE
              generalize addC (dat cs ds) nx ep (evB ek ey ec et em ef eb) = code at *
              generalize addN (dat cs ds) nx ep (evB ek ey ec et em ef eb) = nx2 at *
              generalize addE (dat cs ds) nx ep (evB ek ey ec et em ef eb) = ep2 at *
              go_wp2_with fail
              go_roundw
              case rel => exact ⟨n - 1, ca, cc, cs, da, dc, ds, nx, ep, by omega, by congr 1; omega, HN.out.lo, HM, HN.out.st.dr, HN.out.st.g, HN.out.st.r⟩
              case measure => simp [intOf]; omega
    · have e : n = 0 := by omega
      subst e
      have q0 := HD.out.row.cell (i := 0) (by decide)
      have q1 := HD.out.row.cell (i := 1) (by decide)
      have q2 := HD.out.row.cell (i := 2) (by decide)
      have q3 := HD.out.row.cell (i := 3) (by decide)
      have z0 := HR.out.cell (i := 0) (by decide)
      have z1 := HR.out.cell (i := 1) (by decide)
      have z2 := HR.out.cell (i := 2) (by decide)
      have z3 := HR.out.cell (i := 3) (by decide)
      have f0 := HR.out.frozen 0
      have f1 := HR.out.frozen 1
      have f2 := HR.out.frozen 2
      have f3 := HR.out.frozen 3
      simp [logRow] at q0 q1 q2 q3 z0 z1 z2 z3
      go_wp2_with fail
      have r9 := row_four HR.out (.slice ca cs.length cc) (.slice da ds.length dc) (.int .i64 nx) (.int .i64 ep)
      have o0 := r9.cell (i := 0) (by decide)
      have o1 := r9.cell (i := 1) (by decide)
      have o2 := r9.cell (i := 2) (by decide)
      have o3 := r9.cell (i := 3) (by decide)
      simp only [logRow, if_true, Nat.one_ne_zero, if_false, Nat.reduceEqDiff] at o0 o1 o2 o3
      have ht : Turn [w.heap.size] wr ((((wr.setCell ⟨w.heap.size, 0, none⟩ (.slice ca cs.length cc)).setCell ⟨w.heap.size, 1, none⟩ (.slice da ds.length dc)).setCell ⟨w.heap.size, 2, none⟩ (.int .i64 nx)).setCell ⟨w.heap.size, 3, none⟩ (.int .i64 ep)) := (((Turn.set (by simp) _).trans' (Turn.set (by simp) _)).trans' (Turn.set (by simp) _)).trans' (Turn.set (by simp) _)
      have hBn : Born w ((((wr.setCell ⟨w.heap.size, 0, none⟩ (.slice ca cs.length cc)).setCell ⟨w.heap.size, 1, none⟩ (.slice da ds.length dc)).setCell ⟨w.heap.size, 2, none⟩ (.int .i64 nx)).setCell ⟨w.heap.size, 3, none⟩ (.int .i64 ep)) (dsk ca cs da ds) :=
        ⟨HD.out.own.turn ht (fun b hb hx => by have h1 := (HD.out.far b hb).1; have h2 : b = w.heap.size := (by simpa using hx); omega), fun b hb => by have := (HD.out.far b hb).1; omega⟩
      refine bodyPost_ret (v := logV ca cs.length cc da ds.length dc nx ep) ?_ rfl ⟨⟨_, dat cs ds, nx, ep, rfl, ⟨ca, cc, cs, da, dc, ds, rfl, rfl, HD.out.ok, HD.out.na, HD.out.nd, hBn⟩, HM.out⟩, (((HS.out.set (by omega) (by omega) _).set (by omega) (by omega) _).set (by omega) (by omega) _).set (by omega) (by omega) _, grown_new (grown_new (grown_new (grown_new HG.out (Nat.le_refl _)) (Nat.le_refl _)) (Nat.le_refl _)) (Nat.le_refl _)⟩
      clear hBn ht r9 HD HM HS HG HR q0 q1 q2 q3 z0 z1 z2 z3 f0 f1 f2 f3
      revert o0 o1 o2 o3
      generalize World.setCell (World.setCell _ _ _) _ _ = W'
      intro o0 o1 o2 o3
      simp [results, Tryz.results51, go_sem, o0, o1, o2, o3]
end Go.Proofs.YtkdnddckogbgaaaGreatDoor
