/- FnLog: what is added is read at the end, and stays where the log is synced. -/
import Derived.Test.YtkdnddckogbgaaaGreatDoorFL37
import Derived.Test.YtkdnddckogbgaaaGreatDoorFL22
import Derived.Test.YtkdnddckogbgaaaGreatDoorFL10
import Derived.Test.YtkdnddckogbgaaaGreatDoorFL8
import Derived.Test.YtkdnddckogbgaaaGreatDoorFL11
import Derived.Test.YtkdnddckogbgaaaGreatDoorFL31
import Derived.Test.YtkdnddckogbgaaaGreatDoorFL30
import Derived.Test.YtkdnddckogbgaaaGreatDoorFL32
import Derived.Lib.SlBytesConst
import Derived.Test.YtkdnddckogbgaaaGreatDoorCards
import Derived.Test.YtkdnddckogbgaaaGreatDoorTie
import Derived.WalkKit
import Derived.ProofKit
import Derived.OpenShut
import Derived.ShutString
import Derived.LaidMore
import Derived.Stop.Joined
import Derived.SevenTiedAt
import Derived.ChangeOld
import Derived.Below
namespace Go.Proofs.YtkdnddckogbgaaaGreatDoor.fnLog
open Go.ChangeShapes Go.WideShapes Go.ChangeAt Go.RowKit
open Go.ChangeMaps (open_string shut_string)
set_option linter.unusedVariables false
theorem own : ownKnob Tryz.prog.godebug = none := by kernel_rfl
theorem laidOut : laidOutB Tryz.prog = true := by kernel_rfl
theorem gGaveUp : Tryz.prog.globalNamed "loop.example/g00400/impl.errGaveUp" = some 0 := by kernel_rfl
theorem tGaveUp : (Tryz.prog.globals[0]?).map (·.type) = some 168 := by kernel_rfl
theorem door_met (os : Os) (args : Array Value) : laidMetH Tryz.prog Rows.fnLogRow.laid ((World.doorLaid Tryz.prog 172 os).forCall (fun _ _ => 0) ⟨#[], args, []⟩).memory :=
  laidMetH_of_parts3 (fuel := 8) (laidMet_of_run' 8 (by kernel_rfl) (by kernel_rfl)) (by kernel_rfl) (by kernel_rfl)

theorem nx_le {M : DkM} {nx ep : Int} {e : Bool} (h : addC M nx ep e = 0) : 0 ≤ nx ∧ nx ≤ 1048576 := by
  obtain ⟨h1, h2, h3, _⟩ := add_yes h
  have := dokM_len h1
  omega
set_option maxRecDepth 100000 in
set_option maxHeartbeats 8000000 in
theorem walk (a : Option Addr) (len cap : Nat) (w : World) (hr : RowAt w.heap.size w a len) (u : TypeId) (pv : Value) (hv : w.cell? ⟨0, 0, none⟩ = some (.iface u pv)) :
    Calls Tryz.prog 3 #[.slice a len cap] w fun e w' => e = .returned (.bool true) ∧ Keeps w w' := by
  have HV := hide hv
  have HRw := hide hr
  clear hv hr
  by_cases hl : 1048576 < len
  · go_enter Tryz.func3, Tryz.ntmps3
    go_wp2_with fail
    go_ret
    exact ⟨rfl, Keeps.refl _⟩
  · have HDr := hide (draw_add a len cap w HRw.out (by omega))
    clear HRw
    go_enter Tryz.func3, Tryz.ntmps3
    go_wp2_with fail
    refine (unhide HDr).mono ?_
    rintro x w1 ⟨⟨v, M, nx, ep, k, y, c, t, m, f, b, rfl, hr⟩, hk1⟩
    obtain ⟨ca, cc, cs, da, dc, ds, rfl, he, hok, hna, hnd, hb⟩ := hr
    have hkA := Keeps.alloc (Keeps.alloc (Keeps.refl w1) (.cells #[.slice ca cs.length cc, .slice da ds.length dc, .int .i64 nx, .int .i64 ep] 28)) (.cells #[.int .i64 k, .int .i64 y, .int .i64 c, .int .i64 t, .int .i64 m, .int .i64 f, .bool b] 30)
    have HK := hide (hk1.trans hkA)
    have HM := hide (hb.mem.kept hkA)
    have HOK := hide hok
    have hkE := Keeps.alloc (Keeps.refl (w1.alloc (.cells #[.slice ca cs.length cc, .slice da ds.length dc, .int .i64 nx, .int .i64 ep] 28))) (.cells #[.int .i64 k, .int .i64 y, .int .i64 c, .int .i64 t, .int .i64 m, .int .i64 f, .bool b] 30)
    have hbX := born_alloc w1 #[.slice ca cs.length cc, .slice da ds.length dc, .int .i64 nx, .int .i64 ep] 28
    have l0 := cell_at hbX.mem 0 (by simp)
    have l1 := cell_at hbX.mem 1 (by simp)
    have l2 := cell_at hbX.mem 2 (by simp)
    have l3 := cell_at hbX.mem 3 (by simp)
    simp only [Nat.zero_add, List.getElem_cons_zero, List.getElem_cons_succ] at l0 l1 l2 l3
    clear hbX
    replace l0 := hkE.cell l0
    replace l1 := hkE.cell l1
    replace l2 := hkE.cell l2
    replace l3 := hkE.cell l3
    have hbX := born_alloc (w1.alloc (.cells #[.slice ca cs.length cc, .slice da ds.length dc, .int .i64 nx, .int .i64 ep] 28)) #[.int .i64 k, .int .i64 y, .int .i64 c, .int .i64 t, .int .i64 m, .int .i64 f, .bool b] 30
    have e0 := cell_at hbX.mem 0 (by simp)
    have e1 := cell_at hbX.mem 1 (by simp)
    have e2 := cell_at hbX.mem 2 (by simp)
    have e3 := cell_at hbX.mem 3 (by simp)
    have e4 := cell_at hbX.mem 4 (by simp)
    have e5 := cell_at hbX.mem 5 (by simp)
    have e6 := cell_at hbX.mem 6 (by simp)
    simp only [Nat.zero_add, List.getElem_cons_zero, List.getElem_cons_succ] at e0 e1 e2 e3 e4 e5 e6
    clear hbX
    rw [size_alloc1] at e0 e1 e2 e3 e4 e5 e6
    subst he
    clear HDr hb hna hnd hk1 hkA hok hkE
    go_wp2_with fail
    generalize (w1.alloc (.cells #[.slice ca cs.length cc, .slice da ds.length dc, .int .i64 nx, .int .i64 ep] 28)).alloc (.cells #[.int .i64 k, .int .i64 y, .int .i64 c, .int .i64 t, .int .i64 m, .int .i64 f, .bool b] 30) = W1 at *
    generalize w1.heap.size = bL at *
    have HAI := hide (logadd_impl ca cc cs da dc ds nx ep k y c t m f b W1 HM.out HOK.out)
    have HEV : Hid (evB k y c t m f b = true → ebB (bodyR k y c t m f b) = true ∧ ebE (bodyR k y c t m f b) = ⟨k, y, c, t, m, f, b⟩) := fun h => ⟨(body_back h).1, (body_back h).2.1⟩
    have hBl := Nat.le_trans (bodyR_length k y c t m f b) (show 22 ≤ 100 by decide)
    have HAS := hide (fun W hk => logadd_spec ca cc cs da dc ds nx ep k y c t m f b W (HM.out.kept (w := W1) (w' := W) hk) HOK.out)
    obtain ⟨EB, hEB⟩ : ∃ EB, evB k y c t m f b = EB := ⟨_, rfl⟩
    obtain ⟨BL, hBL⟩ : ∃ BL, bodyR k y c t m f b = BL := ⟨_, rfl⟩
    rw [hEB, hBL] at HAI HEV
    rw [hBL] at hBl
    simp only [hEB, hBL] at HAS
    clear hEB hBL
    obtain ⟨C, hC⟩ : ∃ C, addC (dat cs ds) nx ep EB = C := ⟨_, rfl⟩
    obtain ⟨N', hN⟩ : ∃ N', addN (dat cs ds) nx ep EB = N' := ⟨_, rfl⟩
    obtain ⟨E', hE⟩ : ∃ E', addE (dat cs ds) nx ep EB = E' := ⟨_, rfl⟩
    have HC := hide hC
    have HN := hide hN
    have HE := hide hE
    refine HAI.out.mono ?_
    rintro x w2 ⟨v, rfl, hr, hk⟩
    obtain ⟨ca', cc', cs', da', dc', ds', rfl, he, hok, hna, hnd, hb⟩ := hr
    rw [hC, hN, hE]
    clear hC hN hE HAI
    have hkW := hk
    replace l0 := hk.cell l0
    replace l1 := hk.cell l1
    replace l2 := hk.cell l2
    replace l3 := hk.cell l3
    replace e0 := hk.cell e0
    replace e1 := hk.cell e1
    replace e2 := hk.cell e2
    replace e3 := hk.cell e3
    replace e4 := hk.cell e4
    replace e5 := hk.cell e5
    replace e6 := hk.cell e6
    replace HK := hide (HK.out.trans hk)
    replace HM := hide (HM.out.kept hk)
    have HML := hide hb.mem
    have HOK2 := hide hok
    have HDD := hide he
    have HW2 := hide hkW
    clear hk hkW hb hok hna hnd he
    have hkB := Keeps.alloc (Keeps.refl w2) (.cells #[.slice ca' cs'.length cc', .slice da' ds'.length dc', .int .i64 N', .int .i64 E'] 28)
    replace l0 := hkB.cell l0
    replace l1 := hkB.cell l1
    replace l2 := hkB.cell l2
    replace l3 := hkB.cell l3
    replace e0 := hkB.cell e0
    replace e1 := hkB.cell e1
    replace e2 := hkB.cell e2
    replace e3 := hkB.cell e3
    replace e4 := hkB.cell e4
    replace e5 := hkB.cell e5
    replace e6 := hkB.cell e6
    replace HK := hide (HK.out.trans hkB)
    replace HM := hide (HM.out.kept hkB)
    replace HML := hide (HML.out.kept hkB)
    replace HW2 := hide (HW2.out.trans hkB)
    have hbX := born_alloc w2 #[.slice ca' cs'.length cc', .slice da' ds'.length dc', .int .i64 N', .int .i64 E'] 28
    have m0 := cell_at hbX.mem 0 (by simp)
    have m1 := cell_at hbX.mem 1 (by simp)
    have m2 := cell_at hbX.mem 2 (by simp)
    have m3 := cell_at hbX.mem 3 (by simp)
    simp only [Nat.zero_add, List.getElem_cons_zero, List.getElem_cons_succ] at m0 m1 m2 m3
    clear hbX
    clear hkB
    go_wp2_with fail
    generalize w2.alloc (.cells #[.slice ca' cs'.length cc', .slice da' ds'.length dc', .int .i64 N', .int .i64 E'] 28) = W2 at *
    generalize w2.heap.size = bM at *
    refine (HAS.out W2 HW2.out).mono ?_
    rintro x w3 ⟨v, rfl, hr, hk⟩
    obtain ⟨ca2, cc2, cs2, da2, dc2, ds2, rfl, _, _, _, _, _⟩ := hr
    rw [HC.out, HN.out, HE.out]
    replace l0 := hk.cell l0
    replace l1 := hk.cell l1
    replace l2 := hk.cell l2
    replace l3 := hk.cell l3
    replace e0 := hk.cell e0
    replace e1 := hk.cell e1
    replace e2 := hk.cell e2
    replace e3 := hk.cell e3
    replace e4 := hk.cell e4
    replace e5 := hk.cell e5
    replace e6 := hk.cell e6
    replace m0 := hk.cell m0
    replace m1 := hk.cell m1
    replace m2 := hk.cell m2
    replace m3 := hk.cell m3
    replace HK := hide (HK.out.trans hk)
    replace HM := hide (HM.out.kept hk)
    replace HML := hide (HML.out.kept hk)
    clear hk HAS HW2
    have hkB := Keeps.alloc (Keeps.refl w3) (.cells #[.slice ca2 cs2.length cc2, .slice da2 ds2.length dc2, .int .i64 N', .int .i64 E'] 28)
    replace l0 := hkB.cell l0
    replace l1 := hkB.cell l1
    replace l2 := hkB.cell l2
    replace l3 := hkB.cell l3
    replace e0 := hkB.cell e0
    replace e1 := hkB.cell e1
    replace e2 := hkB.cell e2
    replace e3 := hkB.cell e3
    replace e4 := hkB.cell e4
    replace e5 := hkB.cell e5
    replace e6 := hkB.cell e6
    replace m0 := hkB.cell m0
    replace m1 := hkB.cell m1
    replace m2 := hkB.cell m2
    replace m3 := hkB.cell m3
    replace HK := hide (HK.out.trans hkB)
    replace HM := hide (HM.out.kept hkB)
    replace HML := hide (HML.out.kept hkB)
    clear hkB
    by_cases hc : C = 0
    rotate_left
    · have hcs : cs' = [] := by
        have h := HDD.out
        unfold addM at h
        rw [HC.out, if_neg hc] at h
        have h2 := congrArg (fun d : DkM => d.cells.length) h
        simpa [dat, noM] using h2
      have hc' : (C == 0) = false := beq_eq_false_iff_ne.2 hc
      subst hcs
      simp only [List.length_nil] at m0
      go_wp2_with fail
      go_ret
      exact ⟨rfl, HK.out⟩
    · subst hc
      obtain ⟨n0, n1⟩ := nx_le HC.out
      obtain rfl : nx + 1 = N' := by rw [← HN.out]; unfold addN; rw [if_pos HC.out]
      obtain rfl : ep = E' := by rw [← HE.out]; unfold addE; rw [if_pos HC.out]
      go_wp2_with fail
      generalize w3.alloc (.cells #[.slice ca2 cs2.length cc2, .slice da2 ds2.length dc2, .int .i64 (nx + 1), .int .i64 ep] 28) = W3 at *
      generalize w3.heap.size = bS at *
      refine (logread_spec ca cc cs da dc ds W3 HM.out HOK.out).mono ?_
      rintro x w4 ⟨ra, rc, nb, rfl, _, _, _, hk⟩
      replace l0 := hk.cell l0
      replace l1 := hk.cell l1
      replace l2 := hk.cell l2
      replace l3 := hk.cell l3
      replace e0 := hk.cell e0
      replace e1 := hk.cell e1
      replace e2 := hk.cell e2
      replace e3 := hk.cell e3
      replace e4 := hk.cell e4
      replace e5 := hk.cell e5
      replace e6 := hk.cell e6
      replace m0 := hk.cell m0
      replace m1 := hk.cell m1
      replace m2 := hk.cell m2
      replace m3 := hk.cell m3
      replace HK := hide (HK.out.trans hk)
      replace HM := hide (HM.out.kept hk)
      replace HML := hide (HML.out.kept hk)
      clear hk
      obtain ⟨LN, hLN⟩ : ∃ LN, logN (dat cs ds) = LN := ⟨_, rfl⟩
      rw [hLN]
      have HLN := hide hLN
      clear hLN
      by_cases hn : (LN : Int) = nx
      rotate_left
      · have hn' : ((LN : Int) != nx) = true := bne_iff_ne.2 hn
        have g0 := gr_cell l0
        have g1 := gr_cell l1
        have g2 := gr_cell l2
        have g3 := gr_cell l3
        have gm2 := gr_cell m2
        go_wp2_with fail
        refine region_gr (by kernel_rfl) (by kernel_rfl) ?_
        repeat (go_big_quiet_step (fail))
        refine wpQuiet_nil ?_
        intro wq hwq
        have hkq := Keeps.of_gr hwq
        clear hwq g0 g1 g2 g3 gm2
        replace l2 := hkq.cell l2
        replace m2 := hkq.cell m2
        go_wp2_with fail
        go_ret
        exact ⟨rfl, HK.out.trans hkq⟩
      · subst hn
        obtain ⟨htop0, htop1⟩ := topM_bound (dat cs ds)
        obtain ⟨T, hT⟩ : ∃ T, topM (dat cs ds) = T := ⟨_, rfl⟩
        rw [hT] at htop0 htop1
        have HT := hide hT
        have HTP : Hid (∀ t, Calls Tryz.prog 10 #[dskV ca cs.length cc da ds.length dc] (gr w4 t) fun e w' => e = .returned (.int .i64 T) ∧ Keeps (gr w4 t) w') := by
          show ∀ t, _
          intro t
          rw [← hT]
          exact logtop_spec ca cc cs da dc ds (gr w4 t) (HM.out.kept (gr_keeps w4 t)) HOK.out
        clear hT
        have g0 := gr_cell l0
        have g1 := gr_cell l1
        have g2 := gr_cell l2
        have g3 := gr_cell l3
        have hwr : IntKind.i64.wrap (T - 1) = T - 1 := by rw [IntKind.wrap_i64]; omega
        go_wp2_with fail
        refine region_gr (by kernel_rfl) (by kernel_rfl) ?_
        repeat (go_big_quiet_step (first | (go_at_call 10; exact gr_call (HTP.out _))))
        refine wpQuiet_nil ?_
        intro w5 hwq
        have hk := Keeps.of_gr hwq
        clear hwq g0 g1 g2 g3 HTP hwr
        replace l0 := hk.cell l0
        replace l1 := hk.cell l1
        replace l2 := hk.cell l2
        replace l3 := hk.cell l3
        replace e0 := hk.cell e0
        replace e1 := hk.cell e1
        replace e2 := hk.cell e2
        replace e3 := hk.cell e3
        replace e4 := hk.cell e4
        replace e5 := hk.cell e5
        replace e6 := hk.cell e6
        replace m0 := hk.cell m0
        replace m1 := hk.cell m1
        replace m2 := hk.cell m2
        replace m3 := hk.cell m3
        replace HK := hide (HK.out.trans hk)
        replace HM := hide (HM.out.kept hk)
        replace HML := hide (HML.out.kept hk)
        clear hk
        by_cases ht : ep ≤ T - 1
        · go_wp2_with fail
          go_ret
          exact ⟨rfl, HK.out⟩
        · obtain ⟨ad1, ad2, ad3⟩ := add_all HC.out hBl (by rw [HLN.out]) (by rw [HT.out]; omega)
          rw [← HDD.out, HLN.out] at ad2
          rw [← HDD.out] at ad1
          obtain ⟨_, _, _, _, _, _, hEt⟩ := add_yes HC.out
          obtain ⟨ev1, ev2⟩ := HEV.out hEt
          have ev3 := ad3 ev1
          rw [← HDD.out, HLN.out, ev2] at ev3
          have HE3 := hide ev3
          have HD1 := hide ad1
          clear ad1 ad3 ev1 ev2 ev3 hEt HEV hBl HC HN HE
          go_wp2_with fail
          refine (logread_impl ca' cc' cs' da' dc' ds' w5 u pv (HK.out.cell HV.out) HML.out HOK2.out).mono ?_
          rintro x w6 ⟨ra', rc', nb', rfl, _, _, _, hk⟩
          replace l0 := hk.cell l0
          replace l1 := hk.cell l1
          replace l2 := hk.cell l2
          replace l3 := hk.cell l3
          replace e0 := hk.cell e0
          replace e1 := hk.cell e1
          replace e2 := hk.cell e2
          replace e3 := hk.cell e3
          replace e4 := hk.cell e4
          replace e5 := hk.cell e5
          replace e6 := hk.cell e6
          replace m0 := hk.cell m0
          replace m1 := hk.cell m1
          replace m2 := hk.cell m2
          replace m3 := hk.cell m3
          replace HK := hide (HK.out.trans hk)
          replace HM := hide (HM.out.kept hk)
          replace HML := hide (HML.out.kept hk)
          clear hk
          obtain ⟨K2, hK2⟩ : ∃ K2, logN (dat cs' ds') = K2 := ⟨_, rfl⟩
          rw [hK2] at ad2 ⊢
          have HK2 := hide hK2
          clear hK2
          by_cases hk2 : K2 = LN + 1
          rotate_left
          · have hkn : ((K2 : Int) != (LN : Int) + 1) = true := bne_iff_ne.2 (by omega)
            have hkg : (LN : Int) + 1 < (K2 : Int) := by omega
            go_wp2_with fail
            go_ret
            exact ⟨rfl, HK.out⟩
          · subst hk2
            have hcast : (((LN + 1 : Nat)) : Int) = (LN : Int) + 1 := by simp
            rw [hcast]
            go_wp2_with fail
            refine (logevents_impl ca' cc' cs' da' dc' ds' w6 u pv (HK.out.cell HV.out) HML.out HOK2.out).mono ?_
            rintro x w7 ⟨la, lc, rfl, hbl, hk⟩
            rw [HK2.out, HE3.out] at hbl ⊢
            have HSL := hide (sync_log HD1.out)
            have HSC := hide (fun f => sync_crash HD1.out f)
            rw [HK2.out, HE3.out] at HSL
            have hA1 := evsTo_len (dat cs ds) LN
            generalize evsTo (dat cs ds) LN = A at *
            have hA : A.length ≤ 1048576 := by omega
            clear hA1
            rw [List.length_append, List.length_singleton]
            obtain ⟨bb, off, ea, hce⟩ := elem_at (f := Ev.cells) (sz := 7) (fun _ => rfl) hbl.toOwn.one A.length (by simp) (by decide)
            subst ea
            have hx : (A ++ [(⟨k, y, c, t, m, f, b⟩ : Ev)])[A.length]'(by simp) = ⟨k, y, c, t, m, f, b⟩ := by simp
            rw [hx] at hce
            have s0 := hce 0 (by simp [Ev.cells])
            have s1 := hce 1 (by simp [Ev.cells])
            have s2 := hce 2 (by simp [Ev.cells])
            have s3 := hce 3 (by simp [Ev.cells])
            have s4 := hce 4 (by simp [Ev.cells])
            have s5 := hce 5 (by simp [Ev.cells])
            have s6 := hce 6 (by simp [Ev.cells])
            simp only [Ev.cells, List.getElem_cons_zero, List.getElem_cons_succ, Nat.add_zero] at s0 s1 s2 s3 s4 s5 s6
            clear hce hx hbl HE3
            replace l0 := hk.cell l0
            replace l1 := hk.cell l1
            replace l2 := hk.cell l2
            replace l3 := hk.cell l3
            replace e0 := hk.cell e0
            replace e1 := hk.cell e1
            replace e2 := hk.cell e2
            replace e3 := hk.cell e3
            replace e4 := hk.cell e4
            replace e5 := hk.cell e5
            replace e6 := hk.cell e6
            replace m0 := hk.cell m0
            replace m1 := hk.cell m1
            replace m2 := hk.cell m2
            replace m3 := hk.cell m3
            replace HK := hide (HK.out.trans hk)
            replace HM := hide (HM.out.kept hk)
            replace HML := hide (HML.out.kept hk)
            clear hk
            go_wp2_with fail
            refine (logsync_impl ca' cc' cs' da' dc' ds' _ _ w7 HML.out HOK2.out).mono ?_
            rintro x w8 ⟨v, rfl, hr, hk⟩
            obtain ⟨ca3, cc3, cs3, da3, dc3, ds3, rfl, he3, hok3, _, _, hb3⟩ := hr
            replace l0 := hk.cell l0
            replace l1 := hk.cell l1
            replace l2 := hk.cell l2
            replace l3 := hk.cell l3
            replace e0 := hk.cell e0
            replace e1 := hk.cell e1
            replace e2 := hk.cell e2
            replace e3 := hk.cell e3
            replace e4 := hk.cell e4
            replace e5 := hk.cell e5
            replace e6 := hk.cell e6
            replace m0 := hk.cell m0
            replace m1 := hk.cell m1
            replace m2 := hk.cell m2
            replace m3 := hk.cell m3
            replace s0 := hk.cell s0
            replace s1 := hk.cell s1
            replace s2 := hk.cell s2
            replace s3 := hk.cell s3
            replace s4 := hk.cell s4
            replace s5 := hk.cell s5
            replace s6 := hk.cell s6
            replace HK := hide (HK.out.trans hk)
            replace HM := hide (HM.out.kept hk)
            replace HML := hide (HML.out.kept hk)
            clear hk
            have hf := log_disk ca3 cc3 cs3 da3 dc3 ds3 (syncN (dat cs' ds') ((LN : Int) + 1)) (syncN (dat cs' ds') ep)
            generalize syncN (dat cs' ds') ((LN : Int) + 1) = sn at *
            generalize syncN (dat cs' ds') ep = se at *
            go_wp2_with fail
            clear hf
            refine (diskcrash_impl ca3 cc3 cs3 da3 dc3 ds3 none 0 [] w8 hb3.mem hok3 (.inl rfl) (by simp)).mono ?_
            rintro x w9 ⟨v, rfl, hr, hk⟩
            obtain ⟨ca4, cc4, cs4, da4, dc4, ds4, rfl, he4, hok4, _, _, hb4⟩ := hr
            have HLK : Hid ((evsTo (dat cs4 ds4) (logN (dat cs4 ds4))).length = A.length + 1) := by
              show _ = _
              have e5 : dat cs4 ds4 = crashM (dat cs' ds') (fun _ => 128) := by
                rw [he4, he3]
                unfold syncM
                rw [if_pos HD1.out, HSC.out]
              rw [e5, HSL.out.1, HSL.out.2]
              simp
            replace l0 := hk.cell l0
            replace l1 := hk.cell l1
            replace l2 := hk.cell l2
            replace l3 := hk.cell l3
            replace e0 := hk.cell e0
            replace e1 := hk.cell e1
            replace e2 := hk.cell e2
            replace e3 := hk.cell e3
            replace e4 := hk.cell e4
            replace e5 := hk.cell e5
            replace e6 := hk.cell e6
            replace m0 := hk.cell m0
            replace m1 := hk.cell m1
            replace m2 := hk.cell m2
            replace m3 := hk.cell m3
            replace s0 := hk.cell s0
            replace s1 := hk.cell s1
            replace s2 := hk.cell s2
            replace s3 := hk.cell s3
            replace s4 := hk.cell s4
            replace s5 := hk.cell s5
            replace s6 := hk.cell s6
            replace HK := hide (HK.out.trans hk)
            replace HM := hide (HM.out.kept hk)
            replace HML := hide (HML.out.kept hk)
            have HM4 := hide hb4.mem
            have HOK4 := hide hok4
            clear hk he3 he4 hb3 hb4 hok3 hok4 HSL HSC
            go_wp2_with fail
            refine (logevents_impl ca4 cc4 cs4 da4 dc4 ds4 w9 u pv (HK.out.cell HV.out) HM4.out HOK4.out).mono ?_
            rintro x w10 ⟨ka, kc, rfl, _, hk⟩
            rw [HLK.out]
            replace l0 := hk.cell l0
            replace l1 := hk.cell l1
            replace l2 := hk.cell l2
            replace l3 := hk.cell l3
            replace e0 := hk.cell e0
            replace e1 := hk.cell e1
            replace e2 := hk.cell e2
            replace e3 := hk.cell e3
            replace e4 := hk.cell e4
            replace e5 := hk.cell e5
            replace e6 := hk.cell e6
            replace m0 := hk.cell m0
            replace m1 := hk.cell m1
            replace m2 := hk.cell m2
            replace m3 := hk.cell m3
            replace s0 := hk.cell s0
            replace s1 := hk.cell s1
            replace s2 := hk.cell s2
            replace s3 := hk.cell s3
            replace s4 := hk.cell s4
            replace s5 := hk.cell s5
            replace s6 := hk.cell s6
            replace HK := hide (HK.out.trans hk)
            replace HM := hide (HM.out.kept hk)
            replace HML := hide (HML.out.kept hk)
            clear hk HM4 HOK4 HLK
            have hq : ∀ w : World, (binOp .eql 30 (evV k y c t m f b) (evV k y c t m f b)).run Tryz.prog w = .ok (.bool true) w := fun w => by rw [ev_eql]; simp [evEq]
            go_wp2_with fail
            go_quiet (fail)
            go_wp2_with fail
            go_ret
            exact ⟨rfl, HK.out.drewN _⟩

set_option maxRecDepth 100000 in
theorem lifted (os : Os) (started : os.Started) (H : Type) (enc : TypeId × Value → H) :
    ReturnsInHanded {} Tryz.checked os 3 .any (fun w args => (Rows.fnLogSpec.pre enc Tryz.prog Tryz.f3 [] false w args ∧ laidMetH Tryz.prog Rows.fnLogRow.laid w) ∧ sizedMet enc Tryz.prog Tryz.f3 (OpenSpec.ofChange Rows.fnLogSpec) false w args)
      (Rows.fnLogSpec.post enc Tryz.prog Tryz.f3 false true false false) := by
  refine returnsInHanded_of_change_and (C := Tryz.checked) (X := fun w _ => laidMetH Tryz.prog Rows.fnLogRow.laid w) (fun _ _ _ hh h => h.of_heap hh) own started (by kernel_rfl) Tryz.func3
    (ChangeSpec.witness_shaped (enc := enc) (C := Tryz.checked) (os := os) (X := fun w _ => laidMetH Tryz.prog Rows.fnLogRow.laid w) false (World.doorLaid Tryz.prog 172 os) #[.slice none 0 0] 8 rfl (World.shaped_of_RefB (by kernel_rfl) (by kernel_rfl)) (by kernel_rfl) (by kernel_rfl) (by kernel_rfl) (door_met os _)) ?_
  intro W base args ds gs before hval0 hW _ hsz hL _
  have hval : ∀ (j : Nat) t v, Tryz.f3.params[j]? = some t → args[j]? = some v → Value.okWide Tryz.prog W .any base t v := hval0
  have hW' := hW
  obtain ⟨p, q, hA0, hV0, rfl, hfz, hnd⟩ := hW
  have hA : DataW.TrodAll enc Tryz.prog W 0 (fun _ => true) true Tryz.f3.params.toList args.toList ds p := hA0
  have hV : DataW.TrodVars enc Tryz.prog W (fun _ => true) ["loop.example/g00400/impl.errGaveUp"] gs q := hV0
  rw [Tryz.params3] at hA hval
  obtain ⟨v0, vs0, d0, ds0, p0, q0, hargs, rfl, rfl, h0, r0⟩ := trodAll_cons hA
  obtain ⟨rfl, rfl, rfl⟩ := trodAll_nil r0
  obtain rfl : args = #[v0] := by cases args; simp_all
  have k0 := h0
  have lt0 : ∀ x ∈ p0, x.block < W.heap.size := by obtain ⟨m, hm⟩ := k0; exact DataW.trod_lt m _ _ _ hm
  obtain ⟨a0, len0, cap0, rfl⟩ := okWide_slice Tryz.underlying22 (hval 0 22 v0 rfl rfl)
  have w0 : RowAt W.heap.size W a0 len0 := by
    obtain ⟨fuel, hf⟩ := h0
    rcases open_ints Tryz.underlying22 Tryz.underlying5 (by kernel_rfl) hf with ⟨hcs, _⟩ | ⟨x, l, c, zs, hcs, _, hl, hm, hz, _, hcell, hwz⟩
    · simp [Value.cells] at hcs
      obtain ⟨rfl, rfl, rfl⟩ := hcs
      exact row_nil
    · simp [Value.cells] at hcs
      obtain ⟨rfl, rfl, rfl⟩ := hcs
      exact row_of hl (by simpa using hz) hcell hwz
  have hL0 : laidMet Tryz.prog Rows.fnLogRow.laid W := by rw [← MakeChecks.laidMetH_plain _ _ _ (by kernel_rfl)]; exact hL
  obtain ⟨xGaveUp, hvGaveUp⟩ := sent hL0 gGaveUp tGaveUp
  obtain ⟨rfl, rfl⟩ := hV.unique (vars_read1 enc gGaveUp tGaveUp Tryz.underlying168 hvGaveUp trivial _)
  clear hA0 hV0 hval0
  refine (walk a0 len0 cap0 W w0 _ _ (cell_of_var gGaveUp hvGaveUp)).mono fun e W' ⟨he, hb⟩ => ?_
  subst he
  refine ⟨_, rfl, _, _, _, [], (p0 ++ []), [.cell 0 0], hW', ?_, ?_, ?_, Below.frame hb _, fun h => by cases h⟩
  · exact trodAll_mk1 (shut_bool Tryz.underlying4 _)
  · exact (trodAll_cons_mk (Below.trod laidOut (by kernel_rfl) (of_decide_eq_true (by kernel_rfl)) k0 hb lt0) trodAll_mk0)
  · exact vars_read1 enc gGaveUp tGaveUp Tryz.underlying168 (var_kept hb hvGaveUp) trivial _

theorem over : Rows.FnLogSaid :=
  OpenClaim.holds_of_wide 3 Tryz.f3 rfl rfl rfl rfl rfl rfl rfl ⟨rfl, rfl, rfl, rfl, rfl⟩ rfl rfl rfl rfl rfl (by kernel_rfl) Tryz.func3 (by kernel_rfl)
    (of_decide_eq_true (by kernel_rfl)) (by unfold Func.isWrapper; first | (rw [if_pos (by decide +kernel)]; kernel_rfl) | (rw [if_neg (by decide +kernel)]; exact ⟨rfl, rfl⟩))
    (fun os started H enc _ => lifted os started H enc)
end Go.Proofs.YtkdnddckogbgaaaGreatDoor.fnLog
namespace Go.Proofs.YtkdnddckogbgaaaGreatDoor
theorem fnLog_holds : Rows.FnLogCardSaid :=
  Claim7.holds_tied_plain_at .later [] Rows.fnLogCard.laidKinds true Rows.fnLogCard.stood.harness true
    fnLog.over (fun _ h => by cases h) (by kernel_rfl) (fun _ h => by cases h) fnLog_row_tie rfl ⟨rfl, rfl⟩ (by kernel_rfl) rfl
    (fun f fn hf hfn => by
      obtain rfl : f = 3 := Option.some.inj ((show Tryz.prog.funcNamed Rows.fnLogRow.func = some 3 by kernel_rfl).symm.trans hf) |>.symm
      obtain rfl : fn = Tryz.f3 := (Option.some.inj (Tryz.func3.symm.trans hfn)).symm
      exact ⟨by kernel_rfl, fun j t ht => by
        rw [Tryz.params3] at ht
        have hm : t ∈ [22] := by simpa using Array.mem_of_getElem? ht
        have hall : ([22].all fun u => !Tryz.prog.wantsStandIn u) = true := by kernel_rfl
        exact (show Tryz.prog.wantsStandIn t = false by simpa using List.all_eq_true.1 hall t hm)⟩)
    (by kernel_rfl)
end Go.Proofs.YtkdnddckogbgaaaGreatDoor
