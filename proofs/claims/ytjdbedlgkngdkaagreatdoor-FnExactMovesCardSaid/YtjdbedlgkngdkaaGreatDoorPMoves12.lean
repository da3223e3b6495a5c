/- Texts of the verifier, joined: BsD, Pq9, BgC. -/
import Derived.Test.YtjdbedlgkngdkaaGreatDoorPMoves11
import Derived.Test.YtjdbedlgkngdkaaGreatDoorPMoves10
import Derived.Test.YtjdbedlgkngdkaaGreatDoorPMoves1
import Derived.Test.YtjdbedlgkngdkaaGreatDoorPMoves3
namespace Go.Proofs.YtjdbedlgkngdkaaGreatDoor
open Go.RowKit Go.Deep
set_option linter.unusedVariables false
set_option linter.unusedSimpArgs false
set_option maxRecDepth 10000

theorem bookB_def2 (B : Bk) : bookB B = (amtB B.tk && (amtB B.wa && (decide (1 ≤ B.nx) && (decide (B.nx ≤ 1125899906842624) && (decide (B.C.length ≤ 20) && (decide (B.Hs.length ≤ 60) && (decide (B.R.length ≤ 20) && (underB B && (idsB B.C && B.C.all (chanB B)))))))))) := by
  have e : posB B.nx = (decide (1 ≤ B.nx) && decide (B.nx ≤ 1125899906842624)) := by
    unfold posB amtB
    by_cases h1 : 1 ≤ B.nx <;> by_cases h2 : B.nx ≤ 1125899906842624 <;> simp [h1, h2] <;> omega
  unfold bookB headB
  rw [e]
  cases amtB B.tk <;> cases amtB B.wa <;> cases decide (1 ≤ B.nx) <;> cases decide (B.nx ≤ 1125899906842624) <;> cases decide (B.C.length ≤ 20) <;> cases decide (B.Hs.length ≤ 60) <;> cases decide (B.R.length ≤ 20) <;> cases underB B <;> cases idsB B.C <;> simp
theorem under_small {B : Bk} (h1 : B.Hs.length ≤ 60) (h2 : B.R.length ≤ 20) (h : underB B = true) : Small B := by
  unfold underB at h
  simp only [Bool.and_eq_true] at h
  exact small_of h1 h2 h.1.1 h.1.2
/-- All of channel k, in the model's order. -/
theorem both_no1 {B : Bk} {k : Nat} (hk : k < B.C.length) (h : idAt B.C k = false) : (idsB B.C && B.C.all (chanB B)) = false := by rw [idsB_no hk h]; rfl
theorem both_no2 {B : Bk} {k : Nat} (hk : k < B.C.length) (h : chanB B B.C[k] = false) : (idsB B.C && B.C.all (chanB B)) = false := by rw [all_no hk h]; simp
set_option maxHeartbeats 16000000 in
theorem bookok_spec (B : Bo) (w : World) (hm : Mem w B.segs) (hl : B.len) : Calls Tryz.prog 74 #[B.v] w fun e w' => e = .returned (.bool (bookB B.d)) ∧ Keeps w w' := by
  have H1 := hide (fun w' (hk : Keeps w w') => under_spec B w' (hm.kept hk) hl.1)
  have H2 := hide (fun ch w' (hk : Keeps w w') => out_spec B ch w' (hm.kept hk))
  have H3 := hide (fun ch w' (hk : Keeps w w') => in_spec B ch w' (hm.kept hk))
  have HUB := hide (fun ch => under_bound B.d ch)
  have HSM := hide (under_small (B := B.d))
  have HN1 := hide (fun k => both_no1 (B := B.d) (k := k))
  have HN2 := hide (fun k => both_no2 (B := B.d) (k := k))
  obtain ⟨tk, nx, wa, ca, cc, C, ha, hc, Hs, ra, rc, R⟩ := B
  have HCC := hide (fun w' (hk : Keeps w w') => Bo.memC (hm.kept hk))
  have HCH := hide (fun w' (hk : Keeps w w') => Bo.memH (hm.kept hk))
  have HCR := hide (fun w' (hk : Keeps w w') => Bo.memR (hm.kept hk))
  have HL := hide hl
  have HBA := hide (book_box ⟨tk, nx, wa, ca, cc, C, ha, hc, Hs, ra, rc, R⟩ w 27)
  have HKA := hide (Keeps.alloc (Keeps.refl w) (.cells #[.int .i64 tk, .int .i64 nx, .int .i64 wa, .slice ca C.length cc, .slice ha Hs.length hc, .slice ra R.length rc] 27))
  dsimp only [Bo.d, Bo.v] at *
  clear hm hl
  go_enter Tryz.func74, Tryz.ntmps74
  go_wp2_with fail
  have HV : Hid (bookB (⟨tk, nx, wa, C, Hs, R⟩ : Bk) = (amtB tk && (amtB wa && (decide (1 ≤ nx) && (decide (nx ≤ 1125899906842624) && (decide (C.length ≤ 20) && (decide (Hs.length ≤ 60) && (decide (R.length ≤ 20) && (underB (⟨tk, nx, wa, C, Hs, R⟩ : Bk) && (idsB C && C.all (chanB (⟨tk, nx, wa, C, Hs, R⟩ : Bk)))))))))))) := bookB_def2 (⟨tk, nx, wa, C, Hs, R⟩ : Bk)
  obtain ⟨l1, l2, l3⟩ := HL.out
  dsimp only at l1 l2 l3
  generalize w.alloc (.cells #[.int .i64 tk, .int .i64 nx, .int .i64 wa, .slice ca C.length cc, .slice ha Hs.length hc, .slice ra R.length rc] 27) = W0 at *
  have HKc := hide (Keeps.refl W0)
  refine (amt_spec tk _).mono ?_
  rintro e w1 ⟨rfl, hk⟩
  replace HKc := hide (HKc.out.trans hk)
  clear hk
  obtain ⟨e0, e1, e2, e3, e4, e5⟩ := HBA.out.kept HKc.out
  dsimp only at e0 e1 e2 e3 e4 e5
  cases hb0 : amtB tk
  · go_wp2_with fail
    go_ret
    exact ⟨ret_b (by rw [HV.out, hb0]; simp only [Bool.true_and, Bool.false_and]), HKA.out.trans HKc.out⟩
  go_wp2_with fail
  refine (amt_spec wa _).mono ?_
  rintro e w2 ⟨rfl, hk⟩
  replace HKc := hide (HKc.out.trans hk)
  clear hk
  clear e0 e1 e2 e3 e4 e5
  obtain ⟨e0, e1, e2, e3, e4, e5⟩ := HBA.out.kept HKc.out
  dsimp only at e0 e1 e2 e3 e4 e5
  cases hb1 : amtB wa
  · go_wp2_with fail
    go_ret
    exact ⟨ret_b (by rw [HV.out, hb0, hb1]; simp only [Bool.true_and, Bool.false_and]), HKA.out.trans HKc.out⟩
  by_cases hn0 : 1 ≤ nx
  rotate_left
  · have hn0d := hide (decide_eq_false hn0)
    go_wp2_with fail
    go_ret
    exact ⟨ret_b (by rw [HV.out, hb0, hb1, hn0d.out]; simp only [Bool.true_and, Bool.false_and]), HKA.out.trans HKc.out⟩
  have hn0d := hide (decide_eq_true hn0)
  by_cases hn1 : nx ≤ 1125899906842624
  rotate_left
  · have hn1d := hide (decide_eq_false hn1)
    go_wp2_with fail
    go_ret
    exact ⟨ret_b (by rw [HV.out, hb0, hb1, hn0d.out, hn1d.out]; simp only [Bool.true_and, Bool.false_and]), HKA.out.trans HKc.out⟩
  have hn1d := hide (decide_eq_true hn1)
  by_cases hn2 : C.length ≤ 20
  rotate_left
  · have hn2d := hide (decide_eq_false hn2)
    go_wp2_with fail
    go_ret
    exact ⟨ret_b (by rw [HV.out, hb0, hb1, hn0d.out, hn1d.out, hn2d.out]; simp only [Bool.true_and, Bool.false_and]), HKA.out.trans HKc.out⟩
  have hn2d := hide (decide_eq_true hn2)
  by_cases hn3 : Hs.length ≤ 60
  rotate_left
  · have hn3d := hide (decide_eq_false hn3)
    go_wp2_with fail
    go_ret
    exact ⟨ret_b (by rw [HV.out, hb0, hb1, hn0d.out, hn1d.out, hn2d.out, hn3d.out]; simp only [Bool.true_and, Bool.false_and]), HKA.out.trans HKc.out⟩
  have hn3d := hide (decide_eq_true hn3)
  by_cases hn4 : R.length ≤ 20
  rotate_left
  · have hn4d := hide (decide_eq_false hn4)
    go_wp2_with fail
    go_ret
    exact ⟨ret_b (by rw [HV.out, hb0, hb1, hn0d.out, hn1d.out, hn2d.out, hn3d.out, hn4d.out]; simp only [Bool.true_and, Bool.false_and]), HKA.out.trans HKc.out⟩
  have hn4d := hide (decide_eq_true hn4)
  go_wp2_with fail
  refine (unhide H1 w2 (HKA.out.trans HKc.out) (of_decide_eq_true hn3d.out) (of_decide_eq_true hn4d.out)).mono ?_
  rintro e w3 ⟨rfl, hk⟩
  replace HKc := hide (HKc.out.trans hk)
  clear hk e0 e1 e2 e3 e4 e5
  obtain ⟨e0, e1, e2, e3, e4, e5⟩ := HBA.out.kept HKc.out
  dsimp only at e0 e1 e2 e3 e4 e5
  cases hun : underB (⟨tk, nx, wa, C, Hs, R⟩ : Bk)
  · go_wp2_with fail
    go_ret
    exact ⟨ret_b (by rw [HV.out, hb0, hb1, hn0d.out, hn1d.out, hn2d.out, hn3d.out, hn4d.out, hun]; simp only [Bool.true_and, Bool.false_and]), HKA.out.trans HKc.out⟩
  replace HSM := hide (HSM.out (of_decide_eq_true hn3d.out) (of_decide_eq_true hn4d.out) hun)
  replace HUB := hide (fun ch => HUB.out ch HSM.out)
  go_wp2_with fail
  have HVV : Hid (bookB (⟨tk, nx, wa, C, Hs, R⟩ : Bk) = (idsB C && C.all (chanB (⟨tk, nx, wa, C, Hs, R⟩ : Bk)))) := by show _ = _; rw [HV.out, hb0, hb1, hn0d.out, hn1d.out, hn2d.out, hn3d.out, hn4d.out, hun]; simp only [Bool.true_and]
  have HKS := hide HKc.out
  clear HKc e0 e1 e2 e3 e4 e5
  go_loopw [51] (fun y wr => ∃ k : Nat, k ≤ C.length ∧ y = .int .i64 (k : Int) ∧ Hid (∀ j, j < k → idAt C j = true) ∧ Hid (∀ j (hj : j < C.length), j < k → chanB (⟨tk, nx, wa, C, Hs, R⟩ : Bk) C[j] = true) ∧ Hid (Keeps W0 wr)) (fun y _ => C.length - (intOf y).toNat)
  case atStart => exact ⟨0, by omega, rfl, fun j h => absurd h (by omega), fun j hj h => absurd h (by omega), HKS.out⟩
  case round =>
    obtain ⟨k, hk, rfl, HG, HG2, HKr⟩ := hrel
    clear HKS
    by_cases hlt : k < C.length
    rotate_left
    · have HR : Hid ((idsB C && C.all (chanB (⟨tk, nx, wa, C, Hs, R⟩ : Bk))) = true) := by show _ = _; rw [idsB_yes (fun j hj => HG.out j (by omega)), all_yes (fun j hj => HG2.out j hj (by omega))]; rfl
      go_wp2_with fail
      go_ret
      exact ⟨ret_b (by rw [HVV.out, HR.out]), HKA.out.trans HKr.out⟩
    obtain ⟨b, off, ea, c0, c1, c2, c3, c4, c5, c6⟩ := chs_at (unhide HCC _ (HKA.out.trans HKr.out)) k hlt
    have HEA := hide ea
    have HZ : Hid (k = 0 → idAt C k = chB C[k].id) := fun e => by subst e; exact idAt_zero hlt
    have HZ2 : Hid (∀ m (hm : m < C.length), k = m + 1 → idAt C k = (chB C[k].id && decide (C[m].id < C[k].id))) := fun m hm e => by subst e; exact idAt_succ hlt
    have HPR : Hid (∀ m (hm : m < C.length) w', Keeps W0 w' → w'.cell? ⟨b, off + m * 7, none⟩ = some (.int .i64 C[m].id)) := fun m hm w' hk => by
      obtain ⟨b', off', ea', p0, -⟩ := chs_at (unhide HCC _ (HKA.out.trans hk)) m hm
      rw [ea] at ea'
      have ea2 := Option.some.inj ea'
      injection ea2 with e1 e2
      subst e1 e2
      exact p0
    clear ea
    obtain rfl := HEA.out
    have HX : Hid (C[k] = C[k]) := rfl
    generalize hx : C[k] = x at c0 c1 c2 c3 c4 c5 c6 HX HZ HZ2
    replace HX := hide hx
    clear hx
    obtain ⟨xid, xsz, xlo, xre, xba, xpp, xsc⟩ := x
    dsimp only at c0 c1 c2 c3 c4 c5 c6 HZ HZ2
    have HA := hide (rowc7 wr (.int .i64 xid) (.int .i64 xsz) (.int .i64 xlo) (.int .i64 xre) (.int .i64 xba) (.int .i64 xpp) (.int .i64 xsc) 84)
    have HKv := hide (HKr.out.trans (Keeps.alloc (Keeps.refl wr) (.cells #[.int .i64 xid, .int .i64 xsz, .int .i64 xlo, .int .i64 xre, .int .i64 xba, .int .i64 xpp, .int .i64 xsc] 84)))
    go_wp2_with fail
    generalize wr.alloc (.cells #[.int .i64 xid, .int .i64 xsz, .int .i64 xlo, .int .i64 xre, .int .i64 xba, .int .i64 xpp, .int .i64 xsc] 84) = W1 at *
    have g0 := fun t => (unhide HA _ (gr_keeps W1 t)).1
    have g1 := fun t => (unhide HA _ (gr_keeps W1 t)).2.1
    have g2 := fun t => (unhide HA _ (gr_keeps W1 t)).2.2.1
    have g3 := fun t => (unhide HA _ (gr_keeps W1 t)).2.2.2.1
    have g4 := fun t => (unhide HA _ (gr_keeps W1 t)).2.2.2.2.1
    have g5 := fun t => (unhide HA _ (gr_keeps W1 t)).2.2.2.2.2.1
    have g6 := fun t => (unhide HA _ (gr_keeps W1 t)).2.2.2.2.2.2
    have q0 := fun t => (HBA.out.kept (HKv.out.trans (gr_keeps W1 t))).1
    have q1 := fun t => (HBA.out.kept (HKv.out.trans (gr_keeps W1 t))).2.1
    have q2 := fun t => (HBA.out.kept (HKv.out.trans (gr_keeps W1 t))).2.2.1
    have q3 := fun t => (HBA.out.kept (HKv.out.trans (gr_keeps W1 t))).2.2.2.1
    have q4 := fun t => (HBA.out.kept (HKv.out.trans (gr_keeps W1 t))).2.2.2.2.1
    have q5 := fun t => (HBA.out.kept (HKv.out.trans (gr_keeps W1 t))).2.2.2.2.2
    dsimp only at q0 q1 q2 q3 q4 q5
    clear c0 c1 c2 c3 c4 c5 c6
    by_cases hk0 : k = 0
    · have h0 : decide (0 < k) = false := by simp; omega
      have HIA : Hid (idAt C k = chB xid) := HZ.out hk0
      clear hk0 HZ HZ2
      have HQ3 := hide (fun t => amt_spec xlo (gr W1 t))
      have HQ4 := hide (fun t => amt_spec xre (gr W1 t))
      have HQ5 := hide (fun t => amt_spec xba (gr W1 t))
      have HQ8 := hide (fun t => sok_spec xsc (gr W1 t))
      refine region_gr (by kernel_rfl) (by kernel_rfl) ?_
      repeat (go_big_quiet_step (first | (go_at_call 76; first | exact gr_call (unhide HQ3 _) | exact gr_call (unhide HQ4 _) | exact gr_call (unhide HQ5 _)) | (go_at_call 113; exact gr_call (unhide HQ8 _))))
      by_cases hq0 : xid < 1
      · have HD0 := hide hq0
        have hd0 : decide (xid < 1) = true := decide_eq_true hq0
        clear hq0
        simp only [hd0]
        repeat (go_big_quiet_step (first | (go_at_call 76; first | exact gr_call (unhide HQ3 _) | exact gr_call (unhide HQ4 _) | exact gr_call (unhide HQ5 _)) | (go_at_call 113; exact gr_call (unhide HQ8 _))))
        refine wpQuiet_nil ?_
        intro w' hw'
        have HKG := hide (Keeps.of_gr hw'); have hk' := HKv.out.trans HKG.out
        clear hw'
        go_wp2_with fail
        go_ret
        exact ⟨ret_b (by rw [HVV.out, HN1.out k hlt (by rw [HIA.out]; simp [chB]; have := HD0.out; omega)]), HKA.out.trans hk'⟩
      have HD0 := hide hq0
      have hd0 : decide (xid < 1) = false := decide_eq_false hq0
      clear hq0
      simp only [hd0]
      repeat (go_big_quiet_step (first | (go_at_call 76; first | exact gr_call (unhide HQ3 _) | exact gr_call (unhide HQ4 _) | exact gr_call (unhide HQ5 _)) | (go_at_call 113; exact gr_call (unhide HQ8 _))))
      by_cases hq1 : 99 < xid
      · have HD1 := hide hq1
        have hd1 : decide (99 < xid) = true := decide_eq_true hq1
        clear hq1
        simp only [hd1]
        repeat (go_big_quiet_step (first | (go_at_call 76; first | exact gr_call (unhide HQ3 _) | exact gr_call (unhide HQ4 _) | exact gr_call (unhide HQ5 _)) | (go_at_call 113; exact gr_call (unhide HQ8 _))))
        refine wpQuiet_nil ?_
        intro w' hw'
        have HKG := hide (Keeps.of_gr hw'); have hk' := HKv.out.trans HKG.out
        clear hw'
        go_wp2_with fail
        go_ret
        exact ⟨ret_b (by rw [HVV.out, HN1.out k hlt (by rw [HIA.out]; simp [chB]; have := HD1.out; omega)]), HKA.out.trans hk'⟩
      have HD1 := hide hq1
      have hd1 : decide (99 < xid) = false := decide_eq_false hq1
      clear hq1
      simp only [hd1]
      repeat (go_big_quiet_step (first | (go_at_call 76; first | exact gr_call (unhide HQ3 _) | exact gr_call (unhide HQ4 _) | exact gr_call (unhide HQ5 _)) | (go_at_call 113; exact gr_call (unhide HQ8 _))))
      cases hb3 : amtB xlo
      · simp only [Bool.not_true, Bool.not_false]
        repeat (go_big_quiet_step (first | (go_at_call 76; first | exact gr_call (unhide HQ3 _) | exact gr_call (unhide HQ4 _) | exact gr_call (unhide HQ5 _)) | (go_at_call 113; exact gr_call (unhide HQ8 _))))
        refine wpQuiet_nil ?_
        intro w' hw'
        have HKG := hide (Keeps.of_gr hw'); have hk' := HKv.out.trans HKG.out
        clear hw'
        go_wp2_with fail
        go_ret
        exact ⟨ret_b (by rw [HVV.out, HN2.out k hlt (by show chanB _ C[k] = false; rw [HX.out]; simp [chanB, fieldsB, hb3])]), HKA.out.trans hk'⟩
      simp only [Bool.not_true, Bool.not_false]
      repeat (go_big_quiet_step (first | (go_at_call 76; first | exact gr_call (unhide HQ3 _) | exact gr_call (unhide HQ4 _) | exact gr_call (unhide HQ5 _)) | (go_at_call 113; exact gr_call (unhide HQ8 _))))
      cases hb4 : amtB xre
      · simp only [Bool.not_true, Bool.not_false]
        repeat (go_big_quiet_step (first | (go_at_call 76; first | exact gr_call (unhide HQ3 _) | exact gr_call (unhide HQ4 _) | exact gr_call (unhide HQ5 _)) | (go_at_call 113; exact gr_call (unhide HQ8 _))))
        refine wpQuiet_nil ?_
        intro w' hw'
        have HKG := hide (Keeps.of_gr hw'); have hk' := HKv.out.trans HKG.out
        clear hw'
        go_wp2_with fail
        go_ret
        exact ⟨ret_b (by rw [HVV.out, HN2.out k hlt (by show chanB _ C[k] = false; rw [HX.out]; simp [chanB, fieldsB, hb4])]), HKA.out.trans hk'⟩
      simp only [Bool.not_true, Bool.not_false]
      repeat (go_big_quiet_step (first | (go_at_call 76; first | exact gr_call (unhide HQ3 _) | exact gr_call (unhide HQ4 _) | exact gr_call (unhide HQ5 _)) | (go_at_call 113; exact gr_call (unhide HQ8 _))))
      cases hb5 : amtB xba
      · simp only [Bool.not_true, Bool.not_false]
        repeat (go_big_quiet_step (first | (go_at_call 76; first | exact gr_call (unhide HQ3 _) | exact gr_call (unhide HQ4 _) | exact gr_call (unhide HQ5 _)) | (go_at_call 113; exact gr_call (unhide HQ8 _))))
        refine wpQuiet_nil ?_
        intro w' hw'
        have HKG := hide (Keeps.of_gr hw'); have hk' := HKv.out.trans HKG.out
        clear hw'
        go_wp2_with fail
        go_ret
        exact ⟨ret_b (by rw [HVV.out, HN2.out k hlt (by show chanB _ C[k] = false; rw [HX.out]; simp [chanB, fieldsB, hb5])]), HKA.out.trans hk'⟩
      simp only [Bool.not_true, Bool.not_false]
      repeat (go_big_quiet_step (first | (go_at_call 76; first | exact gr_call (unhide HQ3 _) | exact gr_call (unhide HQ4 _) | exact gr_call (unhide HQ5 _)) | (go_at_call 113; exact gr_call (unhide HQ8 _))))
      by_cases hq6 : xpp < 0
      · have HD6 := hide hq6
        have hd6 : decide (xpp < 0) = true := decide_eq_true hq6
        clear hq6
        simp only [hd6]
        repeat (go_big_quiet_step (first | (go_at_call 76; first | exact gr_call (unhide HQ3 _) | exact gr_call (unhide HQ4 _) | exact gr_call (unhide HQ5 _)) | (go_at_call 113; exact gr_call (unhide HQ8 _))))
        refine wpQuiet_nil ?_
        intro w' hw'
        have HKG := hide (Keeps.of_gr hw'); have hk' := HKv.out.trans HKG.out
        clear hw'
        go_wp2_with fail
        go_ret
        exact ⟨ret_b (by rw [HVV.out, HN2.out k hlt (by show chanB _ C[k] = false; rw [HX.out]; simp [chanB, fieldsB, ppmB]; have := HD6.out; omega)]), HKA.out.trans hk'⟩
      have HD6 := hide hq6
      have hd6 : decide (xpp < 0) = false := decide_eq_false hq6
      clear hq6
      simp only [hd6]
      repeat (go_big_quiet_step (first | (go_at_call 76; first | exact gr_call (unhide HQ3 _) | exact gr_call (unhide HQ4 _) | exact gr_call (unhide HQ5 _)) | (go_at_call 113; exact gr_call (unhide HQ8 _))))
      by_cases hq7 : 1000000 < xpp
      · have HD7 := hide hq7
        have hd7 : decide (1000000 < xpp) = true := decide_eq_true hq7
        clear hq7
        simp only [hd7]
        repeat (go_big_quiet_step (first | (go_at_call 76; first | exact gr_call (unhide HQ3 _) | exact gr_call (unhide HQ4 _) | exact gr_call (unhide HQ5 _)) | (go_at_call 113; exact gr_call (unhide HQ8 _))))
        refine wpQuiet_nil ?_
        intro w' hw'
        have HKG := hide (Keeps.of_gr hw'); have hk' := HKv.out.trans HKG.out
        clear hw'
        go_wp2_with fail
        go_ret
        exact ⟨ret_b (by rw [HVV.out, HN2.out k hlt (by show chanB _ C[k] = false; rw [HX.out]; simp [chanB, fieldsB, ppmB]; have := HD7.out; omega)]), HKA.out.trans hk'⟩
      have HD7 := hide hq7
      have hd7 : decide (1000000 < xpp) = false := decide_eq_false hq7
      clear hq7
      simp only [hd7]
      repeat (go_big_quiet_step (first | (go_at_call 76; first | exact gr_call (unhide HQ3 _) | exact gr_call (unhide HQ4 _) | exact gr_call (unhide HQ5 _)) | (go_at_call 113; exact gr_call (unhide HQ8 _))))
      refine wpQuiet_nil ?_
      intro w' hw'
      have HKG := hide (Keeps.of_gr hw'); have hk' := HKv.out.trans HKG.out
      clear hw'
      cases hb8 : okS xsc
      · go_wp2_with fail
        go_ret
        exact ⟨ret_b (by rw [HVV.out, HN2.out k hlt (by show chanB _ C[k] = false; rw [HX.out]; simp [chanB, fieldsB, hb8])]), HKA.out.trans hk'⟩
      go_wp2_with fail
      have HID : Hid (idAt C k = true) := by show _ = _; rw [HIA.out]; have := HD0.out; have := HD1.out; simp [chB]; omega
      have HFB : Hid (fieldsB ⟨xid, xsz, xlo, xre, xba, xpp, xsc⟩ = true) := by show _ = _; have := HD6.out; have := HD7.out; simp [fieldsB, ppmB, hb3, hb4, hb5, hb8]; omega
      have z1 := amtB_true hb3
      have z2 := amtB_true hb4
      clear g0 g1 g2 g3 g4 g5 g6 q0 q1 q2 q3 q4 q5 HQ3 HQ4 HQ5 HQ8 hd0 hd1 hd6 hd7
      generalize w' = W2 at *
      have HKw := hide hk'
      clear hk'
      have HK12 : Hid (Keeps W1 W2) := HKG.out
      obtain ⟨o0, o1, i0, i1⟩ := HUB.out xid
      have HO := hide (fun t => unhide H2 xid (gr W2 t) (HKA.out.trans (HKw.out.trans (gr_keeps W2 t))) HSM.out)
      have HI := hide (fun t => unhide H3 xid (gr W2 t) (HKA.out.trans (HKw.out.trans (gr_keeps W2 t))) HSM.out)
      have HSV : Hid (sizeB (⟨tk, nx, wa, C, Hs, R⟩ : Bk) ⟨xid, xsz, xlo, xre, xba, xpp, xsc⟩ = (amtB xsz && decide (xsz = xlo + xre + outV (⟨tk, nx, wa, C, Hs, R⟩ : Bk) xid + inV (⟨tk, nx, wa, C, Hs, R⟩ : Bk) xid))) := rfl
      generalize outV (⟨tk, nx, wa, C, Hs, R⟩ : Bk) xid = ov at *
      generalize inV (⟨tk, nx, wa, C, Hs, R⟩ : Bk) xid = iv at *
      have hw1 : IntKind.i64.wrap (xlo + xre) = xlo + xre := by rw [IntKind.wrap_i64]; omega
      have hw2 : IntKind.i64.wrap (xlo + xre + ov) = xlo + xre + ov := by rw [IntKind.wrap_i64]; omega
      have hw3 : IntKind.i64.wrap (xlo + xre + ov + iv) = xlo + xre + ov + iv := by rw [IntKind.wrap_i64]; omega
      have g0 := fun t => (unhide HA _ (HK12.out.trans (gr_keeps W2 t))).1
      have g1 := fun t => (unhide HA _ (HK12.out.trans (gr_keeps W2 t))).2.1
      have g2 := fun t => (unhide HA _ (HK12.out.trans (gr_keeps W2 t))).2.2.1
      have g3 := fun t => (unhide HA _ (HK12.out.trans (gr_keeps W2 t))).2.2.2.1
      have g4 := fun t => (unhide HA _ (HK12.out.trans (gr_keeps W2 t))).2.2.2.2.1
      have g5 := fun t => (unhide HA _ (HK12.out.trans (gr_keeps W2 t))).2.2.2.2.2.1
      have g6 := fun t => (unhide HA _ (HK12.out.trans (gr_keeps W2 t))).2.2.2.2.2.2
      have q0 := fun t => (HBA.out.kept (HKw.out.trans (gr_keeps W2 t))).1
      have q1 := fun t => (HBA.out.kept (HKw.out.trans (gr_keeps W2 t))).2.1
      have q2 := fun t => (HBA.out.kept (HKw.out.trans (gr_keeps W2 t))).2.2.1
      have q3 := fun t => (HBA.out.kept (HKw.out.trans (gr_keeps W2 t))).2.2.2.1
      have q4 := fun t => (HBA.out.kept (HKw.out.trans (gr_keeps W2 t))).2.2.2.2.1
      have q5 := fun t => (HBA.out.kept (HKw.out.trans (gr_keeps W2 t))).2.2.2.2.2
      dsimp only at q0 q1 q2 q3 q4 q5
      have HQz := hide (fun t => amt_spec xsz (gr W2 t))
      cases hbz : amtB xsz
      · rw [hbz] at HQz
        refine region_gr (by kernel_rfl) (by kernel_rfl) ?_
        repeat (go_big_quiet_step (first | (go_at_call 76; exact gr_call (unhide HQz _))))
        refine wpQuiet_nil ?_
        intro w' hw'
        have hk' := HKw.out.trans (Keeps.of_gr hw')
        clear hw'
        go_wp2_with fail
        go_ret
        exact ⟨ret_b (by rw [HVV.out, HN2.out k hlt (by show chanB _ C[k] = false; rw [HX.out]; simp [chanB, HSV.out, hbz])]), HKA.out.trans hk'⟩
      rw [hbz] at HQz
      by_cases hsz : xsz = xlo + xre + ov + iv
      · have HSZ := hide hsz
        have hsz' : (xlo + xre + ov + iv != xsz) = false := by simp [hsz]
        clear hsz
        refine region_gr (by kernel_rfl) (by kernel_rfl) ?_
        repeat (go_big_quiet_step (first | (go_at_call 76; exact gr_call (unhide HQz _)) | (go_at_call 114; exact gr_call (unhide HO _)) | (go_at_call 115; exact gr_call (unhide HI _))))
        refine wpQuiet_nil ?_
        intro w' hw'
        have hk' := HKw.out.trans (Keeps.of_gr hw')
        clear hw'
        go_wp2_with fail
        have HOK : Hid (chanB (⟨tk, nx, wa, C, Hs, R⟩ : Bk) ⟨xid, xsz, xlo, xre, xba, xpp, xsc⟩ = true) := by show _ = _; unfold chanB; rw [HFB.out, HSV.out, hbz]; simpa using HSZ.out
        have HKe := hide hk'
        clear hk'
        go_roundw
        case rel => exact ⟨k + 1, by omega, by go_num, fun j h => by
                      by_cases e : j = k
                      · subst e; exact HID.out
                      · exact HG.out j (by omega), fun j hj h => by
                      by_cases e : j = k
                      · subst e; rw [HX.out]; exact HOK.out
                      · exact HG2.out j hj (by omega), HKe.out⟩
        case measure => simp [intOf]; omega
      · have HSZ := hide hsz
        have hsz' : (xlo + xre + ov + iv != xsz) = true := by simp; exact fun e => hsz e.symm
        clear hsz
        refine region_gr (by kernel_rfl) (by kernel_rfl) ?_
        repeat (go_big_quiet_step (first | (go_at_call 76; exact gr_call (unhide HQz _)) | (go_at_call 114; exact gr_call (unhide HO _)) | (go_at_call 115; exact gr_call (unhide HI _))))
        refine wpQuiet_nil ?_
        intro w' hw'
        have hk' := HKw.out.trans (Keeps.of_gr hw')
        clear hw'
        go_wp2_with fail
        go_ret
        exact ⟨ret_b (by rw [HVV.out, HN2.out k hlt (by show chanB _ C[k] = false; rw [HX.out]; unfold chanB; rw [HFB.out, HSV.out, hbz]; simpa using HSZ.out)]), HKA.out.trans hk'⟩
    · have h0 : decide (0 < k) = true := by simp; omega
      obtain ⟨m, hm⟩ : ∃ m, k = m + 1 := ⟨k - 1, by omega⟩
      have hml : m < C.length := by omega
      have HIA : Hid (idAt C k = (chB xid && decide (C[m].id < xid))) := HZ2.out m hml hm
      have p0 := fun t => HPR.out m hml _ (HKv.out.trans (gr_keeps W1 t))
      generalize C[m].id = y at *
      have hi1 : (k : Int) - 1 = (m : Int) := by omega
      have hi2 : IntKind.i64.wrap (m : Int) = (m : Int) := by rw [IntKind.wrap_i64]; omega
      have hi3 : IntKind.i64.wrap ((k : Int) - 1) = (m : Int) := by rw [hi1]; exact hi2
      clear hk0 HZ HZ2 hm
      have HQ3 := hide (fun t => amt_spec xlo (gr W1 t))
      have HQ4 := hide (fun t => amt_spec xre (gr W1 t))
      have HQ5 := hide (fun t => amt_spec xba (gr W1 t))
      have HQ8 := hide (fun t => sok_spec xsc (gr W1 t))
      refine region_gr (by kernel_rfl) (by kernel_rfl) ?_
      repeat (go_big_quiet_step (first | (go_at_call 76; first | exact gr_call (unhide HQ3 _) | exact gr_call (unhide HQ4 _) | exact gr_call (unhide HQ5 _)) | (go_at_call 113; exact gr_call (unhide HQ8 _))))
      by_cases hq0 : xid < 1
      · have HD0 := hide hq0
        have hd0 : decide (xid < 1) = true := decide_eq_true hq0
        clear hq0
        simp only [hd0]
        repeat (go_big_quiet_step (first | (go_at_call 76; first | exact gr_call (unhide HQ3 _) | exact gr_call (unhide HQ4 _) | exact gr_call (unhide HQ5 _)) | (go_at_call 113; exact gr_call (unhide HQ8 _))))
        refine wpQuiet_nil ?_
        intro w' hw'
        have HKG := hide (Keeps.of_gr hw'); have hk' := HKv.out.trans HKG.out
        clear hw'
        go_wp2_with fail
        go_ret
        exact ⟨ret_b (by rw [HVV.out, HN1.out k hlt (by rw [HIA.out]; simp [chB]; have := HD0.out; omega)]), HKA.out.trans hk'⟩
      have HD0 := hide hq0
      have hd0 : decide (xid < 1) = false := decide_eq_false hq0
      clear hq0
      simp only [hd0]
      repeat (go_big_quiet_step (first | (go_at_call 76; first | exact gr_call (unhide HQ3 _) | exact gr_call (unhide HQ4 _) | exact gr_call (unhide HQ5 _)) | (go_at_call 113; exact gr_call (unhide HQ8 _))))
      by_cases hq1 : 99 < xid
      · have HD1 := hide hq1
        have hd1 : decide (99 < xid) = true := decide_eq_true hq1
        clear hq1
        simp only [hd1]
        repeat (go_big_quiet_step (first | (go_at_call 76; first | exact gr_call (unhide HQ3 _) | exact gr_call (unhide HQ4 _) | exact gr_call (unhide HQ5 _)) | (go_at_call 113; exact gr_call (unhide HQ8 _))))
        refine wpQuiet_nil ?_
        intro w' hw'
        have HKG := hide (Keeps.of_gr hw'); have hk' := HKv.out.trans HKG.out
        clear hw'
        go_wp2_with fail
        go_ret
        exact ⟨ret_b (by rw [HVV.out, HN1.out k hlt (by rw [HIA.out]; simp [chB]; have := HD1.out; omega)]), HKA.out.trans hk'⟩
      have HD1 := hide hq1
      have hd1 : decide (99 < xid) = false := decide_eq_false hq1
      clear hq1
      simp only [hd1]
      repeat (go_big_quiet_step (first | (go_at_call 76; first | exact gr_call (unhide HQ3 _) | exact gr_call (unhide HQ4 _) | exact gr_call (unhide HQ5 _)) | (go_at_call 113; exact gr_call (unhide HQ8 _))))
      by_cases hq2 : xid ≤ y
      · have HD2 := hide hq2
        have hd2 : decide (xid ≤ y) = true := decide_eq_true hq2
        clear hq2
        simp only [hd2]
        repeat (go_big_quiet_step (first | (go_at_call 76; first | exact gr_call (unhide HQ3 _) | exact gr_call (unhide HQ4 _) | exact gr_call (unhide HQ5 _)) | (go_at_call 113; exact gr_call (unhide HQ8 _))))
        refine wpQuiet_nil ?_
        intro w' hw'
        have HKG := hide (Keeps.of_gr hw'); have hk' := HKv.out.trans HKG.out
        clear hw'
        go_wp2_with fail
        go_ret
        exact ⟨ret_b (by rw [HVV.out, HN1.out k hlt (by rw [HIA.out]; simp; have := HD2.out; omega)]), HKA.out.trans hk'⟩
      have HD2 := hide hq2
      have hd2 : decide (xid ≤ y) = false := decide_eq_false hq2
      clear hq2
      simp only [hd2]
      repeat (go_big_quiet_step (first | (go_at_call 76; first | exact gr_call (unhide HQ3 _) | exact gr_call (unhide HQ4 _) | exact gr_call (unhide HQ5 _)) | (go_at_call 113; exact gr_call (unhide HQ8 _))))
      cases hb3 : amtB xlo
      · simp only [Bool.not_true, Bool.not_false]
        repeat (go_big_quiet_step (first | (go_at_call 76; first | exact gr_call (unhide HQ3 _) | exact gr_call (unhide HQ4 _) | exact gr_call (unhide HQ5 _)) | (go_at_call 113; exact gr_call (unhide HQ8 _))))
        refine wpQuiet_nil ?_
        intro w' hw'
        have HKG := hide (Keeps.of_gr hw'); have hk' := HKv.out.trans HKG.out
        clear hw'
        go_wp2_with fail
        go_ret
        exact ⟨ret_b (by rw [HVV.out, HN2.out k hlt (by show chanB _ C[k] = false; rw [HX.out]; simp [chanB, fieldsB, hb3])]), HKA.out.trans hk'⟩
      simp only [Bool.not_true, Bool.not_false]
      repeat (go_big_quiet_step (first | (go_at_call 76; first | exact gr_call (unhide HQ3 _) | exact gr_call (unhide HQ4 _) | exact gr_call (unhide HQ5 _)) | (go_at_call 113; exact gr_call (unhide HQ8 _))))
      cases hb4 : amtB xre
      · simp only [Bool.not_true, Bool.not_false]
        repeat (go_big_quiet_step (first | (go_at_call 76; first | exact gr_call (unhide HQ3 _) | exact gr_call (unhide HQ4 _) | exact gr_call (unhide HQ5 _)) | (go_at_call 113; exact gr_call (unhide HQ8 _))))
        refine wpQuiet_nil ?_
        intro w' hw'
        have HKG := hide (Keeps.of_gr hw'); have hk' := HKv.out.trans HKG.out
        clear hw'
        go_wp2_with fail
        go_ret
        exact ⟨ret_b (by rw [HVV.out, HN2.out k hlt (by show chanB _ C[k] = false; rw [HX.out]; simp [chanB, fieldsB, hb4])]), HKA.out.trans hk'⟩
      simp only [Bool.not_true, Bool.not_false]
      repeat (go_big_quiet_step (first | (go_at_call 76; first | exact gr_call (unhide HQ3 _) | exact gr_call (unhide HQ4 _) | exact gr_call (unhide HQ5 _)) | (go_at_call 113; exact gr_call (unhide HQ8 _))))
      cases hb5 : amtB xba
      · simp only [Bool.not_true, Bool.not_false]
        repeat (go_big_quiet_step (first | (go_at_call 76; first | exact gr_call (unhide HQ3 _) | exact gr_call (unhide HQ4 _) | exact gr_call (unhide HQ5 _)) | (go_at_call 113; exact gr_call (unhide HQ8 _))))
        refine wpQuiet_nil ?_
        intro w' hw'
        have HKG := hide (Keeps.of_gr hw'); have hk' := HKv.out.trans HKG.out
        clear hw'
        go_wp2_with fail
        go_ret
        exact ⟨ret_b (by rw [HVV.out, HN2.out k hlt (by show chanB _ C[k] = false; rw [HX.out]; simp [chanB, fieldsB, hb5])]), HKA.out.trans hk'⟩
      simp only [Bool.not_true, Bool.not_false]
      repeat (go_big_quiet_step (first | (go_at_call 76; first | exact gr_call (unhide HQ3 _) | exact gr_call (unhide HQ4 _) | exact gr_call (unhide HQ5 _)) | (go_at_call 113; exact gr_call (unhide HQ8 _))))
      by_cases hq6 : xpp < 0
      · have HD6 := hide hq6
        have hd6 : decide (xpp < 0) = true := decide_eq_true hq6
        clear hq6
        simp only [hd6]
        repeat (go_big_quiet_step (first | (go_at_call 76; first | exact gr_call (unhide HQ3 _) | exact gr_call (unhide HQ4 _) | exact gr_call (unhide HQ5 _)) | (go_at_call 113; exact gr_call (unhide HQ8 _))))
        refine wpQuiet_nil ?_
        intro w' hw'
        have HKG := hide (Keeps.of_gr hw'); have hk' := HKv.out.trans HKG.out
        clear hw'
        go_wp2_with fail
        go_ret
        exact ⟨ret_b (by rw [HVV.out, HN2.out k hlt (by show chanB _ C[k] = false; rw [HX.out]; simp [chanB, fieldsB, ppmB]; have := HD6.out; omega)]), HKA.out.trans hk'⟩
      have HD6 := hide hq6
      have hd6 : decide (xpp < 0) = false := decide_eq_false hq6
      clear hq6
      simp only [hd6]
      repeat (go_big_quiet_step (first | (go_at_call 76; first | exact gr_call (unhide HQ3 _) | exact gr_call (unhide HQ4 _) | exact gr_call (unhide HQ5 _)) | (go_at_call 113; exact gr_call (unhide HQ8 _))))
      by_cases hq7 : 1000000 < xpp
      · have HD7 := hide hq7
        have hd7 : decide (1000000 < xpp) = true := decide_eq_true hq7
        clear hq7
        simp only [hd7]
        repeat (go_big_quiet_step (first | (go_at_call 76; first | exact gr_call (unhide HQ3 _) | exact gr_call (unhide HQ4 _) | exact gr_call (unhide HQ5 _)) | (go_at_call 113; exact gr_call (unhide HQ8 _))))
        refine wpQuiet_nil ?_
        intro w' hw'
        have HKG := hide (Keeps.of_gr hw'); have hk' := HKv.out.trans HKG.out
        clear hw'
        go_wp2_with fail
        go_ret
        exact ⟨ret_b (by rw [HVV.out, HN2.out k hlt (by show chanB _ C[k] = false; rw [HX.out]; simp [chanB, fieldsB, ppmB]; have := HD7.out; omega)]), HKA.out.trans hk'⟩
      have HD7 := hide hq7
      have hd7 : decide (1000000 < xpp) = false := decide_eq_false hq7
      clear hq7
      simp only [hd7]
      repeat (go_big_quiet_step (first | (go_at_call 76; first | exact gr_call (unhide HQ3 _) | exact gr_call (unhide HQ4 _) | exact gr_call (unhide HQ5 _)) | (go_at_call 113; exact gr_call (unhide HQ8 _))))
      refine wpQuiet_nil ?_
      intro w' hw'
      have HKG := hide (Keeps.of_gr hw'); have hk' := HKv.out.trans HKG.out
      clear hw'
      cases hb8 : okS xsc
      · go_wp2_with fail
        go_ret
        exact ⟨ret_b (by rw [HVV.out, HN2.out k hlt (by show chanB _ C[k] = false; rw [HX.out]; simp [chanB, fieldsB, hb8])]), HKA.out.trans hk'⟩
      go_wp2_with fail
      have HID : Hid (idAt C k = true) := by show _ = _; rw [HIA.out]; have := HD0.out; have := HD1.out; have := HD2.out; simp [chB]; omega
      have HFB : Hid (fieldsB ⟨xid, xsz, xlo, xre, xba, xpp, xsc⟩ = true) := by show _ = _; have := HD6.out; have := HD7.out; simp [fieldsB, ppmB, hb3, hb4, hb5, hb8]; omega
      have z1 := amtB_true hb3
      have z2 := amtB_true hb4
      clear g0 g1 g2 g3 g4 g5 g6 q0 q1 q2 q3 q4 q5 HQ3 HQ4 HQ5 HQ8 hd0 hd1 hd2 hd6 hd7
      generalize w' = W2 at *
      have HKw := hide hk'
      clear hk'
      have HK12 : Hid (Keeps W1 W2) := HKG.out
      obtain ⟨o0, o1, i0, i1⟩ := HUB.out xid
      have HO := hide (fun t => unhide H2 xid (gr W2 t) (HKA.out.trans (HKw.out.trans (gr_keeps W2 t))) HSM.out)
      have HI := hide (fun t => unhide H3 xid (gr W2 t) (HKA.out.trans (HKw.out.trans (gr_keeps W2 t))) HSM.out)
      have HSV : Hid (sizeB (⟨tk, nx, wa, C, Hs, R⟩ : Bk) ⟨xid, xsz, xlo, xre, xba, xpp, xsc⟩ = (amtB xsz && decide (xsz = xlo + xre + outV (⟨tk, nx, wa, C, Hs, R⟩ : Bk) xid + inV (⟨tk, nx, wa, C, Hs, R⟩ : Bk) xid))) := rfl
      generalize outV (⟨tk, nx, wa, C, Hs, R⟩ : Bk) xid = ov at *
      generalize inV (⟨tk, nx, wa, C, Hs, R⟩ : Bk) xid = iv at *
      have hw1 : IntKind.i64.wrap (xlo + xre) = xlo + xre := by rw [IntKind.wrap_i64]; omega
      have hw2 : IntKind.i64.wrap (xlo + xre + ov) = xlo + xre + ov := by rw [IntKind.wrap_i64]; omega
      have hw3 : IntKind.i64.wrap (xlo + xre + ov + iv) = xlo + xre + ov + iv := by rw [IntKind.wrap_i64]; omega
      have g0 := fun t => (unhide HA _ (HK12.out.trans (gr_keeps W2 t))).1
      have g1 := fun t => (unhide HA _ (HK12.out.trans (gr_keeps W2 t))).2.1
      have g2 := fun t => (unhide HA _ (HK12.out.trans (gr_keeps W2 t))).2.2.1
      have g3 := fun t => (unhide HA _ (HK12.out.trans (gr_keeps W2 t))).2.2.2.1
      have g4 := fun t => (unhide HA _ (HK12.out.trans (gr_keeps W2 t))).2.2.2.2.1
      have g5 := fun t => (unhide HA _ (HK12.out.trans (gr_keeps W2 t))).2.2.2.2.2.1
      have g6 := fun t => (unhide HA _ (HK12.out.trans (gr_keeps W2 t))).2.2.2.2.2.2
      have q0 := fun t => (HBA.out.kept (HKw.out.trans (gr_keeps W2 t))).1
      have q1 := fun t => (HBA.out.kept (HKw.out.trans (gr_keeps W2 t))).2.1
      have q2 := fun t => (HBA.out.kept (HKw.out.trans (gr_keeps W2 t))).2.2.1
      have q3 := fun t => (HBA.out.kept (HKw.out.trans (gr_keeps W2 t))).2.2.2.1
      have q4 := fun t => (HBA.out.kept (HKw.out.trans (gr_keeps W2 t))).2.2.2.2.1
      have q5 := fun t => (HBA.out.kept (HKw.out.trans (gr_keeps W2 t))).2.2.2.2.2
      dsimp only at q0 q1 q2 q3 q4 q5
      have HQz := hide (fun t => amt_spec xsz (gr W2 t))
      cases hbz : amtB xsz
      · rw [hbz] at HQz
        refine region_gr (by kernel_rfl) (by kernel_rfl) ?_
        repeat (go_big_quiet_step (first | (go_at_call 76; exact gr_call (unhide HQz _))))
        refine wpQuiet_nil ?_
        intro w' hw'
        have hk' := HKw.out.trans (Keeps.of_gr hw')
        clear hw'
        go_wp2_with fail
        go_ret
        exact ⟨ret_b (by rw [HVV.out, HN2.out k hlt (by show chanB _ C[k] = false; rw [HX.out]; simp [chanB, HSV.out, hbz])]), HKA.out.trans hk'⟩
      rw [hbz] at HQz
      by_cases hsz : xsz = xlo + xre + ov + iv
      · have HSZ := hide hsz
        have hsz' : (xlo + xre + ov + iv != xsz) = false := by simp [hsz]
        clear hsz
        refine region_gr (by kernel_rfl) (by kernel_rfl) ?_
        repeat (go_big_quiet_step (first | (go_at_call 76; exact gr_call (unhide HQz _)) | (go_at_call 114; exact gr_call (unhide HO _)) | (go_at_call 115; exact gr_call (unhide HI _))))
        refine wpQuiet_nil ?_
        intro w' hw'
        have hk' := HKw.out.trans (Keeps.of_gr hw')
        clear hw'
        go_wp2_with fail
        have HOK : Hid (chanB (⟨tk, nx, wa, C, Hs, R⟩ : Bk) ⟨xid, xsz, xlo, xre, xba, xpp, xsc⟩ = true) := by show _ = _; unfold chanB; rw [HFB.out, HSV.out, hbz]; simpa using HSZ.out
        have HKe := hide hk'
        clear hk'
        go_roundw
        case rel => exact ⟨k + 1, by omega, by go_num, fun j h => by
                      by_cases e : j = k
                      · subst e; exact HID.out
                      · exact HG.out j (by omega), fun j hj h => by
                      by_cases e : j = k
                      · subst e; rw [HX.out]; exact HOK.out
                      · exact HG2.out j hj (by omega), HKe.out⟩
        case measure => simp [intOf]; omega
      · have HSZ := hide hsz
        have hsz' : (xlo + xre + ov + iv != xsz) = true := by simp; exact fun e => hsz e.symm
        clear hsz
        refine region_gr (by kernel_rfl) (by kernel_rfl) ?_
        repeat (go_big_quiet_step (first | (go_at_call 76; exact gr_call (unhide HQz _)) | (go_at_call 114; exact gr_call (unhide HO _)) | (go_at_call 115; exact gr_call (unhide HI _))))
        refine wpQuiet_nil ?_
        intro w' hw'
        have hk' := HKw.out.trans (Keeps.of_gr hw')
        clear hw'
        go_wp2_with fail
        go_ret
        exact ⟨ret_b (by rw [HVV.out, HN2.out k hlt (by show chanB _ C[k] = false; rw [HX.out]; unfold chanB; rw [HFB.out, HSV.out, hbz]; simpa using HSZ.out)]), HKA.out.trans hk'⟩
end Go.Proofs.YtjdbedlgkngdkaaGreatDoor
namespace Go.Proofs.YtjdbedlgkngdkaaGreatDoor
open Go.RowKit Go.Deep
set_option linter.unusedVariables false
set_option linter.unusedSimpArgs false
set_option maxRecDepth 10000

set_option maxHeartbeats 8000000 in
theorem prices_spec (B : Bo) (a : Option Addr) (cap : Nat) (L : List Prc) (w : World) (hm : Mem w B.segs) (hl : B.len) (hp : Cells w a (pcs L)) (hlp : L.length ≤ 1048576) :
    Calls Tryz.prog 39 #[B.v, .slice a L.length cap] w fun e w' => e = .returned (.bool (pricesB B.d L)) ∧ Keeps w w' := by
  have HBO := hide (fun w' (hk : Keeps w w') => bookok_spec B w' (hm.kept hk) hl)
  have HTW := hide (fun x y w' (hk : Keeps w w') => two_spec B x y w' (hm.kept hk) hl.1)
  have HPP := hide (fun w' (hk : Keeps w w') => hp.kept hk)
  obtain ⟨tk, nx, wa, ca, cc, C, ha, hc, Hs, ra, rc, R⟩ := B
  have HBA := hide (book_box ⟨tk, nx, wa, ca, cc, C, ha, hc, Hs, ra, rc, R⟩ w 27)
  have HKA := hide (Keeps.alloc (Keeps.refl w) (.cells #[.int .i64 tk, .int .i64 nx, .int .i64 wa, .slice ca C.length cc, .slice ha Hs.length hc, .slice ra R.length rc] 27))
  dsimp only [Bo.v] at *
  clear hm hl hp
  obtain ⟨bd, hbd⟩ : ∃ bd, bd = Bo.d ⟨tk, nx, wa, ca, cc, C, ha, hc, Hs, ra, rc, R⟩ := ⟨_, rfl⟩
  have HBD : Hid (bd.C = C) := by show _ = _; rw [hbd]; rfl
  rw [← hbd] at HBO ⊢
  clear hbd
  cases hb : bookB bd
  · have HR := hide (prices_book (L := L) hb)
    go_enter Tryz.func39, Tryz.ntmps39
    go_wp2_with fail
    refine (unhide HBO _ HKA.out).mono ?_
    rintro e w1 ⟨rfl, hk1⟩
    rw [hb]
    go_wp2_with fail
    go_ret
    exact ⟨ret_b HR.out.symm, HKA.out.trans hk1⟩
  by_cases h20 : 20 < L.length
  · have HR := hide (prices_len (B := bd) h20)
    go_enter Tryz.func39, Tryz.ntmps39
    go_wp2_with fail
    refine (unhide HBO _ HKA.out).mono ?_
    rintro e w1 ⟨rfl, hk1⟩
    rw [hb]
    go_wp2_with fail
    go_ret
    exact ⟨ret_b HR.out.symm, HKA.out.trans hk1⟩
  have HBT := hide hb
  go_enter Tryz.func39, Tryz.ntmps39
  go_wp2_with fail
  refine (unhide HBO _ HKA.out).mono ?_
  rintro e w1 ⟨rfl, hk1⟩
  rw [hb]
  clear hb HBO
  generalize w.alloc (.cells #[.int .i64 tk, .int .i64 nx, .int .i64 wa, .slice ca C.length cc, .slice ha Hs.length hc, .slice ra R.length rc] 27) = W0 at *
  go_wp2_with fail
  go_loopw [18] (fun y wr => ∃ k : Nat, k ≤ L.length ∧ y = .int .i64 (k : Int) ∧ Hid (∀ j, j < L.length → j < k → prAt bd.C L j = true) ∧ Hid (Keeps W0 wr)) (fun y _ => L.length - (intOf y).toNat)
  case atStart => exact ⟨0, by omega, rfl, fun j hj h => absurd h (by omega), hk1⟩
  case round =>
    clear hk1
    obtain ⟨k, hk, rfl, HG, HKr⟩ := hrel
    by_cases hlt : k < L.length
    · obtain ⟨b, off, ea, c0, c1, c2⟩ := pcs_at (unhide HPP _ (HKA.out.trans HKr.out)) k hlt
      subst ea
      have HAT := hide (prAt_at (C := bd.C) hlt)
      have HNO : Hid (prAt bd.C L k = false → pricesB bd L = false) := fun h => prices_no hlt h
      have HY : Hid (prAt bd.C L k = true → ∀ j, j < L.length → j < k + 1 → prAt bd.C L j = true) := fun h j hj h' => by
        by_cases e : j = k
        · subst e; exact h
        · exact HG.out j hj (by omega)
      rw [HBD.out] at HAT HNO HY
      have HLT : Hid (∀ j (hj : j < L.length), j < k → sameP L[k] L[j] = true → (L.take k).any (sameP L[k]) = true) := fun j hj hjk h => List.any_eq_true.2 ⟨L[j], (List.mem_take_iff_getElem.2 ⟨j, by omega, rfl⟩), h⟩
      have HLN : Hid ((∀ j (hj : j < L.length), j < k → sameP L[k] L[j] = false) → (L.take k).any (sameP L[k]) = false) := fun h => by
        refine any_none (fun j hj => ?_)
        rw [List.length_take] at hj
        rw [List.getElem_take]
        exact h j (by omega) (by omega)
      generalize (L.take k).any (sameP L[k]) = r3 at *
      generalize hx : L[k] = x at *
      clear hx
      obtain ⟨xfr, xto, xpp⟩ := x
      dsimp only at *
      have HA := hide (rowc3 wr (.int .i64 xfr) (.int .i64 xto) (.int .i64 xpp) 69)
      have HK1 := hide (HKr.out.trans (Keeps.alloc (Keeps.refl wr) (.cells #[.int .i64 xfr, .int .i64 xto, .int .i64 xpp] 69)))
      go_upto_region 6 with fail
      generalize hV : wr.heap.size = V at *
      generalize wr.alloc (.cells #[.int .i64 xfr, .int .i64 xto, .int .i64 xpp] 69) = W1 at *
      obtain ⟨d0, d1, d2⟩ := unhide HA W1 (Keeps.refl _)
      obtain ⟨q0, q1, q2, q3, q4, q5⟩ := HBA.out.kept HK1.out
      dsimp only at q0 q1 q2 q3 q4 q5
      clear c0 c1 c2 hV
      go_wp2_with fail
      refine (unhide HTW xfr xto _ (HKA.out.trans HK1.out)).mono ?_
      rintro e w2 ⟨rfl, hk2⟩
      have HK2 := hide (HK1.out.trans hk2)
      obtain ⟨d0, d1, d2⟩ := unhide HA w2 hk2
      have HA2 := hide (fun w' (hk : Keeps w2 w') => unhide HA w' (hk2.trans hk))
      clear hk2 q0 q1 q2 q3 q4 q5
      cases ht : twoB C xfr xto
      · rw [ht] at HAT
        have HR := hide (HNO.out (by rw [HAT.out]; rfl))
        go_wp2_with fail
        go_ret
        exact ⟨ret_b HR.out.symm, HKA.out.trans HK2.out⟩
      rw [ht] at HAT
      by_cases h0 : xpp < 0
      · have HR := hide (HNO.out (by rw [HAT.out]; simp [ppmB]; omega))
        go_wp2_with fail
        go_ret
        exact ⟨ret_b HR.out.symm, HKA.out.trans HK2.out⟩
      by_cases h1 : 1000000 < xpp
      · have HR := hide (HNO.out (by rw [HAT.out]; simp [ppmB]; omega))
        go_wp2_with fail
        go_ret
        exact ⟨ret_b HR.out.symm, HKA.out.trans HK2.out⟩
      have HPB : Hid (ppmB xpp = true) := by show _ = _; simp [ppmB]; omega
      go_wp2_with fail
      clear d0 d1 d2
      go_loopw [7] (fun y w3 => ∃ j : Nat, j ≤ k ∧ y = .int .i64 (j : Int) ∧ Hid (∀ m (hm : m < L.length), m < j → sameP ⟨xfr, xto, xpp⟩ L[m] = false) ∧ Hid (Keeps w2 w3)) (fun y _ => k - (intOf y).toNat)
      case atStart => exact ⟨0, by omega, rfl, fun j hj h => absurd h (by omega), Keeps.refl _⟩
      case round =>
        obtain ⟨j, hj, rfl, HJ, HK3⟩ := hrel
        by_cases hjk : j < k
        · have hjl : j < L.length := by omega
          obtain ⟨b', off', ea', e0, e1, e2⟩ := pcs_at (unhide HPP _ (HKA.out.trans (HK2.out.trans HK3.out))) j hjl
          obtain ⟨rfl, rfl⟩ : b' = b ∧ off' = off := by
            have := Option.some.inj ea'
            injection this with h1 h2
            exact ⟨h1.symm, h2.symm⟩
          clear ea'
          obtain ⟨d0, d1, d2⟩ := unhide HA2 _ HK3.out
          have HJT := hide (HLT.out j hjl hjk)
          have HJN : Hid (sameP ⟨xfr, xto, xpp⟩ L[j] = false → ∀ m (hm : m < L.length), m < j + 1 → sameP ⟨xfr, xto, xpp⟩ L[m] = false) := fun h m hm h' => by
            by_cases e : m = j
            · subst e; exact h
            · exact HJ.out m hm (by omega)
          generalize L[j] = z at *
          obtain ⟨zf, zt, zp⟩ := z
          dsimp only at e0 e1 e2
          have g0 := gr_cell e0
          have g1 := gr_cell e1
          have i0 := gr_cell d0
          have i1 := gr_cell d1
          by_cases hz1 : zf = xfr
          · by_cases hz2 : zt = xto
            · subst hz1 hz2
              have HR := hide (HNO.out (by rw [HAT.out, HJT.out (by simp [sameP])]; simp))
              go_upto_region 11 with fail
              go_quiet (fail)
              go_wp2_with fail
              go_ret
              exact ⟨ret_b HR.out.symm, HKA.out.trans ((HK2.out.trans HK3.out).drewN _)⟩
            · subst hz1
              have hz2' : (zt == xto) = false := by simpa using hz2
              have HN2 := hide (HJN.out (by simp [sameP]; omega))
              go_upto_region 11 with fail
              go_quiet (fail)
              go_wp2_with fail
              go_roundw
              case rel => exact ⟨j + 1, by omega, by go_num, HN2.out, HK3.out.drewN _⟩
              case measure => simp [intOf]; omega
          · have hz1' : (zf == xfr) = false := by simpa using hz1
            have HN2 := hide (HJN.out (by simp [sameP]; omega))
            go_upto_region 11 with fail
            go_quiet (fail)
            go_wp2_with fail
            go_roundw
            case rel => exact ⟨j + 1, by omega, by go_num, HN2.out, HK3.out.drewN _⟩
            case measure => simp [intOf]; omega
        · have e : j = k := by omega
          subst e
          have HF3 := hide (HLN.out HJ.out)
          have HY2 := hide (HY.out (by rw [HAT.out, HPB.out, HF3.out]; rfl))
          go_wp2_with fail
          go_roundw
          case rel => exact ⟨j + 1, by omega, by go_num, (by rw [HBD.out]; exact HY2.out), HK2.out.trans HK3.out⟩
          case measure => simp [intOf]; omega
    · have HR : Hid (pricesB bd L = true) := prices_yes HBT.out (by omega) (fun j hj => HG.out j hj (by omega))
      go_wp2_with fail
      go_ret
      exact ⟨ret_b HR.out.symm, HKA.out.trans HKr.out⟩
end Go.Proofs.YtjdbedlgkngdkaaGreatDoor
namespace Go.Proofs.YtjdbedlgkngdkaaGreatDoor
open Go.RowKit Go.Deep
set_option linter.unusedVariables false
set_option linter.unusedSimpArgs false
set_option maxRecDepth 10000

def Chn.v (x : Chn) : Value := .agg #[.int .i64 x.id, .int .i64 x.sz, .int .i64 x.lo, .int .i64 x.re, .int .i64 x.ba, .int .i64 x.pp, .int .i64 x.sc]
theorem toChan_k (x : Chn) (w : World) : Calls Tryz.prog 79 #[x.v] w fun e w' => e = .returned x.v ∧ Keeps w w' := by
  obtain ⟨xid, xsz, xlo, xre, xba, xpp, xsc⟩ := x
  dsimp only [Chn.v]
  go_enter Tryz.func79, Tryz.ntmps79
  go_wp2_with fail
  refine bodyPost_ret (v := .agg #[.int .i64 xid, .int .i64 xsz, .int .i64 xlo, .int .i64 xre, .int .i64 xba, .int .i64 xpp, .int .i64 xsc]) (by simp [results, Tryz.results79, go_sem]) rfl ⟨rfl, ?_⟩
  repeat (first | exact Keeps.refl _ | refine Keeps.alloc ?_ _ | refine Keeps.setCell ?_ (by simp) _)
theorem szChanS_k (a : Option Addr) (len cap : Nat) (left : Int) (w : World) (hl : len ≤ 9223372036854775807) (h0 : 0 ≤ left) (h1 : left ≤ 1048576) :
    Calls Tryz.prog 36 #[.slice a len cap, .int .i64 left] w fun e w' => e = .returned (.int .i64 (if (len : Int) ≤ left then left - len else -1)) ∧ w' = w := by
  by_cases h : (len : Int) ≤ left
  · rw [if_pos h]
    go_enter Tryz.func36, Tryz.ntmps36
    go_wp2_with fail
    go_ret
    exact ⟨rfl, rfl⟩
  · rw [if_neg h]
    go_enter Tryz.func36, Tryz.ntmps36
    go_wp2_with fail
    go_ret
    exact ⟨rfl, rfl⟩
theorem infoChan : (Tryz.prog.info? 84).map (fun i => (i.zero, i.size, i.bytes)) = some (some (.agg #[.int .i64 0, .int .i64 0, .int .i64 0, .int .i64 0, .int .i64 0, .int .i64 0, .int .i64 0]), 7, 56) := by kernel_rfl
theorem underChans : Tryz.prog.underlying 23 = some (.slice 84) := by kernel_rfl
theorem make_Chans (n : Nat) (hn : n ≤ 1048576) (w : World) : (Instr.makeSlice 23 (.int .i64 (n : Int)) (.int .i64 (n : Int))).run Tryz.prog w = .ok (.slice (some ⟨w.heap.size, 0, none⟩) n n) (w.alloc (.cells (madeCells #[.int .i64 0, .int .i64 0, .int .i64 0, .int .i64 0, .int .i64 0, .int .i64 0, .int .i64 0] (n * 7)) 84)) := by
  have hI := infoChan
  cases hi : Tryz.prog.info? 84 with
  | none => rw [hi] at hI; simp at hI
  | some i =>
    rw [hi] at hI
    simp at hI
    obtain ⟨hz, hs, hb⟩ := hI
    have h := run_make (P := Tryz.prog) w 23 84 i _ underChans hi hz .i64 .i64 n n (by omega) (Int.le_refl _) (by rw [hb]; omega) (by omega)
    rw [hs] at h
    simpa [Value.cells] using h
/-- The row of the new list while it is filled. -/
def rowChan (L : List Chn) (k : Nat) : Nat → Value := fun j => if j < k * 7 then (chs L).getD j (.int .i64 0) else (#[.int .i64 0, .int .i64 0, .int .i64 0, .int .i64 0, .int .i64 0, .int .i64 0, .int .i64 0] : Array Value)[j % 7]!
theorem made_Chan (L : List Chn) (w : World) (m : Nat) (t : TypeId) : (w.alloc (.cells (madeCells #[.int .i64 0, .int .i64 0, .int .i64 0, .int .i64 0, .int .i64 0, .int .i64 0, .int .i64 0] m) t)).rowIs w.heap.size t m (rowChan L 0) := by
  have h := World.rowIs_alloc w (madeCells #[.int .i64 0, .int .i64 0, .int .i64 0, .int .i64 0, .int .i64 0, .int .i64 0, .int .i64 0] m) t (rowChan L 0) (by
    intro i hi
    rw [size_madeCells] at hi
    simp only [madeCells, Array.getElem?_map, Array.getElem?_range]
    rw [if_pos hi]
    simp [rowChan])
  rw [size_madeCells] at h
  exact h
theorem rowChan_step (L : List Chn) (k : Nat) (h : k < L.length) (j : Nat) : (if j = k * 7 + 6 then (.int .i64 L[k].sc : Value) else if j = k * 7 + 5 then (.int .i64 L[k].pp : Value) else if j = k * 7 + 4 then (.int .i64 L[k].ba : Value) else if j = k * 7 + 3 then (.int .i64 L[k].re : Value) else if j = k * 7 + 2 then (.int .i64 L[k].lo : Value) else if j = k * 7 + 1 then (.int .i64 L[k].sz : Value) else if j = k * 7 then (.int .i64 L[k].id : Value) else rowChan L k j) = rowChan L (k + 1) j := by
  have hL := chs_len L
  have hk := Nat.mul_le_mul_right 7 (show k + 1 ≤ L.length from h)
  have ha := fun r (hr : r < 7) => flatMap_at (f := Chn.cells) (sz := 7) (fun _ => rfl) L k h r hr
  unfold rowChan
  by_cases h6 : j = k * 7 + 6
  · subst h6
    (try simp only [if_true])
    (try rw [if_pos rfl])
    rw [if_pos (by omega), List.getD_eq_getElem?_getD]
    have e := ha 6 (by decide)
    skip
    unfold chs
    rw [e]; rfl
  rw [if_neg h6]
  by_cases h5 : j = k * 7 + 5
  · subst h5
    (try simp only [if_true])
    (try rw [if_pos rfl])
    rw [if_pos (by omega), List.getD_eq_getElem?_getD]
    have e := ha 5 (by decide)
    skip
    unfold chs
    rw [e]; rfl
  rw [if_neg h5]
  by_cases h4 : j = k * 7 + 4
  · subst h4
    (try simp only [if_true])
    (try rw [if_pos rfl])
    rw [if_pos (by omega), List.getD_eq_getElem?_getD]
    have e := ha 4 (by decide)
    skip
    unfold chs
    rw [e]; rfl
  rw [if_neg h4]
  by_cases h3 : j = k * 7 + 3
  · subst h3
    (try simp only [if_true])
    (try rw [if_pos rfl])
    rw [if_pos (by omega), List.getD_eq_getElem?_getD]
    have e := ha 3 (by decide)
    skip
    unfold chs
    rw [e]; rfl
  rw [if_neg h3]
  by_cases h2 : j = k * 7 + 2
  · subst h2
    (try simp only [if_true])
    (try rw [if_pos rfl])
    rw [if_pos (by omega), List.getD_eq_getElem?_getD]
    have e := ha 2 (by decide)
    skip
    unfold chs
    rw [e]; rfl
  rw [if_neg h2]
  by_cases h1 : j = k * 7 + 1
  · subst h1
    (try simp only [if_true])
    (try rw [if_pos rfl])
    rw [if_pos (by omega), List.getD_eq_getElem?_getD]
    have e := ha 1 (by decide)
    skip
    unfold chs
    rw [e]; rfl
  rw [if_neg h1]
  by_cases h0 : j = k * 7
  · subst h0
    (try simp only [if_true])
    (try rw [if_pos rfl])
    rw [if_pos (by omega), List.getD_eq_getElem?_getD]
    have e := ha 0 (by decide)
    simp only [Nat.add_zero] at e
    unfold chs
    rw [e]; rfl
  rw [if_neg h0]
  by_cases hlt : j < k * 7
  · rw [if_pos hlt, if_pos (by omega)]
  · rw [if_neg hlt, if_neg (by omega)]
theorem rowChan_end (L : List Chn) (j : Nat) (hj : j < (chs L).length) : rowChan L L.length j = (chs L)[j] := by
  have hL := chs_len L
  unfold rowChan
  rw [if_pos (by omega), List.getD_eq_getElem?_getD, List.getElem?_eq_getElem hj]
  rfl
set_option maxHeartbeats 2000000 in
theorem toChanS_k (a : Option Addr) (cap : Nat) (L : List Chn) (w : World) (hc : Cells w a (chs L)) (hl : L.length ≤ 1048576) :
    Calls Tryz.prog 44 #[.slice a L.length cap] w fun e w' => ∃ b, e = .returned (.slice (some ⟨b, 0, none⟩) L.length L.length) ∧ Born w w' [(some ⟨b, 0, none⟩, chs L)] ∧ Keeps w w' := by
  have HC := hide hc
  clear hc
  have hmk := make_Chans L.length hl
  have HR := hide (made_Chan L w (L.length * 7) 84)
  have HKA := hide (Keeps.alloc (Keeps.refl w) (.cells (madeCells #[.int .i64 0, .int .i64 0, .int .i64 0, .int .i64 0, .int .i64 0, .int .i64 0, .int .i64 0] (L.length * 7)) 84))
  go_enter Tryz.func44, Tryz.ntmps44
  go_wp2_with fail
  clear hmk
  go_loopw [4] (fun y w1 => ∃ k : Nat, k ≤ L.length ∧ y = .int .i64 (k : Int) ∧ w1.rowIs w.heap.size 84 (L.length * 7) (rowChan L k) ∧ Keeps w w1) (fun y _ => L.length - (intOf y).toNat)
  case atStart => exact ⟨0, by omega, rfl, HR.out, HKA.out⟩
  case round =>
    obtain ⟨k, hk, rfl, hr, hkw⟩ := hrel
    clear HR HKA
    by_cases hlt : k < L.length
    · obtain ⟨b, off, ea, c0, c1, c2, c3, c4, c5, c6⟩ := chs_at (HC.out.kept hkw) k hlt
      subst ea
      have HQ := hide (fun w1 => toChan_k L[k] w1)
      have HS := hide (rowChan_step L k hlt)
      have HRR := hide hr
      have HKW := hide hkw
      have hkz := Nat.mul_le_mul_right 7 (show k + 1 ≤ L.length from hlt)
      clear hr hkw
      generalize L[k] = x at *
      obtain ⟨xid, xsz, xlo, xre, xba, xpp, xsc⟩ := x
      dsimp only [Chn.v] at *
      go_wp2_with fail
      refine (unhide HQ _).mono ?_
      rintro e w2 ⟨rfl, hk2⟩
      have r2 := hk2.rowK HRR.out
      have d0 := r2.cell (i := k * 7) (by omega)
      have f0 := r2.frozen (k * 7)
      have d1 := r2.cell (i := k * 7 + 1) (by omega)
      have f1 := r2.frozen (k * 7 + 1)
      have d2 := r2.cell (i := k * 7 + 2) (by omega)
      have f2 := r2.frozen (k * 7 + 2)
      have d3 := r2.cell (i := k * 7 + 3) (by omega)
      have f3 := r2.frozen (k * 7 + 3)
      have d4 := r2.cell (i := k * 7 + 4) (by omega)
      have f4 := r2.frozen (k * 7 + 4)
      have d5 := r2.cell (i := k * 7 + 5) (by omega)
      have f5 := r2.frozen (k * 7 + 5)
      have d6 := r2.cell (i := k * 7 + 6) (by omega)
      have f6 := r2.frozen (k * 7 + 6)
      have HR2 := hide r2
      have HK2 := hide (HKW.out.trans hk2)
      clear r2 hk2
      go_wp2_with fail
      go_roundw
      case rel => exact ⟨k + 1, by omega, by go_num, ((((((((HR2.out.set (k * 7) (.int .i64 xid)).set (k * 7 + 1) (.int .i64 xsz)).set (k * 7 + 2) (.int .i64 xlo)).set (k * 7 + 3) (.int .i64 xre)).set (k * 7 + 4) (.int .i64 xba)).set (k * 7 + 5) (.int .i64 xpp)).set (k * 7 + 6) (.int .i64 xsc))).congr (fun j _ => HS.out j), (Keeps.setCell (Keeps.setCell (Keeps.setCell (Keeps.setCell (Keeps.setCell (Keeps.setCell (Keeps.setCell HK2.out (Nat.le_refl _) _) (Nat.le_refl _) _) (Nat.le_refl _) _) (Nat.le_refl _) _) (Nat.le_refl _) _) (Nat.le_refl _) _) (Nat.le_refl _) _)⟩
      case measure => simp [intOf]; omega
    · have e : k = L.length := by omega
      subst e
      go_wp2_with fail
      go_ret
      exact ⟨_, rfl, born_row hr (chs L) (by rw [chs_len]; exact Nat.le_refl _) (fun j hj => rowChan_end L j hj) (Nat.le_refl _), hkw⟩
theorem eqChan_same (x : Chn) (w : World) : Calls Tryz.prog 83 #[x.v, x.v] w fun e w' => e = .returned (.bool true) ∧ Keeps w w' := by
  obtain ⟨xid, xsz, xlo, xre, xba, xpp, xsc⟩ := x
  dsimp only [Chn.v]
  skip
  all_goals
    go_enter Tryz.func83, Tryz.ntmps83
    go_wp2_with fail
    go_ret
    exact ⟨rfl, Keeps.alloc (Keeps.alloc (Keeps.refl _) _) _⟩
set_option maxHeartbeats 4000000 in
theorem eqChanS_k (a a' : Option Addr) (cap cap' : Nat) (xs : List Chn) (w : World) (hc : Cells w a (chs xs)) (hc' : Cells w a' (chs xs)) (hl : xs.length ≤ 1048576) :
    Calls Tryz.prog 49 #[.slice a xs.length cap, .slice a' xs.length cap'] w fun e w' => e = .returned (.bool true) ∧ Keeps w w' := by
  have HC := hide hc
  have HC' := hide hc'
  clear hc hc'
  go_enter Tryz.func49, Tryz.ntmps49
  go_wp2_with fail
  go_loopw [5] (fun y w1 => ∃ k : Nat, k ≤ xs.length ∧ y = .int .i64 (k : Int) ∧ Keeps w w1) (fun y _ => xs.length - (intOf y).toNat)
  case atStart => exact ⟨0, by omega, rfl, Keeps.refl _⟩
  case round =>
    obtain ⟨k, hk, rfl, hkw⟩ := hrel
    by_cases hlt : k < xs.length
    · obtain ⟨b, off, ea, c0, c1, c2, c3, c4, c5, c6⟩ := chs_at (HC.out.kept hkw) k hlt
      obtain ⟨b', off', ea', d0, d1, d2, d3, d4, d5, d6⟩ := chs_at (HC'.out.kept hkw) k hlt
      have HEA := hide ea
      have HEA' := hide ea'
      clear ea ea'
      obtain rfl := HEA.out
      obtain rfl := HEA'.out
      have HQ := hide (fun t => eqChan_same xs[k] (gr wr t))
      have g0 := gr_cell c0
      have i0 := gr_cell d0
      have g1 := gr_cell c1
      have i1 := gr_cell d1
      have g2 := gr_cell c2
      have i2 := gr_cell d2
      have g3 := gr_cell c3
      have i3 := gr_cell d3
      have g4 := gr_cell c4
      have i4 := gr_cell d4
      have g5 := gr_cell c5
      have i5 := gr_cell d5
      have g6 := gr_cell c6
      have i6 := gr_cell d6
      generalize xs[k] = x at *
      obtain ⟨xid, xsz, xlo, xre, xba, xpp, xsc⟩ := x
      dsimp only [Chn.v] at c0 d0 g0 i0 c1 d1 g1 i1 c2 d2 g2 i2 c3 d3 g3 i3 c4 d4 g4 i4 c5 d5 g5 i5 c6 d6 g6 i6 HQ
      go_wp2_with fail
      refine region_gr (by kernel_rfl) (by kernel_rfl) ?_
      repeat (go_big_quiet_step (first | (go_at_call 83; exact gr_call (unhide HQ _))))
      refine wpQuiet_nil ?_
      intro w' hw'
      have hk' := hkw.trans (Keeps.of_gr hw')
      clear hw'
      go_wp2_with fail
      go_roundw
      case rel => exact ⟨k + 1, by omega, by go_num, hk'⟩
      case measure => simp [intOf]; omega
    · go_wp2_with fail
      go_ret
      exact ⟨rfl, hkw⟩
end Go.Proofs.YtjdbedlgkngdkaaGreatDoor
