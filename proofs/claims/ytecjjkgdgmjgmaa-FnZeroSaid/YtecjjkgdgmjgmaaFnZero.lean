/- the amounts of a ledger sum to nothing; a posting and its reverse leave it as it was -/
import Derived.Test.YtecjjkgdgmjgmaaDsk
import Derived.Test.YtecjjkgdgmjgmaaDrQ
import Derived.Test.YtecjjkgdgmjgmaaSaL
import Derived.Test.YtecjjkgdgmjgmaaImplP
import Derived.Test.YtecjjkgdgmjgmaaImplC
import Derived.Test.YtecjjkgdgmjgmaaRows
import Derived.WalkKit
import Derived.ProofKit
import Derived.OpenShut
import Derived.ChangeOld
import Derived.Below
namespace Go.Proofs.Ytecjjkgdgmjgmaa.fnZero
open Go.ChangeShapes Go.WideShapes Go.ChangeAt Go.RowKit
set_option linter.unusedVariables false
theorem rowAt_cells {w : World} {a : Option Addr} {L : List UInt8} (h : Cells w a (bys L)) : RowAt w.heap.size w a L.length := by
  intro j hj
  rcases h with h | ⟨b, off, e, h⟩
  · have := bys_nil.1 h
    subst this
    simp at hj
  · have hj' : j < (bys L).length := by rw [bys_length]; exact hj
    have hc := h j hj'
    have e2 : (bys L)[j] = byV L[j] := by simp [bys]
    rw [e2] at hc
    have hb := L[j].toNat_lt
    exact ⟨b, off, _, e, lt_of_cell hc, by simp, by omega, hc⟩
set_option maxRecDepth 100000 in
set_option maxHeartbeats 8000000 in
theorem walkR (a : Option Addr) (len cap : Nat) (w : World) (hr : RowAt w.heap.size w a len) :
    Calls Try.prog 3 #[.slice a len cap] w fun e w' => e = .returned (.bool true) ∧ Keeps w w' := by
  have HRw := hide hr
  clear hr
  by_cases hl : 1048576 < len
  · go_enter Try.func3, Try.ntmps3
    go_wp2_with fail
    go_ret
    exact ⟨rfl, Keeps.refl _⟩
  · have HDr := hide (draw_post a len cap w HRw.out (by omega))
    clear HRw
    go_enter Try.func3, Try.ntmps3
    go_wp2_with fail
    refine (unhide HDr).mono ?_
    rintro x w1 ⟨id, pid, la, pa, lc, pc, L, P, hl320, hp8, rfl, HO, hk1⟩
    have hkA := Keeps.alloc (Keeps.refl w1) (.cells #[.int .i64 id, .slice la L.length lc] 25)
    have hkB := Keeps.alloc (Keeps.refl (w1.alloc (.cells #[.int .i64 id, .slice la L.length lc] 25))) (.cells #[.int .i64 pid, .slice pa P.length pc] 27)
    have hbA := born_alloc w1 #[.int .i64 id, .slice la L.length lc] 25
    have hbB := born_alloc (w1.alloc (.cells #[.int .i64 id, .slice la L.length lc] 25)) #[.int .i64 pid, .slice pa P.length pc] 27
    have l0 := hkB.cell (cell_at hbA.mem 0 (by simp))
    have l1 := hkB.cell (cell_at hbA.mem 1 (by simp))
    have p0 := cell_at hbB.mem 0 (by simp)
    have p1 := cell_at hbB.mem 1 (by simp)
    simp only [World.size_alloc, Nat.zero_add, List.getElem_cons_zero, List.getElem_cons_succ] at l0 l1 p0 p1
    have HK1 := hide ((hk1.trans hkA).trans hkB)
    have HCL := hide ((HO.out.2.2.1.kept (hkA.trans hkB)).one)
    have HCP := hide ((HO.out.2.2.2.1.kept (hkA.trans hkB)).one)
    have HLN := hide HO.out.1
    have HL3 : Hid (L.length ≤ 1048576) := by show _ ≤ _; omega
    have HP3 : Hid (P.length ≤ 1048576) := by show _ ≤ _; omega
    clear HO hk1 hkA hkB hbA hbB HDr
    go_wp2_with fail
    generalize (w1.alloc (.cells #[.int .i64 id, .slice la L.length lc] 25)).alloc (.cells #[.int .i64 pid, .slice pa P.length pc] 27) = W1 at *
    generalize hbp : w1.heap.size + 1 = bP at *
    generalize hbl : w1.heap.size = bL at *
    clear hbp hbl
    have HIP := hide (fun w1 (h : Cells w1 la (flat L)) (h' : Cells w1 pa (flat P)) => post_impl id pid la pa lc pc L P w1 h h' HL3.out HP3.out)
    have HSP := hide (fun w1 (h : Cells w1 la (flat L)) (h' : Cells w1 pa (flat P)) => post_spec id pid la pa lc pc L P w1 h h' HLN.out HL3.out HP3.out)
    obtain ⟨rid, hI⟩ : ∃ x, x = pid' id L pid P := ⟨_, rfl⟩
    obtain ⟨R, hM⟩ : ∃ x, x = pL id L pid P := ⟨_, rfl⟩
    obtain ⟨code, hcode⟩ : ∃ x, x = pcode id L pid P := ⟨_, rfl⟩
    rw [← hI, ← hM, ← hcode] at HIP HSP
    replace hI := hide hI
    replace hM := hide hM
    replace hcode := hide hcode
    refine (unhide HIP W1 HCL.out HCP.out).mono ?_
    rintro x w2 ⟨⟨ra, rc, rfl, hrn, hb2⟩, hk2⟩
    have hkA := Keeps.alloc (Keeps.refl w2) (.cells #[.int .i64 rid, .slice ra R.length rc] 25)
    have hbA := born_alloc w2 #[.int .i64 rid, .slice ra R.length rc] 25
    have m0 := cell_at hbA.mem 0 (by simp)
    have m1 := cell_at hbA.mem 1 (by simp)
    simp only [Nat.zero_add, List.getElem_cons_zero, List.getElem_cons_succ] at m0 m1
    replace l0 := (hk2.trans hkA).cell l0
    replace l1 := (hk2.trans hkA).cell l1
    replace p0 := (hk2.trans hkA).cell p0
    replace p1 := (hk2.trans hkA).cell p1
    replace HK1 := hide ((HK1.out.trans hk2).trans hkA)
    replace HCL := hide (HCL.out.kept (hk2.trans hkA))
    replace HCP := hide (HCP.out.kept (hk2.trans hkA))
    have HCR := hide ((hb2.toOwn.kept hkA).one)
    clear hkA hbA hb2 hrn hk2
    go_wp2_with fail
    generalize w2.alloc (.cells #[.int .i64 rid, .slice ra R.length rc] 25) = W2 at *
    generalize w2.heap.size = bM at *
    refine (unhide HSP W2 HCL.out HCP.out).mono ?_
    rintro x w3 ⟨⟨sa, sc, rfl, hrn, hb3⟩, hk3⟩
    have hkA := Keeps.alloc (Keeps.refl w3) (.cells #[.int .i64 rid, .slice sa R.length sc] 25)
    replace l0 := (hk3.trans hkA).cell l0
    replace l1 := (hk3.trans hkA).cell l1
    replace p0 := (hk3.trans hkA).cell p0
    replace p1 := (hk3.trans hkA).cell p1
    replace m0 := (hk3.trans hkA).cell m0
    replace m1 := (hk3.trans hkA).cell m1
    replace HK1 := hide ((HK1.out.trans hk3).trans hkA)
    replace HCL := hide (HCL.out.kept (hk3.trans hkA))
    replace HCP := hide (HCP.out.kept (hk3.trans hkA))
    replace HCR := hide (HCR.out.kept (hk3.trans hkA))
    clear hkA hb3 hrn hk3
    clear HIP HSP
    by_cases hc0 : code = 0
    · have hcd : pcode id L pid P = 0 := by rw [← hcode.out]; exact hc0
      have hM' : R = addAll L P := by rw [hM.out]; unfold pL; rw [if_pos hcd]
      have hI' : pid = rid := by rw [hI.out]; unfold pid'; rw [if_pos hcd]
      clear hM hI hcode
      subst hM' hI' hc0
      have HCB := hide (code_back hcd)
      obtain ⟨hlB, hpB, hlt0, hmB⟩ := code0 hcd
      have HPB := hide (fun k hk => lines_amt (post_parts hpB).2.2.2.2 (P[k]'hk) (List.getElem_mem hk))
      have HMB := hide (fun k hk => lines_amt (ledgB_lines hmB).1 ((addAll L P)[k]'hk) (List.getElem_mem hk))
      have HMS := hide (lines_sum (ledgB_lines hmB).1)
      have HML : Hid ((addAll L P).length ≤ 320) := by show _ ≤ _; exact (ledgB_lines hmB).2
      have HMK := hide hmB
      have hpid0 := (post_parts hpB).1
      have hpid1 := (post_parts hpB).2.1
      clear hlB hpB hlt0 hmB hcd
      go_wp2_with fail
      generalize w3.alloc (.cells #[.int .i64 pid, .slice sa (addAll L P).length sc] 25) = W3 at *
      generalize addAll L P = M at *
      go_loopw [9, 49] (fun x y wr => ∃ (s : Int) (k : Nat), k ≤ M.length ∧ -(1125899906842624 * (k : Int)) ≤ s ∧ s ≤ 1125899906842624 * (k : Int) ∧ Hid (s = sumL (M.take k)) ∧ x = .int .i64 s ∧ y = .int .i64 (k : Int) ∧ Hid (Keeps W3 wr)) (fun _ y _ => M.length - (intOf y).toNat)
      case atStart => exact ⟨0, 0, by omega, by omega, by omega, rfl, rfl, rfl, Keeps.refl _⟩
      case round =>
        obtain ⟨s, k, hk, s0, s1, HSum, rfl, rfl, HKr⟩ := hrel
        by_cases hlt : k < M.length
        · obtain ⟨b, off, ea, c0, c1, c2⟩ := cells_at (HCR.out.kept HKr.out) k hlt
          subst ea
          have HNext := hide (sumL_take M k hlt)
          obtain ⟨r0, r1⟩ := HMB.out k hlt
          have h320 := HML.out
          have HW := hide (Keeps.alloc HKr.out (Obj.cells #[Value.int IntKind.i64 M[k].k, Value.int IntKind.i64 M[k].c, Value.int IntKind.i64 M[k].a] 35))
          clear HKr
          generalize M[k] = x at *
          go_wp2_with fail
          go_roundw
          case rel => exact ⟨s + x.a, k + 1, by omega, by omega, by omega, by show _ = _; rw [HNext.out, ← HSum.out], by go_num, by go_num, HW⟩
          case measure => simp [intOf]; omega
        · have e : k = M.length := by omega
          have HE : s = 0 := by rw [HSum.out, e, List.take_length]; exact HMS.out
          subst HE
          clear e HSum s0 s1 HMB HMS
          replace l0 := HKr.out.cell l0
          replace l1 := HKr.out.cell l1
          replace p0 := HKr.out.cell p0
          replace p1 := HKr.out.cell p1
          replace m0 := HKr.out.cell m0
          replace m1 := HKr.out.cell m1
          replace HK1 := hide (HK1.out.trans HKr.out)
          replace HCL := hide (HCL.out.kept HKr.out)
          replace HCP := hide (HCP.out.kept HKr.out)
          replace HCR := hide (HCR.out.kept HKr.out)
          clear HKr
          generalize wr = W4 at *
          have lP := lt_of_cell p0
          have lL := lt_of_cell l0
          have lM := lt_of_cell m0
          go_wp2_with fail
          have hkQ := Keeps.alloc (Keeps.refl W4) (.cells #[.int .i64 (pid + 1), .slice none 0 0] 27)
          have HRQ := hide (row_zero W4 (.int .i64 (pid + 1)) (.slice none 0 0) 27)
          have HKQ := hide hkQ
          have hzQ : (W4.alloc (.cells #[.int .i64 (pid + 1), .slice none 0 0] 27)).heap.size = W4.heap.size + 1 := by simp
          clear hkQ hlt hk
          generalize W4.alloc (.cells #[.int .i64 (pid + 1), .slice none 0 0] 27) = W5 at *
          generalize hQ : W4.heap.size = Q at *
          go_loopw [65] (fun y wr => ∃ (k : Nat) (v : Value), k ≤ P.length ∧ y = .int .i64 (k : Int) ∧ Hid (wr.rowIs Q 27 2 (fun i : Nat => if i = 0 then .int .i64 (pid + 1) else v)) ∧ Hid (OwnsL wr (Q + 1) v (negL (P.take k))) ∧ Hid (Keeps W4 wr)) (fun y _ => P.length - (intOf y).toNat)
          case atStart => exact ⟨0, .slice none 0 0, by omega, rfl, HRQ, ⟨by simp [flat, negL], .inl ⟨rfl, by simp [negL]⟩⟩, HKQ⟩
          case round =>
            obtain ⟨k, v, hk, rfl, HR, HO, HKr⟩ := hrel
            have q1 := HR.out.cell (i := 1) (by decide)
            have q0 := HR.out.cell (i := 0) (by decide)
            have qf := HR.out.frozen 1
            have lQ := HR.out.lt
            simp at q0 q1
            by_cases hlt : k < P.length
            · obtain ⟨b, off, ea, c0, c1, c2⟩ := cells_at (HCP.out.kept HKr.out) k hlt
              subst ea
              have HNext : Hid (negL (P.take (k + 1)) = negL (P.take k) ++ [⟨P[k].k, P[k].c, -P[k].a⟩]) := by show _ = _; unfold negL; rw [List.take_succ_eq_append_getElem hlt, List.map_append]; rfl
              have hlk : (negL (P.take k)).length ≤ 8 := by rw [neg_len, List.length_take]; omega
              obtain ⟨r0, r1⟩ := HPB.out k hlt
              have HVQ : Hid (∀ r, v.ownBlock = some r → Q < r) := fun r hr => by have := (HO.out.lt r hr).1; omega
              generalize P[k] = x at *
              have hkX := Keeps.alloc (Keeps.refl wr) (Obj.cells #[Value.int IntKind.i64 x.k, Value.int IntKind.i64 x.c, Value.int IntKind.i64 x.a] 35)
              have HKX := hide hkX
              have HOX := hide (hkX.owns HO.out)
              have hkY := Keeps.alloc (Keeps.refl (wr.alloc (Obj.cells #[Value.int IntKind.i64 x.k, Value.int IntKind.i64 x.c, Value.int IntKind.i64 x.a] 35))) (Obj.cells #[Value.int IntKind.i64 x.k, Value.int IntKind.i64 x.c, Value.int IntKind.i64 (-x.a)] 35)
              have HKY := hide (hkX.trans hkY)
              have hzX : (wr.alloc (Obj.cells #[Value.int IntKind.i64 x.k, Value.int IntKind.i64 x.c, Value.int IntKind.i64 x.a] 35)).heap.size = wr.heap.size + 1 := by simp
              clear hkX hkY
              generalize hNk : negL (P.take k) = Nk at *
              clear hNk
              obtain ⟨Nn, hNn⟩ : ∃ x, x = negL (P.take (k + 1)) := ⟨_, rfl⟩
              rw [← hNn] at HNext
              go_wp2_with (at_builtin; refine app_lineG (wr := wr.alloc (Obj.cells #[Value.int IntKind.i64 x.k, Value.int IntKind.i64 x.c, Value.int IntKind.i64 x.a] 35)) rfl (.tmp 70) (.tmp 77) rfl (Q + 1) v Nk ⟨x.k, x.c, -x.a⟩ rfl (by rw [hzX]; rfl) HOX.out (by omega) (by rw [hzX]; omega) ?_; intro v' w' ho' hg' hv'; rw [← HNext.out] at ho'; have HO' := hide ho'; obtain ⟨a', c', ev, _⟩ := own_cells ho'; subst ev; have HG' := hide hg'; have HR' := hide (grown_row hg' (fun e => by have := HVQ.out Q e.symm; omega) (Keeps.row HKY.out HR.out)); have q1' := HR'.out.cell (i := 1) (by decide); have qf' := HR'.out.frozen 1; have lQ' := HR'.out.lt; simp at q1'; clear ho' hg' hv')
              have HKn : Hid (Keeps W4 (w'.setCell ⟨Q, 1, none⟩ (.slice a' Nn.length c'))) := Turn.keeps (Turn.set (by simp) _ : Turn [Q] w' (w'.setCell ⟨Q, 1, none⟩ (.slice a' Nn.length c'))) (keeps_of (HKr.out.trans HKY.out) HG'.out (fun r hr => by have := HVQ.out r hr; omega)) (fun b hb => by have h2 : b = Q := (by simpa using hb); omega)
              have HRn : Hid ((w'.setCell ⟨Q, 1, none⟩ (.slice a' Nn.length c')).rowIs Q 27 2 (fun i : Nat => if i = 0 then .int .i64 (pid + 1) else .slice a' Nn.length c')) := (HR'.out.set 1 (.slice a' Nn.length c')).congr (fun i hi => by match i, hi with | 0, _ => simp | 1, _ => simp)
              have HOn : Hid (OwnsL (w'.setCell ⟨Q, 1, none⟩ (.slice a' Nn.length c')) (Q + 1) (.slice a' Nn.length c') Nn) := OwnsL.other HO'.out (fun e => by have := (HO'.out.lt Q e).1; omega)
              clear HO' HG' HR' HVQ HKX HKY HOX HO HR HNext q0 q1
              rw [hNn] at HOn HRn HKn
              go_roundw
              case rel => exact ⟨k + 1, _, by omega, by go_num, HRn, HOn, HKn⟩
              case measure => simp [intOf]; omega
            · have e : k = P.length := by omega
              have HOe := HO.out
              have HRe := HR.out
              rw [e, List.take_length] at HOe
              obtain ⟨qa, qc, ev, hcq⟩ := own_cells HOe
              subst ev
              replace l0 := HKr.out.cell l0
              replace l1 := HKr.out.cell l1
              replace p0 := HKr.out.cell p0
              replace m0 := HKr.out.cell m0
              replace m1 := HKr.out.cell m1
              replace HK1 := hide (HK1.out.trans HKr.out)
              replace HCL := hide (HCL.out.kept HKr.out)
              replace HCR := hide (HCR.out.kept HKr.out)
              have HCQ := hide hcq
              have hnl : (negL P).length ≤ 1048576 := by rw [neg_len]; exact HP3.out
              have HIP := hide (fun w1 (h : Cells w1 ra (flat M)) (h' : Cells w1 qa (flat (negL P))) => post_impl pid (pid + 1) ra qa rc qc M (negL P) w1 h h' (Nat.le_trans HML.out (by decide)) hnl)
              obtain ⟨nid, hI⟩ : ∃ x, x = pid' pid M (pid + 1) (negL P) := ⟨_, rfl⟩
              obtain ⟨R2, hM2⟩ : ∃ x, x = pL pid M (pid + 1) (negL P) := ⟨_, rfl⟩
              obtain ⟨d, hd⟩ : ∃ x, x = pcode pid M (pid + 1) (negL P) := ⟨_, rfl⟩
              rw [← hI, ← hM2, ← hd] at HIP
              rw [← hM2, ← hd] at HCB
              generalize negL P = Np at *
              have hkp : ¬ k < P.length := hlt
              clear hI hM2 hd hcq HOe HRe HO HR hnl e HPB HKr p1 HCP HRQ HKQ
              go_wp2_with fail
              refine (unhide HIP wr HCR.out HCQ.out).mono ?_
              rintro x w6 ⟨⟨na, nc, rfl, _, hb6⟩, hk6⟩
              have hkA := Keeps.alloc (Keeps.refl w6) (.cells #[.int .i64 nid, .slice na R2.length nc] 25)
              have hbA := born_alloc w6 #[.int .i64 nid, .slice na R2.length nc] 25
              have n0 := cell_at hbA.mem 0 (by simp)
              have n1 := cell_at hbA.mem 1 (by simp)
              simp only [Nat.zero_add, List.getElem_cons_zero, List.getElem_cons_succ] at n0 n1
              replace l0 := (hk6.trans hkA).cell l0
              replace l1 := (hk6.trans hkA).cell l1
              replace p0 := (hk6.trans hkA).cell p0
              replace m0 := (hk6.trans hkA).cell m0
              replace m1 := (hk6.trans hkA).cell m1
              replace HK1 := hide ((HK1.out.trans hk6).trans hkA)
              replace HCL := hide (HCL.out.kept (hk6.trans hkA))
              replace HCR := hide (HCR.out.kept (hk6.trans hkA))
              have HCN := hide ((hb6.toOwn.kept hkA).one)
              clear hkA hbA hb6 hk6 HIP HCQ q0 q1 qf lQ
              by_cases hmx : pid < 1125899906842624
              · obtain ⟨hd0, hR0⟩ := HCB.out.1 hmx
                subst hd0 hR0
                clear HCB
                go_wp2_with fail
                generalize w6.alloc (.cells #[.int .i64 nid, .slice na R2.length nc] 25) = W6 at *
                generalize w6.heap.size = bN at *
                refine (impl_ledger pid ra rc M W6 HCR.out (Nat.le_trans HML.out (by decide))).mono ?_
                rintro x w7 ⟨rfl, hk7⟩
                rw [HMK.out]
                replace l0 := hk7.cell l0
                replace l1 := hk7.cell l1
                replace p0 := hk7.cell p0
                replace n0 := hk7.cell n0
                replace n1 := hk7.cell n1
                replace HK1 := hide (HK1.out.trans hk7)
                replace HCL := hide (HCL.out.kept hk7)
                replace HCN := hide (HCN.out.kept hk7)
                clear hk7
                go_wp2_with fail
                refine (same_lines na la nc lc R2 w7 HCN.out HCL.out HL3.out).mono ?_
                rintro x w8 ⟨rfl, hk8⟩
                have HK8 := hide (HK1.out.trans hk8)
                clear hk8
                go_wp2_with fail
                go_ret
                exact ⟨rfl, HK8.out⟩
              · have hpm : pid = 1125899906842624 := by omega
                have hd1 := HCB.out.2 hpm
                subst hd1
                clear HCB
                subst hpm
                go_wp2_with fail
                generalize w6.alloc (.cells #[.int .i64 nid, .slice na R2.length nc] 25) = W6 at *
                generalize w6.heap.size = bN at *
                refine (impl_ledger 1125899906842624 ra rc M W6 HCR.out (Nat.le_trans HML.out (by decide))).mono ?_
                rintro x w7 ⟨rfl, hk7⟩
                rw [HMK.out]
                replace l0 := hk7.cell l0
                replace l1 := hk7.cell l1
                replace p0 := hk7.cell p0
                replace n0 := hk7.cell n0
                replace n1 := hk7.cell n1
                replace HK1 := hide (HK1.out.trans hk7)
                replace HCL := hide (HCL.out.kept hk7)
                replace HCN := hide (HCN.out.kept hk7)
                clear hk7
                go_wp2_with fail
                go_ret
                exact ⟨rfl, HK1.out⟩
    · have hcode' : ¬ pcode id L pid P = 0 := by rw [← hcode.out]; exact hc0
      have hM' : R = [] := by rw [hM.out]; unfold pL; rw [if_neg hcode']
      have hI' : rid = 0 := by rw [hI.out]; unfold pid'; rw [if_neg hcode']
      clear hM hI hcode'
      subst hM' hI'
      clear hcode
      simp only [List.length_nil] at l0 l1 p0 p1 m0 m1 HCL HCP HCR HK1 ⊢
      go_wp2_with fail
      go_ret
      exact ⟨rfl, HK1.out⟩
theorem walk (a : Option Addr) (cap : Nat) (L : List UInt8) (w : World) (hc : Cells w a (bys L)) (hn : a = none → cap = 0) (hl : L.length ≤ 9223372036854775807) :
    Calls Try.prog 3 #[.slice a L.length cap] w fun e w' => e = .returned (.bool true) ∧ Keeps w w' := walkR a L.length cap w (rowAt_cells hc)

theorem own : ownKnob Try.prog.godebug = none := by kernel_rfl
theorem laidOut : laidOutB Try.prog = true := by kernel_rfl

set_option maxRecDepth 100000 in
theorem lifted (os : Os) (started : os.Started) (H : Type) (enc : TypeId × Value → H) :
    ReturnsInHanded {} Try.checked os 3 .any (Rows.fnZeroSpec.pre6 enc Try.prog Try.f3 Rows.fnZeroRow.domain false) (Rows.fnZeroSpec.post enc Try.prog Try.f3 false true false false) := by
  refine returnsInHanded_of_change (C := Try.checked) own started (by kernel_rfl) Try.func3
    (ChangeSpec.witness6 (enc := enc) (C := Try.checked) false ⟨#[], #[.slice none 0 0], []⟩ 8 (by kernel_rfl) (by kernel_rfl) (by kernel_rfl) (by kernel_rfl)) ?_
  intro W base args ds gs before hval0 hW hcnd _
  have hval : ∀ (j : Nat) t v, Try.f3.params[j]? = some t → args[j]? = some v → Value.okWide Try.prog W .any base t v := hval0
  have hW' := hW
  obtain ⟨p, q, hA0, hV, rfl, hfz, hnd⟩ := hW
  have hA : DataW.TrodAll enc Try.prog W 0 (fun _ => true) true Try.f3.params.toList args.toList ds p := hA0
  rw [Try.params3] at hA hval
  obtain ⟨v0, vs0, d0, ds0, p0, q0, hargs, rfl, rfl, h0, r0⟩ := trodAll_cons hA
  obtain ⟨rfl, rfl, rfl⟩ := trodAll_nil r0
  obtain rfl : args = #[v0] := by cases args; simp_all
  obtain ⟨rfl, rfl⟩ := trodVars_none hV
  have lt0 := lt_row h0
  have k0 := h0
  obtain ⟨a0, cap0, L0, rfl, hc0, hn0, hl0⟩ := bytes_row (hval 0 22 v0 rfl rfl) h0
  clear hA0 hval0
  refine (walk a0 cap0 L0 W hc0 hn0 hl0).mono fun e W' ⟨he, hb⟩ => ?_
  subst he
  refine ⟨_, rfl, _, _, _, [], (p0 ++ []), [], hW', ?_, ?_, ?_, Below.frame hb _, fun h => by cases h⟩
  · exact trodAll_mk1 (shut_bool Try.underlying4 _)
  · exact (trodAll_cons_mk (Below.trod laidOut (by kernel_rfl) (of_decide_eq_true (by kernel_rfl)) k0 hb lt0) trodAll_mk0)
  · exact rfl

theorem over : Rows.fnZeroRow.holds Try.pinned (OpenSpec.ofChange Rows.fnZeroSpec) :=
  OpenClaim.holds_of_wide 3 Try.f3 rfl rfl rfl rfl rfl rfl rfl ⟨rfl, rfl, rfl, rfl, rfl⟩ rfl rfl rfl rfl rfl (by kernel_rfl) Try.func3 (by kernel_rfl)
    (of_decide_eq_true (by kernel_rfl)) (by unfold Func.isWrapper; first | (rw [if_pos (by decide +kernel)]; kernel_rfl) | (rw [if_neg (by decide +kernel)]; exact ⟨rfl, rfl⟩))
    (fun os started H enc _ => lifted os started H enc)
end Go.Proofs.Ytecjjkgdgmjgmaa.fnZero
namespace Go.Proofs.Ytecjjkgdgmjgmaa
theorem fnZero_holds : Rows.FnZeroSaid := fnZero.over
end Go.Proofs.Ytecjjkgdgmjgmaa
