/- The model's TextStep. -/
import Derived.Test.YtkgpoghoilffhaaGreatDoorSC26
namespace Go.Proofs.YtkgpoghoilffhaaGreatDoor
open Go.RowKit Go.Deep
set_option linter.unusedVariables false
set_option linter.unusedSimpArgs false
set_option maxRecDepth 10000
set_option maxHeartbeats 8000000 in
theorem textstep_specD (s : ByteArray) (w : World) (hs : s.size ≤ 1048576) (hh : (partsE 32 (s.data.toList ++ [32])).headD [] = wTurn ∧ ¬ (partsE 32 (s.data.toList ++ [32])).tail.length = 5) :
    Calls Tryz.prog 21 #[.string s] w fun e w' => TsPost s w w' e ∧ Keeps w w' := by
  have HK := hide (Keeps.alloc (Keeps.refl w) (.cells #[.int .i64 0, .int .i64 0, .int .i64 0, .int .i64 0, .int .i64 0, .int .i64 0, .int .i64 0, .bool false, .slice none 0 0, .int .i64 0, .int .i64 0, .int .i64 0, .int .i64 0, .int .i64 0] 33))
  have HR := hide (row_14 w 33 (.int .i64 0) (.int .i64 0) (.int .i64 0) (.int .i64 0) (.int .i64 0) (.int .i64 0) (.int .i64 0) (.bool false) (.slice none 0 0) (.int .i64 0) (.int .i64 0) (.int .i64 0) (.int .i64 0) (.int .i64 0))
  have HQ := hide (fun w' => parts_e 32 s w' hs)
  have HB : Hid (w.heap.size ≤ w.heap.size) := Nat.le_refl _
  have HH := hide hh
  clear hh
  go_enter Tryz.func21, Tryz.ntmps21
  go_wp2_with fail
  have hsz : (w.alloc (.cells #[.int .i64 0, .int .i64 0, .int .i64 0, .int .i64 0, .int .i64 0, .int .i64 0, .int .i64 0, .bool false, .slice none 0 0, .int .i64 0, .int .i64 0, .int .i64 0, .int .i64 0, .int .i64 0] 33)).heap.size = w.heap.size + 1 := by simp
  generalize w.alloc (.cells #[.int .i64 0, .int .i64 0, .int .i64 0, .int .i64 0, .int .i64 0, .int .i64 0, .int .i64 0, .bool false, .slice none 0 0, .int .i64 0, .int .i64 0, .int .i64 0, .int .i64 0, .int .i64 0] 33) = W1 at *
  refine (unhide HQ _).mono ?_
  rintro x w1 ⟨v, ws, rfl, ho, hp, hk1⟩
  obtain ⟨g, cap, rfl, hcap, hg, hws⟩ := str_cells ho hp.ne
  have HZ1 : Hid (w.heap.size + 1 ≤ w1.heap.size) := by have := hk1.size; show _ ≤ _; omega
  have HP := hide hp
  have HK1 := hide (HK.out.trans hk1)
  have HR1 := hide (Keeps.rowV hk1 HR.out)
  clear HK HR hsz HQ
  match ws, hp.ne with
  | hd :: tl, _ =>
    have hlt0 : tl.length ≤ 1048576 := by have := hp.len; simp at this; omega
    have hcap1 : tl.length + 1 ≤ cap := by simpa using hcap
    have HW := hide hws
    have hds : hd.size ≤ 1048576 := Nat.le_trans (hp.size hd (by simp)) hs
    have hsz2 : ∀ x ∈ tl, x.size ≤ 1048576 := fun x hx => Nat.le_trans (hp.size x (List.mem_cons_of_mem _ hx)) hs
    have HSZ := hide hsz2
    have HO0 := hide (owns_mk0 w1)
    have HK0 := hide (Keeps.alloc HK1.out (.cells #[] 3))
    have HK01 := hide (Keeps.alloc (Keeps.refl w1) (.cells #[] 3))
    have hLen : (((hd :: tl).length : Nat) : Int) = (tl.length : Int) + 1 := by simp
    obtain ⟨of, hof, qs⟩ := slice_one g tl.length cap hcap1
    have HOF := hide hof
    clear hws ho hp hsz2 hk1 hcap hof
    go_wp2_with fail
    have HOM := hide (owns_shape HO0.out)
    clear hLen
    go_loopw [5, 17] (fun v y wr => ∃ k : Nat, k ≤ tl.length ∧ y = .int .i64 (k : Int) ∧ Hid (OwnsI wr w1.heap.size v ((tl.take k).map txB)) ∧ Hid (Keeps w1 wr)) (fun _ y _ => tl.length - (intOf y).toNat)
    case atStart => exact ⟨0, Nat.zero_le _, rfl, by show OwnsI _ _ _ _; simpa using HO0.out, HK01⟩
    case round =>
      clear HO0 HK01 HK0 HOM
      obtain ⟨k, hk, rfl, HO, HKr⟩ := hrel
      by_cases hlt : k < tl.length
      · have c0 : w1.cell? ⟨g, of + k, none⟩ = some (.string tl[k]) := by
          have h1 := HW.out (k + 1) (by simpa using hlt)
          rw [HOF.out k hlt, Nat.add_comm 1 k]
          simpa using h1
        have c0' := HKr.out.cell c0
        have hx := HSZ.out tl[k] (List.getElem_mem hlt)
        have HE := hide (List.take_append_getElem hlt)
        have hkl : (tl.take k).length ≤ k := by simp; omega
        generalize tl[k] = x at *
        clear c0
        have HQ := hide (fun w' => textnum_x x w' hx)
        have hszr := HKr.out.size
        go_wp2_with fail
        refine (unhide HQ _).mono ?_
        rintro e w3 ⟨⟨b, rfl⟩, hk3⟩
        have HK3 := hide (HKr.out.trans hk3)
        have HO3 := hide (owns_keepI HO.out hk3)
        have hsz3 := HK3.out.size
        clear hk3 HKr HO c0'
        have HK4 := hide (Keeps.alloc (Keeps.refl w3) (.cells #[.int .i64 (txB x)] 3))
        have HO4 := hide (owns_keepI HO3.out HK4.out)
        have HC4 : Hid (∀ j u, (its [txB x])[j]? = some u → (w3.alloc (.cells #[.int .i64 (txB x)] 3)).cell? ((⟨w3.heap.size, 0, none⟩ : Addr).add j) = some u) := by
          intro j u hj
          match j, hj with
          | 0, hj => simp [its] at hj; subst hj; simp [Addr.add]
          | n + 1, hj => simp [its] at hj
        have HLn : Hid (((tl.take k).map txB).length + [txB x].length ≤ 1048576) := by show _ ≤ _; simp; omega
        have HB4 : Hid (w1.heap.size ≤ (w3.alloc (.cells #[.int .i64 (txB x)] 3)).heap.size) := by show _ ≤ _; simp; omega
        have HF := hide (owns_from HO4.out)
        go_wp2_with (at_builtin; refine app_its rfl (.tmp 26) (.tmp 28) rfl w1.heap.size _ ((tl.take k).map txB) [txB x] rfl ⟨w3.heap.size, 0, none⟩ 1 rfl HC4.out HO4.out HLn.out HB4.out ?_; intro v' w' ho hg hne)
        go_roundw
        case rel => exact ⟨k + 1, by omega, by go_num, by
                      show OwnsI _ _ _ _
                      rw [← HE.out, List.map_append]
                      exact ho, Keeps.grown (HK3.out.trans HK4.out) hg HF.out⟩
        case measure => simp [intOf]; omega
      · have e : k = tl.length := by omega
        subst e
        rw [List.take_length] at HO
        obtain ⟨L, hL⟩ : ∃ L, tl.map txB = L := ⟨_, rfl⟩
        have hLl : L.length ≤ 1048576 := by rw [← hL, List.length_map]; exact hlt0
        have HSD : Hid (saidM s.data.toList = saidS hd.data.toList (if 5 < s.data.toList.length then evS (s.data.toList.drop 5) else noE) L) := by
          show _ = _
          have h1 : partsE 32 (s.data.toList ++ [32]) = hd.data.toList :: tl.map dl := HP.out.eq.symm
          unfold saidM
          rw [h1, ← hL]
          simp [dl, Function.comp_def]
          rfl
        have HNE : Hid (hd.data.toList ≠ [] → s.data.toList ≠ []) := fun h h2 => h (by
          have h1 : partsE 32 (s.data.toList ++ [32]) = hd.data.toList :: tl.map dl := HP.out.eq.symm
          rw [h2] at h1
          have h3 : partsE 32 ([] ++ [32]) = [[]] := rfl
          rw [h3] at h1
          injection h1 with h4 _
          exact h4.symm)
        have HDW : Hid (hd.data.toList = (partsE 32 (s.data.toList ++ [32])).headD []) := by
          have h1 : partsE 32 (s.data.toList ++ [32]) = hd.data.toList :: tl.map dl := HP.out.eq.symm
          show _ = _
          rw [h1]; rfl
        have HLL : Hid (L.length = (partsE 32 (s.data.toList ++ [32])).tail.length) := by
          have h1 : partsE 32 (s.data.toList ++ [32]) = hd.data.toList :: tl.map dl := HP.out.eq.symm
          show _ = _
          rw [h1, ← hL]; simp
        rw [hL] at HO
        obtain ⟨va, vc, rfl, _⟩ := owns_shape HO.out
        have HKW := hide (HK1.out.trans HKr.out)
        have hc0 : wr.cell? ⟨g, 0, none⟩ = some (.string hd) := by have h1 := HW.out 0 (by simp); exact HKr.out.cell (by simpa using h1)
        have hLl2 : va = none → L = [] := by
          intro h
          subst h
          obtain ⟨a', c', e1, _⟩ := owns_shape HO.out
          rcases HO.out.2 with ⟨_, h0⟩ | ⟨g', c'', cu, h1, _⟩
          · exact List.length_eq_zero_iff.1 h0
          · injection h1 with h2; cases h2
        have HOL : Hid (∀ k, (Value.slice va L.length vc).ownBlock = some k → k < wr.heap.size) := fun k hk => (HO.out.lt k hk).2
        have HKA := hide (Keeps.alloc (Keeps.refl wr) (.cells #[.int .i64 0, .int .i64 0, .int .i64 0, .int .i64 0, .int .i64 0, .int .i64 0, .int .i64 0, .bool false, .slice none 0 0, .int .i64 0, .int .i64 0, .int .i64 0, .int .i64 0, .int .i64 0] 33))
        have HRX := hide (row_14 wr 33 (.int .i64 0) (.int .i64 0) (.int .i64 0) (.int .i64 0) (.int .i64 0) (.int .i64 0) (.int .i64 0) (.bool false) (.slice none 0 0) (.int .i64 0) (.int .i64 0) (.int .i64 0) (.int .i64 0) (.int .i64 0))
        have HRT := hide (Keeps.rowV (HKr.out.trans HKA.out) HR1.out)
        have HOX := hide (owns_keepI HO.out HKA.out)
        have HKX := hide (HKW.out.trans HKA.out)
        have hcx := HKA.out.cell hc0
        have hXB : w.heap.size ≠ wr.heap.size := by have h1 := HZ1.out; have h2 := HKr.out.size; omega
        have HXL : Hid (w1.heap.size ≤ wr.heap.size) := HKr.out.size
        clear hL hc0 HO HKr HW HSZ HOF HR1 HK1 HKW HP hLl2 hk hlt qs
        go_upto_region 10 with fail
        have hXs : wr.heap.size + 1 ≤ (wr.alloc (.cells #[.int .i64 0, .int .i64 0, .int .i64 0, .int .i64 0, .int .i64 0, .int .i64 0, .int .i64 0, .bool false, .slice none 0 0, .int .i64 0, .int .i64 0, .int .i64 0, .int .i64 0, .int .i64 0] 33)).heap.size := by simp
        generalize wr.alloc (.cells #[.int .i64 0, .int .i64 0, .int .i64 0, .int .i64 0, .int .i64 0, .int .i64 0, .int .i64 0, .bool false, .slice none 0 0, .int .i64 0, .int .i64 0, .int .i64 0, .int .i64 0, .int .i64 0] 33) = wX at *
        generalize wr.heap.size = X at *
        have x0 := (HRX.out).cell (i := 0) (by decide)
        have x1 := (HRX.out).cell (i := 1) (by decide)
        have x2 := (HRX.out).cell (i := 2) (by decide)
        have x3 := (HRX.out).cell (i := 3) (by decide)
        have x4 := (HRX.out).cell (i := 4) (by decide)
        have x5 := (HRX.out).cell (i := 5) (by decide)
        have x6 := (HRX.out).cell (i := 6) (by decide)
        have x7 := (HRX.out).cell (i := 7) (by decide)
        have x8 := (HRX.out).cell (i := 8) (by decide)
        have x9 := (HRX.out).cell (i := 9) (by decide)
        have x10 := (HRX.out).cell (i := 10) (by decide)
        have x11 := (HRX.out).cell (i := 11) (by decide)
        have x12 := (HRX.out).cell (i := 12) (by decide)
        have x13 := (HRX.out).cell (i := 13) (by decide)
        have xf0 := (HRX.out).frozen 0
        have xf1 := (HRX.out).frozen 1
        have xf2 := (HRX.out).frozen 2
        have xf3 := (HRX.out).frozen 3
        have xf4 := (HRX.out).frozen 4
        have xf5 := (HRX.out).frozen 5
        have xf6 := (HRX.out).frozen 6
        have xf7 := (HRX.out).frozen 7
        have xf8 := (HRX.out).frozen 8
        have xf9 := (HRX.out).frozen 9
        have xf10 := (HRX.out).frozen 10
        have xf11 := (HRX.out).frozen 11
        have xf12 := (HRX.out).frozen 12
        have xf13 := (HRX.out).frozen 13
        have xl := (HRX.out).lt
        simp at x0 x1 x2 x3 x4 x5 x6 x7 x8 x9 x10 x11 x12 x13
        have HOLX := hide HOL.out
        clear HOL
        cases h1 : (hd.toList == [116, 97, 107, 101])
        rotate_left
        · have HLW : Hid (hd.data.toList = wTake) := list_yes h1
          exact absurd (HLW.out.symm.trans (HDW.out.trans HH.out.1)) (by decide)
        have H1 : Hid (¬ hd.data.toList = wTake) := list_no h1
        cases h2 : (hd.toList == [115, 121, 110, 99])
        rotate_left
        · have HLW : Hid (hd.data.toList = wSync) := list_yes h2
          exact absurd (HLW.out.symm.trans (HDW.out.trans HH.out.1)) (by decide)
        have H2 : Hid (¬ hd.data.toList = wSync) := list_no h2
        cases h4 : (hd.toList == [115, 116, 97, 114, 116])
        rotate_left
        · have HLW : Hid (hd.data.toList = wStart) := list_yes h4
          exact absurd (HLW.out.symm.trans (HDW.out.trans HH.out.1)) (by decide)
        have H4 : Hid (¬ hd.data.toList = wStart) := list_no h4
        cases h3 : (hd.toList == [99, 114, 97, 115, 104])
        rotate_left
        · have HLW : Hid (hd.data.toList = wCrash) := list_yes h3
          exact absurd (HLW.out.symm.trans (HDW.out.trans HH.out.1)) (by decide)
        have H3 : Hid (¬ hd.data.toList = wCrash) := list_no h3
        cases h5 : (hd.toList == [116, 117, 114, 110])
        rotate_left
        · have HLW : Hid (hd.data.toList = wTurn) := list_yes h5
          by_cases h5 : L.length = 5
          · exact absurd (HLL.out.symm.trans h5) HH.out.2
          · have hne5 : ((L.length : Int) == 5) = false := by simp; omega
            have hne6 : (L.length == 5) = false := by simp; omega
            have hne7 : ¬ (L.length : Int) = 5 := by omega
            have HN5 : Hid (rulS L = noR) := by show _ = _; unfold rulS; rw [if_neg h5]
            go_upto_region 26 with fail
            clear hne5 hne6 hne7 h5
            clear x0 x1 x2 x3 x4 x5 x6 x7 x8 x9 x10 x11 x12 x13 xf0 xf1 xf2 xf3 xf4 xf5 xf6 xf7 xf8 xf9 xf10 xf11 xf12 xf13 xl
            have ht5 : Turn [X] wX (wX.setCell ⟨X, 0, none⟩ (.int .i64 5)) := (Turn.set (by simp) _)
            obtain ⟨D, hDe⟩ : ∃ D : Stp, D = ⟨5, noE, [], noR⟩ := ⟨_, rfl⟩
            have HR5 : Hid ((wX.setCell ⟨X, 0, none⟩ (.int .i64 5)).rowIs X 33 14 (stRow D none 0)) := ((HRX.out.set 0 (.int .i64 5))).congr (fun j hj => by
              rw [hDe]
              match j, hj with
              | 0, _ => simp [stRow, noE, noR]
              | 1, _ => simp [stRow, noE, noR]
              | 2, _ => simp [stRow, noE, noR]
              | 3, _ => simp [stRow, noE, noR]
              | 4, _ => simp [stRow, noE, noR]
              | 5, _ => simp [stRow, noE, noR]
              | 6, _ => simp [stRow, noE, noR]
              | 7, _ => simp [stRow, noE, noR]
              | 8, _ => simp [stRow, noE, noR]
              | 9, _ => simp [stRow, noE, noR]
              | 10, _ => simp [stRow, noE, noR]
              | 11, _ => simp [stRow, noE, noR]
              | 12, _ => simp [stRow, noE, noR]
              | 13, _ => simp [stRow, noE, noR]
              | m + 14, hj => exact absurd hj (by omega))
            have HRT5 := hide (row_turn HRT.out ht5 hXB)
            have HK5 := hide (turn_keeps HKX.out ht5 (fun b hb => by have h1 := HXL.out; have h2 := HZ1.out; simp at hb; omega))
            have HO5 : Hid (OwnsI (wX.setCell ⟨X, 0, none⟩ (.int .i64 5)) w1.heap.size (.slice none D.ks.length 0) D.ks) := by rw [hDe]; exact owns_zero _ _
            have HX5 : Hid (saidM s.data.toList = D) := by show _ = _; rw [hDe]; exact by rw [HSD.out, HLW.out, saidS_5, HN5.out]
            have HKL5 : Hid (D.ks.length ≤ 1048576) := by show _ ≤ _; rw [hDe]; exact by simp
            generalize (wX.setCell ⟨X, 0, none⟩ (.int .i64 5)) = W5 at *
            clear ht5 hDe
            have HUm : Hid (∀ D2, stpB D2 = true → stT D2 = s.data.toList → D2 = D) := fun D2 h1 h2 => by rw [← HX5.out, ← h2]; exact (saidM_eq h1).symm
            have c0 := HR5.out.cell (i := 0) (by decide)
            have c1 := HR5.out.cell (i := 1) (by decide)
            have c2 := HR5.out.cell (i := 2) (by decide)
            have c3 := HR5.out.cell (i := 3) (by decide)
            have c4 := HR5.out.cell (i := 4) (by decide)
            have c5 := HR5.out.cell (i := 5) (by decide)
            have c6 := HR5.out.cell (i := 6) (by decide)
            have c7 := HR5.out.cell (i := 7) (by decide)
            have c8 := HR5.out.cell (i := 8) (by decide)
            have c9 := HR5.out.cell (i := 9) (by decide)
            have c10 := HR5.out.cell (i := 10) (by decide)
            have c11 := HR5.out.cell (i := 11) (by decide)
            have c12 := HR5.out.cell (i := 12) (by decide)
            have c13 := HR5.out.cell (i := 13) (by decide)
            simp [stRow] at c0 c1 c2 c3 c4 c5 c6 c7 c8 c9 c10 c11 c12 c13
            have HS := hide (steps_spec D none 0 W5 (owns_cells HO5.out) HKL5.out)
            clear HX5 HR5
            have HS0 : Hid (s.data.toList ≠ []) := HNE.out (by rw [HLW.out]; simp [wTake, wSync, wCrash, wStart, wTurn])
            have hse := str_none HS0.out
            go_wp2_with fail
            refine HS.out.mono ?_
            rintro x w6 ⟨rfl, hk6⟩
            have HK6 := hide (HK5.out.trans hk6)
            have HRT6 := hide (Keeps.rowV hk6 HRT5.out)
            have HO6 := hide (owns_keepI HO5.out hk6)
            have hcl := Keeps.cells14 hk6 c0 c1 c2 c3 c4 c5 c6 c7 c8 c9 c10 c11 c12 c13
            clear hk6 HK5 HRT5 HO5 HS c0 c1 c2 c3 c4 c5 c6 c7 c8 c9 c10 c11 c12 c13
            obtain ⟨c0, c1, c2, c3, c4, c5, c6, c7, c8, c9, c10, c11, c12, c13⟩ := hcl
            by_cases ht : stL D = s.data.toList
            · have HV := hide (stL_nil (fun h => unhide HS0 (ht.symm.trans h)))
              rw [bytes_eq ht]
              have HTT := hide ((stL_yes HV.out).symm.trans ht)
              clear ht
              have r0 := (HRT6.out).cell (i := 0) (by decide)
              have r1 := (HRT6.out).cell (i := 1) (by decide)
              have r2 := (HRT6.out).cell (i := 2) (by decide)
              have r3 := (HRT6.out).cell (i := 3) (by decide)
              have r4 := (HRT6.out).cell (i := 4) (by decide)
              have r5 := (HRT6.out).cell (i := 5) (by decide)
              have r6 := (HRT6.out).cell (i := 6) (by decide)
              have r7 := (HRT6.out).cell (i := 7) (by decide)
              have r8 := (HRT6.out).cell (i := 8) (by decide)
              have r9 := (HRT6.out).cell (i := 9) (by decide)
              have r10 := (HRT6.out).cell (i := 10) (by decide)
              have r11 := (HRT6.out).cell (i := 11) (by decide)
              have r12 := (HRT6.out).cell (i := 12) (by decide)
              have r13 := (HRT6.out).cell (i := 13) (by decide)
              have rf0 := (HRT6.out).frozen 0
              have rf1 := (HRT6.out).frozen 1
              have rf2 := (HRT6.out).frozen 2
              have rf3 := (HRT6.out).frozen 3
              have rf4 := (HRT6.out).frozen 4
              have rf5 := (HRT6.out).frozen 5
              have rf6 := (HRT6.out).frozen 6
              have rf7 := (HRT6.out).frozen 7
              have rf8 := (HRT6.out).frozen 8
              have rf9 := (HRT6.out).frozen 9
              have rf10 := (HRT6.out).frozen 10
              have rf11 := (HRT6.out).frozen 11
              have rf12 := (HRT6.out).frozen 12
              have rf13 := (HRT6.out).frozen 13
              have rl := (HRT6.out).lt
              simp at r0 r1 r2 r3 r4 r5 r6 r7 r8 r9 r10 r11 r12 r13
              go_wp2_with fail
              obtain ⟨⟨o0, o1, o2, o3, o4, o5, o6, o7, o8, o9, o10, o11, o12, o13⟩, hkF, htF, _⟩ := set_14 (HRT6.out) (HK6.out) (HB.out) (.int .i64 D.k) (.int .i64 D.e.k) (.int .i64 D.e.y) (.int .i64 D.e.c) (.int .i64 D.e.t) (.int .i64 D.e.m) (.int .i64 D.e.f) (.bool D.e.b) (.slice none D.ks.length 0) (.int .i64 D.r.lo) (.int .i64 D.r.hi) (.int .i64 D.r.st) (.int .i64 D.r.mi) (.int .i64 D.r.ma)
              have hOF := owns_turnB HO6.out htF HZ1.out
              refine bodyPost_ret (v := .tuple #[.agg #[.int .i64 D.k, .int .i64 D.e.k, .int .i64 D.e.y, .int .i64 D.e.c, .int .i64 D.e.t, .int .i64 D.e.m, .int .i64 D.e.f, .bool D.e.b, .slice none D.ks.length 0, .int .i64 D.r.lo, .int .i64 D.r.hi, .int .i64 D.r.st, .int .i64 D.r.mi, .int .i64 D.r.ma], .bool true]) ?_ rfl ⟨.inl ⟨D, none, 0, HV.out, HTT.out, rfl, owns_base hOF (by have := HZ1.out; omega)⟩, hkF⟩
              clear hkF htF hOF r0 r1 r2 r3 r4 r5 r6 r7 r8 r9 r10 r11 r12 r13 rf0 rf1 rf2 rf3 rf4 rf5 rf6 rf7 rf8 rf9 rf10 rf11 rf12 rf13 rl
              revert o0 o1 o2 o3 o4 o5 o6 o7 o8 o9 o10 o11 o12 o13
              generalize World.setCell (World.setCell _ _ _) _ _ = WW
              intro o0 o1 o2 o3 o4 o5 o6 o7 o8 o9 o10 o11 o12 o13
              simp [results, Tryz.results21, go_sem, o0, o1, o2, o3, o4, o5, o6, o7, o8, o9, o10, o11, o12, o13]
            · have hne := str_ne ht
              have HTN := hide (fun h => ht h)
              clear ht
              have r0 := (HRT6.out).cell (i := 0) (by decide)
              have r1 := (HRT6.out).cell (i := 1) (by decide)
              have r2 := (HRT6.out).cell (i := 2) (by decide)
              have r3 := (HRT6.out).cell (i := 3) (by decide)
              have r4 := (HRT6.out).cell (i := 4) (by decide)
              have r5 := (HRT6.out).cell (i := 5) (by decide)
              have r6 := (HRT6.out).cell (i := 6) (by decide)
              have r7 := (HRT6.out).cell (i := 7) (by decide)
              have r8 := (HRT6.out).cell (i := 8) (by decide)
              have r9 := (HRT6.out).cell (i := 9) (by decide)
              have r10 := (HRT6.out).cell (i := 10) (by decide)
              have r11 := (HRT6.out).cell (i := 11) (by decide)
              have r12 := (HRT6.out).cell (i := 12) (by decide)
              have r13 := (HRT6.out).cell (i := 13) (by decide)
              have rf0 := (HRT6.out).frozen 0
              have rf1 := (HRT6.out).frozen 1
              have rf2 := (HRT6.out).frozen 2
              have rf3 := (HRT6.out).frozen 3
              have rf4 := (HRT6.out).frozen 4
              have rf5 := (HRT6.out).frozen 5
              have rf6 := (HRT6.out).frozen 6
              have rf7 := (HRT6.out).frozen 7
              have rf8 := (HRT6.out).frozen 8
              have rf9 := (HRT6.out).frozen 9
              have rf10 := (HRT6.out).frozen 10
              have rf11 := (HRT6.out).frozen 11
              have rf12 := (HRT6.out).frozen 12
              have rf13 := (HRT6.out).frozen 13
              have rl := (HRT6.out).lt
              simp at r0 r1 r2 r3 r4 r5 r6 r7 r8 r9 r10 r11 r12 r13
              go_wp2_with fail
              obtain ⟨⟨o0, o1, o2, o3, o4, o5, o6, o7, o8, o9, o10, o11, o12, o13⟩, hkF, htF, _⟩ := set_14 (HRT6.out) (HK6.out) (HB.out) (.int .i64 0) (.int .i64 0) (.int .i64 0) (.int .i64 0) (.int .i64 0) (.int .i64 0) (.int .i64 0) (.bool false) (.slice none 0 0) (.int .i64 0) (.int .i64 0) (.int .i64 0) (.int .i64 0) (.int .i64 0)
              refine bodyPost_ret (v := .tuple #[.agg #[.int .i64 0, .int .i64 0, .int .i64 0, .int .i64 0, .int .i64 0, .int .i64 0, .int .i64 0, .bool false, .slice none 0 0, .int .i64 0, .int .i64 0, .int .i64 0, .int .i64 0, .int .i64 0], .bool false]) ?_ rfl ⟨.inr ⟨fun D2 h1 h2 => unhide HTN (by rw [← HUm.out D2 h1 h2, stL_yes h1]; exact h2), rfl⟩, hkF⟩
              clear hkF htF r0 r1 r2 r3 r4 r5 r6 r7 r8 r9 r10 r11 r12 r13 rf0 rf1 rf2 rf3 rf4 rf5 rf6 rf7 rf8 rf9 rf10 rf11 rf12 rf13 rl
              revert o0 o1 o2 o3 o4 o5 o6 o7 o8 o9 o10 o11 o12 o13
              generalize World.setCell (World.setCell _ _ _) _ _ = WW
              intro o0 o1 o2 o3 o4 o5 o6 o7 o8 o9 o10 o11 o12 o13
              simp [results, Tryz.results21, go_sem, o0, o1, o2, o3, o4, o5, o6, o7, o8, o9, o10, o11, o12, o13]
        have H5 : Hid (¬ hd.data.toList = wTurn) := list_no h5
        exact absurd (HDW.out.trans HH.out.1) H5.out
end Go.Proofs.YtkgpoghoilffhaaGreatDoor
