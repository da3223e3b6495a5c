/- Texts of the verifier, joined: SdG, SdK, Zs. -/
import Derived.Test.YtkgpoghoilffhaaGreatDoorSC26
import Derived.Test.YtkgpoghoilffhaaGreatDoorSC27
import Derived.Test.YtkgpoghoilffhaaGreatDoorSC28
import Derived.Test.YtkgpoghoilffhaaGreatDoorSC29
import Derived.Test.YtkgpoghoilffhaaGreatDoorSC30
import Derived.Test.YtkgpoghoilffhaaGreatDoorSC31
import Derived.Test.YtkgpoghoilffhaaGreatDoorSC32
import Derived.Test.YtkgpoghoilffhaaGreatDoorSC19
import Derived.Test.YtkgpoghoilffhaaGreatDoorSC24
namespace Go.Proofs.YtkgpoghoilffhaaGreatDoor
open Go.RowKit Go.Deep
set_option linter.unusedVariables false
set_option linter.unusedSimpArgs false
set_option maxRecDepth 10000
set_option maxHeartbeats 8000000 in
theorem textstep_specG (s : ByteArray) (w : World) (hs : s.size ≤ 1048576) (hh : (partsE 32 (s.data.toList ++ [32])).headD [] = wStart) :
    Calls Tryz.prog 21 #[.string s] w fun e w' => TsPost s w w' e ∧ Keeps w w' := by
  have HK := hide (Keeps.alloc (Keeps.refl w) (.cells #[.int .i64 0, .int .i64 0, .int .i64 0, .int .i64 0, .int .i64 0, .int .i64 0, .int .i64 0, .bool false, .slice none 0 0, .int .i64 0, .int .i64 0, .int .i64 0, .int .i64 0, .int .i64 0] 33))
  have HR := hide (row_14 w 33 (.int .i64 0) (.int .i64 0) (.int .i64 0) (.int .i64 0) (.int .i64 0) (.int .i64 0) (.int .i64 0) (.bool false) (.slice none 0 0) (.int .i64 0) (.int .i64 0) (.int .i64 0) (.int .i64 0) (.int .i64 0))
  have HQ := hide (fun w' => parts_e 32 s w' hs)
  have HB : Hid (w.heap.size ≤ w.heap.size) := Nat.le_refl _
  have HH := hide hh
  clear hh
  go_enter Tryz.func21, Tryz.ntmps21
  go_wp2_with fail
  have hsz : (w.alloc (.cells #[.int .i64 0, .int .i64 0, .int .i64 0, .int .i64 0, .int .i64 0, .int .i64 0, .int .i64 0, .bool false, .slice none 0 0, .int .i64 0, .int .i64 0, .int .i64 0, .int .i64 0, .int .i64 0] 33)).heap.size = w.heap.size + 1 := by simp
  generalize w.alloc (.cells #[.int .i64 0, .int .i64 0, .int .i64 0, .int .i64 0, .int .i64 0, .int .i64 0, .int .i64 0, .bool false, .slice none 0 0, .int .i64 0, .int .i64 0, .int .i64 0, .int .i64 0, .int .i64 0] 33) = W1 at *
  refine (unhide HQ _).mono ?_
  rintro x w1 ⟨v, ws, rfl, ho, hp, hk1⟩
  obtain ⟨g, cap, rfl, hcap, hg, hws⟩ := str_cells ho hp.ne
  have HZ1 : Hid (w.heap.size + 1 ≤ w1.heap.size) := by have := hk1.size; show _ ≤ _; omega
  have HP := hide hp
  have HK1 := hide (HK.out.trans hk1)
  have HR1 := hide (Keeps.rowV hk1 HR.out)
  clear HK HR hsz HQ
  match ws, hp.ne with
  | hd :: tl, _ =>
    have hlt0 : tl.length ≤ 1048576 := by have := hp.len; simp at this; omega
    have hcap1 : tl.length + 1 ≤ cap := by simpa using hcap
    have HW := hide hws
    have hds : hd.size ≤ 1048576 := Nat.le_trans (hp.size hd (by simp)) hs
    have hsz2 : ∀ x ∈ tl, x.size ≤ 1048576 := fun x hx => Nat.le_trans (hp.size x (List.mem_cons_of_mem _ hx)) hs
    have HSZ := hide hsz2
    have HO0 := hide (owns_mk0 w1)
    have HK0 := hide (Keeps.alloc HK1.out (.cells #[] 3))
    have HK01 := hide (Keeps.alloc (Keeps.refl w1) (.cells #[] 3))
    have hLen : (((hd :: tl).length : Nat) : Int) = (tl.length : Int) + 1 := by simp
    obtain ⟨of, hof, qs⟩ := slice_one g tl.length cap hcap1
    have HOF := hide hof
    clear hws ho hp hsz2 hk1 hcap hof
    go_wp2_with fail
    have HOM := hide (owns_shape HO0.out)
    clear hLen
    go_loopw [5, 17] (fun v y wr => ∃ k : Nat, k ≤ tl.length ∧ y = .int .i64 (k : Int) ∧ Hid (OwnsI wr w1.heap.size v ((tl.take k).map txB)) ∧ Hid (Keeps w1 wr)) (fun _ y _ => tl.length - (intOf y).toNat)
    case atStart => exact ⟨0, Nat.zero_le _, rfl, by show OwnsI _ _ _ _; simpa using HO0.out, HK01⟩
    case round =>
      clear HO0 HK01 HK0 HOM
      obtain ⟨k, hk, rfl, HO, HKr⟩ := hrel
      by_cases hlt : k < tl.length
      · have c0 : w1.cell? ⟨g, of + k, none⟩ = some (.string tl[k]) := by
          have h1 := HW.out (k + 1) (by simpa using hlt)
          rw [HOF.out k hlt, Nat.add_comm 1 k]
          simpa using h1
        have c0' := HKr.out.cell c0
        have hx := HSZ.out tl[k] (List.getElem_mem hlt)
        have HE := hide (List.take_append_getElem hlt)
        have hkl : (tl.take k).length ≤ k := by simp; omega
        generalize tl[k] = x at *
        clear c0
        have HQ := hide (fun w' => textnum_x x w' hx)
        have hszr := HKr.out.size
        go_wp2_with fail
        refine (unhide HQ _).mono ?_
        rintro e w3 ⟨⟨b, rfl⟩, hk3⟩
        have HK3 := hide (HKr.out.trans hk3)
        have HO3 := hide (owns_keepI HO.out hk3)
        have hsz3 := HK3.out.size
        clear hk3 HKr HO c0'
        have HK4 := hide (Keeps.alloc (Keeps.refl w3) (.cells #[.int .i64 (txB x)] 3))
        have HO4 := hide (owns_keepI HO3.out HK4.out)
        have HC4 : Hid (∀ j u, (its [txB x])[j]? = some u → (w3.alloc (.cells #[.int .i64 (txB x)] 3)).cell? ((⟨w3.heap.size, 0, none⟩ : Addr).add j) = some u) := by
          intro j u hj
          match j, hj with
          | 0, hj => simp [its] at hj; subst hj; simp [Addr.add]
          | n + 1, hj => simp [its] at hj
        have HLn : Hid (((tl.take k).map txB).length + [txB x].length ≤ 1048576) := by show _ ≤ _; simp; omega
        have HB4 : Hid (w1.heap.size ≤ (w3.alloc (.cells #[.int .i64 (txB x)] 3)).heap.size) := by show _ ≤ _; simp; omega
        have HF := hide (owns_from HO4.out)
        go_wp2_with (at_builtin; refine app_its rfl (.tmp 26) (.tmp 28) rfl w1.heap.size _ ((tl.take k).map txB) [txB x] rfl ⟨w3.heap.size, 0, none⟩ 1 rfl HC4.out HO4.out HLn.out HB4.out ?_; intro v' w' ho hg hne)
        go_roundw
        case rel => exact ⟨k + 1, by omega, by go_num, by
                      show OwnsI _ _ _ _
                      rw [← HE.out, List.map_append]
                      exact ho, Keeps.grown (HK3.out.trans HK4.out) hg HF.out⟩
        case measure => simp [intOf]; omega
      · have e : k = tl.length := by omega
        subst e
        rw [List.take_length] at HO
        obtain ⟨L, hL⟩ : ∃ L, tl.map txB = L := ⟨_, rfl⟩
        have hLl : L.length ≤ 1048576 := by rw [← hL, List.length_map]; exact hlt0
        have HSD : Hid (saidM s.data.toList = saidS hd.data.toList (if 5 < s.data.toList.length then evS (s.data.toList.drop 5) else noE) L) := by
          show _ = _
          have h1 : partsE 32 (s.data.toList ++ [32]) = hd.data.toList :: tl.map dl := HP.out.eq.symm
          unfold saidM
          rw [h1, ← hL]
          simp [dl, Function.comp_def]
          rfl
        have HNE : Hid (hd.data.toList ≠ [] → s.data.toList ≠ []) := fun h h2 => h (by
          have h1 : partsE 32 (s.data.toList ++ [32]) = hd.data.toList :: tl.map dl := HP.out.eq.symm
          rw [h2] at h1
          have h3 : partsE 32 ([] ++ [32]) = [[]] := rfl
          rw [h3] at h1
          injection h1 with h4 _
          exact h4.symm)
        have HDW : Hid (hd.data.toList = (partsE 32 (s.data.toList ++ [32])).headD []) := by
          have h1 : partsE 32 (s.data.toList ++ [32]) = hd.data.toList :: tl.map dl := HP.out.eq.symm
          show _ = _
          rw [h1]; rfl
        have HLL : Hid (L.length = (partsE 32 (s.data.toList ++ [32])).tail.length) := by
          have h1 : partsE 32 (s.data.toList ++ [32]) = hd.data.toList :: tl.map dl := HP.out.eq.symm
          show _ = _
          rw [h1, ← hL]; simp
        rw [hL] at HO
        obtain ⟨va, vc, rfl, _⟩ := owns_shape HO.out
        have HKW := hide (HK1.out.trans HKr.out)
        have hc0 : wr.cell? ⟨g, 0, none⟩ = some (.string hd) := by have h1 := HW.out 0 (by simp); exact HKr.out.cell (by simpa using h1)
        have hLl2 : va = none → L = [] := by
          intro h
          subst h
          obtain ⟨a', c', e1, _⟩ := owns_shape HO.out
          rcases HO.out.2 with ⟨_, h0⟩ | ⟨g', c'', cu, h1, _⟩
          · exact List.length_eq_zero_iff.1 h0
          · injection h1 with h2; cases h2
        have HOL : Hid (∀ k, (Value.slice va L.length vc).ownBlock = some k → k < wr.heap.size) := fun k hk => (HO.out.lt k hk).2
        have HKA := hide (Keeps.alloc (Keeps.refl wr) (.cells #[.int .i64 0, .int .i64 0, .int .i64 0, .int .i64 0, .int .i64 0, .int .i64 0, .int .i64 0, .bool false, .slice none 0 0, .int .i64 0, .int .i64 0, .int .i64 0, .int .i64 0, .int .i64 0] 33))
        have HRX := hide (row_14 wr 33 (.int .i64 0) (.int .i64 0) (.int .i64 0) (.int .i64 0) (.int .i64 0) (.int .i64 0) (.int .i64 0) (.bool false) (.slice none 0 0) (.int .i64 0) (.int .i64 0) (.int .i64 0) (.int .i64 0) (.int .i64 0))
        have HRT := hide (Keeps.rowV (HKr.out.trans HKA.out) HR1.out)
        have HOX := hide (owns_keepI HO.out HKA.out)
        have HKX := hide (HKW.out.trans HKA.out)
        have hcx := HKA.out.cell hc0
        have hXB : w.heap.size ≠ wr.heap.size := by have h1 := HZ1.out; have h2 := HKr.out.size; omega
        have HXL : Hid (w1.heap.size ≤ wr.heap.size) := HKr.out.size
        clear hL hc0 HO HKr HW HSZ HOF HR1 HK1 HKW HP hLl2 hk hlt qs
        go_upto_region 10 with fail
        have hXs : wr.heap.size + 1 ≤ (wr.alloc (.cells #[.int .i64 0, .int .i64 0, .int .i64 0, .int .i64 0, .int .i64 0, .int .i64 0, .int .i64 0, .bool false, .slice none 0 0, .int .i64 0, .int .i64 0, .int .i64 0, .int .i64 0, .int .i64 0] 33)).heap.size := by simp
        generalize wr.alloc (.cells #[.int .i64 0, .int .i64 0, .int .i64 0, .int .i64 0, .int .i64 0, .int .i64 0, .int .i64 0, .bool false, .slice none 0 0, .int .i64 0, .int .i64 0, .int .i64 0, .int .i64 0, .int .i64 0] 33) = wX at *
        generalize wr.heap.size = X at *
        have x0 := (HRX.out).cell (i := 0) (by decide)
        have x1 := (HRX.out).cell (i := 1) (by decide)
        have x2 := (HRX.out).cell (i := 2) (by decide)
        have x3 := (HRX.out).cell (i := 3) (by decide)
        have x4 := (HRX.out).cell (i := 4) (by decide)
        have x5 := (HRX.out).cell (i := 5) (by decide)
        have x6 := (HRX.out).cell (i := 6) (by decide)
        have x7 := (HRX.out).cell (i := 7) (by decide)
        have x8 := (HRX.out).cell (i := 8) (by decide)
        have x9 := (HRX.out).cell (i := 9) (by decide)
        have x10 := (HRX.out).cell (i := 10) (by decide)
        have x11 := (HRX.out).cell (i := 11) (by decide)
        have x12 := (HRX.out).cell (i := 12) (by decide)
        have x13 := (HRX.out).cell (i := 13) (by decide)
        have xf0 := (HRX.out).frozen 0
        have xf1 := (HRX.out).frozen 1
        have xf2 := (HRX.out).frozen 2
        have xf3 := (HRX.out).frozen 3
        have xf4 := (HRX.out).frozen 4
        have xf5 := (HRX.out).frozen 5
        have xf6 := (HRX.out).frozen 6
        have xf7 := (HRX.out).frozen 7
        have xf8 := (HRX.out).frozen 8
        have xf9 := (HRX.out).frozen 9
        have xf10 := (HRX.out).frozen 10
        have xf11 := (HRX.out).frozen 11
        have xf12 := (HRX.out).frozen 12
        have xf13 := (HRX.out).frozen 13
        have xl := (HRX.out).lt
        simp at x0 x1 x2 x3 x4 x5 x6 x7 x8 x9 x10 x11 x12 x13
        have HOLX := hide HOL.out
        clear HOL
        cases h1 : (hd.toList == [116, 97, 107, 101])
        rotate_left
        · have HLW : Hid (hd.data.toList = wTake) := list_yes h1
          exact absurd (HLW.out.symm.trans (HDW.out.trans HH.out)) (by decide)
        have H1 : Hid (¬ hd.data.toList = wTake) := list_no h1
        cases h2 : (hd.toList == [115, 121, 110, 99])
        rotate_left
        · have HLW : Hid (hd.data.toList = wSync) := list_yes h2
          exact absurd (HLW.out.symm.trans (HDW.out.trans HH.out)) (by decide)
        have H2 : Hid (¬ hd.data.toList = wSync) := list_no h2
        cases h4 : (hd.toList == [115, 116, 97, 114, 116])
        rotate_left
        · have HLW : Hid (hd.data.toList = wStart) := list_yes h4
          go_upto_region 26 with fail
          clear x0 x1 x2 x3 x4 x5 x6 x7 x8 x9 x10 x11 x12 x13 xf0 xf1 xf2 xf3 xf4 xf5 xf6 xf7 xf8 xf9 xf10 xf11 xf12 xf13 xl
          have ht5 : Turn [X] wX (wX.setCell ⟨X, 0, none⟩ (.int .i64 4)) := (Turn.set (by simp) _)
          obtain ⟨D, hDe⟩ : ∃ D : Stp, D = ⟨4, noE, [], noR⟩ := ⟨_, rfl⟩
          have HR5 : Hid ((wX.setCell ⟨X, 0, none⟩ (.int .i64 4)).rowIs X 33 14 (stRow D none 0)) := ((HRX.out.set 0 (.int .i64 4))).congr (fun j hj => by
            rw [hDe]
            match j, hj with
            | 0, _ => simp [stRow, noE, noR]
            | 1, _ => simp [stRow, noE, noR]
            | 2, _ => simp [stRow, noE, noR]
            | 3, _ => simp [stRow, noE, noR]
            | 4, _ => simp [stRow, noE, noR]
            | 5, _ => simp [stRow, noE, noR]
            | 6, _ => simp [stRow, noE, noR]
            | 7, _ => simp [stRow, noE, noR]
            | 8, _ => simp [stRow, noE, noR]
            | 9, _ => simp [stRow, noE, noR]
            | 10, _ => simp [stRow, noE, noR]
            | 11, _ => simp [stRow, noE, noR]
            | 12, _ => simp [stRow, noE, noR]
            | 13, _ => simp [stRow, noE, noR]
            | m + 14, hj => exact absurd hj (by omega))
          have HRT5 := hide (row_turn HRT.out ht5 hXB)
          have HK5 := hide (turn_keeps HKX.out ht5 (fun b hb => by have h1 := HXL.out; have h2 := HZ1.out; simp at hb; omega))
          have HO5 : Hid (OwnsI (wX.setCell ⟨X, 0, none⟩ (.int .i64 4)) w1.heap.size (.slice none D.ks.length 0) D.ks) := by rw [hDe]; exact owns_zero _ _
          have HX5 : Hid (saidM s.data.toList = D) := by show _ = _; rw [hDe]; exact by rw [HSD.out, HLW.out, saidS_4]
          have HKL5 : Hid (D.ks.length ≤ 1048576) := by show _ ≤ _; rw [hDe]; exact by simp
          generalize (wX.setCell ⟨X, 0, none⟩ (.int .i64 4)) = W5 at *
          clear ht5 hDe
          have HUm : Hid (∀ D2, stpB D2 = true → stT D2 = s.data.toList → D2 = D) := fun D2 h1 h2 => by rw [← HX5.out, ← h2]; exact (saidM_eq h1).symm
          have c0 := HR5.out.cell (i := 0) (by decide)
          have c1 := HR5.out.cell (i := 1) (by decide)
          have c2 := HR5.out.cell (i := 2) (by decide)
          have c3 := HR5.out.cell (i := 3) (by decide)
          have c4 := HR5.out.cell (i := 4) (by decide)
          have c5 := HR5.out.cell (i := 5) (by decide)
          have c6 := HR5.out.cell (i := 6) (by decide)
          have c7 := HR5.out.cell (i := 7) (by decide)
          have c8 := HR5.out.cell (i := 8) (by decide)
          have c9 := HR5.out.cell (i := 9) (by decide)
          have c10 := HR5.out.cell (i := 10) (by decide)
          have c11 := HR5.out.cell (i := 11) (by decide)
          have c12 := HR5.out.cell (i := 12) (by decide)
          have c13 := HR5.out.cell (i := 13) (by decide)
          simp [stRow] at c0 c1 c2 c3 c4 c5 c6 c7 c8 c9 c10 c11 c12 c13
          have HS := hide (steps_spec D none 0 W5 (owns_cells HO5.out) HKL5.out)
          clear HX5 HR5
          have HS0 : Hid (s.data.toList ≠ []) := HNE.out (by rw [HLW.out]; simp [wTake, wSync, wCrash, wStart, wTurn])
          have hse := str_none HS0.out
          go_wp2_with fail
          refine HS.out.mono ?_
          rintro x w6 ⟨rfl, hk6⟩
          have HK6 := hide (HK5.out.trans hk6)
          have HRT6 := hide (Keeps.rowV hk6 HRT5.out)
          have HO6 := hide (owns_keepI HO5.out hk6)
          have hcl := Keeps.cells14 hk6 c0 c1 c2 c3 c4 c5 c6 c7 c8 c9 c10 c11 c12 c13
          clear hk6 HK5 HRT5 HO5 HS c0 c1 c2 c3 c4 c5 c6 c7 c8 c9 c10 c11 c12 c13
          obtain ⟨c0, c1, c2, c3, c4, c5, c6, c7, c8, c9, c10, c11, c12, c13⟩ := hcl
          by_cases ht : stL D = s.data.toList
          · have HV := hide (stL_nil (fun h => unhide HS0 (ht.symm.trans h)))
            rw [bytes_eq ht]
            have HTT := hide ((stL_yes HV.out).symm.trans ht)
            clear ht
            have r0 := (HRT6.out).cell (i := 0) (by decide)
            have r1 := (HRT6.out).cell (i := 1) (by decide)
            have r2 := (HRT6.out).cell (i := 2) (by decide)
            have r3 := (HRT6.out).cell (i := 3) (by decide)
            have r4 := (HRT6.out).cell (i := 4) (by decide)
            have r5 := (HRT6.out).cell (i := 5) (by decide)
            have r6 := (HRT6.out).cell (i := 6) (by decide)
            have r7 := (HRT6.out).cell (i := 7) (by decide)
            have r8 := (HRT6.out).cell (i := 8) (by decide)
            have r9 := (HRT6.out).cell (i := 9) (by decide)
            have r10 := (HRT6.out).cell (i := 10) (by decide)
            have r11 := (HRT6.out).cell (i := 11) (by decide)
            have r12 := (HRT6.out).cell (i := 12) (by decide)
            have r13 := (HRT6.out).cell (i := 13) (by decide)
            have rf0 := (HRT6.out).frozen 0
            have rf1 := (HRT6.out).frozen 1
            have rf2 := (HRT6.out).frozen 2
            have rf3 := (HRT6.out).frozen 3
            have rf4 := (HRT6.out).frozen 4
            have rf5 := (HRT6.out).frozen 5
            have rf6 := (HRT6.out).frozen 6
            have rf7 := (HRT6.out).frozen 7
            have rf8 := (HRT6.out).frozen 8
            have rf9 := (HRT6.out).frozen 9
            have rf10 := (HRT6.out).frozen 10
            have rf11 := (HRT6.out).frozen 11
            have rf12 := (HRT6.out).frozen 12
            have rf13 := (HRT6.out).frozen 13
            have rl := (HRT6.out).lt
            simp at r0 r1 r2 r3 r4 r5 r6 r7 r8 r9 r10 r11 r12 r13
            go_wp2_with fail
            obtain ⟨⟨o0, o1, o2, o3, o4, o5, o6, o7, o8, o9, o10, o11, o12, o13⟩, hkF, htF, _⟩ := set_14 (HRT6.out) (HK6.out) (HB.out) (.int .i64 D.k) (.int .i64 D.e.k) (.int .i64 D.e.y) (.int .i64 D.e.c) (.int .i64 D.e.t) (.int .i64 D.e.m) (.int .i64 D.e.f) (.bool D.e.b) (.slice none D.ks.length 0) (.int .i64 D.r.lo) (.int .i64 D.r.hi) (.int .i64 D.r.st) (.int .i64 D.r.mi) (.int .i64 D.r.ma)
            have hOF := owns_turnB HO6.out htF HZ1.out
            refine bodyPost_ret (v := .tuple #[.agg #[.int .i64 D.k, .int .i64 D.e.k, .int .i64 D.e.y, .int .i64 D.e.c, .int .i64 D.e.t, .int .i64 D.e.m, .int .i64 D.e.f, .bool D.e.b, .slice none D.ks.length 0, .int .i64 D.r.lo, .int .i64 D.r.hi, .int .i64 D.r.st, .int .i64 D.r.mi, .int .i64 D.r.ma], .bool true]) ?_ rfl ⟨.inl ⟨D, none, 0, HV.out, HTT.out, rfl, owns_base hOF (by have := HZ1.out; omega)⟩, hkF⟩
            clear hkF htF hOF r0 r1 r2 r3 r4 r5 r6 r7 r8 r9 r10 r11 r12 r13 rf0 rf1 rf2 rf3 rf4 rf5 rf6 rf7 rf8 rf9 rf10 rf11 rf12 rf13 rl
            revert o0 o1 o2 o3 o4 o5 o6 o7 o8 o9 o10 o11 o12 o13
            generalize World.setCell (World.setCell _ _ _) _ _ = WW
            intro o0 o1 o2 o3 o4 o5 o6 o7 o8 o9 o10 o11 o12 o13
            simp [results, Tryz.results21, go_sem, o0, o1, o2, o3, o4, o5, o6, o7, o8, o9, o10, o11, o12, o13]
          · have hne := str_ne ht
            have HTN := hide (fun h => ht h)
            clear ht
            have r0 := (HRT6.out).cell (i := 0) (by decide)
            have r1 := (HRT6.out).cell (i := 1) (by decide)
            have r2 := (HRT6.out).cell (i := 2) (by decide)
            have r3 := (HRT6.out).cell (i := 3) (by decide)
            have r4 := (HRT6.out).cell (i := 4) (by decide)
            have r5 := (HRT6.out).cell (i := 5) (by decide)
            have r6 := (HRT6.out).cell (i := 6) (by decide)
            have r7 := (HRT6.out).cell (i := 7) (by decide)
            have r8 := (HRT6.out).cell (i := 8) (by decide)
            have r9 := (HRT6.out).cell (i := 9) (by decide)
            have r10 := (HRT6.out).cell (i := 10) (by decide)
            have r11 := (HRT6.out).cell (i := 11) (by decide)
            have r12 := (HRT6.out).cell (i := 12) (by decide)
            have r13 := (HRT6.out).cell (i := 13) (by decide)
            have rf0 := (HRT6.out).frozen 0
            have rf1 := (HRT6.out).frozen 1
            have rf2 := (HRT6.out).frozen 2
            have rf3 := (HRT6.out).frozen 3
            have rf4 := (HRT6.out).frozen 4
            have rf5 := (HRT6.out).frozen 5
            have rf6 := (HRT6.out).frozen 6
            have rf7 := (HRT6.out).frozen 7
            have rf8 := (HRT6.out).frozen 8
            have rf9 := (HRT6.out).frozen 9
            have rf10 := (HRT6.out).frozen 10
            have rf11 := (HRT6.out).frozen 11
            have rf12 := (HRT6.out).frozen 12
            have rf13 := (HRT6.out).frozen 13
            have rl := (HRT6.out).lt
            simp at r0 r1 r2 r3 r4 r5 r6 r7 r8 r9 r10 r11 r12 r13
            go_wp2_with fail
            obtain ⟨⟨o0, o1, o2, o3, o4, o5, o6, o7, o8, o9, o10, o11, o12, o13⟩, hkF, htF, _⟩ := set_14 (HRT6.out) (HK6.out) (HB.out) (.int .i64 0) (.int .i64 0) (.int .i64 0) (.int .i64 0) (.int .i64 0) (.int .i64 0) (.int .i64 0) (.bool false) (.slice none 0 0) (.int .i64 0) (.int .i64 0) (.int .i64 0) (.int .i64 0) (.int .i64 0)
            refine bodyPost_ret (v := .tuple #[.agg #[.int .i64 0, .int .i64 0, .int .i64 0, .int .i64 0, .int .i64 0, .int .i64 0, .int .i64 0, .bool false, .slice none 0 0, .int .i64 0, .int .i64 0, .int .i64 0, .int .i64 0, .int .i64 0], .bool false]) ?_ rfl ⟨.inr ⟨fun D2 h1 h2 => unhide HTN (by rw [← HUm.out D2 h1 h2, stL_yes h1]; exact h2), rfl⟩, hkF⟩
            clear hkF htF r0 r1 r2 r3 r4 r5 r6 r7 r8 r9 r10 r11 r12 r13 rf0 rf1 rf2 rf3 rf4 rf5 rf6 rf7 rf8 rf9 rf10 rf11 rf12 rf13 rl
            revert o0 o1 o2 o3 o4 o5 o6 o7 o8 o9 o10 o11 o12 o13
            generalize World.setCell (World.setCell _ _ _) _ _ = WW
            intro o0 o1 o2 o3 o4 o5 o6 o7 o8 o9 o10 o11 o12 o13
            simp [results, Tryz.results21, go_sem, o0, o1, o2, o3, o4, o5, o6, o7, o8, o9, o10, o11, o12, o13]
        have H4 : Hid (¬ hd.data.toList = wStart) := list_no h4
        exact absurd (HDW.out.trans HH.out) H4.out
end Go.Proofs.YtkgpoghoilffhaaGreatDoor
namespace Go.Proofs.YtkgpoghoilffhaaGreatDoor
open Go.RowKit Go.Deep
theorem textstep_spec (s : ByteArray) (w : World) (hs : s.size ≤ 1048576) :
    Calls Tryz.prog 21 #[.string s] w fun e w' => TsPost s w w' e ∧ Keeps w w' := by
  by_cases h1 : (partsE 32 (s.data.toList ++ [32])).headD [] = wTake
  · exact textstep_specB s w hs h1
  by_cases h2 : (partsE 32 (s.data.toList ++ [32])).headD [] = wSync
  · exact textstep_specA s w hs h2
  by_cases h4 : (partsE 32 (s.data.toList ++ [32])).headD [] = wStart
  · exact textstep_specG s w hs h4
  by_cases h3 : (partsE 32 (s.data.toList ++ [32])).headD [] = wCrash
  · exact textstep_specE s w hs h3
  by_cases h5 : (partsE 32 (s.data.toList ++ [32])).headD [] = wTurn
  · by_cases h6 : (partsE 32 (s.data.toList ++ [32])).tail.length = 5
    · exact textstep_specC s w hs ⟨h5, h6⟩
    · exact textstep_specD s w hs ⟨h5, h6⟩
  · exact textstep_specF s w hs ⟨h1, h2, h4, h3, h5⟩
end Go.Proofs.YtkgpoghoilffhaaGreatDoor
namespace Go.Proofs.YtkgpoghoilffhaaGreatDoor
open Go.RowKit Go.Deep
set_option linter.unusedVariables false
set_option linter.unusedSimpArgs false
set_option maxRecDepth 10000
theorem quiet_emptyS {s : ByteArray} (h : s = ⟨#[]⟩) : quietL s.data.toList = true := by subst h; rfl
theorem quiet_atS {s : ByteArray} (h : 0 < s.size) : quietL s.data.toList = decide (((s[0]'h).toNat : Int) = 35) := by
  obtain ⟨⟨l⟩⟩ := s
  cases l with
  | nil => exact absurd h (by simp [ByteArray.size])
  | cons c r =>
    show decide (c = 35) = decide ((c.toNat : Int) = 35)
    by_cases h : c = 35
    · subst h; rfl
    · rw [decide_eq_false h, decide_eq_false (fun e => h (UInt8.toNat_inj.1 (by have h35 : (35 : UInt8).toNat = 35 := rfl; omega)))]
theorem size_pos {s : ByteArray} (h0 : s ≠ ⟨#[]⟩) : 0 < s.size := by
  rcases Nat.eq_zero_or_pos s.size with h | h
  · exact absurd (ByteArray.ext (Array.eq_empty_of_size_eq_zero h)) h0
  · exact h
theorem list_ne {s : ByteArray} (h0 : s ≠ ⟨#[]⟩) : s.data.toList ≠ [] := fun e => h0 (ByteArray.ext (by simpa using e))
set_option maxHeartbeats 2000000 in
theorem quiet_spec (s : ByteArray) (w : World) : Calls Tryz.prog 20 #[.string s] w fun e w' => e = .returned (.bool (quietL s.data.toList)) ∧ Keeps w w' := by
  go_enter Tryz.func20, Tryz.ntmps20
  by_cases h0 : s = ⟨#[]⟩
  · have hq := quiet_emptyS h0
    subst h0
    go_wp2_with fail
    go_ret
    exact ⟨rfl, Keeps.refl _⟩
  · have hpos := size_pos h0
    have hq := quiet_atS hpos
    have hd := list_ne h0
    have hse := str_none hd
    have hne : ¬ s.toList = [] := by rw [toList_data]; exact hd
    have hie : s.toList.isEmpty = false := by simpa using hne
    rw [hq]
    clear hq hd
    go_wp2_with fail
    go_ret
    refine ⟨?_, Keeps.refl _⟩
    congr 2
theorem slice_upto (g n m cap : Nat) (h : n ≤ cap) : ∀ w, (Instr.slice 46 (.slice (some ⟨g, 0, none⟩) m cap) none (some (.int .i64 (n : Int))) none).run Tryz.prog w = .ok (.slice (some ⟨g, 0, none⟩) n cap) w := fun w => by
  have hu : Tryz.prog.underlying 46 = some (.slice (Tryz.prog.elem 46)) := by kernel_rfl
  have hz : ∀ w, (sizeOf (Tryz.prog.elem 46)).run Tryz.prog w = .ok 1 w := fun w => by kernel_rfl
  rw [run_slice_h w _ _ _ _ hu .i64 (n : Int) (by omega) (by omega), hz]
  simp [Result.andThen, sliced, Addr.add]
/-- A script's lines, without an empty last one. -/
def LnPost (s : ByteArray) (w w' : World) (e : Ending) : Prop :=
  ∃ (g cap : Nat) (ws : List ByteArray), e = .returned (.slice (some ⟨g, 0, none⟩) ws.length cap) ∧ Wds w' g 0 ws ∧ w.heap.size ≤ g ∧ (∀ out, scr 0 out (ws.map dl) = scr 0 out (partsE 10 (s.data.toList ++ [10]))) ∧ (∀ x ∈ ws, x.size ≤ s.size) ∧ ws.length ≤ s.size + 1 ∧ Keeps w w'
set_option maxHeartbeats 2000000 in
theorem lines_spec (s : ByteArray) (w : World) (hs : s.size ≤ 1048576) : Calls Tryz.prog 19 #[.string s] w fun e w' => LnPost s w w' e := by
  have HQ := hide (parts_e 10 s w hs)
  go_enter Tryz.func19, Tryz.ntmps19
  go_wp2_with fail
  refine (unhide HQ).mono ?_
  rintro x w1 ⟨v, ws, rfl, ho, hp, hk1⟩
  obtain ⟨g, cap, rfl, hcap, hg, hws⟩ := str_cells ho hp.ne
  have HP := hide hp
  have HK := hide hk1
  have HG := hide hg
  have HW := hide hws
  rcases List.eq_nil_or_concat ws with h | ⟨A, y, e⟩
  · exact absurd h hp.ne
  · rw [List.concat_eq_append] at e
    subst e
    have hla : A.length ≤ 1048576 := by have := hp.len; simp at this; omega
    have c0 := hws A.length (by simp)
    rw [Nat.zero_add] at c0
    have hyl : (A ++ [y])[A.length]'(by simp) = y := by simp
    rw [hyl] at c0
    have hcap1 : A.length + 1 ≤ cap := by simpa using hcap
    have hLen : (((A ++ [y]).length : Nat) : Int) = (A.length : Int) + 1 := by simp
    clear hws ho hp hk1 hg hcap HQ hyl
    have hN : ((((A.length + 1 : Nat) : Int) - 1)) = (A.length : Int) := by omega
    have hL1 : (A ++ [y]).length = A.length + 1 := by simp
    have hP1 : ((A.length + 1 : Nat) : Int) = (A.length : Int) + 1 := by omega
    have hP2 : (A.length : Int) + 1 - 1 = (A.length : Int) := by omega
    rw [hL1]
    have qs := slice_upto g A.length (A.length + 1) cap (by omega)
    by_cases hy : y.data.toList = []
    · have hse := str_some hy
      have hie : y.toList.isEmpty = true := by simpa using hse
      have hye : y.toList = [] := by simpa using hse
      go_wp2_with fail
      go_ret
      refine ⟨g, cap, A, rfl, fun i hi => ?_, HG.out, fun out => ?_, fun x hx => HP.out.size x (List.mem_append_left _ hx), by have := HP.out.len; simp at this; omega, HK.out⟩
      · have := HW.out i (by simp; omega)
        rw [List.getElem_append_left hi] at this
        exact this
      · have h1 : partsE 10 (s.data.toList ++ [10]) = A.map dl ++ [[]] := by
          have h2 := HP.out.eq
          rw [List.map_append] at h2
          rw [show s.data.toList = dl s from rfl, ← h2, List.map_singleton, show dl y = [] from hy]
        rw [h1, scr_last]
    · have hse := str_none hy
      have hne : ¬ y.toList = [] := by rw [toList_data]; exact hy
      have hie : y.toList.isEmpty = false := by simpa using hne
      go_wp2_with fail
      go_ret
      refine ⟨g, cap, A ++ [y], by rw [hL1]; rfl, HW.out, HG.out, fun out => ?_, HP.out.size, HP.out.len, HK.out⟩
      rw [HP.out.eq]; rfl
theorem own_apart {α : Type} {T : TypeId} {sz : Nat} {f : α → List Value} {sg : α → List Seg} {w0 w : World} {a : Option Addr} {n c : Nat} {nb : List α} (h : LH T sz f sg w0 w (.slice a n c) nb) {xs : List Value} {b : Nat} (hb : b ∈ fp [(a, xs)]) : b ∉ fp (nb.flatMap sg) := by
  rw [fp_one] at hb
  cases a with
  | none => unfold fpS at hb; split at hb <;> simp at hb
  | some p =>
    rcases h.row.2 with ⟨e, _⟩ | ⟨g, cap, cur, e, _⟩
    · exact nomatch e
    · injection e with e1 _ _
      injection e1 with e1
      subst e1
      have : b = g := by
        unfold fpS at hb
        split at hb <;> simp at hb
        exact hb
      subst this
      exact h.apart b rfl
set_option maxHeartbeats 8000000 in
theorem readscript_spec (s : ByteArray) (w : World) (hs : s.size ≤ 1048576) :
    Calls Tryz.prog 7 #[.string s] w fun e w' => ScPost s w w' e := by
  by_cases hlong : 8000 < s.size
  · have HR := hide (sc_none (s := s) (w' := w) (k := 1) (scrL_long (by simpa using hlong)) (by decide) (Keeps.refl w))
    go_enter Tryz.func7, Tryz.ntmps7
    go_wp2_with fail
    go_ret2
    exact HR.out
  · have HR := hide (scrL_at (l := s.data.toList) (by simpa using hlong))
    have HK0 := hide (Keeps.alloc (Keeps.refl w) (.cells #[] 33))
    have HO0 : Hid ((w.alloc (.cells #[] 33)).ownsRow w.heap.size 33 14 (.slice (some ⟨w.heap.size, 0, none⟩) 0 0) 0 []) := World.ownsRow_made (base := w.heap.size) (e := 33) (size := 14) w #[] 0 (Nat.le_refl _) (by decide) rfl
    have HZ0 : Hid ((w.alloc (.cells #[] 33)).heap.size = w.heap.size + 1) := by show _ = _; simp
    have hs8 : s.size ≤ 8000 := by omega
    go_enter Tryz.func7, Tryz.ntmps7
    go_wp2_with fail
    generalize w.alloc (.cells #[] 33) = W0 at *
    refine (lines_spec s W0 hs).mono ?_
    rintro e w1 ⟨g, cap, ws, rfl, hws, hg, hscr, hsz, hlen, hk1⟩
    have HWS := hide hws
    have HSZ := hide hsz
    have HG : Hid (w.heap.size < g) := by have := HZ0.out; show _ < _; omega
    have HSC := hide ((hscr []).trans HR.out.symm)
    have HL0 := hide (LH.nil 33 14 Ms.cells (fun x => [x.seg]) HO0.out HK0.out |>.kept hk1)
    have hwl : ws.length ≤ 8001 := by omega
    clear hws hg hscr hsz hlen hk1 HO0 HK0 HR
    go_wp2_with fail
    go_loopw [4, 16] (fun v y wr => ∃ (i : Nat) (ms : List Ms), i ≤ ws.length ∧ y = .int .i64 (i : Int) ∧ Hid (LH 33 14 Ms.cells (fun x => [x.seg]) w wr v ms) ∧ Hid (∀ b, v.ownBlock = some b → b ≠ g) ∧ Hid (Wds wr g 0 ws) ∧ Hid (scr i (ms.map Ms.D) ((ws.drop i).map dl) = scrL s.data.toList) ∧ Hid (ms.length ≤ 300)) (fun _ y _ => ws.length - (intOf y).toNat)
    case atStart => exact ⟨0, [], by omega, rfl, HL0.out, fun b hb => by have := HG.out; simp [Value.ownBlock] at hb; omega, HWS, by show _ = _; simpa using HSC.out, by show _ ≤ _; simp⟩
    case round =>
      obtain ⟨i, ms, hi, rfl, HL, HB, HW, HS, H3⟩ := hrel
      by_cases hlt : i < ws.length
      · have c0 := HW.out i hlt
        rw [Nat.zero_add] at c0
        have HDr := hide (List.drop_eq_getElem_cons hlt)
        rw [HDr.out, List.map_cons] at HS
        have hsl := HSZ.out ws[i] (List.getElem_mem hlt)
        generalize ws[i] = l at *
        have HQ := hide (fun w' => textstep_spec l w' (by omega))
        go_wp2_with fail
        refine (quiet_spec l wr).mono ?_
        rintro e w2 ⟨rfl, hk2⟩
        have HK2 := hide hk2
        clear hk2 c0
        cases hq : quietL l.data.toList
        · go_wp2_with fail
          refine (unhide HQ _).mono ?_
          rintro x w3 ⟨hp, hk3⟩
          obtain ⟨D, a, c, ok, rfl, hb, hqs⟩ := ts_form hp
          obtain ⟨hD, hok⟩ := tsq_fun hqs
          have HBB := hide hb
          have HK3 := hide (HK2.out.trans hk3)
          have HKz := hide hk3
          clear hp hqs hb hk3 HQ
          cases ok
          · have HR2 : Hid (scrL s.data.toList = ([], i + 1)) := HS.out.symm.trans (scr_bad (l := dl l) hq (Or.inl hok.symm))
            clear hok hD hq
            go_wp2_with fail
            go_ret2
            exact sc_none (k := (i : Int) + 1) (by rw [HR2.out]; congr 1) (by omega) (HL.out.keeps.trans (HK3.out.trans (Keeps.alloc (Keeps.refl _) _)))
          · have HS2 := hide (fun h300 : ms.length ≠ 300 => (scr_step (i := i) (out := ms.map Ms.D) (l := dl l) (r := (ws.drop (i + 1)).map dl) hq hok.symm (by simpa using h300)).symm.trans HS.out)
            have HS3 := hide (fun h300 : ms.length = 300 => HS.out.symm.trans (scr_bad (i := i) (out := ms.map Ms.D) (l := dl l) (r := (ws.drop (i + 1)).map dl) hq (Or.inr (by simpa using h300))))
            rw [show tsD (dl l) = D from hD.symm] at HS2
            clear hok hD hq
            obtain ⟨va, vc, hv, _⟩ := Born.of_owns HL.out.row
            by_cases h300 : ms.length = 300
            · have HR2 := hide (HS3.out h300)
              have hi300 : (((ms.length : Nat) : Int) == 300) = true := by simp; omega
              subst hv
              go_wp2_with fail
              go_ret2
              exact sc_none (k := (i : Int) + 1) (by rw [HR2.out]; congr 1) (by omega) (HL.out.keeps.trans (HK3.out.trans (Keeps.alloc (Keeps.refl _) _)))
            · have HS4 := hide (HS2.out h300)
              have hi300 : (((ms.length : Nat) : Int) == 300) = false := by simp; omega
              have HA1 := hide (Keeps.alloc (Keeps.refl w3) (.cells (D.cells a c) 33))
              have HA2 := hide (Keeps.alloc (Keeps.refl (w3.alloc (.cells (D.cells a c) 33))) (.cells (D.cells a c) 33))
              have HKA := hide (HK3.out.trans HA1.out)
              have hlm : ms.length ≤ 1048576 := by have := H3.out; omega
              have hcx : ∀ j u, (Ms.mk D a c).cells[j]? = some u → ((w3.alloc (.cells (D.cells a c) 33)).alloc (.cells (D.cells a c) 33)).cell? ((⟨w3.heap.size + 1, 0, none⟩ : Addr).add j) = some u := by
                have hF : Own ((w3.alloc (.cells (D.cells a c) 33)).alloc (.cells (D.cells a c) 33)) [(some ⟨(w3.alloc (.cells (D.cells a c) 33)).heap.size, 0, none⟩, (Ms.mk D a c).cells)] := own_fresh (w3.alloc (.cells (D.cells a c) 33)) (Ms.mk D a c).cells 33
                rw [World.size_alloc] at hF
                intro j u hj
                rcases hF.one with hc | ⟨b, off, e, hc⟩
                · exact absurd hc (by simp [Ms.cells])
                · injection e with e
                  injection e with e1 e2 _
                  subst e1 e2
                  obtain ⟨hlt, rfl⟩ := List.getElem?_eq_some_iff.1 hj
                  have h2 := hc j hlt
                  rw [Nat.zero_add] at h2
                  rw [addr_add0]
                  exact h2
              obtain ⟨v7, w7, hr7, ho7, hg7, hv7⟩ := run_step _ w.heap.size u4 ms.length (mcells ms) (Ms.mk D a c) ⟨w3.heap.size + 1, 0, none⟩ 1 hcx 24 (owns_keptZ (owns_keptZ (owns_keptZ HL.out.row HK3.out) HA1.out) HA2.out) hlm (by rw [World.size_alloc, World.size_alloc]; have := HL.out.keeps.size; have := HK3.out.size; omega)
              have HR7 := hide hr7
              have HL7 := hide (HL.out.snoc (x := Ms.mk D a c) HKA.out (HBB.out.toOwn.kept HA1.out) (fun b hb => by have := HBB.out.new b hb; have := HK2.out.size; omega) hg7 ho7 hv7)
              have HW7 : Hid (Wds w7 g 0 ws) := fun k hk => by
                have h1 := HA2.out.cell (HA1.out.cell (HK3.out.cell (HW.out k hk)))
                have ht : Turn u4.ownBlock.toList ((w3.alloc (.cells (D.cells a c) 33)).alloc (.cells (D.cells a c) 33)) w7 := Turn.of_grown hg7 (fun k hk' => by rw [hk']; simp)
                exact ht.cell (fun hb' => HB.out g (by simpa using hb') rfl) h1
              have HGW : Hid (g < w3.heap.size) := by
                have h1 := HW.out i hlt
                have h2 := lt_of_cell h1
                have := HK3.out.size
                have h3 : g < wr.heap.size := h2
                show _ < _
                omega
              have HB7 : Hid (∀ b, v7.ownBlock = some b → b ≠ g) := fun b hb => by
                rcases hv7 with e | e
                · exact HB.out b (by rw [← e]; exact hb)
                · rw [e] at hb
                  have h1 := Option.some.inj hb
                  have h2 := HGW.out
                  rw [World.size_alloc, World.size_alloc] at h1
                  omega
              have HS7 : Hid (scr (i + 1) ((ms ++ [Ms.mk D a c]).map Ms.D) ((ws.drop (i + 1)).map dl) = scrL s.data.toList) := by show _ = _; rw [List.map_append]; exact HS4.out
              have H37 : Hid ((ms ++ [Ms.mk D a c]).length ≤ 300) := by have := H3.out; show _ ≤ _; simp; omega
              clear hr7 ho7 hg7 hv7 hcx HL HB HW HS HA2
              subst hv
              go_wp2_with (at_builtin; refine Lib.wpList_append_run _ rfl (.tmp 37) (.tmp 39) _ _ rfl _ _ rfl rfl v7 w7 HR7.out ?_)
              go_roundw
              case rel => exact ⟨i + 1, ms ++ [Ms.mk D a c], by omega, by go_num, HL7, HB7, HW7, HS7, H37⟩
              case measure => simp [intOf]; omega
        · have HS2 : Hid (scr (i + 1) (ms.map Ms.D) ((ws.drop (i + 1)).map dl) = scrL s.data.toList) := by show _ = _; rw [← HS.out, scr_quiet (l := dl l) hq]
          clear hq
          go_wp2_with fail
          go_roundw
          case rel => exact ⟨i + 1, ms, by omega, by go_num, HL.out.kept HK2.out, HB, HW.out.kept HK2.out, HS2, H3⟩
          case measure => simp [intOf]; omega
      · have hie : i = ws.length := by omega
        subst hie
        have HR9 : Hid (scrL s.data.toList = (ms.map Ms.D, 0)) := by
          have h1 := HS.out
          rw [List.drop_length] at h1
          exact h1.symm
        obtain ⟨va, vc, hv, _, hb⟩ := Born.of_owns HL.out.row
        have HBF := hide hb
        clear HB HW HS
        subst hv
        go_wp2_with fail
        go_ret2
        refine ⟨ms, va, vc, by rw [HR9.out]; rfl, ⟨?_, ?_⟩, by rw [HR9.out], HL.out.keeps⟩
        · have hi := HL.out.inner
          rw [flat_seg] at hi
          exact Own.append (S := [_]) HBF.out.toOwn hi.toOwn (fun b hb hb' => own_apart HL.out hb (by rw [flat_seg]; exact hb'))
        · intro b hb
          rw [fp_cons] at hb
          rcases List.mem_append.1 hb with hb | hb
          · exact HBF.out.new b (by rw [fp_one]; exact hb)
          · have hi := HL.out.inner
            rw [flat_seg] at hi
            exact hi.new b hb
end Go.Proofs.YtkgpoghoilffhaaGreatDoor
