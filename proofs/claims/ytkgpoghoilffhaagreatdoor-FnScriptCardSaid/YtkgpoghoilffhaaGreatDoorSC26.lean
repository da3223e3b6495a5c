/- Texts of the verifier, joined: TsE, SdH. -/
import Derived.Test.YtkgpoghoilffhaaGreatDoorSC25
import Derived.Deep.OwnRows
import Derived.Deep.Cut
import Derived.Test.YtkgpoghoilffhaaGreatDoorSC12
import Derived.Test.YtkgpoghoilffhaaGreatDoorSC7
import Derived.Test.YtkgpoghoilffhaaGreatDoorSC23
import Derived.Test.YtkgpoghoilffhaaGreatDoorSC24
import Derived.Test.YtkgpoghoilffhaaGreatDoorSC14
namespace Go.Proofs.YtkgpoghoilffhaaGreatDoor
open Go.RowKit Go.Deep
set_option linter.unusedVariables false
set_option linter.unusedSimpArgs false
set_option maxRecDepth 10000
theorem str_cells {w : World} {base : Nat} {v : Value} {ws : List ByteArray} (h : w.ownsRow base 9 1 v ws.length (strs ws)) (hne : ws ≠ []) : ∃ g cap, v = .slice (some ⟨g, 0, none⟩) ws.length cap ∧ ws.length ≤ cap ∧ base ≤ g ∧ Wds w g 0 ws := by
  obtain ⟨a, cap, e1, e2, e3, e4, e5, _⟩ := Own.of_owns h
  have hc := e5.one
  rcases h.2 with ⟨rfl, h0⟩ | ⟨g, c, _, rfl, hg, _⟩
  · exact absurd (List.length_eq_zero_iff.1 h0) hne
  · injection e1 with e6 e7 e8
    rw [← e6] at hc
    refine ⟨g, c, rfl, by omega, hg, fun i hi => ?_⟩
    rcases hc with hc | ⟨b, off, eb, hc⟩
    · unfold strs at hc; simp at hc; exact absurd hc hne
    · injection eb with eb
      injection eb with b1 b2
      subst b1 b2
      have := hc i (by unfold strs; simpa using hi)
      simpa [strs] using this
theorem cnt_no {h : Nat → Bool} {i : Nat} (hh : h i = false ∨ 5 ≤ i) : cntH h (min (i + 1) 5) = cntH h (min i 5) := by
  by_cases h5 : 5 ≤ i
  · rw [Nat.min_eq_right (by omega), Nat.min_eq_right h5]
  · rw [Nat.min_eq_left (by omega), Nat.min_eq_left (by omega)]
    rcases hh with hh | hh
    · simp [cntH, hh]
    · exact absurd hh h5
theorem cnt_le (h : Nat → Bool) : ∀ i, cntH h i ≤ i
  | 0 => by simp [cntH]
  | i + 1 => by
    have := cnt_le h i
    unfold cntH
    split <;> omega
theorem cnt_yes {h : Nat → Bool} {i : Nat} (hh : h i = true) (h5 : i < 5) : cntH h (min (i + 1) 5) = cntH h i + 1 ∧ cntH h (min i 5) = cntH h i := by
  rw [Nat.min_eq_left (by omega), Nat.min_eq_left (by omega)]
  simp [cntH, hh]
theorem row_no {h : Nat → Bool} {L : List (List UInt8)} {i : Nat} (hh : i < 5 → rdV h L i = 0) : ∀ j, j < 5 → (.int .i64 (if j < i then rdV h L j else 0) : Value) = .int .i64 (if j < i + 1 then rdV h L j else 0) := by
  intro j hj
  by_cases e : j = i
  · subst e
    rw [if_neg (by omega), if_pos (by omega), hh hj]
  · by_cases h1 : j < i
    · rw [if_pos h1, if_pos (by omega)]
    · rw [if_neg h1, if_neg (by omega)]
theorem row_yes {h : Nat → Bool} {L : List (List UInt8)} {i : Nat} {x : Int} (hh : rdV h L i = x) : ∀ j, j < 5 → (if j = i then (.int .i64 x : Value) else .int .i64 (if j < i then rdV h L j else 0)) = .int .i64 (if j < i + 1 then rdV h L j else 0) := by
  intro j hj
  by_cases e : j = i
  · subst e
    rw [if_pos rfl, if_pos (by omega), hh]
  · rw [if_neg e]
    by_cases h1 : j < i
    · rw [if_pos h1, if_pos (by omega)]
    · rw [if_neg h1, if_neg (by omega)]
theorem rdV_no {h : Nat → Bool} {L : List (List UInt8)} {i : Nat} (hh : h i = false ∨ L.length ≤ 1 + cntH h i) : rdV h L i = 0 := by
  unfold rdV
  rw [if_neg]
  rintro ⟨h1, h2⟩
  rcases hh with hh | hh
  · rw [hh] at h1; cases h1
  · omega
theorem rdV_yes {h : Nat → Bool} {ws : List ByteArray} {i : Nat} (hh : h i = true) (hl : 1 + cntH h i < ws.length) : rdV h (ws.map dl) i = txN (ws[1 + cntH h i]).data.toList := by
  unfold rdV
  rw [if_pos ⟨hh, by simpa using hl⟩, List.getD_eq_getElem?_getD, List.getElem?_map, List.getElem?_eq_getElem hl]
  rfl
theorem textnum_s (s : ByteArray) (w : World) (hs : s.size ≤ 1048576) :
    Calls Tryz.prog 34 #[.string s] w fun e w' => (∃ b : Bool, e = .returned (.tuple #[.int .i64 (txN s.data.toList), .bool b])) ∧ Keeps w w' := by
  refine (text_spec s w hs).mono ?_
  rintro e w' ⟨⟨v, b, hr, rfl⟩, hk⟩
  exact ⟨⟨b, by rw [res_tx hr]⟩, hk⟩
set_option maxRecDepth 100000 in
set_option maxHeartbeats 8000000 in
theorem te_spec (s : ByteArray) (w : World) (hs : s.size ≤ 1048576) :
    Calls Tryz.prog 35 #[.string s] w fun e w' => TePost s e ∧ Keeps w w' := by
  have hkA := Keeps.alloc (Keeps.refl w) (.cells (evCells 0 0 0 0 0 0 false) 28)
  have HR := hide (World.rowIs_alloc w (evCells 0 0 0 0 0 0 false) 28 (evRowT 0 0 0 0 0 0 false) (evT_row 0 0 0 0 0 0 false))
  have HP := hide (parts_k s (w.alloc (.cells (evCells 0 0 0 0 0 0 false) 28)) hs)
  have HK := hide hkA
  clear hkA
  go_enter Tryz.func35, Tryz.ntmps35
  go_wp2_with fail
  refine HP.out.mono ?_
  rintro x w1 ⟨v, ws, rfl, ho, hsp, hk⟩
  obtain ⟨g, cap, rfl, hcap, hg, hws⟩ := str_cells ho hsp.ne
  have HW := hide hws
  have HS := hide hsp
  replace HR := hide (HR.out.of_block (Below.block hk _ HR.out.lt))
  replace HK := hide (HK.out.trans hk)
  have hl0 : 0 < ws.length := List.length_pos_iff.2 hsp.ne
  have hcm := hcap
  have HLm : Hid (ws.length ≤ 9223372036854775807) := by
    obtain ⟨a, c, e1, e2, e3, _⟩ := Own.of_owns ho
    exact Nat.le_trans e2 (Nat.le_trans e3 (by decide))
  clear HP hk ho hsp hws
  have hkE := Keeps.alloc (Keeps.refl w1) (.cells (evCells 0 0 0 0 0 0 false) 28)
  have HE := hide (World.rowIs_alloc w1 (evCells 0 0 0 0 0 0 false) 28 (evRowT 0 0 0 0 0 0 false) (evT_row 0 0 0 0 0 0 false))
  go_wp2_with fail
  refine (words_k _).mono ?_
  rintro x w2 ⟨rfl, rfl⟩
  have hkW := Keeps.alloc (Keeps.refl (w1.alloc (.cells (evCells 0 0 0 0 0 0 false) 28))) (.cells wordsC 9)
  have HC := hide (World.rowIs_alloc (w1.alloc (.cells (evCells 0 0 0 0 0 0 false) 28)) wordsC 9 (fun i => .string ⟨(wordL i).toArray⟩) words_row)
  have HKL := hide (hkE.trans hkW)
  have HE2 := hide (HE.out.of_block (Below.block hkW _ HE.out.lt))
  rw [size_allocW] at HC
  go_wp2_with fail
  generalize ((w1.alloc (.cells (evCells 0 0 0 0 0 0 false) 28)).alloc (.cells wordsC 9)) = wL at *
  obtain ⟨x0, hx0⟩ : ∃ x0, ws[0] = x0 := ⟨_, rfl⟩
  have HX0 : Hid (w1.cell? ⟨g, 0, none⟩ = some (.string x0)) := by show _ = _; rw [← hx0]; exact HW.out 0 hl0
  clear hkE hkW HE
  go_loopw [17] (fun y wr => ∃ i : Nat, i ≤ 12 ∧ y = .int .i64 (i : Int) ∧ Hid (Keeps w1 wr) ∧ Hid (wr.rowIs w1.heap.size 28 7 (evRowT ((kk (dl x0) i : Nat) : Int) 0 0 0 0 0 false)) ∧ Hid (wr.rowIs (w1.heap.size + 1) 9 12 (fun i => .string ⟨(wordL i).toArray⟩))) (fun y _ => 12 - (intOf y).toNat)
  case atStart => exact ⟨0, by omega, rfl, HKL, HE2.out, HC.out⟩
  case round =>
    clear HKL HE2 HC
    obtain ⟨i, hi, rfl, HKr, HE, HC⟩ := hrel
    by_cases hlt : i < 12
    · have c0 := HC.out.cell (i := i) hlt
      have x0c := HKr.out.cell HX0.out
      have r0 : wr.cell? ⟨w1.heap.size, 0, none⟩ = some (.int .i64 ((kk (dl x0) i : Nat) : Int)) := HE.out.cell (i := 0) (by decide)
      have rf0 := HE.out.frozen 0
      have rl := HE.out.lt
      have HKK : Hid (kk (dl x0) (i + 1) = if 0 < i ∧ wordL i = dl x0 then i else kk (dl x0) i) := rfl
      generalize kk (dl x0) i = KI at *
      generalize wordL i = WI at *
      by_cases hz : 0 < i
      · by_cases hw : WI = dl x0
        · rw [if_pos ⟨hz, hw⟩] at HKK
          have hq : (WI == x0.toList) = true := by rw [toList_data]; exact beq_iff_eq.2 hw
          clear hw
          go_wp2_with fail
          go_roundw
          case rel => exact ⟨i + 1, by omega, by go_num, HKr.out.setCell (p := ⟨w1.heap.size, 0, none⟩) (Nat.le_refl _) _, by show World.rowIs _ _ _ _ _; rw [HKK.out]; exact (HE.out.set 0 _).congr (ev7 rfl rfl rfl rfl rfl rfl rfl), HC.out.setOther (by simp) _⟩
          case measure => simp [intOf]; omega
        · rw [if_neg (fun h => hw h.2)] at HKK
          have hq : (WI == x0.toList) = false := str_ne hw
          go_wp2_with fail
          go_roundw
          case rel => exact ⟨i + 1, by omega, by go_num, HKr, by show World.rowIs _ _ _ _ _; rw [HKK.out]; exact HE.out, HC⟩
          case measure => simp [intOf]; omega
      · rw [if_neg (fun h => hz h.1)] at HKK
        go_wp2_with fail
        go_roundw
        case rel => exact ⟨i + 1, by omega, by go_num, HKr, by show World.rowIs _ _ _ _ _; rw [HKK.out]; exact HE.out, HC⟩
        case measure => simp [intOf]; omega
    · have e : i = 12 := by omega
      subst e
      clear HC
      have HRK : Hid (kk (dl x0) 12 = rdK (ws.map dl)) := by
        show _ = _
        unfold rdK
        congr 1
        cases ws with
        | nil => simp at hl0
        | cons a r => simp at hx0; rw [← hx0]; rfl
      rw [HRK.out] at HE
      have hK11 : rdK (ws.map dl) ≤ 11 := kk_le _ 12
      obtain ⟨L, hL⟩ : ∃ L, ws.map dl = L := ⟨_, rfl⟩
      rw [hL] at HE hK11
      have hLn : L.length = ws.length := by rw [← hL]; simp
      have HL := hide hL
      clear hL HRK
      obtain ⟨KD, hKD⟩ : ∃ KD, rdK L = KD := ⟨_, rfl⟩
      rw [hKD] at HE hK11
      have HKD := hide hKD
      clear hKD
      have r0 : wr.cell? ⟨w1.heap.size, 0, none⟩ = some (.int .i64 (KD : Int)) := HE.out.cell (i := 0) (by decide)
      have hkV := Keeps.alloc (Keeps.refl wr) (.cells #[.int .i64 0, .int .i64 0, .int .i64 0, .int .i64 0, .int .i64 0] 3)
      have HV := hide (World.rowIs_alloc wr #[.int .i64 0, .int .i64 0, .int .i64 0, .int .i64 0, .int .i64 0] 3 (fun _ => .int .i64 0) five_zero)
      have r1 := hkV.cell r0
      go_wp2_with fail
      refine (has_tab hK11 _).mono ?_
      rintro x w3 ⟨rfl, rfl⟩
      have hkH := Keeps.alloc (Keeps.refl (wr.alloc (.cells #[.int .i64 0, .int .i64 0, .int .i64 0, .int .i64 0, .int .i64 0] 3))) (.cells #[.bool (hasT KD 0), .bool (hasT KD 1), .bool (hasT KD 2), .bool (hasT KD 3), .bool (hasT KD 4), .bool (hasT KD 5)] 4)
      have HH := hide ((World.rowIs_alloc (wr.alloc (.cells #[.int .i64 0, .int .i64 0, .int .i64 0, .int .i64 0, .int .i64 0] 3)) #[.bool (hasT KD 0), .bool (hasT KD 1), .bool (hasT KD 2), .bool (hasT KD 3), .bool (hasT KD 4), .bool (hasT KD 5)] 4 _ (has_row (hasT KD 0) (hasT KD 1) (hasT KD 2) (hasT KD 3) (hasT KD 4) (hasT KD 5))).congr (fun i hi => congrArg Value.bool (hasB_eq KD i hi)))
      have HV2 := hide (HV.out.of_block (Below.block hkH _ HV.out.lt))
      have HK2 := hide (hkV.trans hkH)
      rw [size_allocW] at HH
      go_wp2_with fail
      generalize ((wr.alloc (.cells #[.int .i64 0, .int .i64 0, .int .i64 0, .int .i64 0, .int .i64 0] 3)).alloc (.cells #[.bool (hasT KD 0), .bool (hasT KD 1), .bool (hasT KD 2), .bool (hasT KD 3), .bool (hasT KD 4), .bool (hasT KD 5)] 4)) = wM at *
      obtain ⟨wa, rfl⟩ : ∃ wa, wa = wr := ⟨_, rfl⟩
      clear hkV hkH HV r1
      go_loopw [9, 39] (fun o y wq => ∃ i : Nat, i ≤ 6 ∧ y = .int .i64 (i : Int) ∧ o = .int .i64 ((min (1 + cntH (hasT KD) (min i 5)) ws.length : Nat) : Int) ∧ Hid (Keeps wa wq) ∧ Hid (wq.rowIs wa.heap.size 3 5 (fun j => .int .i64 (if j < i then rdV (hasT KD) L j else 0))) ∧ Hid (wq.rowIs (wa.heap.size + 1) 4 6 (fun i => .bool (hasT KD i)))) (fun _ y _ => 6 - (intOf y).toNat)
      case atStart => exact ⟨0, by omega, rfl, by simp [cntH]; omega, HK2, HV2.out.congr (fun j hj => by simp), HH.out⟩
      case round =>
        clear HK2 HV2 HH
        obtain ⟨i, hi, rfl, rfl, HKq, HV, HH⟩ := hrel
        by_cases hlt : i < 6
        · have c0 := HH.out.cell (i := i) hlt
          cases hh : hasT KD i
          · rw [hh] at c0
            have HCn := hide (cnt_no (h := hasT KD) (i := i) (Or.inl hh))
            have HRn := hide (row_no (h := hasT KD) (L := L) (i := i) (fun _ => rdV_no (Or.inl hh)))
            clear hh
            go_wp2_with fail
            go_roundw
            case rel => exact ⟨i + 1, by omega, by go_num, by rw [HCn.out], HKq, HV.out.congr HRn.out, HH⟩
            case measure => simp [intOf]; omega
          · rw [hh] at c0
            by_cases h5 : i < 5
            · obtain ⟨q1, q2⟩ := cnt_yes hh h5
              have HCy := hide q1
              rw [q2]
              by_cases ha : 1 + cntH (hasT KD) i < ws.length
              · have hmin : min (1 + cntH (hasT KD) i) ws.length = 1 + cntH (hasT KD) i := Nat.min_eq_left (by omega)
                have wc := (HKr.out.trans HKq.out).cell (HW.out _ ha)
                have HRy : Hid (rdV (hasT KD) L i = txN (ws[1 + cntH (hasT KD) i]).data.toList) := by show _ = _; rw [← HL.out]; exact rdV_yes hh ha
                have HSz : Hid ((ws[1 + cntH (hasT KD) i]).size ≤ 1048576) := Nat.le_trans (HS.out.size _ (List.getElem_mem ha)) hs
                rw [hmin]
                have hcl := cnt_le (hasT KD) i
                generalize ws[1 + cntH (hasT KD) i] = xw at *
                generalize cntH (hasT KD) i = CN at *
                rw [Nat.zero_add] at wc
                clear hmin q1 q2 hh
                have v0 := HV.out.cell (i := i) h5
                have vf := HV.out.frozen i
                have vl := HV.out.lt
                go_wp2_with fail
                refine (textnum_s xw wr HSz.out).mono ?_
                rintro x w5 ⟨⟨b5, rfl⟩, hk5⟩
                replace v0 := hk5.cell v0
                have HV5 := hide (HV.out.of_block (Below.block hk5 _ HV.out.lt))
                have HH5 := hide (HH.out.of_block (Below.block hk5 _ HH.out.lt))
                have HK5 := hide (HKq.out.trans hk5)
                have vf5 := HV5.out.frozen i
                have vl5 := HV5.out.lt
                clear hk5 vf vl wc c0 HV HH HKq
                go_wp2_with fail
                go_roundw
                case rel => exact ⟨i + 1, by omega, by go_num, by rw [HCy.out]; congr 1; omega, HK5.out.setCell (p := ⟨wa.heap.size, i, none⟩) (Nat.le_refl _) _, (HV5.out.set i _).congr (row_yes HRy.out), HH5.out.setOther (by simp) _⟩
                case measure => simp [intOf]; omega
              · have hmin : min (1 + cntH (hasT KD) i) ws.length = ws.length := Nat.min_eq_right (by omega)
                have HRn := hide (row_no (h := hasT KD) (L := L) (i := i) (fun _ => rdV_no (Or.inr (by omega))))
                rw [hmin]
                generalize cntH (hasT KD) i = CN at *
                clear hmin q1 q2 hh
                go_wp2_with fail
                go_roundw
                case rel => exact ⟨i + 1, by omega, by go_num, by rw [HCy.out]; congr 1; omega, HKq, HV.out.congr HRn.out, HH⟩
                case measure => simp [intOf]; omega
            · have e : i = 5 := by omega
              subst e
              have HCn := hide (cnt_no (h := hasT KD) (i := 5) (Or.inr (by omega)))
              have HRn := hide (row_no (h := hasT KD) (L := L) (i := 5) (fun h => by omega))
              clear hh
              go_wp2_with fail
              go_roundw
              case rel => exact ⟨6, by omega, rfl, by rw [HCn.out], HKq, HV.out.congr HRn.out, HH⟩
              case measure => simp [intOf]
        · have e : i = 6 := by omega
          subst e
          clear HH
          have HKz := hide (HK.out.trans (HKr.out.trans HKq.out))
          have v0 : wr.cell? ⟨wa.heap.size, 0, none⟩ = some (.int .i64 (rdV (hasT KD) L 0)) := HV.out.cell (i := 0) (by decide)
          have v1 : wr.cell? ⟨wa.heap.size, 1, none⟩ = some (.int .i64 (rdV (hasT KD) L 1)) := HV.out.cell (i := 1) (by decide)
          have v2 : wr.cell? ⟨wa.heap.size, 2, none⟩ = some (.int .i64 (rdV (hasT KD) L 2)) := HV.out.cell (i := 2) (by decide)
          have v3 : wr.cell? ⟨wa.heap.size, 3, none⟩ = some (.int .i64 (rdV (hasT KD) L 3)) := HV.out.cell (i := 3) (by decide)
          have v4 : wr.cell? ⟨wa.heap.size, 4, none⟩ = some (.int .i64 (rdV (hasT KD) L 4)) := HV.out.cell (i := 4) (by decide)
          have hlast : ws.length - 1 < ws.length := by omega
          have wl := (HKr.out.trans HKq.out).cell (HW.out _ hlast)
          rw [Nat.zero_add] at wl
          have HY : Hid (rdY L = (dl ws[ws.length - 1] == [121, 101, 115])) := by
            show _ = _
            rw [← HL.out]
            unfold rdY
            rw [List.getLastD_eq_getLast?, List.getLast?_eq_getElem?, List.length_map, List.getElem?_map, List.getElem?_eq_getElem hlast]
            rfl
          generalize ws[ws.length - 1] = xl at *
          obtain ⟨n0, hn0⟩ : ∃ n0, rdV (hasT KD) L 0 = n0 := ⟨_, rfl⟩
          obtain ⟨n1, hn1⟩ : ∃ n1, rdV (hasT KD) L 1 = n1 := ⟨_, rfl⟩
          obtain ⟨n2, hn2⟩ : ∃ n2, rdV (hasT KD) L 2 = n2 := ⟨_, rfl⟩
          obtain ⟨n3, hn3⟩ : ∃ n3, rdV (hasT KD) L 3 = n3 := ⟨_, rfl⟩
          obtain ⟨n4, hn4⟩ : ∃ n4, rdV (hasT KD) L 4 = n4 := ⟨_, rfl⟩
          rw [hn0] at v0
          rw [hn1] at v1
          rw [hn2] at v2
          rw [hn3] at v3
          rw [hn4] at v4
          obtain ⟨Y, hY⟩ : ∃ Y, rdY L = Y := ⟨_, rfl⟩
          have hyq : (xl.toList == [121, 101, 115]) = Y := by rw [toList_data, ← hY, HY.out]; rfl
          have HTn : Hid (dl s = [] ∨ etL (KD : Int) n0 n1 n2 n3 n4 Y ≠ dl s → TePost s (.returned (.tuple #[evV 0 0 0 0 0 0 false, .bool false]))) := by
            intro h
            refine te_not HS.out ?_
            rw [HL.out, HKD.out, hn0, hn1, hn2, hn3, hn4, hY]
            exact h
          have HEq := hide (HE.out.of_block (Below.block HKq.out _ HE.out.lt))
          have hne : wa.heap.size ≠ w1.heap.size := by have := HE.out.lt; omega
          have hal : w1.heap.size < wa.heap.size := HE.out.lt
          clear hn0 hn1 hn2 hn3 hn4 hY HY HE HV hx0 HX0 r0
          have r1 : wr.cell? ⟨w1.heap.size, 1, none⟩ = some (.int .i64 0) := HEq.out.cell (i := 1) (by decide)
          have r2 : wr.cell? ⟨w1.heap.size, 2, none⟩ = some (.int .i64 0) := HEq.out.cell (i := 2) (by decide)
          have r3 : wr.cell? ⟨w1.heap.size, 3, none⟩ = some (.int .i64 0) := HEq.out.cell (i := 3) (by decide)
          have r4 : wr.cell? ⟨w1.heap.size, 4, none⟩ = some (.int .i64 0) := HEq.out.cell (i := 4) (by decide)
          have r5 : wr.cell? ⟨w1.heap.size, 5, none⟩ = some (.int .i64 0) := HEq.out.cell (i := 5) (by decide)
          have r6 : wr.cell? ⟨w1.heap.size, 6, none⟩ = some (.bool false) := HEq.out.cell (i := 6) (by decide)
          have f1 := HEq.out.frozen 1
          have f2 := HEq.out.frozen 2
          have f3 := HEq.out.frozen 3
          have f4 := HEq.out.frozen 4
          have f5 := HEq.out.frozen 5
          have f6 := HEq.out.frozen 6
          have rl := HEq.out.lt
          have hgl : g < w1.heap.size := lt_of_cell (HW.out _ hlast)
          have hgn : g ≠ w1.heap.size := by omega
          have hwE := HK.out.size
          have hRl := HR.out.lt
          have HRq := hide (HR.out.of_block (Below.block (HKr.out.trans HKq.out) _ HR.out.lt))
          have hRE : w.heap.size ≠ w1.heap.size := by omega
          have hlm : ws.length ≤ 9223372036854775807 := by
            have := HLm.out
            omega
          clear HR HK HKr HKq HW HS HL HKD hcap hcm hg hLn hlt hi hK11
          generalize min (1 + cntH (hasT KD) (min 6 5)) ws.length = AT at *
          generalize w1.heap.size = bE at *
          generalize wa.heap.size = bV at *
          have HWE := hide hwE
          have HEr := hide HEq.out
          have hsl : (V : World) → V = V := fun _ => rfl
          clear hsl
          have HVr : Hid (wr.cell? ⟨bV, 0, none⟩ = some (.int .i64 n0) ∧ wr.cell? ⟨bV, 1, none⟩ = some (.int .i64 n1) ∧ wr.cell? ⟨bV, 2, none⟩ = some (.int .i64 n2) ∧ wr.cell? ⟨bV, 3, none⟩ = some (.int .i64 n3) ∧ wr.cell? ⟨bV, 4, none⟩ = some (.int .i64 n4)) := ⟨v0, v1, v2, v3, v4⟩
          have HNE := hide hne
          have HGN := hide hgn
          have HYQ := hide hyq
          have HWL := hide wl
          have HRE := hide hRE
          clear v0 v1 v2 v3 v4 r1 r2 r3 r4 r5 r6 f1 f2 f3 f4 f5 f6 rl wl hne hyq hRE hgn hgl hal hRl hwE HEq
          have v := HVr.out.1
          have r : wr.cell? ⟨bE, 1, none⟩ = some (.int .i64 0) := HEr.out.cell (i := 1) (by decide)
          have f := HEr.out.frozen 1
          go_upto_region 19 with fail
          have HEn := hide ((HEr.out.set 1 (.int .i64 n0)).congr (g := evRowT (KD : Int) n0 0 0 0 0 false) (ev7 rfl rfl rfl rfl rfl rfl rfl))
          have HKn := hide (Turn.set (fs := [bE]) (w := wr) (a := ⟨bE, 1, none⟩) (by simp) (.int .i64 n0))
          have HVn : Hid ((wr.setCell ⟨bE, 1, none⟩ (.int .i64 n0)).cell? ⟨bV, 0, none⟩ = some (.int .i64 n0) ∧ (wr.setCell ⟨bE, 1, none⟩ (.int .i64 n0)).cell? ⟨bV, 1, none⟩ = some (.int .i64 n1) ∧ (wr.setCell ⟨bE, 1, none⟩ (.int .i64 n0)).cell? ⟨bV, 2, none⟩ = some (.int .i64 n2) ∧ (wr.setCell ⟨bE, 1, none⟩ (.int .i64 n0)).cell? ⟨bV, 3, none⟩ = some (.int .i64 n3) ∧ (wr.setCell ⟨bE, 1, none⟩ (.int .i64 n0)).cell? ⟨bV, 4, none⟩ = some (.int .i64 n4)) :=
            ⟨HKn.out.cell (by simpa using HNE.out) HVr.out.1, HKn.out.cell (by simpa using HNE.out) HVr.out.2.1, HKn.out.cell (by simpa using HNE.out) HVr.out.2.2.1, HKn.out.cell (by simpa using HNE.out) HVr.out.2.2.2.1, HKn.out.cell (by simpa using HNE.out) HVr.out.2.2.2.2⟩
          have HWn := hide (HKn.out.cell (by simpa using HGN.out) HWL.out)
          have HRn := hide (HRq.out.setOther (a := ⟨bE, 1, none⟩) (by simpa using HRE.out) (.int .i64 n0))
          clear v r f HVr HEr HWL HRq
          generalize wr.setCell ⟨bE, 1, none⟩ (.int .i64 n0) = wx0 at *
          have HT0 := hide HKn.out
          have HVr := hide HVn.out
          have HEr := hide HEn.out
          have HWL := hide HWn.out
          have HRq := hide HRn.out
          clear HVn HEn HWn HRn HKn
          have v := HVr.out.2.1
          have r : wx0.cell? ⟨bE, 2, none⟩ = some (.int .i64 0) := HEr.out.cell (i := 2) (by decide)
          have f := HEr.out.frozen 2
          go_upto_region 20 with fail
          have HEn := hide ((HEr.out.set 2 (.int .i64 n1)).congr (g := evRowT (KD : Int) n0 n1 0 0 0 false) (ev7 rfl rfl rfl rfl rfl rfl rfl))
          have HKn := hide (Turn.set (fs := [bE]) (w := wx0) (a := ⟨bE, 2, none⟩) (by simp) (.int .i64 n1))
          have HVn : Hid ((wx0.setCell ⟨bE, 2, none⟩ (.int .i64 n1)).cell? ⟨bV, 0, none⟩ = some (.int .i64 n0) ∧ (wx0.setCell ⟨bE, 2, none⟩ (.int .i64 n1)).cell? ⟨bV, 1, none⟩ = some (.int .i64 n1) ∧ (wx0.setCell ⟨bE, 2, none⟩ (.int .i64 n1)).cell? ⟨bV, 2, none⟩ = some (.int .i64 n2) ∧ (wx0.setCell ⟨bE, 2, none⟩ (.int .i64 n1)).cell? ⟨bV, 3, none⟩ = some (.int .i64 n3) ∧ (wx0.setCell ⟨bE, 2, none⟩ (.int .i64 n1)).cell? ⟨bV, 4, none⟩ = some (.int .i64 n4)) :=
            ⟨HKn.out.cell (by simpa using HNE.out) HVr.out.1, HKn.out.cell (by simpa using HNE.out) HVr.out.2.1, HKn.out.cell (by simpa using HNE.out) HVr.out.2.2.1, HKn.out.cell (by simpa using HNE.out) HVr.out.2.2.2.1, HKn.out.cell (by simpa using HNE.out) HVr.out.2.2.2.2⟩
          have HWn := hide (HKn.out.cell (by simpa using HGN.out) HWL.out)
          have HRn := hide (HRq.out.setOther (a := ⟨bE, 2, none⟩) (by simpa using HRE.out) (.int .i64 n1))
          clear v r f HVr HEr HWL HRq
          generalize wx0.setCell ⟨bE, 2, none⟩ (.int .i64 n1) = wx1 at *
          have HT1 := hide HKn.out
          have HVr := hide HVn.out
          have HEr := hide HEn.out
          have HWL := hide HWn.out
          have HRq := hide HRn.out
          clear HVn HEn HWn HRn HKn
          have v := HVr.out.2.2.1
          have r : wx1.cell? ⟨bE, 3, none⟩ = some (.int .i64 0) := HEr.out.cell (i := 3) (by decide)
          have f := HEr.out.frozen 3
          go_upto_region 21 with fail
          have HEn := hide ((HEr.out.set 3 (.int .i64 n2)).congr (g := evRowT (KD : Int) n0 n1 n2 0 0 false) (ev7 rfl rfl rfl rfl rfl rfl rfl))
          have HKn := hide (Turn.set (fs := [bE]) (w := wx1) (a := ⟨bE, 3, none⟩) (by simp) (.int .i64 n2))
          have HVn : Hid ((wx1.setCell ⟨bE, 3, none⟩ (.int .i64 n2)).cell? ⟨bV, 0, none⟩ = some (.int .i64 n0) ∧ (wx1.setCell ⟨bE, 3, none⟩ (.int .i64 n2)).cell? ⟨bV, 1, none⟩ = some (.int .i64 n1) ∧ (wx1.setCell ⟨bE, 3, none⟩ (.int .i64 n2)).cell? ⟨bV, 2, none⟩ = some (.int .i64 n2) ∧ (wx1.setCell ⟨bE, 3, none⟩ (.int .i64 n2)).cell? ⟨bV, 3, none⟩ = some (.int .i64 n3) ∧ (wx1.setCell ⟨bE, 3, none⟩ (.int .i64 n2)).cell? ⟨bV, 4, none⟩ = some (.int .i64 n4)) :=
            ⟨HKn.out.cell (by simpa using HNE.out) HVr.out.1, HKn.out.cell (by simpa using HNE.out) HVr.out.2.1, HKn.out.cell (by simpa using HNE.out) HVr.out.2.2.1, HKn.out.cell (by simpa using HNE.out) HVr.out.2.2.2.1, HKn.out.cell (by simpa using HNE.out) HVr.out.2.2.2.2⟩
          have HWn := hide (HKn.out.cell (by simpa using HGN.out) HWL.out)
          have HRn := hide (HRq.out.setOther (a := ⟨bE, 3, none⟩) (by simpa using HRE.out) (.int .i64 n2))
          clear v r f HVr HEr HWL HRq
          generalize wx1.setCell ⟨bE, 3, none⟩ (.int .i64 n2) = wx2 at *
          have HT2 := hide HKn.out
          have HVr := hide HVn.out
          have HEr := hide HEn.out
          have HWL := hide HWn.out
          have HRq := hide HRn.out
          clear HVn HEn HWn HRn HKn
          have v := HVr.out.2.2.2.1
          have r : wx2.cell? ⟨bE, 4, none⟩ = some (.int .i64 0) := HEr.out.cell (i := 4) (by decide)
          have f := HEr.out.frozen 4
          go_upto_region 22 with fail
          have HEn := hide ((HEr.out.set 4 (.int .i64 n3)).congr (g := evRowT (KD : Int) n0 n1 n2 n3 0 false) (ev7 rfl rfl rfl rfl rfl rfl rfl))
          have HKn := hide (Turn.set (fs := [bE]) (w := wx2) (a := ⟨bE, 4, none⟩) (by simp) (.int .i64 n3))
          have HVn : Hid ((wx2.setCell ⟨bE, 4, none⟩ (.int .i64 n3)).cell? ⟨bV, 0, none⟩ = some (.int .i64 n0) ∧ (wx2.setCell ⟨bE, 4, none⟩ (.int .i64 n3)).cell? ⟨bV, 1, none⟩ = some (.int .i64 n1) ∧ (wx2.setCell ⟨bE, 4, none⟩ (.int .i64 n3)).cell? ⟨bV, 2, none⟩ = some (.int .i64 n2) ∧ (wx2.setCell ⟨bE, 4, none⟩ (.int .i64 n3)).cell? ⟨bV, 3, none⟩ = some (.int .i64 n3) ∧ (wx2.setCell ⟨bE, 4, none⟩ (.int .i64 n3)).cell? ⟨bV, 4, none⟩ = some (.int .i64 n4)) :=
            ⟨HKn.out.cell (by simpa using HNE.out) HVr.out.1, HKn.out.cell (by simpa using HNE.out) HVr.out.2.1, HKn.out.cell (by simpa using HNE.out) HVr.out.2.2.1, HKn.out.cell (by simpa using HNE.out) HVr.out.2.2.2.1, HKn.out.cell (by simpa using HNE.out) HVr.out.2.2.2.2⟩
          have HWn := hide (HKn.out.cell (by simpa using HGN.out) HWL.out)
          have HRn := hide (HRq.out.setOther (a := ⟨bE, 4, none⟩) (by simpa using HRE.out) (.int .i64 n3))
          clear v r f HVr HEr HWL HRq
          generalize wx2.setCell ⟨bE, 4, none⟩ (.int .i64 n3) = wx3 at *
          have HT3 := hide HKn.out
          have HVr := hide HVn.out
          have HEr := hide HEn.out
          have HWL := hide HWn.out
          have HRq := hide HRn.out
          clear HVn HEn HWn HRn HKn
          have v := HVr.out.2.2.2.2
          have r : wx3.cell? ⟨bE, 5, none⟩ = some (.int .i64 0) := HEr.out.cell (i := 5) (by decide)
          have f := HEr.out.frozen 5
          go_upto_region 23 with fail
          have HEn := hide ((HEr.out.set 5 (.int .i64 n4)).congr (g := evRowT (KD : Int) n0 n1 n2 n3 n4 false) (ev7 rfl rfl rfl rfl rfl rfl rfl))
          have HKn := hide (Turn.set (fs := [bE]) (w := wx3) (a := ⟨bE, 5, none⟩) (by simp) (.int .i64 n4))
          have HVn : Hid ((wx3.setCell ⟨bE, 5, none⟩ (.int .i64 n4)).cell? ⟨bV, 0, none⟩ = some (.int .i64 n0) ∧ (wx3.setCell ⟨bE, 5, none⟩ (.int .i64 n4)).cell? ⟨bV, 1, none⟩ = some (.int .i64 n1) ∧ (wx3.setCell ⟨bE, 5, none⟩ (.int .i64 n4)).cell? ⟨bV, 2, none⟩ = some (.int .i64 n2) ∧ (wx3.setCell ⟨bE, 5, none⟩ (.int .i64 n4)).cell? ⟨bV, 3, none⟩ = some (.int .i64 n3) ∧ (wx3.setCell ⟨bE, 5, none⟩ (.int .i64 n4)).cell? ⟨bV, 4, none⟩ = some (.int .i64 n4)) :=
            ⟨HKn.out.cell (by simpa using HNE.out) HVr.out.1, HKn.out.cell (by simpa using HNE.out) HVr.out.2.1, HKn.out.cell (by simpa using HNE.out) HVr.out.2.2.1, HKn.out.cell (by simpa using HNE.out) HVr.out.2.2.2.1, HKn.out.cell (by simpa using HNE.out) HVr.out.2.2.2.2⟩
          have HWn := hide (HKn.out.cell (by simpa using HGN.out) HWL.out)
          have HRn := hide (HRq.out.setOther (a := ⟨bE, 5, none⟩) (by simpa using HRE.out) (.int .i64 n4))
          clear v r f HVr HEr HWL HRq
          generalize wx3.setCell ⟨bE, 5, none⟩ (.int .i64 n4) = wx4 at *
          have HT4 := hide HKn.out
          have HVr := hide HVn.out
          have HEr := hide HEn.out
          have HWL := hide HWn.out
          have HRq := hide HRn.out
          clear HVn HEn HWn HRn HKn
          have wl := HWL.out
          have r : wx4.cell? ⟨bE, 6, none⟩ = some (.bool false) := HEr.out.cell (i := 6) (by decide)
          have f := HEr.out.frozen 6
          have hi1 : (ws.length : Int) - 1 = ((ws.length - 1 : Nat) : Int) := by omega
          have hyq := HYQ.out
          go_upto_region 24 with fail
          have HEn := hide ((HEr.out.set 6 (.bool Y)).congr (g := evRowT (KD : Int) n0 n1 n2 n3 n4 Y) (ev7 rfl rfl rfl rfl rfl rfl rfl))
          have HKn := hide (Turn.set (fs := [bE]) (w := wx4) (a := ⟨bE, 6, none⟩) (by simp) (.bool Y))
          have HRn := hide (HRq.out.setOther (a := ⟨bE, 6, none⟩) (by simpa using HRE.out) (.bool Y))
          clear wl r f hi1 hyq HVr HWL HYQ HEr HRq
          generalize wx4.setCell ⟨bE, 6, none⟩ (.bool Y) = wx5 at *
          have HK5 : Hid (Keeps w wx5) := by
            have hT := HT0.out.trans' (HT1.out.trans' (HT2.out.trans' (HT3.out.trans' (HT4.out.trans' HKn.out))))
            exact hT.keeps HKz.out (fun b hb => by
              have h1 : b = bE := by simpa using hb
              have h2 := HWE.out
              rw [h1]
              omega)
          have HR5 : Hid (wx5.rowIs w.heap.size 28 7 (evRowT 0 0 0 0 0 0 false)) := HRn.out
          clear HKn HRn HKz HT0 HT1 HT2 HT3 HT4
          by_cases hse : dl s = []
          · have hq : (s.toList == []) = true := by rw [toList_data]; exact beq_iff_eq.2 hse
            have HTP := hide (HTn.out (Or.inl hse))
            clear hse HTn
            obtain ⟨r0, r1, r2, r3, r4, r5, r6⟩ := res_zero HR5.out
            have rf0 := HR5.out.frozen 0
            have rf1 := HR5.out.frozen 1
            have rf2 := HR5.out.frozen 2
            have rf3 := HR5.out.frozen 3
            have rf4 := HR5.out.frozen 4
            have rf5 := HR5.out.frozen 5
            have rf6 := HR5.out.frozen 6
            have rl := HR5.out.lt
            go_wp2_with fail
            obtain ⟨⟨o0, o1, o2, o3, o4, o5, o6⟩, hkF⟩ := res_fin 0 0 0 0 0 0 false HR5.out HK5.out rfl
            refine bodyPost_ret (v := .tuple #[evV 0 0 0 0 0 0 false, .bool false]) ?_ rfl ⟨HTP.out, hkF⟩
            clear hkF r0 rf0 r1 rf1 r2 rf2 r3 rf3 r4 rf4 r5 rf5 r6 rf6
            revert o0 o1 o2 o3 o4 o5 o6
            generalize World.setCell (World.setCell _ _ _) _ _ = WW
            intro o0 o1 o2 o3 o4 o5 o6
            simp [results, Tryz.results35, go_sem, o0, o1, o2, o3, o4, o5, o6]
          have hq : (s.toList == []) = false := by rw [toList_data]; exact beq_eq_false_iff_ne.2 hse
          have q0 : wx5.cell? ⟨bE, 0, none⟩ = some (.int .i64 (KD : Int)) := HEn.out.cell (i := 0) (by decide)
          have q1 : wx5.cell? ⟨bE, 1, none⟩ = some (.int .i64 n0) := HEn.out.cell (i := 1) (by decide)
          have q2 : wx5.cell? ⟨bE, 2, none⟩ = some (.int .i64 n1) := HEn.out.cell (i := 2) (by decide)
          have q3 : wx5.cell? ⟨bE, 3, none⟩ = some (.int .i64 n2) := HEn.out.cell (i := 3) (by decide)
          have q4 : wx5.cell? ⟨bE, 4, none⟩ = some (.int .i64 n3) := HEn.out.cell (i := 4) (by decide)
          have q5 : wx5.cell? ⟨bE, 5, none⟩ = some (.int .i64 n4) := HEn.out.cell (i := 5) (by decide)
          have q6 : wx5.cell? ⟨bE, 6, none⟩ = some (.bool Y) := HEn.out.cell (i := 6) (by decide)
          go_wp2_with fail
          refine (esx_spec (KD : Int) n0 n1 n2 n3 n4 Y wx5).mono ?_
          rintro x w6 ⟨rfl, hk6⟩
          have HK6 := hide (HK5.out.trans hk6)
          have HR6 := hide (HR5.out.of_block (Below.block hk6 _ HR5.out.lt))
          replace q0 := hk6.cell q0
          replace q1 := hk6.cell q1
          replace q2 := hk6.cell q2
          replace q3 := hk6.cell q3
          replace q4 := hk6.cell q4
          replace q5 := hk6.cell q5
          replace q6 := hk6.cell q6
          clear hk6 HK5 HR5 HEn
          have HSE := hide hse
          clear hse
          obtain ⟨TX, hTX⟩ : ∃ TX, etL (KD : Int) n0 n1 n2 n3 n4 Y = TX := ⟨_, rfl⟩
          rw [hTX] at HTn ⊢
          have HTX := hide hTX
          clear hTX
          by_cases ht : TX = s.data.toList
          · rw [ev_str ht]
            have HTE : Hid (evB (KD : Int) n0 n1 n2 n3 n4 Y = true ∧ evT (KD : Int) n0 n1 n2 n3 n4 Y = s.data.toList) := by
              have h := HTX.out
              unfold etL at h
              cases hb : evB (KD : Int) n0 n1 n2 n3 n4 Y
              · rw [hb, if_neg (by simp)] at h
                exact absurd (ht.symm.trans h.symm) HSE.out
              · rw [hb, if_pos rfl] at h
                exact ⟨rfl, h.trans ht⟩
            have hER : w.heap.size ≠ bE := HRE.out
            have hER2 : ¬ bE = w.heap.size := fun h => hER h.symm
            obtain ⟨r0, r1, r2, r3, r4, r5, r6⟩ := res_zero HR6.out
            have rf0 := HR6.out.frozen 0
            have rf1 := HR6.out.frozen 1
            have rf2 := HR6.out.frozen 2
            have rf3 := HR6.out.frozen 3
            have rf4 := HR6.out.frozen 4
            have rf5 := HR6.out.frozen 5
            have rf6 := HR6.out.frozen 6
            have rl := HR6.out.lt
            go_wp2_with fail
            obtain ⟨⟨o0, o1, o2, o3, o4, o5, o6⟩, hkF⟩ := res_fin (KD : Int) n0 n1 n2 n3 n4 Y HR6.out HK6.out rfl
            refine bodyPost_ret (v := .tuple #[evV (KD : Int) n0 n1 n2 n3 n4 Y, .bool true]) ?_ rfl ⟨.inl ⟨_, _, _, _, _, _, _, HTE.out.1, HTE.out.2, rfl⟩, hkF⟩
            clear hkF r0 rf0 r1 rf1 r2 rf2 r3 rf3 r4 rf4 r5 rf5 r6 rf6
            revert o0 o1 o2 o3 o4 o5 o6
            generalize World.setCell (World.setCell _ _ _) _ _ = WW
            intro o0 o1 o2 o3 o4 o5 o6
            simp [results, Tryz.results35, go_sem, o0, o1, o2, o3, o4, o5, o6]
          · have hne := str_ne ht
            have HTP := hide (HTn.out (Or.inr ht))
            clear HTn q0 q1 q2 q3 q4 q5 q6
            obtain ⟨r0, r1, r2, r3, r4, r5, r6⟩ := res_zero HR6.out
            have rf0 := HR6.out.frozen 0
            have rf1 := HR6.out.frozen 1
            have rf2 := HR6.out.frozen 2
            have rf3 := HR6.out.frozen 3
            have rf4 := HR6.out.frozen 4
            have rf5 := HR6.out.frozen 5
            have rf6 := HR6.out.frozen 6
            have rl := HR6.out.lt
            go_wp2_with fail
            obtain ⟨⟨o0, o1, o2, o3, o4, o5, o6⟩, hkF⟩ := res_fin 0 0 0 0 0 0 false HR6.out HK6.out rfl
            refine bodyPost_ret (v := .tuple #[evV 0 0 0 0 0 0 false, .bool false]) ?_ rfl ⟨HTP.out, hkF⟩
            clear hkF r0 rf0 r1 rf1 r2 rf2 r3 rf3 r4 rf4 r5 rf5 r6 rf6
            revert o0 o1 o2 o3 o4 o5 o6
            generalize World.setCell (World.setCell _ _ _) _ _ = WW
            intro o0 o1 o2 o3 o4 o5 o6
            simp [results, Tryz.results35, go_sem, o0, o1, o2, o3, o4, o5, o6]
end Go.Proofs.YtkgpoghoilffhaaGreatDoor
namespace Go.Proofs.YtkgpoghoilffhaaGreatDoor
open Go.RowKit Go.Deep
set_option linter.unusedVariables false
set_option linter.unusedSimpArgs false
set_option maxRecDepth 10000
noncomputable def txB (x : ByteArray) : Int := txN x.data.toList
theorem textnum_x (s : ByteArray) (w : World) (hs : s.size ≤ 1048576) :
    Calls Tryz.prog 34 #[.string s] w fun e w' => (∃ b : Bool, e = .returned (.tuple #[.int .i64 (txB s), .bool b])) ∧ Keeps w w' := textnum_s s w hs
theorem owns_mk0 (w : World) : OwnsI (w.alloc (.cells #[] 3)) w.heap.size (.slice (some ⟨w.heap.size, 0, none⟩) 0 0) [] := World.ownsRow_made (base := w.heap.size) (e := 3) (size := 1) w #[] 0 (Nat.le_refl _) (by decide) rfl
theorem owns_turnX {w W : World} {base X : Nat} {v : Value} {L : List Int} (ho : OwnsI w base v L) (ht : Turn [X] w W) (hne : ∀ k, v.ownBlock = some k → k < X) : OwnsI W base v L := by
  refine ⟨ho.1, ?_⟩
  rcases ho.2 with ho | ⟨g, c, cu, rfl, hg, hc, rest⟩
  · exact Or.inl ho
  · have h1 := hne g (by simp [Value.ownBlock])
    exact Or.inr ⟨g, c, cu, rfl, hg, by rw [ht.block g (Array.getElem?_eq_some_iff.1 hc).1 (by simp; omega)]; exact hc, rest⟩
theorem row_turn {w W : World} {B X : Nat} {t : TypeId} {n : Nat} {f : Nat → Value} (h : w.rowIs B t n f) (ht : Turn [X] w W) (hne : B ≠ X) : W.rowIs B t n f := h.of_block (ht.block B h.lt (by simp; exact hne))
theorem str_none {s : ByteArray} (h : s.data.toList ≠ []) : (s.toList == []) = false := by
  rw [toList_data]
  exact beq_eq_false_iff_ne.2 h
theorem str_some {s : ByteArray} (h : s.data.toList = []) : (s.toList == []) = true := by
  rw [toList_data, h]; rfl
theorem saidS_1 (e : Ev) (v : List Int) : saidS wTake e v = ⟨1, e, [], noR⟩ := rfl
theorem saidS_2 (e : Ev) (v : List Int) : saidS wSync e v = ⟨2, noE, [], noR⟩ := rfl
theorem saidS_3 (e : Ev) (v : List Int) : saidS wCrash e v = ⟨3, noE, v, noR⟩ := rfl
theorem saidS_4 (e : Ev) (v : List Int) : saidS wStart e v = ⟨4, noE, [], noR⟩ := rfl
theorem saidS_5 (e : Ev) (v : List Int) : saidS wTurn e v = ⟨5, noE, [], rulS v⟩ := rfl
theorem saidS_0 {h : List UInt8} {e : Ev} {v : List Int} (h1 : ¬ h = wTake) (h2 : ¬ h = wSync) (h3 : ¬ h = wCrash) (h4 : ¬ h = wStart) (h5 : ¬ h = wTurn) : saidS h e v = ⟨0, noE, [], noR⟩ := by
  unfold saidS
  rw [if_neg h1, if_neg h2, if_neg h3, if_neg h4, if_neg h5]
theorem ext5 (s : ByteArray) : (s.extract 5 s.size).data.toList = s.data.toList.drop 5 := by
  rw [sb_extract, List.take_of_length_le (by simp)]
theorem cell_turn {w W : World} {X : Nat} {p : Addr} {v : Value} (h : w.cell? p = some v) (ht : Turn [X] w W) (hne : p.block ≠ X) : W.cell? p = some v := by
  have hlt : p.block < w.heap.size := by
    rcases Nat.lt_or_ge p.block w.heap.size with h' | h'
    · exact h'
    · simp [World.cell?, Array.getElem?_eq_none h'] at h
  rw [← h]
  unfold World.cell?
  rw [ht.block p.block hlt (by simp; exact hne)]
theorem stL_nil {D : Stp} (h : stL D ≠ []) : stpB D = true := by
  cases hb : stpB D
  · rw [stL_no hb] at h; exact absurd rfl h
  · rfl
theorem slice_one (g n cap : Nat) (h : n + 1 ≤ cap) : ∃ of : Nat, (∀ i, i < n → of = 1) ∧ ∀ w, (Instr.slice 46 (.slice (some ⟨g, 0, none⟩) (n + 1) cap) (some (.int .i64 1)) none none).run Tryz.prog w = .ok (.slice (some ⟨g, of, none⟩) n (cap - 1)) w := by
  have h1 : (1 : Int) ≤ ((n + 1 : Nat) : Int) := by omega
  have hu : Tryz.prog.underlying 46 = some (.slice (Tryz.prog.elem 46)) := by kernel_rfl
  have hz : ∀ w, (sizeOf (Tryz.prog.elem 46)).run Tryz.prog w = .ok 1 w := fun w => by kernel_rfl
  by_cases hc : cap = 1
  · refine ⟨0, fun i hi => by omega, fun w => ?_⟩
    rw [run_slice_l w _ _ _ _ hu .i64 1 (by omega) h1, hz]
    simp [Result.andThen, sliced, hc]
  · refine ⟨1, fun _ _ => rfl, fun w => ?_⟩
    rw [run_slice_l w _ _ _ _ hu .i64 1 (by omega) h1, hz]
    simp [Result.andThen, sliced, hc, Addr.add]
end Go.Proofs.YtkgpoghoilffhaaGreatDoor
