/- Texts of the verifier, joined: BsB, BsC. -/
import Derived.Test.YtjdbedlgkngdkaaGreatDoorPMoves10
import Derived.Test.YtjdbedlgkngdkaaGreatDoorPMoves3
namespace Go.Proofs.YtjdbedlgkngdkaaGreatDoor
open Go.RowKit Go.Deep
set_option linter.unusedVariables false
set_option linter.unusedSimpArgs false
set_option maxRecDepth 10000

theorem OwnsI.older {w : World} {base base' : Nat} {v : Value} {L : List Int} (h : OwnsI w base v L) (hb : base' ≤ base) : OwnsI w base' v L := by
  refine ⟨h.1, ?_⟩
  rcases h.2 with h' | ⟨g, cap, cur, rfl, hb', rest⟩
  · exact .inl h'
  · exact .inr ⟨g, cap, cur, rfl, by omega, rest⟩
set_option maxHeartbeats 4000000 in
theorem keys_spec (B : Bo) (w : World) (hm : Mem w B.segs) (hH : B.Hs.length ≤ 60) (hR : B.R.length ≤ 20) : Calls Tryz.prog 133 #[B.v] w fun e w' => ∃ g cap, e = .returned (.slice (some ⟨g, 0, none⟩) (keysL B.d).length cap) ∧ OwnsI w' w.heap.size (.slice (some ⟨g, 0, none⟩) (keysL B.d).length cap) (keysL B.d) ∧ Keeps w w' := by
  have hl : B.Hs.length ≤ 60 := hH
  obtain ⟨tk, nx, wa, ca, cc, C, ha, hc, Hs, ra, rc, R⟩ := B
  have HCC := hide (fun w' (hk : Keeps w w') => Bo.memC (hm.kept hk))
  have HCH := hide (fun w' (hk : Keeps w w') => Bo.memH (hm.kept hk))
  have HCR := hide (fun w' (hk : Keeps w w') => Bo.memR (hm.kept hk))
  have HL := hide hl
  have HBA := hide (book_box ⟨tk, nx, wa, ca, cc, C, ha, hc, Hs, ra, rc, R⟩ w 27)
  have HKA := hide (Keeps.alloc (Keeps.refl w) (.cells #[.int .i64 tk, .int .i64 nx, .int .i64 wa, .slice ca C.length cc, .slice ha Hs.length hc, .slice ra R.length rc] 27))
  dsimp only [Bo.d, Bo.v] at *
  clear hm hl
  go_enter Tryz.func133, Tryz.ntmps133
  go_wp2_with fail
  have HO0 : Hid (OwnsI ((w.alloc (.cells #[.int .i64 tk, .int .i64 nx, .int .i64 wa, .slice ca C.length cc, .slice ha Hs.length hc, .slice ra R.length rc] 27)).alloc (.cells #[] 3)) (w.alloc (.cells #[.int .i64 tk, .int .i64 nx, .int .i64 wa, .slice ca C.length cc, .slice ha Hs.length hc, .slice ra R.length rc] 27)).heap.size (.slice (some ⟨(w.alloc (.cells #[.int .i64 tk, .int .i64 nx, .int .i64 wa, .slice ca C.length cc, .slice ha Hs.length hc, .slice ra R.length rc] 27)).heap.size, 0, none⟩) 0 0) []) :=
    World.ownsRow_made (base := (w.alloc (.cells #[.int .i64 tk, .int .i64 nx, .int .i64 wa, .slice ca C.length cc, .slice ha Hs.length hc, .slice ra R.length rc] 27)).heap.size) (e := 3) (size := 1) _ #[] 0 (Nat.le_refl _) (by simp only [maxLen]; omega) (by simp)
  have HK0 := hide (Keeps.alloc (Keeps.refl (w.alloc (.cells #[.int .i64 tk, .int .i64 nx, .int .i64 wa, .slice ca C.length cc, .slice ha Hs.length hc, .slice ra R.length rc] 27))) (.cells #[] 3))
  have hsz : (w.alloc (.cells #[.int .i64 tk, .int .i64 nx, .int .i64 wa, .slice ca C.length cc, .slice ha Hs.length hc, .slice ra R.length rc] 27)).heap.size = w.heap.size + 1 := by simp
  have HSZ := hide hsz
  clear hsz
  generalize w.alloc (.cells #[.int .i64 tk, .int .i64 nx, .int .i64 wa, .slice ca C.length cc, .slice ha Hs.length hc, .slice ra R.length rc] 27) = W0 at *
  go_loopw [3, 12] (fun v y wr => ∃ k : Nat, k ≤ Hs.length ∧ y = .int .i64 (k : Int) ∧ Hid (OwnsI wr W0.heap.size v (keysTo (Hs.take k) [])) ∧ Hid (v ≠ .slice none 0 0) ∧ Hid (Keeps W0 wr)) (fun _ y _ => Hs.length - (intOf y).toNat)
  case atStart => exact ⟨0, by omega, rfl, by show OwnsI _ _ _ _; rw [HSZ.out] at HO0 ⊢; simpa [keysTo] using HO0.out, fun h => by simp at h, HK0.out⟩
  case round =>
    obtain ⟨k, hk, rfl, HO, HN, HKr⟩ := hrel
    clear HO0 HK0
    by_cases hlt : k < Hs.length
    · skip
      obtain ⟨b, off, ea, c0, c1, c2, c3, c4, c5, c6⟩ := hts_at (unhide HCH _ (HKA.out.trans HKr.out)) k hlt
      have HX := hide ea
      clear ea
      have HS : Hid (Hs.take (k + 1) = Hs.take k ++ [Hs[k]]) := by show _ = _; rw [List.take_add_one, List.getElem?_eq_getElem hlt]; rfl
      generalize Hs[k] = x at *
      obtain ⟨xky, xinn, xout, xai, xao, xkp, xag⟩ := x
      dsimp only at c0 c1 c2 c3 c4 c5 c6 HS
      have HO2 := hide ((HO.out.alloc (.cells #[.int .i64 xky, .int .i64 xinn, .int .i64 xout, .int .i64 xai, .int .i64 xao, .bool xkp, .int .i64 xag] 126)).alloc (.cells #[.int .i64 xky] 3))
      have HK2 := hide (Keeps.alloc (Keeps.alloc HKr.out (.cells #[.int .i64 xky, .int .i64 xinn, .int .i64 xout, .int .i64 xai, .int .i64 xao, .bool xkp, .int .i64 xag] 126)) (.cells #[.int .i64 xky] 3))
      have HM2 := hide (its_one (wr.alloc (.cells #[.int .i64 xky, .int .i64 xinn, .int .i64 xout, .int .i64 xai, .int .i64 xao, .bool xkp, .int .i64 xag] 126)) xky 3)
      have hz : (wr.alloc (.cells #[.int .i64 xky, .int .i64 xinn, .int .i64 xout, .int .i64 xai, .int .i64 xao, .bool xkp, .int .i64 xag] 126)).heap.size = wr.heap.size + 1 := by simp
      rw [hz] at HM2
      have hb2 : W0.heap.size ≤ ((wr.alloc (.cells #[.int .i64 xky, .int .i64 xinn, .int .i64 xout, .int .i64 xai, .int .i64 xao, .bool xkp, .int .i64 xag] 126)).alloc (.cells #[.int .i64 xky] 3)).heap.size := HK2.out.size
      have HB2 := hide hb2
      clear hb2 hz
      obtain rfl := HX.out
      go_wp2_with (at_builtin; refine app_its rfl (.tmp 16) (.tmp 19) rfl W0.heap.size _ (keysTo (Hs.take k) []) [xky] rfl ⟨wr.heap.size + 1, 0, none⟩ 1 rfl HM2.out HO2.out (by simp [keysTo]; omega) HB2.out ?_; intro v' w' ho hg hn)
      go_roundw
      case rel =>
        refine ⟨k + 1, by omega, by go_num, ?_, hn HN.out, Keeps.grown HK2.out hg (fun j hj => (HO2.out.lt j hj).1)⟩
        show OwnsI _ _ _ _
        rw [HS.out]
        simpa [keysTo] using ho
      case measure => simp [intOf]; omega
    · have e : k = Hs.length := by omega
      subst e
      rw [List.take_length] at HO
      obtain ⟨-, -, -, -, -, b5⟩ := HBA.out.kept HKr.out
      dsimp only at b5
      go_wp2_with fail
      clear b5
      have HO1 := hide HO.out
      have HN1 := hide HN.out
      have HK1 := hide HKr.out
      clear HO HN HKr
      go_loopw [3, 25] (fun v y wr => ∃ k : Nat, k ≤ R.length ∧ y = .int .i64 (k : Int) ∧ Hid (OwnsI wr W0.heap.size v (keysTo Hs (R.take k))) ∧ Hid (v ≠ .slice none 0 0) ∧ Hid (Keeps W0 wr)) (fun _ y _ => R.length - (intOf y).toNat)
      case atStart => exact ⟨0, by omega, rfl, by show OwnsI _ _ _ _; simpa using HO1.out, HN1, HK1⟩
      case round =>
        obtain ⟨k, hk, rfl, HO, HN, HKr⟩ := hrel
        clear HO1 HN1 HK1
        by_cases hlt : k < R.length
        · skip
          obtain ⟨b, off, ea, c0, c1, c2, c3, c4⟩ := crs_at (unhide HCR _ (HKA.out.trans HKr.out)) k hlt
          have HX := hide ea
          clear ea
          have HS : Hid (R.take (k + 1) = R.take k ++ [R[k]]) := by show _ = _; rw [List.take_add_one, List.getElem?_eq_getElem hlt]; rfl
          generalize R[k] = x at *
          obtain ⟨xky, xfr, xto, xam, xfe⟩ := x
          dsimp only at c0 c1 c2 c3 c4 HS
          have HO2 := hide ((HO.out.alloc (.cells #[.int .i64 xky, .int .i64 xfr, .int .i64 xto, .int .i64 xam, .int .i64 xfe] 130)).alloc (.cells #[.int .i64 xky] 3))
          have HK2 := hide (Keeps.alloc (Keeps.alloc HKr.out (.cells #[.int .i64 xky, .int .i64 xfr, .int .i64 xto, .int .i64 xam, .int .i64 xfe] 130)) (.cells #[.int .i64 xky] 3))
          have HM2 := hide (its_one (wr.alloc (.cells #[.int .i64 xky, .int .i64 xfr, .int .i64 xto, .int .i64 xam, .int .i64 xfe] 130)) xky 3)
          have hz : (wr.alloc (.cells #[.int .i64 xky, .int .i64 xfr, .int .i64 xto, .int .i64 xam, .int .i64 xfe] 130)).heap.size = wr.heap.size + 1 := by simp
          rw [hz] at HM2
          have hb2 : W0.heap.size ≤ ((wr.alloc (.cells #[.int .i64 xky, .int .i64 xfr, .int .i64 xto, .int .i64 xam, .int .i64 xfe] 130)).alloc (.cells #[.int .i64 xky] 3)).heap.size := HK2.out.size
          have HB2 := hide hb2
          clear hb2 hz
          obtain rfl := HX.out
          go_wp2_with (at_builtin; refine app_its rfl (.tmp 29) (.tmp 32) rfl W0.heap.size _ (keysTo Hs (R.take k)) [xky] rfl ⟨wr.heap.size + 1, 0, none⟩ 1 rfl HM2.out HO2.out (by simp [keysTo]; omega) HB2.out ?_; intro v' w' ho hg hn)
          go_roundw
          case rel =>
            refine ⟨k + 1, by omega, by go_num, ?_, hn HN.out, Keeps.grown HK2.out hg (fun j hj => (HO2.out.lt j hj).1)⟩
            show OwnsI _ _ _ _
            rw [HS.out]
            simpa [keysTo] using ho
          case measure => simp [intOf]; omega
        · have e : k = R.length := by omega
          subst e
          rw [List.take_length] at HO
          obtain ⟨g, cap, e1, hb, hlt', h1, h2, h3, -⟩ := Go.Lib.holds_of_ownsRow (enc := Value.int .i64) (zs := keysTo Hs R) HO.out HN.out
          have HVE := hide e1
          obtain rfl := HVE.out
          clear e1
          go_wp2_with fail
          go_ret
          refine ⟨g, cap, rfl, ?_, HKA.out.trans HKr.out⟩
          exact OwnsI.older HO.out (by have := HSZ.out; omega)
set_option maxHeartbeats 2000000 in
theorem out_spec (B : Bo) (ch : Int) (w : World) (hm : Mem w B.segs) (hs : Small B.d) : Calls Tryz.prog 114 #[B.v, .int .i64 ch] w fun e w' => e = .returned (.int .i64 (outV B.d ch)) ∧ Keeps w w' := by
  have hl := hs.2.2.1
  obtain ⟨tk, nx, wa, ca, cc, C, ha, hc, Hs, ra, rc, R⟩ := B
  have HCC := hide (fun w' (hk : Keeps w w') => Bo.memC (hm.kept hk))
  have HCH := hide (fun w' (hk : Keeps w w') => Bo.memH (hm.kept hk))
  have HCR := hide (fun w' (hk : Keeps w w') => Bo.memR (hm.kept hk))
  have HL := hide hl
  have HBA := hide (book_box ⟨tk, nx, wa, ca, cc, C, ha, hc, Hs, ra, rc, R⟩ w 27)
  have HKA := hide (Keeps.alloc (Keeps.refl w) (.cells #[.int .i64 tk, .int .i64 nx, .int .i64 wa, .slice ca C.length cc, .slice ha Hs.length hc, .slice ra R.length rc] 27))
  dsimp only [Bo.d, Bo.v] at *
  clear hm hl
  go_enter Tryz.func114, Tryz.ntmps114
  go_wp2_with fail
  obtain ⟨hsH, hsR, hlH, hlR⟩ := hs
  have HsH := hide hsH
  have HsR := hide hsR
  clear hsH hsR
  generalize w.alloc (.cells #[.int .i64 tk, .int .i64 nx, .int .i64 wa, .slice ca C.length cc, .slice ha Hs.length hc, .slice ra R.length rc] 27) = W0 at *
  dsimp only at hlH hlR
  go_loopw [5, 13] (fun x z wr => ∃ (k : Nat) (p : Int), k ≤ Hs.length ∧ x = .int .i64 p ∧ z = .int .i64 (k : Int) ∧ Hid (p = outH (Hs.take k) ch) ∧ Hid (Keeps W0 wr)) (fun _ z _ => Hs.length - (intOf z).toNat)
  case atStart => exact ⟨0, 0, by omega, rfl, rfl, by show _ = _; simp [outH], Keeps.refl _⟩
  case round =>
    obtain ⟨k, p, hk, rfl, rfl, HP, HKr⟩ := hrel
    have HB := hide (HBA.out.kept HKr.out)
    by_cases hlt : k < Hs.length
    · have hp : 0 ≤ p ∧ p ≤ 1125899906842624 * 60 := by rw [HP.out]; exact sum_small _ 1125899906842624 Hs k 60 (by decide) (by omega) hlH (fun x hx => by have := HsH.out x hx; split <;> omega)
      have HPn : Hid (outH (Hs.take (k + 1)) ch = p + if Hs[k].out = ch then Hs[k].ao else 0) := by show _ = _; rw [HP.out]; exact sum_take_succ _ Hs k hlt
      have hz := HsH.out Hs[k] (List.getElem_mem hlt)
      obtain ⟨b, off, ea, c0, c1, c2, c3, c4, c5, c6⟩ := hts_at (unhide HCH _ (HKA.out.trans HKr.out)) k hlt
      have HX := hide ea
      obtain rfl := HX.out
      generalize Hs[k] = x at *
      obtain ⟨xky, xinn, xout, xai, xao, xkp, xag⟩ := x
      dsimp only at c0 c1 c2 c3 c4 c5 c6 HPn hz
      obtain ⟨z0, z1, z2, z3⟩ := hz
      obtain ⟨hp0, hp1⟩ := hp
      have HKe := hide (HKr.out.trans (Keeps.alloc (Keeps.refl wr) (.cells #[.int .i64 xky, .int .i64 xinn, .int .i64 xout, .int .i64 xai, .int .i64 xao, .bool xkp, .int .i64 xag] 126)))
      clear HP HB
      by_cases ho : xout = ch
      all_goals
        (try simp only [if_pos ho] at HPn); (try simp only [if_neg ho] at HPn)
        (try subst ho)
        go_wp2_with fail
        go_roundw
        case rel => exact ⟨k + 1, _, by omega, rfl, by go_num, by show _ = _; rw [HPn.out]; (try omega), HKe.out⟩
        case measure => simp [intOf]; omega
    · have e : k = Hs.length := by omega
      subst e
      rw [List.take_length] at HP
      have hp : 0 ≤ p ∧ p ≤ 1125899906842624 * 60 := by rw [HP.out]; have := sum_small (fun h : Htl => if h.out = ch then h.ao else 0) 1125899906842624 Hs Hs.length 60 (by decide) hlH hlH (fun x hx => by have := HsH.out x hx; split <;> omega); rw [List.take_length] at this; exact this
      obtain ⟨hp0, hp1⟩ := hp
      obtain ⟨-, -, -, -, -, b5⟩ := HB.out
      dsimp only at b5
      have HKs := hide HKr.out
      clear HB HKr
      go_wp2_with fail
      generalize wr = W2 at *
      go_loopw [5, 29] (fun x z wr => ∃ (k : Nat) (p' : Int), k ≤ R.length ∧ x = .int .i64 p' ∧ z = .int .i64 (k : Int) ∧ Hid (p' = p + outR (R.take k) ch) ∧ Hid (Keeps W2 wr)) (fun _ z _ => R.length - (intOf z).toNat)
      case atStart => exact ⟨0, p, by omega, rfl, rfl, by show _ = _; simp [outR], Keeps.refl _⟩
      case round =>
        obtain ⟨k, p', hk, rfl, rfl, HP2, HKr⟩ := hrel
        by_cases hlt : k < R.length
        · have hp : 0 ≤ p' ∧ p' ≤ 1125899906842624 * 60 + 2251799813685248 * 20 := by rw [HP2.out]; have : 0 ≤ outR (R.take k) ch ∧ outR (R.take k) ch ≤ 2251799813685248 * 20 := sum_small _ 2251799813685248 R k 20 (by decide) (by omega) hlR (fun x hx => by have := HsR.out x hx; split <;> omega); omega
          have HPn : Hid (p + outR (R.take (k + 1)) ch = p' + if R[k].fr = ch then R[k].am + R[k].fe else 0) := by show _ = _; rw [HP2.out, Int.add_assoc]; congr 1; exact sum_take_succ _ R k hlt
          have hz := HsR.out R[k] (List.getElem_mem hlt)
          obtain ⟨b, off, ea, c0, c1, c2, c3, c4⟩ := crs_at (unhide HCR _ (HKA.out.trans (HKs.out.trans HKr.out))) k hlt
          have HX := hide ea
          obtain rfl := HX.out
          generalize R[k] = x at *
          obtain ⟨xky, xfr, xto, xam, xfe⟩ := x
          dsimp only at c0 c1 c2 c3 c4 HPn hz
          obtain ⟨z0, z1, z2, z3⟩ := hz
          clear hp0 hp1
          obtain ⟨hp0, hp1⟩ := hp
          have HKe := hide (HKr.out.trans (Keeps.alloc (Keeps.refl wr) (.cells #[.int .i64 xky, .int .i64 xfr, .int .i64 xto, .int .i64 xam, .int .i64 xfe] 130)))
          clear HP HP2
          by_cases ho : xfr = ch
          all_goals
            (try simp only [if_pos ho] at HPn); (try simp only [if_neg ho] at HPn)
            (try subst ho)
            go_wp2_with fail
            go_roundw
            case rel => exact ⟨k + 1, _, by omega, rfl, by go_num, by show _ = _; rw [HPn.out]; (try omega), HKe.out⟩
            case measure => simp [intOf]; omega
        · have e : k = R.length := by omega
          subst e
          rw [List.take_length] at HP2
          go_wp2_with fail
          go_ret
          exact ⟨ret_i (by rw [HP2.out, HP.out]; rfl), (HKA.out.trans HKs.out).trans HKr.out⟩
set_option maxHeartbeats 2000000 in
theorem in_spec (B : Bo) (ch : Int) (w : World) (hm : Mem w B.segs) (hs : Small B.d) : Calls Tryz.prog 115 #[B.v, .int .i64 ch] w fun e w' => e = .returned (.int .i64 (inV B.d ch)) ∧ Keeps w w' := by
  have hl := hs.2.2.1
  obtain ⟨tk, nx, wa, ca, cc, C, ha, hc, Hs, ra, rc, R⟩ := B
  have HCC := hide (fun w' (hk : Keeps w w') => Bo.memC (hm.kept hk))
  have HCH := hide (fun w' (hk : Keeps w w') => Bo.memH (hm.kept hk))
  have HCR := hide (fun w' (hk : Keeps w w') => Bo.memR (hm.kept hk))
  have HL := hide hl
  have HBA := hide (book_box ⟨tk, nx, wa, ca, cc, C, ha, hc, Hs, ra, rc, R⟩ w 27)
  have HKA := hide (Keeps.alloc (Keeps.refl w) (.cells #[.int .i64 tk, .int .i64 nx, .int .i64 wa, .slice ca C.length cc, .slice ha Hs.length hc, .slice ra R.length rc] 27))
  dsimp only [Bo.d, Bo.v] at *
  clear hm hl
  go_enter Tryz.func115, Tryz.ntmps115
  go_wp2_with fail
  obtain ⟨hsH, hsR, hlH, hlR⟩ := hs
  have HsH := hide hsH
  have HsR := hide hsR
  clear hsH hsR
  generalize w.alloc (.cells #[.int .i64 tk, .int .i64 nx, .int .i64 wa, .slice ca C.length cc, .slice ha Hs.length hc, .slice ra R.length rc] 27) = W0 at *
  dsimp only at hlH hlR
  go_loopw [5, 13] (fun x z wr => ∃ (k : Nat) (p : Int), k ≤ Hs.length ∧ x = .int .i64 p ∧ z = .int .i64 (k : Int) ∧ Hid (p = inH (Hs.take k) ch) ∧ Hid (Keeps W0 wr)) (fun _ z _ => Hs.length - (intOf z).toNat)
  case atStart => exact ⟨0, 0, by omega, rfl, rfl, by show _ = _; simp [inH], Keeps.refl _⟩
  case round =>
    obtain ⟨k, p, hk, rfl, rfl, HP, HKr⟩ := hrel
    have HB := hide (HBA.out.kept HKr.out)
    by_cases hlt : k < Hs.length
    · have hp : 0 ≤ p ∧ p ≤ 1125899906842624 * 60 := by rw [HP.out]; exact sum_small _ 1125899906842624 Hs k 60 (by decide) (by omega) hlH (fun x hx => by have := HsH.out x hx; split <;> omega)
      have HPn : Hid (inH (Hs.take (k + 1)) ch = p + if Hs[k].inn = ch then Hs[k].ai else 0) := by show _ = _; rw [HP.out]; exact sum_take_succ _ Hs k hlt
      have hz := HsH.out Hs[k] (List.getElem_mem hlt)
      obtain ⟨b, off, ea, c0, c1, c2, c3, c4, c5, c6⟩ := hts_at (unhide HCH _ (HKA.out.trans HKr.out)) k hlt
      have HX := hide ea
      obtain rfl := HX.out
      generalize Hs[k] = x at *
      obtain ⟨xky, xinn, xout, xai, xao, xkp, xag⟩ := x
      dsimp only at c0 c1 c2 c3 c4 c5 c6 HPn hz
      obtain ⟨z0, z1, z2, z3⟩ := hz
      obtain ⟨hp0, hp1⟩ := hp
      have HKe := hide (HKr.out.trans (Keeps.alloc (Keeps.refl wr) (.cells #[.int .i64 xky, .int .i64 xinn, .int .i64 xout, .int .i64 xai, .int .i64 xao, .bool xkp, .int .i64 xag] 126)))
      clear HP HB
      by_cases ho : xinn = ch
      all_goals
        (try simp only [if_pos ho] at HPn); (try simp only [if_neg ho] at HPn)
        (try subst ho)
        go_wp2_with fail
        go_roundw
        case rel => exact ⟨k + 1, _, by omega, rfl, by go_num, by show _ = _; rw [HPn.out]; (try omega), HKe.out⟩
        case measure => simp [intOf]; omega
    · have e : k = Hs.length := by omega
      subst e
      rw [List.take_length] at HP
      have hp : 0 ≤ p ∧ p ≤ 1125899906842624 * 60 := by rw [HP.out]; have := sum_small (fun h : Htl => if h.inn = ch then h.ai else 0) 1125899906842624 Hs Hs.length 60 (by decide) hlH hlH (fun x hx => by have := HsH.out x hx; split <;> omega); rw [List.take_length] at this; exact this
      obtain ⟨hp0, hp1⟩ := hp
      obtain ⟨-, -, -, -, -, b5⟩ := HB.out
      dsimp only at b5
      have HKs := hide HKr.out
      clear HB HKr
      go_wp2_with fail
      generalize wr = W2 at *
      go_loopw [5, 29] (fun x z wr => ∃ (k : Nat) (p' : Int), k ≤ R.length ∧ x = .int .i64 p' ∧ z = .int .i64 (k : Int) ∧ Hid (p' = p + inR (R.take k) ch) ∧ Hid (Keeps W2 wr)) (fun _ z _ => R.length - (intOf z).toNat)
      case atStart => exact ⟨0, p, by omega, rfl, rfl, by show _ = _; simp [inR], Keeps.refl _⟩
      case round =>
        obtain ⟨k, p', hk, rfl, rfl, HP2, HKr⟩ := hrel
        by_cases hlt : k < R.length
        · have hp : 0 ≤ p' ∧ p' ≤ 1125899906842624 * 60 + 1125899906842624 * 20 := by rw [HP2.out]; have : 0 ≤ inR (R.take k) ch ∧ inR (R.take k) ch ≤ 1125899906842624 * 20 := sum_small _ 1125899906842624 R k 20 (by decide) (by omega) hlR (fun x hx => by have := HsR.out x hx; split <;> omega); omega
          have HPn : Hid (p + inR (R.take (k + 1)) ch = p' + if R[k].to = ch then R[k].am else 0) := by show _ = _; rw [HP2.out, Int.add_assoc]; congr 1; exact sum_take_succ _ R k hlt
          have hz := HsR.out R[k] (List.getElem_mem hlt)
          obtain ⟨b, off, ea, c0, c1, c2, c3, c4⟩ := crs_at (unhide HCR _ (HKA.out.trans (HKs.out.trans HKr.out))) k hlt
          have HX := hide ea
          obtain rfl := HX.out
          generalize R[k] = x at *
          obtain ⟨xky, xfr, xto, xam, xfe⟩ := x
          dsimp only at c0 c1 c2 c3 c4 HPn hz
          obtain ⟨z0, z1, z2, z3⟩ := hz
          clear hp0 hp1
          obtain ⟨hp0, hp1⟩ := hp
          have HKe := hide (HKr.out.trans (Keeps.alloc (Keeps.refl wr) (.cells #[.int .i64 xky, .int .i64 xfr, .int .i64 xto, .int .i64 xam, .int .i64 xfe] 130)))
          clear HP HP2
          by_cases ho : xto = ch
          all_goals
            (try simp only [if_pos ho] at HPn); (try simp only [if_neg ho] at HPn)
            (try subst ho)
            go_wp2_with fail
            go_roundw
            case rel => exact ⟨k + 1, _, by omega, rfl, by go_num, by show _ = _; rw [HPn.out]; (try omega), HKe.out⟩
            case measure => simp [intOf]; omega
        · have e : k = R.length := by omega
          subst e
          rw [List.take_length] at HP2
          go_wp2_with fail
          go_ret
          exact ⟨ret_i (by rw [HP2.out, HP.out]; rfl), (HKA.out.trans HKs.out).trans HKr.out⟩
end Go.Proofs.YtjdbedlgkngdkaaGreatDoor
namespace Go.Proofs.YtjdbedlgkngdkaaGreatDoor
open Go.RowKit Go.Deep
set_option linter.unusedVariables false
set_option linter.unusedSimpArgs false
set_option maxRecDepth 10000

theorem htB_def (C : List Chn) (h : Htl) : htB C h = (twoB C h.inn h.out && (amtB h.ai && (amtB h.ao && (decide (1 ≤ h.ao) && (decide (h.ao ≤ h.ai) && amtB h.ag))))) := by
  have e : decide (0 < h.ao) = decide (1 ≤ h.ao) := by apply decide_eq_decide.2; omega
  unfold htB posB
  rw [e]
  cases twoB C h.inn h.out <;> cases amtB h.ai <;> cases amtB h.ao <;> cases decide (1 ≤ h.ao) <;> cases decide (h.ao ≤ h.ai) <;> cases amtB h.ag <;> rfl
theorem crB_def (C : List Chn) (c : Crc) : crB C c = (twoB C c.fr c.to && (amtB c.am && (decide (1 ≤ c.am) && amtB c.fe))) := by
  have e : decide (0 < c.am) = decide (1 ≤ c.am) := by apply decide_eq_decide.2; omega
  unfold crB posB
  rw [e]
  cases twoB C c.fr c.to <;> cases amtB c.am <;> cases decide (1 ≤ c.am) <;> cases amtB c.fe <;> rfl
theorem keysB_no1 {L : List Int} {k : Nat} (hk : k < L.length) (h : keyB L[k] = false) : keysB L = false := by
  simp [keysB, all_no hk h]
theorem keysB_no2 {L : List Int} {k : Nat} (hk : k < L.length) (h : L[k] ∈ L.take k) : keysB L = false := by
  have : ¬ L.Nodup := fun hn => by
    obtain ⟨j, hj, e⟩ := List.getElem_of_mem h
    rw [List.length_take] at hj
    rw [List.getElem_take] at e
    exact (List.pairwise_iff_getElem.1 hn j k (by omega) hk (by omega)) e
  simp [keysB, this]
theorem keysB_yes {L : List Int} (h1 : ∀ k (hk : k < L.length), keyB L[k] = true) (h2 : ∀ k (hk : k < L.length), L[k] ∉ L.take k) : keysB L = true := by
  have hn : L.Nodup := List.pairwise_iff_getElem.2 (fun i j hi hj hij e => h2 j hj (by
    rw [← e]
    exact List.mem_take_iff_getElem.2 ⟨i, by omega, rfl⟩))
  simp [keysB, all_yes h1, hn]
set_option maxHeartbeats 8000000 in
theorem under_spec (B : Bo) (w : World) (hm : Mem w B.segs) (hl : B.C.length ≤ 1048576) (hH : B.Hs.length ≤ 60) (hR : B.R.length ≤ 20) : Calls Tryz.prog 112 #[B.v] w fun e w' => e = .returned (.bool (underB B.d)) ∧ Keeps w w' := by
  have H1 := hide (fun x y w' (hk : Keeps w w') => two_spec B x y w' (hm.kept hk) hl)
  have H2 := hide (fun w' (hk : Keeps w w') => keys_spec B w' (hm.kept hk) hH hR)
  obtain ⟨tk, nx, wa, ca, cc, C, ha, hc, Hs, ra, rc, R⟩ := B
  have HCC := hide (fun w' (hk : Keeps w w') => Bo.memC (hm.kept hk))
  have HCH := hide (fun w' (hk : Keeps w w') => Bo.memH (hm.kept hk))
  have HCR := hide (fun w' (hk : Keeps w w') => Bo.memR (hm.kept hk))
  have HL := hide hl
  have HBA := hide (book_box ⟨tk, nx, wa, ca, cc, C, ha, hc, Hs, ra, rc, R⟩ w 27)
  have HKA := hide (Keeps.alloc (Keeps.refl w) (.cells #[.int .i64 tk, .int .i64 nx, .int .i64 wa, .slice ca C.length cc, .slice ha Hs.length hc, .slice ra R.length rc] 27))
  dsimp only [Bo.d, Bo.v] at *
  clear hm hl
  go_enter Tryz.func112, Tryz.ntmps112
  go_wp2_with fail
  generalize w.alloc (.cells #[.int .i64 tk, .int .i64 nx, .int .i64 wa, .slice ca C.length cc, .slice ha Hs.length hc, .slice ra R.length rc] 27) = W0 at *
  have HKS := hide (Keeps.refl W0)
  go_loopw [13] (fun y wr => ∃ k : Nat, k ≤ Hs.length ∧ y = .int .i64 (k : Int) ∧ Hid (∀ j (hj : j < Hs.length), j < k → htB C Hs[j] = true) ∧ Hid (Keeps W0 wr)) (fun y _ => Hs.length - (intOf y).toNat)
  case atStart => exact ⟨0, by omega, rfl, fun j hj h => absurd h (by omega), HKS.out⟩
  case round =>
    obtain ⟨k, hk, rfl, HG, HKr⟩ := hrel
    clear HKS
    by_cases hlt : k < Hs.length
    · skip
      obtain ⟨b, off, ea, c0, c1, c2, c3, c4, c5, c6⟩ := hts_at (unhide HCH _ (HKA.out.trans HKr.out)) k hlt
      subst ea
      have HX : Hid (Hs[k] = Hs[k]) := rfl
      generalize hx : Hs[k] = x at c0 c1 c2 c3 c4 c5 c6 HX
      replace HX := hide hx
      clear hx
      obtain ⟨xky, xinn, xout, xai, xao, xkp, xag⟩ := x
      dsimp only at c0 c1 c2 c3 c4 c5 c6
      have HA := hide (rowc7 wr (.int .i64 xky) (.int .i64 xinn) (.int .i64 xout) (.int .i64 xai) (.int .i64 xao) (.bool xkp) (.int .i64 xag) 126)
      have HKv := hide (HKr.out.trans (Keeps.alloc (Keeps.refl wr) (.cells #[.int .i64 xky, .int .i64 xinn, .int .i64 xout, .int .i64 xai, .int .i64 xao, .bool xkp, .int .i64 xag] 126)))
      obtain ⟨b0, b1, b2, b3, b4, b5⟩ := HBA.out.kept HKv.out
      dsimp only at b0 b1 b2 b3 b4 b5
      go_wp2_with fail
      clear b0 b1 b2 b3 b4 b5
      generalize wr.alloc (.cells #[.int .i64 xky, .int .i64 xinn, .int .i64 xout, .int .i64 xai, .int .i64 xao, .bool xkp, .int .i64 xag] 126) = W1 at *
      have HKc := hide (Keeps.refl W1)
      refine (unhide H1 xinn xout _ (HKA.out.trans HKv.out)).mono ?_
      rintro e w1 ⟨rfl, hk⟩
      replace HKc := hide (HKc.out.trans hk)
      clear hk
      obtain ⟨d0, d1, d2, d3, d4, d5, d6⟩ := unhide HA w1 HKc.out
      cases hbw1 : twoB C xinn xout
      · go_wp2_with fail
        go_ret
        exact ⟨ret_b (by unfold underB; rw [show Hs.all (htB C) = false from all_no hlt (by rw [HX.out, htB_def]; simp [hbw1]; try omega)]; rfl), (HKA.out.trans HKv.out).trans HKc.out⟩
      go_wp2_with fail
      refine (amt_spec xai _).mono ?_
      rintro e w2 ⟨rfl, hk⟩
      replace HKc := hide (HKc.out.trans hk)
      clear d0 d1 d2 d3 d4 d5 d6
      clear hk
      obtain ⟨d0, d1, d2, d3, d4, d5, d6⟩ := unhide HA w2 HKc.out
      cases hbw2 : amtB xai
      · go_wp2_with fail
        go_ret
        exact ⟨ret_b (by unfold underB; rw [show Hs.all (htB C) = false from all_no hlt (by rw [HX.out, htB_def]; simp [hbw1, hbw2]; try omega)]; rfl), (HKA.out.trans HKv.out).trans HKc.out⟩
      go_wp2_with fail
      refine (amt_spec xao _).mono ?_
      rintro e w3 ⟨rfl, hk⟩
      replace HKc := hide (HKc.out.trans hk)
      clear d0 d1 d2 d3 d4 d5 d6
      clear hk
      obtain ⟨d0, d1, d2, d3, d4, d5, d6⟩ := unhide HA w3 HKc.out
      cases hbw3 : amtB xao
      · go_wp2_with fail
        go_ret
        exact ⟨ret_b (by unfold underB; rw [show Hs.all (htB C) = false from all_no hlt (by rw [HX.out, htB_def]; simp [hbw1, hbw2, hbw3]; try omega)]; rfl), (HKA.out.trans HKv.out).trans HKc.out⟩
      by_cases hpw3_3 : xao < 1
      · have hpw3_3d := hide hpw3_3
        go_wp2_with fail
        go_ret
        exact ⟨ret_b (by unfold underB; rw [show Hs.all (htB C) = false from all_no hlt (by rw [HX.out, htB_def]; simp [hbw1, hbw2, hbw3, hpw3_3d.out]; try omega)]; rfl), (HKA.out.trans HKv.out).trans HKc.out⟩
      have hpw3_3d := hide hpw3_3
      by_cases hpw3_4 : xai < xao
      · have hpw3_4d := hide hpw3_4
        go_wp2_with fail
        go_ret
        exact ⟨ret_b (by unfold underB; rw [show Hs.all (htB C) = false from all_no hlt (by rw [HX.out, htB_def]; simp [hbw1, hbw2, hbw3, hpw3_3d.out, hpw3_4d.out]; try omega)]; rfl), (HKA.out.trans HKv.out).trans HKc.out⟩
      have hpw3_4d := hide hpw3_4
      go_wp2_with fail
      refine (amt_spec xag _).mono ?_
      rintro e w4 ⟨rfl, hk⟩
      replace HKc := hide (HKc.out.trans hk)
      clear d0 d1 d2 d3 d4 d5 d6
      clear hk
      obtain ⟨d0, d1, d2, d3, d4, d5, d6⟩ := unhide HA w4 HKc.out
      cases hbw4 : amtB xag
      · go_wp2_with fail
        go_ret
        exact ⟨ret_b (by unfold underB; rw [show Hs.all (htB C) = false from all_no hlt (by rw [HX.out, htB_def]; simp [hbw1, hbw2, hbw3, hpw3_3d.out, hpw3_4d.out, hbw4]; try omega)]; rfl), (HKA.out.trans HKv.out).trans HKc.out⟩
      go_wp2_with fail
      have HOK : Hid (htB C ⟨xky, xinn, xout, xai, xao, xkp, xag⟩ = true) := by show _ = _; rw [htB_def]; simp [hbw1, hbw2, hbw3, hpw3_3d.out, hpw3_4d.out, hbw4]; try omega
      have HKe := hide (HKv.out.trans HKc.out)
      go_roundw
      case rel => exact ⟨k + 1, by omega, by go_num, fun j hj h => by
                    by_cases e : j = k
                    · subst e; rw [HX.out]; exact HOK.out
                    · exact HG.out j hj (by omega), HKe.out⟩
      case measure => simp [intOf]; omega
    · have HAHs : Hid (Hs.all (htB C) = true) := all_yes (fun j hj => HG.out j hj (by omega))
      have HKS := hide HKr.out
      clear HG
      obtain ⟨-, -, -, -, -, b5⟩ := HBA.out.kept HKr.out
      dsimp only at b5
      go_wp2_with fail
      clear b5 HKr
      go_loopw [58] (fun y wr => ∃ k : Nat, k ≤ R.length ∧ y = .int .i64 (k : Int) ∧ Hid (∀ j (hj : j < R.length), j < k → crB C R[j] = true) ∧ Hid (Keeps W0 wr)) (fun y _ => R.length - (intOf y).toNat)
      case atStart => exact ⟨0, by omega, rfl, fun j hj h => absurd h (by omega), HKS.out⟩
      case round =>
        obtain ⟨k, hk, rfl, HG, HKr⟩ := hrel
        clear HKS
        by_cases hlt : k < R.length
        · skip
          obtain ⟨b, off, ea, c0, c1, c2, c3, c4⟩ := crs_at (unhide HCR _ (HKA.out.trans HKr.out)) k hlt
          subst ea
          have HX : Hid (R[k] = R[k]) := rfl
          generalize hx : R[k] = x at c0 c1 c2 c3 c4 HX
          replace HX := hide hx
          clear hx
          obtain ⟨xky, xfr, xto, xam, xfe⟩ := x
          dsimp only at c0 c1 c2 c3 c4
          have HA := hide (rowc5 wr (.int .i64 xky) (.int .i64 xfr) (.int .i64 xto) (.int .i64 xam) (.int .i64 xfe) 130)
          have HKv := hide (HKr.out.trans (Keeps.alloc (Keeps.refl wr) (.cells #[.int .i64 xky, .int .i64 xfr, .int .i64 xto, .int .i64 xam, .int .i64 xfe] 130)))
          obtain ⟨b0, b1, b2, b3, b4, b5⟩ := HBA.out.kept HKv.out
          dsimp only at b0 b1 b2 b3 b4 b5
          go_wp2_with fail
          clear b0 b1 b2 b3 b4 b5
          generalize wr.alloc (.cells #[.int .i64 xky, .int .i64 xfr, .int .i64 xto, .int .i64 xam, .int .i64 xfe] 130) = W1 at *
          have HKc := hide (Keeps.refl W1)
          refine (unhide H1 xfr xto _ (HKA.out.trans HKv.out)).mono ?_
          rintro e w5 ⟨rfl, hk⟩
          replace HKc := hide (HKc.out.trans hk)
          clear hk
          obtain ⟨d0, d1, d2, d3, d4⟩ := unhide HA w5 HKc.out
          cases hbw5 : twoB C xfr xto
          · go_wp2_with fail
            go_ret
            exact ⟨ret_b (by unfold underB; rw [show R.all (crB C) = false from all_no hlt (by rw [HX.out, crB_def]; simp [hbw5]; try omega)]; simp), (HKA.out.trans HKv.out).trans HKc.out⟩
          go_wp2_with fail
          refine (amt_spec xam _).mono ?_
          rintro e w6 ⟨rfl, hk⟩
          replace HKc := hide (HKc.out.trans hk)
          clear d0 d1 d2 d3 d4
          clear hk
          obtain ⟨d0, d1, d2, d3, d4⟩ := unhide HA w6 HKc.out
          cases hbw6 : amtB xam
          · go_wp2_with fail
            go_ret
            exact ⟨ret_b (by unfold underB; rw [show R.all (crB C) = false from all_no hlt (by rw [HX.out, crB_def]; simp [hbw5, hbw6]; try omega)]; simp), (HKA.out.trans HKv.out).trans HKc.out⟩
          by_cases hpw6_2 : xam < 1
          · have hpw6_2d := hide hpw6_2
            go_wp2_with fail
            go_ret
            exact ⟨ret_b (by unfold underB; rw [show R.all (crB C) = false from all_no hlt (by rw [HX.out, crB_def]; simp [hbw5, hbw6, hpw6_2d.out]; try omega)]; simp), (HKA.out.trans HKv.out).trans HKc.out⟩
          have hpw6_2d := hide hpw6_2
          go_wp2_with fail
          refine (amt_spec xfe _).mono ?_
          rintro e w7 ⟨rfl, hk⟩
          replace HKc := hide (HKc.out.trans hk)
          clear d0 d1 d2 d3 d4
          clear hk
          obtain ⟨d0, d1, d2, d3, d4⟩ := unhide HA w7 HKc.out
          cases hbw7 : amtB xfe
          · go_wp2_with fail
            go_ret
            exact ⟨ret_b (by unfold underB; rw [show R.all (crB C) = false from all_no hlt (by rw [HX.out, crB_def]; simp [hbw5, hbw6, hpw6_2d.out, hbw7]; try omega)]; simp), (HKA.out.trans HKv.out).trans HKc.out⟩
          go_wp2_with fail
          have HOK : Hid (crB C ⟨xky, xfr, xto, xam, xfe⟩ = true) := by show _ = _; rw [crB_def]; simp [hbw5, hbw6, hpw6_2d.out, hbw7]; try omega
          have HKe := hide (HKv.out.trans HKc.out)
          go_roundw
          case rel => exact ⟨k + 1, by omega, by go_num, fun j hj h => by
                        by_cases e : j = k
                        · subst e; rw [HX.out]; exact HOK.out
                        · exact HG.out j hj (by omega), HKe.out⟩
          case measure => simp [intOf]; omega
        · have HAR : Hid (R.all (crB C) = true) := all_yes (fun j hj => HG.out j hj (by omega))
          have HKS := hide HKr.out
          clear HG
          obtain ⟨b0, b1, b2, b3, b4, b5⟩ := HBA.out.kept HKr.out
          dsimp only at b0 b1 b2 b3 b4 b5
          go_wp2_with fail
          clear b0 b1 b2 b3 b4 b5
          refine (unhide H2 _ (HKA.out.trans HKr.out)).mono ?_
          rintro e w3 ⟨g, cap, rfl, ho3, hk3⟩
          have HU : Hid (underB ⟨tk, nx, wa, C, Hs, R⟩ = keysB (keysL ⟨tk, nx, wa, C, Hs, R⟩)) := by show _ = _; unfold underB; rw [HAHs.out, HAR.out]; rfl
          have hll : (keysL ⟨tk, nx, wa, C, Hs, R⟩).length ≤ 80 := by simp [keysL]; omega
          generalize keysL ⟨tk, nx, wa, C, Hs, R⟩ = L at *
          have HK3 := hide ((HKA.out.trans HKr.out).trans hk3)
          have HCM : Hid (∀ w'', Keeps w3 w'' → ∀ j (hj : j < L.length), w''.cell? ⟨g, j, none⟩ = some (.int .i64 L[j])) := fun w'' hk j hj => by
            refine hk.cell ?_
            have h := ho3.cells rfl j (.int .i64 L[j]) (by simp [its, hj])
            have ea : (⟨g, 0, none⟩ : Addr).add j = ⟨g, j, none⟩ := by simp [Addr.add]; intro h; exact h.symm
            rw [ea] at h; exact h
          have HCT : Hid (∀ w'', Keeps w3 w'' → ∀ k, k ≤ L.length → Cells w'' (some ⟨g, 0, none⟩) (its (L.take k))) := fun w'' hk k hkl => by
            refine Or.inr ⟨g, 0, rfl, fun j hj => ?_⟩
            have hj' : j < L.length := by simp [its] at hj; omega
            rw [Nat.zero_add, HCM.out w'' hk j hj']
            simp [its]
          have hcap : L.length ≤ cap := by
            rcases ho3.2 with ⟨e0, _⟩ | ⟨g', cap', cur, e0, _, _, hn, _⟩
            · cases e0
            · injection e0 with _ _ e3
              omega
          have hcm : cap ≤ maxLen := by
            rcases ho3.2 with ⟨e0, _⟩ | ⟨g', cap', cur, e0, _, _, hn, hm, _⟩
            · cases e0
            · injection e0 with _ _ e3
              omega
          simp only [maxLen] at hcm
          clear ho3 hk3 HKr HKS
          go_wp2_with fail
          go_loopw [91] (fun y wr => ∃ k : Nat, k ≤ L.length ∧ y = .int .i64 (k : Int) ∧ Hid (∀ j (hj : j < L.length), j < k → keyB L[j] = true) ∧ Hid (∀ j (hj : j < L.length), j < k → L[j] ∉ L.take j) ∧ Hid (Keeps w3 wr)) (fun y _ => L.length - (intOf y).toNat)
          case atStart => exact ⟨0, by omega, rfl, fun j hj h => absurd h (by omega), fun m hm h => absurd h (by omega), Keeps.refl _⟩
          case round =>
            obtain ⟨k, hk, rfl, HG, HG2, HKr⟩ := hrel
            by_cases hlt : k < L.length
            · have c0 := HCM.out _ HKr.out k hlt
              have HT := hide (fun x => hasint_spec (some ⟨g, 0, none⟩) cap (L.take k) x wr (HCT.out _ HKr.out k hk) (by rw [List.length_take]; omega))
              have hlk : (L.take k).length = k := by rw [List.length_take]; omega
              rw [hlk] at HT
              have HX : Hid (L[k] = L[k]) := rfl
              generalize hx : L[k] = x at c0 HX
              replace HX := hide hx
              clear hx hlk
              by_cases h1 : x < 1
              · have HB : Hid (keyB x = false) := by show _ = _; simp [keyB]; omega
                go_wp2_with fail
                go_ret
                exact ⟨ret_b (by rw [HU.out, keysB_no1 hlt (by rw [HX.out]; exact HB.out)]), HK3.out.trans HKr.out⟩
              by_cases h2 : 1000000 < x
              · have HB : Hid (keyB x = false) := by show _ = _; simp [keyB]; omega
                go_wp2_with fail
                go_ret
                exact ⟨ret_b (by rw [HU.out, keysB_no1 hlt (by rw [HX.out]; exact HB.out)]), HK3.out.trans HKr.out⟩
              have HB : Hid (keyB x = true) := by show _ = _; simp [keyB]; omega
              go_wp2_with fail
              refine (unhide HT x).mono ?_
              rintro e w4 ⟨rfl, hw⟩
              obtain rfl := Eq.symm hw
              clear hw
              by_cases hin : x ∈ L.take k
              · have HIN := hide hin
                rw [decide_eq_true hin]
                clear hin HT
                go_wp2_with fail
                go_ret
                exact ⟨ret_b (by rw [HU.out, keysB_no2 hlt (by rw [HX.out]; exact HIN.out)]), HK3.out.trans HKr.out⟩
              · have HIN := hide hin
                rw [decide_eq_false hin]
                clear hin HT
                go_wp2_with fail
                go_roundw
                case rel => exact ⟨k + 1, by omega, by go_num, fun j hj h => by
                              by_cases e : j = k
                              · subst e; rw [HX.out]; exact HB.out
                              · exact HG.out j hj (by omega), fun j hj h => by
                              by_cases e : j = k
                              · subst e; rw [HX.out]; exact HIN.out
                              · exact HG2.out j hj (by omega), HKr.out⟩
                case measure => simp [intOf]; omega
            · have HR : Hid (keysB L = true) := keysB_yes (fun j hj => HG.out j hj (by omega)) (fun j hj => HG2.out j hj (by omega))
              go_wp2_with fail
              go_ret
              exact ⟨ret_b (by rw [HU.out, HR.out]), HK3.out.trans HKr.out⟩
end Go.Proofs.YtjdbedlgkngdkaaGreatDoor
