/- The model's words on books: keys, what is under way. -/
import Derived.Test.YtphabdjhmahemaaBsA
namespace Go.Proofs.Ytphabdjhmahemaa
open Go.RowKit Go.Deep
set_option linter.unusedVariables false
set_option linter.unusedSimpArgs false
set_option maxRecDepth 10000

theorem OwnsI.older {w : World} {base base' : Nat} {v : Value} {L : List Int} (h : OwnsI w base v L) (hb : base' ≤ base) : OwnsI w base' v L := by
  refine ⟨h.1, ?_⟩
  rcases h.2 with h' | ⟨g, cap, cur, rfl, hb', rest⟩
  · exact .inl h'
  · exact .inr ⟨g, cap, cur, rfl, by omega, rest⟩
set_option maxHeartbeats 4000000 in
theorem keys_spec (B : Bo) (w : World) (hm : Mem w B.segs) (hH : B.Hs.length ≤ 60) (hR : B.R.length ≤ 20) : Calls Try.prog 105 #[B.v] w fun e w' => ∃ g cap, e = .returned (.slice (some ⟨g, 0, none⟩) (keysL B.d).length cap) ∧ OwnsI w' w.heap.size (.slice (some ⟨g, 0, none⟩) (keysL B.d).length cap) (keysL B.d) ∧ Keeps w w' := by
  have hl : B.Hs.length ≤ 60 := hH
  obtain ⟨tk, nx, wa, ca, cc, C, ha, hc, Hs, ra, rc, R⟩ := B
  have HCC := hide (fun w' (hk : Keeps w w') => Bo.memC (hm.kept hk))
  have HCH := hide (fun w' (hk : Keeps w w') => Bo.memH (hm.kept hk))
  have HCR := hide (fun w' (hk : Keeps w w') => Bo.memR (hm.kept hk))
  have HL := hide hl
  have HBA := hide (book_box ⟨tk, nx, wa, ca, cc, C, ha, hc, Hs, ra, rc, R⟩ w 67)
  have HKA := hide (Keeps.alloc (Keeps.refl w) (.cells #[.int .i64 tk, .int .i64 nx, .int .i64 wa, .slice ca C.length cc, .slice ha Hs.length hc, .slice ra R.length rc] 67))
  dsimp only [Bo.d, Bo.v] at *
  clear hm hl
  go_enter Try.func105, Try.ntmps105
  go_wp2_with fail
  have HO0 : Hid (OwnsI ((w.alloc (.cells #[.int .i64 tk, .int .i64 nx, .int .i64 wa, .slice ca C.length cc, .slice ha Hs.length hc, .slice ra R.length rc] 67)).alloc (.cells #[] 3)) (w.alloc (.cells #[.int .i64 tk, .int .i64 nx, .int .i64 wa, .slice ca C.length cc, .slice ha Hs.length hc, .slice ra R.length rc] 67)).heap.size (.slice (some ⟨(w.alloc (.cells #[.int .i64 tk, .int .i64 nx, .int .i64 wa, .slice ca C.length cc, .slice ha Hs.length hc, .slice ra R.length rc] 67)).heap.size, 0, none⟩) 0 0) []) :=
    World.ownsRow_made (base := (w.alloc (.cells #[.int .i64 tk, .int .i64 nx, .int .i64 wa, .slice ca C.length cc, .slice ha Hs.length hc, .slice ra R.length rc] 67)).heap.size) (e := 3) (size := 1) _ #[] 0 (Nat.le_refl _) (by simp only [maxLen]; omega) (by simp)
  have HK0 := hide (Keeps.alloc (Keeps.refl (w.alloc (.cells #[.int .i64 tk, .int .i64 nx, .int .i64 wa, .slice ca C.length cc, .slice ha Hs.length hc, .slice ra R.length rc] 67))) (.cells #[] 3))
  have hsz : (w.alloc (.cells #[.int .i64 tk, .int .i64 nx, .int .i64 wa, .slice ca C.length cc, .slice ha Hs.length hc, .slice ra R.length rc] 67)).heap.size = w.heap.size + 1 := by simp
  have HSZ := hide hsz
  clear hsz
  generalize w.alloc (.cells #[.int .i64 tk, .int .i64 nx, .int .i64 wa, .slice ca C.length cc, .slice ha Hs.length hc, .slice ra R.length rc] 67) = W0 at *
  go_loopw [3, 12] (fun v y wr => ∃ k : Nat, k ≤ Hs.length ∧ y = .int .i64 (k : Int) ∧ Hid (OwnsI wr W0.heap.size v (keysTo (Hs.take k) [])) ∧ Hid (v ≠ .slice none 0 0) ∧ Hid (Keeps W0 wr)) (fun _ y _ => Hs.length - (intOf y).toNat)
  case atStart => exact ⟨0, by omega, rfl, by show OwnsI _ _ _ _; rw [HSZ.out] at HO0 ⊢; simpa [keysTo] using HO0.out, fun h => by simp at h, HK0.out⟩
  case round =>
    obtain ⟨k, hk, rfl, HO, HN, HKr⟩ := hrel
    clear HO0 HK0
    by_cases hlt : k < Hs.length
    · skip
      obtain ⟨b, off, ea, c0, c1, c2, c3, c4, c5, c6⟩ := hts_at (unhide HCH _ (HKA.out.trans HKr.out)) k hlt
      have HX := hide ea
      clear ea
      have HS : Hid (Hs.take (k + 1) = Hs.take k ++ [Hs[k]]) := by show _ = _; rw [List.take_add_one, List.getElem?_eq_getElem hlt]; rfl
      generalize Hs[k] = x at *
      obtain ⟨xky, xinn, xout, xai, xao, xkp, xag⟩ := x
      dsimp only at c0 c1 c2 c3 c4 c5 c6 HS
      have HO2 := hide ((HO.out.alloc (.cells #[.int .i64 xky, .int .i64 xinn, .int .i64 xout, .int .i64 xai, .int .i64 xao, .bool xkp, .int .i64 xag] 99)).alloc (.cells #[.int .i64 xky] 3))
      have HK2 := hide (Keeps.alloc (Keeps.alloc HKr.out (.cells #[.int .i64 xky, .int .i64 xinn, .int .i64 xout, .int .i64 xai, .int .i64 xao, .bool xkp, .int .i64 xag] 99)) (.cells #[.int .i64 xky] 3))
      have HM2 := hide (its_one (wr.alloc (.cells #[.int .i64 xky, .int .i64 xinn, .int .i64 xout, .int .i64 xai, .int .i64 xao, .bool xkp, .int .i64 xag] 99)) xky 3)
      have hz : (wr.alloc (.cells #[.int .i64 xky, .int .i64 xinn, .int .i64 xout, .int .i64 xai, .int .i64 xao, .bool xkp, .int .i64 xag] 99)).heap.size = wr.heap.size + 1 := by simp
      rw [hz] at HM2
      have hb2 : W0.heap.size ≤ ((wr.alloc (.cells #[.int .i64 xky, .int .i64 xinn, .int .i64 xout, .int .i64 xai, .int .i64 xao, .bool xkp, .int .i64 xag] 99)).alloc (.cells #[.int .i64 xky] 3)).heap.size := HK2.out.size
      have HB2 := hide hb2
      clear hb2 hz
      obtain rfl := HX.out
      go_wp2_with (at_builtin; refine app_its rfl (.tmp 16) (.tmp 19) rfl W0.heap.size _ (keysTo (Hs.take k) []) [xky] rfl ⟨wr.heap.size + 1, 0, none⟩ 1 rfl HM2.out HO2.out (by simp [keysTo]; omega) HB2.out ?_; intro v' w' ho hg hn)
      go_roundw
      case rel =>
        refine ⟨k + 1, by omega, by go_num, ?_, hn HN.out, Keeps.grown HK2.out hg (fun j hj => (HO2.out.lt j hj).1)⟩
        show OwnsI _ _ _ _
        rw [HS.out]
        simpa [keysTo] using ho
      case measure => simp [intOf]; omega
    · have e : k = Hs.length := by omega
      subst e
      rw [List.take_length] at HO
      obtain ⟨-, -, -, -, -, b5⟩ := HBA.out.kept HKr.out
      dsimp only at b5
      go_wp2_with fail
      clear b5
      have HO1 := hide HO.out
      have HN1 := hide HN.out
      have HK1 := hide HKr.out
      clear HO HN HKr
      go_loopw [3, 25] (fun v y wr => ∃ k : Nat, k ≤ R.length ∧ y = .int .i64 (k : Int) ∧ Hid (OwnsI wr W0.heap.size v (keysTo Hs (R.take k))) ∧ Hid (v ≠ .slice none 0 0) ∧ Hid (Keeps W0 wr)) (fun _ y _ => R.length - (intOf y).toNat)
      case atStart => exact ⟨0, by omega, rfl, by show OwnsI _ _ _ _; simpa using HO1.out, HN1, HK1⟩
      case round =>
        obtain ⟨k, hk, rfl, HO, HN, HKr⟩ := hrel
        clear HO1 HN1 HK1
        by_cases hlt : k < R.length
        · skip
          obtain ⟨b, off, ea, c0, c1, c2, c3, c4⟩ := crs_at (unhide HCR _ (HKA.out.trans HKr.out)) k hlt
          have HX := hide ea
          clear ea
          have HS : Hid (R.take (k + 1) = R.take k ++ [R[k]]) := by show _ = _; rw [List.take_add_one, List.getElem?_eq_getElem hlt]; rfl
          generalize R[k] = x at *
          obtain ⟨xky, xfr, xto, xam, xfe⟩ := x
          dsimp only at c0 c1 c2 c3 c4 HS
          have HO2 := hide ((HO.out.alloc (.cells #[.int .i64 xky, .int .i64 xfr, .int .i64 xto, .int .i64 xam, .int .i64 xfe] 101)).alloc (.cells #[.int .i64 xky] 3))
          have HK2 := hide (Keeps.alloc (Keeps.alloc HKr.out (.cells #[.int .i64 xky, .int .i64 xfr, .int .i64 xto, .int .i64 xam, .int .i64 xfe] 101)) (.cells #[.int .i64 xky] 3))
          have HM2 := hide (its_one (wr.alloc (.cells #[.int .i64 xky, .int .i64 xfr, .int .i64 xto, .int .i64 xam, .int .i64 xfe] 101)) xky 3)
          have hz : (wr.alloc (.cells #[.int .i64 xky, .int .i64 xfr, .int .i64 xto, .int .i64 xam, .int .i64 xfe] 101)).heap.size = wr.heap.size + 1 := by simp
          rw [hz] at HM2
          have hb2 : W0.heap.size ≤ ((wr.alloc (.cells #[.int .i64 xky, .int .i64 xfr, .int .i64 xto, .int .i64 xam, .int .i64 xfe] 101)).alloc (.cells #[.int .i64 xky] 3)).heap.size := HK2.out.size
          have HB2 := hide hb2
          clear hb2 hz
          obtain rfl := HX.out
          go_wp2_with (at_builtin; refine app_its rfl (.tmp 29) (.tmp 32) rfl W0.heap.size _ (keysTo Hs (R.take k)) [xky] rfl ⟨wr.heap.size + 1, 0, none⟩ 1 rfl HM2.out HO2.out (by simp [keysTo]; omega) HB2.out ?_; intro v' w' ho hg hn)
          go_roundw
          case rel =>
            refine ⟨k + 1, by omega, by go_num, ?_, hn HN.out, Keeps.grown HK2.out hg (fun j hj => (HO2.out.lt j hj).1)⟩
            show OwnsI _ _ _ _
            rw [HS.out]
            simpa [keysTo] using ho
          case measure => simp [intOf]; omega
        · have e : k = R.length := by omega
          subst e
          rw [List.take_length] at HO
          obtain ⟨g, cap, e1, hb, hlt', h1, h2, h3, -⟩ := Go.Lib.holds_of_ownsRow (enc := Value.int .i64) (zs := keysTo Hs R) HO.out HN.out
          have HVE := hide e1
          obtain rfl := HVE.out
          clear e1
          go_wp2_with fail
          go_ret
          refine ⟨g, cap, rfl, ?_, HKA.out.trans HKr.out⟩
          exact OwnsI.older HO.out (by have := HSZ.out; omega)
set_option maxHeartbeats 2000000 in
theorem out_spec (B : Bo) (ch : Int) (w : World) (hm : Mem w B.segs) (hs : Small B.d) : Calls Try.prog 84 #[B.v, .int .i64 ch] w fun e w' => e = .returned (.int .i64 (outV B.d ch)) ∧ Keeps w w' := by
  have hl := hs.2.2.1
  obtain ⟨tk, nx, wa, ca, cc, C, ha, hc, Hs, ra, rc, R⟩ := B
  have HCC := hide (fun w' (hk : Keeps w w') => Bo.memC (hm.kept hk))
  have HCH := hide (fun w' (hk : Keeps w w') => Bo.memH (hm.kept hk))
  have HCR := hide (fun w' (hk : Keeps w w') => Bo.memR (hm.kept hk))
  have HL := hide hl
  have HBA := hide (book_box ⟨tk, nx, wa, ca, cc, C, ha, hc, Hs, ra, rc, R⟩ w 67)
  have HKA := hide (Keeps.alloc (Keeps.refl w) (.cells #[.int .i64 tk, .int .i64 nx, .int .i64 wa, .slice ca C.length cc, .slice ha Hs.length hc, .slice ra R.length rc] 67))
  dsimp only [Bo.d, Bo.v] at *
  clear hm hl
  go_enter Try.func84, Try.ntmps84
  go_wp2_with fail
  obtain ⟨hsH, hsR, hlH, hlR⟩ := hs
  have HsH := hide hsH
  have HsR := hide hsR
  clear hsH hsR
  generalize w.alloc (.cells #[.int .i64 tk, .int .i64 nx, .int .i64 wa, .slice ca C.length cc, .slice ha Hs.length hc, .slice ra R.length rc] 67) = W0 at *
  dsimp only at hlH hlR
  go_loopw [5, 13] (fun x z wr => ∃ (k : Nat) (p : Int), k ≤ Hs.length ∧ x = .int .i64 p ∧ z = .int .i64 (k : Int) ∧ Hid (p = outH (Hs.take k) ch) ∧ Hid (Keeps W0 wr)) (fun _ z _ => Hs.length - (intOf z).toNat)
  case atStart => exact ⟨0, 0, by omega, rfl, rfl, by show _ = _; simp [outH], Keeps.refl _⟩
  case round =>
    obtain ⟨k, p, hk, rfl, rfl, HP, HKr⟩ := hrel
    have HB := hide (HBA.out.kept HKr.out)
    by_cases hlt : k < Hs.length
    · have hp : 0 ≤ p ∧ p ≤ 1125899906842624 * 60 := by rw [HP.out]; exact sum_small _ 1125899906842624 Hs k 60 (by decide) (by omega) hlH (fun x hx => by have := HsH.out x hx; split <;> omega)
      have HPn : Hid (outH (Hs.take (k + 1)) ch = p + if Hs[k].out = ch then Hs[k].ao else 0) := by show _ = _; rw [HP.out]; exact sum_take_succ _ Hs k hlt
      have hz := HsH.out Hs[k] (List.getElem_mem hlt)
      obtain ⟨b, off, ea, c0, c1, c2, c3, c4, c5, c6⟩ := hts_at (unhide HCH _ (HKA.out.trans HKr.out)) k hlt
      have HX := hide ea
      obtain rfl := HX.out
      generalize Hs[k] = x at *
      obtain ⟨xky, xinn, xout, xai, xao, xkp, xag⟩ := x
      dsimp only at c0 c1 c2 c3 c4 c5 c6 HPn hz
      obtain ⟨z0, z1, z2, z3⟩ := hz
      obtain ⟨hp0, hp1⟩ := hp
      have HKe := hide (HKr.out.trans (Keeps.alloc (Keeps.refl wr) (.cells #[.int .i64 xky, .int .i64 xinn, .int .i64 xout, .int .i64 xai, .int .i64 xao, .bool xkp, .int .i64 xag] 99)))
      clear HP HB
      by_cases ho : xout = ch
      all_goals
        (try simp only [if_pos ho] at HPn); (try simp only [if_neg ho] at HPn)
        (try subst ho)
        go_wp2_with fail
        go_roundw
        case rel => exact ⟨k + 1, _, by omega, rfl, by go_num, by show _ = _; rw [HPn.out]; (try omega), HKe.out⟩
        case measure => simp [intOf]; omega
    · have e : k = Hs.length := by omega
      subst e
      rw [List.take_length] at HP
      have hp : 0 ≤ p ∧ p ≤ 1125899906842624 * 60 := by rw [HP.out]; have := sum_small (fun h : Htl => if h.out = ch then h.ao else 0) 1125899906842624 Hs Hs.length 60 (by decide) hlH hlH (fun x hx => by have := HsH.out x hx; split <;> omega); rw [List.take_length] at this; exact this
      obtain ⟨hp0, hp1⟩ := hp
      obtain ⟨-, -, -, -, -, b5⟩ := HB.out
      dsimp only at b5
      have HKs := hide HKr.out
      clear HB HKr
      go_wp2_with fail
      generalize wr = W2 at *
      go_loopw [5, 29] (fun x z wr => ∃ (k : Nat) (p' : Int), k ≤ R.length ∧ x = .int .i64 p' ∧ z = .int .i64 (k : Int) ∧ Hid (p' = p + outR (R.take k) ch) ∧ Hid (Keeps W2 wr)) (fun _ z _ => R.length - (intOf z).toNat)
      case atStart => exact ⟨0, p, by omega, rfl, rfl, by show _ = _; simp [outR], Keeps.refl _⟩
      case round =>
        obtain ⟨k, p', hk, rfl, rfl, HP2, HKr⟩ := hrel
        by_cases hlt : k < R.length
        · have hp : 0 ≤ p' ∧ p' ≤ 1125899906842624 * 60 + 2251799813685248 * 20 := by rw [HP2.out]; have : 0 ≤ outR (R.take k) ch ∧ outR (R.take k) ch ≤ 2251799813685248 * 20 := sum_small _ 2251799813685248 R k 20 (by decide) (by omega) hlR (fun x hx => by have := HsR.out x hx; split <;> omega); omega
          have HPn : Hid (p + outR (R.take (k + 1)) ch = p' + if R[k].fr = ch then R[k].am + R[k].fe else 0) := by show _ = _; rw [HP2.out, Int.add_assoc]; congr 1; exact sum_take_succ _ R k hlt
          have hz := HsR.out R[k] (List.getElem_mem hlt)
          obtain ⟨b, off, ea, c0, c1, c2, c3, c4⟩ := crs_at (unhide HCR _ (HKA.out.trans (HKs.out.trans HKr.out))) k hlt
          have HX := hide ea
          obtain rfl := HX.out
          generalize R[k] = x at *
          obtain ⟨xky, xfr, xto, xam, xfe⟩ := x
          dsimp only at c0 c1 c2 c3 c4 HPn hz
          obtain ⟨z0, z1, z2, z3⟩ := hz
          clear hp0 hp1
          obtain ⟨hp0, hp1⟩ := hp
          have HKe := hide (HKr.out.trans (Keeps.alloc (Keeps.refl wr) (.cells #[.int .i64 xky, .int .i64 xfr, .int .i64 xto, .int .i64 xam, .int .i64 xfe] 101)))
          clear HP HP2
          by_cases ho : xfr = ch
          all_goals
            (try simp only [if_pos ho] at HPn); (try simp only [if_neg ho] at HPn)
            (try subst ho)
            go_wp2_with fail
            go_roundw
            case rel => exact ⟨k + 1, _, by omega, rfl, by go_num, by show _ = _; rw [HPn.out]; (try omega), HKe.out⟩
            case measure => simp [intOf]; omega
        · have e : k = R.length := by omega
          subst e
          rw [List.take_length] at HP2
          go_wp2_with fail
          go_ret
          exact ⟨ret_i (by rw [HP2.out, HP.out]; rfl), (HKA.out.trans HKs.out).trans HKr.out⟩
set_option maxHeartbeats 2000000 in
theorem in_spec (B : Bo) (ch : Int) (w : World) (hm : Mem w B.segs) (hs : Small B.d) : Calls Try.prog 85 #[B.v, .int .i64 ch] w fun e w' => e = .returned (.int .i64 (inV B.d ch)) ∧ Keeps w w' := by
  have hl := hs.2.2.1
  obtain ⟨tk, nx, wa, ca, cc, C, ha, hc, Hs, ra, rc, R⟩ := B
  have HCC := hide (fun w' (hk : Keeps w w') => Bo.memC (hm.kept hk))
  have HCH := hide (fun w' (hk : Keeps w w') => Bo.memH (hm.kept hk))
  have HCR := hide (fun w' (hk : Keeps w w') => Bo.memR (hm.kept hk))
  have HL := hide hl
  have HBA := hide (book_box ⟨tk, nx, wa, ca, cc, C, ha, hc, Hs, ra, rc, R⟩ w 67)
  have HKA := hide (Keeps.alloc (Keeps.refl w) (.cells #[.int .i64 tk, .int .i64 nx, .int .i64 wa, .slice ca C.length cc, .slice ha Hs.length hc, .slice ra R.length rc] 67))
  dsimp only [Bo.d, Bo.v] at *
  clear hm hl
  go_enter Try.func85, Try.ntmps85
  go_wp2_with fail
  obtain ⟨hsH, hsR, hlH, hlR⟩ := hs
  have HsH := hide hsH
  have HsR := hide hsR
  clear hsH hsR
  generalize w.alloc (.cells #[.int .i64 tk, .int .i64 nx, .int .i64 wa, .slice ca C.length cc, .slice ha Hs.length hc, .slice ra R.length rc] 67) = W0 at *
  dsimp only at hlH hlR
  go_loopw [5, 13] (fun x z wr => ∃ (k : Nat) (p : Int), k ≤ Hs.length ∧ x = .int .i64 p ∧ z = .int .i64 (k : Int) ∧ Hid (p = inH (Hs.take k) ch) ∧ Hid (Keeps W0 wr)) (fun _ z _ => Hs.length - (intOf z).toNat)
  case atStart => exact ⟨0, 0, by omega, rfl, rfl, by show _ = _; simp [inH], Keeps.refl _⟩
  case round =>
    obtain ⟨k, p, hk, rfl, rfl, HP, HKr⟩ := hrel
    have HB := hide (HBA.out.kept HKr.out)
    by_cases hlt : k < Hs.length
    · have hp : 0 ≤ p ∧ p ≤ 1125899906842624 * 60 := by rw [HP.out]; exact sum_small _ 1125899906842624 Hs k 60 (by decide) (by omega) hlH (fun x hx => by have := HsH.out x hx; split <;> omega)
      have HPn : Hid (inH (Hs.take (k + 1)) ch = p + if Hs[k].inn = ch then Hs[k].ai else 0) := by show _ = _; rw [HP.out]; exact sum_take_succ _ Hs k hlt
      have hz := HsH.out Hs[k] (List.getElem_mem hlt)
      obtain ⟨b, off, ea, c0, c1, c2, c3, c4, c5, c6⟩ := hts_at (unhide HCH _ (HKA.out.trans HKr.out)) k hlt
      have HX := hide ea
      obtain rfl := HX.out
      generalize Hs[k] = x at *
      obtain ⟨xky, xinn, xout, xai, xao, xkp, xag⟩ := x
      dsimp only at c0 c1 c2 c3 c4 c5 c6 HPn hz
      obtain ⟨z0, z1, z2, z3⟩ := hz
      obtain ⟨hp0, hp1⟩ := hp
      have HKe := hide (HKr.out.trans (Keeps.alloc (Keeps.refl wr) (.cells #[.int .i64 xky, .int .i64 xinn, .int .i64 xout, .int .i64 xai, .int .i64 xao, .bool xkp, .int .i64 xag] 99)))
      clear HP HB
      by_cases ho : xinn = ch
      all_goals
        (try simp only [if_pos ho] at HPn); (try simp only [if_neg ho] at HPn)
        (try subst ho)
        go_wp2_with fail
        go_roundw
        case rel => exact ⟨k + 1, _, by omega, rfl, by go_num, by show _ = _; rw [HPn.out]; (try omega), HKe.out⟩
        case measure => simp [intOf]; omega
    · have e : k = Hs.length := by omega
      subst e
      rw [List.take_length] at HP
      have hp : 0 ≤ p ∧ p ≤ 1125899906842624 * 60 := by rw [HP.out]; have := sum_small (fun h : Htl => if h.inn = ch then h.ai else 0) 1125899906842624 Hs Hs.length 60 (by decide) hlH hlH (fun x hx => by have := HsH.out x hx; split <;> omega); rw [List.take_length] at this; exact this
      obtain ⟨hp0, hp1⟩ := hp
      obtain ⟨-, -, -, -, -, b5⟩ := HB.out
      dsimp only at b5
      have HKs := hide HKr.out
      clear HB HKr
      go_wp2_with fail
      generalize wr = W2 at *
      go_loopw [5, 29] (fun x z wr => ∃ (k : Nat) (p' : Int), k ≤ R.length ∧ x = .int .i64 p' ∧ z = .int .i64 (k : Int) ∧ Hid (p' = p + inR (R.take k) ch) ∧ Hid (Keeps W2 wr)) (fun _ z _ => R.length - (intOf z).toNat)
      case atStart => exact ⟨0, p, by omega, rfl, rfl, by show _ = _; simp [inR], Keeps.refl _⟩
      case round =>
        obtain ⟨k, p', hk, rfl, rfl, HP2, HKr⟩ := hrel
        by_cases hlt : k < R.length
        · have hp : 0 ≤ p' ∧ p' ≤ 1125899906842624 * 60 + 1125899906842624 * 20 := by rw [HP2.out]; have : 0 ≤ inR (R.take k) ch ∧ inR (R.take k) ch ≤ 1125899906842624 * 20 := sum_small _ 1125899906842624 R k 20 (by decide) (by omega) hlR (fun x hx => by have := HsR.out x hx; split <;> omega); omega
          have HPn : Hid (p + inR (R.take (k + 1)) ch = p' + if R[k].to = ch then R[k].am else 0) := by show _ = _; rw [HP2.out, Int.add_assoc]; congr 1; exact sum_take_succ _ R k hlt
          have hz := HsR.out R[k] (List.getElem_mem hlt)
          obtain ⟨b, off, ea, c0, c1, c2, c3, c4⟩ := crs_at (unhide HCR _ (HKA.out.trans (HKs.out.trans HKr.out))) k hlt
          have HX := hide ea
          obtain rfl := HX.out
          generalize R[k] = x at *
          obtain ⟨xky, xfr, xto, xam, xfe⟩ := x
          dsimp only at c0 c1 c2 c3 c4 HPn hz
          obtain ⟨z0, z1, z2, z3⟩ := hz
          clear hp0 hp1
          obtain ⟨hp0, hp1⟩ := hp
          have HKe := hide (HKr.out.trans (Keeps.alloc (Keeps.refl wr) (.cells #[.int .i64 xky, .int .i64 xfr, .int .i64 xto, .int .i64 xam, .int .i64 xfe] 101)))
          clear HP HP2
          by_cases ho : xto = ch
          all_goals
            (try simp only [if_pos ho] at HPn); (try simp only [if_neg ho] at HPn)
            (try subst ho)
            go_wp2_with fail
            go_roundw
            case rel => exact ⟨k + 1, _, by omega, rfl, by go_num, by show _ = _; rw [HPn.out]; (try omega), HKe.out⟩
            case measure => simp [intOf]; omega
        · have e : k = R.length := by omega
          subst e
          rw [List.take_length] at HP2
          go_wp2_with fail
          go_ret
          exact ⟨ret_i (by rw [HP2.out, HP.out]; rfl), (HKA.out.trans HKs.out).trans HKr.out⟩
end Go.Proofs.Ytphabdjhmahemaa
