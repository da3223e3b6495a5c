/- The program's words on books: what is under way, and whether all is right. -/
import Derived.Test.YtphabdjhmahemaaBkA
namespace Go.Proofs.Ytphabdjhmahemaa
open Go.RowKit Go.Deep
set_option linter.unusedVariables false
set_option linter.unusedSimpArgs false
set_option maxRecDepth 10000

/-- A book variable. -/
def BookAt (w : World) (p : Nat) (B : Bo) : Prop := w.cell? ⟨p, 0, none⟩ = some (.int .i64 B.tk) ∧ w.cell? ⟨p, 1, none⟩ = some (.int .i64 B.nx) ∧ w.cell? ⟨p, 2, none⟩ = some (.int .i64 B.wa) ∧ w.cell? ⟨p, 3, none⟩ = some (.slice B.ca B.C.length B.cc) ∧ w.cell? ⟨p, 4, none⟩ = some (.slice B.ha B.Hs.length B.hc) ∧ w.cell? ⟨p, 5, none⟩ = some (.slice B.ra B.R.length B.rc)
theorem BookAt.kept {w w' : World} {p : Nat} {B : Bo} (h : BookAt w p B) (hk : Keeps w w') : BookAt w' p B := ⟨hk.cell h.1, hk.cell h.2.1, hk.cell h.2.2.1, hk.cell h.2.2.2.1, hk.cell h.2.2.2.2.1, hk.cell h.2.2.2.2.2⟩
theorem rowc5 (w : World) (v0 v1 v2 v3 v4 : Value) (t : TypeId) : ∀ w', Keeps (w.alloc (.cells #[v0, v1, v2, v3, v4] t)) w' → w'.cell? ⟨w.heap.size, 0, none⟩ = some v0 ∧ w'.cell? ⟨w.heap.size, 1, none⟩ = some v1 ∧ w'.cell? ⟨w.heap.size, 2, none⟩ = some v2 ∧ w'.cell? ⟨w.heap.size, 3, none⟩ = some v3 ∧ w'.cell? ⟨w.heap.size, 4, none⟩ = some v4 := by
  intro w' hk
  have hB : (w.alloc (.cells #[v0, v1, v2, v3, v4] t)).heap[w.heap.size]? = some (.cells #[v0, v1, v2, v3, v4] t (0, 0)) := blk_alloc_new w _
  revert hB hk
  generalize w.alloc (.cells #[v0, v1, v2, v3, v4] t) = W
  intro hk hB
  refine ⟨?_, ?_, ?_, ?_, ?_⟩ <;> (refine hk.cell ?_; simp [World.cell?, hB])
theorem rowc6 (w : World) (v0 v1 v2 v3 v4 v5 : Value) (t : TypeId) : ∀ w', Keeps (w.alloc (.cells #[v0, v1, v2, v3, v4, v5] t)) w' → w'.cell? ⟨w.heap.size, 0, none⟩ = some v0 ∧ w'.cell? ⟨w.heap.size, 1, none⟩ = some v1 ∧ w'.cell? ⟨w.heap.size, 2, none⟩ = some v2 ∧ w'.cell? ⟨w.heap.size, 3, none⟩ = some v3 ∧ w'.cell? ⟨w.heap.size, 4, none⟩ = some v4 ∧ w'.cell? ⟨w.heap.size, 5, none⟩ = some v5 := by
  intro w' hk
  have hB : (w.alloc (.cells #[v0, v1, v2, v3, v4, v5] t)).heap[w.heap.size]? = some (.cells #[v0, v1, v2, v3, v4, v5] t (0, 0)) := blk_alloc_new w _
  revert hB hk
  generalize w.alloc (.cells #[v0, v1, v2, v3, v4, v5] t) = W
  intro hk hB
  refine ⟨?_, ?_, ?_, ?_, ?_, ?_⟩ <;> (refine hk.cell ?_; simp [World.cell?, hB])
theorem rowc7 (w : World) (v0 v1 v2 v3 v4 v5 v6 : Value) (t : TypeId) : ∀ w', Keeps (w.alloc (.cells #[v0, v1, v2, v3, v4, v5, v6] t)) w' → w'.cell? ⟨w.heap.size, 0, none⟩ = some v0 ∧ w'.cell? ⟨w.heap.size, 1, none⟩ = some v1 ∧ w'.cell? ⟨w.heap.size, 2, none⟩ = some v2 ∧ w'.cell? ⟨w.heap.size, 3, none⟩ = some v3 ∧ w'.cell? ⟨w.heap.size, 4, none⟩ = some v4 ∧ w'.cell? ⟨w.heap.size, 5, none⟩ = some v5 ∧ w'.cell? ⟨w.heap.size, 6, none⟩ = some v6 := by
  intro w' hk
  have hB : (w.alloc (.cells #[v0, v1, v2, v3, v4, v5, v6] t)).heap[w.heap.size]? = some (.cells #[v0, v1, v2, v3, v4, v5, v6] t (0, 0)) := blk_alloc_new w _
  revert hB hk
  generalize w.alloc (.cells #[v0, v1, v2, v3, v4, v5, v6] t) = W
  intro hk hB
  refine ⟨?_, ?_, ?_, ?_, ?_, ?_, ?_⟩ <;> (refine hk.cell ?_; simp [World.cell?, hB])
theorem book_box (B : Bo) (w : World) (t : TypeId) : BookAt (w.alloc (.cells #[.int .i64 B.tk, .int .i64 B.nx, .int .i64 B.wa, .slice B.ca B.C.length B.cc, .slice B.ha B.Hs.length B.hc, .slice B.ra B.R.length B.rc] t)) w.heap.size B := rowc6 w _ _ _ _ _ _ t _ (Keeps.refl _)
set_option maxHeartbeats 2000000 in
theorem htlcs_impl (B : Bo) (w : World) (hm : Mem w B.segs) (hl : B.len) : Calls Try.prog 92 #[B.v] w fun e w' => e = .returned (.bool (B.Hs.all (htB B.C))) ∧ Keeps w w' := by
  obtain ⟨tk, nx, wa, ca, cc, C, ha, hc, Hs, ra, rc, R⟩ := B
  have HCC := hide (fun w' (hk : Keeps w w') => Bo.memC (hm.kept hk))
  have HCH := hide (fun w' (hk : Keeps w w') => Bo.memH (hm.kept hk))
  have HCR := hide (fun w' (hk : Keeps w w') => Bo.memR (hm.kept hk))
  have HL := hide hl
  have HBA := hide (book_box ⟨tk, nx, wa, ca, cc, C, ha, hc, Hs, ra, rc, R⟩ w 67)
  have HKA := hide (Keeps.alloc (Keeps.refl w) (.cells #[.int .i64 tk, .int .i64 nx, .int .i64 wa, .slice ca C.length cc, .slice ha Hs.length hc, .slice ra R.length rc] 67))
  dsimp only [Bo.d, Bo.v] at *
  clear hm hl
  go_enter Try.func92, Try.ntmps92
  go_wp2_with fail
  have hln : Hs.length ≤ 1048576 := HL.out.2.1
  generalize hW : w.alloc (.cells #[.int .i64 tk, .int .i64 nx, .int .i64 wa, .slice ca C.length cc, .slice ha Hs.length hc, .slice ra R.length rc] 67) = W0 at *
  go_loopw [8] (fun y wr => ∃ k : Nat, k ≤ Hs.length ∧ y = .int .i64 (k : Int) ∧ Hid (∀ j (hj : j < Hs.length), j < k → htB C Hs[j] = true) ∧ Hid (Keeps W0 wr)) (fun y _ => Hs.length - (intOf y).toNat)
  case atStart => exact ⟨0, by omega, rfl, fun j hj h => absurd h (by omega), Keeps.refl _⟩
  case round =>
    obtain ⟨k, hk, rfl, HG, HKr⟩ := hrel
    have HB := hide (HBA.out.kept HKr.out)
    by_cases hlt : k < Hs.length
    · skip
      obtain ⟨b, off, ea, c0, c1, c2, c3, c4, c5, c6⟩ := hts_at (unhide HCH _ (HKA.out.trans HKr.out)) k hlt
      subst ea
      have HX : Hid (Hs[k] = Hs[k]) := rfl
      generalize hx : Hs[k] = x at c0 c1 c2 c3 c4 c5 c6 HX
      replace HX := hide hx
      clear hx
      obtain ⟨xky, xinn, xout, xai, xao, xkp, xag⟩ := x
      dsimp only at c0 c1 c2 c3 c4 c5 c6
      obtain ⟨b0, b1, b2, b3, b4, b5⟩ := HB.out
      dsimp only at b0 b1 b2 b3 b4 b5
      go_wp2_with fail
      have HA := hide (rowc7 wr (.int .i64 xky) (.int .i64 xinn) (.int .i64 xout) (.int .i64 xai) (.int .i64 xao) (.bool xkp) (.int .i64 xag) 99)
      have HKv := hide (HKr.out.trans (Keeps.alloc (Keeps.refl wr) (.cells #[.int .i64 xky, .int .i64 xinn, .int .i64 xout, .int .i64 xai, .int .i64 xao, .bool xkp, .int .i64 xag] 99)))
      generalize wr.alloc (.cells #[.int .i64 xky, .int .i64 xinn, .int .i64 xout, .int .i64 xai, .int .i64 xao, .bool xkp, .int .i64 xag] 99) = W1 at *
      have HKc := hide (Keeps.refl W1)
      refine (pos_impl xao _).mono ?_
      rintro e w1 ⟨rfl, hk⟩
      replace HKc := hide (HKc.out.trans hk)
      clear hk
      obtain ⟨d0, d1, d2, d3, d4, d5, d6⟩ := unhide HA w1 HKc.out
      cases hbw1 : posB xao
      · go_wp2_with fail
        go_ret
        exact ⟨ret_b (by rw [all_no hlt (by rw [HX.out]; simp [htB, hbw1]; try omega)]), (HKA.out.trans HKv.out).trans HKc.out⟩
      go_wp2_with fail
      refine (amt_impl xai _).mono ?_
      rintro e w2 ⟨rfl, hk⟩
      replace HKc := hide (HKc.out.trans hk)
      clear d0 d1 d2 d3 d4 d5 d6
      clear hk
      obtain ⟨d0, d1, d2, d3, d4, d5, d6⟩ := unhide HA w2 HKc.out
      cases hbw2 : amtB xai
      · go_wp2_with fail
        go_ret
        exact ⟨ret_b (by rw [all_no hlt (by rw [HX.out]; simp [htB, hbw1, hbw2]; try omega)]), (HKA.out.trans HKv.out).trans HKc.out⟩
      by_cases hpw2_2 : xai < xao
      · have hpw2_2d := hide hpw2_2
        go_wp2_with fail
        go_ret
        exact ⟨ret_b (by rw [all_no hlt (by rw [HX.out]; simp [htB, hbw1, hbw2, hpw2_2d.out]; try omega)]), (HKA.out.trans HKv.out).trans HKc.out⟩
      have hpw2_2d := hide hpw2_2
      go_wp2_with fail
      refine (amt_impl xag _).mono ?_
      rintro e w3 ⟨rfl, hk⟩
      replace HKc := hide (HKc.out.trans hk)
      clear d0 d1 d2 d3 d4 d5 d6
      clear hk
      obtain ⟨d0, d1, d2, d3, d4, d5, d6⟩ := unhide HA w3 HKc.out
      cases hbw3 : amtB xag
      · go_wp2_with fail
        go_ret
        exact ⟨ret_b (by rw [all_no hlt (by rw [HX.out]; simp [htB, hbw1, hbw2, hpw2_2d.out, hbw3]; try omega)]), (HKA.out.trans HKv.out).trans HKc.out⟩
      go_wp2_with fail
      have e3 := (HBA.out.kept (HKv.out.trans HKc.out)).2.2.2.1
      dsimp only at e3
      refine (two_impl w.heap.size ca cc C xinn xout w3 e3 (unhide HCC _ (HKA.out.trans (HKv.out.trans HKc.out))) HL.out.1).mono ?_
      rintro e w4 ⟨rfl, hk⟩
      replace HKc := hide (HKc.out.trans hk)
      clear d0 d1 d2 d3 d4 d5 d6
      clear hk
      obtain ⟨d0, d1, d2, d3, d4, d5, d6⟩ := unhide HA w4 HKc.out
      cases hbw4 : twoB C xinn xout
      · go_wp2_with fail
        go_ret
        exact ⟨ret_b (by rw [all_no hlt (by rw [HX.out]; simp [htB, hbw1, hbw2, hpw2_2d.out, hbw3, hbw4]; try omega)]), (HKA.out.trans HKv.out).trans HKc.out⟩
      go_wp2_with fail
      have HOK : Hid (htB C ⟨xky, xinn, xout, xai, xao, xkp, xag⟩ = true) := by show _ = _; simp [htB, hbw1, hbw2, hpw2_2d.out, hbw3, hbw4]; try omega
      have HKe := hide (HKv.out.trans HKc.out)
      go_roundw
      case rel => exact ⟨k + 1, by omega, by go_num, fun j hj h => by
                    by_cases e : j = k
                    · subst e; rw [HX.out]; exact HOK.out
                    · exact HG.out j hj (by omega), HKe.out⟩
      case measure => simp [intOf]; omega
    · have HR : Hid (Hs.all (htB C) = true) := all_yes (fun j hj => HG.out j hj (by omega))
      go_wp2_with fail
      go_ret
      exact ⟨ret_b HR.out.symm, HKA.out.trans HKr.out⟩
set_option maxHeartbeats 2000000 in
theorem circles_impl (B : Bo) (w : World) (hm : Mem w B.segs) (hl : B.len) : Calls Try.prog 93 #[B.v] w fun e w' => e = .returned (.bool (B.R.all (crB B.C))) ∧ Keeps w w' := by
  obtain ⟨tk, nx, wa, ca, cc, C, ha, hc, Hs, ra, rc, R⟩ := B
  have HCC := hide (fun w' (hk : Keeps w w') => Bo.memC (hm.kept hk))
  have HCH := hide (fun w' (hk : Keeps w w') => Bo.memH (hm.kept hk))
  have HCR := hide (fun w' (hk : Keeps w w') => Bo.memR (hm.kept hk))
  have HL := hide hl
  have HBA := hide (book_box ⟨tk, nx, wa, ca, cc, C, ha, hc, Hs, ra, rc, R⟩ w 67)
  have HKA := hide (Keeps.alloc (Keeps.refl w) (.cells #[.int .i64 tk, .int .i64 nx, .int .i64 wa, .slice ca C.length cc, .slice ha Hs.length hc, .slice ra R.length rc] 67))
  dsimp only [Bo.d, Bo.v] at *
  clear hm hl
  go_enter Try.func93, Try.ntmps93
  go_wp2_with fail
  have hln : R.length ≤ 1048576 := HL.out.2.2
  generalize hW : w.alloc (.cells #[.int .i64 tk, .int .i64 nx, .int .i64 wa, .slice ca C.length cc, .slice ha Hs.length hc, .slice ra R.length rc] 67) = W0 at *
  go_loopw [8] (fun y wr => ∃ k : Nat, k ≤ R.length ∧ y = .int .i64 (k : Int) ∧ Hid (∀ j (hj : j < R.length), j < k → crB C R[j] = true) ∧ Hid (Keeps W0 wr)) (fun y _ => R.length - (intOf y).toNat)
  case atStart => exact ⟨0, by omega, rfl, fun j hj h => absurd h (by omega), Keeps.refl _⟩
  case round =>
    obtain ⟨k, hk, rfl, HG, HKr⟩ := hrel
    have HB := hide (HBA.out.kept HKr.out)
    by_cases hlt : k < R.length
    · skip
      obtain ⟨b, off, ea, c0, c1, c2, c3, c4⟩ := crs_at (unhide HCR _ (HKA.out.trans HKr.out)) k hlt
      subst ea
      have HX : Hid (R[k] = R[k]) := rfl
      generalize hx : R[k] = x at c0 c1 c2 c3 c4 HX
      replace HX := hide hx
      clear hx
      obtain ⟨xky, xfr, xto, xam, xfe⟩ := x
      dsimp only at c0 c1 c2 c3 c4
      obtain ⟨b0, b1, b2, b3, b4, b5⟩ := HB.out
      dsimp only at b0 b1 b2 b3 b4 b5
      go_wp2_with fail
      have HA := hide (rowc5 wr (.int .i64 xky) (.int .i64 xfr) (.int .i64 xto) (.int .i64 xam) (.int .i64 xfe) 101)
      have HKv := hide (HKr.out.trans (Keeps.alloc (Keeps.refl wr) (.cells #[.int .i64 xky, .int .i64 xfr, .int .i64 xto, .int .i64 xam, .int .i64 xfe] 101)))
      generalize wr.alloc (.cells #[.int .i64 xky, .int .i64 xfr, .int .i64 xto, .int .i64 xam, .int .i64 xfe] 101) = W1 at *
      have HKc := hide (Keeps.refl W1)
      refine (pos_impl xam _).mono ?_
      rintro e w5 ⟨rfl, hk⟩
      replace HKc := hide (HKc.out.trans hk)
      clear hk
      obtain ⟨d0, d1, d2, d3, d4⟩ := unhide HA w5 HKc.out
      cases hbw5 : posB xam
      · go_wp2_with fail
        go_ret
        exact ⟨ret_b (by rw [all_no hlt (by rw [HX.out]; simp [crB, hbw5]; try omega)]), (HKA.out.trans HKv.out).trans HKc.out⟩
      go_wp2_with fail
      refine (amt_impl xfe _).mono ?_
      rintro e w6 ⟨rfl, hk⟩
      replace HKc := hide (HKc.out.trans hk)
      clear d0 d1 d2 d3 d4
      clear hk
      obtain ⟨d0, d1, d2, d3, d4⟩ := unhide HA w6 HKc.out
      cases hbw6 : amtB xfe
      · go_wp2_with fail
        go_ret
        exact ⟨ret_b (by rw [all_no hlt (by rw [HX.out]; simp [crB, hbw5, hbw6]; try omega)]), (HKA.out.trans HKv.out).trans HKc.out⟩
      go_wp2_with fail
      have e3 := (HBA.out.kept (HKv.out.trans HKc.out)).2.2.2.1
      dsimp only at e3
      refine (two_impl w.heap.size ca cc C xfr xto w6 e3 (unhide HCC _ (HKA.out.trans (HKv.out.trans HKc.out))) HL.out.1).mono ?_
      rintro e w7 ⟨rfl, hk⟩
      replace HKc := hide (HKc.out.trans hk)
      clear d0 d1 d2 d3 d4
      clear hk
      obtain ⟨d0, d1, d2, d3, d4⟩ := unhide HA w7 HKc.out
      cases hbw7 : twoB C xfr xto
      · go_wp2_with fail
        go_ret
        exact ⟨ret_b (by rw [all_no hlt (by rw [HX.out]; simp [crB, hbw5, hbw6, hbw7]; try omega)]), (HKA.out.trans HKv.out).trans HKc.out⟩
      go_wp2_with fail
      have HOK : Hid (crB C ⟨xky, xfr, xto, xam, xfe⟩ = true) := by show _ = _; simp [crB, hbw5, hbw6, hbw7]; try omega
      have HKe := hide (HKv.out.trans HKc.out)
      go_roundw
      case rel => exact ⟨k + 1, by omega, by go_num, fun j hj h => by
                    by_cases e : j = k
                    · subst e; rw [HX.out]; exact HOK.out
                    · exact HG.out j hj (by omega), HKe.out⟩
      case measure => simp [intOf]; omega
    · have HR : Hid (R.all (crB C) = true) := all_yes (fun j hj => HG.out j hj (by omega))
      go_wp2_with fail
      go_ret
      exact ⟨ret_b HR.out.symm, HKA.out.trans HKr.out⟩
end Go.Proofs.Ytphabdjhmahemaa
