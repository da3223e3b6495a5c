/- Prices: the program. -/
import Derived.Test.YtjdbedlgkngdkaaPm
import Derived.Test.YtjdbedlgkngdkaaPcG
import Derived.Test.YtjdbedlgkngdkaaBkF
import Derived.Deep.Cut
namespace Go.Proofs.Ytjdbedlgkngdkaa
open Go.RowKit Go.Deep
set_option linter.unusedVariables false
set_option linter.unusedSimpArgs false
set_option maxRecDepth 10000

theorem rowc3 (w : World) (v0 v1 v2 : Value) (t : TypeId) : ∀ w', Keeps (w.alloc (.cells #[v0, v1, v2] t)) w' → w'.cell? ⟨w.heap.size, 0, none⟩ = some v0 ∧ w'.cell? ⟨w.heap.size, 1, none⟩ = some v1 ∧ w'.cell? ⟨w.heap.size, 2, none⟩ = some v2 := by
  intro w' hk
  have hB : (w.alloc (.cells #[v0, v1, v2] t)).heap[w.heap.size]? = some (.cells #[v0, v1, v2] t (0, 0)) := blk_alloc_new w _
  revert hB hk
  generalize w.alloc (.cells #[v0, v1, v2] t) = W
  intro hk hB
  refine ⟨?_, ?_, ?_⟩ <;> (refine hk.cell ?_; simp [World.cell?, hB])
theorem Cells.ahead {w : World} {a : Option Addr} {xs ys : List Value} (h : Cells w a (xs ++ ys)) : Cells w a xs := by
  rcases h with h | ⟨b, off, e, h⟩
  · exact Or.inl (List.append_eq_nil_iff.1 h).1
  · refine Or.inr ⟨b, off, e, fun j hj => ?_⟩
    rw [h j (by rw [List.length_append]; omega), List.getElem_append_left hj]
theorem pcs_take {w : World} {a : Option Addr} {L : List Prc} (h : Cells w a (pcs L)) (k : Nat) : Cells w a (pcs (L.take k)) := by
  have e : pcs L = pcs (L.take k) ++ pcs (L.drop k) := by rw [← pcs_append, List.take_append_drop]
  rw [e] at h
  exact h.ahead
theorem same_impl (p q : Prc) (w : World) : Calls Try.prog 31 #[p.v, q.v] w fun e w' => e = .returned (.bool (sameP p q)) ∧ Keeps w w' := by
  obtain ⟨pf, pt, pp⟩ := p
  obtain ⟨qf, qt, qp⟩ := q
  dsimp only [Prc.v]
  by_cases h1 : pf = qf
  · subst h1
    by_cases h2 : pt = qt
    · subst h2
      go_enter Try.func31, Try.ntmps31
      go_wp2_with fail
      go_ret
      exact ⟨ret_b (by simp [sameP]), Keeps.alloc (Keeps.alloc (Keeps.refl _) _) _⟩
    · have h2' : (pt == qt) = false := by simpa using h2
      go_enter Try.func31, Try.ntmps31
      go_wp2_with fail
      go_ret
      exact ⟨ret_b (by simp [sameP, h2]), Keeps.alloc (Keeps.alloc (Keeps.refl _) _) _⟩
  · have h1' : (pf == qf) = false := by simpa using h1
    go_enter Try.func31, Try.ntmps31
    go_wp2_with fail
    go_ret
    exact ⟨ret_b (by simp [sameP, h1]), Keeps.alloc (Keeps.alloc (Keeps.refl _) _) _⟩
theorem any_first {L : List Prc} {p : Prc} {k : Nat} (hk : k < L.length) (h : sameP p L[k] = true) : L.any (sameP p) = true := List.any_eq_true.2 ⟨_, List.getElem_mem hk, h⟩
theorem any_none {L : List Prc} {p : Prc} (h : ∀ j (hj : j < L.length), sameP p L[j] = false) : L.any (sameP p) = false := by
  rw [List.any_eq_false]
  intro x hx
  obtain ⟨j, hj, rfl⟩ := List.getElem_of_mem hx
  simp [h j hj]
set_option maxHeartbeats 2000000 in
theorem index_same (p : Prc) (a : Option Addr) (cap : Nat) (L : List Prc) (w : World) (hc : Cells w a (pcs L)) (hl : L.length ≤ 1048576) :
    Calls Try.prog 55 #[.slice a L.length cap, .func (Fn.func 31) #[p.v] #[]] w fun e w' => ∃ r : Int, e = .returned (.int .i64 r) ∧ Hid (decide (0 ≤ r) = L.any (sameP p)) ∧ Keeps w w' := by
  have HC := hide (fun w' (hk : Keeps w w') => hc.kept hk)
  clear hc
  go_enter Try.func55, Try.ntmps55
  go_wp2_with fail
  go_loopw [8] (fun y wr => ∃ k : Nat, k ≤ L.length ∧ y = .int .i64 (k : Int) ∧ Hid (∀ j (hj : j < L.length), j < k → sameP p L[j] = false) ∧ Hid (Keeps w wr)) (fun y _ => L.length - (intOf y).toNat)
  case atStart => exact ⟨0, by omega, rfl, fun j hj h => absurd h (by omega), Keeps.refl _⟩
  case round =>
    obtain ⟨k, hk, rfl, HG, HKr⟩ := hrel
    by_cases hlt : k < L.length
    · obtain ⟨b, off, ea, c0, c1, c2⟩ := pcs_at (unhide HC _ HKr.out) k hlt
      subst ea
      have HQ := hide (same_impl p L[k])
      have HF : Hid (sameP p L[k] = true → L.any (sameP p) = true) := fun h => any_first hlt h
      have HG2 : Hid (sameP p L[k] = false → ∀ j (hj : j < L.length), j < k + 1 → sameP p L[j] = false) := fun h j hj h' => by
        by_cases e : j = k
        · subst e; exact h
        · exact HG.out j hj (by omega)
      generalize L[k] = x at *
      obtain ⟨xfr, xto, xpp⟩ := x
      dsimp only [Prc.v] at *
      go_wp2_with fail
      refine (unhide HQ _).mono ?_
      rintro e w2 ⟨rfl, hk2⟩
      have HK2 := hide (HKr.out.trans hk2)
      clear hk2 c0 c1 c2
      cases hs : sameP p ⟨xfr, xto, xpp⟩
      · have HG3 := hide (HG2.out hs)
        go_wp2_with fail
        go_roundw
        case rel => exact ⟨k + 1, by omega, by go_num, HG3.out, HK2.out⟩
        case measure => simp [intOf]; omega
      · have HF2 := hide (HF.out hs)
        go_wp2_with fail
        go_ret
        exact ⟨(k : Int), rfl, by show _ = _; rw [HF2.out]; simp, HK2.out⟩
    · have HN : Hid (L.any (sameP p) = false) := any_none (fun j hj => HG.out j hj (by omega))
      go_wp2_with fail
      go_ret
      exact ⟨-1, rfl, by show _ = _; rw [HN.out]; rfl, HKr.out⟩
theorem contains_same (p : Prc) (a : Option Addr) (cap : Nat) (L : List Prc) (w : World) (hc : Cells w a (pcs L)) (hl : L.length ≤ 1048576) :
    Calls Try.prog 30 #[.slice a L.length cap, .func (Fn.func 31) #[p.v] #[]] w fun e w' => e = .returned (.bool (L.any (sameP p))) ∧ Keeps w w' := by
  have HI := hide (index_same p a cap L w hc hl)
  clear hc
  generalize p.v = pv at *
  go_enter Try.func30, Try.ntmps30
  go_wp2_with fail
  refine (unhide HI).mono ?_
  rintro e w2 ⟨r, rfl, hr, hk2⟩
  go_wp2_with fail
  go_ret
  exact ⟨ret_b (by rw [← hr.out]), hk2⟩
set_option maxHeartbeats 8000000 in
theorem prices_impl (B : Bo) (a : Option Addr) (cap : Nat) (L : List Prc) (w : World) (hm : Mem w B.segs) (hl : B.len) (hp : Cells w a (pcs L)) (hlp : L.length ≤ 1048576) (hcp : L.length ≤ cap) :
    Calls Try.prog 10 #[B.v, .slice a L.length cap] w fun e w' => e = .returned (.bool (pricesB B.d L)) ∧ Keeps w w' := by
  have HBO := hide (fun w' (hk : Keeps w w') => bookok_impl B w' (hm.kept hk) hl)
  have HCC := hide (fun w' (hk : Keeps w w') => Bo.memC (hm.kept hk))
  have HPP := hide (fun w' (hk : Keeps w w') => hp.kept hk)
  have HL := hide hl
  obtain ⟨tk, nx, wa, ca, cc, C, ha, hc, Hs, ra, rc, R⟩ := B
  have HBA := hide (book_box ⟨tk, nx, wa, ca, cc, C, ha, hc, Hs, ra, rc, R⟩ w 35)
  have HKA := hide (Keeps.alloc (Keeps.refl w) (.cells #[.int .i64 tk, .int .i64 nx, .int .i64 wa, .slice ca C.length cc, .slice ha Hs.length hc, .slice ra R.length rc] 35))
  dsimp only [Bo.v] at *
  clear hm hl hp
  obtain ⟨bd, hbd⟩ : ∃ bd, bd = Bo.d ⟨tk, nx, wa, ca, cc, C, ha, hc, Hs, ra, rc, R⟩ := ⟨_, rfl⟩
  have HBD : Hid (bd.C = C) := by show _ = _; rw [hbd]; rfl
  rw [← hbd] at HBO ⊢
  clear hbd
  cases hb : bookB bd
  · have HR := hide (prices_book (L := L) hb)
    go_enter Try.func10, Try.ntmps10
    go_wp2_with fail
    refine (unhide HBO _ HKA.out).mono ?_
    rintro e w1 ⟨rfl, hk1⟩
    rw [hb]
    go_wp2_with fail
    go_ret
    exact ⟨ret_b HR.out.symm, HKA.out.trans hk1⟩
  by_cases h20 : 20 < L.length
  · have HR := hide (prices_len (B := bd) h20)
    go_enter Try.func10, Try.ntmps10
    go_wp2_with fail
    refine (unhide HBO _ HKA.out).mono ?_
    rintro e w1 ⟨rfl, hk1⟩
    rw [hb]
    go_wp2_with fail
    go_ret
    exact ⟨ret_b HR.out.symm, HKA.out.trans hk1⟩
  have HBT := hide hb
  go_enter Try.func10, Try.ntmps10
  go_wp2_with fail
  refine (unhide HBO _ HKA.out).mono ?_
  rintro e w1 ⟨rfl, hk1⟩
  rw [hb]
  clear hb HBO
  generalize w.alloc (.cells #[.int .i64 tk, .int .i64 nx, .int .i64 wa, .slice ca C.length cc, .slice ha Hs.length hc, .slice ra R.length rc] 35) = W0 at *
  go_wp2_with fail
  go_loopw [17] (fun y wr => ∃ k : Nat, k ≤ L.length ∧ y = .int .i64 (k : Int) ∧ Hid (∀ j, j < L.length → j < k → prAt bd.C L j = true) ∧ Hid (Keeps W0 wr)) (fun y _ => L.length - (intOf y).toNat)
  case atStart => exact ⟨0, by omega, rfl, fun j hj h => absurd h (by omega), hk1⟩
  case round =>
    clear hk1
    obtain ⟨k, hk, rfl, HG, HKr⟩ := hrel
    by_cases hlt : k < L.length
    · obtain ⟨b, off, ea, c0, c1, c2⟩ := pcs_at (unhide HPP _ (HKA.out.trans HKr.out)) k hlt
      subst ea
      have HAT := hide (prAt_at (C := bd.C) hlt)
      have HNO : Hid (prAt bd.C L k = false → pricesB bd L = false) := fun h => prices_no hlt h
      have HY : Hid (prAt bd.C L k = true → ∀ j, j < L.length → j < k + 1 → prAt bd.C L j = true) := fun h j hj h' => by
        by_cases e : j = k
        · subst e; exact h
        · exact HG.out j hj (by omega)
      rw [HBD.out] at HAT HNO HY
      have HQ3 := hide (fun w1 (hk : Keeps w w1) => contains_same L[k] (some ⟨b, off, none⟩) cap (L.take k) w1 (pcs_take (unhide HPP w1 hk) k) (by rw [List.length_take]; omega))
      have hmin : min k L.length = k := by omega
      rw [List.length_take, hmin] at HQ3
      clear hmin
      generalize (L.take k) = LT at *
      generalize L[k] = x at *
      obtain ⟨xfr, xto, xpp⟩ := x
      dsimp only [Prc.v] at *
      have HA := hide (rowc3 wr (.int .i64 xfr) (.int .i64 xto) (.int .i64 xpp) 54)
      have HK1 := hide (HKr.out.trans (Keeps.alloc (Keeps.refl wr) (.cells #[.int .i64 xfr, .int .i64 xto, .int .i64 xpp] 54)))
      go_upto_region 6 with fail
      generalize hV : wr.heap.size = V at *
      generalize wr.alloc (.cells #[.int .i64 xfr, .int .i64 xto, .int .i64 xpp] 54) = W1 at *
      obtain ⟨d0, d1, d2⟩ := unhide HA W1 (Keeps.refl _)
      have g0 := gr_cell d0
      have g1 := gr_cell d1
      have g2 := gr_cell d2
      have q3 := (HBA.out.kept HK1.out).2.2.2.1
      dsimp only at q3
      have HQ1 := hide (fun t => two_impl w.heap.size ca cc C xfr xto (gr W1 t) (gr_cell q3 t) (unhide HCC _ (HKA.out.trans (HK1.out.trans (gr_keeps W1 t)))) HL.out.1)
      have HQ2 := hide (fun t => ppm_impl xpp (gr W1 t))
      replace HQ3 := hide (fun t => HQ3.out (gr W1 t) (HKA.out.trans (HK1.out.trans (gr_keeps W1 t))))
      have hk0 : (0 : Int) ≤ (k : Int) := by omega
      have hkc : (k : Int) ≤ (cap : Int) := by omega
      clear c0 c1 c2 d0 d1 d2 q3 hV
      obtain ⟨r1, hr1⟩ : ∃ r, r = twoB C xfr xto := ⟨_, rfl⟩
      obtain ⟨r2, hr2⟩ : ∃ r, r = ppmB xpp := ⟨_, rfl⟩
      obtain ⟨r3, hr3⟩ : ∃ r, r = LT.any (sameP ⟨xfr, xto, xpp⟩) := ⟨_, rfl⟩
      rw [← hr1] at HQ1 HAT
      rw [← hr2] at HQ2 HAT
      rw [← hr3] at HQ3 HAT
      clear hr1 hr2 hr3
      cases r1 <;> cases r2 <;> cases r3
      all_goals
        refine region_gr (by kernel_rfl) (by kernel_rfl) ?_
        repeat (go_big_quiet_step (first | (go_at_call 28; exact gr_call (unhide HQ1 _)) | (go_at_call 29; exact gr_call (unhide HQ2 _)) | (go_at_call 30; exact gr_call (unhide HQ3 _))))
        refine wpQuiet_nil ?_
        intro w' hw'
        have HK2 := hide (HK1.out.trans (Keeps.of_gr hw'))
        clear hw' g0 g1 g2
        go_wp2_with fail
        first
          | (go_ret
             exact ⟨ret_b (HNO.out (by rw [HAT.out]; rfl)).symm, HKA.out.trans HK2.out⟩)
          | (go_roundw
             case rel => exact ⟨k + 1, by omega, by go_num, (by rw [HBD.out]; exact HY.out (by rw [HAT.out]; rfl)), HK2.out⟩
             case measure => simp [intOf]; omega)
          | (trace_state; sorry)
    · have HR : Hid (pricesB bd L = true) := prices_yes HBT.out (by omega) (fun j hj => HG.out j hj (by omega))
      go_wp2_with fail
      go_ret
      exact ⟨ret_b HR.out.symm, HKA.out.trans HKr.out⟩
end Go.Proofs.Ytjdbedlgkngdkaa
