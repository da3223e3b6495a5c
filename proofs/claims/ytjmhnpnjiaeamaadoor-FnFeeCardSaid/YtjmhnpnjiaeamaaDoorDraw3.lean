/- Contracts of DrawFee and DrawMulDiv of the model; the two laws of chapter 2 over them (FnFee, FnMulDiv): their walks. -/
import Derived.Test.YtjmhnpnjiaeamaaDoorDraw2
import Derived.OpenShut
namespace Go.Proofs.YtjmhnpnjiaeamaaDoor
open Go.RowKit
set_option linter.unusedVariables false

theorem row_nil {W : World} : RowAt W.heap.size W none 0 := fun j hj => absurd hj (Nat.not_lt_zero j)
theorem row_of {W : World} {x : Addr} {len cap : Nat} {zs : List Int} (hl : len ≤ cap) (hz : zs.length = cap) (hcell : ∀ i, i < zs.length → W.cell? (x.add i) = some (.int .u8 (zs.getD i 0))) (hwz : ∀ n ∈ zs, (Lit.int .u8 n).wf = true) :
    RowAt W.heap.size W (some x) len := by
  intro j hj
  have hc := hcell j (by omega)
  obtain ⟨b, off, spot⟩ := x
  have hspot : spot = none := by simpa [Addr.add] using World.cell?_spot (hcell 0 (by omega))
  subst hspot
  have hc' : W.cell? ⟨b, off + j, none⟩ = some (.int .u8 (zs.getD j 0)) := by
    by_cases hj0 : j = 0
    · subst hj0; simpa [Addr.add] using hc
    · simpa [Addr.add, hj0] using hc
  have hm : zs.getD j 0 ∈ zs := by
    rw [List.getD_eq_getElem?_getD, List.getElem?_eq_getElem (by omega)]
    exact List.getElem_mem _
  have hb := hwz _ hm
  have hb2 : 0 ≤ zs.getD j 0 ∧ zs.getD j 0 ≤ 255 := by
    exact bounds_u8 hb
  exact ⟨b, off, zs.getD j 0, rfl, lt_of_cell hc', hb2.1, hb2.2, hc'⟩

set_option maxHeartbeats 2000000 in
theorem drawFee_any (a : Option Addr) (len cap : Nat) (w : World) (hr : RowAt w.heap.size w a len) (hl : len ≤ 1048576) :
    Calls Tryd.prog 12 #[.slice a len cap] w fun e w' => IsThree e ∧ Keeps w w' := by
  have HN := hide (new_any a len cap w hr hl)
  clear hr
  go_enter Tryd.func12, Tryd.ntmps12
  go_wp2_with fail
  refine (unhide HN).mono ?_
  rintro e w1 ⟨rfl, s1⟩
  go_wp2_with fail
  refine (two_any s1).mono ?_
  rintro e w2 ⟨⟨x, y, rfl⟩, s2⟩
  go_wp2_with fail
  refine (below_any 6000 s2 (by omega) (by omega)).mono ?_
  rintro e w3 ⟨⟨p, p0, p1, rfl⟩, s3⟩
  go_wp2_with fail
  refine (below_any 5 s3 (by omega) (by omega)).mono ?_
  rintro e w4 ⟨⟨k, k0, k1, rfl⟩, s4⟩
  clear s1 s2 s3 HN
  by_cases h0 : k = 0
  · subst h0
    go_wp2_with (go_at_call 31; refine (raw_any s4).mono ?_; rintro e w5 ⟨⟨z, rfl⟩, s5⟩)
    go_ret3
    exact ⟨isThree, s5.below⟩
  · have h0' : (k == 0) = false := beq_eq_false_iff_ne.2 h0
    clear h0
    go_wp2_with fail
    go_ret3
    exact ⟨isThree, s4.below⟩

set_option maxHeartbeats 2000000 in
theorem drawMulDiv_any (a : Option Addr) (len cap : Nat) (w : World) (hr : RowAt w.heap.size w a len) (hl : len ≤ 1048576) :
    Calls Tryd.prog 16 #[.slice a len cap] w fun e w' => IsThree e ∧ Keeps w w' := by
  have HN := hide (new_any a len cap w hr hl)
  clear hr
  go_enter Tryd.func16, Tryd.ntmps16
  go_wp2_with fail
  refine (unhide HN).mono ?_
  rintro e w1 ⟨rfl, s1⟩
  go_wp2_with fail
  refine (two_any s1).mono ?_
  rintro e w2 ⟨⟨x, y, rfl⟩, s2⟩
  go_wp2_with fail
  refine (amt_any s2).mono ?_
  rintro e w3 ⟨⟨p, rfl⟩, s3⟩
  go_wp2_with fail
  refine (below_any 5 s3 (by omega) (by omega)).mono ?_
  rintro e w4 ⟨⟨k, k0, k1, rfl⟩, s4⟩
  clear s1 s2 s3 HN
  by_cases h0 : k = 0
  · subst h0
    go_wp2_with fail
    refine (raw_any s4).mono ?_
    rintro e w5 ⟨⟨z, rfl⟩, s5⟩
    go_wp2_with fail
    refine (below_any 3 s5 (by omega) (by omega)).mono ?_
    rintro e w6 ⟨⟨m, m0, m1, rfl⟩, s6⟩
    by_cases hm : m = 0
    · subst hm
      go_wp2_with fail
      go_ret3
      exact ⟨isThree, s6.below⟩
    · have hm' : (m == 0) = false := beq_eq_false_iff_ne.2 hm
      clear hm
      go_wp2_with fail
      go_ret3
      exact ⟨isThree, s6.below⟩
  · have h0' : (k == 0) = false := beq_eq_false_iff_ne.2 h0
    clear h0
    go_wp2_with fail
    refine (below_any 3 s4 (by omega) (by omega)).mono ?_
    rintro e w6 ⟨⟨m, m0, m1, rfl⟩, s6⟩
    by_cases hm : m = 0
    · subst hm
      go_wp2_with fail
      go_ret3
      exact ⟨isThree, s6.below⟩
    · have hm' : (m == 0) = false := beq_eq_false_iff_ne.2 hm
      clear hm
      go_wp2_with fail
      go_ret3
      exact ⟨isThree, s6.below⟩

theorem div_comm (a b c : Int) : divB b a c = divB a b c ∧ divV b a c = divV a b c := by
  have e : divB b a c = divB a b c := by simp only [divB, Int.mul_comm b a, Bool.and_comm (amtB b) (amtB a)]
  exact ⟨e, by simp only [divV, e, Int.mul_comm b a]⟩

set_option maxHeartbeats 2000000 in
theorem fnMulDiv_walk (a0 : Option Addr) (len0 cap0 : Nat) (w : World) (hr : RowAt w.heap.size w a0 len0) (u0 : TypeId) (x0 : Value) (hg0 : w.cell? ⟨0, 0, none⟩ = some (.iface u0 x0)) (u3 : TypeId) (x3 : Value) (hg3 : w.cell? ⟨3, 0, none⟩ = some (.iface u3 x3)) :
    Calls Tryd.prog 4 #[.slice a0 len0 cap0] w fun e w' => e = .returned (.bool true) ∧ Keeps w w' := by
  by_cases hbig : 1048576 < len0
  · clear hr hg0 hg3
    go_enter Tryd.func4, Tryd.ntmps4
    go_wp2_with fail
    go_ret
    exact ⟨rfl, Keeps.refl _⟩
  · have HD := hide (drawMulDiv_any a0 len0 cap0 w hr (by omega))
    have HI := hide (fun (w1 : World) (hk : Keeps w w1) a b c => mulDiv_impl a b c w1 u0 u3 x0 x3 (hk.cell hg0) (hk.cell hg3))
    clear hr hg0 hg3
    go_enter Tryd.func4, Tryd.ntmps4
    go_wp2_with fail
    refine (unhide HD).mono ?_
    rintro e w1 ⟨⟨a, b, c, rfl⟩, k1⟩
    go_wp2_with fail
    refine (unhide HI _ k1 a b c).mono ?_
    rintro e w2 ⟨rfl, k2⟩
    go_wp2_with fail
    refine (mulDiv_spec a b c _).mono ?_
    rintro e w3 ⟨rfl, hw⟩
    rw [hw]
    clear hw w3 HD
    have k12 := k1.trans k2
    have HC1 := hide (div_comm a b c).1
    have HC2 := hide (div_comm a b c).2
    cases hd : divB a b c
    · have hv : divV a b c = 0 := by simp [divV, hd]
      go_wp2_with fail
      go_ret
      exact ⟨rfl, k12⟩
    · obtain ⟨ha, hb, c0, c1, hm⟩ := divB_true hd
      obtain ⟨a0', a1'⟩ := amtB_true ha
      obtain ⟨b0', b1'⟩ := amtB_true hb
      clear ha hb
      have hv : divV a b c = a * b / c := by simp [divV, hd]
      by_cases hs : a < 1073741824 ∧ b < 1073741824
      · obtain ⟨sa, sb⟩ := hs
        have p0 : 0 ≤ a * b := Int.mul_nonneg a0' b0'
        have p1 : a * b ≤ 1152921504606846976 := by
          have : a * b ≤ 1073741824 * 1073741824 := Int.mul_le_mul (by omega) (by omega) b0' (by omega)
          omega
        have q0 : 0 ≤ a * b / c := Int.ediv_nonneg p0 (by omega)
        have e := Int.emod_add_mul_ediv (a * b) c
        have r0 := Int.emod_nonneg (a * b) (show c ≠ 0 by omega)
        have r1 := Int.emod_lt_of_pos (a * b) (show 0 < c by omega)
        have m : c * (a * b / c) = a * b / c * c := Int.mul_comm _ _
        have t0 : 0 ≤ a * b / c * c := Int.mul_nonneg q0 (by omega)
        have t1 : a * b / c * c ≤ a * b := by omega
        have t2 : a * b - a * b / c * c < c := by omega
        clear e r0 r1 m HI HC1 HC2
        generalize a * b / c = Q at *
        go_wp2_with fail
        go_ret
        exact ⟨rfl, k12⟩
      · have HI2 := hide (unhide HI _ k12 b a c)
        rw [HC1.out, HC2.out] at HI2
        clear HI HC1 HC2
        by_cases sa : a < 1073741824
        · have sb : ¬ b < 1073741824 := fun h => hs ⟨sa, h⟩
          clear hs
          go_wp2_with (go_at_call 17; refine (unhide HI2).mono ?_; rintro e w4 ⟨rfl, k4⟩)
          go_ret
          exact ⟨rfl, k12.trans k4⟩
        · clear hs
          go_wp2_with (go_at_call 17; refine (unhide HI2).mono ?_; rintro e w4 ⟨rfl, k4⟩)
          go_ret
          exact ⟨rfl, k12.trans k4⟩

theorem mono_part {ppm amt : Int} (h : 0 ≤ ppm) : amt * ppm / 1000000 ≤ (amt + 1) * ppm / 1000000 := by
  apply Int.ediv_le_ediv (by omega)
  rw [Int.add_mul]; omega
/-- What is between a fee that is cut down and one that is cut up. -/
theorem fee_no {base ppm amt : Int} (h : feeB base ppm amt false = false) : feeB base ppm amt true = false := by
  cases hs : shB ppm amt
  · simp [feeB, hs]
  · have h1 : addB base (part ppm amt false) = false := by simpa [feeB, hs] using h
    rw [part_down] at h1
    simp only [shB, Bool.and_eq_true] at hs
    obtain ⟨ha, hb, _, _, hm⟩ := divB_true hs.2
    have h0 : 0 ≤ amt * ppm / 1000000 := Int.ediv_nonneg (Int.mul_nonneg (amtB_true ha).1 (amtB_true hb).1) (by omega)
    have h2 : addB base (part ppm amt true) = false := by
      unfold part
      split
      · simp [addB, amtB] at h1 ⊢; omega
      · exact h1
    simp [feeB, h2]
theorem fee_yes {base ppm amt : Int} (h : feeB base ppm amt false = true) :
    (0 ≤ base ∧ base ≤ 1125899906842624 ∧ 0 ≤ amt ∧ amt ≤ 1125899906842624 ∧ 0 ≤ ppm) ∧ (0 ≤ feeV base ppm amt false ∧ feeV base ppm amt false ≤ 1125899906842624) ∧
    ((feeB base ppm amt true = true ∧ (feeV base ppm amt true = feeV base ppm amt false ∨ feeV base ppm amt true = feeV base ppm amt false + 1)) ∨ (feeB base ppm amt true = false ∧ feeV base ppm amt false = 1125899906842624)) ∧
    (feeB base ppm (amt + 1) false = true → feeV base ppm amt false ≤ feeV base ppm (amt + 1) false) := by
  have hf := h
  simp only [feeB, Bool.and_eq_true] at h
  obtain ⟨hs, had⟩ := h
  have hs' := hs
  simp only [shB, Bool.and_eq_true] at hs
  obtain ⟨ha, hb, _, _, hm⟩ := divB_true hs.2
  have ha1 := amtB_true ha
  have hb1 := amtB_true hb
  have had' := had
  rw [part_down] at had
  simp only [addB, Bool.and_eq_true] at had
  have hbase := amtB_true had.1.1
  have hsum := amtB_true had.2
  have hv : feeV base ppm amt false = base + amt * ppm / 1000000 := by simp [feeV, hf, part_down]
  have h0 : 0 ≤ amt * ppm / 1000000 := Int.ediv_nonneg (Int.mul_nonneg ha1.1 hb1.1) (by omega)
  refine ⟨⟨hbase.1, hbase.2, ha1.1, ha1.2, hb1.1⟩, by rw [hv]; exact hsum, ?_, ?_⟩
  · cases hg : feeB base ppm amt true
    · refine Or.inr ⟨rfl, ?_⟩
      have h3 : addB base (part ppm amt true) = false := by simpa [feeB, hs'] using hg
      rw [hv]
      unfold part at h3
      split at h3
      · simp [addB, amtB] at h3; omega
      · have h4 : addB base (amt * ppm / 1000000) = true := by rw [← part_down]; exact had'
        rw [h4] at h3; cases h3
    · refine Or.inl ⟨rfl, ?_⟩
      have hv2 : feeV base ppm amt true = base + part ppm amt true := by simp [feeV, hg]
      rw [hv2, hv]
      unfold part
      split
      · right; omega
      · left; rfl
  · intro h2
    have hv2 : feeV base ppm (amt + 1) false = base + (amt + 1) * ppm / 1000000 := by simp [feeV, h2, part_down]
    have := mono_part (amt := amt) hb1.1
    rw [hv, hv2]; omega
end Go.Proofs.YtjmhnpnjiaeamaaDoor
