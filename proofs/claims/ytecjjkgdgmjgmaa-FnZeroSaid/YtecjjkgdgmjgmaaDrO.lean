/- The model's draws of changed lines: l02Any. -/
import Derived.Test.YtecjjkgdgmjgmaaDrM
import Derived.Test.YtecjjkgdgmjgmaaByt
namespace Go.Proofs.Ytecjjkgdgmjgmaa
open Go.RowKit Go.Deep
set_option linter.unusedVariables false
set_option linter.unusedSimpArgs false
theorem cells_setQ {w : World} {g off : Nat} {xs : List Value} (hc : ∀ j (hj : j < xs.length), w.cell? ⟨g, off + j, none⟩ = some xs[j]) (i : Nat) (v : Value) (hi : i < xs.length) : ∀ j (hj : j < (xs.set i v).length), (w.setCell ⟨g, off + i, none⟩ v).cell? ⟨g, off + j, none⟩ = some (xs.set i v)[j] := by
  intro j hj
  have hj' : j < xs.length := by simpa using hj
  by_cases e : j = i
  · subst e
    rw [World.cell?_setCell_same _ _ _ (hc j hj')]; simp
  · rw [World.cell?_setCell_other _ _ _ _ (by simp), hc j hj', List.getElem_set_ne (Ne.symm e)]
/-- One cell of a list of one's own was written. -/
theorem Own.setCellQ {w : World} {g off : Nat} {xs : List Value} (h : Own w [(some ⟨g, off, none⟩, xs)]) (i : Nat) (v : Value) (hi : i < xs.length) : Own (w.setCell ⟨g, off + i, none⟩ v) [(some ⟨g, off, none⟩, xs.set i v)] := by
  refine h.wrote (by simp) (Or.inr ⟨g, off, rfl, cells_setQ ?_ i v hi⟩) (fun p => frozen_set ..)
  rcases h.one with h' | ⟨g', off', e, h'⟩
  · rw [h'] at hi; simp at hi
  · have e' := Option.some.inj e
    injection e' with e1 e2
    subst e1 e2
    exact h'
theorem flat_cons (x : Ln) (L : List Ln) : flat (x :: L) = .int .i64 x.k :: .int .i64 x.c :: .int .i64 x.a :: flat L := by simp [flat, Ln.cells]
theorem set_three (x y z : Value) (L : List Value) (j : Nat) (v : Value) : (x :: y :: z :: L).set (j + 3) v = x :: y :: z :: L.set j v := rfl
theorem flat_amt : ∀ (L : List Ln) (i : Nat) (h : i < L.length) (n : Int), (flat L).set (i * 3 + 2) (.int .i64 n) = flat (L.set i ⟨L[i].k, L[i].c, n⟩)
  | [], i, h, _ => absurd h (by simp)
  | x :: t, 0, _, n => by simp [flat_cons]
  | x :: t, i + 1, h, n => by
    have ih := flat_amt t i (by simpa using h) n
    rw [flat_cons, show (i + 1) * 3 + 2 = (i * 3 + 2) + 3 by omega, set_three, ih]
    simp [flat_cons]
theorem flat_acc : ∀ (L : List Ln) (i : Nat) (h : i < L.length) (k c : Int), ((flat L).set (i * 3) (.int .i64 k)).set (i * 3 + 1) (.int .i64 c) = flat (L.set i ⟨k, c, L[i].a⟩)
  | [], i, h, _, _ => absurd h (by simp)
  | x :: t, 0, _, k, c => by simp [flat_cons]
  | x :: t, i + 1, h, k, c => by
    have ih := flat_acc t i (by simpa using h) k c
    rw [flat_cons, show (i + 1) * 3 = i * 3 + 3 by omega, set_three, show i * 3 + 3 + 1 = (i * 3 + 1) + 3 by omega, set_three, ih]
    simp [flat_cons]
theorem flat_line : ∀ (L : List Ln) (i : Nat) (h : i < L.length) (x : Ln), (((flat L).set (i * 3) (.int .i64 x.k)).set (i * 3 + 1) (.int .i64 x.c)).set (i * 3 + 2) (.int .i64 x.a) = flat (L.set i x)
  | [], i, h, _ => absurd h (by simp)
  | y :: t, 0, _, x => by simp [flat_cons]
  | y :: t, i + 1, h, x => by
    have ih := flat_line t i (by simpa using h) x
    rw [flat_cons, show (i + 1) * 3 = i * 3 + 3 by omega, set_three, show i * 3 + 3 + 1 = (i * 3 + 1) + 3 by omega, set_three, show i * 3 + 3 + 2 = (i * 3 + 2) + 3 by omega, set_three, ih]
    simp [flat_cons]
theorem own_take {w : World} {p : Option Addr} {L : List Ln} (h : Own w [(p, flat L)]) (n : Nat) : Own w [(p, flat (L.take n))] := by
  have e : flat L = flat (L.take n) ++ flat (L.drop n) := by unfold flat; rw [← List.flatMap_append, List.take_append_drop]
  have hsub : ∀ b ∈ fp [(p, flat (L.take n))], b ∈ fp [(p, flat L)] := fun b hb => by
    rw [fp_one] at hb ⊢
    unfold fpS at hb ⊢
    by_cases h0 : flat (L.take n) = []
    · simp [h0] at hb
    · have h1 : flat L ≠ [] := fun h2 => h0 (by rw [e] at h2; exact (List.append_eq_nil_iff.1 h2).1)
      simp only [h0, h1, if_false] at hb ⊢
      exact hb
  refine ⟨?_, ?_, fun b hb => h.free b (hsub b hb)⟩
  · intro s hs
    rw [List.mem_singleton.1 hs]
    rcases h.one with h' | ⟨b, off, e', h'⟩
    · left
      rw [e] at h'
      exact (List.append_eq_nil_iff.1 h').1
    · refine Or.inr ⟨b, off, e', fun j hj => ?_⟩
      have hj' : j < (flat (L.take n)).length := hj
      rw [h' j (by rw [e, List.length_append]; omega)]
      congr 1
      simp only [e]
      rw [List.getElem_append_left hj']
  · rw [fp_one]
    unfold fpS
    split
    · simp
    · cases p <;> simp
theorem own_line {w : World} {b off : Nat} {L : List Ln} (h : Own w [(some ⟨b, off, none⟩, flat L)]) (i : Nat) (hi : i < L.length) (x : Ln) : Own (((w.setCell ⟨b, off + i * 3, none⟩ (.int .i64 x.k)).setCell ⟨b, off + i * 3 + 1, none⟩ (.int .i64 x.c)).setCell ⟨b, off + i * 3 + 2, none⟩ (.int .i64 x.a)) [(some ⟨b, off, none⟩, flat (L.set i x))] := by
  have h1 := h.setCellQ (i * 3) (.int .i64 x.k) (by rw [flat_length]; omega)
  have h2 := h1.setCellQ (i * 3 + 1) (.int .i64 x.c) (by rw [List.length_set, flat_length]; omega)
  have h3 := h2.setCellQ (i * 3 + 2) (.int .i64 x.a) (by rw [List.length_set, List.length_set, flat_length]; omega)
  rw [flat_line L i hi x, ← Nat.add_assoc, ← Nat.add_assoc] at h3
  exact h3
/-- The first line and the last one change places. -/
theorem own_swap {w : World} {b off : Nat} {L : List Ln} (h : Own w [(some ⟨b, off, none⟩, flat L)]) (hp : 0 < L.length) (hl1 : L.length - 1 < L.length) : ∃ L' : List Ln, L'.length = L.length ∧ ∀ W, Keeps w W → Own (((((((W.setCell ⟨b, off, none⟩ (.int .i64 (L[L.length - 1]'hl1).k)).setCell ⟨b, off + 1, none⟩ (.int .i64 (L[L.length - 1]'hl1).c)).setCell ⟨b, off + 2, none⟩ (.int .i64 (L[L.length - 1]'hl1).a)).setCell ⟨b, off + (L.length - 1) * 3, none⟩ (.int .i64 L[0].k)).setCell ⟨b, off + (L.length - 1) * 3 + 1, none⟩ (.int .i64 L[0].c)).setCell ⟨b, off + (L.length - 1) * 3 + 2, none⟩ (.int .i64 L[0].a))) [(some ⟨b, off, none⟩, flat L')] := by
  refine ⟨(L.set 0 (L[L.length - 1]'hl1)).set (L.length - 1) L[0], by simp, fun W hk => ?_⟩
  have h1 := own_line (h.kept hk) 0 hp (L[L.length - 1]'hl1)
  simp only [Nat.zero_mul, Nat.add_zero] at h1
  have h2 := own_line h1 (L.length - 1) (by simp; omega) L[0]
  exact h2
/-- Lines that were changed in place. -/
def IsAny (B : Nat) (p : Option Addr) (c : Nat) (L : List Ln) (w w' : World) (e : Ending) : Prop := ∃ L' : List Ln, L'.length ≤ L.length ∧ e = .returned (.slice p L'.length c) ∧ Own w' [(p, flat L')] ∧ Turn (B :: fp [(p, flat L)]) w w'
set_option maxRecDepth 100000 in
set_option maxHeartbeats 8000000 in
theorem any_any {B0 B : Nat} {a : Option Addr} {len cap : Nat} {w : World} (p : Option Addr) (c : Nat) (L : List Ln) (s : Dr B0 B a len cap w) (ho : Own w [(p, flat L)]) (hf : ∀ b ∈ fp [(p, flat L)], B0 ≤ b ∧ b ≠ B) (hl : L.length ≤ 320) (hc : L.length ≤ c) :
    Calls Try.prog 39 #[.pointer (some ⟨B, 0, none⟩), .slice p L.length c] w fun e w' => IsAny B p c L w w' e ∧ Dr B0 B a len cap w' := by
  have hB := s.lt
  have hB0 := s.le
  have HS := hide s
  have HO := hide ho
  have HF := hide hf
  clear s ho hf
  by_cases h0 : L = []
  · subst h0
    go_enter Try.func39, Try.ntmps39
    go_wp2_with fail
    go_ret
    exact ⟨⟨[], by simp, rfl, HO.out, Turn.refl _ _⟩, HS.out⟩
  · have hpos : 0 < L.length := List.length_pos_iff.2 h0
    rcases HO.out.one with hh | ⟨b, off, rfl, hcl⟩
    · exact absurd (flat_nil.1 hh) h0
    have hfp : fp [((some ⟨b, off, none⟩ : Option Addr), flat L)] = [b] := by rw [fp_one, fpS_some (fun e => h0 (flat_nil.1 e))]
    have hbn := HF.out b (by rw [hfp]; simp)
    have hlb : b < w.heap.size := HO.out.mem.lt b (by rw [hfp]; simp)
    have HFP := hide hfp
    have hlz : ((L.length : Int) == 0) = false := by rw [beq_eq_false_iff_ne]; omega
    clear hcl HF hfp
    go_enter Try.func39, Try.ntmps39
    go_wp2_with fail
    refine (below_any (L.length : Int) HS.out (by omega) (by omega)).mono ?_
    rintro e w1 ⟨⟨i, i0, i1, rfl⟩, s1, g1⟩
    obtain ⟨i, rfl⟩ := Int.eq_ofNat_of_zero_le i0
    have HS1 := hide s1
    have HT1 := hide (Turn.of_grown (fs := [B, b]) g1 (by simp))
    have HO1 := hide (HO.out.turn (Turn.of_grown (fs := [B]) g1 (by simp)) (fun x hx hx' => by rw [HFP.out] at hx; simp at hx hx'; omega))
    have hi : i < L.length := by omega
    clear s1 g1 HS HO
    go_wp2_with fail
    refine (below_any 14 HS1.out (by omega) (by omega)).mono ?_
    rintro e w2 ⟨⟨k, k0, k14, rfl⟩, s2, g2⟩
    have HS2 := hide s2
    have HT2 := hide (HT1.out.trans' (Turn.of_grown (fs := [B, b]) g2 (by simp)))
    have HO2 := hide (HO1.out.turn (Turn.of_grown (fs := [B]) g2 (by simp)) (fun x hx hx' => by rw [HFP.out] at hx; simp at hx hx'; omega))
    clear s2 g2 HS1 HO1 HT1
    have hfz : ∀ o, w2.frozen? ⟨b, o, none⟩ = false := fun o => HO2.out.free b (by rw [HFP.out]; simp) o
    by_cases e0 : k = 0
    · subst e0
      go_wp2_with fail
      refine (raw_any HS2.out).mono ?_
      rintro e w3 ⟨⟨n, rfl⟩, s3, g3⟩
      have HS3 := hide s3
      have HT3 := hide (HT2.out.trans' (Turn.of_grown (fs := [B, b]) g3 (by simp)))
      have HO3 := hide (HO2.out.turn (Turn.of_grown (fs := [B]) g3 (by simp)) (fun x hx hx' => by rw [HFP.out] at hx; simp at hx hx'; omega))
      obtain ⟨b', off', eb, c0, c1, c2⟩ := cells_at HO3.out.one i hi
      have eb' := Option.some.inj eb
      injection eb' with eb1 eb2
      subst eb1 eb2
      have f2 := HO3.out.free b (by rw [HFP.out]; simp) (off + i * 3 + 2)
      clear s3 g3 HS2 HO2 HT2 eb hfz
      go_wp2_with fail
      go_ret
      have hset := HO3.out.setCellQ (i * 3 + 2) (.int .i64 n) (by rw [flat_length]; omega)
      rw [flat_amt L i hi n, ← Nat.add_assoc] at hset
      refine ⟨⟨L.set i ⟨L[i].k, L[i].c, n⟩, by simp, by simp, hset, ?_⟩, HS3.out.setL (by omega) (by omega) _⟩
      rw [HFP.out]
      exact HT3.out.trans' (Turn.set (by simp) _)
    · by_cases e1 : k = 1
      · subst e1
        go_wp2_with fail
        refine (anyacc_any HS2.out).mono ?_
        rintro e w3 ⟨⟨nk, nc, rfl⟩, s3, g3⟩
        have HS3 := hide s3
        have HT3 := hide (HT2.out.trans' (Turn.of_grown (fs := [B, b]) g3 (by simp)))
        have HO3 := hide (HO2.out.turn (Turn.of_grown (fs := [B]) g3 (by simp)) (fun x hx hx' => by rw [HFP.out] at hx; simp at hx hx'; omega))
        obtain ⟨b', off', eb, c0, c1, c2⟩ := cells_at HO3.out.one i hi
        have eb' := Option.some.inj eb
        injection eb' with eb1 eb2
        subst eb1 eb2
        have f0 := HO3.out.free b (by rw [HFP.out]; simp) (off + i * 3)
        have f1 := HO3.out.free b (by rw [HFP.out]; simp) (off + i * 3 + 1)
        clear s3 g3 HS2 HO2 HT2 eb hfz
        go_wp2_with fail
        go_ret
        have hs1 := HO3.out.setCellQ (i * 3) (.int .i64 nk) (by rw [flat_length]; omega)
        have hset := hs1.setCellQ (i * 3 + 1) (.int .i64 nc) (by rw [List.length_set, flat_length]; omega)
        rw [flat_acc L i hi nk nc, ← Nat.add_assoc] at hset
        refine ⟨⟨L.set i ⟨nk, nc, L[i].a⟩, by simp, by simp, hset, ?_⟩, (HS3.out.setL (by omega) (by omega) _).setL (by omega) (by omega) _⟩
        rw [HFP.out]
        exact (HT3.out.trans' (Turn.set (by simp) _)).trans' (Turn.set (by simp) _)
      · by_cases e2 : k = 2
        · subst e2
          have hcc : (L.length : Int) - 1 ≤ c := by omega
          go_wp2_with fail
          go_ret
          have hlt : (L.take (L.length - 1)).length = L.length - 1 := by simp
          exact ⟨⟨L.take (L.length - 1), by simp, by rw [hlt]; rfl, own_take HO2.out (L.length - 1), by rw [HFP.out]; exact HT2.out⟩, HS2.out⟩
        · by_cases e3 : k = 3
          · subst e3
            have hl1 : L.length - 1 < L.length := by omega
            obtain ⟨b', off', eb, c0, c1, c2⟩ := cells_at HO2.out.one 0 hpos
            obtain ⟨b'', off'', ec, d0, d1, d2⟩ := cells_at HO2.out.one (L.length - 1) hl1
            have eb' := Option.some.inj eb
            injection eb' with eb1 eb2
            subst eb1 eb2
            have ec' := Option.some.inj ec
            injection ec' with ec1 ec2
            subst ec1 ec2
            simp only [Nat.zero_mul, Nat.add_zero] at c0 c1 c2
            have g0 := hfz off
            have g1 := hfz (off + 1)
            have g2 := hfz (off + 2)
            have g3 := hfz (off + (L.length - 1) * 3)
            have g4 := hfz (off + (L.length - 1) * 3 + 1)
            have g5 := hfz (off + (L.length - 1) * 3 + 2)
            have hlb2 : b < w2.heap.size := lt_of_cell c0
            obtain ⟨L2, hL2, hX⟩ := own_swap HO2.out hpos hl1
            have HX := hide hX
            clear hX eb ec hfz
            by_cases h1 : L.length = 1
            · obtain ⟨y, rfl⟩ := List.length_eq_one_iff.1 h1
              have hA := own_line HO2.out 0 (by simp) y
              have hB2 := own_line hA 0 (by simp) y
              simp only [Nat.zero_mul, Nat.add_zero, List.set_cons_zero] at hB2
              have HB2 := hide hB2
              clear hA hB2 HX h1
              simp only [List.length_singleton, Nat.sub_self, Nat.zero_mul, Nat.add_zero, List.getElem_cons_zero] at c0 c1 c2 d0 d1 d2 g3 g4 g5
              go_wp2_with fail
              go_ret
              refine ⟨⟨[y], Nat.le_refl _, rfl, HB2.out.kept (Keeps.alloc (Keeps.refl _) _), ?_⟩, (((((((HS2.out.setL (by omega) (by omega) _).setL (by omega) (by omega) _).setL (by omega) (by omega) _).setL (by omega) (by omega) _).setL (by omega) (by omega) _).setL (by omega) (by omega) _)).grown (row := none) (World.grownBy_alloc _ _ none) (by simp) (by simp)⟩
              rw [HFP.out]
              exact (((((((HT2.out.trans' (Turn.set (by simp) _)).trans' (Turn.set (by simp) _)).trans' (Turn.set (by simp) _)).trans' (Turn.set (by simp) _)).trans' (Turn.set (by simp) _)).trans' (Turn.set (by simp) _)).trans' (Turn.of_keeps (Keeps.alloc (Keeps.refl _) _) _))
            · go_wp2_with fail
              go_ret
              refine ⟨⟨L2, by omega, by rw [hL2]; rfl, (HX.out w2 (Keeps.refl _)).kept (Keeps.alloc (Keeps.refl _) _), ?_⟩, (((((((HS2.out.setL (by omega) (by omega) _).setL (by omega) (by omega) _).setL (by omega) (by omega) _).setL (by omega) (by omega) _).setL (by omega) (by omega) _).setL (by omega) (by omega) _)).grown (row := none) (World.grownBy_alloc _ _ none) (by simp) (by simp)⟩
              rw [HFP.out]
              exact (((((((HT2.out.trans' (Turn.set (by simp) _)).trans' (Turn.set (by simp) _)).trans' (Turn.set (by simp) _)).trans' (Turn.set (by simp) _)).trans' (Turn.set (by simp) _)).trans' (Turn.set (by simp) _)).trans' (Turn.of_keeps (Keeps.alloc (Keeps.refl _) _) _))
          · have b0 : (k == 0) = false := by rw [beq_eq_false_iff_ne]; exact e0
            have b1 : (k == 1) = false := by rw [beq_eq_false_iff_ne]; exact e1
            have b2 : (k == 2) = false := by rw [beq_eq_false_iff_ne]; exact e2
            have b3 : (k == 3) = false := by rw [beq_eq_false_iff_ne]; exact e3
            clear e0 e1 e2 e3
            go_wp2_with fail
            go_ret
            exact ⟨⟨L, Nat.le_refl _, rfl, HO2.out, by rw [HFP.out]; exact HT2.out⟩, HS2.out⟩
end Go.Proofs.Ytecjjkgdgmjgmaa
