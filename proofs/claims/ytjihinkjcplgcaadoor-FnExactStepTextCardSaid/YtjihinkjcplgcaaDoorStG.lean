/- Steps in the laws' hands. -/
import Derived.Test.YtjihinkjcplgcaaDoorStD
import Derived.Test.YtjihinkjcplgcaaDoorSw
import Derived.Test.YtjihinkjcplgcaaDoorEvR
import Derived.Test.YtjihinkjcplgcaaDoorEvQ
import Derived.Test.YtjihinkjcplgcaaDoorTnG
import Derived.Test.YtjihinkjcplgcaaDoorIntL
import Derived.Deep.Cut
namespace Go.Proofs.YtjihinkjcplgcaaDoor
open Go.RowKit Go.Deep Go.ChangeShapes Go.WideShapes
set_option linter.unusedVariables false
set_option linter.unusedSimpArgs false
set_option maxRecDepth 10000
theorem szIntS_k (a : Option Addr) (len cap : Nat) (left : Int) (w : World) (hl : len ≤ 9223372036854775807) (h0 : 0 ≤ left) (h1 : left ≤ 1048576) :
    Calls Tryd.prog 9 #[.slice a len cap, .int .i64 left] w fun e w' => e = .returned (.int .i64 (if (len : Int) ≤ left then left - len else -1)) ∧ w' = w := by
  by_cases h : (len : Int) ≤ left
  · rw [if_pos h]
    go_enter Tryd.func9, Tryd.ntmps9
    go_wp2_with fail
    go_ret
    exact ⟨rfl, rfl⟩
  · rw [if_neg h]
    go_enter Tryd.func9, Tryd.ntmps9
    go_wp2_with fail
    go_ret
    exact ⟨rfl, rfl⟩
set_option maxHeartbeats 2000000 in
theorem szStep_k (D : Stp) (a : Option Addr) (c : Nat) (w : World) (hl : D.ks.length ≤ 9223372036854775807) :
    Calls Tryd.prog 4 #[D.v a c, .int .i64 1048576] w fun e w' => ∃ r : Int, e = .returned (.int .i64 r) ∧ (0 ≤ r → D.ks.length ≤ 1048576) ∧ Keeps w w' := by
  have HK := hide (Keeps.alloc (Keeps.refl w) (.cells (D.cells a c) 28))
  have HQ := hide (fun w' => szIntS_k a D.ks.length c 1048576 w' hl (by omega) (by omega))
  by_cases h : (D.ks.length : Int) ≤ 1048576
  · rw [if_pos h] at HQ
    go_enter Tryd.func4, Tryd.ntmps4
    go_wp2_with fail
    refine (unhide HQ _).mono ?_
    rintro x w1 ⟨rfl, rfl⟩
    have hh : ¬ (1048576 - (D.ks.length : Int) < 0) := by omega
    go_wp2_with fail
    go_ret
    exact ⟨_, rfl, fun _ => by omega, HK.out⟩
  · rw [if_neg h] at HQ
    go_enter Tryd.func4, Tryd.ntmps4
    go_wp2_with fail
    refine (unhide HQ _).mono ?_
    rintro x w1 ⟨rfl, rfl⟩
    go_wp2_with fail
    go_ret
    exact ⟨-1, rfl, fun hx => absurd hx (by decide), HK.out⟩
theorem eqRule_k (x : Rul) (w : World) : Calls Tryd.prog 24 #[x.v, x.v] w fun e w' => e = .returned (.bool true) ∧ Keeps w w' := by
  obtain ⟨a, b, c, d, e⟩ := x
  dsimp only [Rul.v]
  go_enter Tryd.func24, Tryd.ntmps24
  go_wp2_with fail
  go_ret
  exact ⟨rfl, Keeps.alloc (Keeps.alloc (Keeps.refl _) _) _⟩
theorem row_turnG {w W : World} {B X : Nat} {t : TypeId} {n : Nat} {f : Nat → Value} (h : w.rowIs B t n f) (ht : Turn [X] w W) (hne : B ≠ X) : W.rowIs B t n f := h.of_block (ht.block B h.lt (by simp; exact hne))
set_option maxHeartbeats 8000000 in
theorem toStep_k (D : Stp) (a : Option Addr) (c : Nat) (w : World) (hc : Cells w a (its D.ks)) (hl : D.ks.length ≤ 1048576) :
    Calls Tryd.prog 6 #[D.v a c] w fun e w' => ∃ b, e = .returned (D.v (some ⟨b, 0, none⟩) D.ks.length) ∧ Born w w' [(some ⟨b, 0, none⟩, its D.ks)] ∧ Keeps w w' := by
  have HK0 := hide (Keeps.alloc (Keeps.alloc (Keeps.refl w) (.cells (D.cells a c) 28)) (.cells #[.int .i64 0, .int .i64 0, .int .i64 0, .int .i64 0, .int .i64 0, .int .i64 0, .int .i64 0, .bool false, .slice none 0 0, .int .i64 0, .int .i64 0, .int .i64 0, .int .i64 0, .int .i64 0] 34))
  have HBx : Hid (∀ w', Keeps ((w.alloc (.cells (D.cells a c) 28)).alloc (.cells #[.int .i64 0, .int .i64 0, .int .i64 0, .int .i64 0, .int .i64 0, .int .i64 0, .int .i64 0, .bool false, .slice none 0 0, .int .i64 0, .int .i64 0, .int .i64 0, .int .i64 0, .int .i64 0] 34)) w' → _) := fun w' hk => stp_box D a c w 28 w' ((Keeps.alloc (Keeps.refl (w.alloc (.cells (D.cells a c) 28))) (.cells #[.int .i64 0, .int .i64 0, .int .i64 0, .int .i64 0, .int .i64 0, .int .i64 0, .int .i64 0, .bool false, .slice none 0 0, .int .i64 0, .int .i64 0, .int .i64 0, .int .i64 0, .int .i64 0] 34)).trans hk)
  have HB := HBx
  have HV := hide (row_14 (w.alloc (.cells (D.cells a c) 28)) 34 (.int .i64 0) (.int .i64 0) (.int .i64 0) (.int .i64 0) (.int .i64 0) (.int .i64 0) (.int .i64 0) (.bool false) (.slice none 0 0) (.int .i64 0) (.int .i64 0) (.int .i64 0) (.int .i64 0) (.int .i64 0))
  have HR := hide (row_14 ((w.alloc (.cells (D.cells a c) 28)).alloc (.cells #[.int .i64 0, .int .i64 0, .int .i64 0, .int .i64 0, .int .i64 0, .int .i64 0, .int .i64 0, .bool false, .slice none 0 0, .int .i64 0, .int .i64 0, .int .i64 0, .int .i64 0, .int .i64 0] 34)) 34 (.int .i64 0) (.int .i64 0) (.int .i64 0) (.int .i64 0) (.int .i64 0) (.int .i64 0) (.int .i64 0) (.bool false) (.slice none 0 0) (.int .i64 0) (.int .i64 0) (.int .i64 0) (.int .i64 0) (.int .i64 0))
  have HK12 := hide (Keeps.alloc (Keeps.refl ((w.alloc (.cells (D.cells a c) 28)).alloc (.cells #[.int .i64 0, .int .i64 0, .int .i64 0, .int .i64 0, .int .i64 0, .int .i64 0, .int .i64 0, .bool false, .slice none 0 0, .int .i64 0, .int .i64 0, .int .i64 0, .int .i64 0, .int .i64 0] 34))) (.cells #[.int .i64 0, .int .i64 0, .int .i64 0, .int .i64 0, .int .i64 0, .int .i64 0, .int .i64 0, .bool false, .slice none 0 0, .int .i64 0, .int .i64 0, .int .i64 0, .int .i64 0, .int .i64 0] 34))
  have hs1 : (w.alloc (.cells (D.cells a c) 28)).heap.size = w.heap.size + 1 := by simp
  have hs2 : ((w.alloc (.cells (D.cells a c) 28)).alloc (.cells #[.int .i64 0, .int .i64 0, .int .i64 0, .int .i64 0, .int .i64 0, .int .i64 0, .int .i64 0, .bool false, .slice none 0 0, .int .i64 0, .int .i64 0, .int .i64 0, .int .i64 0, .int .i64 0] 34)).heap.size = w.heap.size + 1 + 1 := by simp
  have HT := hide (fun w' (hk : Keeps w w') => toIntS_k a c D.ks w' (hc.kept hk) hl)
  rw [hs1] at HV
  rw [hs2] at HR
  replace HV := hide (Keeps.rowV HK12.out HV.out)
  have HOO : Hid (w.heap.size ≤ w.heap.size + 1 + 1) := by show _ ≤ _; omega
  have HVV : Hid (w.heap.size ≤ w.heap.size + 1) := by show _ ≤ _; omega
  have HO1 : Hid (((w.alloc (.cells (D.cells a c) 28)).alloc (.cells #[.int .i64 0, .int .i64 0, .int .i64 0, .int .i64 0, .int .i64 0, .int .i64 0, .int .i64 0, .bool false, .slice none 0 0, .int .i64 0, .int .i64 0, .int .i64 0, .int .i64 0, .int .i64 0] 34)).heap.size ≤ w.heap.size + 1 + 1) := by show _ ≤ _; omega
  have hVO : w.heap.size + 1 ≠ w.heap.size + 1 + 1 := by omega
  clear hc HBx
  go_enter Tryd.func6, Tryd.ntmps6
  go_upto_region 2 with fail
  generalize ((w.alloc (.cells (D.cells a c) 28)).alloc (.cells #[.int .i64 0, .int .i64 0, .int .i64 0, .int .i64 0, .int .i64 0, .int .i64 0, .int .i64 0, .bool false, .slice none 0 0, .int .i64 0, .int .i64 0, .int .i64 0, .int .i64 0, .int .i64 0] 34)) = W1 at *
  generalize W1.alloc (.cells #[.int .i64 0, .int .i64 0, .int .i64 0, .int .i64 0, .int .i64 0, .int .i64 0, .int .i64 0, .bool false, .slice none 0 0, .int .i64 0, .int .i64 0, .int .i64 0, .int .i64 0, .int .i64 0] 34) = W2 at *
  clear hs1 hs2
  obtain ⟨c0, ⟨c1, c2, c3, c4, c5, c6, c7⟩, c8, c9, c10, c11, c12, c13⟩ := HB.out W2 HK12.out
  generalize hO : w.heap.size + 1 + 1 = O at *
  generalize hVe : w.heap.size + 1 = V at *
  clear hO hVe
  have r0 := (HR.out).cell (i := 0) (by decide)
  have r1 := (HR.out).cell (i := 1) (by decide)
  have r2 := (HR.out).cell (i := 2) (by decide)
  have r3 := (HR.out).cell (i := 3) (by decide)
  have r4 := (HR.out).cell (i := 4) (by decide)
  have r5 := (HR.out).cell (i := 5) (by decide)
  have r6 := (HR.out).cell (i := 6) (by decide)
  have r7 := (HR.out).cell (i := 7) (by decide)
  have r8 := (HR.out).cell (i := 8) (by decide)
  have r9 := (HR.out).cell (i := 9) (by decide)
  have r10 := (HR.out).cell (i := 10) (by decide)
  have r11 := (HR.out).cell (i := 11) (by decide)
  have r12 := (HR.out).cell (i := 12) (by decide)
  have r13 := (HR.out).cell (i := 13) (by decide)
  have rf0 := (HR.out).frozen 0
  have rf1 := (HR.out).frozen 1
  have rf2 := (HR.out).frozen 2
  have rf3 := (HR.out).frozen 3
  have rf4 := (HR.out).frozen 4
  have rf5 := (HR.out).frozen 5
  have rf6 := (HR.out).frozen 6
  have rf7 := (HR.out).frozen 7
  have rf8 := (HR.out).frozen 8
  have rf9 := (HR.out).frozen 9
  have rf10 := (HR.out).frozen 10
  have rf11 := (HR.out).frozen 11
  have rf12 := (HR.out).frozen 12
  have rf13 := (HR.out).frozen 13
  have rl := (HR.out).lt
  simp at r0 r1 r2 r3 r4 r5 r6 r7 r8 r9 r10 r11 r12 r13
  go_wp2_with fail
  refine (toEvent_k D.e.k D.e.y D.e.c D.e.t D.e.m D.e.f D.e.b _).mono ?_
  rintro x w3 ⟨rfl, hk3⟩
  have hkA := (Keeps.setCell HK12.out (p := ⟨O, 0, none⟩) HO1.out (.int .i64 D.k))
  have htA : Turn [O] W2 (W2.setCell ⟨O, 0, none⟩ (.int .i64 D.k)) := (Turn.set (by simp) _)
  have HV3 := hide (Keeps.rowV hk3 (row_turnG HV.out htA hVO))
  have HR3 := hide (Keeps.rowV hk3 ((HR.out.set 0 (.int .i64 D.k))))
  have HK13 := hide (hkA.trans hk3)
  have HK03 := hide (HK0.out.trans HK13.out)
  clear hkA hk3 htA HR HV HK12 r0 r1 r2 r3 r4 r5 r6 r7 r8 r9 r10 r11 r12 r13 rf0 rf1 rf2 rf3 rf4 rf5 rf6 rf7 rf8 rf9 rf10 rf11 rf12 rf13 rl c0 c1 c2 c3 c4 c5 c6 c7 c8 c9 c10 c11 c12 c13
  obtain ⟨c0, ⟨c1, c2, c3, c4, c5, c6, c7⟩, c8, c9, c10, c11, c12, c13⟩ := HB.out w3 HK13.out
  have r0 := (HR3.out).cell (i := 0) (by decide)
  have r1 := (HR3.out).cell (i := 1) (by decide)
  have r2 := (HR3.out).cell (i := 2) (by decide)
  have r3 := (HR3.out).cell (i := 3) (by decide)
  have r4 := (HR3.out).cell (i := 4) (by decide)
  have r5 := (HR3.out).cell (i := 5) (by decide)
  have r6 := (HR3.out).cell (i := 6) (by decide)
  have r7 := (HR3.out).cell (i := 7) (by decide)
  have r8 := (HR3.out).cell (i := 8) (by decide)
  have r9 := (HR3.out).cell (i := 9) (by decide)
  have r10 := (HR3.out).cell (i := 10) (by decide)
  have r11 := (HR3.out).cell (i := 11) (by decide)
  have r12 := (HR3.out).cell (i := 12) (by decide)
  have r13 := (HR3.out).cell (i := 13) (by decide)
  have rf0 := (HR3.out).frozen 0
  have rf1 := (HR3.out).frozen 1
  have rf2 := (HR3.out).frozen 2
  have rf3 := (HR3.out).frozen 3
  have rf4 := (HR3.out).frozen 4
  have rf5 := (HR3.out).frozen 5
  have rf6 := (HR3.out).frozen 6
  have rf7 := (HR3.out).frozen 7
  have rf8 := (HR3.out).frozen 8
  have rf9 := (HR3.out).frozen 9
  have rf10 := (HR3.out).frozen 10
  have rf11 := (HR3.out).frozen 11
  have rf12 := (HR3.out).frozen 12
  have rf13 := (HR3.out).frozen 13
  have rl := (HR3.out).lt
  simp at r0 r1 r2 r3 r4 r5 r6 r7 r8 r9 r10 r11 r12 r13
  go_wp2_with fail
  have hkB := (Keeps.setCell (Keeps.setCell (Keeps.setCell (Keeps.setCell (Keeps.setCell (Keeps.setCell (Keeps.setCell HK03.out (p := ⟨O, 1, none⟩) HOO.out (.int .i64 D.e.k)) (p := ⟨O, 2, none⟩) HOO.out (.int .i64 D.e.y)) (p := ⟨O, 3, none⟩) HOO.out (.int .i64 D.e.c)) (p := ⟨O, 4, none⟩) HOO.out (.int .i64 D.e.t)) (p := ⟨O, 5, none⟩) HOO.out (.int .i64 D.e.m)) (p := ⟨O, 6, none⟩) HOO.out (.int .i64 D.e.f)) (p := ⟨O, 7, none⟩) HOO.out (.bool D.e.b))
  refine (unhide HT _ hkB).mono ?_
  rintro x w4 ⟨b, rfl, hb, hk4⟩
  have hkB1 := (Keeps.setCell (Keeps.setCell (Keeps.setCell (Keeps.setCell (Keeps.setCell (Keeps.setCell (Keeps.setCell HK13.out (p := ⟨O, 1, none⟩) HO1.out (.int .i64 D.e.k)) (p := ⟨O, 2, none⟩) HO1.out (.int .i64 D.e.y)) (p := ⟨O, 3, none⟩) HO1.out (.int .i64 D.e.c)) (p := ⟨O, 4, none⟩) HO1.out (.int .i64 D.e.t)) (p := ⟨O, 5, none⟩) HO1.out (.int .i64 D.e.m)) (p := ⟨O, 6, none⟩) HO1.out (.int .i64 D.e.f)) (p := ⟨O, 7, none⟩) HO1.out (.bool D.e.b))
  have htB : Turn [O] w3 (((((((w3.setCell ⟨O, 1, none⟩ (.int .i64 D.e.k)).setCell ⟨O, 2, none⟩ (.int .i64 D.e.y)).setCell ⟨O, 3, none⟩ (.int .i64 D.e.c)).setCell ⟨O, 4, none⟩ (.int .i64 D.e.t)).setCell ⟨O, 5, none⟩ (.int .i64 D.e.m)).setCell ⟨O, 6, none⟩ (.int .i64 D.e.f)).setCell ⟨O, 7, none⟩ (.bool D.e.b)) := (((((((Turn.set (by simp) _).trans' (Turn.set (by simp) _)).trans' (Turn.set (by simp) _)).trans' (Turn.set (by simp) _)).trans' (Turn.set (by simp) _)).trans' (Turn.set (by simp) _)).trans' (Turn.set (by simp) _))
  have HV4 := hide (Keeps.rowV hk4 (row_turnG HV3.out htB hVO))
  have HR4 := hide (Keeps.rowV hk4 ((((((((HR3.out.set 1 (.int .i64 D.e.k)).set 2 (.int .i64 D.e.y)).set 3 (.int .i64 D.e.c)).set 4 (.int .i64 D.e.t)).set 5 (.int .i64 D.e.m)).set 6 (.int .i64 D.e.f)).set 7 (.bool D.e.b))))
  have HBN : Hid (∀ bb ∈ fp [((some ⟨b, 0, none⟩ : Option Addr), its D.ks)], O + 1 ≤ bb ∧ V + 1 ≤ bb ∧ w.heap.size ≤ bb) := fun bb hbb => by
    have h1 := hb.new bb hbb
    have h2 := HR3.out.lt
    have h3 := HV3.out.lt
    have h4 := HVV.out
    simp at h1
    omega
  have HO4 := hide hb.toOwn
  have HK14 := hide (hkB1.trans hk4)
  have HK04 := hide (HK0.out.trans HK14.out)
  clear hkB hkB1 hk4 hb htB HR3 HV3 HK13 HK03 HT r0 r1 r2 r3 r4 r5 r6 r7 r8 r9 r10 r11 r12 r13 rf0 rf1 rf2 rf3 rf4 rf5 rf6 rf7 rf8 rf9 rf10 rf11 rf12 rf13 rl c0 c1 c2 c3 c4 c5 c6 c7 c8 c9 c10 c11 c12 c13
  obtain ⟨c0, ⟨c1, c2, c3, c4, c5, c6, c7⟩, c8, c9, c10, c11, c12, c13⟩ := HB.out w4 HK14.out
  have r0 := (HR4.out).cell (i := 0) (by decide)
  have r1 := (HR4.out).cell (i := 1) (by decide)
  have r2 := (HR4.out).cell (i := 2) (by decide)
  have r3 := (HR4.out).cell (i := 3) (by decide)
  have r4 := (HR4.out).cell (i := 4) (by decide)
  have r5 := (HR4.out).cell (i := 5) (by decide)
  have r6 := (HR4.out).cell (i := 6) (by decide)
  have r7 := (HR4.out).cell (i := 7) (by decide)
  have r8 := (HR4.out).cell (i := 8) (by decide)
  have r9 := (HR4.out).cell (i := 9) (by decide)
  have r10 := (HR4.out).cell (i := 10) (by decide)
  have r11 := (HR4.out).cell (i := 11) (by decide)
  have r12 := (HR4.out).cell (i := 12) (by decide)
  have r13 := (HR4.out).cell (i := 13) (by decide)
  have rf0 := (HR4.out).frozen 0
  have rf1 := (HR4.out).frozen 1
  have rf2 := (HR4.out).frozen 2
  have rf3 := (HR4.out).frozen 3
  have rf4 := (HR4.out).frozen 4
  have rf5 := (HR4.out).frozen 5
  have rf6 := (HR4.out).frozen 6
  have rf7 := (HR4.out).frozen 7
  have rf8 := (HR4.out).frozen 8
  have rf9 := (HR4.out).frozen 9
  have rf10 := (HR4.out).frozen 10
  have rf11 := (HR4.out).frozen 11
  have rf12 := (HR4.out).frozen 12
  have rf13 := (HR4.out).frozen 13
  have rl := (HR4.out).lt
  simp at r0 r1 r2 r3 r4 r5 r6 r7 r8 r9 r10 r11 r12 r13
  go_wp2_with fail
  refine (toRule_k D.r _).mono ?_
  rintro x w5 ⟨rfl, hk5⟩
  have hkC1 := (Keeps.setCell HK14.out (p := ⟨O, 8, none⟩) HO1.out (.slice (some ⟨b, 0, none⟩) D.ks.length D.ks.length))
  have ht4 : Turn [O] w4 (w4.setCell ⟨O, 8, none⟩ (.slice (some ⟨b, 0, none⟩) D.ks.length D.ks.length)) := (Turn.set (by simp) _)
  have HV5 := hide (Keeps.rowV hk5 (row_turnG HV4.out ht4 hVO))
  have HR5 := hide (Keeps.rowV hk5 ((HR4.out.set 8 (.slice (some ⟨b, 0, none⟩) D.ks.length D.ks.length))))
  have HO5 := hide ((HO4.out.turn ht4 (fun bb hb1 hx => by have := HBN.out bb hb1; simp at hx; omega)).kept hk5)
  have HK15 := hide (hkC1.trans hk5)
  have HK05 := hide (HK0.out.trans HK15.out)
  clear hkC1 hk5 HR4 HV4 HK14 HK04 HO4 ht4 r0 r1 r2 r3 r4 r5 r6 r7 r8 r9 r10 r11 r12 r13 rf0 rf1 rf2 rf3 rf4 rf5 rf6 rf7 rf8 rf9 rf10 rf11 rf12 rf13 rl c0 c1 c2 c3 c4 c5 c6 c7 c8 c9 c10 c11 c12 c13
  dsimp only [Rul.v]
  have r0 := (HR5.out).cell (i := 0) (by decide)
  have r1 := (HR5.out).cell (i := 1) (by decide)
  have r2 := (HR5.out).cell (i := 2) (by decide)
  have r3 := (HR5.out).cell (i := 3) (by decide)
  have r4 := (HR5.out).cell (i := 4) (by decide)
  have r5 := (HR5.out).cell (i := 5) (by decide)
  have r6 := (HR5.out).cell (i := 6) (by decide)
  have r7 := (HR5.out).cell (i := 7) (by decide)
  have r8 := (HR5.out).cell (i := 8) (by decide)
  have r9 := (HR5.out).cell (i := 9) (by decide)
  have r10 := (HR5.out).cell (i := 10) (by decide)
  have r11 := (HR5.out).cell (i := 11) (by decide)
  have r12 := (HR5.out).cell (i := 12) (by decide)
  have r13 := (HR5.out).cell (i := 13) (by decide)
  have rf0 := (HR5.out).frozen 0
  have rf1 := (HR5.out).frozen 1
  have rf2 := (HR5.out).frozen 2
  have rf3 := (HR5.out).frozen 3
  have rf4 := (HR5.out).frozen 4
  have rf5 := (HR5.out).frozen 5
  have rf6 := (HR5.out).frozen 6
  have rf7 := (HR5.out).frozen 7
  have rf8 := (HR5.out).frozen 8
  have rf9 := (HR5.out).frozen 9
  have rf10 := (HR5.out).frozen 10
  have rf11 := (HR5.out).frozen 11
  have rf12 := (HR5.out).frozen 12
  have rf13 := (HR5.out).frozen 13
  have rl := (HR5.out).lt
  simp at r0 r1 r2 r3 r4 r5 r6 r7 r8 r9 r10 r11 r12 r13
  go_upto_region 6 with fail
  have hkD := (Keeps.setCell (Keeps.setCell (Keeps.setCell (Keeps.setCell (Keeps.setCell HK05.out (p := ⟨O, 9, none⟩) HOO.out (.int .i64 D.r.lo)) (p := ⟨O, 10, none⟩) HOO.out (.int .i64 D.r.hi)) (p := ⟨O, 11, none⟩) HOO.out (.int .i64 D.r.st)) (p := ⟨O, 12, none⟩) HOO.out (.int .i64 D.r.mi)) (p := ⟨O, 13, none⟩) HOO.out (.int .i64 D.r.ma))
  have ht5 : Turn [O] w5 (((((w5.setCell ⟨O, 9, none⟩ (.int .i64 D.r.lo)).setCell ⟨O, 10, none⟩ (.int .i64 D.r.hi)).setCell ⟨O, 11, none⟩ (.int .i64 D.r.st)).setCell ⟨O, 12, none⟩ (.int .i64 D.r.mi)).setCell ⟨O, 13, none⟩ (.int .i64 D.r.ma)) := (((((Turn.set (by simp) _).trans' (Turn.set (by simp) _)).trans' (Turn.set (by simp) _)).trans' (Turn.set (by simp) _)).trans' (Turn.set (by simp) _))
  have HV6 := hide (row_turnG HV5.out ht5 hVO)
  have HR6 := hide ((((((HR5.out.set 9 (.int .i64 D.r.lo)).set 10 (.int .i64 D.r.hi)).set 11 (.int .i64 D.r.st)).set 12 (.int .i64 D.r.mi)).set 13 (.int .i64 D.r.ma)))
  have HO6 := hide (HO5.out.turn ht5 (fun bb hb1 hx => by have := HBN.out bb hb1; simp at hx; omega))
  have HK06 := hide hkD
  generalize (((((w5.setCell ⟨O, 9, none⟩ (.int .i64 D.r.lo)).setCell ⟨O, 10, none⟩ (.int .i64 D.r.hi)).setCell ⟨O, 11, none⟩ (.int .i64 D.r.st)).setCell ⟨O, 12, none⟩ (.int .i64 D.r.mi)).setCell ⟨O, 13, none⟩ (.int .i64 D.r.ma)) = w6 at *
  clear hkD ht5 HR5 HV5 HO5 HK15 HK05 HK0 r0 r1 r2 r3 r4 r5 r6 r7 r8 r9 r10 r11 r12 r13 rf0 rf1 rf2 rf3 rf4 rf5 rf6 rf7 rf8 rf9 rf10 rf11 rf12 rf13 rl
  have q0 := (HR6.out).cell (i := 0) (by decide)
  have q1 := (HR6.out).cell (i := 1) (by decide)
  have q2 := (HR6.out).cell (i := 2) (by decide)
  have q3 := (HR6.out).cell (i := 3) (by decide)
  have q4 := (HR6.out).cell (i := 4) (by decide)
  have q5 := (HR6.out).cell (i := 5) (by decide)
  have q6 := (HR6.out).cell (i := 6) (by decide)
  have q7 := (HR6.out).cell (i := 7) (by decide)
  have q8 := (HR6.out).cell (i := 8) (by decide)
  have q9 := (HR6.out).cell (i := 9) (by decide)
  have q10 := (HR6.out).cell (i := 10) (by decide)
  have q11 := (HR6.out).cell (i := 11) (by decide)
  have q12 := (HR6.out).cell (i := 12) (by decide)
  have q13 := (HR6.out).cell (i := 13) (by decide)
  have qf0 := (HR6.out).frozen 0
  have qf1 := (HR6.out).frozen 1
  have qf2 := (HR6.out).frozen 2
  have qf3 := (HR6.out).frozen 3
  have qf4 := (HR6.out).frozen 4
  have qf5 := (HR6.out).frozen 5
  have qf6 := (HR6.out).frozen 6
  have qf7 := (HR6.out).frozen 7
  have qf8 := (HR6.out).frozen 8
  have qf9 := (HR6.out).frozen 9
  have qf10 := (HR6.out).frozen 10
  have qf11 := (HR6.out).frozen 11
  have qf12 := (HR6.out).frozen 12
  have qf13 := (HR6.out).frozen 13
  have ql := (HR6.out).lt
  simp at q0 q1 q2 q3 q4 q5 q6 q7 q8 q9 q10 q11 q12 q13
  have r0 := (HV6.out).cell (i := 0) (by decide)
  have r1 := (HV6.out).cell (i := 1) (by decide)
  have r2 := (HV6.out).cell (i := 2) (by decide)
  have r3 := (HV6.out).cell (i := 3) (by decide)
  have r4 := (HV6.out).cell (i := 4) (by decide)
  have r5 := (HV6.out).cell (i := 5) (by decide)
  have r6 := (HV6.out).cell (i := 6) (by decide)
  have r7 := (HV6.out).cell (i := 7) (by decide)
  have r8 := (HV6.out).cell (i := 8) (by decide)
  have r9 := (HV6.out).cell (i := 9) (by decide)
  have r10 := (HV6.out).cell (i := 10) (by decide)
  have r11 := (HV6.out).cell (i := 11) (by decide)
  have r12 := (HV6.out).cell (i := 12) (by decide)
  have r13 := (HV6.out).cell (i := 13) (by decide)
  have rf0 := (HV6.out).frozen 0
  have rf1 := (HV6.out).frozen 1
  have rf2 := (HV6.out).frozen 2
  have rf3 := (HV6.out).frozen 3
  have rf4 := (HV6.out).frozen 4
  have rf5 := (HV6.out).frozen 5
  have rf6 := (HV6.out).frozen 6
  have rf7 := (HV6.out).frozen 7
  have rf8 := (HV6.out).frozen 8
  have rf9 := (HV6.out).frozen 9
  have rf10 := (HV6.out).frozen 10
  have rf11 := (HV6.out).frozen 11
  have rf12 := (HV6.out).frozen 12
  have rf13 := (HV6.out).frozen 13
  have rl := (HV6.out).lt
  simp at r0 r1 r2 r3 r4 r5 r6 r7 r8 r9 r10 r11 r12 r13
  go_wp2_with fail
  obtain ⟨⟨o0, o1, o2, o3, o4, o5, o6, o7, o8, o9, o10, o11, o12, o13⟩, hkF, htF, _⟩ := set_14 (HV6.out) (HK06.out) (HVV.out) (.int .i64 D.k) (.int .i64 D.e.k) (.int .i64 D.e.y) (.int .i64 D.e.c) (.int .i64 D.e.t) (.int .i64 D.e.m) (.int .i64 D.e.f) (.bool D.e.b) (.slice (some ⟨b, 0, none⟩) D.ks.length D.ks.length) (.int .i64 D.r.lo) (.int .i64 D.r.hi) (.int .i64 D.r.st) (.int .i64 D.r.mi) (.int .i64 D.r.ma)
  have HBF : Born w _ [(some ⟨b, 0, none⟩, its D.ks)] := ⟨HO6.out.turn htF (fun bb hb1 hx => by have := HBN.out bb hb1; simp at hx; omega), fun bb hb1 => (HBN.out bb hb1).2.2⟩
  refine bodyPost_ret (v := .agg #[.int .i64 D.k, .int .i64 D.e.k, .int .i64 D.e.y, .int .i64 D.e.c, .int .i64 D.e.t, .int .i64 D.e.m, .int .i64 D.e.f, .bool D.e.b, .slice (some ⟨b, 0, none⟩) D.ks.length D.ks.length, .int .i64 D.r.lo, .int .i64 D.r.hi, .int .i64 D.r.st, .int .i64 D.r.mi, .int .i64 D.r.ma]) ?_ rfl ⟨b, rfl, HBF, hkF⟩
  clear hkF htF HBF r0 r1 r2 r3 r4 r5 r6 r7 r8 r9 r10 r11 r12 r13 rf0 rf1 rf2 rf3 rf4 rf5 rf6 rf7 rf8 rf9 rf10 rf11 rf12 rf13 rl q0 q1 q2 q3 q4 q5 q6 q7 q8 q9 q10 q11 q12 q13 qf0 qf1 qf2 qf3 qf4 qf5 qf6 qf7 qf8 qf9 qf10 qf11 qf12 qf13 ql
  revert o0 o1 o2 o3 o4 o5 o6 o7 o8 o9 o10 o11 o12 o13
  generalize World.setCell (World.setCell _ _ _) _ _ = WW
  intro o0 o1 o2 o3 o4 o5 o6 o7 o8 o9 o10 o11 o12 o13
  simp [results, Tryd.results6, go_sem, o0, o1, o2, o3, o4, o5, o6, o7, o8, o9, o10, o11, o12, o13]
end Go.Proofs.YtjihinkjcplgcaaDoor
