/- The model's draws of steps. -/
import Derived.Test.YtkgpoghoilffhaaGreatDoorSC8
import Derived.Test.YtkgpoghoilffhaaGreatDoorSC14
import Derived.Test.YtkgpoghoilffhaaGreatDoorSC16
namespace Go.Proofs.YtkgpoghoilffhaaGreatDoor
open Go.RowKit Go.Deep
set_option linter.unusedVariables false
set_option linter.unusedSimpArgs false
set_option maxRecDepth 10000
theorem turn_14 (W : World) (R : Nat) (x0 x1 x2 x3 x4 x5 x6 x7 x8 x9 x10 x11 x12 x13 : Value) : Turn [R] W ((((((((((((((W.setCell ⟨R, 0, none⟩ x0).setCell ⟨R, 1, none⟩ x1).setCell ⟨R, 2, none⟩ x2).setCell ⟨R, 3, none⟩ x3).setCell ⟨R, 4, none⟩ x4).setCell ⟨R, 5, none⟩ x5).setCell ⟨R, 6, none⟩ x6).setCell ⟨R, 7, none⟩ x7).setCell ⟨R, 8, none⟩ x8).setCell ⟨R, 9, none⟩ x9).setCell ⟨R, 10, none⟩ x10).setCell ⟨R, 11, none⟩ x11).setCell ⟨R, 12, none⟩ x12).setCell ⟨R, 13, none⟩ x13) := (((((((((((((Turn.set (by simp) _).trans' (Turn.set (by simp) _)).trans' (Turn.set (by simp) _)).trans' (Turn.set (by simp) _)).trans' (Turn.set (by simp) _)).trans' (Turn.set (by simp) _)).trans' (Turn.set (by simp) _)).trans' (Turn.set (by simp) _)).trans' (Turn.set (by simp) _)).trans' (Turn.set (by simp) _)).trans' (Turn.set (by simp) _)).trans' (Turn.set (by simp) _)).trans' (Turn.set (by simp) _)).trans' (Turn.set (by simp) _)
section
variable {w W W' : World} {B0 B : Nat} {a : Option Addr} {len cap : Nat}
theorem Ds.grow (h : Ds w B0 B a len cap W) {row : Option Nat} (g : W.grownBy W' row) (hr : ∀ r, row = some r → w.heap.size ≤ r) : Ds w B0 B a len cap W' := by
  have hB := h.hB
  have h0 := h.h0
  refine ⟨h.dr.grown g (fun e => by have := hr B e.symm; omega) (fun r e => by have := hr r e; omega), ?_, hB, h0⟩
  refine ⟨g.os.trans h.gr.os, g.tape.trans h.gr.tape, g.output.trans h.gr.output, Nat.le_trans h.gr.size g.size, fun k hk hn => ?_⟩
  rw [g.block k (Nat.lt_of_lt_of_le hk h.gr.size) (fun e => by have := hr k e.symm; omega)]
  exact h.gr.block k hk hn
end
def zR14 : Nat → Value := fun i => if i = 0 then .int .i64 0 else if i = 1 then .int .i64 0 else if i = 2 then .int .i64 0 else if i = 3 then .int .i64 0 else if i = 4 then .int .i64 0 else if i = 5 then .int .i64 0 else if i = 6 then .int .i64 0 else if i = 7 then .bool false else if i = 8 then .slice none 0 0 else if i = 9 then .int .i64 0 else if i = 10 then .int .i64 0 else if i = 11 then .int .i64 0 else if i = 12 then .int .i64 0 else .int .i64 0
/-- A step that is drawn; its numbers lie on blocks of the draw's own. -/
def IsStp (base N : Nat) (e : Ending) (w' : World) : Prop := ∃ (D : Stp) (a : Option Addr) (c : Nat), e = .returned (D.v a c) ∧ OwnsI w' base (.slice a D.ks.length c) D.ks ∧ D.ks.length ≤ N
theorem owns_grow {W W' : World} {base : Nat} {v : Value} {L : List Int} {row : Option Nat} (h : OwnsI W base v L) (g : W.grownBy W' row) (hr : ∀ r, row = some r → v.ownBlock ≠ some r) : OwnsI W' base v L :=
  owns_turnZ h (Turn.of_grown (fs := row.toList) g (fun k hk => by rw [hk]; simp)) (fun b hb hx => by
    have : row = some b := by simpa using hx
    exact hr b this hb)
set_option maxHeartbeats 8000000 in
theorem step_any {B0 B : Nat} {a : Option Addr} {len cap : Nat} {w : World} (s : Dr B0 B a len cap w) :
    Calls Tryz.prog 52 #[.pointer (some ⟨B, 0, none⟩)] w fun e w' => IsStp w.heap.size 5 e w' ∧ Dr B0 B a len cap w' ∧ w.grownBy w' (some B) := by
  have HD := hide ((Ds.start s).alloc (.cells #[.int .i64 0, .int .i64 0, .int .i64 0, .int .i64 0, .int .i64 0, .int .i64 0, .int .i64 0, .bool false, .slice none 0 0, .int .i64 0, .int .i64 0, .int .i64 0, .int .i64 0, .int .i64 0] 33))
  have HR : Hid ((w.alloc (.cells #[.int .i64 0, .int .i64 0, .int .i64 0, .int .i64 0, .int .i64 0, .int .i64 0, .int .i64 0, .bool false, .slice none 0 0, .int .i64 0, .int .i64 0, .int .i64 0, .int .i64 0, .int .i64 0] 33)).rowIs w.heap.size 33 14 zR14) := row_14 w 33 _ _ _ _ _ _ _ _ _ _ _ _ _ _
  have HN : Hid (w.heap.size ≤ w.heap.size) := Nat.le_refl _
  have hB := s.lt
  clear s
  go_enter Tryz.func52, Tryz.ntmps52
  go_wp2_with fail
  generalize w.alloc (.cells #[.int .i64 0, .int .i64 0, .int .i64 0, .int .i64 0, .int .i64 0, .int .i64 0, .int .i64 0, .bool false, .slice none 0 0, .int .i64 0, .int .i64 0, .int .i64 0, .int .i64 0, .int .i64 0] 33) = W0 at *
  refine (below_any 24 HD.out.dr (by omega) (by omega)).mono ?_
  rintro _ w1 ⟨⟨k, k0, k1, rfl⟩, s1, g1⟩
  replace HR := hide (HD.out.row g1 HR.out HN.out)
  replace HD := hide (HD.out.step s1 g1)
  clear s1 g1
  by_cases q2 : k < 2
  · have r0 := HR.out.cell (i := 0) (by decide)
    have rf0 := HR.out.frozen 0
    have r1 := HR.out.cell (i := 1) (by decide)
    have rf1 := HR.out.frozen 1
    have r2 := HR.out.cell (i := 2) (by decide)
    have rf2 := HR.out.frozen 2
    have r3 := HR.out.cell (i := 3) (by decide)
    have rf3 := HR.out.frozen 3
    have r4 := HR.out.cell (i := 4) (by decide)
    have rf4 := HR.out.frozen 4
    have r5 := HR.out.cell (i := 5) (by decide)
    have rf5 := HR.out.frozen 5
    have r6 := HR.out.cell (i := 6) (by decide)
    have rf6 := HR.out.frozen 6
    have r7 := HR.out.cell (i := 7) (by decide)
    have rf7 := HR.out.frozen 7
    have r8 := HR.out.cell (i := 8) (by decide)
    have rf8 := HR.out.frozen 8
    have r9 := HR.out.cell (i := 9) (by decide)
    have rf9 := HR.out.frozen 9
    have r10 := HR.out.cell (i := 10) (by decide)
    have rf10 := HR.out.frozen 10
    have r11 := HR.out.cell (i := 11) (by decide)
    have rf11 := HR.out.frozen 11
    have r12 := HR.out.cell (i := 12) (by decide)
    have rf12 := HR.out.frozen 12
    have r13 := HR.out.cell (i := 13) (by decide)
    have rf13 := HR.out.frozen 13
    have hlr := HR.out.lt
    simp [zR14] at r0 r1 r2 r3 r4 r5 r6 r7 r8 r9 r10 r11 r12 r13
    go_wp2_with fail
    obtain ⟨⟨o0, o1, o2, o3, o4, o5, o6, o7, o8, o9, o10, o11, o12, o13⟩, hd⟩ := HD.out.fin14 HR.out HN.out (.int .i64 2) (.int .i64 0) (.int .i64 0) (.int .i64 0) (.int .i64 0) (.int .i64 0) (.int .i64 0) (.bool false) (.slice none 0 0) (.int .i64 0) (.int .i64 0) (.int .i64 0) (.int .i64 0) (.int .i64 0)
    have ht := turn_14 w1 w.heap.size (.int .i64 2) (.int .i64 0) (.int .i64 0) (.int .i64 0) (.int .i64 0) (.int .i64 0) (.int .i64 0) (.bool false) (.slice none 0 0) (.int .i64 0) (.int .i64 0) (.int .i64 0) (.int .i64 0) (.int .i64 0)
    refine bodyPost_ret (v := .agg #[.int .i64 2, .int .i64 0, .int .i64 0, .int .i64 0, .int .i64 0, .int .i64 0, .int .i64 0, .bool false, .slice none 0 0, .int .i64 0, .int .i64 0, .int .i64 0, .int .i64 0, .int .i64 0]) ?_ rfl ⟨⟨⟨2, noE, [], noR⟩, none, 0, rfl, ?_, by simp <;> omega⟩, hd.dr, hd.gr⟩
    · revert o0 o1 o2 o3 o4 o5 o6 o7 o8 o9 o10 o11 o12 o13
      clear hd ht
      generalize World.setCell (World.setCell _ _ _) _ _ = WW
      intro o0 o1 o2 o3 o4 o5 o6 o7 o8 o9 o10 o11 o12 o13
      simp [results, Tryz.results52, go_sem, o0, o1, o2, o3, o4, o5, o6, o7, o8, o9, o10, o11, o12, o13]
    · exact owns_zero _ _
  by_cases q3 : k = 2
  · subst q3
    have HO0 : Hid ((w1.alloc (.cells #[] 3)).ownsRow (w.heap.size + 1) 3 1 (.slice (some ⟨w1.heap.size, 0, none⟩) 0 0) 0 []) := World.ownsRow_made (base := w.heap.size + 1) (e := 3) (size := 1) w1 #[] 0 (by have := HR.out.lt; omega) (by decide) rfl
    replace HR := hide (HR.out.alloc (.cells #[] 3))
    replace HD := hide (HD.out.alloc (.cells #[] 3))
    go_wp2_with fail
    generalize w1.alloc (.cells #[] 3) = W1 at *
    refine (below_any 6 HD.out.dr (by omega) (by omega)).mono ?_
    rintro _ w2 ⟨⟨n, n0, n1, rfl⟩, s1, g1⟩
    have HO2 : Hid (OwnsI w2 (w.heap.size + 1) (.slice (some ⟨w1.heap.size, 0, none⟩) 0 0) []) := owns_grow HO0.out g1 (fun r hr hb => by
      have h1 := (HO0.out.lt _ hb).1
      have h2 := Option.some.inj hr
      omega)
    replace HR := hide (HD.out.row g1 HR.out HN.out)
    replace HD := hide (HD.out.step s1 g1)
    clear s1 g1 HO0
    obtain ⟨n', rfl⟩ : ∃ n' : Nat, n = n' := ⟨n.toNat, by omega⟩
    go_wp2_with fail
    go_loopw [4, 5] (fun v y wr => ∃ (m : Nat) (L : List Int), y = .int .i64 (m : Int) ∧ Hid (L.length + m ≤ 5) ∧ Hid (OwnsI wr (w.heap.size + 1) v L) ∧ Hid (wr.rowIs w.heap.size 33 14 zR14) ∧ Hid (Ds w B0 B a len cap wr)) (fun _ y _ => (intOf y).toNat)
    case atStart => exact ⟨n', [], rfl, by show _ ≤ _; simp; omega, HO2.out, HR.out, HD.out⟩
    case round =>
      clear HO2 HR HD
      obtain ⟨m, L, rfl, HL, HO, HR, HD⟩ := hrel
      by_cases hm : 0 < m
      · obtain ⟨j, rfl⟩ : ∃ j, m = j + 1 := ⟨m - 1, by omega⟩
        have hzz := HR.out.lt
        have hj5 : j ≤ 4 := by have := HL.out; omega
        have HA := hide (Keeps.alloc (Keeps.refl wr) (.cells #[.int .i64 0, .int .i64 128, .int .i64 128, .int .i64 127, .int .i64 60] 3))
        have HC5 : Hid (∀ p : Nat, p < 5 → ∃ d : Int, (wr.alloc (.cells #[.int .i64 0, .int .i64 128, .int .i64 128, .int .i64 127, .int .i64 60] 3)).cell? ⟨wr.heap.size, p, none⟩ = some (.int .i64 d)) := fun p hp => by
          match p, hp with
          | 0, _ => exact ⟨0, by simp⟩
          | 1, _ => exact ⟨128, by simp⟩
          | 2, _ => exact ⟨128, by simp⟩
          | 3, _ => exact ⟨127, by simp⟩
          | 4, _ => exact ⟨60, by simp⟩
          | q + 5, hp => exact absurd hp (by omega)
        replace HR := hide (HR.out.alloc (.cells #[.int .i64 0, .int .i64 128, .int .i64 128, .int .i64 127, .int .i64 60] 3))
        replace HD := hide (HD.out.alloc (.cells #[.int .i64 0, .int .i64 128, .int .i64 128, .int .i64 127, .int .i64 60] 3))
        replace HO := hide (owns_keepI HO.out HA.out)
        have HZ : Hid ((wr.alloc (.cells #[.int .i64 0, .int .i64 128, .int .i64 128, .int .i64 127, .int .i64 60] 3)).heap.size = wr.heap.size + 1) := by show _ = _; simp
        go_wp2_with fail
        generalize wr.alloc (.cells #[.int .i64 0, .int .i64 128, .int .i64 128, .int .i64 127, .int .i64 60] 3) = W1 at *
        refine (below_any 5 HD.out.dr (by omega) (by omega)).mono ?_
        rintro _ w3 ⟨⟨x, x0, x1, rfl⟩, s1, g1⟩
        obtain ⟨p, rfl⟩ : ∃ p : Nat, x = p := ⟨x.toNat, by omega⟩
        obtain ⟨d, hd⟩ := HC5.out p (by omega)
        have c0 : w3.cell? ⟨wr.heap.size, p, none⟩ = some (.int .i64 d) := by
          rw [← hd]
          unfold World.cell?
          rw [g1.block wr.heap.size (by rw [HZ.out]; omega) (by simp; omega)]
        have HO3 := hide (owns_grow HO.out g1 (fun r hr hb => by
          have h1 := (HO.out.lt _ hb).1
          have h2 := Option.some.inj hr
          omega))
        replace HR := hide (HD.out.row g1 HR.out HN.out)
        replace HD := hide (HD.out.step s1 g1)
        clear s1 g1 hd HC5 HO HA HZ
        have HCx : Hid (∀ j u, (its [d])[j]? = some u → (w3.alloc (.cells #[.int .i64 d] 3)).cell? ((⟨w3.heap.size, 0, none⟩ : Addr).add j) = some u) := fun j u hj => by
          match j, hj with
          | 0, hj => simp [its] at hj; subst hj; simp [Addr.add]
          | q + 1, hj => simp [its] at hj
        have HO4 := hide (owns_keepI HO3.out (Keeps.alloc (Keeps.refl w3) (.cells #[.int .i64 d] 3)))
        have HR4 := hide (HR.out.alloc (.cells #[.int .i64 d] 3))
        have HD4 := hide (HD.out.alloc (.cells #[.int .i64 d] 3))
        have HLn : Hid (L.length + [d].length ≤ 1048576) := by have := HL.out; show _ ≤ _; simp; omega
        have HBz : Hid (w.heap.size + 1 ≤ (w3.alloc (.cells #[.int .i64 d] 3)).heap.size) := by have := HD.out.gr.size; show _ ≤ _; rw [World.size_alloc]; omega
        clear HO3 HR HD
        go_wp2_with (at_builtin; refine app_its rfl (.tmp 20) (.tmp 26) rfl (w.heap.size + 1) _ L [d] rfl ⟨w3.heap.size, 0, none⟩ 1 rfl HCx.out HO4.out HLn.out HBz.out ?_; intro v' w' ho hg hnn)
        have HR5 : Hid (w'.rowIs w.heap.size 33 14 zR14) := grown_row hg (fun e => by have := (HO4.out.lt _ e.symm).1; omega) HR4.out
        have HD5 := hide (HD4.out.grow hg (fun r hr => by have := (HO4.out.lt _ hr).1; omega))
        go_roundw
        case rel => exact ⟨j, L ++ [d], by go_num, by have := HL.out; show _ ≤ _; simp; omega, ho, HR5, HD5⟩
        case measure => simp [intOf]
      · obtain rfl : m = 0 := by omega
        obtain ⟨ka, kc, hv, _⟩ := Own.of_owns HO.out
        have HO5 := hide HO.out
        subst hv
        have hl5 := HL.out
        clear HO
        have r0 := HR.out.cell (i := 0) (by decide)
        have rf0 := HR.out.frozen 0
        have r1 := HR.out.cell (i := 1) (by decide)
        have rf1 := HR.out.frozen 1
        have r2 := HR.out.cell (i := 2) (by decide)
        have rf2 := HR.out.frozen 2
        have r3 := HR.out.cell (i := 3) (by decide)
        have rf3 := HR.out.frozen 3
        have r4 := HR.out.cell (i := 4) (by decide)
        have rf4 := HR.out.frozen 4
        have r5 := HR.out.cell (i := 5) (by decide)
        have rf5 := HR.out.frozen 5
        have r6 := HR.out.cell (i := 6) (by decide)
        have rf6 := HR.out.frozen 6
        have r7 := HR.out.cell (i := 7) (by decide)
        have rf7 := HR.out.frozen 7
        have r8 := HR.out.cell (i := 8) (by decide)
        have rf8 := HR.out.frozen 8
        have r9 := HR.out.cell (i := 9) (by decide)
        have rf9 := HR.out.frozen 9
        have r10 := HR.out.cell (i := 10) (by decide)
        have rf10 := HR.out.frozen 10
        have r11 := HR.out.cell (i := 11) (by decide)
        have rf11 := HR.out.frozen 11
        have r12 := HR.out.cell (i := 12) (by decide)
        have rf12 := HR.out.frozen 12
        have r13 := HR.out.cell (i := 13) (by decide)
        have rf13 := HR.out.frozen 13
        have hlr := HR.out.lt
        simp [zR14] at r0 r1 r2 r3 r4 r5 r6 r7 r8 r9 r10 r11 r12 r13
        go_wp2_with fail
        obtain ⟨⟨o0, o1, o2, o3, o4, o5, o6, o7, o8, o9, o10, o11, o12, o13⟩, hd⟩ := HD.out.fin14 HR.out HN.out (.int .i64 3) (.int .i64 0) (.int .i64 0) (.int .i64 0) (.int .i64 0) (.int .i64 0) (.int .i64 0) (.bool false) (.slice ka L.length kc) (.int .i64 0) (.int .i64 0) (.int .i64 0) (.int .i64 0) (.int .i64 0)
        have ht := turn_14 wr w.heap.size (.int .i64 3) (.int .i64 0) (.int .i64 0) (.int .i64 0) (.int .i64 0) (.int .i64 0) (.int .i64 0) (.bool false) (.slice ka L.length kc) (.int .i64 0) (.int .i64 0) (.int .i64 0) (.int .i64 0) (.int .i64 0)
        refine bodyPost_ret (v := .agg #[.int .i64 3, .int .i64 0, .int .i64 0, .int .i64 0, .int .i64 0, .int .i64 0, .int .i64 0, .bool false, .slice ka L.length kc, .int .i64 0, .int .i64 0, .int .i64 0, .int .i64 0, .int .i64 0]) ?_ rfl ⟨⟨⟨3, noE, L, noR⟩, ka, kc, rfl, ?_, by simp <;> omega⟩, hd.dr, hd.gr⟩
        · revert o0 o1 o2 o3 o4 o5 o6 o7 o8 o9 o10 o11 o12 o13
          clear hd ht
          generalize World.setCell (World.setCell _ _ _) _ _ = WW
          intro o0 o1 o2 o3 o4 o5 o6 o7 o8 o9 o10 o11 o12 o13
          simp [results, Tryz.results52, go_sem, o0, o1, o2, o3, o4, o5, o6, o7, o8, o9, o10, o11, o12, o13]
        · exact owns_base (owns_turnZ HO5.out ht (fun g hg hx => by have := (HO5.out.lt g hg).1; simp at hx; omega)) (Nat.le_succ _)
  have q3' : (k == 2) = false := beq_eq_false_iff_ne.2 q3
  by_cases q4 : k < 5
  · have r0 := HR.out.cell (i := 0) (by decide)
    have rf0 := HR.out.frozen 0
    have r1 := HR.out.cell (i := 1) (by decide)
    have rf1 := HR.out.frozen 1
    have r2 := HR.out.cell (i := 2) (by decide)
    have rf2 := HR.out.frozen 2
    have r3 := HR.out.cell (i := 3) (by decide)
    have rf3 := HR.out.frozen 3
    have r4 := HR.out.cell (i := 4) (by decide)
    have rf4 := HR.out.frozen 4
    have r5 := HR.out.cell (i := 5) (by decide)
    have rf5 := HR.out.frozen 5
    have r6 := HR.out.cell (i := 6) (by decide)
    have rf6 := HR.out.frozen 6
    have r7 := HR.out.cell (i := 7) (by decide)
    have rf7 := HR.out.frozen 7
    have r8 := HR.out.cell (i := 8) (by decide)
    have rf8 := HR.out.frozen 8
    have r9 := HR.out.cell (i := 9) (by decide)
    have rf9 := HR.out.frozen 9
    have r10 := HR.out.cell (i := 10) (by decide)
    have rf10 := HR.out.frozen 10
    have r11 := HR.out.cell (i := 11) (by decide)
    have rf11 := HR.out.frozen 11
    have r12 := HR.out.cell (i := 12) (by decide)
    have rf12 := HR.out.frozen 12
    have r13 := HR.out.cell (i := 13) (by decide)
    have rf13 := HR.out.frozen 13
    have hlr := HR.out.lt
    simp [zR14] at r0 r1 r2 r3 r4 r5 r6 r7 r8 r9 r10 r11 r12 r13
    go_wp2_with fail
    obtain ⟨⟨o0, o1, o2, o3, o4, o5, o6, o7, o8, o9, o10, o11, o12, o13⟩, hd⟩ := HD.out.fin14 HR.out HN.out (.int .i64 4) (.int .i64 0) (.int .i64 0) (.int .i64 0) (.int .i64 0) (.int .i64 0) (.int .i64 0) (.bool false) (.slice none 0 0) (.int .i64 0) (.int .i64 0) (.int .i64 0) (.int .i64 0) (.int .i64 0)
    have ht := turn_14 w1 w.heap.size (.int .i64 4) (.int .i64 0) (.int .i64 0) (.int .i64 0) (.int .i64 0) (.int .i64 0) (.int .i64 0) (.bool false) (.slice none 0 0) (.int .i64 0) (.int .i64 0) (.int .i64 0) (.int .i64 0) (.int .i64 0)
    refine bodyPost_ret (v := .agg #[.int .i64 4, .int .i64 0, .int .i64 0, .int .i64 0, .int .i64 0, .int .i64 0, .int .i64 0, .bool false, .slice none 0 0, .int .i64 0, .int .i64 0, .int .i64 0, .int .i64 0, .int .i64 0]) ?_ rfl ⟨⟨⟨4, noE, [], noR⟩, none, 0, rfl, ?_, by simp <;> omega⟩, hd.dr, hd.gr⟩
    · revert o0 o1 o2 o3 o4 o5 o6 o7 o8 o9 o10 o11 o12 o13
      clear hd ht
      generalize World.setCell (World.setCell _ _ _) _ _ = WW
      intro o0 o1 o2 o3 o4 o5 o6 o7 o8 o9 o10 o11 o12 o13
      simp [results, Tryz.results52, go_sem, o0, o1, o2, o3, o4, o5, o6, o7, o8, o9, o10, o11, o12, o13]
    · exact owns_zero _ _
  by_cases q5 : k = 5
  · subst q5
    go_wp2_with fail
    refine (rule_any HD.out.dr).mono ?_
    rintro _ w2 ⟨⟨⟨lo, hi, st, mi, ma⟩, rfl⟩, s1, g1⟩
    replace HR := hide (HD.out.row g1 HR.out HN.out)
    replace HD := hide (HD.out.step s1 g1)
    clear s1 g1
    simp only [Rul.v]
    have r0 := HR.out.cell (i := 0) (by decide)
    have rf0 := HR.out.frozen 0
    have r1 := HR.out.cell (i := 1) (by decide)
    have rf1 := HR.out.frozen 1
    have r2 := HR.out.cell (i := 2) (by decide)
    have rf2 := HR.out.frozen 2
    have r3 := HR.out.cell (i := 3) (by decide)
    have rf3 := HR.out.frozen 3
    have r4 := HR.out.cell (i := 4) (by decide)
    have rf4 := HR.out.frozen 4
    have r5 := HR.out.cell (i := 5) (by decide)
    have rf5 := HR.out.frozen 5
    have r6 := HR.out.cell (i := 6) (by decide)
    have rf6 := HR.out.frozen 6
    have r7 := HR.out.cell (i := 7) (by decide)
    have rf7 := HR.out.frozen 7
    have r8 := HR.out.cell (i := 8) (by decide)
    have rf8 := HR.out.frozen 8
    have r9 := HR.out.cell (i := 9) (by decide)
    have rf9 := HR.out.frozen 9
    have r10 := HR.out.cell (i := 10) (by decide)
    have rf10 := HR.out.frozen 10
    have r11 := HR.out.cell (i := 11) (by decide)
    have rf11 := HR.out.frozen 11
    have r12 := HR.out.cell (i := 12) (by decide)
    have rf12 := HR.out.frozen 12
    have r13 := HR.out.cell (i := 13) (by decide)
    have rf13 := HR.out.frozen 13
    have hlr := HR.out.lt
    simp [zR14] at r0 r1 r2 r3 r4 r5 r6 r7 r8 r9 r10 r11 r12 r13
    go_wp2_with fail
    obtain ⟨⟨o0, o1, o2, o3, o4, o5, o6, o7, o8, o9, o10, o11, o12, o13⟩, hd⟩ := HD.out.fin14 HR.out HN.out (.int .i64 5) (.int .i64 0) (.int .i64 0) (.int .i64 0) (.int .i64 0) (.int .i64 0) (.int .i64 0) (.bool false) (.slice none 0 0) (.int .i64 lo) (.int .i64 hi) (.int .i64 st) (.int .i64 mi) (.int .i64 ma)
    have ht := turn_14 w2 w.heap.size (.int .i64 5) (.int .i64 0) (.int .i64 0) (.int .i64 0) (.int .i64 0) (.int .i64 0) (.int .i64 0) (.bool false) (.slice none 0 0) (.int .i64 lo) (.int .i64 hi) (.int .i64 st) (.int .i64 mi) (.int .i64 ma)
    refine bodyPost_ret (v := .agg #[.int .i64 5, .int .i64 0, .int .i64 0, .int .i64 0, .int .i64 0, .int .i64 0, .int .i64 0, .bool false, .slice none 0 0, .int .i64 lo, .int .i64 hi, .int .i64 st, .int .i64 mi, .int .i64 ma]) ?_ rfl ⟨⟨⟨5, noE, [], ⟨lo, hi, st, mi, ma⟩⟩, none, 0, rfl, ?_, by simp <;> omega⟩, hd.dr, hd.gr⟩
    · revert o0 o1 o2 o3 o4 o5 o6 o7 o8 o9 o10 o11 o12 o13
      clear hd ht
      generalize World.setCell (World.setCell _ _ _) _ _ = WW
      intro o0 o1 o2 o3 o4 o5 o6 o7 o8 o9 o10 o11 o12 o13
      simp [results, Tryz.results52, go_sem, o0, o1, o2, o3, o4, o5, o6, o7, o8, o9, o10, o11, o12, o13]
    · exact owns_zero _ _
  have q5' : (k == 5) = false := beq_eq_false_iff_ne.2 q5
  go_wp2_with fail
  refine (event_any HD.out.dr).mono ?_
  rintro _ w2 ⟨⟨ek, ey, ec, et, em, ef, eb, rfl⟩, s1, g1⟩
  replace HR := hide (HD.out.row g1 HR.out HN.out)
  replace HD := hide (HD.out.step s1 g1)
  clear s1 g1
  have r0 := HR.out.cell (i := 0) (by decide)
  have rf0 := HR.out.frozen 0
  have r1 := HR.out.cell (i := 1) (by decide)
  have rf1 := HR.out.frozen 1
  have r2 := HR.out.cell (i := 2) (by decide)
  have rf2 := HR.out.frozen 2
  have r3 := HR.out.cell (i := 3) (by decide)
  have rf3 := HR.out.frozen 3
  have r4 := HR.out.cell (i := 4) (by decide)
  have rf4 := HR.out.frozen 4
  have r5 := HR.out.cell (i := 5) (by decide)
  have rf5 := HR.out.frozen 5
  have r6 := HR.out.cell (i := 6) (by decide)
  have rf6 := HR.out.frozen 6
  have r7 := HR.out.cell (i := 7) (by decide)
  have rf7 := HR.out.frozen 7
  have r8 := HR.out.cell (i := 8) (by decide)
  have rf8 := HR.out.frozen 8
  have r9 := HR.out.cell (i := 9) (by decide)
  have rf9 := HR.out.frozen 9
  have r10 := HR.out.cell (i := 10) (by decide)
  have rf10 := HR.out.frozen 10
  have r11 := HR.out.cell (i := 11) (by decide)
  have rf11 := HR.out.frozen 11
  have r12 := HR.out.cell (i := 12) (by decide)
  have rf12 := HR.out.frozen 12
  have r13 := HR.out.cell (i := 13) (by decide)
  have rf13 := HR.out.frozen 13
  have hlr := HR.out.lt
  simp [zR14] at r0 r1 r2 r3 r4 r5 r6 r7 r8 r9 r10 r11 r12 r13
  go_wp2_with fail
  obtain ⟨⟨o0, o1, o2, o3, o4, o5, o6, o7, o8, o9, o10, o11, o12, o13⟩, hd⟩ := HD.out.fin14 HR.out HN.out (.int .i64 1) (.int .i64 ek) (.int .i64 ey) (.int .i64 ec) (.int .i64 et) (.int .i64 em) (.int .i64 ef) (.bool eb) (.slice none 0 0) (.int .i64 0) (.int .i64 0) (.int .i64 0) (.int .i64 0) (.int .i64 0)
  have ht := turn_14 w2 w.heap.size (.int .i64 1) (.int .i64 ek) (.int .i64 ey) (.int .i64 ec) (.int .i64 et) (.int .i64 em) (.int .i64 ef) (.bool eb) (.slice none 0 0) (.int .i64 0) (.int .i64 0) (.int .i64 0) (.int .i64 0) (.int .i64 0)
  refine bodyPost_ret (v := .agg #[.int .i64 1, .int .i64 ek, .int .i64 ey, .int .i64 ec, .int .i64 et, .int .i64 em, .int .i64 ef, .bool eb, .slice none 0 0, .int .i64 0, .int .i64 0, .int .i64 0, .int .i64 0, .int .i64 0]) ?_ rfl ⟨⟨⟨1, ⟨ek, ey, ec, et, em, ef, eb⟩, [], noR⟩, none, 0, rfl, ?_, by simp <;> omega⟩, hd.dr, hd.gr⟩
  · revert o0 o1 o2 o3 o4 o5 o6 o7 o8 o9 o10 o11 o12 o13
    clear hd ht
    generalize World.setCell (World.setCell _ _ _) _ _ = WW
    intro o0 o1 o2 o3 o4 o5 o6 o7 o8 o9 o10 o11 o12 o13
    simp [results, Tryz.results52, go_sem, o0, o1, o2, o3, o4, o5, o6, o7, o8, o9, o10, o11, o12, o13]
  · exact owns_zero _ _
end Go.Proofs.YtkgpoghoilffhaaGreatDoor
