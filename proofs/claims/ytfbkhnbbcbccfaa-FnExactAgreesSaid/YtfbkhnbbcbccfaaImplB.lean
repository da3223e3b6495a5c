/- The program's LinesOk. -/
import Derived.Test.YtfbkhnbbcbccfaaImplA
import Derived.Test.YtfbkhnbbcbccfaaPostMath
namespace Go.Proofs.Ytfbkhnbbcbccfaa
open Go.RowKit
set_option linter.unusedVariables false

theorem ok_302 {L : List Ln} {k : Nat} (hk : k ≤ L.length) (h : ∀ j, j < k → okAt L j = true) : k ≤ 302 := by
  have := good_len (good_of_ok hk h)
  rw [List.length_take] at this
  omega
theorem good_round2 {L : List Ln} {k : Nat} {s : Int} {x : Ln} {w w' : World} (hlt : k < L.length) (hm : k ≤ 302) (s0 : -(1125899906842624 * (k : Int)) ≤ s) (s1 : s ≤ 1125899906842624 * (k : Int)) (r0 : -1125899906842624 ≤ x.a) (r1 : x.a ≤ 1125899906842624)
    (hs : s = sumL (L.take k)) (hn : sumL (L.take (k + 1)) = sumL (L.take k) + x.a) (ho : ∀ j, j < k → okAt L j = true) (he : okAt L k = true) (hk : Keeps w w') :
    ∃ (s' : Int) (k' : Nat), k' ≤ L.length ∧ k' ≤ 302 ∧ -(1125899906842624 * (k' : Int)) ≤ s' ∧ s' ≤ 1125899906842624 * (k' : Int) ∧ Hid (s' = sumL (L.take k')) ∧ Hid (∀ j, j < k' → okAt L j = true) ∧ Value.int .i64 (s + x.a) = .int .i64 s' ∧ Value.int .i64 ((k : Int) + 1) = .int .i64 (k' : Int) ∧ Keeps w w' := by
  have ho' : ∀ j, j < k + 1 → okAt L j = true := by
    intro j hj
    by_cases hjk : j = k
    · subst hjk; exact he
    · exact ho j (by omega)
  refine ⟨s + x.a, k + 1, by omega, ok_302 (by omega) ho', by omega, by omega, ?_, ho', rfl, rfl, hk⟩
  show _ = _
  rw [hn, ← hs]

set_option maxHeartbeats 4000000 in
theorem impl_lines (a : Option Addr) (cap : Nat) (L : List Ln) (w : World) (hc : Cells w a (flat L)) (hl : L.length ≤ 1048576) :
    Calls Try.prog 51 #[.slice a L.length cap] w fun e w' => e = .returned (.bool (linesB L)) ∧ Keeps w w' := by
  have HC := hide hc
  clear hc
  go_enter Try.func51, Try.ntmps51
  go_wp2_with fail
  go_loopw [3, 8] (fun x y w1 => ∃ (s : Int) (k : Nat), k ≤ L.length ∧ k ≤ 302 ∧ -(1125899906842624 * (k : Int)) ≤ s ∧ s ≤ 1125899906842624 * (k : Int) ∧ Hid (s = sumL (L.take k)) ∧ Hid (∀ j, j < k → okAt L j = true) ∧ x = .int .i64 s ∧ y = .int .i64 (k : Int) ∧ Keeps w w1) (fun _ y _ => L.length - (intOf y).toNat)
  case atStart => exact ⟨0, 0, by omega, by omega, by omega, by omega, rfl, fun j hj => absurd hj (Nat.not_lt_zero j), rfl, rfl, Keeps.refl _⟩
  case round =>
    obtain ⟨s, k, hk, hk3, s0, s1, HSum, HOk, rfl, rfl, hkw⟩ := hrel
    by_cases hlt : k < L.length
    · obtain ⟨b, off, ea, c0, c1, c2⟩ := cells_at (HC.out.kept hkw) k hlt
      subst ea
      have HBad := hide (fun h => linesB_bad hlt h)
      have HNext := hide (sumL_take L k hlt)
      have HA := hide (fun w1 => impl_acc L[k].k L[k].c w1)
      have HR := hide (fun w1 => bal_impl L[k].a w1)
      have HW : Hid (Keeps w (wr.alloc (Obj.cells #[Value.int IntKind.i64 L[k].k, Value.int IntKind.i64 L[k].c, Value.int IntKind.i64 L[k].a] 76))) := hkw.alloc _
      have HEq := hide (okAt_gen hlt)
      have HL := hide (fun w1 => cmp_implk L[k - 1].k L[k - 1].c L[k].k L[k].c w1)
      have HLe := hide (cmpA_less (k := L[k - 1].k) (c := L[k - 1].c) (k' := L[k].k) (c' := L[k].c))
      obtain ⟨b', off', ea', p0, p1, _⟩ := cells_at (HC.out.kept hkw) (k - 1) (by omega)
      obtain ⟨rfl, rfl⟩ : b' = b ∧ off' = off := by injection ea' with e; injection e with e1 e2; exact ⟨e1.symm, e2.symm⟩
      clear ea'
      have P0 := hide ((Keeps.alloc (Keeps.refl wr) (Obj.cells #[Value.int IntKind.i64 L[k].k, Value.int IntKind.i64 L[k].c, Value.int IntKind.i64 L[k].a] 76)).cell p0)
      have P1 := hide ((Keeps.alloc (Keeps.refl wr) (Obj.cells #[Value.int IntKind.i64 L[k].k, Value.int IntKind.i64 L[k].c, Value.int IntKind.i64 L[k].a] 76)).cell p1)
      clear p0 p1
      generalize cmpA L[k - 1].k L[k - 1].c L[k].k L[k].c = r at *
      generalize L[k - 1] = q at *
      generalize L[k] = x at *
      obtain ⟨xk, xc, xa⟩ := x
      obtain ⟨qk, qc, qa⟩ := q
      dsimp only at *
      have D0 := hide (World.cell?_alloc_mark wr #[Value.int IntKind.i64 xk, Value.int IntKind.i64 xc, Value.int IntKind.i64 xa] 76 (0, 0) 0)
      have D1 := hide (World.cell?_alloc_mark wr #[Value.int IntKind.i64 xk, Value.int IntKind.i64 xc, Value.int IntKind.i64 xa] 76 (0, 0) 1)
      have D2 := hide (World.cell?_alloc_mark wr #[Value.int IntKind.i64 xk, Value.int IntKind.i64 xc, Value.int IntKind.i64 xa] 76 (0, 0) 2)
      cases hx : accB xk xc
      · rw [hx] at HA HEq
        clear hx HNext HSum HOk
        go_wp2_with fail
        refine (unhide HA _).mono ?_
        rintro e w1 ⟨rfl, hk1⟩
        go_wp2_with fail
        go_ret
        exact ⟨ret_bool (HBad.out (by rw [HEq.out]; simp)).symm, HW.out.trans hk1⟩
      · rw [hx] at HA HEq
        clear hx
        cases hr : rangeB xa
        · rw [hr] at HR HEq
          clear hr HNext HSum HOk
          go_wp2_with fail
          refine (unhide HA _).mono ?_
          rintro e w1 ⟨rfl, hk1⟩
          have e2 : w1.cell? ⟨wr.heap.size, 2, none⟩ = some (.int .i64 xa) := hk1.cell D2.out
          go_wp2_with fail
          refine (unhide HR _).mono ?_
          rintro e w2 ⟨rfl, rfl⟩
          go_wp2_with fail
          go_ret
          exact ⟨ret_bool (HBad.out (by rw [HEq.out]; simp)).symm, HW.out.trans hk1⟩
        · rw [hr] at HR HEq
          have hr2 : -1125899906842624 ≤ xa ∧ xa ≤ 1125899906842624 := by simpa [rangeB] using hr
          obtain ⟨hr3, hr4⟩ := hr2
          clear hr
          by_cases hz : xa = 0
          · have hz' : (xa == 0) = true := by rw [hz]; rfl
            have HZ := hide hz
            clear HNext HSum HOk hz
            go_wp2_with fail
            refine (unhide HA _).mono ?_
            rintro e w1 ⟨rfl, hk1⟩
            have e2 : w1.cell? ⟨wr.heap.size, 2, none⟩ = some (.int .i64 xa) := hk1.cell D2.out
            go_wp2_with fail
            refine (unhide HR _).mono ?_
            rintro e w2 ⟨rfl, rfl⟩
            go_wp2_with fail
            go_ret
            exact ⟨ret_bool (HBad.out (by rw [HEq.out]; simp [HZ.out])).symm, HW.out.trans hk1⟩
          · have hz' : (xa == 0) = false := beq_eq_false_iff_ne.2 hz
            have HZ := hide hz
            clear hz
            go_wp2_with fail
            refine (unhide HA _).mono ?_
            rintro e w1 ⟨rfl, hk1⟩
            have e2 : w1.cell? ⟨wr.heap.size, 2, none⟩ = some (.int .i64 xa) := hk1.cell D2.out
            have G0 := hide (gr_cell (hk1.cell D0.out))
            have G1 := hide (gr_cell (hk1.cell D1.out))
            have G3 := hide (gr_cell (hk1.cell P0.out))
            have G4 := hide (gr_cell (hk1.cell P1.out))
            have HW1 := hide (HW.out.trans hk1)
            have HE2 := hide e2
            clear c0 c1 c2 D0 D1 D2 P0 P1 hk1
            go_wp2_with fail
            refine (unhide HR _).mono ?_
            rintro e w2 ⟨rfl, rfl⟩
            go_wp2_with fail
            have g0 : ∀ t, (gr w2 t).cell? ⟨wr.heap.size, 0, none⟩ = some (.int .i64 xk) := G0.out
            have g1 : ∀ t, (gr w2 t).cell? ⟨wr.heap.size, 1, none⟩ = some (.int .i64 xc) := G1.out
            have g3 := G3.out
            have g4 := G4.out
            clear G0 G1 G3 G4 e2
            by_cases hk0 : 0 < k
            · cases hq : lessB qk qc xk xc
              · have hr0 : 0 ≤ r := by have := HLe.out; rw [hq] at this; simpa using this
                have HQ : Hid (okAt L k = false) := by show _ = _; rw [HEq.out, hq]; simp; omega
                clear hq HNext HSum HOk HLe
                refine region_gr (by kernel_rfl) (by kernel_rfl) ?_
                repeat (go_big_quiet_step (first | (go_at_call 71; exact gr_call (unhide HL _))))
                refine wpQuiet_nil ?_
                intro w' hw'
                have hk2 := Keeps.of_gr hw'
                clear hw'
                have hk' := HW1.out.trans hk2
                go_wp2_with fail
                go_ret
                exact ⟨ret_bool (HBad.out HQ.out).symm, hk'⟩
              · have hr0 : r < 0 := by have := HLe.out; rw [hq] at this; simpa using this
                have HQ : Hid (okAt L k = true) := by show _ = _; rw [HEq.out, hq]; simp [HZ.out]; omega
                clear hq HLe
                refine region_gr (by kernel_rfl) (by kernel_rfl) ?_
                repeat (go_big_quiet_step (first | (go_at_call 71; exact gr_call (unhide HL _))))
                refine wpQuiet_nil ?_
                intro w' hw'
                have hk2 := Keeps.of_gr hw'
                clear hw'
                have e2 : w'.cell? ⟨wr.heap.size, 2, none⟩ = some (.int .i64 xa) := hk2.cell HE2.out
                have hk' := HW1.out.trans hk2
                go_wp2_with fail
                go_roundw
                case rel => exact good_round2 (x := ⟨xk, xc, xa⟩) hlt hk3 s0 s1 hr3 hr4 HSum.out HNext.out HOk.out HQ.out hk'
                case measure => simp [intOf]; omega
            · have HQ : Hid (okAt L k = true) := by show _ = _; rw [HEq.out]; simp [HZ.out, show k = 0 by omega]
              clear HLe
              refine region_gr (by kernel_rfl) (by kernel_rfl) ?_
              repeat (go_big_quiet_step (first | (go_at_call 71; exact gr_call (unhide HL _))))
              refine wpQuiet_nil ?_
              intro w' hw'
              have hk2 := Keeps.of_gr hw'
              clear hw'
              have e2 : w'.cell? ⟨wr.heap.size, 2, none⟩ = some (.int .i64 xa) := hk2.cell HE2.out
              have hk' := HW1.out.trans hk2
              go_wp2_with fail
              go_roundw
              case rel => exact good_round2 (x := ⟨xk, xc, xa⟩) hlt hk3 s0 s1 hr3 hr4 HSum.out HNext.out HOk.out HQ.out hk'
              case measure => simp [intOf]; omega
    · have hke : k = L.length := by omega
      subst hke
      have HE : Hid (linesB L = decide (sumL L = 0)) := linesB_good HOk.out
      have HS : Hid (s = sumL L) := by have := HSum.out; rwa [List.take_length] at this
      clear HOk HSum
      by_cases hz : s = 0
      · subst hz
        go_wp2_with fail
        go_ret
        exact ⟨ret_bool (by rw [HE.out, ← HS.out]; rfl), hkw⟩
      · have hz' : (s == 0) = false := beq_eq_false_iff_ne.2 hz
        have HZ := hide hz
        clear hz
        go_wp2_with fail
        go_ret
        exact ⟨ret_bool (by rw [HE.out, ← HS.out]; simp [HZ.out]), hkw⟩
end Go.Proofs.Ytfbkhnbbcbccfaa
