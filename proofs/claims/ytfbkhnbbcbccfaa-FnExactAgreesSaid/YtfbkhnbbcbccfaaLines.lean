/- The contract of the model's LinesOk; lines in memory. -/
import Derived.Test.YtfbkhnbbcbccfaaAcc
import Derived.Test.YtfbkhnbbcbccfaaOpen
namespace Go.Proofs.Ytfbkhnbbcbccfaa
open Go.RowKit
set_option linter.unusedVariables false

def flat (L : List Ln) : List Value := L.flatMap Ln.cells
theorem flat_length (L : List Ln) : (flat L).length = 3 * L.length := by
  induction L with
  | nil => rfl
  | cons x t ih => simp [flat, Ln.cells] at ih ⊢; omega
theorem flat_at : ∀ (L : List Ln) (i : Nat) (h : i < L.length), (flat L)[3 * i]? = some (.int .i64 L[i].k) ∧ (flat L)[3 * i + 1]? = some (.int .i64 L[i].c) ∧ (flat L)[3 * i + 2]? = some (.int .i64 L[i].a)
  | [], i, h => absurd h (Nat.not_lt_zero i)
  | x :: t, 0, h => ⟨rfl, rfl, rfl⟩
  | x :: t, i + 1, h => by
    have := flat_at t i (by simpa using h)
    have e : flat (x :: t) = x.cells ++ flat t := rfl
    have l : x.cells.length = 3 := rfl
    simp only [List.getElem_cons_succ]
    refine ⟨?_, ?_, ?_⟩
    · rw [e, List.getElem?_append_right (by omega), l, show 3 * (i + 1) - 3 = 3 * i by omega]; exact this.1
    · rw [e, List.getElem?_append_right (by omega), l, show 3 * (i + 1) + 1 - 3 = 3 * i + 1 by omega]; exact this.2.1
    · rw [e, List.getElem?_append_right (by omega), l, show 3 * (i + 1) + 2 - 3 = 3 * i + 2 by omega]; exact this.2.2
/-- A line of a list in memory. -/
theorem cells_at {w : World} {a : Option Addr} {L : List Ln} (h : Cells w a (flat L)) (i : Nat) (hi : i < L.length) :
    ∃ b off, a = some ⟨b, off, none⟩ ∧ w.cell? ⟨b, off + i * 3, none⟩ = some (.int .i64 L[i].k) ∧ w.cell? ⟨b, off + i * 3 + 1, none⟩ = some (.int .i64 L[i].c) ∧ w.cell? ⟨b, off + i * 3 + 2, none⟩ = some (.int .i64 L[i].a) := by
  have hl := flat_length L
  rcases h with h | ⟨b, off, e, h⟩
  · rw [h] at hl; simp at hl; omega
  · obtain ⟨f0, f1, f2⟩ := flat_at L i hi
    refine ⟨b, off, e, ?_, ?_, ?_⟩
    · rw [show off + i * 3 = off + 3 * i by omega, h (3 * i) (by omega)]; rw [List.getElem?_eq_getElem (by omega)] at f0; exact f0
    · rw [show off + i * 3 + 1 = off + (3 * i + 1) by omega, h (3 * i + 1) (by omega)]; rw [List.getElem?_eq_getElem (by omega)] at f1; exact f1
    · rw [show off + i * 3 + 2 = off + (3 * i + 2) by omega, h (3 * i + 2) (by omega)]; rw [List.getElem?_eq_getElem (by omega)] at f2; exact f2

/-- Is line k right, behind the one ahead of it? -/
def okAt (L : List Ln) (k : Nat) : Bool :=
  match L[k]? with
  | none => false
  | some x => accB x.k x.c && (decide (k = 0) || (match L[k - 1]? with | none => false | some p => lessB p.k p.c x.k x.c)) && rangeB x.a && decide (x.a ≠ 0) && decide (k ≤ 320)
def sumL (L : List Ln) : Int := (L.map Ln.a).foldl (· + ·) 0
/-- What LinesOk answers. -/
def linesB (L : List Ln) : Bool := (List.range L.length).all (okAt L) && decide (sumL L = 0)
theorem sumL_take (L : List Ln) (k : Nat) (h : k < L.length) : sumL (L.take (k + 1)) = sumL (L.take k) + L[k].a := by
  unfold sumL
  rw [List.take_succ_eq_append_getElem h, List.map_append, List.foldl_append]; rfl
theorem linesB_bad {L : List Ln} {k : Nat} (h : k < L.length) (hb : okAt L k = false) : linesB L = false := by
  unfold linesB
  have : (List.range L.length).all (okAt L) = false := by
    rw [List.all_eq_false]
    exact ⟨k, List.mem_range.2 h, by simp [hb]⟩
  rw [this]; rfl
theorem linesB_good {L : List Ln} (h : ∀ j, j < L.length → okAt L j = true) : linesB L = decide (sumL L = 0) := by
  unfold linesB
  have : (List.range L.length).all (okAt L) = true := by
    rw [List.all_eq_true]
    exact fun j hj => h j (List.mem_range.1 hj)
  rw [this]; rfl
theorem okAt_gen {L : List Ln} {k : Nat} (h : k < L.length) : okAt L k = (accB L[k].k L[k].c && (decide (k = 0) || lessB L[k - 1].k L[k - 1].c L[k].k L[k].c) && rangeB L[k].a && decide (L[k].a ≠ 0) && decide (k ≤ 320)) := by
  unfold okAt
  rw [List.getElem?_eq_getElem h, List.getElem?_eq_getElem (show k - 1 < L.length by omega)]

theorem less_of {k : Nat} {b : Bool} (h : (decide (k = 0) || b) = true) (hk : 0 < k) : b = true := by
  simp at h
  rcases h with h | h
  · omega
  · exact h
theorem good_round {L : List Ln} {k : Nat} {s : Int} {x : Ln} {w w' : World} (hlt : k < L.length) (hm : ¬ 320 < k) (s0 : -(1125899906842624 * (k : Int)) ≤ s) (s1 : s ≤ 1125899906842624 * (k : Int)) (r0 : -1125899906842624 ≤ x.a) (r1 : x.a ≤ 1125899906842624)
    (hs : s = sumL (L.take k)) (hn : sumL (L.take (k + 1)) = sumL (L.take k) + x.a) (ho : ∀ j, j < k → okAt L j = true) (he : okAt L k = (true && true && true && decide (x.a ≠ 0) && decide (k ≤ 320))) (hz : ¬ x.a = 0) (hk : Keeps w w') :
    ∃ (s' : Int) (k' : Nat), k' ≤ L.length ∧ k' ≤ 321 ∧ -(1125899906842624 * (k' : Int)) ≤ s' ∧ s' ≤ 1125899906842624 * (k' : Int) ∧ Hid (s' = sumL (L.take k')) ∧ Hid (∀ j, j < k' → okAt L j = true) ∧ Value.int .i64 (s + x.a) = .int .i64 s' ∧ Value.int .i64 ((k : Int) + 1) = .int .i64 (k' : Int) ∧ Keeps w w' := by
  refine ⟨s + x.a, k + 1, by omega, by omega, by omega, by omega, ?_, ?_, rfl, rfl, hk⟩
  · show _ = _
    rw [hn, ← hs]
  · intro j hj
    by_cases hjk : j = k
    · subst hjk; rw [he]; simp [hz]; omega
    · exact ho j (by omega)

set_option maxHeartbeats 4000000 in
theorem lines_spec (a : Option Addr) (cap : Nat) (L : List Ln) (w : World) (hc : Cells w a (flat L)) (hl : L.length ≤ 1048576) :
    Calls Try.prog 38 #[.slice a L.length cap] w fun e w' => e = .returned (.bool (linesB L)) ∧ Keeps w w' := by
  have HC := hide hc
  clear hc
  go_enter Try.func38, Try.ntmps38
  go_wp2_with fail
  go_loopw [3, 8] (fun x y w1 => ∃ (s : Int) (k : Nat), k ≤ L.length ∧ k ≤ 321 ∧ -(1125899906842624 * (k : Int)) ≤ s ∧ s ≤ 1125899906842624 * (k : Int) ∧ Hid (s = sumL (L.take k)) ∧ Hid (∀ j, j < k → okAt L j = true) ∧ x = .int .i64 s ∧ y = .int .i64 (k : Int) ∧ Keeps w w1) (fun _ y _ => L.length - (intOf y).toNat)
  case atStart => exact ⟨0, 0, by omega, by omega, by omega, by omega, rfl, fun j hj => absurd hj (Nat.not_lt_zero j), rfl, rfl, Keeps.refl _⟩
  case round =>
    obtain ⟨s, k, hk, hk3, s0, s1, HSum, HOk, rfl, rfl, hkw⟩ := hrel
    by_cases hlt : k < L.length
    · obtain ⟨b, off, ea, c0, c1, c2⟩ := cells_at (HC.out.kept hkw) k hlt
      subst ea
      have HBad := hide (fun h => linesB_bad hlt h)
      have HNext := hide (sumL_take L k hlt)
      have HA := hide (fun w1 => acc_k L[k].k L[k].c w1)
      have HR := hide (fun w1 => range_k L[k].a w1)
      have HW : Hid (Keeps w (wr.alloc (Obj.cells #[Value.int IntKind.i64 L[k].k, Value.int IntKind.i64 L[k].c, Value.int IntKind.i64 L[k].a] 76))) := hkw.alloc _
      have D0 := hide (World.cell?_alloc_mark wr #[Value.int IntKind.i64 L[k].k, Value.int IntKind.i64 L[k].c, Value.int IntKind.i64 L[k].a] 76 (0, 0) 0)
      have D1 := hide (World.cell?_alloc_mark wr #[Value.int IntKind.i64 L[k].k, Value.int IntKind.i64 L[k].c, Value.int IntKind.i64 L[k].a] 76 (0, 0) 1)
      have D2 := hide (World.cell?_alloc_mark wr #[Value.int IntKind.i64 L[k].k, Value.int IntKind.i64 L[k].c, Value.int IntKind.i64 L[k].a] 76 (0, 0) 2)
      have HEq := hide (okAt_gen hlt)
      have HL := hide (fun w1 => less_k L[k - 1].k L[k - 1].c L[k].k L[k].c w1)
      obtain ⟨b', off', ea', p0, p1, _⟩ := cells_at (HC.out.kept hkw) (k - 1) (by omega)
      obtain ⟨rfl, rfl⟩ : b' = b ∧ off' = off := by injection ea' with e; injection e with e1 e2; exact ⟨e1.symm, e2.symm⟩
      clear ea'
      have P0 := hide (gr_cell ((Keeps.alloc (Keeps.refl wr) (Obj.cells #[Value.int IntKind.i64 L[k].k, Value.int IntKind.i64 L[k].c, Value.int IntKind.i64 L[k].a] 76)).cell p0))
      have P1 := hide (gr_cell ((Keeps.alloc (Keeps.refl wr) (Obj.cells #[Value.int IntKind.i64 L[k].k, Value.int IntKind.i64 L[k].c, Value.int IntKind.i64 L[k].a] 76)).cell p1))
      have E0 := hide (gr_cell D0.out)
      have E1 := hide (gr_cell D1.out)
      have E2 := hide (gr_cell D2.out)
      clear D0 D1 p0 p1
      generalize L[k - 1] = q at *
      generalize L[k] = x at *
      go_wp2_with fail
      generalize wr.alloc (Obj.cells #[Value.int IntKind.i64 x.k, Value.int IntKind.i64 x.c, Value.int IntKind.i64 x.a] 76) = W at *
      have g0 : ∀ t, (gr W t).cell? ⟨wr.heap.size, 0, none⟩ = some (.int .i64 x.k) := E0.out
      have g1 : ∀ t, (gr W t).cell? ⟨wr.heap.size, 1, none⟩ = some (.int .i64 x.c) := E1.out
      have g2 : ∀ t, (gr W t).cell? ⟨wr.heap.size, 2, none⟩ = some (.int .i64 x.a) := E2.out
      have g3 := P0.out
      have g4 := P1.out
      clear E0 E1 E2 P0 P1 c0 c1 c2
      refine region_gr (by kernel_rfl) (by kernel_rfl) ?_
      cases hx : accB x.k x.c
      · rw [hx] at HA HEq
        clear hx HNext HSum HOk
        repeat (go_big_quiet_step (first | (go_at_call 39; exact gr_call (unhide HA _)) | (go_at_call 60; exact gr_call (unhide HL _)) | (go_at_call 61; exact gr_call (unhide HR _))))
        refine wpQuiet_nil ?_
        intro w' hw'
        have hk2 := Keeps.of_gr hw'
        clear hw'
        have hk' := HW.out.trans hk2
        go_wp2_with fail
        go_ret
        exact ⟨ret_bool (HBad.out (by rw [HEq.out]; simp [*])).symm, hk'⟩
      · rw [hx] at HA HEq
        clear hx
        cases hle : decide (k = 0) || lessB q.k q.c x.k x.c
        · have hk0 : 0 < k := by simp at hle; omega
          have hl0 : lessB q.k q.c x.k x.c = false := by simp at hle; exact hle.2
          rw [hl0] at HL
          rw [hle] at HEq
          clear hle hl0 HNext HSum HOk
          repeat (go_big_quiet_step (first | (go_at_call 39; exact gr_call (unhide HA _)) | (go_at_call 60; exact gr_call (unhide HL _)) | (go_at_call 61; exact gr_call (unhide HR _))))
          refine wpQuiet_nil ?_
          intro w' hw'
          have hk2 := Keeps.of_gr hw'
          clear hw'
          have hk' := HW.out.trans hk2
          go_wp2_with fail
          go_ret
          exact ⟨ret_bool (HBad.out (by rw [HEq.out]; simp [*])).symm, hk'⟩
        · rw [hle] at HEq
          cases hr : rangeB x.a
          · rw [hr] at HR HEq
            clear hr HNext HSum HOk
            by_cases hk0 : 0 < k
            · have hl0 : lessB q.k q.c x.k x.c = true := less_of hle hk0
              rw [hl0] at HL
              clear hle hl0
              repeat (go_big_quiet_step (first | (go_at_call 39; exact gr_call (unhide HA _)) | (go_at_call 60; exact gr_call (unhide HL _)) | (go_at_call 61; exact gr_call (unhide HR _))))
              refine wpQuiet_nil ?_
              intro w' hw'
              have hk2 := Keeps.of_gr hw'
              clear hw'
              have hk' := HW.out.trans hk2
              go_wp2_with fail
              go_ret
              exact ⟨ret_bool (HBad.out (by rw [HEq.out]; simp [*])).symm, hk'⟩
            · clear hle
              repeat (go_big_quiet_step (first | (go_at_call 39; exact gr_call (unhide HA _)) | (go_at_call 60; exact gr_call (unhide HL _)) | (go_at_call 61; exact gr_call (unhide HR _))))
              refine wpQuiet_nil ?_
              intro w' hw'
              have hk2 := Keeps.of_gr hw'
              clear hw'
              have hk' := HW.out.trans hk2
              go_wp2_with fail
              go_ret
              exact ⟨ret_bool (HBad.out (by rw [HEq.out]; simp [*])).symm, hk'⟩
          · rw [hr] at HR HEq
            have hr2 : -1125899906842624 ≤ x.a ∧ x.a ≤ 1125899906842624 := by simpa [rangeB] using hr
            obtain ⟨hr3, hr4⟩ := hr2
            clear hr
            by_cases hz : x.a = 0
            · have hz' : (x.a == 0) = true := by rw [hz]; rfl
              have HZ := hide hz
              clear HNext HSum HOk hz
              by_cases hk0 : 0 < k
              · have hl0 : lessB q.k q.c x.k x.c = true := less_of hle hk0
                rw [hl0] at HL
                clear hle hl0
                repeat (go_big_quiet_step (first | (go_at_call 39; exact gr_call (unhide HA _)) | (go_at_call 60; exact gr_call (unhide HL _)) | (go_at_call 61; exact gr_call (unhide HR _))))
                refine wpQuiet_nil ?_
                intro w' hw'
                have hk2 := Keeps.of_gr hw'
                clear hw'
                have hk' := HW.out.trans hk2
                go_wp2_with fail
                go_ret
                exact ⟨ret_bool (HBad.out (by rw [HEq.out]; simp [HZ.out])).symm, hk'⟩
              · clear hle
                repeat (go_big_quiet_step (first | (go_at_call 39; exact gr_call (unhide HA _)) | (go_at_call 60; exact gr_call (unhide HL _)) | (go_at_call 61; exact gr_call (unhide HR _))))
                refine wpQuiet_nil ?_
                intro w' hw'
                have hk2 := Keeps.of_gr hw'
                clear hw'
                have hk' := HW.out.trans hk2
                go_wp2_with fail
                go_ret
                exact ⟨ret_bool (HBad.out (by rw [HEq.out]; simp [HZ.out])).symm, hk'⟩
            · have hz' : (x.a == 0) = false := beq_eq_false_iff_ne.2 hz
              have HZ := hide hz
              clear hz
              by_cases hm : 320 < k
              · have hk0 : 0 < k := by omega
                have hl0 : lessB q.k q.c x.k x.c = true := less_of hle hk0
                have HM : Hid (¬ k ≤ 320) := by show ¬ _; omega
                rw [hl0] at HL
                clear hle hl0 HNext HSum HOk
                repeat (go_big_quiet_step (first | (go_at_call 39; exact gr_call (unhide HA _)) | (go_at_call 60; exact gr_call (unhide HL _)) | (go_at_call 61; exact gr_call (unhide HR _))))
                refine wpQuiet_nil ?_
                intro w' hw'
                have hk2 := Keeps.of_gr hw'
                clear hw'
                have hk' := HW.out.trans hk2
                go_wp2_with fail
                go_ret
                exact ⟨ret_bool (HBad.out (by rw [HEq.out]; simp [HM.out])).symm, hk'⟩
              · by_cases hk0 : 0 < k
                · have hl0 : lessB q.k q.c x.k x.c = true := less_of hle hk0
                  rw [hl0] at HL
                  clear hle hl0
                  repeat (go_big_quiet_step (first | (go_at_call 39; exact gr_call (unhide HA _)) | (go_at_call 60; exact gr_call (unhide HL _)) | (go_at_call 61; exact gr_call (unhide HR _))))
                  refine wpQuiet_nil ?_
                  intro w' hw'
                  have hk2 := Keeps.of_gr hw'
                  clear hw'
                  have e2 : w'.cell? ⟨wr.heap.size, 2, none⟩ = some (.int .i64 x.a) := hk2.cell D2.out
                  have hk' := HW.out.trans hk2
                  go_wp2_with fail
                  go_roundw
                  case rel => exact good_round hlt hm s0 s1 hr3 hr4 HSum.out HNext.out HOk.out HEq.out HZ.out hk'
                  case measure => simp [intOf]; omega
                · clear hle
                  repeat (go_big_quiet_step (first | (go_at_call 39; exact gr_call (unhide HA _)) | (go_at_call 60; exact gr_call (unhide HL _)) | (go_at_call 61; exact gr_call (unhide HR _))))
                  refine wpQuiet_nil ?_
                  intro w' hw'
                  have hk2 := Keeps.of_gr hw'
                  clear hw'
                  have e2 : w'.cell? ⟨wr.heap.size, 2, none⟩ = some (.int .i64 x.a) := hk2.cell D2.out
                  have hk' := HW.out.trans hk2
                  go_wp2_with fail
                  go_roundw
                  case rel => exact good_round hlt hm s0 s1 hr3 hr4 HSum.out HNext.out HOk.out HEq.out HZ.out hk'
                  case measure => simp [intOf]; omega
    · have hke : k = L.length := by omega
      subst hke
      have HE : Hid (linesB L = decide (sumL L = 0)) := linesB_good HOk.out
      have HS : Hid (s = sumL L) := by have := HSum.out; rwa [List.take_length] at this
      clear HOk HSum
      by_cases hz : s = 0
      · subst hz
        go_wp2_with fail
        go_ret
        exact ⟨ret_bool (by rw [HE.out, ← HS.out]; rfl), hkw⟩
      · have hz' : (s == 0) = false := beq_eq_false_iff_ne.2 hz
        have HZ := hide hz
        clear hz
        go_wp2_with fail
        go_ret
        exact ⟨ret_bool (by rw [HE.out, ← HS.out]; simp [HZ.out]), hkw⟩
end Go.Proofs.Ytfbkhnbbcbccfaa
