/- The program's EventOk, by contract: kinds behind an interface. -/
import Derived.Test.YtkdnddckogbgaaaGreatDoorFO11
import Derived.Laws.StructEq
namespace Go.Proofs.YtkdnddckogbgaaaGreatDoor
open Go.RowKit
set_option linter.unusedVariables false
set_option maxRecDepth 10000
def chansB (a b : Int) : Bool := fieldB true a 1 99 && fieldB true b 1 99 && !decide (a = b)
/-- Are two events the same? -/
def evEq (k y c t m f : Int) (b : Bool) (k' y' c' t' m' f' : Int) (b' : Bool) : Bool := decide (k = k') && decide (y = y') && decide (c = c') && decide (t = t') && decide (m = m') && decide (f = f') && decide (b = b')
theorem infoEvent : Tryz.prog.underlying 30 = some (.struct (Tryz.prog.fieldsOf 30)) := by kernel_rfl
set_option maxHeartbeats 2000000 in
theorem ev_eql (k y c t m f : Int) (b : Bool) (k' y' c' t' m' f' : Int) (b' : Bool) (w : World) :
    (binOp .eql 30 (evV k y c t m f b) (evV k' y' c' t' m' f' b')).run Tryz.prog w = .ok (.bool (evEq k y c t m f b k' y' c' t' m' f' b')) w := by
  have hs : Tryz.prog.stoodInHeld 30 = false := by kernel_rfl
  have hf : (Tryz.prog.fieldsOf 30).toList.map (fun f => (f.name, f.type, f.offset)) = [("Kind", 3, 0), ("Key", 3, 1), ("Ch", 3, 2), ("To", 3, 3), ("Amt", 3, 4), ("Fee", 3, 5), ("Yes", 4, 6)] := by kernel_rfl
  rw [run_eql_struct, run_equalIn_agg _ _ _ _ _ infoEvent hs]
  generalize (Tryz.prog.fieldsOf 30).toList = fs at hf
  simp only [List.map_eq_cons_iff, List.map_eq_nil_iff, Prod.mk.injEq] at hf
  obtain ⟨f0, r0, rfl, ⟨n0, t0, o0⟩, f1, r1, rfl, ⟨n1, t1, o1⟩, f2, r2, rfl, ⟨n2, t2, o2⟩, f3, r3, rfl, ⟨n3, t3, o3⟩, f4, r4, rfl, ⟨n4, t4, o4⟩, f5, r5, rfl, ⟨n5, t5, o5⟩, f6, r6, rfl, ⟨n6, t6, o6⟩, rfl⟩ := hf
  have hi : Tryz.prog.underlying 3 = some (.int .i64) := Tryz.underlying3
  have hbo : Tryz.prog.underlying 4 = some .bool := Tryz.underlying4
  by_cases e0 : k = k'
  case neg => simp [Op.eqFields, go_sem, n0, t0, o0, n1, t1, o1, n2, t2, o2, n3, t3, o3, n4, t4, o4, n5, t5, o5, n6, t6, o6, evEq, hi, hbo, e0]
  by_cases e1 : y = y'
  case neg => simp [Op.eqFields, go_sem, n0, t0, o0, n1, t1, o1, n2, t2, o2, n3, t3, o3, n4, t4, o4, n5, t5, o5, n6, t6, o6, evEq, hi, hbo, e0, e1]
  by_cases e2 : c = c'
  case neg => simp [Op.eqFields, go_sem, n0, t0, o0, n1, t1, o1, n2, t2, o2, n3, t3, o3, n4, t4, o4, n5, t5, o5, n6, t6, o6, evEq, hi, hbo, e0, e1, e2]
  by_cases e3 : t = t'
  case neg => simp [Op.eqFields, go_sem, n0, t0, o0, n1, t1, o1, n2, t2, o2, n3, t3, o3, n4, t4, o4, n5, t5, o5, n6, t6, o6, evEq, hi, hbo, e0, e1, e2, e3]
  by_cases e4 : m = m'
  case neg => simp [Op.eqFields, go_sem, n0, t0, o0, n1, t1, o1, n2, t2, o2, n3, t3, o3, n4, t4, o4, n5, t5, o5, n6, t6, o6, evEq, hi, hbo, e0, e1, e2, e3, e4]
  by_cases e5 : f = f'
  case neg => simp [Op.eqFields, go_sem, n0, t0, o0, n1, t1, o1, n2, t2, o2, n3, t3, o3, n4, t4, o4, n5, t5, o5, n6, t6, o6, evEq, hi, hbo, e0, e1, e2, e3, e4, e5]
  by_cases e6 : b = b'
  case neg => simp [Op.eqFields, go_sem, n0, t0, o0, n1, t1, o1, n2, t2, o2, n3, t3, o3, n4, t4, o4, n5, t5, o5, n6, t6, o6, evEq, hi, hbo, e0, e1, e2, e3, e4, e5, e6]
  simp [Op.eqFields, go_sem, n0, t0, o0, n1, t1, o1, n2, t2, o2, n3, t3, o3, n4, t4, o4, n5, t5, o5, n6, t6, o6, evEq, hi, hbo, e0, e1, e2, e3, e4, e5, e6]
theorem AmtOk_k (n : Int) (w : World) : Calls Tryz.prog 139 #[.int .i64 n] w fun e w' => e = .returned (.bool (fieldB true n 0 1125899906842624)) ∧ w' = w := by
  have H : Hid (fieldB true n 0 1125899906842624 = (decide (0 ≤ n) && decide (n ≤ 1125899906842624))) := rfl
  by_cases h1 : 0 ≤ n
  · have H2 : Hid (fieldB true n 0 1125899906842624 = decide (n ≤ 1125899906842624)) := by show _ = _; rw [H.out, decide_eq_true h1, Bool.true_and]
    go_enter Tryz.func139, Tryz.ntmps139
    go_wp2
    go_ret
    exact ⟨ret_ev (by rw [H2.out]), rfl⟩
  · have H2 : Hid (fieldB true n 0 1125899906842624 = false) := by show _ = _; rw [H.out, decide_eq_false h1, Bool.false_and]
    go_enter Tryz.func139, Tryz.ntmps139
    go_wp2
    go_ret
    exact ⟨ret_ev (by rw [H2.out]), rfl⟩
theorem chanOk_k (n : Int) (w : World) : Calls Tryz.prog 142 #[.int .i64 n] w fun e w' => e = .returned (.bool (fieldB true n 1 99)) ∧ w' = w := by
  have H : Hid (fieldB true n 1 99 = (decide (1 ≤ n) && decide (n ≤ 99))) := rfl
  by_cases h1 : 1 ≤ n
  · have H2 : Hid (fieldB true n 1 99 = decide (n ≤ 99)) := by show _ = _; rw [H.out, decide_eq_true h1, Bool.true_and]
    go_enter Tryz.func142, Tryz.ntmps142
    go_wp2
    go_ret
    exact ⟨ret_ev (by rw [H2.out]), rfl⟩
  · have H2 : Hid (fieldB true n 1 99 = false) := by show _ = _; rw [H.out, decide_eq_false h1, Bool.false_and]
    go_enter Tryz.func142, Tryz.ntmps142
    go_wp2
    go_ret
    exact ⟨ret_ev (by rw [H2.out]), rfl⟩
theorem keyOk_k (n : Int) (w : World) : Calls Tryz.prog 150 #[.int .i64 n] w fun e w' => e = .returned (.bool (fieldB true n 1 1000000)) ∧ w' = w := by
  have H : Hid (fieldB true n 1 1000000 = (decide (1 ≤ n) && decide (n ≤ 1000000))) := rfl
  by_cases h1 : 1 ≤ n
  · have H2 : Hid (fieldB true n 1 1000000 = decide (n ≤ 1000000)) := by show _ = _; rw [H.out, decide_eq_true h1, Bool.true_and]
    go_enter Tryz.func150, Tryz.ntmps150
    go_wp2
    go_ret
    exact ⟨ret_ev (by rw [H2.out]), rfl⟩
  · have H2 : Hid (fieldB true n 1 1000000 = false) := by show _ = _; rw [H.out, decide_eq_false h1, Bool.false_and]
    go_enter Tryz.func150, Tryz.ntmps150
    go_wp2
    go_ret
    exact ⟨ret_ev (by rw [H2.out]), rfl⟩
theorem ppmOk_k (n : Int) (w : World) : Calls Tryz.prog 147 #[.int .i64 n] w fun e w' => e = .returned (.bool (fieldB true n 0 1000000)) ∧ w' = w := by
  have H : Hid (fieldB true n 0 1000000 = (decide (0 ≤ n) && decide (n ≤ 1000000))) := rfl
  by_cases h1 : 0 ≤ n
  · have H2 : Hid (fieldB true n 0 1000000 = decide (n ≤ 1000000)) := by show _ = _; rw [H.out, decide_eq_true h1, Bool.true_and]
    go_enter Tryz.func147, Tryz.ntmps147
    go_wp2
    go_ret
    exact ⟨ret_ev (by rw [H2.out]), rfl⟩
  · have H2 : Hid (fieldB true n 0 1000000 = false) := by show _ = _; rw [H.out, decide_eq_false h1, Bool.false_and]
    go_enter Tryz.func147, Tryz.ntmps147
    go_wp2
    go_ret
    exact ⟨ret_ev (by rw [H2.out]), rfl⟩
theorem aboveZero_k (n : Int) (w : World) : Calls Tryz.prog 138 #[.int .i64 n] w fun e w' => e = .returned (.bool (fieldB true n 1 1125899906842624)) ∧ w' = w := by
  have HA := hide (fun w1 => AmtOk_k n w1)
  have H : Hid (fieldB true n 1 1125899906842624 = (fieldB true n 0 1125899906842624 && decide (0 < n))) := by
    show _ = _
    simp only [fieldB, if_true]
    rw [Bool.eq_iff_iff]; simp; omega
  cases h : fieldB true n 0 1125899906842624
  · rw [h] at HA H
    clear h
    go_enter Tryz.func138, Tryz.ntmps138
    go_wp2_with (go_at_call 139; refine (unhide HA _).mono ?_; rintro e w' ⟨rfl, rfl⟩)
    go_ret
    exact ⟨ret_ev (by rw [H.out]; rfl), rfl⟩
  · rw [h] at HA H
    clear h
    go_enter Tryz.func138, Tryz.ntmps138
    go_wp2_with (go_at_call 139; refine (unhide HA _).mono ?_; rintro e w' ⟨rfl, rfl⟩)
    go_ret
    exact ⟨ret_ev (by rw [H.out]; simp), rfl⟩
theorem chansOk_k (x y : Int) (w : World) : Calls Tryz.prog 151 #[.int .i64 x, .int .i64 y] w fun e w' => e = .returned (.bool (chansB x y)) ∧ w' = w := by
  have HA := hide (fun n w1 => chanOk_k n w1)
  cases hx : fieldB true x 1 99
  · have H : Hid (chansB x y = false) := by show _ = _; unfold chansB; rw [hx]; rfl
    go_enter Tryz.func151, Tryz.ntmps151
    go_wp2_with (go_at_call 142; refine (unhide HA _ _).mono ?_; rintro e w' ⟨rfl, rfl⟩)
    go_ret
    exact ⟨ret_ev (by rw [H.out]), rfl⟩
  · cases hy : fieldB true y 1 99
    · have H : Hid (chansB x y = false) := by show _ = _; unfold chansB; rw [hx, hy]; rfl
      go_enter Tryz.func151, Tryz.ntmps151
      go_wp2_with (go_at_call 142; refine (unhide HA _ _).mono ?_; rintro e w' ⟨rfl, rfl⟩)
      go_ret
      exact ⟨ret_ev (by rw [H.out]), rfl⟩
    · have H : Hid (chansB x y = !decide (x = y)) := by show _ = _; unfold chansB; rw [hx, hy]; rfl
      go_enter Tryz.func151, Tryz.ntmps151
      go_wp2_with (go_at_call 142; refine (unhide HA _ _).mono ?_; rintro e w' ⟨rfl, rfl⟩)
      go_ret
      exact ⟨ret_ev (by rw [H.out]; rfl), rfl⟩
theorem right_deposit (m : Int) (w : World) : Calls Tryz.prog 136 #[.agg #[.int .i64 m]] w fun e w' => e = .returned (.bool (fieldB true m 1 1125899906842624)) ∧ Keeps w w' := by
  cases h0 : fieldB true m 1 1125899906842624
  all_goals (
    go_enter Tryz.func136, Tryz.ntmps136
    go_wp2_with (first | (go_at_call 138; refine (aboveZero_k _ _).mono ?_; rintro e w' ⟨rfl, rfl⟩))
    go_ret
    exact ⟨ret_ev (by simp), Keeps.alloc (Keeps.refl w) _⟩)
theorem right_open (c m f : Int) (w : World) : Calls Tryz.prog 140 #[.agg #[.int .i64 c, .int .i64 m, .int .i64 f]] w fun e w' => e = .returned (.bool (fieldB true c 1 99 && fieldB true m 1 1125899906842624 && fieldB true f 0 1125899906842624)) ∧ Keeps w w' := by
  cases h0 : fieldB true c 1 99
  rotate_left
  cases h1 : fieldB true m 1 1125899906842624
  rotate_left
  cases h2 : fieldB true f 0 1125899906842624
  all_goals (
    go_enter Tryz.func140, Tryz.ntmps140
    go_wp2_with (first | (go_at_call 139; refine (AmtOk_k _ _).mono ?_; rintro e w' ⟨rfl, rfl⟩) | (go_at_call 138; refine (aboveZero_k _ _).mono ?_; rintro e w' ⟨rfl, rfl⟩) | (go_at_call 142; refine (chanOk_k _ _).mono ?_; rintro e w' ⟨rfl, rfl⟩))
    go_ret
    exact ⟨ret_ev (by simp), Keeps.alloc (Keeps.refl w) _⟩)
theorem right_close (c f : Int) (w : World) : Calls Tryz.prog 143 #[.agg #[.int .i64 c, .int .i64 f]] w fun e w' => e = .returned (.bool (fieldB true c 1 99 && fieldB true f 0 1125899906842624)) ∧ Keeps w w' := by
  cases h0 : fieldB true c 1 99
  rotate_left
  cases h1 : fieldB true f 0 1125899906842624
  all_goals (
    go_enter Tryz.func143, Tryz.ntmps143
    go_wp2_with (first | (go_at_call 139; refine (AmtOk_k _ _).mono ?_; rintro e w' ⟨rfl, rfl⟩) | (go_at_call 142; refine (chanOk_k _ _).mono ?_; rintro e w' ⟨rfl, rfl⟩))
    go_ret
    exact ⟨ret_ev (by simp), Keeps.alloc (Keeps.refl w) _⟩)
theorem right_price (c m f : Int) (w : World) : Calls Tryz.prog 145 #[.agg #[.int .i64 c, .int .i64 m, .int .i64 f]] w fun e w' => e = .returned (.bool (fieldB true c 1 99 && fieldB true m 0 1125899906842624 && fieldB true f 0 1000000)) ∧ Keeps w w' := by
  cases h0 : fieldB true c 1 99
  rotate_left
  cases h1 : fieldB true m 0 1125899906842624
  rotate_left
  cases h2 : fieldB true f 0 1000000
  all_goals (
    go_enter Tryz.func145, Tryz.ntmps145
    go_wp2_with (first | (go_at_call 139; refine (AmtOk_k _ _).mono ?_; rintro e w' ⟨rfl, rfl⟩) | (go_at_call 142; refine (chanOk_k _ _).mono ?_; rintro e w' ⟨rfl, rfl⟩) | (go_at_call 147; refine (ppmOk_k _ _).mono ?_; rintro e w' ⟨rfl, rfl⟩))
    go_ret
    exact ⟨ret_ev (by simp), Keeps.alloc (Keeps.refl w) _⟩)
theorem right_admit (y c t m : Int) (b : Bool) (w : World) : Calls Tryz.prog 148 #[.agg #[.int .i64 y, .int .i64 c, .int .i64 t, .int .i64 m, .bool b]] w fun e w' => e = .returned (.bool (fieldB true y 1 1000000 && chansB c t && fieldB true m 1 1125899906842624)) ∧ Keeps w w' := by
  cases h0 : fieldB true y 1 1000000
  rotate_left
  cases h1 : chansB c t
  rotate_left
  cases h2 : fieldB true m 1 1125899906842624
  all_goals (
    go_enter Tryz.func148, Tryz.ntmps148
    go_wp2_with (first | (go_at_call 138; refine (aboveZero_k _ _).mono ?_; rintro e w' ⟨rfl, rfl⟩) | (go_at_call 151; refine (chansOk_k _ _ _).mono ?_; rintro e w' ⟨rfl, rfl⟩) | (go_at_call 150; refine (keyOk_k _ _).mono ?_; rintro e w' ⟨rfl, rfl⟩))
    go_ret
    exact ⟨ret_ev (by simp), Keeps.alloc (Keeps.refl w) _⟩)
theorem right_fulfill (y : Int) (w : World) : Calls Tryz.prog 152 #[.agg #[.int .i64 y]] w fun e w' => e = .returned (.bool (fieldB true y 1 1000000)) ∧ Keeps w w' := by
  cases h0 : fieldB true y 1 1000000
  all_goals (
    go_enter Tryz.func152, Tryz.ntmps152
    go_wp2_with (first | (go_at_call 150; refine (keyOk_k _ _).mono ?_; rintro e w' ⟨rfl, rfl⟩))
    go_ret
    exact ⟨ret_ev (by simp), Keeps.alloc (Keeps.refl w) _⟩)
theorem right_fail (y : Int) (w : World) : Calls Tryz.prog 154 #[.agg #[.int .i64 y]] w fun e w' => e = .returned (.bool (fieldB true y 1 1000000)) ∧ Keeps w w' := by
  cases h0 : fieldB true y 1 1000000
  all_goals (
    go_enter Tryz.func154, Tryz.ntmps154
    go_wp2_with (first | (go_at_call 150; refine (keyOk_k _ _).mono ?_; rintro e w' ⟨rfl, rfl⟩))
    go_ret
    exact ⟨ret_ev (by simp), Keeps.alloc (Keeps.refl w) _⟩)
theorem right_tick (w : World) : Calls Tryz.prog 156 #[.agg #[]] w fun e w' => e = .returned (.bool (true)) ∧ Keeps w w' := by
  go_enter Tryz.func156, Tryz.ntmps156
  go_wp2
  go_ret
  exact ⟨rfl, Keeps.alloc (Keeps.refl w) _⟩
theorem right_launch (y c t m f : Int) (w : World) : Calls Tryz.prog 158 #[.agg #[.int .i64 y, .int .i64 c, .int .i64 t, .int .i64 m, .int .i64 f]] w fun e w' => e = .returned (.bool (fieldB true y 1 1000000 && chansB c t && fieldB true m 1 1125899906842624 && fieldB true f 0 1125899906842624)) ∧ Keeps w w' := by
  cases h0 : fieldB true y 1 1000000
  rotate_left
  cases h1 : chansB c t
  rotate_left
  cases h2 : fieldB true m 1 1125899906842624
  rotate_left
  cases h3 : fieldB true f 0 1125899906842624
  all_goals (
    go_enter Tryz.func158, Tryz.ntmps158
    go_wp2_with (first | (go_at_call 139; refine (AmtOk_k _ _).mono ?_; rintro e w' ⟨rfl, rfl⟩) | (go_at_call 138; refine (aboveZero_k _ _).mono ?_; rintro e w' ⟨rfl, rfl⟩) | (go_at_call 151; refine (chansOk_k _ _ _).mono ?_; rintro e w' ⟨rfl, rfl⟩) | (go_at_call 150; refine (keyOk_k _ _).mono ?_; rintro e w' ⟨rfl, rfl⟩))
    go_ret
    exact ⟨ret_ev (by simp), Keeps.alloc (Keeps.refl w) _⟩)
theorem right_arrive (y : Int) (w : World) : Calls Tryz.prog 160 #[.agg #[.int .i64 y]] w fun e w' => e = .returned (.bool (fieldB true y 1 1000000)) ∧ Keeps w w' := by
  cases h0 : fieldB true y 1 1000000
  all_goals (
    go_enter Tryz.func160, Tryz.ntmps160
    go_wp2_with (first | (go_at_call 150; refine (keyOk_k _ _).mono ?_; rintro e w' ⟨rfl, rfl⟩))
    go_ret
    exact ⟨ret_ev (by simp), Keeps.alloc (Keeps.refl w) _⟩)
theorem right_lost (y : Int) (w : World) : Calls Tryz.prog 162 #[.agg #[.int .i64 y]] w fun e w' => e = .returned (.bool (fieldB true y 1 1000000)) ∧ Keeps w w' := by
  cases h0 : fieldB true y 1 1000000
  all_goals (
    go_enter Tryz.func162, Tryz.ntmps162
    go_wp2_with (first | (go_at_call 150; refine (keyOk_k _ _).mono ?_; rintro e w' ⟨rfl, rfl⟩))
    go_ret
    exact ⟨ret_ev (by simp), Keeps.alloc (Keeps.refl w) _⟩)
theorem right_unknown (w : World) : Calls Tryz.prog 164 #[.agg #[]] w fun e w' => e = .returned (.bool false) ∧ Keeps w w' := by
  go_enter Tryz.func164, Tryz.ntmps164
  go_wp2
  go_ret
  exact ⟨rfl, Keeps.alloc (Keeps.refl w) _⟩
theorem kindOf_deposit (y c t m f : Int) (b : Bool) (w : World) : Calls Tryz.prog 102 #[evV 1 y c t m f b] w fun e w' => e = .returned (.iface 148 (.agg #[.int .i64 m])) ∧ Keeps w w' := by
  go_enter Tryz.func102, Tryz.ntmps102
  go_wp2
  go_ret
  exact ⟨rfl, Keeps.alloc (Keeps.refl w) _⟩
theorem kindOf_open (y c t m f : Int) (b : Bool) (w : World) : Calls Tryz.prog 102 #[evV 2 y c t m f b] w fun e w' => e = .returned (.iface 150 (.agg #[.int .i64 c, .int .i64 m, .int .i64 f])) ∧ Keeps w w' := by
  go_enter Tryz.func102, Tryz.ntmps102
  go_wp2
  go_ret
  exact ⟨rfl, Keeps.alloc (Keeps.refl w) _⟩
theorem kindOf_close (y c t m f : Int) (b : Bool) (w : World) : Calls Tryz.prog 102 #[evV 3 y c t m f b] w fun e w' => e = .returned (.iface 152 (.agg #[.int .i64 c, .int .i64 f])) ∧ Keeps w w' := by
  go_enter Tryz.func102, Tryz.ntmps102
  go_wp2
  go_ret
  exact ⟨rfl, Keeps.alloc (Keeps.refl w) _⟩
theorem kindOf_price (y c t m f : Int) (b : Bool) (w : World) : Calls Tryz.prog 102 #[evV 4 y c t m f b] w fun e w' => e = .returned (.iface 154 (.agg #[.int .i64 c, .int .i64 m, .int .i64 f])) ∧ Keeps w w' := by
  go_enter Tryz.func102, Tryz.ntmps102
  go_wp2
  go_ret
  exact ⟨rfl, Keeps.alloc (Keeps.refl w) _⟩
theorem kindOf_admit (y c t m f : Int) (b : Bool) (w : World) : Calls Tryz.prog 102 #[evV 5 y c t m f b] w fun e w' => e = .returned (.iface 156 (.agg #[.int .i64 y, .int .i64 c, .int .i64 t, .int .i64 m, .bool b])) ∧ Keeps w w' := by
  go_enter Tryz.func102, Tryz.ntmps102
  go_wp2
  go_ret
  exact ⟨rfl, Keeps.alloc (Keeps.refl w) _⟩
theorem kindOf_fulfill (y c t m f : Int) (b : Bool) (w : World) : Calls Tryz.prog 102 #[evV 6 y c t m f b] w fun e w' => e = .returned (.iface 158 (.agg #[.int .i64 y])) ∧ Keeps w w' := by
  go_enter Tryz.func102, Tryz.ntmps102
  go_wp2
  go_ret
  exact ⟨rfl, Keeps.alloc (Keeps.refl w) _⟩
theorem kindOf_fail (y c t m f : Int) (b : Bool) (w : World) : Calls Tryz.prog 102 #[evV 7 y c t m f b] w fun e w' => e = .returned (.iface 159 (.agg #[.int .i64 y])) ∧ Keeps w w' := by
  go_enter Tryz.func102, Tryz.ntmps102
  go_wp2
  go_ret
  exact ⟨rfl, Keeps.alloc (Keeps.refl w) _⟩
theorem kindOf_tick (y c t m f : Int) (b : Bool) (w : World) : Calls Tryz.prog 102 #[evV 8 y c t m f b] w fun e w' => e = .returned (.iface 161 (.agg #[])) ∧ Keeps w w' := by
  go_enter Tryz.func102, Tryz.ntmps102
  go_wp2
  go_ret
  exact ⟨rfl, Keeps.alloc (Keeps.refl w) _⟩
theorem kindOf_launch (y c t m f : Int) (b : Bool) (w : World) : Calls Tryz.prog 102 #[evV 9 y c t m f b] w fun e w' => e = .returned (.iface 163 (.agg #[.int .i64 y, .int .i64 c, .int .i64 t, .int .i64 m, .int .i64 f])) ∧ Keeps w w' := by
  go_enter Tryz.func102, Tryz.ntmps102
  go_wp2
  go_ret
  exact ⟨rfl, Keeps.alloc (Keeps.refl w) _⟩
theorem kindOf_arrive (y c t m f : Int) (b : Bool) (w : World) : Calls Tryz.prog 102 #[evV 10 y c t m f b] w fun e w' => e = .returned (.iface 164 (.agg #[.int .i64 y])) ∧ Keeps w w' := by
  go_enter Tryz.func102, Tryz.ntmps102
  go_wp2
  go_ret
  exact ⟨rfl, Keeps.alloc (Keeps.refl w) _⟩
theorem kindOf_lost (y c t m f : Int) (b : Bool) (w : World) : Calls Tryz.prog 102 #[evV 11 y c t m f b] w fun e w' => e = .returned (.iface 165 (.agg #[.int .i64 y])) ∧ Keeps w w' := by
  go_enter Tryz.func102, Tryz.ntmps102
  go_wp2
  go_ret
  exact ⟨rfl, Keeps.alloc (Keeps.refl w) _⟩
theorem kindOf_unknown (k y c t m f : Int) (b : Bool) (w : World) (h : k < 1 ∨ 11 < k) : Calls Tryz.prog 102 #[evV k y c t m f b] w fun e w' => e = .returned (.iface 166 (.agg #[])) ∧ Keeps w w' := by
  have n1 : (k == 1) = false := beq_eq_false_iff_ne.2 (by omega)
  have n2 : (k == 2) = false := beq_eq_false_iff_ne.2 (by omega)
  have n3 : (k == 3) = false := beq_eq_false_iff_ne.2 (by omega)
  have n4 : (k == 4) = false := beq_eq_false_iff_ne.2 (by omega)
  have n5 : (k == 5) = false := beq_eq_false_iff_ne.2 (by omega)
  have n6 : (k == 6) = false := beq_eq_false_iff_ne.2 (by omega)
  have n7 : (k == 7) = false := beq_eq_false_iff_ne.2 (by omega)
  have n8 : (k == 8) = false := beq_eq_false_iff_ne.2 (by omega)
  have n9 : (k == 9) = false := beq_eq_false_iff_ne.2 (by omega)
  have n10 : (k == 10) = false := beq_eq_false_iff_ne.2 (by omega)
  have n11 : (k == 11) = false := beq_eq_false_iff_ne.2 (by omega)
  clear h
  go_enter Tryz.func102, Tryz.ntmps102
  go_wp2
  go_ret
  exact ⟨rfl, Keeps.alloc (Keeps.refl w) _⟩
end Go.Proofs.YtkdnddckogbgaaaGreatDoor
