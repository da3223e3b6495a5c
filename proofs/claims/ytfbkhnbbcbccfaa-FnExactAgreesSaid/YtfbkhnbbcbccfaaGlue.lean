/- Contracts of what the laws do with accounts and lines: toAcc, toLine, toLineS, eqAcc, eqLine, eqLineS, szLineS. -/
import Derived.Test.YtfbkhnbbcbccfaaLines
import Derived.Laws.MakeOwn
import Derived.Deep.OwnRows
namespace Go.Proofs.Ytfbkhnbbcbccfaa
open Go.RowKit
set_option linter.unusedVariables false

abbrev lineV (x : Ln) : Value := .agg #[.int .i64 x.k, .int .i64 x.c, .int .i64 x.a]

theorem toAcc_k (k c : Int) (w : World) : Calls Try.prog 62 #[accV k c] w fun e w' => e = .returned (accV k c) ∧ Keeps w w' := by
  go_enter Try.func62, Try.ntmps62
  go_wp2_with fail
  refine bodyPost_ret (v := accV k c) (by simp [results, Try.results62, go_sem]) rfl ⟨rfl, ?_⟩
  exact Keeps.alloc (Keeps.alloc (Keeps.alloc (Keeps.refl _) _) _) _

theorem eqAcc_k (k c k' c' : Int) (w : World) : Calls Try.prog 72 #[accV k c, accV k' c'] w fun e w' => e = .returned (.bool (decide (k = k') && decide (c = c'))) ∧ Keeps w w' := by
  have hk : Keeps w ((w.alloc (.cells #[.int .i64 k, .int .i64 c] 54)).alloc (.cells #[.int .i64 k', .int .i64 c'] 54)) := Keeps.alloc (Keeps.alloc (Keeps.refl _) _) _
  have HK := hide hk
  clear hk
  by_cases h1 : k = k'
  · subst h1
    by_cases h2 : c = c'
    · subst h2
      go_enter Try.func72, Try.ntmps72
      go_wp2_with fail
      go_ret
      exact ⟨ret_bool (by simp), HK.out⟩
    · have h2' : (c != c') = true := by rw [bne_iff_ne]; exact h2
      have H := hide h2
      clear h2
      go_enter Try.func72, Try.ntmps72
      go_wp2_with fail
      go_ret
      exact ⟨ret_bool (by simp [H.out]), HK.out⟩
  · have h1' : (k != k') = true := by rw [bne_iff_ne]; exact h1
    have H := hide h1
    clear h1
    go_enter Try.func72, Try.ntmps72
    go_wp2_with fail
    go_ret
    exact ⟨ret_bool (by simp [H.out]), HK.out⟩

theorem Keeps.row {w w' : World} (hk : Keeps w w') {b : Nat} {t : TypeId} {n : Nat} {f : Nat → Value} (h : w.rowIs b t n f) : w'.rowIs b t n f := h.of_block (Below.block hk b h.lt)
theorem zero3 : ∀ i, i < (#[.int .i64 0, .int .i64 0, .int .i64 0] : Array Value).size → (#[.int .i64 0, .int .i64 0, .int .i64 0] : Array Value)[i]? = some ((fun _ : Nat => Value.int .i64 0) i)
  | 0, _ => rfl
  | 1, _ => rfl
  | 2, _ => rfl
  | n + 3, h => absurd h (by simp)
def lnEq (x y : Ln) : Bool := decide (x.k = y.k) && decide (x.c = y.c) && decide (x.a = y.a)

set_option maxHeartbeats 1000000 in
theorem toLine_k (x : Ln) (w : World) : Calls Try.prog 43 #[lineV x] w fun e w' => e = .returned (lineV x) ∧ Keeps w w' := by
  obtain ⟨k, c, a⟩ := x
  have HA := hide (fun w1 => toAcc_k k c w1)
  go_enter Try.func43, Try.ntmps43
  go_wp2_with fail
  refine (unhide HA _).mono ?_
  rintro e w1 ⟨rfl, hk⟩
  have r1 := Keeps.row hk (((World.rowIs_alloc (w.alloc (.cells #[.int .i64 k, .int .i64 c, .int .i64 a] 90)) #[.int .i64 0, .int .i64 0, .int .i64 0] 76 (fun _ => .int .i64 0) zero3).alloc (.cells #[.int .i64 0, .int .i64 0, .int .i64 0] 76)))
  have HR := hide r1
  clear r1
  have ho := hk.old
  have hf := hk.oldF
  have hz := hk.size
  have HK := hide (Keeps.trans (Keeps.alloc (Keeps.alloc (Keeps.alloc (Keeps.refl w) _) _) _) hk)
  clear hk
  go_wp2_with fail
  have r2 := HR.out
  simp only [World.size_alloc] at r2
  have r3 := (((((r2.setOther (a := ⟨w.heap.size + 1 + 1, 0, none⟩) (by simp) (.int .i64 k)).setOther (a := ⟨w.heap.size + 1 + 1, 1, none⟩) (by simp) (.int .i64 c)).setOther (a := ⟨w.heap.size + 1 + 1, 2, none⟩) (by simp) (.int .i64 a)).set 0 (.int .i64 k)).set 1 (.int .i64 c)).set 2 (.int .i64 a)
  have c0 := r3.cell (i := 0) (by decide)
  have c1 := r3.cell (i := 1) (by decide)
  have c2 := r3.cell (i := 2) (by decide)
  simp at c0 c1 c2
  clear r2 r3 HR hz ho hf HA
  refine bodyPost_ret (v := lineV ⟨k, c, a⟩) ?_ rfl ⟨rfl, ?_⟩
  · clear HK
    revert c0 c1 c2
    generalize World.setCell _ _ _ = W
    intro c0 c1 c2
    simp [results, Try.results43, go_sem, c0, c1, c2]
  · have HKK := HK.out
    clear HK
    refine Keeps.setCell ?_ (Nat.le_add_right _ _) _
    refine Keeps.setCell ?_ (Nat.le_add_right _ _) _
    refine Keeps.setCell ?_ (Nat.le_add_right _ _) _
    refine Keeps.setCell ?_ (by show _ ≤ _ + 1 + 1; omega) _
    refine Keeps.setCell ?_ (by show _ ≤ _ + 1 + 1; omega) _
    refine Keeps.setCell ?_ (by show _ ≤ _ + 1 + 1; omega) _
    exact HKK

theorem eqLine_k (x y : Ln) (w : World) : Calls Try.prog 56 #[lineV x, lineV y] w fun e w' => e = .returned (.bool (lnEq x y)) ∧ Keeps w w' := by
  obtain ⟨k, c, a⟩ := x
  obtain ⟨k', c', a'⟩ := y
  have HA := hide (fun w1 => eqAcc_k k c k' c' w1)
  cases he : decide (k = k') && decide (c = c')
  · rw [he] at HA
    have H : Hid (lnEq ⟨k, c, a⟩ ⟨k', c', a'⟩ = false) := by show _ = _; simp only [lnEq, he]; rfl
    clear he
    go_enter Try.func56, Try.ntmps56
    go_wp2_with fail
    refine (unhide HA _).mono ?_
    rintro e w1 ⟨rfl, hk⟩
    go_wp2_with fail
    go_ret
    exact ⟨ret_bool H.out.symm, Keeps.trans (Keeps.alloc (Keeps.alloc (Keeps.refl w) _) _) hk⟩
  · rw [he] at HA
    have H : Hid (lnEq ⟨k, c, a⟩ ⟨k', c', a'⟩ = decide (a = a')) := by show _ = _; simp only [lnEq, he]; rfl
    clear he
    by_cases h : a = a'
    · subst h
      go_enter Try.func56, Try.ntmps56
      go_wp2_with fail
      refine (unhide HA _).mono ?_
      rintro e w1 ⟨rfl, hk⟩
      have ho := hk.old
      go_wp2_with fail
      go_ret
      exact ⟨ret_bool (by rw [H.out]; simp), Keeps.trans (Keeps.alloc (Keeps.alloc (Keeps.refl w) _) _) hk⟩
    · have h' : (a != a') = true := by rw [bne_iff_ne]; exact h
      have HH := hide h
      clear h
      go_enter Try.func56, Try.ntmps56
      go_wp2_with fail
      refine (unhide HA _).mono ?_
      rintro e w1 ⟨rfl, hk⟩
      have ho := hk.old
      go_wp2_with fail
      go_ret
      exact ⟨ret_bool (by rw [H.out]; simp [HH.out]), Keeps.trans (Keeps.alloc (Keeps.alloc (Keeps.refl w) _) _) hk⟩

/-- Are two lists of lines the same? -/
def lsEq (L M : List Ln) : Bool := decide (L.length = M.length) && (List.range L.length).all fun i => match L[i]?, M[i]? with | some x, some y => lnEq x y | _, _ => false

theorem lsEq_bad {L M : List Ln} {k : Nat} (h : k < L.length) (hb : (match L[k]?, M[k]? with | some x, some y => lnEq x y | _, _ => false) = false) : lsEq L M = false := by
  unfold lsEq
  have : ((List.range L.length).all fun i => match L[i]?, M[i]? with | some x, some y => lnEq x y | _, _ => false) = false := by
    rw [List.all_eq_false]
    exact ⟨k, List.mem_range.2 h, by rw [hb]; simp⟩
  rw [this, Bool.and_false]
theorem lsEq_good {L M : List Ln} (hn : L.length = M.length) (h : ∀ i, i < L.length → (match L[i]?, M[i]? with | some x, some y => lnEq x y | _, _ => false) = true) : lsEq L M = true := by
  unfold lsEq
  have : ((List.range L.length).all fun i => match L[i]?, M[i]? with | some x, some y => lnEq x y | _, _ => false) = true := by
    rw [List.all_eq_true]
    exact fun i hi => h i (List.mem_range.1 hi)
  rw [this, Bool.and_true]
  exact decide_eq_true hn

set_option maxHeartbeats 2000000 in
theorem eqLineS_k (a a' : Option Addr) (cap cap' : Nat) (L M : List Ln) (w : World) (hc : Cells w a (flat L)) (hc' : Cells w a' (flat M)) (hl : L.length ≤ 1048576) (hl' : M.length ≤ 1048576) :
    Calls Try.prog 33 #[.slice a L.length cap, .slice a' M.length cap'] w fun e w' => e = .returned (.bool (lsEq L M)) ∧ Keeps w w' := by
  have HC := hide hc
  have HC' := hide hc'
  clear hc hc'
  by_cases hn : L.length = M.length
  · have hn' : ((L.length : Int) != (M.length : Int)) = false := by rw [hn]; simp
    have HN := hide hn
    clear hn
    go_enter Try.func33, Try.ntmps33
    go_wp2_with fail
    go_loopw [5] (fun y w1 => ∃ k : Nat, k ≤ L.length ∧ Hid (∀ i, i < k → (match L[i]?, M[i]? with | some x, some y => lnEq x y | _, _ => false) = true) ∧ y = .int .i64 (k : Int) ∧ Keeps w w1) (fun y _ => L.length - (intOf y).toNat)
    case atStart => exact ⟨0, by omega, fun i hi => absurd hi (Nat.not_lt_zero i), rfl, Keeps.refl _⟩
    case round =>
      obtain ⟨k, hk, HO, rfl, hkw⟩ := hrel
      by_cases hlt : k < L.length
      · have hlt' : k < M.length := by have := HN.out; omega
        obtain ⟨b, off, ea, c0, c1, c2⟩ := cells_at (HC.out.kept hkw) k hlt
        obtain ⟨b', off', ea', d0, d1, d2⟩ := cells_at (HC'.out.kept hkw) k hlt'
        subst ea ea'
        have HE : Hid ((match L[k]?, M[k]? with | some x, some y => lnEq x y | _, _ => false) = lnEq L[k] M[k]) := by
          show _ = _
          rw [List.getElem?_eq_getElem hlt, List.getElem?_eq_getElem hlt']
        have HQ := hide (fun w1 => eqLine_k L[k] M[k] w1)
        have g0 := gr_cell c0
        have g1 := gr_cell c1
        have g2 := gr_cell c2
        have g3 := gr_cell d0
        have g4 := gr_cell d1
        have g5 := gr_cell d2
        generalize L[k] = x at *
        generalize M[k] = y at *
        cases hq : lnEq x y
        · rw [hq] at HQ HE
          clear hq
          go_wp2_with fail
          refine region_gr (by kernel_rfl) (by kernel_rfl) ?_
          repeat (go_big_quiet_step (first | (go_at_call 56; exact gr_call (unhide HQ _))))
          refine wpQuiet_nil ?_
          intro w' hw'
          have hk' := hkw.trans (Keeps.of_gr hw')
          clear hw'
          go_wp2_with fail
          go_ret
          exact ⟨ret_bool (lsEq_bad hlt HE.out).symm, hk'⟩
        · rw [hq] at HQ HE
          clear hq
          go_wp2_with fail
          refine region_gr (by kernel_rfl) (by kernel_rfl) ?_
          repeat (go_big_quiet_step (first | (go_at_call 56; exact gr_call (unhide HQ _))))
          refine wpQuiet_nil ?_
          intro w' hw'
          have hk' := hkw.trans (Keeps.of_gr hw')
          clear hw'
          go_wp2_with fail
          go_roundw
          case rel => exact ⟨k + 1, by omega, fun i hi => by
                        by_cases h : i = k
                        · subst h; exact HE.out
                        · exact HO.out i (by omega), by go_num, hk'⟩
          case measure => simp [intOf]; omega
      · go_wp2_with fail
        go_ret
        exact ⟨ret_bool (lsEq_good HN.out (fun i hi => HO.out i (by omega))).symm, hkw⟩
  · have hn' : ((L.length : Int) != (M.length : Int)) = true := by rw [bne_iff_ne]; omega
    have H : Hid (lsEq L M = false) := by show _ = _; simp [lsEq, hn]
    clear hn
    go_enter Try.func33, Try.ntmps33
    go_wp2_with fail
    go_ret
    exact ⟨ret_bool H.out.symm, Keeps.refl _⟩

theorem szLineS_k (a : Option Addr) (len cap : Nat) (left : Int) (w : World) (h0 : 0 ≤ left) (h1 : left ≤ 1048576) (hl : len ≤ 9223372036854775807) :
    Calls Try.prog 15 #[.slice a len cap, .int .i64 left] w fun e w' => e = .returned (.int .i64 (if (len : Int) ≤ left then left - len else -1)) ∧ w' = w := by
  by_cases h : (len : Int) ≤ left
  · have H : Hid ((if (len : Int) ≤ left then left - len else -1) = left - len) := if_pos h
    go_enter Try.func15, Try.ntmps15
    go_wp2_with fail
    go_ret
    exact ⟨rfl, rfl⟩
  · have H : Hid ((if (len : Int) ≤ left then left - len else -1) = -1) := if_neg h
    go_enter Try.func15, Try.ntmps15
    go_wp2_with fail
    go_ret
    exact ⟨rfl, rfl⟩
end Go.Proofs.Ytfbkhnbbcbccfaa
