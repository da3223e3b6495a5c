/- The laws' own words over ledgers and postings, with lists of one's own. -/
import Derived.Test.YtecjjkgdgmjgmaaMarks
import Derived.Test.YtecjjkgdgmjgmaaByt
import Derived.Test.YtecjjkgdgmjgmaaVars
import Derived.Test.YtecjjkgdgmjgmaaPSp
namespace Go.Proofs.Ytecjjkgdgmjgmaa
open Go.RowKit Go.Deep
set_option linter.unusedVariables false
theorem rowF_all (L : List Ln) (j : Nat) (hj : j < (flat L).length) : rowF L L.length j = (flat L)[j] := by
  unfold rowF
  rw [if_pos (by rw [flat_length] at hj; exact hj), List.getD_eq_getElem?_getD, List.getElem?_eq_getElem hj]
  rfl
theorem toLineS_o (a : Option Addr) (cap : Nat) (L : List Ln) (w : World) (hc : Cells w a (flat L)) (hl : L.length ≤ 1048576) :
    Calls Try.prog 58 #[.slice a L.length cap] w fun e w' => ∃ b, e = .returned (.slice (some ⟨b, 0, none⟩) L.length L.length) ∧ Born w w' [(some ⟨b, 0, none⟩, flat L)] ∧ Keeps w w' := by
  have HC := hide hc
  clear hc
  have hmk := make_lines L.length hl
  have HR := hide ((made_row w (L.length * 3) 35).congr (g := rowF L 0) (fun i _ => by simp [rowF]))
  have hkA : Keeps w (w.alloc (.cells (madeCells (Value.agg #[.int .i64 0, .int .i64 0, .int .i64 0]).cells (L.length * 3)) 35)) := Keeps.alloc (Keeps.refl _) _
  have HKA := hide hkA
  clear hkA
  go_enter Try.func58, Try.ntmps58
  go_wp2_with fail
  clear hmk
  go_loopw [4] (fun y w1 => ∃ k : Nat, k ≤ L.length ∧ y = .int .i64 (k : Int) ∧ w1.rowIs w.heap.size 35 (L.length * 3) (rowF L k) ∧ Keeps w w1) (fun y _ => L.length - (intOf y).toNat)
  case atStart => exact ⟨0, by omega, rfl, HR.out, HKA.out⟩
  case round =>
    obtain ⟨k, hk, rfl, hr, hkw⟩ := hrel
    clear HR HKA
    by_cases hlt : k < L.length
    · obtain ⟨b, off, ea, c0, c1, c2⟩ := cells_at (HC.out.kept hkw) k hlt
      subst ea
      have HQ := hide (fun w1 => toLine_k L[k] w1)
      have HS := hide (rowF_step L k hlt)
      have HRR := hide hr
      have HKW := hide hkw
      clear hr hkw
      generalize L[k] = x at *
      go_wp2_with fail
      refine (unhide HQ _).mono ?_
      rintro e w2 ⟨rfl, hk2⟩
      have r2 := hk2.row HRR.out
      have d0 := r2.cell (i := k * 3) (by omega)
      have d1 := r2.cell (i := k * 3 + 1) (by omega)
      have d2 := r2.cell (i := k * 3 + 2) (by omega)
      have f0 := r2.frozen (k * 3)
      have f1 := r2.frozen (k * 3 + 1)
      have f2 := r2.frozen (k * 3 + 2)
      have HR2 := hide r2
      have HK2 := hide (HKW.out.trans hk2)
      clear r2 hk2
      go_wp2_with fail
      go_roundw
      case rel => exact ⟨k + 1, by omega, by go_num, (((HR2.out.set (k * 3) (.int .i64 x.k)).set (k * 3 + 1) (.int .i64 x.c)).set (k * 3 + 2) (.int .i64 x.a)).congr (fun j _ => HS.out j), Keeps.setCell (Keeps.setCell (Keeps.setCell HK2.out (Nat.le_refl _) _) (Nat.le_refl _) _) (Nat.le_refl _) _⟩
      case measure => simp [intOf]; omega
    · have e : k = L.length := by omega
      subst e
      go_wp2_with fail
      go_ret
      exact ⟨_, rfl, Born.of_row hr (flat L) (by rw [flat_length]; omega) (fun j hj => rowF_all L j hj) (Nat.le_refl _), hkw⟩
theorem toPosting_o (id : Int) (a : Option Addr) (cap : Nat) (L : List Ln) (w : World) (hc : Cells w a (flat L)) (hl : L.length ≤ 1048576) :
    Calls Try.prog 23 #[.agg #[.int .i64 id, .slice a L.length cap]] w fun e w' => ∃ b, e = .returned (.agg #[.int .i64 id, .slice (some ⟨b, 0, none⟩) L.length L.length]) ∧ Born w w' [(some ⟨b, 0, none⟩, flat L)] ∧ Keeps w w' := by
  have HC := hide hc
  clear hc
  have HS := hide (fun w1 (hk : Keeps w w1) => toLineS_o a cap L w1 (HC.out.kept hk) hl)
  go_enter Try.func23, Try.ntmps23
  go_wp2_with fail
  have hk0 : Keeps w (((w.alloc (.cells #[.int .i64 id, .slice a L.length cap] 55)).alloc (.cells #[.int .i64 0, .slice none 0 0] 27)).alloc (.cells #[.int .i64 id, .slice none 0 0] 27)) := Keeps.alloc (Keeps.alloc (Keeps.alloc (Keeps.refl w) _) _) _
  refine (unhide HS _ hk0).mono ?_
  rintro e w1 ⟨b, rfl, hb1, hk⟩
  have hb : L ≠ [] → _ ≤ b := fun h0 => hb1.new b (by rw [fp_one, fpS_some (fun e => h0 (flat_nil.1 e))]; simp)
  have r1 := hk.row ((row2 (w.alloc (.cells #[.int .i64 id, .slice a L.length cap] 55)) (.int .i64 0) (.slice none 0 0) 27).alloc (.cells #[.int .i64 id, .slice none 0 0] 27))
  have r2 := hk.row (row2 ((w.alloc (.cells #[.int .i64 id, .slice a L.length cap] 55)).alloc (.cells #[.int .i64 0, .slice none 0 0] 27)) (.int .i64 id) (.slice none 0 0) 27)
  simp only [World.size_alloc] at r1 r2 hb
  have d0 := r1.cell (i := 0) (by decide)
  have d1 := r1.cell (i := 1) (by decide)
  have d2 := r2.cell (i := 0) (by decide)
  have d3 := r2.cell (i := 1) (by decide)
  have f0 := r1.frozen 0
  have f1 := r1.frozen 1
  have f2 := r2.frozen 0
  have f3 := r2.frozen 1
  simp only [if_true, Nat.one_ne_zero, if_false] at d0 d1 d2 d3
  have HR := hide r1
  have HCC := hide (hb1.old hk0)
  have HK := hide (hk0.trans hk)
  have HB := hide hb
  clear r1 r2 hb1 hk hk0 hb HS HC
  go_wp2_with fail
  have r3 := ((HR.out.setOther (a := ⟨w.heap.size + 1 + 1, 1, none⟩) (by simp) (.slice (some ⟨b, 0, none⟩) L.length L.length)).set 0 (.int .i64 id)).set 1 (.slice (some ⟨b, 0, none⟩) L.length L.length)
  have c0 := r3.cell (i := 0) (by decide)
  have c1 := r3.cell (i := 1) (by decide)
  simp at c0 c1
  have hbb := HB.out
  refine bodyPost_ret (v := .agg #[.int .i64 id, .slice (some ⟨b, 0, none⟩) L.length L.length]) ?_ rfl ⟨b, rfl, ?_, ?_⟩
  · clear HK HCC r3 HR hbb HB d0 d1 d2 d3 f0 f1 f2 f3
    revert c0 c1
    generalize World.setCell _ _ _ = W
    intro c0 c1
    simp [results, Try.results23, go_sem, c0, c1]
  · have hne : ∀ c ∈ fp [((some ⟨b, 0, none⟩ : Option Addr), flat L)], c ∉ [w.heap.size + 1, w.heap.size + 1 + 1] := fun c hc hx => by
      by_cases h0 : L = []
      · subst h0; simp [fp, fpS, flat] at hc
      · rw [fp_one, fpS_some (fun e => h0 (flat_nil.1 e))] at hc
        have := hbb h0
        simp at hc hx
        omega
    exact ((HCC.out.turn (Turn.set (fs := [w.heap.size + 1, w.heap.size + 1 + 1]) (by simp) _) hne).turn (Turn.set (fs := [w.heap.size + 1, w.heap.size + 1 + 1]) (by simp) _) hne).turn (Turn.set (fs := [w.heap.size + 1, w.heap.size + 1 + 1]) (by simp) _) hne
  · exact Keeps.setCell (Keeps.setCell (Keeps.setCell HK.out (by simp; omega) _) (by simp) _) (by simp) _

theorem toLedger_o (id : Int) (a : Option Addr) (cap : Nat) (L : List Ln) (w : World) (hc : Cells w a (flat L)) (hl : L.length ≤ 1048576) :
    Calls Try.prog 22 #[.agg #[.int .i64 id, .slice a L.length cap]] w fun e w' => ∃ b, e = .returned (.agg #[.int .i64 id, .slice (some ⟨b, 0, none⟩) L.length L.length]) ∧ Born w w' [(some ⟨b, 0, none⟩, flat L)] ∧ Keeps w w' := by
  have HC := hide hc
  clear hc
  have HS := hide (fun w1 (hk : Keeps w w1) => toLineS_o a cap L w1 (HC.out.kept hk) hl)
  go_enter Try.func22, Try.ntmps22
  go_wp2_with fail
  have hk0 : Keeps w (((w.alloc (.cells #[.int .i64 id, .slice a L.length cap] 53)).alloc (.cells #[.int .i64 0, .slice none 0 0] 25)).alloc (.cells #[.int .i64 id, .slice none 0 0] 25)) := Keeps.alloc (Keeps.alloc (Keeps.alloc (Keeps.refl w) _) _) _
  refine (unhide HS _ hk0).mono ?_
  rintro e w1 ⟨b, rfl, hb1, hk⟩
  have hb : L ≠ [] → _ ≤ b := fun h0 => hb1.new b (by rw [fp_one, fpS_some (fun e => h0 (flat_nil.1 e))]; simp)
  have r1 := hk.row ((row2 (w.alloc (.cells #[.int .i64 id, .slice a L.length cap] 53)) (.int .i64 0) (.slice none 0 0) 25).alloc (.cells #[.int .i64 id, .slice none 0 0] 25))
  have r2 := hk.row (row2 ((w.alloc (.cells #[.int .i64 id, .slice a L.length cap] 53)).alloc (.cells #[.int .i64 0, .slice none 0 0] 25)) (.int .i64 id) (.slice none 0 0) 25)
  simp only [World.size_alloc] at r1 r2 hb
  have d0 := r1.cell (i := 0) (by decide)
  have d1 := r1.cell (i := 1) (by decide)
  have d2 := r2.cell (i := 0) (by decide)
  have d3 := r2.cell (i := 1) (by decide)
  have f0 := r1.frozen 0
  have f1 := r1.frozen 1
  have f2 := r2.frozen 0
  have f3 := r2.frozen 1
  simp only [if_true, Nat.one_ne_zero, if_false] at d0 d1 d2 d3
  have HR := hide r1
  have HCC := hide (hb1.old hk0)
  have HK := hide (hk0.trans hk)
  have HB := hide hb
  clear r1 r2 hb1 hk hk0 hb HS HC
  go_wp2_with fail
  have r3 := ((HR.out.setOther (a := ⟨w.heap.size + 1 + 1, 1, none⟩) (by simp) (.slice (some ⟨b, 0, none⟩) L.length L.length)).set 0 (.int .i64 id)).set 1 (.slice (some ⟨b, 0, none⟩) L.length L.length)
  have c0 := r3.cell (i := 0) (by decide)
  have c1 := r3.cell (i := 1) (by decide)
  simp at c0 c1
  have hbb := HB.out
  refine bodyPost_ret (v := .agg #[.int .i64 id, .slice (some ⟨b, 0, none⟩) L.length L.length]) ?_ rfl ⟨b, rfl, ?_, ?_⟩
  · clear HK HCC r3 HR hbb HB d0 d1 d2 d3 f0 f1 f2 f3
    revert c0 c1
    generalize World.setCell _ _ _ = W
    intro c0 c1
    simp [results, Try.results22, go_sem, c0, c1]
  · have hne : ∀ c ∈ fp [((some ⟨b, 0, none⟩ : Option Addr), flat L)], c ∉ [w.heap.size + 1, w.heap.size + 1 + 1] := fun c hc hx => by
      by_cases h0 : L = []
      · subst h0; simp [fp, fpS, flat] at hc
      · rw [fp_one, fpS_some (fun e => h0 (flat_nil.1 e))] at hc
        have := hbb h0
        simp at hc hx
        omega
    exact ((HCC.out.turn (Turn.set (fs := [w.heap.size + 1, w.heap.size + 1 + 1]) (by simp) _) hne).turn (Turn.set (fs := [w.heap.size + 1, w.heap.size + 1 + 1]) (by simp) _) hne).turn (Turn.set (fs := [w.heap.size + 1, w.heap.size + 1 + 1]) (by simp) _) hne
  · exact Keeps.setCell (Keeps.setCell (Keeps.setCell HK.out (by simp; omega) _) (by simp) _) (by simp) _

/-- Lines that bear the marks from n on. -/
def mkL (n : Int) : Nat → List Ln
  | 0 => []
  | m + 1 => ⟨n, n + 1, n + 2⟩ :: mkL (n + 3) m
theorem mkL_len : ∀ (m : Nat) (n : Int), (mkL n m).length = m
  | 0, _ => rfl
  | m + 1, n => by rw [mkL, List.length_cons, mkL_len m]
theorem mkL_at : ∀ (m : Nat) (n : Int) (j : Nat), j < 3 * m → (flat (mkL n m))[j]? = some (.int .i64 (n + j))
  | 0, _, j, h => absurd h (by omega)
  | m + 1, n, j, h => by
    have e : flat (mkL n (m + 1)) = .int .i64 n :: .int .i64 (n + 1) :: .int .i64 (n + 2) :: flat (mkL (n + 3) m) := by simp [mkL, flat, Ln.cells]
    rw [e]
    match j, h with
    | 0, _ => simp
    | 1, _ => simp
    | 2, _ => simp
    | j + 3, h =>
      simp only [List.getElem?_cons_succ]
      rw [mkL_at m (n + 3) j (by omega)]
      congr 2
      omega
theorem marked_cells {w : World} {a : Option Addr} {m : Nat} {n : Int} (h : Marked w a m n) : Cells w a (flat (mkL n m)) := by
  rcases h with rfl | ⟨g, off, rfl, h⟩
  · exact Or.inl rfl
  · refine Or.inr ⟨g, off, rfl, fun j hj => ?_⟩
    have hj' : j < 3 * m := by rw [flat_length, mkL_len] at hj; exact hj
    have e := mkL_at m n j hj'
    rw [List.getElem?_eq_getElem hj] at e
    rw [h j hj']
    exact e.symm
theorem cells_marked {w : World} {a : Option Addr} {m : Nat} {n : Int} (h : Cells w a (flat (mkL n m))) : Marked w a m n := by
  rcases h with h | ⟨g, off, rfl, h⟩
  · left
    have := flat_nil.1 h
    have e := mkL_len m n
    rw [this] at e
    exact e.symm
  · refine Or.inr ⟨g, off, rfl, fun j hj => ?_⟩
    have hj' : j < (flat (mkL n m)).length := by rw [flat_length, mkL_len]; exact hj
    have e := mkL_at m n j hj
    rw [List.getElem?_eq_getElem hj'] at e
    rw [h j hj']
    exact e
theorem markLineS_o (a : Option Addr) (cap : Nat) (L : List Ln) (n : Int) (w : World) (h : Own w [(a, flat L)]) (hl : L.length ≤ 1048576) (hn0 : 0 ≤ n) (hn1 : n ≤ 1000000000) :
    Calls Try.prog 60 #[.slice a L.length cap, .int .i64 n] w fun e w' => e = .returned (.int .i64 (n + 3 * L.length)) ∧ Own w' [(a, flat (mkL n L.length))] ∧ Turn (fp [(a, flat L)]) w w' := by
  by_cases h00 : L = []
  · subst h00
    have HO := hide h
    clear h
    go_enter Try.func60, Try.ntmps60
    go_wp2_with fail
    refine wp_loop_rounds 1 ?_
    rw [rounds_succ]
    go_wp2_with fail
    go_ret
    exact ⟨by simp, HO.out, Turn.refl _ _⟩
  have hfp : fp [(a, flat L)] = fp [(a, flat (mkL n L.length))] := by
    rw [fp_one, fp_one]
    exact fpS_len (by rw [flat_length, flat_length, mkL_len])
  have hroom : Room w a L.length := by
    by_cases h0 : L = []
    · left; rw [h0]; rfl
    · rcases h.one with h' | ⟨g, off, rfl, h'⟩
      · exact absurd (flat_nil.1 h') h0
      · refine Or.inr ⟨g, off, rfl, fun j hj => ⟨⟨_, h' j (by rw [flat_length]; exact hj)⟩, h.free g ?_ _⟩⟩
        rw [fp_one, fpS_some (fun e => h0 (flat_nil.1 e))]
        simp
  refine (markLineS_k a L.length cap n w hroom hl hn0 hn1).mono ?_
  rintro e w' ⟨he, hm, hw, hf⟩
  refine ⟨he, ⟨?_, ?_, ?_⟩, ?_⟩
  · intro s hs
    rw [List.mem_singleton.1 hs]
    exact marked_cells hm
  · rw [← hfp]; exact h.nd
  · rw [← hfp]
    intro b hb o
    rw [hf]
    exact h.free b hb o
  · rcases h.one with h' | ⟨g, off, rfl, h'⟩
    · exact absurd (flat_nil.1 h') h00
    · exact Turn.of_grown hw (fun k hk => by rw [fp_one, fpS_some (fun e => h00 (flat_nil.1 e))]; simp at hk; simp [hk])
theorem heldLineS_o (a : Option Addr) (cap m : Nat) (n : Int) (w : World) (h : Cells w a (flat (mkL n m))) (hl : m ≤ 1048576) (hn0 : 0 ≤ n) (hn1 : n ≤ 1000000000) :
    Calls Try.prog 61 #[.slice a m cap, .int .i64 n] w fun e w' => e = .returned (.int .i64 (n + 3 * m)) ∧ w' = w := heldLineS_k a m cap n w (cells_marked h) hl hn0 hn1
theorem markPosting_o (id : Int) (a : Option Addr) (cap : Nat) (L : List Ln) (n : Int) (w : World) (h : Own w [(a, flat L)]) (hl : L.length ≤ 1048576) (hn0 : 0 ≤ n) (hn1 : n ≤ 1000000000) :
    Calls Try.prog 27 #[.agg #[.int .i64 id, .slice a L.length cap], .int .i64 n] w fun e w' => e = .returned (.int .i64 (n + 3 * L.length)) ∧ Own w' [(a, flat (mkL n L.length))] ∧ Turn (fp [(a, flat L)]) w w' := by
  have hk : Keeps w (w.alloc (.cells #[.int .i64 id, .slice a L.length cap] 27)) := Keeps.alloc (Keeps.refl _) _
  have HQ := hide (markLineS_o a cap L n _ (h.kept hk) hl hn0 hn1)
  have HK := hide hk
  clear hk h
  go_enter Try.func27, Try.ntmps27
  go_wp2_with fail
  refine (unhide HQ).mono ?_
  rintro e w1 ⟨rfl, ho, ht⟩
  have HO := hide ho
  have HT := hide ht
  clear ho ht
  go_wp2_with fail
  go_ret
  exact ⟨rfl, HO.out, ((Turn.of_keeps HK.out []).trans HT.out).mono (by simp)⟩
theorem markLedger_o (id : Int) (a : Option Addr) (cap : Nat) (L : List Ln) (n : Int) (w : World) (h : Own w [(a, flat L)]) (hl : L.length ≤ 1048576) (hn0 : 0 ≤ n) (hn1 : n ≤ 1000000000) :
    Calls Try.prog 26 #[.agg #[.int .i64 id, .slice a L.length cap], .int .i64 n] w fun e w' => e = .returned (.int .i64 (n + 3 * L.length)) ∧ Own w' [(a, flat (mkL n L.length))] ∧ Turn (fp [(a, flat L)]) w w' := by
  have hk : Keeps w (w.alloc (.cells #[.int .i64 id, .slice a L.length cap] 25)) := Keeps.alloc (Keeps.refl _) _
  have HQ := hide (markLineS_o a cap L n _ (h.kept hk) hl hn0 hn1)
  have HK := hide hk
  clear hk h
  go_enter Try.func26, Try.ntmps26
  go_wp2_with fail
  refine (unhide HQ).mono ?_
  rintro e w1 ⟨rfl, ho, ht⟩
  have HO := hide ho
  have HT := hide ht
  clear ho ht
  go_wp2_with fail
  go_ret
  exact ⟨rfl, HO.out, ((Turn.of_keeps HK.out []).trans HT.out).mono (by simp)⟩
theorem heldLedger_o (id : Int) (a : Option Addr) (cap m : Nat) (n : Int) (w : World) (h : Cells w a (flat (mkL n m))) (hl : m ≤ 1048576) (hn0 : 0 ≤ n) (hn1 : n ≤ 1000000000) :
    Calls Try.prog 28 #[.agg #[.int .i64 id, .slice a m cap], .int .i64 n] w fun e w' => e = .returned (.int .i64 (n + 3 * m)) ∧ Keeps w w' := by
  have hk : Keeps w (w.alloc (.cells #[.int .i64 id, .slice a m cap] 25)) := Keeps.alloc (Keeps.refl _) _
  have HQ := hide (heldLineS_o a cap m n _ (h.kept hk) hl hn0 hn1)
  have HK := hide hk
  have hneg : ¬ (n + 3 * (m : Int) < 0) := by omega
  clear hk h
  go_enter Try.func28, Try.ntmps28
  go_wp2_with fail
  refine (unhide HQ).mono ?_
  rintro e w1 ⟨rfl, rfl⟩
  go_wp2_with fail
  go_ret
  exact ⟨rfl, HK.out⟩
theorem eqPosting_o (id : Int) (a a' : Option Addr) (cap cap' : Nat) (L : List Ln) (w : World) (hc : Cells w a (flat L)) (hc' : Cells w a' (flat L)) (hl : L.length ≤ 1048576) :
    Calls Try.prog 25 #[.agg #[.int .i64 id, .slice a L.length cap], .agg #[.int .i64 id, .slice a' L.length cap']] w fun e w' => e = .returned (.bool true) ∧ Keeps w w' := by
  have h := eqPosting_k id id a a' cap cap' L L w hc hc' hl hl
  have e : (decide (id = id) && lsEq L L) = true := by rw [lsEq_self]; simp
  rw [e] at h
  exact h
theorem eqLedger_o (id : Int) (a a' : Option Addr) (cap cap' : Nat) (L : List Ln) (w : World) (hc : Cells w a (flat L)) (hc' : Cells w a' (flat L)) (hl : L.length ≤ 1048576) :
    Calls Try.prog 24 #[.agg #[.int .i64 id, .slice a L.length cap], .agg #[.int .i64 id, .slice a' L.length cap']] w fun e w' => e = .returned (.bool true) ∧ Keeps w w' := by
  have h := eqLedger_k id id a a' cap cap' L L w hc hc' hl hl
  have e : (decide (id = id) && lsEq L L) = true := by rw [lsEq_self]; simp
  rw [e] at h
  exact h
end Go.Proofs.Ytecjjkgdgmjgmaa
