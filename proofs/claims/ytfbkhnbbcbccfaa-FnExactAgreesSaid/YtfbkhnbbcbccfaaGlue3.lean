/- Contracts of what the laws do with postings and ledgers. -/
import Derived.Test.YtfbkhnbbcbccfaaOpen2
import Derived.Deep.RegionHeld3
namespace Go.Proofs.Ytfbkhnbbcbccfaa
open Go.RowKit
set_option linter.unusedVariables false

theorem row2 (w : World) (x y : Value) (t : TypeId) : (w.alloc (.cells #[x, y] t)).rowIs w.heap.size t 2 (fun i => if i = 0 then x else y) :=
  World.rowIs_alloc w #[x, y] t _ fun
    | 0, _ => rfl
    | 1, _ => rfl
    | n + 2, h => absurd h (by simp)
theorem Cells.set_other {w : World} {b o : Nat} {xs : List Value} (h : Cells w (some ⟨b, o, none⟩) xs) {p : Addr} (hp : p.block ≠ b) (u : Value) : Cells (w.setCell p u) (some ⟨b, o, none⟩) xs := by
  rcases h with h | ⟨b', off, e, h⟩
  · exact Or.inl h
  · cases e
    exact Or.inr ⟨b, o, rfl, fun j hj => (World.cell?_setCell_far w p _ u hp).trans (h j hj)⟩

theorem szLedger_k (id : Int) (a : Option Addr) (len cap : Nat) (left : Int) (w : World) (h0 : 0 ≤ left) (h1 : left ≤ 1048576) (hl : len ≤ 9223372036854775807) :
    Calls Try.prog 5 #[.agg #[.int .i64 id, .slice a len cap], .int .i64 left] w fun e w' => e = .returned (.int .i64 (if (len : Int) ≤ left then left - len else -1)) ∧ Keeps w w' := by
  have HZ := hide (fun w1 => szLineS_k a len cap left w1 h0 h1 hl)
  have hkA : Keeps w (w.alloc (.cells #[.int .i64 id, .slice a len cap] 29)) := Keeps.alloc (Keeps.refl _) _
  have HK := hide hkA
  clear hkA
  by_cases h : (len : Int) ≤ left
  · rw [if_pos h] at HZ ⊢
    have h2 : ¬ (left - len < 0) := by omega
    go_enter Try.func5, Try.ntmps5
    go_wp2_with fail
    refine (unhide HZ _).mono ?_
    rintro e w1 ⟨rfl, rfl⟩
    go_wp2_with fail
    go_ret
    exact ⟨rfl, HK.out⟩
  · rw [if_neg h] at HZ ⊢
    go_enter Try.func5, Try.ntmps5
    go_wp2_with fail
    refine (unhide HZ _).mono ?_
    rintro e w1 ⟨rfl, rfl⟩
    go_wp2_with fail
    go_ret
    exact ⟨rfl, HK.out⟩

theorem toLedger_k (id : Int) (a : Option Addr) (cap : Nat) (L : List Ln) (w : World) (hc : Cells w a (flat L)) (hl : L.length ≤ 1048576) :
    Calls Try.prog 8 #[.agg #[.int .i64 id, .slice a L.length cap]] w fun e w' => ∃ b, e = .returned (.agg #[.int .i64 id, .slice (some ⟨b, 0, none⟩) L.length L.length]) ∧ w.heap.size ≤ b ∧ Cells w' (some ⟨b, 0, none⟩) (flat L) ∧ Keeps w w' := by
  have HC := hide hc
  clear hc
  have HS := hide (fun w1 (hk : Keeps w w1) => toLineS_k a cap L w1 (HC.out.kept hk) hl)
  go_enter Try.func8, Try.ntmps8
  go_wp2_with fail
  have hk0 : Keeps w (((w.alloc (.cells #[.int .i64 id, .slice a L.length cap] 29)).alloc (.cells #[.int .i64 0, .slice none 0 0] 41)).alloc (.cells #[.int .i64 id, .slice none 0 0] 41)) := Keeps.alloc (Keeps.alloc (Keeps.alloc (Keeps.refl w) _) _) _
  refine (unhide HS _ hk0).mono ?_
  rintro e w1 ⟨b, rfl, hb, hc1, hk⟩
  have r1 := hk.row ((row2 (w.alloc (.cells #[.int .i64 id, .slice a L.length cap] 29)) (.int .i64 0) (.slice none 0 0) 41).alloc (.cells #[.int .i64 id, .slice none 0 0] 41))
  have r2 := hk.row (row2 ((w.alloc (.cells #[.int .i64 id, .slice a L.length cap] 29)).alloc (.cells #[.int .i64 0, .slice none 0 0] 41)) (.int .i64 id) (.slice none 0 0) 41)
  simp only [World.size_alloc] at r1 r2 hb
  have d0 := r1.cell (i := 0) (by decide)
  have d1 := r1.cell (i := 1) (by decide)
  have d2 := r2.cell (i := 0) (by decide)
  have d3 := r2.cell (i := 1) (by decide)
  have f0 := r1.frozen 0
  have f1 := r1.frozen 1
  have f2 := r2.frozen 0
  have f3 := r2.frozen 1
  simp only [if_true, Nat.one_ne_zero, if_false] at d0 d1 d2 d3
  have HR := hide r1
  have HCC := hide hc1
  have HK := hide (hk0.trans hk)
  have HB := hide hb
  clear r1 r2 hc1 hk hk0 hb HS HC
  go_wp2_with fail
  have r3 := ((HR.out.setOther (a := ⟨w.heap.size + 1 + 1, 1, none⟩) (by simp) (.slice (some ⟨b, 0, none⟩) L.length L.length)).set 0 (.int .i64 id)).set 1 (.slice (some ⟨b, 0, none⟩) L.length L.length)
  have c0 := r3.cell (i := 0) (by decide)
  have c1 := r3.cell (i := 1) (by decide)
  simp at c0 c1
  have hbb := HB.out
  refine bodyPost_ret (v := .agg #[.int .i64 id, .slice (some ⟨b, 0, none⟩) L.length L.length]) ?_ rfl ⟨b, rfl, by omega, ?_, ?_⟩
  · clear HK HCC r3 HR hbb HB d0 d1 d2 d3 f0 f1 f2 f3
    revert c0 c1
    generalize World.setCell _ _ _ = W
    intro c0 c1
    simp [results, Try.results8, go_sem, c0, c1]
  · exact ((HCC.out.set_other (by simp; omega) _).set_other (by simp; omega) _).set_other (by simp; omega) _
  · exact Keeps.setCell (Keeps.setCell (Keeps.setCell HK.out (by simp; omega) _) (by simp) _) (by simp) _

theorem eqLedger_k (id id' : Int) (a a' : Option Addr) (cap cap' : Nat) (L M : List Ln) (w : World) (hc : Cells w a (flat L)) (hc' : Cells w a' (flat M)) (hl : L.length ≤ 1048576) (hl' : M.length ≤ 1048576) :
    Calls Try.prog 11 #[.agg #[.int .i64 id, .slice a L.length cap], .agg #[.int .i64 id', .slice a' M.length cap']] w fun e w' => e = .returned (.bool (decide (id = id') && lsEq L M)) ∧ Keeps w w' := by
  have hk : Keeps w ((w.alloc (.cells #[.int .i64 id, .slice a L.length cap] 41)).alloc (.cells #[.int .i64 id', .slice a' M.length cap'] 41)) := Keeps.alloc (Keeps.alloc (Keeps.refl _) _) _
  have HK := hide hk
  have HQ := hide (eqLineS_k a a' cap cap' L M _ (hc.kept hk) (hc'.kept hk) hl hl')
  clear hk hc hc'
  by_cases h1 : id = id'
  · subst h1
    have HE : Hid ((decide (id = id) && lsEq L M) = lsEq L M) := by show _ = _; simp
    cases hq : lsEq L M
    · rw [hq] at HQ HE
      clear hq
      go_enter Try.func11, Try.ntmps11
      go_wp2_with fail
      refine (unhide HQ).mono ?_
      rintro e w1 ⟨rfl, hk1⟩
      have HK1 := hide (HK.out.trans hk1)
      clear hk1
      go_wp2_with fail
      go_ret
      exact ⟨ret_bool (by simp), HK1.out⟩
    · rw [hq] at HQ HE
      clear hq
      go_enter Try.func11, Try.ntmps11
      go_wp2_with fail
      refine (unhide HQ).mono ?_
      rintro e w1 ⟨rfl, hk1⟩
      have HK1 := hide (HK.out.trans hk1)
      clear hk1
      go_wp2_with fail
      go_ret
      exact ⟨ret_bool (by simp), HK1.out⟩
  · have h1' : (id != id') = true := by rw [bne_iff_ne]; exact h1
    have H : Hid ((decide (id = id') && lsEq L M) = false) := by show _ = _; simp [h1]
    clear h1
    go_enter Try.func11, Try.ntmps11
    go_wp2_with fail
    go_ret
    exact ⟨ret_bool H.out.symm, HK.out⟩
end Go.Proofs.Ytfbkhnbbcbccfaa
