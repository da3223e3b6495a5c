/- The program's journalOf and add. -/
import Derived.Test.YtfbkhnbbcbccfaaJour
namespace Go.Proofs.Ytfbkhnbbcbccfaa
open Go.RowKit Go.Maps
set_option linter.unusedVariables false

theorem keeps_of {w0 w1 w2 : World} {row : Option Nat} (h : Keeps w0 w1) (g : w1.grownBy w2 row) (hr : ∀ r, row = some r → w0.heap.size ≤ r) : Keeps w0 w2 :=
  ⟨g.os.trans h.os, g.tape.trans h.tape, g.output.trans h.output, Nat.le_trans h.size g.size, fun k hk => (g.block k (Nat.lt_of_lt_of_le hk h.size) (fun e => by have := hr k e.symm; omega)).trans (h.block k hk)⟩
theorem two_row (x y : Value) : ∀ i, i < (#[x, y] : Array Value).size → (#[x, y] : Array Value)[i]? = some ((fun i : Nat => if i = 0 then x else y) i)
  | 0, _ => rfl
  | 1, _ => rfl
  | n + 2, h => absurd h (by simp)
theorem row2_out {w : World} {b : Nat} {t : TypeId} {f : Nat → Value} (r : w.rowIs b t 2 f) (x y : Value) :
    ((w.setCell ⟨b, 0, none⟩ x).setCell ⟨b, 1, none⟩ y).cell? ⟨b, 0, none⟩ = some x ∧ ((w.setCell ⟨b, 0, none⟩ x).setCell ⟨b, 1, none⟩ y).cell? ⟨b, 1, none⟩ = some y := by
  have r3 := (r.set 0 x).set 1 y
  have c0 := r3.cell (i := 0) (by decide)
  have c1 := r3.cell (i := 1) (by decide)
  simp at c0 c1
  exact ⟨c0, c1⟩
/-- A map of a journal in memory. -/
abbrev OwnsJ (w : World) (b n : Nat) (D : DataW Unit) : Prop := w.ownsMap Try.prog 54 (plainElem Try.prog 3) b n D
/-- What journalOf answers. -/
def IsJour (id : Int) (w w' : World) (L : List Ln) (e : Ending) : Prop := ∃ b D, e = .returned (.agg #[.int .i64 id, .map (some b)]) ∧ OwnsJ w' b L.length D ∧ Rep D L ∧ w.heap.size ≤ b

set_option maxHeartbeats 2000000 in
theorem jour_impl (id : Int) (a : Option Addr) (cap : Nat) (L : List Ln) (w : World) (hc : Cells w a (flat L)) (hg : Good L) (hr : ∀ x ∈ L, rangeB x.a = true) :
    Calls Try.prog 27 #[.agg #[.int .i64 id, .slice a L.length cap]] w fun e w' => IsJour id w w' L e ∧ Keeps w w' := by
  have hl := good_len hg
  have HB := hide (Keeps.alloc (Keeps.alloc (Keeps.refl w) (.cells #[.int .i64 id, .slice a L.length cap] 41)) (.cells #[.int .i64 0, .map none] 64))
  have HC := hide (hc.kept HB.out)
  have HD : Hid (∀ w', Keeps ((w.alloc (.cells #[.int .i64 id, .slice a L.length cap] 41)).alloc (.cells #[.int .i64 0, .map none] 64)) w' → w'.cell? ⟨w.heap.size, 0, none⟩ = some (.int .i64 id) ∧ w'.cell? ⟨w.heap.size, 1, none⟩ = some (.slice a L.length cap)) :=
    fun w' hk => ⟨hk.cell (by simp), hk.cell (by simp)⟩
  have r0 := World.rowIs_alloc (w.alloc (.cells #[.int .i64 id, .slice a L.length cap] 41)) #[.int .i64 0, .map none] 64 _ (two_row _ _)
  simp only [World.size_alloc] at r0
  have HR0 := hide r0
  have HG := hide hg
  have HRa := hide hr
  have HO0 : Hid (OwnsJ (((w.alloc (.cells #[.int .i64 id, .slice a L.length cap] 41)).alloc (.cells #[.int .i64 0, .map none] 64)).alloc (.map #[] 0)) (w.heap.size + 2) 0 (.map [])) := by
    have := World.ownsMap_made (H := Unit) ((w.alloc (.cells #[.int .i64 id, .slice a L.length cap] 41)).alloc (.cells #[.int .i64 0, .map none] 64)) Try.prog 54 (plainElem Try.prog 3)
    simp only [World.size_alloc] at this
    exact this
  clear hc r0 hg hr
  have hmm := @run_makeMap Try.prog
  go_enter Try.func27, Try.ntmps27
  go_wp2_with fail
  go_loopw [10] (fun y wr => ∃ (n : Nat) (D : DataW Unit), n ≤ L.length ∧ y = .int .i64 (n : Int) ∧ Hid (OwnsJ wr (w.heap.size + 2) n D) ∧ Hid (Rep D (L.take n)) ∧ Hid (Keeps ((w.alloc (.cells #[.int .i64 id, .slice a L.length cap] 41)).alloc (.cells #[.int .i64 0, .map none] 64)) wr)) (fun y _ => L.length - (intOf y).toNat)
  case atStart => exact ⟨0, .map [], by omega, rfl, HO0, by show Rep _ _; simpa using rep_nil, Keeps.alloc (Keeps.refl _) _⟩
  case round =>
    obtain ⟨n, D, hn, rfl, HO, HRep, HK⟩ := hrel
    obtain ⟨d0, d1⟩ := HD.out _ HK.out
    by_cases hlt : n < L.length
    · obtain ⟨b, off, ea, c0, c1, c2⟩ := cells_at (HC.out.kept HK.out) n hlt
      subst ea
      have hx := HG.out.2 L[n] (List.getElem_mem hlt)
      have hra := HRa.out L[n] (List.getElem_mem hlt)
      have hwf : (Lit.int .i64 L[n].a).wf = true := by simp [rangeB] at hra; exact wf_of (by omega) (by omega)
      have HKey := hide (key_ok hx.1)
      have HNext := hide (rep_snoc HG.out hlt HRep.out)
      have HWf := hide hwf
      clear hx hra hwf
      generalize L[n] = x at *
      obtain ⟨xk, xc, xa⟩ := x
      dsimp only at *
      have HO1 := hide (HO.out.alloc (.cells #[.int .i64 xk, .int .i64 xc, .int .i64 xa] 76))
      have HK1 := hide (Keeps.alloc HK.out (.cells #[.int .i64 xk, .int .i64 xc, .int .i64 xa] 76))
      go_wp2_with (at_mapUpdate; refine wpList_mapUpdate_own _ rfl _ _ _ 62 rfl 54 3 accKeyed Try.underlying62 _ (w.heap.size + 2) n D rfl HO1.out (by unfold maxLen; omega) _ _ (klit xk xc) rfl rfl HKey.out _ [] (plainElem_int Try.underlying3 HWf.out) ?_; intro w1 hown1 hgrow1)
      go_roundw
      case rel => exact ⟨n + 1, _, by omega, by go_num, hown1, HNext, keeps_of HK1.out hgrow1 (by intro r hr; injection hr with hr; simp; omega)⟩
      case measure => simp [intOf]; omega
    · have e : n = L.length := by omega
      have HRow := hide (Keeps.row HK.out HR0.out)
      have f0 := HRow.out.frozen 0
      have f1 := HRow.out.frozen 1
      have z0 := HRow.out.cell (i := 0) (by decide)
      have z1 := HRow.out.cell (i := 1) (by decide)
      simp at z0 z1
      go_wp2_with fail
      obtain ⟨o0, o1⟩ := row2_out HRow.out (.int .i64 id) (.map (some (w.heap.size + 2)))
      refine bodyPost_ret (v := .agg #[.int .i64 id, .map (some (w.heap.size + 2))]) ?_ rfl ⟨⟨w.heap.size + 2, D, rfl, ?_, ?_, by omega⟩, Keeps.setCell (Keeps.setCell (HB.out.trans HK.out) (Nat.le_add_right _ _) _) (Nat.le_add_right _ _) _⟩
      · revert o0 o1
        clear HRow HK HB HD HC HO HRep d0 d1 f0 f1 z0 z1 HR0 HO0
        generalize World.setCell _ _ _ = W
        intro o0 o1
        simp [results, Try.results27, go_sem, o0, o1]
      · rw [← e]
        exact (HO.out.setCell (by simp) _).setCell (by simp) _
      · have := HRep.out
        rwa [e, List.take_length] at this
end Go.Proofs.Ytfbkhnbbcbccfaa
