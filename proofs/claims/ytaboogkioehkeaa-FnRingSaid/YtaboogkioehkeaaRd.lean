/- The program's closure that is told the arcs. -/
import Derived.Test.YtaboogkioehkeaaRc
namespace Go.Proofs.Ytaboogkioehkeaa
open Go.RowKit Go.Deep
set_option linter.unusedVariables false
set_option linter.unusedSimpArgs false
set_option maxRecDepth 10000

structure RgJ (w : World) (wb D La eb cb n : Nat) (A : List Arc) (e0 : Int) (S : Srch) : Prop where
  wk : WkR w wb D La n A S
  ce : w.cell? ⟨eb, 0, none⟩ = some (.int .i64 (if S.e = -1 then e0 else S.e))
  cc : w.cell? ⟨cb, 0, none⟩ = some (.bool (decide (S.e ≠ -1)))
  fe : w.frozen? ⟨eb, 0, none⟩ = false
  fc : w.frozen? ⟨cb, 0, none⟩ = false
  ap : eb ≠ D ∧ eb ≠ La ∧ eb ≠ wb ∧ cb ≠ D ∧ cb ≠ La ∧ cb ≠ wb ∧ eb ≠ cb
theorem RgJ.kept {w w' : World} {wb D La eb cb n : Nat} {A : List Arc} {e0 : Int} {S : Srch} (h : RgJ w wb D La eb cb n A e0 S) (hk : Keeps w w') : RgJ w' wb D La eb cb n A e0 S :=
  ⟨h.wk.kept hk, hk.cell h.ce, hk.cell h.cc, by rw [hk.oldF eb 0 (lt_of_cell h.ce)]; exact h.fe, by rw [hk.oldF cb 0 (lt_of_cell h.cc)]; exact h.fc, h.ap⟩
theorem WkR.turn {w w' : World} {wb D La n : Nat} {A : List Arc} {S : Srch} (h : WkR w wb D La n A S) {fs : List Nat} (ht : Turn fs w w') (h1 : wb ∉ fs) (h2 : D ∉ fs) (h3 : La ∉ fs) : WkR w' wb D La n A S :=
  ⟨ht.cell h1 h.c0, ht.cell h1 h.c1, h.rd.of_block (ht.block D h.rd.lt h2), h.rl.of_block (ht.block La h.rl.lt h3), h.n1, h.n2, h.n3⟩
set_option maxHeartbeats 4000000 in
theorem ring1_k (wb D La eb cb n : Nat) (A : List Arc) (e0 : Int) (S : Srch) (j q : Nat) (hj : j < A.length) (w : World) (h : RgJ w wb D La eb cb n A e0 S) (h0 : 0 ≤ A[j].fr) (h1 : A[j].fr < (n : Int)) (h2 : 0 ≤ A[j].to) (h3 : A[j].to < (n : Int)) (hn : n ≤ 24)
    (hb : ∀ v, S.d v ≤ 0 ∧ -4000000000 ≤ S.d v) (hc : -1000000 ≤ A[j].co ∧ A[j].co ≤ 1000000) :
    Calls Try.prog 37 #[A[j].v, .pointer (some ⟨wb, 0, none⟩), .pointer (some ⟨eb, 0, none⟩), .pointer (some ⟨cb, 0, none⟩)] w fun e w' => e = .returned (.tuple #[]) ∧ RgJ w' wb D La eb cb n A e0 (relax q j A[j] S) ∧ Turn [D, La, eb, cb] w w' := by
  have HB := hide (arc_box w A[j] 60)
  have HK := hide (Keeps.alloc (Keeps.refl w) (.cells #[.int .i64 A[j].nm, .int .i64 A[j].fr, .int .i64 A[j].to, .int .i64 A[j].rs, .int .i64 A[j].co] 60))
  have HJ := hide (h.kept HK.out)
  have HS := hide (fun w1 hw => shortens_k wb D La n A S A[j] w1 hw h0 h1 h2 h3 hn hb hc)
  have HT := hide (fun w1 hw hlt => take_k wb D La n A S j q hj w1 hw h0 h1 h2 h3 hn hb hc hlt)
  have HR1 := hide (relax_yes (n := q) (j := j) (a := A[j]) (S := S))
  have HR0 := hide (relax_no (n := q) (j := j) (a := A[j]) (S := S))
  have HSZ : Hid (w.heap.size ≠ D ∧ w.heap.size ≠ La ∧ w.heap.size ≠ eb ∧ w.heap.size ≠ cb) := by
    have a1 := h.wk.rd.lt
    have a2 := h.wk.rl.lt
    have a3 := lt_of_cell h.ce
    have a4 := lt_of_cell h.cc
    exact ⟨by omega, by omega, by omega, by omega⟩
  obtain ⟨p1, p2, p3, p4, p5, p6, p7⟩ := h.ap
  clear h hb hc h0 h1 h3
  generalize A[j] = a at *
  by_cases hlt : S.d a.fr.toNat + a.co < S.d a.to.toNat
  · rw [decide_eq_true hlt] at HS
    have HE : Hid ((relax q j a S).e = a.to) := by show _ = _; rw [HR1.out hlt]
    obtain ⟨nm, fr, to, rs, co⟩ := a
    dsimp only [Arc.v] at *
    replace HT := hide (fun w1 hw => HT.out w1 hw hlt)
    clear hlt
    go_enter Try.func37, Try.ntmps37
    go_upto_region 1 with fail
    generalize w.alloc (.cells #[.int .i64 nm, .int .i64 fr, .int .i64 to, .int .i64 rs, .int .i64 co] 60) = W1 at *
    obtain ⟨v0, v1, v2, v3, v4⟩ := HB.out
    go_wp2_with fail
    refine (unhide HS W1 HJ.out.wk).mono ?_
    rintro e w2 ⟨rfl, hk⟩
    replace HJ := hide (HJ.out.kept hk)
    replace HK := hide (HK.out.trans hk)
    replace v0 := hk.cell v0
    replace v1 := hk.cell v1
    replace v2 := hk.cell v2
    replace v3 := hk.cell v3
    replace v4 := hk.cell v4
    clear hk HB
    go_wp2_with fail
    refine (unhide HT w2 HJ.out.wk).mono ?_
    rintro e w3 ⟨rfl, hwk, ht⟩
    obtain ⟨s1, s2, s3, s4⟩ := HSZ.out
    have x2 := ht.cell (by simp; omega) v2
    have ce := ht.cell (by simp; omega) HJ.out.ce
    have cc := ht.cell (by simp; omega) HJ.out.cc
    have fe : w3.frozen? ⟨eb, 0, none⟩ = false := by rw [World.frozen?_of_block (w := w2) (ht.block eb (lt_of_cell HJ.out.ce) (by simp; omega))]; exact HJ.out.fe
    have fc : w3.frozen? ⟨cb, 0, none⟩ = false := by rw [World.frozen?_of_block (w := w2) (ht.block cb (lt_of_cell HJ.out.cc) (by simp; omega))]; exact HJ.out.fc
    have HWK := hide hwk
    have HTT : Hid (Turn [D, La, eb, cb] w w3) := (Turn.of_keeps HK.out _).trans' (ht.mono (by simp))
    clear v0 v1 v2 v3 v4 ht hwk HT HS HJ HR1 HR0
    go_wp2_with fail
    go_end0
    have ht4 : Turn [eb, cb] w3 ((w3.setCell ⟨eb, 0, none⟩ (.int .i64 to)).setCell ⟨cb, 0, none⟩ (.bool true)) := (Turn.set (by simp) _).trans' (Turn.set (by simp) _)
    refine ⟨rfl, ⟨HWK.out.turn ht4 (by simp; omega) (by simp; omega) (by simp; omega), ?_, ?_, ?_, ?_, p1, p2, p3, p4, p5, p6, p7⟩, HTT.out.trans' (ht4.mono (by simp))⟩
    · rw [HE.out, if_neg (by omega), World.cell?_setCell_other _ _ _ _ (by simp), World.cell?_setCell_same _ _ _ ce]
    · rw [HE.out, decide_eq_true (show to ≠ -1 by omega)]
      exact World.cell?_setCell_same _ _ _ (by rw [World.cell?_setCell_other _ _ _ _ (by simp)]; exact cc)
    · rw [frozen_set, frozen_set]; exact fe
    · rw [frozen_set, frozen_set]; exact fc
  · rw [decide_eq_false hlt] at HS
    have HE := hide (HR0.out hlt)
    obtain ⟨nm, fr, to, rs, co⟩ := a
    dsimp only [Arc.v] at *
    clear hlt
    go_enter Try.func37, Try.ntmps37
    go_upto_region 1 with fail
    generalize w.alloc (.cells #[.int .i64 nm, .int .i64 fr, .int .i64 to, .int .i64 rs, .int .i64 co] 60) = W1 at *
    obtain ⟨v0, v1, v2, v3, v4⟩ := HB.out
    go_wp2_with fail
    refine (unhide HS W1 HJ.out.wk).mono ?_
    rintro e w2 ⟨rfl, hk⟩
    go_wp2_with fail
    go_end0
    rw [HE.out]
    exact ⟨rfl, HJ.out.kept hk, (Turn.of_keeps HK.out _).trans' (Turn.of_keeps hk _)⟩
end Go.Proofs.Ytaboogkioehkeaa
