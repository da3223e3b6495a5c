/- Arcs in memory; the program's walk: what it holds, how it looks at an arc and takes it. -/
import Derived.Test.YtaboogkioehkeaaRb
import Derived.Deep.Cut
import Derived.BigRegion
namespace Go.Proofs.Ytaboogkioehkeaa
open Go.RowKit Go.Deep
set_option linter.unusedVariables false
set_option linter.unusedSimpArgs false
set_option maxRecDepth 10000

def Arc.cells (x : Arc) : List Value := [.int .i64 x.nm, .int .i64 x.fr, .int .i64 x.to, .int .i64 x.rs, .int .i64 x.co]
def Arc.v (x : Arc) : Value := .agg #[.int .i64 x.nm, .int .i64 x.fr, .int .i64 x.to, .int .i64 x.rs, .int .i64 x.co]
def Arc.cell (x : Arc) (r : Nat) : Value := if r = 0 then .int .i64 x.nm else if r = 1 then .int .i64 x.fr else if r = 2 then .int .i64 x.to else if r = 3 then .int .i64 x.rs else .int .i64 x.co
/-- The row of last arcs. -/
def laV (A : List Arc) (S : Srch) (i : Nat) : Value := if S.s (i / 5) = true then (pa A S (i / 5)).cell (i % 5) else .int .i64 0
structure WkR (w : World) (wb D La n : Nat) (A : List Arc) (S : Srch) : Prop where
  c0 : w.cell? ⟨wb, 0, none⟩ = some (.slice (some ⟨D, 0, none⟩) n n)
  c1 : w.cell? ⟨wb, 1, none⟩ = some (.slice (some ⟨La, 0, none⟩) n n)
  rd : w.rowIs D 3 n (fun v => .int .i64 (S.d v))
  rl : w.rowIs La 60 (n * 5) (laV A S)
  n1 : wb ≠ D
  n2 : wb ≠ La
  n3 : D ≠ La
theorem WkR.kept {w w' : World} {wb D La n : Nat} {A : List Arc} {S : Srch} (h : WkR w wb D La n A S) (hk : Keeps w w') : WkR w' wb D La n A S :=
  ⟨hk.cell h.c0, hk.cell h.c1, hk.rowK h.rd, hk.rowK h.rl, h.n1, h.n2, h.n3⟩
theorem laV_upd {A : List Arc} {S : Srch} {j v : Nat} (hj : j < A.length) (d : Nat → Int) (r t : Nat → Nat) (e : Int) (i : Nat) :
    laV A ⟨d, upd S.k v j, upd S.s v true, r, t, e⟩ i = if i / 5 = v then A[j].cell (i % 5) else laV A S i := by
  unfold laV
  by_cases h : i / 5 = v
  · rw [if_pos h, h]
    simp [upd_same, pa, List.getD_eq_getElem?_getD, hj]
  · rw [if_neg h]
    simp [upd_other _ h, pa]
theorem arc_box (w : World) (a : Arc) (t : TypeId) : (w.alloc (.cells #[.int .i64 a.nm, .int .i64 a.fr, .int .i64 a.to, .int .i64 a.rs, .int .i64 a.co] t)).cell? ⟨w.heap.size, 0, none⟩ = some (.int .i64 a.nm) ∧ (w.alloc (.cells #[.int .i64 a.nm, .int .i64 a.fr, .int .i64 a.to, .int .i64 a.rs, .int .i64 a.co] t)).cell? ⟨w.heap.size, 1, none⟩ = some (.int .i64 a.fr) ∧ (w.alloc (.cells #[.int .i64 a.nm, .int .i64 a.fr, .int .i64 a.to, .int .i64 a.rs, .int .i64 a.co] t)).cell? ⟨w.heap.size, 2, none⟩ = some (.int .i64 a.to) ∧ (w.alloc (.cells #[.int .i64 a.nm, .int .i64 a.fr, .int .i64 a.to, .int .i64 a.rs, .int .i64 a.co] t)).cell? ⟨w.heap.size, 3, none⟩ = some (.int .i64 a.rs) ∧ (w.alloc (.cells #[.int .i64 a.nm, .int .i64 a.fr, .int .i64 a.to, .int .i64 a.rs, .int .i64 a.co] t)).cell? ⟨w.heap.size, 4, none⟩ = some (.int .i64 a.co) := by
  simp
set_option maxHeartbeats 4000000 in
theorem shortens_k (wb D La n : Nat) (A : List Arc) (S : Srch) (a : Arc) (w : World) (h : WkR w wb D La n A S) (h0 : 0 ≤ a.fr) (h1 : a.fr < (n : Int)) (h2 : 0 ≤ a.to) (h3 : a.to < (n : Int)) (hn : n ≤ 24)
    (hb : ∀ v, S.d v ≤ 0 ∧ -4000000000 ≤ S.d v) (hc : -1000000 ≤ a.co ∧ a.co ≤ 1000000) :
    Calls Try.prog 38 #[.pointer (some ⟨wb, 0, none⟩), a.v] w fun e w' => e = .returned (.bool (decide (S.d a.fr.toNat + a.co < S.d a.to.toNat))) ∧ Keeps w w' := by
  have HB := hide (arc_box w a 60)
  have HK := hide (Keeps.alloc (Keeps.refl w) (.cells #[.int .i64 a.nm, .int .i64 a.fr, .int .i64 a.to, .int .i64 a.rs, .int .i64 a.co] 60))
  obtain ⟨rb, hrb⟩ : ∃ rb : Bool, rb = decide (S.d a.fr.toNat + a.co < S.d a.to.toNat) := ⟨_, rfl⟩
  rw [← hrb]
  have hrb : rb = true ↔ S.d a.fr.toNat + a.co < S.d a.to.toNat := by rw [hrb, decide_eq_true_eq]
  obtain ⟨nm, fr, to, rs, co⟩ := a
  dsimp only [Arc.v] at *
  obtain ⟨u, rfl⟩ : ∃ u : Nat, fr = (u : Int) := ⟨fr.toNat, by omega⟩
  obtain ⟨v, rfl⟩ : ∃ v : Nat, to = (v : Int) := ⟨to.toNat, by omega⟩
  simp only [Int.toNat_natCast] at hrb
  have hu := hb u
  have hv := hb v
  have q0 := HK.out.cell h.c0
  have r0 := HK.out.cell (h.rd.cell (i := u) (by omega))
  have r1 := HK.out.cell (h.rd.cell (i := v) (by omega))
  have hul : u < n := by omega
  have hvl : v < n := by omega
  generalize S.d u = du at *
  generalize S.d v = dv at *
  have w0 : IntKind.i64.wrap (du + co) = du + co := by rw [IntKind.wrap_i64]; omega
  have HRB := hide hrb
  clear h hb hc hu hv hrb
  go_enter Try.func38, Try.ntmps38
  go_upto_region 1 with fail
  obtain ⟨v0, v1, v2, v3, v4⟩ := HB.out
  generalize w.alloc (.cells #[.int .i64 nm, .int .i64 (u : Int), .int .i64 (v : Int), .int .i64 rs, .int .i64 co] 60) = W1 at *
  go_quiet (fail)
  go_wp2_with fail
  go_ret
  exact ⟨ret_b (Bool.eq_iff_iff.2 (by rw [decide_eq_true_eq]; exact HRB.out.symm)), HK.out.drewN _⟩
set_option maxHeartbeats 4000000 in
theorem take_k (wb D La n : Nat) (A : List Arc) (S : Srch) (j q : Nat) (hj : j < A.length) (w : World) (h : WkR w wb D La n A S) (h0 : 0 ≤ A[j].fr) (h1 : A[j].fr < (n : Int)) (h2 : 0 ≤ A[j].to) (h3 : A[j].to < (n : Int)) (hn : n ≤ 24)
    (hb : ∀ v, S.d v ≤ 0 ∧ -4000000000 ≤ S.d v) (hc : -1000000 ≤ A[j].co ∧ A[j].co ≤ 1000000) (hlt : S.d A[j].fr.toNat + A[j].co < S.d A[j].to.toNat) :
    Calls Try.prog 39 #[.pointer (some ⟨wb, 0, none⟩), A[j].v] w fun e w' => e = .returned (.tuple #[]) ∧ WkR w' wb D La n A (relax q j A[j] S) ∧ Turn [D, La] w w' := by
  have HB := hide (arc_box w A[j] 60)
  have HK := hide (Keeps.alloc (Keeps.refl w) (.cells #[.int .i64 A[j].nm, .int .i64 A[j].fr, .int .i64 A[j].to, .int .i64 A[j].rs, .int .i64 A[j].co] 60))
  have HLA := hide (fun i => laV_upd (S := S) (v := A[j].to.toNat) hj (upd S.d A[j].to.toNat (S.d A[j].fr.toNat + A[j].co)) (upd S.r A[j].to.toNat q) (upd S.t A[j].to.toNat (q * 1000 + j + 1)) A[j].to i)
  rw [relax_yes hlt]
  clear hlt
  have HG : Hid (∀ x : Arc, x = A[j] → x = A[j]) := fun _ h => h
  generalize A[j] = a at *
  obtain ⟨nm, fr, to, rs, co⟩ := a
  dsimp only [Arc.v] at *
  obtain ⟨u, rfl⟩ : ∃ u : Nat, fr = (u : Int) := ⟨fr.toNat, by omega⟩
  obtain ⟨v, rfl⟩ : ∃ v : Nat, to = (v : Int) := ⟨to.toNat, by omega⟩
  simp only [Int.toNat_natCast] at HLA ⊢
  have hu := hb u
  have hul : u < n := by omega
  have hvl : v < n := by omega
  have n1 := h.n1
  have n2 := h.n2
  have n3 := h.n3
  have hDl := h.rd.lt
  have hLl := h.rl.lt
  have HW := hide (h.kept HK.out)
  have w0 : IntKind.i64.wrap (S.d u + co) = S.d u + co := by rw [IntKind.wrap_i64]; omega
  have HSZ : Hid (w.heap.size ≠ D ∧ w.heap.size ≠ La) := ⟨by omega, by omega⟩
  clear h hb hc hu
  go_enter Try.func39, Try.ntmps39
  go_upto_region 1 with fail
  obtain ⟨v0, v1, v2, v3, v4⟩ := HB.out
  obtain ⟨s1, s2⟩ := HSZ.out
  have HT := hide (Turn.of_keeps HK.out [D, La])
  generalize w.alloc (.cells #[.int .i64 nm, .int .i64 (u : Int), .int .i64 (v : Int), .int .i64 rs, .int .i64 co] 60) = W1 at *
  have q0 := HW.out.c0
  have r0 := HW.out.rd.cell (i := u) hul
  have r1 := HW.out.rd.cell (i := v) hvl
  have f1 := HW.out.rd.frozen v
  clear HB
  go_big_region
  have ht2 : Turn [D, La] W1 (W1.setCell ⟨D, v, none⟩ (.int .i64 (S.d u + co))).drew := (Turn.set (by simp) _).trans' (Turn.of_keeps ((Keeps.refl _).drew) _)
  have HRD := hide ((((Keeps.refl _).drew).rowK (HW.out.rd.set v (.int .i64 (S.d u + co)))).congr (g := fun x => .int .i64 (upd S.d v (S.d u + co) x)) (fun i _ => by
    by_cases e : i = v
    · subst e; simp [upd_same]
    · simp [e, upd_other _ e]))
  have HRL := hide (((Keeps.refl _).drew).rowK (HW.out.rl.setOther (a := ⟨D, v, none⟩) (Ne.symm n3) (.int .i64 (S.d u + co))))
  replace v0 := ht2.cell (by simp; omega) v0
  replace v1 := ht2.cell (by simp; omega) v1
  replace v2 := ht2.cell (by simp; omega) v2
  replace v3 := ht2.cell (by simp; omega) v3
  replace v4 := ht2.cell (by simp; omega) v4
  replace q0 := ht2.cell (by simp; omega) q0
  have q1 := ht2.cell (by simp; omega) HW.out.c1
  replace HT := hide (HT.out.trans' ht2)
  clear r0 r1 f1 HW ht2
  generalize (W1.setCell ⟨D, v, none⟩ (.int .i64 (S.d u + co))).drew = W2 at *
  go_upto_region 2 with fail
  have l0 := HRL.out.cell (i := v * 5) (by omega)
  have l1 := HRL.out.cell (i := v * 5 + 1) (by omega)
  have l2 := HRL.out.cell (i := v * 5 + 2) (by omega)
  have l3 := HRL.out.cell (i := v * 5 + 3) (by omega)
  have l4 := HRL.out.cell (i := v * 5 + 4) (by omega)
  have g0 := HRL.out.frozen (v * 5)
  have g1 := HRL.out.frozen (v * 5 + 1)
  have g2 := HRL.out.frozen (v * 5 + 2)
  have g3 := HRL.out.frozen (v * 5 + 3)
  have g4 := HRL.out.frozen (v * 5 + 4)
  go_big_region
  have hr := (((((HRL.out.set (v * 5) (.int .i64 nm)).set (v * 5 + 1) (.int .i64 (u : Int))).set (v * 5 + 2) (.int .i64 (v : Int))).set (v * 5 + 3) (.int .i64 rs)).set (v * 5 + 4) (.int .i64 co))
  have ht3 : Turn [La] W2 (((((W2.setCell ⟨La, v * 5, none⟩ (.int .i64 nm)).setCell ⟨La, v * 5 + 1, none⟩ (.int .i64 (u : Int))).setCell ⟨La, v * 5 + 2, none⟩ (.int .i64 (v : Int))).setCell ⟨La, v * 5 + 3, none⟩ (.int .i64 rs)).setCell ⟨La, v * 5 + 4, none⟩ (.int .i64 co)).drew := (((((Turn.set (by simp) _).trans' (Turn.set (by simp) _)).trans' (Turn.set (by simp) _)).trans' (Turn.set (by simp) _)).trans' (Turn.set (by simp) _)).trans' (Turn.of_keeps ((Keeps.refl _).drew) _)
  have HR3 := hide ((((Keeps.refl _).drew).rowK hr).congr (g := laV A ⟨upd S.d v (S.d u + co), upd S.k v j, upd S.s v true, upd S.r v q, upd S.t v (q * 1000 + j + 1), (v : Int)⟩) (fun i hi => by
    rw [HLA.out i]
    by_cases e4 : i = v * 5 + 4
    · subst e4; rw [if_pos rfl, if_pos (by omega), show (v * 5 + 4) % 5 = 4 by omega]; rfl
    rw [if_neg e4]
    by_cases e3 : i = v * 5 + 3
    · subst e3; rw [if_pos rfl, if_pos (by omega), show (v * 5 + 3) % 5 = 3 by omega]; rfl
    rw [if_neg e3]
    by_cases e2 : i = v * 5 + 2
    · subst e2; rw [if_pos rfl, if_pos (by omega), show (v * 5 + 2) % 5 = 2 by omega]; rfl
    rw [if_neg e2]
    by_cases e1 : i = v * 5 + 1
    · subst e1; rw [if_pos rfl, if_pos (by omega), show (v * 5 + 1) % 5 = 1 by omega]; rfl
    rw [if_neg e1]
    by_cases e0 : i = v * 5
    · subst e0; rw [if_pos rfl, if_pos (by omega), show (v * 5) % 5 = 0 by omega]; rfl
    rw [if_neg e0, if_neg (by omega)]))
  have HD3 := hide (HRD.out.of_block (ht3.block D HRD.out.lt (by simp; omega)))
  replace q0 := ht3.cell (by simp; omega) q0
  replace q1 := ht3.cell (by simp; omega) q1
  replace HT := hide (HT.out.trans' (ht3.mono (by simp)))
  have HQ : Hid (WkR (((((W2.setCell ⟨La, v * 5, none⟩ (.int .i64 nm)).setCell ⟨La, v * 5 + 1, none⟩ (.int .i64 (u : Int))).setCell ⟨La, v * 5 + 2, none⟩ (.int .i64 (v : Int))).setCell ⟨La, v * 5 + 3, none⟩ (.int .i64 rs)).setCell ⟨La, v * 5 + 4, none⟩ (.int .i64 co)).drew wb D La n A ⟨upd S.d v (S.d u + co), upd S.k v j, upd S.s v true, upd S.r v q, upd S.t v (q * 1000 + j + 1), (v : Int)⟩) := ⟨q0, q1, HD3.out, HR3.out, n1, n2, n3⟩
  clear ht3 hr l0 l1 l2 l3 l4 g0 g1 g2 g3 g4 q0 q1 v0 v1 v2 v3 v4
  generalize (((((W2.setCell ⟨La, v * 5, none⟩ (.int .i64 nm)).setCell ⟨La, v * 5 + 1, none⟩ (.int .i64 (u : Int))).setCell ⟨La, v * 5 + 2, none⟩ (.int .i64 (v : Int))).setCell ⟨La, v * 5 + 3, none⟩ (.int .i64 rs)).setCell ⟨La, v * 5 + 4, none⟩ (.int .i64 co)).drew = W3 at *
  go_wp2_with fail
  go_end0
  exact ⟨rfl, HQ.out, HT.out⟩
end Go.Proofs.Ytaboogkioehkeaa
