/- The model's draws of sectors: l03Sector, l03Any, DrawSectorBytes. -/
import Derived.Test.YtkdnddckogbgaaaDrB
import Derived.Test.YtkdnddckogbgaaaSec
namespace Go.Proofs.Ytkdnddckogbgaaa
open Go.RowKit
set_option linter.unusedVariables false
/-- A right sector with a body of the call's own; some sector. -/
def IsSec (base : Nat) (w' : World) (x : Ending) : Prop := ∃ (q e : Int) (p : Option Addr) (l c : Nat) (L : List UInt8), secB q e l = true ∧ x = .returned (.agg #[.int .i64 q, .int .i64 e, .slice p l c]) ∧ Hid (L.length = l ∧ OwnsB w' base (.slice p l c) L)
def AnySec (base : Nat) (w' : World) (x : Ending) : Prop := ∃ (q e : Int) (p : Option Addr) (l c : Nat) (L : List UInt8), l ≤ 101 ∧ x = .returned (.agg #[.int .i64 q, .int .i64 e, .slice p l c]) ∧ Hid (L.length = l ∧ OwnsB w' base (.slice p l c) L)
theorem isSec {base : Nat} {w' : World} {q e : Int} {p : Option Addr} {l c : Nat} {L : List UInt8} (h : secB q e l = true) (hl : L.length = l) (ho : OwnsB w' base (.slice p l c) L) : IsSec base w' (.returned (.agg #[.int .i64 q, .int .i64 e, .slice p l c])) := ⟨q, e, p, l, c, L, h, rfl, hl, ho⟩
theorem anySec {base : Nat} {w' : World} {q e : Int} {p : Option Addr} {l c : Nat} {L : List UInt8} (h : l ≤ 101) (hl : L.length = l) (ho : OwnsB w' base (.slice p l c) L) : AnySec base w' (.returned (.agg #[.int .i64 q, .int .i64 e, .slice p l c])) := ⟨q, e, p, l, c, L, h, rfl, hl, ho⟩
theorem three_row (x y z : Value) : ∀ i, i < (#[x, y, z] : Array Value).size → (#[x, y, z] : Array Value)[i]? = some ((fun i : Nat => if i = 0 then x else if i = 1 then y else z) i)
  | 0, _ => rfl
  | 1, _ => rfl
  | 2, _ => rfl
  | n + 3, h => absurd h (by simp)
theorem row3_out {w : World} {b : Nat} {t : TypeId} {f : Nat → Value} (r : w.rowIs b t 3 f) (x y z : Value) :
    (((w.setCell ⟨b, 0, none⟩ x).setCell ⟨b, 1, none⟩ y).setCell ⟨b, 2, none⟩ z).cell? ⟨b, 0, none⟩ = some x ∧ (((w.setCell ⟨b, 0, none⟩ x).setCell ⟨b, 1, none⟩ y).setCell ⟨b, 2, none⟩ z).cell? ⟨b, 1, none⟩ = some y ∧ (((w.setCell ⟨b, 0, none⟩ x).setCell ⟨b, 1, none⟩ y).setCell ⟨b, 2, none⟩ z).cell? ⟨b, 2, none⟩ = some z := by
  have r3 := ((r.set 0 x).set 1 y).set 2 z
  have c0 := r3.cell (i := 0) (by decide)
  have c1 := r3.cell (i := 1) (by decide)
  have c2 := r3.cell (i := 2) (by decide)
  simp at c0 c1 c2
  exact ⟨c0, c1, c2⟩
theorem OwnsB.other {w : World} {base b o : Nat} {v x : Value} {L : List UInt8} (h : OwnsB w base v L) (hb : v.ownBlock ≠ some b) : OwnsB (w.setCell ⟨b, o, none⟩ x) base v L :=
  World.ownsRow.kept h (grown_set (grown_refl w (some b))) (.inr hb)
theorem OwnsB.ne {w : World} {base b : Nat} {v : Value} {L : List UInt8} (h : OwnsB w base v L) (hb : b < base ∨ w.heap.size ≤ b) : v.ownBlock ≠ some b := fun e => by have := h.lt b e; omega
theorem secB_of {q e : Int} {n : Nat} (h0 : 0 ≤ q) (h1 : q < 600) (h2 : 1 ≤ e) (h3 : e ≤ 16000000) (h4 : n ≤ 100) : secB q e n = true := by simp [secB, h0, h1, h2, h3, h4]
/-- The result's three cells are written: all else stands. -/
theorem three_out {w V : World} {B0 B b : Nat} {a : Option Addr} {len cap : Nat} {v : Value} {L : List UInt8} (hb : b = w.heap.size) (hB : B < w.heap.size) (hB0 : B0 ≤ B) (ho : OwnsB V (w.heap.size + 1) v L) (s : Dr B0 B a len cap V) (g : w.grownBy V (some B)) (x y z : Value) :
    OwnsB (((V.setCell ⟨b, 0, none⟩ x).setCell ⟨b, 1, none⟩ y).setCell ⟨b, 2, none⟩ z) w.heap.size v L ∧ Dr B0 B a len cap (((V.setCell ⟨b, 0, none⟩ x).setCell ⟨b, 1, none⟩ y).setCell ⟨b, 2, none⟩ z) ∧ w.grownBy (((V.setCell ⟨b, 0, none⟩ x).setCell ⟨b, 1, none⟩ y).setCell ⟨b, 2, none⟩ z) (some B) := by
  subst hb
  have hne : v.ownBlock ≠ some w.heap.size := ho.ne (.inl (by omega))
  refine ⟨(((OwnsB.other ho hne).other hne).other hne).older (by omega), ?_, ?_⟩
  · exact s.grown (grown_set (grown_set (grown_set (grown_refl V (some w.heap.size))))) (by simp; omega) (by intro r hr; injection hr with hr; omega)
  · exact grown_new (grown_new (grown_new g (Nat.le_refl _)) (Nat.le_refl _)) (Nat.le_refl _)
theorem Dr.set {B0 B b o : Nat} {a : Option Addr} {len cap : Nat} {w : World} (s : Dr B0 B a len cap w) (hb : b ≠ B) (h0 : B0 ≤ b) (v : Value) : Dr B0 B a len cap (w.setCell ⟨b, o, none⟩ v) :=
  s.grown (grown_set (grown_refl w (some b))) (by simp; omega) (by intro r hr; injection hr with hr; omega)
set_option maxHeartbeats 2000000 in
theorem sector_any {B0 B : Nat} {a : Option Addr} {len cap : Nat} {w : World} (s : Dr B0 B a len cap w) :
    Calls Try.prog 48 #[.pointer (some ⟨B, 0, none⟩)] w fun e w' => IsSec w.heap.size w' e ∧ Dr B0 B a len cap w' ∧ w.grownBy w' (some B) := by
  have hB := s.lt
  have hB0 := s.le
  have HG0 := hide (World.grownBy_alloc w (.cells #[.int .i64 0, .int .i64 0, .slice none 0 0] 83) (some B))
  have HS0 := hide (s.grown (World.grownBy_alloc w (.cells #[.int .i64 0, .int .i64 0, .slice none 0 0] 83) none) (by simp) (by simp))
  have HR0 := hide (World.rowIs_alloc w #[.int .i64 0, .int .i64 0, .slice none 0 0] 83 _ (three_row _ _ _))
  clear s
  go_enter Try.func48, Try.ntmps48
  go_wp2_with fail
  refine (below_any 5 HS0.out (by omega) (by omega)).mono ?_
  rintro x w1 ⟨⟨q, q0, q1, rfl⟩, s1, g1⟩
  have HR1 := hide (grown_row g1 (by simp; omega) HR0.out)
  have HS1 := hide s1
  have HG1 := hide (HG0.out.trans g1)
  clear s1 g1 HS0 HG0 HR0
  go_wp2_with fail
  refine (below_any 3 HS1.out (by omega) (by omega)).mono ?_
  rintro x w2 ⟨⟨e, e0, e1, rfl⟩, s2, g2⟩
  have HR2 := hide (grown_row g2 (by simp; omega) HR1.out)
  have HS2 := hide s2
  have HG2 := hide (HG1.out.trans g2)
  clear s2 g2 HS1 HG1 HR1
  have hz2 := HR2.out.lt
  go_wp2_with fail
  refine (bytes_any 12 HS2.out (by omega)).mono ?_
  rintro x w3 ⟨⟨p, l, c, L, hl, rfl, HO⟩, s3, g3⟩
  have hL := hide HO.out.1
  have ho3 := HO.out.2
  clear HO
  have HR3 := hide (grown_row g3 (by simp; omega) HR2.out)
  have hz3 := HR3.out.lt
  have hw3 := g3.size
  have HS3 := hide (s3.grown (World.grownBy_alloc w3 (.cells #[.int .i64 q, .int .i64 (1 + e), .slice p l c] 83) none) (by simp) (by simp))
  have HG3 := hide (grown_alloc (HG2.out.trans g3) (.cells #[.int .i64 q, .int .i64 (1 + e), .slice p l c] 83))
  have HR3a := hide (HR3.out.alloc (.cells #[.int .i64 q, .int .i64 (1 + e), .slice p l c] 83))
  have HA3 := hide (World.rowIs_alloc w3 #[.int .i64 q, .int .i64 (1 + e), .slice p l c] 83 _ (three_row _ _ _))
  have HO3 := hide ((OwnsB.older ho3 (base' := w.heap.size + 1) (by omega)).alloc (.cells #[.int .i64 q, .int .i64 (1 + e), .slice p l c] 83))
  have hv3 : (Value.slice p l c).ownBlock ≠ some w3.heap.size := ho3.ne (.inr (Nat.le_refl _))
  clear s3 g3 ho3 HS2 HG2 HR2 HR3
  go_wp2_with fail
  refine (below_any 12 HS3.out (by omega) (by omega)).mono ?_
  rintro x w4 ⟨⟨k, k0, k1, rfl⟩, s4, g4⟩
  have HR4 := hide (grown_row g4 (by simp; omega) HR3a.out)
  have HA4 := hide (grown_row g4 (by simp; omega) HA3.out)
  have HO4 := hide (HO3.out.grows g4 (by omega))
  have HS4 := hide s4
  have HG4 := hide (HG3.out.trans g4)
  have hne : w3.heap.size ≠ w.heap.size := by omega
  have hz4 := HA4.out.lt
  clear s4 g4 HS3 HG3 HR3a HA3 HO3
  have a0 := HA4.out.cell (i := 0) (by simp)
  have a1 := HA4.out.cell (i := 1) (by simp)
  have a2 := HA4.out.cell (i := 2) (by simp)
  have af0 := HA4.out.frozen 0
  have af1 := HA4.out.frozen 1
  have af2 := HA4.out.frozen 2
  have r0 := HR4.out.cell (i := 0) (by simp)
  have r1 := HR4.out.cell (i := 1) (by simp)
  have r2 := HR4.out.cell (i := 2) (by simp)
  have rf0 := HR4.out.frozen 0
  have rf1 := HR4.out.frozen 1
  have rf2 := HR4.out.frozen 2
  simp at a0 a1 a2 r0 r1 r2
  by_cases hk0 : k = 0
  · subst hk0
    clear a0 a1 a2 af0 af1 af2 r0 r1 r2 rf0 rf1 rf2
    go_wp2_with fail
    refine (bytes_any 100 HS4.out (by omega)).mono ?_
    rintro x w5 ⟨⟨p', l', c', L', hl', rfl, HO'⟩, s5, g5⟩
    have hw5 := g5.size
    have hL' := hide HO'.out.1
    have HO5 := hide (OwnsB.older HO'.out.2 (base' := w.heap.size + 1) (by omega))
    have hv5 : (Value.slice p' l' c').ownBlock ≠ some w3.heap.size := OwnsB.ne HO'.out.2 (.inl (by omega))
    have HR5 := hide (grown_row g5 (by simp; omega) HR4.out)
    have HA5 := hide (grown_row g5 (by simp; omega) HA4.out)
    have HS5 := hide s5
    have HG5 := hide (HG4.out.trans g5)
    clear s5 g5 HO' HS4 HG4 HR4 HA4 HO4
    have a0 := HA5.out.cell (i := 0) (by simp)
    have a1 := HA5.out.cell (i := 1) (by simp)
    have a2 := HA5.out.cell (i := 2) (by simp)
    have af0 := HA5.out.frozen 0
    have af1 := HA5.out.frozen 1
    have af2 := HA5.out.frozen 2
    have r0 := HR5.out.cell (i := 0) (by simp)
    have r1 := HR5.out.cell (i := 1) (by simp)
    have r2 := HR5.out.cell (i := 2) (by simp)
    have rf0 := HR5.out.frozen 0
    have rf1 := HR5.out.frozen 1
    have rf2 := HR5.out.frozen 2
    simp at a0 a1 a2 r0 r1 r2
    go_wp2_with fail
    obtain ⟨o0, o1, o2⟩ := row3_out (HR5.out.setOther (a := ⟨w3.heap.size, 2, none⟩) (by simp; omega) (.slice p' l' c')) (.int .i64 q) (.int .i64 (1 + e)) (.slice p' l' c')
    obtain ⟨t0, t1, t2⟩ := three_out rfl hB hB0 (HO5.out.other hv5) (HS5.out.set (by omega) (by omega) _) (grown_new HG5.out (by omega)) (.int .i64 q) (.int .i64 (1 + e)) (.slice p' l' c')
    refine bodyPost_ret (v := .agg #[.int .i64 q, .int .i64 (1 + e), .slice p' l' c']) ?_ rfl ⟨isSec (secB_of (by omega) (by omega) (by omega) (by omega) (by omega)) hL'.out t0, t1, t2⟩
    revert o0 o1 o2
    clear t0 t1 t2 HR5 HS5 HG5 HA5 HO5 a0 a1 a2 af0 af1 af2 r0 r1 r2 rf0 rf1 rf2
    generalize World.setCell (World.setCell _ _ _) _ _ = W
    intro o0 o1 o2
    simp [results, Try.results48, go_sem, o0, o1, o2]
  · have hk0' : (k == 0) = false := beq_eq_false_iff_ne.2 hk0
    by_cases hk1 : k = 1
    · subst hk1
      clear hk0 hk0'
      go_wp2_with fail
      obtain ⟨o0, o1, o2⟩ := row3_out ((HR4.out.setOther (a := ⟨w3.heap.size, 0, none⟩) (by simp; omega) (.int .i64 599)).setOther (a := ⟨w3.heap.size, 1, none⟩) (by simp; omega) (.int .i64 16000000)) (.int .i64 599) (.int .i64 16000000) (.slice p l c)
      obtain ⟨t0, t1, t2⟩ := three_out rfl hB hB0 ((HO4.out.other hv3).other hv3) ((HS4.out.set (by omega) (by omega) _).set (by omega) (by omega) _) (grown_new (grown_new HG4.out (by omega)) (by omega)) (.int .i64 599) (.int .i64 16000000) (.slice p l c)
      refine bodyPost_ret (v := .agg #[.int .i64 599, .int .i64 16000000, .slice p l c]) ?_ rfl ⟨isSec (secB_of (by omega) (by omega) (by omega) (by omega) (by omega)) hL.out t0, t1, t2⟩
      revert o0 o1 o2
      clear t0 t1 t2 HR4 HS4 HG4 HA4 HO4 a0 a1 a2 af0 af1 af2 r0 r1 r2 rf0 rf1 rf2
      generalize World.setCell (World.setCell _ _ _) _ _ = W
      intro o0 o1 o2
      simp [results, Try.results48, go_sem, o0, o1, o2]
    · have hk1' : (k == 1) = false := beq_eq_false_iff_ne.2 hk1
      clear hk0 hk1
      go_wp2_with fail
      obtain ⟨o0, o1, o2⟩ := row3_out HR4.out (.int .i64 q) (.int .i64 (1 + e)) (.slice p l c)
      refine bodyPost_ret (v := .agg #[.int .i64 q, .int .i64 (1 + e), .slice p l c]) ?_ rfl ⟨isSec (secB_of q0 (by omega) (by omega) (by omega) (by omega)) hL.out ?_, ?_, ?_⟩
      · revert o0 o1 o2
        clear HR4 HS4 HG4 HA4 HO4 a0 a1 a2 af0 af1 af2 r0 r1 r2 rf0 rf1 rf2
        generalize World.setCell (World.setCell _ _ _) _ _ = W
        intro o0 o1 o2
        simp [results, Try.results48, go_sem, o0, o1, o2]
      · exact (three_out rfl hB hB0 HO4.out HS4.out HG4.out _ _ _).1
      · exact (three_out rfl hB hB0 HO4.out HS4.out HG4.out _ _ _).2.1
      · exact (three_out rfl hB hB0 HO4.out HS4.out HG4.out _ _ _).2.2
theorem make_101 (w : World) : (Instr.makeSlice 22 (.int .i64 101) (.int .i64 101)).run Try.prog w = .ok (.slice (some ⟨w.heap.size, 0, none⟩) 101 101) (w.alloc (.cells (madeCells #[.int .u8 0] 101) 5)) := by
  have hI := infoByte
  cases hi : Try.prog.info? 5 with
  | none => rw [hi] at hI; simp at hI
  | some i =>
    rw [hi] at hI
    simp at hI
    obtain ⟨hz, hs, hb⟩ := hI
    have h := run_make (P := Try.prog) w 22 5 i _ underBytes hi hz .i64 .i64 101 101 (by omega) (by omega) (by rw [hb]; omega) (by omega)
    rw [hs] at h
    exact h
theorem made_own (w : World) {base : Nat} {C : Array Value} (hb : base ≤ w.heap.size) (h : madeCells #[.int .u8 0] 101 = C) : OwnsB (w.alloc (.cells C 5)) base (.slice (some ⟨w.heap.size, 0, none⟩) 101 101) (List.replicate 101 0) := by
  have hl : (List.replicate 101 (0 : UInt8)).length = 101 := List.length_replicate
  unfold OwnsB
  rw [hl]
  refine ⟨by simp [bys], .inr ⟨w.heap.size, 101, C, rfl, hb, heap_alloc_new w _, Nat.le_refl _, by decide, by rw [← h, size_madeCells], ?_⟩⟩
  rw [← h, toList_madeCells_one]
  simp [bys, byV]
theorem made_own' {w : World} {base n : Nat} {C : Array Value} (hn : w.heap.size = n) (hb : base ≤ n) (h : madeCells #[.int .u8 0] 101 = C) : OwnsB (w.alloc (.cells C 5)) base (.slice (some ⟨n, 0, none⟩) 101 101) (List.replicate 101 0) := by
  subst hn
  exact made_own w hb h
theorem RowAt.up {B0 B1 : Nat} {w : World} {a : Option Addr} {len : Nat} (h : RowAt B0 w a len) (hb : B0 ≤ B1) : RowAt B1 w a len := by
  intro j hj
  obtain ⟨b, off, n, e, hlt, r⟩ := h j hj
  exact ⟨b, off, n, e, by omega, r⟩
end Go.Proofs.Ytkdnddckogbgaaa
