/- Texts of the verifier, joined: RdT, EvS. -/
import Derived.Test.YtkdnddckogbgaaaGreatDoorFO10
import Derived.Test.YtkdnddckogbgaaaGreatDoorFO2
import Derived.RegionTactic
namespace Go.Proofs.YtkdnddckogbgaaaGreatDoor
open Go.RowKit Go.Deep
set_option linter.unusedVariables false
set_option linter.unusedSimpArgs false
set_option maxRecDepth 10000

theorem own_set {w : World} {V : Nat} {xs : List Value} (h : Own w [(some ⟨V, 0, none⟩, xs)]) (i : Nat) (hi : i < xs.length) (v : Value) : Own (w.setCell ⟨V, i, none⟩ v) [(some ⟨V, 0, none⟩, xs.set i v)] := by
  refine h.wrote (by simp) (Or.inr ⟨V, 0, rfl, fun j hj => ?_⟩) (fun p => frozen_set _ _ _ _)
  rw [List.length_set] at hj
  have hc : ∀ j (hj : j < xs.length), w.cell? ⟨V, 0 + j, none⟩ = some xs[j] := by
    rcases h.one with h' | ⟨b, off, e, h'⟩
    · rw [h'] at hi; simp at hi
    · have e' := Option.some.inj e
      injection e' with e1 e2
      subst e1 e2
      exact h'
  simp only [Nat.zero_add] at hc ⊢
  rw [List.getElem_set]
  by_cases e : i = j
  · subst e
    rw [if_pos rfl]
    exact World.cell?_setCell_same _ _ _ (hc i hi)
  · rw [if_neg e, World.cell?_setCell_other _ _ _ _ (fun h => e (by injection h))]
    exact hc j hj
theorem Turn.setNew {fs : List Nat} {W w : World} (h : Turn fs W w) {a : Addr} (ha : W.heap.size ≤ a.block) (v : Value) : Turn fs W (w.setCell a v) :=
  ⟨h.os, h.tape, h.output, by rw [nblk_setCell]; exact h.size, fun k hk hn => by
    rw [blk_setCell_other _ _ _ _ (fun e => by rw [e] at hk; omega)]
    exact h.block k hk hn⟩
theorem number_t (B b off : Nat) (L : List UInt8) (cap p s n : Nat) (hn : numL (cut L p s) = n) (w : World) (hr : Rd w B (some ⟨b, off, none⟩) L cap p) (hB : b ≠ B) (hc : Cells w (some ⟨b, off, none⟩) (bys L)) (hl : L.length ≤ 16777216) (hcap : L.length ≤ cap) (hcm : cap ≤ 9223372036854775807) (hs1 : 1 ≤ s) (hs2 : s ≤ 7) (h : p + s ≤ L.length) :
    Calls Tryz.prog 109 #[.pointer (some ⟨B, 0, none⟩), .int .i64 (s : Int)] w fun e w' => e = .returned (.int .i64 (n : Int)) ∧ Rd w' B (some ⟨b, off, none⟩) L cap (p + s : Nat) ∧ Turn [B] w w' := by
  refine (number_yes B b off L cap p s w hr hB hc hl hcap hcm hs1 hs2 h).mono ?_
  rintro e w' ⟨rfl, m, rfl⟩
  refine ⟨by rw [← hn]; rfl, ⟨?_, ?_, ?_⟩, ?_⟩
  · rw [World.cell?_setCell_other _ _ _ _ (by simp)]; simpa using hr.data
  · exact World.cell?_setCell_same _ _ _ (u := .int .i64 p) (by simpa using hr.place)
  · rw [frozen_set]; simpa using hr.free
  · exact Turn.trans' (Turn.of_keeps ((Keeps.refl w).drewN m) [B]) (Turn.set (by simp) _)
/-- A reader over bytes that were there, and a struct of the call's own, made since W. -/
structure RS (W w : World) (B b off : Nat) (L : List UInt8) (cap : Nat) (p : Nat) (V : Nat) (xs : List Value) : Prop where
  rd : Rd w B (some ⟨b, off, none⟩) L cap p
  cells : Cells w (some ⟨b, off, none⟩) (bys L)
  own : Own w [(some ⟨V, 0, none⟩, xs)]
  turn : Turn [B] W w
  newV : W.heap.size ≤ V
  oldB : B < W.heap.size
  oldb : b < W.heap.size
  ne : b ≠ B
section
variable {W w w' : World} {B b off : Nat} {L : List UInt8} {cap p V : Nat} {xs ys : List Value}
theorem RS.num (h : RS W w B b off L cap p V xs) {q : Nat} (hr : Rd w' B (some ⟨b, off, none⟩) L cap q) (ht : Turn [B] w w') : RS W w' B b off L cap q V xs :=
  ⟨hr, Cells.turn (s := (some ⟨b, off, none⟩, bys L)) h.cells ht (fun x hx hb => by
      have h1 : x = B := by simpa using hb
      subst h1
      by_cases h0 : bys L = []
      · simp [fpS, h0] at hx
      · rw [fpS_some h0] at hx
        exact h.ne ((show x = b by simpa using hx).symm)),
    h.own.turn ht (fun x hx hb => by
      have h1 : x = B := by simpa using hb
      subst h1
      rw [fp_one] at hx
      by_cases h0 : xs = []
      · simp [fpS, h0] at hx
      · rw [fpS_some h0] at hx
        have h2 : x = V := by simpa using hx
        have := h.newV
        have := h.oldB
        omega), h.turn.trans' ht, h.newV, h.oldB, h.oldb, h.ne⟩
theorem RS.set (h : RS W w B b off L cap p V xs) (i : Nat) (hi : i < xs.length) (v : Value) (hy : ys = xs.set i v) : RS W (w.setCell ⟨V, i, none⟩ v) B b off L cap p V ys := by
  have h1 := h.newV
  have h2 := h.oldB
  have h3 := h.oldb
  refine ⟨⟨?_, ?_, ?_⟩, ?_, by rw [hy]; exact own_set h.own i hi v, h.turn.setNew h.newV v, h1, h2, h3, h.ne⟩
  · rw [World.cell?_setCell_other _ _ _ _ (fun e => by injection e; omega)]; exact h.rd.data
  · rw [World.cell?_setCell_other _ _ _ _ (fun e => by injection e; omega)]; exact h.rd.place
  · rw [frozen_set]; exact h.rd.free
  · refine Cells.turn (s := (some ⟨b, off, none⟩, bys L)) h.cells (Turn.set (fs := [V]) (by simp) v) (fun x hx hb => ?_)
    have e1 : x = V := by simpa using hb
    by_cases h0 : bys L = []
    · simp [fpS, h0] at hx
    · rw [fpS_some h0] at hx
      have e2 : x = b := by simpa using hx
      omega
theorem RS.other (h : RS W w B b off L cap p V xs) {V' i : Nat} (hne : V' ≠ V) (hnew : W.heap.size ≤ V') (v : Value) : RS W (w.setCell ⟨V', i, none⟩ v) B b off L cap p V xs := by
  have h1 := h.newV
  have h2 := h.oldB
  have h3 := h.oldb
  refine ⟨⟨?_, ?_, ?_⟩, ?_, ?_, h.turn.setNew hnew v, h1, h2, h3, h.ne⟩
  · rw [World.cell?_setCell_other _ _ _ _ (fun e => by injection e; omega)]; exact h.rd.data
  · rw [World.cell?_setCell_other _ _ _ _ (fun e => by injection e; omega)]; exact h.rd.place
  · rw [frozen_set]; exact h.rd.free
  · refine Cells.turn (s := (some ⟨b, off, none⟩, bys L)) h.cells (Turn.set (fs := [V']) (by simp) v) (fun x hx hb => ?_)
    have e1 : x = V' := by simpa using hb
    by_cases h0 : bys L = []
    · simp [fpS, h0] at hx
    · rw [fpS_some h0] at hx
      have e2 : x = b := by simpa using hx
      omega
  · refine h.own.turn (Turn.set (fs := [V']) (by simp) v) (fun x hx hb => ?_)
    have e1 : x = V' := by simpa using hb
    rw [fp_one] at hx
    by_cases h0 : xs = []
    · simp [fpS, h0] at hx
    · rw [fpS_some h0] at hx
      exact hne (e1.symm.trans (by simpa using hx))
theorem RS.cell (h : RS W w B b off L cap p V xs) (i : Nat) (hi : i < xs.length) {v : Value} (hv : xs[i] = v) : w.cell? ⟨V, i, none⟩ = some v := by
  have := cell_at h.own.mem i hi
  rw [Nat.zero_add, hv] at this
  exact this
theorem RS.free (h : RS W w B b off L cap p V xs) (hx : xs ≠ []) : ∀ i, w.frozen? ⟨V, i, none⟩ = false := h.own.free V (by rw [fp_one, fpS_some hx]; simp)
theorem RS.drew (h : RS W w B b off L cap p V xs) : RS W w.drew B b off L cap p V xs :=
  ⟨⟨by simpa using h.rd.data, by simpa using h.rd.place, by simpa using h.rd.free⟩, h.cells.kept (Keeps.drew (Keeps.refl w)), h.own.kept (Keeps.drew (Keeps.refl w)), h.turn.trans' (Turn.of_keeps (Keeps.drew (Keeps.refl w)) _), h.newV, h.oldB, h.oldb, h.ne⟩
theorem RS.kept (h : RS W w B b off L cap p V xs) (hk : Keeps w w') : RS W w' B b off L cap p V xs :=
  ⟨⟨hk.cell h.rd.data, hk.cell h.rd.place, by rw [hk.oldF _ _ (lt_of_cell h.rd.place)]; exact h.rd.free⟩, h.cells.kept hk, h.own.kept hk, h.turn.trans' (Turn.of_keeps hk _), h.newV, h.oldB, h.oldb, h.ne⟩
end
end Go.Proofs.YtkdnddckogbgaaaGreatDoor
namespace Go.Proofs.YtkdnddckogbgaaaGreatDoor
open Go.RowKit
set_option linter.unusedVariables false
set_option maxRecDepth 10000

theorem ret_ev {a b : Bool} (h : a = b) : Ending.returned (.bool a) = .returned (.bool b) := by rw [h]
theorem field_k (h : Bool) (n lo hi : Int) (w : World) : Calls Tryz.prog 74 #[.bool h, .int .i64 n, .int .i64 lo, .int .i64 hi] w fun e w' => e = .returned (.bool (fieldB h n lo hi)) ∧ Keeps w w' := by
  cases h
  · have H : Hid (fieldB false n lo hi = decide (n = 0)) := rfl
    go_enter Tryz.func74, Tryz.ntmps74
    go_wp2
    go_ret
    exact ⟨ret_ev (by rw [H.out]; rfl), Keeps.refl _⟩
  · have H : Hid (fieldB true n lo hi = (decide (lo ≤ n) && decide (n ≤ hi))) := rfl
    by_cases h1 : lo ≤ n
    · have H2 : Hid (fieldB true n lo hi = decide (n ≤ hi)) := by show _ = _; rw [H.out, decide_eq_true h1, Bool.true_and]
      go_enter Tryz.func74, Tryz.ntmps74
      go_wp2
      go_ret
      exact ⟨ret_ev (by rw [H2.out]), Keeps.refl _⟩
    · have H2 : Hid (fieldB true n lo hi = false) := by show _ = _; rw [H.out, decide_eq_false h1, Bool.false_and]
      go_enter Tryz.func74, Tryz.ntmps74
      go_wp2
      go_ret
      exact ⟨ret_ev (by rw [H2.out]), Keeps.refl _⟩
theorem field_is (h : Bool) (n lo hi : Int) (r : Bool) (hr : fieldB h n lo hi = r) (w : World) : Calls Tryz.prog 74 #[.bool h, .int .i64 n, .int .i64 lo, .int .i64 hi] w fun e w' => e = .returned (.bool r) ∧ Keeps w w' := by
  rw [← hr]; exact field_k h n lo hi w
/-- What the model's EventOk tests, at what its table says of the kind. -/
def evF (lo hi : Int) (h0 h1 h2 h3 h4 h5 : Bool) (y c t m f : Int) (b : Bool) : Bool :=
  fieldB h0 y 1 1000000 && fieldB h1 c 1 99 && fieldB h2 t 1 99 && !(h2 && decide (c = t)) && fieldB h3 m lo 1125899906842624 && fieldB h4 f 0 hi && (h5 || !b)
abbrev hasPost (h0 h1 h2 h3 h4 h5 : Bool) (w1 : World) (e : Ending) (w' : World) : Prop := e = .returned (.slice (some ⟨w1.heap.size, 0, none⟩) 6 6) ∧ w' = w1.alloc (.cells #[.bool h0, .bool h1, .bool h2, .bool h3, .bool h4, .bool h5] 4)

theorem has_1 (w : World) : Calls Tryz.prog 73 #[.int .i64 1] w (hasPost false false false true false false w) := by
  go_enter Tryz.func73, Tryz.ntmps73
  go_wp2
  go_ret
  exact ⟨rfl, rfl⟩
theorem has_2 (w : World) : Calls Tryz.prog 73 #[.int .i64 2] w (hasPost false true false true true false w) := by
  go_enter Tryz.func73, Tryz.ntmps73
  go_wp2
  go_ret
  exact ⟨rfl, rfl⟩
theorem has_4 (w : World) : Calls Tryz.prog 73 #[.int .i64 4] w (hasPost false true false true true false w) := by
  go_enter Tryz.func73, Tryz.ntmps73
  go_wp2
  go_ret
  exact ⟨rfl, rfl⟩
theorem has_3 (w : World) : Calls Tryz.prog 73 #[.int .i64 3] w (hasPost false true false false true false w) := by
  go_enter Tryz.func73, Tryz.ntmps73
  go_wp2
  go_ret
  exact ⟨rfl, rfl⟩
theorem has_5 (w : World) : Calls Tryz.prog 73 #[.int .i64 5] w (hasPost true true true true false true w) := by
  go_enter Tryz.func73, Tryz.ntmps73
  go_wp2
  go_ret
  exact ⟨rfl, rfl⟩
theorem has_9 (w : World) : Calls Tryz.prog 73 #[.int .i64 9] w (hasPost true true true true true false w) := by
  go_enter Tryz.func73, Tryz.ntmps73
  go_wp2
  go_ret
  exact ⟨rfl, rfl⟩
theorem has_8 (w : World) : Calls Tryz.prog 73 #[.int .i64 8] w (hasPost false false false false false false w) := by
  go_enter Tryz.func73, Tryz.ntmps73
  go_wp2
  go_ret
  exact ⟨rfl, rfl⟩
theorem has_6 (w : World) : Calls Tryz.prog 73 #[.int .i64 6] w (hasPost true false false false false false w) := by
  go_enter Tryz.func73, Tryz.ntmps73
  go_wp2
  go_ret
  exact ⟨rfl, rfl⟩
theorem has_7 (w : World) : Calls Tryz.prog 73 #[.int .i64 7] w (hasPost true false false false false false w) := by
  go_enter Tryz.func73, Tryz.ntmps73
  go_wp2
  go_ret
  exact ⟨rfl, rfl⟩
theorem has_10 (w : World) : Calls Tryz.prog 73 #[.int .i64 10] w (hasPost true false false false false false w) := by
  go_enter Tryz.func73, Tryz.ntmps73
  go_wp2
  go_ret
  exact ⟨rfl, rfl⟩
theorem has_11 (w : World) : Calls Tryz.prog 73 #[.int .i64 11] w (hasPost true false false false false false w) := by
  go_enter Tryz.func73, Tryz.ntmps73
  go_wp2
  go_ret
  exact ⟨rfl, rfl⟩
theorem evw1 {w w1 : World} {k y c t m f : Int} {b a0 a1 a2 a3 a4 a5 : Bool} (h : w1 = (w.alloc (.cells (evCells k y c t m f b) 30)).alloc (.cells #[.bool a0, .bool a1, .bool a2, .bool a3, .bool a4, .bool a5] 4)) :
    Keeps w w1 ∧ (w1.cell? ⟨w.heap.size, 0, none⟩ = some (.int .i64 k) ∧ w1.cell? ⟨w.heap.size, 1, none⟩ = some (.int .i64 y) ∧ w1.cell? ⟨w.heap.size, 2, none⟩ = some (.int .i64 c) ∧ w1.cell? ⟨w.heap.size, 3, none⟩ = some (.int .i64 t) ∧ w1.cell? ⟨w.heap.size, 4, none⟩ = some (.int .i64 m) ∧ w1.cell? ⟨w.heap.size, 5, none⟩ = some (.int .i64 f) ∧ w1.cell? ⟨w.heap.size, 6, none⟩ = some (.bool b)) ∧ w1.cell? ⟨w.heap.size + 1, 0, none⟩ = some (.bool a0) ∧ w1.cell? ⟨w.heap.size + 1, 1, none⟩ = some (.bool a1) ∧ w1.cell? ⟨w.heap.size + 1, 2, none⟩ = some (.bool a2) ∧ w1.cell? ⟨w.heap.size + 1, 3, none⟩ = some (.bool a3) ∧ w1.cell? ⟨w.heap.size + 1, 4, none⟩ = some (.bool a4) ∧ w1.cell? ⟨w.heap.size + 1, 5, none⟩ = some (.bool a5) := by
  have d1 : Keeps (w.alloc (.cells (evCells k y c t m f b) 30)) w1 := by rw [h]; exact Keeps.alloc (Keeps.refl _) _
  refine ⟨by rw [h]; exact Keeps.alloc (Keeps.alloc (Keeps.refl w) _) _, ⟨d1.cell (p := ⟨w.heap.size, 0, none⟩) (by simp), d1.cell (p := ⟨w.heap.size, 1, none⟩) (by simp), d1.cell (p := ⟨w.heap.size, 2, none⟩) (by simp), d1.cell (p := ⟨w.heap.size, 3, none⟩) (by simp), d1.cell (p := ⟨w.heap.size, 4, none⟩) (by simp), d1.cell (p := ⟨w.heap.size, 5, none⟩) (by simp), d1.cell (p := ⟨w.heap.size, 6, none⟩) (by simp)⟩, ?_, ?_, ?_, ?_, ?_, ?_⟩ <;> rw [h] <;> simp
set_option maxHeartbeats 4000000 in
theorem evok_core (k y c t m f : Int) (b : Bool) (h0 h1 h2 h3 h4 h5 : Bool) (w : World) (hk1 : 1 ≤ k) (hk2 : k ≤ 11) (hk4 : (k == 4) = false) (HH : Hid (∀ w1, Calls Tryz.prog 73 #[.int .i64 k] w1 (hasPost h0 h1 h2 h3 h4 h5 w1))) :
    Calls Tryz.prog 37 #[evV k y c t m f b] w fun e w' => e = .returned (.bool (evF 1 1125899906842624 h0 h1 h2 h3 h4 h5 y c t m f b)) ∧ Keeps w w' := by
  have HF : Hid (evF 1 1125899906842624 h0 h1 h2 h3 h4 h5 y c t m f b = (fieldB h0 y 1 1000000 && fieldB h1 c 1 99 && fieldB h2 t 1 99 && !(h2 && decide (c = t)) && fieldB h3 m 1 1125899906842624 && fieldB h4 f 0 1125899906842624 && (h5 || !b))) := rfl
  generalize evF 1 1125899906842624 h0 h1 h2 h3 h4 h5 y c t m f b = R at *
  cases f0 : fieldB h0 y 1 1000000
  have HR : Hid (R = false) := by show _ = _; rw [HF.out]; simp [f0]
  have hA := trivial
  rotate_left
  cases f1 : fieldB h1 c 1 99
  have HR : Hid (R = false) := by show _ = _; rw [HF.out]; simp [f0, f1]
  have hA := trivial
  rotate_left
  cases f2 : fieldB h2 t 1 99
  have HR : Hid (R = false) := by show _ = _; rw [HF.out]; simp [f0, f1, f2]
  have hA := trivial
  rotate_left
  cases h2
  rotate_left
  by_cases hct : c = t
  subst hct
  have HR : Hid (R = false) := by show _ = _; rw [HF.out]; simp [f0, f1, f2]
  have hA := trivial
  rotate_left
  have hct2 : (c == t) = false := beq_eq_false_iff_ne.2 hct
  have hct3 : decide (c = t) = false := decide_eq_false hct
  clear hct
  all_goals (first
    | (have hz := hA; clear hz)
    | (cases f3 : fieldB h3 m 1 1125899906842624
       have HR : Hid (R = false) := by show _ = _; rw [HF.out]; first | (simp [f0, f1, f2, f3]; done) | simp [f0, f1, f2, f3, hct3]
       have hB := trivial
       rotate_left
       cases f4 : fieldB h4 f 0 1125899906842624
       have HR : Hid (R = false) := by show _ = _; rw [HF.out]; first | (simp [f0, f1, f2, f3, f4]; done) | simp [f0, f1, f2, f3, f4, hct3]
       have hB := trivial
       rotate_left
       cases h5
       have HR : Hid (R = !b) := by show _ = _; rw [HF.out]; first | (simp [f0, f1, f2, f3, f4]; done) | simp [f0, f1, f2, f3, f4, hct3]
       have hB := trivial
       rotate_left
       have HR : Hid (R = true) := by show _ = _; rw [HF.out]; first | (simp [f0, f1, f2, f3, f4]; done) | simp [f0, f1, f2, f3, f4, hct3]
       have hB := trivial))
  all_goals (first
    | (have hz := hA
       clear hz hA HF
       go_enter Tryz.func37, Tryz.ntmps37
       go_wp2_with fail
       refine (unhide HH _).mono ?_
       rintro e w1 ⟨rfl, hw1⟩
       obtain ⟨hk, ⟨c0, c1, c2, c3, c4, c5, c6⟩, e0, e1, e2, e3, e4, e5⟩ := evw1 hw1
       have HK := hide hk
       clear hk hw1 HH
       have g1 := gr_cell c1
       have g2 := gr_cell c2
       have g3 := gr_cell c3
       have i0 := gr_cell e0
       have i1 := gr_cell e1
       have i2 := gr_cell e2
       go_wp2_with fail
       refine region_gr (by kernel_rfl) (by kernel_rfl) ?_
       repeat (go_big_quiet_step (first | (go_at_call 74; exact gr_call (field_is _ _ _ _ _ (by assumption) _))))
       refine wpQuiet_nil ?_
       intro w2 hw2
       have hk2 := Keeps.of_gr hw2
       clear hw2 g1 g2 g3 i0 i1 i2
       go_wp2_with fail
       go_ret
       exact ⟨ret_ev (by rw [HR.out]), HK.out.trans hk2⟩)
    | (have hz := hB
       clear hz hB HF
       go_enter Tryz.func37, Tryz.ntmps37
       go_wp2_with fail
       refine (unhide HH _).mono ?_
       rintro e w1 ⟨rfl, hw1⟩
       obtain ⟨hk, ⟨c0, c1, c2, c3, c4, c5, c6⟩, e0, e1, e2, e3, e4, e5⟩ := evw1 hw1
       have HK := hide hk
       clear hk hw1 HH
       have g1 := gr_cell c1
       have g2 := gr_cell c2
       have g3 := gr_cell c3
       have i0 := gr_cell e0
       have i1 := gr_cell e1
       have i2 := gr_cell e2
       go_wp2_with fail
       refine region_gr (by kernel_rfl) (by kernel_rfl) ?_
       repeat (go_big_quiet_step (first | (go_at_call 74; exact gr_call (field_is _ _ _ _ _ (by assumption) _))))
       refine wpQuiet_nil ?_
       intro w2 hw2
       have hk2 := Keeps.of_gr hw2
       clear hw2 g1 g2 g3 i0 i1 i2
       have g4 := gr_cell (hk2.cell c4)
       have g5 := gr_cell (hk2.cell c5)
       have g6 := gr_cell (hk2.cell c6)
       have i3 := gr_cell (hk2.cell e3)
       have i4 := gr_cell (hk2.cell e4)
       have i5 := gr_cell (hk2.cell e5)
       replace HK := hide (HK.out.trans hk2)
       clear hk2 c0 c1 c2 c3 c4 c5 c6 e0 e1 e2 e3 e4 e5
       go_wp2_with fail
       refine region_gr (by kernel_rfl) (by kernel_rfl) ?_
       repeat (go_big_quiet_step (first | (go_at_call 74; exact gr_call (field_is _ _ _ _ _ (by assumption) _))))
       refine wpQuiet_nil ?_
       intro w3 hw3
       have hk2 := Keeps.of_gr hw3
       clear hw3
       go_wp2_with fail
       go_ret
       exact ⟨ret_ev (by rw [HR.out]), HK.out.trans hk2⟩))
set_option maxHeartbeats 4000000 in
theorem evok_four (y c t m f : Int) (b : Bool) (h0 h1 h2 h3 h4 h5 : Bool) (w : World) (HH : Hid (∀ w1, Calls Tryz.prog 73 #[.int .i64 4] w1 (hasPost h0 h1 h2 h3 h4 h5 w1))) :
    Calls Tryz.prog 37 #[evV 4 y c t m f b] w fun e w' => e = .returned (.bool (evF 0 1000000 h0 h1 h2 h3 h4 h5 y c t m f b)) ∧ Keeps w w' := by
  have HF : Hid (evF 0 1000000 h0 h1 h2 h3 h4 h5 y c t m f b = (fieldB h0 y 1 1000000 && fieldB h1 c 1 99 && fieldB h2 t 1 99 && !(h2 && decide (c = t)) && fieldB h3 m 0 1125899906842624 && fieldB h4 f 0 1000000 && (h5 || !b))) := rfl
  generalize evF 0 1000000 h0 h1 h2 h3 h4 h5 y c t m f b = R at *
  cases f0 : fieldB h0 y 1 1000000
  have HR : Hid (R = false) := by show _ = _; rw [HF.out]; simp [f0]
  have hA := trivial
  rotate_left
  cases f1 : fieldB h1 c 1 99
  have HR : Hid (R = false) := by show _ = _; rw [HF.out]; simp [f0, f1]
  have hA := trivial
  rotate_left
  cases f2 : fieldB h2 t 1 99
  have HR : Hid (R = false) := by show _ = _; rw [HF.out]; simp [f0, f1, f2]
  have hA := trivial
  rotate_left
  cases h2
  rotate_left
  by_cases hct : c = t
  subst hct
  have HR : Hid (R = false) := by show _ = _; rw [HF.out]; simp [f0, f1, f2]
  have hA := trivial
  rotate_left
  have hct2 : (c == t) = false := beq_eq_false_iff_ne.2 hct
  have hct3 : decide (c = t) = false := decide_eq_false hct
  clear hct
  all_goals (first
    | (have hz := hA; clear hz)
    | (cases f3 : fieldB h3 m 0 1125899906842624
       have HR : Hid (R = false) := by show _ = _; rw [HF.out]; first | (simp [f0, f1, f2, f3]; done) | simp [f0, f1, f2, f3, hct3]
       have hB := trivial
       rotate_left
       cases f4 : fieldB h4 f 0 1000000
       have HR : Hid (R = false) := by show _ = _; rw [HF.out]; first | (simp [f0, f1, f2, f3, f4]; done) | simp [f0, f1, f2, f3, f4, hct3]
       have hB := trivial
       rotate_left
       cases h5
       have HR : Hid (R = !b) := by show _ = _; rw [HF.out]; first | (simp [f0, f1, f2, f3, f4]; done) | simp [f0, f1, f2, f3, f4, hct3]
       have hB := trivial
       rotate_left
       have HR : Hid (R = true) := by show _ = _; rw [HF.out]; first | (simp [f0, f1, f2, f3, f4]; done) | simp [f0, f1, f2, f3, f4, hct3]
       have hB := trivial))
  all_goals (first
    | (have hz := hA
       clear hz hA HF
       go_enter Tryz.func37, Tryz.ntmps37
       go_wp2_with fail
       refine (unhide HH _).mono ?_
       rintro e w1 ⟨rfl, hw1⟩
       obtain ⟨hk, ⟨c0, c1, c2, c3, c4, c5, c6⟩, e0, e1, e2, e3, e4, e5⟩ := evw1 hw1
       have HK := hide hk
       clear hk hw1 HH
       have g1 := gr_cell c1
       have g2 := gr_cell c2
       have g3 := gr_cell c3
       have i0 := gr_cell e0
       have i1 := gr_cell e1
       have i2 := gr_cell e2
       go_wp2_with fail
       refine region_gr (by kernel_rfl) (by kernel_rfl) ?_
       repeat (go_big_quiet_step (first | (go_at_call 74; exact gr_call (field_is _ _ _ _ _ (by assumption) _))))
       refine wpQuiet_nil ?_
       intro w2 hw2
       have hk2 := Keeps.of_gr hw2
       clear hw2 g1 g2 g3 i0 i1 i2
       go_wp2_with fail
       go_ret
       exact ⟨ret_ev (by rw [HR.out]), HK.out.trans hk2⟩)
    | (have hz := hB
       clear hz hB HF
       go_enter Tryz.func37, Tryz.ntmps37
       go_wp2_with fail
       refine (unhide HH _).mono ?_
       rintro e w1 ⟨rfl, hw1⟩
       obtain ⟨hk, ⟨c0, c1, c2, c3, c4, c5, c6⟩, e0, e1, e2, e3, e4, e5⟩ := evw1 hw1
       have HK := hide hk
       clear hk hw1 HH
       have g1 := gr_cell c1
       have g2 := gr_cell c2
       have g3 := gr_cell c3
       have i0 := gr_cell e0
       have i1 := gr_cell e1
       have i2 := gr_cell e2
       go_wp2_with fail
       refine region_gr (by kernel_rfl) (by kernel_rfl) ?_
       repeat (go_big_quiet_step (first | (go_at_call 74; exact gr_call (field_is _ _ _ _ _ (by assumption) _))))
       refine wpQuiet_nil ?_
       intro w2 hw2
       have hk2 := Keeps.of_gr hw2
       clear hw2 g1 g2 g3 i0 i1 i2
       have g4 := gr_cell (hk2.cell c4)
       have g5 := gr_cell (hk2.cell c5)
       have g6 := gr_cell (hk2.cell c6)
       have i3 := gr_cell (hk2.cell e3)
       have i4 := gr_cell (hk2.cell e4)
       have i5 := gr_cell (hk2.cell e5)
       replace HK := hide (HK.out.trans hk2)
       clear hk2 c0 c1 c2 c3 c4 c5 c6 e0 e1 e2 e3 e4 e5
       go_wp2_with fail
       refine region_gr (by kernel_rfl) (by kernel_rfl) ?_
       repeat (go_big_quiet_step (first | (go_at_call 74; exact gr_call (field_is _ _ _ _ _ (by assumption) _))))
       refine wpQuiet_nil ?_
       intro w3 hw3
       have hk2 := Keeps.of_gr hw3
       clear hw3
       go_wp2_with fail
       go_ret
       exact ⟨ret_ev (by rw [HR.out]), HK.out.trans hk2⟩))
theorem evok_spec (k y c t m f : Int) (b : Bool) (w : World) :
    Calls Tryz.prog 37 #[evV k y c t m f b] w fun e w' => e = .returned (.bool (evB k y c t m f b)) ∧ Keeps w w' := by
  by_cases h1 : k < 1
  · have H : Hid (evB k y c t m f b = false) := by show _ = _; unfold evB; repeat rw [if_neg (by omega)]
    go_enter Tryz.func37, Tryz.ntmps37
    go_wp2_with fail
    go_ret
    exact ⟨ret_ev (by rw [H.out]), Keeps.alloc (Keeps.refl _) _⟩
  · by_cases h2 : 11 < k
    · have H : Hid (evB k y c t m f b = false) := by show _ = _; unfold evB; repeat rw [if_neg (by omega)]
      go_enter Tryz.func37, Tryz.ntmps37
      go_wp2_with fail
      go_ret
      exact ⟨ret_ev (by rw [H.out]), Keeps.alloc (Keeps.refl _) _⟩
    · have hk : k = 1 ∨ k = 2 ∨ k = 3 ∨ k = 4 ∨ k = 5 ∨ k = 6 ∨ k = 7 ∨ k = 8 ∨ k = 9 ∨ k = 10 ∨ k = 11 := by omega
      rcases hk with rfl | rfl | rfl | rfl | rfl | rfl | rfl | rfl | rfl | rfl | rfl
      · refine (evok_core 1 y c t m f b false false false true false false w (by decide) (by decide) (by decide) (hide has_1)).mono fun e w' ⟨he, hk⟩ => ⟨?_, hk⟩
        rw [he]
        exact ret_ev (by simp [evF, evB])
      · refine (evok_core 2 y c t m f b false true false true true false w (by decide) (by decide) (by decide) (hide has_2)).mono fun e w' ⟨he, hk⟩ => ⟨?_, hk⟩
        rw [he]
        exact ret_ev (by simp [evF, evB])
      · refine (evok_core 3 y c t m f b false true false false true false w (by decide) (by decide) (by decide) (hide has_3)).mono fun e w' ⟨he, hk⟩ => ⟨?_, hk⟩
        rw [he]
        exact ret_ev (by simp [evF, evB])
      · refine (evok_four y c t m f b false true false true true false w (hide has_4)).mono fun e w' ⟨he, hk⟩ => ⟨?_, hk⟩
        rw [he]
        exact ret_ev (by simp [evF, evB])
      · refine (evok_core 5 y c t m f b true true true true false true w (by decide) (by decide) (by decide) (hide has_5)).mono fun e w' ⟨he, hk⟩ => ⟨?_, hk⟩
        rw [he]
        exact ret_ev (by simp [evF, evB])
      · refine (evok_core 6 y c t m f b true false false false false false w (by decide) (by decide) (by decide) (hide has_6)).mono fun e w' ⟨he, hk⟩ => ⟨?_, hk⟩
        rw [he]
        exact ret_ev (by simp [evF, evB])
      · refine (evok_core 7 y c t m f b true false false false false false w (by decide) (by decide) (by decide) (hide has_7)).mono fun e w' ⟨he, hk⟩ => ⟨?_, hk⟩
        rw [he]
        exact ret_ev (by simp [evF, evB])
      · refine (evok_core 8 y c t m f b false false false false false false w (by decide) (by decide) (by decide) (hide has_8)).mono fun e w' ⟨he, hk⟩ => ⟨?_, hk⟩
        rw [he]
        exact ret_ev (by simp [evF, evB])
      · refine (evok_core 9 y c t m f b true true true true true false w (by decide) (by decide) (by decide) (hide has_9)).mono fun e w' ⟨he, hk⟩ => ⟨?_, hk⟩
        rw [he]
        exact ret_ev (by simp [evF, evB])
      · refine (evok_core 10 y c t m f b true false false false false false w (by decide) (by decide) (by decide) (hide has_10)).mono fun e w' ⟨he, hk⟩ => ⟨?_, hk⟩
        rw [he]
        exact ret_ev (by simp [evF, evB])
      · refine (evok_core 11 y c t m f b true false false false false false w (by decide) (by decide) (by decide) (hide has_11)).mono fun e w' ⟨he, hk⟩ => ⟨?_, hk⟩
        rw [he]
        exact ret_ev (by simp [evF, evB])
end Go.Proofs.YtkdnddckogbgaaaGreatDoor
