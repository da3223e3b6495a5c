/- The model's draw of two sectors: MakeSectors. -/
import Derived.Test.YtecjjkgdgmjgmaaDoorDrS
import Derived.Deep.RegionHeld3
namespace Go.Proofs.YtecjjkgdgmjgmaaDoor
open Go.RowKit Go.Deep
set_option linter.unusedVariables false
set_option maxRecDepth 100000
/-- Two right sectors of one place, with epochs that differ, and a number up to 128. -/
def TwoSecs (base : Nat) (w' : World) (x : Ending) : Prop := ∃ (q e f : Int) (p p' : Option Addr) (l c l' c' n : Nat) (L L' : List UInt8), secB q e l = true ∧ secB q f l' = true ∧ e ≠ f ∧ n ≤ 128 ∧ x = .returned (.tuple #[.agg #[.int .i64 q, .int .i64 e, .slice p l c], .agg #[.int .i64 q, .int .i64 f, .slice p' l' c'], .int .i64 n]) ∧ Hid (L.length = l ∧ OwnsB w' base (.slice p l c) L) ∧ Hid (L'.length = l' ∧ OwnsB w' base (.slice p' l' c') L')
/-- While two sectors are drawn: the cursor, the results' blocks, the two variables' blocks. -/
structure St (w : World) (a : Option Addr) (len cap bA bB : Nat) (q e q' e' : Int) (v v' : Value) (L L' : List UInt8) (W : World) : Prop where
  dr : Dr (w.heap.size + 2) (w.heap.size + 2) a len cap W
  keep : Keeps w W
  res : ∃ f, W.rowIs w.heap.size 24 3 f
  res' : ∃ f, W.rowIs (w.heap.size + 1) 24 3 f
  one : W.rowIs bA 24 3 (fun i => if i = 0 then .int .i64 q else if i = 1 then .int .i64 e else v)
  two : W.rowIs bB 24 3 (fun i => if i = 0 then .int .i64 q' else if i = 1 then .int .i64 e' else v')
  own : OwnsB W (w.heap.size + 2) v L
  own' : OwnsB W (w.heap.size + 2) v' L'
  lA : w.heap.size + 2 < bA
  lB : bA < bB
  ne : v.ownBlock ≠ some (w.heap.size + 2) ∧ v.ownBlock ≠ some bA ∧ v.ownBlock ≠ some bB
  ne' : v'.ownBlock ≠ some (w.heap.size + 2) ∧ v'.ownBlock ≠ some bA ∧ v'.ownBlock ≠ some bB
section
variable {w : World} {a : Option Addr} {len cap bA bB : Nat} {q e q' e' : Int} {v v' : Value} {L L' : List UInt8} {W W' : World}
theorem St.lt (s : St w a len cap bA bB q e q' e' v v' L L' W) : bB < W.heap.size := s.two.lt
theorem St.alloc (s : St w a len cap bA bB q e q' e' v v' L L' W) (o : Obj) : St w a len cap bA bB q e q' e' v v' L L' (W.alloc o) :=
  ⟨s.dr.grown (World.grownBy_alloc W o none) (by simp) (by simp), s.keep.alloc o, s.res.elim fun f h => ⟨f, h.alloc o⟩, s.res'.elim fun f h => ⟨f, h.alloc o⟩, s.one.alloc o, s.two.alloc o, OwnsB.alloc s.own o, OwnsB.alloc s.own' o, s.lA, s.lB, s.ne, s.ne'⟩
theorem St.drew (s : St w a len cap bA bB q e q' e' v v' L L' W) : St w a len cap bA bB q e q' e' v v' L L' W.drew :=
  ⟨⟨s.dr.cur, s.dr.row, s.dr.small⟩, ⟨s.keep.os, s.keep.tape, s.keep.output, s.keep.size, s.keep.block⟩, s.res, s.res', s.one, s.two, s.own, s.own', s.lA, s.lB, s.ne, s.ne'⟩
theorem St.turn (s : St w a len cap bA bB q e q' e' v v' L L' W) (d : Dr (w.heap.size + 2) (w.heap.size + 2) a len cap W') (g : W.grownBy W' (some (w.heap.size + 2))) : St w a len cap bA bB q e q' e' v v' L L' W' :=
  ⟨d, keeps_of s.keep g (by intro r hr; injection hr with hr; omega), s.res.elim fun f h => ⟨f, grown_row g (by simp) h⟩, s.res'.elim fun f h => ⟨f, grown_row g (by simp) h⟩, grown_row g (by have := s.lA; simp; omega) s.one, grown_row g (by have := s.lA; have := s.lB; simp; omega) s.two, World.ownsRow.kept s.own g (.inr s.ne.1), World.ownsRow.kept s.own' g (.inr s.ne'.1), s.lA, s.lB, s.ne, s.ne'⟩
theorem St.set1 (s : St w a len cap bA bB q e q' e' v v' L L' W) (f : Int) : St w a len cap bA bB q e q' f v v' L L' (W.setCell ⟨bB, 1, none⟩ (.int .i64 f)) := by
  have h1 := s.lA
  have h2 := s.lB
  refine ⟨s.dr.set (by omega) (by omega) _, s.keep.setCell (p := ⟨bB, 1, none⟩) (by show w.heap.size ≤ bB; omega) _, s.res.elim fun f h => ⟨f, h.setOther (a := ⟨bB, 1, none⟩) (by simp; omega) _⟩, s.res'.elim fun f h => ⟨f, h.setOther (a := ⟨bB, 1, none⟩) (by simp; omega) _⟩, s.one.setOther (a := ⟨bB, 1, none⟩) (by simp; omega) _, ?_, s.own.other s.ne.2.2, s.own'.other s.ne'.2.2, s.lA, s.lB, s.ne, s.ne'⟩
  have h := s.two.set 1 (.int .i64 f)
  refine h.congr ?_
  intro i hi
  by_cases h0 : i = 0
  · subst h0; rfl
  · by_cases h1 : i = 1 <;> simp [h0, h1]
theorem St.set0 (s : St w a len cap bA bB q e q' e' v v' L L' W) (f : Int) : St w a len cap bA bB q e f e' v v' L L' (W.setCell ⟨bB, 0, none⟩ (.int .i64 f)) := by
  have h1 := s.lA
  have h2 := s.lB
  refine ⟨s.dr.set (by omega) (by omega) _, s.keep.setCell (p := ⟨bB, 0, none⟩) (by show w.heap.size ≤ bB; omega) _, s.res.elim fun f h => ⟨f, h.setOther (a := ⟨bB, 0, none⟩) (by simp; omega) _⟩, s.res'.elim fun f h => ⟨f, h.setOther (a := ⟨bB, 0, none⟩) (by simp; omega) _⟩, s.one.setOther (a := ⟨bB, 0, none⟩) (by simp; omega) _, ?_, s.own.other s.ne.2.2, s.own'.other s.ne'.2.2, s.lA, s.lB, s.ne, s.ne'⟩
  have h := s.two.set 0 (.int .i64 f)
  refine h.congr ?_
  intro i hi
  by_cases h0 : i = 0 <;> simp [h0]
theorem St.a0 (s : St w a len cap bA bB q e q' e' v v' L L' W) : W.cell? ⟨bA, 0, none⟩ = some (.int .i64 q) := by have h := s.one.cell (i := 0) (by simp); simpa using h
theorem St.a1 (s : St w a len cap bA bB q e q' e' v v' L L' W) : W.cell? ⟨bA, 1, none⟩ = some (.int .i64 e) := by have h := s.one.cell (i := 1) (by simp); simpa using h
theorem St.a2 (s : St w a len cap bA bB q e q' e' v v' L L' W) : W.cell? ⟨bA, 2, none⟩ = some v := by have h := s.one.cell (i := 2) (by simp); simpa using h
theorem St.b0 (s : St w a len cap bA bB q e q' e' v v' L L' W) : W.cell? ⟨bB, 0, none⟩ = some (.int .i64 q') := by have h := s.two.cell (i := 0) (by simp); simpa using h
theorem St.b1 (s : St w a len cap bA bB q e q' e' v v' L L' W) : W.cell? ⟨bB, 1, none⟩ = some (.int .i64 e') := by have h := s.two.cell (i := 1) (by simp); simpa using h
theorem St.b2 (s : St w a len cap bA bB q e q' e' v v' L L' W) : W.cell? ⟨bB, 2, none⟩ = some v' := by have h := s.two.cell (i := 2) (by simp); simpa using h
theorem St.bf (s : St w a len cap bA bB q e q' e' v v' L L' W) (o : Nat) : W.frozen? ⟨bB, o, none⟩ = false := s.two.frozen o
end
theorem five_at : ∀ {k : Nat}, k < 5 → ∃ d : Int, 1 ≤ d ∧ d ≤ 65536 ∧ (#[.int .i64 1, .int .i64 2, .int .i64 255, .int .i64 256, .int .i64 65536] : Array Value)[k]? = some (.int .i64 d)
  | 0, _ => ⟨1, by omega, by omega, rfl⟩
  | 1, _ => ⟨2, by omega, by omega, rfl⟩
  | 2, _ => ⟨255, by omega, by omega, rfl⟩
  | 3, _ => ⟨256, by omega, by omega, rfl⟩
  | 4, _ => ⟨65536, by omega, by omega, rfl⟩
  | n + 5, h => absurd h (by omega)
theorem five_in (W : World) {W' : World} {C : Array Value} {t : TypeId} {B k : Nat} {d : Int} (g : (W.alloc (.cells C t)).drew.grownBy W' (some B)) (h : C[k]? = some (.int .i64 d)) (hB : B < W.heap.size) : W'.cell? ⟨W.heap.size, k, none⟩ = some (.int .i64 d) := by
  have hb := g.block W.heap.size (by show _ < (W.alloc (.cells C t)).heap.size; simp) (by simp; omega)
  rw [World.cell?_of_block (w := W.alloc (.cells C t)) hb]
  rw [World.cell?_alloc_mark W C t (0, 0) k]
  exact h
theorem below_alloc {w : World} {a : Option Addr} {len cap bA bB : Nat} {q e q' e' : Int} {v v' : Value} {L L' : List UInt8} {W : World} (s : St w a len cap bA bB q e q' e' v v' L L' W) :
    Calls Tryd.prog 16 #[.pointer (some ⟨w.heap.size + 2, 0, none⟩), .int .i64 5] (W.alloc (.cells #[.int .i64 1, .int .i64 2, .int .i64 255, .int .i64 256, .int .i64 65536] 3)).drew fun x w4 => ∃ (k : Nat) (d : Int), x = .returned (.int .i64 (k : Int)) ∧ k < 5 ∧ 1 ≤ d ∧ d ≤ 65536 ∧ w4.cell? ⟨W.heap.size, k, none⟩ = some (.int .i64 d) ∧ Hid (St w a len cap bA bB q e q' e' v v' L L' w4) := by
  refine (below_any 5 (s.alloc (.cells #[.int .i64 1, .int .i64 2, .int .i64 255, .int .i64 256, .int .i64 65536] 3)).drew.dr (by omega) (by omega)).mono ?_
  rintro x w4 ⟨⟨k, k0, k1, rfl⟩, s4, g4⟩
  obtain ⟨k, rfl⟩ := Int.eq_ofNat_of_zero_le k0
  obtain ⟨d, d1, d2, hd⟩ := five_at (k := k) (by omega)
  exact ⟨k, d, rfl, by omega, d1, d2, five_in W g4 hd (by have := s.lt; have := s.lA; have := s.lB; omega), (s.alloc (.cells #[.int .i64 1, .int .i64 2, .int .i64 255, .int .i64 256, .int .i64 65536] 3)).drew.turn s4 g4⟩
theorem below_first {w : World} {a : Option Addr} {len cap bA bB : Nat} {q e q' e' : Int} {v v' : Value} {L L' : List UInt8} {W : World} (s : St w a len cap bA bB q e q' e' v v' L L' W) :
    Calls Tryd.prog 16 #[.pointer (some ⟨w.heap.size + 2, 0, none⟩), .int .i64 5] W.drew fun x w4 => ∃ (k : Nat) (d : Int), x = .returned (.int .i64 (k : Int)) ∧ k < 5 ∧ 1 ≤ d ∧ d ≤ 65536 ∧ (∀ h : k < ([.int .i64 1, .int .i64 2, .int .i64 255, .int .i64 256, .int .i64 65536] : List Value).length, ([.int .i64 1, .int .i64 2, .int .i64 255, .int .i64 256, .int .i64 65536] : List Value)[k]'h = .int .i64 d) ∧ Hid (St w a len cap bA bB q e q' e' v v' L L' w4) := by
  refine (below_any 5 s.drew.dr (by omega) (by omega)).mono ?_
  rintro x w4 ⟨⟨k, k0, k1, rfl⟩, s4, g4⟩
  obtain ⟨k, rfl⟩ := Int.eq_ofNat_of_zero_le k0
  obtain ⟨d, d1, d2, hd⟩ := five_at (k := k) (by omega)
  exact ⟨k, d, rfl, by omega, d1, d2, (fun h => by have h2 := List.getElem?_eq_getElem h; rw [List.getElem?_toArray] at hd; rw [hd] at h2; exact (Option.some.inj h2).symm), s.drew.turn s4 g4⟩
theorem thirteen_at : ∀ {k : Nat}, k < 13 → ∃ d : Nat, d ≤ 128 ∧ (#[.int .i64 0, .int .i64 1, .int .i64 6, .int .i64 7, .int .i64 8, .int .i64 9, .int .i64 121, .int .i64 122, .int .i64 124, .int .i64 125, .int .i64 126, .int .i64 127, .int .i64 128] : Array Value)[k]? = some (.int .i64 (d : Int))
  | 0, _ => ⟨0, by omega, rfl⟩
  | 1, _ => ⟨1, by omega, rfl⟩
  | 2, _ => ⟨6, by omega, rfl⟩
  | 3, _ => ⟨7, by omega, rfl⟩
  | 4, _ => ⟨8, by omega, rfl⟩
  | 5, _ => ⟨9, by omega, rfl⟩
  | 6, _ => ⟨121, by omega, rfl⟩
  | 7, _ => ⟨122, by omega, rfl⟩
  | 8, _ => ⟨124, by omega, rfl⟩
  | 9, _ => ⟨125, by omega, rfl⟩
  | 10, _ => ⟨126, by omega, rfl⟩
  | 11, _ => ⟨127, by omega, rfl⟩
  | 12, _ => ⟨128, by omega, rfl⟩
  | n + 13, h => absurd h (by omega)
theorem many_in (W : World) {W' : World} {C : Array Value} {t : TypeId} {B k : Nat} {v : Value} (g : (W.alloc (.cells C t)).grownBy W' (some B)) (h : C[k]? = some v) (hB : B < W.heap.size) : W'.cell? ⟨W.heap.size, k, none⟩ = some v := by
  have hb := g.block W.heap.size (by simp) (by simp; omega)
  rw [World.cell?_of_block (w := W.alloc (.cells C t)) hb, World.cell?_alloc_mark W C t (0, 0) k]
  exact h
theorem keeps_set {w W : World} {b o : Nat} (h : Keeps w W) (hb : w.heap.size ≤ b) (v : Value) : Keeps w (W.setCell ⟨b, o, none⟩ v) := h.setCell (p := ⟨b, o, none⟩) hb v
set_option maxHeartbeats 1000000 in
theorem six_out {w : World} {a : Option Addr} {len cap bA bB : Nat} {q e q' e' : Int} {v v' : Value} {L L' : List UInt8} {W F : World} (s : St w a len cap bA bB q e q' e' v v' L L' W) (x0 x1 x2 y0 y1 y2 : Value)
    (hF : F = ((((((W.setCell ⟨w.heap.size, 0, none⟩ x0).setCell ⟨w.heap.size, 1, none⟩ x1).setCell ⟨w.heap.size, 2, none⟩ x2).setCell ⟨w.heap.size + 1, 0, none⟩ y0).setCell ⟨w.heap.size + 1, 1, none⟩ y1).setCell ⟨w.heap.size + 1, 2, none⟩ y2)) :
    (F.cell? ⟨w.heap.size, 0, none⟩ = some x0 ∧ F.cell? ⟨w.heap.size, 1, none⟩ = some x1 ∧ F.cell? ⟨w.heap.size, 2, none⟩ = some x2 ∧ F.cell? ⟨w.heap.size + 1, 0, none⟩ = some y0 ∧ F.cell? ⟨w.heap.size + 1, 1, none⟩ = some y1 ∧ F.cell? ⟨w.heap.size + 1, 2, none⟩ = some y2) ∧ OwnsB F w.heap.size v L ∧ OwnsB F w.heap.size v' L' ∧ Keeps w F := by
  obtain ⟨f, hR⟩ := s.res
  obtain ⟨g, hQ⟩ := s.res'
  obtain ⟨c0, c1, c2⟩ := row3_out hR x0 x1 x2
  have hQ2 := ((hQ.setOther (a := ⟨w.heap.size, 0, none⟩) (by simp) x0).setOther (a := ⟨w.heap.size, 1, none⟩) (by simp) x1).setOther (a := ⟨w.heap.size, 2, none⟩) (by simp) x2
  obtain ⟨d0, d1, d2⟩ := row3_out hQ2 y0 y1 y2
  have n1 : v.ownBlock ≠ some w.heap.size := OwnsB.ne s.own (.inl (by omega))
  have n2 : v.ownBlock ≠ some (w.heap.size + 1) := OwnsB.ne s.own (.inl (by omega))
  have n3 : v'.ownBlock ≠ some w.heap.size := OwnsB.ne s.own' (.inl (by omega))
  have n4 : v'.ownBlock ≠ some (w.heap.size + 1) := OwnsB.ne s.own' (.inl (by omega))
  have k := keeps_set (b := w.heap.size + 1) (o := 2) (keeps_set (b := w.heap.size + 1) (o := 1) (keeps_set (b := w.heap.size + 1) (o := 0) (keeps_set (b := w.heap.size) (o := 2) (keeps_set (b := w.heap.size) (o := 1) (keeps_set (b := w.heap.size) (o := 0) s.keep (by omega) x0) (by omega) x1) (by omega) x2) (by omega) y0) (by omega) y1) (by omega) y2
  have o := (((((OwnsB.other (o := 0) (x := x0) s.own n1).other (o := 1) (x := x1) n1).other (o := 2) (x := x2) n1).other (o := 0) (x := y0) n2).other (o := 1) (x := y1) n2).other (o := 2) (x := y2) n2
  have o' := (((((OwnsB.other (o := 0) (x := x0) s.own' n3).other (o := 1) (x := x1) n3).other (o := 2) (x := x2) n3).other (o := 0) (x := y0) n4).other (o := 1) (x := y1) n4).other (o := 2) (x := y2) n4
  subst hF
  refine ⟨⟨?_, ?_, ?_, d0, d1, d2⟩, OwnsB.older o (by omega), OwnsB.older o' (by omega), k⟩
  · rw [World.cell?_setCell_other _ _ _ _ (by simp), World.cell?_setCell_other _ _ _ _ (by simp), World.cell?_setCell_other _ _ _ _ (by simp)]; exact c0
  · rw [World.cell?_setCell_other _ _ _ _ (by simp), World.cell?_setCell_other _ _ _ _ (by simp), World.cell?_setCell_other _ _ _ _ (by simp)]; exact c1
  · rw [World.cell?_setCell_other _ _ _ _ (by simp), World.cell?_setCell_other _ _ _ _ (by simp), World.cell?_setCell_other _ _ _ _ (by simp)]; exact c2
theorem OwnsB.drew {W : World} {base : Nat} {v : Value} {L : List UInt8} (h : OwnsB W base v L) : OwnsB W.drew base v L := h
theorem keeps_drew {w W : World} (h : Keeps w W) : Keeps w W.drew := ⟨h.os, h.tape, h.output, h.size, h.block⟩
theorem cell_drew {W : World} {p : Addr} {v : Value} (h : W.cell? p = some v) : W.drew.cell? p = some v := h
set_option maxHeartbeats 4000000 in
theorem make_secs (a : Option Addr) (len cap : Nat) (w : World) (hr : RowAt w.heap.size w a len) (hl : len ≤ 1048576) :
    Calls Tryd.prog 5 #[.slice a len cap] w fun e w' => TwoSecs w.heap.size w' e ∧ Keeps w w' := by
  have HK0 := hide (Keeps.alloc (Keeps.alloc (Keeps.refl w) (.cells #[.int .i64 0, .int .i64 0, .slice none 0 0] 24)) (.cells #[.int .i64 0, .int .i64 0, .slice none 0 0] 24))
  have HP0 := hide (World.rowIs_alloc (w.alloc (.cells #[.int .i64 0, .int .i64 0, .slice none 0 0] 24)) #[.int .i64 0, .int .i64 0, .slice none 0 0] 24 _ (three_row _ _ _))
  have HR0 := hide ((World.rowIs_alloc w #[.int .i64 0, .int .i64 0, .slice none 0 0] 24 _ (three_row _ _ _)).alloc (.cells #[.int .i64 0, .int .i64 0, .slice none 0 0] 24))
  have hz0 : ((w.alloc (.cells #[.int .i64 0, .int .i64 0, .slice none 0 0] 24)).alloc (.cells #[.int .i64 0, .int .i64 0, .slice none 0 0] 24)).heap.size = w.heap.size + 2 := by simp
  have hz1 : (w.alloc (.cells #[.int .i64 0, .int .i64 0, .slice none 0 0] 24)).heap.size = w.heap.size + 1 := by simp
  rw [hz1] at HP0
  have HRw := hide (RowAt.up (hr.below HK0.out) HK0.out.size)
  clear hr
  go_enter Tryd.func5, Tryd.ntmps5
  go_wp2_with fail
  refine (new_any a len cap _ HRw.out hl).mono ?_
  rintro x w1 ⟨he, s1, hk1⟩
  have he1 : x = .returned (.pointer (some ⟨w.heap.size + 2, 0, none⟩)) := by rw [he]; simp
  clear he
  subst he1
  have hz2 := hk1.size
  rw [hz0] at s1 hz2
  have hc1 := s1.lt
  have HS1 := hide s1
  have HK1 := hide (HK0.out.trans hk1)
  have HR1 := hide (HR0.out.of_block (Below.block hk1 _ HR0.out.lt))
  have HP1 := hide (HP0.out.of_block (Below.block hk1 _ HP0.out.lt))
  clear s1 hk1 HRw HR0 HP0 hz0 hz1 HK0
  go_wp2_with fail
  refine (sector_any HS1.out).mono ?_
  rintro x w2 ⟨⟨q, e, p, l, c, L, hq, rfl, HO⟩, s2, g2⟩
  have HR2 := hide (grown_row g2 (by simp) HR1.out)
  have HP2 := hide (grown_row g2 (by simp) HP1.out)
  have HK2 := hide (keeps_of HK1.out g2 (by intro r hr; injection hr with hr; omega))
  have HS2 := hide (s2.grown (World.grownBy_alloc w2 (.cells #[.int .i64 q, .int .i64 e, .slice p l c] 24) none) (by simp) (by simp))
  have HO2 := hide (And.intro HO.out.1 ((OwnsB.older HO.out.2 (base' := w.heap.size + 2) (by omega)).alloc (.cells #[.int .i64 q, .int .i64 e, .slice p l c] 24)))
  have HA2 := hide (World.rowIs_alloc w2 #[.int .i64 q, .int .i64 e, .slice p l c] 24 _ (three_row _ _ _))
  have HR2a := hide (HR2.out.alloc (.cells #[.int .i64 q, .int .i64 e, .slice p l c] 24))
  have HP2a := hide (HP2.out.alloc (.cells #[.int .i64 q, .int .i64 e, .slice p l c] 24))
  have HK2a := hide (Keeps.alloc HK2.out (.cells #[.int .i64 q, .int .i64 e, .slice p l c] 24))
  have hv2 : (Value.slice p l c).ownBlock ≠ some w2.heap.size := OwnsB.ne HO.out.2 (.inr (Nat.le_refl _))
  have hw2 := s2.lt
  have hn1 : (Value.slice p l c).ownBlock ≠ some (w.heap.size + 2) := OwnsB.ne HO.out.2 (.inl hc1)
  clear s2 g2 HO HS1 HK1 HR1 HP1 HR2 HP2 HK2
  go_wp2_with fail
  refine (sector_any HS2.out).mono ?_
  rintro x w3 ⟨⟨q', e', p', l', c', L', hq', rfl, HO'⟩, s3, g3⟩
  have hw3 := g3.size
  simp at hw3
  have HL := hide HO2.out.1
  have HL' := hide HO'.out.1
  have ho' : OwnsB (w3.alloc (.cells #[.int .i64 q, .int .i64 e', .slice p' l' c'] 24)) (w2.heap.size + 1) (.slice p' l' c') L' := OwnsB.alloc (OwnsB.older HO'.out.2 (by simp)) _
  have HT : Hid (St w a len cap w2.heap.size w3.heap.size q e q e' (.slice p l c) (.slice p' l' c') L L' (w3.alloc (.cells #[.int .i64 q, .int .i64 e', .slice p' l' c'] 24))) := by
    have g4 := grown_alloc g3 (.cells #[.int .i64 q, .int .i64 e', .slice p' l' c'] 24)
    refine ⟨s3.grown (World.grownBy_alloc w3 _ none) (by simp) (by simp), keeps_of HK2a.out g4 (by intro r hr; injection hr with hr; omega), ⟨_, grown_row g4 (by simp) HR2a.out⟩, ⟨_, grown_row g4 (by simp) HP2a.out⟩, grown_row g4 (by simp; omega) HA2.out, World.rowIs_alloc w3 #[.int .i64 q, .int .i64 e', .slice p' l' c'] 24 _ (three_row _ _ _), World.ownsRow.kept HO2.out.2 g4 (.inr hn1), OwnsB.older ho' (by omega), by omega, by omega, ⟨hn1, hv2, ?_⟩, ⟨OwnsB.ne ho' (.inl (by omega)), OwnsB.ne ho' (.inl (by omega)), ?_⟩⟩
    · exact OwnsB.ne HO2.out.2 (.inr (by simp; omega))
    · exact OwnsB.ne HO'.out.2 (.inr (Nat.le_refl _))
  have rA := grown_row g3 (by simp; omega) HA2.out
  have a0 := rA.cell (i := 0) (by simp)
  have a1 := rA.cell (i := 1) (by simp)
  simp at a0 a1
  have hwA := rA.lt
  clear s3 g3 HO' HO2 HS2 HA2 HR2a HP2a HK2a ho' hn1 hv2 rA
  go_wp2_with fail
  generalize w3.alloc (.cells #[.int .i64 q, .int .i64 e', .slice p' l' c'] 24) = W3 at *
  generalize w2.heap.size = bA at *
  generalize w3.heap.size = bB at *
  clear a0 a1 hw3 hwA hw2
  obtain ⟨q0, q1, e0, e1, hl1⟩ := secB_true hq
  have hab := HT.out.lB
  have hbw := HT.out.lt
  have hwa := HT.out.lA
  have hbwA : bA < W3.heap.size := by omega
  have a1 := HT.out.a1
  obtain ⟨P, hP1, hP2⟩ : ∃ P : Act → World → Prop, (∀ act W, (∃ (d : Int) (t18 t19 t20 t21 t22 t23 t24 t25 t26 : Value), 1 ≤ d ∧ d ≤ 65536 ∧ act = { tmps := List.toArray ((.slice a len cap : Value) :: undef :: (.pointer (some ⟨w.heap.size, 0, none⟩) : Value) :: (.pointer (some ⟨w.heap.size + 1, 0, none⟩) : Value) :: (.int .i64 0 : Value) :: (.pointer (some ⟨w.heap.size + 2, 0, none⟩) : Value) :: (.pointer (some ⟨bA, 0, none⟩) : Value) :: (.pointer (some ⟨bB, 0, none⟩) : Value) :: undef :: (.slice a len cap : Value) :: (.pointer (some ⟨w.heap.size + 2, 0, none⟩) : Value) :: (.pointer (some ⟨w.heap.size + 2, 0, none⟩) : Value) :: (.agg #[.int .i64 q, .int .i64 e, .slice p l c] : Value) :: (.pointer (some ⟨w.heap.size + 2, 0, none⟩) : Value) :: (.agg #[.int .i64 q', .int .i64 e', .slice p' l' c'] : Value) :: (.pointer (some ⟨bA, 0, none⟩) : Value) :: (.int .i64 q : Value) :: (.pointer (some ⟨bB, 0, none⟩) : Value) :: t18 :: t19 :: t20 :: t21 :: t22 :: t23 :: t24 :: t25 :: t26 :: undef :: undef :: undef :: undef :: undef :: undef :: undef :: undef :: undef :: undef :: undef :: undef :: undef :: undef :: undef :: undef :: undef :: undef :: undef :: undef :: []), defers := [] } ∧ Hid (St w a len cap bA bB q e q (e + d) (.slice p l c) (.slice p' l' c') L L' W)) → P act W) ∧ (∀ act W, P act W → ∃ (d : Int) (t18 t19 t20 t21 t22 t23 t24 t25 t26 : Value), 1 ≤ d ∧ d ≤ 65536 ∧ act = { tmps := List.toArray ((.slice a len cap : Value) :: undef :: (.pointer (some ⟨w.heap.size, 0, none⟩) : Value) :: (.pointer (some ⟨w.heap.size + 1, 0, none⟩) : Value) :: (.int .i64 0 : Value) :: (.pointer (some ⟨w.heap.size + 2, 0, none⟩) : Value) :: (.pointer (some ⟨bA, 0, none⟩) : Value) :: (.pointer (some ⟨bB, 0, none⟩) : Value) :: undef :: (.slice a len cap : Value) :: (.pointer (some ⟨w.heap.size + 2, 0, none⟩) : Value) :: (.pointer (some ⟨w.heap.size + 2, 0, none⟩) : Value) :: (.agg #[.int .i64 q, .int .i64 e, .slice p l c] : Value) :: (.pointer (some ⟨w.heap.size + 2, 0, none⟩) : Value) :: (.agg #[.int .i64 q', .int .i64 e', .slice p' l' c'] : Value) :: (.pointer (some ⟨bA, 0, none⟩) : Value) :: (.int .i64 q : Value) :: (.pointer (some ⟨bB, 0, none⟩) : Value) :: t18 :: t19 :: t20 :: t21 :: t22 :: t23 :: t24 :: t25 :: t26 :: undef :: undef :: undef :: undef :: undef :: undef :: undef :: undef :: undef :: undef :: undef :: undef :: undef :: undef :: undef :: undef :: undef :: undef :: undef :: undef :: []), defers := [] } ∧ Hid (St w a len cap bA bB q e q (e + d) (.slice p l c) (.slice p' l' c') L L' W)) := ⟨fun act W => ∃ (d : Int) (t18 t19 t20 t21 t22 t23 t24 t25 t26 : Value), 1 ≤ d ∧ d ≤ 65536 ∧ act = { tmps := List.toArray ((.slice a len cap : Value) :: undef :: (.pointer (some ⟨w.heap.size, 0, none⟩) : Value) :: (.pointer (some ⟨w.heap.size + 1, 0, none⟩) : Value) :: (.int .i64 0 : Value) :: (.pointer (some ⟨w.heap.size + 2, 0, none⟩) : Value) :: (.pointer (some ⟨bA, 0, none⟩) : Value) :: (.pointer (some ⟨bB, 0, none⟩) : Value) :: undef :: (.slice a len cap : Value) :: (.pointer (some ⟨w.heap.size + 2, 0, none⟩) : Value) :: (.pointer (some ⟨w.heap.size + 2, 0, none⟩) : Value) :: (.agg #[.int .i64 q, .int .i64 e, .slice p l c] : Value) :: (.pointer (some ⟨w.heap.size + 2, 0, none⟩) : Value) :: (.agg #[.int .i64 q', .int .i64 e', .slice p' l' c'] : Value) :: (.pointer (some ⟨bA, 0, none⟩) : Value) :: (.int .i64 q : Value) :: (.pointer (some ⟨bB, 0, none⟩) : Value) :: t18 :: t19 :: t20 :: t21 :: t22 :: t23 :: t24 :: t25 :: t26 :: undef :: undef :: undef :: undef :: undef :: undef :: undef :: undef :: undef :: undef :: undef :: undef :: undef :: undef :: undef :: undef :: undef :: undef :: undef :: undef :: []), defers := [] } ∧ Hid (St w a len cap bA bB q e q (e + d) (.slice p l c) (.slice p' l' c') L L' W), fun _ _ h => h, fun _ _ h => h⟩
  have HP1 := hide hP1
  have HP2 := hide hP2
  clear hP1 hP2
  refine Code.wp_mono (Q := Exit.then P (fun _ _ _ => False)) ?after ?region
  case region =>
    go_region_with (go_at_call 16; first | (refine (below_alloc HT.out).mono ?_; rintro x w4 ⟨k, d, rfl, hk5, d1, d2, hd, HT4⟩; have a1 := HT4.out.a1; have b1 := HT4.out.b1; have bf := HT4.out.bf 1; have hlt4 := HT4.out.lt; have hltA : bA < w4.heap.size := (by omega); have hwr : IntKind.i64.wrap (e + d) = e + d := by rw [IntKind.wrap_i64]; omega) | (refine (below_first HT.out).mono ?_; rintro x w4 ⟨k, d, rfl, hk5, d1, d2, hd, HT4⟩; have a1 := HT4.out.a1; have b1 := HT4.out.b1; have bf := HT4.out.bf 1; have hlt4 := HT4.out.lt; have hltA : bA < w4.heap.size := (by omega); have hwr : IntKind.i64.wrap (e + d) = e + d := by rw [IntKind.wrap_i64]; omega))
    all_goals first | exact HP1.out _ _ ⟨d, _, _, _, _, _, _, _, _, _, d1, d2, rfl, HT4.out.set1 _⟩ | exact HP1.out _ _ ⟨d, _, _, _, _, _, _, _, _, _, d1, d2, rfl, (HT4.out.set1 _).alloc _⟩
  case after =>
    rintro (_ | _) act W hex
    rotate_left
    all_goals first | exact (show False from hex).elim | skip
    obtain ⟨d, t18, t19, t20, t21, t22, t23, t24, t25, t26, d1, d2, rfl, HT4⟩ := HP2.out _ _ hex
    clear HT a1
    have b1 := HT4.out.b1
    have bf := HT4.out.bf 1
    have a1 := HT4.out.a1
    obtain ⟨_, _, _, _, hl2⟩ := secB_true hq'
    by_cases h16 : 16000000 < e + d
    · have HT5 := hide (HT4.out.set1 (e - 1))
      clear HT4
      go_wp2_with fail
      refine (below_any 129 HT5.out.dr (by omega) (by omega)).mono ?_
      rintro x w5 ⟨⟨n, n0, n1, rfl⟩, s5, g5⟩
      have HT6 := hide (HT5.out.turn s5 g5)
      clear s5 g5 HT5
      obtain ⟨n, rfl⟩ := Int.eq_ofNat_of_zero_le n0
      go_wp2_with fail
      refine (below_any 2 HT6.out.dr (by omega) (by omega)).mono ?_
      rintro x w6 ⟨⟨z, z0, z1, rfl⟩, s6, g6⟩
      have HT7 := hide (HT6.out.turn s6 g6)
      clear s6 g6 HT6 a1 b1 bf
      by_cases hz : z = 0
      · subst hz
        have hlt6 := HT7.out.lt
        have hAl := HT7.out.lA
        go_wp2_with fail
        refine (below_any 13 (HT7.out.alloc (.cells #[.int .i64 0, .int .i64 1, .int .i64 6, .int .i64 7, .int .i64 8, .int .i64 9, .int .i64 121, .int .i64 122, .int .i64 124, .int .i64 125, .int .i64 126, .int .i64 127, .int .i64 128] 3)).dr (by omega) (by omega)).mono ?_
        rintro x w7 ⟨⟨k, k0, k1, rfl⟩, s7, g7⟩
        obtain ⟨k, rfl⟩ := Int.eq_ofNat_of_zero_le k0
        have hk13 : k < 13 := by omega
        obtain ⟨m, hm, hd⟩ := thirteen_at hk13
        have hd7 := many_in w6 g7 hd (by omega)
        have HT8 := hide ((HT7.out.alloc (.cells #[.int .i64 0, .int .i64 1, .int .i64 6, .int .i64 7, .int .i64 8, .int .i64 9, .int .i64 121, .int .i64 122, .int .i64 124, .int .i64 125, .int .i64 126, .int .i64 127, .int .i64 128] 3)).turn s7 g7)
        clear s7 g7 HT7 hd
        have a0 := HT8.out.a0
        have a1 := HT8.out.a1
        have a2 := HT8.out.a2
        have b0 := HT8.out.b0
        have b1 := HT8.out.b1
        have b2 := HT8.out.b2
        obtain ⟨fr, hR⟩ := HT8.out.res
        obtain ⟨fq, hQ⟩ := HT8.out.res'
        have r0 := hR.cell (i := 0) (by simp)
        have r1 := hR.cell (i := 1) (by simp)
        have r2 := hR.cell (i := 2) (by simp)
        have rf0 := hR.frozen 0
        have rf1 := hR.frozen 1
        have rf2 := hR.frozen 2
        have q0' := hQ.cell (i := 0) (by simp)
        have q1' := hQ.cell (i := 1) (by simp)
        have q2' := hQ.cell (i := 2) (by simp)
        have qf0 := hQ.frozen 0
        have qf1 := hQ.frozen 1
        have qf2 := hQ.frozen 2
        clear hR hQ
        have hRA : w.heap.size ≠ bA := by omega
        have hRB : w.heap.size ≠ bB := by omega
        have hPA : w.heap.size + 1 ≠ bA := by omega
        have hPB : w.heap.size + 1 ≠ bB := by omega
        have hAR : bA ≠ w.heap.size := by omega
        have hBR : bB ≠ w.heap.size := by omega
        have hAP : bA ≠ w.heap.size + 1 := by omega
        have hBP : bB ≠ w.heap.size + 1 := by omega
        go_wp2_with fail
        go_region_with (fail)
        all_goals
          go_wp2_with fail
          obtain ⟨⟨p0, p1, p2, p3, p4, p5⟩, pw, pw', pkF⟩ := six_out HT8.out (.int .i64 q) (.int .i64 e) (.slice p l c) (.int .i64 q) (.int .i64 (e - 1)) (.slice p' l' c') rfl
          have o0 := cell_drew p0
          have o1 := cell_drew p1
          have o2 := cell_drew p2
          have o3 := cell_drew p3
          have o4 := cell_drew p4
          have o5 := cell_drew p5
          have ow := OwnsB.drew pw
          have ow' := OwnsB.drew pw'
          have hkF := keeps_drew pkF
          clear p0 p1 p2 p3 p4 p5 pw pw' pkF
          refine bodyPost_ret (v := .tuple #[.agg #[.int .i64 q, .int .i64 e, .slice p l c], .agg #[.int .i64 q, .int .i64 (e - 1), .slice p' l' c'], .int .i64 (m : Int)]) ?_ rfl ⟨⟨q, e, (e - 1), p, p', l, c, l', c', m, L, L', hq, secB_of q0 q1 (by omega) (by omega) hl2, by omega, by omega, rfl, ⟨HL.out, ow⟩, ⟨HL'.out, ow'⟩⟩, hkF⟩
          revert o0 o1 o2 o3 o4 o5
          clear ow ow' hkF HT8 a0 a1 a2 b0 b1 b2 r0 r1 r2 rf0 rf1 rf2 q0' q1' q2' qf0 qf1 qf2
          generalize World.drew _ = F
          intro o0 o1 o2 o3 o4 o5
          simp [results, Tryd.results5, go_sem, o0, o1, o2, o3, o4, o5]
      · have hz' : (z == 0) = false := beq_eq_false_iff_ne.2 hz
        have a0 := HT7.out.a0
        have a1 := HT7.out.a1
        have a2 := HT7.out.a2
        have b0 := HT7.out.b0
        have b1 := HT7.out.b1
        have b2 := HT7.out.b2
        obtain ⟨fr, hR⟩ := HT7.out.res
        obtain ⟨fq, hQ⟩ := HT7.out.res'
        have r0 := hR.cell (i := 0) (by simp)
        have r1 := hR.cell (i := 1) (by simp)
        have r2 := hR.cell (i := 2) (by simp)
        have rf0 := hR.frozen 0
        have rf1 := hR.frozen 1
        have rf2 := hR.frozen 2
        have q0' := hQ.cell (i := 0) (by simp)
        have q1' := hQ.cell (i := 1) (by simp)
        have q2' := hQ.cell (i := 2) (by simp)
        have qf0 := hQ.frozen 0
        have qf1 := hQ.frozen 1
        have qf2 := hQ.frozen 2
        clear hR hQ
        have hRA : w.heap.size ≠ bA := by omega
        have hRB : w.heap.size ≠ bB := by omega
        have hPA : w.heap.size + 1 ≠ bA := by omega
        have hPB : w.heap.size + 1 ≠ bB := by omega
        have hAR : bA ≠ w.heap.size := by omega
        have hBR : bB ≠ w.heap.size := by omega
        have hAP : bA ≠ w.heap.size + 1 := by omega
        have hBP : bB ≠ w.heap.size + 1 := by omega
        go_wp2_with fail
        go_region_with (fail)
        all_goals
          go_wp2_with fail
          obtain ⟨⟨p0, p1, p2, p3, p4, p5⟩, pw, pw', pkF⟩ := six_out HT7.out (.int .i64 q) (.int .i64 e) (.slice p l c) (.int .i64 q) (.int .i64 (e - 1)) (.slice p' l' c') rfl
          have o0 := cell_drew p0
          have o1 := cell_drew p1
          have o2 := cell_drew p2
          have o3 := cell_drew p3
          have o4 := cell_drew p4
          have o5 := cell_drew p5
          have ow := OwnsB.drew pw
          have ow' := OwnsB.drew pw'
          have hkF := keeps_drew pkF
          clear p0 p1 p2 p3 p4 p5 pw pw' pkF
          refine bodyPost_ret (v := .tuple #[.agg #[.int .i64 q, .int .i64 e, .slice p l c], .agg #[.int .i64 q, .int .i64 (e - 1), .slice p' l' c'], .int .i64 (n : Int)]) ?_ rfl ⟨⟨q, e, (e - 1), p, p', l, c, l', c', n, L, L', hq, secB_of q0 q1 (by omega) (by omega) hl2, by omega, by omega, rfl, ⟨HL.out, ow⟩, ⟨HL'.out, ow'⟩⟩, hkF⟩
          revert o0 o1 o2 o3 o4 o5
          clear ow ow' hkF HT7 a0 a1 a2 b0 b1 b2 r0 r1 r2 rf0 rf1 rf2 q0' q1' q2' qf0 qf1 qf2
          generalize World.drew _ = F
          intro o0 o1 o2 o3 o4 o5
          simp [results, Tryd.results5, go_sem, o0, o1, o2, o3, o4, o5]
    · go_wp2_with fail
      refine (below_any 129 HT4.out.dr (by omega) (by omega)).mono ?_
      rintro x w5 ⟨⟨n, n0, n1, rfl⟩, s5, g5⟩
      have HT6 := hide (HT4.out.turn s5 g5)
      clear s5 g5 HT4
      obtain ⟨n, rfl⟩ := Int.eq_ofNat_of_zero_le n0
      go_wp2_with fail
      refine (below_any 2 HT6.out.dr (by omega) (by omega)).mono ?_
      rintro x w6 ⟨⟨z, z0, z1, rfl⟩, s6, g6⟩
      have HT7 := hide (HT6.out.turn s6 g6)
      clear s6 g6 HT6 a1 b1 bf
      by_cases hz : z = 0
      · subst hz
        have hlt6 := HT7.out.lt
        have hAl := HT7.out.lA
        go_wp2_with fail
        refine (below_any 13 (HT7.out.alloc (.cells #[.int .i64 0, .int .i64 1, .int .i64 6, .int .i64 7, .int .i64 8, .int .i64 9, .int .i64 121, .int .i64 122, .int .i64 124, .int .i64 125, .int .i64 126, .int .i64 127, .int .i64 128] 3)).dr (by omega) (by omega)).mono ?_
        rintro x w7 ⟨⟨k, k0, k1, rfl⟩, s7, g7⟩
        obtain ⟨k, rfl⟩ := Int.eq_ofNat_of_zero_le k0
        have hk13 : k < 13 := by omega
        obtain ⟨m, hm, hd⟩ := thirteen_at hk13
        have hd7 := many_in w6 g7 hd (by omega)
        have HT8 := hide ((HT7.out.alloc (.cells #[.int .i64 0, .int .i64 1, .int .i64 6, .int .i64 7, .int .i64 8, .int .i64 9, .int .i64 121, .int .i64 122, .int .i64 124, .int .i64 125, .int .i64 126, .int .i64 127, .int .i64 128] 3)).turn s7 g7)
        clear s7 g7 HT7 hd
        have a0 := HT8.out.a0
        have a1 := HT8.out.a1
        have a2 := HT8.out.a2
        have b0 := HT8.out.b0
        have b1 := HT8.out.b1
        have b2 := HT8.out.b2
        obtain ⟨fr, hR⟩ := HT8.out.res
        obtain ⟨fq, hQ⟩ := HT8.out.res'
        have r0 := hR.cell (i := 0) (by simp)
        have r1 := hR.cell (i := 1) (by simp)
        have r2 := hR.cell (i := 2) (by simp)
        have rf0 := hR.frozen 0
        have rf1 := hR.frozen 1
        have rf2 := hR.frozen 2
        have q0' := hQ.cell (i := 0) (by simp)
        have q1' := hQ.cell (i := 1) (by simp)
        have q2' := hQ.cell (i := 2) (by simp)
        have qf0 := hQ.frozen 0
        have qf1 := hQ.frozen 1
        have qf2 := hQ.frozen 2
        clear hR hQ
        have hRA : w.heap.size ≠ bA := by omega
        have hRB : w.heap.size ≠ bB := by omega
        have hPA : w.heap.size + 1 ≠ bA := by omega
        have hPB : w.heap.size + 1 ≠ bB := by omega
        have hAR : bA ≠ w.heap.size := by omega
        have hBR : bB ≠ w.heap.size := by omega
        have hAP : bA ≠ w.heap.size + 1 := by omega
        have hBP : bB ≠ w.heap.size + 1 := by omega
        go_wp2_with fail
        go_region_with (fail)
        all_goals
          go_wp2_with fail
          obtain ⟨⟨p0, p1, p2, p3, p4, p5⟩, pw, pw', pkF⟩ := six_out HT8.out (.int .i64 q) (.int .i64 e) (.slice p l c) (.int .i64 q) (.int .i64 (e + d)) (.slice p' l' c') rfl
          have o0 := cell_drew p0
          have o1 := cell_drew p1
          have o2 := cell_drew p2
          have o3 := cell_drew p3
          have o4 := cell_drew p4
          have o5 := cell_drew p5
          have ow := OwnsB.drew pw
          have ow' := OwnsB.drew pw'
          have hkF := keeps_drew pkF
          clear p0 p1 p2 p3 p4 p5 pw pw' pkF
          refine bodyPost_ret (v := .tuple #[.agg #[.int .i64 q, .int .i64 e, .slice p l c], .agg #[.int .i64 q, .int .i64 (e + d), .slice p' l' c'], .int .i64 (m : Int)]) ?_ rfl ⟨⟨q, e, (e + d), p, p', l, c, l', c', m, L, L', hq, secB_of q0 q1 (by omega) (by omega) hl2, by omega, by omega, rfl, ⟨HL.out, ow⟩, ⟨HL'.out, ow'⟩⟩, hkF⟩
          revert o0 o1 o2 o3 o4 o5
          clear ow ow' hkF HT8 a0 a1 a2 b0 b1 b2 r0 r1 r2 rf0 rf1 rf2 q0' q1' q2' qf0 qf1 qf2
          generalize World.drew _ = F
          intro o0 o1 o2 o3 o4 o5
          simp [results, Tryd.results5, go_sem, o0, o1, o2, o3, o4, o5]
      · have hz' : (z == 0) = false := beq_eq_false_iff_ne.2 hz
        have a0 := HT7.out.a0
        have a1 := HT7.out.a1
        have a2 := HT7.out.a2
        have b0 := HT7.out.b0
        have b1 := HT7.out.b1
        have b2 := HT7.out.b2
        obtain ⟨fr, hR⟩ := HT7.out.res
        obtain ⟨fq, hQ⟩ := HT7.out.res'
        have r0 := hR.cell (i := 0) (by simp)
        have r1 := hR.cell (i := 1) (by simp)
        have r2 := hR.cell (i := 2) (by simp)
        have rf0 := hR.frozen 0
        have rf1 := hR.frozen 1
        have rf2 := hR.frozen 2
        have q0' := hQ.cell (i := 0) (by simp)
        have q1' := hQ.cell (i := 1) (by simp)
        have q2' := hQ.cell (i := 2) (by simp)
        have qf0 := hQ.frozen 0
        have qf1 := hQ.frozen 1
        have qf2 := hQ.frozen 2
        clear hR hQ
        have hRA : w.heap.size ≠ bA := by omega
        have hRB : w.heap.size ≠ bB := by omega
        have hPA : w.heap.size + 1 ≠ bA := by omega
        have hPB : w.heap.size + 1 ≠ bB := by omega
        have hAR : bA ≠ w.heap.size := by omega
        have hBR : bB ≠ w.heap.size := by omega
        have hAP : bA ≠ w.heap.size + 1 := by omega
        have hBP : bB ≠ w.heap.size + 1 := by omega
        go_wp2_with fail
        go_region_with (fail)
        all_goals
          go_wp2_with fail
          obtain ⟨⟨p0, p1, p2, p3, p4, p5⟩, pw, pw', pkF⟩ := six_out HT7.out (.int .i64 q) (.int .i64 e) (.slice p l c) (.int .i64 q) (.int .i64 (e + d)) (.slice p' l' c') rfl
          have o0 := cell_drew p0
          have o1 := cell_drew p1
          have o2 := cell_drew p2
          have o3 := cell_drew p3
          have o4 := cell_drew p4
          have o5 := cell_drew p5
          have ow := OwnsB.drew pw
          have ow' := OwnsB.drew pw'
          have hkF := keeps_drew pkF
          clear p0 p1 p2 p3 p4 p5 pw pw' pkF
          refine bodyPost_ret (v := .tuple #[.agg #[.int .i64 q, .int .i64 e, .slice p l c], .agg #[.int .i64 q, .int .i64 (e + d), .slice p' l' c'], .int .i64 (n : Int)]) ?_ rfl ⟨⟨q, e, (e + d), p, p', l, c, l', c', n, L, L', hq, secB_of q0 q1 (by omega) (by omega) hl2, by omega, by omega, rfl, ⟨HL.out, ow⟩, ⟨HL'.out, ow'⟩⟩, hkF⟩
          revert o0 o1 o2 o3 o4 o5
          clear ow ow' hkF HT7 a0 a1 a2 b0 b1 b2 r0 r1 r2 rf0 rf1 rf2 q0' q1' q2' qf0 qf1 qf2
          generalize World.drew _ = F
          intro o0 o1 o2 o3 o4 o5
          simp [results, Tryd.results5, go_sem, o0, o1, o2, o3, o4, o5]
end Go.Proofs.YtecjjkgdgmjgmaaDoor
