/- Texts of the verifier, joined: EgX, Sent. -/
import Derived.Test.YtkdnddckogbgaaaGreatDoorLO24
import Derived.Test.YtkdnddckogbgaaaGreatDoorLO30
import Derived.Test.YtkdnddckogbgaaaGreatDoorLO4
import Derived.Test.YtkdnddckogbgaaaGreatDoorLO1
namespace Go.Proofs.YtkdnddckogbgaaaGreatDoor
open Go.RowKit Go.Deep
set_option linter.unusedVariables false
set_option maxRecDepth 10000

theorem ecells_len (xs : List Ev) : (ecells xs).length = xs.length * 7 := flatMap_len (f := Ev.cells) (sz := 7) (fun _ => rfl) xs
theorem ecells_append (xs ys : List Ev) : ecells (xs ++ ys) = ecells xs ++ ecells ys := by simp [ecells]
theorem cell7 {w : World} {a : Option Addr} {xs : List Ev} (h : Cells w a (ecells xs)) (k : Nat) (hk : k < xs.length) :
    ∃ b off, a = some ⟨b, off, none⟩ ∧ w.cell? ⟨b, off + k * 7, none⟩ = some (.int .i64 xs[k].k) ∧ w.cell? ⟨b, off + k * 7 + 1, none⟩ = some (.int .i64 xs[k].y) ∧ w.cell? ⟨b, off + k * 7 + 2, none⟩ = some (.int .i64 xs[k].c) ∧ w.cell? ⟨b, off + k * 7 + 3, none⟩ = some (.int .i64 xs[k].t) ∧ w.cell? ⟨b, off + k * 7 + 4, none⟩ = some (.int .i64 xs[k].m) ∧ w.cell? ⟨b, off + k * 7 + 5, none⟩ = some (.int .i64 xs[k].f) ∧ w.cell? ⟨b, off + k * 7 + 6, none⟩ = some (.bool xs[k].b) := by
  obtain ⟨b, off, e, h⟩ := elem_at (f := Ev.cells) (sz := 7) (fun _ => rfl) h k hk (by decide)
  exact ⟨b, off, e, h 0 (by simp [Ev.cells]), h 1 (by simp [Ev.cells]), h 2 (by simp [Ev.cells]), h 3 (by simp [Ev.cells]), h 4 (by simp [Ev.cells]), h 5 (by simp [Ev.cells]), h 6 (by simp [Ev.cells])⟩
set_option maxHeartbeats 4000000 in
theorem eqEventS_k (a a' : Option Addr) (cap cap' : Nat) (xs : List Ev) (w : World) (hc : Cells w a (ecells xs)) (hc' : Cells w a' (ecells xs)) (hl : xs.length ≤ 1048576) :
    Calls Tryz.prog 23 #[.slice a xs.length cap, .slice a' xs.length cap'] w fun e w' => e = .returned (.bool true) ∧ Keeps w w' := by
  have HC := hide hc
  have HC' := hide hc'
  clear hc hc'
  go_enter Tryz.func23, Tryz.ntmps23
  go_wp2_with fail
  go_loopw [5] (fun y w1 => ∃ k : Nat, k ≤ xs.length ∧ y = .int .i64 (k : Int) ∧ Keeps w w1) (fun y _ => xs.length - (intOf y).toNat)
  case atStart => exact ⟨0, by omega, rfl, Keeps.refl _⟩
  case round =>
    obtain ⟨k, hk, rfl, hkw⟩ := hrel
    by_cases hlt : k < xs.length
    · obtain ⟨b, off, ea, c0, c1, c2, c3, c4, c5, c6⟩ := cell7 (HC.out.kept hkw) k hlt
      obtain ⟨b', off', ea', d0, d1, d2, d3, d4, d5, d6⟩ := cell7 (HC'.out.kept hkw) k hlt
      subst ea ea'
      have HQ := hide (fun t => eqEvent_same xs[k].k xs[k].y xs[k].c xs[k].t xs[k].m xs[k].f xs[k].b (gr wr t))
      have g0 := gr_cell c0
      have i0 := gr_cell d0
      have g1 := gr_cell c1
      have i1 := gr_cell d1
      have g2 := gr_cell c2
      have i2 := gr_cell d2
      have g3 := gr_cell c3
      have i3 := gr_cell d3
      have g4 := gr_cell c4
      have i4 := gr_cell d4
      have g5 := gr_cell c5
      have i5 := gr_cell d5
      have g6 := gr_cell c6
      have i6 := gr_cell d6
      generalize xs[k] = x at *
      obtain ⟨xk, xy, xc, xt, xm, xf, xb⟩ := x
      dsimp only at c0 c1 c2 c3 c4 c5 c6 d0 d1 d2 d3 d4 d5 d6 g0 g1 g2 g3 g4 g5 g6 i0 i1 i2 i3 i4 i5 i6 HQ
      go_wp2_with fail
      refine region_gr (by kernel_rfl) (by kernel_rfl) ?_
      repeat (go_big_quiet_step (first | (go_at_call 61; exact gr_call (unhide HQ _))))
      refine wpQuiet_nil ?_
      intro w' hw'
      have hk' := hkw.trans (Keeps.of_gr hw')
      clear hw'
      go_wp2_with fail
      go_roundw
      case rel => exact ⟨k + 1, by omega, by go_num, hk'⟩
      case measure => simp [intOf]; omega
    · go_wp2_with fail
      go_ret
      exact ⟨rfl, hkw⟩
/-- An event with marks from n on. -/
def markEv (n : Nat) : Ev := ⟨n, (n : Int) + 1, (n : Int) + 1 + 1, (n : Int) + 1 + 1 + 1, (n : Int) + 1 + 1 + 1 + 1, (n : Int) + 1 + 1 + 1 + 1 + 1, decide ((n + 1 + 1 + 1 + 1 + 1 + 1) % 3 = 0)⟩
def markE (n k : Nat) : List Ev := (List.range k).map fun i => markEv (n + 7 * i)
theorem markE_succ (n k : Nat) : markE n (k + 1) = markE n k ++ [markEv (n + 7 * k)] := by simp [markE, List.range_succ]
theorem markE_len (n k : Nat) : (markE n k).length = k := by simp [markE]
theorem ecells_set0 (A B : List Ev) (x : Ev) (n : Int) {k : Nat} (hA : A.length = k) : (ecells (A ++ x :: B)).set (k * 7) (.int .i64 n) = ecells (A ++ ⟨n, x.y, x.c, x.t, x.m, x.f, x.b⟩ :: B) := by
  subst hA
  have hl := ecells_len A
  rw [ecells_append, ecells_append, List.set_append_right _ _ (by omega), hl]
  simp [ecells, Ev.cells]
theorem ecells_set1 (A B : List Ev) (x : Ev) (n : Int) {k : Nat} (hA : A.length = k) : (ecells (A ++ x :: B)).set (k * 7 + 1) (.int .i64 n) = ecells (A ++ ⟨x.k, n, x.c, x.t, x.m, x.f, x.b⟩ :: B) := by
  subst hA
  have hl := ecells_len A
  rw [ecells_append, ecells_append, List.set_append_right _ _ (by omega), hl, show A.length * 7 + 1 - A.length * 7 = 1 by omega]
  simp [ecells, Ev.cells]
theorem ecells_set2 (A B : List Ev) (x : Ev) (n : Int) {k : Nat} (hA : A.length = k) : (ecells (A ++ x :: B)).set (k * 7 + 2) (.int .i64 n) = ecells (A ++ ⟨x.k, x.y, n, x.t, x.m, x.f, x.b⟩ :: B) := by
  subst hA
  have hl := ecells_len A
  rw [ecells_append, ecells_append, List.set_append_right _ _ (by omega), hl, show A.length * 7 + 2 - A.length * 7 = 2 by omega]
  simp [ecells, Ev.cells]
theorem ecells_set3 (A B : List Ev) (x : Ev) (n : Int) {k : Nat} (hA : A.length = k) : (ecells (A ++ x :: B)).set (k * 7 + 3) (.int .i64 n) = ecells (A ++ ⟨x.k, x.y, x.c, n, x.m, x.f, x.b⟩ :: B) := by
  subst hA
  have hl := ecells_len A
  rw [ecells_append, ecells_append, List.set_append_right _ _ (by omega), hl, show A.length * 7 + 3 - A.length * 7 = 3 by omega]
  simp [ecells, Ev.cells]
theorem ecells_set4 (A B : List Ev) (x : Ev) (n : Int) {k : Nat} (hA : A.length = k) : (ecells (A ++ x :: B)).set (k * 7 + 4) (.int .i64 n) = ecells (A ++ ⟨x.k, x.y, x.c, x.t, n, x.f, x.b⟩ :: B) := by
  subst hA
  have hl := ecells_len A
  rw [ecells_append, ecells_append, List.set_append_right _ _ (by omega), hl, show A.length * 7 + 4 - A.length * 7 = 4 by omega]
  simp [ecells, Ev.cells]
theorem ecells_set5 (A B : List Ev) (x : Ev) (n : Int) {k : Nat} (hA : A.length = k) : (ecells (A ++ x :: B)).set (k * 7 + 5) (.int .i64 n) = ecells (A ++ ⟨x.k, x.y, x.c, x.t, x.m, n, x.b⟩ :: B) := by
  subst hA
  have hl := ecells_len A
  rw [ecells_append, ecells_append, List.set_append_right _ _ (by omega), hl, show A.length * 7 + 5 - A.length * 7 = 5 by omega]
  simp [ecells, Ev.cells]
theorem ecells_set6 (A B : List Ev) (x : Ev) (n : Bool) {k : Nat} (hA : A.length = k) : (ecells (A ++ x :: B)).set (k * 7 + 6) (.bool n) = ecells (A ++ ⟨x.k, x.y, x.c, x.t, x.m, x.f, n⟩ :: B) := by
  subst hA
  have hl := ecells_len A
  rw [ecells_append, ecells_append, List.set_append_right _ _ (by omega), hl, show A.length * 7 + 6 - A.length * 7 = 6 by omega]
  simp [ecells, Ev.cells]
set_option maxHeartbeats 16000000 in
theorem markEventS_k (a : Option Addr) (cap : Nat) (ds : List Ev) (n : Nat) (w : World) (h : Own w [(a, ecells ds)]) (hl : ds.length ≤ 1048576) (hn : n ≤ 1000000000) :
    Calls Tryz.prog 27 #[.slice a ds.length cap, .int .i64 (n : Int)] w fun e w' => e = .returned (.int .i64 ((n + 7 * ds.length : Nat) : Int)) ∧ Own w' [(a, ecells (markE n ds.length))] ∧ Turn (fp [(a, ecells ds)]) w w' := by
  have HO := hide h
  clear h
  go_enter Tryz.func27, Tryz.ntmps27
  go_wp2_with fail
  go_loopw [1, 5] (fun x y wr => ∃ (k z : Nat), k ≤ ds.length ∧ Hid (n + 7 * k = z) ∧ x = .int .i64 (z : Int) ∧ y = .int .i64 (k : Int) ∧ Hid (Own wr [(a, ecells (markE n k ++ ds.drop k))]) ∧ Hid (Turn (fp [(a, ecells ds)]) w wr)) (fun _ y _ => ds.length - (intOf y).toNat)
  case atStart => exact ⟨0, n, by omega, by show _ = _; simp, rfl, rfl, by show Own _ _; simpa [markE] using HO.out, Turn.refl _ _⟩
  case round =>
    obtain ⟨k, z, hk, HZ, rfl, rfl, HO0, HT⟩ := hrel
    by_cases hlt : k < ds.length
    · have hz : z ≤ 1200000000 := by have := HZ.out; omega
      have HDr : Hid (ds.drop k = ds[k] :: ds.drop (k + 1)) := List.drop_eq_getElem_cons hlt
      have HLA : Hid ((markE n k).length = k) := markE_len n k
      have HTk : Hid (markE n (k + 1) ++ ds.drop (k + 1) = markE n k ++ Ev.mk ((z : Int)) ((z : Int) + 1) ((z : Int) + 1 + 1) ((z : Int) + 1 + 1 + 1) ((z : Int) + 1 + 1 + 1 + 1) ((z : Int) + 1 + 1 + 1 + 1 + 1) (decide ((z + 1 + 1 + 1 + 1 + 1 + 1) % 3 = 0)) :: ds.drop (k + 1)) := by
        show _ = _
        rw [markE_succ, ← HZ.out, List.append_assoc]; rfl
      have HZn : Hid (n + 7 * (k + 1) = z + 7) := by show _ = _; have := HZ.out; omega
      have HFE : Hid (fp [(a, ecells (markE n k ++ ds.drop k))] = fp [(a, ecells ds)]) := by
        show _ = _
        rw [fp_one, fp_one]
        exact fpS_len (by rw [ecells_len, ecells_len, List.length_append, HLA.out, List.length_drop]; congr 1; omega)
      rw [HDr.out] at HO0 HFE
      generalize ds[k] = c at *
      obtain ⟨ek, ey, ec, et, em, ef, eb⟩ := c
      generalize markE n k = A at *
      generalize hB : ds.drop (k + 1) = B at *
      have HBB := hide hB
      clear hB HZ
      have hcl : Cells wr a (ecells (A ++ Ev.mk ek ey ec et em ef eb :: B)) := HO0.out.mem (a, ecells (A ++ Ev.mk ek ey ec et em ef eb :: B)) (by simp)
      have hkl : k < (A ++ Ev.mk ek ey ec et em ef eb :: B).length := by have := HLA.out; simp; omega
      obtain ⟨b, off, ea, c0, c1, c2, c3, c4, c5, c6⟩ := cell7 hcl k hkl
      subst ea
      have he : (A ++ Ev.mk ek ey ec et em ef eb :: B)[k] = Ev.mk ek ey ec et em ef eb := by
        rw [List.getElem_append_right (by have := HLA.out; omega)]
        simp [HLA.out]
      rw [he] at c0 c1 c2 c3 c4 c5 c6
      dsimp only at c0 c1 c2 c3 c4 c5 c6
      have hne0 : ecells (A ++ Ev.mk ek ey ec et em ef eb :: B) ≠ [] := fun e => by
        have := ecells_len (A ++ Ev.mk ek ey ec et em ef eb :: B)
        rw [e] at this
        simp at this
      have hfp : fp [((some (⟨b, off, none⟩ : Addr)), ecells (A ++ Ev.mk ek ey ec et em ef eb :: B))] = [b] := by rw [fp_one, fpS_some hne0]
      have f0 : ∀ o, wr.frozen? ⟨b, o, none⟩ = false := HO0.out.free b (by rw [hfp]; simp)
      have z0 := f0 (off + k * 7)
      have z1 := f0 (off + k * 7 + 1)
      have z2 := f0 (off + k * 7 + 2)
      have z3 := f0 (off + k * 7 + 3)
      have z4 := f0 (off + k * 7 + 4)
      have z5 := f0 (off + k * 7 + 5)
      have z6 := f0 (off + k * 7 + 6)
      have HO1 : Hid (Own (wr.setCell ⟨b, off + k * 7, none⟩ (.int .i64 ((z : Int)))) [(some ⟨b, off, none⟩, ecells (A ++ Ev.mk ((z : Int)) ey ec et em ef eb :: B))]) := by
        have h1 := HO0.out.setCell (k * 7) (.int .i64 ((z : Int))) (by rw [ecells_len]; have := HLA.out; simp; omega)
        rw [ecells_set0 A B _ _ HLA.out] at h1
        exact h1
      have HO2 : Hid (Own ((wr.setCell ⟨b, off + k * 7, none⟩ (.int .i64 ((z : Int)))).setCell ⟨b, off + k * 7 + 1, none⟩ (.int .i64 ((z : Int) + 1))) [(some ⟨b, off, none⟩, ecells (A ++ Ev.mk ((z : Int)) ((z : Int) + 1) ec et em ef eb :: B))]) := by
        have h1 := HO1.out.setCell (k * 7 + 1) (.int .i64 ((z : Int) + 1)) (by rw [ecells_len]; have := HLA.out; simp; omega)
        rw [ecells_set1 A B _ _ HLA.out] at h1
        rw [← Nat.add_assoc] at h1
        exact h1
      have HO3 : Hid (Own (((wr.setCell ⟨b, off + k * 7, none⟩ (.int .i64 ((z : Int)))).setCell ⟨b, off + k * 7 + 1, none⟩ (.int .i64 ((z : Int) + 1))).setCell ⟨b, off + k * 7 + 2, none⟩ (.int .i64 ((z : Int) + 1 + 1))) [(some ⟨b, off, none⟩, ecells (A ++ Ev.mk ((z : Int)) ((z : Int) + 1) ((z : Int) + 1 + 1) et em ef eb :: B))]) := by
        have h1 := HO2.out.setCell (k * 7 + 2) (.int .i64 ((z : Int) + 1 + 1)) (by rw [ecells_len]; have := HLA.out; simp; omega)
        rw [ecells_set2 A B _ _ HLA.out] at h1
        rw [← Nat.add_assoc] at h1
        exact h1
      have HO4 : Hid (Own ((((wr.setCell ⟨b, off + k * 7, none⟩ (.int .i64 ((z : Int)))).setCell ⟨b, off + k * 7 + 1, none⟩ (.int .i64 ((z : Int) + 1))).setCell ⟨b, off + k * 7 + 2, none⟩ (.int .i64 ((z : Int) + 1 + 1))).setCell ⟨b, off + k * 7 + 3, none⟩ (.int .i64 ((z : Int) + 1 + 1 + 1))) [(some ⟨b, off, none⟩, ecells (A ++ Ev.mk ((z : Int)) ((z : Int) + 1) ((z : Int) + 1 + 1) ((z : Int) + 1 + 1 + 1) em ef eb :: B))]) := by
        have h1 := HO3.out.setCell (k * 7 + 3) (.int .i64 ((z : Int) + 1 + 1 + 1)) (by rw [ecells_len]; have := HLA.out; simp; omega)
        rw [ecells_set3 A B _ _ HLA.out] at h1
        rw [← Nat.add_assoc] at h1
        exact h1
      have HO5 : Hid (Own (((((wr.setCell ⟨b, off + k * 7, none⟩ (.int .i64 ((z : Int)))).setCell ⟨b, off + k * 7 + 1, none⟩ (.int .i64 ((z : Int) + 1))).setCell ⟨b, off + k * 7 + 2, none⟩ (.int .i64 ((z : Int) + 1 + 1))).setCell ⟨b, off + k * 7 + 3, none⟩ (.int .i64 ((z : Int) + 1 + 1 + 1))).setCell ⟨b, off + k * 7 + 4, none⟩ (.int .i64 ((z : Int) + 1 + 1 + 1 + 1))) [(some ⟨b, off, none⟩, ecells (A ++ Ev.mk ((z : Int)) ((z : Int) + 1) ((z : Int) + 1 + 1) ((z : Int) + 1 + 1 + 1) ((z : Int) + 1 + 1 + 1 + 1) ef eb :: B))]) := by
        have h1 := HO4.out.setCell (k * 7 + 4) (.int .i64 ((z : Int) + 1 + 1 + 1 + 1)) (by rw [ecells_len]; have := HLA.out; simp; omega)
        rw [ecells_set4 A B _ _ HLA.out] at h1
        rw [← Nat.add_assoc] at h1
        exact h1
      have HO6 : Hid (Own ((((((wr.setCell ⟨b, off + k * 7, none⟩ (.int .i64 ((z : Int)))).setCell ⟨b, off + k * 7 + 1, none⟩ (.int .i64 ((z : Int) + 1))).setCell ⟨b, off + k * 7 + 2, none⟩ (.int .i64 ((z : Int) + 1 + 1))).setCell ⟨b, off + k * 7 + 3, none⟩ (.int .i64 ((z : Int) + 1 + 1 + 1))).setCell ⟨b, off + k * 7 + 4, none⟩ (.int .i64 ((z : Int) + 1 + 1 + 1 + 1))).setCell ⟨b, off + k * 7 + 5, none⟩ (.int .i64 ((z : Int) + 1 + 1 + 1 + 1 + 1))) [(some ⟨b, off, none⟩, ecells (A ++ Ev.mk ((z : Int)) ((z : Int) + 1) ((z : Int) + 1 + 1) ((z : Int) + 1 + 1 + 1) ((z : Int) + 1 + 1 + 1 + 1) ((z : Int) + 1 + 1 + 1 + 1 + 1) eb :: B))]) := by
        have h1 := HO5.out.setCell (k * 7 + 5) (.int .i64 ((z : Int) + 1 + 1 + 1 + 1 + 1)) (by rw [ecells_len]; have := HLA.out; simp; omega)
        rw [ecells_set5 A B _ _ HLA.out] at h1
        rw [← Nat.add_assoc] at h1
        exact h1
      have HO7 : Hid (Own (((((((wr.setCell ⟨b, off + k * 7, none⟩ (.int .i64 ((z : Int)))).setCell ⟨b, off + k * 7 + 1, none⟩ (.int .i64 ((z : Int) + 1))).setCell ⟨b, off + k * 7 + 2, none⟩ (.int .i64 ((z : Int) + 1 + 1))).setCell ⟨b, off + k * 7 + 3, none⟩ (.int .i64 ((z : Int) + 1 + 1 + 1))).setCell ⟨b, off + k * 7 + 4, none⟩ (.int .i64 ((z : Int) + 1 + 1 + 1 + 1))).setCell ⟨b, off + k * 7 + 5, none⟩ (.int .i64 ((z : Int) + 1 + 1 + 1 + 1 + 1))).setCell ⟨b, off + k * 7 + 6, none⟩ (.bool (decide ((z + 1 + 1 + 1 + 1 + 1 + 1) % 3 = 0)))) [(some ⟨b, off, none⟩, ecells (A ++ Ev.mk ((z : Int)) ((z : Int) + 1) ((z : Int) + 1 + 1) ((z : Int) + 1 + 1 + 1) ((z : Int) + 1 + 1 + 1 + 1) ((z : Int) + 1 + 1 + 1 + 1 + 1) (decide ((z + 1 + 1 + 1 + 1 + 1 + 1) % 3 = 0)) :: B))]) := by
        have h1 := HO6.out.setCell (k * 7 + 6) (.bool (decide ((z + 1 + 1 + 1 + 1 + 1 + 1) % 3 = 0))) (by rw [ecells_len]; have := HLA.out; simp; omega)
        rw [ecells_set6 A B _ _ HLA.out] at h1
        rw [← Nat.add_assoc] at h1
        exact h1
      have d1 : (wr.setCell ⟨b, off + k * 7, none⟩ (.int .i64 ((z : Int)))).cell? ⟨b, off + k * 7 + 1, none⟩ = some (.int .i64 ey) := by
        rw [World.cell?_setCell_other _ _ _ _ (by simp)]; exact c1
      have d2 : ((wr.setCell ⟨b, off + k * 7, none⟩ (.int .i64 ((z : Int)))).setCell ⟨b, off + k * 7 + 1, none⟩ (.int .i64 ((z : Int) + 1))).cell? ⟨b, off + k * 7 + 2, none⟩ = some (.int .i64 ec) := by
        rw [World.cell?_setCell_other _ _ _ _ (by simp), World.cell?_setCell_other _ _ _ _ (by simp)]; exact c2
      have d3 : (((wr.setCell ⟨b, off + k * 7, none⟩ (.int .i64 ((z : Int)))).setCell ⟨b, off + k * 7 + 1, none⟩ (.int .i64 ((z : Int) + 1))).setCell ⟨b, off + k * 7 + 2, none⟩ (.int .i64 ((z : Int) + 1 + 1))).cell? ⟨b, off + k * 7 + 3, none⟩ = some (.int .i64 et) := by
        rw [World.cell?_setCell_other _ _ _ _ (by simp), World.cell?_setCell_other _ _ _ _ (by simp), World.cell?_setCell_other _ _ _ _ (by simp)]; exact c3
      have d4 : ((((wr.setCell ⟨b, off + k * 7, none⟩ (.int .i64 ((z : Int)))).setCell ⟨b, off + k * 7 + 1, none⟩ (.int .i64 ((z : Int) + 1))).setCell ⟨b, off + k * 7 + 2, none⟩ (.int .i64 ((z : Int) + 1 + 1))).setCell ⟨b, off + k * 7 + 3, none⟩ (.int .i64 ((z : Int) + 1 + 1 + 1))).cell? ⟨b, off + k * 7 + 4, none⟩ = some (.int .i64 em) := by
        rw [World.cell?_setCell_other _ _ _ _ (by simp), World.cell?_setCell_other _ _ _ _ (by simp), World.cell?_setCell_other _ _ _ _ (by simp), World.cell?_setCell_other _ _ _ _ (by simp)]; exact c4
      have d5 : (((((wr.setCell ⟨b, off + k * 7, none⟩ (.int .i64 ((z : Int)))).setCell ⟨b, off + k * 7 + 1, none⟩ (.int .i64 ((z : Int) + 1))).setCell ⟨b, off + k * 7 + 2, none⟩ (.int .i64 ((z : Int) + 1 + 1))).setCell ⟨b, off + k * 7 + 3, none⟩ (.int .i64 ((z : Int) + 1 + 1 + 1))).setCell ⟨b, off + k * 7 + 4, none⟩ (.int .i64 ((z : Int) + 1 + 1 + 1 + 1))).cell? ⟨b, off + k * 7 + 5, none⟩ = some (.int .i64 ef) := by
        rw [World.cell?_setCell_other _ _ _ _ (by simp), World.cell?_setCell_other _ _ _ _ (by simp), World.cell?_setCell_other _ _ _ _ (by simp), World.cell?_setCell_other _ _ _ _ (by simp), World.cell?_setCell_other _ _ _ _ (by simp)]; exact c5
      have d6 : ((((((wr.setCell ⟨b, off + k * 7, none⟩ (.int .i64 ((z : Int)))).setCell ⟨b, off + k * 7 + 1, none⟩ (.int .i64 ((z : Int) + 1))).setCell ⟨b, off + k * 7 + 2, none⟩ (.int .i64 ((z : Int) + 1 + 1))).setCell ⟨b, off + k * 7 + 3, none⟩ (.int .i64 ((z : Int) + 1 + 1 + 1))).setCell ⟨b, off + k * 7 + 4, none⟩ (.int .i64 ((z : Int) + 1 + 1 + 1 + 1))).setCell ⟨b, off + k * 7 + 5, none⟩ (.int .i64 ((z : Int) + 1 + 1 + 1 + 1 + 1))).cell? ⟨b, off + k * 7 + 6, none⟩ = some (.bool eb) := by
        rw [World.cell?_setCell_other _ _ _ _ (by simp), World.cell?_setCell_other _ _ _ _ (by simp), World.cell?_setCell_other _ _ _ _ (by simp), World.cell?_setCell_other _ _ _ _ (by simp), World.cell?_setCell_other _ _ _ _ (by simp), World.cell?_setCell_other _ _ _ _ (by simp)]; exact c6
      have hm3 : (((z : Int) + 1 + 1 + 1 + 1 + 1 + 1) % 3 == 0) = decide ((z + 1 + 1 + 1 + 1 + 1 + 1) % 3 = 0) := by
        by_cases h3 : (z + 1 + 1 + 1 + 1 + 1 + 1) % 3 = 0
        · rw [decide_eq_true h3]; simp; omega
        · rw [decide_eq_false h3]; simp; omega
      have HTw : Hid (Turn (fp [((some (⟨b, off, none⟩ : Addr)), ecells ds)]) w (((((((wr.setCell ⟨b, off + k * 7, none⟩ (.int .i64 ((z : Int)))).setCell ⟨b, off + k * 7 + 1, none⟩ (.int .i64 ((z : Int) + 1))).setCell ⟨b, off + k * 7 + 2, none⟩ (.int .i64 ((z : Int) + 1 + 1))).setCell ⟨b, off + k * 7 + 3, none⟩ (.int .i64 ((z : Int) + 1 + 1 + 1))).setCell ⟨b, off + k * 7 + 4, none⟩ (.int .i64 ((z : Int) + 1 + 1 + 1 + 1))).setCell ⟨b, off + k * 7 + 5, none⟩ (.int .i64 ((z : Int) + 1 + 1 + 1 + 1 + 1))).setCell ⟨b, off + k * 7 + 6, none⟩ (.bool (decide ((z + 1 + 1 + 1 + 1 + 1 + 1) % 3 = 0))))) := by
        have h2 : Turn [b] wr (((((((wr.setCell ⟨b, off + k * 7, none⟩ (.int .i64 ((z : Int)))).setCell ⟨b, off + k * 7 + 1, none⟩ (.int .i64 ((z : Int) + 1))).setCell ⟨b, off + k * 7 + 2, none⟩ (.int .i64 ((z : Int) + 1 + 1))).setCell ⟨b, off + k * 7 + 3, none⟩ (.int .i64 ((z : Int) + 1 + 1 + 1))).setCell ⟨b, off + k * 7 + 4, none⟩ (.int .i64 ((z : Int) + 1 + 1 + 1 + 1))).setCell ⟨b, off + k * 7 + 5, none⟩ (.int .i64 ((z : Int) + 1 + 1 + 1 + 1 + 1))).setCell ⟨b, off + k * 7 + 6, none⟩ (.bool (decide ((z + 1 + 1 + 1 + 1 + 1 + 1) % 3 = 0)))) := (((((((Turn.set (by simp) _).trans' (Turn.set (by simp) _)).trans' (Turn.set (by simp) _)).trans' (Turn.set (by simp) _)).trans' (Turn.set (by simp) _)).trans' (Turn.set (by simp) _)).trans' (Turn.set (by simp) _))
        rw [← HFE.out, hfp] at HT ⊢
        exact HT.out.trans' h2
      clear HO0 HO1 HO2 HO3 HO4 HO5 HO6 hcl he f0 HT HFE hfp
      go_wp2_with fail
      go_roundw
      case rel => exact ⟨k + 1, z + 7, by omega, HZn, congrArg (Value.int .i64) (by omega), by go_num, (by show Own _ _; rw [HBB.out, HTk.out]; exact HO7.out), HTw⟩
      case measure => simp [intOf]; omega
    · have e : k = ds.length := by omega
      subst e
      have HZ2 := hide HZ.out
      go_wp2_with fail
      go_ret
      have h2 := HO0.out
      rw [List.drop_length, List.append_nil] at h2
      exact ⟨by rw [HZ2.out]; rfl, h2, HT.out⟩
set_option maxHeartbeats 8000000 in
theorem heldEventS_k (a : Option Addr) (cap : Nat) (len n : Nat) (w : World) (hc : Cells w a (ecells (markE n len))) (hl : len ≤ 1048576) (hn : n ≤ 1000000000) :
    Calls Tryz.prog 29 #[.slice a len cap, .int .i64 (n : Int)] w fun e w' => e = .returned (.int .i64 ((n + 7 * len : Nat) : Int)) ∧ w' = w := by
  have HC := hide hc
  clear hc
  go_enter Tryz.func29, Tryz.ntmps29
  go_wp2_with fail
  go_loop [1, 5] (fun x y => ∃ (k z : Nat), k ≤ len ∧ Hid (n + 7 * k = z) ∧ x = .int .i64 (z : Int) ∧ y = .int .i64 (k : Int)) (fun _ y => len - (intOf y).toNat)
  case atStart => exact ⟨0, n, by omega, by show _ = _; simp, rfl, rfl⟩
  case round =>
    obtain ⟨k, z, hk, HZ, rfl, rfl⟩ := hrel
    by_cases hlt : k < len
    · have hz : z ≤ 1200000000 := by have := HZ.out; omega
      have HZn : Hid (n + 7 * (k + 1) = z + 7) := by show _ = _; have := HZ.out; omega
      obtain ⟨b, off, ea, c0, c1, c2, c3, c4, c5, c6⟩ := cell7 HC.out k (by rw [markE_len]; exact hlt)
      have e : (markE n len)[k]'(by rw [markE_len]; exact hlt) = markEv z := by simp [markE, HZ.out]
      rw [e] at c0 c1 c2 c3 c4 c5 c6
      dsimp only [markEv] at c0 c1 c2 c3 c4 c5 c6
      subst ea
      clear e HZ
      have hm3 : (((z : Int) + 1 + 1 + 1 + 1 + 1 + 1) % 3 == 0) = decide ((z + 1 + 1 + 1 + 1 + 1 + 1) % 3 = 0) := by
        by_cases h3 : (z + 1 + 1 + 1 + 1 + 1 + 1) % 3 = 0
        · rw [decide_eq_true h3]; simp; omega
        · rw [decide_eq_false h3]; simp; omega
      obtain ⟨q, hq⟩ : ∃ q, decide ((z + 1 + 1 + 1 + 1 + 1 + 1) % 3 = 0) = q := ⟨_, rfl⟩
      rw [hq] at c6 hm3
      clear hq
      cases q
      all_goals
        go_wp2_with fail
        go_round
        case rel => exact ⟨k + 1, z + 7, by omega, HZn, congrArg (Value.int .i64) (by omega), by go_num⟩
        case measure => simp [intOf]; omega
    · have e : k = len := by omega
      subst e
      have HZ2 := hide HZ.out
      go_wp2_with fail
      go_ret
      exact ⟨congrArg (fun y : Int => Ending.returned (Value.int .i64 y)) (show ((z : Nat) : Int) = _ by have := HZ2.out; omega), rfl⟩
end Go.Proofs.YtkdnddckogbgaaaGreatDoor
namespace Go.Proofs.YtkdnddckogbgaaaGreatDoor
open Go.RowKit Go.ChangeShapes

theorem cells96 : Tryz.prog.cellsOf 192 = 1 := by kernel_rfl
theorem cells9 : Tryz.prog.cellsOf 9 = 1 := by kernel_rfl
theorem star : "*" ++ "errors.errorString" = "*errors.errorString" := by decide
theorem row94 (u : TypeId) (h : Tryz.prog.typeName? 3 u = some "*errors.errorString") : u = 173 :=
  typeName_ptr_named (nm := "errors.errorString") (by rw [star]; kernel_rfl) (by kernel_rfl) (by decide) u (by rw [star]; exact h)

/-- The head of the list, a sentinel: its variable holds a pointer. -/
theorem sent {n : String} {text : List UInt8} {r : List (String × DataW Unit)} {W : World} {g : Nat} (h : laidMet Tryz.prog ((n, .iface "*errors.errorString" (.ptr (.agg [.lit (.string text)]))) :: r) W)
    (hg : Tryz.prog.globalNamed n = some g) (ht : (Tryz.prog.globals[g]?).map (·.type) = some 168) : ∃ a : Addr, W.var? Tryz.prog n = some #[.iface 173 (.pointer (some a))] := by
  obtain ⟨a, _, h, _⟩ := laid_sentinel h hg ht Tryz.underlying168 row94 Tryz.underlying173 Tryz.underlying192 rfl rfl Tryz.underlying9 cells96 cells9
  exact ⟨a, h⟩
end Go.Proofs.YtkdnddckogbgaaaGreatDoor
