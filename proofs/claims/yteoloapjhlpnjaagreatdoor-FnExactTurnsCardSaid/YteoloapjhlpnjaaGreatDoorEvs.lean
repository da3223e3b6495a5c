/- Events as data, and what the laws do with lists of them. -/
import Derived.Test.YteoloapjhlpnjaaGreatDoorFlt
import Derived.Test.YteoloapjhlpnjaaGreatDoorBgC
namespace Go.Proofs.YteoloapjhlpnjaaGreatDoor
open Go.RowKit Go.Deep
set_option linter.unusedVariables false
set_option linter.unusedSimpArgs false
set_option maxRecDepth 10000

structure Ev where
  k : Int
  y : Int
  c : Int
  t : Int
  m : Int
  f : Int
  b : Bool
def Ev.cells (x : Ev) : List Value := [.int .i64 x.k, .int .i64 x.y, .int .i64 x.c, .int .i64 x.t, .int .i64 x.m, .int .i64 x.f, .bool x.b]
def ecells (xs : List Ev) : List Value := xs.flatMap Ev.cells
theorem ecells_len (xs : List Ev) : (ecells xs).length = xs.length * 7 := flatMap_len (f := Ev.cells) (sz := 7) (fun _ => rfl) xs
theorem ecells_append (xs ys : List Ev) : ecells (xs ++ ys) = ecells xs ++ ecells ys := by simp [ecells]
theorem ecells_at {w : World} {a : Option Addr} {xs : List Ev} (h : Cells w a (ecells xs)) (k : Nat) (hk : k < xs.length) :
    ∃ b off, a = some ⟨b, off, none⟩ ∧ w.cell? ⟨b, off + k * 7, none⟩ = some (.int .i64 xs[k].k) ∧ w.cell? ⟨b, off + k * 7 + 1, none⟩ = some (.int .i64 xs[k].y) ∧ w.cell? ⟨b, off + k * 7 + 2, none⟩ = some (.int .i64 xs[k].c) ∧ w.cell? ⟨b, off + k * 7 + 3, none⟩ = some (.int .i64 xs[k].t) ∧ w.cell? ⟨b, off + k * 7 + 4, none⟩ = some (.int .i64 xs[k].m) ∧ w.cell? ⟨b, off + k * 7 + 5, none⟩ = some (.int .i64 xs[k].f) ∧ w.cell? ⟨b, off + k * 7 + 6, none⟩ = some (.bool xs[k].b) := by
  obtain ⟨b, off, e, h⟩ := elem_at (f := Ev.cells) (sz := 7) (fun _ => rfl) h k hk (by decide)
  exact ⟨b, off, e, h 0 (by simp [Ev.cells]), h 1 (by simp [Ev.cells]), h 2 (by simp [Ev.cells]), h 3 (by simp [Ev.cells]), h 4 (by simp [Ev.cells]), h 5 (by simp [Ev.cells]), h 6 (by simp [Ev.cells])⟩
def Ev.v (x : Ev) : Value := .agg #[.int .i64 x.k, .int .i64 x.y, .int .i64 x.c, .int .i64 x.t, .int .i64 x.m, .int .i64 x.f, .bool x.b]
theorem infoEvent : (Tryz.prog.info? 41).map (fun i => (i.zero, i.size, i.bytes)) = some (some (.agg #[.int .i64 0, .int .i64 0, .int .i64 0, .int .i64 0, .int .i64 0, .int .i64 0, .bool false]), 7, 56) := by kernel_rfl
theorem underEvents : Tryz.prog.underlying 34 = some (.slice 41) := by kernel_rfl
theorem make_Events (n : Nat) (hn : n ≤ 1048576) (w : World) : (Instr.makeSlice 34 (.int .i64 (n : Int)) (.int .i64 (n : Int))).run Tryz.prog w = .ok (.slice (some ⟨w.heap.size, 0, none⟩) n n) (w.alloc (.cells (madeCells #[.int .i64 0, .int .i64 0, .int .i64 0, .int .i64 0, .int .i64 0, .int .i64 0, .bool false] (n * 7)) 41)) := by
  have hI := infoEvent
  cases hi : Tryz.prog.info? 41 with
  | none => rw [hi] at hI; simp at hI
  | some i =>
    rw [hi] at hI
    simp at hI
    obtain ⟨hz, hs, hb⟩ := hI
    have h := run_make (P := Tryz.prog) w 34 41 i _ underEvents hi hz .i64 .i64 n n (by omega) (Int.le_refl _) (by rw [hb]; omega) (by omega)
    rw [hs] at h
    simpa [Value.cells] using h
/-- The row of the new list while it is filled. -/
def rowEvent (L : List Ev) (k : Nat) : Nat → Value := fun j => if j < k * 7 then (ecells L).getD j (.int .i64 0) else (#[.int .i64 0, .int .i64 0, .int .i64 0, .int .i64 0, .int .i64 0, .int .i64 0, .bool false] : Array Value)[j % 7]!
theorem made_Event (L : List Ev) (w : World) (m : Nat) (t : TypeId) : (w.alloc (.cells (madeCells #[.int .i64 0, .int .i64 0, .int .i64 0, .int .i64 0, .int .i64 0, .int .i64 0, .bool false] m) t)).rowIs w.heap.size t m (rowEvent L 0) := by
  have h := World.rowIs_alloc w (madeCells #[.int .i64 0, .int .i64 0, .int .i64 0, .int .i64 0, .int .i64 0, .int .i64 0, .bool false] m) t (rowEvent L 0) (by
    intro i hi
    rw [size_madeCells] at hi
    simp only [madeCells, Array.getElem?_map, Array.getElem?_range]
    rw [if_pos hi]
    simp [rowEvent])
  rw [size_madeCells] at h
  exact h
theorem rowEvent_step (L : List Ev) (k : Nat) (h : k < L.length) (j : Nat) : (if j = k * 7 + 6 then (.bool L[k].b : Value) else if j = k * 7 + 5 then (.int .i64 L[k].f : Value) else if j = k * 7 + 4 then (.int .i64 L[k].m : Value) else if j = k * 7 + 3 then (.int .i64 L[k].t : Value) else if j = k * 7 + 2 then (.int .i64 L[k].c : Value) else if j = k * 7 + 1 then (.int .i64 L[k].y : Value) else if j = k * 7 then (.int .i64 L[k].k : Value) else rowEvent L k j) = rowEvent L (k + 1) j := by
  have hL := ecells_len L
  have hk := Nat.mul_le_mul_right 7 (show k + 1 ≤ L.length from h)
  have ha := fun r (hr : r < 7) => flatMap_at (f := Ev.cells) (sz := 7) (fun _ => rfl) L k h r hr
  unfold rowEvent
  by_cases h6 : j = k * 7 + 6
  · subst h6
    (try simp only [if_true])
    (try rw [if_pos rfl])
    rw [if_pos (by omega), List.getD_eq_getElem?_getD]
    have e := ha 6 (by decide)
    skip
    unfold ecells
    rw [e]; rfl
  rw [if_neg h6]
  by_cases h5 : j = k * 7 + 5
  · subst h5
    (try simp only [if_true])
    (try rw [if_pos rfl])
    rw [if_pos (by omega), List.getD_eq_getElem?_getD]
    have e := ha 5 (by decide)
    skip
    unfold ecells
    rw [e]; rfl
  rw [if_neg h5]
  by_cases h4 : j = k * 7 + 4
  · subst h4
    (try simp only [if_true])
    (try rw [if_pos rfl])
    rw [if_pos (by omega), List.getD_eq_getElem?_getD]
    have e := ha 4 (by decide)
    skip
    unfold ecells
    rw [e]; rfl
  rw [if_neg h4]
  by_cases h3 : j = k * 7 + 3
  · subst h3
    (try simp only [if_true])
    (try rw [if_pos rfl])
    rw [if_pos (by omega), List.getD_eq_getElem?_getD]
    have e := ha 3 (by decide)
    skip
    unfold ecells
    rw [e]; rfl
  rw [if_neg h3]
  by_cases h2 : j = k * 7 + 2
  · subst h2
    (try simp only [if_true])
    (try rw [if_pos rfl])
    rw [if_pos (by omega), List.getD_eq_getElem?_getD]
    have e := ha 2 (by decide)
    skip
    unfold ecells
    rw [e]; rfl
  rw [if_neg h2]
  by_cases h1 : j = k * 7 + 1
  · subst h1
    (try simp only [if_true])
    (try rw [if_pos rfl])
    rw [if_pos (by omega), List.getD_eq_getElem?_getD]
    have e := ha 1 (by decide)
    skip
    unfold ecells
    rw [e]; rfl
  rw [if_neg h1]
  by_cases h0 : j = k * 7
  · subst h0
    (try simp only [if_true])
    (try rw [if_pos rfl])
    rw [if_pos (by omega), List.getD_eq_getElem?_getD]
    have e := ha 0 (by decide)
    simp only [Nat.add_zero] at e
    unfold ecells
    rw [e]; rfl
  rw [if_neg h0]
  by_cases hlt : j < k * 7
  · rw [if_pos hlt, if_pos (by omega)]
  · rw [if_neg hlt, if_neg (by omega)]
theorem rowEvent_end (L : List Ev) (j : Nat) (hj : j < (ecells L).length) : rowEvent L L.length j = (ecells L)[j] := by
  have hL := ecells_len L
  unfold rowEvent
  rw [if_pos (by omega), List.getD_eq_getElem?_getD, List.getElem?_eq_getElem hj]
  rfl
theorem eqEvent_same (x : Ev) (w : World) : Calls Tryz.prog 48 #[x.v, x.v] w fun e w' => e = .returned (.bool true) ∧ Keeps w w' := by
  obtain ⟨xk, xy, xc, xt, xm, xf, xb⟩ := x
  dsimp only [Ev.v]
  cases xb
  all_goals
    go_enter Tryz.func48, Tryz.ntmps48
    go_wp2_with fail
    go_ret
    exact ⟨rfl, Keeps.alloc (Keeps.alloc (Keeps.refl _) _) _⟩
set_option maxHeartbeats 4000000 in
theorem eqEventS_k (a a' : Option Addr) (cap cap' : Nat) (xs : List Ev) (w : World) (hc : Cells w a (ecells xs)) (hc' : Cells w a' (ecells xs)) (hl : xs.length ≤ 1048576) :
    Calls Tryz.prog 16 #[.slice a xs.length cap, .slice a' xs.length cap'] w fun e w' => e = .returned (.bool true) ∧ Keeps w w' := by
  have HC := hide hc
  have HC' := hide hc'
  clear hc hc'
  go_enter Tryz.func16, Tryz.ntmps16
  go_wp2_with fail
  go_loopw [5] (fun y w1 => ∃ k : Nat, k ≤ xs.length ∧ y = .int .i64 (k : Int) ∧ Keeps w w1) (fun y _ => xs.length - (intOf y).toNat)
  case atStart => exact ⟨0, by omega, rfl, Keeps.refl _⟩
  case round =>
    obtain ⟨k, hk, rfl, hkw⟩ := hrel
    by_cases hlt : k < xs.length
    · obtain ⟨b, off, ea, c0, c1, c2, c3, c4, c5, c6⟩ := ecells_at (HC.out.kept hkw) k hlt
      obtain ⟨b', off', ea', d0, d1, d2, d3, d4, d5, d6⟩ := ecells_at (HC'.out.kept hkw) k hlt
      have HEA := hide ea
      have HEA' := hide ea'
      clear ea ea'
      obtain rfl := HEA.out
      obtain rfl := HEA'.out
      have HQ := hide (fun t => eqEvent_same xs[k] (gr wr t))
      have g0 := gr_cell c0
      have i0 := gr_cell d0
      have g1 := gr_cell c1
      have i1 := gr_cell d1
      have g2 := gr_cell c2
      have i2 := gr_cell d2
      have g3 := gr_cell c3
      have i3 := gr_cell d3
      have g4 := gr_cell c4
      have i4 := gr_cell d4
      have g5 := gr_cell c5
      have i5 := gr_cell d5
      have g6 := gr_cell c6
      have i6 := gr_cell d6
      generalize xs[k] = x at *
      obtain ⟨xk, xy, xc, xt, xm, xf, xb⟩ := x
      dsimp only [Ev.v] at c0 d0 g0 i0 c1 d1 g1 i1 c2 d2 g2 i2 c3 d3 g3 i3 c4 d4 g4 i4 c5 d5 g5 i5 c6 d6 g6 i6 HQ
      go_wp2_with fail
      refine region_gr (by kernel_rfl) (by kernel_rfl) ?_
      repeat (go_big_quiet_step (first | (go_at_call 48; exact gr_call (unhide HQ _))))
      refine wpQuiet_nil ?_
      intro w' hw'
      have hk' := hkw.trans (Keeps.of_gr hw')
      clear hw'
      go_wp2_with fail
      go_roundw
      case rel => exact ⟨k + 1, by omega, by go_num, hk'⟩
      case measure => simp [intOf]; omega
    · go_wp2_with fail
      go_ret
      exact ⟨rfl, hkw⟩
end Go.Proofs.YteoloapjhlpnjaaGreatDoor
