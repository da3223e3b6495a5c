/- What the laws do with lists of Move. -/
import Derived.Test.YtjdbedlgkngdkaaMv
namespace Go.Proofs.Ytjdbedlgkngdkaa
open Go.RowKit Go.Deep
set_option linter.unusedVariables false
set_option linter.unusedSimpArgs false
set_option maxRecDepth 10000

def Mov.v (x : Mov) : Value := .agg #[.int .i64 x.fr, .int .i64 x.to, .int .i64 x.am, .int .i64 x.pp]
theorem toMove_k (x : Mov) (w : World) : Calls Try.prog 36 #[x.v] w fun e w' => e = .returned x.v ∧ Keeps w w' := by
  obtain ⟨xfr, xto, xam, xpp⟩ := x
  dsimp only [Mov.v]
  go_enter Try.func36, Try.ntmps36
  go_wp2_with fail
  refine bodyPost_ret (v := .agg #[.int .i64 xfr, .int .i64 xto, .int .i64 xam, .int .i64 xpp]) (by simp [results, Try.results36, go_sem]) rfl ⟨rfl, ?_⟩
  repeat (first | exact Keeps.refl _ | refine Keeps.alloc ?_ _ | refine Keeps.setCell ?_ (by simp) _)
theorem szMoveS_k (a : Option Addr) (len cap : Nat) (left : Int) (w : World) (hl : len ≤ 9223372036854775807) (h0 : 0 ≤ left) (h1 : left ≤ 1048576) :
    Calls Try.prog 13 #[.slice a len cap, .int .i64 left] w fun e w' => e = .returned (.int .i64 (if (len : Int) ≤ left then left - len else -1)) ∧ w' = w := by
  by_cases h : (len : Int) ≤ left
  · rw [if_pos h]
    go_enter Try.func13, Try.ntmps13
    go_wp2_with fail
    go_ret
    exact ⟨rfl, rfl⟩
  · rw [if_neg h]
    go_enter Try.func13, Try.ntmps13
    go_wp2_with fail
    go_ret
    exact ⟨rfl, rfl⟩
theorem infoMove : (Try.prog.info? 71).map (fun i => (i.zero, i.size, i.bytes)) = some (some (.agg #[.int .i64 0, .int .i64 0, .int .i64 0, .int .i64 0]), 4, 32) := by kernel_rfl
theorem underMoves : Try.prog.underlying 45 = some (.slice 71) := by kernel_rfl
theorem make_Moves (n : Nat) (hn : n ≤ 1048576) (w : World) : (Instr.makeSlice 45 (.int .i64 (n : Int)) (.int .i64 (n : Int))).run Try.prog w = .ok (.slice (some ⟨w.heap.size, 0, none⟩) n n) (w.alloc (.cells (madeCells #[.int .i64 0, .int .i64 0, .int .i64 0, .int .i64 0] (n * 4)) 71)) := by
  have hI := infoMove
  cases hi : Try.prog.info? 71 with
  | none => rw [hi] at hI; simp at hI
  | some i =>
    rw [hi] at hI
    simp at hI
    obtain ⟨hz, hs, hb⟩ := hI
    have h := run_make (P := Try.prog) w 45 71 i _ underMoves hi hz .i64 .i64 n n (by omega) (Int.le_refl _) (by rw [hb]; omega) (by omega)
    rw [hs] at h
    simpa [Value.cells] using h
/-- The row of the new list while it is filled. -/
def rowMove (L : List Mov) (k : Nat) : Nat → Value := fun j => if j < k * 4 then (mvs L).getD j (.int .i64 0) else (#[.int .i64 0, .int .i64 0, .int .i64 0, .int .i64 0] : Array Value)[j % 4]!
theorem made_Move (L : List Mov) (w : World) (m : Nat) (t : TypeId) : (w.alloc (.cells (madeCells #[.int .i64 0, .int .i64 0, .int .i64 0, .int .i64 0] m) t)).rowIs w.heap.size t m (rowMove L 0) := by
  have h := World.rowIs_alloc w (madeCells #[.int .i64 0, .int .i64 0, .int .i64 0, .int .i64 0] m) t (rowMove L 0) (by
    intro i hi
    rw [size_madeCells] at hi
    simp only [madeCells, Array.getElem?_map, Array.getElem?_range]
    rw [if_pos hi]
    simp [rowMove])
  rw [size_madeCells] at h
  exact h
theorem rowMove_step (L : List Mov) (k : Nat) (h : k < L.length) (j : Nat) : (if j = k * 4 + 3 then (.int .i64 L[k].pp : Value) else if j = k * 4 + 2 then (.int .i64 L[k].am : Value) else if j = k * 4 + 1 then (.int .i64 L[k].to : Value) else if j = k * 4 then (.int .i64 L[k].fr : Value) else rowMove L k j) = rowMove L (k + 1) j := by
  have hL := mvs_len L
  have hk := Nat.mul_le_mul_right 4 (show k + 1 ≤ L.length from h)
  have ha := fun r (hr : r < 4) => flatMap_at (f := Mov.cells) (sz := 4) (fun _ => rfl) L k h r hr
  unfold rowMove
  by_cases h3 : j = k * 4 + 3
  · subst h3
    (try simp only [if_true])
    (try rw [if_pos rfl])
    rw [if_pos (by omega), List.getD_eq_getElem?_getD]
    have e := ha 3 (by decide)
    skip
    unfold mvs
    rw [e]; rfl
  rw [if_neg h3]
  by_cases h2 : j = k * 4 + 2
  · subst h2
    (try simp only [if_true])
    (try rw [if_pos rfl])
    rw [if_pos (by omega), List.getD_eq_getElem?_getD]
    have e := ha 2 (by decide)
    skip
    unfold mvs
    rw [e]; rfl
  rw [if_neg h2]
  by_cases h1 : j = k * 4 + 1
  · subst h1
    (try simp only [if_true])
    (try rw [if_pos rfl])
    rw [if_pos (by omega), List.getD_eq_getElem?_getD]
    have e := ha 1 (by decide)
    skip
    unfold mvs
    rw [e]; rfl
  rw [if_neg h1]
  by_cases h0 : j = k * 4
  · subst h0
    (try simp only [if_true])
    (try rw [if_pos rfl])
    rw [if_pos (by omega), List.getD_eq_getElem?_getD]
    have e := ha 0 (by decide)
    simp only [Nat.add_zero] at e
    unfold mvs
    rw [e]; rfl
  rw [if_neg h0]
  by_cases hlt : j < k * 4
  · rw [if_pos hlt, if_pos (by omega)]
  · rw [if_neg hlt, if_neg (by omega)]
theorem rowMove_end (L : List Mov) (j : Nat) (hj : j < (mvs L).length) : rowMove L L.length j = (mvs L)[j] := by
  have hL := mvs_len L
  unfold rowMove
  rw [if_pos (by omega), List.getD_eq_getElem?_getD, List.getElem?_eq_getElem hj]
  rfl
set_option maxHeartbeats 2000000 in
theorem toMoveS_k (a : Option Addr) (cap : Nat) (L : List Mov) (w : World) (hc : Cells w a (mvs L)) (hl : L.length ≤ 1048576) :
    Calls Try.prog 15 #[.slice a L.length cap] w fun e w' => ∃ b, e = .returned (.slice (some ⟨b, 0, none⟩) L.length L.length) ∧ Born w w' [(some ⟨b, 0, none⟩, mvs L)] ∧ Keeps w w' := by
  have HC := hide hc
  clear hc
  have hmk := make_Moves L.length hl
  have HR := hide (made_Move L w (L.length * 4) 71)
  have HKA := hide (Keeps.alloc (Keeps.refl w) (.cells (madeCells #[.int .i64 0, .int .i64 0, .int .i64 0, .int .i64 0] (L.length * 4)) 71))
  go_enter Try.func15, Try.ntmps15
  go_wp2_with fail
  clear hmk
  go_loopw [4] (fun y w1 => ∃ k : Nat, k ≤ L.length ∧ y = .int .i64 (k : Int) ∧ w1.rowIs w.heap.size 71 (L.length * 4) (rowMove L k) ∧ Keeps w w1) (fun y _ => L.length - (intOf y).toNat)
  case atStart => exact ⟨0, by omega, rfl, HR.out, HKA.out⟩
  case round =>
    obtain ⟨k, hk, rfl, hr, hkw⟩ := hrel
    clear HR HKA
    by_cases hlt : k < L.length
    · obtain ⟨b, off, ea, c0, c1, c2, c3⟩ := mvs_at (HC.out.kept hkw) k hlt
      subst ea
      have HQ := hide (fun w1 => toMove_k L[k] w1)
      have HS := hide (rowMove_step L k hlt)
      have HRR := hide hr
      have HKW := hide hkw
      have hkz := Nat.mul_le_mul_right 4 (show k + 1 ≤ L.length from hlt)
      clear hr hkw
      generalize L[k] = x at *
      obtain ⟨xfr, xto, xam, xpp⟩ := x
      dsimp only [Mov.v] at *
      go_wp2_with fail
      refine (unhide HQ _).mono ?_
      rintro e w2 ⟨rfl, hk2⟩
      have r2 := hk2.rowK HRR.out
      have d0 := r2.cell (i := k * 4) (by omega)
      have f0 := r2.frozen (k * 4)
      have d1 := r2.cell (i := k * 4 + 1) (by omega)
      have f1 := r2.frozen (k * 4 + 1)
      have d2 := r2.cell (i := k * 4 + 2) (by omega)
      have f2 := r2.frozen (k * 4 + 2)
      have d3 := r2.cell (i := k * 4 + 3) (by omega)
      have f3 := r2.frozen (k * 4 + 3)
      have HR2 := hide r2
      have HK2 := hide (HKW.out.trans hk2)
      clear r2 hk2
      go_wp2_with fail
      go_roundw
      case rel => exact ⟨k + 1, by omega, by go_num, (((((HR2.out.set (k * 4) (.int .i64 xfr)).set (k * 4 + 1) (.int .i64 xto)).set (k * 4 + 2) (.int .i64 xam)).set (k * 4 + 3) (.int .i64 xpp))).congr (fun j _ => HS.out j), (Keeps.setCell (Keeps.setCell (Keeps.setCell (Keeps.setCell HK2.out (Nat.le_refl _) _) (Nat.le_refl _) _) (Nat.le_refl _) _) (Nat.le_refl _) _)⟩
      case measure => simp [intOf]; omega
    · have e : k = L.length := by omega
      subst e
      go_wp2_with fail
      go_ret
      exact ⟨_, rfl, born_row hr (mvs L) (by rw [mvs_len]; exact Nat.le_refl _) (fun j hj => rowMove_end L j hj) (Nat.le_refl _), hkw⟩
theorem eqMove_same (x : Mov) (w : World) : Calls Try.prog 37 #[x.v, x.v] w fun e w' => e = .returned (.bool true) ∧ Keeps w w' := by
  obtain ⟨xfr, xto, xam, xpp⟩ := x
  dsimp only [Mov.v]
  skip
  all_goals
    go_enter Try.func37, Try.ntmps37
    go_wp2_with fail
    go_ret
    exact ⟨rfl, Keeps.alloc (Keeps.alloc (Keeps.refl _) _) _⟩
set_option maxHeartbeats 4000000 in
theorem eqMoveS_k (a a' : Option Addr) (cap cap' : Nat) (xs : List Mov) (w : World) (hc : Cells w a (mvs xs)) (hc' : Cells w a' (mvs xs)) (hl : xs.length ≤ 1048576) :
    Calls Try.prog 17 #[.slice a xs.length cap, .slice a' xs.length cap'] w fun e w' => e = .returned (.bool true) ∧ Keeps w w' := by
  have HC := hide hc
  have HC' := hide hc'
  clear hc hc'
  go_enter Try.func17, Try.ntmps17
  go_wp2_with fail
  go_loopw [5] (fun y w1 => ∃ k : Nat, k ≤ xs.length ∧ y = .int .i64 (k : Int) ∧ Keeps w w1) (fun y _ => xs.length - (intOf y).toNat)
  case atStart => exact ⟨0, by omega, rfl, Keeps.refl _⟩
  case round =>
    obtain ⟨k, hk, rfl, hkw⟩ := hrel
    by_cases hlt : k < xs.length
    · obtain ⟨b, off, ea, c0, c1, c2, c3⟩ := mvs_at (HC.out.kept hkw) k hlt
      obtain ⟨b', off', ea', d0, d1, d2, d3⟩ := mvs_at (HC'.out.kept hkw) k hlt
      have HEA := hide ea
      have HEA' := hide ea'
      clear ea ea'
      obtain rfl := HEA.out
      obtain rfl := HEA'.out
      have HQ := hide (fun t => eqMove_same xs[k] (gr wr t))
      have g0 := gr_cell c0
      have i0 := gr_cell d0
      have g1 := gr_cell c1
      have i1 := gr_cell d1
      have g2 := gr_cell c2
      have i2 := gr_cell d2
      have g3 := gr_cell c3
      have i3 := gr_cell d3
      generalize xs[k] = x at *
      obtain ⟨xfr, xto, xam, xpp⟩ := x
      dsimp only [Mov.v] at c0 d0 g0 i0 c1 d1 g1 i1 c2 d2 g2 i2 c3 d3 g3 i3 HQ
      go_wp2_with fail
      refine region_gr (by kernel_rfl) (by kernel_rfl) ?_
      repeat (go_big_quiet_step (first | (go_at_call 37; exact gr_call (unhide HQ _))))
      refine wpQuiet_nil ?_
      intro w' hw'
      have hk' := hkw.trans (Keeps.of_gr hw')
      clear hw'
      go_wp2_with fail
      go_roundw
      case rel => exact ⟨k + 1, by omega, by go_num, hk'⟩
      case measure => simp [intOf]; omega
    · go_wp2_with fail
      go_ret
      exact ⟨rfl, hkw⟩
end Go.Proofs.Ytjdbedlgkngdkaa
