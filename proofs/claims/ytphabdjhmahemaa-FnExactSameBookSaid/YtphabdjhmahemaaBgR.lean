/- What the laws do with lists of Circle. -/
import Derived.Test.YtphabdjhmahemaaBk
import Derived.Test.YtphabdjhmahemaaFlt
namespace Go.Proofs.Ytphabdjhmahemaa
open Go.RowKit Go.Deep
set_option linter.unusedVariables false
set_option linter.unusedSimpArgs false
set_option maxRecDepth 10000

def Crc.v (x : Crc) : Value := .agg #[.int .i64 x.ky, .int .i64 x.fr, .int .i64 x.to, .int .i64 x.am, .int .i64 x.fe]
theorem toCircle_k (x : Crc) (w : World) : Calls Try.prog 88 #[x.v] w fun e w' => e = .returned x.v ∧ Keeps w w' := by
  obtain ⟨xky, xfr, xto, xam, xfe⟩ := x
  dsimp only [Crc.v]
  go_enter Try.func88, Try.ntmps88
  go_wp2_with fail
  refine bodyPost_ret (v := .agg #[.int .i64 xky, .int .i64 xfr, .int .i64 xto, .int .i64 xam, .int .i64 xfe]) (by simp [results, Try.results88, go_sem]) rfl ⟨rfl, ?_⟩
  repeat (first | exact Keeps.refl _ | refine Keeps.alloc ?_ _ | refine Keeps.setCell ?_ (by simp) _)
theorem szCircleS_k (a : Option Addr) (len cap : Nat) (left : Int) (w : World) (hl : len ≤ 9223372036854775807) (h0 : 0 ≤ left) (h1 : left ≤ 1048576) :
    Calls Try.prog 53 #[.slice a len cap, .int .i64 left] w fun e w' => e = .returned (.int .i64 (if (len : Int) ≤ left then left - len else -1)) ∧ w' = w := by
  by_cases h : (len : Int) ≤ left
  · rw [if_pos h]
    go_enter Try.func53, Try.ntmps53
    go_wp2_with fail
    go_ret
    exact ⟨rfl, rfl⟩
  · rw [if_neg h]
    go_enter Try.func53, Try.ntmps53
    go_wp2_with fail
    go_ret
    exact ⟨rfl, rfl⟩
theorem infoCircle : (Try.prog.info? 101).map (fun i => (i.zero, i.size, i.bytes)) = some (some (.agg #[.int .i64 0, .int .i64 0, .int .i64 0, .int .i64 0, .int .i64 0]), 5, 40) := by kernel_rfl
theorem underCircles : Try.prog.underlying 65 = some (.slice 101) := by kernel_rfl
theorem make_Circles (n : Nat) (hn : n ≤ 1048576) (w : World) : (Instr.makeSlice 65 (.int .i64 (n : Int)) (.int .i64 (n : Int))).run Try.prog w = .ok (.slice (some ⟨w.heap.size, 0, none⟩) n n) (w.alloc (.cells (madeCells #[.int .i64 0, .int .i64 0, .int .i64 0, .int .i64 0, .int .i64 0] (n * 5)) 101)) := by
  have hI := infoCircle
  cases hi : Try.prog.info? 101 with
  | none => rw [hi] at hI; simp at hI
  | some i =>
    rw [hi] at hI
    simp at hI
    obtain ⟨hz, hs, hb⟩ := hI
    have h := run_make (P := Try.prog) w 65 101 i _ underCircles hi hz .i64 .i64 n n (by omega) (Int.le_refl _) (by rw [hb]; omega) (by omega)
    rw [hs] at h
    simpa [Value.cells] using h
/-- The row of the new list while it is filled. -/
def rowCircle (L : List Crc) (k : Nat) : Nat → Value := fun j => if j < k * 5 then (crs L).getD j (.int .i64 0) else (#[.int .i64 0, .int .i64 0, .int .i64 0, .int .i64 0, .int .i64 0] : Array Value)[j % 5]!
theorem made_Circle (L : List Crc) (w : World) (m : Nat) (t : TypeId) : (w.alloc (.cells (madeCells #[.int .i64 0, .int .i64 0, .int .i64 0, .int .i64 0, .int .i64 0] m) t)).rowIs w.heap.size t m (rowCircle L 0) := by
  have h := World.rowIs_alloc w (madeCells #[.int .i64 0, .int .i64 0, .int .i64 0, .int .i64 0, .int .i64 0] m) t (rowCircle L 0) (by
    intro i hi
    rw [size_madeCells] at hi
    simp only [madeCells, Array.getElem?_map, Array.getElem?_range]
    rw [if_pos hi]
    simp [rowCircle])
  rw [size_madeCells] at h
  exact h
theorem rowCircle_step (L : List Crc) (k : Nat) (h : k < L.length) (j : Nat) : (if j = k * 5 + 4 then (.int .i64 L[k].fe : Value) else if j = k * 5 + 3 then (.int .i64 L[k].am : Value) else if j = k * 5 + 2 then (.int .i64 L[k].to : Value) else if j = k * 5 + 1 then (.int .i64 L[k].fr : Value) else if j = k * 5 then (.int .i64 L[k].ky : Value) else rowCircle L k j) = rowCircle L (k + 1) j := by
  have hL := crs_len L
  have hk := Nat.mul_le_mul_right 5 (show k + 1 ≤ L.length from h)
  have ha := fun r (hr : r < 5) => flatMap_at (f := Crc.cells) (sz := 5) (fun _ => rfl) L k h r hr
  unfold rowCircle
  by_cases h4 : j = k * 5 + 4
  · subst h4
    (try simp only [if_true])
    (try rw [if_pos rfl])
    rw [if_pos (by omega), List.getD_eq_getElem?_getD]
    have e := ha 4 (by decide)
    skip
    unfold crs
    rw [e]; rfl
  rw [if_neg h4]
  by_cases h3 : j = k * 5 + 3
  · subst h3
    (try simp only [if_true])
    (try rw [if_pos rfl])
    rw [if_pos (by omega), List.getD_eq_getElem?_getD]
    have e := ha 3 (by decide)
    skip
    unfold crs
    rw [e]; rfl
  rw [if_neg h3]
  by_cases h2 : j = k * 5 + 2
  · subst h2
    (try simp only [if_true])
    (try rw [if_pos rfl])
    rw [if_pos (by omega), List.getD_eq_getElem?_getD]
    have e := ha 2 (by decide)
    skip
    unfold crs
    rw [e]; rfl
  rw [if_neg h2]
  by_cases h1 : j = k * 5 + 1
  · subst h1
    (try simp only [if_true])
    (try rw [if_pos rfl])
    rw [if_pos (by omega), List.getD_eq_getElem?_getD]
    have e := ha 1 (by decide)
    skip
    unfold crs
    rw [e]; rfl
  rw [if_neg h1]
  by_cases h0 : j = k * 5
  · subst h0
    (try simp only [if_true])
    (try rw [if_pos rfl])
    rw [if_pos (by omega), List.getD_eq_getElem?_getD]
    have e := ha 0 (by decide)
    simp only [Nat.add_zero] at e
    unfold crs
    rw [e]; rfl
  rw [if_neg h0]
  by_cases hlt : j < k * 5
  · rw [if_pos hlt, if_pos (by omega)]
  · rw [if_neg hlt, if_neg (by omega)]
theorem rowCircle_end (L : List Crc) (j : Nat) (hj : j < (crs L).length) : rowCircle L L.length j = (crs L)[j] := by
  have hL := crs_len L
  unfold rowCircle
  rw [if_pos (by omega), List.getD_eq_getElem?_getD, List.getElem?_eq_getElem hj]
  rfl
set_option maxHeartbeats 2000000 in
theorem toCircleS_k (a : Option Addr) (cap : Nat) (L : List Crc) (w : World) (hc : Cells w a (crs L)) (hl : L.length ≤ 1048576) :
    Calls Try.prog 57 #[.slice a L.length cap] w fun e w' => ∃ b, e = .returned (.slice (some ⟨b, 0, none⟩) L.length L.length) ∧ Born w w' [(some ⟨b, 0, none⟩, crs L)] ∧ Keeps w w' := by
  have HC := hide hc
  clear hc
  have hmk := make_Circles L.length hl
  have HR := hide (made_Circle L w (L.length * 5) 101)
  have HKA := hide (Keeps.alloc (Keeps.refl w) (.cells (madeCells #[.int .i64 0, .int .i64 0, .int .i64 0, .int .i64 0, .int .i64 0] (L.length * 5)) 101))
  go_enter Try.func57, Try.ntmps57
  go_wp2_with fail
  clear hmk
  go_loopw [4] (fun y w1 => ∃ k : Nat, k ≤ L.length ∧ y = .int .i64 (k : Int) ∧ w1.rowIs w.heap.size 101 (L.length * 5) (rowCircle L k) ∧ Keeps w w1) (fun y _ => L.length - (intOf y).toNat)
  case atStart => exact ⟨0, by omega, rfl, HR.out, HKA.out⟩
  case round =>
    obtain ⟨k, hk, rfl, hr, hkw⟩ := hrel
    clear HR HKA
    by_cases hlt : k < L.length
    · obtain ⟨b, off, ea, c0, c1, c2, c3, c4⟩ := crs_at (HC.out.kept hkw) k hlt
      subst ea
      have HQ := hide (fun w1 => toCircle_k L[k] w1)
      have HS := hide (rowCircle_step L k hlt)
      have HRR := hide hr
      have HKW := hide hkw
      have hkz := Nat.mul_le_mul_right 5 (show k + 1 ≤ L.length from hlt)
      clear hr hkw
      generalize L[k] = x at *
      obtain ⟨xky, xfr, xto, xam, xfe⟩ := x
      dsimp only [Crc.v] at *
      go_wp2_with fail
      refine (unhide HQ _).mono ?_
      rintro e w2 ⟨rfl, hk2⟩
      have r2 := hk2.rowK HRR.out
      have d0 := r2.cell (i := k * 5) (by omega)
      have f0 := r2.frozen (k * 5)
      have d1 := r2.cell (i := k * 5 + 1) (by omega)
      have f1 := r2.frozen (k * 5 + 1)
      have d2 := r2.cell (i := k * 5 + 2) (by omega)
      have f2 := r2.frozen (k * 5 + 2)
      have d3 := r2.cell (i := k * 5 + 3) (by omega)
      have f3 := r2.frozen (k * 5 + 3)
      have d4 := r2.cell (i := k * 5 + 4) (by omega)
      have f4 := r2.frozen (k * 5 + 4)
      have HR2 := hide r2
      have HK2 := hide (HKW.out.trans hk2)
      clear r2 hk2
      go_wp2_with fail
      go_roundw
      case rel => exact ⟨k + 1, by omega, by go_num, ((((((HR2.out.set (k * 5) (.int .i64 xky)).set (k * 5 + 1) (.int .i64 xfr)).set (k * 5 + 2) (.int .i64 xto)).set (k * 5 + 3) (.int .i64 xam)).set (k * 5 + 4) (.int .i64 xfe))).congr (fun j _ => HS.out j), (Keeps.setCell (Keeps.setCell (Keeps.setCell (Keeps.setCell (Keeps.setCell HK2.out (Nat.le_refl _) _) (Nat.le_refl _) _) (Nat.le_refl _) _) (Nat.le_refl _) _) (Nat.le_refl _) _)⟩
      case measure => simp [intOf]; omega
    · have e : k = L.length := by omega
      subst e
      go_wp2_with fail
      go_ret
      exact ⟨_, rfl, born_row hr (crs L) (by rw [crs_len]; exact Nat.le_refl _) (fun j hj => rowCircle_end L j hj) (Nat.le_refl _), hkw⟩
theorem eqCircle_same (x : Crc) (w : World) : Calls Try.prog 98 #[x.v, x.v] w fun e w' => e = .returned (.bool true) ∧ Keeps w w' := by
  obtain ⟨xky, xfr, xto, xam, xfe⟩ := x
  dsimp only [Crc.v]
  skip
  all_goals
    go_enter Try.func98, Try.ntmps98
    go_wp2_with fail
    go_ret
    exact ⟨rfl, Keeps.alloc (Keeps.alloc (Keeps.refl _) _) _⟩
set_option maxHeartbeats 4000000 in
theorem eqCircleS_k (a a' : Option Addr) (cap cap' : Nat) (xs : List Crc) (w : World) (hc : Cells w a (crs xs)) (hc' : Cells w a' (crs xs)) (hl : xs.length ≤ 1048576) :
    Calls Try.prog 64 #[.slice a xs.length cap, .slice a' xs.length cap'] w fun e w' => e = .returned (.bool true) ∧ Keeps w w' := by
  have HC := hide hc
  have HC' := hide hc'
  clear hc hc'
  go_enter Try.func64, Try.ntmps64
  go_wp2_with fail
  go_loopw [5] (fun y w1 => ∃ k : Nat, k ≤ xs.length ∧ y = .int .i64 (k : Int) ∧ Keeps w w1) (fun y _ => xs.length - (intOf y).toNat)
  case atStart => exact ⟨0, by omega, rfl, Keeps.refl _⟩
  case round =>
    obtain ⟨k, hk, rfl, hkw⟩ := hrel
    by_cases hlt : k < xs.length
    · obtain ⟨b, off, ea, c0, c1, c2, c3, c4⟩ := crs_at (HC.out.kept hkw) k hlt
      obtain ⟨b', off', ea', d0, d1, d2, d3, d4⟩ := crs_at (HC'.out.kept hkw) k hlt
      have HEA := hide ea
      have HEA' := hide ea'
      clear ea ea'
      obtain rfl := HEA.out
      obtain rfl := HEA'.out
      have HQ := hide (fun t => eqCircle_same xs[k] (gr wr t))
      have g0 := gr_cell c0
      have i0 := gr_cell d0
      have g1 := gr_cell c1
      have i1 := gr_cell d1
      have g2 := gr_cell c2
      have i2 := gr_cell d2
      have g3 := gr_cell c3
      have i3 := gr_cell d3
      have g4 := gr_cell c4
      have i4 := gr_cell d4
      generalize xs[k] = x at *
      obtain ⟨xky, xfr, xto, xam, xfe⟩ := x
      dsimp only [Crc.v] at c0 d0 g0 i0 c1 d1 g1 i1 c2 d2 g2 i2 c3 d3 g3 i3 c4 d4 g4 i4 HQ
      go_wp2_with fail
      refine region_gr (by kernel_rfl) (by kernel_rfl) ?_
      repeat (go_big_quiet_step (first | (go_at_call 98; exact gr_call (unhide HQ _))))
      refine wpQuiet_nil ?_
      intro w' hw'
      have hk' := hkw.trans (Keeps.of_gr hw')
      clear hw'
      go_wp2_with fail
      go_roundw
      case rel => exact ⟨k + 1, by omega, by go_num, hk'⟩
      case measure => simp [intOf]; omega
    · go_wp2_with fail
      go_ret
      exact ⟨rfl, hkw⟩
end Go.Proofs.Ytphabdjhmahemaa
