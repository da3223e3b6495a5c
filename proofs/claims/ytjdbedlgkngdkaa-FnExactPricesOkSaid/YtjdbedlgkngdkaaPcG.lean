/- What the laws do with lists of Price. -/
import Derived.Test.YtjdbedlgkngdkaaPc
namespace Go.Proofs.Ytjdbedlgkngdkaa
open Go.RowKit Go.Deep
set_option linter.unusedVariables false
set_option linter.unusedSimpArgs false
set_option maxRecDepth 10000

def Prc.v (x : Prc) : Value := .agg #[.int .i64 x.fr, .int .i64 x.to, .int .i64 x.pp]
theorem toPrice_k (x : Prc) (w : World) : Calls Try.prog 26 #[x.v] w fun e w' => e = .returned x.v ∧ Keeps w w' := by
  obtain ⟨xfr, xto, xpp⟩ := x
  dsimp only [Prc.v]
  go_enter Try.func26, Try.ntmps26
  go_wp2_with fail
  refine bodyPost_ret (v := .agg #[.int .i64 xfr, .int .i64 xto, .int .i64 xpp]) (by simp [results, Try.results26, go_sem]) rfl ⟨rfl, ?_⟩
  repeat (first | exact Keeps.refl _ | refine Keeps.alloc ?_ _ | refine Keeps.setCell ?_ (by simp) _)
theorem szPriceS_k (a : Option Addr) (len cap : Nat) (left : Int) (w : World) (hl : len ≤ 9223372036854775807) (h0 : 0 ≤ left) (h1 : left ≤ 1048576) :
    Calls Try.prog 6 #[.slice a len cap, .int .i64 left] w fun e w' => e = .returned (.int .i64 (if (len : Int) ≤ left then left - len else -1)) ∧ w' = w := by
  by_cases h : (len : Int) ≤ left
  · rw [if_pos h]
    go_enter Try.func6, Try.ntmps6
    go_wp2_with fail
    go_ret
    exact ⟨rfl, rfl⟩
  · rw [if_neg h]
    go_enter Try.func6, Try.ntmps6
    go_wp2_with fail
    go_ret
    exact ⟨rfl, rfl⟩
theorem infoPrice : (Try.prog.info? 54).map (fun i => (i.zero, i.size, i.bytes)) = some (some (.agg #[.int .i64 0, .int .i64 0, .int .i64 0]), 3, 24) := by kernel_rfl
theorem underPrices : Try.prog.underlying 37 = some (.slice 54) := by kernel_rfl
theorem make_Prices (n : Nat) (hn : n ≤ 1048576) (w : World) : (Instr.makeSlice 37 (.int .i64 (n : Int)) (.int .i64 (n : Int))).run Try.prog w = .ok (.slice (some ⟨w.heap.size, 0, none⟩) n n) (w.alloc (.cells (madeCells #[.int .i64 0, .int .i64 0, .int .i64 0] (n * 3)) 54)) := by
  have hI := infoPrice
  cases hi : Try.prog.info? 54 with
  | none => rw [hi] at hI; simp at hI
  | some i =>
    rw [hi] at hI
    simp at hI
    obtain ⟨hz, hs, hb⟩ := hI
    have h := run_make (P := Try.prog) w 37 54 i _ underPrices hi hz .i64 .i64 n n (by omega) (Int.le_refl _) (by rw [hb]; omega) (by omega)
    rw [hs] at h
    simpa [Value.cells] using h
/-- The row of the new list while it is filled. -/
def rowPrice (L : List Prc) (k : Nat) : Nat → Value := fun j => if j < k * 3 then (pcs L).getD j (.int .i64 0) else (#[.int .i64 0, .int .i64 0, .int .i64 0] : Array Value)[j % 3]!
theorem made_Price (L : List Prc) (w : World) (m : Nat) (t : TypeId) : (w.alloc (.cells (madeCells #[.int .i64 0, .int .i64 0, .int .i64 0] m) t)).rowIs w.heap.size t m (rowPrice L 0) := by
  have h := World.rowIs_alloc w (madeCells #[.int .i64 0, .int .i64 0, .int .i64 0] m) t (rowPrice L 0) (by
    intro i hi
    rw [size_madeCells] at hi
    simp only [madeCells, Array.getElem?_map, Array.getElem?_range]
    rw [if_pos hi]
    simp [rowPrice])
  rw [size_madeCells] at h
  exact h
theorem rowPrice_step (L : List Prc) (k : Nat) (h : k < L.length) (j : Nat) : (if j = k * 3 + 2 then (.int .i64 L[k].pp : Value) else if j = k * 3 + 1 then (.int .i64 L[k].to : Value) else if j = k * 3 then (.int .i64 L[k].fr : Value) else rowPrice L k j) = rowPrice L (k + 1) j := by
  have hL := pcs_len L
  have hk := Nat.mul_le_mul_right 3 (show k + 1 ≤ L.length from h)
  have ha := fun r (hr : r < 3) => flatMap_at (f := Prc.cells) (sz := 3) (fun _ => rfl) L k h r hr
  unfold rowPrice
  by_cases h2 : j = k * 3 + 2
  · subst h2
    (try simp only [if_true])
    (try rw [if_pos rfl])
    rw [if_pos (by omega), List.getD_eq_getElem?_getD]
    have e := ha 2 (by decide)
    skip
    unfold pcs
    rw [e]; rfl
  rw [if_neg h2]
  by_cases h1 : j = k * 3 + 1
  · subst h1
    (try simp only [if_true])
    (try rw [if_pos rfl])
    rw [if_pos (by omega), List.getD_eq_getElem?_getD]
    have e := ha 1 (by decide)
    skip
    unfold pcs
    rw [e]; rfl
  rw [if_neg h1]
  by_cases h0 : j = k * 3
  · subst h0
    (try simp only [if_true])
    (try rw [if_pos rfl])
    rw [if_pos (by omega), List.getD_eq_getElem?_getD]
    have e := ha 0 (by decide)
    simp only [Nat.add_zero] at e
    unfold pcs
    rw [e]; rfl
  rw [if_neg h0]
  by_cases hlt : j < k * 3
  · rw [if_pos hlt, if_pos (by omega)]
  · rw [if_neg hlt, if_neg (by omega)]
theorem rowPrice_end (L : List Prc) (j : Nat) (hj : j < (pcs L).length) : rowPrice L L.length j = (pcs L)[j] := by
  have hL := pcs_len L
  unfold rowPrice
  rw [if_pos (by omega), List.getD_eq_getElem?_getD, List.getElem?_eq_getElem hj]
  rfl
set_option maxHeartbeats 2000000 in
theorem toPriceS_k (a : Option Addr) (cap : Nat) (L : List Prc) (w : World) (hc : Cells w a (pcs L)) (hl : L.length ≤ 1048576) :
    Calls Try.prog 9 #[.slice a L.length cap] w fun e w' => ∃ b, e = .returned (.slice (some ⟨b, 0, none⟩) L.length L.length) ∧ Born w w' [(some ⟨b, 0, none⟩, pcs L)] ∧ Keeps w w' := by
  have HC := hide hc
  clear hc
  have hmk := make_Prices L.length hl
  have HR := hide (made_Price L w (L.length * 3) 54)
  have HKA := hide (Keeps.alloc (Keeps.refl w) (.cells (madeCells #[.int .i64 0, .int .i64 0, .int .i64 0] (L.length * 3)) 54))
  go_enter Try.func9, Try.ntmps9
  go_wp2_with fail
  clear hmk
  go_loopw [4] (fun y w1 => ∃ k : Nat, k ≤ L.length ∧ y = .int .i64 (k : Int) ∧ w1.rowIs w.heap.size 54 (L.length * 3) (rowPrice L k) ∧ Keeps w w1) (fun y _ => L.length - (intOf y).toNat)
  case atStart => exact ⟨0, by omega, rfl, HR.out, HKA.out⟩
  case round =>
    obtain ⟨k, hk, rfl, hr, hkw⟩ := hrel
    clear HR HKA
    by_cases hlt : k < L.length
    · obtain ⟨b, off, ea, c0, c1, c2⟩ := pcs_at (HC.out.kept hkw) k hlt
      subst ea
      have HQ := hide (fun w1 => toPrice_k L[k] w1)
      have HS := hide (rowPrice_step L k hlt)
      have HRR := hide hr
      have HKW := hide hkw
      have hkz := Nat.mul_le_mul_right 3 (show k + 1 ≤ L.length from hlt)
      clear hr hkw
      generalize L[k] = x at *
      obtain ⟨xfr, xto, xpp⟩ := x
      dsimp only [Prc.v] at *
      go_wp2_with fail
      refine (unhide HQ _).mono ?_
      rintro e w2 ⟨rfl, hk2⟩
      have r2 := hk2.rowK HRR.out
      have d0 := r2.cell (i := k * 3) (by omega)
      have f0 := r2.frozen (k * 3)
      have d1 := r2.cell (i := k * 3 + 1) (by omega)
      have f1 := r2.frozen (k * 3 + 1)
      have d2 := r2.cell (i := k * 3 + 2) (by omega)
      have f2 := r2.frozen (k * 3 + 2)
      have HR2 := hide r2
      have HK2 := hide (HKW.out.trans hk2)
      clear r2 hk2
      go_wp2_with fail
      go_roundw
      case rel => exact ⟨k + 1, by omega, by go_num, ((((HR2.out.set (k * 3) (.int .i64 xfr)).set (k * 3 + 1) (.int .i64 xto)).set (k * 3 + 2) (.int .i64 xpp))).congr (fun j _ => HS.out j), (Keeps.setCell (Keeps.setCell (Keeps.setCell HK2.out (Nat.le_refl _) _) (Nat.le_refl _) _) (Nat.le_refl _) _)⟩
      case measure => simp [intOf]; omega
    · have e : k = L.length := by omega
      subst e
      go_wp2_with fail
      go_ret
      exact ⟨_, rfl, born_row hr (pcs L) (by rw [pcs_len]; exact Nat.le_refl _) (fun j hj => rowPrice_end L j hj) (Nat.le_refl _), hkw⟩
theorem eqPrice_same (x : Prc) (w : World) : Calls Try.prog 35 #[x.v, x.v] w fun e w' => e = .returned (.bool true) ∧ Keeps w w' := by
  obtain ⟨xfr, xto, xpp⟩ := x
  dsimp only [Prc.v]
  skip
  all_goals
    go_enter Try.func35, Try.ntmps35
    go_wp2_with fail
    go_ret
    exact ⟨rfl, Keeps.alloc (Keeps.alloc (Keeps.refl _) _) _⟩
set_option maxHeartbeats 4000000 in
theorem eqPriceS_k (a a' : Option Addr) (cap cap' : Nat) (xs : List Prc) (w : World) (hc : Cells w a (pcs xs)) (hc' : Cells w a' (pcs xs)) (hl : xs.length ≤ 1048576) :
    Calls Try.prog 12 #[.slice a xs.length cap, .slice a' xs.length cap'] w fun e w' => e = .returned (.bool true) ∧ Keeps w w' := by
  have HC := hide hc
  have HC' := hide hc'
  clear hc hc'
  go_enter Try.func12, Try.ntmps12
  go_wp2_with fail
  go_loopw [5] (fun y w1 => ∃ k : Nat, k ≤ xs.length ∧ y = .int .i64 (k : Int) ∧ Keeps w w1) (fun y _ => xs.length - (intOf y).toNat)
  case atStart => exact ⟨0, by omega, rfl, Keeps.refl _⟩
  case round =>
    obtain ⟨k, hk, rfl, hkw⟩ := hrel
    by_cases hlt : k < xs.length
    · obtain ⟨b, off, ea, c0, c1, c2⟩ := pcs_at (HC.out.kept hkw) k hlt
      obtain ⟨b', off', ea', d0, d1, d2⟩ := pcs_at (HC'.out.kept hkw) k hlt
      have HEA := hide ea
      have HEA' := hide ea'
      clear ea ea'
      obtain rfl := HEA.out
      obtain rfl := HEA'.out
      have HQ := hide (fun t => eqPrice_same xs[k] (gr wr t))
      have g0 := gr_cell c0
      have i0 := gr_cell d0
      have g1 := gr_cell c1
      have i1 := gr_cell d1
      have g2 := gr_cell c2
      have i2 := gr_cell d2
      generalize xs[k] = x at *
      obtain ⟨xfr, xto, xpp⟩ := x
      dsimp only [Prc.v] at c0 d0 g0 i0 c1 d1 g1 i1 c2 d2 g2 i2 HQ
      go_wp2_with fail
      refine region_gr (by kernel_rfl) (by kernel_rfl) ?_
      repeat (go_big_quiet_step (first | (go_at_call 35; exact gr_call (unhide HQ _))))
      refine wpQuiet_nil ?_
      intro w' hw'
      have hk' := hkw.trans (Keeps.of_gr hw')
      clear hw'
      go_wp2_with fail
      go_roundw
      case rel => exact ⟨k + 1, by omega, by go_num, hk'⟩
      case measure => simp [intOf]; omega
    · go_wp2_with fail
      go_ret
      exact ⟨rfl, hkw⟩
end Go.Proofs.Ytjdbedlgkngdkaa
