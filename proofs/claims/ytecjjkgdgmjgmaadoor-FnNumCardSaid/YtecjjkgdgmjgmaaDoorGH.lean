/- GetNum of the program, where it gives up. -/
import Derived.Test.YtecjjkgdgmjgmaaDoorGN2
import Derived.Test.YtecjjkgdgmjgmaaDoorGG
namespace Go.Proofs.YtecjjkgdgmjgmaaDoor
open Go.RowKit Go.Deep
set_option linter.unusedVariables false
set_option maxRecDepth 10000

set_option maxHeartbeats 4000000 in
theorem number_no2 (B : Nat) (a : Option Addr) (L : List UInt8) (cap : Nat) (p s : Int) (w : World) (u : TypeId) (pv : Value) (hv : w.cell? ⟨1, 0, none⟩ = some (.iface u pv)) (hr : Rd w B a L cap p) (hl : L.length ≤ 16777216) (hs1 : 1 ≤ s) (hs2 : s ≤ 7) (h : p < 0 ∨ (L.length : Int) - s < p) :
    Calls Tryd.prog 27 #[.pointer (some ⟨B, 0, none⟩), .int .i64 s] w fun e w' => e = .panicked [{ v := .iface u pv, recovered := false }] ∧ ∃ n, w' = w.drewN n := by
  have HS := hide (sizeok_k s w)
  rw [show (decide (1 ≤ s) && decide (s ≤ 7)) = true by simp; omega] at HS
  have HT := hide (take_no B a L cap p s w u pv hv hr hl (by omega) (by omega) h)
  clear h hr
  go_enter Tryd.func27, Tryd.ntmps27
  go_wp2_with (first | (go_at_call 24; refine (unhide HS).mono ?_; rintro e w' ⟨rfl, hw'⟩; obtain rfl := Eq.symm hw') | (go_at_call 32; refine (insist_yes _).mono ?_; rintro e w' ⟨rfl, hw'⟩; obtain rfl := Eq.symm hw') | (go_at_call 33; refine (unhide HT).mono ?_; rintro e w1 ⟨rfl, hw1⟩))
  exact ⟨rfl, rfl, hw1⟩
/-- Where GetNum gives up. -/
theorem number_no (B : Nat) (a : Option Addr) (L : List UInt8) (cap : Nat) (p s : Int) (w : World) (u : TypeId) (pv : Value) (hv : w.cell? ⟨1, 0, none⟩ = some (.iface u pv)) (hr : Rd w B a L cap p) (hl : L.length ≤ 16777216) (h : s < 1 ∨ 7 < s ∨ p < 0 ∨ (L.length : Int) - s < p) :
    Calls Tryd.prog 27 #[.pointer (some ⟨B, 0, none⟩), .int .i64 s] w fun e w' => e = .panicked [{ v := .iface u pv, recovered := false }] ∧ ∃ n, w' = w.drewN n := by
  by_cases h1 : s < 1 ∨ 7 < s
  · exact (number_no1 _ s w u pv hv h1).mono fun e w' ⟨he, hw⟩ => ⟨he, 0, by rw [hw]; rfl⟩
  · exact number_no2 B a L cap p s w u pv hv hr hl (by omega) (by omega) (by omega)

set_option maxHeartbeats 4000000 in
theorem getnum_no (a : Option Addr) (L : List UInt8) (cap : Nat) (p s : Int) (w : World) (u : TypeId) (pv : Value) (hv : w.cell? ⟨1, 0, none⟩ = some (.iface u pv)) (hl : L.length ≤ 16777216) (h : s < 1 ∨ 7 < s ∨ p < 0 ∨ (L.length : Int) - s < p) :
    Calls Tryd.prog 11 #[.slice a L.length cap, .int .i64 p, .int .i64 s] w fun e w' => e = .returned (.tuple #[.int .i64 0, .bool false]) ∧ Keeps w w' := by
  have hmf : ∀ (fn : Fn) (first cap : Array Value) (w : World), (Instr.makeFunc fn first cap).run Tryd.prog w = .ok (.func fn first cap) w := fun _ _ _ _ => rfl
  have HV := hide hv
  clear hv
  go_enter_defers Tryd.func11, Tryd.ntmps11
  go_wp2_with fail
  go_at_call 27
  have hk3 := three_keeps w a L.length cap p
  refine (number_no _ a L cap p s _ u pv (hk3.cell HV.out) (three_rd w _ L cap p) hl h).mono ?_
  rintro e w1 ⟨rfl, n, hw1⟩
  have hk1 : Keeps w w1 := by rw [hw1]; exact hk3.drewN n
  have t0 : w1.cell? ⟨w.heap.size, 0, none⟩ = some (.int .i64 0) := by rw [hw1]; simpa using three_a w _ L.length cap p
  have t1 : w1.cell? ⟨w.heap.size + 1, 0, none⟩ = some (.bool false) := by rw [hw1]; simpa using three_b w _ L.length cap p
  have z0 : w1.frozen? ⟨w.heap.size, 0, none⟩ = false := by rw [hw1]; simpa using three_za w _ L.length cap p
  have z1 : w1.frozen? ⟨w.heap.size + 1, 0, none⟩ = false := by rw [hw1]; simpa using three_zb w _ L.length cap p
  clear hw1 hk3
  have hk2 := (hk1.setCell (p := ⟨w.heap.size, 0, none⟩) (Nat.le_refl _) (.int .i64 0)).setCell (p := ⟨w.heap.size + 1, 0, none⟩) (Nat.le_succ _) (.bool false)
  have e0 : ((w1.setCell ⟨w.heap.size, 0, none⟩ (.int .i64 0)).setCell ⟨w.heap.size + 1, 0, none⟩ (.bool false)).cell? ⟨w.heap.size, 0, none⟩ = some (.int .i64 0) := by
    rw [World.cell?_setCell_other _ _ _ _ (by simp)]; exact World.cell?_setCell_same _ _ _ t0
  have e1 : ((w1.setCell ⟨w.heap.size, 0, none⟩ (.int .i64 0)).setCell ⟨w.heap.size + 1, 0, none⟩ (.bool false)).cell? ⟨w.heap.size + 1, 0, none⟩ = some (.bool false) := by
    refine World.cell?_setCell_same _ _ _ (u := .bool false) ?_
    rw [World.cell?_setCell_other _ _ _ _ (by simp)]; exact t1
  refine leaves_cons (f := 26) (args := #[.pointer (some ⟨w.heap.size, 0, none⟩), .pointer (some ⟨w.heap.size + 1, 0, none⟩)]) (by simp) rfl ?_
  refine (catch_panic _ _ (by simp) _ _ u pv [] w1 t0 z0 t1 z1).mono ?_
  rintro e u' w' ⟨rfl, rfl, rfl⟩
  simp [Leaves, settle, results, Tryd.results11, go_sem, e0, e1, hk2]
end Go.Proofs.YtecjjkgdgmjgmaaDoor
