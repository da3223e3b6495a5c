/- GetNum of the program, where it gives up. -/
import Derived.Test.YtkdnddckogbgaaaDoorGN2
import Derived.Test.YtkdnddckogbgaaaDoorGG
namespace Go.Proofs.YtkdnddckogbgaaaDoor
open Go.RowKit Go.Deep
set_option linter.unusedVariables false
set_option maxRecDepth 10000

set_option maxHeartbeats 4000000 in
theorem number_no2 (B : Nat) (a : Option Addr) (L : List UInt8) (cap : Nat) (p s : Int) (w : World) (u : TypeId) (pv : Value) (hv : w.cell? ⟨0, 0, none⟩ = some (.iface u pv)) (hr : Rd w B a L cap p) (hl : L.length ≤ 16777216) (hs1 : 1 ≤ s) (hs2 : s ≤ 7) (h : p < 0 ∨ (L.length : Int) - s < p) :
    Calls Tryd.prog 70 #[.pointer (some ⟨B, 0, none⟩), .int .i64 s] w fun e w' => e = .panicked [{ v := .iface u pv, recovered := false }] ∧ ∃ n, w' = w.drewN n := by
  have HS := hide (sizeok_k s w)
  rw [show (decide (1 ≤ s) && decide (s ≤ 7)) = true by simp; omega] at HS
  have HT := hide (take_no B a L cap p s w u pv hv hr hl (by omega) (by omega) h)
  clear h hr
  go_enter Tryd.func70, Tryd.ntmps70
  go_wp2_with (first | (go_at_call 78; refine (unhide HS).mono ?_; rintro e w' ⟨rfl, hw'⟩; obtain rfl := Eq.symm hw') | (go_at_call 69; refine (insist_yes _).mono ?_; rintro e w' ⟨rfl, hw'⟩; obtain rfl := Eq.symm hw') | (go_at_call 73; refine (unhide HT).mono ?_; rintro e w1 ⟨rfl, hw1⟩))
  exact ⟨rfl, rfl, hw1⟩
/-- Where GetNum gives up. -/
theorem number_no (B : Nat) (a : Option Addr) (L : List UInt8) (cap : Nat) (p s : Int) (w : World) (u : TypeId) (pv : Value) (hv : w.cell? ⟨0, 0, none⟩ = some (.iface u pv)) (hr : Rd w B a L cap p) (hl : L.length ≤ 16777216) (h : s < 1 ∨ 7 < s ∨ p < 0 ∨ (L.length : Int) - s < p) :
    Calls Tryd.prog 70 #[.pointer (some ⟨B, 0, none⟩), .int .i64 s] w fun e w' => e = .panicked [{ v := .iface u pv, recovered := false }] ∧ ∃ n, w' = w.drewN n := by
  by_cases h1 : s < 1 ∨ 7 < s
  · exact (number_no1 _ s w u pv hv h1).mono fun e w' ⟨he, hw⟩ => ⟨he, 0, by rw [hw]; rfl⟩
  · exact number_no2 B a L cap p s w u pv hv hr hl (by omega) (by omega) (by omega)

end Go.Proofs.YtkdnddckogbgaaaDoor
