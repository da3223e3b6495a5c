/- A reader of bytes that gives up by a panic: take gives up. -/
import Derived.Test.YtmcidfjcppbocaaDoorGI
import Derived.Deep.DrawnRows
namespace Go.Proofs.YtmcidfjcppbocaaDoor
open Go.RowKit Go.Deep
set_option linter.unusedVariables false
set_option maxRecDepth 10000
attribute [local go_sem ↓] Go.wp_at_zero Go.wp_at_succ
/-- Where the callee has panicked the region has ended: the way on is given to go_region_held under a false premise. -/
theorem dead {p : Prop} {K : Act → World → Prop} {S : World → Prop} {X : Act → World → Prop} (hK : Shut (∀ a w, S w → (S w → X a w) → K a w)) (a : Act) (w : World) (h : p) (_ : Shut False → K a w) : p := h
set_option maxHeartbeats 8000000 in
theorem take_no_hi (B : Nat) (a : Option Addr) (L : List UInt8) (cap : Nat) (p c : Int) (w : World) (u : TypeId) (pv : Value) (hv : w.cell? ⟨1, 0, none⟩ = some (.iface u pv)) (hr : Rd w B a L cap p) (hl : L.length ≤ 16777216) (hc0 : 0 ≤ c) (hc1 : c ≤ 1000) (hp : 0 ≤ p) (h2 : (L.length : Int) - c < p) :
    Calls Tryd.prog 49 #[.pointer (some ⟨B, 0, none⟩), .int .i64 c] w fun e w' => e = .panicked [{ v := .iface u pv, recovered := false }] ∧ ∃ n, w' = w.drewN n := by
  obtain ⟨d0, d1, d2⟩ := hr
  clear d2
  have hwr : IntKind.i64.wrap ((L.length : Int) - c) = (L.length : Int) - c := by rw [IntKind.wrap_i64]; omega
  have hdec : decide (p ≤ (L.length : Int) - c) = false := decide_eq_false (by omega)
  have hdp : decide (0 ≤ p) = true := decide_eq_true hp
  clear h2
  go_enter Tryd.func49, Tryd.ntmps49
  go_wp2_with fail
  go_region_held (fun w' => w'.cell? ⟨B, 0, none⟩ = some (.slice a L.length cap) ∧ w'.cell? ⟨B, 1, none⟩ = some (.int .i64 p)) (go_keep) ((go_at_call 48; refine (insist_no _ u pv (by simpa using hv)).mono ?_; rintro e w2 ⟨rfl, rfl⟩; refine dead (by assumption) { tmps := #[], defers := [] } w.drew ⟨rfl, rfl, 1, rfl⟩ (fun hF => ?_)))
  exact (by assumption : Shut False).out.elim
/-- One operation of a drawn region is taken first: it yields in every world that meets S. -/
macro "tk " i:num : tactic => `(tactic| (refine wpAnyH_take (i := $i) (oi := ⟨_, _, _, _, _, _⟩) (v := ?v) rfl (by kernel_rfl) (by kernel_rfl) (by kernel_rfl) (fun _ _ _ h => h) (Or.inl ⟨by rfl, ?hy⟩) (by assumption) ?rest; (case hy => (intro w hSw; (try dsimp only at hSw); go_simp; (try with_reducible rfl))); (try simp only [Act.put, List.setIfInBounds_toArray, List.set_cons_zero, List.set_cons_succ])))
/-- One that its guard rules out. -/
macro "tn " i:num : tactic => `(tactic| (refine wpAnyH_take (i := $i) (oi := ⟨_, _, _, _, _, _⟩) (v := undef) rfl (by kernel_rfl) (by kernel_rfl) (by kernel_rfl) (fun _ _ _ h => h) (Or.inr ⟨by rfl, rfl⟩) (by assumption) ?rest; (try simp only [Act.put, List.setIfInBounds_toArray, List.set_cons_zero, List.set_cons_succ])))
set_option maxHeartbeats 8000000 in
theorem take_no_lo (B : Nat) (a : Option Addr) (L : List UInt8) (cap : Nat) (p c : Int) (w : World) (u : TypeId) (pv : Value) (hv : w.cell? ⟨1, 0, none⟩ = some (.iface u pv)) (hr : Rd w B a L cap p) (hl : L.length ≤ 16777216) (hc0 : 0 ≤ c) (hc1 : c ≤ 1000) (hp : ¬ 0 ≤ p) :
    Calls Tryd.prog 49 #[.pointer (some ⟨B, 0, none⟩), .int .i64 c] w fun e w' => e = .panicked [{ v := .iface u pv, recovered := false }] ∧ ∃ n, w' = w.drewN n := by
  obtain ⟨d0, d1, d2⟩ := hr
  clear d2
  have hdp : decide (0 ≤ p) = false := decide_eq_false hp
  go_enter Tryd.func49, Tryd.ntmps49
  go_wp2_with fail
  refine wp_region_held_drew (S := fun w' => w'.cell? ⟨B, 0, none⟩ = some (.slice a L.length cap) ∧ w'.cell? ⟨B, 1, none⟩ = some (.int .i64 p)) (by kernel_rfl) (by go_keep) (fun hHeld => ?_)
  tk 0
  tk 1
  tk 2
  tk 3
  tk 4
  tk 5
  tn 6
  tn 7
  tn 8
  tn 9
  tn 10
  tn 11
  tn 12
  tn 13
  tn 14
  tn 15
  tn 16
  tn 17
  tk 18
  refine wpAnyH_ready (rs := [19]) (by kernel_rfl) (by simp) (AllReadyH.cons rfl (fun K hK => ?_) AllReadyH.nil)
  go_simp
  go_at_call 48
  refine (insist_no _ u pv (by simpa using hv)).mono ?_
  rintro e w' ⟨rfl, rfl⟩
  exact ⟨rfl, rfl, 1, rfl⟩
set_option maxHeartbeats 8000000 in
theorem take_no (B : Nat) (a : Option Addr) (L : List UInt8) (cap : Nat) (p c : Int) (w : World) (u : TypeId) (pv : Value) (hv : w.cell? ⟨1, 0, none⟩ = some (.iface u pv)) (hr : Rd w B a L cap p) (hl : L.length ≤ 16777216) (hc0 : 0 ≤ c) (hc1 : c ≤ 1000) (h : p < 0 ∨ (L.length : Int) - c < p) :
    Calls Tryd.prog 49 #[.pointer (some ⟨B, 0, none⟩), .int .i64 c] w fun e w' => e = .panicked [{ v := .iface u pv, recovered := false }] ∧ ∃ n, w' = w.drewN n := by
  by_cases hp : 0 ≤ p
  · exact take_no_hi B a L cap p c w u pv hv hr hl hc0 hc1 hp (by omega)
  · exact take_no_lo B a L cap p c w u pv hv hr hl hc0 hc1 hp
end Go.Proofs.YtmcidfjcppbocaaDoor
