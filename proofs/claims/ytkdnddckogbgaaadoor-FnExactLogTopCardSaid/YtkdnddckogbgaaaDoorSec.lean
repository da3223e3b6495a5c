/- Sectors: what the laws do with them, and SectorOk, the program's and the model's. -/
import Derived.Test.YtkdnddckogbgaaaDoorApn
import Derived.Test.YtkdnddckogbgaaaDoorDsk
namespace Go.Proofs.YtkdnddckogbgaaaDoor
open Go.RowKit Go.Deep Go.ChangeShapes Go.WideShapes
set_option linter.unusedVariables false
set_option maxRecDepth 10000

abbrev secV (q e : Int) (a : Option Addr) (len cap : Nat) : Value := .agg #[.int .i64 q, .int .i64 e, .slice a len cap]
/-- Is the sector right? -/
def secB (q e : Int) (len : Nat) : Bool := decide (0 ≤ q) && decide (q < 600) && decide (1 ≤ e) && decide (e ≤ 16000000) && decide (len ≤ 100)
theorem secok_spec (q e : Int) (a : Option Addr) (len cap : Nat) (w : World) (hl : len ≤ 9223372036854775807) : Calls Tryd.prog 60 #[.agg #[.int .i64 q, .int .i64 e, .slice a len cap]] w fun x w' => x = .returned (.bool (secB q e len)) ∧ Keeps w w' := by
  by_cases h0 : 0 ≤ q
  · by_cases h1 : q < 600
    · by_cases h2 : 1 ≤ e
      · by_cases h3 : e ≤ 16000000
        · by_cases h4 : (len : Int) ≤ 100
          · have H : Hid (secB q e len = true) := by show _ = _; simp only [secB, decide_eq_true h0, decide_eq_true h1, decide_eq_true h2, decide_eq_true h3, decide_eq_true (show len ≤ 100 by omega), Bool.and_self]
            go_enter Tryd.func60, Tryd.ntmps60
            go_wp2
            go_ret
            exact ⟨ret_b H.out.symm, Keeps.alloc (Keeps.refl _) _⟩
          · have H : Hid (secB q e len = false) := by show _ = _; simp only [secB]; simp; omega
            go_enter Tryd.func60, Tryd.ntmps60
            go_wp2
            go_ret
            exact ⟨ret_b H.out.symm, Keeps.alloc (Keeps.refl _) _⟩
        · have H : Hid (secB q e len = false) := by show _ = _; simp only [secB]; simp; omega
          go_enter Tryd.func60, Tryd.ntmps60
          go_wp2
          go_ret
          exact ⟨ret_b H.out.symm, Keeps.alloc (Keeps.refl _) _⟩
      · have H : Hid (secB q e len = false) := by show _ = _; simp only [secB]; simp; omega
        go_enter Tryd.func60, Tryd.ntmps60
        go_wp2
        go_ret
        exact ⟨ret_b H.out.symm, Keeps.alloc (Keeps.refl _) _⟩
    · have H : Hid (secB q e len = false) := by show _ = _; simp only [secB]; simp; omega
      go_enter Tryd.func60, Tryd.ntmps60
      go_wp2
      go_ret
      exact ⟨ret_b H.out.symm, Keeps.alloc (Keeps.refl _) _⟩
  · have H : Hid (secB q e len = false) := by show _ = _; simp only [secB]; simp; omega
    go_enter Tryd.func60, Tryd.ntmps60
    go_wp2
    go_ret
    exact ⟨ret_b H.out.symm, Keeps.alloc (Keeps.refl _) _⟩
theorem secok_impl (q e : Int) (a : Option Addr) (len cap : Nat) (w : World) (hl : len ≤ 9223372036854775807) : Calls Tryd.prog 75 #[.agg #[.int .i64 q, .int .i64 e, .slice a len cap]] w fun x w' => x = .returned (.bool (secB q e len)) ∧ Keeps w w' := by
  by_cases h0 : 0 ≤ q
  · by_cases h1 : q < 600
    · by_cases h2 : 1 ≤ e
      · by_cases h3 : e ≤ 16000000
        · by_cases h4 : (len : Int) ≤ 100
          · have H : Hid (secB q e len = true) := by show _ = _; simp only [secB, decide_eq_true h0, decide_eq_true h1, decide_eq_true h2, decide_eq_true h3, decide_eq_true (show len ≤ 100 by omega), Bool.and_self]
            go_enter Tryd.func75, Tryd.ntmps75
            go_wp2
            go_ret
            exact ⟨ret_b H.out.symm, Keeps.alloc (Keeps.refl _) _⟩
          · have H : Hid (secB q e len = false) := by show _ = _; simp only [secB]; simp; omega
            go_enter Tryd.func75, Tryd.ntmps75
            go_wp2
            go_ret
            exact ⟨ret_b H.out.symm, Keeps.alloc (Keeps.refl _) _⟩
        · have H : Hid (secB q e len = false) := by show _ = _; simp only [secB]; simp; omega
          go_enter Tryd.func75, Tryd.ntmps75
          go_wp2
          go_ret
          exact ⟨ret_b H.out.symm, Keeps.alloc (Keeps.refl _) _⟩
      · have H : Hid (secB q e len = false) := by show _ = _; simp only [secB]; simp; omega
        go_enter Tryd.func75, Tryd.ntmps75
        go_wp2
        go_ret
        exact ⟨ret_b H.out.symm, Keeps.alloc (Keeps.refl _) _⟩
    · have H : Hid (secB q e len = false) := by show _ = _; simp only [secB]; simp; omega
      go_enter Tryd.func75, Tryd.ntmps75
      go_wp2
      go_ret
      exact ⟨ret_b H.out.symm, Keeps.alloc (Keeps.refl _) _⟩
  · have H : Hid (secB q e len = false) := by show _ = _; simp only [secB]; simp; omega
    go_enter Tryd.func75, Tryd.ntmps75
    go_wp2
    go_ret
    exact ⟨ret_b H.out.symm, Keeps.alloc (Keeps.refl _) _⟩

theorem row_new (w : World) (c : Array Value) (t : TypeId) : (w.alloc (.cells c t)).rowIs w.heap.size t c.size (fun i => c.getD i (.int .i64 0)) :=
  World.rowIs_alloc w c t _ (fun i hi => by simp [Array.getD, hi])
theorem Keeps.row {w w' : World} (hk : Keeps w w') {b : Nat} {t : TypeId} {n : Nat} {f : Nat → Value} (h : w.rowIs b t n f) : w'.rowIs b t n f := h.of_block (Below.block hk b h.lt)
theorem eqBytes_k (a a' : Option Addr) (cap cap' : Nat) (L : List UInt8) (w : World) (hc : Cells w a (bys L)) (hc' : Cells w a' (bys L)) (hl : L.length ≤ 16777216) :
    Calls Tryd.prog 49 #[.slice a L.length cap, .slice a' L.length cap'] w fun e w' => e = .returned (.bool true) ∧ Keeps w w' := by
  have h := eqByteS_k a a' cap cap' L L w hc hc' hl hl
  rw [decide_eq_true rfl] at h
  exact h
theorem eqSector_k (q e : Int) (a a' : Option Addr) (cap cap' : Nat) (L : List UInt8) (w : World) (hc : Cells w a (bys L)) (hc' : Cells w a' (bys L)) (hl : L.length ≤ 16777216) :
    Calls Tryd.prog 30 #[secV q e a L.length cap, secV q e a' L.length cap'] w fun x w' => x = .returned (.bool true) ∧ Keeps w w' := by
  have HKA := hide (Keeps.alloc (Keeps.alloc (Keeps.refl w) (.cells #[.int .i64 q, .int .i64 e, .slice a L.length cap] 52)) (.cells #[.int .i64 q, .int .i64 e, .slice a' L.length cap'] 52))
  have HQ := hide (eqBytes_k a a' cap cap' L _ (hc.kept HKA.out) (hc'.kept HKA.out) hl)
  clear hc hc' hl
  go_enter Tryd.func30, Tryd.ntmps30
  go_wp2_with fail
  refine (unhide HQ).mono ?_
  rintro x w1 ⟨rfl, hk⟩
  replace HKA := hide (HKA.out.trans hk)
  clear hk
  go_wp2_with fail
  go_ret
  exact ⟨rfl, HKA.out⟩
section
variable {H : Type} {enc : TypeId × Value → H} {W : World} {base : Nat} {sp : Nat → Bool} {hd : Bool} {v : Value} {d : DataW H} {ps : List MemPlace}
end
end Go.Proofs.YtkdnddckogbgaaaDoor
