/- What the laws do with cells and writes, one at a time. -/
import Derived.Test.YtkdnddckogbgaaaDoorSec
import Derived.Test.YtkdnddckogbgaaaDoorLst
namespace Go.Proofs.YtkdnddckogbgaaaDoor
open Go.RowKit Go.Deep
set_option linter.unusedVariables false
set_option maxRecDepth 10000

set_option maxHeartbeats 1000000 in
theorem toCell_k (a : Option Addr) (cap : Nat) (L : List UInt8) (w : World) (hc : Cells w a (bys L)) (hl : L.length ≤ 1048576) :
    Calls Tryd.prog 46 #[.agg #[.slice a L.length cap]] w fun x w' => ∃ b1, x = .returned (.agg #[.slice (some ⟨b1, 0, none⟩) L.length L.length]) ∧ Born w w' [(some ⟨b1, 0, none⟩, bys L)] ∧ Keeps w w' := by
  have HC := hide hc
  clear hc
  go_enter Tryd.func46, Tryd.ntmps46
  go_wp2_with fail
  have HKA := hide (Keeps.alloc (Keeps.alloc (Keeps.alloc (Keeps.refl w) (.cells #[.slice a L.length cap] 76)) (.cells #[.slice none 0 0] 80)) (.cells #[.slice none 0 0] 80))
  have HR1 := hide ((row_new (w.alloc (.cells #[.slice a L.length cap] 76)) #[.slice none 0 0] 80).alloc (.cells #[.slice none 0 0] 80))
  refine (toByteS_k a cap L _ (HC.out.kept HKA.out) hl).mono ?_
  rintro x w1 ⟨b1, rfl, hb, hk⟩
  have HB := hide hb
  have HK := hide hk
  replace HR1 := hide (hk.row HR1.out)
  have ho := hk.old
  have hf := hk.oldF
  have hz := hk.size
  clear hk hb
  go_wp2_with fail
  have r2 := HR1.out
  simp only [World.size_alloc] at r2
  have r3 := (r2.setOther (a := ⟨w.heap.size + 1 + 1, 0, none⟩) (by simp) (.slice (some ⟨b1, 0, none⟩) L.length L.length)).set 0 (.slice (some ⟨b1, 0, none⟩) L.length L.length)
  have c0 := r3.cell (i := 0) (by decide)
  simp at c0
  have HS : Hid (Turn [w.heap.size + 1, w.heap.size + 1 + 1] w1 ((w1.setCell ⟨w.heap.size + 1 + 1, 0, none⟩ (.slice (some ⟨b1, 0, none⟩) L.length L.length)).setCell ⟨w.heap.size + 1, 0, none⟩ (.slice (some ⟨b1, 0, none⟩) L.length L.length))) :=
    ((Turn.set (by simp) _).trans' (Turn.set (by simp) _))
  clear r2 r3 HR1 hz ho hf
  revert c0 HS
  generalize World.setCell _ _ _ = W
  intro c0 HS
  refine bodyPost_ret (v := .agg #[.slice (some ⟨b1, 0, none⟩) L.length L.length]) ?_ rfl ⟨b1, rfl, ?_, ?_⟩
  · simp [results, Tryd.results46, go_sem, c0]
  · refine (HB.out.turn HS.out ?_).old HKA.out
    intro b hb hx
    have := HB.out.new b hb
    simp at this hx
    omega
  · refine HS.out.keeps (HKA.out.trans HK.out) ?_
    intro b hb
    simp at hb
    omega
set_option maxHeartbeats 1000000 in
theorem toWrite_k (i : Int) (a : Option Addr) (cap : Nat) (L : List UInt8) (w : World) (hc : Cells w a (bys L)) (hl : L.length ≤ 1048576) :
    Calls Tryd.prog 47 #[.agg #[.int .i64 i, .slice a L.length cap]] w fun x w' => ∃ b1, x = .returned (.agg #[.int .i64 i, .slice (some ⟨b1, 0, none⟩) L.length L.length]) ∧ Born w w' [(some ⟨b1, 0, none⟩, bys L)] ∧ Keeps w w' := by
  have HC := hide hc
  clear hc
  go_enter Tryd.func47, Tryd.ntmps47
  go_wp2_with fail
  have HKA := hide (Keeps.alloc (Keeps.alloc (Keeps.alloc (Keeps.refl w) (.cells #[.int .i64 i, .slice a L.length cap] 79)) (.cells #[.int .i64 0, .slice none 0 0] 81)) (.cells #[.int .i64 i, .slice none 0 0] 81))
  have HR1 := hide ((row_new (w.alloc (.cells #[.int .i64 i, .slice a L.length cap] 79)) #[.int .i64 0, .slice none 0 0] 81).alloc (.cells #[.int .i64 i, .slice none 0 0] 81))
  refine (toByteS_k a cap L _ (HC.out.kept HKA.out) hl).mono ?_
  rintro x w1 ⟨b1, rfl, hb, hk⟩
  have HB := hide hb
  have HK := hide hk
  replace HR1 := hide (hk.row HR1.out)
  have ho := hk.old
  have hf := hk.oldF
  have hz := hk.size
  clear hk hb
  go_wp2_with fail
  have r2 := HR1.out
  simp only [World.size_alloc] at r2
  have r3 := ((r2.setOther (a := ⟨w.heap.size + 1 + 1, 1, none⟩) (by simp) (.slice (some ⟨b1, 0, none⟩) L.length L.length)).set 0 (.int .i64 i)).set 1 (.slice (some ⟨b1, 0, none⟩) L.length L.length)
  have c0 := r3.cell (i := 0) (by decide)
  have c1 := r3.cell (i := 1) (by decide)
  simp at c0 c1
  have HS : Hid (Turn [w.heap.size + 1, w.heap.size + 1 + 1] w1 (((w1.setCell ⟨w.heap.size + 1 + 1, 1, none⟩ (.slice (some ⟨b1, 0, none⟩) L.length L.length)).setCell ⟨w.heap.size + 1, 0, none⟩ (.int .i64 i)).setCell ⟨w.heap.size + 1, 1, none⟩ (.slice (some ⟨b1, 0, none⟩) L.length L.length))) :=
    (((Turn.set (by simp) _).trans' (Turn.set (by simp) _)).trans' (Turn.set (by simp) _))
  clear r2 r3 HR1 hz ho hf
  revert c0 c1 HS
  generalize World.setCell _ _ _ = W
  intro c0 c1 HS
  refine bodyPost_ret (v := .agg #[.int .i64 i, .slice (some ⟨b1, 0, none⟩) L.length L.length]) ?_ rfl ⟨b1, rfl, ?_, ?_⟩
  · simp [results, Tryd.results47, go_sem, c0, c1]
  · refine (HB.out.turn HS.out ?_).old HKA.out
    intro b hb hx
    have := HB.out.new b hb
    simp at this hx
    omega
  · refine HS.out.keeps (HKA.out.trans HK.out) ?_
    intro b hb
    simp at hb
    omega
theorem eqCell_k (a a' : Option Addr) (cap cap' : Nat) (L : List UInt8) (w : World) (hc : Cells w a (bys L)) (hc' : Cells w a' (bys L)) (hl : L.length ≤ 16777216) :
    Calls Tryd.prog 50 #[.agg #[.slice a L.length cap], .agg #[.slice a' L.length cap']] w fun x w' => x = .returned (.bool true) ∧ Keeps w w' := by
  have HKA := hide (Keeps.alloc (Keeps.alloc (Keeps.refl w) (.cells #[.slice a L.length cap] 80)) (.cells #[.slice a' L.length cap'] 80))
  have HQ := hide (eqBytes_k a a' cap cap' L _ (hc.kept HKA.out) (hc'.kept HKA.out) hl)
  clear hc hc' hl
  go_enter Tryd.func50, Tryd.ntmps50
  go_wp2_with fail
  refine (unhide HQ).mono ?_
  rintro x w1 ⟨rfl, hk⟩
  replace HKA := hide (HKA.out.trans hk)
  clear hk
  go_wp2_with fail
  go_ret
  exact ⟨rfl, HKA.out⟩
theorem eqWrite_k (i : Int) (a a' : Option Addr) (cap cap' : Nat) (L : List UInt8) (w : World) (hc : Cells w a (bys L)) (hc' : Cells w a' (bys L)) (hl : L.length ≤ 16777216) :
    Calls Tryd.prog 51 #[.agg #[.int .i64 i, .slice a L.length cap], .agg #[.int .i64 i, .slice a' L.length cap']] w fun x w' => x = .returned (.bool true) ∧ Keeps w w' := by
  have HKA := hide (Keeps.alloc (Keeps.alloc (Keeps.refl w) (.cells #[.int .i64 i, .slice a L.length cap] 81)) (.cells #[.int .i64 i, .slice a' L.length cap'] 81))
  have HQ := hide (eqBytes_k a a' cap cap' L _ (hc.kept HKA.out) (hc'.kept HKA.out) hl)
  clear hc hc' hl
  go_enter Tryd.func51, Tryd.ntmps51
  go_wp2_with fail
  refine (unhide HQ).mono ?_
  rintro x w1 ⟨rfl, hk⟩
  replace HKA := hide (HKA.out.trans hk)
  clear hk
  go_wp2_with fail
  go_ret
  exact ⟨rfl, HKA.out⟩
theorem szCell_k (a : Option Addr) (len cap : Nat) (left : Int) (w : World) (h0 : 0 ≤ left) (h1 : left ≤ 1048576) (hl : len ≤ 9223372036854775807) :
    Calls Tryd.prog 41 #[.agg #[.slice a len cap], .int .i64 left] w fun x w' => x = .returned (.int .i64 (if (len : Int) ≤ left then left - len else -1)) ∧ Keeps w w' := by
  have HS := hide (fun w1 => szByteS_k a len cap left w1 h0 h1 hl)
  by_cases h : (len : Int) ≤ left
  · rw [if_pos h] at HS
    have H : Hid ((if (len : Int) ≤ left then left - len else -1) = left - len) := if_pos h
    go_enter Tryd.func41, Tryd.ntmps41
    go_wp2_with fail
    refine (unhide HS _).mono ?_
    rintro e w1 ⟨rfl, hw⟩
    subst hw
    go_wp2_with fail
    go_ret
    exact ⟨rfl, Keeps.alloc (Keeps.refl _) _⟩
  · rw [if_neg h] at HS
    have H : Hid ((if (len : Int) ≤ left then left - len else -1) = -1) := if_neg h
    go_enter Tryd.func41, Tryd.ntmps41
    go_wp2_with fail
    refine (unhide HS _).mono ?_
    rintro e w1 ⟨rfl, hw⟩
    subst hw
    go_wp2_with fail
    go_ret
    exact ⟨rfl, Keeps.alloc (Keeps.refl _) _⟩
theorem szWrite_k (i : Int) (a : Option Addr) (len cap : Nat) (left : Int) (w : World) (h0 : 0 ≤ left) (h1 : left ≤ 1048576) (hl : len ≤ 9223372036854775807) :
    Calls Tryd.prog 42 #[.agg #[.int .i64 i, .slice a len cap], .int .i64 left] w fun x w' => x = .returned (.int .i64 (if (len : Int) ≤ left then left - len else -1)) ∧ Keeps w w' := by
  have HS := hide (fun w1 => szByteS_k a len cap left w1 h0 h1 hl)
  by_cases h : (len : Int) ≤ left
  · rw [if_pos h] at HS
    have H : Hid ((if (len : Int) ≤ left then left - len else -1) = left - len) := if_pos h
    go_enter Tryd.func42, Tryd.ntmps42
    go_wp2_with fail
    refine (unhide HS _).mono ?_
    rintro e w1 ⟨rfl, hw⟩
    subst hw
    go_wp2_with fail
    go_ret
    exact ⟨rfl, Keeps.alloc (Keeps.refl _) _⟩
  · rw [if_neg h] at HS
    have H : Hid ((if (len : Int) ≤ left then left - len else -1) = -1) := if_neg h
    go_enter Tryd.func42, Tryd.ntmps42
    go_wp2_with fail
    refine (unhide HS _).mono ?_
    rintro e w1 ⟨rfl, hw⟩
    subst hw
    go_wp2_with fail
    go_ret
    exact ⟨rfl, Keeps.alloc (Keeps.refl _) _⟩
end Go.Proofs.YtkdnddckogbgaaaDoor
