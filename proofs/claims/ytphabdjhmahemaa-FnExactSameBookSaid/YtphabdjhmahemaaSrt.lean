/- slices.Sort over numbers. -/
import Derived.Test.YtphabdjhmahemaaInt0
import Derived.Test.YtphabdjhmahemaaShelfI
import Derived.Lib.OwnBridge
namespace Go.Proofs.Ytphabdjhmahemaa
open Go.RowKit Go.Deep Go.Shelf Go.Lib Go.Sort
set_option linter.unusedVariables false
set_option maxRecDepth 10000

theorem keeps_grow (w : World) (os : Array Obj) : Keeps w (grow w os) :=
  ⟨rfl, rfl, rfl, by simp [grow], fun i hi => by
    show (w.heap ++ os)[i]? = _
    rw [Array.getElem?_append_left hi]⟩
theorem keeps_grown {w w' : World} (h : Keeps w w') : w.grownBy w' none := ⟨h.os, h.tape, h.output, h.size, fun k hk _ => h.block k hk⟩
def sortI (L : List Int) : List Int := L.mergeSort fun x y => decide (x ≤ y)
theorem sort_ints (g cap base : Nat) (L : List Int) (w : World) (ho : OwnsI w base (.slice (some ⟨g, 0, none⟩) L.length cap) L) (hl : L.length ≤ 1048576) (W0 : World) (hb0 : W0.heap.size ≤ base) (hk0 : Keeps W0 w) :
    Calls Try.prog 107 #[.slice (some ⟨g, 0, none⟩) L.length cap] w fun e w' => e = .returned (.tuple #[]) ∧ OwnsI w' base (.slice (some ⟨g, 0, none⟩) L.length cap) (sortI L) ∧ Keeps W0 w' := by
  obtain ⟨g', cap', e1, hb, hlt, h1, h2, h3, hH⟩ := holds_of_ownsRow (enc := Value.int .i64) (zs := L) ho (by simp)
  injection e1 with e1 _ e3
  injection e1 with e1
  injection e1 with e1
  subst e1 e3
  refine (Try.slices_Sort_int g 0 cap L w hH hlt (by omega)).mono ?_
  rintro e w' ⟨rfl, n, os, rfl⟩
  have hlen : (sortI L).length = L.length := by simp [sortI]
  have hk := keeps_grow (putRow (Value.int .i64) (Sort.ahead w n) g 0 (sortI L).toArray) os
  refine ⟨rfl, ?_, ?_⟩
  · have h := ownsRow_putRow (enc := Value.int .i64) (q := n) (k := L.length) (ys := sortI L) ho hlen (Nat.le_refl _)
    rw [List.take_of_length_le (by omega)] at h
    have h' := h.kept (keeps_grown hk) (.inr (by simp [Value.ownBlock]))
    unfold OwnsI
    rw [hlen]
    exact h'
  · exact Keeps.trans (show Keeps W0 _ from below_putRow (enc := Value.int .i64) hk0 (by omega)) hk
end Go.Proofs.Ytphabdjhmahemaa
