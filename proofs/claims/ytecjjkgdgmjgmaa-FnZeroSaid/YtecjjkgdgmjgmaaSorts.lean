/- slices.SortFunc over lines, by compareLines. -/
import Derived.Test.YtecjjkgdgmjgmaaJour4
import Derived.Test.YtecjjkgdgmjgmaaShelfS
namespace Go.Proofs.Ytecjjkgdgmjgmaa
open Go.RowKit Go.Shelf Go.Lib Go.Sort
set_option linter.unusedVariables false

instance : Inhabited Ln := ⟨⟨0, 0, 0⟩⟩
def cfL (x y : Ln) : Int := cmpA x.k x.c y.k y.c
theorem ltL (x y : Ln) : ltOf cfL x y = lessB x.k x.c y.k y.c := by
  have := cmpA_less (k := x.k) (c := x.c) (k' := y.k) (c' := y.c)
  unfold ltOf cfL
  cases h : lessB x.k x.c y.k y.c
  · rw [h] at this
    simp at this ⊢
    exact this
  · rw [h] at this
    simp at this ⊢
    exact this
theorem swoL : SWO (ltOf cfL) where
  irrefl x := by rw [ltL]; simp [lessB]
  trans x y z h1 h2 := by rw [ltL] at *; exact less_trans h1 h2
  ntrans x y z h1 h2 := by
    rw [ltL] at *
    rw [Bool.eq_false_iff] at *
    intro h
    rw [Ne, less_iff] at h1 h2
    rw [less_iff] at h
    omega
set_option maxHeartbeats 1000000 in
theorem cmpl_impl (x y : Ln) (W : World) : Calls Try.prog 70 #[lineV x, lineV y] W fun e w' => e = .returned (.int .i64 (cfL x y)) ∧ ∃ q os', w' = grow (W.drewN q) os' := by
  obtain ⟨k, c, a⟩ := x
  obtain ⟨k', c', a'⟩ := y
  have HC := hide (fun w1 => cmp_impl k c k' c' w1)
  have HV : Hid (cfL ⟨k, c, a⟩ ⟨k', c', a'⟩ = cmpA k c k' c') := rfl
  generalize cmpA k c k' c' = r at *
  go_enter Try.func70, Try.ntmps70
  go_wp2_with fail
  refine (unhide HC _).mono ?_
  rintro e w1 ⟨rfl, rfl⟩
  go_wp2_with fail
  go_ret
  exact ⟨by rw [HV.out]; rfl, 0, _, by rw [alloc_eq_grow, alloc_eq_grow, alloc_eq_grow, alloc_eq_grow, grow_grow, grow_grow, grow_grow]; rfl⟩
theorem flatK_at (C : List Ln) (t : Nat) (h : t < C.length * 3) : (flatK Ln.cells 3 C.toArray)[t]! = (flat C)[t]'(by rw [flat_length]; omega) := by
  rw [get_flatK _ _ _ _ (by simpa using h)]
  have hi : t / 3 < C.length := by omega
  have e : C.toArray[t / 3]! = C[t / 3] := by simp [hi]
  rw [e]
  obtain ⟨f0, f1, f2⟩ := flat_at C (t / 3) hi
  have h3 : t % 3 = 0 ∨ t % 3 = 1 ∨ t % 3 = 2 := by omega
  have hl : t < (flat C).length := by rw [flat_length]; omega
  rcases h3 with h | h | h
  · have et : 3 * (t / 3) = t := by omega
    rw [et, List.getElem?_eq_getElem hl] at f0
    rw [h, Option.some.inj f0]; rfl
  · have et : 3 * (t / 3) + 1 = t := by omega
    rw [et, List.getElem?_eq_getElem hl] at f1
    rw [h, Option.some.inj f1]; rfl
  · have et : 3 * (t / 3) + 2 = t := by omega
    rw [et, List.getElem?_eq_getElem hl] at f2
    rw [h, Option.some.inj f2]; rfl
/-- What the sort leaves. -/
def SortedOut (g : Nat) (C : List Ln) (w w' : World) : Prop := ∃ C' : List Ln, C'.Perm C ∧ C'.Pairwise (fun x y => lessB y.k y.c x.k x.c = false) ∧ (∀ j (h : j < (flat C').length), w'.cell? ⟨g, j, none⟩ = some (flat C')[j]) ∧ (∀ j, w'.frozen? ⟨g, j, none⟩ = w.frozen? ⟨g, j, none⟩) ∧ w.grownBy w' (some g)
theorem grown_sortWorld (w : World) (g m : Nat) (d : Array Ln) (os : Array Obj) : w.grownBy (sortWorldK Ln.cells 3 w g 0 m d os) (some g) := by
  refine ⟨rfl, rfl, rfl, size_sortWorldK_c _ _ _ _ _ _ _ _, fun k hk hne => ?_⟩
  have hkg : g ≠ k := fun e => hne (by rw [e])
  show ((w.heap.modify g _) ++ os)[k]? = _
  rw [Array.getElem?_append_left (by simpa using hk), Array.getElem?_modify, if_neg hkg]
theorem frozen_sortWorld (w : World) (g m : Nat) (d : Array Ln) (os : Array Obj) (hlt : g < w.heap.size) (j : Nat) : (sortWorldK Ln.cells 3 w g 0 m d os).frozen? ⟨g, j, none⟩ = w.frozen? ⟨g, j, none⟩ := by
  have e : (sortWorldK Ln.cells 3 w g 0 m d os).heap = w.heap.modify g _ ++ os := rfl
  unfold World.frozen?
  rw [e]
  rw [Array.getElem?_append_left (by simpa using hlt), Array.getElem?_modify, if_pos rfl]
  cases h : w.heap[g]? with
  | none => simp
  | some o => cases o <;> simp [onCells]
set_option maxHeartbeats 1000000 in
theorem sort_lines (g cap : Nat) (C : List Ln) (w : World) (hc : ∀ j (h : j < (flat C).length), w.cell? ⟨g, j, none⟩ = some (flat C)[j]) (hf : ∀ j, w.frozen? ⟨g, j, none⟩ = false) (hlt : g < w.heap.size) (hn : C.length ≤ 1048576) :
    Calls Try.prog 69 #[.slice (some ⟨g, 0, none⟩) C.length cap, .func (.func 70) #[] #[]] w fun e w' => e = .returned (.tuple #[]) ∧ SortedOut g C w w' := by
  have eg : ∀ args w, (callFunc 70 args).run Try.prog w = .ok (.enter 70 args) w := enters_of Try.func70 (by kernel_rfl) rfl
  have hH : HoldsK Ln.cells 3 w g 0 C.toArray := by
    intro j hj
    rw [size_flatK] at hj
    have hj' : j < C.length * 3 := by simpa using hj
    rw [Nat.zero_add]
    refine ⟨?_, hf j⟩
    rw [hc j (by rw [flat_length]; omega), flatK_at C j hj']; rfl
  have hcmp : CmpLays Try.prog 70 #[] Ln.cells 3 cfL g 0 C.toArray.size w := fun m os dk _ x y => cmpl_impl x y _
  have hcon := AnyQ.slices_SortFunc Try.sortLn 3 Try.isAgg35 Try.sizeOf35 Ln.cells (fun _ => rfl) (fun x v hv => by simp [Ln.cells] at hv; rcases hv with rfl | rfl | rfl <;> rfl) cfL swoL 70 #[] g 0 cap C.toArray w eg hcmp hH hlt (by simp; omega)
  change Calls Try.prog 69 _ _ _ at hcon
  have es : C.toArray.size = C.length := by simp
  rw [es] at hcon
  refine hcon.mono ?_
  rintro e w' ⟨rfl, d', n, os, hp, hs, rfl⟩
  obtain ⟨hp1, _, hp3⟩ := hp
  have hsz : d'.size = C.length := by simpa using hp1
  have hperm : d'.toList.Perm C := by
    have h1 : d'.extract 0 C.length = d' := by rw [← hsz]; simp
    have h2 : C.toArray.extract 0 C.length = C.toArray := by simp
    rw [h1, h2] at hp3
    simpa using hp3
  refine ⟨rfl, d'.toList, hperm, ?_, ?_, fun j => frozen_sortWorld _ _ _ _ _ hlt j, grown_sortWorld _ _ _ _ _⟩
  · rw [List.pairwise_iff_getElem]
    intro i j hi hj hij
    have := hs i j (Nat.zero_le _) hij (by simp at hj ⊢; omega)
    rw [ltL] at this
    simp at hi hj
    simpa [hi, hj] using this
  · intro j hj
    have hH2 := holdsK_sortWorldK_c Ln.cells 3 w g 0 C.toArray d' n os hH hlt (by simpa using hsz)
    have hj3 : j < d'.toList.length * 3 := by rw [flat_length] at hj; omega
    have := (hH2 j (by rw [size_flatK]; simpa using hj3)).1
    rw [Nat.zero_add] at this
    rw [this]
    have := flatK_at d'.toList j hj3
    simp only [Array.toArray_toList] at this
    rw [this]; rfl
end Go.Proofs.Ytecjjkgdgmjgmaa
