/- Lists of structs that a call makes by append, each with a list of its own inside. -/
import Derived.Test.YtkdnddckogbgaaaDR
import Derived.Maps.AppendAt
namespace Go.Proofs.Ytkdnddckogbgaaa
open Go.RowKit Go.Deep
set_option linter.unusedVariables false
set_option maxRecDepth 10000

/-- A list of structs while it is made: its row, the lists inside, no block shared. -/
structure LG {α : Type} (T : TypeId) (sz : Nat) (f : α → List Value) (sg : α → Seg) (w0 w : World) (v : Value) (nb : List α) : Prop where
  row : w.ownsRow w0.heap.size T sz v nb.length (nb.flatMap f)
  inner : Born w0 w (nb.map sg)
  apart : ∀ g, v.ownBlock = some g → g ∉ fp (nb.map sg)
  keeps : Keeps w0 w
section
variable {α : Type} {T : TypeId} {sz : Nat} {f : α → List Value} {sg : α → Seg} {w0 w w1 w2 : World} {v v' : Value} {nb : List α}
theorem owns_kept {base n : Nat} {e : TypeId} {xs : List Value} (hk : Keeps w w1) (h : w.ownsRow base e sz v n xs) : w1.ownsRow base e sz v n xs := by
  refine ⟨h.1, ?_⟩
  rcases h.2 with h' | ⟨g, cap, cur, rfl, hb, hg, rest⟩
  · exact .inl h'
  · refine .inr ⟨g, cap, cur, rfl, hb, ?_, rest⟩
    rw [Below.block hk g (Array.getElem?_eq_some_iff.1 hg).1]; exact hg
theorem LG.kept (h : LG T sz f sg w0 w v nb) (hk : Keeps w w1) : LG T sz f sg w0 w1 v nb :=
  ⟨owns_kept hk h.row, h.inner.kept hk, h.apart, h.keeps.trans hk⟩
theorem LG.snoc (h : LG T sz f sg w0 w v nb) (hk : Keeps w w1) {x : α} (hx : Own w1 [sg x]) (hn : ∀ b ∈ fp [sg x], w.heap.size ≤ b) {o : Obj} (hg : (w1.alloc o).grownBy w2 v.ownBlock)
    (hr : w2.ownsRow w0.heap.size T sz v' (nb.length + 1) (nb.flatMap f ++ f x)) (hv : v'.ownBlock = v.ownBlock ∨ v'.ownBlock = some (w1.alloc o).heap.size) : LG T sz f sg w0 w2 v' (nb ++ [x]) := by
  have hka : Keeps w1 (w1.alloc o) := Keeps.alloc (Keeps.refl _) _
  have hs : (w1.alloc o).heap.size = w1.heap.size + 1 := by rw [World.size_alloc]
  have hI := (h.inner.kept hk).kept hka
  have hX := hx.kept hka
  have ht : Turn v.ownBlock.toList (w1.alloc o) w2 := Turn.of_grown hg (fun k hk' => by rw [hk']; simp)
  have hrow : ∀ g, v.ownBlock = some g → w0.heap.size ≤ g ∧ g < w.heap.size := fun g hg' => h.row.lt g hg'
  have hIT : Born w0 w2 (nb.map sg) := hI.turn ht (fun b hb hb' => by
    have : v.ownBlock = some b := by simpa using hb'
    exact h.apart b this hb)
  have hXT : Own w2 [sg x] := hX.turn ht (fun b hb hb' => by
    have e : v.ownBlock = some b := by simpa using hb'
    have h1 := hrow b e
    have h2 := hn b hb
    omega)
  refine ⟨?_, ⟨?_, ?_⟩, ?_, ?_⟩
  · rw [List.length_append, List.flatMap_append, List.flatMap_singleton]; exact hr
  · rw [List.map_append]
    refine hIT.toOwn.append hXT (fun b hb hb' => ?_)
    have h1 := h.inner.mem.lt b hb
    have h2 := hn b hb'
    omega
  · intro b hb
    rw [List.map_append, fp_append] at hb
    rcases List.mem_append.1 hb with hb | hb
    · exact h.inner.new b hb
    · have h1 := hn b hb
      have h2 := h.keeps.size
      omega
  · intro g hg' hb
    rw [List.map_append, fp_append] at hb
    rcases hv with hv | hv
    · rw [hv] at hg'
      rcases List.mem_append.1 hb with hb | hb
      · exact h.apart g hg' hb
      · have h1 := hn g hb
        have h2 := hrow g hg'
        omega
    · rw [hv] at hg'
      have hg2 := Option.some.inj hg'
      rcases List.mem_append.1 hb with hb | hb
      · have h1 := h.inner.mem.lt g hb
        have h2 := hk.size
        omega
      · have h1 := hx.mem.lt g hb
        omega
  · exact Keeps.grown ((h.keeps.trans hk).trans hka) hg (fun g hg' => (hrow g hg').1)
end
/-- The list of cells is made. -/
theorem LG.cells {w0 w : World} {v : Value} {nb : List Bs} (h : LG 54 1 Bs.cells Bs.seg w0 w v nb) :
    ∃ (a : Option Addr) (cap : Nat), v = .slice a nb.length cap ∧ (a = none → cap = 0) ∧ Born w0 w ((a, ccells nb) :: nb.map Bs.seg) := by
  obtain ⟨a, cap, rfl, _, _, hn, ho, hb⟩ := Own.of_owns h.row
  refine ⟨a, cap, rfl, hn, ⟨Own.append (S := [_]) ho h.inner.toOwn (fun b hb1 hb2 => ?_), ?_⟩⟩
  · have : Value.ownBlock (.slice a nb.length cap) = some b := by
      rw [fp_one] at hb1
      unfold fpS at hb1
      split at hb1
      · simp at hb1
      · cases a with
        | none => simp at hb1
        | some p => simp at hb1; simp [Value.ownBlock, hb1]
    exact h.apart b this hb2
  · intro b hb'
    rw [fp_cons] at hb'
    rcases List.mem_append.1 hb' with hb' | hb'
    · exact hb b (by rw [fp_one]; exact hb')
    · exact h.inner.new b hb'
theorem LG.writes {w0 w : World} {v : Value} {nb : List Wr} (h : LG 51 2 Wr.cells Wr.seg w0 w v nb) :
    ∃ (a : Option Addr) (cap : Nat), v = .slice a nb.length cap ∧ (a = none → cap = 0) ∧ Born w0 w ((a, wcells nb) :: nb.map Wr.seg) := by
  obtain ⟨a, cap, rfl, _, _, hn, ho, hb⟩ := Own.of_owns h.row
  refine ⟨a, cap, rfl, hn, ⟨Own.append (S := [_]) ho h.inner.toOwn (fun b hb1 hb2 => ?_), ?_⟩⟩
  · have : Value.ownBlock (.slice a nb.length cap) = some b := by
      rw [fp_one] at hb1
      unfold fpS at hb1
      split at hb1
      · simp at hb1
      · cases a with
        | none => simp at hb1
        | some p => simp at hb1; simp [Value.ownBlock, hb1]
    exact h.apart b this hb2
  · intro b hb'
    rw [fp_cons] at hb'
    rcases List.mem_append.1 hb' with hb' | hb'
    · exact hb b (by rw [fp_one]; exact hb')
    · exact h.inner.new b hb'
theorem LG.nil {α : Type} (T : TypeId) (sz : Nat) (f : α → List Value) (sg : α → Seg) {w0 w : World} {v : Value} (h : w.ownsRow w0.heap.size T sz v 0 []) (hk : Keeps w0 w) : LG T sz f sg w0 w v [] :=
  ⟨h, Born.nil _ _, fun g _ hb => by simp [fp] at hb, hk⟩
/-- The run of an append of one struct. -/
theorem run_cell (w : World) (base : Nat) (v : Value) (n : Nat) (xs : List Value) (x : Value) (hx : x.oneCell' = true) (ty : TypeId) (h : w.ownsRow base 54 1 v n xs) (hn : n ≤ 1048576) (hb : base ≤ w.heap.size) :
    ∃ v' w', (Builtin.append_ #[23, 23] ty #[v, .slice (some ⟨w.heap.size, 0, none⟩) 1 1]).run Try.prog (w.alloc (.cells #[x] 54)) = .ok v' w' ∧ w'.ownsRow base 54 1 v' (n + 1) (xs ++ [x]) ∧ (w.alloc (.cells #[x] 54)).grownBy w' v.ownBlock ∧ (v'.ownBlock = v.ownBlock ∨ v'.ownBlock = some (w.alloc (.cells #[x] 54)).heap.size) := by
  have hI := infoCell
  cases hi : Try.prog.info? 54 with
  | none => rw [hi] at hI; simp at hI
  | some i =>
    rw [hi] at hI
    simp at hI
    obtain ⟨hz, hsz, hby⟩ := hI
    obtain ⟨v', w', h1, h2, h3, _, h5⟩ := run_append_own_at (P := Try.prog) (w.alloc (.cells #[x] 54)) base 23 ty 54 i _ 1 24 underCells hi hz hsz hby rfl (by decide) v n xs (h.alloc _) ⟨w.heap.size, 0, none⟩ 1 1 [x] rfl (cell_one_new w x _) (by intro u hu; rw [List.mem_singleton.1 hu]; exact hx) (by simp only [maxLen]; omega) (by omega) (by simp; omega)
    exact ⟨v', w', h1, h2, h3, h5⟩
theorem cell_two_new (w : World) (x y : Value) (t : TypeId) : ∀ j u, [x, y][j]? = some u → (w.alloc (.cells #[x, y] t)).cell? ((⟨w.heap.size, 0, none⟩ : Addr).add j) = some u := by
  intro j u hj
  match j, hj with
  | 0, hj => simp at hj; subst hj; simp [Addr.add]
  | 1, hj => simp at hj; subst hj; simp [Addr.add]
  | n + 2, hj => simp at hj
theorem run_write (w : World) (base : Nat) (v : Value) (n : Nat) (xs : List Value) (x y : Value) (hx : x.oneCell' = true) (hy : y.oneCell' = true) (ty : TypeId) (h : w.ownsRow base 51 2 v n xs) (hn : n ≤ 1048576) (hb : base ≤ w.heap.size) :
    ∃ v' w', (Builtin.append_ #[24, 24] ty #[v, .slice (some ⟨w.heap.size, 0, none⟩) 1 1]).run Try.prog (w.alloc (.cells #[x, y] 51)) = .ok v' w' ∧ w'.ownsRow base 51 2 v' (n + 1) (xs ++ [x, y]) ∧ (w.alloc (.cells #[x, y] 51)).grownBy w' v.ownBlock ∧ (v'.ownBlock = v.ownBlock ∨ v'.ownBlock = some (w.alloc (.cells #[x, y] 51)).heap.size) := by
  have hI := infoWrite
  cases hi : Try.prog.info? 51 with
  | none => rw [hi] at hI; simp at hI
  | some i =>
    rw [hi] at hI
    simp at hI
    obtain ⟨hz, hsz, hby⟩ := hI
    obtain ⟨v', w', h1, h2, h3, _, h5⟩ := run_append_own_at (P := Try.prog) (w.alloc (.cells #[x, y] 51)) base 24 ty 51 i _ 2 32 underWrites hi hz hsz hby rfl (by decide) v n xs (h.alloc _) ⟨w.heap.size, 0, none⟩ 1 1 [x, y] rfl (cell_two_new w x y _) (by intro u hu; simp at hu; rcases hu with rfl | rfl <;> assumption) (by simp only [maxLen]; omega) (by omega) (by simp; omega)
    exact ⟨v', w', h1, h2, h3, h5⟩
end Go.Proofs.Ytkdnddckogbgaaa
