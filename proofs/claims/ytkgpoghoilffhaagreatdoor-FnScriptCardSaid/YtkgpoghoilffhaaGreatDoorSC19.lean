/- What a script says, line by line; append of a step, of a line's steps. -/
import Derived.Test.YtkgpoghoilffhaaGreatDoorSC14
import Derived.Maps.AppendAt
import Derived.Lib.AppendZeros
import Derived.Laws.AppendOwnNone
namespace Go.Proofs.YtkgpoghoilffhaaGreatDoor
open Go.RowKit Go.Deep
set_option linter.unusedVariables false
set_option linter.unusedSimpArgs false
set_option maxRecDepth 10000
/-- A line that says nothing. -/
def quietL : List UInt8 → Bool
  | [] => true
  | c :: _ => decide (c = 35)
open Classical in
noncomputable def tsOk (l : List UInt8) : Bool := decide (∃ D, stpB D = true ∧ stT D = l)
open Classical in
noncomputable def tsD (l : List UInt8) : Stp := if h : ∃ D, stpB D = true ∧ stT D = l then Classical.choose h else ⟨0, noE, [], noR⟩
open Classical in
theorem tsq_fun {s : ByteArray} {D : Stp} {ok : Bool} (h : TsQ s D ok) : D = tsD s.data.toList ∧ ok = tsOk s.data.toList := by
  rcases h with ⟨rfl, h1, h2⟩ | ⟨rfl, rfl, h2⟩
  · have hex : ∃ D, stpB D = true ∧ stT D = s.data.toList := ⟨D, h1, h2⟩
    have hs := Classical.choose_spec hex
    refine ⟨?_, by unfold tsOk; exact (decide_eq_true hex).symm⟩
    unfold tsD
    rw [dif_pos hex]
    exact stT_inj h1 hs.1 (h2.trans hs.2.symm)
  · have hn : ¬ ∃ D, stpB D = true ∧ stT D = s.data.toList := fun ⟨D, g1, g2⟩ => h2 D g1 g2
    exact ⟨by unfold tsD; rw [dif_neg hn], by unfold tsOk; exact (decide_eq_false hn).symm⟩
noncomputable def lineOk (l : List UInt8) : Bool := quietL l || tsOk l
noncomputable def lineD (l : List UInt8) : List Stp := if quietL l = true then [] else [tsD l]
/-- A script's lines from the i-th on, behind the steps out. -/
noncomputable def scr : Nat → List Stp → List (List UInt8) → List Stp × Nat
  | _, out, [] => (out, 0)
  | i, out, l :: r => if quietL l = true then scr (i + 1) out r else if tsOk l = false ∨ out.length = 300 then ([], i + 1) else scr (i + 1) (out ++ [tsD l]) r
theorem scr_quiet {i : Nat} {out : List Stp} {l : List UInt8} {r : List (List UInt8)} (h : quietL l = true) : scr i out (l :: r) = scr (i + 1) out r := by rw [scr, if_pos h]
theorem scr_bad {i : Nat} {out : List Stp} {l : List UInt8} {r : List (List UInt8)} (h : quietL l = false) (h2 : tsOk l = false ∨ out.length = 300) : scr i out (l :: r) = ([], i + 1) := by rw [scr, if_neg (by simp [h]), if_pos h2]
theorem scr_step {i : Nat} {out : List Stp} {l : List UInt8} {r : List (List UInt8)} (h : quietL l = false) (h2 : tsOk l = true) (h3 : out.length ≠ 300) : scr i out (l :: r) = scr (i + 1) (out ++ [tsD l]) r := by rw [scr, if_neg (by simp [h]), if_neg (by simp [h2, h3])]
theorem scr_last : ∀ (ls : List (List UInt8)) (i : Nat) (out : List Stp), scr i out (ls ++ [[]]) = scr i out ls
  | [], i, out => by simp [scr, quietL]
  | l :: r, i, out => by simp only [List.cons_append, scr, scr_last r]
noncomputable def scrL (l : List UInt8) : List Stp × Nat := if 8000 < l.length then ([], 1) else scr 0 [] (partsE 10 (l ++ [10]))
theorem scrL_long {l : List UInt8} (h : 8000 < l.length) : scrL l = ([], 1) := by unfold scrL; rw [if_pos h]
theorem scrL_at {l : List UInt8} (h : ¬ 8000 < l.length) : scrL l = scr 0 [] (partsE 10 (l ++ [10])) := by unfold scrL; rw [if_neg h]
/-- What ReadScript answers. -/
def ScPost (s : ByteArray) (w w' : World) (e : Ending) : Prop :=
  ∃ (ms : List Ms) (a : Option Addr) (cap : Nat), e = .returned (.tuple #[.slice a ms.length cap, .int .i64 ((scrL s.data.toList).2 : Int)]) ∧ Born w w' ((a, mcells ms) :: ms.map Ms.seg) ∧ ms.map Ms.D = (scrL s.data.toList).1 ∧ Keeps w w'
theorem born_none (w w' : World) : Born w w' ((none, mcells []) :: ([] : List Ms).map Ms.seg) := by
  refine ⟨⟨fun s hs => ?_, by simp [fp, fpS, mcells], fun b hb => absurd hb (by simp [fp, fpS, mcells])⟩, fun b hb => absurd hb (by simp [fp, fpS, mcells])⟩
  simp at hs
  subst hs
  exact Or.inl rfl
theorem sc_none {s : ByteArray} {w w' : World} {k : Int} (h : scrL s.data.toList = ([], k.toNat)) (hk : 0 ≤ k) (hw : Keeps w w') : ScPost s w w' (.returned (.tuple #[.slice none 0 0, .int .i64 k])) :=
  ⟨[], none, 0, by rw [h]; simp [Int.toNat_of_nonneg hk], born_none w w', by rw [h]; rfl, hw⟩
theorem tsD_ks (l : List UInt8) (hs : l.length ≤ 1048576) : (tsD l).ks.length ≤ 1048576 := by
  unfold tsD
  split
  · next h =>
    obtain ⟨h1, h2⟩ := Classical.choose_spec h
    exact q_len (s := ⟨l.toArray⟩) (ok := true) (by simpa [ByteArray.size] using hs) (Or.inl ⟨rfl, h1, by rw [h2]⟩)
  · simp
theorem scr_all : ∀ (ls : List (List UInt8)) (i : Nat) (out : List Stp), (∀ l ∈ ls, l.length ≤ 1048576) → (∀ D ∈ out, D.ks.length ≤ 1048576) → out.length ≤ 300 → (scr i out ls).1.length ≤ 300 ∧ ∀ D ∈ (scr i out ls).1, D.ks.length ≤ 1048576
  | [], i, out, _, h2, h3 => ⟨h3, h2⟩
  | l :: r, i, out, h1, h2, h3 => by
    have hr : ∀ x ∈ r, x.length ≤ 1048576 := fun x hx => h1 x (List.mem_cons_of_mem _ hx)
    rw [scr]
    split
    · exact scr_all r (i + 1) out hr h2 h3
    · split
      · simp
      · next h4 =>
        refine scr_all r (i + 1) _ hr (fun D hD => ?_) (by simp; omega)
        rcases List.mem_append.1 hD with hD | hD
        · exact h2 D hD
        · rw [List.mem_singleton.1 hD]; exact tsD_ks l (h1 l (List.mem_cons_self ..))
theorem sc_bounds {ms : List Ms} {l : List UInt8} (h : ms.map Ms.D = (scrL l).1) : ms.length ≤ 300 ∧ ∀ x ∈ ms, x.D.ks.length ≤ 1048576 := by
  by_cases hl : 8000 < l.length
  · rw [scrL_long hl] at h
    have : ms = [] := by simpa using h
    subst this
    simp
  · rw [scrL_at hl] at h
    have hp : ∀ x ∈ partsE 10 (l ++ [10]), x.length ≤ 1048576 := fun x hx => by
      have h1 := partsE_sum (e := 10) (l ++ [10])
      have h2 : x.length + 1 ≤ ((partsE 10 (l ++ [10])).map (fun w => w.length + 1)).sum := by
        obtain ⟨A, B, e⟩ := List.append_of_mem hx
        rw [e]; simp; omega
      simp at h1
      omega
    obtain ⟨h1, h2⟩ := scr_all _ 0 [] hp (by simp) (by simp)
    rw [← h] at h1 h2
    exact ⟨by simpa using h1, fun x hx => h2 x.D (List.mem_map.2 ⟨x, hx, rfl⟩)⟩
/-- A block that is made anew. -/
theorem own_fresh (w : World) (cs : List Value) (ty : TypeId) : Own (w.alloc (.cells cs.toArray ty)) [(some ⟨w.heap.size, 0, none⟩, cs)] := by
  refine ⟨?_, ?_, ?_⟩
  · intro s hs
    rw [List.mem_singleton.1 hs]
    refine Or.inr ⟨w.heap.size, 0, rfl, fun j hj => ?_⟩
    have hj' : j < cs.length := hj
    simp [hj']
  · by_cases h0 : cs = [] <;> simp [fp, fpS, h0]
  · intro g hg o
    by_cases h0 : cs = []
    · simp [fp, fpS, h0] at hg
    · simp [fp, fpS, h0] at hg
      subst hg
      exact (World.rowIs_alloc w cs.toArray ty (fun i => cs.toArray.getD i (.int .i64 0)) (fun i hi => by simp at hi; simp [hi])).frozen o
theorem addr_add0 (g j : Nat) : (⟨g, 0, none⟩ : Addr).add j = ⟨g, j, none⟩ := by
  cases j <;> simp [Addr.add]
theorem infoStep : (Tryz.prog.info? 33).map (fun i => ((i.zero.map fun z => z.cells.size), i.zero.isSome, i.size, i.bytes)) = some (some 14, true, 14, 128) := by kernel_rfl
theorem underSteps : Tryz.prog.underlying 24 = some (.slice 33) := by kernel_rfl
theorem infoLine : (Tryz.prog.info? 24).map (fun i => (i.zero, i.size, i.bytes)) = some (some (.slice none 0 0), 1, 24) := by kernel_rfl
theorem underLines : Tryz.prog.underlying 47 = some (.slice 24) := by kernel_rfl
theorem run_step (w : World) (base : Nat) (v : Value) (n : Nat) (xs : List Value) (x : Ms) (p : Addr) (c : Nat) (hp : ∀ j u, x.cells[j]? = some u → w.cell? (p.add j) = some u) (ty : TypeId) (h : w.ownsRow base 33 14 v n xs) (hn : n ≤ 1048576) (hb : base ≤ w.heap.size) :
    ∃ v' w', (Builtin.append_ #[24, 24] ty #[v, .slice (some p) 1 c]).run Tryz.prog w = .ok v' w' ∧ w'.ownsRow base 33 14 v' (n + 1) (xs ++ x.cells) ∧ w.grownBy w' v.ownBlock ∧ (v'.ownBlock = v.ownBlock ∨ v'.ownBlock = some w.heap.size) := by
  have hI := infoStep
  cases hi : Tryz.prog.info? 33 with
  | none => rw [hi] at hI; simp at hI
  | some i =>
    rw [hi] at hI
    cases hz : i.zero with
    | none => rw [Option.map_some, hz] at hI; simp at hI
    | some z =>
      rw [Option.map_some, hz] at hI
      simp at hI
      obtain ⟨hzs, hsz, hby⟩ := hI
      obtain ⟨v', w', h1, h2, h3, _, h5⟩ := run_append_own_at (P := Tryz.prog) (w := w) base 24 ty 33 i z 14 128 underSteps hi hz hsz hby hzs (by decide) v n xs h p 1 c x.cells rfl hp (by
        intro u hu
        simp only [Ms.cells, List.mem_cons, List.not_mem_nil, or_false] at hu
        rcases hu with rfl | rfl | rfl | rfl | rfl | rfl | rfl | rfl | rfl | rfl | rfl | rfl | rfl | rfl <;> rfl) (by simp only [maxLen]; omega) (by omega) hb
      exact ⟨v', w', h1, h2, h3, h5⟩
theorem run_step_none (w : World) (base : Nat) (v : Value) (n : Nat) (xs : List Value) (ty : TypeId) (h : w.ownsRow base 33 14 v n xs) : (Builtin.append_ #[24, 24] ty #[v, .slice none 0 0]).run Tryz.prog w = .ok v w := by
  have hI := infoStep
  cases hi : Tryz.prog.info? 33 with
  | none => rw [hi] at hI; simp at hI
  | some i => exact run_append_owned_none (P := Tryz.prog) (w := w) base 24 ty 33 i 14 underSteps hi v n xs h
theorem run_line (w : World) (base : Nat) (v : Value) (n : Nat) (xs : List Value) (x : Value) (hx : x.oneCell' = true) (p : Addr) (hp : w.cell? p = some x) (ty : TypeId) (h : w.ownsRow base 24 1 v n xs) (hn : n ≤ 1048576) (hb : base ≤ w.heap.size) :
    ∃ v' w', (Builtin.append_ #[47, 47] ty #[v, .slice (some p) 1 1]).run Tryz.prog w = .ok v' w' ∧ w'.ownsRow base 24 1 v' (n + 1) (xs ++ [x]) ∧ w.grownBy w' v.ownBlock ∧ (v'.ownBlock = v.ownBlock ∨ v'.ownBlock = some w.heap.size) := by
  have hI := infoLine
  cases hi : Tryz.prog.info? 24 with
  | none => rw [hi] at hI; simp at hI
  | some i =>
    rw [hi] at hI
    simp at hI
    obtain ⟨hz, hsz, hby⟩ := hI
    obtain ⟨v', w', h1, h2, h3, _, h5⟩ := run_append_own_at (P := Tryz.prog) (w := w) base 47 ty 24 i _ 1 24 underLines hi hz hsz hby rfl (by decide) v n xs h p 1 1 [x] rfl (by
      intro j u hj
      match j, hj with
      | 0, hj => simp at hj; subst hj; simpa [Addr.add] using hp
      | m + 1, hj => simp at hj) (by intro u hu; simp at hu; subst hu; exact hx) (by simp only [maxLen]; omega) (by omega) hb
    exact ⟨v', w', h1, h2, h3, h5⟩
end Go.Proofs.YtkgpoghoilffhaaGreatDoor
