/- Texts of the verifier, joined: Zt, Esx, Byt, Prt. -/
import Derived.Test.YtkgpoghoilffhaaGreatDoorRS13
import Derived.Maps.AppendAt
import Derived.Lib.AppendZeros
import Derived.Laws.AppendOwnNone
import Derived.Test.YtkgpoghoilffhaaGreatDoorRS3
import Derived.Test.YtkgpoghoilffhaaGreatDoorRS5
import Derived.Test.YtkgpoghoilffhaaGreatDoorRS6
import Derived.Handy
import Derived.Test.YtkgpoghoilffhaaGreatDoorRS1
import Derived.RegionTactic
import Derived.Test.YtkgpoghoilffhaaGreatDoorRS2
import Derived.OwnWalk
import Derived.Laws.OwnMore
namespace Go.Proofs.YtkgpoghoilffhaaGreatDoor
open Go.RowKit Go.Deep
set_option linter.unusedVariables false
set_option linter.unusedSimpArgs false
set_option maxRecDepth 10000
/-- A line that says nothing. -/
def quietL : List UInt8 → Bool
  | [] => true
  | c :: _ => decide (c = 35)
open Classical in
noncomputable def tsOk (l : List UInt8) : Bool := decide (∃ D, stpB D = true ∧ stT D = l)
open Classical in
noncomputable def tsD (l : List UInt8) : Stp := if h : ∃ D, stpB D = true ∧ stT D = l then Classical.choose h else ⟨0, noE, [], noR⟩
open Classical in
theorem tsq_fun {s : ByteArray} {D : Stp} {ok : Bool} (h : TsQ s D ok) : D = tsD s.data.toList ∧ ok = tsOk s.data.toList := by
  rcases h with ⟨rfl, h1, h2⟩ | ⟨rfl, rfl, h2⟩
  · have hex : ∃ D, stpB D = true ∧ stT D = s.data.toList := ⟨D, h1, h2⟩
    have hs := Classical.choose_spec hex
    refine ⟨?_, by unfold tsOk; exact (decide_eq_true hex).symm⟩
    unfold tsD
    rw [dif_pos hex]
    exact stT_inj h1 hs.1 (h2.trans hs.2.symm)
  · have hn : ¬ ∃ D, stpB D = true ∧ stT D = s.data.toList := fun ⟨D, g1, g2⟩ => h2 D g1 g2
    exact ⟨by unfold tsD; rw [dif_neg hn], by unfold tsOk; exact (decide_eq_false hn).symm⟩
noncomputable def lineOk (l : List UInt8) : Bool := quietL l || tsOk l
noncomputable def lineD (l : List UInt8) : List Stp := if quietL l = true then [] else [tsD l]
/-- A script's lines from the i-th on, behind the steps out. -/
noncomputable def scr : Nat → List Stp → List (List UInt8) → List Stp × Nat
  | _, out, [] => (out, 0)
  | i, out, l :: r => if quietL l = true then scr (i + 1) out r else if tsOk l = false ∨ out.length = 300 then ([], i + 1) else scr (i + 1) (out ++ [tsD l]) r
theorem scr_quiet {i : Nat} {out : List Stp} {l : List UInt8} {r : List (List UInt8)} (h : quietL l = true) : scr i out (l :: r) = scr (i + 1) out r := by rw [scr, if_pos h]
theorem scr_bad {i : Nat} {out : List Stp} {l : List UInt8} {r : List (List UInt8)} (h : quietL l = false) (h2 : tsOk l = false ∨ out.length = 300) : scr i out (l :: r) = ([], i + 1) := by rw [scr, if_neg (by simp [h]), if_pos h2]
theorem scr_step {i : Nat} {out : List Stp} {l : List UInt8} {r : List (List UInt8)} (h : quietL l = false) (h2 : tsOk l = true) (h3 : out.length ≠ 300) : scr i out (l :: r) = scr (i + 1) (out ++ [tsD l]) r := by rw [scr, if_neg (by simp [h]), if_neg (by simp [h2, h3])]
theorem scr_last : ∀ (ls : List (List UInt8)) (i : Nat) (out : List Stp), scr i out (ls ++ [[]]) = scr i out ls
  | [], i, out => by simp [scr, quietL]
  | l :: r, i, out => by simp only [List.cons_append, scr, scr_last r]
noncomputable def scrL (l : List UInt8) : List Stp × Nat := if 8000 < l.length then ([], 1) else scr 0 [] (partsE 10 (l ++ [10]))
theorem scrL_long {l : List UInt8} (h : 8000 < l.length) : scrL l = ([], 1) := by unfold scrL; rw [if_pos h]
theorem scrL_at {l : List UInt8} (h : ¬ 8000 < l.length) : scrL l = scr 0 [] (partsE 10 (l ++ [10])) := by unfold scrL; rw [if_neg h]
/-- What ReadScript answers. -/
def ScPost (s : ByteArray) (w w' : World) (e : Ending) : Prop :=
  ∃ (ms : List Ms) (a : Option Addr) (cap : Nat), e = .returned (.tuple #[.slice a ms.length cap, .int .i64 ((scrL s.data.toList).2 : Int)]) ∧ Born w w' ((a, mcells ms) :: ms.map Ms.seg) ∧ ms.map Ms.D = (scrL s.data.toList).1 ∧ Keeps w w'
theorem born_none (w w' : World) : Born w w' ((none, mcells []) :: ([] : List Ms).map Ms.seg) := by
  refine ⟨⟨fun s hs => ?_, by simp [fp, fpS, mcells], fun b hb => absurd hb (by simp [fp, fpS, mcells])⟩, fun b hb => absurd hb (by simp [fp, fpS, mcells])⟩
  simp at hs
  subst hs
  exact Or.inl rfl
theorem sc_none {s : ByteArray} {w w' : World} {k : Int} (h : scrL s.data.toList = ([], k.toNat)) (hk : 0 ≤ k) (hw : Keeps w w') : ScPost s w w' (.returned (.tuple #[.slice none 0 0, .int .i64 k])) :=
  ⟨[], none, 0, by rw [h]; simp [Int.toNat_of_nonneg hk], born_none w w', by rw [h]; rfl, hw⟩
theorem tsD_ks (l : List UInt8) (hs : l.length ≤ 1048576) : (tsD l).ks.length ≤ 1048576 := by
  unfold tsD
  split
  · next h =>
    obtain ⟨h1, h2⟩ := Classical.choose_spec h
    exact q_len (s := ⟨l.toArray⟩) (ok := true) (by simpa [ByteArray.size] using hs) (Or.inl ⟨rfl, h1, by rw [h2]⟩)
  · simp
theorem scr_all : ∀ (ls : List (List UInt8)) (i : Nat) (out : List Stp), (∀ l ∈ ls, l.length ≤ 1048576) → (∀ D ∈ out, D.ks.length ≤ 1048576) → out.length ≤ 300 → (scr i out ls).1.length ≤ 300 ∧ ∀ D ∈ (scr i out ls).1, D.ks.length ≤ 1048576
  | [], i, out, _, h2, h3 => ⟨h3, h2⟩
  | l :: r, i, out, h1, h2, h3 => by
    have hr : ∀ x ∈ r, x.length ≤ 1048576 := fun x hx => h1 x (List.mem_cons_of_mem _ hx)
    rw [scr]
    split
    · exact scr_all r (i + 1) out hr h2 h3
    · split
      · simp
      · next h4 =>
        refine scr_all r (i + 1) _ hr (fun D hD => ?_) (by simp; omega)
        rcases List.mem_append.1 hD with hD | hD
        · exact h2 D hD
        · rw [List.mem_singleton.1 hD]; exact tsD_ks l (h1 l (List.mem_cons_self ..))
theorem sc_bounds {ms : List Ms} {l : List UInt8} (h : ms.map Ms.D = (scrL l).1) : ms.length ≤ 300 ∧ ∀ x ∈ ms, x.D.ks.length ≤ 1048576 := by
  by_cases hl : 8000 < l.length
  · rw [scrL_long hl] at h
    have : ms = [] := by simpa using h
    subst this
    simp
  · rw [scrL_at hl] at h
    have hp : ∀ x ∈ partsE 10 (l ++ [10]), x.length ≤ 1048576 := fun x hx => by
      have h1 := partsE_sum (e := 10) (l ++ [10])
      have h2 : x.length + 1 ≤ ((partsE 10 (l ++ [10])).map (fun w => w.length + 1)).sum := by
        obtain ⟨A, B, e⟩ := List.append_of_mem hx
        rw [e]; simp; omega
      simp at h1
      omega
    obtain ⟨h1, h2⟩ := scr_all _ 0 [] hp (by simp) (by simp)
    rw [← h] at h1 h2
    exact ⟨by simpa using h1, fun x hx => h2 x.D (List.mem_map.2 ⟨x, hx, rfl⟩)⟩
/-- A block that is made anew. -/
theorem own_fresh (w : World) (cs : List Value) (ty : TypeId) : Own (w.alloc (.cells cs.toArray ty)) [(some ⟨w.heap.size, 0, none⟩, cs)] := by
  refine ⟨?_, ?_, ?_⟩
  · intro s hs
    rw [List.mem_singleton.1 hs]
    refine Or.inr ⟨w.heap.size, 0, rfl, fun j hj => ?_⟩
    have hj' : j < cs.length := hj
    simp [hj']
  · by_cases h0 : cs = [] <;> simp [fp, fpS, h0]
  · intro g hg o
    by_cases h0 : cs = []
    · simp [fp, fpS, h0] at hg
    · simp [fp, fpS, h0] at hg
      subst hg
      exact (World.rowIs_alloc w cs.toArray ty (fun i => cs.toArray.getD i (.int .i64 0)) (fun i hi => by simp at hi; simp [hi])).frozen o
theorem addr_add0 (g j : Nat) : (⟨g, 0, none⟩ : Addr).add j = ⟨g, j, none⟩ := by
  cases j <;> simp [Addr.add]
theorem infoStep : (Tryz.prog.info? 33).map (fun i => ((i.zero.map fun z => z.cells.size), i.zero.isSome, i.size, i.bytes)) = some (some 14, true, 14, 128) := by kernel_rfl
theorem underSteps : Tryz.prog.underlying 24 = some (.slice 33) := by kernel_rfl
theorem infoLine : (Tryz.prog.info? 24).map (fun i => (i.zero, i.size, i.bytes)) = some (some (.slice none 0 0), 1, 24) := by kernel_rfl
theorem underLines : Tryz.prog.underlying 47 = some (.slice 24) := by kernel_rfl
theorem run_step (w : World) (base : Nat) (v : Value) (n : Nat) (xs : List Value) (x : Ms) (p : Addr) (c : Nat) (hp : ∀ j u, x.cells[j]? = some u → w.cell? (p.add j) = some u) (ty : TypeId) (h : w.ownsRow base 33 14 v n xs) (hn : n ≤ 1048576) (hb : base ≤ w.heap.size) :
    ∃ v' w', (Builtin.append_ #[24, 24] ty #[v, .slice (some p) 1 c]).run Tryz.prog w = .ok v' w' ∧ w'.ownsRow base 33 14 v' (n + 1) (xs ++ x.cells) ∧ w.grownBy w' v.ownBlock ∧ (v'.ownBlock = v.ownBlock ∨ v'.ownBlock = some w.heap.size) := by
  have hI := infoStep
  cases hi : Tryz.prog.info? 33 with
  | none => rw [hi] at hI; simp at hI
  | some i =>
    rw [hi] at hI
    cases hz : i.zero with
    | none => rw [Option.map_some, hz] at hI; simp at hI
    | some z =>
      rw [Option.map_some, hz] at hI
      simp at hI
      obtain ⟨hzs, hsz, hby⟩ := hI
      obtain ⟨v', w', h1, h2, h3, _, h5⟩ := run_append_own_at (P := Tryz.prog) (w := w) base 24 ty 33 i z 14 128 underSteps hi hz hsz hby hzs (by decide) v n xs h p 1 c x.cells rfl hp (by
        intro u hu
        simp only [Ms.cells, List.mem_cons, List.not_mem_nil, or_false] at hu
        rcases hu with rfl | rfl | rfl | rfl | rfl | rfl | rfl | rfl | rfl | rfl | rfl | rfl | rfl | rfl <;> rfl) (by simp only [maxLen]; omega) (by omega) hb
      exact ⟨v', w', h1, h2, h3, h5⟩
theorem run_step_none (w : World) (base : Nat) (v : Value) (n : Nat) (xs : List Value) (ty : TypeId) (h : w.ownsRow base 33 14 v n xs) : (Builtin.append_ #[24, 24] ty #[v, .slice none 0 0]).run Tryz.prog w = .ok v w := by
  have hI := infoStep
  cases hi : Tryz.prog.info? 33 with
  | none => rw [hi] at hI; simp at hI
  | some i => exact run_append_owned_none (P := Tryz.prog) (w := w) base 24 ty 33 i 14 underSteps hi v n xs h
theorem run_line (w : World) (base : Nat) (v : Value) (n : Nat) (xs : List Value) (x : Value) (hx : x.oneCell' = true) (p : Addr) (hp : w.cell? p = some x) (ty : TypeId) (h : w.ownsRow base 24 1 v n xs) (hn : n ≤ 1048576) (hb : base ≤ w.heap.size) :
    ∃ v' w', (Builtin.append_ #[47, 47] ty #[v, .slice (some p) 1 1]).run Tryz.prog w = .ok v' w' ∧ w'.ownsRow base 24 1 v' (n + 1) (xs ++ [x]) ∧ w.grownBy w' v.ownBlock ∧ (v'.ownBlock = v.ownBlock ∨ v'.ownBlock = some w.heap.size) := by
  have hI := infoLine
  cases hi : Tryz.prog.info? 24 with
  | none => rw [hi] at hI; simp at hI
  | some i =>
    rw [hi] at hI
    simp at hI
    obtain ⟨hz, hsz, hby⟩ := hI
    obtain ⟨v', w', h1, h2, h3, _, h5⟩ := run_append_own_at (P := Tryz.prog) (w := w) base 47 ty 24 i _ 1 24 underLines hi hz hsz hby rfl (by decide) v n xs h p 1 1 [x] rfl (by
      intro j u hj
      match j, hj with
      | 0, hj => simp at hj; subst hj; simpa [Addr.add] using hp
      | m + 1, hj => simp at hj) (by intro u hu; simp at hu; subst hu; exact hx) (by simp only [maxLen]; omega) (by omega) hb
    exact ⟨v', w', h1, h2, h3, h5⟩
end Go.Proofs.YtkgpoghoilffhaaGreatDoor
namespace Go.Proofs.YtkgpoghoilffhaaGreatDoor
open Go.RowKit
set_option linter.unusedVariables false
set_option linter.unusedSimpArgs false
set_option maxRecDepth 10000
/-- The words of the kinds. -/
def wordL (k : Nat) : List UInt8 := if k = 1 then [100, 101, 112, 111, 115, 105, 116] else if k = 2 then [111, 112, 101, 110] else if k = 3 then [99, 108, 111, 115, 101] else if k = 4 then [112, 114, 105, 99, 101] else if k = 5 then [97, 100, 109, 105, 116] else if k = 6 then [102, 117, 108, 102, 105, 108, 108] else if k = 7 then [102, 97, 105, 108] else if k = 8 then [116, 105, 99, 107] else if k = 9 then [108, 97, 117, 110, 99, 104] else if k = 10 then [97, 114, 114, 105, 118, 101] else if k = 11 then [108, 111, 115, 116] else []
def wordsC : Array Value := #[.string ⟨(wordL 0).toArray⟩, .string ⟨(wordL 1).toArray⟩, .string ⟨(wordL 2).toArray⟩, .string ⟨(wordL 3).toArray⟩, .string ⟨(wordL 4).toArray⟩, .string ⟨(wordL 5).toArray⟩, .string ⟨(wordL 6).toArray⟩, .string ⟨(wordL 7).toArray⟩, .string ⟨(wordL 8).toArray⟩, .string ⟨(wordL 9).toArray⟩, .string ⟨(wordL 10).toArray⟩, .string ⟨(wordL 11).toArray⟩]
theorem words_row : ∀ i, i < wordsC.size → wordsC[i]? = some (.string ⟨(wordL i).toArray⟩)
  | 0, _ => rfl
  | 1, _ => rfl
  | 2, _ => rfl
  | 3, _ => rfl
  | 4, _ => rfl
  | 5, _ => rfl
  | 6, _ => rfl
  | 7, _ => rfl
  | 8, _ => rfl
  | 9, _ => rfl
  | 10, _ => rfl
  | 11, _ => rfl
theorem words_k (w : World) : Calls Tryz.prog 62 #[] w fun e w' => e = .returned (.slice (some ⟨w.heap.size, 0, none⟩) 12 12) ∧ w' = w.alloc (.cells wordsC 9) := by
  go_enter Tryz.func62, Tryz.ntmps62
  go_wp2
  go_ret
  exact ⟨rfl, rfl⟩
def fldL (h : Bool) (n : Int) : List UInt8 := if h = true then 32 :: numT n else []
def hasB (h0 h1 h2 h3 h4 h5 : Bool) (i : Nat) : Bool := if i = 0 then h0 else if i = 1 then h1 else if i = 2 then h2 else if i = 3 then h3 else if i = 4 then h4 else h5
def numI (y c t m f : Int) (i : Nat) : Int := if i = 0 then y else if i = 1 then c else if i = 2 then t else if i = 3 then m else f
def fldsL (h : Nat → Bool) (n : Nat → Int) : Nat → List UInt8
  | 0 => []
  | i + 1 => fldsL h n i ++ fldL (h i) (n i)
theorem flds_len (h : Nat → Bool) (n : Nat → Int) : ∀ i, (fldsL h n i).length ≤ 22 * i
  | 0 => by simp [fldsL]
  | i + 1 => by
    have h1 := flds_len h n i
    have h2 := numT_len (n i)
    unfold fldsL fldL
    split
    · simp; omega
    · simp; omega
theorem word_len (k : Nat) : (wordL k).length ≤ 7 := by
  unfold wordL
  repeat' split
  all_goals simp
theorem es_add {W Z : List UInt8} {n : Int} : (.string (((⟨(W ++ Z).toArray⟩ : ByteArray) ++ ⟨#[32]⟩) ++ ⟨(numT n).toArray⟩) : Value) = .string ⟨(W ++ (Z ++ 32 :: numT n)).toArray⟩ := by
  have e : (⟨#[32]⟩ : ByteArray) = ⟨[(32 : UInt8)].toArray⟩ := rfl
  rw [e, ByteArray.mk_append_mk, ByteArray.mk_append_mk]; simp
theorem es_ret (X Y : List UInt8) {A : ByteArray} (h : A = ⟨Y.toArray⟩) : Ending.returned (.string ((⟨X.toArray⟩ : ByteArray) ++ A)) = .returned (.string ⟨(X ++ Y).toArray⟩) := by
  rw [h, ByteArray.mk_append_mk]; try simp
theorem onceT0 {P : Program} {c : Code} {Q : Exit → Act → World → Prop} {a : Act} {w : World} (F : World → Prop) (A : Act) (h1 : c.wp P (Exit.then (fun a' w' => a' = A ∧ F w') (fun _ _ _ => False)) a w) (h2 : ∀ w', F w' → Q .normal A w') : c.wp P Q a w :=
  wp_mono h1 (fun e a' w' h => by
    cases e with
    | normal => obtain ⟨rfl, hF⟩ := h; exact h2 w' hF
    | _ => exact False.elim h)
theorem has_row (h0 h1 h2 h3 h4 h5 : Bool) : ∀ i, i < (#[.bool h0, .bool h1, .bool h2, .bool h3, .bool h4, .bool h5] : Array Value).size → (#[.bool h0, .bool h1, .bool h2, .bool h3, .bool h4, .bool h5] : Array Value)[i]? = some (.bool (hasB h0 h1 h2 h3 h4 h5 i))
  | 0, _ => rfl
  | 1, _ => rfl
  | 2, _ => rfl
  | 3, _ => rfl
  | 4, _ => rfl
  | 5, _ => rfl
theorem num_row (y c t m f : Int) : ∀ i, i < (#[.int .i64 y, .int .i64 c, .int .i64 t, .int .i64 m, .int .i64 f] : Array Value).size → (#[.int .i64 y, .int .i64 c, .int .i64 t, .int .i64 m, .int .i64 f] : Array Value)[i]? = some (.int .i64 (numI y c t m f i))
  | 0, _ => rfl
  | 1, _ => rfl
  | 2, _ => rfl
  | 3, _ => rfl
  | 4, _ => rfl
set_option maxRecDepth 100000 in
set_option maxHeartbeats 4000000 in
theorem es_gen (k : Nat) (hk : k ≤ 11) (h0 h1 h2 h3 h4 h5 : Bool) (y c t m f : Int) (b : Bool) (w : World) (hB : evB k y c t m f b = true) (hH : ∀ w, Calls Tryz.prog 63 #[.int .i64 (k : Int)] w (hasPost h0 h1 h2 h3 h4 h5 w)) :
    Calls Tryz.prog 55 #[evV k y c t m f b] w fun e w' => e = .returned (.string ⟨(wordL k ++ fldsL (hasB h0 h1 h2 h3 h4 h5) (numI y c t m f) 5 ++ (if h5 = true then (if b = true then [32, 121, 101, 115] else [32, 110, 111]) else [])).toArray⟩) ∧ Keeps w w' := by
  have HEO := hide (evok_spec k y c t m f b)
  rw [hB] at HEO
  have HH := hide hH
  have hkA := Keeps.alloc (Keeps.refl w) (.cells (evCells k y c t m f b) 28)
  have HD : Hid (∀ w', Keeps (w.alloc (.cells (evCells k y c t m f b) 28)) w' → w'.cell? ⟨w.heap.size, 0, none⟩ = some (.int .i64 k) ∧ w'.cell? ⟨w.heap.size, 1, none⟩ = some (.int .i64 y) ∧ w'.cell? ⟨w.heap.size, 2, none⟩ = some (.int .i64 c) ∧ w'.cell? ⟨w.heap.size, 3, none⟩ = some (.int .i64 t) ∧ w'.cell? ⟨w.heap.size, 4, none⟩ = some (.int .i64 m) ∧ w'.cell? ⟨w.heap.size, 5, none⟩ = some (.int .i64 f) ∧ w'.cell? ⟨w.heap.size, 6, none⟩ = some (.bool b)) :=
    fun w' hk => ⟨hk.cell (by simp), hk.cell (by simp), hk.cell (by simp), hk.cell (by simp), hk.cell (by simp), hk.cell (by simp), hk.cell (by simp)⟩
  clear hB hH
  go_enter Tryz.func55, Tryz.ntmps55
  go_wp2_with fail
  refine (HEO.out _).mono ?_
  rintro x w1 ⟨rfl, hk1⟩
  have HK := hide (hkA.trans hk1)
  obtain ⟨c0, c1, c2, c3, c4, c5, c6⟩ := HD.out w1 hk1
  have HKA := hide hk1
  clear hk1 hkA HEO HD
  go_wp2_with fail
  have hwc : (w1.alloc (.cells wordsC 9)).cell? ⟨w1.heap.size, k, none⟩ = some (.string ⟨(wordL k).toArray⟩) := (World.rowIs_alloc w1 wordsC 9 (fun i => .string ⟨(wordL i).toArray⟩) words_row).cell (i := k) (by show k < 12; omega)
  have hk2 := Keeps.alloc (Keeps.refl w1) (.cells wordsC 9)
  have d0 := hk2.cell c0
  have lt0 := lt_of_cell c0
  apply onceT0 (fun w' => Keeps w1 w')
  · skip
    go_region_with (go_at_call 62; refine (words_k _).mono ?_; rintro x w2 ⟨rfl, rfl⟩)
    all_goals first
      | exact ⟨rfl, hk2⟩
      | exact ⟨rfl, hk2.drew⟩
  clear d0 lt0 hwc hk2
  intro w2 hk2
  have e0 := hk2.cell c0
  have e1 := hk2.cell c1
  have e2 := hk2.cell c2
  have e3 := hk2.cell c3
  have e4 := hk2.cell c4
  have e5 := hk2.cell c5
  have e6 := hk2.cell c6
  replace HK := hide (HK.out.trans hk2)
  clear c0 c1 c2 c3 c4 c5 c6 hk2 HKA
  have wl := word_len k
  obtain ⟨Wd, hWd⟩ : ∃ Wd, wordL k = Wd := ⟨_, rfl⟩
  rw [hWd] at wl ⊢
  have HWd := hide hWd
  clear hWd
  go_wp2_with fail
  refine (HH.out w2).mono ?_
  rintro x w3 ⟨rfl, rfl⟩
  have hk3 := Keeps.alloc (Keeps.refl w2) (.cells #[.bool h0, .bool h1, .bool h2, .bool h3, .bool h4, .bool h5] 4)
  have HB := hide (World.rowIs_alloc w2 #[.bool h0, .bool h1, .bool h2, .bool h3, .bool h4, .bool h5] 4 _ (has_row h0 h1 h2 h3 h4 h5))
  replace e0 := hk3.cell e0
  replace e1 := hk3.cell e1
  replace e2 := hk3.cell e2
  replace e3 := hk3.cell e3
  replace e4 := hk3.cell e4
  replace e5 := hk3.cell e5
  replace e6 := hk3.cell e6
  replace HK := hide (HK.out.trans hk3)
  clear hk3 HH
  generalize w2.alloc (.cells #[.bool h0, .bool h1, .bool h2, .bool h3, .bool h4, .bool h5] 4) = w3 at *
  generalize w2.heap.size = bH at *
  have hk4 := Keeps.alloc (Keeps.refl w3) (.cells #[.int .i64 y, .int .i64 c, .int .i64 t, .int .i64 m, .int .i64 f] 3)
  have HN := hide (World.rowIs_alloc w3 #[.int .i64 y, .int .i64 c, .int .i64 t, .int .i64 m, .int .i64 f] 3 _ (num_row y c t m f))
  have HK4 := hide hk4
  clear hk4
  have HHB : Hid (∀ i, i < 6 → w3.cell? ⟨bH, i, none⟩ = some (.bool (hasB h0 h1 h2 h3 h4 h5 i))) := fun i hi => HB.out.cell (i := i) hi
  go_wp2_with fail
  generalize w3.alloc (.cells #[.int .i64 y, .int .i64 c, .int .i64 t, .int .i64 m, .int .i64 f] 3) = w4 at *
  generalize w3.heap.size = bN at *
  have HHN : Hid (∀ i, i < 5 → w4.cell? ⟨bN, i, none⟩ = some (.int .i64 (numI y c t m f i))) := fun i hi => HN.out.cell (i := i) hi
  have hb5 : hasB h0 h1 h2 h3 h4 h5 5 = h5 := rfl
  obtain ⟨Hh, hHh⟩ : ∃ Hh, hasB h0 h1 h2 h3 h4 h5 = Hh := ⟨_, rfl⟩
  obtain ⟨Nn, hNn⟩ : ∃ Nn, numI y c t m f = Nn := ⟨_, rfl⟩
  rw [hHh] at hb5 HHB
  rw [hNn] at HHN
  have HHh := hide hHh
  have HNn := hide hNn
  clear hHh hNn
  clear HN HB
  go_loopw [3, 30] (fun o y wr => ∃ i : Nat, i ≤ 5 ∧ y = .int .i64 (i : Int) ∧ o = .string ⟨(Wd ++ fldsL Hh Nn i).toArray⟩ ∧ Hid (Keeps w4 wr)) (fun _ y _ => 5 - (intOf y).toNat)
  case atStart => exact ⟨0, by omega, rfl, by simp [fldsL], Keeps.refl _⟩
  case round =>
    obtain ⟨i, hi, rfl, rfl, HKr⟩ := hrel
    have hl1 := flds_len Hh Nn i
    by_cases hlt : i < 5
    · have n0 := HKr.out.cell (HHN.out i hlt)
      have b0 := (HK4.out.trans HKr.out).cell (HHB.out i (by omega))
      have HS : Hid (fldsL Hh Nn (i + 1) = fldsL Hh Nn i ++ fldL (Hh i) (Nn i)) := rfl
      generalize fldsL Hh Nn i = Z at *
      cases hh : Hh i
      · rw [hh] at HS b0
        go_wp2_with fail
        go_roundw
        case rel => exact ⟨i + 1, by omega, by go_num, by rw [HS.out]; simp [fldL], HKr⟩
        case measure => simp [intOf]; omega
      · rw [hh] at HS b0
        have hl3 := numT_len (Nn i)
        go_wp2_with fail
        refine (num_spec (Nn i) wr).mono ?_
        rintro x w5 ⟨rfl, hk5⟩
        have HK5 := hide (HKr.out.trans hk5)
        clear hk5 n0 b0
        go_wp2_with fail
        go_roundw
        case rel => exact ⟨i + 1, by omega, by go_num, by rw [HS.out, es_add]; rfl, HK5⟩
        case measure => simp [intOf]; omega
    · have e : i = 5 := by omega
      subst e
      have b5 := (HK4.out.trans HKr.out).cell (HHB.out 5 (by omega))
      rw [hb5] at b5
      replace e6 := (HK4.out.trans HKr.out).cell e6
      have HKz := hide (HK.out.trans (HK4.out.trans HKr.out))
      clear e0 e1 e2 e3 e4 e5
      have HF : Hid (fldsL (hasB h0 h1 h2 h3 h4 h5) (numI y c t m f) 5 = fldsL Hh Nn 5) := by show _ = _; rw [HHh.out, HNn.out]
      generalize fldsL Hh Nn 5 = Z at *
      cases h5
      · go_wp2_with fail
        go_ret
        exact ⟨by rw [HWd.out, HF.out]; simp, HKz.out⟩
      · cases b
        · go_wp2_with fail
          go_ret
          refine ⟨?_, HKz.out⟩
          rw [HWd.out, HF.out]
          have hr := es_ret (Wd ++ Z) [32, 110, 111] rfl
          simp only [Bool.false_eq_true, if_true, if_false]
          rw [List.append_assoc] at hr
          exact hr
        · go_wp2_with fail
          go_ret
          refine ⟨?_, HKz.out⟩
          rw [HWd.out, HF.out]
          have hr := es_ret (Wd ++ Z) [32, 121, 101, 115] rfl
          simp only [Bool.false_eq_true, if_true, if_false]
          rw [List.append_assoc] at hr
          exact hr
theorem es_no (k y c t m f : Int) (b : Bool) (w : World) (h : evB k y c t m f b = false) : Calls Tryz.prog 55 #[evV k y c t m f b] w fun e w' => e = .returned (.string ⟨[].toArray⟩) ∧ Keeps w w' := by
  have HEO := hide (evok_spec k y c t m f b)
  rw [h] at HEO
  have hkA := Keeps.alloc (Keeps.refl w) (.cells (evCells k y c t m f b) 28)
  go_enter Tryz.func55, Tryz.ntmps55
  go_wp2_with fail
  refine (HEO.out _).mono ?_
  rintro x w1 ⟨rfl, hk1⟩
  have HK := hide (hkA.trans hk1)
  clear hk1 hkA HEO
  go_wp2_with fail
  go_ret
  exact ⟨rfl, HK.out⟩
theorem esx_spec (k y c t m f : Int) (b : Bool) (w : World) : Calls Tryz.prog 55 #[evV k y c t m f b] w fun e w' => e = .returned (.string ⟨(etL k y c t m f b).toArray⟩) ∧ Keeps w w' := by
  unfold etL
  cases h : evB k y c t m f b
  · rw [if_neg (by simp)]
    exact es_no k y c t m f b w h
  · rw [if_pos rfl]
    obtain ⟨⟨k1, k2⟩, _⟩ := ev_bounds h
    have hk : k = 1 ∨ k = 2 ∨ k = 3 ∨ k = 4 ∨ k = 5 ∨ k = 6 ∨ k = 7 ∨ k = 8 ∨ k = 9 ∨ k = 10 ∨ k = 11 := by omega
    rcases hk with rfl | rfl | rfl | rfl | rfl | rfl | rfl | rfl | rfl | rfl | rfl
    · have hx := es_gen 1 (by decide) false false false true false false y c t m f b w h (fun w => has_1 w)
      rw [evT_1]
      simpa [wordL, fldsL, fldL, hasB, numI, sen, senN] using hx
    · have hx := es_gen 2 (by decide) false true false true true false y c t m f b w h (fun w => has_2 w)
      rw [evT_2]
      simpa [wordL, fldsL, fldL, hasB, numI, sen, senN] using hx
    · have hx := es_gen 3 (by decide) false true false false true false y c t m f b w h (fun w => has_3 w)
      rw [evT_3]
      simpa [wordL, fldsL, fldL, hasB, numI, sen, senN] using hx
    · have hx := es_gen 4 (by decide) false true false true true false y c t m f b w h (fun w => has_4 w)
      rw [evT_4]
      simpa [wordL, fldsL, fldL, hasB, numI, sen, senN] using hx
    · have hx := es_gen 5 (by decide) true true true true false true y c t m f b w h (fun w => has_5 w)
      rw [evT_5]
      simpa [wordL, fldsL, fldL, hasB, numI, sen, senN] using hx
    · have hx := es_gen 6 (by decide) true false false false false false y c t m f b w h (fun w => has_6 w)
      rw [evT_6]
      simpa [wordL, fldsL, fldL, hasB, numI, sen, senN] using hx
    · have hx := es_gen 7 (by decide) true false false false false false y c t m f b w h (fun w => has_7 w)
      rw [evT_7]
      simpa [wordL, fldsL, fldL, hasB, numI, sen, senN] using hx
    · have hx := es_gen 8 (by decide) false false false false false false y c t m f b w h (fun w => has_8 w)
      rw [evT_8]
      simpa [wordL, fldsL, fldL, hasB, numI, sen, senN] using hx
    · have hx := es_gen 9 (by decide) true true true true true false y c t m f b w h (fun w => has_9 w)
      rw [evT_9]
      simpa [wordL, fldsL, fldL, hasB, numI, sen, senN] using hx
    · have hx := es_gen 10 (by decide) true false false false false false y c t m f b w h (fun w => has_10 w)
      rw [evT_10]
      simpa [wordL, fldsL, fldL, hasB, numI, sen, senN] using hx
    · have hx := es_gen 11 (by decide) true false false false false false y c t m f b w h (fun w => has_11 w)
      rw [evT_11]
      simpa [wordL, fldsL, fldL, hasB, numI, sen, senN] using hx
end Go.Proofs.YtkgpoghoilffhaaGreatDoor
namespace Go.Proofs.YtkgpoghoilffhaaGreatDoor
open Go.RowKit Go.Deep
set_option linter.unusedVariables false

theorem infoByte : (Tryz.prog.info? 5).map (fun i => (i.zero, i.size, i.bytes)) = some (some (.int .u8 0), 1, 1) := by kernel_rfl
end Go.Proofs.YtkgpoghoilffhaaGreatDoor
namespace Go.Proofs.YtkgpoghoilffhaaGreatDoor
open Go.RowKit
set_option linter.unusedVariables false
set_option linter.unusedSimpArgs false
set_option maxRecDepth 10000
theorem underStrs : Tryz.prog.underlying 46 = some (.slice 9) := Tryz.underlying46
theorem infoStr : (Tryz.prog.info? 9).map (fun i => (i.zero, i.size, i.bytes)) = some (some (.string ByteArray.empty), 1, 16) := by kernel_rfl
def strs (ws : List ByteArray) : List Value := ws.map .string
theorem app_str {ops : Array Oper} {rest : List Oper} {o : Oper} {a : Act} {Q : Exit → Act → World → Prop} {wr : World} (hgd : o.guard = none) (s x : Operand)
    (ho : o.op = .call { callee := .builtin .append, args := #[s, x], argTypes := #[46, 46] }) (base : Nat) (v : Value) (M : List ByteArray) (y : ByteArray) (hs : a.eval s = v)
    (hx : a.eval x = .slice (some ⟨wr.heap.size, 0, none⟩) 1 1) (hown : wr.ownsRow base 9 1 v M.length (strs M)) (hM : M.length ≤ 4194304) (hbase : base ≤ wr.heap.size)
    (h : ∀ v' w', w'.ownsRow base 9 1 v' (M ++ [y]).length (strs (M ++ [y])) → (wr.alloc (.cells #[.string y] 9)).grownBy w' v.ownBlock → wpList Tryz.prog ops Q rest (a.put o.dst v') w') :
    wpList Tryz.prog ops Q (o :: rest) a (wr.alloc (.cells #[.string y] 9)) := by
  have hI := infoStr
  cases hi : Tryz.prog.info? 9 with
  | none => rw [hi] at hI; simp at hI
  | some i =>
    rw [hi] at hI
    simp at hI
    obtain ⟨hz, hsz, hby⟩ := hI
    refine wpList_append_own _ hgd s x 46 ho base 9 i _ 1 16 underStrs hi hz hsz hby rfl (by decide) v M.length (strs M) hs (hown.alloc _) ⟨wr.heap.size, 0, none⟩ 1 1 [.string y] hx rfl ?_ ?_ ?_ ?_ ?_ ?_
    · intro j u hj
      match j, hj with
      | 0, hj => simp at hj; subst hj; simp [Addr.add]
      | n + 1, hj => simp at hj
    · intro u hu
      simp at hu
      rcases hu with rfl <;> rfl
    · simp only [maxLen]; omega
    · omega
    · simp; omega
    · intro v' w' h1 h2 h3
      refine h v' w' ?_ h2
      unfold strs at h1 ⊢
      rw [List.map_append, List.length_append]; exact h1
/-- Words, each with a blank behind it. -/
def pre (ws : List (List UInt8)) : List UInt8 := ws.flatMap (· ++ [32])
theorem pre_snoc (ws : List (List UInt8)) (x : List UInt8) : pre (ws ++ [x]) = pre ws ++ x ++ [32] := by simp [pre]
theorem join_pre : ∀ (ws : List (List UInt8)) (x : List UInt8), join (ws ++ [x]) = pre ws ++ x
  | [], x => by simp [join, pre]
  | [w], x => by simp [join, pre]
  | w :: v :: r, x => by
    have ih := join_pre (v :: r) x
    have e : (w :: v :: r) ++ [x] = w :: v :: (r ++ [x]) := rfl
    rw [e, join_cons]
    have e2 : v :: (r ++ [x]) = (v :: r) ++ [x] := rfl
    rw [e2, ih]
    simp [pre]
def dl (x : ByteArray) : List UInt8 := x.data.toList
/-- What a text's parts are. -/
structure Spl (s : ByteArray) (ws : List ByteArray) : Prop where
  ne : ws ≠ []
  joined : join (ws.map dl) = dl s
  no : ∀ x ∈ ws, (32 : UInt8) ∉ dl x
  size : ∀ x ∈ ws, x.size ≤ s.size
theorem Spl.eq {s : ByteArray} {ws : List ByteArray} (h : Spl s ws) {W : List (List UInt8)} (hW : W ≠ []) (hn : ∀ w ∈ W, (32 : UInt8) ∉ w) (hj : join W = dl s) : ws.map dl = W := by
  have h1 := split_join (ws.map dl) (ws.length + W.length) (by simpa using h.ne) (by intro w hw; obtain ⟨x, hx, rfl⟩ := List.mem_map.1 hw; exact h.no x hx) (by simp; omega)
  have h2 := split_join W (ws.length + W.length) hW hn (by omega)
  rw [h.joined] at h1
  rw [hj] at h2
  exact h1.symm.trans h2
/-- Where the cutting stands behind i bytes. -/
structure At (s : ByteArray) (i frm : Nat) (ws : List ByteArray) : Prop where
  le : frm ≤ i
  done : pre (ws.map dl) = (dl s).take frm
  clear : ∀ j, frm ≤ j → j < i → (dl s)[j]? ≠ some 32
  no : ∀ x ∈ ws, (32 : UInt8) ∉ dl x
  size : ∀ x ∈ ws, x.size ≤ s.size
  len : ws.length ≤ i
theorem World.ownsRow.from' {w : World} {base n : Nat} {e : TypeId} {sz : Nat} {v : Value} {xs : List Value} (h : w.ownsRow base e sz v n xs) : ∀ k, v.ownBlock = some k → base ≤ k := fun k hk => (h.lt k hk).1
theorem dl_extract (s : ByteArray) (a b : Nat) : dl (s.extract a b) = ((dl s).take b).drop a := by
  unfold dl
  rw [ByteArray.data_extract]
  simp [Array.toList_extract, List.drop_take]
theorem piece_no {s : ByteArray} {frm i : Nat} (hc : ∀ j, frm ≤ j → j < i → (dl s)[j]? ≠ some 32) : (32 : UInt8) ∉ dl (s.extract frm i) := by
  rw [dl_extract]
  intro h
  obtain ⟨j, hj⟩ := List.mem_iff_getElem?.1 h
  rw [List.getElem?_drop, List.getElem?_take] at hj
  split at hj
  · exact hc (frm + j) (by omega) (by omega) hj
  · cases hj
theorem At.miss {s : ByteArray} {i frm : Nat} {ws : List ByteArray} (h : At s i frm ws) (hlt : i < s.size) (hb : (s[i]'hlt).toNat ≠ 32) : At s (i + 1) frm ws := by
  refine ⟨by have := h.le; omega, h.done, ?_, h.no, h.size, by have := h.len; omega⟩
  intro j h1 h2
  by_cases e : j = i
  · subst e
    intro e2
    apply hb
    have e3 : (dl s)[j]? = some (s[j]'hlt) := by
      unfold dl
      rw [Array.getElem?_toList, Array.getElem?_eq_getElem hlt]
      rfl
    rw [e3] at e2
    injection e2 with e2
    rw [e2]; rfl
  · exact h.clear j h1 (by omega)
theorem At.hit {s : ByteArray} {i frm : Nat} {ws : List ByteArray} (h : At s i frm ws) (hlt : i < s.size) (hb : (s[i]'hlt).toNat = 32) : At s (i + 1) (i + 1) (ws ++ [s.extract frm i]) := by
  have e3 : (dl s)[i]? = some 32 := by
    unfold dl
    rw [Array.getElem?_toList, Array.getElem?_eq_getElem hlt]
    exact congrArg some (UInt8.toNat_inj.1 hb)
  refine ⟨by omega, ?_, by intro j h1 h2; omega, ?_, ?_, by have := h.len; simp; omega⟩
  · rw [List.map_append, List.map_cons, List.map_nil, pre_snoc, h.done, dl_extract]
    have hl := h.le
    rw [List.take_add_one, e3]
    have : List.take frm (dl s) = (List.take i (dl s)).take frm := by rw [List.take_take, Nat.min_eq_left hl]
    rw [this, List.take_append_drop]
    rfl
  · intro x hx
    rcases List.mem_append.1 hx with hx | hx
    · exact h.no x hx
    · rw [List.mem_singleton.1 hx]; exact piece_no h.clear
  · intro x hx
    rcases List.mem_append.1 hx with hx | hx
    · exact h.size x hx
    · rw [List.mem_singleton.1 hx, ByteArray.size_extract]; omega
theorem At.last {s : ByteArray} {frm : Nat} {ws : List ByteArray} (h : At s s.size frm ws) : Spl s (ws ++ [s.extract frm s.size]) := by
  refine ⟨by simp, ?_, ?_, ?_⟩
  · rw [List.map_append, List.map_cons, List.map_nil, join_pre, h.done, dl_extract]
    have e : (dl s).take s.size = dl s := List.take_of_length_le (by unfold dl; rw [Array.length_toList]; exact Nat.le_refl _)
    rw [e, List.take_append_drop]
  · intro x hx
    rcases List.mem_append.1 hx with hx | hx
    · exact h.no x hx
    · rw [List.mem_singleton.1 hx]; exact piece_no h.clear
  · intro x hx
    rcases List.mem_append.1 hx with hx | hx
    · exact h.size x hx
    · rw [List.mem_singleton.1 hx, ByteArray.size_extract]; omega
set_option maxRecDepth 100000 in
set_option maxHeartbeats 4000000 in
theorem parts_k (s : ByteArray) (w : World) (hs : s.size ≤ 1048576) :
    Calls Tryz.prog 33 #[.string s, .int .u8 32] w fun e w' => ∃ v ws, e = .returned v ∧ w'.ownsRow w.heap.size 9 1 v ws.length (strs ws) ∧ Spl s ws ∧ Keeps w w' := by
  have hk0 := Keeps.alloc (Keeps.refl w) (.cells #[] 9)
  have HO0 : Hid ((w.alloc (.cells #[] 9)).ownsRow w.heap.size 9 1 (.slice (some ⟨w.heap.size, 0, none⟩) 0 0) 0 []) := World.ownsRow_made (base := w.heap.size) (e := 9) (size := 1) w #[] 0 (Nat.le_refl _) (by decide) rfl
  go_enter Tryz.func33, Tryz.ntmps33
  go_wp2_with fail
  go_loopw [5, 6, 7] (fun o fr y wr => ∃ (i frm : Nat) (ws : List ByteArray), i ≤ s.size ∧ y = .int .i64 (i : Int) ∧ fr = .int .i64 (frm : Int) ∧ Hid (wr.ownsRow w.heap.size 9 1 o ws.length (strs ws)) ∧ Hid (At s i frm ws) ∧ Hid (Keeps w wr)) (fun _ _ y _ => s.size - (intOf y).toNat)
  case atStart => exact ⟨0, 0, [], by omega, rfl, rfl, HO0, ⟨by omega, by simp [pre], by intro j h1 h2; omega, by simp, by simp, by simp⟩, hk0⟩
  case round =>
    clear HO0 hk0
    obtain ⟨i, frm, ws, hi, rfl, rfl, HO, HA, HK⟩ := hrel
    have hfi := HA.out.le
    have hln := HA.out.len
    by_cases hlt : i < s.size
    · have hsz := HK.out.size
      by_cases hb : ((s[i]'hlt).toNat : Int) = 32
      · have HKA := hide (Keeps.alloc HK.out (.cells #[.string (s.extract frm i)] 9))
        have HF := hide (World.ownsRow.from' HO.out)
        go_wp2_with (at_builtin; refine app_str rfl (.tmp 20) (.tmp 25) rfl w.heap.size _ ws (s.extract frm i) rfl rfl HO.out (by omega) hsz ?_; intro v' w' ho hg)
        go_roundw
        case rel => exact ⟨i + 1, i + 1, ws ++ [s.extract frm i], by omega, by go_num, by go_num, ho, HA.out.hit hlt (by omega), Keeps.grown HKA.out hg HF.out⟩
        case measure => simp [intOf]; omega
      · go_wp2_with fail
        go_roundw
        case rel => exact ⟨i + 1, frm, ws, by omega, by go_num, rfl, HO, HA.out.miss hlt (by omega), HK⟩
        case measure => simp [intOf]; omega
    · have e : i = s.size := by omega
      subst e
      have hsz := HK.out.size
      have HKA := hide (Keeps.alloc HK.out (.cells #[.string (s.extract frm s.size)] 9))
      have HF := hide (World.ownsRow.from' HO.out)
      go_wp2_with (at_builtin; refine app_str rfl (.tmp 29) (.tmp 33) rfl w.heap.size _ ws (s.extract frm s.size) rfl rfl HO.out (by omega) hsz ?_; intro v' w' ho hg)
      go_ret
      exact ⟨v', ws ++ [s.extract frm s.size], rfl, ho, HA.out.last, Keeps.grown HKA.out hg HF.out⟩
end Go.Proofs.YtkgpoghoilffhaaGreatDoor
