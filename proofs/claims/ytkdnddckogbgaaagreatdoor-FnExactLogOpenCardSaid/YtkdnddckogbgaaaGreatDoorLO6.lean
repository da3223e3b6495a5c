/- Texts of the verifier, joined: Cpy, CpC, DC, DCi, Int0, CpW. -/
import Derived.Test.YtkdnddckogbgaaaGreatDoorLO5
import Derived.Maps.AppendAt
import Derived.Lib.AppendZeros
import Derived.Test.YtkdnddckogbgaaaGreatDoorLO2
import Derived.Deep.DrawnRows
namespace Go.Proofs.YtkdnddckogbgaaaGreatDoor
open Go.RowKit Go.Deep
set_option linter.unusedVariables false
set_option maxRecDepth 10000

/-- A list of structs while it is made: its row, the lists inside, no block shared. -/
structure LG {α : Type} (T : TypeId) (sz : Nat) (f : α → List Value) (sg : α → Seg) (w0 w : World) (v : Value) (nb : List α) : Prop where
  row : w.ownsRow w0.heap.size T sz v nb.length (nb.flatMap f)
  inner : Born w0 w (nb.map sg)
  apart : ∀ g, v.ownBlock = some g → g ∉ fp (nb.map sg)
  keeps : Keeps w0 w
section
variable {α : Type} {T : TypeId} {sz : Nat} {f : α → List Value} {sg : α → Seg} {w0 w w1 w2 : World} {v v' : Value} {nb : List α}
theorem owns_kept {base n : Nat} {e : TypeId} {xs : List Value} (hk : Keeps w w1) (h : w.ownsRow base e sz v n xs) : w1.ownsRow base e sz v n xs := by
  refine ⟨h.1, ?_⟩
  rcases h.2 with h' | ⟨g, cap, cur, rfl, hb, hg, rest⟩
  · exact .inl h'
  · refine .inr ⟨g, cap, cur, rfl, hb, ?_, rest⟩
    rw [Below.block hk g (Array.getElem?_eq_some_iff.1 hg).1]; exact hg
theorem LG.kept (h : LG T sz f sg w0 w v nb) (hk : Keeps w w1) : LG T sz f sg w0 w1 v nb :=
  ⟨owns_kept hk h.row, h.inner.kept hk, h.apart, h.keeps.trans hk⟩
theorem LG.snoc (h : LG T sz f sg w0 w v nb) (hk : Keeps w w1) {x : α} (hx : Own w1 [sg x]) (hn : ∀ b ∈ fp [sg x], w.heap.size ≤ b) {o : Obj} (hg : (w1.alloc o).grownBy w2 v.ownBlock)
    (hr : w2.ownsRow w0.heap.size T sz v' (nb.length + 1) (nb.flatMap f ++ f x)) (hv : v'.ownBlock = v.ownBlock ∨ v'.ownBlock = some (w1.alloc o).heap.size) : LG T sz f sg w0 w2 v' (nb ++ [x]) := by
  have hka : Keeps w1 (w1.alloc o) := Keeps.alloc (Keeps.refl _) _
  have hs : (w1.alloc o).heap.size = w1.heap.size + 1 := by rw [World.size_alloc]
  have hI := (h.inner.kept hk).kept hka
  have hX := hx.kept hka
  have ht : Turn v.ownBlock.toList (w1.alloc o) w2 := Turn.of_grown hg (fun k hk' => by rw [hk']; simp)
  have hrow : ∀ g, v.ownBlock = some g → w0.heap.size ≤ g ∧ g < w.heap.size := fun g hg' => h.row.lt g hg'
  have hIT : Born w0 w2 (nb.map sg) := hI.turn ht (fun b hb hb' => by
    have : v.ownBlock = some b := by simpa using hb'
    exact h.apart b this hb)
  have hXT : Own w2 [sg x] := hX.turn ht (fun b hb hb' => by
    have e : v.ownBlock = some b := by simpa using hb'
    have h1 := hrow b e
    have h2 := hn b hb
    omega)
  refine ⟨?_, ⟨?_, ?_⟩, ?_, ?_⟩
  · rw [List.length_append, List.flatMap_append, List.flatMap_singleton]; exact hr
  · rw [List.map_append]
    refine hIT.toOwn.append hXT (fun b hb hb' => ?_)
    have h1 := h.inner.mem.lt b hb
    have h2 := hn b hb'
    omega
  · intro b hb
    rw [List.map_append, fp_append] at hb
    rcases List.mem_append.1 hb with hb | hb
    · exact h.inner.new b hb
    · have h1 := hn b hb
      have h2 := h.keeps.size
      omega
  · intro g hg' hb
    rw [List.map_append, fp_append] at hb
    rcases hv with hv | hv
    · rw [hv] at hg'
      rcases List.mem_append.1 hb with hb | hb
      · exact h.apart g hg' hb
      · have h1 := hn g hb
        have h2 := hrow g hg'
        omega
    · rw [hv] at hg'
      have hg2 := Option.some.inj hg'
      rcases List.mem_append.1 hb with hb | hb
      · have h1 := h.inner.mem.lt g hb
        have h2 := hk.size
        omega
      · have h1 := hx.mem.lt g hb
        omega
  · exact Keeps.grown ((h.keeps.trans hk).trans hka) hg (fun g hg' => (hrow g hg').1)
end
/-- The list of cells is made. -/
theorem LG.cells {w0 w : World} {v : Value} {nb : List Bs} (h : LG 93 1 Bs.cells Bs.seg w0 w v nb) :
    ∃ (a : Option Addr) (cap : Nat), v = .slice a nb.length cap ∧ (a = none → cap = 0) ∧ Born w0 w ((a, ccells nb) :: nb.map Bs.seg) := by
  obtain ⟨a, cap, rfl, _, _, hn, ho, hb⟩ := Own.of_owns h.row
  refine ⟨a, cap, rfl, hn, ⟨Own.append (S := [_]) ho h.inner.toOwn (fun b hb1 hb2 => ?_), ?_⟩⟩
  · have : Value.ownBlock (.slice a nb.length cap) = some b := by
      rw [fp_one] at hb1
      unfold fpS at hb1
      split at hb1
      · simp at hb1
      · cases a with
        | none => simp at hb1
        | some p => simp at hb1; simp [Value.ownBlock, hb1]
    exact h.apart b this hb2
  · intro b hb'
    rw [fp_cons] at hb'
    rcases List.mem_append.1 hb' with hb' | hb'
    · exact hb b (by rw [fp_one]; exact hb')
    · exact h.inner.new b hb'
theorem LG.writes {w0 w : World} {v : Value} {nb : List Wr} (h : LG 86 2 Wr.cells Wr.seg w0 w v nb) :
    ∃ (a : Option Addr) (cap : Nat), v = .slice a nb.length cap ∧ (a = none → cap = 0) ∧ Born w0 w ((a, wcells nb) :: nb.map Wr.seg) := by
  obtain ⟨a, cap, rfl, _, _, hn, ho, hb⟩ := Own.of_owns h.row
  refine ⟨a, cap, rfl, hn, ⟨Own.append (S := [_]) ho h.inner.toOwn (fun b hb1 hb2 => ?_), ?_⟩⟩
  · have : Value.ownBlock (.slice a nb.length cap) = some b := by
      rw [fp_one] at hb1
      unfold fpS at hb1
      split at hb1
      · simp at hb1
      · cases a with
        | none => simp at hb1
        | some p => simp at hb1; simp [Value.ownBlock, hb1]
    exact h.apart b this hb2
  · intro b hb'
    rw [fp_cons] at hb'
    rcases List.mem_append.1 hb' with hb' | hb'
    · exact hb b (by rw [fp_one]; exact hb')
    · exact h.inner.new b hb'
theorem LG.nil {α : Type} (T : TypeId) (sz : Nat) (f : α → List Value) (sg : α → Seg) {w0 w : World} {v : Value} (h : w.ownsRow w0.heap.size T sz v 0 []) (hk : Keeps w0 w) : LG T sz f sg w0 w v [] :=
  ⟨h, Born.nil _ _, fun g _ hb => by simp [fp] at hb, hk⟩
/-- The run of an append of one struct. -/
theorem run_cell (w : World) (base : Nat) (v : Value) (n : Nat) (xs : List Value) (x : Value) (hx : x.oneCell' = true) (ty : TypeId) (h : w.ownsRow base 93 1 v n xs) (hn : n ≤ 1048576) (hb : base ≤ w.heap.size) :
    ∃ v' w', (Builtin.append_ #[23, 23] ty #[v, .slice (some ⟨w.heap.size, 0, none⟩) 1 1]).run Tryz.prog (w.alloc (.cells #[x] 93)) = .ok v' w' ∧ w'.ownsRow base 93 1 v' (n + 1) (xs ++ [x]) ∧ (w.alloc (.cells #[x] 93)).grownBy w' v.ownBlock ∧ (v'.ownBlock = v.ownBlock ∨ v'.ownBlock = some (w.alloc (.cells #[x] 93)).heap.size) := by
  have hI := infoCell
  cases hi : Tryz.prog.info? 93 with
  | none => rw [hi] at hI; simp at hI
  | some i =>
    rw [hi] at hI
    simp at hI
    obtain ⟨hz, hsz, hby⟩ := hI
    obtain ⟨v', w', h1, h2, h3, _, h5⟩ := run_append_own_at (P := Tryz.prog) (w.alloc (.cells #[x] 93)) base 23 ty 93 i _ 1 24 underCells hi hz hsz hby rfl (by decide) v n xs (h.alloc _) ⟨w.heap.size, 0, none⟩ 1 1 [x] rfl (cell_one_new w x _) (by intro u hu; rw [List.mem_singleton.1 hu]; exact hx) (by simp only [maxLen]; omega) (by omega) (by simp; omega)
    exact ⟨v', w', h1, h2, h3, h5⟩
theorem cell_two_new (w : World) (x y : Value) (t : TypeId) : ∀ j u, [x, y][j]? = some u → (w.alloc (.cells #[x, y] t)).cell? ((⟨w.heap.size, 0, none⟩ : Addr).add j) = some u := by
  intro j u hj
  match j, hj with
  | 0, hj => simp at hj; subst hj; simp [Addr.add]
  | 1, hj => simp at hj; subst hj; simp [Addr.add]
  | n + 2, hj => simp at hj
theorem run_write (w : World) (base : Nat) (v : Value) (n : Nat) (xs : List Value) (x y : Value) (hx : x.oneCell' = true) (hy : y.oneCell' = true) (ty : TypeId) (h : w.ownsRow base 86 2 v n xs) (hn : n ≤ 1048576) (hb : base ≤ w.heap.size) :
    ∃ v' w', (Builtin.append_ #[24, 24] ty #[v, .slice (some ⟨w.heap.size, 0, none⟩) 1 1]).run Tryz.prog (w.alloc (.cells #[x, y] 86)) = .ok v' w' ∧ w'.ownsRow base 86 2 v' (n + 1) (xs ++ [x, y]) ∧ (w.alloc (.cells #[x, y] 86)).grownBy w' v.ownBlock ∧ (v'.ownBlock = v.ownBlock ∨ v'.ownBlock = some (w.alloc (.cells #[x, y] 86)).heap.size) := by
  have hI := infoWrite
  cases hi : Tryz.prog.info? 86 with
  | none => rw [hi] at hI; simp at hI
  | some i =>
    rw [hi] at hI
    simp at hI
    obtain ⟨hz, hsz, hby⟩ := hI
    obtain ⟨v', w', h1, h2, h3, _, h5⟩ := run_append_own_at (P := Tryz.prog) (w.alloc (.cells #[x, y] 86)) base 24 ty 86 i _ 2 32 underWrites hi hz hsz hby rfl (by decide) v n xs (h.alloc _) ⟨w.heap.size, 0, none⟩ 1 1 [x, y] rfl (cell_two_new w x y _) (by intro u hu; simp at hu; rcases hu with rfl | rfl <;> assumption) (by simp only [maxLen]; omega) (by omega) (by simp; omega)
    exact ⟨v', w', h1, h2, h3, h5⟩
end Go.Proofs.YtkdnddckogbgaaaGreatDoor
namespace Go.Proofs.YtkdnddckogbgaaaGreatDoor
open Go.RowKit Go.Deep
set_option linter.unusedVariables false
set_option maxRecDepth 10000

theorem make_cells0 (n : Nat) (hn : n ≤ 1048576) (w : World) : (Instr.makeSlice 23 (.int .i64 0) (.int .i64 (n : Int))).run Tryz.prog w = .ok (.slice (some ⟨w.heap.size, 0, none⟩) 0 n) (w.alloc (.cells (madeCells #[.slice none 0 0] n) 93)) := by
  have hI := infoCell
  cases hi : Tryz.prog.info? 93 with
  | none => rw [hi] at hI; simp at hI
  | some i =>
    rw [hi] at hI
    simp at hI
    obtain ⟨hz, hs, hb⟩ := hI
    have h := run_make (P := Tryz.prog) w 23 93 i _ underCells hi hz .i64 .i64 0 n (by omega) (by omega) (by rw [hb]; omega) (by omega)
    rw [hs] at h
    simpa [Value.cells] using h
set_option maxHeartbeats 2000000 in
theorem copyCells_k (a : Option Addr) (cap : Nat) (cs : List Bs) (w : World) (hc : Cells w a (ccells cs)) (hm : Mem w (cs.map Bs.seg)) (hn : ∀ b ∈ cs, b.fit) (hl : cs.length ≤ 1048576) (ht : ∀ b ∈ cs, b.L.length ≤ 4194304) :
    Calls Tryz.prog 46 #[.slice a cs.length cap] w fun e w' => ∃ v nb, e = .returned v ∧ nb.map Bs.L = cs.map Bs.L ∧ (∀ b ∈ nb, b.fit) ∧ LG 93 1 Bs.cells Bs.seg w w' v nb := by
  have HC := hide hc
  have HM := hide hm
  have HN := hide hn
  have HT := hide ht
  clear hc hm hn ht
  have hmk := make_cells0 cs.length hl
  have HLG : Hid (LG 93 1 Bs.cells Bs.seg w (w.alloc (.cells (madeCells #[.slice none 0 0] cs.length) 93)) (.slice (some ⟨w.heap.size, 0, none⟩) 0 cs.length) []) :=
    LG.nil _ _ _ _ (World.ownsRow_made w _ _ (Nat.le_refl _) (by simp only [maxLen]; omega) (by rw [size_madeCells]; simp)) (Keeps.alloc (Keeps.refl _) _)
  go_enter Tryz.func46, Tryz.ntmps46
  go_wp2_with fail
  clear hmk
  generalize w.alloc (.cells (madeCells #[.slice none 0 0] cs.length) 93) = W0 at *
  go_loopw [3, 11] (fun x y wr => ∃ (k : Nat) (nb : List Bs), k ≤ cs.length ∧ nb.length = k ∧ y = .int .i64 (k : Int) ∧ Hid (nb.map Bs.L = (cs.take k).map Bs.L) ∧ Hid (∀ b ∈ nb, b.fit) ∧ Hid (LG 93 1 Bs.cells Bs.seg w wr x nb)) (fun _ y _ => cs.length - (intOf y).toNat)
  case atStart => exact ⟨0, [], by omega, rfl, rfl, rfl, fun b hb => absurd hb (by simp), HLG⟩
  case round =>
    clear HLG
    obtain ⟨k, nb, hk, rfl, rfl, HD, HNb, HG⟩ := hrel
    by_cases hlt : nb.length < cs.length
    · have HK := hide HG.out.keeps
      obtain ⟨b, off, ea, c0⟩ := cell1 (HC.out.kept HK.out) nb.length hlt
      subst ea
      have HMk : Hid (Cells wr cs[nb.length].a (bys cs[nb.length].L)) := (mem_seg HM.out nb.length hlt).kept HK.out
      have HTk := hide (HT.out _ (List.getElem_mem hlt))
      have HNk := hide (HN.out _ (List.getElem_mem hlt)).1
      have HDk : Hid ((cs.take (nb.length + 1)).map Bs.L = (cs.take nb.length).map Bs.L ++ [cs[nb.length].L]) := by show _ = _; rw [List.take_succ_eq_append_getElem hlt, List.map_append]; rfl
      generalize cs[nb.length] = c at *
      obtain ⟨xa, xc, xL⟩ := c
      dsimp only [Bs.v] at c0 HMk HTk HNk HDk
      have HKa := hide (Keeps.alloc (Keeps.refl wr) (.cells #[.slice xa xL.length xc] 93))
      have HCl := hide (clone_k xa xc xL _ (HMk.out.kept HKa.out) HNk.out HTk.out)
      go_wp2_with (first
        | (go_at_call 84; refine (unhide HCl).mono ?_; rintro x w1 ⟨v1, rfl, ho1, hk1⟩; have HK1 := hide (HKa.out.trans hk1); have HO1 := hide (OwnsB.older ho1 HKa.out.size); obtain ⟨a1, c1, rfl, hn1, hb1⟩ := Born.of_owns HO1.out; have HB1 := hide hb1; have HN1 := hide hn1; obtain ⟨v2, w2, hr2, ho2, hg2, hv2⟩ := run_cell w1 w.heap.size u3 nb.length (ccells nb) (.slice a1 xL.length c1) rfl 23 (owns_kept HK1.out HG.out.row) (by omega) (HK.out.trans HK1.out).size; have HR2 := hide hr2; have HS2 := hide (HG.out.snoc HK1.out (x := Bs.mk a1 c1 xL) hb1.toOwn hb1.new hg2 ho2 hv2); clear hk1 ho1 hb1 hn1 hr2 ho2 hg2 hv2)
        | (at_builtin; refine Lib.wpList_append_run _ rfl (.tmp 15) (.tmp 20) _ _ rfl _ _ rfl rfl v2 w2 HR2.out ?_))
      go_roundw
      case rel =>
        refine ⟨nb.length + 1, nb ++ [Bs.mk a1 c1 xL], by omega, by simp, by go_num, ?_, ?_, HS2⟩
        · show _ = _
          rw [HDk.out, ← HD.out]; simp
        · intro b hb
          rcases List.mem_append.1 hb with hb | hb
          · exact HNb.out b hb
          · rw [List.mem_singleton.1 hb]; exact HN1.out
      case measure => simp [intOf]; omega
    · have e : nb.length = cs.length := by omega
      go_wp2_with fail
      go_ret
      exact ⟨_, nb, rfl, by rw [HD.out, e, List.take_length], HNb.out, HG.out⟩
end Go.Proofs.YtkdnddckogbgaaaGreatDoor
namespace Go.Proofs.YtkdnddckogbgaaaGreatDoor
open Go.RowKit Go.Deep
set_option linter.unusedVariables false
set_option maxRecDepth 10000

/-- A write comes to its cell: its first n bytes. -/
def landL (old new : List UInt8) (n : Nat) : List UInt8 := new.take n ++ (fullL old).drop n
def landM (C : List (List UInt8)) (x : Int × List UInt8) (n : Nat) : List (List UInt8) := if n = 0 then C else C.set x.1.toNat (landL (C.getD x.1.toNat []) x.2 n)
/-- How many bytes come of write i. -/
def keepN (K : List Int) (i : Nat) : Nat := match K[i]? with | none => 0 | some k => if k < 0 then 0 else if 128 < k then 128 else k.toNat
def crashTo (C : List (List UInt8)) (D : List (Int × List UInt8)) (f : Nat → Nat) : Nat → List (List UInt8)
  | 0 => C
  | k + 1 => match D[k]? with | none => crashTo C D f k | some x => landM (crashTo C D f k) x (f k)
def crashM (m : DkM) (f : Nat → Nat) : DkM := if dokM m = true then ⟨crashTo m.cells m.dirty f m.dirty.length, []⟩ else noneM
theorem landM_len (C : List (List UInt8)) (x : Int × List UInt8) (n : Nat) : (landM C x n).length = C.length := by unfold landM; split <;> simp
theorem crashTo_len (C : List (List UInt8)) (D : List (Int × List UInt8)) (f : Nat → Nat) : ∀ k, (crashTo C D f k).length = C.length
  | 0 => rfl
  | k + 1 => by
    simp only [crashTo]
    split
    · exact crashTo_len C D f k
    · rw [landM_len]; exact crashTo_len C D f k
theorem landL_len {old new : List UInt8} {n : Nat} (ho : old.length = 0 ∨ old.length = 128) (hn : new.length = 128) (h : n ≤ 128) : (landL old new n).length = 128 := by
  have hf : (fullL old).length = 128 := by
    unfold fullL
    split
    · simp
    · rename_i h0
      rcases ho with ho | ho
      · exact absurd (List.length_eq_zero_iff.1 ho) h0
      · exact ho
  unfold landL
  rw [List.length_append, List.length_take, List.length_drop, hf, hn]; omega
theorem keepN_le (K : List Int) (i : Nat) : keepN K i ≤ 128 := by
  unfold keepN
  split
  · omega
  · split
    · omega
    · split
      · omega
      · omega
def okC (C : List (List UInt8)) : Prop := ∀ L ∈ C, L.length = 0 ∨ L.length = 128
theorem landM_ok {C : List (List UInt8)} {x : Int × List UInt8} {n : Nat} (h : okC C) (hx : x.2.length = 128) (h0 : 0 ≤ x.1) (h1 : x.1 < C.length) (hn : n ≤ 128) : okC (landM C x n) := by
  unfold landM
  split
  · exact h
  · intro L hL
    rcases List.mem_or_eq_of_mem_set hL with hL | rfl
    · exact h L hL
    · refine Or.inr (landL_len ?_ hx hn)
      rw [List.getD_eq_getElem?_getD, List.getElem?_eq_getElem (show x.1.toNat < C.length by omega)]
      exact h _ (List.getElem_mem _)
theorem crashTo_ok {m : DkM} (h : dokM m = true) {f : Nat → Nat} (hf : ∀ i, f i ≤ 128) : ∀ k, okC (crashTo m.cells m.dirty f k)
  | 0 => fun L hL => dokM_cell h hL
  | k + 1 => by
    simp only [crashTo]
    split
    · exact crashTo_ok h hf k
    · rename_i x hx
      obtain ⟨h1, h2, h3⟩ := dokM_dirty h (List.mem_of_getElem? hx)
      exact landM_ok (crashTo_ok h hf k) h3 h1 (by rw [crashTo_len]; exact h2) (hf k)
theorem crash_dok {m : DkM} (h : dokM m = true) {f : Nat → Nat} (hf : ∀ i, f i ≤ 128) (k : Nat) : dokM ⟨crashTo m.cells m.dirty f k, []⟩ = true := by
  obtain ⟨h1, h2, _⟩ := dokM_len h
  have ho := crashTo_ok h hf k
  unfold dokM
  simp only [crashTo_len, List.length_nil, List.all_nil, Bool.and_true]
  rw [decide_eq_true h1, decide_eq_true h2]
  simp only [Bool.true_and, Nat.zero_le, decide_true]
  rw [List.all_eq_true]
  intro L hL
  rcases ho L hL with e | e <;> simp [e]
section
variable {w0 w : World} {v : Value} {nb : List Bs}
theorem ccells_set (nb : List Bs) (j : Nat) (x : Bs) : ccells (nb.set j x) = (ccells nb).set j x.v := by
  induction nb generalizing j with
  | nil => simp [ccells]
  | cons b t ih =>
    cases j with
    | zero => simp [ccells, Bs.cells]
    | succ j =>
      have := ih j
      simp only [ccells, List.set_cons_succ, List.flatMap_cons, Bs.cells, List.singleton_append] at this ⊢
      rw [this]
/-- One cell of a list of cells gets a new list of bytes. -/
theorem LG.upd (h : LG 93 1 Bs.cells Bs.seg w0 w v nb) {j g : Nat} (hj : j < nb.length) (hg : v.ownBlock = some g) {x : Bs} (hx : Own w [x.seg]) (hn : ∀ b ∈ fp [x.seg], w0.heap.size ≤ b ∧ b ≠ g ∧ b ∉ fp (nb.map Bs.seg)) : LG 93 1 Bs.cells Bs.seg w0 (w.setCell ⟨g, j, none⟩ x.v) v (nb.set j x) := by
  have ht : Turn [g] w (w.setCell ⟨g, j, none⟩ x.v) := Turn.set (by simp) _
  have hw0 := (h.row.lt g hg).1
  have e : nb.map Bs.seg = (nb.take j).map Bs.seg ++ nb[j].seg :: (nb.drop (j + 1)).map Bs.seg := by
    rw [← List.map_cons, ← List.map_append, ← List.drop_eq_getElem_cons hj, List.take_append_drop]
  have e' : (nb.set j x).map Bs.seg = (nb.take j).map Bs.seg ++ x.seg :: (nb.drop (j + 1)).map Bs.seg := by
    rw [List.set_eq_take_append_cons_drop, if_pos hj, List.map_append, List.map_cons]
  have hI := h.inner.toOwn
  rw [e] at hI
  have hA := hI.left
  have hB : Own w (nb[j].seg :: (nb.drop (j + 1)).map Bs.seg) := hI.right
  have hB2 : Own w ((nb.drop (j + 1)).map Bs.seg) := Own.right (S := [nb[j].seg]) hB
  have hAB : ∀ b ∈ fp ((nb.take j).map Bs.seg), b ∉ fp ((nb.drop (j + 1)).map Bs.seg) := fun b hb hb' => hI.apart b hb (by rw [fp_cons]; exact List.mem_append_right _ hb')
  have mA : ∀ b ∈ fp ((nb.take j).map Bs.seg), b ∈ fp (nb.map Bs.seg) := fun b hb => by rw [e, fp_append]; exact List.mem_append_left _ hb
  have mB : ∀ b ∈ fp ((nb.drop (j + 1)).map Bs.seg), b ∈ fp (nb.map Bs.seg) := fun b hb => by rw [e, fp_append, fp_cons]; exact List.mem_append_right _ (List.mem_append_right _ hb)
  have hnew : Own w ((nb.set j x).map Bs.seg) := by
    rw [e']
    refine hA.append (Own.append (S := [x.seg]) hx hB2 (fun b hb hb' => (hn b hb).2.2 (mB b hb'))) (fun b hb hb' => ?_)
    rw [fp_cons] at hb'
    rcases List.mem_append.1 hb' with hb' | hb'
    · exact (hn b (by rw [fp_one]; exact hb')).2.2 (mA b hb)
    · exact hAB b hb hb'
  have hfg : ∀ b ∈ fp ((nb.set j x).map Bs.seg), b ≠ g ∧ w0.heap.size ≤ b := by
    intro b hb
    rw [e', fp_append, fp_cons] at hb
    rcases List.mem_append.1 hb with hb | hb
    · exact ⟨fun eq => h.apart g hg (eq ▸ mA b hb), h.inner.new b (mA b hb)⟩
    · rcases List.mem_append.1 hb with hb | hb
      · have := hn b (by rw [fp_one]; exact hb); exact ⟨this.2.1, this.1⟩
      · exact ⟨fun eq => h.apart g hg (eq ▸ mB b hb), h.inner.new b (mB b hb)⟩
  refine ⟨?_, ⟨hnew.turn ht (fun b hb hx => (hfg b hb).1 (by simpa using hx)), fun b hb => (hfg b hb).2⟩, ?_, ht.keeps h.keeps (fun b hb => by simp at hb; omega)⟩
  · rcases h.row.2 with ⟨rfl, h0⟩ | ⟨g', cap, cur, rfl, hb, hgg, hnc, hcm, hcs, htk⟩
    · omega
    · have : g' = g := by simpa [Value.ownBlock] using hg
      subst this
      refine ⟨by have := h.row.1; rw [List.length_set]; show (ccells (nb.set j x)).length = _; rw [ccells_len]; simp, .inr ⟨g', cap, cur.setIfInBounds j x.v, by rw [List.length_set], hb, ?_, by rw [List.length_set]; exact hnc, hcm, by simpa using hcs, ?_⟩⟩
      · simp [World.setCell, Array.getElem?_modify, hgg]
      · show _ = ccells (nb.set j x)
        rw [ccells_set, List.length_set]
        have : (cur.setIfInBounds j x.v).toList = cur.toList.set j x.v := by simp
        rw [this, List.take_set]
        rw [htk]; rfl
  · intro g' hg' hb
    have : g' = g := by rw [hg] at hg'; exact (Option.some.inj hg').symm
    exact (hfg g' hb).1 this
end
end Go.Proofs.YtkdnddckogbgaaaGreatDoor
namespace Go.Proofs.YtkdnddckogbgaaaGreatDoor
open Go.RowKit Go.Deep
set_option linter.unusedVariables false
set_option maxRecDepth 10000

set_option maxHeartbeats 1000000 in
theorem filled_row (a : Option Addr) (cap : Nat) (L : List UInt8) (w : World) (hc : Cells w a (bys L)) (hl : L.length ≤ 4194304) :
    Calls Tryz.prog 85 #[.slice a L.length cap] w fun e w' => e = .returned (.slice (some ⟨w.heap.size, 0, none⟩) 128 128) ∧ w'.heap[w.heap.size]? = some (.cells (bys (fillL L)).toArray 5 (0, 0)) ∧ Keeps w w' := by
  have hmk := make_128
  have HKA := hide (Keeps.alloc (Keeps.refl w) (.cells (madeCells #[.int .u8 0] 128) 5))
  have HC := hide (hc.kept HKA.out)
  have HB : Hid ((w.alloc (.cells (madeCells #[.int .u8 0] 128) 5)).heap[w.heap.size]? = some (.cells (bys (List.replicate 128 0)).toArray 5 (0, 0))) := by
    show _ = _
    rw [← made_zeros]; exact blk_alloc_new w _
  have HL : Hid ((bys (L.take 128)).length = Nat.min L.length 128) := by show _ = _; rw [bys_length, List.length_take, Nat.min_comm]
  have HP : Hid (0 < (bys (L.take 128)).length → some (⟨w.heap.size, 0, none⟩ : Addr) = some ⟨w.heap.size, 0, none⟩ ∧ ∃ ad, a = some ad ∧ ∀ j v, (bys (L.take 128))[j]? = some v → (w.alloc (.cells (madeCells #[.int .u8 0] 128) 5)).cell? (ad.add j) = some v) := by
    intro hp
    refine ⟨rfl, ?_⟩
    have hc' := HC.out
    rcases hc' with h | ⟨b, off, e, h⟩
    · rw [bys_nil] at h; subst h; simp [bys] at hp
    · refine ⟨_, e, fun j v hj => src_at (HC.out.elim (fun h => by rw [bys_nil] at h; subst h; simp [bys] at hp) (fun _ => by rw [← e]; exact HC.out)) j v ?_⟩
      rw [bys_take] at hj
      rw [List.getElem?_take] at hj
      split at hj
      · exact hj
      · cases hj
  have HF : Hid (0 + (bys (L.take 128)).length ≤ (bys (List.replicate 128 (0 : UInt8))).length) := by show _ ≤ _; rw [HL.out, bys_length, List.length_replicate, Nat.zero_add]; exact Nat.min_le_right _ _
  clear hc hl
  go_enter Tryz.func85, Tryz.ntmps85
  go_wp2_with (refine wpList_copy_splice (by rfl) (.tmp 5) (.tmp 6) 22 22 (by rfl) 5 underBytes size_byte (some ⟨w.heap.size, 0, none⟩) a 128 128 L.length cap (by rfl) (by rfl) w.heap.size 0 (bys (List.replicate 128 0)) 5 HB.out (bys (L.take 128)) HL.out HP.out HF.out (fun v hv => one_cells hv) w.heap.size w HKA.out (Nat.le_refl _) ?_; intro w1 hg hb)
  go_ret
  have hg' := hg.out
  rw [splice_fill] at hg'
  exact ⟨rfl, hg', hb⟩

theorem splice_take (cur new : List UInt8) (n : Nat) (hn : n ≤ new.length) : splice (bys cur) 0 (bys (new.take n)) = bys (new.take n ++ cur.drop n) := by
  rw [splice_zero, bys_append, bys_length, List.length_take, Nat.min_eq_left hn]
  simp [bys]
theorem landM_zero (C : List (List UInt8)) (x : Int × List UInt8) : landM C x 0 = C := rfl
/-- The list of cells as the walk has it. -/
theorem LG.slice {w0 w : World} {v : Value} {nb : List Bs} (h : LG 93 1 Bs.cells Bs.seg w0 w v nb) {p : Nat} (hp : p < nb.length) :
    ∃ (g cap : Nat), v = .slice (some ⟨g, 0, none⟩) nb.length cap ∧ v.ownBlock = some g ∧ w.cell? ⟨g, p, none⟩ = some nb[p].v ∧ (∀ o, w.frozen? ⟨g, o, none⟩ = false) ∧ w0.heap.size ≤ g ∧ g < w.heap.size := by
  rcases h.row.2 with ⟨_, h0⟩ | ⟨g, cap, cur, rfl, hb, hg, hn, hm, hs, ht⟩
  · omega
  · obtain ⟨a, c, e, _, hbo⟩ := h.cells
    injection e with e1 e2 e3
    subst e1
    have hc : Cells w (some ⟨g, 0, none⟩) (ccells nb) := hbo.mem _ (List.mem_cons_self ..)
    obtain ⟨b, off, e, c0⟩ := cell1 hc p hp
    have e' := Option.some.inj e
    injection e' with e4 e5
    subst e4 e5
    rw [Nat.zero_add] at c0
    refine ⟨g, cap, rfl, by simp [Value.ownBlock], c0, fun o => by simp [World.frozen?, hg], hb, lt_of_cell c0⟩
set_option maxHeartbeats 4000000 in
theorem land_k (w0 w : World) (v : Value) (nb : List Bs) (HG : LG 93 1 Bs.cells Bs.seg w0 w v nb) (p : Nat) (hp : p < nb.length) (xb xo : Nat) (xc : Nat) (xL : List UInt8) (hx : Cells w (some ⟨xb, xo, none⟩) (bys xL)) (hxl : xL.length = 128) (hxc : 128 ≤ xc) (n : Nat) (hn : n ≤ 128) (hL : nb[p].L.length = 0 ∨ nb[p].L.length = 128) (hcl : nb.length ≤ 1048576) (hfit : ∀ b ∈ nb, b.fit) :
    Calls Tryz.prog 47 #[v, .agg #[.int .i64 (p : Int), .slice (some ⟨xb, xo, none⟩) 128 xc], .int .i64 (n : Int)] w fun e w' => e = .returned (.tuple #[]) ∧ ∃ nb', nb'.map Bs.L = landM (nb.map Bs.L) ((p : Int), xL) n ∧ (∀ b ∈ nb', b.fit) ∧ LG 93 1 Bs.cells Bs.seg w0 w' v nb' ∧ (∀ gb, v.ownBlock = some gb → Turn [gb] w w') := by
  have hka := Keeps.alloc (Keeps.refl w) (.cells #[.int .i64 (p : Int), .slice (some ⟨xb, xo, none⟩) 128 xc] 86)
  have HLG := hide (HG.kept hka)
  have HF := hide hfit
  have HKA := hide hka
  by_cases h0 : n = 0
  · subst h0
    clear HG hx hxl hxc hL hfit hka
    go_enter Tryz.func47, Tryz.ntmps47
    go_wp2_with fail
    refine bodyPost_ret (v := .tuple #[]) (by simp [results, Tryz.results47]) rfl ⟨rfl, nb, by rw [landM_zero], HF.out, HLG.out, fun gb _ => Turn.of_keeps HKA.out _⟩
  · have hne : ((n : Int) == 0) = false := by rw [beq_eq_false_iff_ne]; omega
    obtain ⟨g, cap, hv, hgb, c0, f0, hg0, hg1⟩ := HG.slice hp
    have hsz : (w.alloc (.cells #[.int .i64 (p : Int), .slice (some ⟨xb, xo, none⟩) 128 xc] 86)).heap.size = w.heap.size + 1 := by rw [World.size_alloc]
    have HI : Hid (Cells (w.alloc (.cells #[.int .i64 (p : Int), .slice (some ⟨xb, xo, none⟩) 128 xc] 86)) nb[p].a (bys nb[p].L)) := (HG.inner.mem nb[p].seg (List.mem_map.2 ⟨nb[p], List.getElem_mem hp, rfl⟩)).kept hka
    have HFL := hide (filled_row nb[p].a nb[p].cap nb[p].L _ HI.out (by omega))
    have HX := hide (hx.kept hka)
    have HQ : Hid (Keeps w (w.alloc (.cells #[.int .i64 (p : Int), .slice (some ⟨xb, xo, none⟩) 128 xc] 86))) := hka
    have HLB := hide hL
    have HXL := hide hxl
    have HGB := hide hgb
    have HSZ := hide hsz
    have cA := hka.cell c0
    have fA : (w.alloc (.cells #[.int .i64 (p : Int), .slice (some ⟨xb, xo, none⟩) 128 xc] 86)).frozen? ⟨g, p, none⟩ = false := by rw [hka.oldF _ _ hg1]; exact f0 p
    have hn1 : (n : Int) ≤ 128 := by omega
    have hn2 : (0 : Int) ≤ (n : Int) := by omega
    have hn3 : (n : Int) ≤ (xc : Int) := by omega
    have hpI : (p : Int) < (nb.length : Int) := by omega
    have e1 : nb[p].v = .slice nb[p].a nb[p].L.length nb[p].cap := rfl
    rw [e1] at cA
    subst hv
    clear HG hx hxl hxc hL hfit hka hgb hsz c0 f0 e1 h0
    go_enter Tryz.func47, Tryz.ntmps47
    go_wp2_with fail
    refine (unhide HFL).mono ?_
    rintro e w2 ⟨rfl, hblk, hk2⟩
    rw [fill_full HLB.out] at hblk
    have HB2 := hide hblk
    have HK2 := hide hk2
    have d1 := hk2.cell (p := ⟨w.heap.size, 1, none⟩) (v := .slice (some ⟨xb, xo, none⟩) 128 xc) (by simp)
    have HFB : Hid ((bys (fullL nb[p].L)).length = 128) := by
      show _ = _
      rw [bys_length]
      unfold fullL
      split
      · simp
      · rename_i hne
        rcases HLB.out with h | h
        · exact absurd (List.length_eq_zero_iff.1 h) hne
        · exact h
    rw [HSZ.out] at hblk
    obtain ⟨w3, hcp, hg3, hb3⟩ : ∃ w3, (Builtin.copy_ #[22, 22] 3 #[.slice (some ⟨w.heap.size + 1, 0, none⟩) 128 128, .slice (some ⟨xb, xo, none⟩) n xc]).run Tryz.prog w2 = .ok (goInt (bys (xL.take n)).length) w3 ∧ w3.heap[w.heap.size + 1]? = some (.cells (bys (xL.take n ++ (fullL nb[p].L).drop n)).toArray 5 (0, 0)) ∧ Keeps (w.alloc (.cells #[.int .i64 (p : Int), .slice (some ⟨xb, xo, none⟩) 128 xc] 86)) w3 := by
      have hcs : (bys (xL.take n)).length = Nat.min n 128 := by rw [bys_length, List.length_take, HXL.out]
      have hfb : 0 + (bys (xL.take n)).length ≤ (bys (fullL nb[p].L)).toArray.size := by
        have := HFB.out
        rw [hcs, List.size_toArray, this, Nat.zero_add]; exact Nat.min_le_right _ _
      refine ⟨_, run_copy_row (P := Tryz.prog) w2 22 22 3 5 (w.heap.size + 1) 0 128 128 ⟨xb, xo, none⟩ n xc (bys (fullL nb[p].L)).toArray 5 (bys (xL.take n)) underBytes size_byte hblk hcs (fun j v hj => src_at (HX.out.kept HK2.out) j v ?_) hfb (fun v hv => one_cells hv), ?_, ?_⟩
      · rw [bys_take, List.getElem?_take] at hj
        split at hj
        · exact hj
        · cases hj
      · rw [setRow_heap w2 (w.heap.size + 1) _ _ 5 _ hblk]
        congr 2
        have e := splice_take (fullL nb[p].L) xL n (by rw [HXL.out]; omega)
        unfold splice at e
        simp only [Nat.zero_add, List.take_zero, List.nil_append] at e
        rw [← e]
        simp
      · have h := HK2.out
        unfold Keeps at h ⊢
        exact below_setRow h (by rw [HSZ.out]; exact Nat.le_refl _) _
    have HG3 := hide hg3
    have HK3 := hide hb3
    have hLG3 : LG 93 1 Bs.cells Bs.seg w0 w3 (.slice (some ⟨g, 0, none⟩) nb.length cap) nb := HLG.out.kept hb3
    have HL3 := hide hLG3
    have c3 := hb3.cell cA
    have f3 : w3.frozen? ⟨g, p, none⟩ = false := by rw [hb3.oldF _ _ (by rw [HSZ.out]; omega)]; exact fA
    have d0 := hb3.cell (p := ⟨w.heap.size, 0, none⟩) (v := .int .i64 (p : Int)) (by simp)
    clear hblk hk2 hg3 hb3 hLG3 cA fA HFL
    go_wp2_with fail
    go_end0
    have hll : (landL nb[p].L xL n).length = 128 := landL_len HLB.out HXL.out hn
    have hx : Own w3 [(⟨some ⟨w.heap.size + 1, 0, none⟩, 128, landL nb[p].L xL n⟩ : Bs).seg] := by
      have ho := own_row (w := w3) (base := 0) (g := w.heap.size + 1) (n := 128) (L := landL nb[p].L xL n) (Nat.zero_le _) hll HG3.out
      obtain ⟨a', c', e, _, _, _, hown, _⟩ := Own.of_owns ho
      injection e with e1 e2 e3
      subst e1
      exact hown
    have hfp : ∀ b ∈ fp [(⟨some ⟨w.heap.size + 1, 0, none⟩, 128, landL nb[p].L xL n⟩ : Bs).seg], b = w.heap.size + 1 := fun b hb => by
      rw [show (⟨some ⟨w.heap.size + 1, 0, none⟩, 128, landL nb[p].L xL n⟩ : Bs).seg = (some ⟨w.heap.size + 1, 0, none⟩, bys (landL nb[p].L xL n)) from rfl, fp_one, fpS_some (fun e => by rw [bys_nil] at e; rw [e] at hll; simp at hll)] at hb
      simpa using hb
    have hin : ∀ b ∈ fp (nb.map Bs.seg), b < w.heap.size + 1 := fun b hb => by
      have := HLG.out.inner.mem.lt b hb
      rw [HSZ.out] at this
      exact this
    have hu := HL3.out.upd hp HGB.out hx (fun b hb => by
      have e := hfp b hb
      refine ⟨by omega, by omega, fun hm => ?_⟩
      have := hin b hm
      omega)
    refine ⟨rfl, nb.set p ⟨some ⟨w.heap.size + 1, 0, none⟩, 128, landL nb[p].L xL n⟩, ?_, ?_, ?_, ?_⟩
    · have hn0 : ¬ n = 0 := fun e => by rw [e] at hne; simp at hne
      unfold landM
      rw [if_neg hn0, List.map_set]
      simp only [Int.toNat_natCast]
      rw [List.getD_eq_getElem?_getD, List.getElem?_map, List.getElem?_eq_getElem hp]
      rfl
    · intro b hb
      rcases List.mem_or_eq_of_mem_set hb with hb | rfl
      · exact HF.out b hb
      · exact ⟨(fun e => by cases e), (by rw [hll]; exact Nat.le_refl _)⟩
    · rw [show (⟨some ⟨w.heap.size + 1, 0, none⟩, 128, landL nb[p].L xL n⟩ : Bs).v = .slice (some ⟨w.heap.size + 1, 0, none⟩) 128 128 from by unfold Bs.v; rw [hll]] at hu
      exact hu
    · intro gb hgb
      have e : gb = g := by rw [HGB.out] at hgb; exact (Option.some.inj hgb).symm
      subst e
      exact (Turn.of_keeps (HKA.out.trans HK3.out) [gb]).trans' (Turn.set (by simp) _)
end Go.Proofs.YtkdnddckogbgaaaGreatDoor
namespace Go.Proofs.YtkdnddckogbgaaaGreatDoor
open Go.RowKit Go.Deep
set_option linter.unusedVariables false
set_option maxRecDepth 10000

def its (K : List Int) : List Value := K.map fun k => .int .i64 k
theorem its_length (K : List Int) : (its K).length = K.length := by simp [its]
theorem its_at {w : World} {a : Option Addr} {K : List Int} (h : Cells w a (its K)) (i : Nat) (hi : i < K.length) : ∃ b off, a = some ⟨b, off, none⟩ ∧ w.cell? ⟨b, off + i, none⟩ = some (.int .i64 K[i]) := by
  rcases h with h | ⟨b, off, e, h⟩
  · have : K = [] := by simpa [its] using h
    subst this; simp at hi
  · refine ⟨b, off, e, ?_⟩
    rw [h i (by rw [its_length]; exact hi)]
    simp [its]
theorem its_append (K M : List Int) : its (K ++ M) = its K ++ its M := by simp [its]
theorem infoInt : (Tryz.prog.info? 3).map (fun i => (i.zero, i.size, i.bytes)) = some (some (.int .i64 0), 1, 8) := by kernel_rfl
theorem underInts : Tryz.prog.underlying 83 = some (.slice 3) := by kernel_rfl
abbrev OwnsI (w : World) (base : Nat) (v : Value) (L : List Int) : Prop := w.ownsRow base 3 1 v L.length (its L)
/-- append of a list of numbers to one of the call's own. -/
theorem app_its {ops : Array Oper} {rest : List Oper} {o : Oper} {a : Act} {Q : Exit → Act → World → Prop} {wr : World} (hgd : o.guard = none) (s x : Operand)
    (ho : o.op = .call { callee := .builtin .append, args := #[s, x], argTypes := #[83, 83] }) (base : Nat) (v : Value) (L M : List Int) (hs : a.eval s = v) (p : Addr) (c : Nat)
    (hx : a.eval x = .slice (some p) M.length c) (hM : ∀ j u, (its M)[j]? = some u → wr.cell? (p.add j) = some u) (hown : OwnsI wr base v L) (hl : L.length + M.length ≤ 1048576) (hbase : base ≤ wr.heap.size)
    (h : ∀ v' w', OwnsI w' base v' (L ++ M) → wr.grownBy w' v.ownBlock → (v ≠ .slice none 0 0 → v' ≠ .slice none 0 0) → wpList Tryz.prog ops Q rest (a.put o.dst v') w') :
    wpList Tryz.prog ops Q (o :: rest) a wr := by
  have hI := infoInt
  cases hi : Tryz.prog.info? 3 with
  | none => rw [hi] at hI; simp at hI
  | some i =>
    rw [hi] at hI
    simp at hI
    obtain ⟨hz, hsz, hby⟩ := hI
    refine wpList_append_own _ hgd s x 83 ho base 3 i _ 1 8 underInts hi hz hsz hby rfl (by decide) v L.length (its L) hs hown p M.length c (its M) hx (by simp [its_length]) hM (fun u hu => ?_) ?_ ?_ hbase ?_
    · unfold its at hu
      obtain ⟨k, _, rfl⟩ := List.mem_map.1 hu
      rfl
    · simp only [maxLen]; omega
    · omega
    · intro v' w' h1 h2 h3
      exact h v' w' (by unfold OwnsI; rw [its_append, List.length_append]; exact h1) h2 (fun hn he => hn (h3.1 he).1)
end Go.Proofs.YtkdnddckogbgaaaGreatDoor
namespace Go.Proofs.YtkdnddckogbgaaaGreatDoor
open Go.RowKit Go.Deep
set_option linter.unusedVariables false
set_option maxRecDepth 10000
attribute [local go_sem ↓] Go.wp_at_zero Go.wp_at_succ

set_option maxHeartbeats 2000000 in
theorem copyWrite_k (i : Int) (a : Option Addr) (cap : Nat) (L : List UInt8) (w : World) (hc : Cells w a (bys L)) (hn : a = none → cap = 0) (hl : L.length ≤ 4194304) :
    Calls Tryz.prog 106 #[.agg #[.int .i64 i, .slice a L.length cap]] w fun e w' => ∃ a1 c1, e = .returned (.agg #[.int .i64 i, .slice a1 L.length c1]) ∧ ((a1 = none → c1 = 0) ∧ L.length ≤ c1) ∧ Born w w' [(a1, bys L)] ∧ Keeps w w' := by
  have HKA := hide (Keeps.alloc (Keeps.alloc (Keeps.refl w) (.cells #[.int .i64 i, .slice a L.length cap] 86)) (.cells #[.int .i64 0, .slice none 0 0] 86))
  have HR := hide (row_new (w.alloc (.cells #[.int .i64 i, .slice a L.length cap] 86)) #[.int .i64 0, .slice none 0 0] 86)
  have HZ : Hid ((w.alloc (.cells #[.int .i64 i, .slice a L.length cap] 86)).heap.size = w.heap.size + 1) := by show _ = _; rw [World.size_alloc]
  have HZ2 : Hid (((w.alloc (.cells #[.int .i64 i, .slice a L.length cap] 86)).alloc (.cells #[.int .i64 0, .slice none 0 0] 86)).heap.size = w.heap.size + 1 + 1) := by show _ = _; rw [World.size_alloc, World.size_alloc]
  have HD : Hid (∀ w', Keeps ((w.alloc (.cells #[.int .i64 i, .slice a L.length cap] 86)).alloc (.cells #[.int .i64 0, .slice none 0 0] 86)) w' → w'.cell? ⟨w.heap.size, 0, none⟩ = some (.int .i64 i) ∧ w'.cell? ⟨w.heap.size, 1, none⟩ = some (.slice a L.length cap)) :=
    fun w' hk => ⟨hk.cell (by simp), hk.cell (by simp)⟩
  have HC := hide (hc.kept HKA.out)
  have HCl : Hid (∀ w', Keeps ((w.alloc (.cells #[.int .i64 i, .slice a L.length cap] 86)).alloc (.cells #[.int .i64 0, .slice none 0 0] 86)) w' → Calls Tryz.prog 84 #[.slice a L.length cap] w' fun e w'' => ∃ v, e = .returned v ∧ OwnsB w'' w'.heap.size v L ∧ Keeps w' w'') :=
    fun w' hk => clone_k a cap L w' (HC.out.kept hk) hn hl
  rw [HZ.out] at HR
  clear hc hn hl
  go_enter Tryz.func106, Tryz.ntmps106
  go_wp2_with fail
  generalize (w.alloc (.cells #[.int .i64 i, .slice a L.length cap] 86)).alloc (.cells #[.int .i64 0, .slice none 0 0] 86) = W0 at *
  obtain ⟨d0, d1⟩ := HD.out _ (Keeps.refl _)
  have r0 := HR.out.cell (i := 0) (by decide)
  have r1 := HR.out.cell (i := 1) (by decide)
  have f0 := HR.out.frozen 0
  have f1 := HR.out.frozen 1
  simp at r0 r1
  go_region_held3 (fun w' => w'.cell? ⟨w.heap.size, 0, none⟩ = some (.int .i64 i) ∧ w'.cell? ⟨w.heap.size, 1, none⟩ = some (.slice a L.length cap)) (go_keep)
    (first
      | (go_at_call 84
         refine (unhide HCl _ ((Keeps.refl W0).drew)).mono ?_
         rintro x w1 ⟨v1, rfl, ho1, hk1⟩
         have hk2 := ((Keeps.refl W0).drew).trans hk1
         have HK1 := hide hk2
         have HR1 := hide (hk2.row HR.out)
         obtain ⟨a1, c1, rfl, hn1, hb1⟩ := Born.of_owns (w := W0) ho1
         have HB1 := hide hb1
         have HN1 := hide hn1
         clear d0 d1 r0 r1 f0 f1
         obtain ⟨d0, d1⟩ := HD.out _ hk2
         have r0 := HR1.out.cell (i := 0) (by decide)
         have r1 := HR1.out.cell (i := 1) (by decide)
         have f0 := HR1.out.frozen 0
         have f1 := HR1.out.frozen 1
         simp at r0 r1
         clear hk1 hk2 ho1 hb1 hn1))
  go_wp2_with fail
  have r3 := (HR1.out.set 0 (.int .i64 i)).set 1 (.slice a1 L.length c1)
  have e0 := r3.cell (i := 0) (by decide)
  have e1 := r3.cell (i := 1) (by decide)
  simp at e0 e1
  have HS : Hid (Turn [w.heap.size + 1] w1 ((w1.setCell ⟨w.heap.size + 1, 0, none⟩ (.int .i64 i)).setCell ⟨w.heap.size + 1, 1, none⟩ (.slice a1 L.length c1))) := (Turn.set (by simp) _).trans' (Turn.set (by simp) _)
  clear r3 r0 r1 f0 f1 d0 d1
  revert e0 e1 HS
  generalize World.setCell _ _ _ = W
  intro e0 e1 HS
  refine bodyPost_ret (v := .agg #[.int .i64 i, .slice a1 L.length c1]) ?_ rfl ⟨a1, c1, rfl, HN1.out, ?_, ?_⟩
  · simp [results, Tryz.results106, go_sem, e0, e1]
  · refine (HB1.out.turn HS.out ?_).old HKA.out
    intro b hb hx
    have := HB1.out.new b hb
    have := HZ2.out
    simp at hx
    omega
  · refine HS.out.keeps (HKA.out.trans HK1.out) ?_
    intro b hb
    simp at hb
    omega
end Go.Proofs.YtkdnddckogbgaaaGreatDoor
