/- Texts of the verifier, joined: Lst0, Apn, Dsk, Sec, Zer, Put, SB, Ev. -/
import Derived.Test.YtkdnddckogbgaaaDoorLE1
import Derived.ChangeSame
import Derived.WideShapes
import Derived.Below
import Derived.Deep.Strs
import Derived.OwnWalk
import Derived.Laws.OwnMore
import Derived.Laws.AppendOwnNone
import Derived.Lib.AppendZeros
namespace Go.Proofs.YtkdnddckogbgaaaDoor
open Go.RowKit Go.ChangeShapes Go.WideShapes Go.Deep
set_option linter.unusedVariables false
set_option maxRecDepth 100000

section
variable {α : Type} {f : α → List Value} {sz : Nat}
theorem flatMap_len (hf : ∀ x, (f x).length = sz) (xs : List α) : (xs.flatMap f).length = xs.length * sz := by
  induction xs with
  | nil => simp
  | cons x t ih => simp [ih, hf, Nat.add_mul]; omega
theorem flatMap_at (hf : ∀ x, (f x).length = sz) : ∀ (xs : List α) (i : Nat) (hi : i < xs.length) (r : Nat), r < sz → (xs.flatMap f)[i * sz + r]? = (f xs[i])[r]?
  | [], i, h, _, _ => absurd h (Nat.not_lt_zero i)
  | x :: t, 0, h, r, hr => by
    simp only [List.flatMap_cons, Nat.zero_mul, Nat.zero_add, List.getElem_cons_zero]
    exact List.getElem?_append_left (by rw [hf]; exact hr)
  | x :: t, i + 1, h, r, hr => by
    have := flatMap_at hf t i (by simpa using h) r hr
    simp only [List.flatMap_cons, List.getElem_cons_succ]
    rw [List.getElem?_append_right (by rw [hf, Nat.add_mul]; omega), hf, show (i + 1) * sz + r - sz = i * sz + r by rw [Nat.add_mul]; omega]
    exact this
/-- Cell r of element i of a list in memory. -/
theorem elem_at {w : World} {a : Option Addr} {xs : List α} (hf : ∀ x, (f x).length = sz) (h : Cells w a (xs.flatMap f)) (i : Nat) (hi : i < xs.length) (hs : 0 < sz) :
    ∃ b off, a = some ⟨b, off, none⟩ ∧ ∀ r (hr : r < (f xs[i]).length), w.cell? ⟨b, off + i * sz + r, none⟩ = some ((f xs[i])[r]) := by
  have hl := flatMap_len hf xs
  have hle : i * sz + sz ≤ xs.length * sz := by
    have := Nat.mul_le_mul_right sz (show i + 1 ≤ xs.length from hi)
    rw [Nat.add_mul] at this; omega
  rcases h with h | ⟨b, off, e, h⟩
  · rw [h] at hl
    simp at hl
    omega
  · refine ⟨b, off, e, fun r hr => ?_⟩
    have hr' : r < sz := by rw [hf] at hr; exact hr
    have g := flatMap_at hf xs i hi r hr'
    rw [List.getElem?_eq_getElem hr, List.getElem?_eq_getElem (by omega)] at g
    rw [Nat.add_assoc, h (i * sz + r) (by omega)]
    exact g
end
/-- One list of many has turned. -/
theorem Own.upd {w w' : World} {A B : List Seg} {s s' : Seg} (h : Own w (A ++ s :: B)) (hs : Own w' [s']) (hf : fpS s' = fpS s) (ht : Turn (fp [s]) w w') : Own w' (A ++ s' :: B) := by
  have hA := h.left
  have hB : Own w (s :: B) := h.right
  have hsB : Own w ([s] ++ B) := hB
  have e1 : fp [s] = fpS s := by simp [fp]
  have dA : ∀ b ∈ fp A, b ∉ fp [s] := fun b hb hb' => h.apart b hb (by rw [show s :: B = [s] ++ B from rfl, fp_append]; exact List.mem_append_left _ hb')
  have dB : ∀ b ∈ fp B, b ∉ fp [s] := fun b hb hb' => hsB.apart b hb' hb
  have hA' := hA.turn ht dA
  have hB' := hsB.right.turn ht dB
  have e2 : fp [s'] = fp [s] := by simp [fp, hf]
  have hsB' : Own w' ([s'] ++ B) := hs.append hB' (fun b hb => by rw [e2] at hb; exact hsB.apart b hb)
  refine hA'.append hsB' (fun b hb hb' => ?_)
  refine h.apart b hb ?_
  rw [fp_cons] at hb' ⊢
  rw [← hf]; exact hb'
theorem fp_upd (A B : List Seg) {s s' : Seg} (hf : fpS s' = fpS s) : fp (A ++ s' :: B) = fp (A ++ s :: B) := by
  rw [fp_append, fp_append, fp_cons, fp_cons, hf]
/-- A block of one's own, cell by cell. -/
structure Room (w : World) (b n : Nat) : Prop where
  cell : ∀ j, j < n → ∃ u, w.cell? ⟨b, j, none⟩ = some u
  free : ∀ o, w.frozen? ⟨b, o, none⟩ = false
theorem Room.of_row {w : World} {b : Nat} {t : TypeId} {n : Nat} {f : Nat → Value} (h : w.rowIs b t n f) : Room w b n := ⟨fun j hj => ⟨_, h.cell hj⟩, h.frozen⟩
theorem Room.kept {w w' : World} {b n : Nat} (h : Room w b n) (hk : Keeps w w') (hb : b < w.heap.size) : Room w' b n :=
  ⟨fun j hj => by obtain ⟨u, hu⟩ := h.cell j hj; exact ⟨u, hk.cell hu⟩, fun o => by rw [hk.oldF b o hb]; exact h.free o⟩
theorem Room.set {w : World} {b n : Nat} (h : Room w b n) (j : Nat) (v : Value) : Room (w.setCell ⟨b, j, none⟩ v) b n := by
  refine ⟨fun i hi => ?_, fun o => by rw [frozen_set]; exact h.free o⟩
  by_cases e : i = j
  · subst e
    obtain ⟨u, hu⟩ := h.cell i hi
    exact ⟨v, World.cell?_setCell_same _ _ _ hu⟩
  · obtain ⟨u, hu⟩ := h.cell i hi
    exact ⟨u, by rw [World.cell?_setCell_other _ _ _ _ (by simp)]; exact hu⟩
theorem Room.own {w : World} {b n : Nat} (h : Room w b n) {xs : List Value} (hc : ∀ j (hj : j < xs.length), w.cell? ⟨b, j, none⟩ = some xs[j]) : Own w [(some ⟨b, 0, none⟩, xs)] := by
  refine ⟨?_, ?_, ?_⟩
  · intro s hs
    rw [List.mem_singleton.1 hs]
    exact Or.inr ⟨b, 0, rfl, fun j hj => by rw [Nat.zero_add]; exact hc j hj⟩
  · by_cases h0 : xs = [] <;> simp [fp, fpS, h0]
  · intro g hg
    by_cases h0 : xs = []
    · simp [fp, fpS, h0] at hg
    · simp [fp, fpS, h0] at hg
      subst hg
      exact h.free
/-- What was kept behind an append to a list of the call's own. -/
theorem Keeps.grown {W0 wr w' : World} {row : Option Nat} (hk : Keeps W0 wr) (hg : wr.grownBy w' row) (hr : ∀ k, row = some k → W0.heap.size ≤ k) : Keeps W0 w' :=
  Below.grown hk hg hk.size hr
theorem cellsInt : Tryd.prog.cellsOf 3 = 1 := by kernel_rfl
section
variable {H : Type} {enc : TypeId × Value → H} {W : World} {n : Nat} {cs : List Value} {y : DataW H × List MemPlace} {base : Nat} {sp : Nat → Bool} {hd : Bool}
theorem open_cells' {P : Program} {t e : TypeId} {sz fuel : Nat} {v : Value} {x : DataW H × List MemPlace} (ht : P.underlying t = some (.slice e)) (hsz : P.cellsOf e = sz) (hpos : 0 < sz)
    (h : DataW.trod enc P W base sp hd fuel t [v] = some x) (Q : List Value → Prop) (hQ : ∀ n cs y, DataW.trod enc P W base sp hd n e cs = some y → Q cs) :
    ∃ (a : Option Addr) (cap : Nat) (M : List (List Value)), v = .slice a M.length cap ∧ (∀ c ∈ M, c.length = sz ∧ Q c) ∧ Cells W a M.flatten ∧ ((a = none → cap = 0) ∧ M.length ≤ cap) ∧ M.length ≤ 9223372036854775807 := by
  obtain ⟨a, cap, M, hv, h1, h2, h3, h4⟩ := open_cells ht hsz hpos h Q hQ
  refine ⟨a, cap, M, hv, h1, h2, ⟨?_, h3⟩, Nat.le_trans h3 h4⟩
  rcases open_slice ht h with ⟨hv', _⟩ | ⟨a', len, cap', m, n, D, Pl, hv', _⟩
  · simp at hv'
    rw [hv'] at hv
    intro _
    injection hv with _ _ e
    exact e.symm
  · simp at hv'
    rw [hv'] at hv
    intro e
    subst e
    injection hv with e _ _
    cases e
variable {v : Value} {d : DataW H} {ps : List MemPlace}
end
end Go.Proofs.YtkdnddckogbgaaaDoor
namespace Go.Proofs.YtkdnddckogbgaaaDoor
open Go.RowKit Go.Deep
set_option linter.unusedVariables false
set_option maxRecDepth 10000

abbrev OwnsB (w : World) (base : Nat) (v : Value) (L : List UInt8) : Prop := w.ownsRow base 5 1 v L.length (bys L)
theorem one_cells {u : Value} {L : List UInt8} (h : u ∈ bys L) : u.oneCell' = true := by
  unfold bys at h
  obtain ⟨x, _, rfl⟩ := List.mem_map.1 h
  rfl
theorem add_at (b off j : Nat) : (⟨b, off, none⟩ : Addr).add j = ⟨b, off + j, none⟩ := by
  unfold Addr.add
  by_cases h0 : j = 0 <;> simp [h0]
/-- append of a list of bytes to one of the call's own. -/
theorem app_bys {ops : Array Oper} {rest : List Oper} {o : Oper} {a : Act} {Q : Exit → Act → World → Prop} {wr : World} (hgd : o.guard = none) (s x : Operand)
    (ho : o.op = .call { callee := .builtin .append, args := #[s, x], argTypes := #[48, 48] }) (base : Nat) (v : Value) (L M : List UInt8) (hs : a.eval s = v) (xa : Option Addr) (c : Nat)
    (hx : a.eval x = .slice xa M.length c) (hM : Cells wr xa (bys M)) (hn : xa = none → c = 0) (hown : OwnsB wr base v L) (hl : L.length + M.length ≤ 4194304) (hbase : base ≤ wr.heap.size)
    (h : ∀ v' w', OwnsB w' base v' (L ++ M) → wr.grownBy w' v.ownBlock → wpList Tryd.prog ops Q rest (a.put o.dst v') w') :
    wpList Tryd.prog ops Q (o :: rest) a wr := by
  have hI := infoByte
  cases hi : Tryd.prog.info? 5 with
  | none => rw [hi] at hI; simp at hI
  | some i =>
    rw [hi] at hI
    simp at hI
    obtain ⟨hz, hsz, hby⟩ := hI
    cases xa with
    | none =>
      obtain rfl := hn rfl
      have hM0 : M = [] := by
        rcases hM with hM | ⟨_, _, e, _⟩
        · exact bys_nil.1 hM
        · cases e
      subst hM0
      refine wpList_append_own_none hgd s x 48 ho base 5 i 1 underBytes hi v L.length (bys L) hs hown hx ?_
      exact h v wr (by simpa using hown) ⟨rfl, rfl, rfl, Nat.le_refl _, fun _ _ _ => rfl⟩
    | some p =>
      refine wpList_append_own _ hgd s x 48 ho base 5 i _ 1 1 underBytes hi hz hsz hby rfl (by decide) v L.length (bys L) hs hown p M.length c (bys M) hx (by simp [bys_length]) ?_ (fun u hu => one_cells hu) ?_ ?_ hbase ?_
      · intro j u hj
        rcases hM with hM | ⟨b, off, e, hM⟩
        · rw [hM] at hj; simp at hj
        · obtain rfl := Option.some.inj e
          obtain ⟨hj', e'⟩ := List.getElem?_eq_some_iff.1 hj
          have := hM j hj'
          rw [e'] at this
          rw [← this, add_at]
      · simp only [maxLen]; omega
      · omega
      · intro v' w' h1 h2 _
        exact h v' w' (by unfold OwnsB; rw [bys_append, List.length_append]; exact h1) h2
theorem OwnsB.nil (w : World) (base : Nat) : OwnsB w base (.slice none 0 0) [] := by unfold OwnsB; exact World.ownsRow_nil w base 5 1
theorem cells_one (w : World) (x : UInt8) : Cells (w.alloc (.cells #[byV x] 5)) (some ⟨w.heap.size, 0, none⟩) (bys [x]) := by
  refine Or.inr ⟨_, 0, rfl, fun j hj => ?_⟩
  have : j = 0 := by simp [bys] at hj; omega
  subst this
  simp [bys]
theorem OwnsB.older {w : World} {base base' : Nat} {v : Value} {L : List UInt8} (h : OwnsB w base v L) (hb : base' ≤ base) : OwnsB w base' v L := by
  refine ⟨h.1, ?_⟩
  rcases h.2 with h' | ⟨g, cap, cur, rfl, hb', rest⟩
  · exact .inl h'
  · exact .inr ⟨g, cap, cur, rfl, by omega, rest⟩

theorem clone_k (a : Option Addr) (cap : Nat) (L : List UInt8) (w : World) (hc : Cells w a (bys L)) (hn : a = none → cap = 0) (hl : L.length ≤ 4194304) :
    Calls Tryd.prog 66 #[.slice a L.length cap] w fun e w' => ∃ v, e = .returned v ∧ OwnsB w' w.heap.size v L ∧ Keeps w w' := by
  have q22 : ∀ (w : World) (a : Option Addr) (n c : Nat), (binOp .eql 48 (.slice a n c) (.slice none 0 0)).run Tryd.prog w = .ok (.bool a.isNone) w := fun w a n c => Lib.run_eql_slice_nil w _ _ a n c 0 0 underBytes
  cases a with
  | none =>
    obtain rfl := hn rfl
    have h0 : L = [] := by
      rcases hc with h | ⟨_, _, e, _⟩
      · exact bys_nil.1 h
      · cases e
    subst h0
    clear hl hc hn
    go_enter Tryd.func66, Tryd.ntmps66
    go_wp2_with fail
    go_ret
    exact ⟨_, rfl, OwnsB.nil _ _, Keeps.refl _⟩
  | some p =>
    have HC := hide (hc.kept (Keeps.alloc (Keeps.refl w) (.cells #[] 5)))
    have HO := hide (World.ownsRow_made (base := w.heap.size) (e := 5) (size := 1) w #[] 0 (Nat.le_refl _) (by decide) rfl)
    have HL : Hid (([] : List UInt8).length + L.length ≤ 4194304) := by show _ ≤ _; simpa using hl
    clear hc hn hl
    go_enter Tryd.func66, Tryd.ntmps66
    go_wp2_with (at_builtin; refine app_bys rfl (.tmp 5) (.tmp 6) rfl w.heap.size _ [] L rfl (some p) cap rfl HC.out (fun e => nomatch e) HO.out HL.out (by simp) ?_; intro v' w' ho hg)
    go_ret
    refine ⟨_, rfl, by simpa using ho, ?_⟩
    exact Keeps.grown (Keeps.alloc (Keeps.refl w) _) hg (fun k hk => (HO.out.lt k hk).1)

/-- The digits of base 256, the highest first: the first k of s. -/
def digsTo (n s k : Nat) : List UInt8 := (List.range k).map fun i => UInt8.ofNat (n / 256 ^ (s - 1 - i))
def digs (n s : Nat) : List UInt8 := digsTo n s s
theorem digsTo_succ (n s k : Nat) : digsTo n s (k + 1) = digsTo n s k ++ [UInt8.ofNat (n / 256 ^ (s - 1 - k))] := by simp [digsTo, List.range_succ]
theorem digsTo_length (n s k : Nat) : (digsTo n s k).length = k := by simp [digsTo]
theorem digs_length (n s : Nat) : (digs n s).length = s := digsTo_length n s s
theorem pow_le6 {k : Nat} (h : k ≤ 6) : 256 ^ k ≤ 281474976710656 := Nat.le_trans (Nat.pow_le_pow_right (by decide) h) (by decide)

theorem pow_spec (s : Nat) (hs : s ≤ 7) (w : World) : Calls Tryd.prog 72 #[.int .i64 (s : Int)] w fun e w' => e = .returned (.int .i64 ((256 ^ s : Nat) : Int)) ∧ w' = w := by
  go_enter Tryd.func72, Tryd.ntmps72
  go_wp2_with fail
  go_loop [3, 4] (fun x y => ∃ k : Nat, k ≤ s ∧ x = .int .i64 ((256 ^ k : Nat) : Int) ∧ y = .int .i64 (k : Int)) (fun _ y => s - (intOf y).toNat)
  case atStart => exact ⟨0, by omega, rfl, rfl⟩
  case round =>
    obtain ⟨k, hk, rfl, rfl⟩ := hrel
    by_cases hlt : k < s
    · have hp := pow_le6 (k := k) (by omega)
      have HN : Hid (256 ^ (k + 1) = 256 ^ k * 256) := Nat.pow_succ ..
      generalize 256 ^ k = p at *
      go_wp2_with fail
      go_round
      case rel => exact ⟨k + 1, by omega, by rw [HN.out]; go_num, by go_num⟩
      case measure => simp [intOf]; omega
    · have e : k = s := by omega
      subst e
      go_wp2_with fail
      go_ret
      exact ⟨rfl, rfl⟩

theorem sizeok_k (s : Int) (w : World) : Calls Tryd.prog 78 #[.int .i64 s] w fun e w' => e = .returned (.bool (decide (1 ≤ s) && decide (s ≤ 7))) ∧ w' = w := by
  by_cases h1 : 1 ≤ s
  · have H : Hid ((decide (1 ≤ s) && decide (s ≤ 7)) = decide (s ≤ 7)) := by show _ = _; rw [decide_eq_true h1, Bool.true_and]
    go_enter Tryd.func78, Tryd.ntmps78
    go_wp2
    go_ret
    exact ⟨ret_b H.out.symm, rfl⟩
  · have H : Hid ((decide (1 ≤ s) && decide (s ≤ 7)) = false) := by show _ = _; rw [decide_eq_false h1, Bool.false_and]
    go_enter Tryd.func78, Tryd.ntmps78
    go_wp2
    go_ret
    exact ⟨ret_b H.out.symm, rfl⟩

/-- Is there a text of size bytes for n? -/
def putB (n size : Int) : Bool := decide (1 ≤ size) && decide (size ≤ 7) && decide (0 ≤ n) && decide (n < ((256 ^ size.toNat : Nat) : Int))
def putL (L : List UInt8) (n size : Int) : List UInt8 := if putB n size = true then L ++ digs n.toNat size.toNat else []

end Go.Proofs.YtkdnddckogbgaaaDoor
namespace Go.Proofs.YtkdnddckogbgaaaDoor
open Go.RowKit Go.ChangeShapes Go.WideShapes Go.Deep
set_option linter.unusedVariables false
set_option maxRecDepth 100000

/-- A list of bytes: where it lies, and its bytes. -/
structure Bs where
  a : Option Addr
  cap : Nat
  L : List UInt8
def Bs.v (b : Bs) : Value := .slice b.a b.L.length b.cap
def Bs.cells (b : Bs) : List Value := [b.v]
def Bs.seg (b : Bs) : Seg := (b.a, bys b.L)
def ccells (cs : List Bs) : List Value := cs.flatMap Bs.cells
def Bs.fit (b : Bs) : Prop := (b.a = none → b.cap = 0) ∧ b.L.length ≤ b.cap
def Bs.ok (b : Bs) : Prop := b.fit ∧ b.L.length ≤ 9223372036854775807
/-- A write that waits. -/
structure Wr where
  i : Int
  b : Bs
def Wr.cells (x : Wr) : List Value := [.int .i64 x.i, x.b.v]
def wcells (ds : List Wr) : List Value := ds.flatMap Wr.cells
/-- A disk: its two lists and what lies in them. -/
structure Dk where
  ca : Option Addr
  cc : Nat
  cs : List Bs
  da : Option Addr
  dc : Nat
  ds : List Wr
def Dk.ok (d : Dk) : Prop := (d.ca = none → d.cc = 0) ∧ (d.da = none → d.dc = 0) ∧ d.cs.length ≤ 9223372036854775807 ∧ d.ds.length ≤ 9223372036854775807 ∧ (∀ b ∈ d.cs, b.ok) ∧ (∀ x ∈ d.ds, x.b.ok ∧ (Lit.int .i64 x.i).wf = true)
/-- What a disk says. -/
structure DkM where
  cells : List (List UInt8)
  dirty : List (Int × List UInt8)
section
variable {H : Type} {enc : TypeId × Value → H} {W : World} {n : Nat} {cs : List Value} {y : DataW H × List MemPlace} {base : Nat} {sp : Nat → Bool} {hd : Bool}
theorem cellsByte : Tryd.prog.cellsOf 5 = 1 := by kernel_rfl
theorem cellsBytes : Tryd.prog.cellsOf 48 = 1 := by kernel_rfl
theorem open_byte (h : DataW.trod enc Tryd.prog W base sp hd n 5 cs = some y) : ∃ x : UInt8, cs = [byV x] := by
  obtain ⟨k, e, _, hw⟩ := DataW.trod_int Tryd.underlying5 h
  have hb : 0 ≤ k ∧ k ≤ 255 := by simpa [Lit.wf, IntKind.min, IntKind.max, IntKind.signed, IntKind.bits] using hw
  refine ⟨UInt8.ofNat k.toNat, ?_⟩
  rw [e, byV_ofNat]
  congr 2
  omega
theorem bytes_of : ∀ M : List (List Value), (∀ c ∈ M, c.length = 1 ∧ ∃ x : UInt8, c = [byV x]) → ∃ L : List UInt8, L.length = M.length ∧ M.flatten = bys L
  | [], _ => ⟨[], rfl, rfl⟩
  | c :: M, h => by
    obtain ⟨L, hl, hf⟩ := bytes_of M (fun c hc => h c (List.mem_cons_of_mem _ hc))
    obtain ⟨_, x, rfl⟩ := h c (List.mem_cons_self ..)
    exact ⟨x :: L, by simp [hl], by simp [bys, hf]⟩
/-- A list of bytes among what is read. -/
theorem open_bytes {v : Value} (h : DataW.trod enc Tryd.prog W base sp hd n 48 [v] = some y) : ∃ b : Bs, v = b.v ∧ Cells W b.a (bys b.L) ∧ b.ok := by
  obtain ⟨a, cap, M, hv, hq, hc, hn, hl⟩ := open_cells' underBytes cellsByte (by decide) h (fun c => ∃ x : UInt8, c = [byV x]) (fun _ _ _ h => open_byte h)
  obtain ⟨L, e, ef⟩ := bytes_of M hq
  exact ⟨⟨a, cap, L⟩, by rw [hv, ← e]; rfl, by rw [← ef]; exact hc, ⟨hn.1, by show L.length ≤ cap; rw [e]; exact hn.2⟩, by show L.length ≤ _; rw [e]; exact hl⟩
variable {v : Value} {d : DataW H} {ps : List MemPlace}
end
end Go.Proofs.YtkdnddckogbgaaaDoor
namespace Go.Proofs.YtkdnddckogbgaaaDoor
open Go.RowKit Go.Deep Go.ChangeShapes Go.WideShapes
set_option linter.unusedVariables false
set_option maxRecDepth 10000

abbrev secV (q e : Int) (a : Option Addr) (len cap : Nat) : Value := .agg #[.int .i64 q, .int .i64 e, .slice a len cap]
/-- Is the sector right? -/
def secB (q e : Int) (len : Nat) : Bool := decide (0 ≤ q) && decide (q < 600) && decide (1 ≤ e) && decide (e ≤ 16000000) && decide (len ≤ 100)
theorem secok_spec (q e : Int) (a : Option Addr) (len cap : Nat) (w : World) (hl : len ≤ 9223372036854775807) : Calls Tryd.prog 60 #[.agg #[.int .i64 q, .int .i64 e, .slice a len cap]] w fun x w' => x = .returned (.bool (secB q e len)) ∧ Keeps w w' := by
  by_cases h0 : 0 ≤ q
  · by_cases h1 : q < 600
    · by_cases h2 : 1 ≤ e
      · by_cases h3 : e ≤ 16000000
        · by_cases h4 : (len : Int) ≤ 100
          · have H : Hid (secB q e len = true) := by show _ = _; simp only [secB, decide_eq_true h0, decide_eq_true h1, decide_eq_true h2, decide_eq_true h3, decide_eq_true (show len ≤ 100 by omega), Bool.and_self]
            go_enter Tryd.func60, Tryd.ntmps60
            go_wp2
            go_ret
            exact ⟨ret_b H.out.symm, Keeps.alloc (Keeps.refl _) _⟩
          · have H : Hid (secB q e len = false) := by show _ = _; simp only [secB]; simp; omega
            go_enter Tryd.func60, Tryd.ntmps60
            go_wp2
            go_ret
            exact ⟨ret_b H.out.symm, Keeps.alloc (Keeps.refl _) _⟩
        · have H : Hid (secB q e len = false) := by show _ = _; simp only [secB]; simp; omega
          go_enter Tryd.func60, Tryd.ntmps60
          go_wp2
          go_ret
          exact ⟨ret_b H.out.symm, Keeps.alloc (Keeps.refl _) _⟩
      · have H : Hid (secB q e len = false) := by show _ = _; simp only [secB]; simp; omega
        go_enter Tryd.func60, Tryd.ntmps60
        go_wp2
        go_ret
        exact ⟨ret_b H.out.symm, Keeps.alloc (Keeps.refl _) _⟩
    · have H : Hid (secB q e len = false) := by show _ = _; simp only [secB]; simp; omega
      go_enter Tryd.func60, Tryd.ntmps60
      go_wp2
      go_ret
      exact ⟨ret_b H.out.symm, Keeps.alloc (Keeps.refl _) _⟩
  · have H : Hid (secB q e len = false) := by show _ = _; simp only [secB]; simp; omega
    go_enter Tryd.func60, Tryd.ntmps60
    go_wp2
    go_ret
    exact ⟨ret_b H.out.symm, Keeps.alloc (Keeps.refl _) _⟩
theorem secok_impl (q e : Int) (a : Option Addr) (len cap : Nat) (w : World) (hl : len ≤ 9223372036854775807) : Calls Tryd.prog 75 #[.agg #[.int .i64 q, .int .i64 e, .slice a len cap]] w fun x w' => x = .returned (.bool (secB q e len)) ∧ Keeps w w' := by
  by_cases h0 : 0 ≤ q
  · by_cases h1 : q < 600
    · by_cases h2 : 1 ≤ e
      · by_cases h3 : e ≤ 16000000
        · by_cases h4 : (len : Int) ≤ 100
          · have H : Hid (secB q e len = true) := by show _ = _; simp only [secB, decide_eq_true h0, decide_eq_true h1, decide_eq_true h2, decide_eq_true h3, decide_eq_true (show len ≤ 100 by omega), Bool.and_self]
            go_enter Tryd.func75, Tryd.ntmps75
            go_wp2
            go_ret
            exact ⟨ret_b H.out.symm, Keeps.alloc (Keeps.refl _) _⟩
          · have H : Hid (secB q e len = false) := by show _ = _; simp only [secB]; simp; omega
            go_enter Tryd.func75, Tryd.ntmps75
            go_wp2
            go_ret
            exact ⟨ret_b H.out.symm, Keeps.alloc (Keeps.refl _) _⟩
        · have H : Hid (secB q e len = false) := by show _ = _; simp only [secB]; simp; omega
          go_enter Tryd.func75, Tryd.ntmps75
          go_wp2
          go_ret
          exact ⟨ret_b H.out.symm, Keeps.alloc (Keeps.refl _) _⟩
      · have H : Hid (secB q e len = false) := by show _ = _; simp only [secB]; simp; omega
        go_enter Tryd.func75, Tryd.ntmps75
        go_wp2
        go_ret
        exact ⟨ret_b H.out.symm, Keeps.alloc (Keeps.refl _) _⟩
    · have H : Hid (secB q e len = false) := by show _ = _; simp only [secB]; simp; omega
      go_enter Tryd.func75, Tryd.ntmps75
      go_wp2
      go_ret
      exact ⟨ret_b H.out.symm, Keeps.alloc (Keeps.refl _) _⟩
  · have H : Hid (secB q e len = false) := by show _ = _; simp only [secB]; simp; omega
    go_enter Tryd.func75, Tryd.ntmps75
    go_wp2
    go_ret
    exact ⟨ret_b H.out.symm, Keeps.alloc (Keeps.refl _) _⟩

theorem row_new (w : World) (c : Array Value) (t : TypeId) : (w.alloc (.cells c t)).rowIs w.heap.size t c.size (fun i => c.getD i (.int .i64 0)) :=
  World.rowIs_alloc w c t _ (fun i hi => by simp [Array.getD, hi])
theorem Keeps.row {w w' : World} (hk : Keeps w w') {b : Nat} {t : TypeId} {n : Nat} {f : Nat → Value} (h : w.rowIs b t n f) : w'.rowIs b t n f := h.of_block (Below.block hk b h.lt)
theorem eqBytes_k (a a' : Option Addr) (cap cap' : Nat) (L : List UInt8) (w : World) (hc : Cells w a (bys L)) (hc' : Cells w a' (bys L)) (hl : L.length ≤ 16777216) :
    Calls Tryd.prog 49 #[.slice a L.length cap, .slice a' L.length cap'] w fun e w' => e = .returned (.bool true) ∧ Keeps w w' := by
  have h := eqByteS_k a a' cap cap' L L w hc hc' hl hl
  rw [decide_eq_true rfl] at h
  exact h
section
variable {H : Type} {enc : TypeId × Value → H} {W : World} {base : Nat} {sp : Nat → Bool} {hd : Bool} {v : Value} {d : DataW H} {ps : List MemPlace}
end
end Go.Proofs.YtkdnddckogbgaaaDoor
namespace Go.Proofs.YtkdnddckogbgaaaDoor
open Go.RowKit Go.Deep
set_option linter.unusedVariables false
set_option maxRecDepth 10000

theorem zeroCells_one (z : Value) (m : Nat) : (Builtin.zeroCells #[z] m).toList = List.replicate m z := by
  apply List.ext_getElem?
  intro i
  by_cases h : i < m
  · simp [Builtin.zeroCells, h, Nat.mod_one]
  · simp [Builtin.zeroCells, h]
theorem run_append_zeros {P : Program} (w : World) (base : Nat) (t tn ty e : TypeId) (i : TypeInfo) (z : Value) (k kn : IntKind) (ht : P.underlying t = some (.slice e)) (htn : P.underlying tn = some (.int kn)) (hi : P.info? e = some i) (hz : i.zero = some z)
    (hsize : i.size = 1) (hby : i.bytes = 1) (hzc : z.cells = #[z]) (h1 : z.oneCell' = true) (v : Value) (n : Nat) (xs : List Value) (hown : w.ownsRow base e 1 v n xs) (m : Nat) (hm : 0 < m) (hn : 0 < n) (hl : n + m ≤ 4194304) (hbase : base ≤ w.heap.size) :
    ∃ v' w', (Builtin.append_ #[t, tn] ty #[v, .int k (m : Int)]).run P w = .ok v' w' ∧ w'.ownsRow base e 1 v' (n + m) (xs ++ List.replicate m z) ∧ w.grownBy w' v.ownBlock := by
  have hlen : (xs ++ List.replicate m z).length = (n + m) * 1 := by rw [List.length_append, hown.1]; simp
  have hw : IntKind.i64.wrap (m : Int) = m := by rw [IntKind.wrap_i64]; omega
  have hneg : ¬ ((m : Int) < 0) := by omega
  have hm0 : m ≠ 0 := by omega
  have h48 : ¬ (281474976710656 < (m : Int)) := by omega
  rcases hown.2 with ⟨rfl, h0⟩ | ⟨g, cap, cur, rfl, hbg, hg, hnc, hcm, hcs, htake⟩
  · omega
  · by_cases hroom : n + m ≤ cap
    · have hst := run_storeCells_at P g n e (List.replicate m z) 0 cur w hg (by simp; omega) (by intro u hu; rw [(List.mem_replicate.1 hu).2]; exact h1)
      simp only [Nat.add_zero, List.length_replicate] at hst
      refine ⟨.slice (some ⟨g, 0, none⟩) (n + m) cap, w.setRow g (cur.toList.take n ++ List.replicate m z ++ cur.toList.drop (n + m)).toArray, ?_, ⟨hlen, .inr ⟨g, cap, _, rfl, hbg, setRow_heap w g cur _ e _ hg, hroom, hcm, ?_, ?_⟩⟩, ⟨rfl, rfl, rfl, by simp, fun k _ hk => setRow_other w g k _ (fun e => hk (by simp [Value.ownBlock, e]))⟩⟩
      · simp [Builtin.append_, run_underlying ht, run_underlying htn, sizeOf, typeInfo, zeroValue, hi, hz, hsize, hby, hzc, asInt, asIntOf, hw, hneg, hm0, h48, hroom, Addr.add_lit, zeroCells_one, hst]
      · simp only [List.size_toArray, List.length_append, List.length_take, List.length_drop, Array.length_toList, List.length_replicate]
        omega
      · rw [Nat.mul_one] at htake
        rw [htake, ← hlen]
        exact List.take_left
    · have holds : ∀ j u, xs[j]? = some u → w.cell? ((⟨g, 0, none⟩ : Addr).add j) = some u := hown.cells (g := g) rfl
      have hfo := run_firstCells_some (P := P) w.drew 1 n ⟨g, 0, none⟩ n cap xs hown.1 (by simpa using holds)
      have h63' : ¬ (9223372036854775807 < ((n : Int) + (m : Int))) := by omega
      have hfit := growslice_fits (need := n + m) (old := cap) (bytes := 1) (by omega) (by omega)
      have h48' : ¬ (281474976710656 < Builtin.nextslicecap (n + m) cap) := by omega
      have hge := grownCap_ge w (n + m) cap e
      have hcm' : grownCap w (n + m) cap e ≤ maxLen := grownCap_le_maxLen w (n + m) cap e (by simp only [maxLen]; omega)
      refine ⟨.slice (some ⟨w.heap.size, 0, none⟩) (n + m) (grownCap w (n + m) cap e), w.drew.alloc (.cells (xs.toArray ++ (List.replicate m z).toArray ++ Builtin.zeroCells z.cells (grownCap w (n + m) cap e - (n + m))) e), ?_, ⟨hlen, .inr ⟨w.heap.size, _, _, rfl, hbase, heap_alloc_new w.drew _, hge, hcm', ?_, ?_⟩⟩, ⟨rfl, rfl, rfl, by simp, fun k hk _ => blk_alloc_lt w.drew _ k hk⟩⟩
      · simp [Builtin.append_, run_underlying ht, run_underlying htn, sizeOf, typeInfo, zeroValue, hi, hz, hsize, hby, hzc, asInt, asIntOf, hw, hneg, hm0, h48, hroom, h63', h48', Question.forced, hfo, newRow, grownCap]
        congr 2
        apply Array.ext'
        simp [zeroCells_one]
      · simp only [Array.size_append, List.size_toArray, size_zeroCells, hzc, hown.1, List.length_replicate]
        simp
        omega
      · simp only [Array.toList_append, List.append_assoc]
        rw [← List.append_assoc, ← hlen]
        exact List.take_left
theorem bys_zeros (m : Nat) : bys (List.replicate m 0) = List.replicate m (.int .u8 0) := by simp [bys, byV]
theorem app_zeros {ops : Array Oper} {rest : List Oper} {o : Oper} {a : Act} {Q : Exit → Act → World → Prop} {wr : World} (hgd : o.guard = none) (s x : Operand)
    (ho : o.op = .call { callee := .builtin .append, args := #[s, x], argTypes := #[48, 3] }) (base : Nat) (v : Value) (L : List UInt8) (m : Nat) (hs : a.eval s = v)
    (zi : Int) (hx : a.eval x = .int .i64 zi) (hzi : zi = (m : Int)) (hm : 0 < m) (hn : 0 < L.length) (hown : OwnsB wr base v L) (hl : L.length + m ≤ 4194304) (hbase : base ≤ wr.heap.size)
    (h : ∀ v' w', OwnsB w' base v' (L ++ List.replicate m 0) → wr.grownBy w' v.ownBlock → wpList Tryd.prog ops Q rest (a.put o.dst v') w') :
    wpList Tryd.prog ops Q (o :: rest) a wr := by
  subst hzi
  have hI := infoByte
  cases hi : Tryd.prog.info? 5 with
  | none => rw [hi] at hI; simp at hI
  | some i =>
    rw [hi] at hI
    simp at hI
    obtain ⟨hz, hsz, hby⟩ := hI
    obtain ⟨v', w', hr, h2, h3⟩ := run_append_zeros wr base 48 3 o.type 5 i _ .i64 .i64 underBytes Tryd.underlying3 hi hz hsz hby rfl rfl v L.length (bys L) hown m hm hn hl hbase
    refine Lib.wpList_append_run wr hgd s x _ _ ho _ _ hs hx v' w' hr (h v' w' ?_ h3)
    unfold OwnsB
    rw [bys_append, List.length_append, bys_zeros, List.length_replicate]
    exact h2
end Go.Proofs.YtkdnddckogbgaaaDoor
namespace Go.Proofs.YtkdnddckogbgaaaDoor
open Go.RowKit Go.Deep
set_option linter.unusedVariables false
set_option maxRecDepth 10000

theorem putB_size {n size : Int} (h : ¬ (1 ≤ size ∧ size ≤ 7)) : putB n size = false := by
  unfold putB
  by_cases h1 : 1 ≤ size
  · have h2 : ¬ size ≤ 7 := fun h2 => h ⟨h1, h2⟩
    simp [h2]
  · simp [h1]
theorem putB_neg {n size : Int} (h : n < 0) : putB n size = false := by unfold putB; simp; omega
theorem putB_great {n : Int} {s : Nat} (h : ((256 ^ s : Nat) : Int) ≤ n) : putB n s = false := by
  unfold putB
  rw [Int.toNat_natCast, decide_eq_false (show ¬ n < ((256 ^ s : Nat) : Int) by omega), Bool.and_false]
theorem putB_yes {n : Int} {s : Nat} (h1 : 1 ≤ s) (h2 : s ≤ 7) (h0 : 0 ≤ n) (h : n < ((256 ^ s : Nat) : Int)) : putB n s = true := by
  unfold putB
  rw [Int.toNat_natCast, decide_eq_true h, decide_eq_true h0]
  simp; omega
theorem pow_le7 {s : Nat} (h : s ≤ 7) : 256 ^ s ≤ 72057594037927936 := Nat.le_trans (Nat.pow_le_pow_right (by decide) h) (by decide)
def PutPost (w : World) (L : List UInt8) (n size : Int) (e : Ending) (w' : World) : Prop := ∃ v, e = .returned (.tuple #[v, .bool (putB n size)]) ∧ OwnsB w' w.heap.size v (putL L n size) ∧ Keeps w w'
theorem PutPost.no {w w' : World} {L : List UInt8} {n size : Int} (h : putB n size = false) (hk : Keeps w w') : PutPost w L n size (.returned (.tuple #[.slice none 0 0, .bool false])) w' :=
  ⟨_, by rw [h], by unfold putL; rw [h]; exact OwnsB.nil _ _, hk⟩
theorem PutPost.yes {w w' : World} {L : List UInt8} {n s : Nat} {v : Value} (h : putB n s = true) (ho : OwnsB w' w.heap.size v (L ++ digs n s)) (hk : Keeps w w') : PutPost w L n s (.returned (.tuple #[v, .bool true])) w' :=
  ⟨_, by rw [h], by unfold putL; rw [if_pos h]; exact ho, hk⟩

set_option maxHeartbeats 1000000 in
theorem putnum_spec (a : Option Addr) (cap : Nat) (L : List UInt8) (n size : Int) (w : World) (hc : Cells w a (bys L)) (hn : a = none → cap = 0) (hl : L.length ≤ 2097152) (hw : n < 9223372036854775808) :
    Calls Tryd.prog 61 #[.slice a L.length cap, .int .i64 n, .int .i64 size] w (PutPost w L n size) := by
  by_cases hs : 1 ≤ size ∧ size ≤ 7
  · obtain ⟨s, rfl⟩ : ∃ s : Nat, size = s := ⟨size.toNat, by omega⟩
    have hs1 : 1 ≤ s := by omega
    have hs2 : s ≤ 7 := by omega
    have HS := hide (fun w1 => pow_spec s hs2 w1)
    clear hs
    by_cases h0 : n < 0
    · have HN := hide (putB_neg (size := s) h0)
      clear hc hn hl hw
      go_enter Tryd.func61, Tryd.ntmps61
      go_wp2_with (go_at_call 72; refine (unhide HS _).mono ?_; rintro e w' ⟨rfl, hw'⟩; obtain rfl := Eq.symm hw')
      go_ret2
      exact PutPost.no HN.out (Keeps.refl _)
    · have hp := pow_le7 hs2
      by_cases hlt : n < ((256 ^ s : Nat) : Int)
      · have HB := hide (putB_yes hs1 hs2 (by omega) hlt)
        obtain ⟨m, rfl⟩ : ∃ m : Nat, n = m := ⟨n.toNat, by omega⟩
        have HC := hide (hc.kept (Keeps.alloc (Keeps.refl w) (.cells #[] 5)))
        have HO := hide (World.ownsRow_made (base := w.heap.size) (e := 5) (size := 1) w #[] 0 (Nat.le_refl _) (by decide) rfl)
        have HH := hide hn
        have HL : Hid (([] : List UInt8).length + L.length ≤ 4194304) := by show _ ≤ _; simp; omega
        have HLL := hide hl
        clear hc hn hw hl
        have HLt := hide hlt
        clear hlt
        generalize hP : 256 ^ s = p at *
        have hlt : (m : Int) < p := HLt.out
        have HP := hide hP
        clear hP
        go_enter Tryd.func61, Tryd.ntmps61
        go_wp2_with (first
          | (go_at_call 72; refine (unhide HS _).mono ?_; rintro e w' ⟨rfl, hw'⟩; obtain rfl := Eq.symm hw')
          | (at_builtin; refine app_bys rfl (.tmp 26) (.tmp 27) rfl w.heap.size _ [] L rfl a cap rfl HC.out HH.out HO.out HL.out (by simp) ?_; intro v1 w1 ho1 hg1))
        have HO1 : Hid (OwnsB w1 w.heap.size v1 L) := by show OwnsB _ _ _ _; simpa using ho1
        have HK1 := hide (Keeps.grown (Keeps.alloc (Keeps.refl w) (.cells #[] 5)) hg1 (fun k hk => (HO.out.lt k hk).1))
        have hm2 : m ≤ 72057594037927936 := by omega
        clear ho1 hg1 HLt hlt
        go_loopw [8, 9] (fun x y wr => ∃ k : Nat, k ≤ s ∧ y = .int .i64 ((s : Int) - 1 - k) ∧ Hid (OwnsB wr w.heap.size x (L ++ digsTo m s k)) ∧ Hid (Keeps w wr)) (fun _ y _ => (intOf y + 1).toNat)
        case atStart => exact ⟨0, by omega, by simp, by show OwnsB _ _ _ _; simpa [digsTo] using HO1.out, HK1⟩
        case round =>
          obtain ⟨k, hk, rfl, HOr, HKr⟩ := hrel
          by_cases hlt : k < s
          · have HW := hide (fun w1 => pow_spec (s - 1 - k) (by omega) w1)
            rw [show ((s - 1 - k : Nat) : Int) = (s : Int) - 1 - k by omega] at HW
            have hq1 : 1 ≤ 256 ^ (s - 1 - k) := Nat.one_le_pow _ _ (by decide)
            have hq2 := pow_le6 (k := s - 1 - k) (by omega)
            generalize hQ : 256 ^ (s - 1 - k) = q at *
            have HQ := hide hQ
            clear hQ
            have hd0 : (0 : Int) ≤ (m : Int) / (q : Int) := Int.ediv_nonneg (by omega) (by omega)
            have hd1 : (m : Int) / (q : Int) ≤ 72057594037927936 := Int.le_trans (Int.ediv_le_self _ (by omega)) (by omega)
            have HL2 : Hid ((L ++ digsTo m s k).length + [UInt8.ofNat (m / q)].length ≤ 4194304) := by have := HLL.out; show _ ≤ _; simp [digsTo_length]; omega
            have HC1 : Hid (Cells (wr.alloc (.cells #[.int .u8 ((m : Int) / (q : Int) % 256)] 5)) (some ⟨wr.heap.size, 0, none⟩) (bys [UInt8.ofNat (m / q)])) := by
              show Cells _ _ _
              rw [← Int.natCast_ediv, ← byV_ofNat]
              exact cells_one wr _
            have HO2 := hide (HOr.out.alloc (.cells #[.int .u8 ((m : Int) / (q : Int) % 256)] 5))
            have HK2 := hide (Keeps.alloc HKr.out (.cells #[.int .u8 ((m : Int) / (q : Int) % 256)] 5))
            go_wp2_with (first
              | (go_at_call 72; refine (unhide HW _).mono ?_; rintro e w' ⟨rfl, hw'⟩; obtain rfl := Eq.symm hw')
              | (at_builtin; refine app_bys rfl (.tmp 35) (.tmp 42) rfl w.heap.size _ (L ++ digsTo m s k) [UInt8.ofNat (m / q)] rfl (some ⟨wr.heap.size, 0, none⟩) 1 rfl HC1.out (fun e => nomatch e) HO2.out HL2.out (by have := HKr.out.size; simp; omega) ?_; intro v' w' ho hg))
            go_roundw
            case rel =>
              refine ⟨k + 1, by omega, by congr 1; omega, ?_, Keeps.grown HK2.out hg (fun j hj => (HO2.out.lt j hj).1)⟩
              show OwnsB _ _ _ _
              rw [digsTo_succ, ← List.append_assoc, HQ.out]; exact ho
            case measure => simp [intOf]; omega
          · have e : k = s := by omega
            subst e
            go_wp2_with fail
            go_ret2
            exact PutPost.yes HB.out HOr.out HKr.out
      · have HN := hide (putB_great (n := n) (s := s) (by omega))
        clear hc hn hl hw
        generalize 256 ^ s = p at *
        go_enter Tryd.func61, Tryd.ntmps61
        go_wp2_with (go_at_call 72; refine (unhide HS _).mono ?_; rintro e w' ⟨rfl, hw'⟩; obtain rfl := Eq.symm hw')
        go_ret2
        exact PutPost.no HN.out (Keeps.refl _)
  · have HN := hide (putB_size (n := n) hs)
    clear hc hn hl hw
    by_cases h1 : size < 1
    · clear hs
      go_enter Tryd.func61, Tryd.ntmps61
      go_wp2_with fail
      go_ret2
      exact PutPost.no HN.out (Keeps.refl _)
    · have h2 : 7 < size := by omega
      clear hs
      go_enter Tryd.func61, Tryd.ntmps61
      go_wp2_with fail
      go_ret2
      exact PutPost.no HN.out (Keeps.refl _)
end Go.Proofs.YtkdnddckogbgaaaDoor
namespace Go.Proofs.YtkdnddckogbgaaaDoor
open Go.RowKit Go.Deep
set_option linter.unusedVariables false
set_option maxRecDepth 10000

/-- The bytes of a sector. -/
def secL (q e : Nat) (L : List UInt8) : List UInt8 := [74] ++ digs q 3 ++ digs e 3 ++ digs L.length 1 ++ L ++ List.replicate (114 - L.length) 0 ++ digs q 3 ++ digs e 3
def secR (q e : Int) (L : List UInt8) : List UInt8 := if secB q e L.length = true then secL q.toNat e.toNat L else []
theorem secL_length {q e : Nat} {L : List UInt8} (h : L.length ≤ 100) : (secL q e L).length = 128 := by
  simp [secL, digs_length]; omega
def SecPost (w : World) (q e : Int) (L : List UInt8) (x : Ending) (w' : World) : Prop := ∃ v, x = .returned (.tuple #[v, .bool (secB q e L.length)]) ∧ OwnsB w' w.heap.size v (secR q e L) ∧ Keeps w w'
theorem SecPost.no {w w' : World} {q e : Int} {L : List UInt8} (h : secB q e L.length = false) (hk : Keeps w w') : SecPost w q e L (.returned (.tuple #[.slice none 0 0, .bool false])) w' :=
  ⟨_, by rw [h], by unfold secR; rw [h]; exact OwnsB.nil _ _, hk⟩
theorem SecPost.yes {w w' : World} {q e : Nat} {L : List UInt8} {v : Value} (h : secB q e L.length = true) (ho : OwnsB w' w.heap.size v (secL q e L)) (hk : Keeps w w') : SecPost w q e L (.returned (.tuple #[v, .bool true])) w' :=
  ⟨_, by rw [h], by unfold secR; rw [if_pos h]; exact ho, hk⟩
theorem secB_true {q e : Int} {n : Nat} (h : secB q e n = true) : 0 ≤ q ∧ q < 600 ∧ 1 ≤ e ∧ e ≤ 16000000 ∧ n ≤ 100 := by
  simp only [secB, Bool.and_eq_true, decide_eq_true_eq] at h
  exact ⟨h.1.1.1.1, h.1.1.1.2, h.1.1.2, h.1.2, h.2⟩
end Go.Proofs.YtkdnddckogbgaaaDoor
namespace Go.Proofs.YtkdnddckogbgaaaDoor
open Go.RowKit
set_option linter.unusedVariables false

/-- An event: kind, key, channel, the other channel, amount, fee, yes. -/
structure Ev where
  k : Int
  y : Int
  c : Int
  t : Int
  m : Int
  f : Int
  b : Bool
abbrev evV (k y c t m f : Int) (b : Bool) : Value := .agg #[.int .i64 k, .int .i64 y, .int .i64 c, .int .i64 t, .int .i64 m, .int .i64 f, .bool b]
abbrev evCells (k y c t m f : Int) (b : Bool) : Array Value := #[.int .i64 k, .int .i64 y, .int .i64 c, .int .i64 t, .int .i64 m, .int .i64 f, .bool b]

def fieldB (h : Bool) (n lo hi : Int) : Bool := if h then decide (lo ≤ n) && decide (n ≤ hi) else decide (n = 0)
/-- Is the event right, kind by kind? -/
def evB (k y c t m f : Int) (b : Bool) : Bool :=
  if k = 1 then fieldB false y 1 1000000 && fieldB false c 1 99 && fieldB false t 1 99 && fieldB true m 1 1125899906842624 && fieldB false f 0 1125899906842624 && !b
  else if k = 2 then fieldB false y 1 1000000 && fieldB true c 1 99 && fieldB false t 1 99 && fieldB true m 1 1125899906842624 && fieldB true f 0 1125899906842624 && !b
  else if k = 3 then fieldB false y 1 1000000 && fieldB true c 1 99 && fieldB false t 1 99 && fieldB false m 1 1125899906842624 && fieldB true f 0 1125899906842624 && !b
  else if k = 4 then fieldB false y 1 1000000 && fieldB true c 1 99 && fieldB false t 1 99 && fieldB true m 0 1125899906842624 && fieldB true f 0 1000000 && !b
  else if k = 5 then fieldB true y 1 1000000 && fieldB true c 1 99 && fieldB true t 1 99 && !decide (c = t) && fieldB true m 1 1125899906842624 && fieldB false f 0 1125899906842624
  else if k = 8 then fieldB false y 1 1000000 && fieldB false c 1 99 && fieldB false t 1 99 && fieldB false m 1 1125899906842624 && fieldB false f 0 1125899906842624 && !b
  else if k = 9 then fieldB true y 1 1000000 && fieldB true c 1 99 && fieldB true t 1 99 && !decide (c = t) && fieldB true m 1 1125899906842624 && fieldB true f 0 1125899906842624 && !b
  else if k = 6 ∨ k = 7 ∨ k = 10 ∨ k = 11 then fieldB true y 1 1000000 && fieldB false c 1 99 && fieldB false t 1 99 && fieldB false m 1 1125899906842624 && fieldB false f 0 1125899906842624 && !b
  else false
end Go.Proofs.YtkdnddckogbgaaaDoor
