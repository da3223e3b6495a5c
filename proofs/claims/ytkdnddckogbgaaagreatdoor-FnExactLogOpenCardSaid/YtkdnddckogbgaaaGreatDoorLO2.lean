/- Texts of the verifier, joined: Lst0, Apn, Dsk, Sec, Vars, Lst, DG. -/
import Derived.Test.YtkdnddckogbgaaaGreatDoorLO1
import Derived.ChangeSame
import Derived.WideShapes
import Derived.Below
import Derived.Deep.Strs
import Derived.OwnWalk
import Derived.Laws.OwnMore
import Derived.Laws.AppendOwnNone
import Derived.Deep.RegionHeld3
import Derived.Deep.DrawnRows
namespace Go.Proofs.YtkdnddckogbgaaaGreatDoor
open Go.RowKit Go.ChangeShapes Go.WideShapes Go.Deep
set_option linter.unusedVariables false
set_option maxRecDepth 100000

section
variable {α : Type} {f : α → List Value} {sz : Nat}
theorem flatMap_len (hf : ∀ x, (f x).length = sz) (xs : List α) : (xs.flatMap f).length = xs.length * sz := by
  induction xs with
  | nil => simp
  | cons x t ih => simp [ih, hf, Nat.add_mul]; omega
theorem flatMap_at (hf : ∀ x, (f x).length = sz) : ∀ (xs : List α) (i : Nat) (hi : i < xs.length) (r : Nat), r < sz → (xs.flatMap f)[i * sz + r]? = (f xs[i])[r]?
  | [], i, h, _, _ => absurd h (Nat.not_lt_zero i)
  | x :: t, 0, h, r, hr => by
    simp only [List.flatMap_cons, Nat.zero_mul, Nat.zero_add, List.getElem_cons_zero]
    exact List.getElem?_append_left (by rw [hf]; exact hr)
  | x :: t, i + 1, h, r, hr => by
    have := flatMap_at hf t i (by simpa using h) r hr
    simp only [List.flatMap_cons, List.getElem_cons_succ]
    rw [List.getElem?_append_right (by rw [hf, Nat.add_mul]; omega), hf, show (i + 1) * sz + r - sz = i * sz + r by rw [Nat.add_mul]; omega]
    exact this
/-- Cell r of element i of a list in memory. -/
theorem elem_at {w : World} {a : Option Addr} {xs : List α} (hf : ∀ x, (f x).length = sz) (h : Cells w a (xs.flatMap f)) (i : Nat) (hi : i < xs.length) (hs : 0 < sz) :
    ∃ b off, a = some ⟨b, off, none⟩ ∧ ∀ r (hr : r < (f xs[i]).length), w.cell? ⟨b, off + i * sz + r, none⟩ = some ((f xs[i])[r]) := by
  have hl := flatMap_len hf xs
  have hle : i * sz + sz ≤ xs.length * sz := by
    have := Nat.mul_le_mul_right sz (show i + 1 ≤ xs.length from hi)
    rw [Nat.add_mul] at this; omega
  rcases h with h | ⟨b, off, e, h⟩
  · rw [h] at hl
    simp at hl
    omega
  · refine ⟨b, off, e, fun r hr => ?_⟩
    have hr' : r < sz := by rw [hf] at hr; exact hr
    have g := flatMap_at hf xs i hi r hr'
    rw [List.getElem?_eq_getElem hr, List.getElem?_eq_getElem (by omega)] at g
    rw [Nat.add_assoc, h (i * sz + r) (by omega)]
    exact g
end
/-- One list of many has turned. -/
theorem Own.upd {w w' : World} {A B : List Seg} {s s' : Seg} (h : Own w (A ++ s :: B)) (hs : Own w' [s']) (hf : fpS s' = fpS s) (ht : Turn (fp [s]) w w') : Own w' (A ++ s' :: B) := by
  have hA := h.left
  have hB : Own w (s :: B) := h.right
  have hsB : Own w ([s] ++ B) := hB
  have e1 : fp [s] = fpS s := by simp [fp]
  have dA : ∀ b ∈ fp A, b ∉ fp [s] := fun b hb hb' => h.apart b hb (by rw [show s :: B = [s] ++ B from rfl, fp_append]; exact List.mem_append_left _ hb')
  have dB : ∀ b ∈ fp B, b ∉ fp [s] := fun b hb hb' => hsB.apart b hb' hb
  have hA' := hA.turn ht dA
  have hB' := hsB.right.turn ht dB
  have e2 : fp [s'] = fp [s] := by simp [fp, hf]
  have hsB' : Own w' ([s'] ++ B) := hs.append hB' (fun b hb => by rw [e2] at hb; exact hsB.apart b hb)
  refine hA'.append hsB' (fun b hb hb' => ?_)
  refine h.apart b hb ?_
  rw [fp_cons] at hb' ⊢
  rw [← hf]; exact hb'
theorem fp_upd (A B : List Seg) {s s' : Seg} (hf : fpS s' = fpS s) : fp (A ++ s' :: B) = fp (A ++ s :: B) := by
  rw [fp_append, fp_append, fp_cons, fp_cons, hf]
/-- A block of one's own, cell by cell. -/
structure Room (w : World) (b n : Nat) : Prop where
  cell : ∀ j, j < n → ∃ u, w.cell? ⟨b, j, none⟩ = some u
  free : ∀ o, w.frozen? ⟨b, o, none⟩ = false
theorem Room.of_row {w : World} {b : Nat} {t : TypeId} {n : Nat} {f : Nat → Value} (h : w.rowIs b t n f) : Room w b n := ⟨fun j hj => ⟨_, h.cell hj⟩, h.frozen⟩
theorem Room.kept {w w' : World} {b n : Nat} (h : Room w b n) (hk : Keeps w w') (hb : b < w.heap.size) : Room w' b n :=
  ⟨fun j hj => by obtain ⟨u, hu⟩ := h.cell j hj; exact ⟨u, hk.cell hu⟩, fun o => by rw [hk.oldF b o hb]; exact h.free o⟩
theorem Room.set {w : World} {b n : Nat} (h : Room w b n) (j : Nat) (v : Value) : Room (w.setCell ⟨b, j, none⟩ v) b n := by
  refine ⟨fun i hi => ?_, fun o => by rw [frozen_set]; exact h.free o⟩
  by_cases e : i = j
  · subst e
    obtain ⟨u, hu⟩ := h.cell i hi
    exact ⟨v, World.cell?_setCell_same _ _ _ hu⟩
  · obtain ⟨u, hu⟩ := h.cell i hi
    exact ⟨u, by rw [World.cell?_setCell_other _ _ _ _ (by simp)]; exact hu⟩
theorem Room.own {w : World} {b n : Nat} (h : Room w b n) {xs : List Value} (hc : ∀ j (hj : j < xs.length), w.cell? ⟨b, j, none⟩ = some xs[j]) : Own w [(some ⟨b, 0, none⟩, xs)] := by
  refine ⟨?_, ?_, ?_⟩
  · intro s hs
    rw [List.mem_singleton.1 hs]
    exact Or.inr ⟨b, 0, rfl, fun j hj => by rw [Nat.zero_add]; exact hc j hj⟩
  · by_cases h0 : xs = [] <;> simp [fp, fpS, h0]
  · intro g hg
    by_cases h0 : xs = []
    · simp [fp, fpS, h0] at hg
    · simp [fp, fpS, h0] at hg
      subst hg
      exact h.free
/-- What was kept behind an append to a list of the call's own. -/
theorem Keeps.grown {W0 wr w' : World} {row : Option Nat} (hk : Keeps W0 wr) (hg : wr.grownBy w' row) (hr : ∀ k, row = some k → W0.heap.size ≤ k) : Keeps W0 w' :=
  Below.grown hk hg hk.size hr
theorem cellsInt : Tryz.prog.cellsOf 3 = 1 := by kernel_rfl
section
variable {H : Type} {enc : TypeId × Value → H} {W : World} {n : Nat} {cs : List Value} {y : DataW H × List MemPlace} {base : Nat} {sp : Nat → Bool} {hd : Bool}
theorem open_cells' {P : Program} {t e : TypeId} {sz fuel : Nat} {v : Value} {x : DataW H × List MemPlace} (ht : P.underlying t = some (.slice e)) (hsz : P.cellsOf e = sz) (hpos : 0 < sz)
    (h : DataW.trod enc P W base sp hd fuel t [v] = some x) (Q : List Value → Prop) (hQ : ∀ n cs y, DataW.trod enc P W base sp hd n e cs = some y → Q cs) :
    ∃ (a : Option Addr) (cap : Nat) (M : List (List Value)), v = .slice a M.length cap ∧ (∀ c ∈ M, c.length = sz ∧ Q c) ∧ Cells W a M.flatten ∧ ((a = none → cap = 0) ∧ M.length ≤ cap) ∧ M.length ≤ 9223372036854775807 := by
  obtain ⟨a, cap, M, hv, h1, h2, h3, h4⟩ := open_cells ht hsz hpos h Q hQ
  refine ⟨a, cap, M, hv, h1, h2, ⟨?_, h3⟩, Nat.le_trans h3 h4⟩
  rcases open_slice ht h with ⟨hv', _⟩ | ⟨a', len, cap', m, n, D, Pl, hv', _⟩
  · simp at hv'
    rw [hv'] at hv
    intro _
    injection hv with _ _ e
    exact e.symm
  · simp at hv'
    rw [hv'] at hv
    intro e
    subst e
    injection hv with e _ _
    cases e
variable {v : Value} {d : DataW H} {ps : List MemPlace}
end
end Go.Proofs.YtkdnddckogbgaaaGreatDoor
namespace Go.Proofs.YtkdnddckogbgaaaGreatDoor
open Go.RowKit Go.Deep
set_option linter.unusedVariables false
set_option maxRecDepth 10000

abbrev OwnsB (w : World) (base : Nat) (v : Value) (L : List UInt8) : Prop := w.ownsRow base 5 1 v L.length (bys L)
theorem one_cells {u : Value} {L : List UInt8} (h : u ∈ bys L) : u.oneCell' = true := by
  unfold bys at h
  obtain ⟨x, _, rfl⟩ := List.mem_map.1 h
  rfl
theorem add_at (b off j : Nat) : (⟨b, off, none⟩ : Addr).add j = ⟨b, off + j, none⟩ := by
  unfold Addr.add
  by_cases h0 : j = 0 <;> simp [h0]
/-- append of a list of bytes to one of the call's own. -/
theorem app_bys {ops : Array Oper} {rest : List Oper} {o : Oper} {a : Act} {Q : Exit → Act → World → Prop} {wr : World} (hgd : o.guard = none) (s x : Operand)
    (ho : o.op = .call { callee := .builtin .append, args := #[s, x], argTypes := #[22, 22] }) (base : Nat) (v : Value) (L M : List UInt8) (hs : a.eval s = v) (xa : Option Addr) (c : Nat)
    (hx : a.eval x = .slice xa M.length c) (hM : Cells wr xa (bys M)) (hn : xa = none → c = 0) (hown : OwnsB wr base v L) (hl : L.length + M.length ≤ 4194304) (hbase : base ≤ wr.heap.size)
    (h : ∀ v' w', OwnsB w' base v' (L ++ M) → wr.grownBy w' v.ownBlock → wpList Tryz.prog ops Q rest (a.put o.dst v') w') :
    wpList Tryz.prog ops Q (o :: rest) a wr := by
  have hI := infoByte
  cases hi : Tryz.prog.info? 5 with
  | none => rw [hi] at hI; simp at hI
  | some i =>
    rw [hi] at hI
    simp at hI
    obtain ⟨hz, hsz, hby⟩ := hI
    cases xa with
    | none =>
      obtain rfl := hn rfl
      have hM0 : M = [] := by
        rcases hM with hM | ⟨_, _, e, _⟩
        · exact bys_nil.1 hM
        · cases e
      subst hM0
      refine wpList_append_own_none hgd s x 22 ho base 5 i 1 underBytes hi v L.length (bys L) hs hown hx ?_
      exact h v wr (by simpa using hown) ⟨rfl, rfl, rfl, Nat.le_refl _, fun _ _ _ => rfl⟩
    | some p =>
      refine wpList_append_own _ hgd s x 22 ho base 5 i _ 1 1 underBytes hi hz hsz hby rfl (by decide) v L.length (bys L) hs hown p M.length c (bys M) hx (by simp [bys_length]) ?_ (fun u hu => one_cells hu) ?_ ?_ hbase ?_
      · intro j u hj
        rcases hM with hM | ⟨b, off, e, hM⟩
        · rw [hM] at hj; simp at hj
        · obtain rfl := Option.some.inj e
          obtain ⟨hj', e'⟩ := List.getElem?_eq_some_iff.1 hj
          have := hM j hj'
          rw [e'] at this
          rw [← this, add_at]
      · simp only [maxLen]; omega
      · omega
      · intro v' w' h1 h2 _
        exact h v' w' (by unfold OwnsB; rw [bys_append, List.length_append]; exact h1) h2
theorem OwnsB.nil (w : World) (base : Nat) : OwnsB w base (.slice none 0 0) [] := by unfold OwnsB; exact World.ownsRow_nil w base 5 1
theorem cells_one (w : World) (x : UInt8) : Cells (w.alloc (.cells #[byV x] 5)) (some ⟨w.heap.size, 0, none⟩) (bys [x]) := by
  refine Or.inr ⟨_, 0, rfl, fun j hj => ?_⟩
  have : j = 0 := by simp [bys] at hj; omega
  subst this
  simp [bys]
theorem OwnsB.older {w : World} {base base' : Nat} {v : Value} {L : List UInt8} (h : OwnsB w base v L) (hb : base' ≤ base) : OwnsB w base' v L := by
  refine ⟨h.1, ?_⟩
  rcases h.2 with h' | ⟨g, cap, cur, rfl, hb', rest⟩
  · exact .inl h'
  · exact .inr ⟨g, cap, cur, rfl, by omega, rest⟩

theorem clone_k (a : Option Addr) (cap : Nat) (L : List UInt8) (w : World) (hc : Cells w a (bys L)) (hn : a = none → cap = 0) (hl : L.length ≤ 4194304) :
    Calls Tryz.prog 84 #[.slice a L.length cap] w fun e w' => ∃ v, e = .returned v ∧ OwnsB w' w.heap.size v L ∧ Keeps w w' := by
  have q22 : ∀ (w : World) (a : Option Addr) (n c : Nat), (binOp .eql 22 (.slice a n c) (.slice none 0 0)).run Tryz.prog w = .ok (.bool a.isNone) w := fun w a n c => Lib.run_eql_slice_nil w _ _ a n c 0 0 underBytes
  cases a with
  | none =>
    obtain rfl := hn rfl
    have h0 : L = [] := by
      rcases hc with h | ⟨_, _, e, _⟩
      · exact bys_nil.1 h
      · cases e
    subst h0
    clear hl hc hn
    go_enter Tryz.func84, Tryz.ntmps84
    go_wp2_with fail
    go_ret
    exact ⟨_, rfl, OwnsB.nil _ _, Keeps.refl _⟩
  | some p =>
    have HC := hide (hc.kept (Keeps.alloc (Keeps.refl w) (.cells #[] 5)))
    have HO := hide (World.ownsRow_made (base := w.heap.size) (e := 5) (size := 1) w #[] 0 (Nat.le_refl _) (by decide) rfl)
    have HL : Hid (([] : List UInt8).length + L.length ≤ 4194304) := by show _ ≤ _; simpa using hl
    clear hc hn hl
    go_enter Tryz.func84, Tryz.ntmps84
    go_wp2_with (at_builtin; refine app_bys rfl (.tmp 5) (.tmp 6) rfl w.heap.size _ [] L rfl (some p) cap rfl HC.out (fun e => nomatch e) HO.out HL.out (by simp) ?_; intro v' w' ho hg)
    go_ret
    refine ⟨_, rfl, by simpa using ho, ?_⟩
    exact Keeps.grown (Keeps.alloc (Keeps.refl w) _) hg (fun k hk => (HO.out.lt k hk).1)

/-- The digits of base 256, the highest first: the first k of s. -/
def digsTo (n s k : Nat) : List UInt8 := (List.range k).map fun i => UInt8.ofNat (n / 256 ^ (s - 1 - i))
def digs (n s : Nat) : List UInt8 := digsTo n s s
theorem digsTo_succ (n s k : Nat) : digsTo n s (k + 1) = digsTo n s k ++ [UInt8.ofNat (n / 256 ^ (s - 1 - k))] := by simp [digsTo, List.range_succ]
theorem digsTo_length (n s k : Nat) : (digsTo n s k).length = k := by simp [digsTo]
theorem digs_length (n s : Nat) : (digs n s).length = s := digsTo_length n s s
theorem pow_le6 {k : Nat} (h : k ≤ 6) : 256 ^ k ≤ 281474976710656 := Nat.le_trans (Nat.pow_le_pow_right (by decide) h) (by decide)

theorem pow_spec (s : Nat) (hs : s ≤ 7) (w : World) : Calls Tryz.prog 107 #[.int .i64 (s : Int)] w fun e w' => e = .returned (.int .i64 ((256 ^ s : Nat) : Int)) ∧ w' = w := by
  go_enter Tryz.func107, Tryz.ntmps107
  go_wp2_with fail
  go_loop [3, 4] (fun x y => ∃ k : Nat, k ≤ s ∧ x = .int .i64 ((256 ^ k : Nat) : Int) ∧ y = .int .i64 (k : Int)) (fun _ y => s - (intOf y).toNat)
  case atStart => exact ⟨0, by omega, rfl, rfl⟩
  case round =>
    obtain ⟨k, hk, rfl, rfl⟩ := hrel
    by_cases hlt : k < s
    · have hp := pow_le6 (k := k) (by omega)
      have HN : Hid (256 ^ (k + 1) = 256 ^ k * 256) := Nat.pow_succ ..
      generalize 256 ^ k = p at *
      go_wp2_with fail
      go_round
      case rel => exact ⟨k + 1, by omega, by rw [HN.out]; go_num, by go_num⟩
      case measure => simp [intOf]; omega
    · have e : k = s := by omega
      subst e
      go_wp2_with fail
      go_ret
      exact ⟨rfl, rfl⟩

theorem sizeok_k (s : Int) (w : World) : Calls Tryz.prog 117 #[.int .i64 s] w fun e w' => e = .returned (.bool (decide (1 ≤ s) && decide (s ≤ 7))) ∧ w' = w := by
  by_cases h1 : 1 ≤ s
  · have H : Hid ((decide (1 ≤ s) && decide (s ≤ 7)) = decide (s ≤ 7)) := by show _ = _; rw [decide_eq_true h1, Bool.true_and]
    go_enter Tryz.func117, Tryz.ntmps117
    go_wp2
    go_ret
    exact ⟨ret_b H.out.symm, rfl⟩
  · have H : Hid ((decide (1 ≤ s) && decide (s ≤ 7)) = false) := by show _ = _; rw [decide_eq_false h1, Bool.false_and]
    go_enter Tryz.func117, Tryz.ntmps117
    go_wp2
    go_ret
    exact ⟨ret_b H.out.symm, rfl⟩

/-- Is there a text of size bytes for n? -/
def putB (n size : Int) : Bool := decide (1 ≤ size) && decide (size ≤ 7) && decide (0 ≤ n) && decide (n < ((256 ^ size.toNat : Nat) : Int))
def putL (L : List UInt8) (n size : Int) : List UInt8 := if putB n size = true then L ++ digs n.toNat size.toNat else []

theorem digV (n j : Nat) : byV (UInt8.ofNat (n / 256 ^ j)) = .int .u8 ((n : Int) / 2 ^ (8 * j) % 256) := by
  rw [byV_ofNat]
  congr 1
  rw [show (2 : Int) ^ (8 * j) = ((2 ^ (8 * j) : Nat) : Int) by simp, Nat.pow_mul]
  rfl
set_option maxHeartbeats 1000000 in
theorem appnum_k (v : Value) (L : List UInt8) (n s base : Nat) (w : World) (hs : s ≤ 7) (hs1 : 1 ≤ s) (hn : n < 9223372036854775808) (hl : L.length ≤ 2097152) (ho : OwnsB w base v L) (hb : base ≤ w.heap.size) (W0 : World) (hb0 : W0.heap.size ≤ base) (hk0 : Keeps W0 w) :
    Calls Tryz.prog 70 #[v, .int .i64 (n : Int), .int .i64 (s : Int)] w fun e w' => ∃ v', e = .returned v' ∧ OwnsB w' base v' (L ++ digs n s) ∧ base ≤ w'.heap.size ∧ Keeps W0 w' := by
  have HO := hide ho
  have HK := hide hk0
  clear ho hk0
  go_enter Tryz.func70, Tryz.ntmps70
  go_wp2_with fail
  go_loopw [0, 7] (fun x y wr => ∃ k : Nat, k ≤ s ∧ y = .int .i64 (8 * ((s : Int) - 1 - k)) ∧ Hid (OwnsB wr base x (L ++ digsTo n s k)) ∧ base ≤ wr.heap.size ∧ Hid (Keeps W0 wr)) (fun _ y _ => (intOf y + 8).toNat)
  case atStart => exact ⟨0, by omega, by simp, by show OwnsB _ _ _ _; simpa [digsTo] using HO.out, hb, HK⟩
  case round =>
    obtain ⟨k, hk, rfl, HOr, hbr, HKr⟩ := hrel
    by_cases hlt : k < s
    · have hz : (0 : Int) ≤ 8 * ((s : Int) - 1 - k) := by omega
      have hz2 : 8 * ((s : Int) - 1 - k) ≤ 48 := by omega
      have hl2 : (L ++ digsTo n s k).length + [UInt8.ofNat (n / 256 ^ (s - 1 - k))].length ≤ 4194304 := by simp [digsTo_length]; omega
      have HL2 := hide hl2
      have HC1 : Hid (Cells (wr.alloc (.cells #[.int .u8 ((n : Int) / 2 ^ (8 * (s - 1 - k)) % 256)] 5)) (some ⟨wr.heap.size, 0, none⟩) (bys [UInt8.ofNat (n / 256 ^ (s - 1 - k))])) := by
        show Cells _ _ _
        rw [← digV]
        exact cells_one wr _
      have HO1 := hide (HOr.out.alloc (.cells #[.int .u8 ((n : Int) / 2 ^ (8 * (s - 1 - k)) % 256)] 5))
      have HK1 := hide (Keeps.alloc HKr.out (.cells #[.int .u8 ((n : Int) / 2 ^ (8 * (s - 1 - k)) % 256)] 5))
      clear hl2
      go_wp2_with (at_builtin; refine app_bys rfl (.tmp 15) (.tmp 20) rfl base _ (L ++ digsTo n s k) [UInt8.ofNat (n / 256 ^ (s - 1 - k))] rfl (some ⟨wr.heap.size, 0, none⟩) 1 rfl HC1.out (fun e => nomatch e) HO1.out HL2.out (by simp; omega) ?_; intro v' w' ho hg)
      go_roundw
      case rel =>
        refine ⟨k + 1, by omega, by congr 1; omega, ?_, ?_, Keeps.grown HK1.out hg (fun j hj => Nat.le_trans hb0 (HO1.out.lt j hj).1)⟩
        · show OwnsB _ _ _ _
          rw [digsTo_succ, ← List.append_assoc]; exact ho
        · have := hg.size
          simp at this
          omega
      case measure => simp [intOf]; omega
    · have e : k = s := by omega
      subst e
      go_wp2_with fail
      go_ret
      exact ⟨_, rfl, HOr.out, hbr, HKr.out⟩
end Go.Proofs.YtkdnddckogbgaaaGreatDoor
namespace Go.Proofs.YtkdnddckogbgaaaGreatDoor
open Go.RowKit Go.ChangeShapes Go.WideShapes Go.Deep
set_option linter.unusedVariables false
set_option maxRecDepth 100000

/-- A list of bytes: where it lies, and its bytes. -/
structure Bs where
  a : Option Addr
  cap : Nat
  L : List UInt8
def Bs.v (b : Bs) : Value := .slice b.a b.L.length b.cap
def Bs.cells (b : Bs) : List Value := [b.v]
def Bs.seg (b : Bs) : Seg := (b.a, bys b.L)
def ccells (cs : List Bs) : List Value := cs.flatMap Bs.cells
def Bs.fit (b : Bs) : Prop := (b.a = none → b.cap = 0) ∧ b.L.length ≤ b.cap
def Bs.ok (b : Bs) : Prop := b.fit ∧ b.L.length ≤ 9223372036854775807
/-- A write that waits. -/
structure Wr where
  i : Int
  b : Bs
def Wr.cells (x : Wr) : List Value := [.int .i64 x.i, x.b.v]
def wcells (ds : List Wr) : List Value := ds.flatMap Wr.cells
/-- A disk: its two lists and what lies in them. -/
structure Dk where
  ca : Option Addr
  cc : Nat
  cs : List Bs
  da : Option Addr
  dc : Nat
  ds : List Wr
def Dk.ok (d : Dk) : Prop := (d.ca = none → d.cc = 0) ∧ (d.da = none → d.dc = 0) ∧ d.cs.length ≤ 9223372036854775807 ∧ d.ds.length ≤ 9223372036854775807 ∧ (∀ b ∈ d.cs, b.ok) ∧ (∀ x ∈ d.ds, x.b.ok ∧ (Lit.int .i64 x.i).wf = true)
/-- What a disk says. -/
structure DkM where
  cells : List (List UInt8)
  dirty : List (Int × List UInt8)
section
variable {H : Type} {enc : TypeId × Value → H} {W : World} {n : Nat} {cs : List Value} {y : DataW H × List MemPlace} {base : Nat} {sp : Nat → Bool} {hd : Bool}
theorem cellsByte : Tryz.prog.cellsOf 5 = 1 := by kernel_rfl
theorem cellsBytes : Tryz.prog.cellsOf 22 = 1 := by kernel_rfl
theorem open_byte (h : DataW.trod enc Tryz.prog W base sp hd n 5 cs = some y) : ∃ x : UInt8, cs = [byV x] := by
  obtain ⟨k, e, _, hw⟩ := DataW.trod_int Tryz.underlying5 h
  have hb : 0 ≤ k ∧ k ≤ 255 := by simpa [Lit.wf, IntKind.min, IntKind.max, IntKind.signed, IntKind.bits] using hw
  refine ⟨UInt8.ofNat k.toNat, ?_⟩
  rw [e, byV_ofNat]
  congr 2
  omega
theorem bytes_of : ∀ M : List (List Value), (∀ c ∈ M, c.length = 1 ∧ ∃ x : UInt8, c = [byV x]) → ∃ L : List UInt8, L.length = M.length ∧ M.flatten = bys L
  | [], _ => ⟨[], rfl, rfl⟩
  | c :: M, h => by
    obtain ⟨L, hl, hf⟩ := bytes_of M (fun c hc => h c (List.mem_cons_of_mem _ hc))
    obtain ⟨_, x, rfl⟩ := h c (List.mem_cons_self ..)
    exact ⟨x :: L, by simp [hl], by simp [bys, hf]⟩
/-- A list of bytes among what is read. -/
theorem open_bytes {v : Value} (h : DataW.trod enc Tryz.prog W base sp hd n 22 [v] = some y) : ∃ b : Bs, v = b.v ∧ Cells W b.a (bys b.L) ∧ b.ok := by
  obtain ⟨a, cap, M, hv, hq, hc, hn, hl⟩ := open_cells' underBytes cellsByte (by decide) h (fun c => ∃ x : UInt8, c = [byV x]) (fun _ _ _ h => open_byte h)
  obtain ⟨L, e, ef⟩ := bytes_of M hq
  exact ⟨⟨a, cap, L⟩, by rw [hv, ← e]; rfl, by rw [← ef]; exact hc, ⟨hn.1, by show L.length ≤ cap; rw [e]; exact hn.2⟩, by show L.length ≤ _; rw [e]; exact hl⟩
variable {v : Value} {d : DataW H} {ps : List MemPlace}
end
end Go.Proofs.YtkdnddckogbgaaaGreatDoor
namespace Go.Proofs.YtkdnddckogbgaaaGreatDoor
open Go.RowKit Go.Deep Go.ChangeShapes Go.WideShapes
set_option linter.unusedVariables false
set_option maxRecDepth 10000

abbrev secV (q e : Int) (a : Option Addr) (len cap : Nat) : Value := .agg #[.int .i64 q, .int .i64 e, .slice a len cap]
/-- Is the sector right? -/
def secB (q e : Int) (len : Nat) : Bool := decide (0 ≤ q) && decide (q < 600) && decide (1 ≤ e) && decide (e ≤ 16000000) && decide (len ≤ 100)
theorem secok_spec (q e : Int) (a : Option Addr) (len cap : Nat) (w : World) (hl : len ≤ 9223372036854775807) : Calls Tryz.prog 76 #[.agg #[.int .i64 q, .int .i64 e, .slice a len cap]] w fun x w' => x = .returned (.bool (secB q e len)) ∧ Keeps w w' := by
  by_cases h0 : 0 ≤ q
  · by_cases h1 : q < 600
    · by_cases h2 : 1 ≤ e
      · by_cases h3 : e ≤ 16000000
        · by_cases h4 : (len : Int) ≤ 100
          · have H : Hid (secB q e len = true) := by show _ = _; simp only [secB, decide_eq_true h0, decide_eq_true h1, decide_eq_true h2, decide_eq_true h3, decide_eq_true (show len ≤ 100 by omega), Bool.and_self]
            go_enter Tryz.func76, Tryz.ntmps76
            go_wp2
            go_ret
            exact ⟨ret_b H.out.symm, Keeps.alloc (Keeps.refl _) _⟩
          · have H : Hid (secB q e len = false) := by show _ = _; simp only [secB]; simp; omega
            go_enter Tryz.func76, Tryz.ntmps76
            go_wp2
            go_ret
            exact ⟨ret_b H.out.symm, Keeps.alloc (Keeps.refl _) _⟩
        · have H : Hid (secB q e len = false) := by show _ = _; simp only [secB]; simp; omega
          go_enter Tryz.func76, Tryz.ntmps76
          go_wp2
          go_ret
          exact ⟨ret_b H.out.symm, Keeps.alloc (Keeps.refl _) _⟩
      · have H : Hid (secB q e len = false) := by show _ = _; simp only [secB]; simp; omega
        go_enter Tryz.func76, Tryz.ntmps76
        go_wp2
        go_ret
        exact ⟨ret_b H.out.symm, Keeps.alloc (Keeps.refl _) _⟩
    · have H : Hid (secB q e len = false) := by show _ = _; simp only [secB]; simp; omega
      go_enter Tryz.func76, Tryz.ntmps76
      go_wp2
      go_ret
      exact ⟨ret_b H.out.symm, Keeps.alloc (Keeps.refl _) _⟩
  · have H : Hid (secB q e len = false) := by show _ = _; simp only [secB]; simp; omega
    go_enter Tryz.func76, Tryz.ntmps76
    go_wp2
    go_ret
    exact ⟨ret_b H.out.symm, Keeps.alloc (Keeps.refl _) _⟩
theorem secok_impl (q e : Int) (a : Option Addr) (len cap : Nat) (w : World) (hl : len ≤ 9223372036854775807) : Calls Tryz.prog 104 #[.agg #[.int .i64 q, .int .i64 e, .slice a len cap]] w fun x w' => x = .returned (.bool (secB q e len)) ∧ Keeps w w' := by
  by_cases h0 : 0 ≤ q
  · by_cases h1 : q < 600
    · by_cases h2 : 1 ≤ e
      · by_cases h3 : e ≤ 16000000
        · by_cases h4 : (len : Int) ≤ 100
          · have H : Hid (secB q e len = true) := by show _ = _; simp only [secB, decide_eq_true h0, decide_eq_true h1, decide_eq_true h2, decide_eq_true h3, decide_eq_true (show len ≤ 100 by omega), Bool.and_self]
            go_enter Tryz.func104, Tryz.ntmps104
            go_wp2
            go_ret
            exact ⟨ret_b H.out.symm, Keeps.alloc (Keeps.refl _) _⟩
          · have H : Hid (secB q e len = false) := by show _ = _; simp only [secB]; simp; omega
            go_enter Tryz.func104, Tryz.ntmps104
            go_wp2
            go_ret
            exact ⟨ret_b H.out.symm, Keeps.alloc (Keeps.refl _) _⟩
        · have H : Hid (secB q e len = false) := by show _ = _; simp only [secB]; simp; omega
          go_enter Tryz.func104, Tryz.ntmps104
          go_wp2
          go_ret
          exact ⟨ret_b H.out.symm, Keeps.alloc (Keeps.refl _) _⟩
      · have H : Hid (secB q e len = false) := by show _ = _; simp only [secB]; simp; omega
        go_enter Tryz.func104, Tryz.ntmps104
        go_wp2
        go_ret
        exact ⟨ret_b H.out.symm, Keeps.alloc (Keeps.refl _) _⟩
    · have H : Hid (secB q e len = false) := by show _ = _; simp only [secB]; simp; omega
      go_enter Tryz.func104, Tryz.ntmps104
      go_wp2
      go_ret
      exact ⟨ret_b H.out.symm, Keeps.alloc (Keeps.refl _) _⟩
  · have H : Hid (secB q e len = false) := by show _ = _; simp only [secB]; simp; omega
    go_enter Tryz.func104, Tryz.ntmps104
    go_wp2
    go_ret
    exact ⟨ret_b H.out.symm, Keeps.alloc (Keeps.refl _) _⟩

theorem row_new (w : World) (c : Array Value) (t : TypeId) : (w.alloc (.cells c t)).rowIs w.heap.size t c.size (fun i => c.getD i (.int .i64 0)) :=
  World.rowIs_alloc w c t _ (fun i hi => by simp [Array.getD, hi])
theorem Keeps.row {w w' : World} (hk : Keeps w w') {b : Nat} {t : TypeId} {n : Nat} {f : Nat → Value} (h : w.rowIs b t n f) : w'.rowIs b t n f := h.of_block (Below.block hk b h.lt)
theorem eqBytes_k (a a' : Option Addr) (cap cap' : Nat) (L : List UInt8) (w : World) (hc : Cells w a (bys L)) (hc' : Cells w a' (bys L)) (hl : L.length ≤ 16777216) :
    Calls Tryz.prog 115 #[.slice a L.length cap, .slice a' L.length cap'] w fun e w' => e = .returned (.bool true) ∧ Keeps w w' := by
  have h := eqByteS_k a a' cap cap' L L w hc hc' hl hl
  rw [decide_eq_true rfl] at h
  exact h
section
variable {H : Type} {enc : TypeId × Value → H} {W : World} {base : Nat} {sp : Nat → Bool} {hd : Bool} {v : Value} {d : DataW H} {ps : List MemPlace}
end
end Go.Proofs.YtkdnddckogbgaaaGreatDoor
namespace Go.Proofs.YtkdnddckogbgaaaGreatDoor
open Go.RowKit Go.Deep
set_option linter.unusedVariables false
theorem born_alloc (w : World) (c : Array Value) (t : TypeId) : Born w (w.alloc (.cells c t)) [(some ⟨w.heap.size, 0, none⟩, c.toList)] := by
  have hB : (w.alloc (.cells c t)).heap[w.heap.size]? = some (.cells c t (0, 0)) := blk_alloc_new w _
  revert hB
  generalize w.alloc (.cells c t) = W
  intro hB
  refine ⟨⟨?_, ?_, ?_⟩, ?_⟩
  · intro s hs
    rw [List.mem_singleton.1 hs]
    refine Or.inr ⟨_, 0, rfl, fun j hj => ?_⟩
    have hj' : j < c.size := by simpa using hj
    simp [World.cell?, hB, hj']
  · by_cases h0 : c.toList = [] <;> simp [fp, fpS, h0]
  · intro b hb
    by_cases h0 : c.toList = []
    · simp [fp, fpS, h0] at hb
    · simp [fp, fpS, h0] at hb
      subst hb
      intro o
      simp [World.frozen?, hB]
  · intro b hb
    by_cases h0 : c.toList = []
    · simp [fp, fpS, h0] at hb
    · simp [fp, fpS, h0] at hb
      omega
theorem cell_at {w : World} {b : Nat} {xs : List Value} (h : Mem w [(some ⟨b, 0, none⟩, xs)]) (j : Nat) (hj : j < xs.length) : w.cell? ⟨b, 0 + j, none⟩ = some xs[j] := by
  have h' := h (some ⟨b, 0, none⟩, xs) (by simp)
  rcases h' with h' | ⟨g, off, e, h'⟩
  · have : xs = [] := h'
    subst this
    simp at hj
  · have e' := Option.some.inj e
    injection e' with e1 e2
    subst e1 e2
    exact h' j hj
end Go.Proofs.YtkdnddckogbgaaaGreatDoor
namespace Go.Proofs.YtkdnddckogbgaaaGreatDoor
open Go.RowKit Go.Deep
set_option linter.unusedVariables false

theorem cell1 {w : World} {a : Option Addr} {cs : List Bs} (h : Cells w a (ccells cs)) (i : Nat) (hi : i < cs.length) : ∃ b off, a = some ⟨b, off, none⟩ ∧ w.cell? ⟨b, off + i, none⟩ = some cs[i].v := by
  obtain ⟨b, off, e, h⟩ := elem_at (f := Bs.cells) (sz := 1) (fun _ => rfl) h i hi (by decide)
  exact ⟨b, off, e, by have g := h 0 (by simp [Bs.cells]); simp only [Nat.mul_one, Nat.add_zero] at g; exact g⟩
theorem cell2 {w : World} {a : Option Addr} {ds : List Wr} (h : Cells w a (wcells ds)) (i : Nat) (hi : i < ds.length) :
    ∃ b off, a = some ⟨b, off, none⟩ ∧ w.cell? ⟨b, off + i * 2, none⟩ = some (.int .i64 ds[i].i) ∧ w.cell? ⟨b, off + i * 2 + 1, none⟩ = some ds[i].b.v := by
  obtain ⟨b, off, e, h⟩ := elem_at (f := Wr.cells) (sz := 2) (fun _ => rfl) h i hi (by decide)
  exact ⟨b, off, e, h 0 (by simp [Wr.cells]), h 1 (by simp [Wr.cells])⟩
theorem ccells_len (cs : List Bs) : (ccells cs).length = cs.length := by
  have := flatMap_len (f := Bs.cells) (sz := 1) (fun _ => rfl) cs
  simpa [ccells] using this
theorem wcells_len (ds : List Wr) : (wcells ds).length = ds.length * 2 := flatMap_len (f := Wr.cells) (sz := 2) (fun _ => rfl) ds
theorem ccells_snoc (cs : List Bs) (b : Bs) : ccells (cs ++ [b]) = ccells cs ++ [b.v] := by simp [ccells, Bs.cells]
theorem wcells_snoc (ds : List Wr) (x : Wr) : wcells (ds ++ [x]) = wcells ds ++ [.int .i64 x.i, x.b.v] := by simp [wcells, Wr.cells]

end Go.Proofs.YtkdnddckogbgaaaGreatDoor
namespace Go.Proofs.YtkdnddckogbgaaaGreatDoor
open Go.RowKit Go.Deep
set_option linter.unusedVariables false
set_option maxRecDepth 10000

set_option maxHeartbeats 1000000 in
theorem toCell_k (a : Option Addr) (cap : Nat) (L : List UInt8) (w : World) (hc : Cells w a (bys L)) (hl : L.length ≤ 1048576) :
    Calls Tryz.prog 95 #[.agg #[.slice a L.length cap]] w fun x w' => ∃ b1, x = .returned (.agg #[.slice (some ⟨b1, 0, none⟩) L.length L.length]) ∧ Born w w' [(some ⟨b1, 0, none⟩, bys L)] ∧ Keeps w w' := by
  have HC := hide hc
  clear hc
  go_enter Tryz.func95, Tryz.ntmps95
  go_wp2_with fail
  have HKA := hide (Keeps.alloc (Keeps.alloc (Keeps.alloc (Keeps.refl w) (.cells #[.slice a L.length cap] 126)) (.cells #[.slice none 0 0] 93)) (.cells #[.slice none 0 0] 93))
  have HR1 := hide ((row_new (w.alloc (.cells #[.slice a L.length cap] 126)) #[.slice none 0 0] 93).alloc (.cells #[.slice none 0 0] 93))
  refine (toByteS_k a cap L _ (HC.out.kept HKA.out) hl).mono ?_
  rintro x w1 ⟨b1, rfl, hb, hk⟩
  have HB := hide hb
  have HK := hide hk
  replace HR1 := hide (hk.row HR1.out)
  have ho := hk.old
  have hf := hk.oldF
  have hz := hk.size
  clear hk hb
  go_wp2_with fail
  have r2 := HR1.out
  simp only [World.size_alloc] at r2
  have r3 := (r2.setOther (a := ⟨w.heap.size + 1 + 1, 0, none⟩) (by simp) (.slice (some ⟨b1, 0, none⟩) L.length L.length)).set 0 (.slice (some ⟨b1, 0, none⟩) L.length L.length)
  have c0 := r3.cell (i := 0) (by decide)
  simp at c0
  have HS : Hid (Turn [w.heap.size + 1, w.heap.size + 1 + 1] w1 ((w1.setCell ⟨w.heap.size + 1 + 1, 0, none⟩ (.slice (some ⟨b1, 0, none⟩) L.length L.length)).setCell ⟨w.heap.size + 1, 0, none⟩ (.slice (some ⟨b1, 0, none⟩) L.length L.length))) :=
    ((Turn.set (by simp) _).trans' (Turn.set (by simp) _))
  clear r2 r3 HR1 hz ho hf
  revert c0 HS
  generalize World.setCell _ _ _ = W
  intro c0 HS
  refine bodyPost_ret (v := .agg #[.slice (some ⟨b1, 0, none⟩) L.length L.length]) ?_ rfl ⟨b1, rfl, ?_, ?_⟩
  · simp [results, Tryz.results95, go_sem, c0]
  · refine (HB.out.turn HS.out ?_).old HKA.out
    intro b hb hx
    have := HB.out.new b hb
    simp at this hx
    omega
  · refine HS.out.keeps (HKA.out.trans HK.out) ?_
    intro b hb
    simp at hb
    omega
set_option maxHeartbeats 1000000 in
theorem toWrite_k (i : Int) (a : Option Addr) (cap : Nat) (L : List UInt8) (w : World) (hc : Cells w a (bys L)) (hl : L.length ≤ 1048576) :
    Calls Tryz.prog 96 #[.agg #[.int .i64 i, .slice a L.length cap]] w fun x w' => ∃ b1, x = .returned (.agg #[.int .i64 i, .slice (some ⟨b1, 0, none⟩) L.length L.length]) ∧ Born w w' [(some ⟨b1, 0, none⟩, bys L)] ∧ Keeps w w' := by
  have HC := hide hc
  clear hc
  go_enter Tryz.func96, Tryz.ntmps96
  go_wp2_with fail
  have HKA := hide (Keeps.alloc (Keeps.alloc (Keeps.alloc (Keeps.refl w) (.cells #[.int .i64 i, .slice a L.length cap] 128)) (.cells #[.int .i64 0, .slice none 0 0] 86)) (.cells #[.int .i64 i, .slice none 0 0] 86))
  have HR1 := hide ((row_new (w.alloc (.cells #[.int .i64 i, .slice a L.length cap] 128)) #[.int .i64 0, .slice none 0 0] 86).alloc (.cells #[.int .i64 i, .slice none 0 0] 86))
  refine (toByteS_k a cap L _ (HC.out.kept HKA.out) hl).mono ?_
  rintro x w1 ⟨b1, rfl, hb, hk⟩
  have HB := hide hb
  have HK := hide hk
  replace HR1 := hide (hk.row HR1.out)
  have ho := hk.old
  have hf := hk.oldF
  have hz := hk.size
  clear hk hb
  go_wp2_with fail
  have r2 := HR1.out
  simp only [World.size_alloc] at r2
  have r3 := ((r2.setOther (a := ⟨w.heap.size + 1 + 1, 1, none⟩) (by simp) (.slice (some ⟨b1, 0, none⟩) L.length L.length)).set 0 (.int .i64 i)).set 1 (.slice (some ⟨b1, 0, none⟩) L.length L.length)
  have c0 := r3.cell (i := 0) (by decide)
  have c1 := r3.cell (i := 1) (by decide)
  simp at c0 c1
  have HS : Hid (Turn [w.heap.size + 1, w.heap.size + 1 + 1] w1 (((w1.setCell ⟨w.heap.size + 1 + 1, 1, none⟩ (.slice (some ⟨b1, 0, none⟩) L.length L.length)).setCell ⟨w.heap.size + 1, 0, none⟩ (.int .i64 i)).setCell ⟨w.heap.size + 1, 1, none⟩ (.slice (some ⟨b1, 0, none⟩) L.length L.length))) :=
    (((Turn.set (by simp) _).trans' (Turn.set (by simp) _)).trans' (Turn.set (by simp) _))
  clear r2 r3 HR1 hz ho hf
  revert c0 c1 HS
  generalize World.setCell _ _ _ = W
  intro c0 c1 HS
  refine bodyPost_ret (v := .agg #[.int .i64 i, .slice (some ⟨b1, 0, none⟩) L.length L.length]) ?_ rfl ⟨b1, rfl, ?_, ?_⟩
  · simp [results, Tryz.results96, go_sem, c0, c1]
  · refine (HB.out.turn HS.out ?_).old HKA.out
    intro b hb hx
    have := HB.out.new b hb
    simp at this hx
    omega
  · refine HS.out.keeps (HKA.out.trans HK.out) ?_
    intro b hb
    simp at hb
    omega
theorem eqCell_k (a a' : Option Addr) (cap cap' : Nat) (L : List UInt8) (w : World) (hc : Cells w a (bys L)) (hc' : Cells w a' (bys L)) (hl : L.length ≤ 16777216) :
    Calls Tryz.prog 97 #[.agg #[.slice a L.length cap], .agg #[.slice a' L.length cap']] w fun x w' => x = .returned (.bool true) ∧ Keeps w w' := by
  have HKA := hide (Keeps.alloc (Keeps.alloc (Keeps.refl w) (.cells #[.slice a L.length cap] 93)) (.cells #[.slice a' L.length cap'] 93))
  have HQ := hide (eqBytes_k a a' cap cap' L _ (hc.kept HKA.out) (hc'.kept HKA.out) hl)
  clear hc hc' hl
  go_enter Tryz.func97, Tryz.ntmps97
  go_wp2_with fail
  refine (unhide HQ).mono ?_
  rintro x w1 ⟨rfl, hk⟩
  replace HKA := hide (HKA.out.trans hk)
  clear hk
  go_wp2_with fail
  go_ret
  exact ⟨rfl, HKA.out⟩
theorem eqWrite_k (i : Int) (a a' : Option Addr) (cap cap' : Nat) (L : List UInt8) (w : World) (hc : Cells w a (bys L)) (hc' : Cells w a' (bys L)) (hl : L.length ≤ 16777216) :
    Calls Tryz.prog 98 #[.agg #[.int .i64 i, .slice a L.length cap], .agg #[.int .i64 i, .slice a' L.length cap']] w fun x w' => x = .returned (.bool true) ∧ Keeps w w' := by
  have HKA := hide (Keeps.alloc (Keeps.alloc (Keeps.refl w) (.cells #[.int .i64 i, .slice a L.length cap] 86)) (.cells #[.int .i64 i, .slice a' L.length cap'] 86))
  have HQ := hide (eqBytes_k a a' cap cap' L _ (hc.kept HKA.out) (hc'.kept HKA.out) hl)
  clear hc hc' hl
  go_enter Tryz.func98, Tryz.ntmps98
  go_wp2_with fail
  refine (unhide HQ).mono ?_
  rintro x w1 ⟨rfl, hk⟩
  replace HKA := hide (HKA.out.trans hk)
  clear hk
  go_wp2_with fail
  go_ret
  exact ⟨rfl, HKA.out⟩
theorem szCell_k (a : Option Addr) (len cap : Nat) (left : Int) (w : World) (h0 : 0 ≤ left) (h1 : left ≤ 1048576) (hl : len ≤ 9223372036854775807) :
    Calls Tryz.prog 93 #[.agg #[.slice a len cap], .int .i64 left] w fun x w' => x = .returned (.int .i64 (if (len : Int) ≤ left then left - len else -1)) ∧ Keeps w w' := by
  have HS := hide (fun w1 => szByteS_k a len cap left w1 h0 h1 hl)
  by_cases h : (len : Int) ≤ left
  · rw [if_pos h] at HS
    have H : Hid ((if (len : Int) ≤ left then left - len else -1) = left - len) := if_pos h
    go_enter Tryz.func93, Tryz.ntmps93
    go_wp2_with fail
    refine (unhide HS _).mono ?_
    rintro e w1 ⟨rfl, hw⟩
    subst hw
    go_wp2_with fail
    go_ret
    exact ⟨rfl, Keeps.alloc (Keeps.refl _) _⟩
  · rw [if_neg h] at HS
    have H : Hid ((if (len : Int) ≤ left then left - len else -1) = -1) := if_neg h
    go_enter Tryz.func93, Tryz.ntmps93
    go_wp2_with fail
    refine (unhide HS _).mono ?_
    rintro e w1 ⟨rfl, hw⟩
    subst hw
    go_wp2_with fail
    go_ret
    exact ⟨rfl, Keeps.alloc (Keeps.refl _) _⟩
theorem szWrite_k (i : Int) (a : Option Addr) (len cap : Nat) (left : Int) (w : World) (h0 : 0 ≤ left) (h1 : left ≤ 1048576) (hl : len ≤ 9223372036854775807) :
    Calls Tryz.prog 94 #[.agg #[.int .i64 i, .slice a len cap], .int .i64 left] w fun x w' => x = .returned (.int .i64 (if (len : Int) ≤ left then left - len else -1)) ∧ Keeps w w' := by
  have HS := hide (fun w1 => szByteS_k a len cap left w1 h0 h1 hl)
  by_cases h : (len : Int) ≤ left
  · rw [if_pos h] at HS
    have H : Hid ((if (len : Int) ≤ left then left - len else -1) = left - len) := if_pos h
    go_enter Tryz.func94, Tryz.ntmps94
    go_wp2_with fail
    refine (unhide HS _).mono ?_
    rintro e w1 ⟨rfl, hw⟩
    subst hw
    go_wp2_with fail
    go_ret
    exact ⟨rfl, Keeps.alloc (Keeps.refl _) _⟩
  · rw [if_neg h] at HS
    have H : Hid ((if (len : Int) ≤ left then left - len else -1) = -1) := if_neg h
    go_enter Tryz.func94, Tryz.ntmps94
    go_wp2_with fail
    refine (unhide HS _).mono ?_
    rintro e w1 ⟨rfl, hw⟩
    subst hw
    go_wp2_with fail
    go_ret
    exact ⟨rfl, Keeps.alloc (Keeps.refl _) _⟩
end Go.Proofs.YtkdnddckogbgaaaGreatDoor
