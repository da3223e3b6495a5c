/- Lists of bytes that a call makes by append; numbers as bytes: bytes.Clone, l03Pow, appendNum, PutNum. -/
import Derived.Test.YtkdnddckogbgaaaDoorByt
import Derived.OwnWalk
import Derived.Laws.OwnMore
import Derived.Laws.AppendOwnNone
import Derived.Test.YtkdnddckogbgaaaDoorLst0
namespace Go.Proofs.YtkdnddckogbgaaaDoor
open Go.RowKit Go.Deep
set_option linter.unusedVariables false
set_option maxRecDepth 10000

abbrev OwnsB (w : World) (base : Nat) (v : Value) (L : List UInt8) : Prop := w.ownsRow base 5 1 v L.length (bys L)
theorem one_cells {u : Value} {L : List UInt8} (h : u ∈ bys L) : u.oneCell' = true := by
  unfold bys at h
  obtain ⟨x, _, rfl⟩ := List.mem_map.1 h
  rfl
theorem add_at (b off j : Nat) : (⟨b, off, none⟩ : Addr).add j = ⟨b, off + j, none⟩ := by
  unfold Addr.add
  by_cases h0 : j = 0 <;> simp [h0]
/-- append of a list of bytes to one of the call's own. -/
theorem app_bys {ops : Array Oper} {rest : List Oper} {o : Oper} {a : Act} {Q : Exit → Act → World → Prop} {wr : World} (hgd : o.guard = none) (s x : Operand)
    (ho : o.op = .call { callee := .builtin .append, args := #[s, x], argTypes := #[48, 48] }) (base : Nat) (v : Value) (L M : List UInt8) (hs : a.eval s = v) (xa : Option Addr) (c : Nat)
    (hx : a.eval x = .slice xa M.length c) (hM : Cells wr xa (bys M)) (hn : xa = none → c = 0) (hown : OwnsB wr base v L) (hl : L.length + M.length ≤ 4194304) (hbase : base ≤ wr.heap.size)
    (h : ∀ v' w', OwnsB w' base v' (L ++ M) → wr.grownBy w' v.ownBlock → wpList Tryd.prog ops Q rest (a.put o.dst v') w') :
    wpList Tryd.prog ops Q (o :: rest) a wr := by
  have hI := infoByte
  cases hi : Tryd.prog.info? 5 with
  | none => rw [hi] at hI; simp at hI
  | some i =>
    rw [hi] at hI
    simp at hI
    obtain ⟨hz, hsz, hby⟩ := hI
    cases xa with
    | none =>
      obtain rfl := hn rfl
      have hM0 : M = [] := by
        rcases hM with hM | ⟨_, _, e, _⟩
        · exact bys_nil.1 hM
        · cases e
      subst hM0
      refine wpList_append_own_none hgd s x 48 ho base 5 i 1 underBytes hi v L.length (bys L) hs hown hx ?_
      exact h v wr (by simpa using hown) ⟨rfl, rfl, rfl, Nat.le_refl _, fun _ _ _ => rfl⟩
    | some p =>
      refine wpList_append_own _ hgd s x 48 ho base 5 i _ 1 1 underBytes hi hz hsz hby rfl (by decide) v L.length (bys L) hs hown p M.length c (bys M) hx (by simp [bys_length]) ?_ (fun u hu => one_cells hu) ?_ ?_ hbase ?_
      · intro j u hj
        rcases hM with hM | ⟨b, off, e, hM⟩
        · rw [hM] at hj; simp at hj
        · obtain rfl := Option.some.inj e
          obtain ⟨hj', e'⟩ := List.getElem?_eq_some_iff.1 hj
          have := hM j hj'
          rw [e'] at this
          rw [← this, add_at]
      · simp only [maxLen]; omega
      · omega
      · intro v' w' h1 h2 _
        exact h v' w' (by unfold OwnsB; rw [bys_append, List.length_append]; exact h1) h2
theorem OwnsB.nil (w : World) (base : Nat) : OwnsB w base (.slice none 0 0) [] := by unfold OwnsB; exact World.ownsRow_nil w base 5 1
theorem cells_one (w : World) (x : UInt8) : Cells (w.alloc (.cells #[byV x] 5)) (some ⟨w.heap.size, 0, none⟩) (bys [x]) := by
  refine Or.inr ⟨_, 0, rfl, fun j hj => ?_⟩
  have : j = 0 := by simp [bys] at hj; omega
  subst this
  simp [bys]
theorem OwnsB.from {w : World} {base : Nat} {v : Value} {L : List UInt8} (h : OwnsB w base v L) : ∀ k, v.ownBlock = some k → base ≤ k := fun k hk => (h.lt k hk).1

theorem OwnsB.older {w : World} {base base' : Nat} {v : Value} {L : List UInt8} (h : OwnsB w base v L) (hb : base' ≤ base) : OwnsB w base' v L := by
  refine ⟨h.1, ?_⟩
  rcases h.2 with h' | ⟨g, cap, cur, rfl, hb', rest⟩
  · exact .inl h'
  · exact .inr ⟨g, cap, cur, rfl, by omega, rest⟩

theorem clone_k (a : Option Addr) (cap : Nat) (L : List UInt8) (w : World) (hc : Cells w a (bys L)) (hn : a = none → cap = 0) (hl : L.length ≤ 4194304) :
    Calls Tryd.prog 66 #[.slice a L.length cap] w fun e w' => ∃ v, e = .returned v ∧ OwnsB w' w.heap.size v L ∧ Keeps w w' := by
  have q22 : ∀ (w : World) (a : Option Addr) (n c : Nat), (binOp .eql 48 (.slice a n c) (.slice none 0 0)).run Tryd.prog w = .ok (.bool a.isNone) w := fun w a n c => Lib.run_eql_slice_nil w _ _ a n c 0 0 underBytes
  cases a with
  | none =>
    obtain rfl := hn rfl
    have h0 : L = [] := by
      rcases hc with h | ⟨_, _, e, _⟩
      · exact bys_nil.1 h
      · cases e
    subst h0
    clear hl hc hn
    go_enter Tryd.func66, Tryd.ntmps66
    go_wp2_with fail
    go_ret
    exact ⟨_, rfl, OwnsB.nil _ _, Keeps.refl _⟩
  | some p =>
    have HC := hide (hc.kept (Keeps.alloc (Keeps.refl w) (.cells #[] 5)))
    have HO := hide (World.ownsRow_made (base := w.heap.size) (e := 5) (size := 1) w #[] 0 (Nat.le_refl _) (by decide) rfl)
    have HL : Hid (([] : List UInt8).length + L.length ≤ 4194304) := by show _ ≤ _; simpa using hl
    clear hc hn hl
    go_enter Tryd.func66, Tryd.ntmps66
    go_wp2_with (at_builtin; refine app_bys rfl (.tmp 5) (.tmp 6) rfl w.heap.size _ [] L rfl (some p) cap rfl HC.out (fun e => nomatch e) HO.out HL.out (by simp) ?_; intro v' w' ho hg)
    go_ret
    refine ⟨_, rfl, by simpa using ho, ?_⟩
    exact Keeps.grown (Keeps.alloc (Keeps.refl w) _) hg (fun k hk => (HO.out.lt k hk).1)

/-- The digits of base 256, the highest first: the first k of s. -/
def digsTo (n s k : Nat) : List UInt8 := (List.range k).map fun i => UInt8.ofNat (n / 256 ^ (s - 1 - i))
def digs (n s : Nat) : List UInt8 := digsTo n s s
theorem digsTo_succ (n s k : Nat) : digsTo n s (k + 1) = digsTo n s k ++ [UInt8.ofNat (n / 256 ^ (s - 1 - k))] := by simp [digsTo, List.range_succ]
theorem digsTo_length (n s k : Nat) : (digsTo n s k).length = k := by simp [digsTo]
theorem digs_length (n s : Nat) : (digs n s).length = s := digsTo_length n s s
theorem pow_le6 {k : Nat} (h : k ≤ 6) : 256 ^ k ≤ 281474976710656 := Nat.le_trans (Nat.pow_le_pow_right (by decide) h) (by decide)

theorem pow_spec (s : Nat) (hs : s ≤ 7) (w : World) : Calls Tryd.prog 72 #[.int .i64 (s : Int)] w fun e w' => e = .returned (.int .i64 ((256 ^ s : Nat) : Int)) ∧ w' = w := by
  go_enter Tryd.func72, Tryd.ntmps72
  go_wp2_with fail
  go_loop [3, 4] (fun x y => ∃ k : Nat, k ≤ s ∧ x = .int .i64 ((256 ^ k : Nat) : Int) ∧ y = .int .i64 (k : Int)) (fun _ y => s - (intOf y).toNat)
  case atStart => exact ⟨0, by omega, rfl, rfl⟩
  case round =>
    obtain ⟨k, hk, rfl, rfl⟩ := hrel
    by_cases hlt : k < s
    · have hp := pow_le6 (k := k) (by omega)
      have HN : Hid (256 ^ (k + 1) = 256 ^ k * 256) := Nat.pow_succ ..
      generalize 256 ^ k = p at *
      go_wp2_with fail
      go_round
      case rel => exact ⟨k + 1, by omega, by rw [HN.out]; go_num, by go_num⟩
      case measure => simp [intOf]; omega
    · have e : k = s := by omega
      subst e
      go_wp2_with fail
      go_ret
      exact ⟨rfl, rfl⟩

theorem sizeok_k (s : Int) (w : World) : Calls Tryd.prog 78 #[.int .i64 s] w fun e w' => e = .returned (.bool (decide (1 ≤ s) && decide (s ≤ 7))) ∧ w' = w := by
  by_cases h1 : 1 ≤ s
  · have H : Hid ((decide (1 ≤ s) && decide (s ≤ 7)) = decide (s ≤ 7)) := by show _ = _; rw [decide_eq_true h1, Bool.true_and]
    go_enter Tryd.func78, Tryd.ntmps78
    go_wp2
    go_ret
    exact ⟨ret_b H.out.symm, rfl⟩
  · have H : Hid ((decide (1 ≤ s) && decide (s ≤ 7)) = false) := by show _ = _; rw [decide_eq_false h1, Bool.false_and]
    go_enter Tryd.func78, Tryd.ntmps78
    go_wp2
    go_ret
    exact ⟨ret_b H.out.symm, rfl⟩

/-- Is there a text of size bytes for n? -/
def putB (n size : Int) : Bool := decide (1 ≤ size) && decide (size ≤ 7) && decide (0 ≤ n) && decide (n < ((256 ^ size.toNat : Nat) : Int))
def putL (L : List UInt8) (n size : Int) : List UInt8 := if putB n size = true then L ++ digs n.toNat size.toNat else []

theorem digV (n j : Nat) : byV (UInt8.ofNat (n / 256 ^ j)) = .int .u8 ((n : Int) / 2 ^ (8 * j) % 256) := by
  rw [byV_ofNat]
  congr 1
  rw [show (2 : Int) ^ (8 * j) = ((2 ^ (8 * j) : Nat) : Int) by simp, Nat.pow_mul]
  rfl
end Go.Proofs.YtkdnddckogbgaaaDoor
