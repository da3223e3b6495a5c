/- Sectors: what the laws do with them, and SectorOk, the program's and the model's. -/
import Derived.Test.YtmkhlhjggbencaaDoorCLogRead1
import Derived.Lib.AppendZeros
import Derived.Deep.RegionWith
import Derived.WalkLawsBesides
import Derived.Deep.RegionHeld3
import Derived.Deep.DrawnRows
import Derived.Tactics2
import Derived.Defers
import Derived.Recover
import Derived.Laws.Pointers
namespace Go.Proofs.YtmkhlhjggbencaaDoor
open Go.RowKit Go.Deep Go.ChangeShapes Go.WideShapes
set_option linter.unusedVariables false
set_option maxRecDepth 10000

abbrev secV (q e : Int) (a : Option Addr) (len cap : Nat) : Value := .agg #[.int .i64 q, .int .i64 e, .slice a len cap]
/-- Is the sector right? -/
def secB (q e : Int) (len : Nat) : Bool := decide (0 ≤ q) && decide (q < 600) && decide (1 ≤ e) && decide (e ≤ 16000000) && decide (len ≤ 100)
theorem secok_spec (q e : Int) (a : Option Addr) (len cap : Nat) (w : World) (hl : len ≤ 9223372036854775807) : Calls Tryd.prog 59 #[.agg #[.int .i64 q, .int .i64 e, .slice a len cap]] w fun x w' => x = .returned (.bool (secB q e len)) ∧ Keeps w w' := by
  by_cases h0 : 0 ≤ q
  · by_cases h1 : q < 600
    · by_cases h2 : 1 ≤ e
      · by_cases h3 : e ≤ 16000000
        · by_cases h4 : (len : Int) ≤ 100
          · have H : Hid (secB q e len = true) := by show _ = _; simp only [secB, decide_eq_true h0, decide_eq_true h1, decide_eq_true h2, decide_eq_true h3, decide_eq_true (show len ≤ 100 by omega), Bool.and_self]
            go_enter Tryd.func59, Tryd.ntmps59
            go_wp2
            go_ret
            exact ⟨ret_b H.out.symm, Keeps.alloc (Keeps.refl _) _⟩
          · have H : Hid (secB q e len = false) := by show _ = _; simp only [secB]; simp; omega
            go_enter Tryd.func59, Tryd.ntmps59
            go_wp2
            go_ret
            exact ⟨ret_b H.out.symm, Keeps.alloc (Keeps.refl _) _⟩
        · have H : Hid (secB q e len = false) := by show _ = _; simp only [secB]; simp; omega
          go_enter Tryd.func59, Tryd.ntmps59
          go_wp2
          go_ret
          exact ⟨ret_b H.out.symm, Keeps.alloc (Keeps.refl _) _⟩
      · have H : Hid (secB q e len = false) := by show _ = _; simp only [secB]; simp; omega
        go_enter Tryd.func59, Tryd.ntmps59
        go_wp2
        go_ret
        exact ⟨ret_b H.out.symm, Keeps.alloc (Keeps.refl _) _⟩
    · have H : Hid (secB q e len = false) := by show _ = _; simp only [secB]; simp; omega
      go_enter Tryd.func59, Tryd.ntmps59
      go_wp2
      go_ret
      exact ⟨ret_b H.out.symm, Keeps.alloc (Keeps.refl _) _⟩
  · have H : Hid (secB q e len = false) := by show _ = _; simp only [secB]; simp; omega
    go_enter Tryd.func59, Tryd.ntmps59
    go_wp2
    go_ret
    exact ⟨ret_b H.out.symm, Keeps.alloc (Keeps.refl _) _⟩
theorem secok_impl (q e : Int) (a : Option Addr) (len cap : Nat) (w : World) (hl : len ≤ 9223372036854775807) : Calls Tryd.prog 75 #[.agg #[.int .i64 q, .int .i64 e, .slice a len cap]] w fun x w' => x = .returned (.bool (secB q e len)) ∧ Keeps w w' := by
  by_cases h0 : 0 ≤ q
  · by_cases h1 : q < 600
    · by_cases h2 : 1 ≤ e
      · by_cases h3 : e ≤ 16000000
        · by_cases h4 : (len : Int) ≤ 100
          · have H : Hid (secB q e len = true) := by show _ = _; simp only [secB, decide_eq_true h0, decide_eq_true h1, decide_eq_true h2, decide_eq_true h3, decide_eq_true (show len ≤ 100 by omega), Bool.and_self]
            go_enter Tryd.func75, Tryd.ntmps75
            go_wp2
            go_ret
            exact ⟨ret_b H.out.symm, Keeps.alloc (Keeps.refl _) _⟩
          · have H : Hid (secB q e len = false) := by show _ = _; simp only [secB]; simp; omega
            go_enter Tryd.func75, Tryd.ntmps75
            go_wp2
            go_ret
            exact ⟨ret_b H.out.symm, Keeps.alloc (Keeps.refl _) _⟩
        · have H : Hid (secB q e len = false) := by show _ = _; simp only [secB]; simp; omega
          go_enter Tryd.func75, Tryd.ntmps75
          go_wp2
          go_ret
          exact ⟨ret_b H.out.symm, Keeps.alloc (Keeps.refl _) _⟩
      · have H : Hid (secB q e len = false) := by show _ = _; simp only [secB]; simp; omega
        go_enter Tryd.func75, Tryd.ntmps75
        go_wp2
        go_ret
        exact ⟨ret_b H.out.symm, Keeps.alloc (Keeps.refl _) _⟩
    · have H : Hid (secB q e len = false) := by show _ = _; simp only [secB]; simp; omega
      go_enter Tryd.func75, Tryd.ntmps75
      go_wp2
      go_ret
      exact ⟨ret_b H.out.symm, Keeps.alloc (Keeps.refl _) _⟩
  · have H : Hid (secB q e len = false) := by show _ = _; simp only [secB]; simp; omega
    go_enter Tryd.func75, Tryd.ntmps75
    go_wp2
    go_ret
    exact ⟨ret_b H.out.symm, Keeps.alloc (Keeps.refl _) _⟩

theorem row_new (w : World) (c : Array Value) (t : TypeId) : (w.alloc (.cells c t)).rowIs w.heap.size t c.size (fun i => c.getD i (.int .i64 0)) :=
  World.rowIs_alloc w c t _ (fun i hi => by simp [Array.getD, hi])
theorem Keeps.row {w w' : World} (hk : Keeps w w') {b : Nat} {t : TypeId} {n : Nat} {f : Nat → Value} (h : w.rowIs b t n f) : w'.rowIs b t n f := h.of_block (Below.block hk b h.lt)
theorem eqBytes_k (a a' : Option Addr) (cap cap' : Nat) (L : List UInt8) (w : World) (hc : Cells w a (bys L)) (hc' : Cells w a' (bys L)) (hl : L.length ≤ 16777216) :
    Calls Tryd.prog 49 #[.slice a L.length cap, .slice a' L.length cap'] w fun e w' => e = .returned (.bool true) ∧ Keeps w w' := by
  have h := eqByteS_k a a' cap cap' L L w hc hc' hl hl
  rw [decide_eq_true rfl] at h
  exact h
theorem eqSector_k (q e : Int) (a a' : Option Addr) (cap cap' : Nat) (L : List UInt8) (w : World) (hc : Cells w a (bys L)) (hc' : Cells w a' (bys L)) (hl : L.length ≤ 16777216) :
    Calls Tryd.prog 30 #[secV q e a L.length cap, secV q e a' L.length cap'] w fun x w' => x = .returned (.bool true) ∧ Keeps w w' := by
  have HKA := hide (Keeps.alloc (Keeps.alloc (Keeps.refl w) (.cells #[.int .i64 q, .int .i64 e, .slice a L.length cap] 52)) (.cells #[.int .i64 q, .int .i64 e, .slice a' L.length cap'] 52))
  have HQ := hide (eqBytes_k a a' cap cap' L _ (hc.kept HKA.out) (hc'.kept HKA.out) hl)
  clear hc hc' hl
  go_enter Tryd.func30, Tryd.ntmps30
  go_wp2_with fail
  refine (unhide HQ).mono ?_
  rintro x w1 ⟨rfl, hk⟩
  replace HKA := hide (HKA.out.trans hk)
  clear hk
  go_wp2_with fail
  go_ret
  exact ⟨rfl, HKA.out⟩
section
variable {H : Type} {enc : TypeId × Value → H} {W : World} {base : Nat} {sp : Nat → Bool} {hd : Bool} {v : Value} {d : DataW H} {ps : List MemPlace}
end
end Go.Proofs.YtmkhlhjggbencaaDoor

/- append(b, make([]byte, n)...) onto a list of the call's own. -/
namespace Go.Proofs.YtmkhlhjggbencaaDoor
open Go.RowKit Go.Deep
set_option linter.unusedVariables false
set_option maxRecDepth 10000

theorem zeroCells_one (z : Value) (m : Nat) : (Builtin.zeroCells #[z] m).toList = List.replicate m z := by
  apply List.ext_getElem?
  intro i
  by_cases h : i < m
  · simp [Builtin.zeroCells, h, Nat.mod_one]
  · simp [Builtin.zeroCells, h]
theorem run_append_zeros {P : Program} (w : World) (base : Nat) (t tn ty e : TypeId) (i : TypeInfo) (z : Value) (k kn : IntKind) (ht : P.underlying t = some (.slice e)) (htn : P.underlying tn = some (.int kn)) (hi : P.info? e = some i) (hz : i.zero = some z)
    (hsize : i.size = 1) (hby : i.bytes = 1) (hzc : z.cells = #[z]) (h1 : z.oneCell' = true) (v : Value) (n : Nat) (xs : List Value) (hown : w.ownsRow base e 1 v n xs) (m : Nat) (hm : 0 < m) (hn : 0 < n) (hl : n + m ≤ 4194304) (hbase : base ≤ w.heap.size) :
    ∃ v' w', (Builtin.append_ #[t, tn] ty #[v, .int k (m : Int)]).run P w = .ok v' w' ∧ w'.ownsRow base e 1 v' (n + m) (xs ++ List.replicate m z) ∧ w.grownBy w' v.ownBlock := by
  have hlen : (xs ++ List.replicate m z).length = (n + m) * 1 := by rw [List.length_append, hown.1]; simp
  have hw : IntKind.i64.wrap (m : Int) = m := by rw [IntKind.wrap_i64]; omega
  have hneg : ¬ ((m : Int) < 0) := by omega
  have hm0 : m ≠ 0 := by omega
  have h48 : ¬ (281474976710656 < (m : Int)) := by omega
  rcases hown.2 with ⟨rfl, h0⟩ | ⟨g, cap, cur, rfl, hbg, hg, hnc, hcm, hcs, htake⟩
  · omega
  · by_cases hroom : n + m ≤ cap
    · have hst := run_storeCells_at P g n e (List.replicate m z) 0 cur w hg (by simp; omega) (by intro u hu; rw [(List.mem_replicate.1 hu).2]; exact h1)
      simp only [Nat.add_zero, List.length_replicate] at hst
      refine ⟨.slice (some ⟨g, 0, none⟩) (n + m) cap, w.setRow g (cur.toList.take n ++ List.replicate m z ++ cur.toList.drop (n + m)).toArray, ?_, ⟨hlen, .inr ⟨g, cap, _, rfl, hbg, setRow_heap w g cur _ e _ hg, hroom, hcm, ?_, ?_⟩⟩, ⟨rfl, rfl, rfl, by simp, fun k _ hk => setRow_other w g k _ (fun e => hk (by simp [Value.ownBlock, e]))⟩⟩
      · simp [Builtin.append_, run_underlying ht, run_underlying htn, sizeOf, typeInfo, zeroValue, hi, hz, hsize, hby, hzc, asInt, asIntOf, hw, hneg, hm0, h48, hroom, Addr.add_lit, zeroCells_one, hst]
      · simp only [List.size_toArray, List.length_append, List.length_take, List.length_drop, Array.length_toList, List.length_replicate]
        omega
      · rw [Nat.mul_one] at htake
        rw [htake, ← hlen]
        exact List.take_left
    · have holds : ∀ j u, xs[j]? = some u → w.cell? ((⟨g, 0, none⟩ : Addr).add j) = some u := hown.cells (g := g) rfl
      have hfo := run_firstCells_some (P := P) w.drew 1 n ⟨g, 0, none⟩ n cap xs hown.1 (by simpa using holds)
      have h63' : ¬ (9223372036854775807 < ((n : Int) + (m : Int))) := by omega
      have hfit := growslice_fits (need := n + m) (old := cap) (bytes := 1) (by omega) (by omega)
      have h48' : ¬ (281474976710656 < Builtin.nextslicecap (n + m) cap) := by omega
      have hge := grownCap_ge w (n + m) cap e
      have hcm' : grownCap w (n + m) cap e ≤ maxLen := grownCap_le_maxLen w (n + m) cap e (by simp only [maxLen]; omega)
      refine ⟨.slice (some ⟨w.heap.size, 0, none⟩) (n + m) (grownCap w (n + m) cap e), w.drew.alloc (.cells (xs.toArray ++ (List.replicate m z).toArray ++ Builtin.zeroCells z.cells (grownCap w (n + m) cap e - (n + m))) e), ?_, ⟨hlen, .inr ⟨w.heap.size, _, _, rfl, hbase, heap_alloc_new w.drew _, hge, hcm', ?_, ?_⟩⟩, ⟨rfl, rfl, rfl, by simp, fun k hk _ => blk_alloc_lt w.drew _ k hk⟩⟩
      · simp [Builtin.append_, run_underlying ht, run_underlying htn, sizeOf, typeInfo, zeroValue, hi, hz, hsize, hby, hzc, asInt, asIntOf, hw, hneg, hm0, h48, hroom, h63', h48', Question.forced, hfo, newRow, grownCap]
        congr 2
        apply Array.ext'
        simp [zeroCells_one]
      · simp only [Array.size_append, List.size_toArray, size_zeroCells, hzc, hown.1, List.length_replicate]
        simp
        omega
      · simp only [Array.toList_append, List.append_assoc]
        rw [← List.append_assoc, ← hlen]
        exact List.take_left
theorem bys_zeros (m : Nat) : bys (List.replicate m 0) = List.replicate m (.int .u8 0) := by simp [bys, byV]
theorem app_zeros {ops : Array Oper} {rest : List Oper} {o : Oper} {a : Act} {Q : Exit → Act → World → Prop} {wr : World} (hgd : o.guard = none) (s x : Operand)
    (ho : o.op = .call { callee := .builtin .append, args := #[s, x], argTypes := #[48, 3] }) (base : Nat) (v : Value) (L : List UInt8) (m : Nat) (hs : a.eval s = v)
    (zi : Int) (hx : a.eval x = .int .i64 zi) (hzi : zi = (m : Int)) (hm : 0 < m) (hn : 0 < L.length) (hown : OwnsB wr base v L) (hl : L.length + m ≤ 4194304) (hbase : base ≤ wr.heap.size)
    (h : ∀ v' w', OwnsB w' base v' (L ++ List.replicate m 0) → wr.grownBy w' v.ownBlock → wpList Tryd.prog ops Q rest (a.put o.dst v') w') :
    wpList Tryd.prog ops Q (o :: rest) a wr := by
  subst hzi
  have hI := infoByte
  cases hi : Tryd.prog.info? 5 with
  | none => rw [hi] at hI; simp at hI
  | some i =>
    rw [hi] at hI
    simp at hI
    obtain ⟨hz, hsz, hby⟩ := hI
    obtain ⟨v', w', hr, h2, h3⟩ := run_append_zeros wr base 48 3 o.type 5 i _ .i64 .i64 underBytes Tryd.underlying3 hi hz hsz hby rfl rfl v L.length (bys L) hown m hm hn hl hbase
    refine Lib.wpList_append_run wr hgd s x _ _ ho _ _ hs hx v' w' hr (h v' w' ?_ h3)
    unfold OwnsB
    rw [bys_append, List.length_append, bys_zeros, List.length_replicate]
    exact h2
end Go.Proofs.YtmkhlhjggbencaaDoor

/- Contracts of PutNum, the program's and the model's. -/
namespace Go.Proofs.YtmkhlhjggbencaaDoor
open Go.RowKit Go.Deep
set_option linter.unusedVariables false
set_option maxRecDepth 10000

theorem putB_size {n size : Int} (h : ¬ (1 ≤ size ∧ size ≤ 7)) : putB n size = false := by
  unfold putB
  by_cases h1 : 1 ≤ size
  · have h2 : ¬ size ≤ 7 := fun h2 => h ⟨h1, h2⟩
    simp [h2]
  · simp [h1]
theorem putB_neg {n size : Int} (h : n < 0) : putB n size = false := by unfold putB; simp; omega
theorem putB_great {n : Int} {s : Nat} (h : ((256 ^ s : Nat) : Int) ≤ n) : putB n s = false := by
  unfold putB
  rw [Int.toNat_natCast, decide_eq_false (show ¬ n < ((256 ^ s : Nat) : Int) by omega), Bool.and_false]
theorem putB_yes {n : Int} {s : Nat} (h1 : 1 ≤ s) (h2 : s ≤ 7) (h0 : 0 ≤ n) (h : n < ((256 ^ s : Nat) : Int)) : putB n s = true := by
  unfold putB
  rw [Int.toNat_natCast, decide_eq_true h, decide_eq_true h0]
  simp; omega
theorem pow_le7 {s : Nat} (h : s ≤ 7) : 256 ^ s ≤ 72057594037927936 := Nat.le_trans (Nat.pow_le_pow_right (by decide) h) (by decide)
def PutPost (w : World) (L : List UInt8) (n size : Int) (e : Ending) (w' : World) : Prop := ∃ v, e = .returned (.tuple #[v, .bool (putB n size)]) ∧ OwnsB w' w.heap.size v (putL L n size) ∧ Keeps w w'
theorem PutPost.no {w w' : World} {L : List UInt8} {n size : Int} (h : putB n size = false) (hk : Keeps w w') : PutPost w L n size (.returned (.tuple #[.slice none 0 0, .bool false])) w' :=
  ⟨_, by rw [h], by unfold putL; rw [h]; exact OwnsB.nil _ _, hk⟩
theorem PutPost.yes {w w' : World} {L : List UInt8} {n s : Nat} {v : Value} (h : putB n s = true) (ho : OwnsB w' w.heap.size v (L ++ digs n s)) (hk : Keeps w w') : PutPost w L n s (.returned (.tuple #[v, .bool true])) w' :=
  ⟨_, by rw [h], by unfold putL; rw [if_pos h]; exact ho, hk⟩

set_option maxHeartbeats 1000000 in
theorem putnum_spec (a : Option Addr) (cap : Nat) (L : List UInt8) (n size : Int) (w : World) (hc : Cells w a (bys L)) (hn : a = none → cap = 0) (hl : L.length ≤ 2097152) (hw : n < 9223372036854775808) :
    Calls Tryd.prog 60 #[.slice a L.length cap, .int .i64 n, .int .i64 size] w (PutPost w L n size) := by
  by_cases hs : 1 ≤ size ∧ size ≤ 7
  · obtain ⟨s, rfl⟩ : ∃ s : Nat, size = s := ⟨size.toNat, by omega⟩
    have hs1 : 1 ≤ s := by omega
    have hs2 : s ≤ 7 := by omega
    have HS := hide (fun w1 => pow_spec s hs2 w1)
    clear hs
    by_cases h0 : n < 0
    · have HN := hide (putB_neg (size := s) h0)
      clear hc hn hl hw
      go_enter Tryd.func60, Tryd.ntmps60
      go_wp2_with (go_at_call 72; refine (unhide HS _).mono ?_; rintro e w' ⟨rfl, hw'⟩; obtain rfl := Eq.symm hw')
      go_ret2
      exact PutPost.no HN.out (Keeps.refl _)
    · have hp := pow_le7 hs2
      by_cases hlt : n < ((256 ^ s : Nat) : Int)
      · have HB := hide (putB_yes hs1 hs2 (by omega) hlt)
        obtain ⟨m, rfl⟩ : ∃ m : Nat, n = m := ⟨n.toNat, by omega⟩
        have HC := hide (hc.kept (Keeps.alloc (Keeps.refl w) (.cells #[] 5)))
        have HO := hide (World.ownsRow_made (base := w.heap.size) (e := 5) (size := 1) w #[] 0 (Nat.le_refl _) (by decide) rfl)
        have HH := hide hn
        have HL : Hid (([] : List UInt8).length + L.length ≤ 4194304) := by show _ ≤ _; simp; omega
        have HLL := hide hl
        clear hc hn hw hl
        have HLt := hide hlt
        clear hlt
        generalize hP : 256 ^ s = p at *
        have hlt : (m : Int) < p := HLt.out
        have HP := hide hP
        clear hP
        go_enter Tryd.func60, Tryd.ntmps60
        go_wp2_with (first
          | (go_at_call 72; refine (unhide HS _).mono ?_; rintro e w' ⟨rfl, hw'⟩; obtain rfl := Eq.symm hw')
          | (at_builtin; refine app_bys rfl (.tmp 26) (.tmp 27) rfl w.heap.size _ [] L rfl a cap rfl HC.out HH.out HO.out HL.out (by simp) ?_; intro v1 w1 ho1 hg1))
        have HO1 : Hid (OwnsB w1 w.heap.size v1 L) := by show OwnsB _ _ _ _; simpa using ho1
        have HK1 := hide (Keeps.grown (Keeps.alloc (Keeps.refl w) (.cells #[] 5)) hg1 (fun k hk => (HO.out.lt k hk).1))
        have hm2 : m ≤ 72057594037927936 := by omega
        clear ho1 hg1 HLt hlt
        go_loopw [8, 9] (fun x y wr => ∃ k : Nat, k ≤ s ∧ y = .int .i64 ((s : Int) - 1 - k) ∧ Hid (OwnsB wr w.heap.size x (L ++ digsTo m s k)) ∧ Hid (Keeps w wr)) (fun _ y _ => (intOf y + 1).toNat)
        case atStart => exact ⟨0, by omega, by simp, by show OwnsB _ _ _ _; simpa [digsTo] using HO1.out, HK1⟩
        case round =>
          obtain ⟨k, hk, rfl, HOr, HKr⟩ := hrel
          by_cases hlt : k < s
          · have HW := hide (fun w1 => pow_spec (s - 1 - k) (by omega) w1)
            rw [show ((s - 1 - k : Nat) : Int) = (s : Int) - 1 - k by omega] at HW
            have hq1 : 1 ≤ 256 ^ (s - 1 - k) := Nat.one_le_pow _ _ (by decide)
            have hq2 := pow_le6 (k := s - 1 - k) (by omega)
            generalize hQ : 256 ^ (s - 1 - k) = q at *
            have HQ := hide hQ
            clear hQ
            have hd0 : (0 : Int) ≤ (m : Int) / (q : Int) := Int.ediv_nonneg (by omega) (by omega)
            have hd1 : (m : Int) / (q : Int) ≤ 72057594037927936 := Int.le_trans (Int.ediv_le_self _ (by omega)) (by omega)
            have HL2 : Hid ((L ++ digsTo m s k).length + [UInt8.ofNat (m / q)].length ≤ 4194304) := by have := HLL.out; show _ ≤ _; simp [digsTo_length]; omega
            have HC1 : Hid (Cells (wr.alloc (.cells #[.int .u8 ((m : Int) / (q : Int) % 256)] 5)) (some ⟨wr.heap.size, 0, none⟩) (bys [UInt8.ofNat (m / q)])) := by
              show Cells _ _ _
              rw [← Int.natCast_ediv, ← byV_ofNat]
              exact cells_one wr _
            have HO2 := hide (HOr.out.alloc (.cells #[.int .u8 ((m : Int) / (q : Int) % 256)] 5))
            have HK2 := hide (Keeps.alloc HKr.out (.cells #[.int .u8 ((m : Int) / (q : Int) % 256)] 5))
            go_wp2_with (first
              | (go_at_call 72; refine (unhide HW _).mono ?_; rintro e w' ⟨rfl, hw'⟩; obtain rfl := Eq.symm hw')
              | (at_builtin; refine app_bys rfl (.tmp 35) (.tmp 42) rfl w.heap.size _ (L ++ digsTo m s k) [UInt8.ofNat (m / q)] rfl (some ⟨wr.heap.size, 0, none⟩) 1 rfl HC1.out (fun e => nomatch e) HO2.out HL2.out (by have := HKr.out.size; simp; omega) ?_; intro v' w' ho hg))
            go_roundw
            case rel =>
              refine ⟨k + 1, by omega, by congr 1; omega, ?_, Keeps.grown HK2.out hg (fun j hj => (HO2.out.lt j hj).1)⟩
              show OwnsB _ _ _ _
              rw [digsTo_succ, ← List.append_assoc, HQ.out]; exact ho
            case measure => simp [intOf]; omega
          · have e : k = s := by omega
            subst e
            go_wp2_with fail
            go_ret2
            exact PutPost.yes HB.out HOr.out HKr.out
      · have HN := hide (putB_great (n := n) (s := s) (by omega))
        clear hc hn hl hw
        generalize 256 ^ s = p at *
        go_enter Tryd.func60, Tryd.ntmps60
        go_wp2_with (go_at_call 72; refine (unhide HS _).mono ?_; rintro e w' ⟨rfl, hw'⟩; obtain rfl := Eq.symm hw')
        go_ret2
        exact PutPost.no HN.out (Keeps.refl _)
  · have HN := hide (putB_size (n := n) hs)
    clear hc hn hl hw
    by_cases h1 : size < 1
    · clear hs
      go_enter Tryd.func60, Tryd.ntmps60
      go_wp2_with fail
      go_ret2
      exact PutPost.no HN.out (Keeps.refl _)
    · have h2 : 7 < size := by omega
      clear hs
      go_enter Tryd.func60, Tryd.ntmps60
      go_wp2_with fail
      go_ret2
      exact PutPost.no HN.out (Keeps.refl _)
theorem putL_len (L : List UInt8) (n size : Int) (h : L.length ≤ 1048576) : (putL L n size).length ≤ 16777216 := by
  unfold putL
  split
  · rename_i hb
    have : size ≤ 7 := by
      simp only [putB, Bool.and_eq_true, decide_eq_true_eq] at hb
      exact hb.1.1.2
    rw [List.length_append, digs_length]
    omega
  · simp
end Go.Proofs.YtmkhlhjggbencaaDoor

/- SectorBytes, the program's and the model's. -/
namespace Go.Proofs.YtmkhlhjggbencaaDoor
open Go.RowKit Go.Deep
set_option linter.unusedVariables false
set_option maxRecDepth 10000

/-- The bytes of a sector. -/
def secL (q e : Nat) (L : List UInt8) : List UInt8 := [74] ++ digs q 3 ++ digs e 3 ++ digs L.length 1 ++ L ++ List.replicate (114 - L.length) 0 ++ digs q 3 ++ digs e 3
def secR (q e : Int) (L : List UInt8) : List UInt8 := if secB q e L.length = true then secL q.toNat e.toNat L else []
theorem secL_length {q e : Nat} {L : List UInt8} (h : L.length ≤ 100) : (secL q e L).length = 128 := by
  simp [secL, digs_length]; omega
theorem secR_length (q e : Int) (L : List UInt8) : (secR q e L).length ≤ 128 := by
  unfold secR
  split
  · rename_i h
    simp only [secB, Bool.and_eq_true, decide_eq_true_eq] at h
    rw [secL_length h.2]; exact Nat.le_refl _
  · simp
def SecPost (w : World) (q e : Int) (L : List UInt8) (x : Ending) (w' : World) : Prop := ∃ v, x = .returned (.tuple #[v, .bool (secB q e L.length)]) ∧ OwnsB w' w.heap.size v (secR q e L) ∧ Keeps w w'
theorem SecPost.no {w w' : World} {q e : Int} {L : List UInt8} (h : secB q e L.length = false) (hk : Keeps w w') : SecPost w q e L (.returned (.tuple #[.slice none 0 0, .bool false])) w' :=
  ⟨_, by rw [h], by unfold secR; rw [h]; exact OwnsB.nil _ _, hk⟩
theorem SecPost.yes {w w' : World} {q e : Nat} {L : List UInt8} {v : Value} (h : secB q e L.length = true) (ho : OwnsB w' w.heap.size v (secL q e L)) (hk : Keeps w w') : SecPost w q e L (.returned (.tuple #[v, .bool true])) w' :=
  ⟨_, by rw [h], by unfold secR; rw [if_pos h]; exact ho, hk⟩
theorem OwnsB.alloc {w : World} {base : Nat} {v : Value} {L : List UInt8} (h : OwnsB w base v L) (o : Obj) : OwnsB (w.alloc o) base v L := World.ownsRow.alloc h o
theorem secB_true {q e : Int} {n : Nat} (h : secB q e n = true) : 0 ≤ q ∧ q < 600 ∧ 1 ≤ e ∧ e ≤ 16000000 ∧ n ≤ 100 := by
  simp only [secB, Bool.and_eq_true, decide_eq_true_eq] at h
  exact ⟨h.1.1.1.1, h.1.1.1.2, h.1.1.2, h.1.2, h.2⟩
theorem make_sec (w : World) : (Instr.makeSlice 48 (.int .i64 0) (.int .i64 128)).run Tryd.prog w = .ok (.slice (some ⟨w.heap.size, 0, none⟩) 0 128) (w.alloc (.cells (madeCells #[.int .u8 0] 128) 5)) := by
  have hI := infoByte
  cases hi : Tryd.prog.info? 5 with
  | none => rw [hi] at hI; simp at hI
  | some i =>
    rw [hi] at hI
    simp at hI
    obtain ⟨hz, hs, hb⟩ := hI
    have h := run_make (P := Tryd.prog) w 48 5 i _ underBytes hi hz .i64 .i64 0 128 (by omega) (by omega) (by rw [hb]; omega) (by omega)
    rw [hs] at h
    exact h

end Go.Proofs.YtmkhlhjggbencaaDoor

/- Events as data: which fields a kind has, and when an event is right. -/
namespace Go.Proofs.YtmkhlhjggbencaaDoor
open Go.RowKit
set_option linter.unusedVariables false

/-- An event: kind, key, channel, the other channel, amount, fee, yes. -/
structure Ev where
  k : Int
  y : Int
  c : Int
  t : Int
  m : Int
  f : Int
  b : Bool
abbrev evV (k y c t m f : Int) (b : Bool) : Value := .agg #[.int .i64 k, .int .i64 y, .int .i64 c, .int .i64 t, .int .i64 m, .int .i64 f, .bool b]
abbrev evCells (k y c t m f : Int) (b : Bool) : Array Value := #[.int .i64 k, .int .i64 y, .int .i64 c, .int .i64 t, .int .i64 m, .int .i64 f, .bool b]

def fieldB (h : Bool) (n lo hi : Int) : Bool := if h then decide (lo ≤ n) && decide (n ≤ hi) else decide (n = 0)
/-- Is the event right, kind by kind? -/
def evB (k y c t m f : Int) (b : Bool) : Bool :=
  if k = 1 then fieldB false y 1 1000000 && fieldB false c 1 99 && fieldB false t 1 99 && fieldB true m 1 1125899906842624 && fieldB false f 0 1125899906842624 && !b
  else if k = 2 then fieldB false y 1 1000000 && fieldB true c 1 99 && fieldB false t 1 99 && fieldB true m 1 1125899906842624 && fieldB true f 0 1125899906842624 && !b
  else if k = 3 then fieldB false y 1 1000000 && fieldB true c 1 99 && fieldB false t 1 99 && fieldB false m 1 1125899906842624 && fieldB true f 0 1125899906842624 && !b
  else if k = 4 then fieldB false y 1 1000000 && fieldB true c 1 99 && fieldB false t 1 99 && fieldB true m 0 1125899906842624 && fieldB true f 0 1000000 && !b
  else if k = 5 then fieldB true y 1 1000000 && fieldB true c 1 99 && fieldB true t 1 99 && !decide (c = t) && fieldB true m 1 1125899906842624 && fieldB false f 0 1125899906842624
  else if k = 8 then fieldB false y 1 1000000 && fieldB false c 1 99 && fieldB false t 1 99 && fieldB false m 1 1125899906842624 && fieldB false f 0 1125899906842624 && !b
  else if k = 9 then fieldB true y 1 1000000 && fieldB true c 1 99 && fieldB true t 1 99 && !decide (c = t) && fieldB true m 1 1125899906842624 && fieldB true f 0 1125899906842624 && !b
  else if k = 6 ∨ k = 7 ∨ k = 10 ∨ k = 11 then fieldB true y 1 1000000 && fieldB false c 1 99 && fieldB false t 1 99 && fieldB false m 1 1125899906842624 && fieldB false f 0 1125899906842624 && !b
  else false
end Go.Proofs.YtmkhlhjggbencaaDoor

/- The bytes of an event. -/
namespace Go.Proofs.YtmkhlhjggbencaaDoor
open Go.RowKit Go.Deep
set_option linter.unusedVariables false
set_option maxRecDepth 10000
set_option linter.unusedSimpArgs false

def yesL (b : Bool) : List UInt8 := if b then [1] else [0]
/-- The bytes of an event. -/
def bodyL (k y c t m f : Nat) (b : Bool) : List UInt8 := [69] ++ digs k 1 ++ digs y 3 ++ digs c 1 ++ digs t 1 ++ digs m 7 ++ digs f 7 ++ yesL b
def bodyR (k y c t m f : Int) (b : Bool) : List UInt8 := if evB k y c t m f b = true then bodyL k.toNat y.toNat c.toNat t.toNat m.toNat f.toNat b else []
theorem bodyL_length (k y c t m f : Nat) (b : Bool) : (bodyL k y c t m f b).length = 22 := by
  cases b <;> simp [bodyL, digs_length, yesL]
theorem bodyR_length (k y c t m f : Int) (b : Bool) : (bodyR k y c t m f b).length ≤ 22 := by
  unfold bodyR
  split
  · rw [bodyL_length]; exact Nat.le_refl _
  · simp
theorem fieldB_true {h : Bool} {n lo hi : Int} (hlo : 0 ≤ lo) (hhi : 0 ≤ hi) (hf : fieldB h n lo hi = true) : 0 ≤ n ∧ n ≤ hi := by
  cases h <;> simp [fieldB] at hf <;> omega
theorem evB_bounds {k y c t m f : Int} {b : Bool} (h : evB k y c t m f b = true) : (1 ≤ k ∧ k ≤ 11) ∧ (0 ≤ y ∧ y ≤ 1000000) ∧ (0 ≤ c ∧ c ≤ 99) ∧ (0 ≤ t ∧ t ≤ 99) ∧ (0 ≤ m ∧ m ≤ 1125899906842624) ∧ (0 ≤ f ∧ f ≤ 1125899906842624) := by
  unfold evB at h
  split at h
  · simp only [Bool.and_eq_true, fieldB, if_true, if_false, Bool.false_eq_true, decide_eq_true_eq] at h; omega
  · split at h
    · simp only [Bool.and_eq_true, fieldB, if_true, if_false, Bool.false_eq_true, decide_eq_true_eq] at h; omega
    · split at h
      · simp only [Bool.and_eq_true, fieldB, if_true, if_false, Bool.false_eq_true, decide_eq_true_eq] at h; omega
      · split at h
        · simp only [Bool.and_eq_true, fieldB, if_true, if_false, Bool.false_eq_true, decide_eq_true_eq] at h; omega
        · split at h
          · simp only [Bool.and_eq_true, fieldB, if_true, if_false, Bool.false_eq_true, decide_eq_true_eq] at h; omega
          · split at h
            · simp only [Bool.and_eq_true, fieldB, if_true, if_false, Bool.false_eq_true, decide_eq_true_eq] at h; omega
            · split at h
              · simp only [Bool.and_eq_true, fieldB, if_true, if_false, Bool.false_eq_true, decide_eq_true_eq] at h; omega
              · split at h
                · simp only [Bool.and_eq_true, fieldB, if_true, if_false, Bool.false_eq_true, decide_eq_true_eq] at h; omega
                · cases h
def BodyPost (w : World) (k y c t m f : Int) (b : Bool) (x : Ending) (w' : World) : Prop := ∃ v, x = .returned (.tuple #[v, .bool (evB k y c t m f b)]) ∧ OwnsB w' w.heap.size v (bodyR k y c t m f b) ∧ Keeps w w'
theorem BodyPost.no {w w' : World} {k y c t m f : Int} {b : Bool} (h : evB k y c t m f b = false) (hk : Keeps w w') : BodyPost w k y c t m f b (.returned (.tuple #[.slice none 0 0, .bool false])) w' :=
  ⟨_, by rw [h], by unfold bodyR; rw [h]; exact OwnsB.nil _ _, hk⟩
theorem BodyPost.yes {w w' : World} {k y c t m f : Nat} {b : Bool} {v : Value} (h : evB k y c t m f b = true) (ho : OwnsB w' w.heap.size v (bodyL k y c t m f b)) (hk : Keeps w w') : BodyPost w k y c t m f b (.returned (.tuple #[v, .bool true])) w' :=
  ⟨_, by rw [h], by unfold bodyR; rw [if_pos h]; exact ho, hk⟩
theorem OwnsB.allocE {w : World} {base : Nat} {v : Value} {L : List UInt8} (h : OwnsB w base v L) (o : Obj) : OwnsB (w.alloc o) base v L := World.ownsRow.alloc h o
theorem make_22 (w : World) : (Instr.makeSlice 48 (.int .i64 0) (.int .i64 22)).run Tryd.prog w = .ok (.slice (some ⟨w.heap.size, 0, none⟩) 0 22) (w.alloc (.cells (madeCells #[.int .u8 0] 22) 5)) := by
  have hI := infoByte
  cases hi : Tryd.prog.info? 5 with
  | none => rw [hi] at hI; simp at hI
  | some i =>
    rw [hi] at hI
    simp at hI
    obtain ⟨hz, hs, hb⟩ := hI
    have h := run_make (P := Tryd.prog) w 48 5 i _ underBytes hi hz .i64 .i64 0 22 (by omega) (by omega) (by rw [hb]; omega) (by omega)
    rw [hs] at h
    exact h
theorem digs_one (n : Nat) : digs n 1 = [UInt8.ofNat n] := by simp [digs, digsTo]
theorem put_good (a : Option Addr) (cap : Nat) (L : List UInt8) (n s : Nat) (w : World) (hc : Cells w a (bys L)) (hn : a = none → cap = 0) (hl : L.length ≤ 2097152) (h1 : 1 ≤ s) (h2 : s ≤ 7) (hb : n < 256 ^ s) :
    Calls Tryd.prog 60 #[.slice a L.length cap, .int .i64 (n : Int), .int .i64 (s : Int)] w fun x w' => ∃ v, x = .returned (.tuple #[v, .bool true]) ∧ OwnsB w' w.heap.size v (L ++ digs n s) ∧ Keeps w w' := by
  have hp : putB n s = true := putB_yes h1 h2 (by omega) (by omega)
  have h7 := pow_le7 h2
  refine (putnum_spec a cap L n s w hc hn hl (by omega)).mono ?_
  rintro x w' ⟨v, rfl, ho, hk⟩
  refine ⟨v, by rw [hp], ?_, hk⟩
  unfold putL at ho
  rw [if_pos hp] at ho
  exact ho
theorem cells_two (w : World) (x y : UInt8) : Cells (w.alloc (.cells #[byV x, byV y] 5)) (some ⟨w.heap.size, 0, none⟩) (bys [x, y]) := by
  refine Or.inr ⟨_, 0, rfl, fun j hj => ?_⟩
  have hj2 : j < 2 := by simpa [bys] using hj
  match j, hj2 with
  | 0, _ => simp [bys]
  | 1, _ => simp [bys]
theorem nat_byte {n : Nat} (h : n < 256) : byV (UInt8.ofNat n) = .int .u8 (n : Int) := by rw [byV_ofNat]; congr 1; omega
end Go.Proofs.YtmkhlhjggbencaaDoor

/- A reader of bytes that gives up by a panic: insist. -/
namespace Go.Proofs.YtmkhlhjggbencaaDoor
open Go.RowKit Go.Deep
set_option linter.unusedVariables false
set_option maxRecDepth 10000

theorem insist_yes (w : World) : Calls Tryd.prog 69 #[.bool true] w fun e w' => e = .returned (.tuple #[]) ∧ w' = w := by
  go_enter Tryd.func69, Tryd.ntmps69
  go_wp2
  go_end0
  exact ⟨rfl, rfl⟩
theorem insist_no (w : World) (u : TypeId) (pv : Value) (hv : w.cell? ⟨0, 0, none⟩ = some (.iface u pv)) : Calls Tryd.prog 69 #[.bool false] w fun e w' => e = .panicked [{ v := .iface u pv, recovered := false }] ∧ w' = w := by
  go_enter Tryd.func69, Tryd.ntmps69
  go_wp2
  exact ⟨rfl, rfl, rfl⟩
/-- A reader: its bytes and its place. -/
structure Rd (w : World) (B : Nat) (a : Option Addr) (L : List UInt8) (cap : Nat) (p : Int) : Prop where
  data : w.cell? ⟨B, 0, none⟩ = some (.slice a L.length cap)
  place : w.cell? ⟨B, 1, none⟩ = some (.int .i64 p)
  free : w.frozen? ⟨B, 1, none⟩ = false
theorem Rd.drewN {w : World} {B : Nat} {a : Option Addr} {L : List UInt8} {cap : Nat} {p : Int} (h : Rd w B a L cap p) (n : Nat) : Rd (w.drewN n) B a L cap p := ⟨by simpa using h.data, by simpa using h.place, by simpa using h.free⟩
end Go.Proofs.YtmkhlhjggbencaaDoor

/- A reader of bytes: take, where all is there. -/
namespace Go.Proofs.YtmkhlhjggbencaaDoor
open Go.RowKit Go.Deep
set_option linter.unusedVariables false
set_option maxRecDepth 10000
attribute [local go_sem ↓] Go.wp_at_zero Go.wp_at_succ
set_option maxHeartbeats 8000000 in
theorem take_yes (B b off : Nat) (L : List UInt8) (cap p c : Nat) (w : World) (hr : Rd w B (some ⟨b, off, none⟩) L cap p) (hl : L.length ≤ 16777216) (hcap : L.length ≤ cap) (hcm : cap ≤ 9223372036854775807) (hc1 : c ≤ 1000) (h : p + c ≤ L.length) (hpc : p < cap) :
    Calls Tryd.prog 73 #[.pointer (some ⟨B, 0, none⟩), .int .i64 (c : Int)] w fun e w' => e = .returned (.slice (some ⟨b, off + p, none⟩) c (cap - p)) ∧ ∃ n, w' = (w.drewN n).setCell ⟨B, 1, none⟩ (.int .i64 ((p + c : Nat) : Int)) := by
  obtain ⟨d0, d1, d2⟩ := hr
  have hp0 : (0 : Int) ≤ (p : Int) := by omega
  have hwr : IntKind.i64.wrap ((L.length : Int) - (c : Int)) = (L.length : Int) - c := by rw [IntKind.wrap_i64]; omega
  have hdec : decide ((p : Int) ≤ (L.length : Int) - (c : Int)) = true := decide_eq_true (by omega)
  have hdp : decide ((0 : Int) ≤ (p : Int)) = true := decide_eq_true hp0
  have hadd : IntKind.i64.wrap ((p : Int) + (c : Int)) = (p : Int) + c := by rw [IntKind.wrap_i64]; omega
  have hs0 : (p : Int) ≤ (cap : Int) := by omega
  have hs3 : (p : Int) < (cap : Int) := by omega
  have hs1 : (p : Int) ≤ (p : Int) + (c : Int) := by omega
  have hs2 : (p : Int) + (c : Int) ≤ (cap : Int) := by omega
  go_enter Tryd.func73, Tryd.ntmps73
  go_wp2_with fail
  go_region_held3 (fun w' => w'.cell? ⟨B, 0, none⟩ = some (.slice (some ⟨b, off, none⟩) L.length cap) ∧ w'.cell? ⟨B, 1, none⟩ = some (.int .i64 (p : Int))) (go_keep) ((go_at_call 69; refine (insist_yes _).mono ?_; rintro e w' ⟨rfl, rfl⟩))
  go_wp2_with fail
  go_region_held3 (fun w' => w'.cell? ⟨B, 0, none⟩ = some (.slice (some ⟨b, off, none⟩) L.length cap) ∧ w'.cell? ⟨B, 1, none⟩ = some (.int .i64 (p : Int))) (go_keep) (fail)
  go_wp2_with fail
  go_ret
  have hcn : ((p : Int) + (c : Int)).toNat - p = c := by omega
  refine ⟨?_, 2, rfl⟩
  show Ending.returned (Value.slice (some ⟨b, off + p, none⟩) (((p : Int) + (c : Int)).toNat - p) (cap - p)) = _
  rw [hcn]

/-- The number in bytes, the highest first. -/
def numL (L : List UInt8) : Nat := L.foldl (fun n b => n * 256 + b.toNat) 0
theorem numL_snoc (L : List UInt8) (b : UInt8) : numL (L ++ [b]) = numL L * 256 + b.toNat := by simp [numL, List.foldl_append]
theorem fold_lt : ∀ (L : List UInt8) (n : Nat), L.foldl (fun n b => n * 256 + b.toNat) n < (n + 1) * 256 ^ L.length
  | [], n => by simp
  | b :: t, n => by
    have h := fold_lt t (n * 256 + b.toNat)
    have hb := b.toNat_lt
    rw [List.foldl_cons, List.length_cons, Nat.pow_succ]
    refine Nat.lt_of_lt_of_le h ?_
    rw [Nat.mul_comm (256 ^ t.length) 256, ← Nat.mul_assoc]
    exact Nat.mul_le_mul_right _ (by omega)
theorem numL_lt (L : List UInt8) : numL L < 256 ^ L.length := by have := fold_lt L 0; simpa [numL] using this
end Go.Proofs.YtmkhlhjggbencaaDoor

/- GetNum of the model. -/
namespace Go.Proofs.YtmkhlhjggbencaaDoor
open Go.RowKit Go.Deep
set_option linter.unusedVariables false
set_option maxRecDepth 10000
set_option maxHeartbeats 4000000 in
theorem getspec_no (a : Option Addr) (L : List UInt8) (cap : Nat) (p s : Int) (w : World) (hl : L.length ≤ 16777216) (h : s < 1 ∨ 7 < s ∨ p < 0 ∨ (L.length : Int) - s < p) :
    Calls Tryd.prog 44 #[.slice a L.length cap, .int .i64 p, .int .i64 s] w fun e w' => e = .returned (.tuple #[.int .i64 0, .bool false]) ∧ w' = w := by
  by_cases h1 : s < 1
  · have d1 : decide (s < 1) = true := decide_eq_true h1
    clear h
    go_enter Tryd.func44, Tryd.ntmps44
    go_wp2_with fail
    go_ret2
    exact ⟨rfl, rfl⟩
  · have d1 : decide (s < 1) = false := decide_eq_false h1
    by_cases h2 : 7 < s
    · have d2 : decide (7 < s) = true := decide_eq_true h2
      clear h
      go_enter Tryd.func44, Tryd.ntmps44
      go_wp2_with fail
      go_ret2
      exact ⟨rfl, rfl⟩
    · have d2 : decide (7 < s) = false := decide_eq_false h2
      by_cases h3 : p < 0
      · have d3 : decide (p < 0) = true := decide_eq_true h3
        clear h
        go_enter Tryd.func44, Tryd.ntmps44
        go_wp2_with fail
        go_ret2
        exact ⟨rfl, rfl⟩
      · have d3 : decide (p < 0) = false := decide_eq_false h3
        have d4 : decide ((L.length : Int) - s < p) = true := decide_eq_true (by omega)
        have h4 : (L.length : Int) - s < p := by omega
        have hwr : IntKind.i64.wrap ((L.length : Int) - s) = (L.length : Int) - s := by rw [IntKind.wrap_i64]; omega
        clear h
        go_enter Tryd.func44, Tryd.ntmps44
        go_wp2_with fail
        go_ret2
        exact ⟨rfl, rfl⟩
set_option maxHeartbeats 4000000 in
theorem getspec_yes (b off : Nat) (L : List UInt8) (cap p s : Nat) (w : World) (hc : Cells w (some ⟨b, off, none⟩) (bys L)) (hl : L.length ≤ 16777216) (hs1 : 1 ≤ s) (hs2 : s ≤ 7) (h : p + s ≤ L.length) :
    Calls Tryd.prog 44 #[.slice (some ⟨b, off, none⟩) L.length cap, .int .i64 (p : Int), .int .i64 (s : Int)] w fun e w' => e = .returned (.tuple #[.int .i64 ((numL ((L.drop p).take s) : Nat) : Int), .bool true]) ∧ w' = w := by
  have d1 : decide ((s : Int) < 1) = false := decide_eq_false (by omega)
  have d2 : decide (7 < (s : Int)) = false := decide_eq_false (by omega)
  have d3 : decide ((p : Int) < 0) = false := decide_eq_false (by omega)
  have hwr : IntKind.i64.wrap ((L.length : Int) - (s : Int)) = (L.length : Int) - s := by rw [IntKind.wrap_i64]; omega
  have d4 : decide ((L.length : Int) - (s : Int) < (p : Int)) = false := decide_eq_false (by omega)
  have HC : Hid (∀ k, k < s → w.cell? ⟨b, off + p + k, none⟩ = some (.int .u8 ((L.getD (p + k) 0).toNat : Int))) := by
    intro k hk
    obtain ⟨b', off', e, hcell⟩ := bys_at hc (p + k) (by omega)
    have e' := Option.some.inj e
    injection e' with e1 e2
    subst e1 e2
    rw [← Nat.add_assoc] at hcell
    have : L.getD (p + k) 0 = L[p + k]'(by omega) := by rw [List.getD_eq_getElem?_getD, List.getElem?_eq_getElem (by omega)]; rfl
    rw [this]
    simpa using hcell
  clear hc
  go_enter Tryd.func44, Tryd.ntmps44
  go_wp2_with fail
  go_loop [8, 9] (fun x y => ∃ k : Nat, k ≤ s ∧ x = .int .i64 ((numL ((L.drop p).take k) : Nat) : Int) ∧ y = .int .i64 (k : Int)) (fun _ y => s - (intOf y).toNat)
  case atStart => exact ⟨0, by omega, by simp [numL], rfl⟩
  case round =>
    obtain ⟨k, hk, rfl, rfl⟩ := hrel
    by_cases hlt : k < s
    · have c0 := HC.out k hlt
      have hb0 := byte_nn (L.getD (p + k) 0)
      have hb1 := byte_lt (L.getD (p + k) 0)
      have HN : Hid (numL ((L.drop p).take (k + 1)) = numL ((L.drop p).take k) * 256 + (L.getD (p + k) 0).toNat) := by
        show _ = _
        have hd : k < (L.drop p).length := by rw [List.length_drop]; omega
        rw [List.take_succ_eq_append_getElem hd, numL_snoc]
        congr 2
        rw [List.getElem_drop, List.getD_eq_getElem?_getD, List.getElem?_eq_getElem (by omega)]; rfl
      have hlt2 : numL ((L.drop p).take k) < 281474976710656 := by
        refine Nat.lt_of_lt_of_le (numL_lt _) ?_
        refine Nat.le_trans (Nat.pow_le_pow_right (by decide) (show ((L.drop p).take k).length ≤ 6 by rw [List.length_take]; omega)) (by decide)
      generalize L.getD (p + k) 0 = x at *
      generalize numL ((L.drop p).take k) = m at *
      have hix : IntKind.i64.wrap ((p : Int) + (k : Int)) = (p : Int) + k := by rw [IntKind.wrap_i64]; omega
      have hi1 : (p : Int) + (k : Int) < (L.length : Int) := by omega
      have hi0 : (0 : Int) ≤ (p : Int) + (k : Int) := by omega
      have hm1 : IntKind.i64.wrap ((m : Int) * 256) = (m : Int) * 256 := by rw [IntKind.wrap_i64]; omega
      have hm2 : IntKind.i64.wrap ((m : Int) * 256 + (x.toNat : Int)) = (m : Int) * 256 + (x.toNat : Int) := by rw [IntKind.wrap_i64]; omega
      have hat : off + ((p : Int) + (k : Int)).toNat = off + p + k := by omega
      go_wp2_with fail
      go_round
      case rel => exact ⟨k + 1, by omega, by rw [HN.out]; go_num, by go_num⟩
      case measure => simp [intOf]; omega
    · have e : k = s := by omega
      subst e
      go_wp2_with fail
      go_ret2
      exact ⟨rfl, rfl⟩
end Go.Proofs.YtmkhlhjggbencaaDoor

/- A reader of bytes that gives up by a panic: take gives up. -/
namespace Go.Proofs.YtmkhlhjggbencaaDoor
open Go.RowKit Go.Deep
set_option linter.unusedVariables false
set_option maxRecDepth 10000
attribute [local go_sem ↓] Go.wp_at_zero Go.wp_at_succ
/-- Where the callee has panicked the region has ended: the way on is given to go_region_held under a false premise. -/
theorem dead {p : Prop} {K : Act → World → Prop} {S : World → Prop} {X : Act → World → Prop} (hK : Shut (∀ a w, S w → (S w → X a w) → K a w)) (a : Act) (w : World) (h : p) (_ : Shut False → K a w) : p := h
set_option maxHeartbeats 8000000 in
theorem take_no_hi (B : Nat) (a : Option Addr) (L : List UInt8) (cap : Nat) (p c : Int) (w : World) (u : TypeId) (pv : Value) (hv : w.cell? ⟨0, 0, none⟩ = some (.iface u pv)) (hr : Rd w B a L cap p) (hl : L.length ≤ 16777216) (hc0 : 0 ≤ c) (hc1 : c ≤ 1000) (hp : 0 ≤ p) (h2 : (L.length : Int) - c < p) :
    Calls Tryd.prog 73 #[.pointer (some ⟨B, 0, none⟩), .int .i64 c] w fun e w' => e = .panicked [{ v := .iface u pv, recovered := false }] ∧ ∃ n, w' = w.drewN n := by
  obtain ⟨d0, d1, d2⟩ := hr
  clear d2
  have hwr : IntKind.i64.wrap ((L.length : Int) - c) = (L.length : Int) - c := by rw [IntKind.wrap_i64]; omega
  have hdec : decide (p ≤ (L.length : Int) - c) = false := decide_eq_false (by omega)
  have hdp : decide (0 ≤ p) = true := decide_eq_true hp
  clear h2
  go_enter Tryd.func73, Tryd.ntmps73
  go_wp2_with fail
  go_region_held (fun w' => w'.cell? ⟨B, 0, none⟩ = some (.slice a L.length cap) ∧ w'.cell? ⟨B, 1, none⟩ = some (.int .i64 p)) (go_keep) ((go_at_call 69; refine (insist_no _ u pv (by simpa using hv)).mono ?_; rintro e w2 ⟨rfl, rfl⟩; refine dead (by assumption) { tmps := #[], defers := [] } w.drew ⟨rfl, rfl, 1, rfl⟩ (fun hF => ?_)))
  exact (by assumption : Shut False).out.elim
set_option maxHeartbeats 8000000 in
theorem take_no_lo (B : Nat) (a : Option Addr) (L : List UInt8) (cap : Nat) (p c : Int) (w : World) (u : TypeId) (pv : Value) (hv : w.cell? ⟨0, 0, none⟩ = some (.iface u pv)) (hr : Rd w B a L cap p) (hl : L.length ≤ 16777216) (hc0 : 0 ≤ c) (hc1 : c ≤ 1000) (hp : ¬ 0 ≤ p) :
    Calls Tryd.prog 73 #[.pointer (some ⟨B, 0, none⟩), .int .i64 c] w fun e w' => e = .panicked [{ v := .iface u pv, recovered := false }] ∧ ∃ n, w' = w.drewN n := by
  obtain ⟨d0, d1, d2⟩ := hr
  clear d2
  have hdp : decide (0 ≤ p) = false := decide_eq_false hp
  go_enter Tryd.func73, Tryd.ntmps73
  go_wp2_with fail
  refine wp_region_held_drew (S := fun w' => w'.cell? ⟨B, 0, none⟩ = some (.slice a L.length cap) ∧ w'.cell? ⟨B, 1, none⟩ = some (.int .i64 p)) (by kernel_rfl) (by go_keep) (fun hHeld => ?_)
  refine wpAnyH_take (i := 0) (oi := ⟨_, _, _, _, _, _⟩) (v := ?v1) rfl (by kernel_rfl) (by kernel_rfl) (by kernel_rfl) (fun _ _ _ h => h) (Or.inl ⟨by rfl, ?hy1⟩) (by assumption) ?rest1
  (case hy1 => (intro w hSw; (try dsimp only at hSw); go_simp; (try with_reducible rfl)))
  (try simp only [Act.put, List.setIfInBounds_toArray, List.set_cons_zero, List.set_cons_succ])
  refine wpAnyH_take (i := 1) (oi := ⟨_, _, _, _, _, _⟩) (v := ?v2) rfl (by kernel_rfl) (by kernel_rfl) (by kernel_rfl) (fun _ _ _ h => h) (Or.inl ⟨by rfl, ?hy2⟩) (by assumption) ?rest2
  (case hy2 => (intro w hSw; (try dsimp only at hSw); go_simp; (try with_reducible rfl)))
  (try simp only [Act.put, List.setIfInBounds_toArray, List.set_cons_zero, List.set_cons_succ])
  refine wpAnyH_take (i := 2) (oi := ⟨_, _, _, _, _, _⟩) (v := ?v3) rfl (by kernel_rfl) (by kernel_rfl) (by kernel_rfl) (fun _ _ _ h => h) (Or.inl ⟨by rfl, ?hy3⟩) (by assumption) ?rest3
  (case hy3 => (intro w hSw; (try dsimp only at hSw); go_simp; (try with_reducible rfl)))
  (try simp only [Act.put, List.setIfInBounds_toArray, List.set_cons_zero, List.set_cons_succ])
  refine wpAnyH_take (i := 3) (oi := ⟨_, _, _, _, _, _⟩) (v := ?v4) rfl (by kernel_rfl) (by kernel_rfl) (by kernel_rfl) (fun _ _ _ h => h) (Or.inl ⟨by rfl, ?hy4⟩) (by assumption) ?rest4
  (case hy4 => (intro w hSw; (try dsimp only at hSw); go_simp; (try with_reducible rfl)))
  (try simp only [Act.put, List.setIfInBounds_toArray, List.set_cons_zero, List.set_cons_succ])
  refine wpAnyH_take (i := 4) (oi := ⟨_, _, _, _, _, _⟩) (v := ?v5) rfl (by kernel_rfl) (by kernel_rfl) (by kernel_rfl) (fun _ _ _ h => h) (Or.inl ⟨by rfl, ?hy5⟩) (by assumption) ?rest5
  (case hy5 => (intro w hSw; (try dsimp only at hSw); go_simp; (try with_reducible rfl)))
  (try simp only [Act.put, List.setIfInBounds_toArray, List.set_cons_zero, List.set_cons_succ])
  refine wpAnyH_take (i := 5) (oi := ⟨_, _, _, _, _, _⟩) (v := ?v6) rfl (by kernel_rfl) (by kernel_rfl) (by kernel_rfl) (fun _ _ _ h => h) (Or.inl ⟨by rfl, ?hy6⟩) (by assumption) ?rest6
  (case hy6 => (intro w hSw; (try dsimp only at hSw); go_simp; (try with_reducible rfl)))
  (try simp only [Act.put, List.setIfInBounds_toArray, List.set_cons_zero, List.set_cons_succ])
  refine wpAnyH_take (i := 6) (oi := ⟨_, _, _, _, _, _⟩) (v := undef) rfl (by kernel_rfl) (by kernel_rfl) (by kernel_rfl) (fun _ _ _ h => h) (Or.inr ⟨by rfl, rfl⟩) (by assumption) ?rest7
  (try simp only [Act.put, List.setIfInBounds_toArray, List.set_cons_zero, List.set_cons_succ])
  refine wpAnyH_take (i := 7) (oi := ⟨_, _, _, _, _, _⟩) (v := undef) rfl (by kernel_rfl) (by kernel_rfl) (by kernel_rfl) (fun _ _ _ h => h) (Or.inr ⟨by rfl, rfl⟩) (by assumption) ?rest8
  (try simp only [Act.put, List.setIfInBounds_toArray, List.set_cons_zero, List.set_cons_succ])
  refine wpAnyH_take (i := 8) (oi := ⟨_, _, _, _, _, _⟩) (v := undef) rfl (by kernel_rfl) (by kernel_rfl) (by kernel_rfl) (fun _ _ _ h => h) (Or.inr ⟨by rfl, rfl⟩) (by assumption) ?rest9
  (try simp only [Act.put, List.setIfInBounds_toArray, List.set_cons_zero, List.set_cons_succ])
  refine wpAnyH_take (i := 9) (oi := ⟨_, _, _, _, _, _⟩) (v := undef) rfl (by kernel_rfl) (by kernel_rfl) (by kernel_rfl) (fun _ _ _ h => h) (Or.inr ⟨by rfl, rfl⟩) (by assumption) ?rest10
  (try simp only [Act.put, List.setIfInBounds_toArray, List.set_cons_zero, List.set_cons_succ])
  refine wpAnyH_take (i := 10) (oi := ⟨_, _, _, _, _, _⟩) (v := undef) rfl (by kernel_rfl) (by kernel_rfl) (by kernel_rfl) (fun _ _ _ h => h) (Or.inr ⟨by rfl, rfl⟩) (by assumption) ?rest11
  (try simp only [Act.put, List.setIfInBounds_toArray, List.set_cons_zero, List.set_cons_succ])
  refine wpAnyH_take (i := 11) (oi := ⟨_, _, _, _, _, _⟩) (v := undef) rfl (by kernel_rfl) (by kernel_rfl) (by kernel_rfl) (fun _ _ _ h => h) (Or.inr ⟨by rfl, rfl⟩) (by assumption) ?rest12
  (try simp only [Act.put, List.setIfInBounds_toArray, List.set_cons_zero, List.set_cons_succ])
  refine wpAnyH_take (i := 12) (oi := ⟨_, _, _, _, _, _⟩) (v := undef) rfl (by kernel_rfl) (by kernel_rfl) (by kernel_rfl) (fun _ _ _ h => h) (Or.inr ⟨by rfl, rfl⟩) (by assumption) ?rest13
  (try simp only [Act.put, List.setIfInBounds_toArray, List.set_cons_zero, List.set_cons_succ])
  refine wpAnyH_take (i := 13) (oi := ⟨_, _, _, _, _, _⟩) (v := undef) rfl (by kernel_rfl) (by kernel_rfl) (by kernel_rfl) (fun _ _ _ h => h) (Or.inr ⟨by rfl, rfl⟩) (by assumption) ?rest14
  (try simp only [Act.put, List.setIfInBounds_toArray, List.set_cons_zero, List.set_cons_succ])
  refine wpAnyH_take (i := 14) (oi := ⟨_, _, _, _, _, _⟩) (v := undef) rfl (by kernel_rfl) (by kernel_rfl) (by kernel_rfl) (fun _ _ _ h => h) (Or.inr ⟨by rfl, rfl⟩) (by assumption) ?rest15
  (try simp only [Act.put, List.setIfInBounds_toArray, List.set_cons_zero, List.set_cons_succ])
  refine wpAnyH_take (i := 15) (oi := ⟨_, _, _, _, _, _⟩) (v := undef) rfl (by kernel_rfl) (by kernel_rfl) (by kernel_rfl) (fun _ _ _ h => h) (Or.inr ⟨by rfl, rfl⟩) (by assumption) ?rest16
  (try simp only [Act.put, List.setIfInBounds_toArray, List.set_cons_zero, List.set_cons_succ])
  refine wpAnyH_take (i := 16) (oi := ⟨_, _, _, _, _, _⟩) (v := undef) rfl (by kernel_rfl) (by kernel_rfl) (by kernel_rfl) (fun _ _ _ h => h) (Or.inr ⟨by rfl, rfl⟩) (by assumption) ?rest17
  (try simp only [Act.put, List.setIfInBounds_toArray, List.set_cons_zero, List.set_cons_succ])
  refine wpAnyH_take (i := 17) (oi := ⟨_, _, _, _, _, _⟩) (v := undef) rfl (by kernel_rfl) (by kernel_rfl) (by kernel_rfl) (fun _ _ _ h => h) (Or.inr ⟨by rfl, rfl⟩) (by assumption) ?rest18
  (try simp only [Act.put, List.setIfInBounds_toArray, List.set_cons_zero, List.set_cons_succ])
  refine wpAnyH_take (i := 18) (oi := ⟨_, _, _, _, _, _⟩) (v := ?v19) rfl (by kernel_rfl) (by kernel_rfl) (by kernel_rfl) (fun _ _ _ h => h) (Or.inl ⟨by rfl, ?hy19⟩) (by assumption) ?rest19
  (case hy19 => (intro w hSw; (try dsimp only at hSw); go_simp; (try with_reducible rfl)))
  (try simp only [Act.put, List.setIfInBounds_toArray, List.set_cons_zero, List.set_cons_succ])
  refine wpAnyH_ready (rs := [19]) (by kernel_rfl) (by simp) (AllReadyH.cons rfl (fun K hK => ?_) AllReadyH.nil)
  go_simp
  go_at_call 69
  refine (insist_no _ u pv (by simpa using hv)).mono ?_
  rintro e w' ⟨rfl, rfl⟩
  exact ⟨rfl, rfl, 1, rfl⟩
set_option maxHeartbeats 8000000 in
theorem take_no (B : Nat) (a : Option Addr) (L : List UInt8) (cap : Nat) (p c : Int) (w : World) (u : TypeId) (pv : Value) (hv : w.cell? ⟨0, 0, none⟩ = some (.iface u pv)) (hr : Rd w B a L cap p) (hl : L.length ≤ 16777216) (hc0 : 0 ≤ c) (hc1 : c ≤ 1000) (h : p < 0 ∨ (L.length : Int) - c < p) :
    Calls Tryd.prog 73 #[.pointer (some ⟨B, 0, none⟩), .int .i64 c] w fun e w' => e = .panicked [{ v := .iface u pv, recovered := false }] ∧ ∃ n, w' = w.drewN n := by
  by_cases hp : 0 ≤ p
  · exact take_no_hi B a L cap p c w u pv hv hr hl hc0 hc1 hp (by omega)
  · exact take_no_lo B a L cap p c w u pv hv hr hl hc0 hc1 hp
end Go.Proofs.YtmkhlhjggbencaaDoor

/- A reader of bytes: number. -/
namespace Go.Proofs.YtmkhlhjggbencaaDoor
open Go.RowKit Go.Deep
set_option linter.unusedVariables false
set_option maxRecDepth 10000
theorem or_byte (n : Nat) (x : UInt8) (hn : n < 281474976710656) : bits .or .i64 ((n : Int) * 256) (x.toNat : Int) = ((n * 256 + x.toNat : Nat) : Int) := by
  have hx := x.toNat_lt
  have e : bits .or .i64 ((n : Int) * 256) (x.toNat : Int) = IntKind.i64.wrap ((BitVec.ofInt 64 ((n : Int) * 256) ||| BitVec.ofInt 64 (x.toNat : Int)).toNat : Int) := rfl
  have h1 : (BitVec.ofInt 64 ((n : Int) * 256)).toNat = n * 256 := by
    rw [show (n : Int) * 256 = ((n * 256 : Nat) : Int) by simp, BitVec.ofInt_natCast, BitVec.toNat_ofNat]; exact Nat.mod_eq_of_lt (by omega)
  have h2 : (BitVec.ofInt 64 (x.toNat : Int)).toNat = x.toNat := by
    rw [BitVec.ofInt_natCast, BitVec.toNat_ofNat]; exact Nat.mod_eq_of_lt (by omega)
  have h3 : n * 256 ||| x.toNat = n * 256 + x.toNat := by
    have := Nat.shiftLeft_add_eq_or_of_lt (i := 8) (b := x.toNat) (by simpa using hx) n
    rw [Nat.shiftLeft_eq] at this
    exact this.symm
  rw [e, BitVec.toNat_or, h1, h2, h3, IntKind.wrap_i64]
  omega
set_option maxHeartbeats 8000000 in
theorem number_yes (B b off : Nat) (L : List UInt8) (cap p s : Nat) (w : World) (hr : Rd w B (some ⟨b, off, none⟩) L cap p) (hB : b ≠ B) (hc : Cells w (some ⟨b, off, none⟩) (bys L)) (hl : L.length ≤ 16777216) (hcap : L.length ≤ cap) (hcm : cap ≤ 9223372036854775807) (hs1 : 1 ≤ s) (hs2 : s ≤ 7) (h : p + s ≤ L.length) :
    Calls Tryd.prog 70 #[.pointer (some ⟨B, 0, none⟩), .int .i64 (s : Int)] w fun e w' => e = .returned (.int .i64 (numL ((L.drop p).take s) : Nat)) ∧ ∃ n, w' = (w.drewN n).setCell ⟨B, 1, none⟩ (.int .i64 ((p + s : Nat) : Int)) := by
  have HS := hide (sizeok_k (s : Int) w)
  rw [show (decide (1 ≤ (s : Int)) && decide ((s : Int) ≤ 7)) = true by simp; omega] at HS
  have HT := hide (take_yes B b off L cap p s w hr hl hcap hcm (by omega) h (by omega))
  have HC : Hid (∀ k, k < s → ∀ n, ((w.drewN n).setCell ⟨B, 1, none⟩ (.int .i64 ((p + s : Nat) : Int))).cell? ⟨b, off + p + k, none⟩ = some (.int .u8 ((L.getD (p + k) 0).toNat : Int))) := by
    intro k hk n
    rw [World.cell?_setCell_other _ _ _ _ (by simp)]
    obtain ⟨b', off', e, hcell⟩ := bys_at hc (p + k) (by omega)
    have e' := Option.some.inj e
    injection e' with e1 e2
    subst e1 e2
    rw [← Nat.add_assoc] at hcell
    have : L.getD (p + k) 0 = L[p + k]'(by omega) := by rw [List.getD_eq_getElem?_getD, List.getElem?_eq_getElem (by omega)]; rfl
    rw [this]
    simpa using hcell
  clear hr hc
  go_enter Tryd.func70, Tryd.ntmps70
  go_wp2_with (first | (go_at_call 78; refine (unhide HS).mono ?_; rintro e w' ⟨rfl, hw'⟩; obtain rfl := Eq.symm hw') | (go_at_call 69; refine (insist_yes _).mono ?_; rintro e w' ⟨rfl, hw'⟩; obtain rfl := Eq.symm hw') | (go_at_call 73; refine (unhide HT).mono ?_; rintro e w1 ⟨rfl, n, hw1⟩; have HW1 := hide hw1; have HC1 : Hid (∀ k, k < s → w1.cell? ⟨b, off + p + k, none⟩ = some (.int .u8 ((L.getD (p + k) 0).toNat : Int))) := fun k hk => (by rw [hw1]; exact HC.out k hk n); clear hw1 HC))
  go_loop [5, 15] (fun x y => ∃ k : Nat, k ≤ s ∧ x = .int .i64 ((numL ((L.drop p).take k) : Nat) : Int) ∧ y = .int .i64 (k : Int)) (fun _ y => s - (intOf y).toNat)
  case atStart => exact ⟨0, by omega, by simp [numL], rfl⟩
  case round =>
    obtain ⟨k, hk, rfl, rfl⟩ := hrel
    by_cases hlt : k < s
    · have c0 := HC1.out k hlt
      have hb0 := byte_nn (L.getD (p + k) 0)
      have hb1 := byte_lt (L.getD (p + k) 0)
      have HN : Hid (numL ((L.drop p).take (k + 1)) = numL ((L.drop p).take k) * 256 + (L.getD (p + k) 0).toNat) := by
        show _ = _
        have hd : k < (L.drop p).length := by rw [List.length_drop]; omega
        rw [List.take_succ_eq_append_getElem hd, numL_snoc]
        congr 2
        rw [List.getElem_drop, List.getD_eq_getElem?_getD, List.getElem?_eq_getElem (by omega)]; rfl
      have hlt2 : numL ((L.drop p).take k) < 281474976710656 := by
        refine Nat.lt_of_lt_of_le (numL_lt _) ?_
        refine Nat.le_trans (Nat.pow_le_pow_right (by decide) (show ((L.drop p).take k).length ≤ 6 by rw [List.length_take]; omega)) (by decide)
      have hor := or_byte (numL ((L.drop p).take k)) (L.getD (p + k) 0) hlt2
      have HOr := hide hor
      clear hor
      generalize L.getD (p + k) 0 = x at *
      generalize numL ((L.drop p).take k) = m at *
      go_wp2_with fail
      go_round
      case rel => exact ⟨k + 1, by omega, by rw [HN.out]; exact congrArg (Value.int .i64) HOr.out, by go_num⟩
      case measure => simp [intOf]; omega
    · have e : k = s := by omega
      subst e
      go_wp2_with fail
      go_ret
      exact ⟨rfl, n, HW1.out⟩

theorem number_no1 (P : Value) (s : Int) (w : World) (u : TypeId) (pv : Value) (hv : w.cell? ⟨0, 0, none⟩ = some (.iface u pv)) (h : s < 1 ∨ 7 < s) :
    Calls Tryd.prog 70 #[P, .int .i64 s] w fun e w' => e = .panicked [{ v := .iface u pv, recovered := false }] ∧ w' = w := by
  have HS := hide (sizeok_k s w)
  rw [show (decide (1 ≤ s) && decide (s ≤ 7)) = false by simp; omega] at HS
  clear h
  go_enter Tryd.func70, Tryd.ntmps70
  go_wp2_with (first | (go_at_call 78; refine (unhide HS).mono ?_; rintro e w' ⟨rfl, hw'⟩; obtain rfl := Eq.symm hw') | (go_at_call 69; refine (insist_no _ u pv hv).mono ?_; rintro e w' ⟨rfl, hw'⟩; obtain rfl := Eq.symm hw'))
  exact ⟨rfl, rfl, rfl⟩
end Go.Proofs.YtmkhlhjggbencaaDoor

/- What GetNum defers: the closure that recovers. -/
namespace Go.Proofs.YtmkhlhjggbencaaDoor
open Go.RowKit Go.Deep
set_option linter.unusedVariables false
set_option maxRecDepth 10000

end Go.Proofs.YtmkhlhjggbencaaDoor

/- GetNum of the program, where all is there. -/
namespace Go.Proofs.YtmkhlhjggbencaaDoor
open Go.RowKit Go.Deep
set_option linter.unusedVariables false
set_option maxRecDepth 10000

/-- The world where GetNum calls number. -/
abbrev three (w : World) (a : Option Addr) (l cap : Nat) (p : Int) : World := ((w.alloc (Obj.cells #[Value.int IntKind.i64 0] 3)).alloc (Obj.cells #[Value.bool false] 4)).alloc (Obj.cells #[.slice a l cap, .int .i64 p] 95)
theorem three_keeps (w : World) (a : Option Addr) (l cap : Nat) (p : Int) : Keeps w (three w a l cap p) := (((Keeps.refl w).alloc _).alloc _).alloc _
theorem three_rd (w : World) (a : Option Addr) (L : List UInt8) (cap : Nat) (p : Int) : Rd (three w a L.length cap p) (w.heap.size + 1 + 1) a L cap p :=
  ⟨by rw [World.cell?_alloc_at _ _ _ _ (by simp)]; rfl, by rw [World.cell?_alloc_at _ _ _ _ (by simp)]; rfl, by rw [World.frozen?_alloc_at _ _ _ _ (by simp)]⟩
theorem three_a (w : World) (a : Option Addr) (l cap : Nat) (p : Int) : (three w a l cap p).cell? ⟨w.heap.size, 0, none⟩ = some (.int .i64 0) := by
  rw [World.cell?_alloc_past _ _ _ (by simp; omega), World.cell?_alloc_past _ _ _ (by simp), World.cell?_alloc_at _ _ _ _ rfl]; rfl
theorem three_b (w : World) (a : Option Addr) (l cap : Nat) (p : Int) : (three w a l cap p).cell? ⟨w.heap.size + 1, 0, none⟩ = some (.bool false) := by
  rw [World.cell?_alloc_past _ _ _ (by simp), World.cell?_alloc_at _ _ _ _ (by simp)]; rfl
theorem three_za (w : World) (a : Option Addr) (l cap : Nat) (p : Int) : (three w a l cap p).frozen? ⟨w.heap.size, 0, none⟩ = false := by
  rw [World.frozen?_alloc_past _ _ _ (by simp; omega), World.frozen?_alloc_past _ _ _ (by simp), World.frozen?_alloc_at _ _ _ _ rfl]
theorem three_zb (w : World) (a : Option Addr) (l cap : Nat) (p : Int) : (three w a l cap p).frozen? ⟨w.heap.size + 1, 0, none⟩ = false := by
  rw [World.frozen?_alloc_past _ _ _ (by simp), World.frozen?_alloc_at _ _ _ _ (by simp)]

end Go.Proofs.YtmkhlhjggbencaaDoor
