/- Texts of the verifier, joined: DRR, RF, All, LgM, LTi. -/
import Derived.Test.YtkdnddckogbgaaaDoorLE9
import Derived.Test.YtkdnddckogbgaaaDoorLE1
import Derived.RangeFuncNested
import Derived.RangeFuncBound
import Derived.RangeFuncCalls
import Derived.RangeFuncLeaves
import Derived.Shelf.Abstract
import Derived.Shelf.RegionOpen
import Derived.OwnWalkIn
import Derived.TacticsInMore
import Derived.LoopNIn
import Derived.LoopIn
import Derived.Test.YtkdnddckogbgaaaDoorLE6
namespace Go.Proofs.YtkdnddckogbgaaaDoor
open Go.RowKit Go.Deep
set_option linter.unusedVariables false
set_option maxRecDepth 10000

theorem readB_dok {m : DkM} {i : Int} (h : dokM m = false) : readB m i = false := by unfold readB; rw [h, Bool.false_and]
theorem readB_out {m : DkM} {i : Int} (h : i < 0 ∨ (m.cells.length : Int) ≤ i) : readB m i = false := by
  unfold readB
  rcases h with h | h
  · rw [decide_eq_false (show ¬ 0 ≤ i by omega)]; simp
  · rw [decide_eq_false (show ¬ i < (m.cells.length : Int) by omega)]; simp
theorem readB_in {m : DkM} {i : Int} (h : dokM m = true) (h0 : 0 ≤ i) (h1 : i < (m.cells.length : Int)) : readB m i = true := by
  unfold readB; rw [h, decide_eq_true h0, decide_eq_true h1]; rfl
theorem read_hit {cs : List Bs} {ds : List Wr} {i : Int} {k : Nat} (hk : k < ds.length) (he : ds[k].i = i) (hn : lastD ((ds.map Wr.key).drop (k + 1)) i = none) (F : List UInt8) : (lastD (dat cs ds).dirty i).getD F = ds[k].b.L := by
  have e : (dat cs ds).dirty = (ds.map Wr.key).take k ++ (ds[k].key :: (ds.map Wr.key).drop (k + 1)) := by
    show ds.map Wr.key = _
    have hk' : k < (ds.map Wr.key).length := by simpa using hk
    have : ds[k].key = (ds.map Wr.key)[k] := by simp
    rw [this, ← List.drop_eq_getElem_cons hk', List.take_append_drop]
  rw [e, lastD_append]
  simp [lastD, hn, Wr.key, he]
theorem read_next {ds : List Wr} {i : Int} {k : Nat} (hk : k < ds.length) (he : ds[k].i ≠ i) (hn : lastD ((ds.map Wr.key).drop (k + 1)) i = none) : lastD ((ds.map Wr.key).drop k) i = none := by
  have hk' : k < (ds.map Wr.key).length := by simpa using hk
  rw [List.drop_eq_getElem_cons hk']
  simp [lastD, hn, Wr.key, he]
theorem read_miss {cs : List Bs} {ds : List Wr} {i : Nat} (hi : i < cs.length) (hn : lastD ((ds.map Wr.key).drop 0) i = none) : (lastD (dat cs ds).dirty i).getD (fullL ((dat cs ds).cells.getD (i : Int).toNat [])) = fullL cs[i].L := by
  rw [List.drop_zero] at hn
  show (lastD (ds.map Wr.key) i).getD _ = _
  rw [hn, Option.getD_none, Int.toNat_natCast]
  simp [dat, hi]
/-- What newest answers. -/
def NewPost (w : World) (m : DkM) (i : Int) (x : Ending) (w' : World) : Prop := ∃ v, x = .returned v ∧ OwnsB w' w.heap.size v (readL m i) ∧ Keeps w w'
theorem NewPost.yes {w w' : World} {m : DkM} {i : Int} {v : Value} {L : List UInt8} (h : readB m i = true) (hl : (lastD m.dirty i).getD (fullL (m.cells.getD i.toNat [])) = L) (ho : OwnsB w' w.heap.size v L) (hk : Keeps w w') : NewPost w m i (.returned v) w' := by
  refine ⟨v, rfl, ?_, hk⟩
  unfold readL
  rw [if_pos h, hl]
  exact ho
set_option maxHeartbeats 4000000 in
theorem newest_impl (ca : Option Addr) (cc : Nat) (cs : List Bs) (da : Option Addr) (dc : Nat) (ds : List Wr) (p : Nat) (w : World) (hm : Mem w (dsk ca cs da ds)) (h : DOk cs ds) (hok : dokM (dat cs ds) = true) (hp : p < cs.length) :
    Calls Tryd.prog 55 #[dskV ca cs.length cc da ds.length dc, .int .i64 (p : Int)] w (NewPost w (dat cs ds) p) := by
  have HKA := hide (Keeps.alloc (Keeps.refl w) (.cells #[.slice ca cs.length cc, .slice da ds.length dc] 33))
  have HM := hide (hm.kept HKA.out)
  have HD : Hid (∀ w', Keeps (w.alloc (.cells #[.slice ca cs.length cc, .slice da ds.length dc] 33)) w' → w'.cell? ⟨w.heap.size, 0, none⟩ = some (.slice ca cs.length cc) ∧ w'.cell? ⟨w.heap.size, 1, none⟩ = some (.slice da ds.length dc)) :=
    fun w' hk => ⟨hk.cell (by simp), hk.cell (by simp)⟩
  have HZ : Hid ((w.alloc (.cells #[.slice ca cs.length cc, .slice da ds.length dc] 33)).heap.size = w.heap.size + 1) := by show _ = _; rw [World.size_alloc]
  have hcl := h.c
  have hdl := h.d
  have HOk := hide hok
  have HB := hide (readB_in (m := dat cs ds) (i := p) hok (by omega) (by show (p : Int) < ((cs.map Bs.L).length : Int); simpa using hp))
  have HDO := hide h
  clear hm h hok
  go_enter Tryd.func55, Tryd.ntmps55
  go_wp2_with fail
  generalize w.alloc (.cells #[.slice ca cs.length cc, .slice da ds.length dc] 33) = W0 at *
  go_loopw [5] (fun y wr => ∃ k : Nat, k ≤ ds.length ∧ y = .int .i64 ((k : Int) - 1) ∧ Hid (lastD ((ds.map Wr.key).drop k) p = none) ∧ Hid (Keeps W0 wr)) (fun y _ => (intOf y + 1).toNat)
  case atStart => exact ⟨ds.length, Nat.le_refl _, rfl, by show _ = _; rw [List.drop_of_length_le (by simp)]; rfl, Keeps.refl _⟩
  case round =>
    obtain ⟨k, hk, rfl, HN, HKr⟩ := hrel
    obtain ⟨d0, d1⟩ := HD.out _ HKr.out
    by_cases hlt : 0 < k
    · obtain ⟨j, rfl⟩ : ∃ j, k = j + 1 := ⟨k - 1, by omega⟩
      have hj : j < ds.length := by omega
      rw [show (((j + 1 : Nat) : Int) - 1) = (j : Int) by omega]
      obtain ⟨b, off, ea, c0, c1⟩ := cell2 ((dsk_mem HM.out).2.2.1.kept HKr.out) j hj
      subst ea
      have HCx : Hid (Cells wr ds[j].b.a (bys ds[j].b.L)) := (mem_segW (dsk_mem HM.out).2.2.2 j hj).kept HKr.out
      have HNx := hide (HDO.out.nd _ (List.getElem_mem hj)).1
      have HLx : Hid (ds[j].b.L.length ≤ 4194304) := Nat.le_trans (totW_le (List.getElem_mem hj)) (Nat.le_trans HDO.out.td (by decide))
      have HHt := hide (fun he F => read_hit (cs := cs) (i := (p : Int)) hj he HN.out F)
      have HNt := hide (fun he => read_next (i := (p : Int)) hj he HN.out)
      generalize ds[j] = x at *
      obtain ⟨xi, xa, xc, xL⟩ := x
      dsimp only [Bs.v] at c0 c1 HCx HNx HLx HHt HNt
      by_cases he : xi = (p : Int)
      · subst he
        have HHit := hide (HHt.out rfl (fullL ((dat cs ds).cells.getD (p : Int).toNat [])))
        · skip
          have HCl := hide (clone_k xa xc xL wr HCx.out HNx.out HLx.out)
          go_wp2_with (go_at_call 66; refine (unhide HCl).mono ?_; rintro x w3 ⟨v3, rfl, ho3, hk3⟩)
          go_ret
          exact NewPost.yes HB.out HHit.out (OwnsB.older ho3 (HKA.out.trans HKr.out).size) (HKA.out.trans (HKr.out.trans hk3))
      · have hne : (xi == (p : Int)) = false := beq_eq_false_iff_ne.2 he
        have HNx2 := hide (HNt.out he)
        clear he
        go_wp2_with fail
        go_roundw
        case rel => exact ⟨j, by omega, rfl, HNx2, HKr⟩
        case measure => simp [intOf]
    · obtain rfl : k = 0 := by omega
      obtain ⟨b, off, ea, c0⟩ := cell1 ((dsk_mem HM.out).1.kept HKr.out) p hp
      subst ea
      have HCx : Hid (Cells wr cs[p].a (bys cs[p].L)) := (mem_seg (dsk_mem HM.out).2.1 p hp).kept HKr.out
      have HNx := hide (HDO.out.nc _ (List.getElem_mem hp)).1
      have HLx : Hid (cs[p].L.length ≤ 2097152) := Nat.le_trans (tot_le (List.getElem_mem hp)) (Nat.le_trans HDO.out.tc (by decide))
      have HMiss := hide (read_miss hp HN.out)
      have HLen : Hid (cs[p].L.length = 0 ∨ cs[p].L.length = 128) := dokM_cell HOk.out (List.mem_map.2 ⟨_, List.getElem_mem hp, rfl⟩)
      generalize cs[p] = x at *
      obtain ⟨xa, xc, xL⟩ := x
      dsimp only [Bs.v] at c0 HCx HNx HLx HMiss HLen
      · skip
        have HFu := hide (filled_k xa xc xL wr HCx.out (Nat.le_trans HLx.out (by decide)))
        go_wp2_with (go_at_call 67; refine (unhide HFu).mono ?_; rintro x w3 ⟨v3, rfl, ho3, hk3⟩)
        go_ret
        rw [fill_full HLen.out] at ho3
        exact NewPost.yes HB.out HMiss.out (OwnsB.older ho3 (HKA.out.trans HKr.out).size) (HKA.out.trans (HKr.out.trans hk3))
set_option maxHeartbeats 4000000 in
theorem diskread_spec (ca : Option Addr) (cc : Nat) (cs : List Bs) (da : Option Addr) (dc : Nat) (ds : List Wr) (i : Int) (w : World) (hm : Mem w (dsk ca cs da ds)) (h : DOk cs ds) :
    Calls Tryd.prog 25 #[dskV ca cs.length cc da ds.length dc, .int .i64 i] w (ReadPost w (dat cs ds) i) := by
  have HKA := hide (Keeps.alloc (Keeps.refl w) (.cells #[.slice ca cs.length cc, .slice da ds.length dc] 33))
  have HM := hide (hm.kept HKA.out)
  have HD : Hid (∀ w', Keeps (w.alloc (.cells #[.slice ca cs.length cc, .slice da ds.length dc] 33)) w' → w'.cell? ⟨w.heap.size, 0, none⟩ = some (.slice ca cs.length cc) ∧ w'.cell? ⟨w.heap.size, 1, none⟩ = some (.slice da ds.length dc)) :=
    fun w' hk => ⟨hk.cell (by simp), hk.cell (by simp)⟩
  have HZ : Hid ((w.alloc (.cells #[.slice ca cs.length cc, .slice da ds.length dc] 33)).heap.size = w.heap.size + 1) := by show _ = _; rw [World.size_alloc]
  have HQ := hide (diskok_spec' ca cc cs da dc ds _ HM.out h)
  have hcl := h.c
  have hdl := h.d
  clear hm
  cases hok : dokM (dat cs ds)
  · rw [hok] at HQ
    have HB := hide (readB_dok (i := i) hok)
    clear hok h
    go_enter Tryd.func25, Tryd.ntmps25
    go_wp2_with (go_at_call 24; refine (unhide HQ).mono ?_; rintro x w1 ⟨rfl, hk1⟩; have HK1 := hide hk1; obtain ⟨d0, d1⟩ := HD.out _ hk1; clear hk1)
    go_ret2
    exact ReadPost.no HB.out (HKA.out.trans HK1.out)
  rw [hok] at HQ
  have HOk := hide hok
  clear hok
  by_cases h0 : i < 0
  · clear hdl
    have HB := hide (readB_out (m := dat cs ds) (i := i) (Or.inl h0))
    go_enter Tryd.func25, Tryd.ntmps25
    go_wp2_with (go_at_call 24; refine (unhide HQ).mono ?_; rintro x w1 ⟨rfl, hk1⟩; have HK1 := hide hk1; obtain ⟨d0, d1⟩ := HD.out _ hk1; clear hk1)
    go_ret2
    exact ReadPost.no HB.out (HKA.out.trans HK1.out)
  by_cases h1 : (cs.length : Int) ≤ i
  · clear hdl
    have HB := hide (readB_out (m := dat cs ds) (i := i) (Or.inr (by show ((cs.map Bs.L).length : Int) ≤ i; simpa using h1)))
    go_enter Tryd.func25, Tryd.ntmps25
    go_wp2_with (go_at_call 24; refine (unhide HQ).mono ?_; rintro x w1 ⟨rfl, hk1⟩; have HK1 := hide hk1; obtain ⟨d0, d1⟩ := HD.out _ hk1; clear hk1)
    go_ret2
    exact ReadPost.no HB.out (HKA.out.trans HK1.out)
  obtain ⟨p, rfl⟩ : ∃ p : Nat, i = p := ⟨i.toNat, by omega⟩
  have hp : p < cs.length := by omega
  have HB := hide (readB_in (m := dat cs ds) (i := p) HOk.out (by omega) (by show (p : Int) < ((cs.map Bs.L).length : Int); simpa using hp))
  have HDO := hide h
  clear h h0 h1
  go_enter Tryd.func25, Tryd.ntmps25
  go_wp2_with (go_at_call 24; refine (unhide HQ).mono ?_; rintro x w1 ⟨rfl, hk1⟩; have HK1 := hide hk1; obtain ⟨d0, d1⟩ := HD.out _ hk1; clear hk1)
  generalize w.alloc (.cells #[.slice ca cs.length cc, .slice da ds.length dc] 33) = W0 at *
  clear d0 d1
  go_loopw [6] (fun y wr => ∃ k : Nat, k ≤ ds.length ∧ y = .int .i64 ((k : Int) - 1) ∧ Hid (lastD ((ds.map Wr.key).drop k) p = none) ∧ Hid (Keeps W0 wr)) (fun y _ => (intOf y + 1).toNat)
  case atStart => exact ⟨ds.length, Nat.le_refl _, rfl, by show _ = _; rw [List.drop_of_length_le (by simp)]; rfl, HK1⟩
  case round =>
    obtain ⟨k, hk, rfl, HN, HKr⟩ := hrel
    obtain ⟨d0, d1⟩ := HD.out _ HKr.out
    by_cases hlt : 0 < k
    · obtain ⟨j, rfl⟩ : ∃ j, k = j + 1 := ⟨k - 1, by omega⟩
      have hj : j < ds.length := by omega
      rw [show (((j + 1 : Nat) : Int) - 1) = (j : Int) by omega]
      obtain ⟨b, off, ea, c0, c1⟩ := cell2 ((dsk_mem HM.out).2.2.1.kept HKr.out) j hj
      subst ea
      have HCx : Hid (Cells wr ds[j].b.a (bys ds[j].b.L)) := (mem_segW (dsk_mem HM.out).2.2.2 j hj).kept HKr.out
      have HNx := hide (HDO.out.nd _ (List.getElem_mem hj)).1
      have HLx : Hid (ds[j].b.L.length ≤ 4194304) := Nat.le_trans (totW_le (List.getElem_mem hj)) (Nat.le_trans HDO.out.td (by decide))
      have HHt := hide (fun he F => read_hit (cs := cs) (i := (p : Int)) hj he HN.out F)
      have HNt := hide (fun he => read_next (i := (p : Int)) hj he HN.out)
      generalize ds[j] = x at *
      obtain ⟨xi, xa, xc, xL⟩ := x
      dsimp only [Bs.v] at c0 c1 HCx HNx HLx HHt HNt
      by_cases he : xi = (p : Int)
      · subst he
        have HHit := hide (HHt.out rfl (fullL ((dat cs ds).cells.getD (p : Int).toNat [])))
        · skip
          have HC2 := hide (HCx.out.kept (Keeps.alloc (Keeps.refl wr) (.cells #[] 5)))
          have HO2 := hide (World.ownsRow_made (base := wr.heap.size) (e := 5) (size := 1) wr #[] 0 (Nat.le_refl _) (by decide) rfl)
          have HL2 : Hid (([] : List UInt8).length + xL.length ≤ 4194304) := by show _ ≤ _; have := HLx.out; simp; omega
          have hz : w.heap.size < wr.heap.size := by have := HKr.out.size; have := HZ.out; omega
          have hzb : b < wr.heap.size := lt_of_cell c1
          go_wp2_with (at_builtin; refine app_bys rfl (.tmp 37) (.tmp 43) rfl wr.heap.size _ [] xL rfl xa xc rfl HC2.out HNx.out HO2.out HL2.out (by simp) ?_; intro v3 w3 ho3 hg3)
          go_ret2
          have hk3 := Keeps.grown (Keeps.alloc (Keeps.refl wr) (.cells #[] 5)) hg3 (fun k hk => (HO2.out.lt k hk).1)
          exact ReadPost.yes HB.out HHit.out (OwnsB.older (by simpa using ho3) (HKA.out.trans HKr.out).size) (HKA.out.trans (HKr.out.trans hk3))
      · have hne : (xi == (p : Int)) = false := beq_eq_false_iff_ne.2 he
        have HNx2 := hide (HNt.out he)
        clear he
        go_wp2_with fail
        go_roundw
        case rel => exact ⟨j, by omega, rfl, HNx2, HKr⟩
        case measure => simp [intOf]
    · obtain rfl : k = 0 := by omega
      obtain ⟨b, off, ea, c0⟩ := cell1 ((dsk_mem HM.out).1.kept HKr.out) p hp
      subst ea
      have HCx : Hid (Cells wr cs[p].a (bys cs[p].L)) := (mem_seg (dsk_mem HM.out).2.1 p hp).kept HKr.out
      have HNx := hide (HDO.out.nc _ (List.getElem_mem hp)).1
      have HLx : Hid (cs[p].L.length ≤ 2097152) := Nat.le_trans (tot_le (List.getElem_mem hp)) (Nat.le_trans HDO.out.tc (by decide))
      have HMiss := hide (read_miss hp HN.out)
      have HLen : Hid (cs[p].L.length = 0 ∨ cs[p].L.length = 128) := dokM_cell HOk.out (List.mem_map.2 ⟨_, List.getElem_mem hp, rfl⟩)
      generalize cs[p] = x at *
      obtain ⟨xa, xc, xL⟩ := x
      dsimp only [Bs.v] at c0 HCx HNx HLx HMiss HLen
      · skip
        have HFu := hide (full_k xa xc xL wr HCx.out HNx.out HLx.out)
        go_wp2_with (go_at_call 43; refine (unhide HFu).mono ?_; rintro x w3 ⟨v3, rfl, ho3, hk3⟩)
        go_ret2
        exact ReadPost.yes HB.out HMiss.out (OwnsB.older ho3 (HKA.out.trans HKr.out).size) (HKA.out.trans (HKr.out.trans hk3))
end Go.Proofs.YtkdnddckogbgaaaDoor
namespace Go.Proofs.YtkdnddckogbgaaaDoor
open Go.RowKit Go.Deep
set_option linter.unusedVariables false

/-- The record of a loop over a function. -/
def recOf (fn : FuncId) (tmps : Array Value) (ps : Array Tmp) (assign body : Code) (D : Nat) (st : LoopState) (pe : Option Code) : Loop :=
  { state := st, pending := pe, fn := fn, tmps := tmps, params := ps, assign := assign, body := body, defers := D }
/-- The record lies there in that state, and ahead of it the block of its rounds' deferred calls, with none. -/
def RL (R : LoopState → Option Code → Loop) (D : Nat) (st : LoopState) (pe : Option Code) (W : World) : Prop :=
  W.heap[D + 1]? = some (.loop (R st pe)) ∧ W.heap[D]? = some (.deferred (some []))
theorem RL.lt {R : LoopState → Option Code → Loop} {D : Nat} {st : LoopState} {pe : Option Code} {W : World} (h : RL R D st pe W) : D + 1 < W.heap.size := (Array.getElem?_eq_some_iff.1 h.1).1
theorem RL.turn {R : LoopState → Option Code → Loop} {D : Nat} {st : LoopState} {pe : Option Code} {W W' : World} {fs : List Nat} (h : RL R D st pe W) (ht : Turn fs W W') (h1 : D ∉ fs) (h2 : D + 1 ∉ fs) : RL R D st pe W' :=
  ⟨(ht.block _ h.lt h2).trans h.1, (ht.block _ (Nat.lt_of_succ_lt h.lt) h1).trans h.2⟩
theorem RL.kept {R : LoopState → Option Code → Loop} {D : Nat} {st : LoopState} {pe : Option Code} {W W' : World} (h : RL R D st pe W) (ht : Keeps W W') : RL R D st pe W' := h.turn (Turn.of_keeps ht []) (by simp) (by simp)
theorem turn_putObj (W : World) (l : Nat) (o : Obj) : Turn [l] W (W.putObj l o) :=
  ⟨rfl, rfl, rfl, by simp, fun k hk hn => World.putObj_heap_other (fun e => hn (by simp [e]))⟩
theorem RL.put {R : LoopState → Option Code → Loop} {D : Nat} {st : LoopState} {pe : Option Code} {W : World} (h : RL R D st pe W) (st' : LoopState) (pe' : Option Code) : RL R D st' pe' (W.putObj (D + 1) (.loop (R st' pe'))) :=
  ⟨World.putObj_heap_same h.lt, (World.putObj_heap_other (by omega)).trans h.2⟩

variable {F : Fence} {n : Nat} {P : Program}

/-- How a round may be left. -/
def RoundEnd (R : LoopState → Option Code → Loop) (D : Nat) (G : World → Prop) (Gx : Code → World → Prop) : Exit → Act → World → Prop
  | .normal, _, W => RL R D .busy none W ∧ ∀ W', Turn [D + 1] W W' → G W'
  | .ret, _, W => RL R D .busy none W ∧ ∀ W', Turn [D + 1] W W' → Gx .ret W'
  | .exit id, _, W => RL R D .busy none W ∧ ∀ W', Turn [D + 1] W W' → Gx (.exit id) W'
  | .goto t, _, W => RL R D .busy none W ∧ ∀ W', Turn [D + 1] W W' → Gx (.goto t) W'
  | .panic _, _, _ => False
  | .outgrown, _, _ => False

/-- What a round says to its iterator. -/
def RoundSays (R : LoopState → Option Code → Loop) (D : Nat) (G : World → Prop) (Gx : Code → World → Prop) (e : Ending) (W : World) : Prop :=
  (e = .returned (.bool true) ∧ G W ∧ RL R D .ready none W) ∨ (e = .returned (.bool false) ∧ ∃ c, Gx c W ∧ RL R D .done (some c) W)

theorem yield_round {fn : FuncId} {tmps : Array Value} {ps : Array Tmp} {assign body : Code} {D : Nat} {args : Array Value} {W : World} {G : World → Prop} {Gx : Code → World → Prop}
    (hfn : F.fn fn) (hr : RL (recOf fn tmps ps assign body D) D .ready none W) (hps : args.size = ps.size)
    (h : assign.wpIn (F.inRound (D + 1)) n P (Exit.then (fun a₁ w₁ => RL (recOf fn tmps ps assign body D) D .ready none w₁ ∧
        ∀ w₂, Turn [D + 1] w₁ w₂ → RL (recOf fn tmps ps assign body D) D .busy none w₂ → body.wpIn (F.inRound (D + 1)) n P (RoundEnd (recOf fn tmps ps assign body D) D G Gx) a₁ w₂) (fun _ _ _ => False))
      { tmps := (ps.zip args).foldl (fun t (p, v) => t.setIfInBounds p v) tmps, defers := [] } W) :
    YieldAt F n P (D + 1) args W (RoundSays (recOf fn tmps ps assign body D) D G Gx) := by
  have hy := run_yield (P := P) (args := args) hr.1 hps
  refine ⟨fn, _, assign, body, hy, roundIn_of_wpIn hfn (wpIn_mono h ?_)⟩
  intro e a₁ w₁ hq
  cases e with
  | normal =>
    obtain ⟨hl, hb⟩ := hq
    refine ⟨_, run_beginRound hl.1 rfl, wpIn_mono (hb _ (turn_putObj _ _ _) (hl.put .busy none)) ?_⟩
    intro e2 a2 w2 hp
    cases e2 with
    | normal =>
      obtain ⟨hl2, hg⟩ := hp
      exact ⟨_, _, run_endRound none hl2.1, .inl ⟨rfl, hg _ (turn_putObj _ _ _), hl2.put .ready none⟩⟩
    | ret =>
      obtain ⟨hl2, hg⟩ := hp
      exact ⟨_, _, run_endRound (some .ret) hl2.1, .inr ⟨rfl, _, hg _ (turn_putObj _ _ _), hl2.put .done (some .ret)⟩⟩
    | exit id =>
      obtain ⟨hl2, hg⟩ := hp
      exact ⟨_, _, run_endRound (some (.exit id)) hl2.1, .inr ⟨rfl, _, hg _ (turn_putObj _ _ _), hl2.put .done (some (.exit id))⟩⟩
    | goto t =>
      obtain ⟨hl2, hg⟩ := hp
      exact ⟨_, _, run_endRound (some (.goto t)) hl2.1, .inr ⟨rfl, _, hg _ (turn_putObj _ _ _), hl2.put .done (some (.goto t))⟩⟩
    | panic ch => exact hp.elim
    | outgrown => exact hp.elim
  | exit id => exact hq
  | goto t => exact hq
  | ret => exact hq
  | panic ch => exact hq
  | outgrown => exact hq

/-- The statement: the iterator's contract at this loop's record, and what follows. -/
theorem wp_range {g : Operand} {ps : Array Tmp} {assign body : Code} {Q : Exit → Act → World → Prop} {a : Act} {w : World}
    (hro : F.round = none) (h1 : 1 ≤ n) {gf : Nat} {lb : Array Value} (hg : a.eval g = .func (.func gf) #[] lb) (hFg : F.fn gf) (eg : ∀ args w, (callFunc gf args).run P w = .ok (.enter gf args) w)
    (G : World → Prop) (Gx : Code → World → Prop)
    (hit : ∀ fn, F.fn fn → ∀ W1, Keeps w W1 → W1.heap.size = w.heap.size + 2 → RL (recOf fn a.tmps ps assign body w.heap.size) w.heap.size .ready none W1 →
      CallsIn F (n - 1) P gf (#[.func (.yield (w.heap.size + 1)) #[] #[]] ++ lb) W1 (fun e W' => (∃ v, e = .returned v) ∧ ((G W' ∧ RL (recOf fn a.tmps ps assign body w.heap.size) w.heap.size .ready none W') ∨ (∃ c, Gx c W' ∧ RL (recOf fn a.tmps ps assign body w.heap.size) w.heap.size .done (some c) W'))))
    (hdone : ∀ W W', G W → Turn [w.heap.size + 1] W W' → W'.heap[w.heap.size]? = some (.deferred (some [])) → Q .normal { a with defers := { target := .collected w.heap.size, args := #[] } :: a.defers } W')
    (hstop : ∀ c W W', Gx c W → Turn [w.heap.size + 1] W W' → W'.heap[w.heap.size]? = some (.deferred (some [])) → c.wpIn F n P Q { a with defers := { target := .collected w.heap.size, args := #[] } :: a.defers } W') :
    (Code.rangeFunc g ps assign body).wpIn F n P Q a w := by
  refine wpIn_rangeFunc ?_
  intro fn hfn
  rw [hro]
  obtain ⟨W1, hW1⟩ : ∃ W1, (w.alloc (.deferred (some []))).alloc (.loop (recOf fn a.tmps ps assign body w.heap.size .ready none)) = W1 := ⟨_, rfl⟩
  have hL1 : RL (recOf fn a.tmps ps assign body w.heap.size) w.heap.size .ready none W1 := by
    refine ⟨?_, ?_⟩
    · rw [← hW1]; have := World.alloc_heap_new (w.alloc (.deferred (some []))) (.loop (recOf fn a.tmps ps assign body w.heap.size .ready none)); rwa [World.size_alloc] at this
    · rw [← hW1]; exact (Below.heap_alloc _ _ _ (by simp)).trans (World.alloc_heap_new w _)
  have hk1 : Keeps w W1 := by rw [← hW1]; exact ((Keeps.refl w).alloc _).alloc _
  have hs1 : W1.heap.size = w.heap.size + 2 := by rw [← hW1]; simp
  refine ⟨w.heap.size + 1, [{ target := .collected w.heap.size, args := #[] }], W1, { target := .fn (.func gf) lb, args := #[.func (.yield (w.heap.size + 1)) #[] #[]] }, W1, gf,
    #[.func (.yield (w.heap.size + 1)) #[] #[]] ++ lb, W1, ?_, ?_, ?_, ?_, fun _ => h1, ?_⟩
  · rw [← hW1]; exact run_enterLoop_outer _ _ _ _ _
  · simp only [resolve, hg]
    simp [go_sem]
  · intro f' hf'; simp [Target.leads] at hf'; subst hf'; exact hFg
  · simp [invoke, go_sem, eg]
  · refine (hit fn hfn W1 hk1 hs1 hL1).mono ?_
    rintro e W2 ⟨⟨v, rfl⟩, (⟨hG, hl⟩ | ⟨c, hG, hl⟩)⟩
    · exact ⟨none, _, run_endLoop hl.1 (by simp [recOf]), hdone _ _ hG (turn_putObj _ _ _) ((World.putObj_heap_other (by omega)).trans hl.2)⟩
    · exact ⟨some c, _, run_endLoop hl.1 (by simp [recOf]), hstop c _ _ hG (turn_putObj _ _ _) ((World.putObj_heap_other (by omega)).trans hl.2)⟩
end Go.Proofs.YtkdnddckogbgaaaDoor
namespace Go.Proofs.YtkdnddckogbgaaaDoor
open Go.RowKit Go.Deep Go.Shelf
set_option linter.unusedVariables false
set_option maxRecDepth 10000
attribute [local go_sem] Oper.semAt_some

set_option maxHeartbeats 4000000 in
theorem secread_nil (w : World) (u : TypeId) (pv : Value) (hv : w.cell? ⟨0, 0, none⟩ = some (.iface u pv)) :
    Calls Tryd.prog 54 #[.slice none 0 0] w (SrPost w []) := by
  have hB : srB [] = false := rfl
  have hmf : ∀ (fn : Fn) (first cap : Array Value) (w : World), (Instr.makeFunc fn first cap).run Tryd.prog w = .ok (.func fn first cap) w := fun _ _ _ _ => rfl
  have hk3 := threeS_keeps w none 0 0
  have HE := hide (sector_len (w.heap.size + 1 + 1) none 0 0 (threeS w none 0 0) u pv (hk3.cell hv) (threeS_rd w none [] 0).data (by decide) (by decide))
  have HO := hide (threeS_own w none 0 0)
  have H1 := hide (threeS_b w none 0 0)
  have H2 := hide (threeS_zb w none 0 0)
  have HK := hide hk3
  have HSZ : Hid ((threeS w none 0 0).heap.size = w.heap.size + 3) := by show _ = _; simp
  have HB := hide hB
  clear hk3 hv
  go_enter_defers Tryd.func54, Tryd.ntmps54
  go_wp2_with fail
  go_at_call 65
  refine (unhide HE).mono ?_
  rintro e w1 ⟨rfl, ht⟩
  have hO := HO.out.turn ht (fun x hx hb => by
    rw [fp_one, fpS_some (by simp)] at hx
    simp at hx hb
    omega)
  have t1 := ht.cell (p := ⟨w.heap.size + 1, 0, none⟩) (by simp) H1.out
  have z1 : w1.frozen? ⟨w.heap.size + 1, 0, none⟩ = false := by rw [← H2.out]; exact World.frozen?_of_block (ht.block _ (by simp) (by simp))
  have hk1 : Keeps w w1 := ht.keeps HK.out (fun x hx => by simp at hx; omega)
  clear ht HE HO H1 H2 HK HSZ
  have hO2 := own_setB (a := ⟨w.heap.size + 1, 0, none⟩) (own_threeB hO (.int .i64 0) (.int .i64 0) (.slice none 0 0)) (.bool false) (fp_ne (by simp))
  have hk2 := (keeps_threeB hk1 (Nat.le_refl _) (.int .i64 0) (.int .i64 0) (.slice none 0 0)).setCell (p := ⟨w.heap.size + 1, 0, none⟩) (Nat.le_succ _) (.bool false)
  have e8 := World.cell?_setCell_same (((w1.setCell ⟨w.heap.size, 0, none⟩ (.int .i64 0)).setCell ⟨w.heap.size, 1, none⟩ (.int .i64 0)).setCell ⟨w.heap.size, 2, none⟩ (.slice none 0 0)) ⟨w.heap.size + 1, 0, none⟩ (.bool false) (three_other (R := w.heap.size) (p := ⟨w.heap.size + 1, 0, none⟩) (by simp) t1 (.int .i64 0) (.int .i64 0) (.slice none 0 0))
  have e0 := cell_at hO2.mem 0 (by simp)
  have e1 := cell_at hO2.mem 1 (by simp)
  have e2 := cell_at hO2.mem 2 (by simp)
  simp only [Nat.zero_add, List.getElem_cons_zero, List.getElem_cons_succ] at e0 e1 e2
  have hP := SrPost.no HB.out hk2
  refine leaves_cons (f := 64) (args := #[.pointer (some ⟨w.heap.size, 0, none⟩), .pointer (some ⟨w.heap.size + 1, 0, none⟩)]) (by simp) rfl ?_
  refine (catchS_panic w.heap.size (w.heap.size + 1) (by omega) _ _ _ _ u pv [] w1 hO t1 z1).mono ?_
  rintro e u' w' ⟨rfl, rfl, hw'⟩
  rw [← hw'] at e0 e1 e2 e8 hP
  simp [Leaves, settle, results, Tryd.results54, go_sem, e0, e1, e2, e8]
  exact hP
/-- SectorRead of a list of bytes that the call itself made. -/
theorem secread_own (v : Value) (L : List UInt8) (base : Nat) (w : World) (u : TypeId) (pv : Value) (hv : w.cell? ⟨0, 0, none⟩ = some (.iface u pv)) (ho : OwnsB w base v L) (hl : L.length ≤ 16777216) :
    Calls Tryd.prog 54 #[v] w (SrPost w L) := by
  obtain ⟨a, cap, e1, e2, e3, e4, e5, _⟩ := Own.of_owns ho
  have hc := e5.one
  rcases ho.2 with ⟨rfl, _⟩ | ⟨g, c, _, rfl, _⟩
  · have h1 : L = [] := by
      injection e1 with e6 e7 e8
      exact List.length_eq_zero_iff.1 e7.symm
    subst h1
    exact secread_nil w u pv hv
  · injection e1 with e6 e7 e8
    rw [← e6] at hc
    rw [← e8] at e2 e3
    exact secread_impl g 0 L c w u pv hv hc hl e2 (Nat.le_trans e3 (by decide))
/-- What the iterator reads of the disk, wherever it stands. -/
def AllAt (Bx : Nat) (ca : Option Addr) (cc : Nat) (cs : List Bs) (da : Option Addr) (dc : Nat) (ds : List Wr) (u : TypeId) (pv : Value) (W : World) : Prop :=
  W.cell? ⟨Bx, 0, none⟩ = some (.slice ca cs.length cc) ∧ W.cell? ⟨Bx, 1, none⟩ = some (.slice da ds.length dc) ∧ Mem W (dsk ca cs da ds) ∧ W.cell? ⟨0, 0, none⟩ = some (.iface u pv)
theorem AllAt.kept {Bx : Nat} {ca : Option Addr} {cc : Nat} {cs : List Bs} {da : Option Addr} {dc : Nat} {ds : List Wr} {u : TypeId} {pv : Value} {W W' : World} (h : AllAt Bx ca cc cs da dc ds u pv W) (hk : Keeps W W') : AllAt Bx ca cc cs da dc ds u pv W' :=
  ⟨hk.cell h.1, hk.cell h.2.1, h.2.2.1.kept hk, hk.cell h.2.2.2⟩
theorem readL_no {m : DkM} (h : dokM m = false) (i : Int) : srB (readL m i) = false := by
  unfold readL
  rw [readB_dok h]
  rfl
/-- Of a disk that isn't right no sector is told. -/
theorem all_none {m : DkM} {n : Nat} {J : Nat → World → Prop} (h : dokM m = false) (hS : ∀ k W, k < n → J k W → srB (readL m k) = false → J (k + 1) W) {W : World} : ∀ k, k ≤ n → J 0 W → J k W
  | 0, _, h0 => h0
  | k + 1, hk, h0 => hS k W (by omega) (all_none h hS k (by omega) h0) (readL_no h _)
set_option maxHeartbeats 8000000 in
theorem all_in (n l Bx : Nat) (ca : Option Addr) (cc : Nat) (cs : List Bs) (da : Option Addr) (dc : Nat) (ds : List Wr) (u : TypeId) (pv : Value) (J : Nat → World → Prop) (Jx : World → Prop) (hd : DOk cs ds)
    (hJ : ∀ k W, J k W → AllAt Bx ca cc cs da dc ds u pv W)
    (hA : ∀ k W W', J k W → Keeps W W' → J k W')
    (hS : ∀ k W, k < cs.length → J k W → srB (readL (dat cs ds) k) = false → J (k + 1) W)
    (hY : ∀ k W W' a c, k < cs.length → J k W → srB (readL (dat cs ds) k) = true → CapB a c (srL (readL (dat cs ds) k)).length → Born W W' [(a, bys (srL (readL (dat cs ds) k)))] → Keeps W W' →
      YieldAt Fence.wide (n - 1) Tryd.prog l #[.int .i64 (k : Nat), secV (srQ (readL (dat cs ds) k)) (srE (readL (dat cs ds) k)) a (srL (readL (dat cs ds) k)).length c] W' fun e W'' =>
        (e = .returned (.bool true) ∧ J (k + 1) W'') ∨ (e = .returned (.bool false) ∧ Jx W''))
    (W : World) (h0 : J 0 W) :
    CallsIn Fence.wide n Tryd.prog 52 #[.func (.yield l) #[] #[], .pointer (some ⟨Bx, 0, none⟩)] W fun e W' => (∃ v, e = .returned v) ∧ (J cs.length W' ∨ Jx W') := by
  refine callsIn_of_wp Tryd.func52 rfl trivial ?_ rfl
  simp only [Tryd.ntmps52, List.size_toArray, List.length_cons, List.length_nil, Nat.reduceAdd, Nat.reduceSub, Array.replicate_succ, Array.replicate_zero, List.push_toArray, List.append_toArray, List.nil_append, List.cons_append]
  obtain ⟨c0, c1, hm, hv⟩ := hJ 0 W h0
  have HJ := hide hJ
  have HA := hide hA
  have HSk := hide hS
  have HY := hide hY
  have HD := hide hd
  have hcl := hd.c
  have HM := hide hm
  have HV := hide hv
  have HQ := hide (diskok_impl' ca cc cs da dc ds W hm hd)
  have HJ0 := hide (hA 0 W)
  have H0 := hide h0
  have HNo := hide (fun (h : dokM (dat cs ds) = false) (W' : World) (h0 : J 0 W') => all_none (n := cs.length) h hS cs.length (Nat.le_refl _) h0)
  clear hJ hA hS hY hd hm hv h0
  gi_wp2
  refine ⟨trivial, nofun, (callsIn_wide.2 HQ.out).mono ?_⟩
  rintro e w0 ⟨rfl, hk0⟩
  have HJz := hide (HJ0.out w0 H0.out hk0)
  obtain ⟨c0', c1', _, _⟩ := HJ.out 0 w0 HJz.out
  clear hk0 HJ0 H0 HQ c0 c1
  cases hok : dokM (dat cs ds)
  · have HE := hide (HNo.out hok w0 HJz.out)
    clear hok
    gi_wp2
    refine bodyPost_ret (results_none rfl _ _ _) rfl ?_
    exact ⟨⟨_, rfl⟩, .inl HE.out⟩
  have HOK := hide hok
  clear hok HNo
  gi_wp2
  gi_loopw [12] (fun p wr => ∃ k : Nat, k ≤ cs.length ∧ p = .int .i64 (k : Int) ∧ Hid (J k wr)) (fun p _ => cs.length - (intOf p).toNat)
  case atStart => exact ⟨0, Nat.zero_le _, rfl, HJz⟩
  case round =>
    obtain ⟨k, hk, rfl, HJk⟩ := hrel
    clear c0' c1' HM HV
    by_cases hlt : k < cs.length
    · obtain ⟨c0, c1, hm, hv⟩ := HJ.out k wr HJk.out
      have HR := hide (newest_impl ca cc cs da dc ds k wr hm HD.out HOK.out hlt)
      have HV := hide hv
      clear hm hv
      gi_wp2
      refine ⟨trivial, nofun, (callsIn_wide.2 HR.out).mono ?_⟩
      rintro e w1 ⟨v, rfl, ho, hk1⟩
      clear HR
      have HR := hide (secread_own v _ _ w1 u pv (hk1.cell HV.out) ho (Nat.le_trans (readL_len _ _) (by decide)))
      have HK1 := hide hk1
      clear ho hk1 HV c0 c1
      gi_wp2
      refine ⟨trivial, nofun, (callsIn_wide.2 HR.out).mono ?_⟩
      rintro e w2 ⟨a, c, rfl, hac, hb, hk2⟩
      clear HR
      cases hB : srB (readL (dat cs ds) k)
      · have HJ2 := hide (HSk.out k _ hlt (HA.out k _ _ HJk.out ((HK1.out.trans hk2).alloc (.cells #[.int .i64 (srQ (readL (dat cs ds) k)), .int .i64 (srE (readL (dat cs ds) k)), .slice a (srL (readL (dat cs ds) k)).length c] 52))) hB)
        clear hb hk2 hac
        gi_wp2
        refine ⟨fun _ h => (by cases h), ?_⟩
        gi_wp2
        go_roundw
        case rel => exact ⟨k + 1, by omega, by go_num, HJ2⟩
        case measure => simp [intOf]; omega
      · have hk3 := (HK1.out.trans hk2).alloc (.cells #[.int .i64 (srQ (readL (dat cs ds) k)), .int .i64 (srE (readL (dat cs ds) k)), .slice a (srL (readL (dat cs ds) k)).length c] 52)
        have hb3 := (hb.old HK1.out).kept ((Keeps.refl w2).alloc (.cells #[.int .i64 (srQ (readL (dat cs ds) k)), .int .i64 (srE (readL (dat cs ds) k)), .slice a (srL (readL (dat cs ds) k)).length c] 52))
        obtain ⟨fn, tmps, assign, body, hy, hR⟩ := HY.out k wr _ a c hlt HJk.out hB hac hb3 hk3
        clear hb hk2 hac hk3 hb3
        gi_wp2
        refine ⟨nofun, hR.mono ?_⟩
        rintro e W3 (⟨rfl, hJ3⟩ | ⟨rfl, hJx3⟩)
        · have HJ3 := hide hJ3
          clear hJ3 hy hR
          gi_wp2
          go_roundw
          case rel => exact ⟨k + 1, by omega, by go_num, HJ3⟩
          case measure => simp [intOf]; omega
        · clear hy hR
          gi_wp2
          refine bodyPost_ret (results_none rfl _ _ _) rfl ?_
          exact ⟨⟨_, rfl⟩, .inr hJx3⟩
    · have e : k = cs.length := by omega
      subst e
      gi_wp2
      go_end0
      exact ⟨⟨_, rfl⟩, .inl HJk.out⟩
end Go.Proofs.YtkdnddckogbgaaaDoor
namespace Go.Proofs.YtkdnddckogbgaaaDoor
open Go.RowKit Go.Deep
set_option linter.unusedVariables false

/-- The greatest epoch in the cells ahead of k. -/
def topTo (m : DkM) : Nat → Int
  | 0 => 0
  | k + 1 => if srB (readL m k) = true ∧ topTo m k < srE (readL m k) then srE (readL m k) else topTo m k
theorem topTo_skip {m : DkM} {k : Nat} (h : srB (readL m k) = false) : topTo m (k + 1) = topTo m k := by simp [topTo, h]
/-- Of a disk that isn't right nothing is read. -/
theorem readL_bad {m : DkM} (h : dokM m = false) (i : Int) : readL m i = [] := by unfold readL; rw [readB_dok h]; rfl
theorem topTo_bad {m : DkM} (h : dokM m = false) : ∀ k, topTo m k = 0
  | 0 => rfl
  | k + 1 => by rw [topTo_skip (by rw [readL_bad h]; rfl)]; exact topTo_bad h k
/-- The epoch ahead of cell k, if all ahead of it fit. -/
def lastE (m : DkM) : Nat → Int
  | 0 => 0
  | k + 1 => srE (readL m k)
/-- Does cell k fit? -/
def fitB (m : DkM) (k : Nat) : Bool := srB (readL m k) && decide (srQ (readL m k) = k) && decide (lastE m k ≤ srE (readL m k))
def fitTo (m : DkM) (k : Nat) : Prop := ∀ j, j < k → fitB m j = true
/-- How many cells fit, from the first on, of those ahead of n. -/
def logTo (m : DkM) : Nat → Nat
  | 0 => 0
  | n + 1 => if logTo m n = n ∧ fitB m n = true then n + 1 else logTo m n
def logN (m : DkM) : Nat := logTo m m.cells.length
theorem logTo_le (m : DkM) : ∀ n, logTo m n ≤ n
  | 0 => Nat.le_refl _
  | n + 1 => by
    unfold logTo
    split
    · exact Nat.le_refl _
    · exact Nat.le_succ_of_le (logTo_le m n)
theorem logTo_all {m : DkM} : ∀ {n : Nat}, fitTo m n → logTo m n = n
  | 0, _ => rfl
  | n + 1, h => by
    unfold logTo
    rw [if_pos ⟨logTo_all (fun j hj => h j (by omega)), h n (by omega)⟩]
theorem logTo_stop {m : DkM} {k : Nat} (hf : fitTo m k) (hn : fitB m k = false) : ∀ {n : Nat}, k ≤ n → logTo m n = k
  | 0, h => by have : k = 0 := by omega
               subst this; rfl
  | n + 1, h => by
    by_cases e : k = n + 1
    · subst e; exact logTo_all hf
    · have h1 := logTo_stop hf hn (n := n) (by omega)
      unfold logTo
      rw [if_neg ?_]
      · exact h1
      · rintro ⟨h2, h3⟩
        have : k = n := by omega
        subst this
        rw [hn] at h3
        exact Bool.noConfusion h3
theorem fitTo_succ {m : DkM} {k : Nat} (h : fitTo m k) (hk : fitB m k = true) : fitTo m (k + 1) := fun j hj => by
  by_cases e : j = k
  · subst e; exact hk
  · exact h j (by omega)
end Go.Proofs.YtkdnddckogbgaaaDoor
namespace Go.Proofs.YtkdnddckogbgaaaDoor
open Go.RowKit Go.Deep Go.Shelf
set_option linter.unusedVariables false
set_option maxRecDepth 10000
attribute [local go_sem] Oper.semAt_some

theorem all_make (ca : Option Addr) (cc : Nat) (cs : List Bs) (da : Option Addr) (dc : Nat) (ds : List Wr) (w : World) :
    Calls Tryd.prog 37 #[dskV ca cs.length cc da ds.length dc] w fun e w' => e = .returned (.func (.func 52) #[] #[.pointer (some ⟨w.heap.size, 0, none⟩)]) ∧ w' = w.alloc (.cells #[.slice ca cs.length cc, .slice da ds.length dc] 33) := by
  have hmf : ∀ (fn : Fn) (first cap : Array Value) (w : World), (Instr.makeFunc fn first cap).run Tryd.prog w = .ok (.func fn first cap) w := fun _ _ _ _ => rfl
  go_enter Tryd.func37, Tryd.ntmps37
  go_wp2_with fail
  go_ret
  exact ⟨rfl, rfl⟩
theorem AllAt.turn {Bx : Nat} {ca : Option Addr} {cc : Nat} {cs : List Bs} {da : Option Addr} {dc : Nat} {ds : List Wr} {u : TypeId} {pv : Value} {W W' : World} (h : AllAt Bx ca cc cs da dc ds u pv W) {fs : List Nat} (ht : Turn fs W W') (h1 : Bx ∉ fs) (h2 : ∀ x ∈ fp (dsk ca cs da ds), x ∉ fs) (h3 : 0 ∉ fs) : AllAt Bx ca cc cs da dc ds u pv W' :=
  ⟨ht.cell h1 h.1, ht.cell h1 h.2.1, h.2.2.1.turn ht h2, ht.cell h3 h.2.2.2⟩
end Go.Proofs.YtkdnddckogbgaaaDoor
