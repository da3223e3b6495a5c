/- DiskRead, the program's and the model's. -/
import Derived.Test.YtmkhlhjggbencaaGreatDoorCLogOpen3
import Derived.Test.YtmkhlhjggbencaaGreatDoorCLogOpen1
import Derived.RangeFuncNested
import Derived.RangeFuncBound
import Derived.RangeFuncCalls
import Derived.RangeFuncLeaves
import Derived.Shelf.Abstract
import Derived.Shelf.RegionOpen
import Derived.OwnWalkIn
import Derived.TacticsInMore
import Derived.LoopNIn
import Derived.LoopIn
import Derived.Test.YtmkhlhjggbencaaGreatDoorCLogOpen11
import Derived.Test.YtmkhlhjggbencaaGreatDoorCLogOpen9
import Derived.Test.YtmkhlhjggbencaaGreatDoorCLogOpen10
import Derived.Test.YtmkhlhjggbencaaGreatDoorCLogOpen5
import Derived.Test.YtmkhlhjggbencaaGreatDoorCLogOpen4
namespace Go.Proofs.YtmkhlhjggbencaaGreatDoor
open Go.RowKit Go.Deep
set_option linter.unusedVariables false
set_option maxRecDepth 10000

theorem readB_dok {m : DkM} {i : Int} (h : dokM m = false) : readB m i = false := by unfold readB; rw [h, Bool.false_and]
theorem readB_out {m : DkM} {i : Int} (h : i < 0 ∨ (m.cells.length : Int) ≤ i) : readB m i = false := by
  unfold readB
  rcases h with h | h
  · rw [decide_eq_false (show ¬ 0 ≤ i by omega)]; simp
  · rw [decide_eq_false (show ¬ i < (m.cells.length : Int) by omega)]; simp
theorem readB_in {m : DkM} {i : Int} (h : dokM m = true) (h0 : 0 ≤ i) (h1 : i < (m.cells.length : Int)) : readB m i = true := by
  unfold readB; rw [h, decide_eq_true h0, decide_eq_true h1]; rfl
theorem read_hit {cs : List Bs} {ds : List Wr} {i : Int} {k : Nat} (hk : k < ds.length) (he : ds[k].i = i) (hn : lastD ((ds.map Wr.key).drop (k + 1)) i = none) (F : List UInt8) : (lastD (dat cs ds).dirty i).getD F = ds[k].b.L := by
  have e : (dat cs ds).dirty = (ds.map Wr.key).take k ++ (ds[k].key :: (ds.map Wr.key).drop (k + 1)) := by
    show ds.map Wr.key = _
    have hk' : k < (ds.map Wr.key).length := by simpa using hk
    have : ds[k].key = (ds.map Wr.key)[k] := by simp
    rw [this, ← List.drop_eq_getElem_cons hk', List.take_append_drop]
  rw [e, lastD_append]
  simp [lastD, hn, Wr.key, he]
theorem read_next {ds : List Wr} {i : Int} {k : Nat} (hk : k < ds.length) (he : ds[k].i ≠ i) (hn : lastD ((ds.map Wr.key).drop (k + 1)) i = none) : lastD ((ds.map Wr.key).drop k) i = none := by
  have hk' : k < (ds.map Wr.key).length := by simpa using hk
  rw [List.drop_eq_getElem_cons hk']
  simp [lastD, hn, Wr.key, he]
theorem read_miss {cs : List Bs} {ds : List Wr} {i : Nat} (hi : i < cs.length) (hn : lastD ((ds.map Wr.key).drop 0) i = none) : (lastD (dat cs ds).dirty i).getD (fullL ((dat cs ds).cells.getD (i : Int).toNat [])) = fullL cs[i].L := by
  rw [List.drop_zero] at hn
  show (lastD (ds.map Wr.key) i).getD _ = _
  rw [hn, Option.getD_none, Int.toNat_natCast]
  simp [dat, hi]
set_option maxHeartbeats 4000000 in
theorem diskread_impl (ca : Option Addr) (cc : Nat) (cs : List Bs) (da : Option Addr) (dc : Nat) (ds : List Wr) (i : Int) (w : World) (hm : Mem w (dsk ca cs da ds)) (h : DOk cs ds) :
    Calls Tryz.prog 91 #[dskV ca cs.length cc da ds.length dc, .int .i64 i] w (ReadPost w (dat cs ds) i) := by
  have HKA := hide (Keeps.alloc (Keeps.refl w) (.cells #[.slice ca cs.length cc, .slice da ds.length dc] 26))
  have HM := hide (hm.kept HKA.out)
  have HD : Hid (∀ w', Keeps (w.alloc (.cells #[.slice ca cs.length cc, .slice da ds.length dc] 26)) w' → w'.cell? ⟨w.heap.size, 0, none⟩ = some (.slice ca cs.length cc) ∧ w'.cell? ⟨w.heap.size, 1, none⟩ = some (.slice da ds.length dc)) :=
    fun w' hk => ⟨hk.cell (by simp), hk.cell (by simp)⟩
  have HZ : Hid ((w.alloc (.cells #[.slice ca cs.length cc, .slice da ds.length dc] 26)).heap.size = w.heap.size + 1) := by show _ = _; rw [World.size_alloc]
  have HQ := hide (diskok_impl' ca cc cs da dc ds _ HM.out h)
  have hcl := h.c
  have hdl := h.d
  clear hm
  cases hok : dokM (dat cs ds)
  · rw [hok] at HQ
    have HB := hide (readB_dok (i := i) hok)
    clear hok h
    go_enter Tryz.func91, Tryz.ntmps91
    go_wp2_with (go_at_call 45; refine (unhide HQ).mono ?_; rintro x w1 ⟨rfl, hk1⟩; have HK1 := hide hk1; obtain ⟨d0, d1⟩ := HD.out _ hk1; clear hk1)
    go_ret2
    exact ReadPost.no HB.out (HKA.out.trans HK1.out)
  rw [hok] at HQ
  have HOk := hide hok
  clear hok
  by_cases h0 : i < 0
  · clear hdl
    have HB := hide (readB_out (m := dat cs ds) (i := i) (Or.inl h0))
    have HH := hide (fun w1 => hascell_k ca cs.length cc da ds.length dc i w1 h.big.1)
    rw [show (decide (0 ≤ i) && decide (i < (cs.length : Int))) = false by simp; omega] at HH
    go_enter Tryz.func91, Tryz.ntmps91
    go_wp2_with (first | (go_at_call 45; refine (unhide HQ).mono ?_; rintro x w1 ⟨rfl, hk1⟩; have HK1 := hide hk1; obtain ⟨d0, d1⟩ := HD.out _ hk1; clear hk1) | (go_at_call 83; refine (unhide HH _).mono ?_; rintro x w2 ⟨rfl, hk2⟩; have HK2 := hide (HK1.out.trans hk2); clear d0 d1; obtain ⟨d0, d1⟩ := HD.out _ HK2.out; clear hk2))
    go_ret2
    exact ReadPost.no HB.out (HKA.out.trans HK2.out)
  by_cases h1 : (cs.length : Int) ≤ i
  · clear hdl
    have HB := hide (readB_out (m := dat cs ds) (i := i) (Or.inr (by show ((cs.map Bs.L).length : Int) ≤ i; simpa using h1)))
    have HH := hide (fun w1 => hascell_k ca cs.length cc da ds.length dc i w1 h.big.1)
    rw [show (decide (0 ≤ i) && decide (i < (cs.length : Int))) = false by simp; omega] at HH
    go_enter Tryz.func91, Tryz.ntmps91
    go_wp2_with (first | (go_at_call 45; refine (unhide HQ).mono ?_; rintro x w1 ⟨rfl, hk1⟩; have HK1 := hide hk1; obtain ⟨d0, d1⟩ := HD.out _ hk1; clear hk1) | (go_at_call 83; refine (unhide HH _).mono ?_; rintro x w2 ⟨rfl, hk2⟩; have HK2 := hide (HK1.out.trans hk2); clear d0 d1; obtain ⟨d0, d1⟩ := HD.out _ HK2.out; clear hk2))
    go_ret2
    exact ReadPost.no HB.out (HKA.out.trans HK2.out)
  obtain ⟨p, rfl⟩ : ∃ p : Nat, i = p := ⟨i.toNat, by omega⟩
  have hp : p < cs.length := by omega
  have HB := hide (readB_in (m := dat cs ds) (i := p) HOk.out (by omega) (by show (p : Int) < ((cs.map Bs.L).length : Int); simpa using hp))
  have HDO := hide h
  have HH := hide (fun w1 => hascell_k ca cs.length cc da ds.length dc (p : Int) w1 h.big.1)
  rw [show (decide (0 ≤ (p : Int)) && decide ((p : Int) < (cs.length : Int))) = true by simp; omega] at HH
  clear h h0 h1
  go_enter Tryz.func91, Tryz.ntmps91
  go_wp2_with (first | (go_at_call 45; refine (unhide HQ).mono ?_; rintro x w1 ⟨rfl, hk1⟩; have HK1 := hide hk1; obtain ⟨d0, d1⟩ := HD.out _ hk1; clear hk1) | (go_at_call 83; refine (unhide HH _).mono ?_; rintro x w2 ⟨rfl, hk2⟩; have HK2 := hide (HK1.out.trans hk2); clear d0 d1; obtain ⟨d0, d1⟩ := HD.out _ HK2.out; clear hk2))
  generalize w.alloc (.cells #[.slice ca cs.length cc, .slice da ds.length dc] 26) = W0 at *
  clear d0 d1
  go_loopw [6] (fun y wr => ∃ k : Nat, k ≤ ds.length ∧ y = .int .i64 ((k : Int) - 1) ∧ Hid (lastD ((ds.map Wr.key).drop k) p = none) ∧ Hid (Keeps W0 wr)) (fun y _ => (intOf y + 1).toNat)
  case atStart => exact ⟨ds.length, Nat.le_refl _, rfl, by show _ = _; rw [List.drop_of_length_le (by simp)]; rfl, HK2⟩
  case round =>
    obtain ⟨k, hk, rfl, HN, HKr⟩ := hrel
    obtain ⟨d0, d1⟩ := HD.out _ HKr.out
    by_cases hlt : 0 < k
    · obtain ⟨j, rfl⟩ : ∃ j, k = j + 1 := ⟨k - 1, by omega⟩
      have hj : j < ds.length := by omega
      rw [show (((j + 1 : Nat) : Int) - 1) = (j : Int) by omega]
      obtain ⟨b, off, ea, c0, c1⟩ := cell2 ((dsk_mem HM.out).2.2.1.kept HKr.out) j hj
      subst ea
      have HCx : Hid (Cells wr ds[j].b.a (bys ds[j].b.L)) := (mem_segW (dsk_mem HM.out).2.2.2 j hj).kept HKr.out
      have HNx := hide (HDO.out.nd _ (List.getElem_mem hj)).1
      have HLx : Hid (ds[j].b.L.length ≤ 4194304) := Nat.le_trans (totW_le (List.getElem_mem hj)) (Nat.le_trans HDO.out.td (by decide))
      have HHt := hide (fun he F => read_hit (cs := cs) (i := (p : Int)) hj he HN.out F)
      have HNt := hide (fun he => read_next (i := (p : Int)) hj he HN.out)
      generalize ds[j] = x at *
      obtain ⟨xi, xa, xc, xL⟩ := x
      dsimp only [Bs.v] at c0 c1 HCx HNx HLx HHt HNt
      by_cases he : xi = (p : Int)
      · subst he
        have HHit := hide (HHt.out rfl (fullL ((dat cs ds).cells.getD (p : Int).toNat [])))
        · skip
          have HCl := hide (clone_k xa xc xL wr HCx.out HNx.out HLx.out)
          go_wp2_with (go_at_call 84; refine (unhide HCl).mono ?_; rintro x w3 ⟨v3, rfl, ho3, hk3⟩)
          go_ret2
          exact ReadPost.yes HB.out HHit.out (OwnsB.older ho3 (HKA.out.trans HKr.out).size) (HKA.out.trans (HKr.out.trans hk3))
      · have hne : (xi == (p : Int)) = false := beq_eq_false_iff_ne.2 he
        have HNx2 := hide (HNt.out he)
        clear he
        go_wp2_with fail
        go_roundw
        case rel => exact ⟨j, by omega, rfl, HNx2, HKr⟩
        case measure => simp [intOf]
    · obtain rfl : k = 0 := by omega
      obtain ⟨b, off, ea, c0⟩ := cell1 ((dsk_mem HM.out).1.kept HKr.out) p hp
      subst ea
      have HCx : Hid (Cells wr cs[p].a (bys cs[p].L)) := (mem_seg (dsk_mem HM.out).2.1 p hp).kept HKr.out
      have HNx := hide (HDO.out.nc _ (List.getElem_mem hp)).1
      have HLx : Hid (cs[p].L.length ≤ 2097152) := Nat.le_trans (tot_le (List.getElem_mem hp)) (Nat.le_trans HDO.out.tc (by decide))
      have HMiss := hide (read_miss hp HN.out)
      have HLen : Hid (cs[p].L.length = 0 ∨ cs[p].L.length = 128) := dokM_cell HOk.out (List.mem_map.2 ⟨_, List.getElem_mem hp, rfl⟩)
      generalize cs[p] = x at *
      obtain ⟨xa, xc, xL⟩ := x
      dsimp only [Bs.v] at c0 HCx HNx HLx HMiss HLen
      · skip
        have HFu := hide (filled_k xa xc xL wr HCx.out (Nat.le_trans HLx.out (by decide)))
        go_wp2_with (go_at_call 85; refine (unhide HFu).mono ?_; rintro x w3 ⟨v3, rfl, ho3, hk3⟩)
        go_ret2
        rw [fill_full HLen.out] at ho3
        exact ReadPost.yes HB.out HMiss.out (OwnsB.older ho3 (HKA.out.trans HKr.out).size) (HKA.out.trans (HKr.out.trans hk3))
set_option maxHeartbeats 4000000 in
theorem diskread_spec (ca : Option Addr) (cc : Nat) (cs : List Bs) (da : Option Addr) (dc : Nat) (ds : List Wr) (i : Int) (w : World) (hm : Mem w (dsk ca cs da ds)) (h : DOk cs ds) :
    Calls Tryz.prog 41 #[dskV ca cs.length cc da ds.length dc, .int .i64 i] w (ReadPost w (dat cs ds) i) := by
  have HKA := hide (Keeps.alloc (Keeps.refl w) (.cells #[.slice ca cs.length cc, .slice da ds.length dc] 26))
  have HM := hide (hm.kept HKA.out)
  have HD : Hid (∀ w', Keeps (w.alloc (.cells #[.slice ca cs.length cc, .slice da ds.length dc] 26)) w' → w'.cell? ⟨w.heap.size, 0, none⟩ = some (.slice ca cs.length cc) ∧ w'.cell? ⟨w.heap.size, 1, none⟩ = some (.slice da ds.length dc)) :=
    fun w' hk => ⟨hk.cell (by simp), hk.cell (by simp)⟩
  have HZ : Hid ((w.alloc (.cells #[.slice ca cs.length cc, .slice da ds.length dc] 26)).heap.size = w.heap.size + 1) := by show _ = _; rw [World.size_alloc]
  have HQ := hide (diskok_spec' ca cc cs da dc ds _ HM.out h)
  have hcl := h.c
  have hdl := h.d
  clear hm
  cases hok : dokM (dat cs ds)
  · rw [hok] at HQ
    have HB := hide (readB_dok (i := i) hok)
    clear hok h
    go_enter Tryz.func41, Tryz.ntmps41
    go_wp2_with (go_at_call 36; refine (unhide HQ).mono ?_; rintro x w1 ⟨rfl, hk1⟩; have HK1 := hide hk1; obtain ⟨d0, d1⟩ := HD.out _ hk1; clear hk1)
    go_ret2
    exact ReadPost.no HB.out (HKA.out.trans HK1.out)
  rw [hok] at HQ
  have HOk := hide hok
  clear hok
  by_cases h0 : i < 0
  · clear hdl
    have HB := hide (readB_out (m := dat cs ds) (i := i) (Or.inl h0))
    go_enter Tryz.func41, Tryz.ntmps41
    go_wp2_with (go_at_call 36; refine (unhide HQ).mono ?_; rintro x w1 ⟨rfl, hk1⟩; have HK1 := hide hk1; obtain ⟨d0, d1⟩ := HD.out _ hk1; clear hk1)
    go_ret2
    exact ReadPost.no HB.out (HKA.out.trans HK1.out)
  by_cases h1 : (cs.length : Int) ≤ i
  · clear hdl
    have HB := hide (readB_out (m := dat cs ds) (i := i) (Or.inr (by show ((cs.map Bs.L).length : Int) ≤ i; simpa using h1)))
    go_enter Tryz.func41, Tryz.ntmps41
    go_wp2_with (go_at_call 36; refine (unhide HQ).mono ?_; rintro x w1 ⟨rfl, hk1⟩; have HK1 := hide hk1; obtain ⟨d0, d1⟩ := HD.out _ hk1; clear hk1)
    go_ret2
    exact ReadPost.no HB.out (HKA.out.trans HK1.out)
  obtain ⟨p, rfl⟩ : ∃ p : Nat, i = p := ⟨i.toNat, by omega⟩
  have hp : p < cs.length := by omega
  have HB := hide (readB_in (m := dat cs ds) (i := p) HOk.out (by omega) (by show (p : Int) < ((cs.map Bs.L).length : Int); simpa using hp))
  have HDO := hide h
  clear h h0 h1
  go_enter Tryz.func41, Tryz.ntmps41
  go_wp2_with (go_at_call 36; refine (unhide HQ).mono ?_; rintro x w1 ⟨rfl, hk1⟩; have HK1 := hide hk1; obtain ⟨d0, d1⟩ := HD.out _ hk1; clear hk1)
  generalize w.alloc (.cells #[.slice ca cs.length cc, .slice da ds.length dc] 26) = W0 at *
  clear d0 d1
  go_loopw [6] (fun y wr => ∃ k : Nat, k ≤ ds.length ∧ y = .int .i64 ((k : Int) - 1) ∧ Hid (lastD ((ds.map Wr.key).drop k) p = none) ∧ Hid (Keeps W0 wr)) (fun y _ => (intOf y + 1).toNat)
  case atStart => exact ⟨ds.length, Nat.le_refl _, rfl, by show _ = _; rw [List.drop_of_length_le (by simp)]; rfl, HK1⟩
  case round =>
    obtain ⟨k, hk, rfl, HN, HKr⟩ := hrel
    obtain ⟨d0, d1⟩ := HD.out _ HKr.out
    by_cases hlt : 0 < k
    · obtain ⟨j, rfl⟩ : ∃ j, k = j + 1 := ⟨k - 1, by omega⟩
      have hj : j < ds.length := by omega
      rw [show (((j + 1 : Nat) : Int) - 1) = (j : Int) by omega]
      obtain ⟨b, off, ea, c0, c1⟩ := cell2 ((dsk_mem HM.out).2.2.1.kept HKr.out) j hj
      subst ea
      have HCx : Hid (Cells wr ds[j].b.a (bys ds[j].b.L)) := (mem_segW (dsk_mem HM.out).2.2.2 j hj).kept HKr.out
      have HNx := hide (HDO.out.nd _ (List.getElem_mem hj)).1
      have HLx : Hid (ds[j].b.L.length ≤ 4194304) := Nat.le_trans (totW_le (List.getElem_mem hj)) (Nat.le_trans HDO.out.td (by decide))
      have HHt := hide (fun he F => read_hit (cs := cs) (i := (p : Int)) hj he HN.out F)
      have HNt := hide (fun he => read_next (i := (p : Int)) hj he HN.out)
      generalize ds[j] = x at *
      obtain ⟨xi, xa, xc, xL⟩ := x
      dsimp only [Bs.v] at c0 c1 HCx HNx HLx HHt HNt
      by_cases he : xi = (p : Int)
      · subst he
        have HHit := hide (HHt.out rfl (fullL ((dat cs ds).cells.getD (p : Int).toNat [])))
        · skip
          have HC2 := hide (HCx.out.kept (Keeps.alloc (Keeps.refl wr) (.cells #[] 5)))
          have HO2 := hide (World.ownsRow_made (base := wr.heap.size) (e := 5) (size := 1) wr #[] 0 (Nat.le_refl _) (by decide) rfl)
          have HL2 : Hid (([] : List UInt8).length + xL.length ≤ 4194304) := by show _ ≤ _; have := HLx.out; simp; omega
          have hz : w.heap.size < wr.heap.size := by have := HKr.out.size; have := HZ.out; omega
          have hzb : b < wr.heap.size := lt_of_cell c1
          go_wp2_with (at_builtin; refine app_bys rfl (.tmp 37) (.tmp 43) rfl wr.heap.size _ [] xL rfl xa xc rfl HC2.out HNx.out HO2.out HL2.out (by simp) ?_; intro v3 w3 ho3 hg3)
          go_ret2
          have hk3 := Keeps.grown (Keeps.alloc (Keeps.refl wr) (.cells #[] 5)) hg3 (fun k hk => (HO2.out.lt k hk).1)
          exact ReadPost.yes HB.out HHit.out (OwnsB.older (by simpa using ho3) (HKA.out.trans HKr.out).size) (HKA.out.trans (HKr.out.trans hk3))
      · have hne : (xi == (p : Int)) = false := beq_eq_false_iff_ne.2 he
        have HNx2 := hide (HNt.out he)
        clear he
        go_wp2_with fail
        go_roundw
        case rel => exact ⟨j, by omega, rfl, HNx2, HKr⟩
        case measure => simp [intOf]
    · obtain rfl : k = 0 := by omega
      obtain ⟨b, off, ea, c0⟩ := cell1 ((dsk_mem HM.out).1.kept HKr.out) p hp
      subst ea
      have HCx : Hid (Cells wr cs[p].a (bys cs[p].L)) := (mem_seg (dsk_mem HM.out).2.1 p hp).kept HKr.out
      have HNx := hide (HDO.out.nc _ (List.getElem_mem hp)).1
      have HLx : Hid (cs[p].L.length ≤ 2097152) := Nat.le_trans (tot_le (List.getElem_mem hp)) (Nat.le_trans HDO.out.tc (by decide))
      have HMiss := hide (read_miss hp HN.out)
      have HLen : Hid (cs[p].L.length = 0 ∨ cs[p].L.length = 128) := dokM_cell HOk.out (List.mem_map.2 ⟨_, List.getElem_mem hp, rfl⟩)
      generalize cs[p] = x at *
      obtain ⟨xa, xc, xL⟩ := x
      dsimp only [Bs.v] at c0 HCx HNx HLx HMiss HLen
      · skip
        have HFu := hide (full_k xa xc xL wr HCx.out HNx.out HLx.out)
        go_wp2_with (go_at_call 78; refine (unhide HFu).mono ?_; rintro x w3 ⟨v3, rfl, ho3, hk3⟩)
        go_ret2
        exact ReadPost.yes HB.out HMiss.out (OwnsB.older ho3 (HKA.out.trans HKr.out).size) (HKA.out.trans (HKr.out.trans hk3))
end Go.Proofs.YtmkhlhjggbencaaGreatDoor

/- A range over a function, told by the blocks that turn: one round, and the statement. -/
namespace Go.Proofs.YtmkhlhjggbencaaGreatDoor
open Go.RowKit Go.Deep
set_option linter.unusedVariables false

/-- The record of a loop over a function. -/
def recOf (fn : FuncId) (tmps : Array Value) (ps : Array Tmp) (assign body : Code) (D : Nat) (st : LoopState) (pe : Option Code) : Loop :=
  { state := st, pending := pe, fn := fn, tmps := tmps, params := ps, assign := assign, body := body, defers := D }
/-- The record lies there in that state, and ahead of it the block of its rounds' deferred calls, with none. -/
def RL (R : LoopState → Option Code → Loop) (D : Nat) (st : LoopState) (pe : Option Code) (W : World) : Prop :=
  W.heap[D + 1]? = some (.loop (R st pe)) ∧ W.heap[D]? = some (.deferred (some []))
theorem RL.lt {R : LoopState → Option Code → Loop} {D : Nat} {st : LoopState} {pe : Option Code} {W : World} (h : RL R D st pe W) : D + 1 < W.heap.size := (Array.getElem?_eq_some_iff.1 h.1).1
theorem RL.turn {R : LoopState → Option Code → Loop} {D : Nat} {st : LoopState} {pe : Option Code} {W W' : World} {fs : List Nat} (h : RL R D st pe W) (ht : Turn fs W W') (h1 : D ∉ fs) (h2 : D + 1 ∉ fs) : RL R D st pe W' :=
  ⟨(ht.block _ h.lt h2).trans h.1, (ht.block _ (Nat.lt_of_succ_lt h.lt) h1).trans h.2⟩
theorem RL.kept {R : LoopState → Option Code → Loop} {D : Nat} {st : LoopState} {pe : Option Code} {W W' : World} (h : RL R D st pe W) (ht : Keeps W W') : RL R D st pe W' := h.turn (Turn.of_keeps ht []) (by simp) (by simp)
theorem turn_putObj (W : World) (l : Nat) (o : Obj) : Turn [l] W (W.putObj l o) :=
  ⟨rfl, rfl, rfl, by simp, fun k hk hn => World.putObj_heap_other (fun e => hn (by simp [e]))⟩
theorem RL.put {R : LoopState → Option Code → Loop} {D : Nat} {st : LoopState} {pe : Option Code} {W : World} (h : RL R D st pe W) (st' : LoopState) (pe' : Option Code) : RL R D st' pe' (W.putObj (D + 1) (.loop (R st' pe'))) :=
  ⟨World.putObj_heap_same h.lt, (World.putObj_heap_other (by omega)).trans h.2⟩

variable {F : Fence} {n : Nat} {P : Program}

/-- How a round may be left. -/
def RoundEnd (R : LoopState → Option Code → Loop) (D : Nat) (G : World → Prop) (Gx : Code → World → Prop) : Exit → Act → World → Prop
  | .normal, _, W => RL R D .busy none W ∧ ∀ W', Turn [D + 1] W W' → G W'
  | .ret, _, W => RL R D .busy none W ∧ ∀ W', Turn [D + 1] W W' → Gx .ret W'
  | .exit id, _, W => RL R D .busy none W ∧ ∀ W', Turn [D + 1] W W' → Gx (.exit id) W'
  | .goto t, _, W => RL R D .busy none W ∧ ∀ W', Turn [D + 1] W W' → Gx (.goto t) W'
  | .panic _, _, _ => False
  | .outgrown, _, _ => False

/-- What a round says to its iterator. -/
def RoundSays (R : LoopState → Option Code → Loop) (D : Nat) (G : World → Prop) (Gx : Code → World → Prop) (e : Ending) (W : World) : Prop :=
  (e = .returned (.bool true) ∧ G W ∧ RL R D .ready none W) ∨ (e = .returned (.bool false) ∧ ∃ c, Gx c W ∧ RL R D .done (some c) W)

theorem yield_round {fn : FuncId} {tmps : Array Value} {ps : Array Tmp} {assign body : Code} {D : Nat} {args : Array Value} {W : World} {G : World → Prop} {Gx : Code → World → Prop}
    (hfn : F.fn fn) (hr : RL (recOf fn tmps ps assign body D) D .ready none W) (hps : args.size = ps.size)
    (h : assign.wpIn (F.inRound (D + 1)) n P (Exit.then (fun a₁ w₁ => RL (recOf fn tmps ps assign body D) D .ready none w₁ ∧
        ∀ w₂, Turn [D + 1] w₁ w₂ → RL (recOf fn tmps ps assign body D) D .busy none w₂ → body.wpIn (F.inRound (D + 1)) n P (RoundEnd (recOf fn tmps ps assign body D) D G Gx) a₁ w₂) (fun _ _ _ => False))
      { tmps := (ps.zip args).foldl (fun t (p, v) => t.setIfInBounds p v) tmps, defers := [] } W) :
    YieldAt F n P (D + 1) args W (RoundSays (recOf fn tmps ps assign body D) D G Gx) := by
  have hy := run_yield (P := P) (args := args) hr.1 hps
  refine ⟨fn, _, assign, body, hy, roundIn_of_wpIn hfn (wpIn_mono h ?_)⟩
  intro e a₁ w₁ hq
  cases e with
  | normal =>
    obtain ⟨hl, hb⟩ := hq
    refine ⟨_, run_beginRound hl.1 rfl, wpIn_mono (hb _ (turn_putObj _ _ _) (hl.put .busy none)) ?_⟩
    intro e2 a2 w2 hp
    cases e2 with
    | normal =>
      obtain ⟨hl2, hg⟩ := hp
      exact ⟨_, _, run_endRound none hl2.1, .inl ⟨rfl, hg _ (turn_putObj _ _ _), hl2.put .ready none⟩⟩
    | ret =>
      obtain ⟨hl2, hg⟩ := hp
      exact ⟨_, _, run_endRound (some .ret) hl2.1, .inr ⟨rfl, _, hg _ (turn_putObj _ _ _), hl2.put .done (some .ret)⟩⟩
    | exit id =>
      obtain ⟨hl2, hg⟩ := hp
      exact ⟨_, _, run_endRound (some (.exit id)) hl2.1, .inr ⟨rfl, _, hg _ (turn_putObj _ _ _), hl2.put .done (some (.exit id))⟩⟩
    | goto t =>
      obtain ⟨hl2, hg⟩ := hp
      exact ⟨_, _, run_endRound (some (.goto t)) hl2.1, .inr ⟨rfl, _, hg _ (turn_putObj _ _ _), hl2.put .done (some (.goto t))⟩⟩
    | panic ch => exact hp.elim
    | outgrown => exact hp.elim
  | exit id => exact hq
  | goto t => exact hq
  | ret => exact hq
  | panic ch => exact hq
  | outgrown => exact hq

/-- The statement: the iterator's contract at this loop's record, and what follows. -/
theorem wp_range {g : Operand} {ps : Array Tmp} {assign body : Code} {Q : Exit → Act → World → Prop} {a : Act} {w : World}
    (hro : F.round = none) (h1 : 1 ≤ n) {gf : Nat} {lb : Array Value} (hg : a.eval g = .func (.func gf) #[] lb) (hFg : F.fn gf) (eg : ∀ args w, (callFunc gf args).run P w = .ok (.enter gf args) w)
    (G : World → Prop) (Gx : Code → World → Prop)
    (hit : ∀ fn, F.fn fn → ∀ W1, Keeps w W1 → W1.heap.size = w.heap.size + 2 → RL (recOf fn a.tmps ps assign body w.heap.size) w.heap.size .ready none W1 →
      CallsIn F (n - 1) P gf (#[.func (.yield (w.heap.size + 1)) #[] #[]] ++ lb) W1 (fun e W' => (∃ v, e = .returned v) ∧ ((G W' ∧ RL (recOf fn a.tmps ps assign body w.heap.size) w.heap.size .ready none W') ∨ (∃ c, Gx c W' ∧ RL (recOf fn a.tmps ps assign body w.heap.size) w.heap.size .done (some c) W'))))
    (hdone : ∀ W W', G W → Turn [w.heap.size + 1] W W' → W'.heap[w.heap.size]? = some (.deferred (some [])) → Q .normal { a with defers := { target := .collected w.heap.size, args := #[] } :: a.defers } W')
    (hstop : ∀ c W W', Gx c W → Turn [w.heap.size + 1] W W' → W'.heap[w.heap.size]? = some (.deferred (some [])) → c.wpIn F n P Q { a with defers := { target := .collected w.heap.size, args := #[] } :: a.defers } W') :
    (Code.rangeFunc g ps assign body).wpIn F n P Q a w := by
  refine wpIn_rangeFunc ?_
  intro fn hfn
  rw [hro]
  obtain ⟨W1, hW1⟩ : ∃ W1, (w.alloc (.deferred (some []))).alloc (.loop (recOf fn a.tmps ps assign body w.heap.size .ready none)) = W1 := ⟨_, rfl⟩
  have hL1 : RL (recOf fn a.tmps ps assign body w.heap.size) w.heap.size .ready none W1 := by
    refine ⟨?_, ?_⟩
    · rw [← hW1]; have := World.alloc_heap_new (w.alloc (.deferred (some []))) (.loop (recOf fn a.tmps ps assign body w.heap.size .ready none)); rwa [World.size_alloc] at this
    · rw [← hW1]; exact (Below.heap_alloc _ _ _ (by simp)).trans (World.alloc_heap_new w _)
  have hk1 : Keeps w W1 := by rw [← hW1]; exact ((Keeps.refl w).alloc _).alloc _
  have hs1 : W1.heap.size = w.heap.size + 2 := by rw [← hW1]; simp
  refine ⟨w.heap.size + 1, [{ target := .collected w.heap.size, args := #[] }], W1, { target := .fn (.func gf) lb, args := #[.func (.yield (w.heap.size + 1)) #[] #[]] }, W1, gf,
    #[.func (.yield (w.heap.size + 1)) #[] #[]] ++ lb, W1, ?_, ?_, ?_, ?_, fun _ => h1, ?_⟩
  · rw [← hW1]; exact run_enterLoop_outer _ _ _ _ _
  · simp only [resolve, hg]
    simp [go_sem]
  · intro f' hf'; simp [Target.leads] at hf'; subst hf'; exact hFg
  · simp [invoke, go_sem, eg]
  · refine (hit fn hfn W1 hk1 hs1 hL1).mono ?_
    rintro e W2 ⟨⟨v, rfl⟩, (⟨hG, hl⟩ | ⟨c, hG, hl⟩)⟩
    · exact ⟨none, _, run_endLoop hl.1 (by simp [recOf]), hdone _ _ hG (turn_putObj _ _ _) ((World.putObj_heap_other (by omega)).trans hl.2)⟩
    · exact ⟨some c, _, run_endLoop hl.1 (by simp [recOf]), hstop c _ _ hG (turn_putObj _ _ _) ((World.putObj_heap_other (by omega)).trans hl.2)⟩
end Go.Proofs.YtmkhlhjggbencaaGreatDoor

/- All sectors of a disk: the iterator's contract. -/
namespace Go.Proofs.YtmkhlhjggbencaaGreatDoor
open Go.RowKit Go.Deep Go.Shelf
set_option linter.unusedVariables false
set_option maxRecDepth 10000
attribute [local go_sem] Oper.semAt_some

set_option maxHeartbeats 4000000 in
theorem secread_nil (w : World) (u : TypeId) (pv : Value) (hv : w.cell? ⟨0, 0, none⟩ = some (.iface u pv)) :
    Calls Tryz.prog 92 #[.slice none 0 0] w (SrPost w []) := by
  have hB : srB [] = false := rfl
  have hmf : ∀ (fn : Fn) (first cap : Array Value) (w : World), (Instr.makeFunc fn first cap).run Tryz.prog w = .ok (.func fn first cap) w := fun _ _ _ _ => rfl
  have hk3 := threeS_keeps w none 0 0
  have HE := hide (sector_len (w.heap.size + 1 + 1) none 0 0 (threeS w none 0 0) u pv (hk3.cell hv) (threeS_rd w none [] 0).data (by decide) (by decide))
  have HO := hide (threeS_own w none 0 0)
  have H1 := hide (threeS_b w none 0 0)
  have H2 := hide (threeS_zb w none 0 0)
  have HK := hide hk3
  have HSZ : Hid ((threeS w none 0 0).heap.size = w.heap.size + 3) := by show _ = _; simp
  have HB := hide hB
  clear hk3 hv
  go_enter_defers Tryz.func92, Tryz.ntmps92
  go_wp2_with fail
  go_at_call 111
  refine (unhide HE).mono ?_
  rintro e w1 ⟨rfl, ht⟩
  have hO := HO.out.turn ht (fun x hx hb => by
    rw [fp_one, fpS_some (by simp)] at hx
    simp at hx hb
    omega)
  have t1 := ht.cell (p := ⟨w.heap.size + 1, 0, none⟩) (by simp) H1.out
  have z1 : w1.frozen? ⟨w.heap.size + 1, 0, none⟩ = false := by rw [← H2.out]; exact World.frozen?_of_block (ht.block _ (by simp) (by simp))
  have hk1 : Keeps w w1 := ht.keeps HK.out (fun x hx => by simp at hx; omega)
  clear ht HE HO H1 H2 HK HSZ
  have hO2 := own_setB (a := ⟨w.heap.size + 1, 0, none⟩) (own_threeB hO (.int .i64 0) (.int .i64 0) (.slice none 0 0)) (.bool false) (fp_ne (by simp))
  have hk2 := (keeps_threeB hk1 (Nat.le_refl _) (.int .i64 0) (.int .i64 0) (.slice none 0 0)).setCell (p := ⟨w.heap.size + 1, 0, none⟩) (Nat.le_succ _) (.bool false)
  have e8 := World.cell?_setCell_same (((w1.setCell ⟨w.heap.size, 0, none⟩ (.int .i64 0)).setCell ⟨w.heap.size, 1, none⟩ (.int .i64 0)).setCell ⟨w.heap.size, 2, none⟩ (.slice none 0 0)) ⟨w.heap.size + 1, 0, none⟩ (.bool false) (three_other (R := w.heap.size) (p := ⟨w.heap.size + 1, 0, none⟩) (by simp) t1 (.int .i64 0) (.int .i64 0) (.slice none 0 0))
  have e0 := cell_at hO2.mem 0 (by simp)
  have e1 := cell_at hO2.mem 1 (by simp)
  have e2 := cell_at hO2.mem 2 (by simp)
  simp only [Nat.zero_add, List.getElem_cons_zero, List.getElem_cons_succ] at e0 e1 e2
  have hP := SrPost.no HB.out hk2
  refine leaves_cons (f := 110) (args := #[.pointer (some ⟨w.heap.size, 0, none⟩), .pointer (some ⟨w.heap.size + 1, 0, none⟩)]) (by simp) rfl ?_
  refine (catchS_panic w.heap.size (w.heap.size + 1) (by omega) _ _ _ _ u pv [] w1 hO t1 z1).mono ?_
  rintro e u' w' ⟨rfl, rfl, hw'⟩
  rw [← hw'] at e0 e1 e2 e8 hP
  simp [Leaves, settle, results, Tryz.results92, go_sem, e0, e1, e2, e8]
  exact hP
/-- SectorRead of a list of bytes that the call itself made. -/
theorem secread_own (v : Value) (L : List UInt8) (base : Nat) (w : World) (u : TypeId) (pv : Value) (hv : w.cell? ⟨0, 0, none⟩ = some (.iface u pv)) (ho : OwnsB w base v L) (hl : L.length ≤ 16777216) :
    Calls Tryz.prog 92 #[v] w (SrPost w L) := by
  obtain ⟨a, cap, e1, e2, e3, e4, e5, _⟩ := Own.of_owns ho
  have hc := e5.one
  rcases ho.2 with ⟨rfl, _⟩ | ⟨g, c, _, rfl, _⟩
  · have h1 : L = [] := by
      injection e1 with e6 e7 e8
      exact List.length_eq_zero_iff.1 e7.symm
    subst h1
    exact secread_nil w u pv hv
  · injection e1 with e6 e7 e8
    rw [← e6] at hc
    rw [← e8] at e2 e3
    exact secread_impl g 0 L c w u pv hv hc hl e2 (Nat.le_trans e3 (by decide))
/-- What the iterator reads of the disk, wherever it stands. -/
def AllAt (Bx : Nat) (ca : Option Addr) (cc : Nat) (cs : List Bs) (da : Option Addr) (dc : Nat) (ds : List Wr) (u : TypeId) (pv : Value) (W : World) : Prop :=
  W.cell? ⟨Bx, 0, none⟩ = some (.slice ca cs.length cc) ∧ W.cell? ⟨Bx, 1, none⟩ = some (.slice da ds.length dc) ∧ Mem W (dsk ca cs da ds) ∧ W.cell? ⟨0, 0, none⟩ = some (.iface u pv)
theorem AllAt.kept {Bx : Nat} {ca : Option Addr} {cc : Nat} {cs : List Bs} {da : Option Addr} {dc : Nat} {ds : List Wr} {u : TypeId} {pv : Value} {W W' : World} (h : AllAt Bx ca cc cs da dc ds u pv W) (hk : Keeps W W') : AllAt Bx ca cc cs da dc ds u pv W' :=
  ⟨hk.cell h.1, hk.cell h.2.1, h.2.2.1.kept hk, hk.cell h.2.2.2⟩
set_option maxHeartbeats 8000000 in
theorem all_in (n l Bx : Nat) (ca : Option Addr) (cc : Nat) (cs : List Bs) (da : Option Addr) (dc : Nat) (ds : List Wr) (u : TypeId) (pv : Value) (J : Nat → World → Prop) (Jx : World → Prop) (hd : DOk cs ds)
    (hJ : ∀ k W, J k W → AllAt Bx ca cc cs da dc ds u pv W)
    (hA : ∀ k W W', J k W → Keeps W W' → J k W')
    (hS : ∀ k W, k < cs.length → J k W → srB (readL (dat cs ds) k) = false → J (k + 1) W)
    (hY : ∀ k W W' a c, k < cs.length → J k W → srB (readL (dat cs ds) k) = true → CapB a c (srL (readL (dat cs ds) k)).length → Born W W' [(a, bys (srL (readL (dat cs ds) k)))] → Keeps W W' →
      YieldAt Fence.wide (n - 1) Tryz.prog l #[.int .i64 (k : Nat), secV (srQ (readL (dat cs ds) k)) (srE (readL (dat cs ds) k)) a (srL (readL (dat cs ds) k)).length c] W' fun e W'' =>
        (e = .returned (.bool true) ∧ J (k + 1) W'') ∨ (e = .returned (.bool false) ∧ Jx W''))
    (W : World) (h0 : J 0 W) :
    CallsIn Fence.wide n Tryz.prog 90 #[.func (.yield l) #[] #[], .pointer (some ⟨Bx, 0, none⟩)] W fun e W' => (∃ v, e = .returned v) ∧ (J cs.length W' ∨ Jx W') := by
  refine callsIn_of_wp Tryz.func90 rfl trivial ?_ rfl
  simp only [Tryz.ntmps90, List.size_toArray, List.length_cons, List.length_nil, Nat.reduceAdd, Nat.reduceSub, Array.replicate_succ, Array.replicate_zero, List.push_toArray, List.append_toArray, List.nil_append, List.cons_append]
  obtain ⟨c0, c1, hm, hv⟩ := hJ 0 W h0
  have HJ := hide hJ
  have HA := hide hA
  have HSk := hide hS
  have HY := hide hY
  have HD := hide hd
  have hcl := hd.c
  have HM := hide hm
  have HV := hide hv
  clear hJ hA hS hY hd hm hv
  gi_wp2
  gi_loopw [11] (fun p wr => ∃ k : Nat, k ≤ cs.length ∧ p = .int .i64 (k : Int) ∧ Hid (J k wr)) (fun p _ => cs.length - (intOf p).toNat)
  case atStart => exact ⟨0, Nat.zero_le _, rfl, hide h0⟩
  case round =>
    obtain ⟨k, hk, rfl, HJk⟩ := hrel
    clear c0 c1 HM HV
    by_cases hlt : k < cs.length
    · obtain ⟨c0, c1, hm, hv⟩ := HJ.out k wr HJk.out
      have HR := hide (diskread_impl ca cc cs da dc ds (k : Nat) wr hm HD.out)
      have HV := hide hv
      clear hm hv
      gi_wp2
      refine ⟨trivial, nofun, (callsIn_wide.2 HR.out).mono ?_⟩
      rintro e w1 ⟨v, rfl, ho, hk1⟩
      clear HR
      have HR := hide (secread_own v _ _ w1 u pv (hk1.cell HV.out) ho (Nat.le_trans (readL_len _ _) (by decide)))
      have HK1 := hide hk1
      clear ho hk1 HV c0 c1
      gi_wp2
      refine ⟨trivial, nofun, (callsIn_wide.2 HR.out).mono ?_⟩
      rintro e w2 ⟨a, c, rfl, hac, hb, hk2⟩
      clear HR
      cases hB : srB (readL (dat cs ds) k)
      · have HJ2 := hide (HSk.out k _ hlt (HA.out k _ _ HJk.out ((HK1.out.trans hk2).alloc (.cells #[.int .i64 (srQ (readL (dat cs ds) k)), .int .i64 (srE (readL (dat cs ds) k)), .slice a (srL (readL (dat cs ds) k)).length c] 72))) hB)
        clear hb hk2 hac
        gi_wp2
        refine ⟨fun _ h => (by cases h), ?_⟩
        gi_wp2
        go_roundw
        case rel => exact ⟨k + 1, by omega, by go_num, HJ2⟩
        case measure => simp [intOf]; omega
      · have hk3 := (HK1.out.trans hk2).alloc (.cells #[.int .i64 (srQ (readL (dat cs ds) k)), .int .i64 (srE (readL (dat cs ds) k)), .slice a (srL (readL (dat cs ds) k)).length c] 72)
        have hb3 := (hb.old HK1.out).kept ((Keeps.refl w2).alloc (.cells #[.int .i64 (srQ (readL (dat cs ds) k)), .int .i64 (srE (readL (dat cs ds) k)), .slice a (srL (readL (dat cs ds) k)).length c] 72))
        obtain ⟨fn, tmps, assign, body, hy, hR⟩ := HY.out k wr _ a c hlt HJk.out hB hac hb3 hk3
        clear hb hk2 hac hk3 hb3
        gi_wp2
        refine ⟨nofun, hR.mono ?_⟩
        rintro e W3 (⟨rfl, hJ3⟩ | ⟨rfl, hJx3⟩)
        · have HJ3 := hide hJ3
          clear hJ3 hy hR
          gi_wp2
          go_roundw
          case rel => exact ⟨k + 1, by omega, by go_num, HJ3⟩
          case measure => simp [intOf]; omega
        · clear hy hR
          gi_wp2
          refine bodyPost_ret (results_none rfl _ _ _) rfl ?_
          exact ⟨⟨_, rfl⟩, .inr hJx3⟩
    · have e : k = cs.length := by omega
      subst e
      gi_wp2
      go_end0
      exact ⟨⟨_, rfl⟩, .inl HJk.out⟩
end Go.Proofs.YtmkhlhjggbencaaGreatDoor

/- What a log says, by what its disk says. -/
namespace Go.Proofs.YtmkhlhjggbencaaGreatDoor
open Go.RowKit Go.Deep
set_option linter.unusedVariables false

/-- The greatest epoch in the cells ahead of k. -/
def topTo (m : DkM) : Nat → Int
  | 0 => 0
  | k + 1 => if srB (readL m k) = true ∧ topTo m k < srE (readL m k) then srE (readL m k) else topTo m k
def topM (m : DkM) : Int := topTo m m.cells.length
theorem topTo_skip {m : DkM} {k : Nat} (h : srB (readL m k) = false) : topTo m (k + 1) = topTo m k := by simp [topTo, h]
theorem topTo_max {m : DkM} {k : Nat} (h : srB (readL m k) = true) : topTo m (k + 1) = max (topTo m k) (srE (readL m k)) := by
  simp only [topTo, h, true_and]
  split <;> omega
/-- Of a disk that isn't right nothing is read. -/
theorem readL_bad {m : DkM} (h : dokM m = false) (i : Int) : readL m i = [] := by unfold readL; rw [readB_dok h]; rfl
theorem topTo_bad {m : DkM} (h : dokM m = false) : ∀ k, topTo m k = 0
  | 0 => rfl
  | k + 1 => by rw [topTo_skip (by rw [readL_bad h]; rfl)]; exact topTo_bad h k
/-- The epoch ahead of cell k, if all ahead of it fit. -/
def lastE (m : DkM) : Nat → Int
  | 0 => 0
  | k + 1 => srE (readL m k)
/-- Does cell k fit? -/
def fitB (m : DkM) (k : Nat) : Bool := srB (readL m k) && decide (srQ (readL m k) = k) && decide (lastE m k ≤ srE (readL m k))
def fitTo (m : DkM) (k : Nat) : Prop := ∀ j, j < k → fitB m j = true
/-- How many cells fit, from the first on, of those ahead of n. -/
def logTo (m : DkM) : Nat → Nat
  | 0 => 0
  | n + 1 => if logTo m n = n ∧ fitB m n = true then n + 1 else logTo m n
def logN (m : DkM) : Nat := logTo m m.cells.length
theorem logTo_le (m : DkM) : ∀ n, logTo m n ≤ n
  | 0 => Nat.le_refl _
  | n + 1 => by
    unfold logTo
    split
    · exact Nat.le_refl _
    · exact Nat.le_succ_of_le (logTo_le m n)
theorem logTo_all {m : DkM} : ∀ {n : Nat}, fitTo m n → logTo m n = n
  | 0, _ => rfl
  | n + 1, h => by
    unfold logTo
    rw [if_pos ⟨logTo_all (fun j hj => h j (by omega)), h n (by omega)⟩]
theorem logTo_stop {m : DkM} {k : Nat} (hf : fitTo m k) (hn : fitB m k = false) : ∀ {n : Nat}, k ≤ n → logTo m n = k
  | 0, h => by have : k = 0 := by omega
               subst this; rfl
  | n + 1, h => by
    by_cases e : k = n + 1
    · subst e; exact logTo_all hf
    · have h1 := logTo_stop hf hn (n := n) (by omega)
      unfold logTo
      rw [if_neg ?_]
      · exact h1
      · rintro ⟨h2, h3⟩
        have : k = n := by omega
        subst this
        rw [hn] at h3
        exact Bool.noConfusion h3
theorem fitTo_succ {m : DkM} {k : Nat} (h : fitTo m k) (hk : fitB m k = true) : fitTo m (k + 1) := fun j hj => by
  by_cases e : j = k
  · subst e; exact hk
  · exact h j (by omega)
theorem fitTo_log {m : DkM} : ∀ n, fitTo m (logTo m n)
  | 0 => fun j hj => absurd hj (by simp [logTo])
  | n + 1 => by
    unfold logTo
    split
    · next h => 
      have := fitTo_log (m := m) n
      rw [h.1] at this
      exact fitTo_succ this h.2
    · exact fitTo_log n
end Go.Proofs.YtmkhlhjggbencaaGreatDoor

/- Lists of sectors that a call makes by append. -/
namespace Go.Proofs.YtmkhlhjggbencaaGreatDoor
open Go.RowKit Go.Deep
set_option linter.unusedVariables false
set_option maxRecDepth 10000

/-- A sector in memory. -/
structure Sc where
  q : Int
  e : Int
  b : Bs
def Sc.cells (x : Sc) : List Value := [.int .i64 x.q, .int .i64 x.e, x.b.v]
def Sc.seg (x : Sc) : Seg := x.b.seg
def Sc.key (x : Sc) : Int × Int × List UInt8 := (x.q, x.e, x.b.L)
def scells (l : List Sc) : List Value := l.flatMap Sc.cells
theorem infoSector : (Tryz.prog.info? 72).map (fun i => (i.zero, i.size, i.bytes)) = some (some (.agg #[.int .i64 0, .int .i64 0, .slice none 0 0]), 3, 40) := by kernel_rfl
theorem underSectors : Tryz.prog.underlying 35 = some (.slice 72) := by kernel_rfl
theorem cell_three_new (w : World) (x y z : Value) (t : TypeId) : ∀ j u, [x, y, z][j]? = some u → (w.alloc (.cells #[x, y, z] t)).cell? ((⟨w.heap.size, 0, none⟩ : Addr).add j) = some u := by
  intro j u hj
  match j, hj with
  | 0, hj => simp at hj; subst hj; simp [Addr.add]
  | 1, hj => simp at hj; subst hj; simp [Addr.add]
  | 2, hj => simp at hj; subst hj; simp [Addr.add]
  | n + 3, hj => simp at hj
theorem run_sector (w : World) (base : Nat) (v : Value) (n : Nat) (xs : List Value) (x y z : Value) (hx : x.oneCell' = true) (hy : y.oneCell' = true) (hz' : z.oneCell' = true) (ty : TypeId) (h : w.ownsRow base 72 3 v n xs) (hn : n ≤ 1048576) (hb : base ≤ w.heap.size) :
    ∃ v' w', (Builtin.append_ #[35, 35] ty #[v, .slice (some ⟨w.heap.size, 0, none⟩) 1 1]).run Tryz.prog (w.alloc (.cells #[x, y, z] 72)) = .ok v' w' ∧ w'.ownsRow base 72 3 v' (n + 1) (xs ++ [x, y, z]) ∧ (w.alloc (.cells #[x, y, z] 72)).grownBy w' v.ownBlock ∧ (v'.ownBlock = v.ownBlock ∨ v'.ownBlock = some (w.alloc (.cells #[x, y, z] 72)).heap.size) := by
  have hI := infoSector
  cases hi : Tryz.prog.info? 72 with
  | none => rw [hi] at hI; simp at hI
  | some i =>
    rw [hi] at hI
    simp at hI
    obtain ⟨hz, hsz, hby⟩ := hI
    obtain ⟨v', w', h1, h2, h3, _, h5⟩ := run_append_own_at (P := Tryz.prog) (w.alloc (.cells #[x, y, z] 72)) base 35 ty 72 i _ 3 40 underSectors hi hz hsz hby rfl (by decide) v n xs (h.alloc _) ⟨w.heap.size, 0, none⟩ 1 1 [x, y, z] rfl (cell_three_new w x y z _) (by intro u hu; simp at hu; rcases hu with rfl | rfl | rfl <;> assumption) (by simp only [maxLen]; omega) (by omega) (by simp; omega)
    exact ⟨v', w', h1, h2, h3, h5⟩
/-- The world as far as block n. -/
def cutW (w : World) (n : Nat) : World := { w with heap := w.heap.extract 0 n }
theorem cutW_size {w : World} {n : Nat} (h : n ≤ w.heap.size) : (cutW w n).heap.size = n := by simp [cutW]; omega
theorem cutW_block {w : World} {n k : Nat} (h : n ≤ w.heap.size) (hk : k < n) : (cutW w n).heap[k]? = w.heap[k]? := by
  show (w.heap.extract 0 n)[k]? = _
  rw [Array.getElem?_extract, if_pos (by omega)]
  simp
theorem cutW_keeps {w : World} {n : Nat} (h : n ≤ w.heap.size) : Keeps (cutW w n) w :=
  ⟨rfl, rfl, rfl, by rw [cutW_size h]; exact h, fun k hk => by rw [cutW_size h] at hk; exact (cutW_block h hk).symm⟩
theorem cutW_turn {w w' : World} {fs : List Nat} (h : Turn fs w w') : Turn fs w (cutW w' w.heap.size) :=
  ⟨h.os, h.tape, h.output, by rw [cutW_size h.size]; exact Nat.le_refl _, fun k hk hn => (cutW_block h.size hk).trans (h.block k hk hn)⟩
/-- A list of structs while it is made, all of it in blocks from base on. -/
def LB {α : Type} (T : TypeId) (sz : Nat) (f : α → List Value) (sg : α → Seg) (base : Nat) (w : World) (v : Value) (nb : List α) : Prop := ∃ w0, w0.heap.size = base ∧ LG T sz f sg w0 w v nb
section
variable {α : Type} {T : TypeId} {sz : Nat} {f : α → List Value} {sg : α → Seg} {base : Nat} {w w1 w2 : World} {v v' : Value} {nb : List α}
theorem owns_turn {n : Nat} {e : TypeId} {xs : List Value} {fs : List Nat} (ht : Turn fs w w1) (hf : ∀ b ∈ fs, b < base) (h : w.ownsRow base e sz v n xs) : w1.ownsRow base e sz v n xs := by
  refine ⟨h.1, ?_⟩
  rcases h.2 with h' | ⟨g, cap, cur, rfl, hb, hg, rest⟩
  · exact .inl h'
  · refine .inr ⟨g, cap, cur, rfl, hb, ?_, rest⟩
    rw [ht.block g (Array.getElem?_eq_some_iff.1 hg).1 (fun hx => by have := hf g hx; omega)]; exact hg
theorem LB.turn (h : LB T sz f sg base w v nb) {fs : List Nat} (ht : Turn fs w w1) (hf : ∀ b ∈ fs, b < base) : LB T sz f sg base w1 v nb := by
  obtain ⟨w0, hb, hL⟩ := h
  have hs : base ≤ w1.heap.size := by have := hL.keeps.size; have := ht.size; omega
  refine ⟨cutW w1 base, cutW_size hs, ?_, ⟨?_, ?_⟩, hL.apart, cutW_keeps hs⟩
  · rw [cutW_size hs]
    have hr := hL.row
    rw [hb] at hr
    exact owns_turn ht hf hr
  · exact hL.inner.toOwn.turn ht (fun x hx hy => by have := hf x hy; have := hL.inner.new x hx; omega)
  · intro x hx
    rw [cutW_size hs]
    have := hL.inner.new x hx
    omega
theorem LB.kept (h : LB T sz f sg base w v nb) (hk : Keeps w w1) : LB T sz f sg base w1 v nb := by
  obtain ⟨w0, hb, hL⟩ := h
  exact ⟨w0, hb, hL.kept hk⟩
theorem LB.nil (T : TypeId) (sz : Nat) (f : α → List Value) (sg : α → Seg) (h : base ≤ w.heap.size) : LB T sz f sg base w (.slice none 0 0) [] :=
  ⟨cutW w base, cutW_size h, LG.nil T sz f sg (World.ownsRow_nil _ _ _ _) (cutW_keeps h)⟩
theorem LB.row (h : LB T sz f sg base w v nb) : w.ownsRow base T sz v nb.length (nb.flatMap f) := by
  obtain ⟨w0, hb, hL⟩ := h
  rw [← hb]
  exact hL.row
theorem LB.size (h : LB T sz f sg base w v nb) : base ≤ w.heap.size := by
  obtain ⟨w0, hb, hL⟩ := h
  have := hL.keeps.size
  omega
/-- One more, whose own list was made behind w (w1: where it is put; of what was there at w only blocks ahead of base have turned). -/
theorem LB.snoc (h : LB T sz f sg base w v nb) {fs : List Nat} (ht : Turn fs w w1) (hf : ∀ b ∈ fs, b < base) {x : α} (hx : Own w1 [sg x]) (hn : ∀ b ∈ fp [sg x], w.heap.size ≤ b) {o : Obj} (hg : (w1.alloc o).grownBy w2 v.ownBlock)
    (hr : w2.ownsRow base T sz v' (nb.length + 1) (nb.flatMap f ++ f x)) (hv : v'.ownBlock = v.ownBlock ∨ v'.ownBlock = some (w1.alloc o).heap.size) : LB T sz f sg base w2 v' (nb ++ [x]) := by
  obtain ⟨w0, hb, hL⟩ := LB.turn h (cutW_turn ht) hf
  refine ⟨w0, hb, hL.snoc (cutW_keeps ht.size) hx ?_ hg (by rw [hb]; exact hr) hv⟩
  intro b hb'
  rw [cutW_size ht.size]
  exact hn b hb'
theorem LB.born (h : LB T sz f sg base w v nb) : ∃ (a : Option Addr) (cap : Nat), v = .slice a nb.length cap ∧ (a = none → cap = 0) ∧ Own w ((a, nb.flatMap f) :: nb.map sg) ∧ ∀ b ∈ fp ((a, nb.flatMap f) :: nb.map sg), base ≤ b := by
  obtain ⟨w0, hw, h⟩ := h
  obtain ⟨a, cap, rfl, _, _, hn, ho, hb⟩ := Own.of_owns h.row
  refine ⟨a, cap, rfl, hn, Own.append (S := [_]) ho h.inner.toOwn (fun b hb1 hb2 => ?_), ?_⟩
  · have : Value.ownBlock (.slice a nb.length cap) = some b := by
      rcases h.row.2 with ⟨e, _⟩ | ⟨g, c, _, e, _⟩
      · injection e with e1
        subst e1
        simp [fp, fpS] at hb1
      · injection e with e1
        subst e1
        by_cases h0 : nb.flatMap f = []
        · simp [fp, fpS, h0] at hb1
        · simp [fp, fpS, h0] at hb1
          subst hb1
          rfl
    exact h.apart b this hb2
  · intro b hb1
    rw [fp_cons] at hb1
    rcases List.mem_append.1 hb1 with hb1 | hb1
    · have := hb b (by rw [fp_one]; exact hb1); omega
    · have := h.inner.new b hb1; omega
end
/-- What the first k sectors say. -/
def secsTo (m : DkM) (k : Nat) : List (Int × Int × List UInt8) := (List.range k).map fun i : Nat => (srQ (readL m i), srE (readL m i), srL (readL m i))
theorem secsTo_succ (m : DkM) (k : Nat) : secsTo m (k + 1) = secsTo m k ++ [(srQ (readL m k), srE (readL m k), srL (readL m k))] := by simp [secsTo, List.range_succ]
theorem secsTo_len (m : DkM) (k : Nat) : (secsTo m k).length = k := by simp [secsTo]
def logS (m : DkM) : List (Int × Int × List UInt8) := secsTo m (logN m)
/-- What LogRead answers. -/
def LrPost (w : World) (m : DkM) (x : Ending) (w' : World) : Prop := ∃ (a : Option Addr) (c : Nat) (nb : List Sc), x = .returned (.tuple #[.slice a nb.length c, .int .i64 (logN m : Nat)]) ∧ nb.map Sc.key = logS m ∧ (a = none → c = 0) ∧ Born w w' ((a, scells nb) :: nb.map Sc.seg) ∧ Keeps w w'
end Go.Proofs.YtmkhlhjggbencaaGreatDoor

/- Events out of whatever bodies; lists of events that a call makes by append. -/
namespace Go.Proofs.YtmkhlhjggbencaaGreatDoor
open Go.RowKit Go.Deep
set_option linter.unusedVariables false
set_option maxRecDepth 10000

set_option maxHeartbeats 4000000 in
theorem bodyevent_len (a : Option Addr) (L : List UInt8) (cap : Nat) (w : World) (u : TypeId) (pv : Value) (hv : w.cell? ⟨0, 0, none⟩ = some (.iface u pv)) (hl : L.length ≤ 16777216) (h22 : L.length ≠ 22) :
    Calls Tryz.prog 44 #[.slice a L.length cap] w fun e w' => e = .returned (.tuple #[evV 0 0 0 0 0 0 false, .bool false]) ∧ Keeps w w' := by
  have hmf : ∀ (fn : Fn) (first cap : Array Value) (w : World), (Instr.makeFunc fn first cap).run Tryz.prog w = .ok (.func fn first cap) w := fun _ _ _ _ => rfl
  have hk3 := threeE_keeps w a L.length cap
  have HE := hide (event_len (w.heap.size + 1 + 1) a L.length cap (threeE w a L.length cap) u pv (hk3.cell hv) (threeE_rd w a L cap).data hl h22)
  have HO := hide (threeE_own w a L.length cap)
  have H1 := hide (threeE_b w a L.length cap)
  have H2 := hide (threeE_zb w a L.length cap)
  have HK := hide hk3
  clear hk3 hv
  go_enter_defers Tryz.func44, Tryz.ntmps44
  go_wp2_with fail
  go_at_call 82
  refine (unhide HE).mono ?_
  rintro e w1 ⟨rfl, ht⟩
  have hO := HO.out.turn ht (fun x hx hb => by
    rw [fp_one, fpS_some (by simp)] at hx
    simp at hx hb
    omega)
  have t1 := ht.cell (p := ⟨w.heap.size + 1, 0, none⟩) (by simp) H1.out
  have z1 : w1.frozen? ⟨w.heap.size + 1, 0, none⟩ = false := by rw [← H2.out]; exact World.frozen?_of_block (ht.block _ (by simp) (by simp))
  have hk1 : Keeps w w1 := ht.keeps HK.out (fun x hx => by simp at hx; omega)
  clear ht HE HO H1 H2 HK
  have hO2 := own_set' (own_seven hO (.int .i64 0) (.int .i64 0) (.int .i64 0) (.int .i64 0) (.int .i64 0) (.int .i64 0) (.bool false)) (a := ⟨w.heap.size + 1, 0, none⟩) (by simp) (.bool false)
  have hk2 := (keeps_seven hk1 (Nat.le_refl _) (.int .i64 0) (.int .i64 0) (.int .i64 0) (.int .i64 0) (.int .i64 0) (.int .i64 0) (.bool false)).setCell (p := ⟨w.heap.size + 1, 0, none⟩) (Nat.le_succ _) (.bool false)
  have e8 := World.cell?_setCell_same (((((((w1.setCell ⟨w.heap.size, 0, none⟩ (.int .i64 0)).setCell ⟨w.heap.size, 1, none⟩ (.int .i64 0)).setCell ⟨w.heap.size, 2, none⟩ (.int .i64 0)).setCell ⟨w.heap.size, 3, none⟩ (.int .i64 0)).setCell ⟨w.heap.size, 4, none⟩ (.int .i64 0)).setCell ⟨w.heap.size, 5, none⟩ (.int .i64 0)).setCell ⟨w.heap.size, 6, none⟩ (.bool false)) ⟨w.heap.size + 1, 0, none⟩ (.bool false) (seven_other (p := ⟨w.heap.size + 1, 0, none⟩) (by simp) t1 (.int .i64 0) (.int .i64 0) (.int .i64 0) (.int .i64 0) (.int .i64 0) (.int .i64 0) (.bool false))
  have e0 := cell_at hO2.mem 0 (by simp)
  have e1 := cell_at hO2.mem 1 (by simp)
  have e2 := cell_at hO2.mem 2 (by simp)
  have e3 := cell_at hO2.mem 3 (by simp)
  have e4 := cell_at hO2.mem 4 (by simp)
  have e5 := cell_at hO2.mem 5 (by simp)
  have e6 := cell_at hO2.mem 6 (by simp)
  simp only [Nat.zero_add, List.getElem_cons_zero, List.getElem_cons_succ] at e0 e1 e2 e3 e4 e5 e6
  refine leaves_cons (f := 81) (args := #[.pointer (some ⟨w.heap.size, 0, none⟩), .pointer (some ⟨w.heap.size + 1, 0, none⟩)]) (by simp) rfl ?_
  refine (catchE_panic w.heap.size (w.heap.size + 1) (by omega) _ _ _ _ _ _ _ _ u pv [] w1 hO t1 z1).mono ?_
  rintro e u' w' ⟨rfl, rfl, hw'⟩
  rw [← hw'] at e0 e1 e2 e3 e4 e5 e6 e8 hk2
  simp [Leaves, settle, results, Tryz.results44, go_sem, e0, e1, e2, e3, e4, e5, e6, e8, hk2]
theorem get_none (a : Option Addr) (cap : Nat) (p s n : Int) (hn : (0 : Int) = n) (h : (0 : Int) - s < p) (w : World) :
    Calls Tryz.prog 79 #[.slice a 0 cap, .int .i64 p, .int .i64 s] w fun e w' => e = .returned (.tuple #[.int .i64 n, .bool false]) ∧ w' = w := by
  rw [← hn]; exact getspec_no a [] cap p s w (by decide) (.inr (.inr (.inr (by simpa using h))))
set_option maxHeartbeats 8000000 in
theorem bodyspec_none (a : Option Addr) (cap : Nat) (w : World) (k y c t m f q : Int) (b1 : Bool) (ek : (0 : Int) = k) (ey : (0 : Int) = y) (ec : (0 : Int) = c) (et : (0 : Int) = t) (em : (0 : Int) = m) (ef : (0 : Int) = f) (eq : (0 : Int) = q) (hb1 : decide (q = 1) = b1) (hev : evB k y c t m f b1 = false) :
    Calls Tryz.prog 55 #[.slice a 0 cap] w fun e w' => e = .returned (.tuple #[evV 0 0 0 0 0 0 false, .bool false]) ∧ Keeps w w' := by
  have hbR := born_alloc w #[.int .i64 0, .int .i64 0, .int .i64 0, .int .i64 0, .int .i64 0, .int .i64 0, .bool false] 30
  have hkR := Keeps.alloc (Keeps.refl w) (.cells #[.int .i64 0, .int .i64 0, .int .i64 0, .int .i64 0, .int .i64 0, .int .i64 0, .bool false] 30)
  have hbV := born_alloc (w.alloc (.cells #[.int .i64 0, .int .i64 0, .int .i64 0, .int .i64 0, .int .i64 0, .int .i64 0, .bool false] 30)) #[.int .i64 0, .int .i64 0, .int .i64 0, .int .i64 0, .int .i64 0, .int .i64 0, .bool false] 30
  have hkV := Keeps.alloc (Keeps.refl (w.alloc (.cells #[.int .i64 0, .int .i64 0, .int .i64 0, .int .i64 0, .int .i64 0, .int .i64 0, .bool false] 30))) (.cells #[.int .i64 0, .int .i64 0, .int .i64 0, .int .i64 0, .int .i64 0, .int .i64 0, .bool false] 30)
  dsimp only at hbR hbV
  rw [World.size_alloc] at hbV
  have HR := hide (hbR.toOwn.kept hkV)
  have HV := hide hbV.toOwn
  have HK := hide (hkR.trans hkV)
  have HB1 := hide hb1
  have HEV := hide hev
  clear hbR hkR hbV hkV hb1 hev
  have Nk := hide ek
  have Ny := hide ey
  have Nc := hide ec
  have Nt := hide et
  have Nm := hide em
  have Nf := hide ef
  have Nq := hide eq
  clear ek ey ec et em ef eq
  have HN : Hid (w.heap.size + 1 ≠ w.heap.size) := by show _ ≠ _; omega
  go_enter Tryz.func55, Tryz.ntmps55
  go_wp2_with fail
  generalize (w.alloc (.cells #[.int .i64 0, .int .i64 0, .int .i64 0, .int .i64 0, .int .i64 0, .int .i64 0, .bool false] 30)).alloc (.cells #[.int .i64 0, .int .i64 0, .int .i64 0, .int .i64 0, .int .i64 0, .int .i64 0, .bool false] 30) = w1 at *
  go_at_call 79
  refine (get_none a cap 1 1 k Nk.out (by decide) _).mono ?_
  rintro e w' ⟨rfl, hw'⟩
  obtain rfl := Eq.symm hw'
  clear hw'
  have cV := own_cell HV.out 0 (by simp) (v := .int .i64 0) rfl
  have fV := own_free HV.out (by simp) 0
  replace HV : Hid (Own (w1.setCell ⟨w.heap.size + 1, 0, none⟩ (.int .i64 k)) [(some ⟨w.heap.size + 1, 0, none⟩, [.int .i64 k, .int .i64 0, .int .i64 0, .int .i64 0, .int .i64 0, .int .i64 0, .bool false])]) := own_set HV.out 0 (by simp) (.int .i64 k)
  replace HR := hide (own_setS HR.out (a := ⟨w.heap.size + 1, 0, none⟩) HN.out (.int .i64 k))
  replace HK := hide (HK.out.setCell (p := ⟨w.heap.size + 1, 0, none⟩) (Nat.le_succ _) (.int .i64 k))
  go_wp2_with fail
  clear cV fV
  generalize w1.setCell ⟨w.heap.size + 1, 0, none⟩ (.int .i64 k) = w2 at *
  clear w1
  go_at_call 79
  refine (get_none a cap 2 3 y Ny.out (by decide) _).mono ?_
  rintro e w' ⟨rfl, hw'⟩
  obtain rfl := Eq.symm hw'
  clear hw'
  have cV := own_cell HV.out 1 (by simp) (v := .int .i64 0) rfl
  have fV := own_free HV.out (by simp) 1
  replace HV : Hid (Own (w2.setCell ⟨w.heap.size + 1, 1, none⟩ (.int .i64 y)) [(some ⟨w.heap.size + 1, 0, none⟩, [.int .i64 k, .int .i64 y, .int .i64 0, .int .i64 0, .int .i64 0, .int .i64 0, .bool false])]) := own_set HV.out 1 (by simp) (.int .i64 y)
  replace HR := hide (own_setS HR.out (a := ⟨w.heap.size + 1, 1, none⟩) HN.out (.int .i64 y))
  replace HK := hide (HK.out.setCell (p := ⟨w.heap.size + 1, 1, none⟩) (Nat.le_succ _) (.int .i64 y))
  go_wp2_with fail
  clear cV fV
  generalize w2.setCell ⟨w.heap.size + 1, 1, none⟩ (.int .i64 y) = w3 at *
  clear w2
  go_at_call 79
  refine (get_none a cap 5 1 c Nc.out (by decide) _).mono ?_
  rintro e w' ⟨rfl, hw'⟩
  obtain rfl := Eq.symm hw'
  clear hw'
  have cV := own_cell HV.out 2 (by simp) (v := .int .i64 0) rfl
  have fV := own_free HV.out (by simp) 2
  replace HV : Hid (Own (w3.setCell ⟨w.heap.size + 1, 2, none⟩ (.int .i64 c)) [(some ⟨w.heap.size + 1, 0, none⟩, [.int .i64 k, .int .i64 y, .int .i64 c, .int .i64 0, .int .i64 0, .int .i64 0, .bool false])]) := own_set HV.out 2 (by simp) (.int .i64 c)
  replace HR := hide (own_setS HR.out (a := ⟨w.heap.size + 1, 2, none⟩) HN.out (.int .i64 c))
  replace HK := hide (HK.out.setCell (p := ⟨w.heap.size + 1, 2, none⟩) (Nat.le_succ _) (.int .i64 c))
  go_wp2_with fail
  clear cV fV
  generalize w3.setCell ⟨w.heap.size + 1, 2, none⟩ (.int .i64 c) = w4 at *
  clear w3
  go_at_call 79
  refine (get_none a cap 6 1 t Nt.out (by decide) _).mono ?_
  rintro e w' ⟨rfl, hw'⟩
  obtain rfl := Eq.symm hw'
  clear hw'
  have cV := own_cell HV.out 3 (by simp) (v := .int .i64 0) rfl
  have fV := own_free HV.out (by simp) 3
  replace HV : Hid (Own (w4.setCell ⟨w.heap.size + 1, 3, none⟩ (.int .i64 t)) [(some ⟨w.heap.size + 1, 0, none⟩, [.int .i64 k, .int .i64 y, .int .i64 c, .int .i64 t, .int .i64 0, .int .i64 0, .bool false])]) := own_set HV.out 3 (by simp) (.int .i64 t)
  replace HR := hide (own_setS HR.out (a := ⟨w.heap.size + 1, 3, none⟩) HN.out (.int .i64 t))
  replace HK := hide (HK.out.setCell (p := ⟨w.heap.size + 1, 3, none⟩) (Nat.le_succ _) (.int .i64 t))
  go_wp2_with fail
  clear cV fV
  generalize w4.setCell ⟨w.heap.size + 1, 3, none⟩ (.int .i64 t) = w5 at *
  clear w4
  go_at_call 79
  refine (get_none a cap 7 7 m Nm.out (by decide) _).mono ?_
  rintro e w' ⟨rfl, hw'⟩
  obtain rfl := Eq.symm hw'
  clear hw'
  have cV := own_cell HV.out 4 (by simp) (v := .int .i64 0) rfl
  have fV := own_free HV.out (by simp) 4
  replace HV : Hid (Own (w5.setCell ⟨w.heap.size + 1, 4, none⟩ (.int .i64 m)) [(some ⟨w.heap.size + 1, 0, none⟩, [.int .i64 k, .int .i64 y, .int .i64 c, .int .i64 t, .int .i64 m, .int .i64 0, .bool false])]) := own_set HV.out 4 (by simp) (.int .i64 m)
  replace HR := hide (own_setS HR.out (a := ⟨w.heap.size + 1, 4, none⟩) HN.out (.int .i64 m))
  replace HK := hide (HK.out.setCell (p := ⟨w.heap.size + 1, 4, none⟩) (Nat.le_succ _) (.int .i64 m))
  go_wp2_with fail
  clear cV fV
  generalize w5.setCell ⟨w.heap.size + 1, 4, none⟩ (.int .i64 m) = w6 at *
  clear w5
  go_at_call 79
  refine (get_none a cap 14 7 f Nf.out (by decide) _).mono ?_
  rintro e w' ⟨rfl, hw'⟩
  obtain rfl := Eq.symm hw'
  clear hw'
  have cV := own_cell HV.out 5 (by simp) (v := .int .i64 0) rfl
  have fV := own_free HV.out (by simp) 5
  replace HV : Hid (Own (w6.setCell ⟨w.heap.size + 1, 5, none⟩ (.int .i64 f)) [(some ⟨w.heap.size + 1, 0, none⟩, [.int .i64 k, .int .i64 y, .int .i64 c, .int .i64 t, .int .i64 m, .int .i64 f, .bool false])]) := own_set HV.out 5 (by simp) (.int .i64 f)
  replace HR := hide (own_setS HR.out (a := ⟨w.heap.size + 1, 5, none⟩) HN.out (.int .i64 f))
  replace HK := hide (HK.out.setCell (p := ⟨w.heap.size + 1, 5, none⟩) (Nat.le_succ _) (.int .i64 f))
  go_wp2_with fail
  clear cV fV
  generalize w6.setCell ⟨w.heap.size + 1, 5, none⟩ (.int .i64 f) = w7 at *
  clear w6
  go_at_call 79
  refine (get_none a cap 21 1 q Nq.out (by decide) _).mono ?_
  rintro e w' ⟨rfl, hw'⟩
  obtain rfl := Eq.symm hw'
  clear hw'
  have hqb : (q == 1) = b1 := by rw [← HB1.out, Bool.eq_iff_iff]; simp
  have cV := own_cell HV.out 6 (by simp) (v := .bool false) rfl
  have fV := own_free HV.out (by simp) 6
  replace HV : Hid (Own (w7.setCell ⟨w.heap.size + 1, 6, none⟩ (.bool b1)) [(some ⟨w.heap.size + 1, 0, none⟩, [.int .i64 k, .int .i64 y, .int .i64 c, .int .i64 t, .int .i64 m, .int .i64 f, .bool b1])]) := own_set HV.out 6 (by simp) (.bool b1)
  replace HR := hide (own_setS HR.out (a := ⟨w.heap.size + 1, 6, none⟩) HN.out (.bool b1))
  replace HK := hide (HK.out.setCell (p := ⟨w.heap.size + 1, 6, none⟩) (Nat.le_succ _) (.bool b1))
  have e0 := own_cell HV.out 0 (by simp) (v := .int .i64 k) rfl
  have e1 := own_cell HV.out 1 (by simp) (v := .int .i64 y) rfl
  have e2 := own_cell HV.out 2 (by simp) (v := .int .i64 c) rfl
  have e3 := own_cell HV.out 3 (by simp) (v := .int .i64 t) rfl
  have e4 := own_cell HV.out 4 (by simp) (v := .int .i64 m) rfl
  have e5 := own_cell HV.out 5 (by simp) (v := .int .i64 f) rfl
  have e6 := own_cell HV.out 6 (by simp) (v := .bool b1) rfl
  go_wp2_with fail
  clear cV fV hqb
  generalize w7.setCell ⟨w.heap.size + 1, 6, none⟩ (.bool b1) = w8 at *
  clear w7
  go_at_call 38
  refine (body_spec k y c t m f b1 _).mono ?_
  rintro e wB ⟨v, rfl, ho, hk⟩
  rw [HEV.out]
  replace HR := hide (HR.out.kept hk)
  replace HV := hide (HV.out.kept hk)
  have HO := hide ho
  replace HK := hide (HK.out.trans hk)
  clear hk ho e0 e1 e2 e3 e4 e5 e6
  have c0 := own_cell HR.out 0 (by simp) (v := .int .i64 0) rfl
  have c1 := own_cell HR.out 1 (by simp) (v := .int .i64 0) rfl
  have c2 := own_cell HR.out 2 (by simp) (v := .int .i64 0) rfl
  have c3 := own_cell HR.out 3 (by simp) (v := .int .i64 0) rfl
  have c4 := own_cell HR.out 4 (by simp) (v := .int .i64 0) rfl
  have c5 := own_cell HR.out 5 (by simp) (v := .int .i64 0) rfl
  have c6 := own_cell HR.out 6 (by simp) (v := .bool false) rfl
  have fR := own_free HR.out (by simp)
  have HF := hide (own_sevenS HR.out (.int .i64 0) (.int .i64 0) (.int .i64 0) (.int .i64 0) (.int .i64 0) (.int .i64 0) (.bool false))
  have HK2 := hide (keeps_sevenS HK.out (Nat.le_refl w.heap.size) (.int .i64 0) (.int .i64 0) (.int .i64 0) (.int .i64 0) (.int .i64 0) (.int .i64 0) (.bool false))
  go_wp2_with fail
  generalize (((((((wB.setCell ⟨w.heap.size, 0, none⟩ (.int .i64 0)).setCell ⟨w.heap.size, 1, none⟩ (.int .i64 0)).setCell ⟨w.heap.size, 2, none⟩ (.int .i64 0)).setCell ⟨w.heap.size, 3, none⟩ (.int .i64 0)).setCell ⟨w.heap.size, 4, none⟩ (.int .i64 0)).setCell ⟨w.heap.size, 5, none⟩ (.int .i64 0)).setCell ⟨w.heap.size, 6, none⟩ (.bool false)) = wF at *
  clear c0 c1 c2 c3 c4 c5 c6
  have c0 := own_cell HF.out 0 (by simp) (v := .int .i64 0) rfl
  have c1 := own_cell HF.out 1 (by simp) (v := .int .i64 0) rfl
  have c2 := own_cell HF.out 2 (by simp) (v := .int .i64 0) rfl
  have c3 := own_cell HF.out 3 (by simp) (v := .int .i64 0) rfl
  have c4 := own_cell HF.out 4 (by simp) (v := .int .i64 0) rfl
  have c5 := own_cell HF.out 5 (by simp) (v := .int .i64 0) rfl
  have c6 := own_cell HF.out 6 (by simp) (v := .bool false) rfl
  refine bodyPost_ret (v := .tuple #[.agg #[.int .i64 0, .int .i64 0, .int .i64 0, .int .i64 0, .int .i64 0, .int .i64 0, .bool false], .bool false]) ?_ rfl ⟨rfl, HK2.out⟩
  simp [results, Tryz.results55, go_sem, c0, c1, c2, c3, c4, c5, c6]
theorem ebB_len {L : List UInt8} (h : L.length ≠ 22) : ebB L = false := by unfold ebB; rw [decide_eq_false h]; rfl
theorem ebV_no {L : List UInt8} (h : ebB L = false) : ebV L = evV 0 0 0 0 0 0 false := by unfold ebV; rw [h]; rfl
/-- BodyEvent of the program, of whatever list of bytes. -/
theorem bodyevent_any (a : Option Addr) (L : List UInt8) (cap : Nat) (w : World) (u : TypeId) (pv : Value) (hv : w.cell? ⟨0, 0, none⟩ = some (.iface u pv)) (hc : Cells w a (bys L)) (hcb : CapB a cap L.length) (hl : L.length ≤ 16777216) :
    Calls Tryz.prog 44 #[.slice a L.length cap] w fun e w' => e = .returned (.tuple #[ebV L, .bool (ebB L)]) ∧ Keeps w w' := by
  by_cases h22 : L.length = 22
  · rcases hc with h' | ⟨b, off, e, h'⟩
    · have : L = [] := by rw [bys_nil] at h'; exact h'
      subst this
      simp at h22
    · subst e
      exact bodyevent_impl b off L cap w u pv hv (Or.inr ⟨b, off, rfl, h'⟩) hl hcb.2.1 hcb.2.2
  · rw [ebB_len h22, ebV_no (ebB_len h22)]
    exact bodyevent_len a L cap w u pv hv hl h22
theorem bodyspec_any (a : Option Addr) (L : List UInt8) (cap : Nat) (w : World) (hc : Cells w a (bys L)) (hl : L.length ≤ 16777216) :
    Calls Tryz.prog 55 #[.slice a L.length cap] w fun e w' => e = .returned (.tuple #[ebV L, .bool (ebB L)]) ∧ Keeps w w' := by
  rcases hc with h' | ⟨b, off, e, h'⟩
  · have : L = [] := by rw [bys_nil] at h'; exact h'
    subst this
    rw [ebB_len (by decide), ebV_no (ebB_len (by decide))]
    exact bodyspec_none a cap w 0 0 0 0 0 0 0 false rfl rfl rfl rfl rfl rfl rfl rfl rfl
  · subst e
    exact bodyspec b off L cap w (Or.inr ⟨b, off, rfl, h'⟩) hl
/-- An event's cells; it has no list of its own. -/
def Ev.cells (x : Ev) : List Value := [.int .i64 x.k, .int .i64 x.y, .int .i64 x.c, .int .i64 x.t, .int .i64 x.m, .int .i64 x.f, .bool x.b]
def Ev.seg (x : Ev) : Seg := (none, [])
def ecells (l : List Ev) : List Value := l.flatMap Ev.cells
/-- The event in the bytes. -/
def ebE (L : List UInt8) : Ev := if ebB L = true then ⟨(numL (cut L 1 1) : Nat), (numL (cut L 2 3) : Nat), (numL (cut L 5 1) : Nat), (numL (cut L 6 1) : Nat), (numL (cut L 7 7) : Nat), (numL (cut L 14 7) : Nat), decide (numL (cut L 21 1) = 1)⟩ else ⟨0, 0, 0, 0, 0, 0, false⟩
theorem ebV_eq (L : List UInt8) : ebV L = evV (ebE L).k (ebE L).y (ebE L).c (ebE L).t (ebE L).m (ebE L).f (ebE L).b := by
  unfold ebV ebE
  split <;> rfl
/-- The events of the first k sectors. -/
def evsTo (m : DkM) : Nat → List Ev
  | 0 => []
  | k + 1 => if ebB (srL (readL m k)) = true then evsTo m k ++ [ebE (srL (readL m k))] else evsTo m k
theorem evsTo_yes {m : DkM} {k : Nat} (h : ebB (srL (readL m k)) = true) : evsTo m (k + 1) = evsTo m k ++ [ebE (srL (readL m k))] := by simp [evsTo, h]
theorem evsTo_no {m : DkM} {k : Nat} (h : ebB (srL (readL m k)) = false) : evsTo m (k + 1) = evsTo m k := by simp [evsTo, h]
theorem evsTo_len (m : DkM) : ∀ k, (evsTo m k).length ≤ k
  | 0 => Nat.le_refl _
  | k + 1 => by
    have := evsTo_len m k
    unfold evsTo
    split
    · simp; omega
    · omega
theorem infoEvents : (Tryz.prog.info? 30).map (fun i => (i.zero, i.size, i.bytes)) = some (some (evV 0 0 0 0 0 0 false), 7, 56) := by kernel_rfl
theorem underEvents : Tryz.prog.underlying 39 = some (.slice 30) := by kernel_rfl
theorem cell_seven_new (w : World) (x0 x1 x2 x3 x4 x5 x6 : Value) (t : TypeId) : ∀ j u, [x0, x1, x2, x3, x4, x5, x6][j]? = some u → (w.alloc (.cells #[x0, x1, x2, x3, x4, x5, x6] t)).cell? ((⟨w.heap.size, 0, none⟩ : Addr).add j) = some u := by
  intro j u hj
  match j, hj with
  | 0, hj => simp at hj; subst hj; simp [Addr.add]
  | 1, hj => simp at hj; subst hj; simp [Addr.add]
  | 2, hj => simp at hj; subst hj; simp [Addr.add]
  | 3, hj => simp at hj; subst hj; simp [Addr.add]
  | 4, hj => simp at hj; subst hj; simp [Addr.add]
  | 5, hj => simp at hj; subst hj; simp [Addr.add]
  | 6, hj => simp at hj; subst hj; simp [Addr.add]
  | n + 7, hj => simp at hj
theorem run_event (w : World) (base : Nat) (v : Value) (n : Nat) (xs : List Value) (x : Ev) (ty : TypeId) (h : w.ownsRow base 30 7 v n xs) (hn : n ≤ 1048576) (hb : base ≤ w.heap.size) :
    ∃ v' w', (Builtin.append_ #[39, 39] ty #[v, .slice (some ⟨w.heap.size, 0, none⟩) 1 1]).run Tryz.prog (w.alloc (.cells (evCells x.k x.y x.c x.t x.m x.f x.b) 30)) = .ok v' w' ∧ w'.ownsRow base 30 7 v' (n + 1) (xs ++ x.cells) ∧ (w.alloc (.cells (evCells x.k x.y x.c x.t x.m x.f x.b) 30)).grownBy w' v.ownBlock ∧ (v'.ownBlock = v.ownBlock ∨ v'.ownBlock = some (w.alloc (.cells (evCells x.k x.y x.c x.t x.m x.f x.b) 30)).heap.size) := by
  have hI := infoEvents
  cases hi : Tryz.prog.info? 30 with
  | none => rw [hi] at hI; simp at hI
  | some i =>
    rw [hi] at hI
    simp at hI
    obtain ⟨hz, hsz, hby⟩ := hI
    obtain ⟨v', w', h1, h2, h3, _, h5⟩ := run_append_own_at (P := Tryz.prog) (w.alloc (.cells (evCells x.k x.y x.c x.t x.m x.f x.b) 30)) base 39 ty 30 i _ 7 56 underEvents hi hz hsz hby rfl (by decide) v n xs (h.alloc _) ⟨w.heap.size, 0, none⟩ 1 1 x.cells rfl (cell_seven_new w _ _ _ _ _ _ _ _) (by intro u hu; simp [Ev.cells] at hu; rcases hu with rfl | rfl | rfl | rfl | rfl | rfl | rfl <;> rfl) (by simp only [maxLen]; omega) (by omega) (by simp; omega)
    exact ⟨v', w', h1, h2, h3, h5⟩
/-- What LogEvents answers. -/
def LePost (w : World) (m : DkM) (x : Ending) (w' : World) : Prop := ∃ (a : Option Addr) (c : Nat), x = .returned (.slice a (evsTo m (logN m)).length c) ∧ Born w w' [(a, ecells (evsTo m (logN m)))] ∧ Keeps w w'
theorem segs_none (l : List Ev) : fp (l.map Ev.seg) = [] := by
  induction l with
  | nil => rfl
  | cons x t ih => rw [List.map_cons, fp_cons, ih]; rfl
end Go.Proofs.YtmkhlhjggbencaaGreatDoor

/- What LogOpen answers. -/
namespace Go.Proofs.YtmkhlhjggbencaaGreatDoor
open Go.RowKit Go.Deep
set_option linter.unusedVariables false
set_option maxRecDepth 10000

theorem srE_bound {L : List UInt8} (h : srB L = true) : 1 ≤ srE L ∧ srE L ≤ 16000000 := by
  have e : srE L = (numL (cut L 4 3) : Nat) := by unfold srE; rw [if_pos h]
  unfold srB at h
  simp only [Bool.and_eq_true] at h
  have h1 := secB_true h.2
  rw [e]
  exact ⟨h1.2.2.1, h1.2.2.2.1⟩
theorem topTo_bound (m : DkM) : ∀ k, 0 ≤ topTo m k ∧ topTo m k ≤ 16000000
  | 0 => by simp [topTo]
  | k + 1 => by
    have := topTo_bound m k
    unfold topTo
    split
    · next h => have := srE_bound h.1; omega
    · exact this
theorem topM_bound (m : DkM) : 0 ≤ topM m ∧ topM m ≤ 16000000 := topTo_bound m _
/-- The code of LogOpen. -/
def opC (m : DkM) : Int := if (dokM m && decide (m.dirty.length = 0)) = true then (if logN m = m.cells.length ∨ topM m = 16000000 then 2 else 0) else 1
def opW (m : DkM) : DkM := writeM m (logN m : Nat) (secR (logN m : Nat) (topM m + 1) [66])
def opM (m : DkM) : DkM := if opC m = 0 then crashM (opW m) (fun _ => 128) else noM
def opN (m : DkM) : Int := if opC m = 0 then (logN m : Nat) + 1 else 0
def opE (m : DkM) : Int := if opC m = 0 then topM m + 1 else 0
def opV (m : DkM) : List Ev := if opC m = 0 then evsTo m (logN m) else []
theorem opC_one {m : DkM} (h : (dokM m && decide (m.dirty.length = 0)) = false) : opC m = 1 := by unfold opC; rw [h]; rfl
theorem opC_two {m : DkM} (h : dokM m = true) (hd : m.dirty.length = 0) (h2 : logN m = m.cells.length ∨ topM m = 16000000) : opC m = 2 := by simp [opC, h, hd, h2]
theorem opC_zero {m : DkM} (h : dokM m = true) (hd : m.dirty.length = 0) (h2 : ¬ (logN m = m.cells.length ∨ topM m = 16000000)) : opC m = 0 := by simp [opC, h, hd, h2]
theorem opW_ok {m : DkM} (h : dokM m = true) (hd : m.dirty.length = 0) (h2 : ¬ (logN m = m.cells.length ∨ topM m = 16000000)) : dokM (opW m) = true := by
  have h3 := dokM_len h
  have h4 := logTo_le m m.cells.length
  have h5 : logN m = logTo m m.cells.length := rfl
  have h6 := topM_bound m
  have hs : secB (logN m : Nat) (topM m + 1) [(66 : UInt8)].length = true := by
    unfold secB
    rw [decide_eq_true (p := 0 ≤ ((logN m : Nat) : Int)) (by omega), decide_eq_true (p := ((logN m : Nat) : Int) < 600) (by omega), decide_eq_true (p := 1 ≤ topM m + 1) (by omega), decide_eq_true (p := topM m + 1 ≤ 16000000) (by omega)]
    rfl
  have hl : (secR (logN m : Nat) (topM m + 1) [66]).length = 128 := by unfold secR; rw [if_pos hs]; exact secL_length (by decide)
  have hw := writeB_yes (m := m) (i := (logN m : Nat)) (L := secR (logN m : Nat) (topM m + 1) [66]) h (by omega) (by omega) (by omega) hl
  unfold opW writeM
  rw [if_pos hw, dokM_add h]
  exact hw
/-- What LogOpen answers. -/
def OpPost (w : World) (m : DkM) (x : Ending) (w' : World) : Prop := ∃ (ca : Option Addr) (cc : Nat) (cs : List Bs) (da : Option Addr) (dc : Nat) (ds : List Wr) (a : Option Addr) (c : Nat), x = .returned (.tuple #[logV ca cs.length cc da ds.length dc (opN m) (opE m), .slice a (opV m).length c, .int .i64 (opC m)]) ∧ dat cs ds = opM m ∧ DOk cs ds ∧ (ca = none → cc = 0) ∧ (da = none → dc = 0) ∧ Born w w' (dsk ca cs da ds ++ [(a, ecells (opV m))]) ∧ Keeps w w'
theorem OpPost.no {w w' : World} {m : DkM} {c : Int} (hc : opC m = c) (h0 : c ≠ 0) (hk : Keeps w w') : OpPost w m (.returned (.tuple #[.agg #[.slice none 0 0, .slice none 0 0, .int .i64 0, .int .i64 0], .slice none 0 0, .int .i64 c])) w' := by
  have h1 : opC m ≠ 0 := hc ▸ h0
  obtain ⟨ca, cc, cs, da, dc, ds, e1, e2, e3, e4, e5, e6⟩ := LogRes.none w w'
  refine ⟨ca, cc, cs, da, dc, ds, none, 0, ?_, ?_, e3, e4, e5, ?_, hk⟩
  · unfold opN opE opV
    rw [if_neg h1, if_neg h1, if_neg h1, hc, e1]
    rfl
  · unfold opM
    rw [if_neg h1]
    exact e2
  · unfold opV
    rw [if_neg h1]
    refine ⟨e6.toOwn.append ⟨fun s hs => ?_, by simp [fp, fpS, ecells], fun b hb => by simp [fp, fpS, ecells] at hb⟩ (fun b hb => by simp [fp, fpS, ecells]), fun b hb => ?_⟩
    · rw [List.mem_singleton.1 hs]
      exact Or.inl rfl
    · rw [fp_append] at hb
      rcases List.mem_append.1 hb with hb | hb
      · exact e6.new b hb
      · simp [fp, fpS, ecells] at hb
theorem OpPost.yes {w w' : World} {m : DkM} (hc : opC m = 0) {ca : Option Addr} {cc : Nat} {cs : List Bs} {da : Option Addr} {dc : Nat} {ds : List Wr} {a : Option Addr} {c : Nat} (he : dat cs ds = crashM (opW m) (fun _ => 128)) (hok : DOk cs ds) (h1 : ca = none → cc = 0) (h2 : da = none → dc = 0) (hb : Born w w' (dsk ca cs da ds ++ [(a, ecells (evsTo m (logN m)))])) (hk : Keeps w w') :
    OpPost w m (.returned (.tuple #[logV ca cs.length cc da ds.length dc ((logN m : Nat) + 1) (topM m + 1), .slice a (evsTo m (logN m)).length c, .int .i64 0])) w' := by
  refine ⟨ca, cc, cs, da, dc, ds, a, c, ?_, ?_, hok, h1, h2, ?_, hk⟩
  · unfold opN opE opV
    rw [if_pos hc, if_pos hc, if_pos hc, hc]
  · unfold opM
    rw [if_pos hc]
    exact he
  · unfold opV
    rw [if_pos hc]
    exact hb
theorem bys_B (w : World) : Cells (w.alloc (.cells #[.int .u8 66] 5)) (some ⟨w.heap.size, 0, none⟩) (bys [66]) := by
  have h := (born_alloc w #[.int .u8 66] 5).toOwn.one
  exact h
theorem bys_Bm (w : World) : Cells (w.alloc (.cells #[.int .u8 66] 5 (1, 2))) (some ⟨w.heap.size, 0, none⟩) (bys [66]) := by
  refine Or.inr ⟨w.heap.size, 0, rfl, fun j hj => ?_⟩
  have hB : (w.alloc (.cells #[.int .u8 66] 5 (1, 2))).heap[w.heap.size]? = some (.cells #[.int .u8 66] 5 (1, 2)) := by
    show (w.heap.push _)[w.heap.size]? = _
    simp
  match j, hj with
  | 0, _ => simp only [World.cell?, hB]; rfl
end Go.Proofs.YtmkhlhjggbencaaGreatDoor

/- withSector. -/
namespace Go.Proofs.YtmkhlhjggbencaaGreatDoor
open Go.RowKit Go.Deep
set_option linter.unusedVariables false
set_option maxRecDepth 10000

set_option maxHeartbeats 4000000 in
theorem with_impl (ca : Option Addr) (cc : Nat) (cs : List Bs) (da : Option Addr) (dc : Nat) (ds : List Wr) (nx ep : Int) (ba : Option Addr) (bc : Nat) (bL : List UInt8) (w : World) (hm : Mem w (dsk ca cs da ds)) (h : DOk cs ds) (hb : Cells w ba (bys bL)) (hbn : ba = none → bc = 0) (hbl : bL.length ≤ 1048576) (hn0 : 0 ≤ nx) (hn1 : nx ≤ 1048576) :
    Calls Tryz.prog 35 #[logV ca cs.length cc da ds.length dc nx ep, .slice ba bL.length bc] w fun e w' => ∃ v, e = .returned v ∧ LogRes w w' v (writeM (dat cs ds) nx (secR nx ep bL)) (nx + 1) ep ∧ Keeps w w' := by
  have HKA := hide (Keeps.alloc (Keeps.alloc (Keeps.refl w) (.cells #[.slice ca cs.length cc, .slice da ds.length dc, .int .i64 nx, .int .i64 ep] 28)) (.cells #[.slice none 0 0, .slice none 0 0, .int .i64 0, .int .i64 0] 28))
  have HM := hide (hm.kept HKA.out)
  have HDO := hide h
  have HT := hide (secbytes_impl nx ep ba bc bL _ (hb.kept HKA.out) hbn (Nat.le_trans hbl (by decide)))
  have HR := hide (row_new (w.alloc (.cells #[.slice ca cs.length cc, .slice da ds.length dc, .int .i64 nx, .int .i64 ep] 28)) #[.slice none 0 0, .slice none 0 0, .int .i64 0, .int .i64 0] 28)
  have HS : Hid ((w.alloc (.cells #[.slice ca cs.length cc, .slice da ds.length dc, .int .i64 nx, .int .i64 ep] 28)).heap.size = w.heap.size + 1 ∧ ((w.alloc (.cells #[.slice ca cs.length cc, .slice da ds.length dc, .int .i64 nx, .int .i64 ep] 28)).alloc (.cells #[.slice none 0 0, .slice none 0 0, .int .i64 0, .int .i64 0] 28)).heap.size = w.heap.size + 1 + 1) := by show _ ∧ _; exact ⟨by simp, by simp⟩
  rw [HS.out.1] at HR
  have HD : Hid (∀ w', Keeps ((w.alloc (.cells #[.slice ca cs.length cc, .slice da ds.length dc, .int .i64 nx, .int .i64 ep] 28)).alloc (.cells #[.slice none 0 0, .slice none 0 0, .int .i64 0, .int .i64 0] 28)) w' → w'.cell? ⟨w.heap.size, 0, none⟩ = some (.slice ca cs.length cc) ∧ w'.cell? ⟨w.heap.size, 1, none⟩ = some (.slice da ds.length dc) ∧ w'.cell? ⟨w.heap.size, 2, none⟩ = some (.int .i64 nx) ∧ w'.cell? ⟨w.heap.size, 3, none⟩ = some (.int .i64 ep)) :=
    fun w' hk => ⟨hk.cell (by simp), hk.cell (by simp), hk.cell (by simp), hk.cell (by simp)⟩
  clear hm h hb hbn hbl
  go_enter Tryz.func35, Tryz.ntmps35
  go_wp2_with fail
  have HSz := hide HS.out.2
  generalize ((w.alloc (.cells #[.slice ca cs.length cc, .slice da ds.length dc, .int .i64 nx, .int .i64 ep] 28)).alloc (.cells #[.slice none 0 0, .slice none 0 0, .int .i64 0, .int .i64 0] 28)) = W0 at *
  refine (unhide HT).mono ?_
  rintro x w1 ⟨v, rfl, ho, hk⟩
  obtain ⟨sa, sc, rfl, hsn, hbo⟩ := Born.of_owns ho
  obtain ⟨d0, d1, d2, d3⟩ := HD.out _ hk
  replace HR := hide (hk.row HR.out)
  have HK1 := hide hk
  have HT2 := hide (diskwrite_impl ca cc cs da dc ds nx sa sc (secR nx ep bL) w1 (HM.out.kept hk) HDO.out hbo.toOwn.one hsn.1 (Nat.le_trans (secR_length _ _ _) (by decide)))
  clear hk ho hsn hbo HT HS
  go_wp2_with fail
  refine (unhide HT2).mono ?_
  rintro x w2 ⟨v, rfl, hr, hk⟩
  obtain ⟨ca2, cc2, cs2, da2, dc2, ds2, rfl, he, hok, hna, hnd, hb⟩ := hr
  clear d0 d1 d2 d3
  obtain ⟨d0, d1, d2, d3⟩ := HD.out _ ((HK1.out.trans hk).alloc (.cells #[.slice ca2 cs2.length cc2, .slice da2 ds2.length dc2] 26))
  replace HR := hide (((Keeps.refl w2).alloc (.cells #[.slice ca2 cs2.length cc2, .slice da2 ds2.length dc2] 26)).row (hk.row HR.out))
  have HKW := hide (((HKA.out.trans HK1.out).trans hk).alloc (.cells #[.slice ca2 cs2.length cc2, .slice da2 ds2.length dc2] 26))
  have hz : w.heap.size + 1 + 1 ≤ w2.heap.size := by have := (HK1.out.trans hk).size; have := HSz.out; omega
  have q0 := HR.out.cell (i := 0) (by decide)
  have q1 := HR.out.cell (i := 1) (by decide)
  have q2 := HR.out.cell (i := 2) (by decide)
  have q3 := HR.out.cell (i := 3) (by decide)
  have g0 := HR.out.frozen 0
  have g1 := HR.out.frozen 1
  have g2 := HR.out.frozen 2
  have g3 := HR.out.frozen 3
  simp only [Array.getD] at q0 q1 q2 q3
  simp at q0 q1 q2 q3
  have HB := hide (((hb.kept ((Keeps.refl w2).alloc (.cells #[.slice ca2 cs2.length cc2, .slice da2 ds2.length dc2] 26))).old (HKA.out.trans HK1.out)))
  have HBN : Hid (∀ b ∈ fp (dsk ca2 cs2 da2 ds2), w.heap.size + 1 + 1 ≤ b) := fun b hb1 => by have := hb.new b hb1; have := HK1.out.size; have := HSz.out; omega
  have HF := hide (⟨he, hok, hna, hnd⟩ : _ ∧ _ ∧ _ ∧ _)
  clear hk hb he hok hna hnd HT2
  go_wp2_with fail
  have r9 := ((((HR.out.set 0 (.slice ca2 cs2.length cc2)).set 1 (.slice da2 ds2.length dc2)).set 2 (.int .i64 (nx + 1))).set 3 (.int .i64 ep))
  have c0 := r9.cell (i := 0) (by decide)
  have c1 := r9.cell (i := 1) (by decide)
  have c2 := r9.cell (i := 2) (by decide)
  have c3 := r9.cell (i := 3) (by decide)
  simp at c0 c1 c2 c3
  have HSs : Hid (Turn [w.heap.size + 1] (w2.alloc (.cells #[.slice ca2 cs2.length cc2, .slice da2 ds2.length dc2] 26)) (((((w2.alloc (.cells #[.slice ca2 cs2.length cc2, .slice da2 ds2.length dc2] 26)).setCell ⟨w.heap.size + 1, 0, none⟩ (.slice ca2 cs2.length cc2)).setCell ⟨w.heap.size + 1, 1, none⟩ (.slice da2 ds2.length dc2)).setCell ⟨w.heap.size + 1, 2, none⟩ (.int .i64 (nx + 1))).setCell ⟨w.heap.size + 1, 3, none⟩ (.int .i64 ep))) := ((((Turn.set (by simp) _).trans' (Turn.set (by simp) _)).trans' (Turn.set (by simp) _)).trans' (Turn.set (by simp) _))
  clear r9 HR q0 q1 q2 q3 g0 g1 g2 g3
  revert c0 c1 c2 c3 HSs
  generalize World.setCell _ _ _ = W
  intro c0 c1 c2 c3 HSs
  refine bodyPost_ret (v := logV ca2 cs2.length cc2 da2 ds2.length dc2 (nx + 1) ep) ?_ rfl ⟨_, rfl, ⟨ca2, cc2, cs2, da2, dc2, ds2, rfl, HF.out.1, HF.out.2.1, HF.out.2.2.1, HF.out.2.2.2, ?_⟩, ?_⟩
  · simp [results, Tryz.results35, go_sem, c0, c1, c2, c3]
  · refine HB.out.turn HSs.out ?_
    intro b hb hx
    have := HBN.out b hb
    simp at hx
    omega
  · refine HSs.out.keeps HKW.out ?_
    intro b hb
    simp at hb
    omega
end Go.Proofs.YtmkhlhjggbencaaGreatDoor

/- LogTop of the program. -/
namespace Go.Proofs.YtmkhlhjggbencaaGreatDoor
open Go.RowKit Go.Deep Go.Shelf
set_option linter.unusedVariables false
set_option maxRecDepth 10000
attribute [local go_sem] Oper.semAt_some

theorem all_make (ca : Option Addr) (cc : Nat) (cs : List Bs) (da : Option Addr) (dc : Nat) (ds : List Wr) (w : World) :
    Calls Tryz.prog 56 #[dskV ca cs.length cc da ds.length dc] w fun e w' => e = .returned (.func (.func 90) #[] #[.pointer (some ⟨w.heap.size, 0, none⟩)]) ∧ w' = w.alloc (.cells #[.slice ca cs.length cc, .slice da ds.length dc] 26) := by
  have hmf : ∀ (fn : Fn) (first cap : Array Value) (w : World), (Instr.makeFunc fn first cap).run Tryz.prog w = .ok (.func fn first cap) w := fun _ _ _ _ => rfl
  go_enter Tryz.func56, Tryz.ntmps56
  go_wp2_with fail
  go_ret
  exact ⟨rfl, rfl⟩
theorem AllAt.turn {Bx : Nat} {ca : Option Addr} {cc : Nat} {cs : List Bs} {da : Option Addr} {dc : Nat} {ds : List Wr} {u : TypeId} {pv : Value} {W W' : World} (h : AllAt Bx ca cc cs da dc ds u pv W) {fs : List Nat} (ht : Turn fs W W') (h1 : Bx ∉ fs) (h2 : ∀ x ∈ fp (dsk ca cs da ds), x ∉ fs) (h3 : 0 ∉ fs) : AllAt Bx ca cc cs da dc ds u pv W' :=
  ⟨ht.cell h1 h.1, ht.cell h1 h.2.1, h.2.2.1.turn ht h2, ht.cell h3 h.2.2.2⟩
/-- Between two rounds of LogTop. -/
structure TopI (w : World) (ca : Option Addr) (cc : Nat) (cs : List Bs) (da : Option Addr) (dc : Nat) (ds : List Wr) (u : TypeId) (pv : Value) (k : Nat) (W : World) : Prop where
  at_ : AllAt (w.heap.size + 1 + 1) ca cc cs da dc ds u pv W
  top : W.cell? ⟨w.heap.size + 1, 0, none⟩ = some (.int .i64 (topTo (dat cs ds) k))
  free : W.frozen? ⟨w.heap.size + 1, 0, none⟩ = false
  kept : Keeps w W
  size : w.heap.size + 3 ≤ W.heap.size
theorem TopI.turn {w : World} {ca : Option Addr} {cc : Nat} {cs : List Bs} {da : Option Addr} {dc : Nat} {ds : List Wr} {u : TypeId} {pv : Value} {k : Nat} {W W' : World} (h : TopI w ca cc cs da dc ds u pv k W) {fs : List Nat} (ht : Turn fs W W') (hb : ∀ x ∈ fs, w.heap.size + 3 ≤ x) (h2 : ∀ x ∈ fp (dsk ca cs da ds), x < w.heap.size) (h3 : 0 < w.heap.size) : TopI w ca cc cs da dc ds u pv k W' :=
  ⟨h.at_.turn ht (fun hx => by have := hb _ hx; omega) (fun x hx hy => by have := h2 x hx; have := hb _ hy; omega) (fun hx => by have := hb _ hx; omega),
   ht.cell (fun hx => by have := hb _ hx; dsimp only at this; omega) h.top,
   by rw [← h.free]; exact World.frozen?_of_block (ht.block _ (by have := h.size; show w.heap.size + 1 < _; omega) (fun hx => by have := hb _ hx; dsimp only at this; omega)),
   ht.keeps h.kept (fun x hx => by have := hb x hx; omega), Nat.le_trans h.size ht.size⟩
theorem TopI.later {w : World} {ca : Option Addr} {cc : Nat} {cs : List Bs} {da : Option Addr} {dc : Nat} {ds : List Wr} {u : TypeId} {pv : Value} {k : Nat} {W W' : World} (h : TopI w ca cc cs da dc ds u pv k W) (ht : Keeps W W') : TopI w ca cc cs da dc ds u pv k W' :=
  ⟨h.at_.kept ht, ht.cell h.top, by rw [ht.oldF _ _ (by have := h.size; omega)]; exact h.free, h.kept.trans ht, Nat.le_trans h.size ht.size⟩
set_option maxHeartbeats 8000000 in
theorem logtop_impl (ca : Option Addr) (cc : Nat) (cs : List Bs) (da : Option Addr) (dc : Nat) (ds : List Wr) (w : World) (u : TypeId) (pv : Value) (hv : w.cell? ⟨0, 0, none⟩ = some (.iface u pv)) (hm : Mem w (dsk ca cs da ds)) (h : DOk cs ds) :
    Calls Tryz.prog 19 #[dskV ca cs.length cc da ds.length dc] w fun e w' => e = .returned (.int .i64 (topM (dat cs ds))) ∧ Keeps w w' := by
  obtain ⟨n, hn⟩ : ∃ n, 9 ≤ n := ⟨9, Nat.le_refl _⟩
  refine (callsIn_wide (n := n)).1 ?_
  refine callsIn_of_wp_marks Tryz.func19 rfl trivial ?_ rfl
  simp only [Tryz.ntmps19, List.size_toArray, List.length_cons, List.length_nil, Nat.reduceAdd, Nat.reduceSub, Array.replicate_succ, Array.replicate_zero, List.push_toArray, List.append_toArray, List.nil_append, List.cons_append]
  have HV := hide hv
  have HM := hide hm
  have HD := hide h
  clear hv hm h
  gi_wp2
  refine ⟨trivial, nofun, (callsIn_wide.2 (all_make ca cc cs da dc ds _)).mono ?_⟩
  rintro e w1 ⟨rfl, rfl⟩
  gi_wp2
  have hlt := HM.out.lt
  have hgl := lt_of_cell HV.out
  obtain ⟨W0, hW0⟩ : ∃ W0, ((w.alloc (.cells #[.slice ca cs.length cc, .slice da ds.length dc] 26)).alloc (.cells #[.int .i64 0] 3)).alloc (.cells #[.slice ca cs.length cc, .slice da ds.length dc] 26) = W0 := ⟨_, rfl⟩
  have hs0 : W0.heap.size = w.heap.size + 3 := by rw [← hW0]; simp
  have hk0 : Keeps w W0 := by rw [← hW0]; exact ((Keeps.refl w).alloc _).alloc _ |>.alloc _
  have hbx := (born_alloc ((w.alloc (.cells #[.slice ca cs.length cc, .slice da ds.length dc] 26)).alloc (.cells #[.int .i64 0] 3)) #[.slice ca cs.length cc, .slice da ds.length dc] 26).toOwn
  have htb := (born_alloc (w.alloc (.cells #[.slice ca cs.length cc, .slice da ds.length dc] 26)) #[.int .i64 0] 3).toOwn.kept (Keeps.alloc (Keeps.refl _) (.cells #[.slice ca cs.length cc, .slice da ds.length dc] 26))
  rw [hW0] at hbx htb
  simp only [World.size_alloc] at hbx htb
  have cb0 := cell_at hbx.mem 0 (by simp)
  have cb1 := cell_at hbx.mem 1 (by simp)
  have ct0 := cell_at htb.mem 0 (by simp)
  have cf0 := htb.free (w.heap.size + 1) (by simp [fp, fpS]) 0
  simp only [Nat.zero_add, List.getElem_cons_zero, List.getElem_cons_succ] at cb0 cb1 ct0
  have hI0 : TopI w ca cc cs da dc ds u pv 0 W0 :=
    ⟨⟨cb0, cb1, HM.out.kept hk0, hk0.cell HV.out⟩, ct0, cf0, hk0, by omega⟩
  rw [hW0]
  have HS0 := hide hs0
  clear hW0 hs0 hbx htb cf0 cb0 cb1 ct0
  refine wp_range rfl (by omega) (gf := 90) (lb := #[.pointer (some ⟨w.heap.size + 1 + 1, 0, none⟩)]) rfl trivial (enters_of Tryz.func90 (by kernel_rfl) rfl) (fun W => TopI w ca cc cs da dc ds u pv cs.length W) (fun _ _ => False) ?_ ?_ ?_
  · intro fn hfn W1 hk1 hs1 hr1
    generalize hR : recOf fn _ _ _ _ _ = R at hr1 ⊢
    refine (all_in (n - 1) (W0.heap.size + 1) (w.heap.size + 1 + 1) ca cc cs da dc ds u pv (fun k W => TopI w ca cc cs da dc ds u pv k W ∧ RL R W0.heap.size .ready none W) (fun _ => False) HD.out ?_ ?_ ?_ ?_ W1 ⟨hI0.later hk1, hr1⟩).mono ?_
    · rintro k W ⟨h, _⟩
      exact h.at_
    · rintro k W W' ⟨h, h'⟩ hk
      exact ⟨h.later hk, h'.kept hk⟩
    · rintro k W _ ⟨h, h'⟩ hB
      exact ⟨⟨h.at_, by rw [topTo_skip hB]; exact h.top, h.free, h.kept, h.size⟩, h'⟩
    · rintro k W W' a c hkl ⟨h, h'⟩ hB hac hb hk
      have h2 := h.later hk
      have hr2 := h'.kept hk
      clear h h' hb hk hac
      subst hR
      refine YieldAt.mono (yield_round (G := fun W => TopI w ca cc cs da dc ds u pv (k + 1) W) (Gx := fun _ _ => False) hfn hr2 rfl ?_) ?_
      · generalize recOf fn _ _ _ _ _ = R at hr2 ⊢
        gi_wp2
        have hka := Keeps.alloc (Keeps.refl W') (.cells #[.int .i64 (srQ (readL (dat cs ds) k)), .int .i64 (srE (readL (dat cs ds) k)), .slice a (srL (readL (dat cs ds) k)).length c] 72)
        have hbo := (born_alloc W' #[.int .i64 (srQ (readL (dat cs ds) k)), .int .i64 (srE (readL (dat cs ds) k)), .slice a (srL (readL (dat cs ds) k)).length c] 72).toOwn
        generalize W'.alloc (.cells #[.int .i64 (srQ (readL (dat cs ds) k)), .int .i64 (srE (readL (dat cs ds) k)), .slice a (srL (readL (dat cs ds) k)).length c] 72) = W2 at *
        refine ⟨hr2.kept hka, fun W3 ht hr3 => ?_⟩
        have hl2 := hr2.lt
        have h3 := (h2.later hka).turn ht (fun x hx => by simp at hx; have := HS0.out; omega) hlt hgl
        have hb3 := hbo.turn ht (fun x hx hy => by simp [fp, fpS] at hx hy; have := HS0.out; omega)
        have s1 := cell_at hb3.mem 1 (by simp)
        simp only [Nat.zero_add, List.getElem_cons_zero, List.getElem_cons_succ] at s1
        have t0 := h3.top
        have t1 := h3.free
        have HI := hide h3
        have HR3 := hide hr3
        clear h2 hr2 hka hbo ht h3 hr3 hb3 hl2
        gi_wp2
        all_goals
          refine ⟨HR3.out.turn (Turn.set (fs := [w.heap.size + 1]) (by simp) _) (by simp <;> (have := HS0.out; omega)) (by simp <;> (have := HS0.out; omega)), fun W4 ht => ?_⟩
          have h := HI.out
          have hts : Turn [w.heap.size + 1] W3 (W3.setCell ⟨w.heap.size + 1, 0, none⟩ (.int .i64 (topTo (dat cs ds) (k + 1)))) := Turn.set (by simp) _
          have h5 : TopI w ca cc cs da dc ds u pv (k + 1) (W3.setCell ⟨w.heap.size + 1, 0, none⟩ (.int .i64 (topTo (dat cs ds) (k + 1)))) :=
            ⟨h.at_.turn hts (by simp) (fun x hx hy => by have := hlt x hx; simp at hy; omega) (by simp <;> omega), World.cell?_setCell_same _ _ _ h.top, by simp [h.free],
             hts.keeps h.kept (fun x hx => by simp at hx; omega), Nat.le_trans h.size hts.size⟩
          have e : ∀ z, topTo (dat cs ds) (k + 1) = z → TopI w ca cc cs da dc ds u pv (k + 1) (W3.setCell ⟨w.heap.size + 1, 0, none⟩ (.int .i64 z)) := fun z hz => hz ▸ h5
          refine (e _ ?_).turn ht (fun x hx => by simp at hx; have := HS0.out; omega) hlt hgl
          rw [topTo_max hB]
          omega
      · rintro e W'' (⟨he, hg, hr⟩ | ⟨_, _, hf, _⟩)
        · exact .inl ⟨he, hg, hr⟩
        · exact hf.elim
    · rintro e W2 ⟨hv, (⟨h, h'⟩ | hf)⟩
      · exact ⟨hv, .inl ⟨h, h'⟩⟩
      · exact hf.elim
  · intro W W' hG ht hK
    have h2 := hG.turn ht (fun x hx => by simp at hx; have := HS0.out; omega) hlt hgl
    have t0 := h2.top
    have HI := hide h2
    clear h2 hG
    gi_wp2
    refine ⟨by simp, .inl ⟨_, _, rfl, run_takeDeferred hK, ?_⟩⟩
    refine ⟨_, results_tmp rfl _ _ _, (by simp [topM, dat]), ?_⟩
    exact (turn_putObj W' W0.heap.size _).keeps HI.out.kept (fun x hx => by simp at hx; have := HS0.out; omega)
  · intro c W W' hf
    exact hf.elim
end Go.Proofs.YtmkhlhjggbencaaGreatDoor
