/- DiskRead, the program's and the model's. -/
import Derived.Test.YtkdnddckogbgaaaDoorDR
namespace Go.Proofs.YtkdnddckogbgaaaDoor
open Go.RowKit Go.Deep
set_option linter.unusedVariables false
set_option maxRecDepth 10000

theorem readB_dok {m : DkM} {i : Int} (h : dokM m = false) : readB m i = false := by unfold readB; rw [h, Bool.false_and]
theorem readB_out {m : DkM} {i : Int} (h : i < 0 ∨ (m.cells.length : Int) ≤ i) : readB m i = false := by
  unfold readB
  rcases h with h | h
  · rw [decide_eq_false (show ¬ 0 ≤ i by omega)]; simp
  · rw [decide_eq_false (show ¬ i < (m.cells.length : Int) by omega)]; simp
theorem readB_in {m : DkM} {i : Int} (h : dokM m = true) (h0 : 0 ≤ i) (h1 : i < (m.cells.length : Int)) : readB m i = true := by
  unfold readB; rw [h, decide_eq_true h0, decide_eq_true h1]; rfl
theorem read_hit {cs : List Bs} {ds : List Wr} {i : Int} {k : Nat} (hk : k < ds.length) (he : ds[k].i = i) (hn : lastD ((ds.map Wr.key).drop (k + 1)) i = none) (F : List UInt8) : (lastD (dat cs ds).dirty i).getD F = ds[k].b.L := by
  have e : (dat cs ds).dirty = (ds.map Wr.key).take k ++ (ds[k].key :: (ds.map Wr.key).drop (k + 1)) := by
    show ds.map Wr.key = _
    have hk' : k < (ds.map Wr.key).length := by simpa using hk
    have : ds[k].key = (ds.map Wr.key)[k] := by simp
    rw [this, ← List.drop_eq_getElem_cons hk', List.take_append_drop]
  rw [e, lastD_append]
  simp [lastD, hn, Wr.key, he]
theorem read_next {ds : List Wr} {i : Int} {k : Nat} (hk : k < ds.length) (he : ds[k].i ≠ i) (hn : lastD ((ds.map Wr.key).drop (k + 1)) i = none) : lastD ((ds.map Wr.key).drop k) i = none := by
  have hk' : k < (ds.map Wr.key).length := by simpa using hk
  rw [List.drop_eq_getElem_cons hk']
  simp [lastD, hn, Wr.key, he]
theorem read_miss {cs : List Bs} {ds : List Wr} {i : Nat} (hi : i < cs.length) (hn : lastD ((ds.map Wr.key).drop 0) i = none) : (lastD (dat cs ds).dirty i).getD (fullL ((dat cs ds).cells.getD (i : Int).toNat [])) = fullL cs[i].L := by
  rw [List.drop_zero] at hn
  show (lastD (ds.map Wr.key) i).getD _ = _
  rw [hn, Option.getD_none, Int.toNat_natCast]
  simp [dat, hi]
/-- What newest answers. -/
def NewPost (w : World) (m : DkM) (i : Int) (x : Ending) (w' : World) : Prop := ∃ v, x = .returned v ∧ OwnsB w' w.heap.size v (readL m i) ∧ Keeps w w'
theorem NewPost.yes {w w' : World} {m : DkM} {i : Int} {v : Value} {L : List UInt8} (h : readB m i = true) (hl : (lastD m.dirty i).getD (fullL (m.cells.getD i.toNat [])) = L) (ho : OwnsB w' w.heap.size v L) (hk : Keeps w w') : NewPost w m i (.returned v) w' := by
  refine ⟨v, rfl, ?_, hk⟩
  unfold readL
  rw [if_pos h, hl]
  exact ho
set_option maxHeartbeats 4000000 in
theorem newest_impl (ca : Option Addr) (cc : Nat) (cs : List Bs) (da : Option Addr) (dc : Nat) (ds : List Wr) (p : Nat) (w : World) (hm : Mem w (dsk ca cs da ds)) (h : DOk cs ds) (hok : dokM (dat cs ds) = true) (hp : p < cs.length) :
    Calls Tryd.prog 55 #[dskV ca cs.length cc da ds.length dc, .int .i64 (p : Int)] w (NewPost w (dat cs ds) p) := by
  have HKA := hide (Keeps.alloc (Keeps.refl w) (.cells #[.slice ca cs.length cc, .slice da ds.length dc] 33))
  have HM := hide (hm.kept HKA.out)
  have HD : Hid (∀ w', Keeps (w.alloc (.cells #[.slice ca cs.length cc, .slice da ds.length dc] 33)) w' → w'.cell? ⟨w.heap.size, 0, none⟩ = some (.slice ca cs.length cc) ∧ w'.cell? ⟨w.heap.size, 1, none⟩ = some (.slice da ds.length dc)) :=
    fun w' hk => ⟨hk.cell (by simp), hk.cell (by simp)⟩
  have HZ : Hid ((w.alloc (.cells #[.slice ca cs.length cc, .slice da ds.length dc] 33)).heap.size = w.heap.size + 1) := by show _ = _; rw [World.size_alloc]
  have hcl := h.c
  have hdl := h.d
  have HOk := hide hok
  have HB := hide (readB_in (m := dat cs ds) (i := p) hok (by omega) (by show (p : Int) < ((cs.map Bs.L).length : Int); simpa using hp))
  have HDO := hide h
  clear hm h hok
  go_enter Tryd.func55, Tryd.ntmps55
  go_wp2_with fail
  generalize w.alloc (.cells #[.slice ca cs.length cc, .slice da ds.length dc] 33) = W0 at *
  go_loopw [5] (fun y wr => ∃ k : Nat, k ≤ ds.length ∧ y = .int .i64 ((k : Int) - 1) ∧ Hid (lastD ((ds.map Wr.key).drop k) p = none) ∧ Hid (Keeps W0 wr)) (fun y _ => (intOf y + 1).toNat)
  case atStart => exact ⟨ds.length, Nat.le_refl _, rfl, by show _ = _; rw [List.drop_of_length_le (by simp)]; rfl, Keeps.refl _⟩
  case round =>
    obtain ⟨k, hk, rfl, HN, HKr⟩ := hrel
    obtain ⟨d0, d1⟩ := HD.out _ HKr.out
    by_cases hlt : 0 < k
    · obtain ⟨j, rfl⟩ : ∃ j, k = j + 1 := ⟨k - 1, by omega⟩
      have hj : j < ds.length := by omega
      rw [show (((j + 1 : Nat) : Int) - 1) = (j : Int) by omega]
      obtain ⟨b, off, ea, c0, c1⟩ := cell2 ((dsk_mem HM.out).2.2.1.kept HKr.out) j hj
      subst ea
      have HCx : Hid (Cells wr ds[j].b.a (bys ds[j].b.L)) := (mem_segW (dsk_mem HM.out).2.2.2 j hj).kept HKr.out
      have HNx := hide (HDO.out.nd _ (List.getElem_mem hj)).1
      have HLx : Hid (ds[j].b.L.length ≤ 4194304) := Nat.le_trans (totW_le (List.getElem_mem hj)) (Nat.le_trans HDO.out.td (by decide))
      have HHt := hide (fun he F => read_hit (cs := cs) (i := (p : Int)) hj he HN.out F)
      have HNt := hide (fun he => read_next (i := (p : Int)) hj he HN.out)
      generalize ds[j] = x at *
      obtain ⟨xi, xa, xc, xL⟩ := x
      dsimp only [Bs.v] at c0 c1 HCx HNx HLx HHt HNt
      by_cases he : xi = (p : Int)
      · subst he
        have HHit := hide (HHt.out rfl (fullL ((dat cs ds).cells.getD (p : Int).toNat [])))
        · skip
          have HCl := hide (clone_k xa xc xL wr HCx.out HNx.out HLx.out)
          go_wp2_with (go_at_call 66; refine (unhide HCl).mono ?_; rintro x w3 ⟨v3, rfl, ho3, hk3⟩)
          go_ret
          exact NewPost.yes HB.out HHit.out (OwnsB.older ho3 (HKA.out.trans HKr.out).size) (HKA.out.trans (HKr.out.trans hk3))
      · have hne : (xi == (p : Int)) = false := beq_eq_false_iff_ne.2 he
        have HNx2 := hide (HNt.out he)
        clear he
        go_wp2_with fail
        go_roundw
        case rel => exact ⟨j, by omega, rfl, HNx2, HKr⟩
        case measure => simp [intOf]
    · obtain rfl : k = 0 := by omega
      obtain ⟨b, off, ea, c0⟩ := cell1 ((dsk_mem HM.out).1.kept HKr.out) p hp
      subst ea
      have HCx : Hid (Cells wr cs[p].a (bys cs[p].L)) := (mem_seg (dsk_mem HM.out).2.1 p hp).kept HKr.out
      have HNx := hide (HDO.out.nc _ (List.getElem_mem hp)).1
      have HLx : Hid (cs[p].L.length ≤ 2097152) := Nat.le_trans (tot_le (List.getElem_mem hp)) (Nat.le_trans HDO.out.tc (by decide))
      have HMiss := hide (read_miss hp HN.out)
      have HLen : Hid (cs[p].L.length = 0 ∨ cs[p].L.length = 128) := dokM_cell HOk.out (List.mem_map.2 ⟨_, List.getElem_mem hp, rfl⟩)
      generalize cs[p] = x at *
      obtain ⟨xa, xc, xL⟩ := x
      dsimp only [Bs.v] at c0 HCx HNx HLx HMiss HLen
      · skip
        have HFu := hide (filled_k xa xc xL wr HCx.out (Nat.le_trans HLx.out (by decide)))
        go_wp2_with (go_at_call 67; refine (unhide HFu).mono ?_; rintro x w3 ⟨v3, rfl, ho3, hk3⟩)
        go_ret
        rw [fill_full HLen.out] at ho3
        exact NewPost.yes HB.out HMiss.out (OwnsB.older ho3 (HKA.out.trans HKr.out).size) (HKA.out.trans (HKr.out.trans hk3))
set_option maxHeartbeats 4000000 in
theorem diskread_spec (ca : Option Addr) (cc : Nat) (cs : List Bs) (da : Option Addr) (dc : Nat) (ds : List Wr) (i : Int) (w : World) (hm : Mem w (dsk ca cs da ds)) (h : DOk cs ds) :
    Calls Tryd.prog 25 #[dskV ca cs.length cc da ds.length dc, .int .i64 i] w (ReadPost w (dat cs ds) i) := by
  have HKA := hide (Keeps.alloc (Keeps.refl w) (.cells #[.slice ca cs.length cc, .slice da ds.length dc] 33))
  have HM := hide (hm.kept HKA.out)
  have HD : Hid (∀ w', Keeps (w.alloc (.cells #[.slice ca cs.length cc, .slice da ds.length dc] 33)) w' → w'.cell? ⟨w.heap.size, 0, none⟩ = some (.slice ca cs.length cc) ∧ w'.cell? ⟨w.heap.size, 1, none⟩ = some (.slice da ds.length dc)) :=
    fun w' hk => ⟨hk.cell (by simp), hk.cell (by simp)⟩
  have HZ : Hid ((w.alloc (.cells #[.slice ca cs.length cc, .slice da ds.length dc] 33)).heap.size = w.heap.size + 1) := by show _ = _; rw [World.size_alloc]
  have HQ := hide (diskok_spec' ca cc cs da dc ds _ HM.out h)
  have hcl := h.c
  have hdl := h.d
  clear hm
  cases hok : dokM (dat cs ds)
  · rw [hok] at HQ
    have HB := hide (readB_dok (i := i) hok)
    clear hok h
    go_enter Tryd.func25, Tryd.ntmps25
    go_wp2_with (go_at_call 24; refine (unhide HQ).mono ?_; rintro x w1 ⟨rfl, hk1⟩; have HK1 := hide hk1; obtain ⟨d0, d1⟩ := HD.out _ hk1; clear hk1)
    go_ret2
    exact ReadPost.no HB.out (HKA.out.trans HK1.out)
  rw [hok] at HQ
  have HOk := hide hok
  clear hok
  by_cases h0 : i < 0
  · clear hdl
    have HB := hide (readB_out (m := dat cs ds) (i := i) (Or.inl h0))
    go_enter Tryd.func25, Tryd.ntmps25
    go_wp2_with (go_at_call 24; refine (unhide HQ).mono ?_; rintro x w1 ⟨rfl, hk1⟩; have HK1 := hide hk1; obtain ⟨d0, d1⟩ := HD.out _ hk1; clear hk1)
    go_ret2
    exact ReadPost.no HB.out (HKA.out.trans HK1.out)
  by_cases h1 : (cs.length : Int) ≤ i
  · clear hdl
    have HB := hide (readB_out (m := dat cs ds) (i := i) (Or.inr (by show ((cs.map Bs.L).length : Int) ≤ i; simpa using h1)))
    go_enter Tryd.func25, Tryd.ntmps25
    go_wp2_with (go_at_call 24; refine (unhide HQ).mono ?_; rintro x w1 ⟨rfl, hk1⟩; have HK1 := hide hk1; obtain ⟨d0, d1⟩ := HD.out _ hk1; clear hk1)
    go_ret2
    exact ReadPost.no HB.out (HKA.out.trans HK1.out)
  obtain ⟨p, rfl⟩ : ∃ p : Nat, i = p := ⟨i.toNat, by omega⟩
  have hp : p < cs.length := by omega
  have HB := hide (readB_in (m := dat cs ds) (i := p) HOk.out (by omega) (by show (p : Int) < ((cs.map Bs.L).length : Int); simpa using hp))
  have HDO := hide h
  clear h h0 h1
  go_enter Tryd.func25, Tryd.ntmps25
  go_wp2_with (go_at_call 24; refine (unhide HQ).mono ?_; rintro x w1 ⟨rfl, hk1⟩; have HK1 := hide hk1; obtain ⟨d0, d1⟩ := HD.out _ hk1; clear hk1)
  generalize w.alloc (.cells #[.slice ca cs.length cc, .slice da ds.length dc] 33) = W0 at *
  clear d0 d1
  go_loopw [6] (fun y wr => ∃ k : Nat, k ≤ ds.length ∧ y = .int .i64 ((k : Int) - 1) ∧ Hid (lastD ((ds.map Wr.key).drop k) p = none) ∧ Hid (Keeps W0 wr)) (fun y _ => (intOf y + 1).toNat)
  case atStart => exact ⟨ds.length, Nat.le_refl _, rfl, by show _ = _; rw [List.drop_of_length_le (by simp)]; rfl, HK1⟩
  case round =>
    obtain ⟨k, hk, rfl, HN, HKr⟩ := hrel
    obtain ⟨d0, d1⟩ := HD.out _ HKr.out
    by_cases hlt : 0 < k
    · obtain ⟨j, rfl⟩ : ∃ j, k = j + 1 := ⟨k - 1, by omega⟩
      have hj : j < ds.length := by omega
      rw [show (((j + 1 : Nat) : Int) - 1) = (j : Int) by omega]
      obtain ⟨b, off, ea, c0, c1⟩ := cell2 ((dsk_mem HM.out).2.2.1.kept HKr.out) j hj
      subst ea
      have HCx : Hid (Cells wr ds[j].b.a (bys ds[j].b.L)) := (mem_segW (dsk_mem HM.out).2.2.2 j hj).kept HKr.out
      have HNx := hide (HDO.out.nd _ (List.getElem_mem hj)).1
      have HLx : Hid (ds[j].b.L.length ≤ 4194304) := Nat.le_trans (totW_le (List.getElem_mem hj)) (Nat.le_trans HDO.out.td (by decide))
      have HHt := hide (fun he F => read_hit (cs := cs) (i := (p : Int)) hj he HN.out F)
      have HNt := hide (fun he => read_next (i := (p : Int)) hj he HN.out)
      generalize ds[j] = x at *
      obtain ⟨xi, xa, xc, xL⟩ := x
      dsimp only [Bs.v] at c0 c1 HCx HNx HLx HHt HNt
      by_cases he : xi = (p : Int)
      · subst he
        have HHit := hide (HHt.out rfl (fullL ((dat cs ds).cells.getD (p : Int).toNat [])))
        · skip
          have HC2 := hide (HCx.out.kept (Keeps.alloc (Keeps.refl wr) (.cells #[] 5)))
          have HO2 := hide (World.ownsRow_made (base := wr.heap.size) (e := 5) (size := 1) wr #[] 0 (Nat.le_refl _) (by decide) rfl)
          have HL2 : Hid (([] : List UInt8).length + xL.length ≤ 4194304) := by show _ ≤ _; have := HLx.out; simp; omega
          have hz : w.heap.size < wr.heap.size := by have := HKr.out.size; have := HZ.out; omega
          have hzb : b < wr.heap.size := lt_of_cell c1
          go_wp2_with (at_builtin; refine app_bys rfl (.tmp 37) (.tmp 43) rfl wr.heap.size _ [] xL rfl xa xc rfl HC2.out HNx.out HO2.out HL2.out (by simp) ?_; intro v3 w3 ho3 hg3)
          go_ret2
          have hk3 := Keeps.grown (Keeps.alloc (Keeps.refl wr) (.cells #[] 5)) hg3 (fun k hk => (HO2.out.lt k hk).1)
          exact ReadPost.yes HB.out HHit.out (OwnsB.older (by simpa using ho3) (HKA.out.trans HKr.out).size) (HKA.out.trans (HKr.out.trans hk3))
      · have hne : (xi == (p : Int)) = false := beq_eq_false_iff_ne.2 he
        have HNx2 := hide (HNt.out he)
        clear he
        go_wp2_with fail
        go_roundw
        case rel => exact ⟨j, by omega, rfl, HNx2, HKr⟩
        case measure => simp [intOf]
    · obtain rfl : k = 0 := by omega
      obtain ⟨b, off, ea, c0⟩ := cell1 ((dsk_mem HM.out).1.kept HKr.out) p hp
      subst ea
      have HCx : Hid (Cells wr cs[p].a (bys cs[p].L)) := (mem_seg (dsk_mem HM.out).2.1 p hp).kept HKr.out
      have HNx := hide (HDO.out.nc _ (List.getElem_mem hp)).1
      have HLx : Hid (cs[p].L.length ≤ 2097152) := Nat.le_trans (tot_le (List.getElem_mem hp)) (Nat.le_trans HDO.out.tc (by decide))
      have HMiss := hide (read_miss hp HN.out)
      have HLen : Hid (cs[p].L.length = 0 ∨ cs[p].L.length = 128) := dokM_cell HOk.out (List.mem_map.2 ⟨_, List.getElem_mem hp, rfl⟩)
      generalize cs[p] = x at *
      obtain ⟨xa, xc, xL⟩ := x
      dsimp only [Bs.v] at c0 HCx HNx HLx HMiss HLen
      · skip
        have HFu := hide (full_k xa xc xL wr HCx.out HNx.out HLx.out)
        go_wp2_with (go_at_call 43; refine (unhide HFu).mono ?_; rintro x w3 ⟨v3, rfl, ho3, hk3⟩)
        go_ret2
        exact ReadPost.yes HB.out HMiss.out (OwnsB.older ho3 (HKA.out.trans HKr.out).size) (HKA.out.trans (HKr.out.trans hk3))
end Go.Proofs.YtkdnddckogbgaaaDoor
