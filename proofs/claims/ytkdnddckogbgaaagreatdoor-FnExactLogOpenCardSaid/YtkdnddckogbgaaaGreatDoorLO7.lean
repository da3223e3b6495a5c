/- Texts of the verifier, joined: DWr, DCs, DWc. -/
import Derived.Test.YtkdnddckogbgaaaGreatDoorLO6
import Derived.Deep.RegionLaw
import Derived.Deep.Cut
namespace Go.Proofs.YtkdnddckogbgaaaGreatDoor
open Go.RowKit Go.Deep
set_option linter.unusedVariables false
set_option maxRecDepth 10000

theorem sum_le (l : List Nat) (c : Nat) (h : ∀ x ∈ l, x ≤ c) : l.sum ≤ c * l.length := by
  induction l with
  | nil => simp
  | cons x t ih =>
    have h1 := h x (List.mem_cons_self ..)
    have h2 := ih (fun y hy => h y (List.mem_cons_of_mem _ hy))
    simp only [List.sum_cons, List.length_cons, Nat.mul_add]
    omega
theorem dokM_DOk {cs : List Bs} {ds : List Wr} (h : dokM (dat cs ds) = true) (nc : ∀ b ∈ cs, b.fit) (nd : ∀ x ∈ ds, x.b.fit) : DOk cs ds := by
  obtain ⟨h1, h2, h3⟩ := dokM_len h
  have e1 : (dat cs ds).cells.length = cs.length := by simp [dat]
  have e2 : (dat cs ds).dirty.length = ds.length := by simp [dat]
  refine ⟨by omega, by omega, ?_, ?_, nc, nd⟩
  · have := sum_le (cs.map fun b => b.L.length) 128 (fun x hx => by
      obtain ⟨b, hb, rfl⟩ := List.mem_map.1 hx
      have := dokM_cell h (L := b.L) (List.mem_map.2 ⟨b, hb, rfl⟩)
      omega)
    rw [List.length_map] at this
    show (cs.map fun b => b.L.length).sum ≤ _
    omega
  · have := sum_le (ds.map fun b => b.b.L.length) 128 (fun x hx => by
      obtain ⟨b, hb, rfl⟩ := List.mem_map.1 hx
      have := dokM_dirty h (x := b.key) (List.mem_map.2 ⟨b, hb, rfl⟩)
      have : b.b.L.length = 128 := this.2.2
      omega)
    rw [List.length_map] at this
    show (ds.map fun b => b.b.L.length).sum ≤ _
    omega
def writeB (m : DkM) (i : Int) (L : List UInt8) : Bool := dokM m && decide (m.dirty.length < 600) && (decide (0 ≤ i) && decide (i < m.cells.length)) && decide (L.length = 128)
def writeM (m : DkM) (i : Int) (L : List UInt8) : DkM := if writeB m i L = true then ⟨m.cells, m.dirty ++ [(i, L)]⟩ else noneM
theorem dokM_add {m : DkM} {i : Int} {L : List UInt8} (h : dokM m = true) : dokM ⟨m.cells, m.dirty ++ [(i, L)]⟩ = writeB m i L := by
  have h' := h
  simp only [dokM, Bool.and_eq_true, decide_eq_true_eq] at h'
  obtain ⟨⟨⟨⟨a1, a2⟩, a3⟩, a4⟩, a5⟩ := h'
  unfold writeB
  rw [h]
  unfold dokM
  simp only [List.all_append, a4, a5, decide_eq_true a1, decide_eq_true a2, List.length_append, List.length_singleton, List.all_cons, List.all_nil, Bool.and_true, Bool.true_and]
  rw [show decide (m.dirty.length + 1 ≤ 600) = decide (m.dirty.length < 600) from rfl]
  simp only [Bool.and_assoc]
def WritePost (w : World) (m : DkM) (i : Int) (L : List UInt8) (x : Ending) (w' : World) : Prop := ∃ v, x = .returned (.tuple #[v, .bool (writeB m i L)]) ∧ DiskRes w w' v (writeM m i L) ∧ Keeps w w'
theorem WritePost.no {w w' : World} {m : DkM} {i : Int} {L : List UInt8} (h : writeB m i L = false) (hk : Keeps w w') : WritePost w m i L (.returned (.tuple #[dskV none 0 0 none 0 0, .bool false])) w' :=
  ⟨_, by rw [h], by unfold writeM; rw [h]; exact diskres_none _ _, hk⟩
theorem WritePost.yes {w w' : World} {m : DkM} {i : Int} {L : List UInt8} {v : Value} (h : writeB m i L = true) (hr : DiskRes w w' v ⟨m.cells, m.dirty ++ [(i, L)]⟩) (hk : Keeps w w') : WritePost w m i L (.returned (.tuple #[v, .bool true])) w' :=
  ⟨_, by rw [h], by unfold writeM; rw [if_pos h]; exact hr, hk⟩
theorem writeB_no {m : DkM} {i : Int} {L : List UInt8} (h : dokM m = false ∨ m.dirty.length = 600 ∨ i < 0 ∨ (m.cells.length : Int) ≤ i ∨ L.length ≠ 128) : writeB m i L = false := by
  unfold writeB
  rcases h with h | h | h | h | h
  · rw [h]; simp
  · rw [h]; simp
  · rw [decide_eq_false (show ¬ 0 ≤ i by omega)]; simp
  · rw [decide_eq_false (show ¬ i < (m.cells.length : Int) by omega)]; simp
  · rw [decide_eq_false h]; simp
theorem writeB_yes {m : DkM} {i : Int} {L : List UInt8} (h : dokM m = true) (h1 : m.dirty.length ≠ 600) (h2 : 0 ≤ i) (h3 : i < (m.cells.length : Int)) (h4 : L.length = 128) : writeB m i L = true := by
  have := (dokM_len h).2.2
  unfold writeB
  rw [h, decide_eq_true (show m.dirty.length < 600 by omega), decide_eq_true h2, decide_eq_true h3, decide_eq_true h4]; rfl
theorem make_writes0 (n : Nat) (hn : n ≤ 1048577) (w : World) : (Instr.makeSlice 24 (.int .i64 0) (.int .i64 ((n : Int) + 1))).run Tryz.prog w = .ok (.slice (some ⟨w.heap.size, 0, none⟩) 0 (n + 1)) (w.alloc (.cells (madeCells #[.int .i64 0, .slice none 0 0] ((n + 1) * 2)) 86)) := by
  have hI := infoWrite
  cases hi : Tryz.prog.info? 86 with
  | none => rw [hi] at hI; simp at hI
  | some i =>
    rw [hi] at hI
    simp at hI
    obtain ⟨hz, hs, hb⟩ := hI
    have h := run_make (P := Tryz.prog) w 24 86 i _ underWrites hi hz .i64 .i64 0 ((n : Int) + 1) (by omega) (by omega) (by rw [hb]; omega) (by omega)
    rw [hs] at h
    simpa [Value.cells] using h
end Go.Proofs.YtkdnddckogbgaaaGreatDoor
namespace Go.Proofs.YtkdnddckogbgaaaGreatDoor
open Go.RowKit Go.Deep
set_option linter.unusedVariables false
set_option linter.unusedSimpArgs false
set_option maxRecDepth 10000

/-- A disk of one list that was made, with nothing that waits; then a variable was set. -/
theorem diskres_cells {w w5 w6 W : World} {v1 : Value} {nb : List Bs} {fs : List Nat} (hk : Keeps w w5) (hC : LG 93 1 Bs.cells Bs.seg w5 w6 v1 nb) (hT : Turn fs w6 W) (hfs : ∀ b ∈ fs, b < w5.heap.size) (hok : dokM ⟨nb.map Bs.L, []⟩ = true) (nc : ∀ b ∈ nb, b.fit) :
    DiskRes w W (.agg #[v1, .slice none 0 0]) ⟨nb.map Bs.L, []⟩ := by
  obtain ⟨a1, c1, e1, h1, b1⟩ := hC.cells
  refine ⟨a1, c1, nb, none, 0, [], by rw [e1]; rfl, rfl, dokM_DOk (ds := []) hok nc (fun x hx => by simp at hx), h1, fun _ => rfl, ?_⟩
  have b1' : Born w W ((a1, ccells nb) :: nb.map Bs.seg) := by
    refine (b1.turn hT (fun b hb hx => ?_)).old hk
    have := b1.new b hb
    have := hfs b hx
    omega
  have e2 : fp ([((none : Option Addr), wcells [])] ++ ([] : List Wr).map Wr.seg) = [] := by simp [fp, fpS, wcells]
  have o2 : Own W ([((none : Option Addr), wcells [])] ++ ([] : List Wr).map Wr.seg) :=
    ⟨fun s hs => by
      have : s = (none, wcells []) := by simpa using hs
      rw [this]
      exact Or.inl rfl, by rw [e2]; exact List.nodup_nil, fun b hb => by rw [e2] at hb; simp at hb⟩
  refine ⟨b1'.toOwn.append o2 (fun b hb hb' => ?_), fun b hb => ?_⟩
  · have h : b ∈ fp ([((none : Option Addr), wcells [])] ++ ([] : List Wr).map Wr.seg) := hb'
    rw [e2] at h; simp at h
  · unfold dsk at hb
    rw [fp_append] at hb
    rcases List.mem_append.1 hb with hb | hb
    · exact b1'.new b hb
    · have h : b ∈ fp ([((none : Option Addr), wcells [])] ++ ([] : List Wr).map Wr.seg) := hb
      rw [e2] at h; simp at h
/-- What lies in a write that waits. -/
theorem dirty_at {cs : List Bs} {ds : List Wr} (hok : dokM (dat cs ds) = true) (k : Nat) (hk : k < ds.length) : ∃ p : Nat, ds[k].i = (p : Int) ∧ p < cs.length ∧ ds[k].b.L.length = 128 := by
  have hm : ds[k].key ∈ (dat cs ds).dirty := List.mem_map.2 ⟨ds[k], List.getElem_mem hk, rfl⟩
  obtain ⟨h1, h2, h3⟩ := dokM_dirty hok hm
  refine ⟨ds[k].i.toNat, ?_, ?_, h3⟩
  · show ds[k].i = _
    have : (0 : Int) ≤ ds[k].i := h1
    omega
  · have h4 : ds[k].i < ((dat cs ds).cells.length : Int) := h2
    have h5 : (dat cs ds).cells.length = cs.length := by simp [dat]
    have : (0 : Int) ≤ ds[k].i := h1
    omega
theorem crashTo_next {C : List (List UInt8)} {ds : List Wr} {f : Nat → Nat} {k : Nat} (hk : k < ds.length) : crashTo C (ds.map Wr.key) f (k + 1) = landM (crashTo C (ds.map Wr.key) f k) ds[k].key (f k) := by
  simp [crashTo, hk]
set_option maxHeartbeats 8000000 in
theorem disksync_impl (ca : Option Addr) (cc : Nat) (cs : List Bs) (da : Option Addr) (dc : Nat) (ds : List Wr) (w : World) (hm : Mem w (dsk ca cs da ds)) (h : DOk cs ds) :
    Calls Tryz.prog 49 #[dskV ca cs.length cc da ds.length dc] w fun e w' => ∃ v, e = .returned v ∧ DiskRes w w' v (crashM (dat cs ds) (fun _ => 128)) ∧ Keeps w w' := by
  have HKA := hide (Keeps.alloc (Keeps.alloc (Keeps.refl w) (.cells #[.slice ca cs.length cc, .slice da ds.length dc] 26)) (.cells #[.slice none 0 0, .slice none 0 0] 26))
  have HM := hide (hm.kept HKA.out)
  have HD : Hid (∀ w', Keeps ((w.alloc (.cells #[.slice ca cs.length cc, .slice da ds.length dc] 26)).alloc (.cells #[.slice none 0 0, .slice none 0 0] 26)) w' → w'.cell? ⟨w.heap.size, 0, none⟩ = some (.slice ca cs.length cc) ∧ w'.cell? ⟨w.heap.size, 1, none⟩ = some (.slice da ds.length dc)) :=
    fun w' hk => ⟨hk.cell (by simp), hk.cell (by simp)⟩
  have HZ : Hid (((w.alloc (.cells #[.slice ca cs.length cc, .slice da ds.length dc] 26)).alloc (.cells #[.slice none 0 0, .slice none 0 0] 26)).heap.size = w.heap.size + 1 + 1) := by show _ = _; rw [World.size_alloc, World.size_alloc]
  have HR := hide ((born_alloc (w.alloc (.cells #[.slice ca cs.length cc, .slice da ds.length dc] 26)) #[.slice none 0 0, .slice none 0 0] 26).toOwn)
  rw [World.size_alloc] at HR
  have HQ := hide (diskok_impl' ca cc cs da dc ds _ HM.out h)
  have HDO := hide h
  have hdl := h.d
  clear hm h
  cases hok : dokM (dat cs ds)
  · rw [hok] at HQ
    have HC : Hid (crashM (dat cs ds) (fun _ => 128) = noneM) := by show _ = _; unfold crashM; rw [hok]; rfl
    clear hok
    go_enter Tryz.func49, Tryz.ntmps49
    go_wp2_with fail
    refine (unhide HQ).mono ?_
    rintro x w1 ⟨rfl, hk1⟩
    have hO := HR.out.kept hk1
    have r0 := cell_at hO.mem 0 (by simp)
    have r1 := cell_at hO.mem 1 (by simp)
    simp only [Nat.zero_add, List.getElem_cons_zero, List.getElem_cons_succ] at r0 r1
    have fR : ∀ i, w1.frozen? ⟨w.heap.size + 1, i, none⟩ = false := hO.free (w.heap.size + 1) (by rw [fp_one, fpS_some (by simp)]; simp)
    have HK1 := hide (((HKA.out.trans hk1).setCell (p := ⟨w.heap.size + 1, 0, none⟩) (Nat.le_succ _) (.slice none 0 0)).setCell (p := ⟨w.heap.size + 1, 1, none⟩) (Nat.le_succ _) (.slice none 0 0))
    have e0 : ((w1.setCell ⟨w.heap.size + 1, 0, none⟩ (.slice none 0 0)).setCell ⟨w.heap.size + 1, 1, none⟩ (.slice none 0 0)).cell? ⟨w.heap.size + 1, 0, none⟩ = some (.slice none 0 0) := by
      rw [World.cell?_setCell_other _ _ _ _ (by simp)]; exact World.cell?_setCell_same _ _ _ r0
    have e1 : ((w1.setCell ⟨w.heap.size + 1, 0, none⟩ (.slice none 0 0)).setCell ⟨w.heap.size + 1, 1, none⟩ (.slice none 0 0)).cell? ⟨w.heap.size + 1, 1, none⟩ = some (.slice none 0 0) := by
      refine World.cell?_setCell_same _ _ _ (u := .slice none 0 0) ?_
      rw [World.cell?_setCell_other _ _ _ _ (by simp)]; exact r1
    have E0 := hide e0
    have E1 := hide e1
    clear hO hk1 e0 e1
    go_wp2_with fail
    have e0 := E0.out
    have e1 := E1.out
    clear r0 r1 fR E0 E1
    generalize (w1.setCell ⟨w.heap.size + 1, 0, none⟩ (.slice none 0 0)).setCell ⟨w.heap.size + 1, 1, none⟩ (.slice none 0 0) = W at *
    refine bodyPost_ret (v := dskV none 0 0 none 0 0) (by simp [results, Tryz.results49, go_sem, e0, e1]) rfl ⟨_, rfl, ?_, HK1.out⟩
    rw [HC.out]
    exact diskres_none w W
  rw [hok] at HQ
  have HOK := hide hok
  have HF : Hid (∀ i : Nat, (fun _ => 128) i ≤ 128) := fun i => Nat.le_refl _
  clear hok
  go_enter Tryz.func49, Tryz.ntmps49
  go_wp2_with fail
  refine (unhide HQ).mono ?_
  rintro x w1 ⟨rfl, hk1⟩
  have HK1 := hide hk1
  obtain ⟨d0, d1⟩ := HD.out _ hk1
  clear hk1
  go_wp2_with fail
  have hmm := dsk_mem (HM.out.kept HK1.out)
  refine (copyCells_k ca cc cs w1 hmm.1 hmm.2.1 HDO.out.nc HDO.out.c (fun b hb => Nat.le_trans (Nat.le_trans (tot_le hb) HDO.out.tc) (by decide))).mono ?_
  clear hmm
  rintro x w2 ⟨v, nb0, rfl, hnL, hnf, hLG⟩
  have HLG := hide hLG
  have HNL := hide hnL
  have HNF := hide hnf
  have HK2 := hide (HK1.out.trans hLG.keeps)
  clear d0 d1
  obtain ⟨d0, d1⟩ := HD.out _ HK2.out
  clear hLG hnL hnf
  go_wp2_with fail
  go_loopw [16] (fun y wr => ∃ k : Nat, k ≤ ds.length ∧ y = .int .i64 (k : Int) ∧ Hid (∃ nb, nb.map Bs.L = crashTo (cs.map Bs.L) (ds.map Wr.key) (fun _ => 128) k ∧ (∀ b ∈ nb, b.fit) ∧ LG 93 1 Bs.cells Bs.seg w1 wr v nb)) (fun y _ => ds.length - (intOf y).toNat)
  case atStart => exact ⟨0, by omega, rfl, nb0, HNL.out, HNF.out, HLG.out⟩
  case round =>
    obtain ⟨k, hk, rfl, HH⟩ := hrel
    obtain ⟨nb, hnL, hnf, hLG⟩ := HH.out
    have hkw : Keeps ((w.alloc (.cells #[.slice ca cs.length cc, .slice da ds.length dc] 26)).alloc (.cells #[.slice none 0 0, .slice none 0 0] 26)) wr := HK1.out.trans hLG.keeps
    have HLr := hide hLG
    have HNr := hide hnL
    have HFr := hide hnf
    have HKr := hide hkw
    clear hnL hnf hLG HH d0 d1
    by_cases hlt : k < ds.length
    · have hmm := dsk_mem (HM.out.kept hkw)
      obtain ⟨b, off, ea, c0, c1⟩ := cell2 hmm.2.2.1 k hlt
      obtain ⟨p, hp, hpc, hL⟩ := dirty_at HOK.out k hlt
      have hseg : Cells wr ds[k].b.a (bys ds[k].b.L) := hmm.2.2.2 ds[k].seg (List.mem_map.2 ⟨ds[k], List.getElem_mem hlt, rfl⟩)
      obtain ⟨xb, xo, exa⟩ : ∃ xb xo, ds[k].b.a = some ⟨xb, xo, none⟩ := by
        rcases hseg with h' | ⟨b', o', e', _⟩
        · rw [bys_nil] at h'; rw [h'] at hL; simp at hL
        · exact ⟨b', o', e'⟩
      have hfit := (HDO.out.nd ds[k] (List.getElem_mem hlt)).2
      rw [hL] at hfit
      rw [hp] at c0
      rw [show ds[k].b.v = .slice (some ⟨xb, xo, none⟩) 128 ds[k].b.cap by unfold Bs.v; rw [exa, hL]] at c1
      rw [exa] at hseg
      subst ea
      have hlen : nb.length = cs.length := by
        have := congrArg List.length HNr.out
        rw [List.length_map, crashTo_len, List.length_map] at this
        exact this
      have hcell : nb[p].L.length = 0 ∨ nb[p].L.length = 128 := by
        have h2 := crashTo_ok HOK.out HF.out k
        have h3 : nb[p].L ∈ crashTo (dat cs ds).cells (dat cs ds).dirty (fun _ => 128) k := by
          show _ ∈ crashTo (cs.map Bs.L) (ds.map Wr.key) (fun _ => 128) k
          rw [← HNr.out]
          exact List.mem_map.2 ⟨nb[p], List.getElem_mem _, rfl⟩
        exact h2 _ h3
      have hka := Keeps.alloc (Keeps.refl wr) (.cells #[.int .i64 (p : Int), .slice (some ⟨xb, xo, none⟩) 128 ds[k].b.cap] 86)
      have HLand := hide (fun (n : Nat) (hn : n ≤ 128) (wd : World) (hkd : Keeps (wr.alloc (.cells #[.int .i64 (p : Int), .slice (some ⟨xb, xo, none⟩) 128 ds[k].b.cap] 86)) wd) => land_k w1 wd v nb (HLr.out.kept (hka.trans hkd)) p (by omega) xb xo ds[k].b.cap ds[k].b.L (hseg.kept (hka.trans hkd)) hL hfit n hn hcell (by have := HDO.out.c; omega) HFr.out)
      have HNext : Hid (∀ n, (fun _ => 128) k = n → crashTo (cs.map Bs.L) (ds.map Wr.key) (fun _ => 128) (k + 1) = landM (nb.map Bs.L) ((p : Int), ds[k].b.L) n) := fun n hn => by
        subst hn
        rw [crashTo_next hlt, ← HNr.out]
        unfold Wr.key
        rw [hp]
      generalize ds[k].b.cap = xc at *
      generalize ds[k].b.L = xL at *
      clear hmm hp hseg exa hfit hcell hkw hL hka
      have hdl2 : (ds.length : Int) ≤ 1048576 := by omega
      go_wp2_with fail
      refine (unhide HLand 128 (Nat.le_refl _) _ (Keeps.refl _)).mono ?_
      rintro x w4 ⟨rfl, nb', hnL, hnf, hLG, _⟩
      have HL4 := hide hLG
      have HN4 := hide (hnL.trans (HNext.out 128 rfl).symm)
      have HF4 := hide hnf
      clear hLG hnL hnf HLand HNext c0 c1
      go_wp2_with fail
      go_roundw
      case rel => exact ⟨k + 1, by omega, by go_num, nb', HN4.out, HF4.out, HL4.out⟩
      case measure => simp [intOf]; omega
    · have e : k = ds.length := by omega
      subst e
      have hO := HR.out.kept HKr.out
      have r0 := cell_at hO.mem 0 (by simp)
      have r1 := cell_at hO.mem 1 (by simp)
      simp only [Nat.zero_add, List.getElem_cons_zero, List.getElem_cons_succ] at r0 r1
      have fR : ∀ i, wr.frozen? ⟨w.heap.size + 1, i, none⟩ = false := hO.free (w.heap.size + 1) (by rw [fp_one, fpS_some (by simp)]; simp)
      have HT1 : Hid (Turn [w.heap.size + 1] wr ((wr.setCell ⟨w.heap.size + 1, 0, none⟩ v).setCell ⟨w.heap.size + 1, 1, none⟩ (.slice none 0 0))) := (Turn.set (by simp) _).trans' (Turn.set (by simp) _)
      have HKF := hide (((HKA.out.trans HKr.out).setCell (p := ⟨w.heap.size + 1, 0, none⟩) (Nat.le_succ _) v).setCell (p := ⟨w.heap.size + 1, 1, none⟩) (Nat.le_succ _) (.slice none 0 0))
      have E0 : Hid (((wr.setCell ⟨w.heap.size + 1, 0, none⟩ v).setCell ⟨w.heap.size + 1, 1, none⟩ (.slice none 0 0)).cell? ⟨w.heap.size + 1, 0, none⟩ = some v) := by
        show _ = _
        rw [World.cell?_setCell_other _ _ _ _ (by simp)]; exact World.cell?_setCell_same _ _ _ r0
      have E1 : Hid (((wr.setCell ⟨w.heap.size + 1, 0, none⟩ v).setCell ⟨w.heap.size + 1, 1, none⟩ (.slice none 0 0)).cell? ⟨w.heap.size + 1, 1, none⟩ = some (.slice none 0 0)) := by
        show _ = _
        refine World.cell?_setCell_same _ _ _ (u := .slice none 0 0) ?_
        rw [World.cell?_setCell_other _ _ _ _ (by simp)]; exact r1
      have HDR : Hid (∀ W, Turn [w.heap.size + 1] wr W → DiskRes w W (.agg #[v, .slice none 0 0]) (crashM (dat cs ds) (fun _ => 128))) := fun W hT => by
        have hcm : crashM (dat cs ds) (fun _ => 128) = ⟨nb.map Bs.L, []⟩ := by
          unfold crashM
          rw [if_pos HOK.out, HNr.out]
          simp [dat]
        rw [hcm]
        refine diskres_cells (HKA.out.trans HK1.out) HLr.out hT (fun b hb => ?_) ?_ HFr.out
        · have h1 := HK1.out.size
          rw [HZ.out] at h1
          simp at hb
          omega
        · rw [HNr.out]
          exact crash_dok HOK.out HF.out ds.length
      obtain ⟨av, cv, hve, _⟩ := HLr.out.cells
      have hvv := hve
      clear hO
      subst hve
      go_wp2_with fail
      have e0 := E0.out
      have e1 := E1.out
      have hT := HT1.out
      have hK := HKF.out
      clear r0 r1 fR E0 E1 HT1 HKF
      revert e0 e1 hT hK
      generalize (wr.setCell ⟨w.heap.size + 1, 0, none⟩ (.slice av nb.length cv)).setCell ⟨w.heap.size + 1, 1, none⟩ (.slice none 0 0) = W
      intro e0 e1 hT hK
      refine bodyPost_ret (v := .agg #[.slice av nb.length cv, .slice none 0 0]) (by simp [results, Tryz.results49, go_sem, e0, e1]) rfl ⟨_, rfl, HDR.out W hT, hK⟩
end Go.Proofs.YtkdnddckogbgaaaGreatDoor
namespace Go.Proofs.YtkdnddckogbgaaaGreatDoor
open Go.RowKit Go.Deep
set_option linter.unusedVariables false
set_option maxRecDepth 10000

theorem eq_false {a b : Nat} (h : a ≠ b) : ((a : Int) == (b : Int)) = false := by rw [beq_eq_false_iff_ne]; omega
theorem eq_true {a b : Nat} (h : a = b) : ((a : Int) == (b : Int)) = true := by rw [h]; simp
theorem LG.turnedW {α : Type} {T : TypeId} {sz : Nat} {f : α → List Value} {sg : α → Seg} {w0 w w' : World} {v : Value} {nb : List α} {fs : List Nat} (h : LG T sz f sg w0 w v nb) (ht : Turn fs w w') (h1 : ∀ g, v.ownBlock = some g → g ∉ fs) (h2 : ∀ b ∈ fp (nb.map sg), b ∉ fs) (h3 : ∀ b ∈ fs, w0.heap.size ≤ b) : LG T sz f sg w0 w' v nb := by
  refine ⟨⟨h.row.1, ?_⟩, h.inner.turn ht h2, h.apart, ht.keeps h.keeps h3⟩
  rcases h.row.2 with h' | ⟨g, cap, cur, rfl, hb, hg, rest⟩
  · exact .inl h'
  · refine .inr ⟨g, cap, cur, rfl, hb, ?_, rest⟩
    rw [ht.block g (Array.getElem?_eq_some_iff.1 hg).1 (h1 g rfl)]; exact hg
theorem LG.oldW {α : Type} {T : TypeId} {sz : Nat} {f : α → List Value} {sg : α → Seg} {w w0 w' : World} {v : Value} {nb : List α} (h : LG T sz f sg w0 w' v nb) (hk : Keeps w w0) : LG T sz f sg w w' v nb := by
  refine ⟨⟨h.row.1, ?_⟩, h.inner.old hk, h.apart, hk.trans h.keeps⟩
  rcases h.row.2 with h' | ⟨g, cap, cur, rfl, hb, rest⟩
  · exact .inl h'
  · exact .inr ⟨g, cap, cur, rfl, Nat.le_trans hk.size hb, rest⟩
/-- The blocks of a list of structs with lists inside. -/
def lgB {α : Type} (sg : α → Seg) (v : Value) (nb : List α) (b : Nat) : Prop := v.ownBlock = some b ∨ b ∈ fp (nb.map sg)
/-- A disk of two lists of one's own that share no block. -/
theorem diskres_sep {w W : World} {v1 v2 : Value} {nb : List Bs} {nw : List Wr} (hC : LG 93 1 Bs.cells Bs.seg w W v1 nb) (hD : LG 86 2 Wr.cells Wr.seg w W v2 nw) (hs : ∀ b, lgB Bs.seg v1 nb b → lgB Wr.seg v2 nw b → False) (hok : dokM (dat nb nw) = true)
    (nc : ∀ b ∈ nb, b.fit) (nd : ∀ x ∈ nw, x.b.fit) : DiskRes w W (.agg #[v1, v2]) (dat nb nw) := by
  obtain ⟨a1, c1, e1, n1, b1⟩ := hC.cells
  obtain ⟨a2, c2, e2, n2, b2⟩ := hD.writes
  have own1 : ∀ b ∈ fpS (a1, ccells nb), v1.ownBlock = some b := by
    intro b hb
    rw [e1]
    unfold fpS at hb
    split at hb
    · simp at hb
    · cases a1 with
      | none => simp at hb
      | some p => simp at hb; simp [Value.ownBlock, hb]
  have own2 : ∀ b ∈ fpS (a2, wcells nw), v2.ownBlock = some b := by
    intro b hb
    rw [e2]
    unfold fpS at hb
    split at hb
    · simp at hb
    · cases a2 with
      | none => simp at hb
      | some p => simp at hb; simp [Value.ownBlock, hb]
  refine ⟨a1, c1, nb, a2, c2, nw, by rw [e1, e2], rfl, dokM_DOk hok nc nd, n1, n2, ⟨b1.toOwn.append b2.toOwn (fun b hb hb' => ?_), fun b hb => ?_⟩⟩
  · rw [fp_cons] at hb hb'
    refine hs b ?_ ?_
    · rcases List.mem_append.1 hb with hb | hb
      · exact .inl (own1 b hb)
      · exact .inr hb
    · rcases List.mem_append.1 hb' with hb' | hb'
      · exact .inl (own2 b hb')
      · exact .inr hb'
  · unfold dsk at hb
    rw [fp_append] at hb
    rcases List.mem_append.1 hb with hb | hb
    · exact b1.new b hb
    · exact b2.new b hb
set_option maxHeartbeats 4000000 in
theorem copyDisk_k (ca : Option Addr) (cc : Nat) (cs : List Bs) (da : Option Addr) (dc : Nat) (ds : List Wr) (w : World) (hm : Mem w (dsk ca cs da ds)) (h : DOk cs ds) :
    Calls Tryz.prog 105 #[dskV ca cs.length cc da ds.length dc] w fun e w' => ∃ v1 v2 nb nw N, e = .returned (.agg #[v1, v2]) ∧ nb.map Bs.L = cs.map Bs.L ∧ nw.map Wr.key = ds.map Wr.key ∧ (∀ b ∈ nb, b.fit) ∧ (∀ x ∈ nw, x.b.fit) ∧ LG 93 1 Bs.cells Bs.seg w w' v1 nb ∧ LG 86 2 Wr.cells Wr.seg w w' v2 nw ∧ (∀ b, lgB Wr.seg v2 nw b → b < N) ∧ (∀ b, lgB Bs.seg v1 nb b → N ≤ b ∧ b < w'.heap.size) ∧ N ≤ w'.heap.size := by
  have HKA := hide (Keeps.alloc (Keeps.alloc (Keeps.refl w) (.cells #[.slice ca cs.length cc, .slice da ds.length dc] 26)) (.cells #[.slice none 0 0, .slice none 0 0] 26))
  have HM := hide (hm.kept HKA.out)
  have HD : Hid (∀ w', Keeps ((w.alloc (.cells #[.slice ca cs.length cc, .slice da ds.length dc] 26)).alloc (.cells #[.slice none 0 0, .slice none 0 0] 26)) w' → w'.cell? ⟨w.heap.size, 0, none⟩ = some (.slice ca cs.length cc) ∧ w'.cell? ⟨w.heap.size, 1, none⟩ = some (.slice da ds.length dc)) :=
    fun w' hk => ⟨hk.cell (by simp), hk.cell (by simp)⟩
  have HZ : Hid (((w.alloc (.cells #[.slice ca cs.length cc, .slice da ds.length dc] 26)).alloc (.cells #[.slice none 0 0, .slice none 0 0] 26)).heap.size = w.heap.size + 1 + 1) := by show _ = _; rw [World.size_alloc, World.size_alloc]
  have HR := hide (row_new (w.alloc (.cells #[.slice ca cs.length cc, .slice da ds.length dc] 26)) #[.slice none 0 0, .slice none 0 0] 26)
  rw [World.size_alloc] at HR
  have hcl := h.c
  have hdl := h.d
  have HDO := hide h
  have hmk := make_writes0 ds.length (by omega)
  clear hm h
  go_enter Tryz.func105, Tryz.ntmps105
  go_upto_region 1 with fail
  generalize hW0 : (w.alloc (.cells #[.slice ca cs.length cc, .slice da ds.length dc] 26)).alloc (.cells #[.slice none 0 0, .slice none 0 0] 26) = w2 at *
  clear hW0
  obtain ⟨d0, d1⟩ := HD.out _ (Keeps.refl w2)
  have HL0 : Hid (LG 86 2 Wr.cells Wr.seg w2 (w2.alloc (.cells (madeCells #[.int .i64 0, .slice none 0 0] ((ds.length + 1) * 2)) 86)) (.slice (some ⟨w2.heap.size, 0, none⟩) 0 (ds.length + 1)) []) :=
    LG.nil _ _ _ _ (World.ownsRow_made w2 _ _ (Nat.le_refl _) (by simp only [maxLen]; omega) (by rw [size_madeCells])) (Keeps.alloc (Keeps.refl _) _)
  have HQ2 := hide HL0.out.keeps
  obtain ⟨q0, q1⟩ := HD.out _ HQ2.out
  go_wp2_with fail
  clear hmk
  generalize w2.alloc (.cells (madeCells #[.int .i64 0, .slice none 0 0] ((ds.length + 1) * 2)) 86) = W2 at *
  clear d0 d1 q0 q1 HQ2
  go_loopw [3, 14] (fun x y wr => ∃ (k : Nat) (nb : List Wr), k ≤ ds.length ∧ nb.length = k ∧ y = .int .i64 (k : Int) ∧ Hid (nb.map Wr.key = (ds.take k).map Wr.key) ∧ Hid (∀ x ∈ nb, x.b.fit) ∧ Hid (LG 86 2 Wr.cells Wr.seg w2 wr x nb)) (fun _ y _ => ds.length - (intOf y).toNat)
  case atStart => exact ⟨0, [], by omega, rfl, rfl, rfl, fun b hb => absurd hb (by simp), HL0⟩
  case round =>
    clear HL0
    obtain ⟨k, nb, hk, rfl, rfl, HDt, HNb, HG⟩ := hrel
    have HK := hide HG.out.keeps
    have hsz := HK.out.size
    by_cases hlt : nb.length < ds.length
    · obtain ⟨b, off, ea, c0, c1⟩ := cell2 ((dsk_mem HM.out).2.2.1.kept HK.out) nb.length hlt
      subst ea
      have HMk : Hid (Cells wr ds[nb.length].b.a (bys ds[nb.length].b.L)) := (mem_segW (dsk_mem HM.out).2.2.2 nb.length hlt).kept HK.out
      have HTk : Hid (ds[nb.length].b.L.length ≤ 4194304) := Nat.le_trans (totW_le (List.getElem_mem hlt)) (Nat.le_trans HDO.out.td (by decide))
      have HNk := hide (HDO.out.nd _ (List.getElem_mem hlt)).1
      have HDk : Hid ((ds.take (nb.length + 1)).map Wr.key = (ds.take nb.length).map Wr.key ++ [ds[nb.length].key]) := by show _ = _; rw [List.take_succ_eq_append_getElem hlt, List.map_append]; rfl
      generalize ds[nb.length] = c at *
      obtain ⟨xi, xa, xc, xL⟩ := c
      dsimp only [Bs.v] at c0 c1 HMk HTk HNk HDk
      have HKa := hide (Keeps.alloc (Keeps.refl wr) (.cells #[.int .i64 xi, .slice xa xL.length xc] 86))
      have HCl := hide (copyWrite_k xi xa xc xL _ (HMk.out.kept HKa.out) HNk.out HTk.out)
      go_wp2_with (first
        | (go_at_call 106; refine (unhide HCl).mono ?_; rintro x w3 ⟨a1, c1', rfl, hn1, hb1, hk1⟩; have HK3 := hide (HKa.out.trans hk1); have HB1 := hide (hb1.old HKa.out); have HN1 := hide hn1; obtain ⟨v4, w4, hr4, ho4, hg4, hv4⟩ := run_write w3 w2.heap.size u3 nb.length (wcells nb) (.int .i64 xi) (.slice a1 xL.length c1') rfl rfl 24 (owns_kept HK3.out HG.out.row) (by omega) (HG.out.keeps.trans HK3.out).size; have HR4 := hide hr4; have HS4 := hide (HG.out.snoc HK3.out (x := Wr.mk xi (Bs.mk a1 c1' xL)) HB1.out.toOwn HB1.out.new hg4 ho4 hv4); clear hk1 hb1 hn1 hr4 ho4 hg4 hv4)
        | (at_builtin; refine Lib.wpList_append_run _ rfl (.tmp 18) (.tmp 21) _ _ rfl _ _ rfl rfl v4 w4 HR4.out ?_))
      go_roundw
      case rel =>
        refine ⟨nb.length + 1, nb ++ [Wr.mk xi (Bs.mk a1 c1' xL)], by omega, by simp, by go_num, ?_, ?_, HS4⟩
        · show _ = _
          rw [HDk.out, ← HDt.out]; simp [Wr.key]
        · intro b hb
          rcases List.mem_append.1 hb with hb | hb
          · exact HNb.out b hb
          · rw [List.mem_singleton.1 hb]; exact HN1.out
      case measure => simp [intOf]; omega
    · have e : nb.length = ds.length := by omega
      have HE : Hid (nb.map Wr.key = ds.map Wr.key) := by show _ = _; rw [HDt.out, e, List.take_length]
      clear e
      obtain ⟨d0, d1⟩ := HD.out _ HK.out
      have HCc := hide (copyCells_k ca cc cs wr ((dsk_mem HM.out).1.kept HK.out) ((dsk_mem HM.out).2.1.kept HK.out) HDO.out.nc hcl (fun b hb => Nat.le_trans (tot_le hb) (Nat.le_trans HDO.out.tc (by decide))))
      go_wp2_with fail
      refine (unhide HCc).mono ?_
      rintro x w5 ⟨v5, nc, rfl, he5, hn5, hg5⟩
      have HE5 := hide he5
      have HN5 := hide hn5
      have HG5 := hide hg5
      have HGW := hide (HG.out.kept hg5.keeps)
      have hlo : w.heap.size + 1 < w2.heap.size := by have := HZ.out; omega
      have hz5 := hg5.keeps.size
      have HR5 := hide ((HK.out.trans hg5.keeps).row HR.out)
      have r0 := HR5.out.cell (i := 0) (by decide)
      have r1 := HR5.out.cell (i := 1) (by decide)
      have f0 := HR5.out.frozen 0
      have f1 := HR5.out.frozen 1
      simp at r0 r1
      obtain ⟨a5, c5, rfl, _⟩ := hg5.cells
      obtain ⟨a4, c4, rfl, _⟩ := HG.out.writes
      clear he5 hn5 hg5
      go_wp2_with fail
      have r3 := (HR5.out.set 0 (.slice a5 nc.length c5)).set 1 (.slice a4 nb.length c4)
      have e0 := r3.cell (i := 0) (by decide)
      have e1 := r3.cell (i := 1) (by decide)
      simp at e0 e1
      have HS : Hid (Turn [w.heap.size + 1] w5 ((w5.setCell ⟨w.heap.size + 1, 0, none⟩ (.slice a5 nc.length c5)).setCell ⟨w.heap.size + 1, 1, none⟩ (.slice a4 nb.length c4))) := (Turn.set (by simp) _).trans' (Turn.set (by simp) _)
      clear r3 r0 r1 f0 f1
      revert e0 e1 HS
      generalize World.setCell _ _ _ = W
      intro e0 e1 HS
      refine bodyPost_ret (v := .agg #[.slice a5 nc.length c5, .slice a4 nb.length c4]) (by simp [results, Tryz.results105, go_sem, e0, e1]) rfl ?_
      have hx : ∀ b ∈ [w.heap.size + 1], b < w2.heap.size := fun b hb => by rw [List.mem_singleton.1 hb]; exact hlo
      have hc := HG5.out.oldW (HKA.out.trans HK.out)
      have hd := HGW.out.oldW HKA.out
      have h3 : ∀ b ∈ [w.heap.size + 1], w.heap.size ≤ b := fun b hb => by rw [List.mem_singleton.1 hb]; omega
      refine ⟨_, _, nc, nb, wr.heap.size, rfl, HE5.out, HE.out, HN5.out, HNb.out, hc.turnedW HS.out (fun g hg hb => by have := (HG5.out.row.lt g hg).1; have := hx g hb; omega) (fun g hg hb => by have := HG5.out.inner.new g hg; have := hx g hb; omega) h3, hd.turnedW HS.out (fun g hg hb => by have := (HGW.out.row.lt g hg).1; have := hx g hb; omega) (fun g hg hb => by have := HGW.out.inner.new g hg; have := hx g hb; omega) h3, fun b hb => ?_, fun b hb => ?_, Nat.le_trans hz5 HS.out.size⟩
      · rcases hb with hb | hb
        · exact (HG.out.row.lt b hb).2
        · exact HG.out.inner.mem.lt b hb
      · have hzW := HS.out.size
        rcases hb with hb | hb
        · have := HG5.out.row.lt b hb; exact ⟨this.1, by omega⟩
        · have h1 := HG5.out.inner.new b hb
          have h2 := HG5.out.inner.mem.lt b hb
          exact ⟨h1, by omega⟩
end Go.Proofs.YtkdnddckogbgaaaGreatDoor
