/- DiskWrite of the model, by contract. -/
import Derived.Test.YtkdnddckogbgaaaGreatDoorFO6
import Derived.Deep.RegionLaw
namespace Go.Proofs.YtkdnddckogbgaaaGreatDoor
open Go.RowKit Go.Deep
set_option linter.unusedVariables false
set_option maxRecDepth 10000
attribute [local go_sem ↓] Go.wp_at_zero Go.wp_at_succ

theorem CopyRes.bound {w w' : World} {v1 v2 : Value} {cs : List Bs} {ds : List Wr} (h : CopyRes w w' v1 v2 cs ds) (hs : 0 < w'.heap.size) : ∃ (nb : List Bs) (nw : List Wr) (O : Nat), nb.map Bs.L = cs.map Bs.L ∧ nw.map Wr.key = ds.map Wr.key ∧ (∀ b ∈ nb, b.fit) ∧ (∀ x ∈ nw, x.b.fit) ∧
    LG 93 1 Bs.cells Bs.seg w w' v1 nb ∧ LG 86 2 Wr.cells Wr.seg w w' v2 nw ∧ Past O v2 (nw.map Wr.seg) ∧ (∀ g, v1.ownBlock = some g → g ≤ O) ∧ (∀ b ∈ fp (nb.map Bs.seg), b ≤ O) ∧ O < w'.heap.size := by
  obtain ⟨nb, nw, O, h1, h2, h3, h4, h5, h6, h7, h8, h9⟩ := h
  refine ⟨nb, nw, min O (w'.heap.size - 1), h1, h2, h3, h4, h5, h6, ⟨fun g hg => ?_, fun b hb => ?_⟩, fun g hg => ?_, fun b hb => ?_, by omega⟩
  · have := h7.1 g hg; omega
  · have := h7.2 b hb; omega
  · have := h8 g hg; have := (h5.row.lt g hg).2; omega
  · have := h9 b hb; have := h5.inner.mem.lt b hb; omega
theorem lg_mem {w W : World} {v1 v2 : Value} {nb : List Bs} {nw : List Wr} (hC : LG 93 1 Bs.cells Bs.seg w W v1 nb) (hD : LG 86 2 Wr.cells Wr.seg w W v2 nw) {a1 a2 : Option Addr} {c1 c2 : Nat} (e1 : v1 = .slice a1 nb.length c1) (e2 : v2 = .slice a2 nw.length c2) : Mem W (dsk a1 nb a2 nw) := by
  obtain ⟨a1', c1', e1', n1, b1⟩ := hC.cells
  obtain ⟨a2', c2', e2', n2, b2⟩ := hD.writes
  rw [e1] at e1'
  rw [e2] at e2'
  injection e1' with q1
  injection e2' with q2
  subst q1 q2
  exact mem_append.2 ⟨b1.mem, b2.mem⟩
/-- A list that was made behind w1, as memory. -/
structure LM {α : Type} (T : TypeId) (sz : Nat) (f : α → List Value) (sg : α → Seg) (w1 w : World) (v : Value) (nb : List α) : Prop where
  row : w.ownsRow w1.heap.size T sz v nb.length (nb.flatMap f)
  inner : Born w1 w (nb.map sg)
  apart : ∀ g, v.ownBlock = some g → g ∉ fp (nb.map sg)
theorem LG.turned' {α : Type} {T : TypeId} {sz : Nat} {f : α → List Value} {sg : α → Seg} {w0 w w' : World} {v : Value} {nb : List α} {fs : List Nat} (h : LG T sz f sg w0 w v nb) (ht : Turn fs w w') (ha : ∀ b, w0.heap.size ≤ b → b ∉ fs) : LM T sz f sg w0 w' v nb := by
  refine ⟨⟨h.row.1, ?_⟩, h.inner.turn ht (fun b hb => ha b (h.inner.new b hb)), h.apart⟩
  rcases h.row.2 with h' | ⟨g, cap, cur, rfl, hb, hg, rest⟩
  · exact .inl h'
  · refine .inr ⟨g, cap, cur, rfl, hb, ?_, rest⟩
    rw [ht.block g (Array.getElem?_eq_some_iff.1 hg).1 (ha g hb)]; exact hg
theorem DiskRes.old {w w1 W : World} {v : Value} {M : DkM} (h : DiskRes w1 W v M) (hk : Keeps w w1) : DiskRes w W v M := by
  obtain ⟨ca, cc, cs, da, dc, ds, h1, h2, h3, h4, h5, h6⟩ := h
  exact ⟨ca, cc, cs, da, dc, ds, h1, h2, h3, h4, h5, h6.old hk⟩
theorem diskres_two' {w W : World} {v1 v2 : Value} {nb : List Bs} {nw : List Wr} {O : Nat} (hC : LM 93 1 Bs.cells Bs.seg w W v1 nb) (hD : LM 86 2 Wr.cells Wr.seg w W v2 nw) (hP : Past O v2 (nw.map Wr.seg)) (h1 : ∀ g, v1.ownBlock = some g → g ≤ O) (h2 : ∀ b ∈ fp (nb.map Bs.seg), b ≤ O) (hok : dokM (dat nb nw) = true)
    (nc : ∀ b ∈ nb, b.fit) (nd : ∀ x ∈ nw, x.b.fit) : DiskRes w W (.agg #[v1, v2]) (dat nb nw) := by
  obtain ⟨a1, c1, e1, _, _, n1, p1, q1⟩ := Own.of_owns hC.row
  obtain ⟨a2, c2, e2, _, _, n2, p2, q2⟩ := Own.of_owns hD.row
  have own1 : ∀ b ∈ fpS (a1, ccells nb), v1.ownBlock = some b := by
    intro b hb
    rw [e1]
    unfold fpS at hb
    split at hb
    · simp at hb
    · cases a1 with
      | none => simp at hb
      | some p => simp at hb; simp [Value.ownBlock, hb]
  have own2 : ∀ b ∈ fpS (a2, wcells nw), v2.ownBlock = some b := by
    intro b hb
    rw [e2]
    unfold fpS at hb
    split at hb
    · simp at hb
    · cases a2 with
      | none => simp at hb
      | some p => simp at hb; simp [Value.ownBlock, hb]
  have o1 : Own W ((a1, ccells nb) :: nb.map Bs.seg) := Own.append (S := [_]) p1 hC.inner.toOwn (fun b hb hb' => hC.apart b (own1 b (by rw [fp_one] at hb; exact hb)) hb')
  have o2 : Own W ((a2, wcells nw) :: nw.map Wr.seg) := Own.append (S := [_]) p2 hD.inner.toOwn (fun b hb hb' => hD.apart b (own2 b (by rw [fp_one] at hb; exact hb)) hb')
  refine ⟨a1, c1, nb, a2, c2, nw, by rw [e1, e2], rfl, dokM_DOk hok nc nd, n1, n2, ⟨o1.append o2 (fun b hb hb' => ?_), fun b hb => ?_⟩⟩
  · rw [fp_cons] at hb hb'
    have l1 : b ≤ O := by
      rcases List.mem_append.1 hb with hb | hb
      · exact h1 b (own1 b hb)
      · exact h2 b hb
    have l2 : O < b := by
      rcases List.mem_append.1 hb' with hb' | hb'
      · exact hP.1 b (own2 b hb')
      · exact hP.2 b hb'
    omega
  · unfold dsk at hb
    rw [fp_append, fp_cons, fp_cons] at hb
    rcases List.mem_append.1 hb with hb | hb
    · rcases List.mem_append.1 hb with hb | hb
      · exact q1 b (by rw [fp_one]; exact hb)
      · exact hC.inner.new b hb
    · rcases List.mem_append.1 hb with hb | hb
      · exact q2 b (by rw [fp_one]; exact hb)
      · exact hD.inner.new b hb
theorem like_len {nb cs : List Bs} {ds : List Wr} (h : nb.map Bs.L = cs.map Bs.L) (hd : DOk cs ds) : nb.length ≤ 9223372036854775807 := by
  have : nb.length = cs.length := by simpa using congrArg List.length h
  rw [this]; exact hd.big.1
theorem like_lens {nb cs : List Bs} {ds : List Wr} (h : nb.map Bs.L = cs.map Bs.L) (hd : DOk cs ds) : ∀ b ∈ nb, b.L.length ≤ 9223372036854775807 := by
  intro b hb
  have : b.L ∈ cs.map Bs.L := by rw [← h]; exact List.mem_map.2 ⟨b, hb, rfl⟩
  obtain ⟨c, hc, e⟩ := List.mem_map.1 this
  rw [← e]; exact hd.big.2.2.1 c hc
theorem likeW_lens {nw ds : List Wr} {cs : List Bs} (h : nw.map Wr.key = ds.map Wr.key) (hd : DOk cs ds) : ∀ x ∈ nw, x.b.L.length ≤ 9223372036854775807 := by
  intro b hb
  have : b.key ∈ ds.map Wr.key := by rw [← h]; exact List.mem_map.2 ⟨b, hb, rfl⟩
  obtain ⟨c, hc, e⟩ := List.mem_map.1 this
  have e2 : c.b.L = b.b.L := congrArg Prod.snd e
  rw [← e2]; exact hd.big.2.2.2 c hc
set_option maxHeartbeats 8000000 in
theorem diskwrite_spec (ca : Option Addr) (cc : Nat) (cs : List Bs) (da : Option Addr) (dc : Nat) (ds : List Wr) (i : Int) (ba : Option Addr) (bc : Nat) (bL : List UInt8) (w : World) (hm : Mem w (dsk ca cs da ds)) (h : DOk cs ds) (hb : Cells w ba (bys bL)) (hbn : ba = none → bc = 0) (hbl : bL.length ≤ 1048576) :
    Calls Tryz.prog 40 #[dskV ca cs.length cc da ds.length dc, .int .i64 i, .slice ba bL.length bc] w (WritePost w (dat cs ds) i bL) := by
  have HKA := hide (Keeps.alloc (Keeps.alloc (Keeps.refl w) (.cells #[.slice ca cs.length cc, .slice da ds.length dc] 26)) (.cells #[.slice none 0 0, .slice none 0 0] 26))
  have HM := hide (hm.kept HKA.out)
  have HBy := hide (hb.kept HKA.out)
  have HD : Hid (∀ w', Keeps ((w.alloc (.cells #[.slice ca cs.length cc, .slice da ds.length dc] 26)).alloc (.cells #[.slice none 0 0, .slice none 0 0] 26)) w' → w'.cell? ⟨w.heap.size, 0, none⟩ = some (.slice ca cs.length cc) ∧ w'.cell? ⟨w.heap.size, 1, none⟩ = some (.slice da ds.length dc)) :=
    fun w' hk => ⟨hk.cell (by simp), hk.cell (by simp)⟩
  have HZ : Hid (((w.alloc (.cells #[.slice ca cs.length cc, .slice da ds.length dc] 26)).alloc (.cells #[.slice none 0 0, .slice none 0 0] 26)).heap.size = w.heap.size + 1 + 1) := by show _ = _; rw [World.size_alloc, World.size_alloc]
  have HR := hide (Room.of_row (row_new (w.alloc (.cells #[.slice ca cs.length cc, .slice da ds.length dc] 26)) #[.slice none 0 0, .slice none 0 0] 26))
  rw [World.size_alloc] at HR
  have HQ := hide (diskok_spec' ca cc cs da dc ds _ HM.out h)
  have hcl := h.c
  have hdl := h.d
  have HDO := hide h
  have HBN := hide hbn
  clear hm hb h hbn
  go_enter Tryz.func40, Tryz.ntmps40
  go_wp2_with fail
  generalize (w.alloc (.cells #[.slice ca cs.length cc, .slice da ds.length dc] 26)).alloc (.cells #[.slice none 0 0, .slice none 0 0] 26) = W0 at *
  refine (unhide HQ).mono ?_
  rintro x w1 ⟨rfl, hk1⟩
  have HK1 := hide hk1
  obtain ⟨d0, d1⟩ := HD.out _ hk1
  have HR1 : Hid (Room w1 (w.heap.size + 1) 2) := HR.out.kept hk1 (by have := HZ.out; omega)
  have hz1 : w.heap.size + 1 < w1.heap.size := by have := hk1.size; have := HZ.out; omega
  clear hk1
  cases hok : dokM (dat cs ds)
  · have HB := hide (writeB_no (i := i) (L := bL) (Or.inl hok))
    obtain ⟨y0, r0⟩ := HR1.out.cell 0 (by decide)
    obtain ⟨y1, r1⟩ := HR1.out.cell 1 (by decide)
    have f0 := HR1.out.free 0
    have f1 := HR1.out.free 1
    clear hok
    go_wp2_with fail
    have e0 : ((w1.setCell ⟨w.heap.size + 1, 0, none⟩ (.slice none 0 0)).setCell ⟨w.heap.size + 1, 1, none⟩ (.slice none 0 0)).cell? ⟨w.heap.size + 1, 0, none⟩ = some (.slice none 0 0) := by
      rw [World.cell?_setCell_other _ _ _ _ (by simp)]; exact World.cell?_setCell_same _ _ _ r0
    have e1 : ((w1.setCell ⟨w.heap.size + 1, 0, none⟩ (.slice none 0 0)).setCell ⟨w.heap.size + 1, 1, none⟩ (.slice none 0 0)).cell? ⟨w.heap.size + 1, 1, none⟩ = some (.slice none 0 0) :=
      World.cell?_setCell_same _ _ _ (by rw [World.cell?_setCell_other _ _ _ _ (by simp)]; exact r1)
    have HS : Hid (Turn [w.heap.size + 1] w1 ((w1.setCell ⟨w.heap.size + 1, 0, none⟩ (.slice none 0 0)).setCell ⟨w.heap.size + 1, 1, none⟩ (.slice none 0 0))) := (Turn.set (by simp) _).trans' (Turn.set (by simp) _)
    clear r0 r1 f0 f1 d0 d1
    revert e0 e1 HS
    generalize World.setCell _ _ _ = W
    intro e0 e1 HS
    refine bodyPost_ret (v := .tuple #[.agg #[.slice none 0 0, .slice none 0 0], .bool false]) (by simp [results, Tryz.results40, go_sem, e0, e1]) rfl ?_
    refine WritePost.no HB.out (HS.out.keeps (HKA.out.trans HK1.out) (fun b hb => ?_))
    simp at hb
    omega
  have HOk := hide hok
  clear hok
  have HCp := hide (copy_spec ca cc cs da dc ds w1 (HM.out.kept HK1.out) HDO.out)
  go_wp2_with fail
  refine (unhide HCp).mono ?_
  rintro x w2 ⟨v1, v2, rfl, hcr, hk2⟩
  obtain ⟨nb, nw, O, e1, e2, n1, n2, g1, g2, hP, o1, o2, hO⟩ := hcr.bound (by have := hk2.size; omega)
  have HE1 := hide e1
  have HE2 := hide e2
  have HN1 := hide n1
  have HN2 := hide n2
  have HG1 := hide g1
  have HG2 := hide g2
  have HP := hide hP
  have HO1 := hide o1
  have HO2 := hide o2
  have HK2 := hide hk2
  obtain ⟨a1, c1, rfl, _⟩ := g1.cells
  obtain ⟨a2, c2, rfl, _⟩ := g2.writes
  have hnl : nw.length ≤ 1048576 := by have : nw.length = ds.length := by simpa using congrArg List.length e2
                                       omega
  have HR2 : Hid (Room w2 (w.heap.size + 1) 2) := HR1.out.kept hk2 hz1
  have hz2 : w.heap.size + 1 < w2.heap.size := by have := hk2.size; omega
  clear hcr e1 e2 n1 n2 g1 g2 hP o1 o2 hk2 d0 d1 HCp
  go_wp2_with fail
  have HVz : Hid ((w2.alloc (.cells #[.slice a1 nb.length c1, .slice a2 nw.length c2] 26)).heap.size = w2.heap.size + 1) := by show _ = _; rw [World.size_alloc]
  have HKa := hide (Keeps.alloc (Keeps.refl w2) (.cells #[.slice a1 nb.length c1, .slice a2 nw.length c2] 26))
  have HRV := hide (Room.of_row (row_new w2 #[.slice a1 nb.length c1, .slice a2 nw.length c2] 26))
  have HV0 : Hid ((w2.alloc (.cells #[.slice a1 nb.length c1, .slice a2 nw.length c2] 26)).cell? ⟨w2.heap.size, 0, none⟩ = some (.slice a1 nb.length c1)) := by show _ = _; simp
  have HV1 : Hid ((w2.alloc (.cells #[.slice a1 nb.length c1, .slice a2 nw.length c2] 26)).cell? ⟨w2.heap.size, 1, none⟩ = some (.slice a2 nw.length c2)) := by show _ = _; simp
  generalize hV : w2.alloc (.cells #[.slice a1 nb.length c1, .slice a2 nw.length c2] 26) = V at *
  clear hV
  have hkd : Keeps V V.drew := (Keeps.refl V).drew
  obtain ⟨a3, c3, w3, hr3, hn3, hb3, hk3⟩ := run_bys V.drew ba bc bL 22 ((((HBy.out.kept HK1.out).kept HK2.out).kept HKa.out).kept hkd) HBN.out (Nat.le_trans hbl (by decide))
  have HK3 := hide (HKa.out.trans (hkd.trans hk3))
  have hb3' : Born w2 w3 [(a3, bys bL)] := hb3.old (HKa.out.trans hkd)
  have hb3V : ∀ b ∈ fp [(a3, bys bL)], w2.heap.size < b := fun b hb => by have h1 : V.heap.size ≤ b := hb3.new b hb; have := HVz.out; omega
  obtain ⟨v4, w4, hr4, ho4, hg4, hv4⟩ := run_write w3 w1.heap.size (.slice a2 nw.length c2) nw.length (wcells nw) (.int .i64 i) (.slice a3 bL.length c3) rfl rfl 24 (owns_kept HK3.out HG2.out.row) (by omega) (HK2.out.trans HK3.out).size
  have HS4 := hide (HG2.out.snoc HK3.out (x := Wr.mk i (Bs.mk a3 c3 bL)) hb3'.toOwn hb3'.new hg4 ho4 hv4)
  have hz3 : w2.heap.size < w3.heap.size := by have := HVz.out; have := (hkd.trans hk3).size; omega
  have HP4 := hide (HP.out.snoc (x := Wr.mk i (Bs.mk a3 c3 bL)) (v' := v4) (n := w2.heap.size) (m := (w3.alloc (.cells #[.int .i64 i, .slice a3 bL.length c3] 86)).heap.size) hb3'.new hO (by simp; omega) hv4)
  have HQ4 : Hid (∀ g, v4.ownBlock = some g → g ≠ w2.heap.size) := fun g hg => by
    rcases hv4 with hv4 | hv4
    · rw [hv4] at hg; have := (HG2.out.row.lt g hg).2; omega
    · rw [hv4] at hg; have := Option.some.inj hg; simp at this; omega
  obtain ⟨a4, c4, rfl, _⟩ := HS4.out.writes
  have hlen : (nw ++ [Wr.mk i (Bs.mk a3 c3 bL)]).length = nw.length + 1 := by simp
  rw [hlen] at hr4 HS4 HP4 HQ4
  have HTu : Hid (Turn (Value.ownBlock (.slice a2 nw.length c2)).toList w2 w4) := by
    refine ((Turn.of_keeps (HK3.out.trans (Keeps.alloc (Keeps.refl w3) (.cells #[.int .i64 i, .slice a3 bL.length c3] 86))) _).trans' (Turn.of_grown hg4 (fun k hk' => by rw [hk']; simp)))
  have HTV : Hid (Turn (Value.ownBlock (.slice a2 nw.length c2)).toList V w4) := by
    refine ((Turn.of_keeps ((hkd.trans hk3).trans (Keeps.alloc (Keeps.refl w3) (.cells #[.int .i64 i, .slice a3 bL.length c3] 86))) _).trans' (Turn.of_grown hg4 (fun k hk' => by rw [hk']; simp)))
  have HNo : Hid (∀ b, (b ≤ O ∨ w2.heap.size ≤ b) → b ∉ (Value.ownBlock (.slice a2 nw.length c2)).toList) := fun b hb hx => by
    have h1 : Value.ownBlock (.slice a2 nw.length c2) = some b := by simpa using hx
    have := HP.out.1 b h1
    have := (HG2.out.row.lt b h1).2
    omega
  have HG1' : Hid (LG 93 1 Bs.cells Bs.seg w1 w4 (.slice a1 nb.length c1) nb) := HG1.out.turned HTu.out (fun g hg => HNo.out g (Or.inl (HO1.out g hg))) (fun b hb => HNo.out b (Or.inl (HO2.out b hb))) (fun b hb => by
    have h1 : Value.ownBlock (.slice a2 nw.length c2) = some b := by simpa using hb
    exact (HG2.out.row.lt b h1).1)
  have HRV4 : Hid (Room w4 w2.heap.size 2) := room_turn HRV.out HTV.out (HNo.out _ (Or.inr (Nat.le_refl _))) (by have := HVz.out; omega)
  have HRR4 : Hid (Room w4 (w.heap.size + 1) 2) := by
    refine room_turn HR2.out HTu.out (fun hx => ?_) hz2
    have h1 : Value.ownBlock (.slice a2 nw.length c2) = some (w.heap.size + 1) := by simpa using hx
    have := (HG2.out.row.lt _ h1).1
    omega
  have HR3 := hide hr3
  have HR4 := hide hr4
  have HN3 := hide hn3
  have s0 := HV0.out
  have s1 := HV1.out
  have s2 := (hkd.trans hk3).cell HV1.out
  have s3 := HTV.out.cell (p := ⟨w2.heap.size, 0, none⟩) (HNo.out _ (Or.inr (Nat.le_refl _))) HV0.out
  have s4 := HTV.out.cell (p := ⟨w2.heap.size, 1, none⟩) (HNo.out _ (Or.inr (Nat.le_refl _))) HV1.out
  have s5 := HRV4.out.free 1
  have l0 : w2.heap.size < V.heap.size := by have := HVz.out; omega
  have l4 := HTu.out.size
  have HB3 := hide hb3V
  clear hr3 hr4 hn3 hb3 hk3 hb3' ho4 hg4 hv4 hkd hb3V hlen
  go_region_law (first
    | (refine step_append_run (by rfl) (.tmp 18) (.tmp 19) _ _ (by rfl) _ _ (by rfl) (by rfl) (.slice a3 bL.length c3) w3 HR3.out ?_)
    | (refine step_append_run (by rfl) (.tmp 16) (.tmp 22) _ _ (by rfl) _ _ (by rfl) (by rfl) _ w4 HR4.out ?_))
  all_goals
    have HS5 : Hid (LG 86 2 Wr.cells Wr.seg w1 (w4.setCell ⟨w2.heap.size, 1, none⟩ (.slice a4 (nw.length + 1) c4)) (.slice a4 (nw.length + 1) c4) (nw ++ [Wr.mk i (Bs.mk a3 c3 bL)])) :=
      HS4.out.turned (Turn.set (fs := [w2.heap.size]) (by simp) _) (fun g hg hx => HQ4.out g hg (by simpa using hx)) (fun b hb hx => by
        have hx' : b = w2.heap.size := by simpa using hx
        rw [List.map_append, fp_append] at hb
        rcases List.mem_append.1 hb with hb | hb
        · have := HG2.out.inner.mem.lt b hb; omega
        · have := HB3.out b hb; omega) (fun b hb => by simp at hb; have := HK2.out.size; omega)
    have HG5 : Hid (LG 93 1 Bs.cells Bs.seg w1 (w4.setCell ⟨w2.heap.size, 1, none⟩ (.slice a4 (nw.length + 1) c4)) (.slice a1 nb.length c1) nb) :=
      HG1'.out.turned (Turn.set (fs := [w2.heap.size]) (by simp) _) (fun g hg hx => by have := HO1.out g hg; simp at hx; omega) (fun b hb hx => by have := HO2.out b hb; simp at hx; omega) (fun b hb => by simp at hb; have := HK2.out.size; omega)
    have t0 : (w4.setCell ⟨w2.heap.size, 1, none⟩ (.slice a4 (nw.length + 1) c4)).cell? ⟨w2.heap.size, 0, none⟩ = some (.slice a1 nb.length c1) := by rw [World.cell?_setCell_other _ _ _ _ (by simp)]; exact s3
    have t1 : (w4.setCell ⟨w2.heap.size, 1, none⟩ (.slice a4 (nw.length + 1) c4)).cell? ⟨w2.heap.size, 1, none⟩ = some (.slice a4 (nw.length + 1) c4) := World.cell?_setCell_same _ _ _ s4
    have HR5 : Hid (Room (w4.setCell ⟨w2.heap.size, 1, none⟩ (.slice a4 (nw.length + 1) c4)) (w.heap.size + 1) 2) := room_turn HRR4.out (Turn.set (fs := [w2.heap.size]) (by simp) _) (by simp; omega) (by omega)
    have z5 : w.heap.size + 1 < (w4.setCell ⟨w2.heap.size, 1, none⟩ (.slice a4 (nw.length + 1) c4)).heap.size := by simp [World.setCell]; omega
    generalize w4.setCell ⟨w2.heap.size, 1, none⟩ (.slice a4 (nw.length + 1) c4) = w5 at *
    go_wp2_with fail
    have hlen : (nw ++ [Wr.mk i (Bs.mk a3 c3 bL)]).length = nw.length + 1 := by simp
    have hdat : dat nb (nw ++ [Wr.mk i (Bs.mk a3 c3 bL)]) = ⟨(dat cs ds).cells, (dat cs ds).dirty ++ [(i, bL)]⟩ := by
      unfold dat
      rw [List.map_append, HE1.out, HE2.out]; rfl
    have hq := diskok_spec a1 c1 nb a4 c4 (nw ++ [Wr.mk i (Bs.mk a3 c3 bL)]) w5 (lg_mem HG5.out HS5.out rfl (by rw [hlen])) (like_len HE1.out HDO.out) (by rw [hlen]; omega) (like_lens HE1.out HDO.out) (by
      intro x hx
      rcases List.mem_append.1 hx with hx | hx
      · exact likeW_lens HE2.out HDO.out x hx
      · rw [List.mem_singleton.1 hx]; exact Nat.le_trans hbl (by decide))
    rw [hlen, dok_dat, hdat, dokM_add HOk.out] at hq
    refine hq.mono ?_
    rintro x w6 ⟨rfl, hk6⟩
    have HK6 := hide hk6
    have HR6 : Hid (Room w6 (w.heap.size + 1) 2) := HR5.out.kept hk6 z5
    have u0 := hk6.cell t0
    have u1 := hk6.cell t1
    obtain ⟨y0, r0⟩ := HR6.out.cell 0 (by decide)
    obtain ⟨y1, r1⟩ := HR6.out.cell 1 (by decide)
    have f0 := HR6.out.free 0
    have f1 := HR6.out.free 1
    have HKw : Hid (Keeps w w6) := (HKA.out.trans HK1.out).trans (HG5.out.keeps.trans hk6)
    have HDt := hide hdat
    clear hq hk6 t0 t1 s0 s1 s2 s3 s4 s5 hlen hdat
    cases hwb : writeB (dat cs ds) i bL
    · have HB := hide hwb
      clear hwb
      go_wp2_with fail
      have e0 : ((w6.setCell ⟨w.heap.size + 1, 0, none⟩ (.slice none 0 0)).setCell ⟨w.heap.size + 1, 1, none⟩ (.slice none 0 0)).cell? ⟨w.heap.size + 1, 0, none⟩ = some (.slice none 0 0) := by
        rw [World.cell?_setCell_other _ _ _ _ (by simp)]; exact World.cell?_setCell_same _ _ _ r0
      have e1 : ((w6.setCell ⟨w.heap.size + 1, 0, none⟩ (.slice none 0 0)).setCell ⟨w.heap.size + 1, 1, none⟩ (.slice none 0 0)).cell? ⟨w.heap.size + 1, 1, none⟩ = some (.slice none 0 0) :=
        World.cell?_setCell_same _ _ _ (by rw [World.cell?_setCell_other _ _ _ _ (by simp)]; exact r1)
      have HS : Hid (Turn [w.heap.size + 1] w6 ((w6.setCell ⟨w.heap.size + 1, 0, none⟩ (.slice none 0 0)).setCell ⟨w.heap.size + 1, 1, none⟩ (.slice none 0 0))) := (Turn.set (by simp) _).trans' (Turn.set (by simp) _)
      clear r0 r1 f0 f1
      revert e0 e1 HS
      generalize World.setCell _ _ _ = W
      intro e0 e1 HS
      refine bodyPost_ret (v := .tuple #[.agg #[.slice none 0 0, .slice none 0 0], .bool false]) (by simp [results, Tryz.results40, go_sem, e0, e1]) rfl ?_
      refine WritePost.no HB.out (HS.out.keeps HKw.out (fun b hb => ?_))
      simp at hb
      omega
    · have HB := hide hwb
      clear hwb
      go_wp2_with fail
      have e0 : ((w6.setCell ⟨w.heap.size + 1, 0, none⟩ (.slice a1 nb.length c1)).setCell ⟨w.heap.size + 1, 1, none⟩ (.slice a4 (nw.length + 1) c4)).cell? ⟨w.heap.size + 1, 0, none⟩ = some (.slice a1 nb.length c1) := by
        rw [World.cell?_setCell_other _ _ _ _ (by simp)]; exact World.cell?_setCell_same _ _ _ r0
      have e1 : ((w6.setCell ⟨w.heap.size + 1, 0, none⟩ (.slice a1 nb.length c1)).setCell ⟨w.heap.size + 1, 1, none⟩ (.slice a4 (nw.length + 1) c4)).cell? ⟨w.heap.size + 1, 1, none⟩ = some (.slice a4 (nw.length + 1) c4) :=
        World.cell?_setCell_same _ _ _ (by rw [World.cell?_setCell_other _ _ _ _ (by simp)]; exact r1)
      have HS : Hid (Turn [w.heap.size + 1] w6 ((w6.setCell ⟨w.heap.size + 1, 0, none⟩ (.slice a1 nb.length c1)).setCell ⟨w.heap.size + 1, 1, none⟩ (.slice a4 (nw.length + 1) c4))) := (Turn.set (by simp) _).trans' (Turn.set (by simp) _)
      clear r0 r1 f0 f1
      revert e0 e1 HS
      generalize World.setCell _ _ _ = W
      intro e0 e1 HS
      refine bodyPost_ret (v := .tuple #[.agg #[.slice a1 nb.length c1, .slice a4 (nw.length + 1) c4], .bool true]) (by simp [results, Tryz.results40, go_sem, e0, e1]) rfl ?_
      have hR : ∀ b ∈ [w.heap.size + 1], b < w1.heap.size := fun b hb => by simp at hb; omega
      have hap1 : ∀ b, w1.heap.size ≤ b → b ∉ [w.heap.size + 1] := fun b hb hx => by have := hR b hx; omega
      have g5 := (HG5.out.kept HK6.out).turned' HS.out hap1
      have g6 := (HS5.out.kept HK6.out).turned' HS.out hap1
      have hokk : dokM (dat nb (nw ++ [Wr.mk i (Bs.mk a3 c3 bL)])) = true := by rw [HDt.out, dokM_add HOk.out]; exact HB.out
      have hres := diskres_two' g5 g6 HP4.out HO1.out HO2.out hokk HN1.out (by
        intro x hx
        rcases List.mem_append.1 hx with hx | hx
        · exact HN2.out x hx
        · rw [List.mem_singleton.1 hx]; exact HN3.out)
      rw [HDt.out] at hres
      refine WritePost.yes HB.out (hres.old (HKA.out.trans HK1.out)) (HS.out.keeps HKw.out (fun b hb => ?_))
      simp at hb
      omega
end Go.Proofs.YtkdnddckogbgaaaGreatDoor
