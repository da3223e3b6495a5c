/- Texts of the verifier, joined: DWs, DCm, Itg, DSm. -/
import Derived.Test.YtdlgoccbmemjgaaGreatDoorPFnLog4
import Derived.Deep.RegionLaw
import Derived.Test.YtdlgoccbmemjgaaGreatDoorPFnLog3
namespace Go.Proofs.YtdlgoccbmemjgaaGreatDoor
open Go.RowKit Go.Deep
set_option linter.unusedVariables false
set_option maxRecDepth 10000
attribute [local go_sem ↓] Go.wp_at_zero Go.wp_at_succ

theorem CopyRes.bound {w w' : World} {v1 v2 : Value} {cs : List Bs} {ds : List Wr} (h : CopyRes w w' v1 v2 cs ds) (hs : 0 < w'.heap.size) : ∃ (nb : List Bs) (nw : List Wr) (O : Nat), nb.map Bs.L = cs.map Bs.L ∧ nw.map Wr.key = ds.map Wr.key ∧ (∀ b ∈ nb, b.fit) ∧ (∀ x ∈ nw, x.b.fit) ∧
    LG 93 1 Bs.cells Bs.seg w w' v1 nb ∧ LG 86 2 Wr.cells Wr.seg w w' v2 nw ∧ Past O v2 (nw.map Wr.seg) ∧ (∀ g, v1.ownBlock = some g → g ≤ O) ∧ (∀ b ∈ fp (nb.map Bs.seg), b ≤ O) ∧ O < w'.heap.size := by
  obtain ⟨nb, nw, O, h1, h2, h3, h4, h5, h6, h7, h8, h9⟩ := h
  refine ⟨nb, nw, min O (w'.heap.size - 1), h1, h2, h3, h4, h5, h6, ⟨fun g hg => ?_, fun b hb => ?_⟩, fun g hg => ?_, fun b hb => ?_, by omega⟩
  · have := h7.1 g hg; omega
  · have := h7.2 b hb; omega
  · have := h8 g hg; have := (h5.row.lt g hg).2; omega
  · have := h9 b hb; have := h5.inner.mem.lt b hb; omega
theorem lg_mem {w W : World} {v1 v2 : Value} {nb : List Bs} {nw : List Wr} (hC : LG 93 1 Bs.cells Bs.seg w W v1 nb) (hD : LG 86 2 Wr.cells Wr.seg w W v2 nw) {a1 a2 : Option Addr} {c1 c2 : Nat} (e1 : v1 = .slice a1 nb.length c1) (e2 : v2 = .slice a2 nw.length c2) : Mem W (dsk a1 nb a2 nw) := by
  obtain ⟨a1', c1', e1', n1, b1⟩ := hC.cells
  obtain ⟨a2', c2', e2', n2, b2⟩ := hD.writes
  rw [e1] at e1'
  rw [e2] at e2'
  injection e1' with q1
  injection e2' with q2
  subst q1 q2
  exact mem_append.2 ⟨b1.mem, b2.mem⟩
/-- A list that was made behind w1, as memory. -/
structure LM {α : Type} (T : TypeId) (sz : Nat) (f : α → List Value) (sg : α → Seg) (w1 w : World) (v : Value) (nb : List α) : Prop where
  row : w.ownsRow w1.heap.size T sz v nb.length (nb.flatMap f)
  inner : Born w1 w (nb.map sg)
  apart : ∀ g, v.ownBlock = some g → g ∉ fp (nb.map sg)
theorem LG.turned' {α : Type} {T : TypeId} {sz : Nat} {f : α → List Value} {sg : α → Seg} {w0 w w' : World} {v : Value} {nb : List α} {fs : List Nat} (h : LG T sz f sg w0 w v nb) (ht : Turn fs w w') (ha : ∀ b, w0.heap.size ≤ b → b ∉ fs) : LM T sz f sg w0 w' v nb := by
  refine ⟨⟨h.row.1, ?_⟩, h.inner.turn ht (fun b hb => ha b (h.inner.new b hb)), h.apart⟩
  rcases h.row.2 with h' | ⟨g, cap, cur, rfl, hb, hg, rest⟩
  · exact .inl h'
  · refine .inr ⟨g, cap, cur, rfl, hb, ?_, rest⟩
    rw [ht.block g (Array.getElem?_eq_some_iff.1 hg).1 (ha g hb)]; exact hg
theorem DiskRes.old {w w1 W : World} {v : Value} {M : DkM} (h : DiskRes w1 W v M) (hk : Keeps w w1) : DiskRes w W v M := by
  obtain ⟨ca, cc, cs, da, dc, ds, h1, h2, h3, h4, h5, h6⟩ := h
  exact ⟨ca, cc, cs, da, dc, ds, h1, h2, h3, h4, h5, h6.old hk⟩
theorem diskres_two' {w W : World} {v1 v2 : Value} {nb : List Bs} {nw : List Wr} {O : Nat} (hC : LM 93 1 Bs.cells Bs.seg w W v1 nb) (hD : LM 86 2 Wr.cells Wr.seg w W v2 nw) (hP : Past O v2 (nw.map Wr.seg)) (h1 : ∀ g, v1.ownBlock = some g → g ≤ O) (h2 : ∀ b ∈ fp (nb.map Bs.seg), b ≤ O) (hok : dokM (dat nb nw) = true)
    (nc : ∀ b ∈ nb, b.fit) (nd : ∀ x ∈ nw, x.b.fit) : DiskRes w W (.agg #[v1, v2]) (dat nb nw) := by
  obtain ⟨a1, c1, e1, _, _, n1, p1, q1⟩ := Own.of_owns hC.row
  obtain ⟨a2, c2, e2, _, _, n2, p2, q2⟩ := Own.of_owns hD.row
  have own1 : ∀ b ∈ fpS (a1, ccells nb), v1.ownBlock = some b := by
    intro b hb
    rw [e1]
    unfold fpS at hb
    split at hb
    · simp at hb
    · cases a1 with
      | none => simp at hb
      | some p => simp at hb; simp [Value.ownBlock, hb]
  have own2 : ∀ b ∈ fpS (a2, wcells nw), v2.ownBlock = some b := by
    intro b hb
    rw [e2]
    unfold fpS at hb
    split at hb
    · simp at hb
    · cases a2 with
      | none => simp at hb
      | some p => simp at hb; simp [Value.ownBlock, hb]
  have o1 : Own W ((a1, ccells nb) :: nb.map Bs.seg) := Own.append (S := [_]) p1 hC.inner.toOwn (fun b hb hb' => hC.apart b (own1 b (by rw [fp_one] at hb; exact hb)) hb')
  have o2 : Own W ((a2, wcells nw) :: nw.map Wr.seg) := Own.append (S := [_]) p2 hD.inner.toOwn (fun b hb hb' => hD.apart b (own2 b (by rw [fp_one] at hb; exact hb)) hb')
  refine ⟨a1, c1, nb, a2, c2, nw, by rw [e1, e2], rfl, dokM_DOk hok nc nd, n1, n2, ⟨o1.append o2 (fun b hb hb' => ?_), fun b hb => ?_⟩⟩
  · rw [fp_cons] at hb hb'
    have l1 : b ≤ O := by
      rcases List.mem_append.1 hb with hb | hb
      · exact h1 b (own1 b hb)
      · exact h2 b hb
    have l2 : O < b := by
      rcases List.mem_append.1 hb' with hb' | hb'
      · exact hP.1 b (own2 b hb')
      · exact hP.2 b hb'
    omega
  · unfold dsk at hb
    rw [fp_append, fp_cons, fp_cons] at hb
    rcases List.mem_append.1 hb with hb | hb
    · rcases List.mem_append.1 hb with hb | hb
      · exact q1 b (by rw [fp_one]; exact hb)
      · exact hC.inner.new b hb
    · rcases List.mem_append.1 hb with hb | hb
      · exact q2 b (by rw [fp_one]; exact hb)
      · exact hD.inner.new b hb
theorem like_len {nb cs : List Bs} {ds : List Wr} (h : nb.map Bs.L = cs.map Bs.L) (hd : DOk cs ds) : nb.length ≤ 9223372036854775807 := by
  have : nb.length = cs.length := by simpa using congrArg List.length h
  rw [this]; exact hd.big.1
theorem like_lens {nb cs : List Bs} {ds : List Wr} (h : nb.map Bs.L = cs.map Bs.L) (hd : DOk cs ds) : ∀ b ∈ nb, b.L.length ≤ 9223372036854775807 := by
  intro b hb
  have : b.L ∈ cs.map Bs.L := by rw [← h]; exact List.mem_map.2 ⟨b, hb, rfl⟩
  obtain ⟨c, hc, e⟩ := List.mem_map.1 this
  rw [← e]; exact hd.big.2.2.1 c hc
theorem likeW_lens {nw ds : List Wr} {cs : List Bs} (h : nw.map Wr.key = ds.map Wr.key) (hd : DOk cs ds) : ∀ x ∈ nw, x.b.L.length ≤ 9223372036854775807 := by
  intro b hb
  have : b.key ∈ ds.map Wr.key := by rw [← h]; exact List.mem_map.2 ⟨b, hb, rfl⟩
  obtain ⟨c, hc, e⟩ := List.mem_map.1 this
  have e2 : c.b.L = b.b.L := congrArg Prod.snd e
  rw [← e2]; exact hd.big.2.2.2 c hc
set_option maxHeartbeats 8000000 in
theorem diskwrite_spec (ca : Option Addr) (cc : Nat) (cs : List Bs) (da : Option Addr) (dc : Nat) (ds : List Wr) (i : Int) (ba : Option Addr) (bc : Nat) (bL : List UInt8) (w : World) (hm : Mem w (dsk ca cs da ds)) (h : DOk cs ds) (hb : Cells w ba (bys bL)) (hbn : ba = none → bc = 0) (hbl : bL.length ≤ 1048576) :
    Calls Tryz.prog 40 #[dskV ca cs.length cc da ds.length dc, .int .i64 i, .slice ba bL.length bc] w (WritePost w (dat cs ds) i bL) := by
  have HKA := hide (Keeps.alloc (Keeps.alloc (Keeps.refl w) (.cells #[.slice ca cs.length cc, .slice da ds.length dc] 26)) (.cells #[.slice none 0 0, .slice none 0 0] 26))
  have HM := hide (hm.kept HKA.out)
  have HBy := hide (hb.kept HKA.out)
  have HD : Hid (∀ w', Keeps ((w.alloc (.cells #[.slice ca cs.length cc, .slice da ds.length dc] 26)).alloc (.cells #[.slice none 0 0, .slice none 0 0] 26)) w' → w'.cell? ⟨w.heap.size, 0, none⟩ = some (.slice ca cs.length cc) ∧ w'.cell? ⟨w.heap.size, 1, none⟩ = some (.slice da ds.length dc)) :=
    fun w' hk => ⟨hk.cell (by simp), hk.cell (by simp)⟩
  have HZ : Hid (((w.alloc (.cells #[.slice ca cs.length cc, .slice da ds.length dc] 26)).alloc (.cells #[.slice none 0 0, .slice none 0 0] 26)).heap.size = w.heap.size + 1 + 1) := by show _ = _; rw [World.size_alloc, World.size_alloc]
  have HR := hide (Room.of_row (row_new (w.alloc (.cells #[.slice ca cs.length cc, .slice da ds.length dc] 26)) #[.slice none 0 0, .slice none 0 0] 26))
  rw [World.size_alloc] at HR
  have HQ := hide (diskok_spec' ca cc cs da dc ds _ HM.out h)
  have hcl := h.c
  have hdl := h.d
  have HDO := hide h
  have HBN := hide hbn
  clear hm hb h hbn
  go_enter Tryz.func40, Tryz.ntmps40
  go_wp2_with fail
  generalize (w.alloc (.cells #[.slice ca cs.length cc, .slice da ds.length dc] 26)).alloc (.cells #[.slice none 0 0, .slice none 0 0] 26) = W0 at *
  refine (unhide HQ).mono ?_
  rintro x w1 ⟨rfl, hk1⟩
  have HK1 := hide hk1
  obtain ⟨d0, d1⟩ := HD.out _ hk1
  have HR1 : Hid (Room w1 (w.heap.size + 1) 2) := HR.out.kept hk1 (by have := HZ.out; omega)
  have hz1 : w.heap.size + 1 < w1.heap.size := by have := hk1.size; have := HZ.out; omega
  clear hk1
  cases hok : dokM (dat cs ds)
  · have HB := hide (writeB_no (i := i) (L := bL) (Or.inl hok))
    obtain ⟨y0, r0⟩ := HR1.out.cell 0 (by decide)
    obtain ⟨y1, r1⟩ := HR1.out.cell 1 (by decide)
    have f0 := HR1.out.free 0
    have f1 := HR1.out.free 1
    clear hok
    go_wp2_with fail
    have e0 : ((w1.setCell ⟨w.heap.size + 1, 0, none⟩ (.slice none 0 0)).setCell ⟨w.heap.size + 1, 1, none⟩ (.slice none 0 0)).cell? ⟨w.heap.size + 1, 0, none⟩ = some (.slice none 0 0) := by
      rw [World.cell?_setCell_other _ _ _ _ (by simp)]; exact World.cell?_setCell_same _ _ _ r0
    have e1 : ((w1.setCell ⟨w.heap.size + 1, 0, none⟩ (.slice none 0 0)).setCell ⟨w.heap.size + 1, 1, none⟩ (.slice none 0 0)).cell? ⟨w.heap.size + 1, 1, none⟩ = some (.slice none 0 0) :=
      World.cell?_setCell_same _ _ _ (by rw [World.cell?_setCell_other _ _ _ _ (by simp)]; exact r1)
    have HS : Hid (Turn [w.heap.size + 1] w1 ((w1.setCell ⟨w.heap.size + 1, 0, none⟩ (.slice none 0 0)).setCell ⟨w.heap.size + 1, 1, none⟩ (.slice none 0 0))) := (Turn.set (by simp) _).trans' (Turn.set (by simp) _)
    clear r0 r1 f0 f1 d0 d1
    revert e0 e1 HS
    generalize World.setCell _ _ _ = W
    intro e0 e1 HS
    refine bodyPost_ret (v := .tuple #[.agg #[.slice none 0 0, .slice none 0 0], .bool false]) (by simp [results, Tryz.results40, go_sem, e0, e1]) rfl ?_
    refine WritePost.no HB.out (HS.out.keeps (HKA.out.trans HK1.out) (fun b hb => ?_))
    simp at hb
    omega
  have HOk := hide hok
  clear hok
  have HCp := hide (copy_spec ca cc cs da dc ds w1 (HM.out.kept HK1.out) HDO.out)
  go_wp2_with fail
  refine (unhide HCp).mono ?_
  rintro x w2 ⟨v1, v2, rfl, hcr, hk2⟩
  obtain ⟨nb, nw, O, e1, e2, n1, n2, g1, g2, hP, o1, o2, hO⟩ := hcr.bound (by have := hk2.size; omega)
  have HE1 := hide e1
  have HE2 := hide e2
  have HN1 := hide n1
  have HN2 := hide n2
  have HG1 := hide g1
  have HG2 := hide g2
  have HP := hide hP
  have HO1 := hide o1
  have HO2 := hide o2
  have HK2 := hide hk2
  obtain ⟨a1, c1, rfl, _⟩ := g1.cells
  obtain ⟨a2, c2, rfl, _⟩ := g2.writes
  have hnl : nw.length ≤ 1048576 := by have : nw.length = ds.length := by simpa using congrArg List.length e2
                                       omega
  have HR2 : Hid (Room w2 (w.heap.size + 1) 2) := HR1.out.kept hk2 hz1
  have hz2 : w.heap.size + 1 < w2.heap.size := by have := hk2.size; omega
  clear hcr e1 e2 n1 n2 g1 g2 hP o1 o2 hk2 d0 d1 HCp
  go_wp2_with fail
  have HVz : Hid ((w2.alloc (.cells #[.slice a1 nb.length c1, .slice a2 nw.length c2] 26)).heap.size = w2.heap.size + 1) := by show _ = _; rw [World.size_alloc]
  have HKa := hide (Keeps.alloc (Keeps.refl w2) (.cells #[.slice a1 nb.length c1, .slice a2 nw.length c2] 26))
  have HRV := hide (Room.of_row (row_new w2 #[.slice a1 nb.length c1, .slice a2 nw.length c2] 26))
  have HV0 : Hid ((w2.alloc (.cells #[.slice a1 nb.length c1, .slice a2 nw.length c2] 26)).cell? ⟨w2.heap.size, 0, none⟩ = some (.slice a1 nb.length c1)) := by show _ = _; simp
  have HV1 : Hid ((w2.alloc (.cells #[.slice a1 nb.length c1, .slice a2 nw.length c2] 26)).cell? ⟨w2.heap.size, 1, none⟩ = some (.slice a2 nw.length c2)) := by show _ = _; simp
  generalize hV : w2.alloc (.cells #[.slice a1 nb.length c1, .slice a2 nw.length c2] 26) = V at *
  clear hV
  have hkd : Keeps V V.drew := (Keeps.refl V).drew
  obtain ⟨a3, c3, w3, hr3, hn3, hb3, hk3⟩ := run_bys V.drew ba bc bL 22 ((((HBy.out.kept HK1.out).kept HK2.out).kept HKa.out).kept hkd) HBN.out (Nat.le_trans hbl (by decide))
  have HK3 := hide (HKa.out.trans (hkd.trans hk3))
  have hb3' : Born w2 w3 [(a3, bys bL)] := hb3.old (HKa.out.trans hkd)
  have hb3V : ∀ b ∈ fp [(a3, bys bL)], w2.heap.size < b := fun b hb => by have h1 : V.heap.size ≤ b := hb3.new b hb; have := HVz.out; omega
  obtain ⟨v4, w4, hr4, ho4, hg4, hv4⟩ := run_write w3 w1.heap.size (.slice a2 nw.length c2) nw.length (wcells nw) (.int .i64 i) (.slice a3 bL.length c3) rfl rfl 24 (owns_kept HK3.out HG2.out.row) (by omega) (HK2.out.trans HK3.out).size
  have HS4 := hide (HG2.out.snoc HK3.out (x := Wr.mk i (Bs.mk a3 c3 bL)) hb3'.toOwn hb3'.new hg4 ho4 hv4)
  have hz3 : w2.heap.size < w3.heap.size := by have := HVz.out; have := (hkd.trans hk3).size; omega
  have HP4 := hide (HP.out.snoc (x := Wr.mk i (Bs.mk a3 c3 bL)) (v' := v4) (n := w2.heap.size) (m := (w3.alloc (.cells #[.int .i64 i, .slice a3 bL.length c3] 86)).heap.size) hb3'.new hO (by simp; omega) hv4)
  have HQ4 : Hid (∀ g, v4.ownBlock = some g → g ≠ w2.heap.size) := fun g hg => by
    rcases hv4 with hv4 | hv4
    · rw [hv4] at hg; have := (HG2.out.row.lt g hg).2; omega
    · rw [hv4] at hg; have := Option.some.inj hg; simp at this; omega
  obtain ⟨a4, c4, rfl, _⟩ := HS4.out.writes
  have hlen : (nw ++ [Wr.mk i (Bs.mk a3 c3 bL)]).length = nw.length + 1 := by simp
  rw [hlen] at hr4 HS4 HP4 HQ4
  have HTu : Hid (Turn (Value.ownBlock (.slice a2 nw.length c2)).toList w2 w4) := by
    refine ((Turn.of_keeps (HK3.out.trans (Keeps.alloc (Keeps.refl w3) (.cells #[.int .i64 i, .slice a3 bL.length c3] 86))) _).trans' (Turn.of_grown hg4 (fun k hk' => by rw [hk']; simp)))
  have HTV : Hid (Turn (Value.ownBlock (.slice a2 nw.length c2)).toList V w4) := by
    refine ((Turn.of_keeps ((hkd.trans hk3).trans (Keeps.alloc (Keeps.refl w3) (.cells #[.int .i64 i, .slice a3 bL.length c3] 86))) _).trans' (Turn.of_grown hg4 (fun k hk' => by rw [hk']; simp)))
  have HNo : Hid (∀ b, (b ≤ O ∨ w2.heap.size ≤ b) → b ∉ (Value.ownBlock (.slice a2 nw.length c2)).toList) := fun b hb hx => by
    have h1 : Value.ownBlock (.slice a2 nw.length c2) = some b := by simpa using hx
    have := HP.out.1 b h1
    have := (HG2.out.row.lt b h1).2
    omega
  have HG1' : Hid (LG 93 1 Bs.cells Bs.seg w1 w4 (.slice a1 nb.length c1) nb) := HG1.out.turned HTu.out (fun g hg => HNo.out g (Or.inl (HO1.out g hg))) (fun b hb => HNo.out b (Or.inl (HO2.out b hb))) (fun b hb => by
    have h1 : Value.ownBlock (.slice a2 nw.length c2) = some b := by simpa using hb
    exact (HG2.out.row.lt b h1).1)
  have HRV4 : Hid (Room w4 w2.heap.size 2) := room_turn HRV.out HTV.out (HNo.out _ (Or.inr (Nat.le_refl _))) (by have := HVz.out; omega)
  have HRR4 : Hid (Room w4 (w.heap.size + 1) 2) := by
    refine room_turn HR2.out HTu.out (fun hx => ?_) hz2
    have h1 : Value.ownBlock (.slice a2 nw.length c2) = some (w.heap.size + 1) := by simpa using hx
    have := (HG2.out.row.lt _ h1).1
    omega
  have HR3 := hide hr3
  have HR4 := hide hr4
  have HN3 := hide hn3
  have s0 := HV0.out
  have s1 := HV1.out
  have s2 := (hkd.trans hk3).cell HV1.out
  have s3 := HTV.out.cell (p := ⟨w2.heap.size, 0, none⟩) (HNo.out _ (Or.inr (Nat.le_refl _))) HV0.out
  have s4 := HTV.out.cell (p := ⟨w2.heap.size, 1, none⟩) (HNo.out _ (Or.inr (Nat.le_refl _))) HV1.out
  have s5 := HRV4.out.free 1
  have l0 : w2.heap.size < V.heap.size := by have := HVz.out; omega
  have l4 := HTu.out.size
  have HB3 := hide hb3V
  clear hr3 hr4 hn3 hb3 hk3 hb3' ho4 hg4 hv4 hkd hb3V hlen
  go_region_law (first
    | (refine step_append_run (by rfl) (.tmp 18) (.tmp 19) _ _ (by rfl) _ _ (by rfl) (by rfl) (.slice a3 bL.length c3) w3 HR3.out ?_)
    | (refine step_append_run (by rfl) (.tmp 16) (.tmp 22) _ _ (by rfl) _ _ (by rfl) (by rfl) _ w4 HR4.out ?_))
  all_goals
    have HS5 : Hid (LG 86 2 Wr.cells Wr.seg w1 (w4.setCell ⟨w2.heap.size, 1, none⟩ (.slice a4 (nw.length + 1) c4)) (.slice a4 (nw.length + 1) c4) (nw ++ [Wr.mk i (Bs.mk a3 c3 bL)])) :=
      HS4.out.turned (Turn.set (fs := [w2.heap.size]) (by simp) _) (fun g hg hx => HQ4.out g hg (by simpa using hx)) (fun b hb hx => by
        have hx' : b = w2.heap.size := by simpa using hx
        rw [List.map_append, fp_append] at hb
        rcases List.mem_append.1 hb with hb | hb
        · have := HG2.out.inner.mem.lt b hb; omega
        · have := HB3.out b hb; omega) (fun b hb => by simp at hb; have := HK2.out.size; omega)
    have HG5 : Hid (LG 93 1 Bs.cells Bs.seg w1 (w4.setCell ⟨w2.heap.size, 1, none⟩ (.slice a4 (nw.length + 1) c4)) (.slice a1 nb.length c1) nb) :=
      HG1'.out.turned (Turn.set (fs := [w2.heap.size]) (by simp) _) (fun g hg hx => by have := HO1.out g hg; simp at hx; omega) (fun b hb hx => by have := HO2.out b hb; simp at hx; omega) (fun b hb => by simp at hb; have := HK2.out.size; omega)
    have t0 : (w4.setCell ⟨w2.heap.size, 1, none⟩ (.slice a4 (nw.length + 1) c4)).cell? ⟨w2.heap.size, 0, none⟩ = some (.slice a1 nb.length c1) := by rw [World.cell?_setCell_other _ _ _ _ (by simp)]; exact s3
    have t1 : (w4.setCell ⟨w2.heap.size, 1, none⟩ (.slice a4 (nw.length + 1) c4)).cell? ⟨w2.heap.size, 1, none⟩ = some (.slice a4 (nw.length + 1) c4) := World.cell?_setCell_same _ _ _ s4
    have HR5 : Hid (Room (w4.setCell ⟨w2.heap.size, 1, none⟩ (.slice a4 (nw.length + 1) c4)) (w.heap.size + 1) 2) := room_turn HRR4.out (Turn.set (fs := [w2.heap.size]) (by simp) _) (by simp; omega) (by omega)
    have z5 : w.heap.size + 1 < (w4.setCell ⟨w2.heap.size, 1, none⟩ (.slice a4 (nw.length + 1) c4)).heap.size := by simp [World.setCell]; omega
    generalize w4.setCell ⟨w2.heap.size, 1, none⟩ (.slice a4 (nw.length + 1) c4) = w5 at *
    go_wp2_with fail
    have hlen : (nw ++ [Wr.mk i (Bs.mk a3 c3 bL)]).length = nw.length + 1 := by simp
    have hdat : dat nb (nw ++ [Wr.mk i (Bs.mk a3 c3 bL)]) = ⟨(dat cs ds).cells, (dat cs ds).dirty ++ [(i, bL)]⟩ := by
      unfold dat
      rw [List.map_append, HE1.out, HE2.out]; rfl
    have hq := diskok_spec a1 c1 nb a4 c4 (nw ++ [Wr.mk i (Bs.mk a3 c3 bL)]) w5 (lg_mem HG5.out HS5.out rfl (by rw [hlen])) (like_len HE1.out HDO.out) (by rw [hlen]; omega) (like_lens HE1.out HDO.out) (by
      intro x hx
      rcases List.mem_append.1 hx with hx | hx
      · exact likeW_lens HE2.out HDO.out x hx
      · rw [List.mem_singleton.1 hx]; exact Nat.le_trans hbl (by decide))
    rw [hlen, dok_dat, hdat, dokM_add HOk.out] at hq
    refine hq.mono ?_
    rintro x w6 ⟨rfl, hk6⟩
    have HK6 := hide hk6
    have HR6 : Hid (Room w6 (w.heap.size + 1) 2) := HR5.out.kept hk6 z5
    have u0 := hk6.cell t0
    have u1 := hk6.cell t1
    obtain ⟨y0, r0⟩ := HR6.out.cell 0 (by decide)
    obtain ⟨y1, r1⟩ := HR6.out.cell 1 (by decide)
    have f0 := HR6.out.free 0
    have f1 := HR6.out.free 1
    have HKw : Hid (Keeps w w6) := (HKA.out.trans HK1.out).trans (HG5.out.keeps.trans hk6)
    have HDt := hide hdat
    clear hq hk6 t0 t1 s0 s1 s2 s3 s4 s5 hlen hdat
    cases hwb : writeB (dat cs ds) i bL
    · have HB := hide hwb
      clear hwb
      go_wp2_with fail
      have e0 : ((w6.setCell ⟨w.heap.size + 1, 0, none⟩ (.slice none 0 0)).setCell ⟨w.heap.size + 1, 1, none⟩ (.slice none 0 0)).cell? ⟨w.heap.size + 1, 0, none⟩ = some (.slice none 0 0) := by
        rw [World.cell?_setCell_other _ _ _ _ (by simp)]; exact World.cell?_setCell_same _ _ _ r0
      have e1 : ((w6.setCell ⟨w.heap.size + 1, 0, none⟩ (.slice none 0 0)).setCell ⟨w.heap.size + 1, 1, none⟩ (.slice none 0 0)).cell? ⟨w.heap.size + 1, 1, none⟩ = some (.slice none 0 0) :=
        World.cell?_setCell_same _ _ _ (by rw [World.cell?_setCell_other _ _ _ _ (by simp)]; exact r1)
      have HS : Hid (Turn [w.heap.size + 1] w6 ((w6.setCell ⟨w.heap.size + 1, 0, none⟩ (.slice none 0 0)).setCell ⟨w.heap.size + 1, 1, none⟩ (.slice none 0 0))) := (Turn.set (by simp) _).trans' (Turn.set (by simp) _)
      clear r0 r1 f0 f1
      revert e0 e1 HS
      generalize World.setCell _ _ _ = W
      intro e0 e1 HS
      refine bodyPost_ret (v := .tuple #[.agg #[.slice none 0 0, .slice none 0 0], .bool false]) (by simp [results, Tryz.results40, go_sem, e0, e1]) rfl ?_
      refine WritePost.no HB.out (HS.out.keeps HKw.out (fun b hb => ?_))
      simp at hb
      omega
    · have HB := hide hwb
      clear hwb
      go_wp2_with fail
      have e0 : ((w6.setCell ⟨w.heap.size + 1, 0, none⟩ (.slice a1 nb.length c1)).setCell ⟨w.heap.size + 1, 1, none⟩ (.slice a4 (nw.length + 1) c4)).cell? ⟨w.heap.size + 1, 0, none⟩ = some (.slice a1 nb.length c1) := by
        rw [World.cell?_setCell_other _ _ _ _ (by simp)]; exact World.cell?_setCell_same _ _ _ r0
      have e1 : ((w6.setCell ⟨w.heap.size + 1, 0, none⟩ (.slice a1 nb.length c1)).setCell ⟨w.heap.size + 1, 1, none⟩ (.slice a4 (nw.length + 1) c4)).cell? ⟨w.heap.size + 1, 1, none⟩ = some (.slice a4 (nw.length + 1) c4) :=
        World.cell?_setCell_same _ _ _ (by rw [World.cell?_setCell_other _ _ _ _ (by simp)]; exact r1)
      have HS : Hid (Turn [w.heap.size + 1] w6 ((w6.setCell ⟨w.heap.size + 1, 0, none⟩ (.slice a1 nb.length c1)).setCell ⟨w.heap.size + 1, 1, none⟩ (.slice a4 (nw.length + 1) c4))) := (Turn.set (by simp) _).trans' (Turn.set (by simp) _)
      clear r0 r1 f0 f1
      revert e0 e1 HS
      generalize World.setCell _ _ _ = W
      intro e0 e1 HS
      refine bodyPost_ret (v := .tuple #[.agg #[.slice a1 nb.length c1, .slice a4 (nw.length + 1) c4], .bool true]) (by simp [results, Tryz.results40, go_sem, e0, e1]) rfl ?_
      have hR : ∀ b ∈ [w.heap.size + 1], b < w1.heap.size := fun b hb => by simp at hb; omega
      have hap1 : ∀ b, w1.heap.size ≤ b → b ∉ [w.heap.size + 1] := fun b hb hx => by have := hR b hx; omega
      have g5 := (HG5.out.kept HK6.out).turned' HS.out hap1
      have g6 := (HS5.out.kept HK6.out).turned' HS.out hap1
      have hokk : dokM (dat nb (nw ++ [Wr.mk i (Bs.mk a3 c3 bL)])) = true := by rw [HDt.out, dokM_add HOk.out]; exact HB.out
      have hres := diskres_two' g5 g6 HP4.out HO1.out HO2.out hokk HN1.out (by
        intro x hx
        rcases List.mem_append.1 hx with hx | hx
        · exact HN2.out x hx
        · rw [List.mem_singleton.1 hx]; exact HN3.out)
      rw [HDt.out] at hres
      refine WritePost.yes HB.out (hres.old (HKA.out.trans HK1.out)) (HS.out.keeps HKw.out (fun b hb => ?_))
      simp at hb
      omega
end Go.Proofs.YtdlgoccbmemjgaaGreatDoor
namespace Go.Proofs.YtdlgoccbmemjgaaGreatDoor
open Go.RowKit Go.Deep
set_option linter.unusedVariables false
set_option linter.unusedSimpArgs false
set_option maxRecDepth 10000

theorem own_byte {w : World} {G : Nat} {Y : List UInt8} (h : Own w [(some ⟨G, 0, none⟩, bys Y)]) (i : Nat) (hi : i < Y.length) (x : UInt8) : Own (w.setCell ⟨G, i, none⟩ (byV x)) [(some ⟨G, 0, none⟩, bys (Y.set i x))] := by
  have hc : ∀ j (hj : j < (bys Y).length), w.cell? ⟨G, j, none⟩ = some (bys Y)[j] := by
    intro j hj
    have := cell_at h.mem j hj
    rwa [Nat.zero_add] at this
  have e : bys (Y.set i x) = (bys Y).set i (byV x) := by simp [bys, List.map_set]
  rw [e]
  refine h.wrote (by simp) (Or.inr ⟨G, 0, rfl, fun j hj => ?_⟩) (fun p => frozen_set _ _ _ _)
  rw [List.length_set] at hj
  rw [Nat.zero_add, List.getElem_set]
  by_cases e : i = j
  · subst e
    rw [if_pos rfl]
    exact World.cell?_setCell_same _ _ _ (hc i hj)
  · rw [if_neg e, World.cell?_setCell_other _ _ _ _ (fun h => e (by injection h))]
    exact hc j hj
theorem own_other {w : World} {S : List Seg} (h : Own w S) {a : Addr} (v : Value) (hn : ∀ x ∈ fp S, x ≠ a.block) : Own (w.setCell a v) S := h.turn (Turn.set (fs := [a.block]) (by simp) v) (fun x hx hb => hn x hx (by simpa using hb))
theorem fp_single {R : Nat} {xs : List Value} : ∀ x ∈ fp [((some ⟨R, 0, none⟩ : Option Addr), xs)], x = R := fun x hx => by
  rw [fp_one] at hx
  by_cases h0 : xs = []
  · simp [fpS, h0] at hx
  · rw [fpS_some h0] at hx
    simpa using hx
theorem land_step {X F : List UInt8} {j : Nat} (hX : X.length = 128) (hF : F.length = 128) (hj : j < 128) : (X.take j ++ F.drop j).set j (X[j]'(by omega)) = X.take (j + 1) ++ F.drop (j + 1) := by
  have h1 : (X.take j).length = j := by rw [List.length_take]; omega
  have e1 : F.drop j = F[j]'(by omega) :: F.drop (j + 1) := List.drop_eq_getElem_cons (by omega)
  have e2 : X.take (j + 1) = X.take j ++ [X[j]'(by omega)] := List.take_succ_eq_append_getElem (by omega)
  rw [List.set_append_right _ _ (by omega), h1, Nat.sub_self, e1, List.set_cons_zero, e2, List.append_assoc]
  rfl
theorem fullL_len {L : List UInt8} (h : L.length = 0 ∨ L.length = 128) : (fullL L).length = 128 := by
  unfold fullL
  split
  · simp
  · rename_i hne
    rcases h with h | h
    · exact absurd (List.length_eq_zero_iff.1 h) hne
    · exact h
theorem keepN_pos {K : List Int} {k : Nat} (h : k < K.length) (h1 : 1 ≤ K[k]) : (keepN K k : Int) = (if 128 < K[k] then 128 else K[k]) := by
  unfold keepN
  rw [List.getElem?_eq_getElem h]
  simp only
  rw [if_neg (by omega)]
  by_cases h2 : 128 < K[k]
  · rw [if_pos h2, if_pos h2]; rfl
  · rw [if_neg h2, if_neg h2]; omega
theorem keepN_zero {K : List Int} {k : Nat} (h : k < K.length → K[k]! < 1) : keepN K k = 0 := by
  unfold keepN
  by_cases hk : k < K.length
  · have h1 := h hk
    rw [getElem!_pos K k hk] at h1
    rw [List.getElem?_eq_getElem hk]
    simp only
    by_cases h2 : K[k] < 0
    · rw [if_pos h2]
    · rw [if_neg h2, if_neg (by omega)]; omega
  · rw [List.getElem?_eq_none (by omega)]

set_option maxHeartbeats 16000000 in
theorem diskcrash_spec (ca : Option Addr) (cc : Nat) (cs : List Bs) (da : Option Addr) (dc : Nat) (ds : List Wr) (ka : Option Addr) (kc : Nat) (K : List Int) (w : World) (hm : Mem w (dsk ca cs da ds)) (h : DOk cs ds) (hk : Cells w ka (its K)) (hkl : K.length ≤ 1048576) :
    Calls Tryz.prog 50 #[dskV ca cs.length cc da ds.length dc, .slice ka K.length kc] w fun e w' => ∃ v, e = .returned v ∧ DiskRes w w' v (crashM (dat cs ds) (keepN K)) ∧ Keeps w w' := by
  have HKA := hide (Keeps.alloc (Keeps.alloc (Keeps.refl w) (.cells #[.slice ca cs.length cc, .slice da ds.length dc] 26)) (.cells #[.slice none 0 0, .slice none 0 0] 26))
  have HM := hide (hm.kept HKA.out)
  have HD : Hid (∀ w', Keeps ((w.alloc (.cells #[.slice ca cs.length cc, .slice da ds.length dc] 26)).alloc (.cells #[.slice none 0 0, .slice none 0 0] 26)) w' → w'.cell? ⟨w.heap.size, 0, none⟩ = some (.slice ca cs.length cc) ∧ w'.cell? ⟨w.heap.size, 1, none⟩ = some (.slice da ds.length dc)) :=
    fun w' hk => ⟨hk.cell (by simp), hk.cell (by simp)⟩
  have HZ : Hid (((w.alloc (.cells #[.slice ca cs.length cc, .slice da ds.length dc] 26)).alloc (.cells #[.slice none 0 0, .slice none 0 0] 26)).heap.size = w.heap.size + 1 + 1) := by show _ = _; rw [World.size_alloc, World.size_alloc]
  have HR := hide ((born_alloc (w.alloc (.cells #[.slice ca cs.length cc, .slice da ds.length dc] 26)) #[.slice none 0 0, .slice none 0 0] 26).toOwn)
  rw [World.size_alloc] at HR
  have HQ := hide (diskok_spec' ca cc cs da dc ds _ HM.out h)
  have HDO := hide h
  have hdl := h.d
  have HKP := hide (hk.kept HKA.out)
  have HF : Hid (∀ i : Nat, keepN K i ≤ 128) := keepN_le K
  clear hm h hk
  go_enter Tryz.func50, Tryz.ntmps50
  go_wp2_with fail
  generalize (w.alloc (.cells #[.slice ca cs.length cc, .slice da ds.length dc] 26)).alloc (.cells #[.slice none 0 0, .slice none 0 0] 26) = W0 at *
  refine (unhide HQ).mono ?_
  rintro x w1 ⟨rfl, hk1⟩
  have HK1 := hide hk1
  obtain ⟨d0, d1⟩ := HD.out _ hk1
  have HR1 := hide (HR.out.kept hk1)
  have hz1 : w.heap.size + 1 < w1.heap.size := by have := hk1.size; have := HZ.out; omega
  clear hk1 HR
  cases hok : dokM (dat cs ds)
  · have HC : Hid (crashM (dat cs ds) (keepN K) = noneM) := by show _ = _; unfold crashM; rw [hok]; rfl
    have hO := HR1.out
    have r0 := cell_at hO.mem 0 (by simp)
    have r1 := cell_at hO.mem 1 (by simp)
    simp only [Nat.zero_add, List.getElem_cons_zero, List.getElem_cons_succ] at r0 r1
    have fR : ∀ i, w1.frozen? ⟨w.heap.size + 1, i, none⟩ = false := hO.free (w.heap.size + 1) (by rw [fp_one, fpS_some (by simp)]; simp)
    have HKF := hide (((HKA.out.trans HK1.out).setCell (p := ⟨w.heap.size + 1, 0, none⟩) (Nat.le_succ _) (.slice none 0 0)).setCell (p := ⟨w.heap.size + 1, 1, none⟩) (Nat.le_succ _) (.slice none 0 0))
    have E0 : Hid (((w1.setCell ⟨w.heap.size + 1, 0, none⟩ (.slice none 0 0)).setCell ⟨w.heap.size + 1, 1, none⟩ (.slice none 0 0)).cell? ⟨w.heap.size + 1, 0, none⟩ = some (.slice none 0 0)) := by
      show _ = _
      rw [World.cell?_setCell_other _ _ _ _ (by simp)]; exact World.cell?_setCell_same _ _ _ r0
    have E1 : Hid (((w1.setCell ⟨w.heap.size + 1, 0, none⟩ (.slice none 0 0)).setCell ⟨w.heap.size + 1, 1, none⟩ (.slice none 0 0)).cell? ⟨w.heap.size + 1, 1, none⟩ = some (.slice none 0 0)) := by
      show _ = _
      refine World.cell?_setCell_same _ _ _ (u := .slice none 0 0) ?_
      rw [World.cell?_setCell_other _ _ _ _ (by simp)]; exact r1
    clear hO hok
    go_wp2_with fail
    have e0 := E0.out
    have e1 := E1.out
    have hK := HKF.out
    clear r0 r1 fR E0 E1 HKF
    revert e0 e1 hK
    generalize (w1.setCell ⟨w.heap.size + 1, 0, none⟩ (.slice none 0 0)).setCell ⟨w.heap.size + 1, 1, none⟩ (.slice none 0 0) = W
    intro e0 e1 hK
    refine bodyPost_ret (v := dskV none 0 0 none 0 0) (by simp [results, Tryz.results50, go_sem, e0, e1]) rfl ⟨_, rfl, ?_, hK⟩
    rw [HC.out]
    exact diskres_none w W
  have HOK := hide hok
  have hcl1 : 1 ≤ cs.length := by have := (dokM_len hok).1; simpa [dat] using this
  clear hok
  go_wp2_with fail
  refine (copy_spec ca cc cs da dc ds w1 (HM.out.kept HK1.out) HDO.out).mono ?_
  rintro x w2 ⟨v1, v2, rfl, hcr, hk2⟩
  obtain ⟨nb0, nw, O, e1, hq1, n1, hq2, g1, g2, hq3⟩ := hcr
  clear hq1 hq2 hq3
  have hl0 : nb0.length = cs.length := by simpa using congrArg List.length e1
  obtain ⟨g, gc, hv1, hgo, hcx, hfx, hg0, hg1⟩ := g1.slice (p := 0) (by omega)
  clear hcx hfx
  obtain ⟨a2, c2, hv2, hwx⟩ := g2.writes
  clear hwx
  rw [hl0] at hv1
  subst hv1 hv2
  have HE1 := hide e1
  have HN1 := hide n1
  have HK2 := hide hk2
  have HGO : Hid (∀ n c, Value.ownBlock (.slice (some ⟨g, 0, none⟩) n c) = some g) := fun n c => by simp [Value.ownBlock]
  have hbO := born_alloc w2 #[.slice (some ⟨g, 0, none⟩) cs.length gc, .slice none 0 0] 26
  dsimp only at hbO
  have hkO := Keeps.alloc (Keeps.refl w2) (.cells #[.slice (some ⟨g, 0, none⟩) cs.length gc, .slice none 0 0] 26)
  have HLG0 := hide (g1.kept hkO)
  have HOO := hide hbO.toOwn
  have HKO := hide (hk2.trans hkO)
  obtain ⟨_, dd1⟩ := HD.out _ (HK1.out.trans hk2)
  have hz2 : w1.heap.size ≤ w2.heap.size := hk2.size
  have hz3 : w.heap.size < w2.heap.size := by omega
  have hgO : g < w2.heap.size := hg1
  clear e1 n1 g1 g2 hkO hbO d0 d1 hk2 hl0 hgo
  go_wp2_with fail
  generalize w2.alloc (.cells #[.slice (some ⟨g, 0, none⟩) cs.length gc, .slice none 0 0] 26) = w3 at *
  generalize hOe : w2.heap.size = O at *
  clear dd1 hOe
  go_loopw [21] (fun y wr => ∃ k : Nat, k ≤ ds.length ∧ y = .int .i64 (k : Int) ∧ Hid (∃ nb, nb.map Bs.L = crashTo (cs.map Bs.L) (ds.map Wr.key) (keepN K) k ∧ (∀ b ∈ nb, b.fit) ∧ LG 93 1 Bs.cells Bs.seg w1 wr (.slice (some ⟨g, 0, none⟩) cs.length gc) nb) ∧ Hid (Own wr [(some ⟨O, 0, none⟩, [.slice (some ⟨g, 0, none⟩) cs.length gc, .slice none 0 0])])) (fun y _ => ds.length - (intOf y).toNat)
  case atStart => exact ⟨0, by omega, rfl, ⟨nb0, HE1.out, HN1.out, HLG0.out⟩, HOO⟩
  case round =>
    obtain ⟨k, hk, rfl, HH, HOr⟩ := hrel
    obtain ⟨nb, hnL, hnf, hLG⟩ := HH.out
    have hkw : Keeps W0 wr := HK1.out.trans hLG.keeps
    have HLr := hide hLG
    have HNr := hide hnL
    have HFr := hide hnf
    have HKr := hide hkw
    clear hnL hnf hLG HH HOO HLG0 HE1 HN1
    by_cases hlt : k < ds.length
    · have hmm := dsk_mem (HM.out.kept hkw)
      obtain ⟨b, off, ea, c0, c1⟩ := cell2 hmm.2.2.1 k hlt
      obtain ⟨p, hp, hpc, hL⟩ := dirty_at HOK.out k hlt
      have hseg : Cells wr ds[k].b.a (bys ds[k].b.L) := hmm.2.2.2 ds[k].seg (List.mem_map.2 ⟨ds[k], List.getElem_mem hlt, rfl⟩)
      obtain ⟨xb, xo, exa⟩ : ∃ xb xo, ds[k].b.a = some ⟨xb, xo, none⟩ := by
        rcases hseg with h' | ⟨b', o', e', _⟩
        · rw [bys_nil] at h'; rw [h'] at hL; simp at hL
        · exact ⟨b', o', e'⟩
      rw [hp] at c0
      rw [show ds[k].b.v = .slice (some ⟨xb, xo, none⟩) 128 ds[k].b.cap by unfold Bs.v; rw [exa, hL]] at c1
      rw [exa] at hseg
      subst ea
      have hlen : nb.length = cs.length := by
        have := congrArg List.length HNr.out
        rw [List.length_map, crashTo_len, List.length_map] at this
        exact this
      have hpn : p < nb.length := by omega
      have HLen := hide hlen
      clear hlen
      have hcell : nb[p].L.length = 0 ∨ nb[p].L.length = 128 := by
        have h2 := crashTo_ok HOK.out HF.out k
        have h3 : nb[p].L ∈ crashTo (dat cs ds).cells (dat cs ds).dirty (keepN K) k := by
          show _ ∈ crashTo (cs.map Bs.L) (ds.map Wr.key) (keepN K) k
          rw [← HNr.out]
          exact List.mem_map.2 ⟨nb[p], List.getElem_mem _, rfl⟩
        exact h2 _ h3
      have HNext : Hid (∀ n, keepN K k = n → crashTo (cs.map Bs.L) (ds.map Wr.key) (keepN K) (k + 1) = landM (nb.map Bs.L) ((p : Int), ds[k].b.L) n) := fun n hn => by
        subst hn
        rw [crashTo_next hlt, ← HNr.out]
        unfold Wr.key
        rw [hp]
      have HSeg := hide hseg
      have HLx := hide hL
      have hxc : ds[k].b.cap = ds[k].b.cap := rfl
      generalize ds[k].b.cap = xc at *
      generalize ds[k].b.L = xL at *
      have hka := Keeps.alloc (Keeps.refl wr) (.cells #[.int .i64 (p : Int), .slice (some ⟨xb, xo, none⟩) 128 xc] 86)
      have HLk := hide (HLr.out.kept hka)
      have HOk2 := hide (HOr.out.kept hka)
      clear hmm hp hseg exa hkw hL hxc
      have hdl2 : (ds.length : Int) ≤ 1048576 := by omega
      by_cases hgo : k < K.length ∧ 1 ≤ K[k]!
      · obtain ⟨hkk, h1v⟩ := hgo
        rw [getElem!_pos K k hkk] at h1v
        obtain ⟨kb, ko, eka, ck⟩ := its_at (HKP.out.kept HKr.out) k hkk
        have HNK := hide (keepN_pos hkk h1v)
        have HN1 := hide (keepN_le K k)
        have HNx := hide (HNext.out (keepN K k) rfl)
        subst eka
        generalize keepN K k = nk at *
        generalize K[k] = kv at *
        obtain ⟨g', gc', hvx, hgo', cN, fN, hg0', hg1'⟩ := HLr.out.slice (p := p) hpn
        injection hvx with hvx1 hvx2 hvx3
        have hvx4 := Option.some.inj hvx1
        injection hvx4 with hvx5
        subst hvx5
        rw [show nb[p].v = .slice nb[p].a nb[p].L.length nb[p].cap from rfl] at cN
        have HI : Hid (Cells (wr.alloc (.cells #[.int .i64 (p : Int), .slice (some ⟨xb, xo, none⟩) 128 xc] 86)) nb[p].a (bys nb[p].L)) := (HLr.out.inner.mem nb[p].seg (List.mem_map.2 ⟨nb[p], List.getElem_mem _, rfl⟩)).kept hka
        have HFu := hide (full_k nb[p].a nb[p].cap nb[p].L _ HI.out (HFr.out nb[p] (List.getElem_mem _)).1 (by omega))
        have cO := (cell_at HOr.out.mem 0 (by simp))
        simp only [Nat.zero_add, List.getElem_cons_zero] at cO
        have hpI : (p : Int) < (cs.length : Int) := by omega
        have hOl := lt_of_cell cO
        have hkbl := lt_of_cell ck
        clear HNext hvx1 hvx2 hvx3 hgo'
        go_wp2_with fail
        refine (unhide HFu).mono ?_
        rintro x w5 ⟨vb, rfl, hob, hk5⟩
        have hfl := fullL_len hcell
        obtain ⟨G, cb, hvb, hGb, hGl⟩ : ∃ G cb, vb = .slice (some ⟨G, 0, none⟩) 128 cb ∧ wr.heap.size + 1 ≤ G ∧ 128 ≤ cb := by
          rcases hob.2 with ⟨_, h0⟩ | ⟨G, cb, cur, rfl, hb, _, hn, _⟩
          · rw [hfl] at h0; cases h0
          · rw [hfl] at hn
            refine ⟨G, cb, by rw [hfl], ?_, hn⟩
            have : (wr.alloc (.cells #[.int .i64 (p : Int), .slice (some ⟨xb, xo, none⟩) 128 xc] 86)).heap.size ≤ G := hb
            rwa [World.size_alloc] at this
        have hOb : Own w5 [(some ⟨G, 0, none⟩, bys (fullL nb[p].L))] := by
          obtain ⟨a', c', e', _, _, _, hown, _⟩ := Own.of_owns hob
          rw [hvb] at e'
          injection e' with e1 e2 e3
          subst e1
          exact hown
        rw [hvb]
        have HG5 := hide hOb
        have HK5 := hide hk5
        have HL5 := hide (HLk.out.kept hk5)
        have HO5 := hide (HOk2.out.kept hk5)
        have v0 := hk5.cell (p := ⟨wr.heap.size, 0, none⟩) (v := .int .i64 (p : Int)) (by simp)
        have v1' := hk5.cell (p := ⟨wr.heap.size, 1, none⟩) (v := .slice (some ⟨xb, xo, none⟩) 128 xc) (by simp)
        have HS5 := hide ((HSeg.out.kept hka).kept hk5)
        have HFL := hide hfl
        have HV0 := hide v0
        have HV1 := hide v1'
        have hwr5 : wr.heap.size + 1 ≤ w5.heap.size := by have := hk5.size; rwa [World.size_alloc] at this
        clear hvb hob hOb hk5 HFu HI cN fN cO c0 c1 ck v0 v1' hfl hka HLk HOk2
        have hnk0 : 1 ≤ nk := by
          have h := HNK.out
          by_cases h2 : 128 < kv
          · rw [if_pos h2] at h; omega
          · rw [if_neg h2] at h; omega
        have hxbl : xb < wr.heap.size := by
          obtain ⟨xb', xo', e', cx⟩ := bys_at HSeg.out 0 (by rw [HLx.out]; decide)
          have e2 := Option.some.inj e'
          injection e2 with e3 e4
          subst e3 e4
          exact lt_of_cell cx
        go_wp2_with fail
        generalize hva : wr.heap.size = va at *
        have HVA := hide hva
        clear hva
        go_loopw [10] (fun y wi => ∃ j : Nat, j ≤ nk ∧ y = .int .i64 (j : Int) ∧ Hid (Own wi [(some ⟨G, 0, none⟩, bys (xL.take j ++ (fullL nb[p].L).drop j))]) ∧ Hid (Turn [G] w5 wi)) (fun y _ => nk - (intOf y).toNat)
        case atStart => exact ⟨0, by omega, rfl, by show Own _ _; simpa using HG5.out, Turn.refl _ _⟩
        case round =>
          obtain ⟨j, hj, rfl, HGi, HTi⟩ := hrel
          have HGt := hide (fun (q : Addr) (hq : q.block ≠ G) (u : Value) (hc : w5.cell? q = some u) => HTi.out.cell (p := q) (by simpa using hq) hc)
          have v0 := HGt.out ⟨va, 0, none⟩ (by show va ≠ G; omega) _ HV0.out
          have v1' := HGt.out ⟨va, 1, none⟩ (by show va ≠ G; omega) _ HV1.out
          have HYl : Hid ((xL.take j ++ (fullL nb[p].L).drop j).length = 128) := by
            show _ = _
            have h1 := HN1.out
            rw [List.length_append, List.length_take, List.length_drop, HLx.out, HFL.out]; omega
          have fG := HGi.out.free G (by rw [fp_one, fpS_some (by rw [ne_eq, bys_nil]; intro e; have := HYl.out; rw [e] at this; simp at this)]; simp)
          by_cases hjn : j < nk
          · have hj128 : j < 128 := by have := HN1.out; omega
            have hjk : (j : Int) < kv := by
              have h := HNK.out
              by_cases h2 : 128 < kv
              · omega
              · rw [if_neg h2] at h; omega
            have hj2 : (j : Int) < 128 := by omega
            have hxlen : j < xL.length := by rw [HLx.out]; exact hj128
            obtain ⟨xb', xo', e', cx⟩ := bys_at HS5.out j hxlen
            have e2 := Option.some.inj e'
            injection e2 with e3 e4
            subst e3 e4
            have cx' := HGt.out ⟨xb, xo + j, none⟩ (by show xb ≠ G; omega) _ cx
            obtain ⟨u, cG⟩ : ∃ u, wr.cell? ⟨G, j, none⟩ = some u := by
              have := cell_at HGi.out.mem j (by rw [bys_length, HYl.out]; exact hj128)
              rw [Nat.zero_add] at this
              exact ⟨_, this⟩
            have HGn : Hid (Own (wr.setCell ⟨G, j, none⟩ (byV xL[j])) [(some ⟨G, 0, none⟩, bys (xL.take (j + 1) ++ (fullL nb[p].L).drop (j + 1)))]) := by
              show Own _ _
              rw [← land_step HLx.out HFL.out hj128]
              exact own_byte HGi.out j (by rw [HYl.out]; exact hj128) xL[j]
            have hb0 := byte_nn xL[j]
            have hb1 := byte_lt xL[j]
            have hbv : byV xL[j] = .int .u8 (xL[j].toNat : Int) := rfl
            rw [hbv] at HGn
            clear hbv cx e'
            generalize (xL[j].toNat : Int) = xx at *
            go_wp2_with fail
            go_roundw
            case rel => exact ⟨j + 1, by omega, by go_num, HGn, HTi.out.trans' (Turn.set (by simp) _)⟩
            case measure => simp [intOf]; omega
          · have hje : j = nk := by omega
            subst hje
            have HLi : Hid (LG 93 1 Bs.cells Bs.seg w1 wr (.slice (some ⟨g, 0, none⟩) cs.length gc) nb) := by
              refine HL5.out.turned HTi.out (fun g' hg' => ?_) (fun b' hb' => ?_) (fun b' hb' => ?_)
              · rw [HGO.out] at hg'
                have : g' = g := (Option.some.inj hg').symm
                simp; omega
              · have h1 := HLr.out.inner.mem.lt b' hb'
                rw [HVA.out] at h1
                simp; omega
              · simp at hb'
                omega
            have HOi := hide (HO5.out.turn HTi.out (fun x hx hb => by
              have e1 := fp_single x hx
              have e2 : x = G := by simpa using hb
              omega))
            obtain ⟨g', gc', hvx, hgo', cN, fN, hg0', hg1'⟩ := HLi.out.slice (p := p) hpn
            injection hvx with hvx1 hvx2 hvx3
            have hvx4 := Option.some.inj hvx1
            injection hvx4 with hvx5
            subst hvx5
            rw [show nb[p].v = .slice nb[p].a nb[p].L.length nb[p].cap from rfl] at cN
            have cO := cell_at HOi.out.mem 0 (by simp)
            simp only [Nat.zero_add, List.getElem_cons_zero] at cO
            have hll : (landL nb[p].L xL j).length = 128 := landL_len hcell HLx.out HN1.out
            have hu := HLi.out.upd hpn (HGO.out _ _) (x := ⟨some ⟨G, 0, none⟩, cb, landL nb[p].L xL j⟩) HGi.out (fun b' hb' => by
              have e : b' = G := fp_single b' hb'
              refine ⟨by omega, by omega, fun hm => ?_⟩
              have h1 := HLr.out.inner.mem.lt b' hm
              rw [HVA.out] at h1
              omega)
            rw [show (⟨some ⟨G, 0, none⟩, cb, landL nb[p].L xL j⟩ : Bs).v = .slice (some ⟨G, 0, none⟩) 128 cb from by unfold Bs.v; rw [hll]] at hu
            have HU := hide hu
            have HOu := hide (own_other (a := ⟨g, p, none⟩) HOi.out (.slice (some ⟨G, 0, none⟩) 128 cb) (fun x hx => by have := fp_single x hx; show x ≠ g; omega))
            have HFn : Hid (∀ b ∈ nb.set p ⟨some ⟨G, 0, none⟩, cb, landL nb[p].L xL j⟩, b.fit) := fun b' hb' => by
              rcases List.mem_or_eq_of_mem_set hb' with hb' | rfl
              · exact HFr.out b' hb'
              · exact ⟨(fun e => by cases e), (by rw [hll]; exact hGl)⟩
            have HMn : Hid ((nb.set p ⟨some ⟨G, 0, none⟩, cb, landL nb[p].L xL j⟩).map Bs.L = crashTo (cs.map Bs.L) (ds.map Wr.key) (keepN K) (k + 1)) := by
              show _ = _
              rw [HNx.out]
              unfold landM
              rw [if_neg (by omega), List.map_set]
              simp only [Int.toNat_natCast]
              rw [List.getD_eq_getElem?_getD, List.getElem?_map, List.getElem?_eq_getElem hpn]
              rfl
            clear hu hll hvx1 hvx2 hvx3 hgo' hg0' hg1'
            by_cases h2 : 128 < kv
            · have h3 : (j : Int) < kv := by
                have h := HNK.out
                rw [if_pos h2] at h
                omega
              have h4 : ¬ (j : Int) < 128 := by
                have h := HNK.out
                rw [if_pos h2] at h
                omega
              go_wp2_with fail
              go_roundw
              case rel => exact ⟨k + 1, by omega, by go_num, ⟨_, HMn.out, HFn.out, HU.out⟩, HOu⟩
              case measure => simp [intOf]; omega
            · have h3 : ¬ (j : Int) < kv := by
                have h := HNK.out
                rw [if_neg h2] at h
                omega
              go_wp2_with fail
              go_roundw
              case rel => exact ⟨k + 1, by omega, by go_num, ⟨_, HMn.out, HFn.out, HU.out⟩, HOu⟩
              case measure => simp [intOf]; omega
      · have HK0 : Hid (keepN K k = 0) := keepN_zero (fun hkk => by
          have : ¬ 1 ≤ K[k]! := fun h1 => hgo ⟨hkk, h1⟩
          omega)
        have HNx := hide (HNext.out 0 HK0.out)
        have HRel : Hid (nb.map Bs.L = crashTo (cs.map Bs.L) (ds.map Wr.key) (keepN K) (k + 1)) := by show _ = _; rw [HNx.out, landM_zero]
        by_cases hkk : k < K.length
        · obtain ⟨kb, ko, eka, ck⟩ := its_at (HKP.out.kept HKr.out) k hkk
          have h1v : K[k] < 1 := by
            have : ¬ 1 ≤ K[k]! := fun h1 => hgo ⟨hkk, h1⟩
            rw [getElem!_pos K k hkk] at this
            omega
          subst eka
          have hkbl := lt_of_cell ck
          generalize K[k] = kv at *
          clear HNext hgo
          go_wp2_with fail
          go_roundw
          case rel => exact ⟨k + 1, by omega, by go_num, ⟨nb, HRel.out, HFr.out, HLk.out⟩, HOk2⟩
          case measure => simp [intOf]; omega
        · have hkk2 : (K.length : Int) ≤ (k : Int) := by omega
          clear HNext hgo
          go_wp2_with fail
          go_roundw
          case rel => exact ⟨k + 1, by omega, by go_num, ⟨nb, HRel.out, HFr.out, HLk.out⟩, HOk2⟩
          case measure => simp [intOf]; omega
    · have e : k = ds.length := by omega
      subst e
      have hO := HR1.out.kept HLr.out.keeps
      have r0 := cell_at hO.mem 0 (by simp)
      have r1 := cell_at hO.mem 1 (by simp)
      have q0 := cell_at HOr.out.mem 0 (by simp)
      have q1 := cell_at HOr.out.mem 1 (by simp)
      simp only [Nat.zero_add, List.getElem_cons_zero, List.getElem_cons_succ] at r0 r1 q0 q1
      have fR : ∀ i, wr.frozen? ⟨w.heap.size + 1, i, none⟩ = false := hO.free (w.heap.size + 1) (by rw [fp_one, fpS_some (by simp)]; simp)
      have HT1 : Hid (Turn [w.heap.size + 1] wr ((wr.setCell ⟨w.heap.size + 1, 0, none⟩ (.slice (some ⟨g, 0, none⟩) cs.length gc)).setCell ⟨w.heap.size + 1, 1, none⟩ (.slice none 0 0))) := (Turn.set (by simp) _).trans' (Turn.set (by simp) _)
      have HKF := hide (((HKA.out.trans HKr.out).setCell (p := ⟨w.heap.size + 1, 0, none⟩) (Nat.le_succ _) (.slice (some ⟨g, 0, none⟩) cs.length gc)).setCell (p := ⟨w.heap.size + 1, 1, none⟩) (Nat.le_succ _) (.slice none 0 0))
      have E0 : Hid (((wr.setCell ⟨w.heap.size + 1, 0, none⟩ (.slice (some ⟨g, 0, none⟩) cs.length gc)).setCell ⟨w.heap.size + 1, 1, none⟩ (.slice none 0 0)).cell? ⟨w.heap.size + 1, 0, none⟩ = some (.slice (some ⟨g, 0, none⟩) cs.length gc)) := by
        show _ = _
        rw [World.cell?_setCell_other _ _ _ _ (by simp)]; exact World.cell?_setCell_same _ _ _ r0
      have E1 : Hid (((wr.setCell ⟨w.heap.size + 1, 0, none⟩ (.slice (some ⟨g, 0, none⟩) cs.length gc)).setCell ⟨w.heap.size + 1, 1, none⟩ (.slice none 0 0)).cell? ⟨w.heap.size + 1, 1, none⟩ = some (.slice none 0 0)) := by
        show _ = _
        refine World.cell?_setCell_same _ _ _ (u := .slice none 0 0) ?_
        rw [World.cell?_setCell_other _ _ _ _ (by simp)]; exact r1
      have HDR : Hid (∀ W, Turn [w.heap.size + 1] wr W → DiskRes w W (.agg #[.slice (some ⟨g, 0, none⟩) cs.length gc, .slice none 0 0]) (crashM (dat cs ds) (keepN K))) := fun W hT => by
        have hcm : crashM (dat cs ds) (keepN K) = ⟨nb.map Bs.L, []⟩ := by
          unfold crashM
          rw [if_pos HOK.out, HNr.out]
          simp [dat]
        rw [hcm]
        refine diskres_cells (HKA.out.trans HK1.out) HLr.out hT (fun b hb => ?_) ?_ HFr.out
        · simp at hb
          omega
        · rw [HNr.out]
          exact crash_dok HOK.out HF.out ds.length
      clear hO
      go_wp2_with fail
      have e0 := E0.out
      have e1 := E1.out
      have hT := HT1.out
      have hK := HKF.out
      clear r0 r1 fR E0 E1 HT1 HKF q0 q1
      revert e0 e1 hT hK
      generalize (wr.setCell ⟨w.heap.size + 1, 0, none⟩ (.slice (some ⟨g, 0, none⟩) cs.length gc)).setCell ⟨w.heap.size + 1, 1, none⟩ (.slice none 0 0) = W
      intro e0 e1 hT hK
      refine bodyPost_ret (v := .agg #[.slice (some ⟨g, 0, none⟩) cs.length gc, .slice none 0 0]) (by simp [results, Tryz.results50, go_sem, e0, e1]) rfl ⟨_, rfl, HDR.out W hT, hK⟩
end Go.Proofs.YtdlgoccbmemjgaaGreatDoor
namespace Go.Proofs.YtdlgoccbmemjgaaGreatDoor
open Go.RowKit Go.Deep
set_option linter.unusedVariables false
set_option maxRecDepth 10000

theorem its_append (K M : List Int) : its (K ++ M) = its K ++ its M := by simp [its]
theorem infoInt : (Tryz.prog.info? 3).map (fun i => (i.zero, i.size, i.bytes)) = some (some (.int .i64 0), 1, 8) := by kernel_rfl
theorem underInts : Tryz.prog.underlying 83 = some (.slice 3) := by kernel_rfl
abbrev OwnsI (w : World) (base : Nat) (v : Value) (L : List Int) : Prop := w.ownsRow base 3 1 v L.length (its L)
/-- append of a list of numbers to one of the call's own. -/
theorem app_its {ops : Array Oper} {rest : List Oper} {o : Oper} {a : Act} {Q : Exit → Act → World → Prop} {wr : World} (hgd : o.guard = none) (s x : Operand)
    (ho : o.op = .call { callee := .builtin .append, args := #[s, x], argTypes := #[83, 83] }) (base : Nat) (v : Value) (L M : List Int) (hs : a.eval s = v) (p : Addr) (c : Nat)
    (hx : a.eval x = .slice (some p) M.length c) (hM : ∀ j u, (its M)[j]? = some u → wr.cell? (p.add j) = some u) (hown : OwnsI wr base v L) (hl : L.length + M.length ≤ 1048576) (hbase : base ≤ wr.heap.size)
    (h : ∀ v' w', OwnsI w' base v' (L ++ M) → wr.grownBy w' v.ownBlock → wpList Tryz.prog ops Q rest (a.put o.dst v') w') :
    wpList Tryz.prog ops Q (o :: rest) a wr := by
  have hI := infoInt
  cases hi : Tryz.prog.info? 3 with
  | none => rw [hi] at hI; simp at hI
  | some i =>
    rw [hi] at hI
    simp at hI
    obtain ⟨hz, hsz, hby⟩ := hI
    refine wpList_append_own _ hgd s x 83 ho base 3 i _ 1 8 underInts hi hz hsz hby rfl (by decide) v L.length (its L) hs hown p M.length c (its M) hx (by simp [its_length]) hM (fun u hu => ?_) ?_ ?_ hbase ?_
    · unfold its at hu
      obtain ⟨k, _, rfl⟩ := List.mem_map.1 hu
      rfl
    · simp only [maxLen]; omega
    · omega
    · intro v' w' h1 h2 _
      exact h v' w' (by unfold OwnsI; rw [its_append, List.length_append]; exact h1) h2
end Go.Proofs.YtdlgoccbmemjgaaGreatDoor
namespace Go.Proofs.YtdlgoccbmemjgaaGreatDoor
open Go.RowKit Go.Deep
set_option linter.unusedVariables false
set_option linter.unusedSimpArgs false
set_option maxRecDepth 10000

theorem crashTo_congr {C : List (List UInt8)} {D : List (Int × List UInt8)} {f f' : Nat → Nat} (h : ∀ i, i < D.length → f i = f' i) : ∀ k, crashTo C D f k = crashTo C D f' k
  | 0 => rfl
  | k + 1 => by
    simp only [crashTo]
    rw [crashTo_congr h k]
    cases hD : D[k]? with
    | none => rfl
    | some x =>
      obtain ⟨hk, _⟩ := List.getElem?_eq_some_iff.1 hD
      simp only
      rw [h k hk]
theorem crash_sync (cs : List Bs) (ds : List Wr) : crashM (dat cs ds) (keepN (List.replicate ds.length 128)) = crashM (dat cs ds) (fun _ => 128) := by
  have e : ∀ i, i < (dat cs ds).dirty.length → keepN (List.replicate ds.length 128) i = (fun _ => 128) i := fun i hi => by
    have hi' : i < ds.length := by simpa [dat] using hi
    unfold keepN
    rw [List.getElem?_replicate, if_pos hi']
    rfl
  unfold crashM
  rw [crashTo_congr e]
theorem DiskRes.turned {w w1 w2 W : World} {v : Value} {M : DkM} {R : Nat} (h : DiskRes w1 w2 v M) (hk : Keeps w w1) (hT : Turn [R] w2 W) (hR : R < w1.heap.size) : DiskRes w W v M := by
  obtain ⟨ca, cc, cs, da, dc, ds, e1, e2, h1, h2, h3, hb⟩ := h
  refine ⟨ca, cc, cs, da, dc, ds, e1, e2, h1, h2, h3, ?_⟩
  refine (hb.turn hT (fun b hb' hx => ?_)).old hk
  have := hb.new b hb'
  have e : b = R := by simpa using hx
  omega
set_option maxHeartbeats 8000000 in
theorem disksync_spec (ca : Option Addr) (cc : Nat) (cs : List Bs) (da : Option Addr) (dc : Nat) (ds : List Wr) (w : World) (hm : Mem w (dsk ca cs da ds)) (h : DOk cs ds) :
    Calls Tryz.prog 54 #[dskV ca cs.length cc da ds.length dc] w fun e w' => ∃ v, e = .returned v ∧ DiskRes w w' v (crashM (dat cs ds) (fun _ => 128)) ∧ Keeps w w' := by
  have HKA := hide (Keeps.alloc (Keeps.alloc (Keeps.refl w) (.cells #[.slice ca cs.length cc, .slice da ds.length dc] 26)) (.cells #[.slice none 0 0, .slice none 0 0] 26))
  have HM := hide (hm.kept HKA.out)
  have HD : Hid (∀ w', Keeps ((w.alloc (.cells #[.slice ca cs.length cc, .slice da ds.length dc] 26)).alloc (.cells #[.slice none 0 0, .slice none 0 0] 26)) w' → w'.cell? ⟨w.heap.size, 0, none⟩ = some (.slice ca cs.length cc) ∧ w'.cell? ⟨w.heap.size, 1, none⟩ = some (.slice da ds.length dc)) :=
    fun w' hk => ⟨hk.cell (by simp), hk.cell (by simp)⟩
  have HZ : Hid (((w.alloc (.cells #[.slice ca cs.length cc, .slice da ds.length dc] 26)).alloc (.cells #[.slice none 0 0, .slice none 0 0] 26)).heap.size = w.heap.size + 1 + 1) := by show _ = _; rw [World.size_alloc, World.size_alloc]
  have HR := hide ((born_alloc (w.alloc (.cells #[.slice ca cs.length cc, .slice da ds.length dc] 26)) #[.slice none 0 0, .slice none 0 0] 26).toOwn)
  rw [World.size_alloc] at HR
  have HDO := hide h
  have hdl := h.d
  have HK0 := hide (Keeps.alloc (Keeps.refl ((w.alloc (.cells #[.slice ca cs.length cc, .slice da ds.length dc] 26)).alloc (.cells #[.slice none 0 0, .slice none 0 0] 26))) (.cells #[] 3))
  have HO0 := hide (World.ownsRow_made (base := ((w.alloc (.cells #[.slice ca cs.length cc, .slice da ds.length dc] 26)).alloc (.cells #[.slice none 0 0, .slice none 0 0] 26)).heap.size) (e := 3) (size := 1) ((w.alloc (.cells #[.slice ca cs.length cc, .slice da ds.length dc] 26)).alloc (.cells #[.slice none 0 0, .slice none 0 0] 26)) #[] 0 (Nat.le_refl _) (by decide) rfl)
  obtain ⟨d0, d1⟩ := HD.out _ HK0.out
  clear hm h
  go_enter Tryz.func54, Tryz.ntmps54
  go_wp2_with fail
  go_loopw [3, 8] (fun x y wr => ∃ k : Nat, k ≤ ds.length ∧ y = .int .i64 (k : Int) ∧ Hid (OwnsI wr (w.heap.size + 1 + 1) x (List.replicate k 128)) ∧ Hid (Keeps ((w.alloc (.cells #[.slice ca cs.length cc, .slice da ds.length dc] 26)).alloc (.cells #[.slice none 0 0, .slice none 0 0] 26)) wr)) (fun _ y _ => ds.length - (intOf y).toNat)
  case atStart => exact ⟨0, by omega, rfl, by have h := HO0.out; rw [HZ.out] at h; show OwnsI _ _ _ _; exact h, HK0⟩
  case round =>
    obtain ⟨k, hk, rfl, HOr, HKr⟩ := hrel
    clear d0 d1
    by_cases hlt : k < ds.length
    · have HOa := hide (World.ownsRow.alloc HOr.out (.cells #[.int .i64 128] 3))
      have HKa := hide (Keeps.alloc HKr.out (.cells #[.int .i64 128] 3))
      have HCx : Hid (∀ j u, (its [128])[j]? = some u → (wr.alloc (.cells #[.int .i64 128] 3)).cell? ((⟨wr.heap.size, 0, none⟩ : Addr).add j) = some u) := fun j u hj => by
        match j, hj with
        | 0, hj => simp [its] at hj; subst hj; simp [Addr.add]
        | n + 1, hj => simp [its] at hj
      have HLn : Hid ((List.replicate k (128 : Int)).length + [(128 : Int)].length ≤ 1048576) := by show _ ≤ _; simp; omega
      have hbz : w.heap.size + 1 + 1 ≤ wr.heap.size := by have := HKr.out.size; rw [HZ.out] at this; exact this
      go_wp2_with (at_builtin; refine app_its rfl (.tmp 10) (.tmp 11) rfl (w.heap.size + 1 + 1) _ (List.replicate k 128) [128] rfl ⟨wr.heap.size, 0, none⟩ 1 rfl HCx.out HOa.out HLn.out (by simp; omega) ?_; intro v' w' ho hg)
      have HOn : Hid (OwnsI w' (w.heap.size + 1 + 1) v' (List.replicate (k + 1) 128)) := by show OwnsI _ _ _ _; rw [List.replicate_succ']; exact ho
      have HKn := hide (Keeps.grown HKa.out hg (fun j hj => by
        have h1 := (HOa.out.lt j hj).1
        rw [HZ.out]; exact h1))
      clear ho hg
      go_roundw
      case rel => exact ⟨k + 1, by omega, by go_num, HOn, HKn⟩
      case measure => simp [intOf]; omega
    · have e : k = ds.length := by omega
      subst e
      obtain ⟨ka, kc, hve, _, _, _, hown, _⟩ := Own.of_owns HOr.out
      have hrl : (List.replicate ds.length (128 : Int)).length = ds.length := by simp
      have HC := hide (diskcrash_spec ca cc cs da dc ds ka kc (List.replicate ds.length 128) wr (HM.out.kept HKr.out) HDO.out hown.one (by simp; omega))
      rw [hrl] at hve HC
      obtain ⟨d0, d1⟩ := HD.out _ HKr.out
      subst hve
      clear hown hrl
      go_wp2_with fail
      refine (unhide HC).mono ?_
      rintro x w4 ⟨v, rfl, hdr, hk4⟩
      rw [crash_sync] at hdr
      have HDR : Hid (∀ W, Turn [w.heap.size + 1] w4 W → DiskRes w W v (crashM (dat cs ds) (fun _ => 128))) := fun W hT => hdr.turned (HKA.out.trans HKr.out) hT (by have := HKr.out.size; rw [HZ.out] at this; omega)
      obtain ⟨ca', cc', cs', da', dc', ds', hv, _⟩ := hdr
      have hO := (HR.out.kept HKr.out).kept hk4
      have r0 := cell_at hO.mem 0 (by simp)
      have r1 := cell_at hO.mem 1 (by simp)
      simp only [Nat.zero_add, List.getElem_cons_zero, List.getElem_cons_succ] at r0 r1
      have fR : ∀ i, w4.frozen? ⟨w.heap.size + 1, i, none⟩ = false := hO.free (w.heap.size + 1) (by rw [fp_one, fpS_some (by simp)]; simp)
      have HT1 : Hid (Turn [w.heap.size + 1] w4 ((w4.setCell ⟨w.heap.size + 1, 0, none⟩ (.slice ca' cs'.length cc')).setCell ⟨w.heap.size + 1, 1, none⟩ (.slice da' ds'.length dc'))) := (Turn.set (by simp) _).trans' (Turn.set (by simp) _)
      have HKF := hide ((((HKA.out.trans HKr.out).trans hk4).setCell (p := ⟨w.heap.size + 1, 0, none⟩) (Nat.le_succ _) (.slice ca' cs'.length cc')).setCell (p := ⟨w.heap.size + 1, 1, none⟩) (Nat.le_succ _) (.slice da' ds'.length dc'))
      have E0 : Hid (((w4.setCell ⟨w.heap.size + 1, 0, none⟩ (.slice ca' cs'.length cc')).setCell ⟨w.heap.size + 1, 1, none⟩ (.slice da' ds'.length dc')).cell? ⟨w.heap.size + 1, 0, none⟩ = some (.slice ca' cs'.length cc')) := by
        show _ = _
        rw [World.cell?_setCell_other _ _ _ _ (by simp)]; exact World.cell?_setCell_same _ _ _ r0
      have E1 : Hid (((w4.setCell ⟨w.heap.size + 1, 0, none⟩ (.slice ca' cs'.length cc')).setCell ⟨w.heap.size + 1, 1, none⟩ (.slice da' ds'.length dc')).cell? ⟨w.heap.size + 1, 1, none⟩ = some (.slice da' ds'.length dc')) := by
        show _ = _
        refine World.cell?_setCell_same _ _ _ (u := .slice none 0 0) ?_
        rw [World.cell?_setCell_other _ _ _ _ (by simp)]; exact r1
      subst hv
      clear hO hk4 d0 d1
      go_wp2_with fail
      have e0 := E0.out
      have e1 := E1.out
      have hT := HT1.out
      have hK := HKF.out
      clear r0 r1 fR E0 E1 HT1 HKF
      revert e0 e1 hT hK
      generalize (w4.setCell ⟨w.heap.size + 1, 0, none⟩ (.slice ca' cs'.length cc')).setCell ⟨w.heap.size + 1, 1, none⟩ (.slice da' ds'.length dc') = W
      intro e0 e1 hT hK
      refine bodyPost_ret (v := dskV ca' cs'.length cc' da' ds'.length dc') (by simp [results, Tryz.results54, go_sem, e0, e1]) rfl ⟨_, rfl, HDR.out W hT, hK⟩
end Go.Proofs.YtdlgoccbmemjgaaGreatDoor
