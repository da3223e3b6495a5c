/- Texts of the verifier, joined: DCm, DSm, LgG. -/
import Derived.Test.YtkdnddckogbgaaaGreatDoorFO4
import Derived.Test.YtkdnddckogbgaaaGreatDoorFO7
namespace Go.Proofs.YtkdnddckogbgaaaGreatDoor
open Go.RowKit Go.Deep
set_option linter.unusedVariables false
set_option linter.unusedSimpArgs false
set_option maxRecDepth 10000

theorem own_byte {w : World} {G : Nat} {Y : List UInt8} (h : Own w [(some ⟨G, 0, none⟩, bys Y)]) (i : Nat) (hi : i < Y.length) (x : UInt8) : Own (w.setCell ⟨G, i, none⟩ (byV x)) [(some ⟨G, 0, none⟩, bys (Y.set i x))] := by
  have hc : ∀ j (hj : j < (bys Y).length), w.cell? ⟨G, j, none⟩ = some (bys Y)[j] := by
    intro j hj
    have := cell_at h.mem j hj
    rwa [Nat.zero_add] at this
  have e : bys (Y.set i x) = (bys Y).set i (byV x) := by simp [bys, List.map_set]
  rw [e]
  refine h.wrote (by simp) (Or.inr ⟨G, 0, rfl, fun j hj => ?_⟩) (fun p => frozen_set _ _ _ _)
  rw [List.length_set] at hj
  rw [Nat.zero_add, List.getElem_set]
  by_cases e : i = j
  · subst e
    rw [if_pos rfl]
    exact World.cell?_setCell_same _ _ _ (hc i hj)
  · rw [if_neg e, World.cell?_setCell_other _ _ _ _ (fun h => e (by injection h))]
    exact hc j hj
theorem own_other {w : World} {S : List Seg} (h : Own w S) {a : Addr} (v : Value) (hn : ∀ x ∈ fp S, x ≠ a.block) : Own (w.setCell a v) S := h.turn (Turn.set (fs := [a.block]) (by simp) v) (fun x hx hb => hn x hx (by simpa using hb))
theorem fp_single {R : Nat} {xs : List Value} : ∀ x ∈ fp [((some ⟨R, 0, none⟩ : Option Addr), xs)], x = R := fun x hx => by
  rw [fp_one] at hx
  by_cases h0 : xs = []
  · simp [fpS, h0] at hx
  · rw [fpS_some h0] at hx
    simpa using hx
theorem land_step {X F : List UInt8} {j : Nat} (hX : X.length = 128) (hF : F.length = 128) (hj : j < 128) : (X.take j ++ F.drop j).set j (X[j]'(by omega)) = X.take (j + 1) ++ F.drop (j + 1) := by
  have h1 : (X.take j).length = j := by rw [List.length_take]; omega
  have e1 : F.drop j = F[j]'(by omega) :: F.drop (j + 1) := List.drop_eq_getElem_cons (by omega)
  have e2 : X.take (j + 1) = X.take j ++ [X[j]'(by omega)] := List.take_succ_eq_append_getElem (by omega)
  rw [List.set_append_right _ _ (by omega), h1, Nat.sub_self, e1, List.set_cons_zero, e2, List.append_assoc]
  rfl
theorem fullL_len {L : List UInt8} (h : L.length = 0 ∨ L.length = 128) : (fullL L).length = 128 := by
  unfold fullL
  split
  · simp
  · rename_i hne
    rcases h with h | h
    · exact absurd (List.length_eq_zero_iff.1 h) hne
    · exact h
theorem keepN_pos {K : List Int} {k : Nat} (h : k < K.length) (h1 : 1 ≤ K[k]) : (keepN K k : Int) = (if 128 < K[k] then 128 else K[k]) := by
  unfold keepN
  rw [List.getElem?_eq_getElem h]
  simp only
  rw [if_neg (by omega)]
  by_cases h2 : 128 < K[k]
  · rw [if_pos h2, if_pos h2]; rfl
  · rw [if_neg h2, if_neg h2]; omega
theorem keepN_zero {K : List Int} {k : Nat} (h : k < K.length → K[k]! < 1) : keepN K k = 0 := by
  unfold keepN
  by_cases hk : k < K.length
  · have h1 := h hk
    rw [getElem!_pos K k hk] at h1
    rw [List.getElem?_eq_getElem hk]
    simp only
    by_cases h2 : K[k] < 0
    · rw [if_pos h2]
    · rw [if_neg h2, if_neg (by omega)]; omega
  · rw [List.getElem?_eq_none (by omega)]

set_option maxHeartbeats 16000000 in
theorem diskcrash_spec (ca : Option Addr) (cc : Nat) (cs : List Bs) (da : Option Addr) (dc : Nat) (ds : List Wr) (ka : Option Addr) (kc : Nat) (K : List Int) (w : World) (hm : Mem w (dsk ca cs da ds)) (h : DOk cs ds) (hk : Cells w ka (its K)) (hkl : K.length ≤ 1048576) :
    Calls Tryz.prog 50 #[dskV ca cs.length cc da ds.length dc, .slice ka K.length kc] w fun e w' => ∃ v, e = .returned v ∧ DiskRes w w' v (crashM (dat cs ds) (keepN K)) ∧ Keeps w w' := by
  have HKA := hide (Keeps.alloc (Keeps.alloc (Keeps.refl w) (.cells #[.slice ca cs.length cc, .slice da ds.length dc] 26)) (.cells #[.slice none 0 0, .slice none 0 0] 26))
  have HM := hide (hm.kept HKA.out)
  have HD : Hid (∀ w', Keeps ((w.alloc (.cells #[.slice ca cs.length cc, .slice da ds.length dc] 26)).alloc (.cells #[.slice none 0 0, .slice none 0 0] 26)) w' → w'.cell? ⟨w.heap.size, 0, none⟩ = some (.slice ca cs.length cc) ∧ w'.cell? ⟨w.heap.size, 1, none⟩ = some (.slice da ds.length dc)) :=
    fun w' hk => ⟨hk.cell (by simp), hk.cell (by simp)⟩
  have HZ : Hid (((w.alloc (.cells #[.slice ca cs.length cc, .slice da ds.length dc] 26)).alloc (.cells #[.slice none 0 0, .slice none 0 0] 26)).heap.size = w.heap.size + 1 + 1) := by show _ = _; rw [World.size_alloc, World.size_alloc]
  have HR := hide ((born_alloc (w.alloc (.cells #[.slice ca cs.length cc, .slice da ds.length dc] 26)) #[.slice none 0 0, .slice none 0 0] 26).toOwn)
  rw [World.size_alloc] at HR
  have HQ := hide (diskok_spec' ca cc cs da dc ds _ HM.out h)
  have HDO := hide h
  have hdl := h.d
  have HKP := hide (hk.kept HKA.out)
  have HF : Hid (∀ i : Nat, keepN K i ≤ 128) := keepN_le K
  clear hm h hk
  go_enter Tryz.func50, Tryz.ntmps50
  go_wp2_with fail
  generalize (w.alloc (.cells #[.slice ca cs.length cc, .slice da ds.length dc] 26)).alloc (.cells #[.slice none 0 0, .slice none 0 0] 26) = W0 at *
  refine (unhide HQ).mono ?_
  rintro x w1 ⟨rfl, hk1⟩
  have HK1 := hide hk1
  obtain ⟨d0, d1⟩ := HD.out _ hk1
  have HR1 := hide (HR.out.kept hk1)
  have hz1 : w.heap.size + 1 < w1.heap.size := by have := hk1.size; have := HZ.out; omega
  clear hk1 HR
  cases hok : dokM (dat cs ds)
  · have HC : Hid (crashM (dat cs ds) (keepN K) = noneM) := by show _ = _; unfold crashM; rw [hok]; rfl
    have hO := HR1.out
    have r0 := cell_at hO.mem 0 (by simp)
    have r1 := cell_at hO.mem 1 (by simp)
    simp only [Nat.zero_add, List.getElem_cons_zero, List.getElem_cons_succ] at r0 r1
    have fR : ∀ i, w1.frozen? ⟨w.heap.size + 1, i, none⟩ = false := hO.free (w.heap.size + 1) (by rw [fp_one, fpS_some (by simp)]; simp)
    have HKF := hide (((HKA.out.trans HK1.out).setCell (p := ⟨w.heap.size + 1, 0, none⟩) (Nat.le_succ _) (.slice none 0 0)).setCell (p := ⟨w.heap.size + 1, 1, none⟩) (Nat.le_succ _) (.slice none 0 0))
    have E0 : Hid (((w1.setCell ⟨w.heap.size + 1, 0, none⟩ (.slice none 0 0)).setCell ⟨w.heap.size + 1, 1, none⟩ (.slice none 0 0)).cell? ⟨w.heap.size + 1, 0, none⟩ = some (.slice none 0 0)) := by
      show _ = _
      rw [World.cell?_setCell_other _ _ _ _ (by simp)]; exact World.cell?_setCell_same _ _ _ r0
    have E1 : Hid (((w1.setCell ⟨w.heap.size + 1, 0, none⟩ (.slice none 0 0)).setCell ⟨w.heap.size + 1, 1, none⟩ (.slice none 0 0)).cell? ⟨w.heap.size + 1, 1, none⟩ = some (.slice none 0 0)) := by
      show _ = _
      refine World.cell?_setCell_same _ _ _ (u := .slice none 0 0) ?_
      rw [World.cell?_setCell_other _ _ _ _ (by simp)]; exact r1
    clear hO hok
    go_wp2_with fail
    have e0 := E0.out
    have e1 := E1.out
    have hK := HKF.out
    clear r0 r1 fR E0 E1 HKF
    revert e0 e1 hK
    generalize (w1.setCell ⟨w.heap.size + 1, 0, none⟩ (.slice none 0 0)).setCell ⟨w.heap.size + 1, 1, none⟩ (.slice none 0 0) = W
    intro e0 e1 hK
    refine bodyPost_ret (v := dskV none 0 0 none 0 0) (by simp [results, Tryz.results50, go_sem, e0, e1]) rfl ⟨_, rfl, ?_, hK⟩
    rw [HC.out]
    exact diskres_none w W
  have HOK := hide hok
  have hcl1 : 1 ≤ cs.length := by have := (dokM_len hok).1; simpa [dat] using this
  clear hok
  go_wp2_with fail
  refine (copy_spec ca cc cs da dc ds w1 (HM.out.kept HK1.out) HDO.out).mono ?_
  rintro x w2 ⟨v1, v2, rfl, hcr, hk2⟩
  obtain ⟨nb0, nw, O, e1, hq1, n1, hq2, g1, g2, hq3⟩ := hcr
  clear hq1 hq2 hq3
  have hl0 : nb0.length = cs.length := by simpa using congrArg List.length e1
  obtain ⟨g, gc, hv1, hgo, hcx, hfx, hg0, hg1⟩ := g1.slice (p := 0) (by omega)
  clear hcx hfx
  obtain ⟨a2, c2, hv2, hwx⟩ := g2.writes
  clear hwx
  rw [hl0] at hv1
  subst hv1 hv2
  have HE1 := hide e1
  have HN1 := hide n1
  have HK2 := hide hk2
  have HGO : Hid (∀ n c, Value.ownBlock (.slice (some ⟨g, 0, none⟩) n c) = some g) := fun n c => by simp [Value.ownBlock]
  have hbO := born_alloc w2 #[.slice (some ⟨g, 0, none⟩) cs.length gc, .slice none 0 0] 26
  dsimp only at hbO
  have hkO := Keeps.alloc (Keeps.refl w2) (.cells #[.slice (some ⟨g, 0, none⟩) cs.length gc, .slice none 0 0] 26)
  have HLG0 := hide (g1.kept hkO)
  have HOO := hide hbO.toOwn
  have HKO := hide (hk2.trans hkO)
  obtain ⟨_, dd1⟩ := HD.out _ (HK1.out.trans hk2)
  have hz2 : w1.heap.size ≤ w2.heap.size := hk2.size
  have hz3 : w.heap.size < w2.heap.size := by omega
  have hgO : g < w2.heap.size := hg1
  clear e1 n1 g1 g2 hkO hbO d0 d1 hk2 hl0 hgo
  go_wp2_with fail
  generalize w2.alloc (.cells #[.slice (some ⟨g, 0, none⟩) cs.length gc, .slice none 0 0] 26) = w3 at *
  generalize hOe : w2.heap.size = O at *
  clear dd1 hOe
  go_loopw [21] (fun y wr => ∃ k : Nat, k ≤ ds.length ∧ y = .int .i64 (k : Int) ∧ Hid (∃ nb, nb.map Bs.L = crashTo (cs.map Bs.L) (ds.map Wr.key) (keepN K) k ∧ (∀ b ∈ nb, b.fit) ∧ LG 93 1 Bs.cells Bs.seg w1 wr (.slice (some ⟨g, 0, none⟩) cs.length gc) nb) ∧ Hid (Own wr [(some ⟨O, 0, none⟩, [.slice (some ⟨g, 0, none⟩) cs.length gc, .slice none 0 0])])) (fun y _ => ds.length - (intOf y).toNat)
  case atStart => exact ⟨0, by omega, rfl, ⟨nb0, HE1.out, HN1.out, HLG0.out⟩, HOO⟩
  case round =>
    obtain ⟨k, hk, rfl, HH, HOr⟩ := hrel
    obtain ⟨nb, hnL, hnf, hLG⟩ := HH.out
    have hkw : Keeps W0 wr := HK1.out.trans hLG.keeps
    have HLr := hide hLG
    have HNr := hide hnL
    have HFr := hide hnf
    have HKr := hide hkw
    clear hnL hnf hLG HH HOO HLG0 HE1 HN1
    by_cases hlt : k < ds.length
    · have hmm := dsk_mem (HM.out.kept hkw)
      obtain ⟨b, off, ea, c0, c1⟩ := cell2 hmm.2.2.1 k hlt
      obtain ⟨p, hp, hpc, hL⟩ := dirty_at HOK.out k hlt
      have hseg : Cells wr ds[k].b.a (bys ds[k].b.L) := hmm.2.2.2 ds[k].seg (List.mem_map.2 ⟨ds[k], List.getElem_mem hlt, rfl⟩)
      obtain ⟨xb, xo, exa⟩ : ∃ xb xo, ds[k].b.a = some ⟨xb, xo, none⟩ := by
        rcases hseg with h' | ⟨b', o', e', _⟩
        · rw [bys_nil] at h'; rw [h'] at hL; simp at hL
        · exact ⟨b', o', e'⟩
      rw [hp] at c0
      rw [show ds[k].b.v = .slice (some ⟨xb, xo, none⟩) 128 ds[k].b.cap by unfold Bs.v; rw [exa, hL]] at c1
      rw [exa] at hseg
      subst ea
      have hlen : nb.length = cs.length := by
        have := congrArg List.length HNr.out
        rw [List.length_map, crashTo_len, List.length_map] at this
        exact this
      have hpn : p < nb.length := by omega
      have HLen := hide hlen
      clear hlen
      have hcell : nb[p].L.length = 0 ∨ nb[p].L.length = 128 := by
        have h2 := crashTo_ok HOK.out HF.out k
        have h3 : nb[p].L ∈ crashTo (dat cs ds).cells (dat cs ds).dirty (keepN K) k := by
          show _ ∈ crashTo (cs.map Bs.L) (ds.map Wr.key) (keepN K) k
          rw [← HNr.out]
          exact List.mem_map.2 ⟨nb[p], List.getElem_mem _, rfl⟩
        exact h2 _ h3
      have HNext : Hid (∀ n, keepN K k = n → crashTo (cs.map Bs.L) (ds.map Wr.key) (keepN K) (k + 1) = landM (nb.map Bs.L) ((p : Int), ds[k].b.L) n) := fun n hn => by
        subst hn
        rw [crashTo_next hlt, ← HNr.out]
        unfold Wr.key
        rw [hp]
      have HSeg := hide hseg
      have HLx := hide hL
      have hxc : ds[k].b.cap = ds[k].b.cap := rfl
      generalize ds[k].b.cap = xc at *
      generalize ds[k].b.L = xL at *
      have hka := Keeps.alloc (Keeps.refl wr) (.cells #[.int .i64 (p : Int), .slice (some ⟨xb, xo, none⟩) 128 xc] 86)
      have HLk := hide (HLr.out.kept hka)
      have HOk2 := hide (HOr.out.kept hka)
      clear hmm hp hseg exa hkw hL hxc
      have hdl2 : (ds.length : Int) ≤ 1048576 := by omega
      by_cases hgo : k < K.length ∧ 1 ≤ K[k]!
      · obtain ⟨hkk, h1v⟩ := hgo
        rw [getElem!_pos K k hkk] at h1v
        obtain ⟨kb, ko, eka, ck⟩ := its_at (HKP.out.kept HKr.out) k hkk
        have HNK := hide (keepN_pos hkk h1v)
        have HN1 := hide (keepN_le K k)
        have HNx := hide (HNext.out (keepN K k) rfl)
        subst eka
        generalize keepN K k = nk at *
        generalize K[k] = kv at *
        obtain ⟨g', gc', hvx, hgo', cN, fN, hg0', hg1'⟩ := HLr.out.slice (p := p) hpn
        injection hvx with hvx1 hvx2 hvx3
        have hvx4 := Option.some.inj hvx1
        injection hvx4 with hvx5
        subst hvx5
        rw [show nb[p].v = .slice nb[p].a nb[p].L.length nb[p].cap from rfl] at cN
        have HI : Hid (Cells (wr.alloc (.cells #[.int .i64 (p : Int), .slice (some ⟨xb, xo, none⟩) 128 xc] 86)) nb[p].a (bys nb[p].L)) := (HLr.out.inner.mem nb[p].seg (List.mem_map.2 ⟨nb[p], List.getElem_mem _, rfl⟩)).kept hka
        have HFu := hide (full_k nb[p].a nb[p].cap nb[p].L _ HI.out (HFr.out nb[p] (List.getElem_mem _)).1 (by omega))
        have cO := (cell_at HOr.out.mem 0 (by simp))
        simp only [Nat.zero_add, List.getElem_cons_zero] at cO
        have hpI : (p : Int) < (cs.length : Int) := by omega
        have hOl := lt_of_cell cO
        have hkbl := lt_of_cell ck
        clear HNext hvx1 hvx2 hvx3 hgo'
        go_wp2_with fail
        refine (unhide HFu).mono ?_
        rintro x w5 ⟨vb, rfl, hob, hk5⟩
        have hfl := fullL_len hcell
        obtain ⟨G, cb, hvb, hGb, hGl⟩ : ∃ G cb, vb = .slice (some ⟨G, 0, none⟩) 128 cb ∧ wr.heap.size + 1 ≤ G ∧ 128 ≤ cb := by
          rcases hob.2 with ⟨_, h0⟩ | ⟨G, cb, cur, rfl, hb, _, hn, _⟩
          · rw [hfl] at h0; cases h0
          · rw [hfl] at hn
            refine ⟨G, cb, by rw [hfl], ?_, hn⟩
            have : (wr.alloc (.cells #[.int .i64 (p : Int), .slice (some ⟨xb, xo, none⟩) 128 xc] 86)).heap.size ≤ G := hb
            rwa [World.size_alloc] at this
        have hOb : Own w5 [(some ⟨G, 0, none⟩, bys (fullL nb[p].L))] := by
          obtain ⟨a', c', e', _, _, _, hown, _⟩ := Own.of_owns hob
          rw [hvb] at e'
          injection e' with e1 e2 e3
          subst e1
          exact hown
        rw [hvb]
        have HG5 := hide hOb
        have HK5 := hide hk5
        have HL5 := hide (HLk.out.kept hk5)
        have HO5 := hide (HOk2.out.kept hk5)
        have v0 := hk5.cell (p := ⟨wr.heap.size, 0, none⟩) (v := .int .i64 (p : Int)) (by simp)
        have v1' := hk5.cell (p := ⟨wr.heap.size, 1, none⟩) (v := .slice (some ⟨xb, xo, none⟩) 128 xc) (by simp)
        have HS5 := hide ((HSeg.out.kept hka).kept hk5)
        have HFL := hide hfl
        have HV0 := hide v0
        have HV1 := hide v1'
        have hwr5 : wr.heap.size + 1 ≤ w5.heap.size := by have := hk5.size; rwa [World.size_alloc] at this
        clear hvb hob hOb hk5 HFu HI cN fN cO c0 c1 ck v0 v1' hfl hka HLk HOk2
        have hnk0 : 1 ≤ nk := by
          have h := HNK.out
          by_cases h2 : 128 < kv
          · rw [if_pos h2] at h; omega
          · rw [if_neg h2] at h; omega
        have hxbl : xb < wr.heap.size := by
          obtain ⟨xb', xo', e', cx⟩ := bys_at HSeg.out 0 (by rw [HLx.out]; decide)
          have e2 := Option.some.inj e'
          injection e2 with e3 e4
          subst e3 e4
          exact lt_of_cell cx
        go_wp2_with fail
        generalize hva : wr.heap.size = va at *
        have HVA := hide hva
        clear hva
        go_loopw [10] (fun y wi => ∃ j : Nat, j ≤ nk ∧ y = .int .i64 (j : Int) ∧ Hid (Own wi [(some ⟨G, 0, none⟩, bys (xL.take j ++ (fullL nb[p].L).drop j))]) ∧ Hid (Turn [G] w5 wi)) (fun y _ => nk - (intOf y).toNat)
        case atStart => exact ⟨0, by omega, rfl, by show Own _ _; simpa using HG5.out, Turn.refl _ _⟩
        case round =>
          obtain ⟨j, hj, rfl, HGi, HTi⟩ := hrel
          have HGt := hide (fun (q : Addr) (hq : q.block ≠ G) (u : Value) (hc : w5.cell? q = some u) => HTi.out.cell (p := q) (by simpa using hq) hc)
          have v0 := HGt.out ⟨va, 0, none⟩ (by show va ≠ G; omega) _ HV0.out
          have v1' := HGt.out ⟨va, 1, none⟩ (by show va ≠ G; omega) _ HV1.out
          have HYl : Hid ((xL.take j ++ (fullL nb[p].L).drop j).length = 128) := by
            show _ = _
            have h1 := HN1.out
            rw [List.length_append, List.length_take, List.length_drop, HLx.out, HFL.out]; omega
          have fG := HGi.out.free G (by rw [fp_one, fpS_some (by rw [ne_eq, bys_nil]; intro e; have := HYl.out; rw [e] at this; simp at this)]; simp)
          by_cases hjn : j < nk
          · have hj128 : j < 128 := by have := HN1.out; omega
            have hjk : (j : Int) < kv := by
              have h := HNK.out
              by_cases h2 : 128 < kv
              · omega
              · rw [if_neg h2] at h; omega
            have hj2 : (j : Int) < 128 := by omega
            have hxlen : j < xL.length := by rw [HLx.out]; exact hj128
            obtain ⟨xb', xo', e', cx⟩ := bys_at HS5.out j hxlen
            have e2 := Option.some.inj e'
            injection e2 with e3 e4
            subst e3 e4
            have cx' := HGt.out ⟨xb, xo + j, none⟩ (by show xb ≠ G; omega) _ cx
            obtain ⟨u, cG⟩ : ∃ u, wr.cell? ⟨G, j, none⟩ = some u := by
              have := cell_at HGi.out.mem j (by rw [bys_length, HYl.out]; exact hj128)
              rw [Nat.zero_add] at this
              exact ⟨_, this⟩
            have HGn : Hid (Own (wr.setCell ⟨G, j, none⟩ (byV xL[j])) [(some ⟨G, 0, none⟩, bys (xL.take (j + 1) ++ (fullL nb[p].L).drop (j + 1)))]) := by
              show Own _ _
              rw [← land_step HLx.out HFL.out hj128]
              exact own_byte HGi.out j (by rw [HYl.out]; exact hj128) xL[j]
            have hb0 := byte_nn xL[j]
            have hb1 := byte_lt xL[j]
            have hbv : byV xL[j] = .int .u8 (xL[j].toNat : Int) := rfl
            rw [hbv] at HGn
            clear hbv cx e'
            generalize (xL[j].toNat : Int) = xx at *
            go_wp2_with fail
            go_roundw
            case rel => exact ⟨j + 1, by omega, by go_num, HGn, HTi.out.trans' (Turn.set (by simp) _)⟩
            case measure => simp [intOf]; omega
          · have hje : j = nk := by omega
            subst hje
            have HLi : Hid (LG 93 1 Bs.cells Bs.seg w1 wr (.slice (some ⟨g, 0, none⟩) cs.length gc) nb) := by
              refine HL5.out.turned HTi.out (fun g' hg' => ?_) (fun b' hb' => ?_) (fun b' hb' => ?_)
              · rw [HGO.out] at hg'
                have : g' = g := (Option.some.inj hg').symm
                simp; omega
              · have h1 := HLr.out.inner.mem.lt b' hb'
                rw [HVA.out] at h1
                simp; omega
              · simp at hb'
                omega
            have HOi := hide (HO5.out.turn HTi.out (fun x hx hb => by
              have e1 := fp_single x hx
              have e2 : x = G := by simpa using hb
              omega))
            obtain ⟨g', gc', hvx, hgo', cN, fN, hg0', hg1'⟩ := HLi.out.slice (p := p) hpn
            injection hvx with hvx1 hvx2 hvx3
            have hvx4 := Option.some.inj hvx1
            injection hvx4 with hvx5
            subst hvx5
            rw [show nb[p].v = .slice nb[p].a nb[p].L.length nb[p].cap from rfl] at cN
            have cO := cell_at HOi.out.mem 0 (by simp)
            simp only [Nat.zero_add, List.getElem_cons_zero] at cO
            have hll : (landL nb[p].L xL j).length = 128 := landL_len hcell HLx.out HN1.out
            have hu := HLi.out.upd hpn (HGO.out _ _) (x := ⟨some ⟨G, 0, none⟩, cb, landL nb[p].L xL j⟩) HGi.out (fun b' hb' => by
              have e : b' = G := fp_single b' hb'
              refine ⟨by omega, by omega, fun hm => ?_⟩
              have h1 := HLr.out.inner.mem.lt b' hm
              rw [HVA.out] at h1
              omega)
            rw [show (⟨some ⟨G, 0, none⟩, cb, landL nb[p].L xL j⟩ : Bs).v = .slice (some ⟨G, 0, none⟩) 128 cb from by unfold Bs.v; rw [hll]] at hu
            have HU := hide hu
            have HOu := hide (own_other (a := ⟨g, p, none⟩) HOi.out (.slice (some ⟨G, 0, none⟩) 128 cb) (fun x hx => by have := fp_single x hx; show x ≠ g; omega))
            have HFn : Hid (∀ b ∈ nb.set p ⟨some ⟨G, 0, none⟩, cb, landL nb[p].L xL j⟩, b.fit) := fun b' hb' => by
              rcases List.mem_or_eq_of_mem_set hb' with hb' | rfl
              · exact HFr.out b' hb'
              · exact ⟨(fun e => by cases e), (by rw [hll]; exact hGl)⟩
            have HMn : Hid ((nb.set p ⟨some ⟨G, 0, none⟩, cb, landL nb[p].L xL j⟩).map Bs.L = crashTo (cs.map Bs.L) (ds.map Wr.key) (keepN K) (k + 1)) := by
              show _ = _
              rw [HNx.out]
              unfold landM
              rw [if_neg (by omega), List.map_set]
              simp only [Int.toNat_natCast]
              rw [List.getD_eq_getElem?_getD, List.getElem?_map, List.getElem?_eq_getElem hpn]
              rfl
            clear hu hll hvx1 hvx2 hvx3 hgo' hg0' hg1'
            by_cases h2 : 128 < kv
            · have h3 : (j : Int) < kv := by
                have h := HNK.out
                rw [if_pos h2] at h
                omega
              have h4 : ¬ (j : Int) < 128 := by
                have h := HNK.out
                rw [if_pos h2] at h
                omega
              go_wp2_with fail
              go_roundw
              case rel => exact ⟨k + 1, by omega, by go_num, ⟨_, HMn.out, HFn.out, HU.out⟩, HOu⟩
              case measure => simp [intOf]; omega
            · have h3 : ¬ (j : Int) < kv := by
                have h := HNK.out
                rw [if_neg h2] at h
                omega
              go_wp2_with fail
              go_roundw
              case rel => exact ⟨k + 1, by omega, by go_num, ⟨_, HMn.out, HFn.out, HU.out⟩, HOu⟩
              case measure => simp [intOf]; omega
      · have HK0 : Hid (keepN K k = 0) := keepN_zero (fun hkk => by
          have : ¬ 1 ≤ K[k]! := fun h1 => hgo ⟨hkk, h1⟩
          omega)
        have HNx := hide (HNext.out 0 HK0.out)
        have HRel : Hid (nb.map Bs.L = crashTo (cs.map Bs.L) (ds.map Wr.key) (keepN K) (k + 1)) := by show _ = _; rw [HNx.out, landM_zero]
        by_cases hkk : k < K.length
        · obtain ⟨kb, ko, eka, ck⟩ := its_at (HKP.out.kept HKr.out) k hkk
          have h1v : K[k] < 1 := by
            have : ¬ 1 ≤ K[k]! := fun h1 => hgo ⟨hkk, h1⟩
            rw [getElem!_pos K k hkk] at this
            omega
          subst eka
          have hkbl := lt_of_cell ck
          generalize K[k] = kv at *
          clear HNext hgo
          go_wp2_with fail
          go_roundw
          case rel => exact ⟨k + 1, by omega, by go_num, ⟨nb, HRel.out, HFr.out, HLk.out⟩, HOk2⟩
          case measure => simp [intOf]; omega
        · have hkk2 : (K.length : Int) ≤ (k : Int) := by omega
          clear HNext hgo
          go_wp2_with fail
          go_roundw
          case rel => exact ⟨k + 1, by omega, by go_num, ⟨nb, HRel.out, HFr.out, HLk.out⟩, HOk2⟩
          case measure => simp [intOf]; omega
    · have e : k = ds.length := by omega
      subst e
      have hO := HR1.out.kept HLr.out.keeps
      have r0 := cell_at hO.mem 0 (by simp)
      have r1 := cell_at hO.mem 1 (by simp)
      have q0 := cell_at HOr.out.mem 0 (by simp)
      have q1 := cell_at HOr.out.mem 1 (by simp)
      simp only [Nat.zero_add, List.getElem_cons_zero, List.getElem_cons_succ] at r0 r1 q0 q1
      have fR : ∀ i, wr.frozen? ⟨w.heap.size + 1, i, none⟩ = false := hO.free (w.heap.size + 1) (by rw [fp_one, fpS_some (by simp)]; simp)
      have HT1 : Hid (Turn [w.heap.size + 1] wr ((wr.setCell ⟨w.heap.size + 1, 0, none⟩ (.slice (some ⟨g, 0, none⟩) cs.length gc)).setCell ⟨w.heap.size + 1, 1, none⟩ (.slice none 0 0))) := (Turn.set (by simp) _).trans' (Turn.set (by simp) _)
      have HKF := hide (((HKA.out.trans HKr.out).setCell (p := ⟨w.heap.size + 1, 0, none⟩) (Nat.le_succ _) (.slice (some ⟨g, 0, none⟩) cs.length gc)).setCell (p := ⟨w.heap.size + 1, 1, none⟩) (Nat.le_succ _) (.slice none 0 0))
      have E0 : Hid (((wr.setCell ⟨w.heap.size + 1, 0, none⟩ (.slice (some ⟨g, 0, none⟩) cs.length gc)).setCell ⟨w.heap.size + 1, 1, none⟩ (.slice none 0 0)).cell? ⟨w.heap.size + 1, 0, none⟩ = some (.slice (some ⟨g, 0, none⟩) cs.length gc)) := by
        show _ = _
        rw [World.cell?_setCell_other _ _ _ _ (by simp)]; exact World.cell?_setCell_same _ _ _ r0
      have E1 : Hid (((wr.setCell ⟨w.heap.size + 1, 0, none⟩ (.slice (some ⟨g, 0, none⟩) cs.length gc)).setCell ⟨w.heap.size + 1, 1, none⟩ (.slice none 0 0)).cell? ⟨w.heap.size + 1, 1, none⟩ = some (.slice none 0 0)) := by
        show _ = _
        refine World.cell?_setCell_same _ _ _ (u := .slice none 0 0) ?_
        rw [World.cell?_setCell_other _ _ _ _ (by simp)]; exact r1
      have HDR : Hid (∀ W, Turn [w.heap.size + 1] wr W → DiskRes w W (.agg #[.slice (some ⟨g, 0, none⟩) cs.length gc, .slice none 0 0]) (crashM (dat cs ds) (keepN K))) := fun W hT => by
        have hcm : crashM (dat cs ds) (keepN K) = ⟨nb.map Bs.L, []⟩ := by
          unfold crashM
          rw [if_pos HOK.out, HNr.out]
          simp [dat]
        rw [hcm]
        refine diskres_cells (HKA.out.trans HK1.out) HLr.out hT (fun b hb => ?_) ?_ HFr.out
        · simp at hb
          omega
        · rw [HNr.out]
          exact crash_dok HOK.out HF.out ds.length
      clear hO
      go_wp2_with fail
      have e0 := E0.out
      have e1 := E1.out
      have hT := HT1.out
      have hK := HKF.out
      clear r0 r1 fR E0 E1 HT1 HKF q0 q1
      revert e0 e1 hT hK
      generalize (wr.setCell ⟨w.heap.size + 1, 0, none⟩ (.slice (some ⟨g, 0, none⟩) cs.length gc)).setCell ⟨w.heap.size + 1, 1, none⟩ (.slice none 0 0) = W
      intro e0 e1 hT hK
      refine bodyPost_ret (v := .agg #[.slice (some ⟨g, 0, none⟩) cs.length gc, .slice none 0 0]) (by simp [results, Tryz.results50, go_sem, e0, e1]) rfl ⟨_, rfl, HDR.out W hT, hK⟩
end Go.Proofs.YtkdnddckogbgaaaGreatDoor
namespace Go.Proofs.YtkdnddckogbgaaaGreatDoor
open Go.RowKit Go.Deep
set_option linter.unusedVariables false
set_option linter.unusedSimpArgs false
set_option maxRecDepth 10000

theorem crashTo_congr {C : List (List UInt8)} {D : List (Int × List UInt8)} {f f' : Nat → Nat} (h : ∀ i, i < D.length → f i = f' i) : ∀ k, crashTo C D f k = crashTo C D f' k
  | 0 => rfl
  | k + 1 => by
    simp only [crashTo]
    rw [crashTo_congr h k]
    cases hD : D[k]? with
    | none => rfl
    | some x =>
      obtain ⟨hk, _⟩ := List.getElem?_eq_some_iff.1 hD
      simp only
      rw [h k hk]
theorem crash_sync (cs : List Bs) (ds : List Wr) : crashM (dat cs ds) (keepN (List.replicate ds.length 128)) = crashM (dat cs ds) (fun _ => 128) := by
  have e : ∀ i, i < (dat cs ds).dirty.length → keepN (List.replicate ds.length 128) i = (fun _ => 128) i := fun i hi => by
    have hi' : i < ds.length := by simpa [dat] using hi
    unfold keepN
    rw [List.getElem?_replicate, if_pos hi']
    rfl
  unfold crashM
  rw [crashTo_congr e]
theorem DiskRes.turned {w w1 w2 W : World} {v : Value} {M : DkM} {R : Nat} (h : DiskRes w1 w2 v M) (hk : Keeps w w1) (hT : Turn [R] w2 W) (hR : R < w1.heap.size) : DiskRes w W v M := by
  obtain ⟨ca, cc, cs, da, dc, ds, e1, e2, h1, h2, h3, hb⟩ := h
  refine ⟨ca, cc, cs, da, dc, ds, e1, e2, h1, h2, h3, ?_⟩
  refine (hb.turn hT (fun b hb' hx => ?_)).old hk
  have := hb.new b hb'
  have e : b = R := by simpa using hx
  omega
set_option maxHeartbeats 8000000 in
theorem disksync_spec (ca : Option Addr) (cc : Nat) (cs : List Bs) (da : Option Addr) (dc : Nat) (ds : List Wr) (w : World) (hm : Mem w (dsk ca cs da ds)) (h : DOk cs ds) :
    Calls Tryz.prog 54 #[dskV ca cs.length cc da ds.length dc] w fun e w' => ∃ v, e = .returned v ∧ DiskRes w w' v (crashM (dat cs ds) (fun _ => 128)) ∧ Keeps w w' := by
  have HKA := hide (Keeps.alloc (Keeps.alloc (Keeps.refl w) (.cells #[.slice ca cs.length cc, .slice da ds.length dc] 26)) (.cells #[.slice none 0 0, .slice none 0 0] 26))
  have HM := hide (hm.kept HKA.out)
  have HD : Hid (∀ w', Keeps ((w.alloc (.cells #[.slice ca cs.length cc, .slice da ds.length dc] 26)).alloc (.cells #[.slice none 0 0, .slice none 0 0] 26)) w' → w'.cell? ⟨w.heap.size, 0, none⟩ = some (.slice ca cs.length cc) ∧ w'.cell? ⟨w.heap.size, 1, none⟩ = some (.slice da ds.length dc)) :=
    fun w' hk => ⟨hk.cell (by simp), hk.cell (by simp)⟩
  have HZ : Hid (((w.alloc (.cells #[.slice ca cs.length cc, .slice da ds.length dc] 26)).alloc (.cells #[.slice none 0 0, .slice none 0 0] 26)).heap.size = w.heap.size + 1 + 1) := by show _ = _; rw [World.size_alloc, World.size_alloc]
  have HR := hide ((born_alloc (w.alloc (.cells #[.slice ca cs.length cc, .slice da ds.length dc] 26)) #[.slice none 0 0, .slice none 0 0] 26).toOwn)
  rw [World.size_alloc] at HR
  have HDO := hide h
  have hdl := h.d
  have HK0 := hide (Keeps.alloc (Keeps.refl ((w.alloc (.cells #[.slice ca cs.length cc, .slice da ds.length dc] 26)).alloc (.cells #[.slice none 0 0, .slice none 0 0] 26))) (.cells #[] 3))
  have HO0 := hide (World.ownsRow_made (base := ((w.alloc (.cells #[.slice ca cs.length cc, .slice da ds.length dc] 26)).alloc (.cells #[.slice none 0 0, .slice none 0 0] 26)).heap.size) (e := 3) (size := 1) ((w.alloc (.cells #[.slice ca cs.length cc, .slice da ds.length dc] 26)).alloc (.cells #[.slice none 0 0, .slice none 0 0] 26)) #[] 0 (Nat.le_refl _) (by decide) rfl)
  obtain ⟨d0, d1⟩ := HD.out _ HK0.out
  clear hm h
  go_enter Tryz.func54, Tryz.ntmps54
  go_wp2_with fail
  go_loopw [3, 8] (fun x y wr => ∃ k : Nat, k ≤ ds.length ∧ y = .int .i64 (k : Int) ∧ Hid (OwnsI wr (w.heap.size + 1 + 1) x (List.replicate k 128)) ∧ Hid (Keeps ((w.alloc (.cells #[.slice ca cs.length cc, .slice da ds.length dc] 26)).alloc (.cells #[.slice none 0 0, .slice none 0 0] 26)) wr)) (fun _ y _ => ds.length - (intOf y).toNat)
  case atStart => exact ⟨0, by omega, rfl, by have h := HO0.out; rw [HZ.out] at h; show OwnsI _ _ _ _; exact h, HK0⟩
  case round =>
    obtain ⟨k, hk, rfl, HOr, HKr⟩ := hrel
    clear d0 d1
    by_cases hlt : k < ds.length
    · have HOa := hide (World.ownsRow.alloc HOr.out (.cells #[.int .i64 128] 3))
      have HKa := hide (Keeps.alloc HKr.out (.cells #[.int .i64 128] 3))
      have HCx : Hid (∀ j u, (its [128])[j]? = some u → (wr.alloc (.cells #[.int .i64 128] 3)).cell? ((⟨wr.heap.size, 0, none⟩ : Addr).add j) = some u) := fun j u hj => by
        match j, hj with
        | 0, hj => simp [its] at hj; subst hj; simp [Addr.add]
        | n + 1, hj => simp [its] at hj
      have HLn : Hid ((List.replicate k (128 : Int)).length + [(128 : Int)].length ≤ 1048576) := by show _ ≤ _; simp; omega
      have hbz : w.heap.size + 1 + 1 ≤ wr.heap.size := by have := HKr.out.size; rw [HZ.out] at this; exact this
      go_wp2_with (at_builtin; refine app_its rfl (.tmp 10) (.tmp 11) rfl (w.heap.size + 1 + 1) _ (List.replicate k 128) [128] rfl ⟨wr.heap.size, 0, none⟩ 1 rfl HCx.out HOa.out HLn.out (by simp; omega) ?_; intro v' w' ho hg _)
      have HOn : Hid (OwnsI w' (w.heap.size + 1 + 1) v' (List.replicate (k + 1) 128)) := by show OwnsI _ _ _ _; rw [List.replicate_succ']; exact ho
      have HKn := hide (Keeps.grown HKa.out hg (fun j hj => by
        have h1 := (HOa.out.lt j hj).1
        rw [HZ.out]; exact h1))
      clear ho hg
      go_roundw
      case rel => exact ⟨k + 1, by omega, by go_num, HOn, HKn⟩
      case measure => simp [intOf]; omega
    · have e : k = ds.length := by omega
      subst e
      obtain ⟨ka, kc, hve, _, _, _, hown, _⟩ := Own.of_owns HOr.out
      have hrl : (List.replicate ds.length (128 : Int)).length = ds.length := by simp
      have HC := hide (diskcrash_spec ca cc cs da dc ds ka kc (List.replicate ds.length 128) wr (HM.out.kept HKr.out) HDO.out hown.one (by simp; omega))
      rw [hrl] at hve HC
      obtain ⟨d0, d1⟩ := HD.out _ HKr.out
      subst hve
      clear hown hrl
      go_wp2_with fail
      refine (unhide HC).mono ?_
      rintro x w4 ⟨v, rfl, hdr, hk4⟩
      rw [crash_sync] at hdr
      have HDR : Hid (∀ W, Turn [w.heap.size + 1] w4 W → DiskRes w W v (crashM (dat cs ds) (fun _ => 128))) := fun W hT => hdr.turned (HKA.out.trans HKr.out) hT (by have := HKr.out.size; rw [HZ.out] at this; omega)
      obtain ⟨ca', cc', cs', da', dc', ds', hv, _⟩ := hdr
      have hO := (HR.out.kept HKr.out).kept hk4
      have r0 := cell_at hO.mem 0 (by simp)
      have r1 := cell_at hO.mem 1 (by simp)
      simp only [Nat.zero_add, List.getElem_cons_zero, List.getElem_cons_succ] at r0 r1
      have fR : ∀ i, w4.frozen? ⟨w.heap.size + 1, i, none⟩ = false := hO.free (w.heap.size + 1) (by rw [fp_one, fpS_some (by simp)]; simp)
      have HT1 : Hid (Turn [w.heap.size + 1] w4 ((w4.setCell ⟨w.heap.size + 1, 0, none⟩ (.slice ca' cs'.length cc')).setCell ⟨w.heap.size + 1, 1, none⟩ (.slice da' ds'.length dc'))) := (Turn.set (by simp) _).trans' (Turn.set (by simp) _)
      have HKF := hide ((((HKA.out.trans HKr.out).trans hk4).setCell (p := ⟨w.heap.size + 1, 0, none⟩) (Nat.le_succ _) (.slice ca' cs'.length cc')).setCell (p := ⟨w.heap.size + 1, 1, none⟩) (Nat.le_succ _) (.slice da' ds'.length dc'))
      have E0 : Hid (((w4.setCell ⟨w.heap.size + 1, 0, none⟩ (.slice ca' cs'.length cc')).setCell ⟨w.heap.size + 1, 1, none⟩ (.slice da' ds'.length dc')).cell? ⟨w.heap.size + 1, 0, none⟩ = some (.slice ca' cs'.length cc')) := by
        show _ = _
        rw [World.cell?_setCell_other _ _ _ _ (by simp)]; exact World.cell?_setCell_same _ _ _ r0
      have E1 : Hid (((w4.setCell ⟨w.heap.size + 1, 0, none⟩ (.slice ca' cs'.length cc')).setCell ⟨w.heap.size + 1, 1, none⟩ (.slice da' ds'.length dc')).cell? ⟨w.heap.size + 1, 1, none⟩ = some (.slice da' ds'.length dc')) := by
        show _ = _
        refine World.cell?_setCell_same _ _ _ (u := .slice none 0 0) ?_
        rw [World.cell?_setCell_other _ _ _ _ (by simp)]; exact r1
      subst hv
      clear hO hk4 d0 d1
      go_wp2_with fail
      have e0 := E0.out
      have e1 := E1.out
      have hT := HT1.out
      have hK := HKF.out
      clear r0 r1 fR E0 E1 HT1 HKF
      revert e0 e1 hT hK
      generalize (w4.setCell ⟨w.heap.size + 1, 0, none⟩ (.slice ca' cs'.length cc')).setCell ⟨w.heap.size + 1, 1, none⟩ (.slice da' ds'.length dc') = W
      intro e0 e1 hT hK
      refine bodyPost_ret (v := dskV ca' cs'.length cc' da' ds'.length dc') (by simp [results, Tryz.results54, go_sem, e0, e1]) rfl ⟨_, rfl, HDR.out W hT, hK⟩
end Go.Proofs.YtkdnddckogbgaaaGreatDoor
namespace Go.Proofs.YtkdnddckogbgaaaGreatDoor
open Go.RowKit Go.Deep
set_option linter.unusedVariables false
set_option maxRecDepth 10000

abbrev logV (ca : Option Addr) (cn cc : Nat) (da : Option Addr) (dn dc : Nat) (nx ep : Int) : Value := .agg #[.slice ca cn cc, .slice da dn dc, .int .i64 nx, .int .i64 ep]
/-- A log that was made behind w. -/
def LogRes (w w' : World) (v : Value) (M : DkM) (nx ep : Int) : Prop := ∃ (ca : Option Addr) (cc : Nat) (cs : List Bs) (da : Option Addr) (dc : Nat) (ds : List Wr), v = logV ca cs.length cc da ds.length dc nx ep ∧ dat cs ds = M ∧ DOk cs ds ∧ (ca = none → cc = 0) ∧ (da = none → dc = 0) ∧ Born w w' (dsk ca cs da ds)
def noM : DkM := ⟨[], []⟩
theorem LogRes.none (w w' : World) : LogRes w w' (.agg #[.slice none 0 0, .slice none 0 0, .int .i64 0, .int .i64 0]) noM 0 0 :=
  ⟨Option.none, 0, [], Option.none, 0, [], rfl, rfl, ⟨by simp, by simp, by simp [tot], by simp [totW], by simp, by simp⟩, fun _ => rfl, fun _ => rfl, by
    refine ⟨⟨?_, ?_, ?_⟩, ?_⟩
    · intro s hs
      have : s = (Option.none, []) := by simpa [dsk, ccells, wcells] using hs
      rw [this]
      exact Or.inl rfl
    · simp [fp, fpS, dsk, ccells, wcells]
    · intro b hb
      simp [fp, fpS, dsk, ccells, wcells] at hb
    · intro b hb
      simp [fp, fpS, dsk, ccells, wcells] at hb⟩
end Go.Proofs.YtkdnddckogbgaaaGreatDoor
