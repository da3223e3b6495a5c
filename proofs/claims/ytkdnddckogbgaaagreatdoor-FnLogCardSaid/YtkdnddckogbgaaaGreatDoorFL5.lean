/- DiskSync and DiskCrash of the program, by contract. -/
import Derived.Test.YtkdnddckogbgaaaGreatDoorFL4
namespace Go.Proofs.YtkdnddckogbgaaaGreatDoor
open Go.RowKit Go.Deep
set_option linter.unusedVariables false
set_option linter.unusedSimpArgs false
set_option maxRecDepth 10000

/-- A disk of one list that was made, with nothing that waits; then a variable was set. -/
theorem diskres_cells {w w5 w6 W : World} {v1 : Value} {nb : List Bs} {fs : List Nat} (hk : Keeps w w5) (hC : LG 93 1 Bs.cells Bs.seg w5 w6 v1 nb) (hT : Turn fs w6 W) (hfs : ∀ b ∈ fs, b < w5.heap.size) (hok : dokM ⟨nb.map Bs.L, []⟩ = true) (nc : ∀ b ∈ nb, b.fit) :
    DiskRes w W (.agg #[v1, .slice none 0 0]) ⟨nb.map Bs.L, []⟩ := by
  obtain ⟨a1, c1, e1, h1, b1⟩ := hC.cells
  refine ⟨a1, c1, nb, none, 0, [], by rw [e1]; rfl, rfl, dokM_DOk (ds := []) hok nc (fun x hx => by simp at hx), h1, fun _ => rfl, ?_⟩
  have b1' : Born w W ((a1, ccells nb) :: nb.map Bs.seg) := by
    refine (b1.turn hT (fun b hb hx => ?_)).old hk
    have := b1.new b hb
    have := hfs b hx
    omega
  have e2 : fp ([((none : Option Addr), wcells [])] ++ ([] : List Wr).map Wr.seg) = [] := by simp [fp, fpS, wcells]
  have o2 : Own W ([((none : Option Addr), wcells [])] ++ ([] : List Wr).map Wr.seg) :=
    ⟨fun s hs => by
      have : s = (none, wcells []) := by simpa using hs
      rw [this]
      exact Or.inl rfl, by rw [e2]; exact List.nodup_nil, fun b hb => by rw [e2] at hb; simp at hb⟩
  refine ⟨b1'.toOwn.append o2 (fun b hb hb' => ?_), fun b hb => ?_⟩
  · have h : b ∈ fp ([((none : Option Addr), wcells [])] ++ ([] : List Wr).map Wr.seg) := hb'
    rw [e2] at h; simp at h
  · unfold dsk at hb
    rw [fp_append] at hb
    rcases List.mem_append.1 hb with hb | hb
    · exact b1'.new b hb
    · have h : b ∈ fp ([((none : Option Addr), wcells [])] ++ ([] : List Wr).map Wr.seg) := hb
      rw [e2] at h; simp at h
theorem clamp_k (n : Int) (w : World) : Calls Tryz.prog 48 #[.int .i64 n, .int .i64 0, .int .i64 128] w fun e w' => e = .returned (.int .i64 (if n < 0 then 0 else if 128 < n then 128 else n)) ∧ w' = w := by
  by_cases h1 : n < 0
  · rw [if_pos h1]
    go_enter Tryz.func48, Tryz.ntmps48
    go_wp2
    go_ret
    exact ⟨rfl, rfl⟩
  · rw [if_neg h1]
    by_cases h2 : 128 < n
    · rw [if_pos h2]
      go_enter Tryz.func48, Tryz.ntmps48
      go_wp2
      go_ret
      exact ⟨rfl, rfl⟩
    · rw [if_neg h2]
      go_enter Tryz.func48, Tryz.ntmps48
      go_wp2
      go_ret
      exact ⟨rfl, rfl⟩
/-- What lies in a write that waits. -/
theorem dirty_at {cs : List Bs} {ds : List Wr} (hok : dokM (dat cs ds) = true) (k : Nat) (hk : k < ds.length) : ∃ p : Nat, ds[k].i = (p : Int) ∧ p < cs.length ∧ ds[k].b.L.length = 128 := by
  have hm : ds[k].key ∈ (dat cs ds).dirty := List.mem_map.2 ⟨ds[k], List.getElem_mem hk, rfl⟩
  obtain ⟨h1, h2, h3⟩ := dokM_dirty hok hm
  refine ⟨ds[k].i.toNat, ?_, ?_, h3⟩
  · show ds[k].i = _
    have : (0 : Int) ≤ ds[k].i := h1
    omega
  · have h4 : ds[k].i < ((dat cs ds).cells.length : Int) := h2
    have h5 : (dat cs ds).cells.length = cs.length := by simp [dat]
    have : (0 : Int) ≤ ds[k].i := h1
    omega
theorem crashTo_next {C : List (List UInt8)} {ds : List Wr} {f : Nat → Nat} {k : Nat} (hk : k < ds.length) : crashTo C (ds.map Wr.key) f (k + 1) = landM (crashTo C (ds.map Wr.key) f k) ds[k].key (f k) := by
  simp [crashTo, hk]
set_option maxHeartbeats 8000000 in
theorem disksync_impl (ca : Option Addr) (cc : Nat) (cs : List Bs) (da : Option Addr) (dc : Nat) (ds : List Wr) (w : World) (hm : Mem w (dsk ca cs da ds)) (h : DOk cs ds) :
    Calls Tryz.prog 49 #[dskV ca cs.length cc da ds.length dc] w fun e w' => ∃ v, e = .returned v ∧ DiskRes w w' v (crashM (dat cs ds) (fun _ => 128)) ∧ Keeps w w' := by
  have HKA := hide (Keeps.alloc (Keeps.alloc (Keeps.refl w) (.cells #[.slice ca cs.length cc, .slice da ds.length dc] 26)) (.cells #[.slice none 0 0, .slice none 0 0] 26))
  have HM := hide (hm.kept HKA.out)
  have HD : Hid (∀ w', Keeps ((w.alloc (.cells #[.slice ca cs.length cc, .slice da ds.length dc] 26)).alloc (.cells #[.slice none 0 0, .slice none 0 0] 26)) w' → w'.cell? ⟨w.heap.size, 0, none⟩ = some (.slice ca cs.length cc) ∧ w'.cell? ⟨w.heap.size, 1, none⟩ = some (.slice da ds.length dc)) :=
    fun w' hk => ⟨hk.cell (by simp), hk.cell (by simp)⟩
  have HZ : Hid (((w.alloc (.cells #[.slice ca cs.length cc, .slice da ds.length dc] 26)).alloc (.cells #[.slice none 0 0, .slice none 0 0] 26)).heap.size = w.heap.size + 1 + 1) := by show _ = _; rw [World.size_alloc, World.size_alloc]
  have HR := hide ((born_alloc (w.alloc (.cells #[.slice ca cs.length cc, .slice da ds.length dc] 26)) #[.slice none 0 0, .slice none 0 0] 26).toOwn)
  rw [World.size_alloc] at HR
  have HQ := hide (diskok_impl' ca cc cs da dc ds _ HM.out h)
  have HDO := hide h
  have hdl := h.d
  clear hm h
  cases hok : dokM (dat cs ds)
  · rw [hok] at HQ
    have HC : Hid (crashM (dat cs ds) (fun _ => 128) = noneM) := by show _ = _; unfold crashM; rw [hok]; rfl
    clear hok
    go_enter Tryz.func49, Tryz.ntmps49
    go_wp2_with fail
    refine (unhide HQ).mono ?_
    rintro x w1 ⟨rfl, hk1⟩
    have hO := HR.out.kept hk1
    have r0 := cell_at hO.mem 0 (by simp)
    have r1 := cell_at hO.mem 1 (by simp)
    simp only [Nat.zero_add, List.getElem_cons_zero, List.getElem_cons_succ] at r0 r1
    have fR : ∀ i, w1.frozen? ⟨w.heap.size + 1, i, none⟩ = false := hO.free (w.heap.size + 1) (by rw [fp_one, fpS_some (by simp)]; simp)
    have HK1 := hide (((HKA.out.trans hk1).setCell (p := ⟨w.heap.size + 1, 0, none⟩) (Nat.le_succ _) (.slice none 0 0)).setCell (p := ⟨w.heap.size + 1, 1, none⟩) (Nat.le_succ _) (.slice none 0 0))
    have e0 : ((w1.setCell ⟨w.heap.size + 1, 0, none⟩ (.slice none 0 0)).setCell ⟨w.heap.size + 1, 1, none⟩ (.slice none 0 0)).cell? ⟨w.heap.size + 1, 0, none⟩ = some (.slice none 0 0) := by
      rw [World.cell?_setCell_other _ _ _ _ (by simp)]; exact World.cell?_setCell_same _ _ _ r0
    have e1 : ((w1.setCell ⟨w.heap.size + 1, 0, none⟩ (.slice none 0 0)).setCell ⟨w.heap.size + 1, 1, none⟩ (.slice none 0 0)).cell? ⟨w.heap.size + 1, 1, none⟩ = some (.slice none 0 0) := by
      refine World.cell?_setCell_same _ _ _ (u := .slice none 0 0) ?_
      rw [World.cell?_setCell_other _ _ _ _ (by simp)]; exact r1
    have E0 := hide e0
    have E1 := hide e1
    clear hO hk1 e0 e1
    go_wp2_with fail
    have e0 := E0.out
    have e1 := E1.out
    clear r0 r1 fR E0 E1
    generalize (w1.setCell ⟨w.heap.size + 1, 0, none⟩ (.slice none 0 0)).setCell ⟨w.heap.size + 1, 1, none⟩ (.slice none 0 0) = W at *
    refine bodyPost_ret (v := dskV none 0 0 none 0 0) (by simp [results, Tryz.results49, go_sem, e0, e1]) rfl ⟨_, rfl, ?_, HK1.out⟩
    rw [HC.out]
    exact diskres_none w W
  rw [hok] at HQ
  have HOK := hide hok
  have HF : Hid (∀ i : Nat, (fun _ => 128) i ≤ 128) := fun i => Nat.le_refl _
  clear hok
  go_enter Tryz.func49, Tryz.ntmps49
  go_wp2_with fail
  refine (unhide HQ).mono ?_
  rintro x w1 ⟨rfl, hk1⟩
  have HK1 := hide hk1
  obtain ⟨d0, d1⟩ := HD.out _ hk1
  clear hk1
  go_wp2_with fail
  have hmm := dsk_mem (HM.out.kept HK1.out)
  refine (copyCells_k ca cc cs w1 hmm.1 hmm.2.1 HDO.out.nc HDO.out.c (fun b hb => Nat.le_trans (Nat.le_trans (tot_le hb) HDO.out.tc) (by decide))).mono ?_
  clear hmm
  rintro x w2 ⟨v, nb0, rfl, hnL, hnf, hLG⟩
  have HLG := hide hLG
  have HNL := hide hnL
  have HNF := hide hnf
  have HK2 := hide (HK1.out.trans hLG.keeps)
  clear d0 d1
  obtain ⟨d0, d1⟩ := HD.out _ HK2.out
  clear hLG hnL hnf
  go_wp2_with fail
  go_loopw [16] (fun y wr => ∃ k : Nat, k ≤ ds.length ∧ y = .int .i64 (k : Int) ∧ Hid (∃ nb, nb.map Bs.L = crashTo (cs.map Bs.L) (ds.map Wr.key) (fun _ => 128) k ∧ (∀ b ∈ nb, b.fit) ∧ LG 93 1 Bs.cells Bs.seg w1 wr v nb)) (fun y _ => ds.length - (intOf y).toNat)
  case atStart => exact ⟨0, by omega, rfl, nb0, HNL.out, HNF.out, HLG.out⟩
  case round =>
    obtain ⟨k, hk, rfl, HH⟩ := hrel
    obtain ⟨nb, hnL, hnf, hLG⟩ := HH.out
    have hkw : Keeps ((w.alloc (.cells #[.slice ca cs.length cc, .slice da ds.length dc] 26)).alloc (.cells #[.slice none 0 0, .slice none 0 0] 26)) wr := HK1.out.trans hLG.keeps
    have HLr := hide hLG
    have HNr := hide hnL
    have HFr := hide hnf
    have HKr := hide hkw
    clear hnL hnf hLG HH d0 d1
    by_cases hlt : k < ds.length
    · have hmm := dsk_mem (HM.out.kept hkw)
      obtain ⟨b, off, ea, c0, c1⟩ := cell2 hmm.2.2.1 k hlt
      obtain ⟨p, hp, hpc, hL⟩ := dirty_at HOK.out k hlt
      have hseg : Cells wr ds[k].b.a (bys ds[k].b.L) := hmm.2.2.2 ds[k].seg (List.mem_map.2 ⟨ds[k], List.getElem_mem hlt, rfl⟩)
      obtain ⟨xb, xo, exa⟩ : ∃ xb xo, ds[k].b.a = some ⟨xb, xo, none⟩ := by
        rcases hseg with h' | ⟨b', o', e', _⟩
        · rw [bys_nil] at h'; rw [h'] at hL; simp at hL
        · exact ⟨b', o', e'⟩
      have hfit := (HDO.out.nd ds[k] (List.getElem_mem hlt)).2
      rw [hL] at hfit
      rw [hp] at c0
      rw [show ds[k].b.v = .slice (some ⟨xb, xo, none⟩) 128 ds[k].b.cap by unfold Bs.v; rw [exa, hL]] at c1
      rw [exa] at hseg
      subst ea
      have hlen : nb.length = cs.length := by
        have := congrArg List.length HNr.out
        rw [List.length_map, crashTo_len, List.length_map] at this
        exact this
      have hcell : nb[p].L.length = 0 ∨ nb[p].L.length = 128 := by
        have h2 := crashTo_ok HOK.out HF.out k
        have h3 : nb[p].L ∈ crashTo (dat cs ds).cells (dat cs ds).dirty (fun _ => 128) k := by
          show _ ∈ crashTo (cs.map Bs.L) (ds.map Wr.key) (fun _ => 128) k
          rw [← HNr.out]
          exact List.mem_map.2 ⟨nb[p], List.getElem_mem _, rfl⟩
        exact h2 _ h3
      have hka := Keeps.alloc (Keeps.refl wr) (.cells #[.int .i64 (p : Int), .slice (some ⟨xb, xo, none⟩) 128 ds[k].b.cap] 86)
      have HLand := hide (fun (n : Nat) (hn : n ≤ 128) (wd : World) (hkd : Keeps (wr.alloc (.cells #[.int .i64 (p : Int), .slice (some ⟨xb, xo, none⟩) 128 ds[k].b.cap] 86)) wd) => land_k w1 wd v nb (HLr.out.kept (hka.trans hkd)) p (by omega) xb xo ds[k].b.cap ds[k].b.L (hseg.kept (hka.trans hkd)) hL hfit n hn hcell (by have := HDO.out.c; omega) HFr.out)
      have HNext : Hid (∀ n, (fun _ => 128) k = n → crashTo (cs.map Bs.L) (ds.map Wr.key) (fun _ => 128) (k + 1) = landM (nb.map Bs.L) ((p : Int), ds[k].b.L) n) := fun n hn => by
        subst hn
        rw [crashTo_next hlt, ← HNr.out]
        unfold Wr.key
        rw [hp]
      generalize ds[k].b.cap = xc at *
      generalize ds[k].b.L = xL at *
      clear hmm hp hseg exa hfit hcell hkw hL hka
      have hdl2 : (ds.length : Int) ≤ 1048576 := by omega
      go_wp2_with fail
      refine (unhide HLand 128 (Nat.le_refl _) _ (Keeps.refl _)).mono ?_
      rintro x w4 ⟨rfl, nb', hnL, hnf, hLG, _⟩
      have HL4 := hide hLG
      have HN4 := hide (hnL.trans (HNext.out 128 rfl).symm)
      have HF4 := hide hnf
      clear hLG hnL hnf HLand HNext c0 c1
      go_wp2_with fail
      go_roundw
      case rel => exact ⟨k + 1, by omega, by go_num, nb', HN4.out, HF4.out, HL4.out⟩
      case measure => simp [intOf]; omega
    · have e : k = ds.length := by omega
      subst e
      have hO := HR.out.kept HKr.out
      have r0 := cell_at hO.mem 0 (by simp)
      have r1 := cell_at hO.mem 1 (by simp)
      simp only [Nat.zero_add, List.getElem_cons_zero, List.getElem_cons_succ] at r0 r1
      have fR : ∀ i, wr.frozen? ⟨w.heap.size + 1, i, none⟩ = false := hO.free (w.heap.size + 1) (by rw [fp_one, fpS_some (by simp)]; simp)
      have HT1 : Hid (Turn [w.heap.size + 1] wr ((wr.setCell ⟨w.heap.size + 1, 0, none⟩ v).setCell ⟨w.heap.size + 1, 1, none⟩ (.slice none 0 0))) := (Turn.set (by simp) _).trans' (Turn.set (by simp) _)
      have HKF := hide (((HKA.out.trans HKr.out).setCell (p := ⟨w.heap.size + 1, 0, none⟩) (Nat.le_succ _) v).setCell (p := ⟨w.heap.size + 1, 1, none⟩) (Nat.le_succ _) (.slice none 0 0))
      have E0 : Hid (((wr.setCell ⟨w.heap.size + 1, 0, none⟩ v).setCell ⟨w.heap.size + 1, 1, none⟩ (.slice none 0 0)).cell? ⟨w.heap.size + 1, 0, none⟩ = some v) := by
        show _ = _
        rw [World.cell?_setCell_other _ _ _ _ (by simp)]; exact World.cell?_setCell_same _ _ _ r0
      have E1 : Hid (((wr.setCell ⟨w.heap.size + 1, 0, none⟩ v).setCell ⟨w.heap.size + 1, 1, none⟩ (.slice none 0 0)).cell? ⟨w.heap.size + 1, 1, none⟩ = some (.slice none 0 0)) := by
        show _ = _
        refine World.cell?_setCell_same _ _ _ (u := .slice none 0 0) ?_
        rw [World.cell?_setCell_other _ _ _ _ (by simp)]; exact r1
      have HDR : Hid (∀ W, Turn [w.heap.size + 1] wr W → DiskRes w W (.agg #[v, .slice none 0 0]) (crashM (dat cs ds) (fun _ => 128))) := fun W hT => by
        have hcm : crashM (dat cs ds) (fun _ => 128) = ⟨nb.map Bs.L, []⟩ := by
          unfold crashM
          rw [if_pos HOK.out, HNr.out]
          simp [dat]
        rw [hcm]
        refine diskres_cells (HKA.out.trans HK1.out) HLr.out hT (fun b hb => ?_) ?_ HFr.out
        · have h1 := HK1.out.size
          rw [HZ.out] at h1
          simp at hb
          omega
        · rw [HNr.out]
          exact crash_dok HOK.out HF.out ds.length
      obtain ⟨av, cv, hve, _⟩ := HLr.out.cells
      have hvv := hve
      clear hO
      subst hve
      go_wp2_with fail
      have e0 := E0.out
      have e1 := E1.out
      have hT := HT1.out
      have hK := HKF.out
      clear r0 r1 fR E0 E1 HT1 HKF
      revert e0 e1 hT hK
      generalize (wr.setCell ⟨w.heap.size + 1, 0, none⟩ (.slice av nb.length cv)).setCell ⟨w.heap.size + 1, 1, none⟩ (.slice none 0 0) = W
      intro e0 e1 hT hK
      refine bodyPost_ret (v := .agg #[.slice av nb.length cv, .slice none 0 0]) (by simp [results, Tryz.results49, go_sem, e0, e1]) rfl ⟨_, rfl, HDR.out W hT, hK⟩
set_option maxHeartbeats 8000000 in
theorem diskcrash_impl (ca : Option Addr) (cc : Nat) (cs : List Bs) (da : Option Addr) (dc : Nat) (ds : List Wr) (ka : Option Addr) (kc : Nat) (K : List Int) (w : World) (hm : Mem w (dsk ca cs da ds)) (h : DOk cs ds) (hk : Cells w ka (its K)) (hkl : K.length ≤ 1048576) :
    Calls Tryz.prog 13 #[dskV ca cs.length cc da ds.length dc, .slice ka K.length kc] w fun e w' => ∃ v, e = .returned v ∧ DiskRes w w' v (crashM (dat cs ds) (keepN K)) ∧ Keeps w w' := by
  have HKA := hide (Keeps.alloc (Keeps.alloc (Keeps.refl w) (.cells #[.slice ca cs.length cc, .slice da ds.length dc] 26)) (.cells #[.slice none 0 0, .slice none 0 0] 26))
  have HM := hide (hm.kept HKA.out)
  have HD : Hid (∀ w', Keeps ((w.alloc (.cells #[.slice ca cs.length cc, .slice da ds.length dc] 26)).alloc (.cells #[.slice none 0 0, .slice none 0 0] 26)) w' → w'.cell? ⟨w.heap.size, 0, none⟩ = some (.slice ca cs.length cc) ∧ w'.cell? ⟨w.heap.size, 1, none⟩ = some (.slice da ds.length dc)) :=
    fun w' hk => ⟨hk.cell (by simp), hk.cell (by simp)⟩
  have HZ : Hid (((w.alloc (.cells #[.slice ca cs.length cc, .slice da ds.length dc] 26)).alloc (.cells #[.slice none 0 0, .slice none 0 0] 26)).heap.size = w.heap.size + 1 + 1) := by show _ = _; rw [World.size_alloc, World.size_alloc]
  have HR := hide ((born_alloc (w.alloc (.cells #[.slice ca cs.length cc, .slice da ds.length dc] 26)) #[.slice none 0 0, .slice none 0 0] 26).toOwn)
  rw [World.size_alloc] at HR
  have HQ := hide (diskok_impl' ca cc cs da dc ds _ HM.out h)
  have HDO := hide h
  have hdl := h.d
  have HKP := hide hk
  have hkl2 := hkl
  clear hk
  clear hm h
  cases hok : dokM (dat cs ds)
  · rw [hok] at HQ
    have HC : Hid (crashM (dat cs ds) (keepN K) = noneM) := by show _ = _; unfold crashM; rw [hok]; rfl
    clear hok
    go_enter Tryz.func13, Tryz.ntmps13
    go_wp2_with fail
    refine (unhide HQ).mono ?_
    rintro x w1 ⟨rfl, hk1⟩
    have hO := HR.out.kept hk1
    have r0 := cell_at hO.mem 0 (by simp)
    have r1 := cell_at hO.mem 1 (by simp)
    simp only [Nat.zero_add, List.getElem_cons_zero, List.getElem_cons_succ] at r0 r1
    have fR : ∀ i, w1.frozen? ⟨w.heap.size + 1, i, none⟩ = false := hO.free (w.heap.size + 1) (by rw [fp_one, fpS_some (by simp)]; simp)
    have HK1 := hide (((HKA.out.trans hk1).setCell (p := ⟨w.heap.size + 1, 0, none⟩) (Nat.le_succ _) (.slice none 0 0)).setCell (p := ⟨w.heap.size + 1, 1, none⟩) (Nat.le_succ _) (.slice none 0 0))
    have e0 : ((w1.setCell ⟨w.heap.size + 1, 0, none⟩ (.slice none 0 0)).setCell ⟨w.heap.size + 1, 1, none⟩ (.slice none 0 0)).cell? ⟨w.heap.size + 1, 0, none⟩ = some (.slice none 0 0) := by
      rw [World.cell?_setCell_other _ _ _ _ (by simp)]; exact World.cell?_setCell_same _ _ _ r0
    have e1 : ((w1.setCell ⟨w.heap.size + 1, 0, none⟩ (.slice none 0 0)).setCell ⟨w.heap.size + 1, 1, none⟩ (.slice none 0 0)).cell? ⟨w.heap.size + 1, 1, none⟩ = some (.slice none 0 0) := by
      refine World.cell?_setCell_same _ _ _ (u := .slice none 0 0) ?_
      rw [World.cell?_setCell_other _ _ _ _ (by simp)]; exact r1
    have E0 := hide e0
    have E1 := hide e1
    clear hO hk1 e0 e1
    go_wp2_with fail
    have e0 := E0.out
    have e1 := E1.out
    clear r0 r1 fR E0 E1
    generalize (w1.setCell ⟨w.heap.size + 1, 0, none⟩ (.slice none 0 0)).setCell ⟨w.heap.size + 1, 1, none⟩ (.slice none 0 0) = W at *
    refine bodyPost_ret (v := dskV none 0 0 none 0 0) (by simp [results, Tryz.results13, go_sem, e0, e1]) rfl ⟨_, rfl, ?_, HK1.out⟩
    rw [HC.out]
    exact diskres_none w W
  rw [hok] at HQ
  have HOK := hide hok
  have HF : Hid (∀ i : Nat, (keepN K) i ≤ 128) := keepN_le K
  clear hok
  go_enter Tryz.func13, Tryz.ntmps13
  go_wp2_with fail
  refine (unhide HQ).mono ?_
  rintro x w1 ⟨rfl, hk1⟩
  have HK1 := hide hk1
  obtain ⟨d0, d1⟩ := HD.out _ hk1
  clear hk1
  go_wp2_with fail
  have hmm := dsk_mem (HM.out.kept HK1.out)
  refine (copyCells_k ca cc cs w1 hmm.1 hmm.2.1 HDO.out.nc HDO.out.c (fun b hb => Nat.le_trans (Nat.le_trans (tot_le hb) HDO.out.tc) (by decide))).mono ?_
  clear hmm
  rintro x w2 ⟨v, nb0, rfl, hnL, hnf, hLG⟩
  have HLG := hide hLG
  have HNL := hide hnL
  have HNF := hide hnf
  have HK2 := hide (HK1.out.trans hLG.keeps)
  clear d0 d1
  obtain ⟨d0, d1⟩ := HD.out _ HK2.out
  clear hLG hnL hnf
  go_wp2_with fail
  go_loopw [18] (fun y wr => ∃ k : Nat, k ≤ ds.length ∧ y = .int .i64 (k : Int) ∧ Hid (∃ nb, nb.map Bs.L = crashTo (cs.map Bs.L) (ds.map Wr.key) (keepN K) k ∧ (∀ b ∈ nb, b.fit) ∧ LG 93 1 Bs.cells Bs.seg w1 wr v nb)) (fun y _ => ds.length - (intOf y).toNat)
  case atStart => exact ⟨0, by omega, rfl, nb0, HNL.out, HNF.out, HLG.out⟩
  case round =>
    obtain ⟨k, hk, rfl, HH⟩ := hrel
    obtain ⟨nb, hnL, hnf, hLG⟩ := HH.out
    have hkw : Keeps ((w.alloc (.cells #[.slice ca cs.length cc, .slice da ds.length dc] 26)).alloc (.cells #[.slice none 0 0, .slice none 0 0] 26)) wr := HK1.out.trans hLG.keeps
    have HLr := hide hLG
    have HNr := hide hnL
    have HFr := hide hnf
    have HKr := hide hkw
    clear hnL hnf hLG HH d0 d1
    by_cases hlt : k < ds.length
    · have hmm := dsk_mem (HM.out.kept hkw)
      obtain ⟨b, off, ea, c0, c1⟩ := cell2 hmm.2.2.1 k hlt
      obtain ⟨p, hp, hpc, hL⟩ := dirty_at HOK.out k hlt
      have hseg : Cells wr ds[k].b.a (bys ds[k].b.L) := hmm.2.2.2 ds[k].seg (List.mem_map.2 ⟨ds[k], List.getElem_mem hlt, rfl⟩)
      obtain ⟨xb, xo, exa⟩ : ∃ xb xo, ds[k].b.a = some ⟨xb, xo, none⟩ := by
        rcases hseg with h' | ⟨b', o', e', _⟩
        · rw [bys_nil] at h'; rw [h'] at hL; simp at hL
        · exact ⟨b', o', e'⟩
      have hfit := (HDO.out.nd ds[k] (List.getElem_mem hlt)).2
      rw [hL] at hfit
      rw [hp] at c0
      rw [show ds[k].b.v = .slice (some ⟨xb, xo, none⟩) 128 ds[k].b.cap by unfold Bs.v; rw [exa, hL]] at c1
      rw [exa] at hseg
      subst ea
      have hlen : nb.length = cs.length := by
        have := congrArg List.length HNr.out
        rw [List.length_map, crashTo_len, List.length_map] at this
        exact this
      have hcell : nb[p].L.length = 0 ∨ nb[p].L.length = 128 := by
        have h2 := crashTo_ok HOK.out HF.out k
        have h3 : nb[p].L ∈ crashTo (dat cs ds).cells (dat cs ds).dirty (keepN K) k := by
          show _ ∈ crashTo (cs.map Bs.L) (ds.map Wr.key) (keepN K) k
          rw [← HNr.out]
          exact List.mem_map.2 ⟨nb[p], List.getElem_mem _, rfl⟩
        exact h2 _ h3
      have hka := Keeps.alloc (Keeps.refl wr) (.cells #[.int .i64 (p : Int), .slice (some ⟨xb, xo, none⟩) 128 ds[k].b.cap] 86)
      have HLand := hide (fun (n : Nat) (hn : n ≤ 128) (wd : World) (hkd : Keeps (wr.alloc (.cells #[.int .i64 (p : Int), .slice (some ⟨xb, xo, none⟩) 128 ds[k].b.cap] 86)) wd) => land_k w1 wd v nb (HLr.out.kept (hka.trans hkd)) p (by omega) xb xo ds[k].b.cap ds[k].b.L (hseg.kept (hka.trans hkd)) hL hfit n hn hcell (by have := HDO.out.c; omega) HFr.out)
      have HNext : Hid (∀ n, (keepN K) k = n → crashTo (cs.map Bs.L) (ds.map Wr.key) (keepN K) (k + 1) = landM (nb.map Bs.L) ((p : Int), ds[k].b.L) n) := fun n hn => by
        subst hn
        rw [crashTo_next hlt, ← HNr.out]
        unfold Wr.key
        rw [hp]
      generalize ds[k].b.cap = xc at *
      generalize ds[k].b.L = xL at *
      clear hmm hp hseg exa hfit hcell hkw hL hka
      have hdl2 : (ds.length : Int) ≤ 1048576 := by omega
      by_cases hkk : k < K.length
      · obtain ⟨kb, ko, eka, ck⟩ := its_at ((HKP.out.kept HKA.out).kept HKr.out) k hkk
        have hkb : kb < w.heap.size := by
          obtain ⟨kb', ko', e', ck'⟩ := its_at HKP.out k hkk
          rw [eka] at e'
          have e2 := Option.some.inj e'
          injection e2 with e3 e4
          subst e3 e4
          exact lt_of_cell ck'
        obtain ⟨g, gc, hvx, hgo, hcx, hfx, hg0, hg1⟩ := HLr.out.slice (p := p) (by omega)
        clear hvx hcx hfx
        have hgk : g ≠ kb := by
          have h1 := HK1.out.size
          rw [HZ.out] at h1
          omega
        have HGO := hide hgo
        have HN0 : Hid ((keepN K k : Int) = (if K[k] < 0 then 0 else if 128 < K[k] then 128 else K[k])) := by
          show _ = _
          unfold keepN
          rw [List.getElem?_eq_getElem hkk]
          simp only
          by_cases h1 : K[k] < 0
          · rw [if_pos h1, if_pos h1]; rfl
          · rw [if_neg h1, if_neg h1]
            by_cases h2 : 128 < K[k]
            · rw [if_pos h2, if_pos h2]; rfl
            · rw [if_neg h2, if_neg h2]; omega
        have HCl := hide (fun w' => clamp_k K[k] w')
        rw [← HN0.out] at HCl
        have HN1 := hide (keepN_le K k)
        have HNx := hide (HNext.out (keepN K k) rfl)
        subst eka
        generalize keepN K k = nk at *
        generalize K[k] = kv at *
        clear HNext hgo hlen
        have q0 : (wr.alloc (.cells #[.int .i64 (p : Int), .slice (some ⟨xb, xo, none⟩) 128 xc] 86)).cell? ⟨wr.heap.size, 0, none⟩ = some (.int .i64 (p : Int)) := by simp
        have q1 : (wr.alloc (.cells #[.int .i64 (p : Int), .slice (some ⟨xb, xo, none⟩) 128 xc] 86)).cell? ⟨wr.heap.size, 1, none⟩ = some (.slice (some ⟨xb, xo, none⟩) 128 xc) := by simp
        have q2 := (Keeps.alloc (Keeps.refl wr) (.cells #[.int .i64 (p : Int), .slice (some ⟨xb, xo, none⟩) 128 xc] 86)).cell ck
        go_wp2_with fail
        clear c0 c1 ck
        have hvg : g ≠ wr.heap.size := by omega
        generalize hwa : wr.alloc (.cells #[.int .i64 (p : Int), .slice (some ⟨xb, xo, none⟩) 128 xc] 86) = wa at *
        clear hwa
        generalize hva : wr.heap.size = va at *
        clear hva
        go_region_held3 (fun w' => w'.cell? ⟨va, 0, none⟩ = some (.int .i64 (p : Int)) ∧ w'.cell? ⟨va, 1, none⟩ = some (.slice (some ⟨xb, xo, none⟩) 128 xc) ∧ w'.cell? ⟨kb, ko + k, none⟩ = some (.int .i64 kv)) (go_keep)
          (first
             | (go_at_call 48
                refine (unhide HCl _).mono ?_
                rintro x w' ⟨rfl, hw'⟩
                obtain rfl := Eq.symm hw'
                clear hw')
             | (go_at_call 47
                refine (unhide HLand nk HN1.out _ (Keeps.drew (Keeps.refl _))).mono ?_
                rintro x w4 ⟨rfl, nb', hnL, hnf, hLG, hT⟩
                have HL4 := hide hLG
                have HN4 := hide (hnL.trans HNx.out.symm)
                have HF4 := hide hnf
                have hT4 := hT g HGO.out
                have p0 := hT4.cell (p := ⟨va, 0, none⟩) (v := .int .i64 (p : Int)) (by simpa using hvg.symm) (by simpa using q0)
                have p1 := hT4.cell (p := ⟨va, 1, none⟩) (v := .slice (some ⟨xb, xo, none⟩) 128 xc) (by simpa using hvg.symm) (by simpa using q1)
                have p2 := hT4.cell (p := ⟨kb, ko + k, none⟩) (v := .int .i64 kv) (by simpa using hgk.symm) (by simpa using q2)
                clear hLG hnL hnf hT hT4 q0 q1 q2))
        go_wp2_with fail
        go_roundw
        case rel => exact ⟨k + 1, by omega, by go_num, nb', HN4.out, HF4.out, HL4.out⟩
        case measure => simp [intOf]; omega
      · have HN0 : Hid (keepN K k = 0) := by
          show _ = _
          unfold keepN
          rw [List.getElem?_eq_none (by omega)]
        have HNx := hide (HNext.out 0 HN0.out)
        have HLk := hide (HLr.out.kept (Keeps.alloc (Keeps.refl wr) (.cells #[.int .i64 (p : Int), .slice (some ⟨xb, xo, none⟩) 128 xc] 86)))
        have hkk2 : (K.length : Int) ≤ (k : Int) := by omega
        clear HLand HNext hlen
        go_wp2_with fail
        go_roundw
        case rel => exact ⟨k + 1, by omega, by go_num, nb, by rw [HNx.out, landM_zero], HFr.out, HLk.out⟩
        case measure => simp [intOf]; omega
    · have e : k = ds.length := by omega
      subst e
      have hO := HR.out.kept HKr.out
      have r0 := cell_at hO.mem 0 (by simp)
      have r1 := cell_at hO.mem 1 (by simp)
      simp only [Nat.zero_add, List.getElem_cons_zero, List.getElem_cons_succ] at r0 r1
      have fR : ∀ i, wr.frozen? ⟨w.heap.size + 1, i, none⟩ = false := hO.free (w.heap.size + 1) (by rw [fp_one, fpS_some (by simp)]; simp)
      have HT1 : Hid (Turn [w.heap.size + 1] wr ((wr.setCell ⟨w.heap.size + 1, 0, none⟩ v).setCell ⟨w.heap.size + 1, 1, none⟩ (.slice none 0 0))) := (Turn.set (by simp) _).trans' (Turn.set (by simp) _)
      have HKF := hide (((HKA.out.trans HKr.out).setCell (p := ⟨w.heap.size + 1, 0, none⟩) (Nat.le_succ _) v).setCell (p := ⟨w.heap.size + 1, 1, none⟩) (Nat.le_succ _) (.slice none 0 0))
      have E0 : Hid (((wr.setCell ⟨w.heap.size + 1, 0, none⟩ v).setCell ⟨w.heap.size + 1, 1, none⟩ (.slice none 0 0)).cell? ⟨w.heap.size + 1, 0, none⟩ = some v) := by
        show _ = _
        rw [World.cell?_setCell_other _ _ _ _ (by simp)]; exact World.cell?_setCell_same _ _ _ r0
      have E1 : Hid (((wr.setCell ⟨w.heap.size + 1, 0, none⟩ v).setCell ⟨w.heap.size + 1, 1, none⟩ (.slice none 0 0)).cell? ⟨w.heap.size + 1, 1, none⟩ = some (.slice none 0 0)) := by
        show _ = _
        refine World.cell?_setCell_same _ _ _ (u := .slice none 0 0) ?_
        rw [World.cell?_setCell_other _ _ _ _ (by simp)]; exact r1
      have HDR : Hid (∀ W, Turn [w.heap.size + 1] wr W → DiskRes w W (.agg #[v, .slice none 0 0]) (crashM (dat cs ds) (keepN K))) := fun W hT => by
        have hcm : crashM (dat cs ds) (keepN K) = ⟨nb.map Bs.L, []⟩ := by
          unfold crashM
          rw [if_pos HOK.out, HNr.out]
          simp [dat]
        rw [hcm]
        refine diskres_cells (HKA.out.trans HK1.out) HLr.out hT (fun b hb => ?_) ?_ HFr.out
        · have h1 := HK1.out.size
          rw [HZ.out] at h1
          simp at hb
          omega
        · rw [HNr.out]
          exact crash_dok HOK.out HF.out ds.length
      obtain ⟨av, cv, hve, _⟩ := HLr.out.cells
      have hvv := hve
      clear hO
      subst hve
      go_wp2_with fail
      have e0 := E0.out
      have e1 := E1.out
      have hT := HT1.out
      have hK := HKF.out
      clear r0 r1 fR E0 E1 HT1 HKF
      revert e0 e1 hT hK
      generalize (wr.setCell ⟨w.heap.size + 1, 0, none⟩ (.slice av nb.length cv)).setCell ⟨w.heap.size + 1, 1, none⟩ (.slice none 0 0) = W
      intro e0 e1 hT hK
      refine bodyPost_ret (v := .agg #[.slice av nb.length cv, .slice none 0 0]) (by simp [results, Tryz.results13, go_sem, e0, e1]) rfl ⟨_, rfl, HDR.out W hT, hK⟩
end Go.Proofs.YtkdnddckogbgaaaGreatDoor
