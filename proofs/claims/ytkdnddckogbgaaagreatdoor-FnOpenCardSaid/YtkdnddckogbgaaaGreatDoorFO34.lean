/- Texts of the verifier, joined: DrE, DrOp. -/
import Derived.Test.YtkdnddckogbgaaaGreatDoorFO23
import Derived.Test.YtkdnddckogbgaaaGreatDoorFO33
namespace Go.Proofs.YtkdnddckogbgaaaGreatDoor
open Go.RowKit Go.Deep
set_option linter.unusedVariables false
set_option linter.unusedSimpArgs false
set_option maxRecDepth 10000
/-- A disk of the call's own. -/
def AnyDisk (w w' : World) (e : Ending) : Prop := ∃ v M, e = .returned v ∧ DiskRes w w' v M ∧ M.cells.length ≤ 6 ∧ M.dirty.length ≤ 7
theorem ccells_cons (b : Bs) (cs : List Bs) : ccells (b :: cs) = b.v :: ccells cs := by simp [ccells, Bs.cells]
theorem wcells_cons (x : Wr) (ds : List Wr) : wcells (x :: ds) = .int .i64 x.i :: x.b.v :: wcells ds := by simp [wcells, Wr.cells]
/-- The first cell's bytes are another list. -/
theorem own_first {w : World} {b off : Nat} {c0 : Bs} {ct : List Bs} {da : Option Addr} {ds : List Wr} (h : Own w (dsk (some ⟨b, off, none⟩) (c0 :: ct) da ds)) {n : Bs} (hn : Own w [n.seg]) (hap : ∀ x ∈ fp (dsk (some ⟨b, off, none⟩) (c0 :: ct) da ds), x ∉ fp [n.seg]) :
    Own (w.setCell ⟨b, off, none⟩ n.v) (dsk (some ⟨b, off, none⟩) (n :: ct) da ds) := by
  have e : dsk (some ⟨b, off, none⟩) (c0 :: ct) da ds = [((some ⟨b, off, none⟩ : Option Addr), ccells (c0 :: ct))] ++ ([c0.seg] ++ (ct.map Bs.seg ++ ((da, wcells ds) :: ds.map Wr.seg))) := by simp [dsk]
  have e' : dsk (some ⟨b, off, none⟩) (n :: ct) da ds = [((some ⟨b, off, none⟩ : Option Addr), ccells (n :: ct))] ++ ([n.seg] ++ (ct.map Bs.seg ++ ((da, wcells ds) :: ds.map Wr.seg))) := by simp [dsk]
  rw [e] at h hap
  have hA := h.left
  have hR := h.right.right
  have a1 : ∀ x ∈ fp [((some ⟨b, off, none⟩ : Option Addr), ccells (c0 :: ct))], x ∉ fp (ct.map Bs.seg ++ ((da, wcells ds) :: ds.map Wr.seg)) := fun x hx hx' => h.apart x hx (by rw [fp_append]; exact List.mem_append_right _ hx')
  have hNR : Own w ([n.seg] ++ (ct.map Bs.seg ++ ((da, wcells ds) :: ds.map Wr.seg))) := hn.append hR (fun x hx hx' => hap x (by rw [fp_append, fp_append]; exact List.mem_append_right _ (List.mem_append_right _ hx')) hx)
  have hall : Own w ([((some ⟨b, off, none⟩ : Option Addr), ccells (c0 :: ct))] ++ ([n.seg] ++ (ct.map Bs.seg ++ ((da, wcells ds) :: ds.map Wr.seg)))) := hA.append hNR (fun x hx hx' => by
    rw [fp_append] at hx'
    rcases List.mem_append.1 hx' with h1 | h1
    · exact hap x (by rw [fp_append]; exact List.mem_append_left _ hx) h1
    · exact a1 x hx h1)
  rw [e']
  have hset := hA.setCell 0 n.v (by simp [ccells_cons])
  rw [Nat.add_zero] at hset
  have es : (ccells (c0 :: ct)).set 0 n.v = ccells (n :: ct) := by rw [ccells_cons, ccells_cons]; rfl
  rw [es] at hset
  refine Own.upd (A := []) hall hset (fpS_len (by simp [ccells_cons])) (Turn.set ?_ _)
  rw [fp_one, fpS_some (by simp [ccells_cons])]
  simp
/-- The first write's place is another number. -/
theorem own_at {w : World} {ca : Option Addr} {cs : List Bs} {b off : Nat} {x0 : Wr} {xt : List Wr} (h : Own w (dsk ca cs (some ⟨b, off, none⟩) (x0 :: xt))) (n : Int) :
    Own (w.setCell ⟨b, off, none⟩ (.int .i64 n)) (dsk ca cs (some ⟨b, off, none⟩) (⟨n, x0.b⟩ :: xt)) := by
  have hD : Own w ([((some ⟨b, off, none⟩ : Option Addr), wcells (x0 :: xt))] ++ (x0 :: xt).map Wr.seg) := h.right
  have hset := hD.left.setCell 0 (.int .i64 n) (by simp [wcells_cons])
  rw [Nat.add_zero] at hset
  have es : (wcells (x0 :: xt)).set 0 (.int .i64 n) = wcells ((⟨n, x0.b⟩ : Wr) :: xt) := by rw [wcells_cons, wcells_cons]; rfl
  rw [es] at hset
  have k := Own.upd (A := (ca, ccells cs) :: cs.map Bs.seg) (B := (x0 :: xt).map Wr.seg) h hset (fpS_len (by simp [wcells_cons])) (Turn.set (by rw [fp_one, fpS_some (by simp [wcells_cons])]; simp) _)
  exact k
theorem fp_at {ca : Option Addr} {cs : List Bs} {da : Option Addr} {x0 : Wr} {xt : List Wr} {n : Int} : fp (dsk ca cs da (⟨n, x0.b⟩ :: xt)) = fp (dsk ca cs da (x0 :: xt)) := by
  unfold dsk
  rw [fp_append, fp_append, fp_cons (da, _), fp_cons (da, _), fpS_len (xs := wcells ((⟨n, x0.b⟩ : Wr) :: xt)) (ys := wcells (x0 :: xt)) (by simp [wcells_cons])]
  rfl
theorem dok_first {c0 : Bs} {ct : List Bs} {ds : List Wr} (h : DOk (c0 :: ct) ds) (hl : (c0 :: ct).length ≤ 6) (ht : tot (c0 :: ct) ≤ 1000) {n : Bs} (hn : n.fit) (hn1 : n.L.length ≤ 1) : DOk (n :: ct) ds := by
  refine ⟨by have := h.c; simpa using this, h.d, ?_, h.td, fun b hb => ?_, h.nd⟩
  · have : tot (n :: ct) ≤ tot (c0 :: ct) + n.L.length := by simp [tot]; omega
    omega
  · rcases List.mem_cons.1 hb with rfl | hb
    · exact hn
    · exact h.nc b (List.mem_cons_of_mem _ hb)
theorem dok_at {cs : List Bs} {x0 : Wr} {xt : List Wr} (h : DOk cs (x0 :: xt)) (n : Int) : DOk cs (⟨n, x0.b⟩ :: xt) := by
  refine ⟨h.c, by have := h.d; simpa using this, h.tc, by have := h.td; simpa [totW] using this, h.nc, fun x hx => ?_⟩
  rcases List.mem_cons.1 hx with rfl | hx
  · exact h.nd x0 (List.mem_cons_self ..)
  · exact h.nd x (List.mem_cons_of_mem _ hx)
theorem dok_none {cs : List Bs} {ds : List Wr} (h : DOk cs ds) : DOk [] ds := ⟨by simp, h.d, by simp [tot], h.td, fun b hb => absurd hb (by simp), h.nd⟩
theorem own_noneD {w : World} {ca : Option Addr} {cs : List Bs} {da : Option Addr} {ds : List Wr} (h : Own w (dsk ca cs da ds)) : Own w (dsk none [] da ds) := by
  have hD : Own w ((da, wcells ds) :: ds.map Wr.seg) := h.right
  have h0 : Own w [((none : Option Addr), ([] : List Value))] := ⟨fun s hs => by rw [List.mem_singleton.1 hs]; exact Cells.nil _ _, by simp [fp, fpS], fun b hb => absurd hb (by simp [fp, fpS])⟩
  exact h0.append hD (fun b hb => absurd hb (by simp [fp, fpS]))
theorem fp_noneD {ca : Option Addr} {cs : List Bs} {da : Option Addr} {ds : List Wr} : ∀ b ∈ fp (dsk none [] da ds), b ∈ fp (dsk ca cs da ds) := fun b hb => by
  unfold dsk at hb ⊢
  rw [fp_append] at hb ⊢
  rcases List.mem_append.1 hb with h | h
  · simp [fp, fpS, ccells] at h
  · exact List.mem_append_right _ h
theorem any_done {w W : World} {B0 B Db : Nat} {a : Option Addr} {len cap : Nat} {ca : Option Addr} {cc : Nat} {cs : List Bs} {da : Option Addr} {dc : Nat} {ds : List Wr} (hD : DSt (w.heap.size + 1) Db ca cc cs da dc ds W) (hc : cs.length ≤ 6) (hd : ds.length ≤ 7) (hS : Dr B0 B a len cap W) (hG : w.grownBy W (some B)) (hB : B < w.heap.size) (hB0 : B0 ≤ B) :
    AnyDisk w ((W.setCell ⟨w.heap.size, 0, none⟩ (.slice ca cs.length cc)).setCell ⟨w.heap.size, 1, none⟩ (.slice da ds.length dc)) (.returned (dskV ca cs.length cc da ds.length dc)) ∧ Dr B0 B a len cap ((W.setCell ⟨w.heap.size, 0, none⟩ (.slice ca cs.length cc)).setCell ⟨w.heap.size, 1, none⟩ (.slice da ds.length dc)) ∧ w.grownBy ((W.setCell ⟨w.heap.size, 0, none⟩ (.slice ca cs.length cc)).setCell ⟨w.heap.size, 1, none⟩ (.slice da ds.length dc)) (some B) := by
  have ht : Turn [w.heap.size] W ((W.setCell ⟨w.heap.size, 0, none⟩ (.slice ca cs.length cc)).setCell ⟨w.heap.size, 1, none⟩ (.slice da ds.length dc)) := (Turn.set (by simp) _).trans' (Turn.set (by simp) _)
  have hBn : Born w ((W.setCell ⟨w.heap.size, 0, none⟩ (.slice ca cs.length cc)).setCell ⟨w.heap.size, 1, none⟩ (.slice da ds.length dc)) (dsk ca cs da ds) :=
    ⟨hD.own.turn ht (fun b hb hx => by have h1 := (hD.far b hb).1; have h2 : b = w.heap.size := (by simpa using hx); omega), fun b hb => by have := (hD.far b hb).1; omega⟩
  exact ⟨⟨_, dat cs ds, rfl, ⟨ca, cc, cs, da, dc, ds, rfl, rfl, hD.ok, hD.na, hD.nd, hBn⟩, by simpa [dat] using hc, by simpa [dat] using hd⟩, (hS.set (by omega) (by omega) _).set (by omega) (by omega) _, grown_new (grown_new hG (Nat.le_refl _)) (Nat.le_refl _)⟩
theorem tot_small {cs : List Bs} {ds : List Wr} (h : dokM (dat cs ds) = true) (hl : cs.length ≤ 6) : tot cs ≤ 1000 := by
  have h1 : ∀ b ∈ cs, b.L.length ≤ 128 := fun b hb => by
    have := dokM_cell h (L := b.L) (by simp [dat]; exact ⟨b, hb, rfl⟩)
    omega
  have h2 : ∀ l : List Bs, (∀ b ∈ l, b.L.length ≤ 128) → tot l ≤ 128 * l.length := by
    intro l
    induction l with
    | nil => intro _; simp [tot]
    | cons x t ih =>
      intro hh
      have a1 := ih (fun b hb => hh b (List.mem_cons_of_mem _ hb))
      have a2 := hh x (List.mem_cons_self ..)
      simp only [tot, List.map_cons, List.sum_cons, List.length_cons] at a1 ⊢
      omega
  have := h2 cs h1
  omega
set_option maxRecDepth 100000 in
set_option maxHeartbeats 8000000 in
theorem anydisk_any {B0 B : Nat} {a : Option Addr} {len cap : Nat} {w : World} (s : Dr B0 B a len cap w) :
    Calls Tryz.prog 53 #[.pointer (some ⟨B, 0, none⟩)] w fun e w' => AnyDisk w w' e ∧ Dr B0 B a len cap w' ∧ w.grownBy w' (some B) := by
  have hB := s.lt
  have hB0 := s.le
  have HS0 := hide (s.grown (World.grownBy_alloc w (.cells #[.slice none 0 0, .slice none 0 0] 26) none) (by simp) (by simp))
  have HG0 := hide (grown_alloc (grown_refl w (some B)) (.cells #[.slice none 0 0, .slice none 0 0] 26))
  have HR0 := hide (World.rowIs_alloc w #[.slice none 0 0, .slice none 0 0] 26 _ (two_rowD _ _))
  clear s
  go_enter Tryz.func53, Tryz.ntmps53
  go_wp2_with fail
  refine (disk_any HS0.out).mono ?_
  rintro e w1 ⟨⟨v, M, rfl, hr, hM1, hM2, hM3⟩, s1, g1⟩
  obtain ⟨ca, cc, cs, da, dc, ds, rfl, he, hok, hna, hnd, hb⟩ := hr
  subst he
  have hz1 : w.heap.size < w1.heap.size := by have := g1.size; simp at this; omega
  have HA := hide (Keeps.alloc (Keeps.refl w1) (.cells #[.slice ca cs.length cc, .slice da ds.length dc] 26))
  have HD1 : Hid (DSt (w.heap.size + 1) w1.heap.size ca cc cs da dc ds (w1.alloc (.cells #[.slice ca cs.length cc, .slice da ds.length dc] 26))) :=
    ⟨World.rowIs_alloc w1 #[.slice ca cs.length cc, .slice da ds.length dc] 26 _ (two_rowD _ _), hb.toOwn.kept HA.out, fun b hb' => by have h1 := hb.new b hb'; have h2 := hb.mem.lt b hb'; simp at h1; omega, by omega, hok, hna, hnd⟩
  have HS1 := hide (s1.grown (row := none) (HA.out.grows none) (by simp) (by simp))
  have HG1 := hide ((HG0.out.trans g1).trans (HA.out.grows (some B)))
  have HR1 := hide (Keeps.row HA.out (grown_row g1 (by intro e; injection e with e; omega) HR0.out))
  have HM : Hid (dokM (dat cs ds) = true ∧ (dat cs ds).cells.length ≤ 6 ∧ (dat cs ds).dirty.length ≤ 7) := ⟨hM1, hM2, hM3⟩
  clear s1 g1 hb hok hna hnd HS0 HG0 HR0 hM1 hM2 hM3
  go_wp2_with fail
  generalize w1.heap.size = Db at *
  generalize w1.alloc (.cells #[.slice ca cs.length cc, .slice da ds.length dc] 26) = W1 at *
  refine (below_any 12 HS1.out (by omega) (by omega)).mono ?_
  rintro e w2 ⟨⟨k, k0, k12, rfl⟩, s2, g2⟩
  have HS2 := hide s2
  have HG2 := hide (HG1.out.trans g2)
  have HR2 := hide (grown_row g2 (by intro e; injection e with e; omega) HR1.out)
  have HD2 := hide (HD1.out.grown g2 (by omega))
  clear s2 g2 HS1 HG1 HR1 HD1 HA
  have q0 := HD2.out.row.cell (i := 0) (by decide)
  have q1 := HD2.out.row.cell (i := 1) (by decide)
  have qf0 := HD2.out.row.frozen 0
  have qf1 := HD2.out.row.frozen 1
  have lD2 := HD2.out.row.lt
  have z0 := HR2.out.cell (i := 0) (by decide)
  have z1 := HR2.out.cell (i := 1) (by decide)
  have zf0 := HR2.out.frozen 0
  have zf1 := HR2.out.frozen 1
  have lR2 := HR2.out.lt
  have hDb := HD2.out.new
  simp at q0 q1 z0 z1
  have hcl : cs.length ≤ 6 := by have h := HM.out.2.1; simpa [dat] using h
  have hdl : ds.length ≤ 7 := by have h := HM.out.2.2; simpa [dat] using h
  have hc1 : 1 ≤ cs.length := by
    have h1 := HM.out.1
    simp only [dokM, Bool.and_eq_true, decide_eq_true_eq] at h1
    have h2 := h1.1.1.1.1
    simpa [dat] using h2
  have HT := hide (tot_small HM.out.1 hcl)
  by_cases e0 : k = 0
  · subst e0
    cases cs with
    | nil => simp at hc1
    | cons c0 ct =>
      obtain ⟨b, off, ea, k0⟩ := cell1 (dsk_mem HD2.out.own.mem).1 0 (by simp)
      subst ea
      simp only [Nat.add_zero, List.getElem_cons_zero] at k0
      have hbf : b ∈ fp (dsk (some ⟨b, off, none⟩) (c0 :: ct) da ds) := by
        unfold dsk
        rw [fp_append, fp_cons, fpS_some (by simp [ccells_cons])]
        simp
      have kf : w2.frozen? ⟨b, off, none⟩ = false := HD2.out.own.free b hbf off
      have hbn := HD2.out.far b hbf
      have lb := lt_of_cell k0
      unfold Bs.v at k0
      have hlen : (c0 :: ct).length = ct.length + 1 := rfl
      have HA := hide (Keeps.alloc (Keeps.refl w2) (.cells #[.int .u8 1] 5))
      have HN : Hid (Own (w2.alloc (.cells #[.int .u8 1] 5)) [Bs.seg ⟨some ⟨w2.heap.size, 0, none⟩, 1, [1]⟩]) := (born_alloc w2 #[.int .u8 1] 5).toOwn
      have HNb : Hid (∀ x ∈ fp [Bs.seg ⟨some ⟨w2.heap.size, 0, none⟩, 1, [1]⟩], x = w2.heap.size) := fun x hx => by simpa [fp, fpS, Bs.seg, bys] using hx
      have HO3 : Hid (Own ((w2.alloc (.cells #[.int .u8 1] 5)).setCell ⟨b, off, none⟩ (.slice (some ⟨w2.heap.size, 0, none⟩) 1 1)) (dsk (some ⟨b, off, none⟩) (⟨some ⟨w2.heap.size, 0, none⟩, 1, [1]⟩ :: ct) da ds)) := own_first (HD2.out.own.kept HA.out) HN.out (fun x hx hx' => by have h1 := HNb.out x hx'; have h2 := HD2.out.own.mem.lt x hx; omega)
      have HF3 : Hid (∀ x ∈ fp (dsk (some ⟨b, off, none⟩) (⟨some ⟨w2.heap.size, 0, none⟩, 1, [1]⟩ :: ct) da ds), w.heap.size + 1 ≤ x ∧ x ≠ Db) := fun x hx => by
        have e9 : dsk (some ⟨b, off, none⟩) (⟨some ⟨w2.heap.size, 0, none⟩, 1, [1]⟩ :: ct) da ds = [((some ⟨b, off, none⟩ : Option Addr), ccells (⟨some ⟨w2.heap.size, 0, none⟩, 1, [1]⟩ :: ct))] ++ ([Bs.seg ⟨some ⟨w2.heap.size, 0, none⟩, 1, [1]⟩] ++ (ct.map Bs.seg ++ ((da, wcells ds) :: ds.map Wr.seg))) := by simp [dsk]
        have e8 : dsk (some ⟨b, off, none⟩) (c0 :: ct) da ds = [((some ⟨b, off, none⟩ : Option Addr), ccells (c0 :: ct))] ++ ([c0.seg] ++ (ct.map Bs.seg ++ ((da, wcells ds) :: ds.map Wr.seg))) := by simp [dsk]
        rw [e9, fp_append, fp_append] at hx
        rcases List.mem_append.1 hx with h1 | h1
        · rw [fp_one, fpS_some (by simp [ccells_cons])] at h1
          have h2 : x = b := by simpa using h1
          rw [h2]; exact hbn
        · rcases List.mem_append.1 h1 with h2 | h2
          · have := HNb.out x h2; omega
          · exact HD2.out.far x (by rw [e8, fp_append, fp_append]; exact List.mem_append_right _ (List.mem_append_right _ h2))
      have HD3 : Hid (DSt (w.heap.size + 1) Db (some ⟨b, off, none⟩) cc (⟨some ⟨w2.heap.size, 0, none⟩, 1, [1]⟩ :: ct) da dc ds ((w2.alloc (.cells #[.int .u8 1] 5)).setCell ⟨b, off, none⟩ (.slice (some ⟨w2.heap.size, 0, none⟩) 1 1))) :=
        ⟨(Keeps.row HA.out HD2.out.row).setOther (by simp; omega) _, HO3.out, HF3.out, HD2.out.new, dok_first HD2.out.ok hcl HT.out ⟨(fun e => nomatch e), by simp⟩ (by simp), (fun e => nomatch e), HD2.out.nd⟩
      have HS3 := hide ((HS2.out.grown (row := none) (HA.out.grows none) (by simp) (by simp)).set (b := b) (o := off) (by omega) (by omega) (.slice (some ⟨w2.heap.size, 0, none⟩) 1 1))
      have HG3 := hide (grown_new (b := b) (o := off) (v := .slice (some ⟨w2.heap.size, 0, none⟩) 1 1) (HG2.out.trans (HA.out.grows (some B))) (by omega))
      have HR3 := hide ((Keeps.row HA.out HR2.out).setOther (a := ⟨b, off, none⟩) (by simp; omega) (.slice (some ⟨w2.heap.size, 0, none⟩) 1 1))
      clear HN HNb HO3 HF3 HA
      go_wp2_with fail
      have hfin := any_done HD3.out (by simpa using hcl) (by exact hdl) HS3.out HG3.out hB hB0
      have e9 : ((((w2.alloc (.cells #[.int .u8 1] 5)).setCell ⟨b, off, none⟩ (.slice (some ⟨w2.heap.size, 0, none⟩) 1 1)).setCell ⟨w.heap.size, 0, none⟩ (.slice (some ⟨b, off, none⟩) (ct.length + 1) cc)).setCell ⟨w.heap.size, 1, none⟩ (.slice da ds.length dc)) = (((w2.setCell ⟨b, off, none⟩ (.slice (some ⟨w2.heap.size, 0, none⟩) 1 1)).setCell ⟨w.heap.size, 0, none⟩ (.slice (some ⟨b, off, none⟩) (ct.length + 1) cc)).setCell ⟨w.heap.size, 1, none⟩ (.slice da ds.length dc)).alloc (.cells #[.int .u8 1] 5) := by
        rw [World.setCell_alloc_past _ b off _ lb, World.setCell_alloc_past _ _ _ _ (by simp [World.setCell]; omega), World.setCell_alloc_past _ _ _ _ (by simp [World.setCell]; omega)]
      have r9 := row_two' HR3.out (.slice (some ⟨b, off, none⟩) (ct.length + 1) cc) (.slice da ds.length dc)
      have o0 := r9.cell (i := 0) (by decide)
      have o1 := r9.cell (i := 1) (by decide)
      simp only [if_true, Nat.one_ne_zero, if_false] at o0 o1
      clear r9
      simp only [List.length_cons] at hfin
      rw [e9] at hfin o0 o1
      refine bodyPost_ret (v := dskV (some ⟨b, off, none⟩) (ct.length + 1) cc da ds.length dc) ?_ rfl hfin
      clear hfin e9
      revert o0 o1
      generalize World.alloc _ _ = W'
      intro o0 o1
      simp [results, Tryz.results53, go_sem, o0, o1]
  · by_cases e1 : k = 1
    · subst e1
      have HD3 : Hid (DSt (w.heap.size + 1) Db none 0 [] da dc ds (w2.setCell ⟨Db, 0, none⟩ (.slice none 0 0))) :=
        ⟨(HD2.out.row.set 0 (.slice none 0 0)).congr (fun i hi => by match i, hi with | 0, _ => simp | 1, _ => simp), (own_noneD HD2.out.own).turn (Turn.set (fs := [Db]) (by simp) _) (fun b hb hx => (HD2.out.far b (fp_noneD b hb)).2 (by simpa using hx)), fun b hb => HD2.out.far b (fp_noneD b hb), HD2.out.new, dok_none HD2.out.ok, fun _ => rfl, HD2.out.nd⟩
      have HS3 := hide (HS2.out.set (b := Db) (o := 0) (by omega) (by omega) (.slice none 0 0))
      have HG3 := hide (grown_new (b := Db) (o := 0) (v := .slice none 0 0) HG2.out (by omega))
      have HR3 := hide (HR2.out.setOther (a := ⟨Db, 0, none⟩) (by simp; omega) (.slice none 0 0))
      go_wp2_with fail
      refine bodyPost_ret (v := dskV none 0 0 da ds.length dc) ?_ rfl (any_done HD3.out (by simp) (by exact hdl) HS3.out HG3.out hB hB0)
      have r9 := row_two' HR3.out (.slice none 0 0) (.slice da ds.length dc)
      have o0 := r9.cell (i := 0) (by decide)
      have o1 := r9.cell (i := 1) (by decide)
      simp only [if_true, Nat.one_ne_zero, if_false] at o0 o1
      clear r9
      revert o0 o1
      generalize World.setCell _ _ _ = W'
      intro o0 o1
      simp [results, Tryz.results53, go_sem, o0, o1]
    · by_cases e2 : k = 2
      · subst e2
        cases ds with
        | nil =>
          go_wp2_with fail
          refine bodyPost_ret (v := dskV ca cs.length cc da 0 dc) ?_ rfl (any_done HD2.out hcl (by simp) HS2.out HG2.out hB hB0)
          have r9 := row_two' HR2.out (.slice ca cs.length cc) (.slice da 0 dc)
          have o0 := r9.cell (i := 0) (by decide)
          have o1 := r9.cell (i := 1) (by decide)
          simp only [if_true, Nat.one_ne_zero, if_false] at o0 o1
          clear r9
          revert o0 o1
          generalize World.setCell _ _ _ = W'
          intro o0 o1
          simp [results, Tryz.results53, go_sem, o0, o1]
        | cons x0 xt =>
          obtain ⟨b, off, ea, k0, _⟩ := cell2 (dsk_mem HD2.out.own.mem).2.2.1 0 (by simp)
          subst ea
          have hbf : b ∈ fp (dsk ca cs (some ⟨b, off, none⟩) (x0 :: xt)) := by
            unfold dsk
            rw [fp_append, fp_cons (some ⟨b, off, none⟩, wcells (x0 :: xt)), fpS_some (by simp [wcells_cons])]
            simp
          have hbn := HD2.out.far b hbf
          clear k0
          go_wp2_with fail
          go_region_held3 (fun w' => w'.cell? ⟨Db, 1, none⟩ = some (.slice (some ⟨b, off, none⟩) (xt.length + 1) dc)) (first | go_keep | (rw [World.cell?_setCell_other _ _ _ _ (by simp <;> omega)]; assumption))
            ((go_at_call 67
              refine (raw_any HS2.out.drew).mono ?_
              rintro e w3 ⟨⟨n, rfl⟩, s3, g3⟩
              have HS3 := hide s3
              have HG3 := hide ((grown_drew HG2.out).trans g3)
              have HR3 := hide (grown_row g3 (by intro e; injection e with e; omega) (Keeps.row ((Keeps.refl w2).drew) HR2.out))
              have HD3 := hide (HD2.out.drew.grown g3 (by omega))
              have t1 := HD3.out.row.cell (i := 1) (by decide)
              have lD3 := HD3.out.row.lt
              obtain ⟨b', off', ea', k0, _⟩ := cell2 (dsk_mem HD3.out.own.mem).2.2.1 0 (by simp)
              have eb := Option.some.inj ea'
              injection eb with eb1 eb2
              subst eb1 eb2
              simp only [Nat.zero_mul, Nat.add_zero, List.getElem_cons_zero] at k0
              have kf := HD3.out.own.free b hbf off
              have lb3 := lt_of_cell k0
              simp at t1
              clear s3 g3 ea'))
          have HD4 : Hid (DSt (w.heap.size + 1) Db ca cc cs (some ⟨b, off, none⟩) dc (⟨n, x0.b⟩ :: xt) (w3.setCell ⟨b, off, none⟩ (.int .i64 n))) :=
            ⟨HD3.out.row.setOther (by simp; omega) _, own_at HD3.out.own n, fun x hx => HD3.out.far x (by rwa [fp_at] at hx), HD3.out.new, dok_at HD3.out.ok n, HD3.out.na, (fun e => nomatch e)⟩
          have HS4 := hide (HS3.out.set (b := b) (o := off) (by omega) (by omega) (.int .i64 n))
          have HG4 := hide (grown_new (b := b) (o := off) (v := .int .i64 n) HG3.out (by omega))
          have HR4 := hide (HR3.out.setOther (a := ⟨b, off, none⟩) (by simp; omega) (.int .i64 n))
          have q4 := HD4.out.row.cell (i := 0) (by decide)
          have q5 := HD4.out.row.cell (i := 1) (by decide)
          have z4 := HR4.out.cell (i := 0) (by decide)
          have z5 := HR4.out.cell (i := 1) (by decide)
          have y4 := HR4.out.frozen 0
          have y5 := HR4.out.frozen 1
          simp at q4 q5 z4 z5
          generalize w3.setCell ⟨b, off, none⟩ (.int .i64 n) = W4 at *
          go_wp2_with fail
          refine bodyPost_ret (v := dskV ca cs.length cc (some ⟨b, off, none⟩) (xt.length + 1) dc) ?_ rfl (any_done HD4.out hcl (by simpa using hdl) HS4.out HG4.out hB hB0)
          have r9 := row_two' HR4.out (.slice ca cs.length cc) (.slice (some ⟨b, off, none⟩) (xt.length + 1) dc)
          have o0 := r9.cell (i := 0) (by decide)
          have o1 := r9.cell (i := 1) (by decide)
          simp only [if_true, Nat.one_ne_zero, if_false] at o0 o1
          clear r9
          revert o0 o1
          generalize World.setCell _ _ _ = W'
          intro o0 o1
          simp [results, Tryz.results53, go_sem, o0, o1]
      · have b0 : (k == 0) = false := by rw [beq_eq_false_iff_ne]; exact e0
        have b1 : (k == 1) = false := by rw [beq_eq_false_iff_ne]; exact e1
        have b2 : (k == 2) = false := by rw [beq_eq_false_iff_ne]; exact e2
        clear e0 e1 e2
        go_wp2_with fail
        refine bodyPost_ret (v := dskV ca cs.length cc da ds.length dc) ?_ rfl (any_done HD2.out (by exact hcl) (by exact hdl) HS2.out HG2.out hB hB0)
        have r9 := row_two' HR2.out (.slice ca cs.length cc) (.slice da ds.length dc)
        have o0 := r9.cell (i := 0) (by decide)
        have o1 := r9.cell (i := 1) (by decide)
        simp only [if_true, Nat.one_ne_zero, if_false] at o0 o1
        clear r9
        revert o0 o1
        generalize World.setCell _ _ _ = W'
        intro o0 o1
        simp [results, Tryz.results53, go_sem, o0, o1]
end Go.Proofs.YtkdnddckogbgaaaGreatDoor
namespace Go.Proofs.YtkdnddckogbgaaaGreatDoor
open Go.RowKit Go.Deep
set_option linter.unusedVariables false
set_option linter.unusedSimpArgs false
set_option maxRecDepth 10000
/-- A disk of the call's own. -/
def IsDk (w w' : World) (e : Ending) : Prop := ∃ v M, e = .returned v ∧ DiskRes w w' v M
section
variable {w W W' : World} {base Db : Nat} {ca : Option Addr} {cc : Nat} {cs : List Bs} {da : Option Addr} {dc : Nat} {ds : List Wr}
/-- The variable gets a disk that a draw has made. -/
theorem DSt.putG {ca' : Option Addr} {cc' : Nat} {cs' : List Bs} {da' : Option Addr} {dc' : Nat} {ds' : List Wr} {B : Nat} (s : DSt base Db ca cc cs da dc ds W) (g : W.grownBy W' (some B)) (hB : B < base) (hb : Born W W' (dsk ca' cs' da' ds')) (ho : DOk cs' ds') (hna : ca' = none → cc' = 0) (hnd : da' = none → dc' = 0) :
    DSt base Db ca' cc' cs' da' dc' ds' ((W'.setCell ⟨Db, 0, none⟩ (.slice ca' cs'.length cc')).setCell ⟨Db, 1, none⟩ (.slice da' ds'.length dc')) := by
  have hr := (s.grown g hB).row
  have hlt := s.row.lt
  have hn := s.new
  have hf : ∀ b ∈ fp (dsk ca' cs' da' ds'), base ≤ b ∧ b ≠ Db := fun b hb' => by
    have h1 := hb.new b hb'
    omega
  have ht : Turn [Db] W' ((W'.setCell ⟨Db, 0, none⟩ (.slice ca' cs'.length cc')).setCell ⟨Db, 1, none⟩ (.slice da' ds'.length dc')) := (Turn.set (by simp) _).trans' (Turn.set (by simp) _)
  exact ⟨row_two' hr _ _, hb.toOwn.turn ht (fun b hb' hx => (hf b hb').2 (by simpa using hx)), hf, s.new, ho, hna, hnd⟩
/-- The disk is answered. -/
theorem opn_done (hD : DSt (w.heap.size + 2) Db ca cc cs da dc ds W) (hK : Keeps w W) :
    IsDk w ((W.setCell ⟨w.heap.size, 0, none⟩ (.slice ca cs.length cc)).setCell ⟨w.heap.size, 1, none⟩ (.slice da ds.length dc)) (.returned (dskV ca cs.length cc da ds.length dc)) ∧ Keeps w ((W.setCell ⟨w.heap.size, 0, none⟩ (.slice ca cs.length cc)).setCell ⟨w.heap.size, 1, none⟩ (.slice da ds.length dc)) := by
  have ht : Turn [w.heap.size] W ((W.setCell ⟨w.heap.size, 0, none⟩ (.slice ca cs.length cc)).setCell ⟨w.heap.size, 1, none⟩ (.slice da ds.length dc)) := (Turn.set (by simp) _).trans' (Turn.set (by simp) _)
  have hBn : Born w ((W.setCell ⟨w.heap.size, 0, none⟩ (.slice ca cs.length cc)).setCell ⟨w.heap.size, 1, none⟩ (.slice da ds.length dc)) (dsk ca cs da ds) :=
    ⟨hD.own.turn ht (fun b hb hx => by have h1 := (hD.far b hb).1; have h2 : b = w.heap.size := (by simpa using hx); omega), fun b hb => by have := (hD.far b hb).1; omega⟩
  exact ⟨⟨_, dat cs ds, rfl, ⟨ca, cc, cs, da, dc, ds, rfl, rfl, hD.ok, hD.na, hD.nd, hBn⟩⟩, (hK.setCell (Nat.le_refl _) _).setCell (Nat.le_refl _) _⟩
theorem tot_few {cs : List Bs} {ds : List Wr} (h : dokM (dat cs ds) = true) (hl : cs.length ≤ 16) : tot cs ≤ 2048 := by
  have h1 : ∀ b ∈ cs, b.L.length ≤ 128 := fun b hb => by
    have := dokM_cell h (L := b.L) (by simp [dat]; exact ⟨b, hb, rfl⟩)
    omega
  have h2 : ∀ l : List Bs, (∀ b ∈ l, b.L.length ≤ 128) → tot l ≤ 128 * l.length := by
    intro l
    induction l with
    | nil => intro _; simp [tot]
    | cons x t ih =>
      intro hh
      have a1 := ih (fun b hb => hh b (List.mem_cons_of_mem _ hb))
      have a2 := hh x (List.mem_cons_self ..)
      simp only [tot, List.map_cons, List.sum_cons, List.length_cons] at a1 ⊢
      omega
  have := h2 cs h1
  omega
theorem dok_fst {c0 : Bs} {ct : List Bs} {ds : List Wr} (h : DOk (c0 :: ct) ds) (ht : tot (c0 :: ct) ≤ 2048) {n : Bs} (hn : n.fit) (hn1 : n.L.length ≤ 128) : DOk (n :: ct) ds := by
  refine ⟨by have := h.c; simpa using this, h.d, ?_, h.td, fun b hb => ?_, h.nd⟩
  · have : tot (n :: ct) ≤ tot (c0 :: ct) + n.L.length := by simp [tot]; omega
    omega
  · rcases List.mem_cons.1 hb with rfl | hb
    · exact hn
    · exact h.nc b (List.mem_cons_of_mem _ hb)
/-- The first cell gets other bytes. -/
theorem DSt.first {b off : Nat} {c0 n : Bs} {ct : List Bs} (s : DSt base Db (some ⟨b, off, none⟩) cc (c0 :: ct) da dc ds W) (hn : Own W [n.seg]) (hf : ∀ x ∈ fp [n.seg], base ≤ x ∧ x ≠ Db ∧ x ∉ fp (dsk (some ⟨b, off, none⟩) (c0 :: ct) da ds)) (ho : DOk (n :: ct) ds) :
    DSt base Db (some ⟨b, off, none⟩) cc (n :: ct) da dc ds (W.setCell ⟨b, off, none⟩ n.v) := by
  have hbf : b ∈ fp (dsk (some ⟨b, off, none⟩) (c0 :: ct) da ds) := by
    unfold dsk
    rw [fp_append, fp_cons, fpS_some (by simp [ccells_cons])]
    simp
  have hbn := s.far b hbf
  refine ⟨s.row.setOther (by simp; omega) _, own_first s.own hn (fun x hx hx' => (hf x hx').2.2 hx), fun x hx => ?_, s.new, ho, s.na, s.nd⟩
  have e9 : dsk (some ⟨b, off, none⟩) (n :: ct) da ds = [((some ⟨b, off, none⟩ : Option Addr), ccells (n :: ct))] ++ ([n.seg] ++ (ct.map Bs.seg ++ ((da, wcells ds) :: ds.map Wr.seg))) := by simp [dsk]
  have e8 : dsk (some ⟨b, off, none⟩) (c0 :: ct) da ds = [((some ⟨b, off, none⟩ : Option Addr), ccells (c0 :: ct))] ++ ([c0.seg] ++ (ct.map Bs.seg ++ ((da, wcells ds) :: ds.map Wr.seg))) := by simp [dsk]
  rw [e9, fp_append, fp_append] at hx
  rcases List.mem_append.1 hx with h1 | h1
  · rw [fp_one, fpS_some (by simp [ccells_cons])] at h1
    have h2 : x = b := by simpa using h1
    rw [h2]; exact hbn
  · rcases List.mem_append.1 h1 with h2 | h2
    · exact ⟨(hf x h2).1, (hf x h2).2.1⟩
    · exact s.far x (by rw [e8, fp_append, fp_append]; exact List.mem_append_right _ (List.mem_append_right _ h2))
end
theorem log_disk (ca : Option Addr) (cc : Nat) (cs : List Bs) (da : Option Addr) (dc : Nat) (ds : List Wr) (nx ep : Int) (w : World) : (Instr.field 28 (logV ca cs.length cc da ds.length dc nx ep) 0).run Tryz.prog w = .ok (dskV ca cs.length cc da ds.length dc) w := by kernel_rfl
set_option maxRecDepth 100000 in
set_option maxHeartbeats 8000000 in
theorem draw_open (a : Option Addr) (len cap : Nat) (w : World) (hr : RowAt w.heap.size w a len) (hl : len ≤ 1048576) :
    Calls Tryz.prog 15 #[.slice a len cap] w fun e w' => IsDk w w' e ∧ Keeps w w' := by
  have HK0 := hide (Keeps.alloc (Keeps.refl w) (.cells #[.slice none 0 0, .slice none 0 0] 26))
  have HR0 := hide (World.rowIs_alloc w #[.slice none 0 0, .slice none 0 0] 26 _ (two_rowD _ _))
  have HRw := hide (RowAt.up (hr.below HK0.out) HK0.out.size)
  clear hr
  go_enter Tryz.func15, Tryz.ntmps15
  go_wp2_with fail
  refine (new_any a len cap _ HRw.out hl).mono ?_
  rintro x w1 ⟨he, s1, hk1⟩
  have he1 : x = .returned (.pointer (some ⟨w.heap.size + 1, 0, none⟩)) := by rw [he]; simp
  clear he
  subst he1
  rw [size_alloc1] at s1
  have HS1 := hide s1
  have HK1 := hide (HK0.out.trans hk1)
  have HR1 := hide (Keeps.row hk1 HR0.out)
  have hz1 := s1.lt
  clear s1 hk1 HK0 HR0 HRw
  go_wp2_with fail
  refine (log_any HS1.out).mono ?_
  rintro _ w2 ⟨⟨v, M, nx, ep, rfl, hr, hM⟩, s2, g2⟩
  obtain ⟨ca, cc, cs, da, dc, ds, rfl, he, hok, hna, hnd, hb⟩ := hr
  subst he
  have HM := hide hM
  have HOk := hide hok
  have HO2 := hide hb.toOwn
  have HN2 := hide hb.new
  have HS2 := hide s2
  have HK2 := hide (keeps_of HK1.out g2 (by intro r hr; injection hr with hr; omega))
  have HR2 := hide (grown_row g2 (by intro e; injection e with e; omega) HR1.out)
  have hz2 := g2.size
  clear s2 g2 hb hM hok hna hnd HS1 HK1 HR1
  have hf := log_disk ca cc cs da dc ds nx ep
  go_wp2_with fail
  clear hf
  refine (below_any 140 HS2.out (by omega) (by omega)).mono ?_
  rintro _ w3 ⟨⟨z, z0, z1, rfl⟩, s3, g3⟩
  have HA3 := hide (Keeps.alloc (Keeps.refl w3) (.cells #[.int .i64 128, .int .i64 z, .int .i64 0, .int .i64 128] 3))
  have HO3 := hide ((HO2.out.turn (Turn.of_grown (fs := [w.heap.size + 1]) g3 (by simp)) (fun b hb hx => by have h1 := HN2.out b hb; have h2 : b = w.heap.size + 1 := (by simpa using hx); omega)).kept HA3.out)
  have HS3 := hide (s3.grown (row := none) (HA3.out.grows none) (by simp) (by simp))
  have HK3 := hide ((keeps_of HK2.out g3 (by intro r hr; injection hr with hr; omega)).trans HA3.out)
  have HR3 := hide (Keeps.row HA3.out (grown_row g3 (by intro e; injection e with e; omega) HR2.out))
  have HC3 : Hid (Cells (w3.alloc (.cells #[.int .i64 128, .int .i64 z, .int .i64 0, .int .i64 128] 3)) (some ⟨w3.heap.size, 0, none⟩) (its [128, z, 0, 128])) := (born_alloc w3 #[.int .i64 128, .int .i64 z, .int .i64 0, .int .i64 128] 3).toOwn.one
  have hz3 := g3.size
  have HZ3 := hide (size_alloc1 w3 (.cells #[.int .i64 128, .int .i64 z, .int .i64 0, .int .i64 128] 3))
  clear s3 g3 HO2 HS2 HK2 HR2 HN2
  go_wp2_with fail
  refine (diskcrash_spec ca cc cs da dc ds (some ⟨w3.heap.size, 0, none⟩) 4 [128, z, 0, 128] _ HO3.out.mem HOk.out HC3.out (by simp)).mono ?_
  rintro _ w4 ⟨v, rfl, hr, hk4⟩
  obtain ⟨cad, ccd, csd, dad, dcd, dsd, rfl, hed, hokd, hnad, hndd, hbd⟩ := hr
  have HM4 : Hid (FewM (dat csd dsd)) := by show FewM _; rw [hed]; exact HM.out.crash (keepN_le _)
  have HA4 := hide (Keeps.alloc (Keeps.refl w4) (.cells #[.slice cad csd.length ccd, .slice dad dsd.length dcd] 26))
  have hz4 : w3.heap.size + 1 ≤ w4.heap.size := by have h := hk4.size; rw [HZ3.out] at h; exact h
  have HD4 : Hid (DSt (w.heap.size + 2) w4.heap.size cad ccd csd dad dcd dsd (w4.alloc (.cells #[.slice cad csd.length ccd, .slice dad dsd.length dcd] 26))) :=
    ⟨World.rowIs_alloc w4 #[.slice cad csd.length ccd, .slice dad dsd.length dcd] 26 _ (two_rowD _ _), hbd.toOwn.kept HA4.out, fun b hb' => by have h1 := hbd.new b hb'; rw [HZ3.out] at h1; have h2 := hbd.mem.lt b hb'; omega, by omega, hokd, hnad, hndd⟩
  have HS4 := hide (HS3.out.grown (row := none) ((hk4.trans HA4.out).grows none) (by simp) (by simp))
  have HK4 := hide (HK3.out.trans (hk4.trans HA4.out))
  have HR4 := hide (Keeps.row (hk4.trans HA4.out) HR3.out)
  clear hk4 hed hokd hnad hndd hbd HO3 HS3 HK3 HR3 HC3 HM HOk HA3 HA4 HZ3
  go_wp2_with fail
  generalize w4.heap.size = Db at *
  generalize w4.alloc (.cells #[.slice cad csd.length ccd, .slice dad dsd.length dcd] 26) = W4 at *
  refine (below_any 8 HS4.out (by omega) (by omega)).mono ?_
  rintro _ w5 ⟨⟨k, k0, k8, rfl⟩, s5, g5⟩
  have HS5 := hide s5
  have HK5 := hide (keeps_of HK4.out g5 (by intro r hr; injection hr with hr; omega))
  have HR5 := hide (grown_row g5 (by intro e; injection e with e; omega) HR4.out)
  have HD5 := hide (HD4.out.grown g5 (by omega))
  clear s5 g5 HS4 HK4 HR4 HD4
  have hn := HD5.out.new
  by_cases e0 : k = 0
  · subst e0
    go_wp2_with fail
    refine (anydisk_any HS5.out).mono ?_
    rintro _ w6 ⟨⟨v, M, rfl, hr, hM1, hM2⟩, s6, g6⟩
    obtain ⟨ca', cc', cs', da', dc', ds', rfl, he, hok, hna, hnd, hb⟩ := hr
    have HD6 := hide (HD5.out.putG g6 (by omega) hb hok hna hnd)
    have HK6 := hide (((keeps_of HK5.out g6 (by intro r hr; injection hr with hr; omega)).setCell (p := ⟨Db, 0, none⟩) (by show w.heap.size ≤ Db; omega) (.slice ca' cs'.length cc')).setCell (p := ⟨Db, 1, none⟩) (by show w.heap.size ≤ Db; omega) (.slice da' ds'.length dc'))
    have HR6 := hide (((grown_row g6 (by intro e; injection e with e; omega) HR5.out).setOther (a := ⟨Db, 0, none⟩) (by simp; omega) (.slice ca' cs'.length cc')).setOther (a := ⟨Db, 1, none⟩) (by simp; omega) (.slice da' ds'.length dc'))
    have r6 := (HD5.out.grown g6 (by omega)).row
    have q0 := r6.cell (i := 0) (by decide)
    have q1 := r6.cell (i := 1) (by decide)
    have qf0 := r6.frozen 0
    have qf1 := r6.frozen 1
    have ql := r6.lt
    have R6 := grown_row g6 (by intro e; injection e with e; omega) HR5.out
    have z0 := R6.cell (i := 0) (by decide)
    have z1 := R6.cell (i := 1) (by decide)
    have zf0 := R6.frozen 0
    have zf1 := R6.frozen 1
    have zl := R6.lt
    simp at q0 q1 z0 z1
    clear hb hok hna hnd s6 g6 HD5 HK5 HR5 r6 R6 he hM1 hM2
    go_wp2_with fail
    have r9 := row_two' HR6.out (.slice ca' cs'.length cc') (.slice da' ds'.length dc')
    have o0 := r9.cell (i := 0) (by decide)
    have o1 := r9.cell (i := 1) (by decide)
    simp only [if_true, Nat.one_ne_zero, if_false] at o0 o1
    refine bodyPost_ret (v := dskV ca' (cs'.length) cc' da' (ds'.length) dc') ?_ rfl (opn_done HD6.out HK6.out)
    clear r9 HR6 HD6 HK6 q0 q1 qf0 qf1 z0 z1 zf0 zf1
    revert o0 o1
    generalize World.setCell (World.setCell _ _ _) _ _ = W'
    intro o0 o1
    simp [results, Tryz.results15, go_sem, o0, o1]
  · have e0' : (k == 0) = false := beq_eq_false_iff_ne.2 e0
    by_cases e1 : k = 1
    · subst e1
      go_wp2_with fail
      refine (secbytes_spec 0 16000000 none 0 [] w5 (Cells.nil _ _) (fun _ => rfl) (by simp)).mono ?_
      rintro _ w6 ⟨v, rfl, hown, hk6⟩
      obtain ⟨sa, sc, rfl, hle, _, hnn, ho, hbw⟩ := Own.of_owns hown
      have hsl := secR_length 0 16000000 []
      generalize secR 0 16000000 [] = SL at *
      cases csd with
      | nil => have h3 := HM4.out.2.1; simp [dat] at h3
      | cons c0 ct =>
        obtain ⟨b, off, ea, k0⟩ := cell1 (dsk_mem HD5.out.own.mem).1 0 (by simp)
        subst ea
        simp only [Nat.add_zero, List.getElem_cons_zero] at k0
        have hbf : b ∈ fp (dsk (some ⟨b, off, none⟩) (c0 :: ct) dad dsd) := by
          unfold dsk
          rw [fp_append, fp_cons, fpS_some (by simp [ccells_cons])]
          simp
        have hbn := HD5.out.far b hbf
        have hmt : (c0 :: ct).length ≤ 16 := by have h := HM4.out.2.2; simpa [dat] using h
        have htf := tot_few HM4.out.1 hmt
        have hlD := HD5.out.row.lt
        have hD6 := HD5.out.kept hk6
        have HD7 := hide (hD6.first (n := ⟨sa, sc, SL⟩) ho (fun x hx => by have h1 := hbw x hx; exact ⟨by omega, by omega, fun hx' => by have := HD5.out.own.mem.lt x hx'; omega⟩) (dok_fst HD5.out.ok htf ⟨hnn, hle⟩ hsl))
        have HK7 := hide ((HK5.out.trans hk6).setCell (p := ⟨b, off, none⟩) (by show w.heap.size ≤ b; omega) (.slice sa SL.length sc))
        have HR7 := hide ((Keeps.row hk6 HR5.out).setOther (a := ⟨b, off, none⟩) (by simp; omega) (.slice sa SL.length sc))
        have kf : w6.frozen? ⟨b, off, none⟩ = false := hD6.own.free b hbf off
        replace k0 := hk6.cell k0
        have lb := lt_of_cell k0
        unfold Bs.v at k0
        have q0 := hD6.row.cell (i := 0) (by decide)
        have q1 := hD6.row.cell (i := 1) (by decide)
        have ql := hD6.row.lt
        have R6 := Keeps.row hk6 HR5.out
        have z0 := R6.cell (i := 0) (by decide)
        have z1 := R6.cell (i := 1) (by decide)
        have zf0 := R6.frozen 0
        have zf1 := R6.frozen 1
        have zl := R6.lt
        simp at q0 q1 z0 z1
        clear hown hk6 ho hbw hbf hD6 R6 HD5 HK5 HR5 HM4 htf hmt
        obtain ⟨hb1, hb2⟩ := hbn
        go_wp2_with fail
        have hfin := opn_done HD7.out HK7.out
        have r9 := row_two' HR7.out (.slice (some ⟨b, off, none⟩) (ct.length + 1) ccd) (.slice dad dsd.length dcd)
        have o0 := r9.cell (i := 0) (by decide)
        have o1 := r9.cell (i := 1) (by decide)
        simp only [if_true, Nat.one_ne_zero, if_false] at o0 o1
        simp only [List.length_cons] at hfin
        refine bodyPost_ret (v := dskV (some ⟨b, off, none⟩) (ct.length + 1) ccd dad dsd.length dcd) ?_ rfl hfin
        clear hfin r9 HR7 HD7 HK7 q0 q1 z0 z1 zf0 zf1 k0 kf
        revert o0 o1
        generalize World.setCell (World.setCell _ _ _) _ _ = W'
        intro o0 o1
        simp [results, Tryz.results15, go_sem, o0, o1]
    · have e1' : (k == 1) = false := beq_eq_false_iff_ne.2 e1
      have q0 := HD5.out.row.cell (i := 0) (by decide)
      have q1 := HD5.out.row.cell (i := 1) (by decide)
      have ql := HD5.out.row.lt
      have z0 := HR5.out.cell (i := 0) (by decide)
      have z1 := HR5.out.cell (i := 1) (by decide)
      have zf0 := HR5.out.frozen 0
      have zf1 := HR5.out.frozen 1
      have zl := HR5.out.lt
      simp at q0 q1 z0 z1
      go_wp2_with fail
      have r9 := row_two' HR5.out (.slice cad csd.length ccd) (.slice dad dsd.length dcd)
      have o0 := r9.cell (i := 0) (by decide)
      have o1 := r9.cell (i := 1) (by decide)
      simp only [if_true, Nat.one_ne_zero, if_false] at o0 o1
      refine bodyPost_ret (v := dskV cad (csd.length) ccd dad (dsd.length) dcd) ?_ rfl (opn_done HD5.out HK5.out)
      clear r9 HR5 HD5 HK5 q0 q1 z0 z1 zf0 zf1
      revert o0 o1
      generalize World.setCell (World.setCell _ _ _) _ _ = W'
      intro o0 o1
      simp [results, Tryz.results15, go_sem, o0, o1]
end Go.Proofs.YtkdnddckogbgaaaGreatDoor
