/- Texts of the verifier, joined: DWc, DWi. -/
import Derived.Test.YtkdnddckogbgaaaGreatDoorFO4
import Derived.Deep.RegionLaw
import Derived.Deep.Cut
namespace Go.Proofs.YtkdnddckogbgaaaGreatDoor
open Go.RowKit Go.Deep
set_option linter.unusedVariables false
set_option maxRecDepth 10000

theorem eq_false {a b : Nat} (h : a ≠ b) : ((a : Int) == (b : Int)) = false := by rw [beq_eq_false_iff_ne]; omega
theorem eq_true {a b : Nat} (h : a = b) : ((a : Int) == (b : Int)) = true := by rw [h]; simp
theorem LG.turnedW {α : Type} {T : TypeId} {sz : Nat} {f : α → List Value} {sg : α → Seg} {w0 w w' : World} {v : Value} {nb : List α} {fs : List Nat} (h : LG T sz f sg w0 w v nb) (ht : Turn fs w w') (h1 : ∀ g, v.ownBlock = some g → g ∉ fs) (h2 : ∀ b ∈ fp (nb.map sg), b ∉ fs) (h3 : ∀ b ∈ fs, w0.heap.size ≤ b) : LG T sz f sg w0 w' v nb := by
  refine ⟨⟨h.row.1, ?_⟩, h.inner.turn ht h2, h.apart, ht.keeps h.keeps h3⟩
  rcases h.row.2 with h' | ⟨g, cap, cur, rfl, hb, hg, rest⟩
  · exact .inl h'
  · refine .inr ⟨g, cap, cur, rfl, hb, ?_, rest⟩
    rw [ht.block g (Array.getElem?_eq_some_iff.1 hg).1 (h1 g rfl)]; exact hg
theorem LG.oldW {α : Type} {T : TypeId} {sz : Nat} {f : α → List Value} {sg : α → Seg} {w w0 w' : World} {v : Value} {nb : List α} (h : LG T sz f sg w0 w' v nb) (hk : Keeps w w0) : LG T sz f sg w w' v nb := by
  refine ⟨⟨h.row.1, ?_⟩, h.inner.old hk, h.apart, hk.trans h.keeps⟩
  rcases h.row.2 with h' | ⟨g, cap, cur, rfl, hb, rest⟩
  · exact .inl h'
  · exact .inr ⟨g, cap, cur, rfl, Nat.le_trans hk.size hb, rest⟩
/-- The blocks of a list of structs with lists inside. -/
def lgB {α : Type} (sg : α → Seg) (v : Value) (nb : List α) (b : Nat) : Prop := v.ownBlock = some b ∨ b ∈ fp (nb.map sg)
/-- A disk of two lists of one's own that share no block. -/
theorem diskres_sep {w W : World} {v1 v2 : Value} {nb : List Bs} {nw : List Wr} (hC : LG 93 1 Bs.cells Bs.seg w W v1 nb) (hD : LG 86 2 Wr.cells Wr.seg w W v2 nw) (hs : ∀ b, lgB Bs.seg v1 nb b → lgB Wr.seg v2 nw b → False) (hok : dokM (dat nb nw) = true)
    (nc : ∀ b ∈ nb, b.fit) (nd : ∀ x ∈ nw, x.b.fit) : DiskRes w W (.agg #[v1, v2]) (dat nb nw) := by
  obtain ⟨a1, c1, e1, n1, b1⟩ := hC.cells
  obtain ⟨a2, c2, e2, n2, b2⟩ := hD.writes
  have own1 : ∀ b ∈ fpS (a1, ccells nb), v1.ownBlock = some b := by
    intro b hb
    rw [e1]
    unfold fpS at hb
    split at hb
    · simp at hb
    · cases a1 with
      | none => simp at hb
      | some p => simp at hb; simp [Value.ownBlock, hb]
  have own2 : ∀ b ∈ fpS (a2, wcells nw), v2.ownBlock = some b := by
    intro b hb
    rw [e2]
    unfold fpS at hb
    split at hb
    · simp at hb
    · cases a2 with
      | none => simp at hb
      | some p => simp at hb; simp [Value.ownBlock, hb]
  refine ⟨a1, c1, nb, a2, c2, nw, by rw [e1, e2], rfl, dokM_DOk hok nc nd, n1, n2, ⟨b1.toOwn.append b2.toOwn (fun b hb hb' => ?_), fun b hb => ?_⟩⟩
  · rw [fp_cons] at hb hb'
    refine hs b ?_ ?_
    · rcases List.mem_append.1 hb with hb | hb
      · exact .inl (own1 b hb)
      · exact .inr hb
    · rcases List.mem_append.1 hb' with hb' | hb'
      · exact .inl (own2 b hb')
      · exact .inr hb'
  · unfold dsk at hb
    rw [fp_append] at hb
    rcases List.mem_append.1 hb with hb | hb
    · exact b1.new b hb
    · exact b2.new b hb
set_option maxHeartbeats 4000000 in
theorem copyDisk_k (ca : Option Addr) (cc : Nat) (cs : List Bs) (da : Option Addr) (dc : Nat) (ds : List Wr) (w : World) (hm : Mem w (dsk ca cs da ds)) (h : DOk cs ds) :
    Calls Tryz.prog 105 #[dskV ca cs.length cc da ds.length dc] w fun e w' => ∃ v1 v2 nb nw N, e = .returned (.agg #[v1, v2]) ∧ nb.map Bs.L = cs.map Bs.L ∧ nw.map Wr.key = ds.map Wr.key ∧ (∀ b ∈ nb, b.fit) ∧ (∀ x ∈ nw, x.b.fit) ∧ LG 93 1 Bs.cells Bs.seg w w' v1 nb ∧ LG 86 2 Wr.cells Wr.seg w w' v2 nw ∧ (∀ b, lgB Wr.seg v2 nw b → b < N) ∧ (∀ b, lgB Bs.seg v1 nb b → N ≤ b ∧ b < w'.heap.size) ∧ N ≤ w'.heap.size := by
  have HKA := hide (Keeps.alloc (Keeps.alloc (Keeps.refl w) (.cells #[.slice ca cs.length cc, .slice da ds.length dc] 26)) (.cells #[.slice none 0 0, .slice none 0 0] 26))
  have HM := hide (hm.kept HKA.out)
  have HD : Hid (∀ w', Keeps ((w.alloc (.cells #[.slice ca cs.length cc, .slice da ds.length dc] 26)).alloc (.cells #[.slice none 0 0, .slice none 0 0] 26)) w' → w'.cell? ⟨w.heap.size, 0, none⟩ = some (.slice ca cs.length cc) ∧ w'.cell? ⟨w.heap.size, 1, none⟩ = some (.slice da ds.length dc)) :=
    fun w' hk => ⟨hk.cell (by simp), hk.cell (by simp)⟩
  have HZ : Hid (((w.alloc (.cells #[.slice ca cs.length cc, .slice da ds.length dc] 26)).alloc (.cells #[.slice none 0 0, .slice none 0 0] 26)).heap.size = w.heap.size + 1 + 1) := by show _ = _; rw [World.size_alloc, World.size_alloc]
  have HR := hide (row_new (w.alloc (.cells #[.slice ca cs.length cc, .slice da ds.length dc] 26)) #[.slice none 0 0, .slice none 0 0] 26)
  rw [World.size_alloc] at HR
  have hcl := h.c
  have hdl := h.d
  have HDO := hide h
  have hmk := make_writes0 ds.length (by omega)
  clear hm h
  go_enter Tryz.func105, Tryz.ntmps105
  go_upto_region 1 with fail
  generalize hW0 : (w.alloc (.cells #[.slice ca cs.length cc, .slice da ds.length dc] 26)).alloc (.cells #[.slice none 0 0, .slice none 0 0] 26) = w2 at *
  clear hW0
  obtain ⟨d0, d1⟩ := HD.out _ (Keeps.refl w2)
  have HL0 : Hid (LG 86 2 Wr.cells Wr.seg w2 (w2.alloc (.cells (madeCells #[.int .i64 0, .slice none 0 0] ((ds.length + 1) * 2)) 86)) (.slice (some ⟨w2.heap.size, 0, none⟩) 0 (ds.length + 1)) []) :=
    LG.nil _ _ _ _ (World.ownsRow_made w2 _ _ (Nat.le_refl _) (by simp only [maxLen]; omega) (by rw [size_madeCells])) (Keeps.alloc (Keeps.refl _) _)
  have HQ2 := hide HL0.out.keeps
  obtain ⟨q0, q1⟩ := HD.out _ HQ2.out
  go_wp2_with fail
  clear hmk
  generalize w2.alloc (.cells (madeCells #[.int .i64 0, .slice none 0 0] ((ds.length + 1) * 2)) 86) = W2 at *
  clear d0 d1 q0 q1 HQ2
  go_loopw [3, 14] (fun x y wr => ∃ (k : Nat) (nb : List Wr), k ≤ ds.length ∧ nb.length = k ∧ y = .int .i64 (k : Int) ∧ Hid (nb.map Wr.key = (ds.take k).map Wr.key) ∧ Hid (∀ x ∈ nb, x.b.fit) ∧ Hid (LG 86 2 Wr.cells Wr.seg w2 wr x nb)) (fun _ y _ => ds.length - (intOf y).toNat)
  case atStart => exact ⟨0, [], by omega, rfl, rfl, rfl, fun b hb => absurd hb (by simp), HL0⟩
  case round =>
    clear HL0
    obtain ⟨k, nb, hk, rfl, rfl, HDt, HNb, HG⟩ := hrel
    have HK := hide HG.out.keeps
    have hsz := HK.out.size
    by_cases hlt : nb.length < ds.length
    · obtain ⟨b, off, ea, c0, c1⟩ := cell2 ((dsk_mem HM.out).2.2.1.kept HK.out) nb.length hlt
      subst ea
      have HMk : Hid (Cells wr ds[nb.length].b.a (bys ds[nb.length].b.L)) := (mem_segW (dsk_mem HM.out).2.2.2 nb.length hlt).kept HK.out
      have HTk : Hid (ds[nb.length].b.L.length ≤ 4194304) := Nat.le_trans (totW_le (List.getElem_mem hlt)) (Nat.le_trans HDO.out.td (by decide))
      have HNk := hide (HDO.out.nd _ (List.getElem_mem hlt)).1
      have HDk : Hid ((ds.take (nb.length + 1)).map Wr.key = (ds.take nb.length).map Wr.key ++ [ds[nb.length].key]) := by show _ = _; rw [List.take_succ_eq_append_getElem hlt, List.map_append]; rfl
      generalize ds[nb.length] = c at *
      obtain ⟨xi, xa, xc, xL⟩ := c
      dsimp only [Bs.v] at c0 c1 HMk HTk HNk HDk
      have HKa := hide (Keeps.alloc (Keeps.refl wr) (.cells #[.int .i64 xi, .slice xa xL.length xc] 86))
      have HCl := hide (copyWrite_k xi xa xc xL _ (HMk.out.kept HKa.out) HNk.out HTk.out)
      go_wp2_with (first
        | (go_at_call 106; refine (unhide HCl).mono ?_; rintro x w3 ⟨a1, c1', rfl, hn1, hb1, hk1⟩; have HK3 := hide (HKa.out.trans hk1); have HB1 := hide (hb1.old HKa.out); have HN1 := hide hn1; obtain ⟨v4, w4, hr4, ho4, hg4, hv4⟩ := run_write w3 w2.heap.size u3 nb.length (wcells nb) (.int .i64 xi) (.slice a1 xL.length c1') rfl rfl 24 (owns_kept HK3.out HG.out.row) (by omega) (HG.out.keeps.trans HK3.out).size; have HR4 := hide hr4; have HS4 := hide (HG.out.snoc HK3.out (x := Wr.mk xi (Bs.mk a1 c1' xL)) HB1.out.toOwn HB1.out.new hg4 ho4 hv4); clear hk1 hb1 hn1 hr4 ho4 hg4 hv4)
        | (at_builtin; refine Lib.wpList_append_run _ rfl (.tmp 18) (.tmp 21) _ _ rfl _ _ rfl rfl v4 w4 HR4.out ?_))
      go_roundw
      case rel =>
        refine ⟨nb.length + 1, nb ++ [Wr.mk xi (Bs.mk a1 c1' xL)], by omega, by simp, by go_num, ?_, ?_, HS4⟩
        · show _ = _
          rw [HDk.out, ← HDt.out]; simp [Wr.key]
        · intro b hb
          rcases List.mem_append.1 hb with hb | hb
          · exact HNb.out b hb
          · rw [List.mem_singleton.1 hb]; exact HN1.out
      case measure => simp [intOf]; omega
    · have e : nb.length = ds.length := by omega
      have HE : Hid (nb.map Wr.key = ds.map Wr.key) := by show _ = _; rw [HDt.out, e, List.take_length]
      clear e
      obtain ⟨d0, d1⟩ := HD.out _ HK.out
      have HCc := hide (copyCells_k ca cc cs wr ((dsk_mem HM.out).1.kept HK.out) ((dsk_mem HM.out).2.1.kept HK.out) HDO.out.nc hcl (fun b hb => Nat.le_trans (tot_le hb) (Nat.le_trans HDO.out.tc (by decide))))
      go_wp2_with fail
      refine (unhide HCc).mono ?_
      rintro x w5 ⟨v5, nc, rfl, he5, hn5, hg5⟩
      have HE5 := hide he5
      have HN5 := hide hn5
      have HG5 := hide hg5
      have HGW := hide (HG.out.kept hg5.keeps)
      have hlo : w.heap.size + 1 < w2.heap.size := by have := HZ.out; omega
      have hz5 := hg5.keeps.size
      have HR5 := hide ((HK.out.trans hg5.keeps).row HR.out)
      have r0 := HR5.out.cell (i := 0) (by decide)
      have r1 := HR5.out.cell (i := 1) (by decide)
      have f0 := HR5.out.frozen 0
      have f1 := HR5.out.frozen 1
      simp at r0 r1
      obtain ⟨a5, c5, rfl, _⟩ := hg5.cells
      obtain ⟨a4, c4, rfl, _⟩ := HG.out.writes
      clear he5 hn5 hg5
      go_wp2_with fail
      have r3 := (HR5.out.set 0 (.slice a5 nc.length c5)).set 1 (.slice a4 nb.length c4)
      have e0 := r3.cell (i := 0) (by decide)
      have e1 := r3.cell (i := 1) (by decide)
      simp at e0 e1
      have HS : Hid (Turn [w.heap.size + 1] w5 ((w5.setCell ⟨w.heap.size + 1, 0, none⟩ (.slice a5 nc.length c5)).setCell ⟨w.heap.size + 1, 1, none⟩ (.slice a4 nb.length c4))) := (Turn.set (by simp) _).trans' (Turn.set (by simp) _)
      clear r3 r0 r1 f0 f1
      revert e0 e1 HS
      generalize World.setCell _ _ _ = W
      intro e0 e1 HS
      refine bodyPost_ret (v := .agg #[.slice a5 nc.length c5, .slice a4 nb.length c4]) (by simp [results, Tryz.results105, go_sem, e0, e1]) rfl ?_
      have hx : ∀ b ∈ [w.heap.size + 1], b < w2.heap.size := fun b hb => by rw [List.mem_singleton.1 hb]; exact hlo
      have hc := HG5.out.oldW (HKA.out.trans HK.out)
      have hd := HGW.out.oldW HKA.out
      have h3 : ∀ b ∈ [w.heap.size + 1], w.heap.size ≤ b := fun b hb => by rw [List.mem_singleton.1 hb]; omega
      refine ⟨_, _, nc, nb, wr.heap.size, rfl, HE5.out, HE.out, HN5.out, HNb.out, hc.turnedW HS.out (fun g hg hb => by have := (HG5.out.row.lt g hg).1; have := hx g hb; omega) (fun g hg hb => by have := HG5.out.inner.new g hg; have := hx g hb; omega) h3, hd.turnedW HS.out (fun g hg hb => by have := (HGW.out.row.lt g hg).1; have := hx g hb; omega) (fun g hg hb => by have := HGW.out.inner.new g hg; have := hx g hb; omega) h3, fun b hb => ?_, fun b hb => ?_, Nat.le_trans hz5 HS.out.size⟩
      · rcases hb with hb | hb
        · exact (HG.out.row.lt b hb).2
        · exact HG.out.inner.mem.lt b hb
      · have hzW := HS.out.size
        rcases hb with hb | hb
        · have := HG5.out.row.lt b hb; exact ⟨this.1, by omega⟩
        · have h1 := HG5.out.inner.new b hb
          have h2 := HG5.out.inner.mem.lt b hb
          exact ⟨h1, by omega⟩
end Go.Proofs.YtkdnddckogbgaaaGreatDoor
namespace Go.Proofs.YtkdnddckogbgaaaGreatDoor
open Go.RowKit Go.Deep
set_option linter.unusedVariables false
set_option maxRecDepth 10000
attribute [local go_sem ↓] Go.wp_at_zero Go.wp_at_succ

theorem step_append_w {P : Program} {w : World} {ops : Array Oper} {o : Oper} {a : Act} {K : Act → World → Prop} {Q : Exit → Act → World → Prop} {E : Prop} (hgd : o.guard = none) (s x : Operand) (t tn : TypeId)
    (ho : o.op = .call { callee := .builtin .append, args := #[s, x], argTypes := #[t, tn] }) (vs vx : Value) (hs : a.eval s = vs) (hx : a.eval x = vx)
    (v' : Value) (w' : World) (hr : (Builtin.append_ #[t, tn] o.type #[vs, vx]).run P w = .ok v' w') (h : K (a.put o.dst v') w') : if Region.wanted o (yielded ops a.tmps) = true then Oper.wp P o a w K Q else E := by
  have hw : Region.wanted o (yielded ops a.tmps) = true := by simp [Region.wanted, hgd]
  rw [if_pos hw]
  exact Lib.wp_append_run w s x t tn ho vs vx hs hx v' w' hr h
theorem room_turn0 {w w' : World} {b n : Nat} {fs : List Nat} (h : Room w b n) (ht : Turn fs w w') (hb : b ∉ fs) (hl : b < w.heap.size) : Room w' b n :=
  ⟨fun j hj => by obtain ⟨u, hu⟩ := h.cell j hj; exact ⟨u, ht.cell hb hu⟩, fun o => by rw [World.frozen?_of_block (w := w) (a := ⟨b, o, none⟩) (ht.block b hl hb)]; exact h.free o⟩
set_option maxHeartbeats 8000000 in
theorem diskwrite_impl (ca : Option Addr) (cc : Nat) (cs : List Bs) (da : Option Addr) (dc : Nat) (ds : List Wr) (i : Int) (ba : Option Addr) (bc : Nat) (bL : List UInt8) (w : World) (hm : Mem w (dsk ca cs da ds)) (h : DOk cs ds) (hb : Cells w ba (bys bL)) (hbn : ba = none → bc = 0) (hbl : bL.length ≤ 1048576) :
    Calls Tryz.prog 72 #[dskV ca cs.length cc da ds.length dc, .int .i64 i, .slice ba bL.length bc] w (WritePost w (dat cs ds) i bL) := by
  have HKA := hide (Keeps.alloc (Keeps.alloc (Keeps.refl w) (.cells #[.slice ca cs.length cc, .slice da ds.length dc] 26)) (.cells #[.slice none 0 0, .slice none 0 0] 26))
  have HM := hide (hm.kept HKA.out)
  have HBy := hide (hb.kept HKA.out)
  have HD : Hid (∀ w', Keeps ((w.alloc (.cells #[.slice ca cs.length cc, .slice da ds.length dc] 26)).alloc (.cells #[.slice none 0 0, .slice none 0 0] 26)) w' → w'.cell? ⟨w.heap.size, 0, none⟩ = some (.slice ca cs.length cc) ∧ w'.cell? ⟨w.heap.size, 1, none⟩ = some (.slice da ds.length dc)) :=
    fun w' hk => ⟨hk.cell (by simp), hk.cell (by simp)⟩
  have HZ : Hid (((w.alloc (.cells #[.slice ca cs.length cc, .slice da ds.length dc] 26)).alloc (.cells #[.slice none 0 0, .slice none 0 0] 26)).heap.size = w.heap.size + 1 + 1) := by show _ = _; rw [World.size_alloc, World.size_alloc]
  have HR := hide (row_new (w.alloc (.cells #[.slice ca cs.length cc, .slice da ds.length dc] 26)) #[.slice none 0 0, .slice none 0 0] 26)
  rw [World.size_alloc] at HR
  have HQ := hide (diskok_impl' ca cc cs da dc ds _ HM.out h)
  have HH := hide (fun w1 => hascell_k ca cs.length cc da ds.length dc i w1 h.big.1)
  have hcl := h.c
  have hdl := h.d
  have HDO := hide h
  have HBN := hide hbn
  clear hm hb h hbn
  cases hok : dokM (dat cs ds)
  · rw [hok] at HQ
    have HB := hide (writeB_no (i := i) (L := bL) (Or.inl hok))
    clear hok HH
    go_enter Tryz.func72, Tryz.ntmps72
    go_wp2_with fail
    refine (unhide HQ).mono ?_
    rintro x w1 ⟨rfl, hk1⟩
    have HK1 := hide hk1
    obtain ⟨d0, d1⟩ := HD.out _ hk1
    clear hk1
    clear d0 d1
    have HR1 := hide (HK1.out.row HR.out)
    have r0 := HR1.out.cell (i := 0) (by decide)
    have r1 := HR1.out.cell (i := 1) (by decide)
    have f0 := HR1.out.frozen 0
    have f1 := HR1.out.frozen 1
    simp at r0 r1
    go_wp2_with fail
    have r3 := (HR1.out.set 0 (.slice none 0 0)).set 1 (.slice none 0 0)
    have e0 := r3.cell (i := 0) (by decide)
    have e1 := r3.cell (i := 1) (by decide)
    simp at e0 e1
    have HS : Hid (Turn [w.heap.size + 1] w1 ((w1.setCell ⟨w.heap.size + 1, 0, none⟩ (.slice none 0 0)).setCell ⟨w.heap.size + 1, 1, none⟩ (.slice none 0 0))) := (Turn.set (by simp) _).trans' (Turn.set (by simp) _)
    clear r3 r0 r1 f0 f1
    revert e0 e1 HS
    generalize World.setCell _ _ _ = W
    intro e0 e1 HS
    refine bodyPost_ret (v := .tuple #[.agg #[.slice none 0 0, .slice none 0 0], .bool false]) (by simp [results, Tryz.results72, go_sem, e0, e1]) rfl ?_
    refine WritePost.no HB.out (HS.out.keeps (HKA.out.trans HK1.out) (fun b hb => ?_))
    simp at hb
    omega
  rw [hok] at HQ
  have HOk := hide hok
  clear hok
  by_cases h6 : ds.length = 600
  · have HB := hide (writeB_no (m := dat cs ds) (i := i) (L := bL) (Or.inr (Or.inl (by show (ds.map Wr.key).length = 600; simpa using h6))))
    have hb6 := eq_true h6
    simp only [Int.cast_ofNat_Int] at hb6
    clear h6 HH
    go_enter Tryz.func72, Tryz.ntmps72
    go_wp2_with fail
    refine (unhide HQ).mono ?_
    rintro x w1 ⟨rfl, hk1⟩
    have HK1 := hide hk1
    obtain ⟨d0, d1⟩ := HD.out _ hk1
    clear hk1
    have HR1 := hide (HK1.out.row HR.out)
    have r0 := HR1.out.cell (i := 0) (by decide)
    have r1 := HR1.out.cell (i := 1) (by decide)
    have f0 := HR1.out.frozen 0
    have f1 := HR1.out.frozen 1
    simp at r0 r1
    go_wp2_with fail
    have r3 := (HR1.out.set 0 (.slice none 0 0)).set 1 (.slice none 0 0)
    have e0 := r3.cell (i := 0) (by decide)
    have e1 := r3.cell (i := 1) (by decide)
    simp at e0 e1
    have HS : Hid (Turn [w.heap.size + 1] w1 ((w1.setCell ⟨w.heap.size + 1, 0, none⟩ (.slice none 0 0)).setCell ⟨w.heap.size + 1, 1, none⟩ (.slice none 0 0))) := (Turn.set (by simp) _).trans' (Turn.set (by simp) _)
    clear r3 r0 r1 f0 f1
    revert e0 e1 HS
    generalize World.setCell _ _ _ = W
    intro e0 e1 HS
    refine bodyPost_ret (v := .tuple #[.agg #[.slice none 0 0, .slice none 0 0], .bool false]) (by simp [results, Tryz.results72, go_sem, e0, e1]) rfl ?_
    refine WritePost.no HB.out (HS.out.keeps (HKA.out.trans HK1.out) (fun b hb => ?_))
    simp at hb
    omega
  have hb6 := eq_false h6
  simp only [Int.cast_ofNat_Int] at hb6
  by_cases h0 : i < 0
  · have HB := hide (writeB_no (m := dat cs ds) (i := i) (L := bL) (Or.inr (Or.inr (Or.inl h0))))
    have HH' := HH.out
    rw [show (decide (0 ≤ i) && decide (i < (cs.length : Int))) = false by simp; omega] at HH'
    replace HH := hide HH'
    clear HH' h6
    go_enter Tryz.func72, Tryz.ntmps72
    go_wp2_with fail
    refine (unhide HQ).mono ?_
    rintro x w1 ⟨rfl, hk1⟩
    have HK1 := hide hk1
    obtain ⟨d0, d1⟩ := HD.out _ hk1
    clear hk1
    go_wp2_with fail
    refine (unhide HH _).mono ?_
    rintro x w2 ⟨rfl, hk2⟩
    have HK2 := hide (HK1.out.trans hk2)
    clear d0 d1 hk2
    obtain ⟨d0, d1⟩ := HD.out _ HK2.out
    have HR2 := hide (HK2.out.row HR.out)
    have r0 := HR2.out.cell (i := 0) (by decide)
    have r1 := HR2.out.cell (i := 1) (by decide)
    have f0 := HR2.out.frozen 0
    have f1 := HR2.out.frozen 1
    simp at r0 r1
    go_wp2_with fail
    have r3 := (HR2.out.set 0 (.slice none 0 0)).set 1 (.slice none 0 0)
    have e0 := r3.cell (i := 0) (by decide)
    have e1 := r3.cell (i := 1) (by decide)
    simp at e0 e1
    have HS : Hid (Turn [w.heap.size + 1] w2 ((w2.setCell ⟨w.heap.size + 1, 0, none⟩ (.slice none 0 0)).setCell ⟨w.heap.size + 1, 1, none⟩ (.slice none 0 0))) := (Turn.set (by simp) _).trans' (Turn.set (by simp) _)
    clear r3 r0 r1 f0 f1
    revert e0 e1 HS
    generalize World.setCell _ _ _ = W
    intro e0 e1 HS
    refine bodyPost_ret (v := .tuple #[.agg #[.slice none 0 0, .slice none 0 0], .bool false]) (by simp [results, Tryz.results72, go_sem, e0, e1]) rfl ?_
    refine WritePost.no HB.out (HS.out.keeps (HKA.out.trans HK2.out) (fun b hb => ?_))
    simp at hb
    omega
  by_cases h1 : (cs.length : Int) ≤ i
  · have HB := hide (writeB_no (m := dat cs ds) (i := i) (L := bL) (Or.inr (Or.inr (Or.inr (Or.inl (by show ((cs.map Bs.L).length : Int) ≤ i; simpa using h1))))))
    have HH' := HH.out
    rw [show (decide (0 ≤ i) && decide (i < (cs.length : Int))) = false by simp; omega] at HH'
    replace HH := hide HH'
    clear HH' h6
    go_enter Tryz.func72, Tryz.ntmps72
    go_wp2_with fail
    refine (unhide HQ).mono ?_
    rintro x w1 ⟨rfl, hk1⟩
    have HK1 := hide hk1
    obtain ⟨d0, d1⟩ := HD.out _ hk1
    clear hk1
    go_wp2_with fail
    refine (unhide HH _).mono ?_
    rintro x w2 ⟨rfl, hk2⟩
    have HK2 := hide (HK1.out.trans hk2)
    clear d0 d1 hk2
    obtain ⟨d0, d1⟩ := HD.out _ HK2.out
    have HR2 := hide (HK2.out.row HR.out)
    have r0 := HR2.out.cell (i := 0) (by decide)
    have r1 := HR2.out.cell (i := 1) (by decide)
    have f0 := HR2.out.frozen 0
    have f1 := HR2.out.frozen 1
    simp at r0 r1
    go_wp2_with fail
    have r3 := (HR2.out.set 0 (.slice none 0 0)).set 1 (.slice none 0 0)
    have e0 := r3.cell (i := 0) (by decide)
    have e1 := r3.cell (i := 1) (by decide)
    simp at e0 e1
    have HS : Hid (Turn [w.heap.size + 1] w2 ((w2.setCell ⟨w.heap.size + 1, 0, none⟩ (.slice none 0 0)).setCell ⟨w.heap.size + 1, 1, none⟩ (.slice none 0 0))) := (Turn.set (by simp) _).trans' (Turn.set (by simp) _)
    clear r3 r0 r1 f0 f1
    revert e0 e1 HS
    generalize World.setCell _ _ _ = W
    intro e0 e1 HS
    refine bodyPost_ret (v := .tuple #[.agg #[.slice none 0 0, .slice none 0 0], .bool false]) (by simp [results, Tryz.results72, go_sem, e0, e1]) rfl ?_
    refine WritePost.no HB.out (HS.out.keeps (HKA.out.trans HK2.out) (fun b hb => ?_))
    simp at hb
    omega
  have HH' := HH.out
  rw [show (decide (0 ≤ i) && decide (i < (cs.length : Int))) = true by simp; omega] at HH'
  replace HH := hide HH'
  clear HH'
  by_cases h8 : bL.length = 128
  · have HB := hide (writeB_yes (m := dat cs ds) (i := i) (L := bL) HOk.out (by show (ds.map Wr.key).length ≠ 600; simpa using h6) (by omega) (by show i < ((cs.map Bs.L).length : Int); rw [List.length_map]; omega) h8)
    have hb8 := ne_false h8
    simp only [Int.cast_ofNat_Int] at hb8
    clear h6 h8 h0 h1
    go_enter Tryz.func72, Tryz.ntmps72
    go_wp2_with fail
    refine (unhide HQ).mono ?_
    rintro x w1 ⟨rfl, hk1⟩
    have HK1 := hide hk1
    obtain ⟨d0, d1⟩ := HD.out _ hk1
    clear hk1
    go_wp2_with fail
    refine (unhide HH _).mono ?_
    rintro x w2 ⟨rfl, hk2⟩
    have HK2 := hide (HK1.out.trans hk2)
    clear d0 d1 hk2
    obtain ⟨d0, d1⟩ := HD.out _ HK2.out
    have HR2 : Hid (Room w2 (w.heap.size + 1) 2) := Room.of_row (HK2.out.row HR.out)
    have hz2 : w.heap.size + 1 < w2.heap.size := by have := HK2.out.size; have := HZ.out; omega
    have HCp := hide (copyDisk_k ca cc cs da dc ds w2 (HM.out.kept HK2.out) HDO.out)
    go_wp2_with fail
    refine (unhide HCp).mono ?_
    rintro x w3 ⟨v1, v2, nb, nw, N, rfl, he1, he2, hn1, hn2, hg1, hg2, hN2, hN1, hNN⟩
    have HNN := hide hNN
    obtain ⟨a1, c1, rfl, _⟩ := hg1.cells
    obtain ⟨a2, c2, rfl, _⟩ := hg2.writes
    have HE1 := hide he1
    have HE2 := hide he2
    have HN1 := hide hn1
    have HN2 := hide hn2
    have HG1 := hide hg1
    have HG2 := hide hg2
    have HL2 := hide hN2
    have HL1 := hide hN1
    have HK3 := hide hg1.keeps
    have hnl : nw.length ≤ 1048576 := by
      have : nw.length = ds.length := by simpa using congrArg List.length he2
      omega
    have HR3 := hide (HR2.out.kept HK3.out hz2)
    have hz3 : w.heap.size + 1 < w3.heap.size := by have := HK3.out.size; omega
    clear he1 he2 hn1 hn2 hg1 hg2 hN2 hN1 hNN HCp d0 d1
    go_wp2_with fail
    have HVz : Hid ((w3.alloc (.cells #[.slice a1 nb.length c1, .slice a2 nw.length c2] 26)).heap.size = w3.heap.size + 1) := by show _ = _; rw [World.size_alloc]
    have HKa := hide (Keeps.alloc (Keeps.refl w3) (.cells #[.slice a1 nb.length c1, .slice a2 nw.length c2] 26))
    have HRV := hide (Room.of_row (row_new w3 #[.slice a1 nb.length c1, .slice a2 nw.length c2] 26))
    have HV0 : Hid ((w3.alloc (.cells #[.slice a1 nb.length c1, .slice a2 nw.length c2] 26)).cell? ⟨w3.heap.size, 0, none⟩ = some (.slice a1 nb.length c1)) := by show _ = _; simp
    have HV1 : Hid ((w3.alloc (.cells #[.slice a1 nb.length c1, .slice a2 nw.length c2] 26)).cell? ⟨w3.heap.size, 1, none⟩ = some (.slice a2 nw.length c2)) := by show _ = _; simp
    generalize hV : w3.alloc (.cells #[.slice a1 nb.length c1, .slice a2 nw.length c2] 26) = V at *
    clear hV
    have hkd : Keeps V V.drew := (Keeps.refl V).drew
    have HCl := hide (copyWrite_k i ba bc bL V.drew ((((HBy.out.kept HK2.out).kept HK3.out).kept HKa.out).kept hkd) HBN.out (Nat.le_trans hbl (by decide)))
    have s0 := HV0.out
    have s1 := HV1.out
    have l0 : w3.heap.size < V.heap.size := by have := HVz.out; omega
    go_region_law (first
      | (refine step_append_w (by rfl) (.tmp 33) (.tmp 38) _ _ (by rfl) _ _ (by rfl) (by rfl) _ w5 HR5.out ?_)
      | (go_simp
         refine (unhide HCl).mono ?_
         rintro x w4 ⟨a3, c3, rfl, hn3, hb3, hk3⟩
         dsimp only
         have HN3 := hide hn3
         have HK4 := hide (HKa.out.trans (hkd.trans hk3))
         have hb3' : Born w3 w4 [(a3, bys bL)] := hb3.old (HKa.out.trans hkd)
         have HB3 : Hid (∀ b ∈ fp [(a3, bys bL)], w3.heap.size < b) := fun b hb => by have h1 : V.heap.size ≤ b := hb3.new b hb; have := HVz.out; omega
         obtain ⟨v5, w5, hr5, ho5, hg5, hv5⟩ := run_write w4 w2.heap.size (.slice a2 nw.length c2) nw.length (wcells nw) (.int .i64 i) (.slice a3 bL.length c3) rfl rfl 24 (owns_kept HK4.out HG2.out.row) hnl (HK3.out.trans HK4.out).size
         have HS5 := hide (HG2.out.snoc HK4.out (x := Wr.mk i (Bs.mk a3 c3 bL)) hb3'.toOwn hb3'.new hg5 ho5 hv5)
         have hz4 : w3.heap.size < w4.heap.size := by have := HVz.out; have := (hkd.trans hk3).size; omega
         have HD5 : Hid (∀ b, lgB Wr.seg v5 (nw ++ [Wr.mk i (Bs.mk a3 c3 bL)]) b → b < N ∨ w3.heap.size < b) := fun b hb => by
           rcases hb with hb | hb
           · rcases hv5 with hv5 | hv5
             · rw [hv5] at hb; exact .inl (HL2.out b (.inl hb))
             · rw [hv5] at hb; have h1 := Option.some.inj hb; rw [World.size_alloc] at h1; exact .inr (by omega)
           · rw [List.map_append, fp_append] at hb
             rcases List.mem_append.1 hb with hb | hb
             · exact .inl (HL2.out b (.inr hb))
             · exact .inr (HB3.out b hb)
         obtain ⟨a4, c4, rfl, _⟩ := HS5.out.writes
         have hlen : (nw ++ [Wr.mk i (Bs.mk a3 c3 bL)]).length = nw.length + 1 := by simp
         rw [hlen] at hr5 HS5 HD5
         have HNE : Hid (∀ b, lgB Wr.seg (.slice a4 (nw.length + 1) c4) (nw ++ [Wr.mk i (Bs.mk a3 c3 bL)]) b → b ≠ w3.heap.size) := fun b hb => by have := HD5.out b hb; have := HNN.out; omega
         have HTu : Hid (Turn (Value.ownBlock (.slice a2 nw.length c2)).toList w3 w5) := (Turn.of_keeps (HK4.out.trans (Keeps.alloc (Keeps.refl w4) (.cells #[.int .i64 i, .slice a3 bL.length c3] 86))) _).trans' (Turn.of_grown hg5 (fun k hk' => by rw [hk']; simp))
         have HTV : Hid (Turn (Value.ownBlock (.slice a2 nw.length c2)).toList V w5) := (Turn.of_keeps ((hkd.trans hk3).trans (Keeps.alloc (Keeps.refl w4) (.cells #[.int .i64 i, .slice a3 bL.length c3] 86))) _).trans' (Turn.of_grown hg5 (fun k hk' => by rw [hk']; simp))
         have HOB : Hid (∀ b ∈ (Value.ownBlock (.slice a2 nw.length c2)).toList, w2.heap.size ≤ b ∧ b < N ∧ b < w3.heap.size) := fun b hb => by
           have h1 : Value.ownBlock (.slice a2 nw.length c2) = some b := by simpa using hb
           exact ⟨(HG2.out.row.lt b h1).1, HL2.out b (.inl h1), (HG2.out.row.lt b h1).2⟩
         have HG5 : Hid (LG 93 1 Bs.cells Bs.seg w2 w5 (.slice a1 nb.length c1) nb) := HG1.out.turnedW HTu.out (fun g hg hx => by have := (HL1.out g (.inl hg)).1; have := (HOB.out g hx).2.1; omega) (fun g hg hx => by have := (HL1.out g (.inr hg)).1; have := (HOB.out g hx).2.1; omega) (fun g hx => (HOB.out g hx).1)
         have HRV5 : Hid (Room w5 w3.heap.size 2) := room_turn0 HRV.out HTV.out (fun hx => by have := (HOB.out _ hx).2.2; omega) (by have := HVz.out; omega)
         have HRR5 : Hid (Room w5 (w.heap.size + 1) 2) := room_turn0 HR3.out HTu.out (fun hx => by have := (HOB.out _ hx).1; omega) (by omega)
         have s2 := (hkd.trans hk3).cell HV1.out
         have s3 := HTV.out.cell (p := ⟨w3.heap.size, 0, none⟩) (fun hx => Nat.lt_irrefl _ (HOB.out w3.heap.size hx).2.2) HV0.out
         have s4 := HTV.out.cell (p := ⟨w3.heap.size, 1, none⟩) (fun hx => Nat.lt_irrefl _ (HOB.out w3.heap.size hx).2.2) HV1.out
         have s5 := HRV5.out.free 1
         have l4 := HTu.out.size
         have HR5 := hide hr5
         clear hr5 hn3 hb3 hb3' ho5 hg5 hv5 hlen))
    all_goals
      have HS6 : Hid (LG 86 2 Wr.cells Wr.seg w2 (w5.setCell ⟨w3.heap.size, 1, none⟩ (.slice a4 (nw.length + 1) c4)) (.slice a4 (nw.length + 1) c4) (nw ++ [Wr.mk i (Bs.mk a3 c3 bL)])) :=
        HS5.out.turnedW (Turn.set (fs := [w3.heap.size]) (by simp) _) (fun g hg hx => HNE.out g (.inl hg) (List.mem_singleton.1 hx)) (fun g hg hx => HNE.out g (.inr hg) (List.mem_singleton.1 hx)) (fun b hb => by rw [List.mem_singleton.1 hb]; exact HK3.out.size)
      have HG6 : Hid (LG 93 1 Bs.cells Bs.seg w2 (w5.setCell ⟨w3.heap.size, 1, none⟩ (.slice a4 (nw.length + 1) c4)) (.slice a1 nb.length c1) nb) :=
        HG5.out.turnedW (Turn.set (fs := [w3.heap.size]) (by simp) _) (fun g hg hx => by have := (HL1.out g (.inl hg)).2; rw [List.mem_singleton] at hx; omega) (fun g hg hx => by have := (HL1.out g (.inr hg)).2; rw [List.mem_singleton] at hx; omega) (fun b hb => by rw [List.mem_singleton.1 hb]; exact HK3.out.size)
      have t0 : (w5.setCell ⟨w3.heap.size, 1, none⟩ (.slice a4 (nw.length + 1) c4)).cell? ⟨w3.heap.size, 0, none⟩ = some (.slice a1 nb.length c1) := by rw [World.cell?_setCell_other _ _ _ _ (by simp)]; exact s3
      have t1 : (w5.setCell ⟨w3.heap.size, 1, none⟩ (.slice a4 (nw.length + 1) c4)).cell? ⟨w3.heap.size, 1, none⟩ = some (.slice a4 (nw.length + 1) c4) := World.cell?_setCell_same _ _ _ s4
      have HR6 : Hid (Room (w5.setCell ⟨w3.heap.size, 1, none⟩ (.slice a4 (nw.length + 1) c4)) (w.heap.size + 1) 2) := room_turn0 HRR5.out (Turn.set (fs := [w3.heap.size]) (by simp) _) (by simp; omega) (by omega)
      clear s0 s1 s2 s3 s4 s5
      generalize w5.setCell ⟨w3.heap.size, 1, none⟩ (.slice a4 (nw.length + 1) c4) = w6 at *
      obtain ⟨y0, r0⟩ := HR6.out.cell 0 (by decide)
      obtain ⟨y1, r1⟩ := HR6.out.cell 1 (by decide)
      have f0 := HR6.out.free 0
      have f1 := HR6.out.free 1
      go_wp2_with fail
      have e0 : ((w6.setCell ⟨w.heap.size + 1, 0, none⟩ (.slice a1 nb.length c1)).setCell ⟨w.heap.size + 1, 1, none⟩ (.slice a4 (nw.length + 1) c4)).cell? ⟨w.heap.size + 1, 0, none⟩ = some (.slice a1 nb.length c1) := by
        rw [World.cell?_setCell_other _ _ _ _ (by simp)]; exact World.cell?_setCell_same _ _ _ r0
      have e1 : ((w6.setCell ⟨w.heap.size + 1, 0, none⟩ (.slice a1 nb.length c1)).setCell ⟨w.heap.size + 1, 1, none⟩ (.slice a4 (nw.length + 1) c4)).cell? ⟨w.heap.size + 1, 1, none⟩ = some (.slice a4 (nw.length + 1) c4) :=
        World.cell?_setCell_same _ _ _ (by rw [World.cell?_setCell_other _ _ _ _ (by simp)]; exact r1)
      have HS : Hid (Turn [w.heap.size + 1] w6 ((w6.setCell ⟨w.heap.size + 1, 0, none⟩ (.slice a1 nb.length c1)).setCell ⟨w.heap.size + 1, 1, none⟩ (.slice a4 (nw.length + 1) c4))) := (Turn.set (by simp) _).trans' (Turn.set (by simp) _)
      clear r0 r1 f0 f1 t0 t1
      revert e0 e1 HS
      generalize World.setCell _ _ _ = W
      intro e0 e1 HS
      refine bodyPost_ret (v := .tuple #[.agg #[.slice a1 nb.length c1, .slice a4 (nw.length + 1) c4], .bool true]) (by simp [results, Tryz.results72, go_sem, e0, e1]) rfl ?_
      have hx : ∀ b ∈ [w.heap.size + 1], b < w2.heap.size := fun b hb => by rw [List.mem_singleton.1 hb]; exact hz2
      have h3 : ∀ b ∈ [w.heap.size + 1], w.heap.size ≤ b := fun b hb => by rw [List.mem_singleton.1 hb]; omega
      have hc := HG6.out.oldW (HKA.out.trans HK2.out)
      have hd := HS6.out.oldW (HKA.out.trans HK2.out)
      have hdat : dat nb (nw ++ [Wr.mk i (Bs.mk a3 c3 bL)]) = ⟨(dat cs ds).cells, (dat cs ds).dirty ++ [(i, bL)]⟩ := by
        unfold dat
        rw [List.map_append, HE1.out, HE2.out]; rfl
      have hokk : dokM (dat nb (nw ++ [Wr.mk i (Bs.mk a3 c3 bL)])) = true := by rw [hdat, dokM_add HOk.out]; exact HB.out
      have hres := diskres_sep (hc.turnedW HS.out (fun g hg hb => by have := (HG6.out.row.lt g hg).1; have := hx g hb; omega) (fun g hg hb => by have := HG6.out.inner.new g hg; have := hx g hb; omega) h3) (hd.turnedW HS.out (fun g hg hb => by have := (HS6.out.row.lt g hg).1; have := hx g hb; omega) (fun g hg hb => by have := HS6.out.inner.new g hg; have := hx g hb; omega) h3) (fun b h1 h2 => by have e1 := HL1.out b h1; have e2 := HD5.out b h2; omega) hokk HN1.out (by
        intro x hx
        rcases List.mem_append.1 hx with hx | hx
        · exact HN2.out x hx
        · rw [List.mem_singleton.1 hx]; exact HN3.out)
      rw [hdat] at hres
      refine WritePost.yes HB.out hres (HS.out.keeps hc.keeps (fun b hb => ?_))
      simp at hb
      omega
  · have HB := hide (writeB_no (m := dat cs ds) (i := i) (L := bL) (Or.inr (Or.inr (Or.inr (Or.inr h8)))))
    have hb8 := ne_true h8
    simp only [Int.cast_ofNat_Int] at hb8
    clear h6 h8
    go_enter Tryz.func72, Tryz.ntmps72
    go_wp2_with fail
    refine (unhide HQ).mono ?_
    rintro x w1 ⟨rfl, hk1⟩
    have HK1 := hide hk1
    obtain ⟨d0, d1⟩ := HD.out _ hk1
    clear hk1
    go_wp2_with fail
    refine (unhide HH _).mono ?_
    rintro x w2 ⟨rfl, hk2⟩
    have HK2 := hide (HK1.out.trans hk2)
    clear d0 d1 hk2
    obtain ⟨d0, d1⟩ := HD.out _ HK2.out
    have HR2 := hide (HK2.out.row HR.out)
    have r0 := HR2.out.cell (i := 0) (by decide)
    have r1 := HR2.out.cell (i := 1) (by decide)
    have f0 := HR2.out.frozen 0
    have f1 := HR2.out.frozen 1
    simp at r0 r1
    go_wp2_with fail
    have r3 := (HR2.out.set 0 (.slice none 0 0)).set 1 (.slice none 0 0)
    have e0 := r3.cell (i := 0) (by decide)
    have e1 := r3.cell (i := 1) (by decide)
    simp at e0 e1
    have HS : Hid (Turn [w.heap.size + 1] w2 ((w2.setCell ⟨w.heap.size + 1, 0, none⟩ (.slice none 0 0)).setCell ⟨w.heap.size + 1, 1, none⟩ (.slice none 0 0))) := (Turn.set (by simp) _).trans' (Turn.set (by simp) _)
    clear r3 r0 r1 f0 f1
    revert e0 e1 HS
    generalize World.setCell _ _ _ = W
    intro e0 e1 HS
    refine bodyPost_ret (v := .tuple #[.agg #[.slice none 0 0, .slice none 0 0], .bool false]) (by simp [results, Tryz.results72, go_sem, e0, e1]) rfl ?_
    refine WritePost.no HB.out (HS.out.keeps (HKA.out.trans HK2.out) (fun b hb => ?_))
    simp at hb
    omega
end Go.Proofs.YtkdnddckogbgaaaGreatDoor
