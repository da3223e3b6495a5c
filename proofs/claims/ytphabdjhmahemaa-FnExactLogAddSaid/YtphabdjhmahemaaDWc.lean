/- copyDisk of the program, by contract. -/
import Derived.Test.YtphabdjhmahemaaDWr
import Derived.Deep.RegionLaw
import Derived.Deep.Cut
namespace Go.Proofs.Ytphabdjhmahemaa
open Go.RowKit Go.Deep
set_option linter.unusedVariables false
set_option maxRecDepth 10000

theorem eq_false {a b : Nat} (h : a ≠ b) : ((a : Int) == (b : Int)) = false := by rw [beq_eq_false_iff_ne]; omega
theorem eq_true {a b : Nat} (h : a = b) : ((a : Int) == (b : Int)) = true := by rw [h]; simp
theorem LG.turnedW {α : Type} {T : TypeId} {sz : Nat} {f : α → List Value} {sg : α → Seg} {w0 w w' : World} {v : Value} {nb : List α} {fs : List Nat} (h : LG T sz f sg w0 w v nb) (ht : Turn fs w w') (h1 : ∀ g, v.ownBlock = some g → g ∉ fs) (h2 : ∀ b ∈ fp (nb.map sg), b ∉ fs) (h3 : ∀ b ∈ fs, w0.heap.size ≤ b) : LG T sz f sg w0 w' v nb := by
  refine ⟨⟨h.row.1, ?_⟩, h.inner.turn ht h2, h.apart, ht.keeps h.keeps h3⟩
  rcases h.row.2 with h' | ⟨g, cap, cur, rfl, hb, hg, rest⟩
  · exact .inl h'
  · refine .inr ⟨g, cap, cur, rfl, hb, ?_, rest⟩
    rw [ht.block g (Array.getElem?_eq_some_iff.1 hg).1 (h1 g rfl)]; exact hg
theorem LG.oldW {α : Type} {T : TypeId} {sz : Nat} {f : α → List Value} {sg : α → Seg} {w w0 w' : World} {v : Value} {nb : List α} (h : LG T sz f sg w0 w' v nb) (hk : Keeps w w0) : LG T sz f sg w w' v nb := by
  refine ⟨⟨h.row.1, ?_⟩, h.inner.old hk, h.apart, hk.trans h.keeps⟩
  rcases h.row.2 with h' | ⟨g, cap, cur, rfl, hb, rest⟩
  · exact .inl h'
  · exact .inr ⟨g, cap, cur, rfl, Nat.le_trans hk.size hb, rest⟩
/-- The blocks of a list of structs with lists inside. -/
def lgB {α : Type} (sg : α → Seg) (v : Value) (nb : List α) (b : Nat) : Prop := v.ownBlock = some b ∨ b ∈ fp (nb.map sg)
/-- A disk of two lists of one's own that share no block. -/
theorem diskres_sep {w W : World} {v1 v2 : Value} {nb : List Bs} {nw : List Wr} (hC : LG 113 1 Bs.cells Bs.seg w W v1 nb) (hD : LG 75 2 Wr.cells Wr.seg w W v2 nw) (hs : ∀ b, lgB Bs.seg v1 nb b → lgB Wr.seg v2 nw b → False) (hok : dokM (dat nb nw) = true)
    (nc : ∀ b ∈ nb, b.fit) (nd : ∀ x ∈ nw, x.b.fit) : DiskRes w W (.agg #[v1, v2]) (dat nb nw) := by
  obtain ⟨a1, c1, e1, n1, b1⟩ := hC.cells
  obtain ⟨a2, c2, e2, n2, b2⟩ := hD.writes
  have own1 : ∀ b ∈ fpS (a1, ccells nb), v1.ownBlock = some b := by
    intro b hb
    rw [e1]
    unfold fpS at hb
    split at hb
    · simp at hb
    · cases a1 with
      | none => simp at hb
      | some p => simp at hb; simp [Value.ownBlock, hb]
  have own2 : ∀ b ∈ fpS (a2, wcells nw), v2.ownBlock = some b := by
    intro b hb
    rw [e2]
    unfold fpS at hb
    split at hb
    · simp at hb
    · cases a2 with
      | none => simp at hb
      | some p => simp at hb; simp [Value.ownBlock, hb]
  refine ⟨a1, c1, nb, a2, c2, nw, by rw [e1, e2], rfl, dokM_DOk hok nc nd, n1, n2, ⟨b1.toOwn.append b2.toOwn (fun b hb hb' => ?_), fun b hb => ?_⟩⟩
  · rw [fp_cons] at hb hb'
    refine hs b ?_ ?_
    · rcases List.mem_append.1 hb with hb | hb
      · exact .inl (own1 b hb)
      · exact .inr hb
    · rcases List.mem_append.1 hb' with hb' | hb'
      · exact .inl (own2 b hb')
      · exact .inr hb'
  · unfold dsk at hb
    rw [fp_append] at hb
    rcases List.mem_append.1 hb with hb | hb
    · exact b1.new b hb
    · exact b2.new b hb
set_option maxHeartbeats 4000000 in
theorem copyDisk_k (ca : Option Addr) (cc : Nat) (cs : List Bs) (da : Option Addr) (dc : Nat) (ds : List Wr) (w : World) (hm : Mem w (dsk ca cs da ds)) (h : DOk cs ds) :
    Calls Try.prog 37 #[dskV ca cs.length cc da ds.length dc] w fun e w' => ∃ v1 v2 nb nw N, e = .returned (.agg #[v1, v2]) ∧ nb.map Bs.L = cs.map Bs.L ∧ nw.map Wr.key = ds.map Wr.key ∧ (∀ b ∈ nb, b.fit) ∧ (∀ x ∈ nw, x.b.fit) ∧ LG 113 1 Bs.cells Bs.seg w w' v1 nb ∧ LG 75 2 Wr.cells Wr.seg w w' v2 nw ∧ (∀ b, lgB Wr.seg v2 nw b → b < N) ∧ (∀ b, lgB Bs.seg v1 nb b → N ≤ b ∧ b < w'.heap.size) ∧ N ≤ w'.heap.size := by
  have HKA := hide (Keeps.alloc (Keeps.alloc (Keeps.refl w) (.cells #[.slice ca cs.length cc, .slice da ds.length dc] 31)) (.cells #[.slice none 0 0, .slice none 0 0] 31))
  have HM := hide (hm.kept HKA.out)
  have HD : Hid (∀ w', Keeps ((w.alloc (.cells #[.slice ca cs.length cc, .slice da ds.length dc] 31)).alloc (.cells #[.slice none 0 0, .slice none 0 0] 31)) w' → w'.cell? ⟨w.heap.size, 0, none⟩ = some (.slice ca cs.length cc) ∧ w'.cell? ⟨w.heap.size, 1, none⟩ = some (.slice da ds.length dc)) :=
    fun w' hk => ⟨hk.cell (by simp), hk.cell (by simp)⟩
  have HZ : Hid (((w.alloc (.cells #[.slice ca cs.length cc, .slice da ds.length dc] 31)).alloc (.cells #[.slice none 0 0, .slice none 0 0] 31)).heap.size = w.heap.size + 1 + 1) := by show _ = _; rw [World.size_alloc, World.size_alloc]
  have HR := hide (row_new (w.alloc (.cells #[.slice ca cs.length cc, .slice da ds.length dc] 31)) #[.slice none 0 0, .slice none 0 0] 31)
  rw [World.size_alloc] at HR
  have hcl := h.c
  have hdl := h.d
  have HDO := hide h
  have hmk := make_writes0 ds.length (by omega)
  clear hm h
  go_enter Try.func37, Try.ntmps37
  go_upto_region 1 with fail
  generalize hW0 : (w.alloc (.cells #[.slice ca cs.length cc, .slice da ds.length dc] 31)).alloc (.cells #[.slice none 0 0, .slice none 0 0] 31) = w2 at *
  clear hW0
  obtain ⟨d0, d1⟩ := HD.out _ (Keeps.refl w2)
  have HL0 : Hid (LG 75 2 Wr.cells Wr.seg w2 (w2.alloc (.cells (madeCells #[.int .i64 0, .slice none 0 0] ((ds.length + 1) * 2)) 75)) (.slice (some ⟨w2.heap.size, 0, none⟩) 0 (ds.length + 1)) []) :=
    LG.nil _ _ _ _ (World.ownsRow_made w2 _ _ (Nat.le_refl _) (by simp only [maxLen]; omega) (by rw [size_madeCells])) (Keeps.alloc (Keeps.refl _) _)
  have HQ2 := hide HL0.out.keeps
  obtain ⟨q0, q1⟩ := HD.out _ HQ2.out
  go_wp2_with fail
  clear hmk
  generalize w2.alloc (.cells (madeCells #[.int .i64 0, .slice none 0 0] ((ds.length + 1) * 2)) 75) = W2 at *
  clear d0 d1 q0 q1 HQ2
  go_loopw [3, 14] (fun x y wr => ∃ (k : Nat) (nb : List Wr), k ≤ ds.length ∧ nb.length = k ∧ y = .int .i64 (k : Int) ∧ Hid (nb.map Wr.key = (ds.take k).map Wr.key) ∧ Hid (∀ x ∈ nb, x.b.fit) ∧ Hid (LG 75 2 Wr.cells Wr.seg w2 wr x nb)) (fun _ y _ => ds.length - (intOf y).toNat)
  case atStart => exact ⟨0, [], by omega, rfl, rfl, rfl, fun b hb => absurd hb (by simp), HL0⟩
  case round =>
    clear HL0
    obtain ⟨k, nb, hk, rfl, rfl, HDt, HNb, HG⟩ := hrel
    have HK := hide HG.out.keeps
    have hsz := HK.out.size
    by_cases hlt : nb.length < ds.length
    · obtain ⟨b, off, ea, c0, c1⟩ := cell2 ((dsk_mem HM.out).2.2.1.kept HK.out) nb.length hlt
      subst ea
      have HMk : Hid (Cells wr ds[nb.length].b.a (bys ds[nb.length].b.L)) := (mem_segW (dsk_mem HM.out).2.2.2 nb.length hlt).kept HK.out
      have HTk : Hid (ds[nb.length].b.L.length ≤ 4194304) := Nat.le_trans (totW_le (List.getElem_mem hlt)) (Nat.le_trans HDO.out.td (by decide))
      have HNk := hide (HDO.out.nd _ (List.getElem_mem hlt)).1
      have HDk : Hid ((ds.take (nb.length + 1)).map Wr.key = (ds.take nb.length).map Wr.key ++ [ds[nb.length].key]) := by show _ = _; rw [List.take_succ_eq_append_getElem hlt, List.map_append]; rfl
      generalize ds[nb.length] = c at *
      obtain ⟨xi, xa, xc, xL⟩ := c
      dsimp only [Bs.v] at c0 c1 HMk HTk HNk HDk
      have HKa := hide (Keeps.alloc (Keeps.refl wr) (.cells #[.int .i64 xi, .slice xa xL.length xc] 75))
      have HCl := hide (copyWrite_k xi xa xc xL _ (HMk.out.kept HKa.out) HNk.out HTk.out)
      go_wp2_with (first
        | (go_at_call 38; refine (unhide HCl).mono ?_; rintro x w3 ⟨a1, c1', rfl, hn1, hb1, hk1⟩; have HK3 := hide (HKa.out.trans hk1); have HB1 := hide (hb1.old HKa.out); have HN1 := hide hn1; obtain ⟨v4, w4, hr4, ho4, hg4, hv4⟩ := run_write w3 w2.heap.size u3 nb.length (wcells nb) (.int .i64 xi) (.slice a1 xL.length c1') rfl rfl 29 (owns_kept HK3.out HG.out.row) (by omega) (HG.out.keeps.trans HK3.out).size; have HR4 := hide hr4; have HS4 := hide (HG.out.snoc HK3.out (x := Wr.mk xi (Bs.mk a1 c1' xL)) HB1.out.toOwn HB1.out.new hg4 ho4 hv4); clear hk1 hb1 hn1 hr4 ho4 hg4 hv4)
        | (at_builtin; refine Lib.wpList_append_run _ rfl (.tmp 18) (.tmp 21) _ _ rfl _ _ rfl rfl v4 w4 HR4.out ?_))
      go_roundw
      case rel =>
        refine ⟨nb.length + 1, nb ++ [Wr.mk xi (Bs.mk a1 c1' xL)], by omega, by simp, by go_num, ?_, ?_, HS4⟩
        · show _ = _
          rw [HDk.out, ← HDt.out]; simp [Wr.key]
        · intro b hb
          rcases List.mem_append.1 hb with hb | hb
          · exact HNb.out b hb
          · rw [List.mem_singleton.1 hb]; exact HN1.out
      case measure => simp [intOf]; omega
    · have e : nb.length = ds.length := by omega
      have HE : Hid (nb.map Wr.key = ds.map Wr.key) := by show _ = _; rw [HDt.out, e, List.take_length]
      clear e
      obtain ⟨d0, d1⟩ := HD.out _ HK.out
      have HCc := hide (copyCells_k ca cc cs wr ((dsk_mem HM.out).1.kept HK.out) ((dsk_mem HM.out).2.1.kept HK.out) HDO.out.nc hcl (fun b hb => Nat.le_trans (tot_le hb) (Nat.le_trans HDO.out.tc (by decide))))
      go_wp2_with fail
      refine (unhide HCc).mono ?_
      rintro x w5 ⟨v5, nc, rfl, he5, hn5, hg5⟩
      have HE5 := hide he5
      have HN5 := hide hn5
      have HG5 := hide hg5
      have HGW := hide (HG.out.kept hg5.keeps)
      have hlo : w.heap.size + 1 < w2.heap.size := by have := HZ.out; omega
      have hz5 := hg5.keeps.size
      have HR5 := hide ((HK.out.trans hg5.keeps).row HR.out)
      have r0 := HR5.out.cell (i := 0) (by decide)
      have r1 := HR5.out.cell (i := 1) (by decide)
      have f0 := HR5.out.frozen 0
      have f1 := HR5.out.frozen 1
      simp at r0 r1
      obtain ⟨a5, c5, rfl, _⟩ := hg5.cells
      obtain ⟨a4, c4, rfl, _⟩ := HG.out.writes
      clear he5 hn5 hg5
      go_wp2_with fail
      have r3 := (HR5.out.set 0 (.slice a5 nc.length c5)).set 1 (.slice a4 nb.length c4)
      have e0 := r3.cell (i := 0) (by decide)
      have e1 := r3.cell (i := 1) (by decide)
      simp at e0 e1
      have HS : Hid (Turn [w.heap.size + 1] w5 ((w5.setCell ⟨w.heap.size + 1, 0, none⟩ (.slice a5 nc.length c5)).setCell ⟨w.heap.size + 1, 1, none⟩ (.slice a4 nb.length c4))) := (Turn.set (by simp) _).trans' (Turn.set (by simp) _)
      clear r3 r0 r1 f0 f1
      revert e0 e1 HS
      generalize World.setCell _ _ _ = W
      intro e0 e1 HS
      refine bodyPost_ret (v := .agg #[.slice a5 nc.length c5, .slice a4 nb.length c4]) (by simp [results, Try.results37, go_sem, e0, e1]) rfl ?_
      have hx : ∀ b ∈ [w.heap.size + 1], b < w2.heap.size := fun b hb => by rw [List.mem_singleton.1 hb]; exact hlo
      have hc := HG5.out.oldW (HKA.out.trans HK.out)
      have hd := HGW.out.oldW HKA.out
      have h3 : ∀ b ∈ [w.heap.size + 1], w.heap.size ≤ b := fun b hb => by rw [List.mem_singleton.1 hb]; omega
      refine ⟨_, _, nc, nb, wr.heap.size, rfl, HE5.out, HE.out, HN5.out, HNb.out, hc.turnedW HS.out (fun g hg hb => by have := (HG5.out.row.lt g hg).1; have := hx g hb; omega) (fun g hg hb => by have := HG5.out.inner.new g hg; have := hx g hb; omega) h3, hd.turnedW HS.out (fun g hg hb => by have := (HGW.out.row.lt g hg).1; have := hx g hb; omega) (fun g hg hb => by have := HGW.out.inner.new g hg; have := hx g hb; omega) h3, fun b hb => ?_, fun b hb => ?_, Nat.le_trans hz5 HS.out.size⟩
      · rcases hb with hb | hb
        · exact (HG.out.row.lt b hb).2
        · exact HG.out.inner.mem.lt b hb
      · have hzW := HS.out.size
        rcases hb with hb | hb
        · have := HG5.out.row.lt b hb; exact ⟨this.1, by omega⟩
        · have h1 := HG5.out.inner.new b hb
          have h2 := HG5.out.inner.mem.lt b hb
          exact ⟨h1, by omega⟩
end Go.Proofs.Ytphabdjhmahemaa
