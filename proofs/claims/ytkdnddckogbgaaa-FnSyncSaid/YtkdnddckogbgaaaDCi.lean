/- land of the program, by contract. -/
import Derived.Test.YtkdnddckogbgaaaDC
namespace Go.Proofs.Ytkdnddckogbgaaa
open Go.RowKit Go.Deep
set_option linter.unusedVariables false
set_option maxRecDepth 10000

set_option maxHeartbeats 1000000 in
theorem filled_row (a : Option Addr) (cap : Nat) (L : List UInt8) (w : World) (hc : Cells w a (bys L)) (hl : L.length ≤ 4194304) :
    Calls Try.prog 39 #[.slice a L.length cap] w fun e w' => e = .returned (.slice (some ⟨w.heap.size, 0, none⟩) 128 128) ∧ w'.heap[w.heap.size]? = some (.cells (bys (fillL L)).toArray 5 (0, 0)) ∧ Keeps w w' := by
  have hmk := make_128
  have HKA := hide (Keeps.alloc (Keeps.refl w) (.cells (madeCells #[.int .u8 0] 128) 5))
  have HC := hide (hc.kept HKA.out)
  have HB : Hid ((w.alloc (.cells (madeCells #[.int .u8 0] 128) 5)).heap[w.heap.size]? = some (.cells (bys (List.replicate 128 0)).toArray 5 (0, 0))) := by
    show _ = _
    rw [← made_zeros]; exact blk_alloc_new w _
  have HL : Hid ((bys (L.take 128)).length = Nat.min L.length 128) := by show _ = _; rw [bys_length, List.length_take, Nat.min_comm]
  have HP : Hid (0 < (bys (L.take 128)).length → some (⟨w.heap.size, 0, none⟩ : Addr) = some ⟨w.heap.size, 0, none⟩ ∧ ∃ ad, a = some ad ∧ ∀ j v, (bys (L.take 128))[j]? = some v → (w.alloc (.cells (madeCells #[.int .u8 0] 128) 5)).cell? (ad.add j) = some v) := by
    intro hp
    refine ⟨rfl, ?_⟩
    have hc' := HC.out
    rcases hc' with h | ⟨b, off, e, h⟩
    · rw [bys_nil] at h; subst h; simp [bys] at hp
    · refine ⟨_, e, fun j v hj => src_at (HC.out.elim (fun h => by rw [bys_nil] at h; subst h; simp [bys] at hp) (fun _ => by rw [← e]; exact HC.out)) j v ?_⟩
      rw [bys_take] at hj
      rw [List.getElem?_take] at hj
      split at hj
      · exact hj
      · cases hj
  have HF : Hid (0 + (bys (L.take 128)).length ≤ (bys (List.replicate 128 (0 : UInt8))).length) := by show _ ≤ _; rw [HL.out, bys_length, List.length_replicate, Nat.zero_add]; exact Nat.min_le_right _ _
  clear hc hl
  go_enter Try.func39, Try.ntmps39
  go_wp2_with (refine wpList_copy_splice (by rfl) (.tmp 5) (.tmp 6) 22 22 (by rfl) 5 underBytes size_byte (some ⟨w.heap.size, 0, none⟩) a 128 128 L.length cap (by rfl) (by rfl) w.heap.size 0 (bys (List.replicate 128 0)) 5 HB.out (bys (L.take 128)) HL.out HP.out HF.out (fun v hv => one_cells hv) w.heap.size w HKA.out (Nat.le_refl _) ?_; intro w1 hg hb)
  go_ret
  have hg' := hg.out
  rw [splice_fill] at hg'
  exact ⟨rfl, hg', hb⟩

theorem splice_take (cur new : List UInt8) (n : Nat) (hn : n ≤ new.length) : splice (bys cur) 0 (bys (new.take n)) = bys (new.take n ++ cur.drop n) := by
  rw [splice_zero, bys_append, bys_length, List.length_take, Nat.min_eq_left hn]
  simp [bys]
theorem landM_zero (C : List (List UInt8)) (x : Int × List UInt8) : landM C x 0 = C := rfl
/-- The list of cells as the walk has it. -/
theorem LG.slice {w0 w : World} {v : Value} {nb : List Bs} (h : LG 54 1 Bs.cells Bs.seg w0 w v nb) {p : Nat} (hp : p < nb.length) :
    ∃ (g cap : Nat), v = .slice (some ⟨g, 0, none⟩) nb.length cap ∧ v.ownBlock = some g ∧ w.cell? ⟨g, p, none⟩ = some nb[p].v ∧ (∀ o, w.frozen? ⟨g, o, none⟩ = false) ∧ w0.heap.size ≤ g ∧ g < w.heap.size := by
  rcases h.row.2 with ⟨_, h0⟩ | ⟨g, cap, cur, rfl, hb, hg, hn, hm, hs, ht⟩
  · omega
  · obtain ⟨a, c, e, _, hbo⟩ := h.cells
    injection e with e1 e2 e3
    subst e1
    have hc : Cells w (some ⟨g, 0, none⟩) (ccells nb) := hbo.mem _ (List.mem_cons_self ..)
    obtain ⟨b, off, e, c0⟩ := cell1 hc p hp
    have e' := Option.some.inj e
    injection e' with e4 e5
    subst e4 e5
    rw [Nat.zero_add] at c0
    refine ⟨g, cap, rfl, by simp [Value.ownBlock], c0, fun o => by simp [World.frozen?, hg], hb, lt_of_cell c0⟩
set_option maxHeartbeats 4000000 in
theorem land_k (w0 w : World) (v : Value) (nb : List Bs) (HG : LG 54 1 Bs.cells Bs.seg w0 w v nb) (p : Nat) (hp : p < nb.length) (xb xo : Nat) (xc : Nat) (xL : List UInt8) (hx : Cells w (some ⟨xb, xo, none⟩) (bys xL)) (hxl : xL.length = 128) (hxc : 128 ≤ xc) (n : Nat) (hn : n ≤ 128) (hL : nb[p].L.length = 0 ∨ nb[p].L.length = 128) (hcl : nb.length ≤ 1048576) (hfit : ∀ b ∈ nb, b.fit) :
    Calls Try.prog 22 #[v, .agg #[.int .i64 (p : Int), .slice (some ⟨xb, xo, none⟩) 128 xc], .int .i64 (n : Int)] w fun e w' => e = .returned (.tuple #[]) ∧ ∃ nb', nb'.map Bs.L = landM (nb.map Bs.L) ((p : Int), xL) n ∧ (∀ b ∈ nb', b.fit) ∧ LG 54 1 Bs.cells Bs.seg w0 w' v nb' ∧ (∀ gb, v.ownBlock = some gb → Turn [gb] w w') := by
  have hka := Keeps.alloc (Keeps.refl w) (.cells #[.int .i64 (p : Int), .slice (some ⟨xb, xo, none⟩) 128 xc] 51)
  have HLG := hide (HG.kept hka)
  have HF := hide hfit
  have HKA := hide hka
  by_cases h0 : n = 0
  · subst h0
    clear HG hx hxl hxc hL hfit hka
    go_enter Try.func22, Try.ntmps22
    go_wp2_with fail
    refine bodyPost_ret (v := .tuple #[]) (by simp [results, Try.results22]) rfl ⟨rfl, nb, by rw [landM_zero], HF.out, HLG.out, fun gb _ => Turn.of_keeps HKA.out _⟩
  · have hne : ((n : Int) == 0) = false := by rw [beq_eq_false_iff_ne]; omega
    obtain ⟨g, cap, hv, hgb, c0, f0, hg0, hg1⟩ := HG.slice hp
    have hsz : (w.alloc (.cells #[.int .i64 (p : Int), .slice (some ⟨xb, xo, none⟩) 128 xc] 51)).heap.size = w.heap.size + 1 := by rw [World.size_alloc]
    have HI : Hid (Cells (w.alloc (.cells #[.int .i64 (p : Int), .slice (some ⟨xb, xo, none⟩) 128 xc] 51)) nb[p].a (bys nb[p].L)) := (HG.inner.mem nb[p].seg (List.mem_map.2 ⟨nb[p], List.getElem_mem hp, rfl⟩)).kept hka
    have HFL := hide (filled_row nb[p].a nb[p].cap nb[p].L _ HI.out (by omega))
    have HX := hide (hx.kept hka)
    have HQ : Hid (Keeps w (w.alloc (.cells #[.int .i64 (p : Int), .slice (some ⟨xb, xo, none⟩) 128 xc] 51))) := hka
    have HLB := hide hL
    have HXL := hide hxl
    have HGB := hide hgb
    have HSZ := hide hsz
    have cA := hka.cell c0
    have fA : (w.alloc (.cells #[.int .i64 (p : Int), .slice (some ⟨xb, xo, none⟩) 128 xc] 51)).frozen? ⟨g, p, none⟩ = false := by rw [hka.oldF _ _ hg1]; exact f0 p
    have hn1 : (n : Int) ≤ 128 := by omega
    have hn2 : (0 : Int) ≤ (n : Int) := by omega
    have hn3 : (n : Int) ≤ (xc : Int) := by omega
    have hpI : (p : Int) < (nb.length : Int) := by omega
    have e1 : nb[p].v = .slice nb[p].a nb[p].L.length nb[p].cap := rfl
    rw [e1] at cA
    subst hv
    clear HG hx hxl hxc hL hfit hka hgb hsz c0 f0 e1 h0
    go_enter Try.func22, Try.ntmps22
    go_wp2_with fail
    refine (unhide HFL).mono ?_
    rintro e w2 ⟨rfl, hblk, hk2⟩
    rw [fill_full HLB.out] at hblk
    have HB2 := hide hblk
    have HK2 := hide hk2
    have d1 := hk2.cell (p := ⟨w.heap.size, 1, none⟩) (v := .slice (some ⟨xb, xo, none⟩) 128 xc) (by simp)
    have HFB : Hid ((bys (fullL nb[p].L)).length = 128) := by
      show _ = _
      rw [bys_length]
      unfold fullL
      split
      · simp
      · rename_i hne
        rcases HLB.out with h | h
        · exact absurd (List.length_eq_zero_iff.1 h) hne
        · exact h
    rw [HSZ.out] at hblk
    obtain ⟨w3, hcp, hg3, hb3⟩ : ∃ w3, (Builtin.copy_ #[22, 22] 3 #[.slice (some ⟨w.heap.size + 1, 0, none⟩) 128 128, .slice (some ⟨xb, xo, none⟩) n xc]).run Try.prog w2 = .ok (goInt (bys (xL.take n)).length) w3 ∧ w3.heap[w.heap.size + 1]? = some (.cells (bys (xL.take n ++ (fullL nb[p].L).drop n)).toArray 5 (0, 0)) ∧ Keeps (w.alloc (.cells #[.int .i64 (p : Int), .slice (some ⟨xb, xo, none⟩) 128 xc] 51)) w3 := by
      have hcs : (bys (xL.take n)).length = Nat.min n 128 := by rw [bys_length, List.length_take, HXL.out]
      have hfb : 0 + (bys (xL.take n)).length ≤ (bys (fullL nb[p].L)).toArray.size := by
        have := HFB.out
        rw [hcs, List.size_toArray, this, Nat.zero_add]; exact Nat.min_le_right _ _
      refine ⟨_, run_copy_row (P := Try.prog) w2 22 22 3 5 (w.heap.size + 1) 0 128 128 ⟨xb, xo, none⟩ n xc (bys (fullL nb[p].L)).toArray 5 (bys (xL.take n)) underBytes size_byte hblk hcs (fun j v hj => src_at (HX.out.kept HK2.out) j v ?_) hfb (fun v hv => one_cells hv), ?_, ?_⟩
      · rw [bys_take, List.getElem?_take] at hj
        split at hj
        · exact hj
        · cases hj
      · rw [setRow_heap w2 (w.heap.size + 1) _ _ 5 _ hblk]
        congr 2
        have e := splice_take (fullL nb[p].L) xL n (by rw [HXL.out]; omega)
        unfold splice at e
        simp only [Nat.zero_add, List.take_zero, List.nil_append] at e
        rw [← e]
        simp
      · have h := HK2.out
        unfold Keeps at h ⊢
        exact below_setRow h (by rw [HSZ.out]; exact Nat.le_refl _) _
    have HG3 := hide hg3
    have HK3 := hide hb3
    have hLG3 : LG 54 1 Bs.cells Bs.seg w0 w3 (.slice (some ⟨g, 0, none⟩) nb.length cap) nb := HLG.out.kept hb3
    have HL3 := hide hLG3
    have c3 := hb3.cell cA
    have f3 : w3.frozen? ⟨g, p, none⟩ = false := by rw [hb3.oldF _ _ (by rw [HSZ.out]; omega)]; exact fA
    have d0 := hb3.cell (p := ⟨w.heap.size, 0, none⟩) (v := .int .i64 (p : Int)) (by simp)
    clear hblk hk2 hg3 hb3 hLG3 cA fA HFL
    go_wp2_with fail
    go_end0
    have hll : (landL nb[p].L xL n).length = 128 := landL_len HLB.out HXL.out hn
    have hx : Own w3 [(⟨some ⟨w.heap.size + 1, 0, none⟩, 128, landL nb[p].L xL n⟩ : Bs).seg] := by
      have ho := own_row (w := w3) (base := 0) (g := w.heap.size + 1) (n := 128) (L := landL nb[p].L xL n) (Nat.zero_le _) hll HG3.out
      obtain ⟨a', c', e, _, _, _, hown, _⟩ := Own.of_owns ho
      injection e with e1 e2 e3
      subst e1
      exact hown
    have hfp : ∀ b ∈ fp [(⟨some ⟨w.heap.size + 1, 0, none⟩, 128, landL nb[p].L xL n⟩ : Bs).seg], b = w.heap.size + 1 := fun b hb => by
      rw [show (⟨some ⟨w.heap.size + 1, 0, none⟩, 128, landL nb[p].L xL n⟩ : Bs).seg = (some ⟨w.heap.size + 1, 0, none⟩, bys (landL nb[p].L xL n)) from rfl, fp_one, fpS_some (fun e => by rw [bys_nil] at e; rw [e] at hll; simp at hll)] at hb
      simpa using hb
    have hin : ∀ b ∈ fp (nb.map Bs.seg), b < w.heap.size + 1 := fun b hb => by
      have := HLG.out.inner.mem.lt b hb
      rw [HSZ.out] at this
      exact this
    have hu := HL3.out.upd hp HGB.out hx (fun b hb => by
      have e := hfp b hb
      refine ⟨by omega, by omega, fun hm => ?_⟩
      have := hin b hm
      omega)
    refine ⟨rfl, nb.set p ⟨some ⟨w.heap.size + 1, 0, none⟩, 128, landL nb[p].L xL n⟩, ?_, ?_, ?_, ?_⟩
    · have hn0 : ¬ n = 0 := fun e => by rw [e] at hne; simp at hne
      unfold landM
      rw [if_neg hn0, List.map_set]
      simp only [Int.toNat_natCast]
      rw [List.getD_eq_getElem?_getD, List.getElem?_map, List.getElem?_eq_getElem hp]
      rfl
    · intro b hb
      rcases List.mem_or_eq_of_mem_set hb with hb | rfl
      · exact HF.out b hb
      · exact ⟨(fun e => by cases e), (by rw [hll]; exact Nat.le_refl _)⟩
    · rw [show (⟨some ⟨w.heap.size + 1, 0, none⟩, 128, landL nb[p].L xL n⟩ : Bs).v = .slice (some ⟨w.heap.size + 1, 0, none⟩) 128 128 from by unfold Bs.v; rw [hll]] at hu
      exact hu
    · intro gb hgb
      have e : gb = g := by rw [HGB.out] at hgb; exact (Option.some.inj hgb).symm
      subst e
      exact (Turn.of_keeps (HKA.out.trans HK3.out) [gb]).trans' (Turn.set (by simp) _)
end Go.Proofs.Ytkdnddckogbgaaa
