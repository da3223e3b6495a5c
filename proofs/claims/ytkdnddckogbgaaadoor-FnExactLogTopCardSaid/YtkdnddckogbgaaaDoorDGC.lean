/- What the laws do with lists of cells. -/
import Derived.Test.YtkdnddckogbgaaaDoorDG
namespace Go.Proofs.YtkdnddckogbgaaaDoor
open Go.RowKit Go.Deep
set_option linter.unusedVariables false
set_option maxRecDepth 10000

/-- How many bytes the lists have. -/
def tot (cs : List Bs) : Nat := (cs.map fun b => b.L.length).sum
theorem tot_take (cs : List Bs) (k : Nat) (h : k < cs.length) : tot (cs.take (k + 1)) = tot (cs.take k) + cs[k].L.length := by
  unfold tot
  rw [List.take_succ_eq_append_getElem h, List.map_append, List.sum_append]
  rfl
theorem tot_le {cs : List Bs} {b : Bs} (h : b ∈ cs) : b.L.length ≤ tot cs := by
  induction cs with
  | nil => simp at h
  | cons c t ih =>
    simp only [tot, List.map_cons, List.sum_cons] at ih ⊢
    rcases List.mem_cons.1 h with rfl | h
    · omega
    · have := ih h; omega

set_option maxHeartbeats 1000000 in
theorem szCellS_k (a : Option Addr) (cap : Nat) (cs : List Bs) (left : Int) (w : World) (hc : Cells w a (ccells cs)) (hok : ∀ b ∈ cs, b.L.length ≤ 9223372036854775807) (h0 : 0 ≤ left) (h1 : left ≤ 1048576) (hl : cs.length ≤ 9223372036854775807) :
    Calls Tryd.prog 22 #[.slice a cs.length cap, .int .i64 left] w fun e w' => ∃ r : Int, e = .returned (.int .i64 r) ∧ (0 ≤ r → r = left - cs.length - tot cs) ∧ Keeps w w' := by
  have HC := hide hc
  have HOK := hide hok
  clear hc hok
  by_cases hlt : (cs.length : Int) ≤ left
  · clear hl
    go_enter Tryd.func22, Tryd.ntmps22
    go_wp2_with fail
    go_loopw [1, 5] (fun x y wr => ∃ k : Nat, k ≤ cs.length ∧ x = .int .i64 (left - cs.length - tot (cs.take k)) ∧ 0 ≤ left - cs.length - tot (cs.take k) ∧ y = .int .i64 (k : Int) ∧ Keeps w wr) (fun _ y _ => cs.length - (intOf y).toNat)
    case atStart => exact ⟨0, by omega, by simp [tot], by simp [tot]; omega, rfl, Keeps.refl _⟩
    case round =>
      obtain ⟨k, hk, rfl, hx, rfl, hkw⟩ := hrel
      by_cases hlt' : k < cs.length
      · obtain ⟨b, off, ea, c0⟩ := cell1 (HC.out.kept hkw) k hlt'
        subst ea
        have HT := hide (tot_take cs k hlt')
        have HLb := hide (HOK.out cs[k] (List.getElem_mem hlt'))
        have HSz := hide (fun w1 => szCell_k cs[k].a cs[k].L.length cs[k].cap (left - cs.length - tot (cs.take k)) w1 hx (by omega) HLb.out)
        have HK := hide hkw
        clear hkw HLb
        generalize cs[k] = c at *
        unfold Bs.v at c0
        generalize tot (cs.take k) = t at *
        by_cases hle : (c.L.length : Int) ≤ left - cs.length - t
        · rw [if_pos hle] at HSz
          go_wp2_with fail
          refine (unhide HSz _).mono ?_
          rintro e w1 ⟨rfl, hk1⟩
          replace HK := hide (HK.out.trans hk1)
          clear hk1
          go_wp2_with fail
          go_roundw
          case rel => exact ⟨k + 1, by omega, by rw [HT.out]; congr 1; omega, by rw [HT.out]; omega, by go_num, HK.out⟩
          case measure => simp [intOf]; omega
        · rw [if_neg hle] at HSz
          go_wp2_with fail
          refine (unhide HSz _).mono ?_
          rintro e w1 ⟨rfl, hk1⟩
          replace HK := hide (HK.out.trans hk1)
          clear hk1
          go_wp2_with fail
          go_ret
          exact ⟨-1, rfl, fun h => absurd h (by decide), HK.out⟩
      · have e : k = cs.length := by omega
        subst e
        go_wp2_with fail
        go_ret
        exact ⟨_, rfl, fun _ => by rw [List.take_length], hkw⟩
  · have hlt' : left < (cs.length : Int) := by omega
    clear hlt
    go_enter Tryd.func22, Tryd.ntmps22
    go_wp2_with fail
    go_ret
    exact ⟨-1, rfl, fun h => absurd h (by decide), Keeps.refl _⟩

theorem infoCell : (Tryd.prog.info? 80).map (fun i => (i.zero, i.size, i.bytes)) = some (some (.agg #[.slice none 0 0]), 1, 24) := by kernel_rfl
theorem underCells : Tryd.prog.underlying 30 = some (.slice 80) := by kernel_rfl
theorem make_cells (n : Nat) (hn : n ≤ 1048576) (w : World) : (Instr.makeSlice 30 (.int .i64 (n : Int)) (.int .i64 (n : Int))).run Tryd.prog w = .ok (.slice (some ⟨w.heap.size, 0, none⟩) n n) (w.alloc (.cells (madeCells #[.slice none 0 0] n) 80)) := by
  have hI := infoCell
  cases hi : Tryd.prog.info? 80 with
  | none => rw [hi] at hI; simp at hI
  | some i =>
    rw [hi] at hI
    simp at hI
    obtain ⟨hz, hs, hb⟩ := hI
    have h := run_make (P := Tryd.prog) w 30 80 i _ underCells hi hz .i64 .i64 n n (by omega) (Int.le_refl _) (by rw [hb]; omega) (by omega)
    rw [hs] at h
    simpa [Value.cells] using h

theorem fpS_Bs (b : Bs) : fp [b.seg] = fpS b.seg := by simp [fp]
theorem segs_snoc (nb : List Bs) (b : Bs) : (nb ++ [b]).map Bs.seg = nb.map Bs.seg ++ [b.seg] := by simp
theorem set_cell1 {w : World} {B n : Nat} {nb : List Bs} {b : Bs} (hr : Room w B n) (hn : nb.length < n) (hc : ∀ j (hj : j < (ccells nb).length), w.cell? ⟨B, j, none⟩ = some (ccells nb)[j]) :
    ∀ j (hj : j < (ccells (nb ++ [b])).length), (w.setCell ⟨B, nb.length, none⟩ b.v).cell? ⟨B, j, none⟩ = some (ccells (nb ++ [b]))[j] := by
  intro j hj
  have hl := ccells_len nb
  rw [ccells_len, List.length_append, List.length_singleton] at hj
  by_cases e : j = nb.length
  · subst e
    obtain ⟨u, hu⟩ := hr.cell nb.length hn
    rw [World.cell?_setCell_same _ _ _ hu]
    congr 1
    simp only [ccells_snoc]
    rw [List.getElem_append_right (by omega)]
    simp [hl]
  · rw [World.cell?_setCell_other _ _ _ _ (by simp), hc j (by omega)]
    congr 1
    simp only [ccells_snoc]
    rw [List.getElem_append_left (by omega)]
def Fresh (b : Bs) : Prop := (∃ g, b.a = some ⟨g, 0, none⟩) ∧ b.cap = b.L.length
set_option maxHeartbeats 1000000 in
theorem toCellS_k (a : Option Addr) (cap : Nat) (cs : List Bs) (w : World) (hc : Cells w a (ccells cs)) (hm : Mem w (cs.map Bs.seg)) (hl : cs.length ≤ 1048576) (ht : ∀ b ∈ cs, b.L.length ≤ 1048576) :
    Calls Tryd.prog 27 #[.slice a cs.length cap] w fun e w' => ∃ (g : Nat) (nb : List Bs), e = .returned (.slice (some ⟨g, 0, none⟩) cs.length cs.length) ∧ nb.map Bs.L = cs.map Bs.L ∧ (∀ b ∈ nb, b.fit) ∧
      Born w w' ((some ⟨g, 0, none⟩, ccells nb) :: nb.map Bs.seg) ∧ Keeps w w' := by
  have HC := hide hc
  have HM := hide hm
  have HT := hide ht
  clear hc hm ht
  have hmk := make_cells cs.length hl
  have HR := hide (Room.of_row (World.rowIs_made w (.slice none 0 0) cs.length 80))
  have HKA := hide (Keeps.alloc (Keeps.refl w) (.cells (madeCells #[.slice none 0 0] cs.length) 80))
  have HZ : Hid ((w.alloc (.cells (madeCells #[.slice none 0 0] cs.length) 80)).heap.size = w.heap.size + 1) := by show _ = _; simp
  go_enter Tryd.func27, Tryd.ntmps27
  go_wp2_with fail
  clear hmk
  generalize w.alloc (.cells (madeCells #[.slice none 0 0] cs.length) 80) = W0 at *
  go_loopw [4] (fun y w1 => ∃ (k : Nat) (nb : List Bs), k ≤ cs.length ∧ nb.length = k ∧ y = .int .i64 (k : Int) ∧ Hid (nb.map Bs.L = (cs.take k).map Bs.L) ∧ Hid (∀ b ∈ nb, b.fit) ∧ Hid (Room w1 w.heap.size cs.length) ∧ Hid (∀ j (hj : j < (ccells nb).length), w1.cell? ⟨w.heap.size, j, none⟩ = some (ccells nb)[j]) ∧ Hid (Born W0 w1 (nb.map Bs.seg)) ∧ Hid (Keeps w w1) ∧ w.heap.size < w1.heap.size) (fun y _ => cs.length - (intOf y).toNat)
  case atStart => exact ⟨0, [], by omega, rfl, rfl, rfl, fun b hb => absurd hb (by simp), HR, fun j hj => absurd hj (by simp [ccells]), Born.nil _ _, HKA, by have := HZ.out; omega⟩
  case round =>
    obtain ⟨k, nb, hk, rfl, rfl, HD, HN, HRo, HCe, HB, HK, hz⟩ := hrel
    by_cases hlt : nb.length < cs.length
    · obtain ⟨b, off, ea, c0⟩ := cell1 (HC.out.kept HK.out) nb.length hlt
      subst ea
      have HMk : Hid (Cells wr cs[nb.length].a (bys cs[nb.length].L)) := (HM.out cs[nb.length].seg (List.mem_map.2 ⟨_, List.getElem_mem hlt, rfl⟩)).kept HK.out
      have HTk := hide (HT.out _ (List.getElem_mem hlt))
      have HDk : Hid ((cs.take (nb.length + 1)).map Bs.L = (cs.take nb.length).map Bs.L ++ [cs[nb.length].L]) := by show _ = _; rw [List.take_succ_eq_append_getElem hlt, List.map_append]; rfl
      generalize cs[nb.length] = c at *
      obtain ⟨ca, cc, cL⟩ := c
      unfold Bs.v at c0
      dsimp only at c0 HMk HTk HDk
      go_wp2_with fail
      refine (toCell_k ca cc cL wr HMk.out HTk.out).mono ?_
      rintro x w2 ⟨b1, rfl, hb, hk2⟩
      have HRo2 := hide (HRo.out.kept hk2 hz)
      obtain ⟨u0, d0⟩ := HRo2.out.cell nb.length hlt
      have f0 := HRo2.out.free nb.length
      have HB2 := hide hb
      have HK2 := hide hk2
      clear hb hk2
      go_wp2_with fail
      go_roundw
      case rel =>
        have hbn : ∀ b ∈ fp (nb.map Bs.seg ++ [Bs.seg (Bs.mk (some ⟨b1, 0, none⟩) cL.length cL)]), b ≠ w.heap.size := by
          intro b hb
          rw [fp_append] at hb
          rcases List.mem_append.1 hb with hb | hb
          · have := HB.out.new b hb; have := HZ.out; omega
          · have := HB2.out.new b hb; omega
        have hce := set_cell1 (b := Bs.mk (some ⟨b1, 0, none⟩) cL.length cL) HRo2.out hlt (fun j hj => HK2.out.cell (HCe.out j hj))
        refine ⟨nb.length + 1, nb ++ [Bs.mk (some ⟨b1, 0, none⟩) cL.length cL], by omega, by simp, by go_num, ?_, ?_, HRo2.out.set _ _, hce, ?_, ?_, ?_⟩
        · show _ = _
          rw [HDk.out, ← HD.out]; simp
        · intro b hb
          rcases List.mem_append.1 hb with hb | hb
          · exact HN.out b hb
          · rw [List.mem_singleton.1 hb]; exact ⟨(fun e => nomatch e), Nat.le_refl _⟩
        · show Born _ _ _
          rw [segs_snoc]
          have hj : Born W0 w2 (nb.map Bs.seg ++ [Bs.seg (Bs.mk (some ⟨b1, 0, none⟩) cL.length cL)]) :=
            ⟨(HB.out.toOwn.kept HK2.out).append HB2.out.toOwn (HB2.out.apart HB.out.mem), fun b hb => by
              rw [fp_append] at hb
              rcases List.mem_append.1 hb with hb | hb
              · exact HB.out.new b hb
              · have := HB2.out.new b hb; have := HZ.out; omega⟩
          exact hj.turn (Turn.set (fs := [w.heap.size]) (by simp) _) (fun b hb hx => hbn b hb (by simpa using hx))
        · exact Keeps.setCell (HK.out.trans HK2.out) (Nat.le_refl _) _
        · have := HK2.out.size
          simp [World.setCell]; omega
      case measure => simp [intOf]; omega
    · have e : nb.length = cs.length := by omega
      go_wp2_with fail
      go_ret
      refine ⟨w.heap.size, nb, rfl, by rw [HD.out, e, List.take_length], HN.out, ⟨?_, ?_⟩, HK.out⟩
      · have ho := HRo.out.own HCe.out
        refine Own.append (S := [_]) ho HB.out.toOwn (fun b hb hb' => ?_)
        have h1 := HB.out.new b hb'
        have h2 := HZ.out
        rw [fp_one] at hb
        by_cases h0 : ccells nb = []
        · simp [fpS, h0] at hb
        · simp [fpS, h0] at hb; omega
      · intro b hb
        rw [fp_cons] at hb
        rcases List.mem_append.1 hb with hb | hb
        · by_cases h0 : ccells nb = []
          · simp [fpS, h0] at hb
          · simp [fpS, h0] at hb; omega
        · have h1 := HB.out.new b hb
          have h2 := HZ.out
          omega
end Go.Proofs.YtkdnddckogbgaaaDoor
