/- Texts of the verifier, joined: DGC, DGD, DGW. -/
import Derived.Test.YtkdnddckogbgaaaGreatDoorLO2
namespace Go.Proofs.YtkdnddckogbgaaaGreatDoor
open Go.RowKit Go.Deep
set_option linter.unusedVariables false
set_option maxRecDepth 10000

/-- How many bytes the lists have. -/
def tot (cs : List Bs) : Nat := (cs.map fun b => b.L.length).sum
theorem tot_take (cs : List Bs) (k : Nat) (h : k < cs.length) : tot (cs.take (k + 1)) = tot (cs.take k) + cs[k].L.length := by
  unfold tot
  rw [List.take_succ_eq_append_getElem h, List.map_append, List.sum_append]
  rfl
theorem tot_le {cs : List Bs} {b : Bs} (h : b ∈ cs) : b.L.length ≤ tot cs := by
  induction cs with
  | nil => simp at h
  | cons c t ih =>
    simp only [tot, List.map_cons, List.sum_cons] at ih ⊢
    rcases List.mem_cons.1 h with rfl | h
    · omega
    · have := ih h; omega

set_option maxHeartbeats 1000000 in
theorem szCellS_k (a : Option Addr) (cap : Nat) (cs : List Bs) (left : Int) (w : World) (hc : Cells w a (ccells cs)) (hok : ∀ b ∈ cs, b.L.length ≤ 9223372036854775807) (h0 : 0 ≤ left) (h1 : left ≤ 1048576) (hl : cs.length ≤ 9223372036854775807) :
    Calls Tryz.prog 57 #[.slice a cs.length cap, .int .i64 left] w fun e w' => ∃ r : Int, e = .returned (.int .i64 r) ∧ (0 ≤ r → r = left - cs.length - tot cs) ∧ Keeps w w' := by
  have HC := hide hc
  have HOK := hide hok
  clear hc hok
  by_cases hlt : (cs.length : Int) ≤ left
  · clear hl
    go_enter Tryz.func57, Tryz.ntmps57
    go_wp2_with fail
    go_loopw [1, 5] (fun x y wr => ∃ k : Nat, k ≤ cs.length ∧ x = .int .i64 (left - cs.length - tot (cs.take k)) ∧ 0 ≤ left - cs.length - tot (cs.take k) ∧ y = .int .i64 (k : Int) ∧ Keeps w wr) (fun _ y _ => cs.length - (intOf y).toNat)
    case atStart => exact ⟨0, by omega, by simp [tot], by simp [tot]; omega, rfl, Keeps.refl _⟩
    case round =>
      obtain ⟨k, hk, rfl, hx, rfl, hkw⟩ := hrel
      by_cases hlt' : k < cs.length
      · obtain ⟨b, off, ea, c0⟩ := cell1 (HC.out.kept hkw) k hlt'
        subst ea
        have HT := hide (tot_take cs k hlt')
        have HLb := hide (HOK.out cs[k] (List.getElem_mem hlt'))
        have HSz := hide (fun w1 => szCell_k cs[k].a cs[k].L.length cs[k].cap (left - cs.length - tot (cs.take k)) w1 hx (by omega) HLb.out)
        have HK := hide hkw
        clear hkw HLb
        generalize cs[k] = c at *
        unfold Bs.v at c0
        generalize tot (cs.take k) = t at *
        by_cases hle : (c.L.length : Int) ≤ left - cs.length - t
        · rw [if_pos hle] at HSz
          go_wp2_with fail
          refine (unhide HSz _).mono ?_
          rintro e w1 ⟨rfl, hk1⟩
          replace HK := hide (HK.out.trans hk1)
          clear hk1
          go_wp2_with fail
          go_roundw
          case rel => exact ⟨k + 1, by omega, by rw [HT.out]; congr 1; omega, by rw [HT.out]; omega, by go_num, HK.out⟩
          case measure => simp [intOf]; omega
        · rw [if_neg hle] at HSz
          go_wp2_with fail
          refine (unhide HSz _).mono ?_
          rintro e w1 ⟨rfl, hk1⟩
          replace HK := hide (HK.out.trans hk1)
          clear hk1
          go_wp2_with fail
          go_ret
          exact ⟨-1, rfl, fun h => absurd h (by decide), HK.out⟩
      · have e : k = cs.length := by omega
        subst e
        go_wp2_with fail
        go_ret
        exact ⟨_, rfl, fun _ => by rw [List.take_length], hkw⟩
  · have hlt' : left < (cs.length : Int) := by omega
    clear hlt
    go_enter Tryz.func57, Tryz.ntmps57
    go_wp2_with fail
    go_ret
    exact ⟨-1, rfl, fun h => absurd h (by decide), Keeps.refl _⟩

theorem infoCell : (Tryz.prog.info? 93).map (fun i => (i.zero, i.size, i.bytes)) = some (some (.agg #[.slice none 0 0]), 1, 24) := by kernel_rfl
theorem underCells : Tryz.prog.underlying 23 = some (.slice 93) := by kernel_rfl
theorem make_cells (n : Nat) (hn : n ≤ 1048576) (w : World) : (Instr.makeSlice 23 (.int .i64 (n : Int)) (.int .i64 (n : Int))).run Tryz.prog w = .ok (.slice (some ⟨w.heap.size, 0, none⟩) n n) (w.alloc (.cells (madeCells #[.slice none 0 0] n) 93)) := by
  have hI := infoCell
  cases hi : Tryz.prog.info? 93 with
  | none => rw [hi] at hI; simp at hI
  | some i =>
    rw [hi] at hI
    simp at hI
    obtain ⟨hz, hs, hb⟩ := hI
    have h := run_make (P := Tryz.prog) w 23 93 i _ underCells hi hz .i64 .i64 n n (by omega) (Int.le_refl _) (by rw [hb]; omega) (by omega)
    rw [hs] at h
    simpa [Value.cells] using h

theorem segs_snoc (nb : List Bs) (b : Bs) : (nb ++ [b]).map Bs.seg = nb.map Bs.seg ++ [b.seg] := by simp
theorem set_cell1 {w : World} {B n : Nat} {nb : List Bs} {b : Bs} (hr : Room w B n) (hn : nb.length < n) (hc : ∀ j (hj : j < (ccells nb).length), w.cell? ⟨B, j, none⟩ = some (ccells nb)[j]) :
    ∀ j (hj : j < (ccells (nb ++ [b])).length), (w.setCell ⟨B, nb.length, none⟩ b.v).cell? ⟨B, j, none⟩ = some (ccells (nb ++ [b]))[j] := by
  intro j hj
  have hl := ccells_len nb
  rw [ccells_len, List.length_append, List.length_singleton] at hj
  by_cases e : j = nb.length
  · subst e
    obtain ⟨u, hu⟩ := hr.cell nb.length hn
    rw [World.cell?_setCell_same _ _ _ hu]
    congr 1
    simp only [ccells_snoc]
    rw [List.getElem_append_right (by omega)]
    simp [hl]
  · rw [World.cell?_setCell_other _ _ _ _ (by simp), hc j (by omega)]
    congr 1
    simp only [ccells_snoc]
    rw [List.getElem_append_left (by omega)]
set_option maxHeartbeats 1000000 in
theorem toCellS_k (a : Option Addr) (cap : Nat) (cs : List Bs) (w : World) (hc : Cells w a (ccells cs)) (hm : Mem w (cs.map Bs.seg)) (hl : cs.length ≤ 1048576) (ht : ∀ b ∈ cs, b.L.length ≤ 1048576) :
    Calls Tryz.prog 59 #[.slice a cs.length cap] w fun e w' => ∃ (g : Nat) (nb : List Bs), e = .returned (.slice (some ⟨g, 0, none⟩) cs.length cs.length) ∧ nb.map Bs.L = cs.map Bs.L ∧ (∀ b ∈ nb, b.fit) ∧
      Born w w' ((some ⟨g, 0, none⟩, ccells nb) :: nb.map Bs.seg) ∧ Keeps w w' := by
  have HC := hide hc
  have HM := hide hm
  have HT := hide ht
  clear hc hm ht
  have hmk := make_cells cs.length hl
  have HR := hide (Room.of_row (World.rowIs_made w (.slice none 0 0) cs.length 93))
  have HKA := hide (Keeps.alloc (Keeps.refl w) (.cells (madeCells #[.slice none 0 0] cs.length) 93))
  have HZ : Hid ((w.alloc (.cells (madeCells #[.slice none 0 0] cs.length) 93)).heap.size = w.heap.size + 1) := by show _ = _; simp
  go_enter Tryz.func59, Tryz.ntmps59
  go_wp2_with fail
  clear hmk
  generalize w.alloc (.cells (madeCells #[.slice none 0 0] cs.length) 93) = W0 at *
  go_loopw [4] (fun y w1 => ∃ (k : Nat) (nb : List Bs), k ≤ cs.length ∧ nb.length = k ∧ y = .int .i64 (k : Int) ∧ Hid (nb.map Bs.L = (cs.take k).map Bs.L) ∧ Hid (∀ b ∈ nb, b.fit) ∧ Hid (Room w1 w.heap.size cs.length) ∧ Hid (∀ j (hj : j < (ccells nb).length), w1.cell? ⟨w.heap.size, j, none⟩ = some (ccells nb)[j]) ∧ Hid (Born W0 w1 (nb.map Bs.seg)) ∧ Hid (Keeps w w1) ∧ w.heap.size < w1.heap.size) (fun y _ => cs.length - (intOf y).toNat)
  case atStart => exact ⟨0, [], by omega, rfl, rfl, rfl, fun b hb => absurd hb (by simp), HR, fun j hj => absurd hj (by simp [ccells]), Born.nil _ _, HKA, by have := HZ.out; omega⟩
  case round =>
    obtain ⟨k, nb, hk, rfl, rfl, HD, HN, HRo, HCe, HB, HK, hz⟩ := hrel
    by_cases hlt : nb.length < cs.length
    · obtain ⟨b, off, ea, c0⟩ := cell1 (HC.out.kept HK.out) nb.length hlt
      subst ea
      have HMk : Hid (Cells wr cs[nb.length].a (bys cs[nb.length].L)) := (HM.out cs[nb.length].seg (List.mem_map.2 ⟨_, List.getElem_mem hlt, rfl⟩)).kept HK.out
      have HTk := hide (HT.out _ (List.getElem_mem hlt))
      have HDk : Hid ((cs.take (nb.length + 1)).map Bs.L = (cs.take nb.length).map Bs.L ++ [cs[nb.length].L]) := by show _ = _; rw [List.take_succ_eq_append_getElem hlt, List.map_append]; rfl
      generalize cs[nb.length] = c at *
      obtain ⟨ca, cc, cL⟩ := c
      unfold Bs.v at c0
      dsimp only at c0 HMk HTk HDk
      go_wp2_with fail
      refine (toCell_k ca cc cL wr HMk.out HTk.out).mono ?_
      rintro x w2 ⟨b1, rfl, hb, hk2⟩
      have HRo2 := hide (HRo.out.kept hk2 hz)
      obtain ⟨u0, d0⟩ := HRo2.out.cell nb.length hlt
      have f0 := HRo2.out.free nb.length
      have HB2 := hide hb
      have HK2 := hide hk2
      clear hb hk2
      go_wp2_with fail
      go_roundw
      case rel =>
        have hbn : ∀ b ∈ fp (nb.map Bs.seg ++ [Bs.seg (Bs.mk (some ⟨b1, 0, none⟩) cL.length cL)]), b ≠ w.heap.size := by
          intro b hb
          rw [fp_append] at hb
          rcases List.mem_append.1 hb with hb | hb
          · have := HB.out.new b hb; have := HZ.out; omega
          · have := HB2.out.new b hb; omega
        have hce := set_cell1 (b := Bs.mk (some ⟨b1, 0, none⟩) cL.length cL) HRo2.out hlt (fun j hj => HK2.out.cell (HCe.out j hj))
        refine ⟨nb.length + 1, nb ++ [Bs.mk (some ⟨b1, 0, none⟩) cL.length cL], by omega, by simp, by go_num, ?_, ?_, HRo2.out.set _ _, hce, ?_, ?_, ?_⟩
        · show _ = _
          rw [HDk.out, ← HD.out]; simp
        · intro b hb
          rcases List.mem_append.1 hb with hb | hb
          · exact HN.out b hb
          · rw [List.mem_singleton.1 hb]; exact ⟨(fun e => nomatch e), Nat.le_refl _⟩
        · show Born _ _ _
          rw [segs_snoc]
          have hj : Born W0 w2 (nb.map Bs.seg ++ [Bs.seg (Bs.mk (some ⟨b1, 0, none⟩) cL.length cL)]) :=
            ⟨(HB.out.toOwn.kept HK2.out).append HB2.out.toOwn (HB2.out.apart HB.out.mem), fun b hb => by
              rw [fp_append] at hb
              rcases List.mem_append.1 hb with hb | hb
              · exact HB.out.new b hb
              · have := HB2.out.new b hb; have := HZ.out; omega⟩
          exact hj.turn (Turn.set (fs := [w.heap.size]) (by simp) _) (fun b hb hx => hbn b hb (by simpa using hx))
        · exact Keeps.setCell (HK.out.trans HK2.out) (Nat.le_refl _) _
        · have := HK2.out.size
          simp [World.setCell]; omega
      case measure => simp [intOf]; omega
    · have e : nb.length = cs.length := by omega
      go_wp2_with fail
      go_ret
      refine ⟨w.heap.size, nb, rfl, by rw [HD.out, e, List.take_length], HN.out, ⟨?_, ?_⟩, HK.out⟩
      · have ho := HRo.out.own HCe.out
        refine Own.append (S := [_]) ho HB.out.toOwn (fun b hb hb' => ?_)
        have h1 := HB.out.new b hb'
        have h2 := HZ.out
        rw [fp_one] at hb
        by_cases h0 : ccells nb = []
        · simp [fpS, h0] at hb
        · simp [fpS, h0] at hb; omega
      · intro b hb
        rw [fp_cons] at hb
        rcases List.mem_append.1 hb with hb | hb
        · by_cases h0 : ccells nb = []
          · simp [fpS, h0] at hb
          · simp [fpS, h0] at hb; omega
        · have h1 := HB.out.new b hb
          have h2 := HZ.out
          omega
end Go.Proofs.YtkdnddckogbgaaaGreatDoor
namespace Go.Proofs.YtkdnddckogbgaaaGreatDoor
open Go.RowKit Go.Deep
set_option linter.unusedVariables false
set_option maxRecDepth 10000

theorem mem_seg {w : World} {cs : List Bs} (h : Mem w (cs.map Bs.seg)) (k : Nat) (hk : k < cs.length) : Cells w cs[k].a (bys cs[k].L) := h cs[k].seg (List.mem_map.2 ⟨_, List.getElem_mem hk, rfl⟩)
set_option maxHeartbeats 1000000 in
theorem eqCellS_k (a a' : Option Addr) (cap cap' : Nat) (xs ys : List Bs) (w : World) (he : ys.map Bs.L = xs.map Bs.L) (hc : Cells w a (ccells xs)) (hm : Mem w (xs.map Bs.seg)) (hc' : Cells w a' (ccells ys)) (hm' : Mem w (ys.map Bs.seg)) (hl : xs.length ≤ 1048576) (ht : ∀ b ∈ xs, b.L.length ≤ 16777216) :
    Calls Tryz.prog 62 #[.slice a xs.length cap, .slice a' ys.length cap'] w fun e w' => e = .returned (.bool true) ∧ Keeps w w' := by
  have HC := hide hc
  have HC' := hide hc'
  have HM := hide hm
  have HM' := hide hm'
  have hn : ys.length = xs.length := by have := congrArg List.length he; simpa using this
  have HE := hide he
  have HT := hide ht
  have hn' : ((xs.length : Int) != (ys.length : Int)) = false := by rw [hn]; simp
  have HN := hide hn
  clear hc hc' hm hm' he ht hn
  go_enter Tryz.func62, Tryz.ntmps62
  go_wp2_with fail
  go_loopw [5] (fun y w1 => ∃ k : Nat, k ≤ xs.length ∧ y = .int .i64 (k : Int) ∧ Keeps w w1) (fun y _ => xs.length - (intOf y).toNat)
  case atStart => exact ⟨0, by omega, rfl, Keeps.refl _⟩
  case round =>
    obtain ⟨k, hk, rfl, hkw⟩ := hrel
    by_cases hlt : k < xs.length
    · have hlt' : k < ys.length := by have := HN.out; omega
      obtain ⟨b, off, ea, c0⟩ := cell1 (HC.out.kept hkw) k hlt
      obtain ⟨b', off', ea', d0⟩ := cell1 (HC'.out.kept hkw) k hlt'
      subst ea ea'
      have hL : ys[k].L = xs[k].L := by
        have h := congrArg (fun l => l[k]?) HE.out
        simpa [hlt, hlt'] using h
      have HQ := hide (fun t => eqCell_k xs[k].a ys[k].a xs[k].cap ys[k].cap xs[k].L (gr wr t) (((mem_seg HM.out k hlt).kept hkw).kept (gr_keeps wr t)) (by rw [← hL]; exact ((mem_seg HM'.out k hlt').kept hkw).kept (gr_keeps wr t)) (HT.out _ (List.getElem_mem hlt)))
      have g0 := gr_cell c0
      have g1 := gr_cell d0
      unfold Bs.v at c0 d0 g0 g1
      rw [hL] at d0 g1
      clear hL
      generalize xs[k] = x at *
      generalize ys[k] = y at *
      obtain ⟨xa, xc, xL⟩ := x
      obtain ⟨ya, yc, yL⟩ := y
      dsimp only at c0 d0 g0 g1 HQ
      go_wp2_with fail
      refine region_gr (by kernel_rfl) (by kernel_rfl) ?_
      repeat (go_big_quiet_step (first | (go_at_call 97; exact gr_call (unhide HQ _))))
      refine wpQuiet_nil ?_
      intro w' hw'
      have hk' := hkw.trans (Keeps.of_gr hw')
      clear hw'
      go_wp2_with fail
      go_roundw
      case rel => exact ⟨k + 1, by omega, by go_num, hk'⟩
      case measure => simp [intOf]; omega
    · go_wp2_with fail
      go_ret
      exact ⟨rfl, hkw⟩

theorem tot_append (xs ys : List Bs) : tot (xs ++ ys) = tot xs + tot ys := by simp [tot]
theorem tot_take_le (cs : List Bs) (k : Nat) : tot (cs.take k) ≤ tot cs := by
  have := tot_append (cs.take k) (cs.drop k)
  rw [List.take_append_drop] at this
  omega
/-- The lists with marks from n on. -/
def markC (n : Nat) : List Bs → List Bs
  | [] => []
  | b :: t => ⟨b.a, b.cap, marksB n b.L.length⟩ :: markC (n + b.L.length) t
theorem markC_len : ∀ (n : Nat) (cs : List Bs), (markC n cs).length = cs.length
  | _, [] => rfl
  | n, b :: t => by simp [markC, markC_len]
theorem markC_cells : ∀ (n : Nat) (cs : List Bs), ccells (markC n cs) = ccells cs
  | _, [] => rfl
  | n, b :: t => by
    have := markC_cells (n + b.L.length) t
    simp only [ccells, markC, List.flatMap_cons, Bs.cells, Bs.v, marksB_length] at this ⊢
    rw [this]
theorem markC_append : ∀ (n : Nat) (xs ys : List Bs), markC n (xs ++ ys) = markC n xs ++ markC (n + tot xs) ys
  | n, [], ys => by simp [markC, tot]
  | n, b :: t, ys => by
    have := markC_append (n + b.L.length) t ys
    simp only [List.cons_append, markC, this, tot, List.map_cons, List.sum_cons]
    congr 3
    omega
theorem markC_at (n : Nat) (cs : List Bs) (k : Nat) (h : k < cs.length) : (markC n cs)[k]? = some ⟨cs[k].a, cs[k].cap, marksB (n + tot (cs.take k)) cs[k].L.length⟩ := by
  have e : cs = cs.take k ++ cs[k] :: cs.drop (k + 1) := by rw [← List.drop_eq_getElem_cons h]; simp
  have hl : (markC n (cs.take k)).length = k := by rw [markC_len]; simp; omega
  rw [show markC n cs = markC n (cs.take k ++ cs[k] :: cs.drop (k + 1)) by rw [← e], markC_append, List.getElem?_append_right (by omega), hl]
  simp [markC]
set_option maxHeartbeats 2000000 in
theorem markCellS_k (a : Option Addr) (cap : Nat) (cs : List Bs) (n : Nat) (w : World) (h : Own w ((a, ccells cs) :: cs.map Bs.seg)) (hl : cs.length ≤ 1048576) (ht : tot cs ≤ 16777216) (hn : n ≤ 1000000000) :
    Calls Tryz.prog 64 #[.slice a cs.length cap, .int .i64 (n : Int)] w fun e w' => e = .returned (.int .i64 ((n + tot cs : Nat) : Int)) ∧ Own w' ((a, ccells cs) :: (markC n cs).map Bs.seg) ∧ Turn (fp ((a, ccells cs) :: cs.map Bs.seg)) w w' := by
  have HO := hide h
  clear h
  go_enter Tryz.func64, Tryz.ntmps64
  go_wp2_with fail
  go_loopw [1, 5] (fun x y wr => ∃ k : Nat, k ≤ cs.length ∧ x = .int .i64 ((n + tot (cs.take k) : Nat) : Int) ∧ y = .int .i64 (k : Int) ∧ Hid (Own wr ((a, ccells cs) :: (markC n (cs.take k) ++ cs.drop k).map Bs.seg)) ∧ Hid (fp ((a, ccells cs) :: (markC n (cs.take k) ++ cs.drop k).map Bs.seg) = fp ((a, ccells cs) :: cs.map Bs.seg)) ∧ Hid (Turn (fp ((a, ccells cs) :: cs.map Bs.seg)) w wr)) (fun _ y _ => cs.length - (intOf y).toNat)
  case atStart => exact ⟨0, by omega, by simp [tot], rfl, by show Own _ _; simpa [markC] using HO.out, by show _ = _; simp [markC], Turn.refl _ _⟩
  case round =>
    obtain ⟨k, hk, rfl, rfl, HOr, HF, HT⟩ := hrel
    by_cases hlt : k < cs.length
    · have hc : Cells wr a (ccells cs) := HOr.out.mem (a, ccells cs) (by simp)
      obtain ⟨b, off, ea, c0⟩ := cell1 hc k hlt
      subst ea
      have HTt := hide (tot_take cs k hlt)
      have hle : cs[k].L.length ≤ tot cs := tot_le (List.getElem_mem hlt)
      have hle2 : tot (cs.take k) ≤ tot cs := tot_take_le cs k
      have HD : Hid ((some (⟨b, off, none⟩ : Addr), ccells cs) :: (markC n (cs.take k) ++ cs.drop k).map Bs.seg = ((some ⟨b, off, none⟩, ccells cs) :: (markC n (cs.take k)).map Bs.seg) ++ cs[k].seg :: (cs.drop (k + 1)).map Bs.seg) := by
        show _ = _
        rw [List.drop_eq_getElem_cons hlt, List.map_append, List.map_cons, List.cons_append]
      have HD2 : Hid ((some (⟨b, off, none⟩ : Addr), ccells cs) :: (markC n (cs.take (k + 1)) ++ cs.drop (k + 1)).map Bs.seg = ((some ⟨b, off, none⟩, ccells cs) :: (markC n (cs.take k)).map Bs.seg) ++ Bs.seg (Bs.mk cs[k].a cs[k].cap (marksB (n + tot (cs.take k)) cs[k].L.length)) :: (cs.drop (k + 1)).map Bs.seg) := by
        show _ = _
        rw [List.take_succ_eq_append_getElem hlt, markC_append, List.append_assoc, List.map_append, List.cons_append]; rfl
      have HOk : Hid (Own wr [(cs[k].a, bys cs[k].L)]) := by
        have h2 := HOr.out
        rw [HD.out] at h2
        exact Own.left (S := [_]) (T := (cs.drop (k + 1)).map Bs.seg) h2.right
      have HMk := hide (markByteS_k cs[k].a cs[k].cap cs[k].L (n + tot (cs.take k)) wr HOk.out (by omega) (by omega))
      have HFS : Hid (fpS (Bs.seg (Bs.mk cs[k].a cs[k].cap (marksB (n + tot (cs.take k)) cs[k].L.length))) = fpS cs[k].seg) := fpS_len (by simp [bys_length, marksB_length])
      unfold Bs.v at c0
      generalize cs[k] = c at *
      obtain ⟨ka, kc, kL⟩ := c
      dsimp only at c0 HTt HMk HD HD2 HFS hle
      have HMk' := HMk.out
      simp only [Int.natCast_add] at HMk'
      replace HMk := hide HMk'
      clear HMk'
      go_wp2_with fail
      refine (unhide HMk).mono ?_
      rintro e w1 ⟨rfl, ho, htu⟩
      have HO1 := hide ho
      have HT1 := hide htu
      clear ho htu
      go_wp2_with fail
      go_roundw
      case rel =>
        refine ⟨k + 1, by omega, by rw [HTt.out]; congr 1; omega, by go_num, ?_, ?_, ?_⟩
        · show Own _ _
          rw [HD2.out]
          have h2 := HOr.out
          rw [HD.out] at h2
          exact h2.upd HO1.out HFS.out HT1.out
        · show _ = _
          rw [HD2.out, fp_upd _ _ HFS.out, ← HD.out, HF.out]
        · refine HT.out.trans' (HT1.out.mono ?_)
          intro x hx
          rw [← HF.out, HD.out, fp_append, fp_cons]
          exact List.mem_append_right _ (List.mem_append_left _ (by rw [fp_one] at hx; exact hx))
      case measure => simp [intOf]; omega
    · have e : k = cs.length := by omega
      subst e
      go_wp2_with fail
      go_ret
      have h2 := HOr.out
      rw [List.take_length, List.drop_length, List.append_nil] at h2
      exact ⟨by simp, h2, HT.out⟩

set_option maxHeartbeats 1000000 in
theorem heldCellS_k (a : Option Addr) (cap : Nat) (cs : List Bs) (n : Nat) (w : World) (hc : Cells w a (ccells cs)) (hm : Mem w ((markC n cs).map Bs.seg)) (hl : cs.length ≤ 1048576) (ht : tot cs ≤ 16777216) (hn : n ≤ 1000000000) :
    Calls Tryz.prog 100 #[.slice a cs.length cap, .int .i64 (n : Int)] w fun e w' => e = .returned (.int .i64 ((n + tot cs : Nat) : Int)) ∧ w' = w := by
  have HC := hide hc
  have HM := hide hm
  clear hc hm
  go_enter Tryz.func100, Tryz.ntmps100
  go_wp2_with fail
  go_loop [1, 5] (fun x y => ∃ k : Nat, k ≤ cs.length ∧ x = .int .i64 ((n + tot (cs.take k) : Nat) : Int) ∧ y = .int .i64 (k : Int)) (fun _ y => cs.length - (intOf y).toNat)
  case atStart => exact ⟨0, by omega, by simp [tot], rfl⟩
  case round =>
    obtain ⟨k, hk, rfl, rfl⟩ := hrel
    by_cases hlt : k < cs.length
    · obtain ⟨b, off, ea, c0⟩ := cell1 HC.out k hlt
      subst ea
      have HTt := hide (tot_take cs k hlt)
      have hle : cs[k].L.length ≤ tot cs := tot_le (List.getElem_mem hlt)
      have hle2 : tot (cs.take k) ≤ tot cs := tot_take_le cs k
      have HMk : Hid (Cells w cs[k].a (bys (marksB (n + tot (cs.take k)) cs[k].L.length))) := by
        obtain ⟨hlt', e⟩ := List.getElem?_eq_some_iff.1 (markC_at n cs k hlt)
        have h := mem_seg HM.out k hlt'
        rw [e] at h
        exact h
      have HH := hide (heldByteS_k cs[k].a cs[k].cap cs[k].L.length (n + tot (cs.take k)) w HMk.out (by omega) (by omega))
      unfold Bs.v at c0
      generalize cs[k] = c at *
      obtain ⟨ka, kc, kL⟩ := c
      dsimp only at c0 HTt HH hle
      have HH' := HH.out
      simp only [Int.natCast_add] at HH'
      replace HH := hide HH'
      clear HH'
      go_wp2_with fail
      refine (unhide HH).mono ?_
      rintro e w1 ⟨rfl, hw⟩
      obtain rfl := Eq.symm hw
      go_wp2_with fail
      go_round
      case rel => exact ⟨k + 1, by omega, by rw [HTt.out]; congr 1; omega, by go_num⟩
      case measure => simp [intOf]; omega
    · have e : k = cs.length := by omega
      subst e
      go_wp2_with fail
      go_ret
      exact ⟨by simp, rfl⟩
end Go.Proofs.YtkdnddckogbgaaaGreatDoor
namespace Go.Proofs.YtkdnddckogbgaaaGreatDoor
open Go.RowKit Go.Deep
set_option linter.unusedVariables false
set_option maxRecDepth 10000

def Wr.seg (x : Wr) : Seg := x.b.seg
/-- How many bytes the writes have. -/
def totW (ds : List Wr) : Nat := (ds.map fun x => x.b.L.length).sum
theorem totW_take (ds : List Wr) (k : Nat) (h : k < ds.length) : totW (ds.take (k + 1)) = totW (ds.take k) + ds[k].b.L.length := by
  unfold totW
  rw [List.take_succ_eq_append_getElem h, List.map_append, List.sum_append]
  rfl
theorem totW_le {ds : List Wr} {x : Wr} (h : x ∈ ds) : x.b.L.length ≤ totW ds := by
  induction ds with
  | nil => simp at h
  | cons c t ih =>
    simp only [totW, List.map_cons, List.sum_cons] at ih ⊢
    rcases List.mem_cons.1 h with rfl | h
    · omega
    · have := ih h; omega
theorem totW_append (xs ys : List Wr) : totW (xs ++ ys) = totW xs + totW ys := by simp [totW]
theorem totW_take_le (ds : List Wr) (k : Nat) : totW (ds.take k) ≤ totW ds := by
  have := totW_append (ds.take k) (ds.drop k)
  rw [List.take_append_drop] at this
  omega
theorem mem_segW {w : World} {ds : List Wr} (h : Mem w (ds.map Wr.seg)) (k : Nat) (hk : k < ds.length) : Cells w ds[k].b.a (bys ds[k].b.L) := h ds[k].seg (List.mem_map.2 ⟨_, List.getElem_mem hk, rfl⟩)

set_option maxHeartbeats 1000000 in
theorem szWriteS_k (a : Option Addr) (cap : Nat) (ds : List Wr) (left : Int) (w : World) (hc : Cells w a (wcells ds)) (hok : ∀ x ∈ ds, x.b.L.length ≤ 9223372036854775807) (h0 : 0 ≤ left) (h1 : left ≤ 1048576) (hl : ds.length ≤ 9223372036854775807) :
    Calls Tryz.prog 58 #[.slice a ds.length cap, .int .i64 left] w fun e w' => ∃ r : Int, e = .returned (.int .i64 r) ∧ (0 ≤ r → r = left - ds.length - totW ds) ∧ Keeps w w' := by
  have HC := hide hc
  have HOK := hide hok
  clear hc hok
  by_cases hlt : (ds.length : Int) ≤ left
  · clear hl
    go_enter Tryz.func58, Tryz.ntmps58
    go_wp2_with fail
    go_loopw [1, 5] (fun x y wr => ∃ k : Nat, k ≤ ds.length ∧ x = .int .i64 (left - ds.length - totW (ds.take k)) ∧ 0 ≤ left - ds.length - totW (ds.take k) ∧ y = .int .i64 (k : Int) ∧ Keeps w wr) (fun _ y _ => ds.length - (intOf y).toNat)
    case atStart => exact ⟨0, by omega, by simp [totW], by simp [totW]; omega, rfl, Keeps.refl _⟩
    case round =>
      obtain ⟨k, hk, rfl, hx, rfl, hkw⟩ := hrel
      by_cases hlt' : k < ds.length
      · obtain ⟨b, off, ea, c0, c1⟩ := cell2 (HC.out.kept hkw) k hlt'
        subst ea
        have HT := hide (totW_take ds k hlt')
        have HLb := hide (HOK.out ds[k] (List.getElem_mem hlt'))
        have HSz := hide (fun w1 => szWrite_k ds[k].i ds[k].b.a ds[k].b.L.length ds[k].b.cap (left - ds.length - totW (ds.take k)) w1 hx (by omega) HLb.out)
        have HK := hide hkw
        clear hkw HLb
        generalize ds[k] = c at *
        unfold Bs.v at c1
        generalize totW (ds.take k) = t at *
        by_cases hle : (c.b.L.length : Int) ≤ left - ds.length - t
        · rw [if_pos hle] at HSz
          go_wp2_with fail
          refine (unhide HSz _).mono ?_
          rintro e w1 ⟨rfl, hk1⟩
          replace HK := hide (HK.out.trans hk1)
          clear hk1
          go_wp2_with fail
          go_roundw
          case rel => exact ⟨k + 1, by omega, by rw [HT.out]; congr 1; omega, by rw [HT.out]; omega, by go_num, HK.out⟩
          case measure => simp [intOf]; omega
        · rw [if_neg hle] at HSz
          go_wp2_with fail
          refine (unhide HSz _).mono ?_
          rintro e w1 ⟨rfl, hk1⟩
          replace HK := hide (HK.out.trans hk1)
          clear hk1
          go_wp2_with fail
          go_ret
          exact ⟨-1, rfl, fun h => absurd h (by decide), HK.out⟩
      · have e : k = ds.length := by omega
        subst e
        go_wp2_with fail
        go_ret
        exact ⟨_, rfl, fun _ => by rw [List.take_length], hkw⟩
  · have hlt' : left < (ds.length : Int) := by omega
    clear hlt
    go_enter Tryz.func58, Tryz.ntmps58
    go_wp2_with fail
    go_ret
    exact ⟨-1, rfl, fun h => absurd h (by decide), Keeps.refl _⟩

theorem infoWrite : (Tryz.prog.info? 86).map (fun i => (i.zero, i.size, i.bytes)) = some (some (.agg #[.int .i64 0, .slice none 0 0]), 2, 32) := by kernel_rfl
theorem underWrites : Tryz.prog.underlying 24 = some (.slice 86) := by kernel_rfl
theorem make_writes (n : Nat) (hn : n ≤ 1048576) (w : World) : (Instr.makeSlice 24 (.int .i64 (n : Int)) (.int .i64 (n : Int))).run Tryz.prog w = .ok (.slice (some ⟨w.heap.size, 0, none⟩) n n) (w.alloc (.cells (madeCells #[.int .i64 0, .slice none 0 0] (n * 2)) 86)) := by
  have hI := infoWrite
  cases hi : Tryz.prog.info? 86 with
  | none => rw [hi] at hI; simp at hI
  | some i =>
    rw [hi] at hI
    simp at hI
    obtain ⟨hz, hs, hb⟩ := hI
    have h := run_make (P := Tryz.prog) w 24 86 i _ underWrites hi hz .i64 .i64 n n (by omega) (Int.le_refl _) (by rw [hb]; omega) (by omega)
    rw [hs] at h
    simpa [Value.cells] using h
theorem room_writes (w : World) (n : Nat) : Room (w.alloc (.cells (madeCells #[.int .i64 0, .slice none 0 0] (n * 2)) 86)) w.heap.size (n * 2) := by
  have hB : (w.alloc (.cells (madeCells #[.int .i64 0, .slice none 0 0] (n * 2)) 86)).heap[w.heap.size]? = some (.cells (madeCells #[.int .i64 0, .slice none 0 0] (n * 2)) 86 (0, 0)) := blk_alloc_new w _
  have hs : (madeCells #[Value.int .i64 0, .slice none 0 0] (n * 2)).size = n * 2 := size_madeCells _ _
  revert hB hs
  generalize w.alloc _ = W
  generalize madeCells _ _ = c
  intro hB hs
  refine ⟨fun j hj => ⟨c[j]'(by omega), ?_⟩, fun o => by simp [World.frozen?, hB]⟩
  simp [World.cell?, hB, show j < c.size by omega]

theorem segsW_snoc (nb : List Wr) (b : Wr) : (nb ++ [b]).map Wr.seg = nb.map Wr.seg ++ [b.seg] := by simp
theorem set_cell2 {w : World} {B n : Nat} {nb : List Wr} {x : Wr} (hr : Room w B (n * 2)) (hn : nb.length < n) (hc : ∀ j (hj : j < (wcells nb).length), w.cell? ⟨B, j, none⟩ = some (wcells nb)[j]) :
    ∀ j (hj : j < (wcells (nb ++ [x])).length), ((w.setCell ⟨B, nb.length * 2, none⟩ (.int .i64 x.i)).setCell ⟨B, nb.length * 2 + 1, none⟩ x.b.v).cell? ⟨B, j, none⟩ = some (wcells (nb ++ [x]))[j] := by
  intro j hj
  have hl := wcells_len nb
  rw [wcells_len, List.length_append, List.length_singleton] at hj
  by_cases e1 : j = nb.length * 2 + 1
  · subst e1
    obtain ⟨u, hu⟩ := (hr.set (nb.length * 2) (.int .i64 x.i)).cell (nb.length * 2 + 1) (by omega)
    rw [World.cell?_setCell_same _ _ _ hu]
    congr 1
    simp only [wcells_snoc]
    rw [List.getElem_append_right (by omega)]
    simp [hl]
  · rw [World.cell?_setCell_other _ _ _ _ (by simp)]
    by_cases e : j = nb.length * 2
    · subst e
      obtain ⟨u, hu⟩ := hr.cell (nb.length * 2) (by omega)
      rw [World.cell?_setCell_same _ _ _ hu]
      congr 1
      simp only [wcells_snoc]
      rw [List.getElem_append_right (by omega)]
      simp [hl]
    · rw [World.cell?_setCell_other _ _ _ _ (by simp), hc j (by omega)]
      congr 1
      simp only [wcells_snoc]
      rw [List.getElem_append_left (by omega)]
def Wr.key (x : Wr) : Int × List UInt8 := (x.i, x.b.L)
set_option maxHeartbeats 1000000 in
theorem toWriteS_k (a : Option Addr) (cap : Nat) (ds : List Wr) (w : World) (hc : Cells w a (wcells ds)) (hm : Mem w (ds.map Wr.seg)) (hl : ds.length ≤ 1048576) (ht : ∀ x ∈ ds, x.b.L.length ≤ 1048576) :
    Calls Tryz.prog 60 #[.slice a ds.length cap] w fun e w' => ∃ (g : Nat) (nb : List Wr), e = .returned (.slice (some ⟨g, 0, none⟩) ds.length ds.length) ∧ nb.map Wr.key = ds.map Wr.key ∧ (∀ x ∈ nb, x.b.fit) ∧
      Born w w' ((some ⟨g, 0, none⟩, wcells nb) :: nb.map Wr.seg) ∧ Keeps w w' := by
  have HC := hide hc
  have HM := hide hm
  have HT := hide ht
  clear hc hm ht
  have hmk := make_writes ds.length hl
  have HR := hide (room_writes w ds.length)
  have HKA := hide (Keeps.alloc (Keeps.refl w) (.cells (madeCells #[.int .i64 0, .slice none 0 0] (ds.length * 2)) 86))
  have HZ : Hid ((w.alloc (.cells (madeCells #[.int .i64 0, .slice none 0 0] (ds.length * 2)) 86)).heap.size = w.heap.size + 1) := by show _ = _; simp
  go_enter Tryz.func60, Tryz.ntmps60
  go_wp2_with fail
  clear hmk
  generalize w.alloc (.cells (madeCells #[.int .i64 0, .slice none 0 0] (ds.length * 2)) 86) = W0 at *
  go_loopw [4] (fun y w1 => ∃ (k : Nat) (nb : List Wr), k ≤ ds.length ∧ nb.length = k ∧ y = .int .i64 (k : Int) ∧ Hid (nb.map Wr.key = (ds.take k).map Wr.key) ∧ Hid (∀ x ∈ nb, x.b.fit) ∧ Hid (Room w1 w.heap.size (ds.length * 2)) ∧ Hid (∀ j (hj : j < (wcells nb).length), w1.cell? ⟨w.heap.size, j, none⟩ = some (wcells nb)[j]) ∧ Hid (Born W0 w1 (nb.map Wr.seg)) ∧ Hid (Keeps w w1) ∧ w.heap.size < w1.heap.size) (fun y _ => ds.length - (intOf y).toNat)
  case atStart => exact ⟨0, [], by omega, rfl, rfl, rfl, fun b hb => absurd hb (by simp), HR, fun j hj => absurd hj (by simp [wcells]), Born.nil _ _, HKA, by have := HZ.out; omega⟩
  case round =>
    obtain ⟨k, nb, hk, rfl, rfl, HD, HN, HRo, HCe, HB, HK, hz⟩ := hrel
    by_cases hlt : nb.length < ds.length
    · obtain ⟨b, off, ea, c0, c1⟩ := cell2 (HC.out.kept HK.out) nb.length hlt
      subst ea
      have HMk : Hid (Cells wr ds[nb.length].b.a (bys ds[nb.length].b.L)) := (HM.out ds[nb.length].seg (List.mem_map.2 ⟨_, List.getElem_mem hlt, rfl⟩)).kept HK.out
      have HTk := hide (HT.out _ (List.getElem_mem hlt))
      have HDk : Hid ((ds.take (nb.length + 1)).map Wr.key = (ds.take nb.length).map Wr.key ++ [ds[nb.length].key]) := by show _ = _; rw [List.take_succ_eq_append_getElem hlt, List.map_append]; rfl
      generalize ds[nb.length] = c at *
      obtain ⟨ci, ca, cc, cL⟩ := c
      unfold Bs.v at c1
      dsimp only at c0 c1 HMk HTk HDk
      go_wp2_with fail
      refine (toWrite_k ci ca cc cL wr HMk.out HTk.out).mono ?_
      rintro x w2 ⟨b1, rfl, hb, hk2⟩
      have HRo2 := hide (HRo.out.kept hk2 hz)
      obtain ⟨u0, d0⟩ := HRo2.out.cell (nb.length * 2) (by omega)
      obtain ⟨u1, d1⟩ := HRo2.out.cell (nb.length * 2 + 1) (by omega)
      have f0 := HRo2.out.free (nb.length * 2)
      have f1 := HRo2.out.free (nb.length * 2 + 1)
      have HB2 := hide hb
      have HK2 := hide hk2
      clear hb hk2
      go_wp2_with fail
      go_roundw
      case rel =>
        have hbn : ∀ b ∈ fp (nb.map Wr.seg ++ [Wr.seg (Wr.mk ci (Bs.mk (some ⟨b1, 0, none⟩) cL.length cL))]), b ≠ w.heap.size := by
          intro b hb
          rw [fp_append] at hb
          rcases List.mem_append.1 hb with hb | hb
          · have := HB.out.new b hb; have := HZ.out; omega
          · have := HB2.out.new b hb; omega
        have hce := set_cell2 (x := Wr.mk ci (Bs.mk (some ⟨b1, 0, none⟩) cL.length cL)) HRo2.out hlt (fun j hj => HK2.out.cell (HCe.out j hj))
        refine ⟨nb.length + 1, nb ++ [Wr.mk ci (Bs.mk (some ⟨b1, 0, none⟩) cL.length cL)], by omega, by simp, by go_num, ?_, ?_, (HRo2.out.set _ _).set _ _, hce, ?_, ?_, ?_⟩
        · show _ = _
          rw [HDk.out, ← HD.out]; simp [Wr.key]
        · intro b hb
          rcases List.mem_append.1 hb with hb | hb
          · exact HN.out b hb
          · rw [List.mem_singleton.1 hb]; exact ⟨(fun e => nomatch e), Nat.le_refl _⟩
        · show Born _ _ _
          rw [segsW_snoc]
          have hj : Born W0 w2 (nb.map Wr.seg ++ [Wr.seg (Wr.mk ci (Bs.mk (some ⟨b1, 0, none⟩) cL.length cL))]) :=
            ⟨(HB.out.toOwn.kept HK2.out).append HB2.out.toOwn (HB2.out.apart HB.out.mem), fun b hb => by
              rw [fp_append] at hb
              rcases List.mem_append.1 hb with hb | hb
              · exact HB.out.new b hb
              · have := HB2.out.new b hb; have := HZ.out; omega⟩
          exact hj.turn ((Turn.set (fs := [w.heap.size]) (by simp) _).trans' (Turn.set (fs := [w.heap.size]) (by simp) _)) (fun b hb hx => hbn b hb (by simpa using hx))
        · exact Keeps.setCell (Keeps.setCell (HK.out.trans HK2.out) (Nat.le_refl _) _) (Nat.le_refl _) _
        · have := HK2.out.size
          simp [World.setCell]; omega
      case measure => simp [intOf]; omega
    · have e : nb.length = ds.length := by omega
      go_wp2_with fail
      go_ret
      refine ⟨w.heap.size, nb, rfl, by rw [HD.out, e, List.take_length], HN.out, ⟨?_, ?_⟩, HK.out⟩
      · have ho := HRo.out.own HCe.out
        refine Own.append (S := [_]) ho HB.out.toOwn (fun b hb hb' => ?_)
        have h1 := HB.out.new b hb'
        have h2 := HZ.out
        rw [fp_one] at hb
        by_cases h0 : wcells nb = []
        · simp [fpS, h0] at hb
        · simp [fpS, h0] at hb; omega
      · intro b hb
        rw [fp_cons] at hb
        rcases List.mem_append.1 hb with hb | hb
        · by_cases h0 : wcells nb = []
          · simp [fpS, h0] at hb
          · simp [fpS, h0] at hb; omega
        · have h1 := HB.out.new b hb
          have h2 := HZ.out
          omega
end Go.Proofs.YtkdnddckogbgaaaGreatDoor
