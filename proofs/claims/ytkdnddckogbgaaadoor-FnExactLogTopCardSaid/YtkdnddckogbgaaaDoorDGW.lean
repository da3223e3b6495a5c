/- What the laws do with lists of writes. -/
import Derived.Test.YtkdnddckogbgaaaDoorDGD
namespace Go.Proofs.YtkdnddckogbgaaaDoor
open Go.RowKit Go.Deep
set_option linter.unusedVariables false
set_option maxRecDepth 10000

def Wr.seg (x : Wr) : Seg := x.b.seg
/-- How many bytes the writes have. -/
def totW (ds : List Wr) : Nat := (ds.map fun x => x.b.L.length).sum
theorem totW_take (ds : List Wr) (k : Nat) (h : k < ds.length) : totW (ds.take (k + 1)) = totW (ds.take k) + ds[k].b.L.length := by
  unfold totW
  rw [List.take_succ_eq_append_getElem h, List.map_append, List.sum_append]
  rfl
theorem totW_le {ds : List Wr} {x : Wr} (h : x ∈ ds) : x.b.L.length ≤ totW ds := by
  induction ds with
  | nil => simp at h
  | cons c t ih =>
    simp only [totW, List.map_cons, List.sum_cons] at ih ⊢
    rcases List.mem_cons.1 h with rfl | h
    · omega
    · have := ih h; omega
theorem totW_append (xs ys : List Wr) : totW (xs ++ ys) = totW xs + totW ys := by simp [totW]
theorem totW_take_le (ds : List Wr) (k : Nat) : totW (ds.take k) ≤ totW ds := by
  have := totW_append (ds.take k) (ds.drop k)
  rw [List.take_append_drop] at this
  omega
theorem mem_segW {w : World} {ds : List Wr} (h : Mem w (ds.map Wr.seg)) (k : Nat) (hk : k < ds.length) : Cells w ds[k].b.a (bys ds[k].b.L) := h ds[k].seg (List.mem_map.2 ⟨_, List.getElem_mem hk, rfl⟩)

set_option maxHeartbeats 1000000 in
theorem szWriteS_k (a : Option Addr) (cap : Nat) (ds : List Wr) (left : Int) (w : World) (hc : Cells w a (wcells ds)) (hok : ∀ x ∈ ds, x.b.L.length ≤ 9223372036854775807) (h0 : 0 ≤ left) (h1 : left ≤ 1048576) (hl : ds.length ≤ 9223372036854775807) :
    Calls Tryd.prog 23 #[.slice a ds.length cap, .int .i64 left] w fun e w' => ∃ r : Int, e = .returned (.int .i64 r) ∧ (0 ≤ r → r = left - ds.length - totW ds) ∧ Keeps w w' := by
  have HC := hide hc
  have HOK := hide hok
  clear hc hok
  by_cases hlt : (ds.length : Int) ≤ left
  · clear hl
    go_enter Tryd.func23, Tryd.ntmps23
    go_wp2_with fail
    go_loopw [1, 5] (fun x y wr => ∃ k : Nat, k ≤ ds.length ∧ x = .int .i64 (left - ds.length - totW (ds.take k)) ∧ 0 ≤ left - ds.length - totW (ds.take k) ∧ y = .int .i64 (k : Int) ∧ Keeps w wr) (fun _ y _ => ds.length - (intOf y).toNat)
    case atStart => exact ⟨0, by omega, by simp [totW], by simp [totW]; omega, rfl, Keeps.refl _⟩
    case round =>
      obtain ⟨k, hk, rfl, hx, rfl, hkw⟩ := hrel
      by_cases hlt' : k < ds.length
      · obtain ⟨b, off, ea, c0, c1⟩ := cell2 (HC.out.kept hkw) k hlt'
        subst ea
        have HT := hide (totW_take ds k hlt')
        have HLb := hide (HOK.out ds[k] (List.getElem_mem hlt'))
        have HSz := hide (fun w1 => szWrite_k ds[k].i ds[k].b.a ds[k].b.L.length ds[k].b.cap (left - ds.length - totW (ds.take k)) w1 hx (by omega) HLb.out)
        have HK := hide hkw
        clear hkw HLb
        generalize ds[k] = c at *
        unfold Bs.v at c1
        generalize totW (ds.take k) = t at *
        by_cases hle : (c.b.L.length : Int) ≤ left - ds.length - t
        · rw [if_pos hle] at HSz
          go_wp2_with fail
          refine (unhide HSz _).mono ?_
          rintro e w1 ⟨rfl, hk1⟩
          replace HK := hide (HK.out.trans hk1)
          clear hk1
          go_wp2_with fail
          go_roundw
          case rel => exact ⟨k + 1, by omega, by rw [HT.out]; congr 1; omega, by rw [HT.out]; omega, by go_num, HK.out⟩
          case measure => simp [intOf]; omega
        · rw [if_neg hle] at HSz
          go_wp2_with fail
          refine (unhide HSz _).mono ?_
          rintro e w1 ⟨rfl, hk1⟩
          replace HK := hide (HK.out.trans hk1)
          clear hk1
          go_wp2_with fail
          go_ret
          exact ⟨-1, rfl, fun h => absurd h (by decide), HK.out⟩
      · have e : k = ds.length := by omega
        subst e
        go_wp2_with fail
        go_ret
        exact ⟨_, rfl, fun _ => by rw [List.take_length], hkw⟩
  · have hlt' : left < (ds.length : Int) := by omega
    clear hlt
    go_enter Tryd.func23, Tryd.ntmps23
    go_wp2_with fail
    go_ret
    exact ⟨-1, rfl, fun h => absurd h (by decide), Keeps.refl _⟩

theorem infoWrite : (Tryd.prog.info? 81).map (fun i => (i.zero, i.size, i.bytes)) = some (some (.agg #[.int .i64 0, .slice none 0 0]), 2, 32) := by kernel_rfl
theorem underWrites : Tryd.prog.underlying 31 = some (.slice 81) := by kernel_rfl
theorem make_writes (n : Nat) (hn : n ≤ 1048576) (w : World) : (Instr.makeSlice 31 (.int .i64 (n : Int)) (.int .i64 (n : Int))).run Tryd.prog w = .ok (.slice (some ⟨w.heap.size, 0, none⟩) n n) (w.alloc (.cells (madeCells #[.int .i64 0, .slice none 0 0] (n * 2)) 81)) := by
  have hI := infoWrite
  cases hi : Tryd.prog.info? 81 with
  | none => rw [hi] at hI; simp at hI
  | some i =>
    rw [hi] at hI
    simp at hI
    obtain ⟨hz, hs, hb⟩ := hI
    have h := run_make (P := Tryd.prog) w 31 81 i _ underWrites hi hz .i64 .i64 n n (by omega) (Int.le_refl _) (by rw [hb]; omega) (by omega)
    rw [hs] at h
    simpa [Value.cells] using h
theorem room_writes (w : World) (n : Nat) : Room (w.alloc (.cells (madeCells #[.int .i64 0, .slice none 0 0] (n * 2)) 81)) w.heap.size (n * 2) := by
  have hB : (w.alloc (.cells (madeCells #[.int .i64 0, .slice none 0 0] (n * 2)) 81)).heap[w.heap.size]? = some (.cells (madeCells #[.int .i64 0, .slice none 0 0] (n * 2)) 81 (0, 0)) := blk_alloc_new w _
  have hs : (madeCells #[Value.int .i64 0, .slice none 0 0] (n * 2)).size = n * 2 := size_madeCells _ _
  revert hB hs
  generalize w.alloc _ = W
  generalize madeCells _ _ = c
  intro hB hs
  refine ⟨fun j hj => ⟨c[j]'(by omega), ?_⟩, fun o => by simp [World.frozen?, hB]⟩
  simp [World.cell?, hB, show j < c.size by omega]

theorem segsW_snoc (nb : List Wr) (b : Wr) : (nb ++ [b]).map Wr.seg = nb.map Wr.seg ++ [b.seg] := by simp
theorem set_cell2 {w : World} {B n : Nat} {nb : List Wr} {x : Wr} (hr : Room w B (n * 2)) (hn : nb.length < n) (hc : ∀ j (hj : j < (wcells nb).length), w.cell? ⟨B, j, none⟩ = some (wcells nb)[j]) :
    ∀ j (hj : j < (wcells (nb ++ [x])).length), ((w.setCell ⟨B, nb.length * 2, none⟩ (.int .i64 x.i)).setCell ⟨B, nb.length * 2 + 1, none⟩ x.b.v).cell? ⟨B, j, none⟩ = some (wcells (nb ++ [x]))[j] := by
  intro j hj
  have hl := wcells_len nb
  rw [wcells_len, List.length_append, List.length_singleton] at hj
  by_cases e1 : j = nb.length * 2 + 1
  · subst e1
    obtain ⟨u, hu⟩ := (hr.set (nb.length * 2) (.int .i64 x.i)).cell (nb.length * 2 + 1) (by omega)
    rw [World.cell?_setCell_same _ _ _ hu]
    congr 1
    simp only [wcells_snoc]
    rw [List.getElem_append_right (by omega)]
    simp [hl]
  · rw [World.cell?_setCell_other _ _ _ _ (by simp)]
    by_cases e : j = nb.length * 2
    · subst e
      obtain ⟨u, hu⟩ := hr.cell (nb.length * 2) (by omega)
      rw [World.cell?_setCell_same _ _ _ hu]
      congr 1
      simp only [wcells_snoc]
      rw [List.getElem_append_right (by omega)]
      simp [hl]
    · rw [World.cell?_setCell_other _ _ _ _ (by simp), hc j (by omega)]
      congr 1
      simp only [wcells_snoc]
      rw [List.getElem_append_left (by omega)]
def Wr.key (x : Wr) : Int × List UInt8 := (x.i, x.b.L)
set_option maxHeartbeats 1000000 in
theorem toWriteS_k (a : Option Addr) (cap : Nat) (ds : List Wr) (w : World) (hc : Cells w a (wcells ds)) (hm : Mem w (ds.map Wr.seg)) (hl : ds.length ≤ 1048576) (ht : ∀ x ∈ ds, x.b.L.length ≤ 1048576) :
    Calls Tryd.prog 28 #[.slice a ds.length cap] w fun e w' => ∃ (g : Nat) (nb : List Wr), e = .returned (.slice (some ⟨g, 0, none⟩) ds.length ds.length) ∧ nb.map Wr.key = ds.map Wr.key ∧ (∀ x ∈ nb, x.b.fit) ∧
      Born w w' ((some ⟨g, 0, none⟩, wcells nb) :: nb.map Wr.seg) ∧ Keeps w w' := by
  have HC := hide hc
  have HM := hide hm
  have HT := hide ht
  clear hc hm ht
  have hmk := make_writes ds.length hl
  have HR := hide (room_writes w ds.length)
  have HKA := hide (Keeps.alloc (Keeps.refl w) (.cells (madeCells #[.int .i64 0, .slice none 0 0] (ds.length * 2)) 81))
  have HZ : Hid ((w.alloc (.cells (madeCells #[.int .i64 0, .slice none 0 0] (ds.length * 2)) 81)).heap.size = w.heap.size + 1) := by show _ = _; simp
  go_enter Tryd.func28, Tryd.ntmps28
  go_wp2_with fail
  clear hmk
  generalize w.alloc (.cells (madeCells #[.int .i64 0, .slice none 0 0] (ds.length * 2)) 81) = W0 at *
  go_loopw [4] (fun y w1 => ∃ (k : Nat) (nb : List Wr), k ≤ ds.length ∧ nb.length = k ∧ y = .int .i64 (k : Int) ∧ Hid (nb.map Wr.key = (ds.take k).map Wr.key) ∧ Hid (∀ x ∈ nb, x.b.fit) ∧ Hid (Room w1 w.heap.size (ds.length * 2)) ∧ Hid (∀ j (hj : j < (wcells nb).length), w1.cell? ⟨w.heap.size, j, none⟩ = some (wcells nb)[j]) ∧ Hid (Born W0 w1 (nb.map Wr.seg)) ∧ Hid (Keeps w w1) ∧ w.heap.size < w1.heap.size) (fun y _ => ds.length - (intOf y).toNat)
  case atStart => exact ⟨0, [], by omega, rfl, rfl, rfl, fun b hb => absurd hb (by simp), HR, fun j hj => absurd hj (by simp [wcells]), Born.nil _ _, HKA, by have := HZ.out; omega⟩
  case round =>
    obtain ⟨k, nb, hk, rfl, rfl, HD, HN, HRo, HCe, HB, HK, hz⟩ := hrel
    by_cases hlt : nb.length < ds.length
    · obtain ⟨b, off, ea, c0, c1⟩ := cell2 (HC.out.kept HK.out) nb.length hlt
      subst ea
      have HMk : Hid (Cells wr ds[nb.length].b.a (bys ds[nb.length].b.L)) := (HM.out ds[nb.length].seg (List.mem_map.2 ⟨_, List.getElem_mem hlt, rfl⟩)).kept HK.out
      have HTk := hide (HT.out _ (List.getElem_mem hlt))
      have HDk : Hid ((ds.take (nb.length + 1)).map Wr.key = (ds.take nb.length).map Wr.key ++ [ds[nb.length].key]) := by show _ = _; rw [List.take_succ_eq_append_getElem hlt, List.map_append]; rfl
      generalize ds[nb.length] = c at *
      obtain ⟨ci, ca, cc, cL⟩ := c
      unfold Bs.v at c1
      dsimp only at c0 c1 HMk HTk HDk
      go_wp2_with fail
      refine (toWrite_k ci ca cc cL wr HMk.out HTk.out).mono ?_
      rintro x w2 ⟨b1, rfl, hb, hk2⟩
      have HRo2 := hide (HRo.out.kept hk2 hz)
      obtain ⟨u0, d0⟩ := HRo2.out.cell (nb.length * 2) (by omega)
      obtain ⟨u1, d1⟩ := HRo2.out.cell (nb.length * 2 + 1) (by omega)
      have f0 := HRo2.out.free (nb.length * 2)
      have f1 := HRo2.out.free (nb.length * 2 + 1)
      have HB2 := hide hb
      have HK2 := hide hk2
      clear hb hk2
      go_wp2_with fail
      go_roundw
      case rel =>
        have hbn : ∀ b ∈ fp (nb.map Wr.seg ++ [Wr.seg (Wr.mk ci (Bs.mk (some ⟨b1, 0, none⟩) cL.length cL))]), b ≠ w.heap.size := by
          intro b hb
          rw [fp_append] at hb
          rcases List.mem_append.1 hb with hb | hb
          · have := HB.out.new b hb; have := HZ.out; omega
          · have := HB2.out.new b hb; omega
        have hce := set_cell2 (x := Wr.mk ci (Bs.mk (some ⟨b1, 0, none⟩) cL.length cL)) HRo2.out hlt (fun j hj => HK2.out.cell (HCe.out j hj))
        refine ⟨nb.length + 1, nb ++ [Wr.mk ci (Bs.mk (some ⟨b1, 0, none⟩) cL.length cL)], by omega, by simp, by go_num, ?_, ?_, (HRo2.out.set _ _).set _ _, hce, ?_, ?_, ?_⟩
        · show _ = _
          rw [HDk.out, ← HD.out]; simp [Wr.key]
        · intro b hb
          rcases List.mem_append.1 hb with hb | hb
          · exact HN.out b hb
          · rw [List.mem_singleton.1 hb]; exact ⟨(fun e => nomatch e), Nat.le_refl _⟩
        · show Born _ _ _
          rw [segsW_snoc]
          have hj : Born W0 w2 (nb.map Wr.seg ++ [Wr.seg (Wr.mk ci (Bs.mk (some ⟨b1, 0, none⟩) cL.length cL))]) :=
            ⟨(HB.out.toOwn.kept HK2.out).append HB2.out.toOwn (HB2.out.apart HB.out.mem), fun b hb => by
              rw [fp_append] at hb
              rcases List.mem_append.1 hb with hb | hb
              · exact HB.out.new b hb
              · have := HB2.out.new b hb; have := HZ.out; omega⟩
          exact hj.turn ((Turn.set (fs := [w.heap.size]) (by simp) _).trans' (Turn.set (fs := [w.heap.size]) (by simp) _)) (fun b hb hx => hbn b hb (by simpa using hx))
        · exact Keeps.setCell (Keeps.setCell (HK.out.trans HK2.out) (Nat.le_refl _) _) (Nat.le_refl _) _
        · have := HK2.out.size
          simp [World.setCell]; omega
      case measure => simp [intOf]; omega
    · have e : nb.length = ds.length := by omega
      go_wp2_with fail
      go_ret
      refine ⟨w.heap.size, nb, rfl, by rw [HD.out, e, List.take_length], HN.out, ⟨?_, ?_⟩, HK.out⟩
      · have ho := HRo.out.own HCe.out
        refine Own.append (S := [_]) ho HB.out.toOwn (fun b hb hb' => ?_)
        have h1 := HB.out.new b hb'
        have h2 := HZ.out
        rw [fp_one] at hb
        by_cases h0 : wcells nb = []
        · simp [fpS, h0] at hb
        · simp [fpS, h0] at hb; omega
      · intro b hb
        rw [fp_cons] at hb
        rcases List.mem_append.1 hb with hb | hb
        · by_cases h0 : wcells nb = []
          · simp [fpS, h0] at hb
          · simp [fpS, h0] at hb; omega
        · have h1 := HB.out.new b hb
          have h2 := HZ.out
          omega
end Go.Proofs.YtkdnddckogbgaaaDoor
