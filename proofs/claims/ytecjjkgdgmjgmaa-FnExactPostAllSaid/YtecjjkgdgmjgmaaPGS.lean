/- Lists of postings: in memory, and what the laws do with them. -/
import Derived.Test.YtecjjkgdgmjgmaaPG
namespace Go.Proofs.Ytecjjkgdgmjgmaa
open Go.RowKit Go.Deep
set_option linter.unusedVariables false
set_option maxRecDepth 10000
/-- A list of lines: where it lies, and its lines. -/
structure Bl where
  a : Option Addr
  cap : Nat
  L : List Ln
def Bl.v (b : Bl) : Value := .slice b.a b.L.length b.cap
def Bl.seg (b : Bl) : Seg := (b.a, flat b.L)
/-- A posting. -/
structure Pg where
  i : Int
  b : Bl
def Pg.cells (x : Pg) : List Value := [.int .i64 x.i, x.b.v]
def pcells (ds : List Pg) : List Value := ds.flatMap Pg.cells
section
variable {α : Type} {f : α → List Value} {sz : Nat}
theorem flatMap_lenP (hf : ∀ x, (f x).length = sz) (xs : List α) : (xs.flatMap f).length = xs.length * sz := by
  induction xs with
  | nil => simp
  | cons x t ih => simp [ih, hf, Nat.add_mul]; omega
theorem flatMap_atP (hf : ∀ x, (f x).length = sz) : ∀ (xs : List α) (i : Nat) (hi : i < xs.length) (r : Nat), r < sz → (xs.flatMap f)[i * sz + r]? = (f xs[i])[r]?
  | [], i, h, _, _ => absurd h (Nat.not_lt_zero i)
  | x :: t, 0, h, r, hr => by
    simp only [List.flatMap_cons, Nat.zero_mul, Nat.zero_add, List.getElem_cons_zero]
    exact List.getElem?_append_left (by rw [hf]; exact hr)
  | x :: t, i + 1, h, r, hr => by
    have := flatMap_atP hf t i (by simpa using h) r hr
    simp only [List.flatMap_cons, List.getElem_cons_succ]
    rw [List.getElem?_append_right (by rw [hf, Nat.add_mul]; omega), hf, show (i + 1) * sz + r - sz = i * sz + r by rw [Nat.add_mul]; omega]
    exact this
/-- Cell r of element i of a list in memory. -/
theorem elem_atP {w : World} {a : Option Addr} {xs : List α} (hf : ∀ x, (f x).length = sz) (h : Cells w a (xs.flatMap f)) (i : Nat) (hi : i < xs.length) (hs : 0 < sz) :
    ∃ b off, a = some ⟨b, off, none⟩ ∧ ∀ r (hr : r < (f xs[i]).length), w.cell? ⟨b, off + i * sz + r, none⟩ = some ((f xs[i])[r]) := by
  have hl := flatMap_lenP hf xs
  have hle : i * sz + sz ≤ xs.length * sz := by
    have := Nat.mul_le_mul_right sz (show i + 1 ≤ xs.length from hi)
    rw [Nat.add_mul] at this; omega
  rcases h with h | ⟨b, off, e, h⟩
  · rw [h] at hl
    simp at hl
    omega
  · refine ⟨b, off, e, fun r hr => ?_⟩
    have hr' : r < sz := by rw [hf] at hr; exact hr
    have g := flatMap_atP hf xs i hi r hr'
    rw [List.getElem?_eq_getElem hr, List.getElem?_eq_getElem (by omega)] at g
    rw [Nat.add_assoc, h (i * sz + r) (by omega)]
    exact g
end
theorem cell2P {w : World} {a : Option Addr} {ds : List Pg} (h : Cells w a (pcells ds)) (i : Nat) (hi : i < ds.length) :
    ∃ b off, a = some ⟨b, off, none⟩ ∧ w.cell? ⟨b, off + i * 2, none⟩ = some (.int .i64 ds[i].i) ∧ w.cell? ⟨b, off + i * 2 + 1, none⟩ = some ds[i].b.v := by
  obtain ⟨b, off, e, h⟩ := elem_atP (f := Pg.cells) (sz := 2) (fun _ => rfl) h i hi (by decide)
  exact ⟨b, off, e, h 0 (by simp [Pg.cells]), h 1 (by simp [Pg.cells])⟩
theorem pcells_len (ds : List Pg) : (pcells ds).length = ds.length * 2 := flatMap_lenP (f := Pg.cells) (sz := 2) (fun _ => rfl) ds
theorem pcells_snoc (ds : List Pg) (x : Pg) : pcells (ds ++ [x]) = pcells ds ++ [.int .i64 x.i, x.b.v] := by simp [pcells, Pg.cells]

/-- One list of many has turned. -/
theorem Own.updP {w w' : World} {A B : List Seg} {s s' : Seg} (h : Own w (A ++ s :: B)) (hs : Own w' [s']) (hf : fpS s' = fpS s) (ht : Turn (fp [s]) w w') : Own w' (A ++ s' :: B) := by
  have hA := h.left
  have hB : Own w (s :: B) := h.right
  have hsB : Own w ([s] ++ B) := hB
  have e1 : fp [s] = fpS s := by simp [fp]
  have dA : ∀ b ∈ fp A, b ∉ fp [s] := fun b hb hb' => h.apart b hb (by rw [show s :: B = [s] ++ B from rfl, fp_append]; exact List.mem_append_left _ hb')
  have dB : ∀ b ∈ fp B, b ∉ fp [s] := fun b hb hb' => hsB.apart b hb' hb
  have hA' := hA.turn ht dA
  have hB' := hsB.right.turn ht dB
  have e2 : fp [s'] = fp [s] := by simp [fp, hf]
  have hsB' : Own w' ([s'] ++ B) := hs.append hB' (fun b hb => by rw [e2] at hb; exact hsB.apart b hb)
  refine hA'.append hsB' (fun b hb hb' => ?_)
  refine h.apart b hb ?_
  rw [fp_cons] at hb' ⊢
  rw [← hf]; exact hb'
theorem fp_updP (A B : List Seg) {s s' : Seg} (hf : fpS s' = fpS s) : fp (A ++ s' :: B) = fp (A ++ s :: B) := by
  rw [fp_append, fp_append, fp_cons, fp_cons, hf]
/-- A block of one's own, cell by cell. -/
structure RoomP (w : World) (b n : Nat) : Prop where
  cell : ∀ j, j < n → ∃ u, w.cell? ⟨b, j, none⟩ = some u
  free : ∀ o, w.frozen? ⟨b, o, none⟩ = false
theorem RoomP.kept {w w' : World} {b n : Nat} (h : RoomP w b n) (hk : Keeps w w') (hb : b < w.heap.size) : RoomP w' b n :=
  ⟨fun j hj => by obtain ⟨u, hu⟩ := h.cell j hj; exact ⟨u, hk.cell hu⟩, fun o => by rw [hk.oldF b o hb]; exact h.free o⟩
theorem RoomP.set {w : World} {b n : Nat} (h : RoomP w b n) (j : Nat) (v : Value) : RoomP (w.setCell ⟨b, j, none⟩ v) b n := by
  refine ⟨fun i hi => ?_, fun o => by rw [frozen_set]; exact h.free o⟩
  by_cases e : i = j
  · subst e
    obtain ⟨u, hu⟩ := h.cell i hi
    exact ⟨v, World.cell?_setCell_same _ _ _ hu⟩
  · obtain ⟨u, hu⟩ := h.cell i hi
    exact ⟨u, by rw [World.cell?_setCell_other _ _ _ _ (by simp)]; exact hu⟩
theorem RoomP.own {w : World} {b n : Nat} (h : RoomP w b n) {xs : List Value} (hc : ∀ j (hj : j < xs.length), w.cell? ⟨b, j, none⟩ = some xs[j]) : Own w [(some ⟨b, 0, none⟩, xs)] := by
  refine ⟨?_, ?_, ?_⟩
  · intro s hs
    rw [List.mem_singleton.1 hs]
    exact Or.inr ⟨b, 0, rfl, fun j hj => by rw [Nat.zero_add]; exact hc j hj⟩
  · by_cases h0 : xs = [] <;> simp [fp, fpS, h0]
  · intro g hg
    by_cases h0 : xs = []
    · simp [fp, fpS, h0] at hg
    · simp [fp, fpS, h0] at hg
      subst hg
      exact h.free
def Pg.seg (x : Pg) : Seg := x.b.seg
/-- How many bytes the writes have. -/
def totP (ds : List Pg) : Nat := (ds.map fun x => x.b.L.length).sum
theorem totP_take (ds : List Pg) (k : Nat) (h : k < ds.length) : totP (ds.take (k + 1)) = totP (ds.take k) + ds[k].b.L.length := by
  unfold totP
  rw [List.take_succ_eq_append_getElem h, List.map_append, List.sum_append]
  rfl
theorem totP_le {ds : List Pg} {x : Pg} (h : x ∈ ds) : x.b.L.length ≤ totP ds := by
  induction ds with
  | nil => simp at h
  | cons c t ih =>
    simp only [totP, List.map_cons, List.sum_cons] at ih ⊢
    rcases List.mem_cons.1 h with rfl | h
    · omega
    · have := ih h; omega
theorem totP_append (xs ys : List Pg) : totP (xs ++ ys) = totP xs + totP ys := by simp [totP]
theorem totP_take_le (ds : List Pg) (k : Nat) : totP (ds.take k) ≤ totP ds := by
  have := totP_append (ds.take k) (ds.drop k)
  rw [List.take_append_drop] at this
  omega
theorem mem_segP {w : World} {ds : List Pg} (h : Mem w (ds.map Pg.seg)) (k : Nat) (hk : k < ds.length) : Cells w ds[k].b.a (flat ds[k].b.L) := h ds[k].seg (List.mem_map.2 ⟨_, List.getElem_mem hk, rfl⟩)

set_option maxHeartbeats 1000000 in
theorem szPostingS_k (a : Option Addr) (cap : Nat) (ds : List Pg) (left : Int) (w : World) (hc : Cells w a (pcells ds)) (hok : ∀ x ∈ ds, x.b.L.length ≤ 9223372036854775807) (h0 : 0 ≤ left) (h1 : left ≤ 1048576) (hl : ds.length ≤ 9223372036854775807) :
    Calls Try.prog 29 #[.slice a ds.length cap, .int .i64 left] w fun e w' => ∃ r : Int, e = .returned (.int .i64 r) ∧ (0 ≤ r → r = left - ds.length - totP ds) ∧ Keeps w w' := by
  have HC := hide hc
  have HOK := hide hok
  clear hc hok
  by_cases hlt : (ds.length : Int) ≤ left
  · clear hl
    go_enter Try.func29, Try.ntmps29
    go_wp2_with fail
    go_loopw [1, 5] (fun x y wr => ∃ k : Nat, k ≤ ds.length ∧ x = .int .i64 (left - ds.length - totP (ds.take k)) ∧ 0 ≤ left - ds.length - totP (ds.take k) ∧ y = .int .i64 (k : Int) ∧ Keeps w wr) (fun _ y _ => ds.length - (intOf y).toNat)
    case atStart => exact ⟨0, by omega, by simp [totP], by simp [totP]; omega, rfl, Keeps.refl _⟩
    case round =>
      obtain ⟨k, hk, rfl, hx, rfl, hkw⟩ := hrel
      by_cases hlt' : k < ds.length
      · obtain ⟨b, off, ea, c0, c1⟩ := cell2P (HC.out.kept hkw) k hlt'
        subst ea
        have HT := hide (totP_take ds k hlt')
        have HLb := hide (HOK.out ds[k] (List.getElem_mem hlt'))
        have HSz := hide (fun w1 => szPosting_k ds[k].i ds[k].b.a ds[k].b.L.length ds[k].b.cap (left - ds.length - totP (ds.take k)) w1 hx (by omega) HLb.out)
        have HK := hide hkw
        clear hkw HLb
        generalize ds[k] = c at *
        unfold Bl.v at c1
        generalize totP (ds.take k) = t at *
        by_cases hle : (c.b.L.length : Int) ≤ left - ds.length - t
        · rw [if_pos hle] at HSz
          go_wp2_with fail
          refine (unhide HSz _).mono ?_
          rintro e w1 ⟨rfl, hk1⟩
          replace HK := hide (HK.out.trans hk1)
          clear hk1
          go_wp2_with fail
          go_roundw
          case rel => exact ⟨k + 1, by omega, by rw [HT.out]; congr 1; omega, by rw [HT.out]; omega, by go_num, HK.out⟩
          case measure => simp [intOf]; omega
        · rw [if_neg hle] at HSz
          go_wp2_with fail
          refine (unhide HSz _).mono ?_
          rintro e w1 ⟨rfl, hk1⟩
          replace HK := hide (HK.out.trans hk1)
          clear hk1
          go_wp2_with fail
          go_ret
          exact ⟨-1, rfl, fun h => absurd h (by decide), HK.out⟩
      · have e : k = ds.length := by omega
        subst e
        go_wp2_with fail
        go_ret
        exact ⟨_, rfl, fun _ => by rw [List.take_length], hkw⟩
  · have hlt' : left < (ds.length : Int) := by omega
    clear hlt
    go_enter Try.func29, Try.ntmps29
    go_wp2_with fail
    go_ret
    exact ⟨-1, rfl, fun h => absurd h (by decide), Keeps.refl _⟩

theorem infoPosting : (Try.prog.info? 27).map (fun i => (i.zero, i.size, i.bytes)) = some (some (.agg #[.int .i64 0, .slice none 0 0]), 2, 32) := by kernel_rfl
theorem underPostings : Try.prog.underlying 68 = some (.slice 27) := by kernel_rfl
theorem make_postings (n : Nat) (hn : n ≤ 1048576) (w : World) : (Instr.makeSlice 68 (.int .i64 (n : Int)) (.int .i64 (n : Int))).run Try.prog w = .ok (.slice (some ⟨w.heap.size, 0, none⟩) n n) (w.alloc (.cells (madeCells #[.int .i64 0, .slice none 0 0] (n * 2)) 27)) := by
  have hI := infoPosting
  cases hi : Try.prog.info? 27 with
  | none => rw [hi] at hI; simp at hI
  | some i =>
    rw [hi] at hI
    simp at hI
    obtain ⟨hz, hs, hb⟩ := hI
    have h := run_make (P := Try.prog) w 68 27 i _ underPostings hi hz .i64 .i64 n n (by omega) (Int.le_refl _) (by rw [hb]; omega) (by omega)
    rw [hs] at h
    simpa [Value.cells] using h
theorem room_postings (w : World) (n : Nat) : RoomP (w.alloc (.cells (madeCells #[.int .i64 0, .slice none 0 0] (n * 2)) 27)) w.heap.size (n * 2) := by
  have hB : (w.alloc (.cells (madeCells #[.int .i64 0, .slice none 0 0] (n * 2)) 27)).heap[w.heap.size]? = some (.cells (madeCells #[.int .i64 0, .slice none 0 0] (n * 2)) 27 (0, 0)) := blk_alloc_new w _
  have hs : (madeCells #[Value.int .i64 0, .slice none 0 0] (n * 2)).size = n * 2 := size_madeCells _ _
  revert hB hs
  generalize w.alloc _ = W
  generalize madeCells _ _ = c
  intro hB hs
  refine ⟨fun j hj => ⟨c[j]'(by omega), ?_⟩, fun o => by simp [World.frozen?, hB]⟩
  simp [World.cell?, hB, show j < c.size by omega]

theorem segsP_snoc (nb : List Pg) (b : Pg) : (nb ++ [b]).map Pg.seg = nb.map Pg.seg ++ [b.seg] := by simp
theorem set_cell2P {w : World} {B n : Nat} {nb : List Pg} {x : Pg} (hr : RoomP w B (n * 2)) (hn : nb.length < n) (hc : ∀ j (hj : j < (pcells nb).length), w.cell? ⟨B, j, none⟩ = some (pcells nb)[j]) :
    ∀ j (hj : j < (pcells (nb ++ [x])).length), ((w.setCell ⟨B, nb.length * 2, none⟩ (.int .i64 x.i)).setCell ⟨B, nb.length * 2 + 1, none⟩ x.b.v).cell? ⟨B, j, none⟩ = some (pcells (nb ++ [x]))[j] := by
  intro j hj
  have hl := pcells_len nb
  rw [pcells_len, List.length_append, List.length_singleton] at hj
  by_cases e1 : j = nb.length * 2 + 1
  · subst e1
    obtain ⟨u, hu⟩ := (hr.set (nb.length * 2) (.int .i64 x.i)).cell (nb.length * 2 + 1) (by omega)
    rw [World.cell?_setCell_same _ _ _ hu]
    congr 1
    simp only [pcells_snoc]
    rw [List.getElem_append_right (by omega)]
    simp [hl]
  · rw [World.cell?_setCell_other _ _ _ _ (by simp)]
    by_cases e : j = nb.length * 2
    · subst e
      obtain ⟨u, hu⟩ := hr.cell (nb.length * 2) (by omega)
      rw [World.cell?_setCell_same _ _ _ hu]
      congr 1
      simp only [pcells_snoc]
      rw [List.getElem_append_right (by omega)]
      simp [hl]
    · rw [World.cell?_setCell_other _ _ _ _ (by simp), hc j (by omega)]
      congr 1
      simp only [pcells_snoc]
      rw [List.getElem_append_left (by omega)]
def Pg.key (x : Pg) : Int × List Ln := (x.i, x.b.L)
set_option maxHeartbeats 1000000 in
theorem toPostingS_k (a : Option Addr) (cap : Nat) (ds : List Pg) (w : World) (hc : Cells w a (pcells ds)) (hm : Mem w (ds.map Pg.seg)) (hl : ds.length ≤ 1048576) (ht : ∀ x ∈ ds, x.b.L.length ≤ 1048576) :
    Calls Try.prog 31 #[.slice a ds.length cap] w fun e w' => ∃ (g : Nat) (nb : List Pg), e = .returned (.slice (some ⟨g, 0, none⟩) ds.length ds.length) ∧ nb.map Pg.key = ds.map Pg.key ∧ True ∧
      Born w w' ((some ⟨g, 0, none⟩, pcells nb) :: nb.map Pg.seg) ∧ Keeps w w' := by
  have HC := hide hc
  have HM := hide hm
  have HT := hide ht
  clear hc hm ht
  have hmk := make_postings ds.length hl
  have HR := hide (room_postings w ds.length)
  have HKA := hide (Keeps.alloc (Keeps.refl w) (.cells (madeCells #[.int .i64 0, .slice none 0 0] (ds.length * 2)) 27))
  have HZ : Hid ((w.alloc (.cells (madeCells #[.int .i64 0, .slice none 0 0] (ds.length * 2)) 27)).heap.size = w.heap.size + 1) := by show _ = _; simp
  go_enter Try.func31, Try.ntmps31
  go_wp2_with fail
  clear hmk
  generalize w.alloc (.cells (madeCells #[.int .i64 0, .slice none 0 0] (ds.length * 2)) 27) = W0 at *
  go_loopw [4] (fun y w1 => ∃ (k : Nat) (nb : List Pg), k ≤ ds.length ∧ nb.length = k ∧ y = .int .i64 (k : Int) ∧ Hid (nb.map Pg.key = (ds.take k).map Pg.key) ∧ True ∧ Hid (RoomP w1 w.heap.size (ds.length * 2)) ∧ Hid (∀ j (hj : j < (pcells nb).length), w1.cell? ⟨w.heap.size, j, none⟩ = some (pcells nb)[j]) ∧ Hid (Born W0 w1 (nb.map Pg.seg)) ∧ Hid (Keeps w w1) ∧ w.heap.size < w1.heap.size) (fun y _ => ds.length - (intOf y).toNat)
  case atStart => exact ⟨0, [], by omega, rfl, rfl, rfl, trivial, HR, fun j hj => absurd hj (by simp [pcells]), Born.nil _ _, HKA, by have := HZ.out; omega⟩
  case round =>
    obtain ⟨k, nb, hk, rfl, rfl, HD, HN, HRo, HCe, HB, HK, hz⟩ := hrel
    by_cases hlt : nb.length < ds.length
    · obtain ⟨b, off, ea, c0, c1⟩ := cell2P (HC.out.kept HK.out) nb.length hlt
      subst ea
      have HMk : Hid (Cells wr ds[nb.length].b.a (flat ds[nb.length].b.L)) := (HM.out ds[nb.length].seg (List.mem_map.2 ⟨_, List.getElem_mem hlt, rfl⟩)).kept HK.out
      have HTk := hide (HT.out _ (List.getElem_mem hlt))
      have HDk : Hid ((ds.take (nb.length + 1)).map Pg.key = (ds.take nb.length).map Pg.key ++ [ds[nb.length].key]) := by show _ = _; rw [List.take_succ_eq_append_getElem hlt, List.map_append]; rfl
      generalize ds[nb.length] = c at *
      obtain ⟨ci, ca, cc, cL⟩ := c
      unfold Bl.v at c1
      dsimp only at c0 c1 HMk HTk HDk
      go_wp2_with fail
      refine (toPosting_o ci ca cc cL wr HMk.out HTk.out).mono ?_
      rintro x w2 ⟨b1, rfl, hb, hk2⟩
      have HRo2 := hide (HRo.out.kept hk2 hz)
      obtain ⟨u0, d0⟩ := HRo2.out.cell (nb.length * 2) (by omega)
      obtain ⟨u1, d1⟩ := HRo2.out.cell (nb.length * 2 + 1) (by omega)
      have f0 := HRo2.out.free (nb.length * 2)
      have f1 := HRo2.out.free (nb.length * 2 + 1)
      have HB2 := hide hb
      have HK2 := hide hk2
      clear hb hk2
      go_wp2_with fail
      go_roundw
      case rel =>
        have hbn : ∀ b ∈ fp (nb.map Pg.seg ++ [Pg.seg (Pg.mk ci (Bl.mk (some ⟨b1, 0, none⟩) cL.length cL))]), b ≠ w.heap.size := by
          intro b hb
          rw [fp_append] at hb
          rcases List.mem_append.1 hb with hb | hb
          · have := HB.out.new b hb; have := HZ.out; omega
          · have := HB2.out.new b hb; omega
        have hce := set_cell2P (x := Pg.mk ci (Bl.mk (some ⟨b1, 0, none⟩) cL.length cL)) HRo2.out hlt (fun j hj => HK2.out.cell (HCe.out j hj))
        refine ⟨nb.length + 1, nb ++ [Pg.mk ci (Bl.mk (some ⟨b1, 0, none⟩) cL.length cL)], by omega, by simp, by go_num, ?_, ?_, (HRo2.out.set _ _).set _ _, hce, ?_, ?_, ?_⟩
        · show _ = _
          rw [HDk.out, ← HD.out]; simp [Pg.key]
        · trivial
        · show Born _ _ _
          rw [segsP_snoc]
          have hj : Born W0 w2 (nb.map Pg.seg ++ [Pg.seg (Pg.mk ci (Bl.mk (some ⟨b1, 0, none⟩) cL.length cL))]) :=
            ⟨(HB.out.toOwn.kept HK2.out).append HB2.out.toOwn (HB2.out.apart HB.out.mem), fun b hb => by
              rw [fp_append] at hb
              rcases List.mem_append.1 hb with hb | hb
              · exact HB.out.new b hb
              · have := HB2.out.new b hb; have := HZ.out; omega⟩
          exact hj.turn ((Turn.set (fs := [w.heap.size]) (by simp) _).trans' (Turn.set (fs := [w.heap.size]) (by simp) _)) (fun b hb hx => hbn b hb (by simpa using hx))
        · exact Keeps.setCell (Keeps.setCell (HK.out.trans HK2.out) (Nat.le_refl _) _) (Nat.le_refl _) _
        · have := HK2.out.size
          simp [World.setCell]; omega
      case measure => simp [intOf]; omega
    · have e : nb.length = ds.length := by omega
      go_wp2_with fail
      go_ret
      refine ⟨w.heap.size, nb, rfl, by rw [HD.out, e, List.take_length], trivial, ⟨?_, ?_⟩, HK.out⟩
      · have ho := HRo.out.own HCe.out
        refine Own.append (S := [_]) ho HB.out.toOwn (fun b hb hb' => ?_)
        have h1 := HB.out.new b hb'
        have h2 := HZ.out
        rw [fp_one] at hb
        by_cases h0 : pcells nb = []
        · simp [fpS, h0] at hb
        · simp [fpS, h0] at hb; omega
      · intro b hb
        rw [fp_cons] at hb
        rcases List.mem_append.1 hb with hb | hb
        · by_cases h0 : pcells nb = []
          · simp [fpS, h0] at hb
          · simp [fpS, h0] at hb; omega
        · have h1 := HB.out.new b hb
          have h2 := HZ.out
          omega
set_option maxHeartbeats 1000000 in
theorem eqPostingS_k (a a' : Option Addr) (cap cap' : Nat) (xs ys : List Pg) (w : World) (he : ys.map Pg.key = xs.map Pg.key) (hc : Cells w a (pcells xs)) (hm : Mem w (xs.map Pg.seg)) (hc' : Cells w a' (pcells ys)) (hm' : Mem w (ys.map Pg.seg)) (hl : xs.length ≤ 1048576) (ht : ∀ x ∈ xs, x.b.L.length ≤ 1048576) :
    Calls Try.prog 33 #[.slice a xs.length cap, .slice a' ys.length cap'] w fun e w' => e = .returned (.bool true) ∧ Keeps w w' := by
  have HC := hide hc
  have HC' := hide hc'
  have HM := hide hm
  have HM' := hide hm'
  have hn : ys.length = xs.length := by have := congrArg List.length he; simpa using this
  have HE := hide he
  have HT := hide ht
  have hn' : ((xs.length : Int) != (ys.length : Int)) = false := by rw [hn]; simp
  have HN := hide hn
  clear hc hc' hm hm' he ht hn
  go_enter Try.func33, Try.ntmps33
  go_wp2_with fail
  go_loopw [5] (fun y w1 => ∃ k : Nat, k ≤ xs.length ∧ y = .int .i64 (k : Int) ∧ Keeps w w1) (fun y _ => xs.length - (intOf y).toNat)
  case atStart => exact ⟨0, by omega, rfl, Keeps.refl _⟩
  case round =>
    obtain ⟨k, hk, rfl, hkw⟩ := hrel
    by_cases hlt : k < xs.length
    · have hlt' : k < ys.length := by have := HN.out; omega
      obtain ⟨b, off, ea, c0, c1⟩ := cell2P (HC.out.kept hkw) k hlt
      obtain ⟨b', off', ea', d0, d1⟩ := cell2P (HC'.out.kept hkw) k hlt'
      subst ea ea'
      have hK : ys[k].key = xs[k].key := by
        have h := congrArg (fun l => l[k]?) HE.out
        simpa [hlt, hlt'] using h
      have hL : ys[k].b.L = xs[k].b.L := congrArg Prod.snd hK
      have hI : ys[k].i = xs[k].i := congrArg Prod.fst hK
      clear hK
      have HQ := hide (fun t => eqPosting_o xs[k].i xs[k].b.a ys[k].b.a xs[k].b.cap ys[k].b.cap xs[k].b.L (gr wr t) (((mem_segP HM.out k hlt).kept hkw).kept (gr_keeps wr t)) (by rw [← hL]; exact ((mem_segP HM'.out k hlt').kept hkw).kept (gr_keeps wr t)) (HT.out _ (List.getElem_mem hlt)))
      have g0 := gr_cell c0
      have g1 := gr_cell c1
      have g2 := gr_cell d0
      have g3 := gr_cell d1
      unfold Bl.v at c1 d1 g1 g3
      rw [hL] at d1 g3
      rw [hI] at d0 g2
      clear hL hI
      generalize xs[k] = x at *
      generalize ys[k] = y at *
      obtain ⟨xi, xa, xc, xL⟩ := x
      obtain ⟨yi, ya, yc, yL⟩ := y
      dsimp only at c0 c1 d0 d1 g0 g1 g2 g3 HQ
      go_wp2_with fail
      refine region_gr (by kernel_rfl) (by kernel_rfl) ?_
      repeat (go_big_quiet_step (first | (go_at_call 25; exact gr_call (unhide HQ _))))
      refine wpQuiet_nil ?_
      intro w' hw'
      have hk' := hkw.trans (Keeps.of_gr hw')
      clear hw'
      go_wp2_with fail
      go_roundw
      case rel => exact ⟨k + 1, by omega, by go_num, hk'⟩
      case measure => simp [intOf]; omega
    · go_wp2_with fail
      go_ret
      exact ⟨rfl, hkw⟩

/-- Lines that bear the marks from n on. -/
def mkN (n m : Nat) : List Ln := mkL (n : Int) m
theorem mkN_len (n m : Nat) : (mkN n m).length = m := mkL_len m _
theorem markLineS_n (a : Option Addr) (cap : Nat) (L : List Ln) (n : Nat) (w : World) (h : Own w [(a, flat L)]) (hl : L.length ≤ 1048576) (hn : n ≤ 1000000000) :
    Calls Try.prog 60 #[.slice a L.length cap, .int .i64 (n : Int)] w fun e w' => e = .returned (.int .i64 ((n + 3 * L.length : Nat) : Int)) ∧ Own w' [(a, flat (mkN n L.length))] ∧ Turn (fp [(a, flat L)]) w w' := by
  refine (markLineS_o a cap L (n : Int) w h hl (by omega) (by omega)).mono ?_
  rintro e w' ⟨rfl, ho, ht⟩
  exact ⟨by congr 2, ho, ht⟩
/-- The postings with marks from n on. -/
def markP (n : Nat) : List Pg → List Pg
  | [] => []
  | x :: t => ⟨(n : Int), ⟨x.b.a, x.b.cap, mkN (n + 1) x.b.L.length⟩⟩ :: markP (n + 1 + 3 * x.b.L.length) t
theorem markP_len : ∀ (n : Nat) (ds : List Pg), (markP n ds).length = ds.length
  | _, [] => rfl
  | n, b :: t => by simp [markP, markP_len]
theorem markP_append : ∀ (n : Nat) (xs ys : List Pg), markP n (xs ++ ys) = markP n xs ++ markP (n + xs.length + 3 * totP xs) ys
  | n, [], ys => by simp [markP, totP]
  | n, b :: t, ys => by
    have := markP_append (n + 1 + 3 * b.b.L.length) t ys
    simp only [List.cons_append, markP, this, totP, List.map_cons, List.sum_cons, List.length_cons]
    congr 3
    omega
theorem pcells_append (xs ys : List Pg) : pcells (xs ++ ys) = pcells xs ++ pcells ys := by simp [pcells]
theorem cells_setP {w : World} {g off : Nat} {xs : List Value} (hc : ∀ j (hj : j < xs.length), w.cell? ⟨g, off + j, none⟩ = some xs[j]) (i : Nat) (v : Value) (hi : i < xs.length) : ∀ j (hj : j < (xs.set i v).length), (w.setCell ⟨g, off + i, none⟩ v).cell? ⟨g, off + j, none⟩ = some (xs.set i v)[j] := by
  intro j hj
  have hj' : j < xs.length := by simpa using hj
  by_cases e : j = i
  · subst e
    rw [World.cell?_setCell_same _ _ _ (hc j hj')]; simp
  · rw [World.cell?_setCell_other _ _ _ _ (by simp), hc j hj', List.getElem_set_ne (Ne.symm e)]
/-- One cell of a list of one's own was written. -/
theorem Own.setCellP {w : World} {g off : Nat} {xs : List Value} (h : Own w [(some ⟨g, off, none⟩, xs)]) (i : Nat) (v : Value) (hi : i < xs.length) : Own (w.setCell ⟨g, off + i, none⟩ v) [(some ⟨g, off, none⟩, xs.set i v)] := by
  refine h.wrote (by simp) (Or.inr ⟨g, off, rfl, cells_setP ?_ i v hi⟩) (fun p => frozen_set ..)
  rcases h.one with h' | ⟨g', off', e, h'⟩
  · rw [h'] at hi; simp at hi
  · have e' := Option.some.inj e
    injection e' with e1 e2
    subst e1 e2
    exact h'
theorem pcells_setP (A B : List Pg) (x : Pg) (n : Int) : (pcells (A ++ x :: B)).set (A.length * 2) (.int .i64 n) = pcells (A ++ ⟨n, x.b⟩ :: B) := by
  have hl := pcells_len A
  rw [pcells_append, pcells_append, List.set_append_right _ _ (by omega), hl]
  simp [pcells, Pg.cells]
set_option maxHeartbeats 4000000 in
theorem markPostingS_k (a : Option Addr) (cap : Nat) (ds : List Pg) (n : Nat) (w : World) (h : Own w ((a, pcells ds) :: ds.map Pg.seg)) (hl : ds.length ≤ 1048576) (ht : totP ds ≤ 1048576) (hn : n ≤ 900000000) :
    Calls Try.prog 34 #[.slice a ds.length cap, .int .i64 (n : Int)] w fun e w' => e = .returned (.int .i64 ((n + ds.length + 3 * totP ds : Nat) : Int)) ∧ Own w' ((a, pcells (markP n ds)) :: (markP n ds).map Pg.seg) ∧ Turn (fp ((a, pcells ds) :: ds.map Pg.seg)) w w' := by
  have HO := hide h
  clear h
  go_enter Try.func34, Try.ntmps34
  go_wp2_with fail
  go_loopw [1, 5] (fun x y wr => ∃ k : Nat, k ≤ ds.length ∧ x = .int .i64 ((n + k + 3 * totP (ds.take k) : Nat) : Int) ∧ y = .int .i64 (k : Int) ∧ Hid (Own wr ((a, pcells (markP n (ds.take k) ++ ds.drop k)) :: (markP n (ds.take k) ++ ds.drop k).map Pg.seg)) ∧ Hid (fp ((a, pcells (markP n (ds.take k) ++ ds.drop k)) :: (markP n (ds.take k) ++ ds.drop k).map Pg.seg) = fp ((a, pcells ds) :: ds.map Pg.seg)) ∧ Hid (Turn (fp ((a, pcells ds) :: ds.map Pg.seg)) w wr)) (fun _ y _ => ds.length - (intOf y).toNat)
  case atStart => exact ⟨0, by omega, by simp [totP], rfl, by show Own _ _; simpa [markP] using HO.out, by show _ = _; simp [markP], Turn.refl _ _⟩
  case round =>
    obtain ⟨k, hk, rfl, rfl, HOr, HF, HT⟩ := hrel
    by_cases hlt : k < ds.length
    · have HTt : Hid (3 * totP (ds.take (k + 1)) = 3 * totP (ds.take k) + 3 * ds[k].b.L.length) := by show _ = _; rw [totP_take ds k hlt]; omega
      have hle : ds[k].b.L.length ≤ totP ds := totP_le (List.getElem_mem hlt)
      have hle2 : 3 * totP (ds.take k) ≤ 3 * totP ds := by have := totP_take_le ds k; omega
      have HDr : Hid (ds.drop k = ds[k] :: ds.drop (k + 1)) := List.drop_eq_getElem_cons hlt
      have HTk : Hid (markP n (ds.take (k + 1)) ++ ds.drop (k + 1) = markP n (ds.take k) ++ (Pg.mk ((n + k + 3 * totP (ds.take k) : Nat) : Int) (Bl.mk ds[k].b.a ds[k].b.cap (mkN (n + k + 3 * totP (ds.take k) + 1) ds[k].b.L.length))) :: ds.drop (k + 1)) := by
        show _ = _
        rw [List.take_succ_eq_append_getElem hlt, markP_append, List.append_assoc, show (ds.take k).length = k by simp; omega]; rfl
      have HLA : Hid ((markP n (ds.take k)).length = k) := by show _ = _; rw [markP_len]; simp; omega
      rw [HDr.out] at HOr HF
      generalize ds[k] = c at *
      obtain ⟨ki, ka, kc, kL⟩ := c
      dsimp only at HTt HTk hle
      generalize markP n (ds.take k) = A at *
      generalize hB : ds.drop (k + 1) = B at HTk HDr HOr HF
      have HBB := hide hB
      clear hB
      generalize 3 * totP (ds.take k) = t at *
      have hcl : Cells wr a (pcells (A ++ Pg.mk ki (Bl.mk ka kc kL) :: B)) := HOr.out.mem (a, pcells (A ++ Pg.mk ki (Bl.mk ka kc kL) :: B)) (by simp)
      have hkl : k < (A ++ Pg.mk ki (Bl.mk ka kc kL) :: B).length := by have := HLA.out; simp; omega
      obtain ⟨b, off, ea, c0, c1⟩ := cell2P hcl k hkl
      subst ea
      have he : (A ++ Pg.mk ki (Bl.mk ka kc kL) :: B)[k] = Pg.mk ki (Bl.mk ka kc kL) := by
        rw [List.getElem_append_right (by have := HLA.out; omega)]
        simp [HLA.out]
      rw [he] at c0 c1
      dsimp only [Bl.v] at c0 c1
      have HOo : Hid (Own wr [(some (⟨b, off, none⟩ : Addr), pcells (A ++ Pg.mk ki (Bl.mk ka kc kL) :: B))]) := Own.left (S := [_]) (T := (A ++ Pg.mk ki (Bl.mk ka kc kL) :: B).map Pg.seg) HOr.out
      have hne : pcells (A ++ Pg.mk ki (Bl.mk ka kc kL) :: B) ≠ [] := by
        intro e
        have := pcells_len (A ++ Pg.mk ki (Bl.mk ka kc kL) :: B)
        rw [e] at this
        simp at this
      have f0 : wr.frozen? ⟨b, off + k * 2, none⟩ = false := HOo.out.free b (by rw [fp_one, fpS_some hne]; simp) _
      have hset := pcells_setP A B (Pg.mk ki (Bl.mk ka kc kL)) ((n + k + t : Nat) : Int)
      rw [HLA.out] at hset
      have HO1 : Hid (Own (wr.setCell ⟨b, off + k * 2, none⟩ (.int .i64 ((n + k + t : Nat) : Int))) [(some ⟨b, off, none⟩, pcells (A ++ Pg.mk ((n + k + t : Nat) : Int) (Bl.mk ka kc kL) :: B))]) := by
        have h1 := HOo.out.setCellP (k * 2) (.int .i64 ((n + k + t : Nat) : Int)) (by rw [pcells_len]; have := HLA.out; simp; omega)
        rw [hset] at h1
        exact h1
      have hfs : fpS (some (⟨b, off, none⟩ : Addr), pcells (A ++ Pg.mk ((n + k + t : Nat) : Int) (Bl.mk ka kc kL) :: B)) = fpS (some (⟨b, off, none⟩ : Addr), pcells (A ++ Pg.mk ki (Bl.mk ka kc kL) :: B)) := fpS_len (by simp [pcells_len])
      have HOw : Hid (Own (wr.setCell ⟨b, off + k * 2, none⟩ (.int .i64 ((n + k + t : Nat) : Int))) ((some ⟨b, off, none⟩, pcells (A ++ Pg.mk ((n + k + t : Nat) : Int) (Bl.mk ka kc kL) :: B)) :: (A ++ Pg.mk ki (Bl.mk ka kc kL) :: B).map Pg.seg)) :=
        Own.updP (A := []) HOr.out HO1.out hfs (Turn.set (by rw [fp_one, fpS_some hne]; simp) _)
      have HTw : Hid (Turn (fp ((some (⟨b, off, none⟩ : Addr), pcells ds) :: ds.map Pg.seg)) w (wr.setCell ⟨b, off + k * 2, none⟩ (.int .i64 ((n + k + t : Nat) : Int)))) :=
        HT.out.trans' (Turn.set (by rw [← HF.out, fp_cons, fpS_some hne]; simp) _)
      have HFw : Hid (fp ((some (⟨b, off, none⟩ : Addr), pcells (A ++ Pg.mk ((n + k + t : Nat) : Int) (Bl.mk ka kc kL) :: B)) :: (A ++ Pg.mk ki (Bl.mk ka kc kL) :: B).map Pg.seg) = fp ((some (⟨b, off, none⟩ : Addr), pcells ds) :: ds.map Pg.seg)) := by
        show _ = _
        rw [← HF.out, fp_cons, fp_cons, hfs]
      have d1 : (wr.setCell ⟨b, off + k * 2, none⟩ (.int .i64 ((n + k + t : Nat) : Int))).cell? ⟨b, off + k * 2 + 1, none⟩ = some (.slice ka kL.length kc) := by
        rw [World.cell?_setCell_other _ _ _ _ (by simp)]; exact c1
      simp only [Int.natCast_add] at d1 HO1 HOw HTw HFw
      clear HOo HOr HF HT hcl he hset hfs HO1
      go_wp2_with fail
      generalize wr.setCell ⟨b, off + k * 2, none⟩ (.int .i64 ((n : Int) + (k : Int) + (t : Int))) = W1 at *
      have HD : Hid ((some (⟨b, off, none⟩ : Addr), pcells (A ++ Pg.mk ((n : Int) + (k : Int) + (t : Int)) (Bl.mk ka kc kL) :: B)) :: (A ++ Pg.mk ki (Bl.mk ka kc kL) :: B).map Pg.seg = ((some ⟨b, off, none⟩, pcells (A ++ Pg.mk ((n : Int) + (k : Int) + (t : Int)) (Bl.mk ka kc kL) :: B)) :: A.map Pg.seg) ++ (ka, flat kL) :: B.map Pg.seg) := by
        show _ = _
        rw [List.map_append, List.map_cons, List.cons_append]; rfl
      have HOk : Hid (Own W1 [(ka, flat kL)]) := by
        have h2 := HOw.out
        rw [HD.out] at h2
        exact Own.left (S := [_]) (T := B.map Pg.seg) h2.right
      have HMk' := markLineS_n ka kc kL (n + k + t + 1) W1 HOk.out (by omega) (by omega)
      simp only [Int.natCast_add, Int.cast_ofNat_Int] at HMk'
      refine HMk'.mono ?_
      clear HMk'
      rintro e w1 ⟨rfl, ho, htu⟩
      have HO1 := hide ho
      have HT1 := hide htu
      clear ho htu
      have HFS : Hid (fpS (ka, flat (mkN (n + k + t + 1) kL.length)) = fpS (ka, flat kL)) := fpS_len (by simp [flat_length, mkN_len])
      have HWE : Hid (pcells (A ++ Pg.mk ((n : Int) + (k : Int) + (t : Int)) (Bl.mk ka kc kL) :: B) = pcells (A ++ Pg.mk ((n + k + t : Nat) : Int) (Bl.mk ka kc (mkN (n + k + t + 1) kL.length)) :: B)) := by
        show _ = _
        rw [pcells_append, pcells_append]
        simp [pcells, Pg.cells, Bl.v, mkN_len]
      go_wp2_with fail
      go_roundw
      case rel =>
        have hD2 : (some (⟨b, off, none⟩ : Addr), pcells (markP n (ds.take (k + 1)) ++ ds.drop (k + 1))) :: (markP n (ds.take (k + 1)) ++ ds.drop (k + 1)).map Pg.seg = ((some ⟨b, off, none⟩, pcells (A ++ Pg.mk ((n : Int) + (k : Int) + (t : Int)) (Bl.mk ka kc kL) :: B)) :: A.map Pg.seg) ++ (ka, flat (mkN (n + k + t + 1) kL.length)) :: B.map Pg.seg := by
          rw [HBB.out, HTk.out, HWE.out, List.map_append, List.map_cons, List.cons_append]; rfl
        refine ⟨k + 1, by omega, by rw [HTt.out]; congr 1; omega, by go_num, ?_, ?_, ?_⟩
        · show Own _ _
          rw [hD2]
          have h2 := HOw.out
          rw [HD.out] at h2
          exact h2.updP HO1.out HFS.out HT1.out
        · show _ = _
          rw [hD2, fp_updP _ _ HFS.out, ← HD.out, HFw.out]
        · refine HTw.out.trans' (HT1.out.mono ?_)
          intro x hx
          rw [← HFw.out, HD.out, fp_append, fp_cons]
          exact List.mem_append_right _ (List.mem_append_left _ (by rw [fp_one] at hx; exact hx))
      case measure => simp [intOf]; omega
    · have e : k = ds.length := by omega
      subst e
      go_wp2_with fail
      go_ret
      have h2 := HOr.out
      rw [List.take_length, List.drop_length, List.append_nil] at h2
      exact ⟨by simp, h2, HT.out⟩

end Go.Proofs.Ytecjjkgdgmjgmaa
