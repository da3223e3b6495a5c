/- Texts of the verifier, joined: Sls, EvL, LoM, DrG, DrB. -/
import Derived.Test.YtdlgoccbmemjgaaGreatDoorPFnLog15
import Derived.Test.YtdlgoccbmemjgaaGreatDoorPFnLog2
import Derived.Test.YtdlgoccbmemjgaaGreatDoorPFnLog12
import Derived.Test.YtdlgoccbmemjgaaGreatDoorPFnLog13
import Derived.Test.YtdlgoccbmemjgaaGreatDoorPFnLog6
import Derived.Test.YtdlgoccbmemjgaaGreatDoorPFnLog5
import Derived.Test.YtdlgoccbmemjgaaGreatDoorPFnLog1
import Derived.WalkLawsBesides
import Derived.Laws.OwnMore
import Derived.Maps.Range
import Derived.Deep.OwnRows
import Derived.OpenShut
namespace Go.Proofs.YtdlgoccbmemjgaaGreatDoor
open Go.RowKit Go.Deep
set_option linter.unusedVariables false
set_option maxRecDepth 10000

/-- A sector in memory. -/
structure Sc where
  q : Int
  e : Int
  b : Bs
def Sc.cells (x : Sc) : List Value := [.int .i64 x.q, .int .i64 x.e, x.b.v]
def Sc.seg (x : Sc) : Seg := x.b.seg
def Sc.key (x : Sc) : Int × Int × List UInt8 := (x.q, x.e, x.b.L)
def scells (l : List Sc) : List Value := l.flatMap Sc.cells
theorem infoSector : (Tryz.prog.info? 72).map (fun i => (i.zero, i.size, i.bytes)) = some (some (.agg #[.int .i64 0, .int .i64 0, .slice none 0 0]), 3, 40) := by kernel_rfl
theorem underSectors : Tryz.prog.underlying 35 = some (.slice 72) := by kernel_rfl
theorem cell_three_new (w : World) (x y z : Value) (t : TypeId) : ∀ j u, [x, y, z][j]? = some u → (w.alloc (.cells #[x, y, z] t)).cell? ((⟨w.heap.size, 0, none⟩ : Addr).add j) = some u := by
  intro j u hj
  match j, hj with
  | 0, hj => simp at hj; subst hj; simp [Addr.add]
  | 1, hj => simp at hj; subst hj; simp [Addr.add]
  | 2, hj => simp at hj; subst hj; simp [Addr.add]
  | n + 3, hj => simp at hj
theorem run_sector (w : World) (base : Nat) (v : Value) (n : Nat) (xs : List Value) (x y z : Value) (hx : x.oneCell' = true) (hy : y.oneCell' = true) (hz' : z.oneCell' = true) (ty : TypeId) (h : w.ownsRow base 72 3 v n xs) (hn : n ≤ 1048576) (hb : base ≤ w.heap.size) :
    ∃ v' w', (Builtin.append_ #[35, 35] ty #[v, .slice (some ⟨w.heap.size, 0, none⟩) 1 1]).run Tryz.prog (w.alloc (.cells #[x, y, z] 72)) = .ok v' w' ∧ w'.ownsRow base 72 3 v' (n + 1) (xs ++ [x, y, z]) ∧ (w.alloc (.cells #[x, y, z] 72)).grownBy w' v.ownBlock ∧ (v'.ownBlock = v.ownBlock ∨ v'.ownBlock = some (w.alloc (.cells #[x, y, z] 72)).heap.size) := by
  have hI := infoSector
  cases hi : Tryz.prog.info? 72 with
  | none => rw [hi] at hI; simp at hI
  | some i =>
    rw [hi] at hI
    simp at hI
    obtain ⟨hz, hsz, hby⟩ := hI
    obtain ⟨v', w', h1, h2, h3, _, h5⟩ := run_append_own_at (P := Tryz.prog) (w.alloc (.cells #[x, y, z] 72)) base 35 ty 72 i _ 3 40 underSectors hi hz hsz hby rfl (by decide) v n xs (h.alloc _) ⟨w.heap.size, 0, none⟩ 1 1 [x, y, z] rfl (cell_three_new w x y z _) (by intro u hu; simp at hu; rcases hu with rfl | rfl | rfl <;> assumption) (by simp only [maxLen]; omega) (by omega) (by simp; omega)
    exact ⟨v', w', h1, h2, h3, h5⟩
/-- The world as far as block n. -/
def cutW (w : World) (n : Nat) : World := { w with heap := w.heap.extract 0 n }
theorem cutW_size {w : World} {n : Nat} (h : n ≤ w.heap.size) : (cutW w n).heap.size = n := by simp [cutW]; omega
theorem cutW_block {w : World} {n k : Nat} (h : n ≤ w.heap.size) (hk : k < n) : (cutW w n).heap[k]? = w.heap[k]? := by
  show (w.heap.extract 0 n)[k]? = _
  rw [Array.getElem?_extract, if_pos (by omega)]
  simp
theorem cutW_keeps {w : World} {n : Nat} (h : n ≤ w.heap.size) : Keeps (cutW w n) w :=
  ⟨rfl, rfl, rfl, by rw [cutW_size h]; exact h, fun k hk => by rw [cutW_size h] at hk; exact (cutW_block h hk).symm⟩
theorem cutW_turn {w w' : World} {fs : List Nat} (h : Turn fs w w') : Turn fs w (cutW w' w.heap.size) :=
  ⟨h.os, h.tape, h.output, by rw [cutW_size h.size]; exact Nat.le_refl _, fun k hk hn => (cutW_block h.size hk).trans (h.block k hk hn)⟩
/-- A list of structs while it is made, all of it in blocks from base on. -/
def LB {α : Type} (T : TypeId) (sz : Nat) (f : α → List Value) (sg : α → Seg) (base : Nat) (w : World) (v : Value) (nb : List α) : Prop := ∃ w0, w0.heap.size = base ∧ LG T sz f sg w0 w v nb
section
variable {α : Type} {T : TypeId} {sz : Nat} {f : α → List Value} {sg : α → Seg} {base : Nat} {w w1 w2 : World} {v v' : Value} {nb : List α}
theorem owns_turn {n : Nat} {e : TypeId} {xs : List Value} {fs : List Nat} (ht : Turn fs w w1) (hf : ∀ b ∈ fs, b < base) (h : w.ownsRow base e sz v n xs) : w1.ownsRow base e sz v n xs := by
  refine ⟨h.1, ?_⟩
  rcases h.2 with h' | ⟨g, cap, cur, rfl, hb, hg, rest⟩
  · exact .inl h'
  · refine .inr ⟨g, cap, cur, rfl, hb, ?_, rest⟩
    rw [ht.block g (Array.getElem?_eq_some_iff.1 hg).1 (fun hx => by have := hf g hx; omega)]; exact hg
theorem LB.turn (h : LB T sz f sg base w v nb) {fs : List Nat} (ht : Turn fs w w1) (hf : ∀ b ∈ fs, b < base) : LB T sz f sg base w1 v nb := by
  obtain ⟨w0, hb, hL⟩ := h
  have hs : base ≤ w1.heap.size := by have := hL.keeps.size; have := ht.size; omega
  refine ⟨cutW w1 base, cutW_size hs, ?_, ⟨?_, ?_⟩, hL.apart, cutW_keeps hs⟩
  · rw [cutW_size hs]
    have hr := hL.row
    rw [hb] at hr
    exact owns_turn ht hf hr
  · exact hL.inner.toOwn.turn ht (fun x hx hy => by have := hf x hy; have := hL.inner.new x hx; omega)
  · intro x hx
    rw [cutW_size hs]
    have := hL.inner.new x hx
    omega
theorem LB.kept (h : LB T sz f sg base w v nb) (hk : Keeps w w1) : LB T sz f sg base w1 v nb := by
  obtain ⟨w0, hb, hL⟩ := h
  exact ⟨w0, hb, hL.kept hk⟩
theorem LB.nil (T : TypeId) (sz : Nat) (f : α → List Value) (sg : α → Seg) (h : base ≤ w.heap.size) : LB T sz f sg base w (.slice none 0 0) [] :=
  ⟨cutW w base, cutW_size h, LG.nil T sz f sg (World.ownsRow_nil _ _ _ _) (cutW_keeps h)⟩
theorem LB.row (h : LB T sz f sg base w v nb) : w.ownsRow base T sz v nb.length (nb.flatMap f) := by
  obtain ⟨w0, hb, hL⟩ := h
  rw [← hb]
  exact hL.row
theorem LB.size (h : LB T sz f sg base w v nb) : base ≤ w.heap.size := by
  obtain ⟨w0, hb, hL⟩ := h
  have := hL.keeps.size
  omega
/-- One more, whose own list was made behind w (w1: where it is put; of what was there at w only blocks ahead of base have turned). -/
theorem LB.snoc (h : LB T sz f sg base w v nb) {fs : List Nat} (ht : Turn fs w w1) (hf : ∀ b ∈ fs, b < base) {x : α} (hx : Own w1 [sg x]) (hn : ∀ b ∈ fp [sg x], w.heap.size ≤ b) {o : Obj} (hg : (w1.alloc o).grownBy w2 v.ownBlock)
    (hr : w2.ownsRow base T sz v' (nb.length + 1) (nb.flatMap f ++ f x)) (hv : v'.ownBlock = v.ownBlock ∨ v'.ownBlock = some (w1.alloc o).heap.size) : LB T sz f sg base w2 v' (nb ++ [x]) := by
  obtain ⟨w0, hb, hL⟩ := LB.turn h (cutW_turn ht) hf
  refine ⟨w0, hb, hL.snoc (cutW_keeps ht.size) hx ?_ hg (by rw [hb]; exact hr) hv⟩
  intro b hb'
  rw [cutW_size ht.size]
  exact hn b hb'
theorem LB.born (h : LB T sz f sg base w v nb) : ∃ (a : Option Addr) (cap : Nat), v = .slice a nb.length cap ∧ (a = none → cap = 0) ∧ Own w ((a, nb.flatMap f) :: nb.map sg) ∧ ∀ b ∈ fp ((a, nb.flatMap f) :: nb.map sg), base ≤ b := by
  obtain ⟨w0, hw, h⟩ := h
  obtain ⟨a, cap, rfl, _, _, hn, ho, hb⟩ := Own.of_owns h.row
  refine ⟨a, cap, rfl, hn, Own.append (S := [_]) ho h.inner.toOwn (fun b hb1 hb2 => ?_), ?_⟩
  · have : Value.ownBlock (.slice a nb.length cap) = some b := by
      rcases h.row.2 with ⟨e, _⟩ | ⟨g, c, _, e, _⟩
      · injection e with e1
        subst e1
        simp [fp, fpS] at hb1
      · injection e with e1
        subst e1
        by_cases h0 : nb.flatMap f = []
        · simp [fp, fpS, h0] at hb1
        · simp [fp, fpS, h0] at hb1
          subst hb1
          rfl
    exact h.apart b this hb2
  · intro b hb1
    rw [fp_cons] at hb1
    rcases List.mem_append.1 hb1 with hb1 | hb1
    · have := hb b (by rw [fp_one]; exact hb1); omega
    · have := h.inner.new b hb1; omega
end
/-- What the first k sectors say. -/
def secsTo (m : DkM) (k : Nat) : List (Int × Int × List UInt8) := (List.range k).map fun i : Nat => (srQ (readL m i), srE (readL m i), srL (readL m i))
theorem secsTo_succ (m : DkM) (k : Nat) : secsTo m (k + 1) = secsTo m k ++ [(srQ (readL m k), srE (readL m k), srL (readL m k))] := by simp [secsTo, List.range_succ]
theorem secsTo_len (m : DkM) (k : Nat) : (secsTo m k).length = k := by simp [secsTo]
def logS (m : DkM) : List (Int × Int × List UInt8) := secsTo m (logN m)
/-- What LogRead answers. -/
def LrPost (w : World) (m : DkM) (x : Ending) (w' : World) : Prop := ∃ (a : Option Addr) (c : Nat) (nb : List Sc), x = .returned (.tuple #[.slice a nb.length c, .int .i64 (logN m : Nat)]) ∧ nb.map Sc.key = logS m ∧ (a = none → c = 0) ∧ Born w w' ((a, scells nb) :: nb.map Sc.seg) ∧ Keeps w w'
end Go.Proofs.YtdlgoccbmemjgaaGreatDoor
namespace Go.Proofs.YtdlgoccbmemjgaaGreatDoor
open Go.RowKit Go.Deep
set_option linter.unusedVariables false
set_option maxRecDepth 10000

set_option maxHeartbeats 4000000 in
theorem bodyevent_len (a : Option Addr) (L : List UInt8) (cap : Nat) (w : World) (u : TypeId) (pv : Value) (hv : w.cell? ⟨0, 0, none⟩ = some (.iface u pv)) (hl : L.length ≤ 16777216) (h22 : L.length ≠ 22) :
    Calls Tryz.prog 44 #[.slice a L.length cap] w fun e w' => e = .returned (.tuple #[evV 0 0 0 0 0 0 false, .bool false]) ∧ Keeps w w' := by
  have hmf : ∀ (fn : Fn) (first cap : Array Value) (w : World), (Instr.makeFunc fn first cap).run Tryz.prog w = .ok (.func fn first cap) w := fun _ _ _ _ => rfl
  have hk3 := threeE_keeps w a L.length cap
  have HE := hide (event_len (w.heap.size + 1 + 1) a L.length cap (threeE w a L.length cap) u pv (hk3.cell hv) (threeE_rd w a L cap).data hl h22)
  have HO := hide (threeE_own w a L.length cap)
  have H1 := hide (threeE_b w a L.length cap)
  have H2 := hide (threeE_zb w a L.length cap)
  have HK := hide hk3
  clear hk3 hv
  go_enter_defers Tryz.func44, Tryz.ntmps44
  go_wp2_with fail
  go_at_call 82
  refine (unhide HE).mono ?_
  rintro e w1 ⟨rfl, ht⟩
  have hO := HO.out.turn ht (fun x hx hb => by
    rw [fp_one, fpS_some (by simp)] at hx
    simp at hx hb
    omega)
  have t1 := ht.cell (p := ⟨w.heap.size + 1, 0, none⟩) (by simp) H1.out
  have z1 : w1.frozen? ⟨w.heap.size + 1, 0, none⟩ = false := by rw [← H2.out]; exact World.frozen?_of_block (ht.block _ (by simp) (by simp))
  have hk1 : Keeps w w1 := ht.keeps HK.out (fun x hx => by simp at hx; omega)
  clear ht HE HO H1 H2 HK
  have hO2 := own_set' (own_seven hO (.int .i64 0) (.int .i64 0) (.int .i64 0) (.int .i64 0) (.int .i64 0) (.int .i64 0) (.bool false)) (a := ⟨w.heap.size + 1, 0, none⟩) (by simp) (.bool false)
  have hk2 := (keeps_seven hk1 (Nat.le_refl _) (.int .i64 0) (.int .i64 0) (.int .i64 0) (.int .i64 0) (.int .i64 0) (.int .i64 0) (.bool false)).setCell (p := ⟨w.heap.size + 1, 0, none⟩) (Nat.le_succ _) (.bool false)
  have e8 := World.cell?_setCell_same (((((((w1.setCell ⟨w.heap.size, 0, none⟩ (.int .i64 0)).setCell ⟨w.heap.size, 1, none⟩ (.int .i64 0)).setCell ⟨w.heap.size, 2, none⟩ (.int .i64 0)).setCell ⟨w.heap.size, 3, none⟩ (.int .i64 0)).setCell ⟨w.heap.size, 4, none⟩ (.int .i64 0)).setCell ⟨w.heap.size, 5, none⟩ (.int .i64 0)).setCell ⟨w.heap.size, 6, none⟩ (.bool false)) ⟨w.heap.size + 1, 0, none⟩ (.bool false) (seven_other (p := ⟨w.heap.size + 1, 0, none⟩) (by simp) t1 (.int .i64 0) (.int .i64 0) (.int .i64 0) (.int .i64 0) (.int .i64 0) (.int .i64 0) (.bool false))
  have e0 := cell_at hO2.mem 0 (by simp)
  have e1 := cell_at hO2.mem 1 (by simp)
  have e2 := cell_at hO2.mem 2 (by simp)
  have e3 := cell_at hO2.mem 3 (by simp)
  have e4 := cell_at hO2.mem 4 (by simp)
  have e5 := cell_at hO2.mem 5 (by simp)
  have e6 := cell_at hO2.mem 6 (by simp)
  simp only [Nat.zero_add, List.getElem_cons_zero, List.getElem_cons_succ] at e0 e1 e2 e3 e4 e5 e6
  refine leaves_cons (f := 81) (args := #[.pointer (some ⟨w.heap.size, 0, none⟩), .pointer (some ⟨w.heap.size + 1, 0, none⟩)]) (by simp) rfl ?_
  refine (catchE_panic w.heap.size (w.heap.size + 1) (by omega) _ _ _ _ _ _ _ _ u pv [] w1 hO t1 z1).mono ?_
  rintro e u' w' ⟨rfl, rfl, hw'⟩
  rw [← hw'] at e0 e1 e2 e3 e4 e5 e6 e8 hk2
  simp [Leaves, settle, results, Tryz.results44, go_sem, e0, e1, e2, e3, e4, e5, e6, e8, hk2]
theorem get_none (a : Option Addr) (cap : Nat) (p s n : Int) (hn : (0 : Int) = n) (h : (0 : Int) - s < p) (w : World) :
    Calls Tryz.prog 79 #[.slice a 0 cap, .int .i64 p, .int .i64 s] w fun e w' => e = .returned (.tuple #[.int .i64 n, .bool false]) ∧ w' = w := by
  rw [← hn]; exact getspec_no a [] cap p s w (by decide) (.inr (.inr (.inr (by simpa using h))))
set_option maxHeartbeats 8000000 in
theorem bodyspec_none (a : Option Addr) (cap : Nat) (w : World) (k y c t m f q : Int) (b1 : Bool) (ek : (0 : Int) = k) (ey : (0 : Int) = y) (ec : (0 : Int) = c) (et : (0 : Int) = t) (em : (0 : Int) = m) (ef : (0 : Int) = f) (eq : (0 : Int) = q) (hb1 : decide (q = 1) = b1) (hev : evB k y c t m f b1 = false) :
    Calls Tryz.prog 55 #[.slice a 0 cap] w fun e w' => e = .returned (.tuple #[evV 0 0 0 0 0 0 false, .bool false]) ∧ Keeps w w' := by
  have hbR := born_alloc w #[.int .i64 0, .int .i64 0, .int .i64 0, .int .i64 0, .int .i64 0, .int .i64 0, .bool false] 30
  have hkR := Keeps.alloc (Keeps.refl w) (.cells #[.int .i64 0, .int .i64 0, .int .i64 0, .int .i64 0, .int .i64 0, .int .i64 0, .bool false] 30)
  have hbV := born_alloc (w.alloc (.cells #[.int .i64 0, .int .i64 0, .int .i64 0, .int .i64 0, .int .i64 0, .int .i64 0, .bool false] 30)) #[.int .i64 0, .int .i64 0, .int .i64 0, .int .i64 0, .int .i64 0, .int .i64 0, .bool false] 30
  have hkV := Keeps.alloc (Keeps.refl (w.alloc (.cells #[.int .i64 0, .int .i64 0, .int .i64 0, .int .i64 0, .int .i64 0, .int .i64 0, .bool false] 30))) (.cells #[.int .i64 0, .int .i64 0, .int .i64 0, .int .i64 0, .int .i64 0, .int .i64 0, .bool false] 30)
  dsimp only at hbR hbV
  rw [World.size_alloc] at hbV
  have HR := hide (hbR.toOwn.kept hkV)
  have HV := hide hbV.toOwn
  have HK := hide (hkR.trans hkV)
  have HB1 := hide hb1
  have HEV := hide hev
  clear hbR hkR hbV hkV hb1 hev
  have Nk := hide ek
  have Ny := hide ey
  have Nc := hide ec
  have Nt := hide et
  have Nm := hide em
  have Nf := hide ef
  have Nq := hide eq
  clear ek ey ec et em ef eq
  have HN : Hid (w.heap.size + 1 ≠ w.heap.size) := by show _ ≠ _; omega
  go_enter Tryz.func55, Tryz.ntmps55
  go_wp2_with fail
  generalize (w.alloc (.cells #[.int .i64 0, .int .i64 0, .int .i64 0, .int .i64 0, .int .i64 0, .int .i64 0, .bool false] 30)).alloc (.cells #[.int .i64 0, .int .i64 0, .int .i64 0, .int .i64 0, .int .i64 0, .int .i64 0, .bool false] 30) = w1 at *
  go_at_call 79
  refine (get_none a cap 1 1 k Nk.out (by decide) _).mono ?_
  rintro e w' ⟨rfl, hw'⟩
  obtain rfl := Eq.symm hw'
  clear hw'
  have cV := own_cell HV.out 0 (by simp) (v := .int .i64 0) rfl
  have fV := own_free HV.out (by simp) 0
  replace HV : Hid (Own (w1.setCell ⟨w.heap.size + 1, 0, none⟩ (.int .i64 k)) [(some ⟨w.heap.size + 1, 0, none⟩, [.int .i64 k, .int .i64 0, .int .i64 0, .int .i64 0, .int .i64 0, .int .i64 0, .bool false])]) := own_set HV.out 0 (by simp) (.int .i64 k)
  replace HR := hide (own_setS HR.out (a := ⟨w.heap.size + 1, 0, none⟩) HN.out (.int .i64 k))
  replace HK := hide (HK.out.setCell (p := ⟨w.heap.size + 1, 0, none⟩) (Nat.le_succ _) (.int .i64 k))
  go_wp2_with fail
  clear cV fV
  generalize w1.setCell ⟨w.heap.size + 1, 0, none⟩ (.int .i64 k) = w2 at *
  clear w1
  go_at_call 79
  refine (get_none a cap 2 3 y Ny.out (by decide) _).mono ?_
  rintro e w' ⟨rfl, hw'⟩
  obtain rfl := Eq.symm hw'
  clear hw'
  have cV := own_cell HV.out 1 (by simp) (v := .int .i64 0) rfl
  have fV := own_free HV.out (by simp) 1
  replace HV : Hid (Own (w2.setCell ⟨w.heap.size + 1, 1, none⟩ (.int .i64 y)) [(some ⟨w.heap.size + 1, 0, none⟩, [.int .i64 k, .int .i64 y, .int .i64 0, .int .i64 0, .int .i64 0, .int .i64 0, .bool false])]) := own_set HV.out 1 (by simp) (.int .i64 y)
  replace HR := hide (own_setS HR.out (a := ⟨w.heap.size + 1, 1, none⟩) HN.out (.int .i64 y))
  replace HK := hide (HK.out.setCell (p := ⟨w.heap.size + 1, 1, none⟩) (Nat.le_succ _) (.int .i64 y))
  go_wp2_with fail
  clear cV fV
  generalize w2.setCell ⟨w.heap.size + 1, 1, none⟩ (.int .i64 y) = w3 at *
  clear w2
  go_at_call 79
  refine (get_none a cap 5 1 c Nc.out (by decide) _).mono ?_
  rintro e w' ⟨rfl, hw'⟩
  obtain rfl := Eq.symm hw'
  clear hw'
  have cV := own_cell HV.out 2 (by simp) (v := .int .i64 0) rfl
  have fV := own_free HV.out (by simp) 2
  replace HV : Hid (Own (w3.setCell ⟨w.heap.size + 1, 2, none⟩ (.int .i64 c)) [(some ⟨w.heap.size + 1, 0, none⟩, [.int .i64 k, .int .i64 y, .int .i64 c, .int .i64 0, .int .i64 0, .int .i64 0, .bool false])]) := own_set HV.out 2 (by simp) (.int .i64 c)
  replace HR := hide (own_setS HR.out (a := ⟨w.heap.size + 1, 2, none⟩) HN.out (.int .i64 c))
  replace HK := hide (HK.out.setCell (p := ⟨w.heap.size + 1, 2, none⟩) (Nat.le_succ _) (.int .i64 c))
  go_wp2_with fail
  clear cV fV
  generalize w3.setCell ⟨w.heap.size + 1, 2, none⟩ (.int .i64 c) = w4 at *
  clear w3
  go_at_call 79
  refine (get_none a cap 6 1 t Nt.out (by decide) _).mono ?_
  rintro e w' ⟨rfl, hw'⟩
  obtain rfl := Eq.symm hw'
  clear hw'
  have cV := own_cell HV.out 3 (by simp) (v := .int .i64 0) rfl
  have fV := own_free HV.out (by simp) 3
  replace HV : Hid (Own (w4.setCell ⟨w.heap.size + 1, 3, none⟩ (.int .i64 t)) [(some ⟨w.heap.size + 1, 0, none⟩, [.int .i64 k, .int .i64 y, .int .i64 c, .int .i64 t, .int .i64 0, .int .i64 0, .bool false])]) := own_set HV.out 3 (by simp) (.int .i64 t)
  replace HR := hide (own_setS HR.out (a := ⟨w.heap.size + 1, 3, none⟩) HN.out (.int .i64 t))
  replace HK := hide (HK.out.setCell (p := ⟨w.heap.size + 1, 3, none⟩) (Nat.le_succ _) (.int .i64 t))
  go_wp2_with fail
  clear cV fV
  generalize w4.setCell ⟨w.heap.size + 1, 3, none⟩ (.int .i64 t) = w5 at *
  clear w4
  go_at_call 79
  refine (get_none a cap 7 7 m Nm.out (by decide) _).mono ?_
  rintro e w' ⟨rfl, hw'⟩
  obtain rfl := Eq.symm hw'
  clear hw'
  have cV := own_cell HV.out 4 (by simp) (v := .int .i64 0) rfl
  have fV := own_free HV.out (by simp) 4
  replace HV : Hid (Own (w5.setCell ⟨w.heap.size + 1, 4, none⟩ (.int .i64 m)) [(some ⟨w.heap.size + 1, 0, none⟩, [.int .i64 k, .int .i64 y, .int .i64 c, .int .i64 t, .int .i64 m, .int .i64 0, .bool false])]) := own_set HV.out 4 (by simp) (.int .i64 m)
  replace HR := hide (own_setS HR.out (a := ⟨w.heap.size + 1, 4, none⟩) HN.out (.int .i64 m))
  replace HK := hide (HK.out.setCell (p := ⟨w.heap.size + 1, 4, none⟩) (Nat.le_succ _) (.int .i64 m))
  go_wp2_with fail
  clear cV fV
  generalize w5.setCell ⟨w.heap.size + 1, 4, none⟩ (.int .i64 m) = w6 at *
  clear w5
  go_at_call 79
  refine (get_none a cap 14 7 f Nf.out (by decide) _).mono ?_
  rintro e w' ⟨rfl, hw'⟩
  obtain rfl := Eq.symm hw'
  clear hw'
  have cV := own_cell HV.out 5 (by simp) (v := .int .i64 0) rfl
  have fV := own_free HV.out (by simp) 5
  replace HV : Hid (Own (w6.setCell ⟨w.heap.size + 1, 5, none⟩ (.int .i64 f)) [(some ⟨w.heap.size + 1, 0, none⟩, [.int .i64 k, .int .i64 y, .int .i64 c, .int .i64 t, .int .i64 m, .int .i64 f, .bool false])]) := own_set HV.out 5 (by simp) (.int .i64 f)
  replace HR := hide (own_setS HR.out (a := ⟨w.heap.size + 1, 5, none⟩) HN.out (.int .i64 f))
  replace HK := hide (HK.out.setCell (p := ⟨w.heap.size + 1, 5, none⟩) (Nat.le_succ _) (.int .i64 f))
  go_wp2_with fail
  clear cV fV
  generalize w6.setCell ⟨w.heap.size + 1, 5, none⟩ (.int .i64 f) = w7 at *
  clear w6
  go_at_call 79
  refine (get_none a cap 21 1 q Nq.out (by decide) _).mono ?_
  rintro e w' ⟨rfl, hw'⟩
  obtain rfl := Eq.symm hw'
  clear hw'
  have hqb : (q == 1) = b1 := by rw [← HB1.out, Bool.eq_iff_iff]; simp
  have cV := own_cell HV.out 6 (by simp) (v := .bool false) rfl
  have fV := own_free HV.out (by simp) 6
  replace HV : Hid (Own (w7.setCell ⟨w.heap.size + 1, 6, none⟩ (.bool b1)) [(some ⟨w.heap.size + 1, 0, none⟩, [.int .i64 k, .int .i64 y, .int .i64 c, .int .i64 t, .int .i64 m, .int .i64 f, .bool b1])]) := own_set HV.out 6 (by simp) (.bool b1)
  replace HR := hide (own_setS HR.out (a := ⟨w.heap.size + 1, 6, none⟩) HN.out (.bool b1))
  replace HK := hide (HK.out.setCell (p := ⟨w.heap.size + 1, 6, none⟩) (Nat.le_succ _) (.bool b1))
  have e0 := own_cell HV.out 0 (by simp) (v := .int .i64 k) rfl
  have e1 := own_cell HV.out 1 (by simp) (v := .int .i64 y) rfl
  have e2 := own_cell HV.out 2 (by simp) (v := .int .i64 c) rfl
  have e3 := own_cell HV.out 3 (by simp) (v := .int .i64 t) rfl
  have e4 := own_cell HV.out 4 (by simp) (v := .int .i64 m) rfl
  have e5 := own_cell HV.out 5 (by simp) (v := .int .i64 f) rfl
  have e6 := own_cell HV.out 6 (by simp) (v := .bool b1) rfl
  go_wp2_with fail
  clear cV fV hqb
  generalize w7.setCell ⟨w.heap.size + 1, 6, none⟩ (.bool b1) = w8 at *
  clear w7
  go_at_call 38
  refine (body_spec k y c t m f b1 _).mono ?_
  rintro e wB ⟨v, rfl, ho, hk⟩
  rw [HEV.out]
  replace HR := hide (HR.out.kept hk)
  replace HV := hide (HV.out.kept hk)
  have HO := hide ho
  replace HK := hide (HK.out.trans hk)
  clear hk ho e0 e1 e2 e3 e4 e5 e6
  have c0 := own_cell HR.out 0 (by simp) (v := .int .i64 0) rfl
  have c1 := own_cell HR.out 1 (by simp) (v := .int .i64 0) rfl
  have c2 := own_cell HR.out 2 (by simp) (v := .int .i64 0) rfl
  have c3 := own_cell HR.out 3 (by simp) (v := .int .i64 0) rfl
  have c4 := own_cell HR.out 4 (by simp) (v := .int .i64 0) rfl
  have c5 := own_cell HR.out 5 (by simp) (v := .int .i64 0) rfl
  have c6 := own_cell HR.out 6 (by simp) (v := .bool false) rfl
  have fR := own_free HR.out (by simp)
  have HF := hide (own_sevenS HR.out (.int .i64 0) (.int .i64 0) (.int .i64 0) (.int .i64 0) (.int .i64 0) (.int .i64 0) (.bool false))
  have HK2 := hide (keeps_sevenS HK.out (Nat.le_refl w.heap.size) (.int .i64 0) (.int .i64 0) (.int .i64 0) (.int .i64 0) (.int .i64 0) (.int .i64 0) (.bool false))
  go_wp2_with fail
  generalize (((((((wB.setCell ⟨w.heap.size, 0, none⟩ (.int .i64 0)).setCell ⟨w.heap.size, 1, none⟩ (.int .i64 0)).setCell ⟨w.heap.size, 2, none⟩ (.int .i64 0)).setCell ⟨w.heap.size, 3, none⟩ (.int .i64 0)).setCell ⟨w.heap.size, 4, none⟩ (.int .i64 0)).setCell ⟨w.heap.size, 5, none⟩ (.int .i64 0)).setCell ⟨w.heap.size, 6, none⟩ (.bool false)) = wF at *
  clear c0 c1 c2 c3 c4 c5 c6
  have c0 := own_cell HF.out 0 (by simp) (v := .int .i64 0) rfl
  have c1 := own_cell HF.out 1 (by simp) (v := .int .i64 0) rfl
  have c2 := own_cell HF.out 2 (by simp) (v := .int .i64 0) rfl
  have c3 := own_cell HF.out 3 (by simp) (v := .int .i64 0) rfl
  have c4 := own_cell HF.out 4 (by simp) (v := .int .i64 0) rfl
  have c5 := own_cell HF.out 5 (by simp) (v := .int .i64 0) rfl
  have c6 := own_cell HF.out 6 (by simp) (v := .bool false) rfl
  refine bodyPost_ret (v := .tuple #[.agg #[.int .i64 0, .int .i64 0, .int .i64 0, .int .i64 0, .int .i64 0, .int .i64 0, .bool false], .bool false]) ?_ rfl ⟨rfl, HK2.out⟩
  simp [results, Tryz.results55, go_sem, c0, c1, c2, c3, c4, c5, c6]
theorem ebB_len {L : List UInt8} (h : L.length ≠ 22) : ebB L = false := by unfold ebB; rw [decide_eq_false h]; rfl
theorem ebV_no {L : List UInt8} (h : ebB L = false) : ebV L = evV 0 0 0 0 0 0 false := by unfold ebV; rw [h]; rfl
/-- BodyEvent of the program, of whatever list of bytes. -/
theorem bodyevent_any (a : Option Addr) (L : List UInt8) (cap : Nat) (w : World) (u : TypeId) (pv : Value) (hv : w.cell? ⟨0, 0, none⟩ = some (.iface u pv)) (hc : Cells w a (bys L)) (hcb : CapB a cap L.length) (hl : L.length ≤ 16777216) :
    Calls Tryz.prog 44 #[.slice a L.length cap] w fun e w' => e = .returned (.tuple #[ebV L, .bool (ebB L)]) ∧ Keeps w w' := by
  by_cases h22 : L.length = 22
  · rcases hc with h' | ⟨b, off, e, h'⟩
    · have : L = [] := by rw [bys_nil] at h'; exact h'
      subst this
      simp at h22
    · subst e
      exact bodyevent_impl b off L cap w u pv hv (Or.inr ⟨b, off, rfl, h'⟩) hl hcb.2.1 hcb.2.2
  · rw [ebB_len h22, ebV_no (ebB_len h22)]
    exact bodyevent_len a L cap w u pv hv hl h22
theorem bodyspec_any (a : Option Addr) (L : List UInt8) (cap : Nat) (w : World) (hc : Cells w a (bys L)) (hl : L.length ≤ 16777216) :
    Calls Tryz.prog 55 #[.slice a L.length cap] w fun e w' => e = .returned (.tuple #[ebV L, .bool (ebB L)]) ∧ Keeps w w' := by
  rcases hc with h' | ⟨b, off, e, h'⟩
  · have : L = [] := by rw [bys_nil] at h'; exact h'
    subst this
    rw [ebB_len (by decide), ebV_no (ebB_len (by decide))]
    exact bodyspec_none a cap w 0 0 0 0 0 0 0 false rfl rfl rfl rfl rfl rfl rfl rfl rfl
  · subst e
    exact bodyspec b off L cap w (Or.inr ⟨b, off, rfl, h'⟩) hl
/-- An event's cells; it has no list of its own. -/
def Ev.cells (x : Ev) : List Value := [.int .i64 x.k, .int .i64 x.y, .int .i64 x.c, .int .i64 x.t, .int .i64 x.m, .int .i64 x.f, .bool x.b]
def Ev.seg (x : Ev) : Seg := (none, [])
def ecells (l : List Ev) : List Value := l.flatMap Ev.cells
/-- The event in the bytes. -/
def ebE (L : List UInt8) : Ev := if ebB L = true then ⟨(numL (cut L 1 1) : Nat), (numL (cut L 2 3) : Nat), (numL (cut L 5 1) : Nat), (numL (cut L 6 1) : Nat), (numL (cut L 7 7) : Nat), (numL (cut L 14 7) : Nat), decide (numL (cut L 21 1) = 1)⟩ else ⟨0, 0, 0, 0, 0, 0, false⟩
theorem ebV_eq (L : List UInt8) : ebV L = evV (ebE L).k (ebE L).y (ebE L).c (ebE L).t (ebE L).m (ebE L).f (ebE L).b := by
  unfold ebV ebE
  split <;> rfl
/-- The events of the first k sectors. -/
def evsTo (m : DkM) : Nat → List Ev
  | 0 => []
  | k + 1 => if ebB (srL (readL m k)) = true then evsTo m k ++ [ebE (srL (readL m k))] else evsTo m k
theorem evsTo_yes {m : DkM} {k : Nat} (h : ebB (srL (readL m k)) = true) : evsTo m (k + 1) = evsTo m k ++ [ebE (srL (readL m k))] := by simp [evsTo, h]
theorem evsTo_no {m : DkM} {k : Nat} (h : ebB (srL (readL m k)) = false) : evsTo m (k + 1) = evsTo m k := by simp [evsTo, h]
theorem evsTo_len (m : DkM) : ∀ k, (evsTo m k).length ≤ k
  | 0 => Nat.le_refl _
  | k + 1 => by
    have := evsTo_len m k
    unfold evsTo
    split
    · simp; omega
    · omega
theorem infoEvents : (Tryz.prog.info? 30).map (fun i => (i.zero, i.size, i.bytes)) = some (some (evV 0 0 0 0 0 0 false), 7, 56) := by kernel_rfl
theorem underEvents : Tryz.prog.underlying 39 = some (.slice 30) := by kernel_rfl
theorem cell_seven_new (w : World) (x0 x1 x2 x3 x4 x5 x6 : Value) (t : TypeId) : ∀ j u, [x0, x1, x2, x3, x4, x5, x6][j]? = some u → (w.alloc (.cells #[x0, x1, x2, x3, x4, x5, x6] t)).cell? ((⟨w.heap.size, 0, none⟩ : Addr).add j) = some u := by
  intro j u hj
  match j, hj with
  | 0, hj => simp at hj; subst hj; simp [Addr.add]
  | 1, hj => simp at hj; subst hj; simp [Addr.add]
  | 2, hj => simp at hj; subst hj; simp [Addr.add]
  | 3, hj => simp at hj; subst hj; simp [Addr.add]
  | 4, hj => simp at hj; subst hj; simp [Addr.add]
  | 5, hj => simp at hj; subst hj; simp [Addr.add]
  | 6, hj => simp at hj; subst hj; simp [Addr.add]
  | n + 7, hj => simp at hj
theorem run_event (w : World) (base : Nat) (v : Value) (n : Nat) (xs : List Value) (x : Ev) (ty : TypeId) (h : w.ownsRow base 30 7 v n xs) (hn : n ≤ 1048576) (hb : base ≤ w.heap.size) :
    ∃ v' w', (Builtin.append_ #[39, 39] ty #[v, .slice (some ⟨w.heap.size, 0, none⟩) 1 1]).run Tryz.prog (w.alloc (.cells (evCells x.k x.y x.c x.t x.m x.f x.b) 30)) = .ok v' w' ∧ w'.ownsRow base 30 7 v' (n + 1) (xs ++ x.cells) ∧ (w.alloc (.cells (evCells x.k x.y x.c x.t x.m x.f x.b) 30)).grownBy w' v.ownBlock ∧ (v'.ownBlock = v.ownBlock ∨ v'.ownBlock = some (w.alloc (.cells (evCells x.k x.y x.c x.t x.m x.f x.b) 30)).heap.size) := by
  have hI := infoEvents
  cases hi : Tryz.prog.info? 30 with
  | none => rw [hi] at hI; simp at hI
  | some i =>
    rw [hi] at hI
    simp at hI
    obtain ⟨hz, hsz, hby⟩ := hI
    obtain ⟨v', w', h1, h2, h3, _, h5⟩ := run_append_own_at (P := Tryz.prog) (w.alloc (.cells (evCells x.k x.y x.c x.t x.m x.f x.b) 30)) base 39 ty 30 i _ 7 56 underEvents hi hz hsz hby rfl (by decide) v n xs (h.alloc _) ⟨w.heap.size, 0, none⟩ 1 1 x.cells rfl (cell_seven_new w _ _ _ _ _ _ _ _) (by intro u hu; simp [Ev.cells] at hu; rcases hu with rfl | rfl | rfl | rfl | rfl | rfl | rfl <;> rfl) (by simp only [maxLen]; omega) (by omega) (by simp; omega)
    exact ⟨v', w', h1, h2, h3, h5⟩
/-- What LogEvents answers. -/
def LePost (w : World) (m : DkM) (x : Ending) (w' : World) : Prop := ∃ (a : Option Addr) (c : Nat), x = .returned (.slice a (evsTo m (logN m)).length c) ∧ Born w w' [(a, ecells (evsTo m (logN m)))] ∧ Keeps w w'
end Go.Proofs.YtdlgoccbmemjgaaGreatDoor
namespace Go.Proofs.YtdlgoccbmemjgaaGreatDoor
open Go.RowKit Go.Deep
set_option linter.unusedVariables false
set_option maxRecDepth 10000

theorem srE_bound {L : List UInt8} (h : srB L = true) : 1 ≤ srE L ∧ srE L ≤ 16000000 := by
  have e : srE L = (numL (cut L 4 3) : Nat) := by unfold srE; rw [if_pos h]
  unfold srB at h
  simp only [Bool.and_eq_true] at h
  have h1 := secB_true h.2
  rw [e]
  exact ⟨h1.2.2.1, h1.2.2.2.1⟩
theorem topTo_bound (m : DkM) : ∀ k, 0 ≤ topTo m k ∧ topTo m k ≤ 16000000
  | 0 => by simp [topTo]
  | k + 1 => by
    have := topTo_bound m k
    unfold topTo
    split
    · next h => have := srE_bound h.1; omega
    · exact this
theorem topM_bound (m : DkM) : 0 ≤ topM m ∧ topM m ≤ 16000000 := topTo_bound m _
/-- The code of LogOpen. -/
def opC (m : DkM) : Int := if (dokM m && decide (m.dirty.length = 0)) = true then (if logN m = m.cells.length ∨ topM m = 16000000 then 2 else 0) else 1
def opW (m : DkM) : DkM := writeM m (logN m : Nat) (secR (logN m : Nat) (topM m + 1) [66])
def opM (m : DkM) : DkM := if opC m = 0 then crashM (opW m) (fun _ => 128) else noM
def opN (m : DkM) : Int := if opC m = 0 then (logN m : Nat) + 1 else 0
def opE (m : DkM) : Int := if opC m = 0 then topM m + 1 else 0
def opV (m : DkM) : List Ev := if opC m = 0 then evsTo m (logN m) else []
theorem opC_one {m : DkM} (h : (dokM m && decide (m.dirty.length = 0)) = false) : opC m = 1 := by unfold opC; rw [h]; rfl
theorem opC_two {m : DkM} (h : dokM m = true) (hd : m.dirty.length = 0) (h2 : logN m = m.cells.length ∨ topM m = 16000000) : opC m = 2 := by simp [opC, h, hd, h2]
theorem opC_zero {m : DkM} (h : dokM m = true) (hd : m.dirty.length = 0) (h2 : ¬ (logN m = m.cells.length ∨ topM m = 16000000)) : opC m = 0 := by simp [opC, h, hd, h2]
theorem opW_ok {m : DkM} (h : dokM m = true) (hd : m.dirty.length = 0) (h2 : ¬ (logN m = m.cells.length ∨ topM m = 16000000)) : dokM (opW m) = true := by
  have h3 := dokM_len h
  have h4 := logTo_le m m.cells.length
  have h5 : logN m = logTo m m.cells.length := rfl
  have h6 := topM_bound m
  have hs : secB (logN m : Nat) (topM m + 1) [(66 : UInt8)].length = true := by
    unfold secB
    rw [decide_eq_true (p := 0 ≤ ((logN m : Nat) : Int)) (by omega), decide_eq_true (p := ((logN m : Nat) : Int) < 600) (by omega), decide_eq_true (p := 1 ≤ topM m + 1) (by omega), decide_eq_true (p := topM m + 1 ≤ 16000000) (by omega)]
    rfl
  have hl : (secR (logN m : Nat) (topM m + 1) [66]).length = 128 := by unfold secR; rw [if_pos hs]; exact secL_length (by decide)
  have hw := writeB_yes (m := m) (i := (logN m : Nat)) (L := secR (logN m : Nat) (topM m + 1) [66]) h (by omega) (by omega) (by omega) hl
  unfold opW writeM
  rw [if_pos hw, dokM_add h]
  exact hw
/-- What LogOpen answers. -/
def OpPost (w : World) (m : DkM) (x : Ending) (w' : World) : Prop := ∃ (ca : Option Addr) (cc : Nat) (cs : List Bs) (da : Option Addr) (dc : Nat) (ds : List Wr) (a : Option Addr) (c : Nat), x = .returned (.tuple #[logV ca cs.length cc da ds.length dc (opN m) (opE m), .slice a (opV m).length c, .int .i64 (opC m)]) ∧ dat cs ds = opM m ∧ DOk cs ds ∧ (ca = none → cc = 0) ∧ (da = none → dc = 0) ∧ Born w w' (dsk ca cs da ds ++ [(a, ecells (opV m))]) ∧ Keeps w w'
theorem OpPost.no {w w' : World} {m : DkM} {c : Int} (hc : opC m = c) (h0 : c ≠ 0) (hk : Keeps w w') : OpPost w m (.returned (.tuple #[.agg #[.slice none 0 0, .slice none 0 0, .int .i64 0, .int .i64 0], .slice none 0 0, .int .i64 c])) w' := by
  have h1 : opC m ≠ 0 := hc ▸ h0
  obtain ⟨ca, cc, cs, da, dc, ds, e1, e2, e3, e4, e5, e6⟩ := LogRes.none w w'
  refine ⟨ca, cc, cs, da, dc, ds, none, 0, ?_, ?_, e3, e4, e5, ?_, hk⟩
  · unfold opN opE opV
    rw [if_neg h1, if_neg h1, if_neg h1, hc, e1]
    rfl
  · unfold opM
    rw [if_neg h1]
    exact e2
  · unfold opV
    rw [if_neg h1]
    refine ⟨e6.toOwn.append ⟨fun s hs => ?_, by simp [fp, fpS, ecells], fun b hb => by simp [fp, fpS, ecells] at hb⟩ (fun b hb => by simp [fp, fpS, ecells]), fun b hb => ?_⟩
    · rw [List.mem_singleton.1 hs]
      exact Or.inl rfl
    · rw [fp_append] at hb
      rcases List.mem_append.1 hb with hb | hb
      · exact e6.new b hb
      · simp [fp, fpS, ecells] at hb
theorem OpPost.yes {w w' : World} {m : DkM} (hc : opC m = 0) {ca : Option Addr} {cc : Nat} {cs : List Bs} {da : Option Addr} {dc : Nat} {ds : List Wr} {a : Option Addr} {c : Nat} (he : dat cs ds = crashM (opW m) (fun _ => 128)) (hok : DOk cs ds) (h1 : ca = none → cc = 0) (h2 : da = none → dc = 0) (hb : Born w w' (dsk ca cs da ds ++ [(a, ecells (evsTo m (logN m)))])) (hk : Keeps w w') :
    OpPost w m (.returned (.tuple #[logV ca cs.length cc da ds.length dc ((logN m : Nat) + 1) (topM m + 1), .slice a (evsTo m (logN m)).length c, .int .i64 0])) w' := by
  refine ⟨ca, cc, cs, da, dc, ds, a, c, ?_, ?_, hok, h1, h2, ?_, hk⟩
  · unfold opN opE opV
    rw [if_pos hc, if_pos hc, if_pos hc, hc]
  · unfold opM
    rw [if_pos hc]
    exact he
  · unfold opV
    rw [if_pos hc]
    exact hb
theorem bys_B (w : World) : Cells (w.alloc (.cells #[.int .u8 66] 5)) (some ⟨w.heap.size, 0, none⟩) (bys [66]) := by
  have h := (born_alloc w #[.int .u8 66] 5).toOwn.one
  exact h
end Go.Proofs.YtdlgoccbmemjgaaGreatDoor
namespace Go.Proofs.YtdlgoccbmemjgaaGreatDoor
open Go.RowKit
set_option linter.unusedVariables false

def RowAt (B0 : Nat) (w : World) (a : Option Addr) (len : Nat) : Prop := ∀ j, j < len → ∃ b off n, a = some ⟨b, off, none⟩ ∧ b < B0 ∧ 0 ≤ n ∧ n ≤ 255 ∧ w.cell? ⟨b, off + j, none⟩ = some (.int .u8 n)
/-- The cursor of a draw: a block of three cells that the call has made. -/
def Cur (B0 : Nat) (w : World) (B : Nat) (a : Option Addr) (len cap : Nat) : Prop :=
  B0 ≤ B ∧ ∃ (i : Nat) (h : Int), i ≤ len ∧ w.cell? ⟨B, 0, none⟩ = some (.slice a len cap) ∧ w.cell? ⟨B, 1, none⟩ = some (.int .i64 (i : Int)) ∧ w.cell? ⟨B, 2, none⟩ = some (.int .i64 h) ∧ w.frozen? ⟨B, 1, none⟩ = false ∧ w.frozen? ⟨B, 2, none⟩ = false


theorem Cur.drewN {B0 B : Nat} {w : World} {a : Option Addr} {len cap : Nat} (h : Cur B0 w B a len cap) (n : Nat) : Cur B0 (w.drewN n) B a len cap := h

theorem RowAt.below {B0 : Nat} {w w' : World} {a : Option Addr} {len : Nat} (h : RowAt B0 w a len) (hb : Below B0 w w') : RowAt B0 w' a len := by
  intro j hj
  obtain ⟨b, off, n, e, hlt, n0, n1, hc⟩ := h j hj
  exact ⟨b, off, n, e, hlt, n0, n1, by rw [Below.cell hb (p := ⟨b, off + j, none⟩) hlt]; exact hc⟩

/-- While a law draws: the cursor, the bytes. -/
structure Dr (B0 B : Nat) (a : Option Addr) (len cap : Nat) (w : World) : Prop where
  cur : Cur B0 w B a len cap
  row : RowAt B0 w a len
  small : len ≤ 1048576
theorem grown_refl (w : World) (row : Option Nat) : w.grownBy w row := ⟨rfl, rfl, rfl, Nat.le_refl _, fun _ _ _ => rfl⟩
theorem grown_set {w w1 : World} {B o : Nat} {v : Value} (h : w.grownBy w1 (some B)) : w.grownBy (w1.setCell ⟨B, o, none⟩ v) (some B) :=
  ⟨h.os, h.tape, h.output, by simpa [World.setCell] using h.size, fun k hk hne => by rw [Deep.blk_setCell_other _ _ _ _ (fun e => hne (by rw [e]))]; exact h.block k hk hne⟩
theorem grown_new {w w1 : World} {row : Option Nat} {b o : Nat} {v : Value} (h : w.grownBy w1 row) (hb : w.heap.size ≤ b) : w.grownBy (w1.setCell ⟨b, o, none⟩ v) row :=
  ⟨h.os, h.tape, h.output, by simpa [World.setCell] using h.size, fun k hk hne => by rw [Deep.blk_setCell_other _ _ _ _ (by show k ≠ b; omega)]; exact h.block k hk hne⟩
theorem grown_drewN {w w1 : World} {row : Option Nat} (h : w.grownBy w1 row) (n : Nat) : w.grownBy (w1.drewN n) row := ⟨h.os, h.tape, h.output, h.size, h.block⟩
theorem grown_alloc {w w1 : World} {row : Option Nat} (h : w.grownBy w1 row) (o : Obj) : w.grownBy (w1.alloc o) row :=
  h.andThen (World.grownBy_alloc w1 o none) (fun j hj => by cases hj)
theorem grown_row {w w1 : World} {r : Option Nat} (h : w.grownBy w1 r) {b : Nat} (hb : some b ≠ r) {t : TypeId} {n : Nat} {f : Nat → Value} (hr : w.rowIs b t n f) : w1.rowIs b t n f := hr.of_block (h.block b hr.lt hb)
theorem Keeps.grows {w w' : World} (h : Keeps w w') (row : Option Nat) : w.grownBy w' row := ⟨h.os, h.tape, h.output, h.size, fun k hk _ => h.block k hk⟩
theorem keeps_of {w0 w1 w2 : World} {row : Option Nat} (h : Keeps w0 w1) (g : w1.grownBy w2 row) (hr : ∀ r, row = some r → w0.heap.size ≤ r) : Keeps w0 w2 :=
  ⟨g.os.trans h.os, g.tape.trans h.tape, g.output.trans h.output, Nat.le_trans h.size g.size, fun k hk => (g.block k (Nat.lt_of_lt_of_le hk h.size) (fun e => by have := hr k e.symm; omega)).trans (h.block k hk)⟩
theorem Dr.lt {B0 B : Nat} {a : Option Addr} {len cap : Nat} {w : World} (s : Dr B0 B a len cap w) : B < w.heap.size := by
  obtain ⟨⟨_, i, h, _, c0, _⟩, _, _⟩ := s
  exact lt_of_cell c0
theorem Dr.le {B0 B : Nat} {a : Option Addr} {len cap : Nat} {w : World} (s : Dr B0 B a len cap w) : B0 ≤ B := s.cur.1
/-- The draw stands where it stood while other blocks of the call's own are written. -/
theorem Dr.grown {B0 B : Nat} {a : Option Addr} {len cap : Nat} {w w' : World} {row : Option Nat} (s : Dr B0 B a len cap w) (g : w.grownBy w' row) (hB : some B ≠ row) (hr : ∀ r, row = some r → B0 ≤ r) : Dr B0 B a len cap w' := by
  have hlt := s.lt
  obtain ⟨⟨hB0, i, h, hi, c0, c1, c2, f1, f2⟩, rw, sm⟩ := s
  have eb := g.block B hlt hB
  refine ⟨⟨hB0, i, h, hi, ?_, ?_, ?_, ?_, ?_⟩, ?_, sm⟩
  · rw [World.cell?_of_block (w := w) eb]; exact c0
  · rw [World.cell?_of_block (w := w) eb]; exact c1
  · rw [World.cell?_of_block (w := w) eb]; exact c2
  · rw [World.frozen?_of_block (w := w) eb]; exact f1
  · rw [World.frozen?_of_block (w := w) eb]; exact f2
  · intro j hj
    obtain ⟨b, off, n, e, hb, n0, n1, hc⟩ := rw j hj
    have hbl := g.block b (by omega) (fun e => by have := hr b e.symm; omega)
    exact ⟨b, off, n, e, hb, n0, n1, by rw [World.cell?_of_block (w := w) hbl]; exact hc⟩

theorem cur_two {B0 B : Nat} {a : Option Addr} {len cap k : Nat} {h h' : Int} {w : World} (n k' : Nat) (hB0 : B0 ≤ B) (hk : k' ≤ len)
   (c0 : w.cell? ⟨B, 0, none⟩ = some (.slice a len cap)) (c1 : w.cell? ⟨B, 1, none⟩ = some (.int .i64 (k : Int))) (c2 : w.cell? ⟨B, 2, none⟩ = some (.int .i64 h))
   (f1 : w.frozen? ⟨B, 1, none⟩ = false) (f2 : w.frozen? ⟨B, 2, none⟩ = false) :
    Cur B0 (((w.setCell ⟨B, 2, none⟩ (.int .i64 h')).drewN n).setCell ⟨B, 1, none⟩ (.int .i64 (k' : Int))) B a len cap := by
  have d1 : (w.setCell ⟨B, 2, none⟩ (.int .i64 h')).cell? ⟨B, 1, none⟩ = some (.int .i64 (k : Int)) := by rw [World.cell?_setCell_other _ _ _ _ (by simp)]; exact c1
  have d0 : (w.setCell ⟨B, 2, none⟩ (.int .i64 h')).cell? ⟨B, 0, none⟩ = some (.slice a len cap) := by rw [World.cell?_setCell_other _ _ _ _ (by simp)]; exact c0
  have d2 : (w.setCell ⟨B, 2, none⟩ (.int .i64 h')).cell? ⟨B, 2, none⟩ = some (.int .i64 h') := World.cell?_setCell_same _ _ _ c2
  refine ⟨hB0, k', h', hk, ?_, ?_, ?_, ?_, ?_⟩
  · rw [World.cell?_setCell_other _ _ _ _ (by simp)]; exact d0
  · exact World.cell?_setCell_same _ _ _ d1
  · rw [World.cell?_setCell_other _ _ _ _ (by simp)]; exact d2
  · simpa using f1
  · simpa using f2
theorem cur_one {B0 B : Nat} {a : Option Addr} {len cap k : Nat} {h h' : Int} {w : World} (n : Nat) (hB0 : B0 ≤ B) (hk : k ≤ len)
   (c0 : w.cell? ⟨B, 0, none⟩ = some (.slice a len cap)) (c1 : w.cell? ⟨B, 1, none⟩ = some (.int .i64 (k : Int))) (c2 : w.cell? ⟨B, 2, none⟩ = some (.int .i64 h))
   (f1 : w.frozen? ⟨B, 1, none⟩ = false) (f2 : w.frozen? ⟨B, 2, none⟩ = false) :
    Cur B0 ((w.setCell ⟨B, 2, none⟩ (.int .i64 h')).drewN n) B a len cap := by
  refine ⟨hB0, k, h', hk, ?_, ?_, ?_, ?_, ?_⟩
  · show (w.setCell ⟨B, 2, none⟩ (.int .i64 h')).cell? ⟨B, 0, none⟩ = _
    rw [World.cell?_setCell_other _ _ _ _ (by simp)]; exact c0
  · show (w.setCell ⟨B, 2, none⟩ (.int .i64 h')).cell? ⟨B, 1, none⟩ = _
    rw [World.cell?_setCell_other _ _ _ _ (by simp)]; exact c1
  · exact World.cell?_setCell_same _ _ _ c2
  · simpa using f1
  · simpa using f2

/-- A byte of a draw. -/
def IsByte (e : Ending) : Prop := ∃ x : Int, 0 ≤ x ∧ x ≤ 255 ∧ e = .returned (.int .i64 x)
theorem isByte {x : Int} (h0 : 0 ≤ x) (h1 : x ≤ 255) : IsByte (.returned (.int .i64 x)) := ⟨x, h0, h1, rfl⟩

set_option maxHeartbeats 1000000 in
theorem byte_more (B0 B b off : Nat) (k : Nat) (n h : Int) (len cap : Nat) (w : World) (hB0 : B0 ≤ B) (hB : b < B0) (hk : k < len) (hlen : len ≤ 1048576) (n0 : 0 ≤ n) (n1 : n ≤ 255)
   (c0 : w.cell? ⟨B, 0, none⟩ = some (.slice (some ⟨b, off, none⟩) len cap)) (c1 : w.cell? ⟨B, 1, none⟩ = some (.int .i64 (k : Int))) (c2 : w.cell? ⟨B, 2, none⟩ = some (.int .i64 h))
   (f1 : w.frozen? ⟨B, 1, none⟩ = false) (f2 : w.frozen? ⟨B, 2, none⟩ = false) (cr : w.cell? ⟨b, off + k, none⟩ = some (.int .u8 n)) :
    Calls Tryz.prog 88 #[.pointer (some ⟨B, 0, none⟩)] w fun e w' => IsByte e ∧ Cur B0 w' B (some ⟨b, off, none⟩) len cap ∧ w.grownBy w' (some B) := by
  have hne : b ≠ B := by omega
  obtain ⟨h', eh⟩ : ∃ h', wrap64 (wrap64 (h * 6364136223846793005) + 1442695040888963407) = h' := ⟨_, rfl⟩
  obtain ⟨x, ex⟩ : ∃ x, bits BinOp.and IntKind.i64 (bits BinOp.xor IntKind.i64 (h' / 8589934592) (h' / 35184372088832)) 255 = x := ⟨_, rfl⟩
  have hx := and_mask (bits BinOp.xor IntKind.i64 (h' / 8589934592) (h' / 35184372088832)) 255 (by omega) (by omega)
  rw [ex] at hx
  obtain ⟨hx0, hx1⟩ := hx
  have hy := and_mask (x + n) 255 (by omega) (by omega)
  generalize ey : bits BinOp.and IntKind.i64 (x + n) 255 = y at *
  obtain ⟨hy0, hy1⟩ := hy
  go_enter Tryz.func88, Tryz.ntmps88
  go_wp2_with fail
  go_quiet (fail)
  go_wp2_with fail
  go_quiet (fail)
  go_wp2_with fail
  go_quiet (fail)
  go_wp2_with fail
  go_ret
  refine ⟨isByte hy0 hy1, ?_, ?_⟩
  · exact cur_two _ (k + 1) hB0 (by omega) c0 c1 c2 f1 f2
  · exact grown_set (grown_drewN (grown_set (grown_refl _ _)) _)

set_option maxHeartbeats 1000000 in
theorem byte_none (B0 B : Nat) (a : Option Addr) (k : Nat) (h : Int) (len cap : Nat) (w : World) (hB0 : B0 ≤ B) (hk : k = len) (hlen : len ≤ 1048576)
   (c0 : w.cell? ⟨B, 0, none⟩ = some (.slice a len cap)) (c1 : w.cell? ⟨B, 1, none⟩ = some (.int .i64 (k : Int))) (c2 : w.cell? ⟨B, 2, none⟩ = some (.int .i64 h))
   (f1 : w.frozen? ⟨B, 1, none⟩ = false) (f2 : w.frozen? ⟨B, 2, none⟩ = false) :
    Calls Tryz.prog 88 #[.pointer (some ⟨B, 0, none⟩)] w fun e w' => IsByte e ∧ Cur B0 w' B a len cap ∧ w.grownBy w' (some B) := by
  subst hk
  obtain ⟨h', eh⟩ : ∃ h', wrap64 (wrap64 (h * 6364136223846793005) + 1442695040888963407) = h' := ⟨_, rfl⟩
  obtain ⟨x, ex⟩ : ∃ x, bits BinOp.and IntKind.i64 (bits BinOp.xor IntKind.i64 (h' / 8589934592) (h' / 35184372088832)) 255 = x := ⟨_, rfl⟩
  have hx := and_mask (bits BinOp.xor IntKind.i64 (h' / 8589934592) (h' / 35184372088832)) 255 (by omega) (by omega)
  rw [ex] at hx
  obtain ⟨hx0, hx1⟩ := hx
  go_enter Tryz.func88, Tryz.ntmps88
  go_wp2_with fail
  go_quiet (fail)
  go_wp2_with fail
  go_quiet (fail)
  go_wp2_with fail
  go_ret
  refine ⟨isByte hx0 hx1, ?_, ?_⟩
  · refine Cur.drewN ?_ _
    exact cur_one _ hB0 (Nat.le_refl _) c0 c1 c2 f1 f2
  · exact grown_drewN (grown_drewN (grown_set (grown_refl _ _)) _) _

theorem row_grown {B0 B : Nat} {a : Option Addr} {len : Nat} {w w' : World} (h : RowAt B0 w a len) (g : w.grownBy w' (some B)) (hB : B0 ≤ B) (hs : B < w.heap.size) : RowAt B0 w' a len := by
  intro j hj
  obtain ⟨b, off, n, e, hb, n0, n1, hc⟩ := h j hj
  have hbl := g.block b (by omega) (fun e => by injection e with e; omega)
  exact ⟨b, off, n, e, hb, n0, n1, by rw [World.cell?_of_block (w := w) hbl]; exact hc⟩
theorem byte_any {B0 B : Nat} {a : Option Addr} {len cap : Nat} {w : World} (s : Dr B0 B a len cap w) :
    Calls Tryz.prog 88 #[.pointer (some ⟨B, 0, none⟩)] w fun e w' => IsByte e ∧ Dr B0 B a len cap w' ∧ w.grownBy w' (some B) := by
  have hlt := s.lt
  obtain ⟨⟨hB0, k, h, hk, c0, c1, c2, f1, f2⟩, row, small⟩ := s
  by_cases hl : k < len
  · obtain ⟨b, off, n, rfl, hb, n0, n1, cr⟩ := row k hl
    refine (byte_more B0 B b off k n h len cap w hB0 hb hl small n0 n1 c0 c1 c2 f1 f2 cr).mono ?_
    rintro e w' ⟨he, hc, hg⟩
    exact ⟨he, ⟨hc, row_grown row hg hB0 hlt, small⟩, hg⟩
  · refine (byte_none B0 B a k h len cap w hB0 (by omega) small c0 c1 c2 f1 f2).mono ?_
    rintro e w' ⟨he, hc, hg⟩
    exact ⟨he, ⟨hc, row_grown row hg hB0 hlt, small⟩, hg⟩

/-- A number of a draw. -/
def IsInt (e : Ending) : Prop := ∃ x : Int, e = .returned (.int .i64 x)
theorem isInt {x : Int} : IsInt (.returned (.int .i64 x)) := ⟨x, rfl⟩
/-- A number of a draw, below n. -/
def IsBelow (n : Int) (e : Ending) : Prop := ∃ x : Int, 0 ≤ x ∧ x < n ∧ e = .returned (.int .i64 x)
theorem isBelow {n x : Int} (h0 : 0 ≤ x) (h1 : x < n) : IsBelow n (.returned (.int .i64 x)) := ⟨x, h0, h1, rfl⟩

theorem below_any {B0 B : Nat} {a : Option Addr} {len cap : Nat} {w : World} (n : Int) (s : Dr B0 B a len cap w) (h0 : 0 < n) (h1 : n ≤ 1000000000) :
    Calls Tryz.prog 52 #[.pointer (some ⟨B, 0, none⟩), .int .i64 n] w fun e w' => IsBelow n e ∧ Dr B0 B a len cap w' ∧ w.grownBy w' (some B) := by
  have HS := hide s
  clear s
  by_cases hs : n ≤ 256
  · go_enter Tryz.func52, Tryz.ntmps52
    go_wp2_with (go_at_call 88; refine (byte_any HS.out).mono ?_; rintro e w1 ⟨⟨x, x0, x1, rfl⟩, s1, g1⟩)
    go_ret
    exact ⟨isBelow (Int.emod_nonneg _ (by omega)) (Int.emod_lt_of_pos _ h0), s1, g1⟩
  · go_enter Tryz.func52, Tryz.ntmps52
    go_wp2_with fail
    refine (byte_any HS.out).mono ?_
    rintro e w1 ⟨⟨x, x0, x1, rfl⟩, s1, g1⟩
    have S1 := hide s1
    have G1 := hide g1
    clear s1 g1
    go_wp2_with fail
    refine (byte_any S1.out).mono ?_
    rintro e w2 ⟨⟨y, y0, y1, rfl⟩, s2, g2⟩
    have S2 := hide s2
    have G2 := hide (G1.out.trans g2)
    clear s2 g2
    go_wp2_with fail
    refine (byte_any S2.out).mono ?_
    rintro e w3 ⟨⟨z, z0, z1, rfl⟩, s3, g3⟩
    have S3 := hide s3
    have G3 := hide (G2.out.trans g3)
    clear s3 g3
    go_wp2_with fail
    refine (byte_any S3.out).mono ?_
    rintro e w4 ⟨⟨u, u0, u1, rfl⟩, s4, g4⟩
    have S4 := hide s4
    have G4 := hide (G3.out.trans g4)
    clear s4 g4
    go_wp2_with fail
    go_ret
    exact ⟨isBelow (Int.emod_nonneg _ (by omega)) (Int.emod_lt_of_pos _ h0), S4.out, G4.out⟩

set_option maxHeartbeats 2000000 in
theorem raw_any {B0 B : Nat} {a : Option Addr} {len cap : Nat} {w : World} (s : Dr B0 B a len cap w) :
    Calls Tryz.prog 67 #[.pointer (some ⟨B, 0, none⟩)] w fun e w' => IsInt e ∧ Dr B0 B a len cap w' ∧ w.grownBy w' (some B) := by
  have HS := hide s
  clear s
  go_enter Tryz.func67, Tryz.ntmps67
  go_wp2_with fail
  refine (below_any 11 HS.out (by omega) (by omega)).mono ?_
  rintro e w1 ⟨⟨k, k0, k1, rfl⟩, s1, g1⟩
  have S1 := hide s1
  have G1 := hide g1
  clear s1 g1 HS
  go_wp2_with (first | (go_at_call 52; refine (below_any _ S2.out (by omega) (by omega)).mono ?_; rintro e w3 ⟨⟨y, y0, y1, rfl⟩, s3, g3⟩; have S3 := hide s3; have G3 := hide (G2.out.trans g3); clear s3 g3) | (go_at_call 52; refine (below_any _ S1.out (by omega) (by omega)).mono ?_; rintro e w2 ⟨⟨x, x0, x1, rfl⟩, s2, g2⟩; have S2 := hide s2; have G2 := hide (G1.out.trans g2); clear s2 g2))
  all_goals
    go_ret
    first
      | exact ⟨isInt, S3.out, G3.out⟩
      | exact ⟨isInt, S2.out, G2.out⟩
      | exact ⟨isInt, S1.out, G1.out⟩

/-- A pointer to a new cursor. -/
def IsCur (B : Nat) (e : Ending) : Prop := e = .returned (.pointer (some ⟨B, 0, none⟩))
theorem new_dr {w : World} {a : Option Addr} {len cap : Nat} {h : Int} (hr : RowAt w.heap.size w a len) (hl : len ≤ 1048576) :
    Dr w.heap.size w.heap.size a len cap (w.alloc (.cells #[.slice a len cap, .int .i64 0, .int .i64 h] 107)) := by
  have e := fun j => World.cell?_alloc_mark w #[.slice a len cap, .int .i64 0, .int .i64 h] 107 (0, 0) j
  have f : ∀ j, (w.alloc (.cells #[.slice a len cap, .int .i64 0, .int .i64 h] 107)).frozen? ⟨w.heap.size, j, none⟩ = false := by
    intro j
    rw [frozen?_alloc_cells]
    simp [World.frozen?]
  have hb : Below w.heap.size w (w.alloc (.cells #[.slice a len cap, .int .i64 0, .int .i64 h] 107)) := Below.alloc (Below.refl _ _) (Nat.le_refl _) _
  exact ⟨⟨Nat.le_refl _, 0, h, Nat.zero_le _, e 0, e 1, e 2, f 1, f 2⟩, hr.below hb, hl⟩
set_option maxRecDepth 100000 in
set_option maxHeartbeats 2000000 in
theorem new_any (a : Option Addr) (len cap : Nat) (w : World) (hr : RowAt w.heap.size w a len) (hl : len ≤ 1048576) :
    Calls Tryz.prog 30 #[.slice a len cap] w fun e w' => IsCur w.heap.size e ∧ Dr w.heap.size w.heap.size a len cap w' ∧ Keeps w w' := by
  have HR := hide hr
  clear hr
  go_enter Tryz.func30, Tryz.ntmps30
  go_wp2_with fail
  go_loop [3, 4] (fun x y => ∃ (h : Int) (k : Nat), k ≤ len ∧ x = .int .i64 h ∧ y = .int .i64 (k : Int)) (fun _ y => len - (intOf y).toNat)
  case atStart => exact ⟨_, 0, Nat.zero_le _, rfl, rfl⟩
  case round =>
    obtain ⟨h, k, hk, rfl, rfl⟩ := hrel
    by_cases hlt : k < len
    · by_cases hm : k < 4000
      · obtain ⟨b, off, n, rfl, hb, n0, n1, hc⟩ := HR.out k hlt
        go_wp2_with fail
        go_round
        case rel => exact ⟨_, k + 1, by omega, rfl, by go_num⟩
        case measure => simp [intOf]; omega
      · go_wp2_with fail
        go_ret
        exact ⟨rfl, new_dr HR.out hl, Keeps.alloc (Keeps.refl _) _⟩
    · go_wp2_with fail
      go_ret
      exact ⟨rfl, new_dr HR.out hl, Keeps.alloc (Keeps.refl _) _⟩
theorem row_nil {W : World} : RowAt W.heap.size W none 0 := fun j hj => absurd hj (Nat.not_lt_zero j)
theorem row_of {W : World} {x : Addr} {len cap : Nat} {zs : List Int} (hl : len ≤ cap) (hz : zs.length = cap) (hcell : ∀ i, i < zs.length → W.cell? (x.add i) = some (.int .u8 (zs.getD i 0))) (hwz : ∀ n ∈ zs, (Lit.int .u8 n).wf = true) :
    RowAt W.heap.size W (some x) len := by
  intro j hj
  have hc := hcell j (by omega)
  obtain ⟨b, off, spot⟩ := x
  have hspot : spot = none := by simpa [Addr.add] using World.cell?_spot (hcell 0 (by omega))
  subst hspot
  have hc' : W.cell? ⟨b, off + j, none⟩ = some (.int .u8 (zs.getD j 0)) := by
    by_cases hj0 : j = 0
    · subst hj0; simpa [Addr.add] using hc
    · simpa [Addr.add, hj0] using hc
  have hm : zs.getD j 0 ∈ zs := by
    rw [List.getD_eq_getElem?_getD, List.getElem?_eq_getElem (by omega)]
    exact List.getElem_mem _
  have hb := hwz _ hm
  have hb2 : 0 ≤ zs.getD j 0 ∧ zs.getD j 0 ≤ 255 := by
    exact bounds_u8 hb
  exact ⟨b, off, zs.getD j 0, rfl, lt_of_cell hc', hb2.1, hb2.2, hc'⟩
end Go.Proofs.YtdlgoccbmemjgaaGreatDoor
namespace Go.Proofs.YtdlgoccbmemjgaaGreatDoor
open Go.RowKit
set_option linter.unusedVariables false
/-- Bytes of the call's own, no more than n. -/
def IsBytes (base : Nat) (n : Nat) (w' : World) (e : Ending) : Prop := ∃ (p : Option Addr) (l c : Nat) (L : List UInt8), l ≤ n ∧ e = .returned (.slice p l c) ∧ Hid (L.length = l ∧ OwnsB w' base (.slice p l c) L)
theorem isBytes {base n : Nat} {w' : World} {v : Value} {L : List UInt8} (h : L.length ≤ n) (ho : OwnsB w' base v L) : IsBytes base n w' (.returned v) := by
  obtain ⟨p, c, rfl, _⟩ := Own.of_owns ho
  exact ⟨p, L.length, c, L, h, rfl, rfl, ho⟩
theorem OwnsB.grows {w w' : World} {base B : Nat} {v : Value} {L : List UInt8} (h : OwnsB w base v L) (g : w.grownBy w' (some B)) (hB : B < base) : OwnsB w' base v L :=
  World.ownsRow.kept h g (.inr fun e => by have := (h.lt B e).1; omega)
theorem byte_of {x : Int} (h0 : 0 ≤ x) (h1 : x ≤ 255) : ∃ u : UInt8, Value.int .u8 x = byV u := by
  refine ⟨UInt8.ofNat x.toNat, ?_⟩
  simp only [byV]
  congr 1
  simp
  omega
set_option maxHeartbeats 1000000 in
theorem bytes_any {B0 B : Nat} {a : Option Addr} {len cap : Nat} {w : World} (m : Nat) (s : Dr B0 B a len cap w) (hm : m ≤ 1000) :
    Calls Tryz.prog 118 #[.pointer (some ⟨B, 0, none⟩), .int .i64 (m : Int)] w fun e w' => IsBytes w.heap.size m w' e ∧ Dr B0 B a len cap w' ∧ w.grownBy w' (some B) := by
  have hB := s.lt
  have hB0 := s.le
  have HS := hide s
  clear s
  go_enter Tryz.func118, Tryz.ntmps118
  go_wp2_with fail
  refine (below_any _ HS.out (by omega) (by omega)).mono ?_
  rintro e w1 ⟨⟨x, x0, x1, rfl⟩, s1, g1⟩
  have hz := g1.size
  have HS1 := hide (s1.grown (World.grownBy_alloc w1 (.cells #[] 5) none) (by simp) (by simp))
  have HG1 := hide (grown_alloc g1 (.cells #[] 5))
  have HO1 : Hid (OwnsB (w1.alloc (.cells #[] 5)) w.heap.size (.slice (some ⟨w1.heap.size, 0, none⟩) 0 0) []) := World.ownsRow_made (base := w.heap.size) (e := 5) (size := 1) w1 #[] 0 hz (by decide) rfl
  clear s1 g1 HS
  obtain ⟨n, rfl⟩ := Int.eq_ofNat_of_zero_le x0
  go_wp2_with fail
  go_loopw [6, 7] (fun x y wr => ∃ (k : Nat) (L : List UInt8), k ≤ n ∧ y = .int .i64 (k : Int) ∧ Hid (L.length = k) ∧ Hid (OwnsB wr w.heap.size x L) ∧ w.heap.size ≤ wr.heap.size ∧ Hid (Dr B0 B a len cap wr) ∧ Hid (w.grownBy wr (some B))) (fun _ y _ => n - (intOf y).toNat)
  case atStart => exact ⟨0, [], by omega, rfl, rfl, HO1, by simp; omega, HS1, HG1⟩
  case round =>
    clear HO1 HS1 HG1
    obtain ⟨k, L, hk, rfl, HL, HOr, hbr, HSr, HGr⟩ := hrel
    by_cases hlt : k < n
    · go_wp2_with fail
      refine (byte_any HSr.out).mono ?_
      rintro e w2 ⟨⟨x, x0, x1, rfl⟩, s2, g2⟩
      obtain ⟨u, eu⟩ := byte_of x0 x1
      have ex : x % 256 = x := Int.emod_eq_of_lt x0 (by omega)
      have HO2 := hide (OwnsB.alloc (HOr.out.grows g2 hB) (.cells #[.int .u8 x] 5))
      have HC2 : Hid (Cells (w2.alloc (.cells #[.int .u8 x] 5)) (some ⟨w2.heap.size, 0, none⟩) (bys [u])) := by
        show Cells _ _ _
        rw [eu]
        exact cells_one w2 _
      have HS2 := hide (s2.grown (World.grownBy_alloc w2 (.cells #[.int .u8 x] 5) none) (by simp) (by simp))
      have HG2 := hide (grown_alloc (HGr.out.trans g2) (.cells #[.int .u8 x] 5))
      have hz2 := g2.size
      have HL2 : Hid (L.length + [u].length ≤ 4194304) := by show _ ≤ _; have := HL.out; simp; omega
      clear s2 g2 HSr HGr HOr eu
      go_wp2_with (at_builtin; refine app_bys rfl (.tmp 18) (.tmp 22) rfl w.heap.size _ L [u] rfl (some ⟨w2.heap.size, 0, none⟩) 1 (by simp [go_sem]) HC2.out (fun e => nomatch e) (by simpa [go_sem] using HO2.out) HL2.out (by simp; omega) ?_; intro v' w' ho hg)
      have hlo : ∀ r, u6.ownBlock = some r → w.heap.size ≤ r := fun r hr => (HO2.out.lt r hr).1
      have hg' : (w2.alloc (.cells #[.int .u8 x] 5)).grownBy w' u6.ownBlock := by simpa [go_sem] using hg
      refine ⟨⟨k + 1, L ++ [u], by omega, by congr 1, ?_, ho, ?_, ?_, ?_⟩, ?_⟩
      · show _ = _
        have := HL.out
        simp; omega
      · have := hg'.size
        simp at this
        omega
      · exact HS2.out.grown hg' (fun e => by have := hlo B e.symm; omega) (fun r hr => by have := hlo r hr; omega)
      · exact HG2.out.andThen hg' (fun j hj => .inl (hlo j hj))
      · simp [intOf]; omega
    · have e : k = n := by omega
      subst e
      go_wp2_with fail
      go_ret
      exact ⟨isBytes (by have := HL.out; omega) HOr.out, HSr.out, HGr.out⟩
end Go.Proofs.YtdlgoccbmemjgaaGreatDoor
