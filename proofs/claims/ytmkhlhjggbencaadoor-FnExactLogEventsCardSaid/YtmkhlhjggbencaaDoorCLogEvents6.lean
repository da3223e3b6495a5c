/- Lists of sectors that a call makes by append. -/
import Derived.Test.YtmkhlhjggbencaaDoorCLogEvents5
namespace Go.Proofs.YtmkhlhjggbencaaDoor
open Go.RowKit Go.Deep
set_option linter.unusedVariables false
set_option maxRecDepth 10000

/-- A sector in memory. -/
structure Sc where
  q : Int
  e : Int
  b : Bs
def Sc.cells (x : Sc) : List Value := [.int .i64 x.q, .int .i64 x.e, x.b.v]
def Sc.seg (x : Sc) : Seg := x.b.seg
def Sc.key (x : Sc) : Int × Int × List UInt8 := (x.q, x.e, x.b.L)
def scells (l : List Sc) : List Value := l.flatMap Sc.cells
theorem infoSector : (Tryd.prog.info? 52).map (fun i => (i.zero, i.size, i.bytes)) = some (some (.agg #[.int .i64 0, .int .i64 0, .slice none 0 0]), 3, 40) := by kernel_rfl
theorem underSectors : Tryd.prog.underlying 27 = some (.slice 52) := by kernel_rfl
theorem cell_three_new (w : World) (x y z : Value) (t : TypeId) : ∀ j u, [x, y, z][j]? = some u → (w.alloc (.cells #[x, y, z] t)).cell? ((⟨w.heap.size, 0, none⟩ : Addr).add j) = some u := by
  intro j u hj
  match j, hj with
  | 0, hj => simp at hj; subst hj; simp [Addr.add]
  | 1, hj => simp at hj; subst hj; simp [Addr.add]
  | 2, hj => simp at hj; subst hj; simp [Addr.add]
  | n + 3, hj => simp at hj
theorem run_sector (w : World) (base : Nat) (v : Value) (n : Nat) (xs : List Value) (x y z : Value) (hx : x.oneCell' = true) (hy : y.oneCell' = true) (hz' : z.oneCell' = true) (ty : TypeId) (h : w.ownsRow base 52 3 v n xs) (hn : n ≤ 1048576) (hb : base ≤ w.heap.size) :
    ∃ v' w', (Builtin.append_ #[27, 27] ty #[v, .slice (some ⟨w.heap.size, 0, none⟩) 1 1]).run Tryd.prog (w.alloc (.cells #[x, y, z] 52)) = .ok v' w' ∧ w'.ownsRow base 52 3 v' (n + 1) (xs ++ [x, y, z]) ∧ (w.alloc (.cells #[x, y, z] 52)).grownBy w' v.ownBlock ∧ (v'.ownBlock = v.ownBlock ∨ v'.ownBlock = some (w.alloc (.cells #[x, y, z] 52)).heap.size) := by
  have hI := infoSector
  cases hi : Tryd.prog.info? 52 with
  | none => rw [hi] at hI; simp at hI
  | some i =>
    rw [hi] at hI
    simp at hI
    obtain ⟨hz, hsz, hby⟩ := hI
    obtain ⟨v', w', h1, h2, h3, _, h5⟩ := run_append_own_at (P := Tryd.prog) (w.alloc (.cells #[x, y, z] 52)) base 27 ty 52 i _ 3 40 underSectors hi hz hsz hby rfl (by decide) v n xs (h.alloc _) ⟨w.heap.size, 0, none⟩ 1 1 [x, y, z] rfl (cell_three_new w x y z _) (by intro u hu; simp at hu; rcases hu with rfl | rfl | rfl <;> assumption) (by simp only [maxLen]; omega) (by omega) (by simp; omega)
    exact ⟨v', w', h1, h2, h3, h5⟩
/-- The world as far as block n. -/
def cutW (w : World) (n : Nat) : World := { w with heap := w.heap.extract 0 n }
theorem cutW_size {w : World} {n : Nat} (h : n ≤ w.heap.size) : (cutW w n).heap.size = n := by simp [cutW]; omega
theorem cutW_block {w : World} {n k : Nat} (h : n ≤ w.heap.size) (hk : k < n) : (cutW w n).heap[k]? = w.heap[k]? := by
  show (w.heap.extract 0 n)[k]? = _
  rw [Array.getElem?_extract, if_pos (by omega)]
  simp
theorem cutW_keeps {w : World} {n : Nat} (h : n ≤ w.heap.size) : Keeps (cutW w n) w :=
  ⟨rfl, rfl, rfl, by rw [cutW_size h]; exact h, fun k hk => by rw [cutW_size h] at hk; exact (cutW_block h hk).symm⟩
theorem cutW_turn {w w' : World} {fs : List Nat} (h : Turn fs w w') : Turn fs w (cutW w' w.heap.size) :=
  ⟨h.os, h.tape, h.output, by rw [cutW_size h.size]; exact Nat.le_refl _, fun k hk hn => (cutW_block h.size hk).trans (h.block k hk hn)⟩
/-- A list of structs while it is made, all of it in blocks from base on. -/
def LB {α : Type} (T : TypeId) (sz : Nat) (f : α → List Value) (sg : α → Seg) (base : Nat) (w : World) (v : Value) (nb : List α) : Prop := ∃ w0, w0.heap.size = base ∧ LG T sz f sg w0 w v nb
section
variable {α : Type} {T : TypeId} {sz : Nat} {f : α → List Value} {sg : α → Seg} {base : Nat} {w w1 w2 : World} {v v' : Value} {nb : List α}
theorem owns_turn {n : Nat} {e : TypeId} {xs : List Value} {fs : List Nat} (ht : Turn fs w w1) (hf : ∀ b ∈ fs, b < base) (h : w.ownsRow base e sz v n xs) : w1.ownsRow base e sz v n xs := by
  refine ⟨h.1, ?_⟩
  rcases h.2 with h' | ⟨g, cap, cur, rfl, hb, hg, rest⟩
  · exact .inl h'
  · refine .inr ⟨g, cap, cur, rfl, hb, ?_, rest⟩
    rw [ht.block g (Array.getElem?_eq_some_iff.1 hg).1 (fun hx => by have := hf g hx; omega)]; exact hg
theorem LB.turn (h : LB T sz f sg base w v nb) {fs : List Nat} (ht : Turn fs w w1) (hf : ∀ b ∈ fs, b < base) : LB T sz f sg base w1 v nb := by
  obtain ⟨w0, hb, hL⟩ := h
  have hs : base ≤ w1.heap.size := by have := hL.keeps.size; have := ht.size; omega
  refine ⟨cutW w1 base, cutW_size hs, ?_, ⟨?_, ?_⟩, hL.apart, cutW_keeps hs⟩
  · rw [cutW_size hs]
    have hr := hL.row
    rw [hb] at hr
    exact owns_turn ht hf hr
  · exact hL.inner.toOwn.turn ht (fun x hx hy => by have := hf x hy; have := hL.inner.new x hx; omega)
  · intro x hx
    rw [cutW_size hs]
    have := hL.inner.new x hx
    omega
theorem LB.kept (h : LB T sz f sg base w v nb) (hk : Keeps w w1) : LB T sz f sg base w1 v nb := by
  obtain ⟨w0, hb, hL⟩ := h
  exact ⟨w0, hb, hL.kept hk⟩
theorem LB.nil (T : TypeId) (sz : Nat) (f : α → List Value) (sg : α → Seg) (h : base ≤ w.heap.size) : LB T sz f sg base w (.slice none 0 0) [] :=
  ⟨cutW w base, cutW_size h, LG.nil T sz f sg (World.ownsRow_nil _ _ _ _) (cutW_keeps h)⟩
theorem LB.row (h : LB T sz f sg base w v nb) : w.ownsRow base T sz v nb.length (nb.flatMap f) := by
  obtain ⟨w0, hb, hL⟩ := h
  rw [← hb]
  exact hL.row
theorem LB.size (h : LB T sz f sg base w v nb) : base ≤ w.heap.size := by
  obtain ⟨w0, hb, hL⟩ := h
  have := hL.keeps.size
  omega
/-- One more, whose own list was made behind w (w1: where it is put; of what was there at w only blocks ahead of base have turned). -/
theorem LB.snoc (h : LB T sz f sg base w v nb) {fs : List Nat} (ht : Turn fs w w1) (hf : ∀ b ∈ fs, b < base) {x : α} (hx : Own w1 [sg x]) (hn : ∀ b ∈ fp [sg x], w.heap.size ≤ b) {o : Obj} (hg : (w1.alloc o).grownBy w2 v.ownBlock)
    (hr : w2.ownsRow base T sz v' (nb.length + 1) (nb.flatMap f ++ f x)) (hv : v'.ownBlock = v.ownBlock ∨ v'.ownBlock = some (w1.alloc o).heap.size) : LB T sz f sg base w2 v' (nb ++ [x]) := by
  obtain ⟨w0, hb, hL⟩ := LB.turn h (cutW_turn ht) hf
  refine ⟨w0, hb, hL.snoc (cutW_keeps ht.size) hx ?_ hg (by rw [hb]; exact hr) hv⟩
  intro b hb'
  rw [cutW_size ht.size]
  exact hn b hb'
theorem LB.born (h : LB T sz f sg base w v nb) : ∃ (a : Option Addr) (cap : Nat), v = .slice a nb.length cap ∧ (a = none → cap = 0) ∧ Own w ((a, nb.flatMap f) :: nb.map sg) ∧ ∀ b ∈ fp ((a, nb.flatMap f) :: nb.map sg), base ≤ b := by
  obtain ⟨w0, hw, h⟩ := h
  obtain ⟨a, cap, rfl, _, _, hn, ho, hb⟩ := Own.of_owns h.row
  refine ⟨a, cap, rfl, hn, Own.append (S := [_]) ho h.inner.toOwn (fun b hb1 hb2 => ?_), ?_⟩
  · have : Value.ownBlock (.slice a nb.length cap) = some b := by
      rcases h.row.2 with ⟨e, _⟩ | ⟨g, c, _, e, _⟩
      · injection e with e1
        subst e1
        simp [fp, fpS] at hb1
      · injection e with e1
        subst e1
        by_cases h0 : nb.flatMap f = []
        · simp [fp, fpS, h0] at hb1
        · simp [fp, fpS, h0] at hb1
          subst hb1
          rfl
    exact h.apart b this hb2
  · intro b hb1
    rw [fp_cons] at hb1
    rcases List.mem_append.1 hb1 with hb1 | hb1
    · have := hb b (by rw [fp_one]; exact hb1); omega
    · have := h.inner.new b hb1; omega
end
/-- What the first k sectors say. -/
def secsTo (m : DkM) (k : Nat) : List (Int × Int × List UInt8) := (List.range k).map fun i : Nat => (srQ (readL m i), srE (readL m i), srL (readL m i))
theorem secsTo_succ (m : DkM) (k : Nat) : secsTo m (k + 1) = secsTo m k ++ [(srQ (readL m k), srE (readL m k), srL (readL m k))] := by simp [secsTo, List.range_succ]
theorem secsTo_len (m : DkM) (k : Nat) : (secsTo m k).length = k := by simp [secsTo]
def logS (m : DkM) : List (Int × Int × List UInt8) := secsTo m (logN m)
/-- What LogRead answers. -/
def LrPost (w : World) (m : DkM) (x : Ending) (w' : World) : Prop := ∃ (a : Option Addr) (c : Nat) (nb : List Sc), x = .returned (.tuple #[.slice a nb.length c, .int .i64 (logN m : Nat)]) ∧ nb.map Sc.key = logS m ∧ (a = none → c = 0) ∧ Born w w' ((a, scells nb) :: nb.map Sc.seg) ∧ Keeps w w'
end Go.Proofs.YtmkhlhjggbencaaDoor

/- LogRead of the program. -/
namespace Go.Proofs.YtmkhlhjggbencaaDoor
open Go.RowKit Go.Deep Go.Shelf
set_option linter.unusedVariables false
set_option maxRecDepth 10000
attribute [local go_sem] Oper.semAt_some

theorem wpListIn_append_run {F : Fence} {n : Nat} {P : Program} (w : World) {ops : Array Oper} {rest : List Oper} {o : Oper} {a : Act} {Q : Exit → Act → World → Prop}
    (hg : o.guard = none) (s x : Operand) (t : TypeId) (hop : o.op = Op.call { callee := Callee.builtin Builtin.append, args := #[s, x], argTypes := #[t, t] }) (vs vx : Value) (hs : a.eval s = vs) (hx : a.eval x = vx)
    (v' : Value) (w' : World) (hrun : (Builtin.append_ #[t, t] o.type #[vs, vx]).run P w = .ok v' w') (hK : wpListIn F n P ops Q rest (a.put o.dst v') w') : wpListIn F n P ops Q (o :: rest) a w := by
  refine wpListIn_plain hg fun K hK' => ?_
  unfold Oper.wpIn
  refine ⟨?_, ?_⟩
  · simp [Oper.about, hop, resolve, Target.leads, Sem.run_pure]
  · rw [Oper.semAt_plain F _ _ (by rw [hop]; intro c hc'; cases hc')]
    simp [execOp, hop, resolve, invoke, builtin, hs, hx, hrun, Result.andThen]
    exact hK' _ _ hK
/-- Between two rounds of LogRead, k sectors read; lo: where the iterator's own blocks begin. -/
structure RdI (w : World) (lo : Nat) (ca : Option Addr) (cc : Nat) (cs : List Bs) (da : Option Addr) (dc : Nat) (ds : List Wr) (u : TypeId) (pv : Value) (k : Nat) (W : World) (v : Value) (nb : List Sc) : Prop where
  mem : Mem W (dsk ca cs da ds)
  err : W.cell? ⟨0, 0, none⟩ = some (.iface u pv)
  box : W.cell? ⟨w.heap.size + 1, 0, none⟩ = some v
  free : W.frozen? ⟨w.heap.size + 1, 0, none⟩ = false
  list : LB 52 3 Sc.cells Sc.seg (lo + 6) W v nb
  key : nb.map Sc.key = secsTo (dat cs ds) k
  kept : Keeps w W
section
variable {w : World} {lo : Nat} {ca : Option Addr} {cc : Nat} {cs : List Bs} {da : Option Addr} {dc : Nat} {ds : List Wr} {u : TypeId} {pv : Value} {k : Nat} {W W' : World} {v : Value} {nb : List Sc}
theorem RdI.turn (h : RdI w lo ca cc cs da dc ds u pv k W v nb) {fs : List Nat} (ht : Turn fs W W') (hf : ∀ b ∈ fs, b < lo + 6) (hw : ∀ b ∈ fs, w.heap.size ≤ b) (h1 : w.heap.size + 1 ∉ fs) (h2 : ∀ x ∈ fp (dsk ca cs da ds), x < w.heap.size) (h3 : 0 < w.heap.size) : RdI w lo ca cc cs da dc ds u pv k W' v nb :=
  ⟨h.mem.turn ht (fun x hx hy => by have := h2 x hx; have := hw x hy; omega), ht.cell (fun hy => by have := hw _ hy; dsimp only at this; omega) h.err, ht.cell h1 h.box, by rw [← h.free]; exact World.frozen?_of_block (ht.block _ (lt_of_cell h.box) h1), h.list.turn ht hf, h.key, ht.keeps h.kept hw⟩
theorem RdI.later (h : RdI w lo ca cc cs da dc ds u pv k W v nb) (hk : Keeps W W') : RdI w lo ca cc cs da dc ds u pv k W' v nb :=
  ⟨h.mem.kept hk, hk.cell h.err, hk.cell h.box, by rw [hk.oldF _ _ (lt_of_cell h.box)]; exact h.free, h.list.kept hk, h.key, h.kept.trans hk⟩
theorem RdI.len (h : RdI w lo ca cc cs da dc ds u pv k W v nb) : nb.length = k := by
  have := congrArg List.length h.key
  simpa [secsTo_len] using this
end
set_option maxHeartbeats 8000000 in
theorem logread_impl (ca : Option Addr) (cc : Nat) (cs : List Bs) (da : Option Addr) (dc : Nat) (ds : List Wr) (w : World) (u : TypeId) (pv : Value) (hv : w.cell? ⟨0, 0, none⟩ = some (.iface u pv)) (hm : Mem w (dsk ca cs da ds)) (h : DOk cs ds) :
    Calls Tryd.prog 9 #[dskV ca cs.length cc da ds.length dc] w (LrPost w (dat cs ds)) := by
  obtain ⟨n, hn⟩ : ∃ n, 19 ≤ n := ⟨19, Nat.le_refl _⟩
  refine (callsIn_wide (n := n)).1 ?_
  refine callsIn_of_wp_marks Tryd.func9 rfl trivial ?_ rfl
  simp only [Tryd.ntmps9, List.size_toArray, List.length_cons, List.length_nil, Nat.reduceAdd, Nat.reduceSub, Array.replicate_succ, Array.replicate_zero, List.push_toArray, List.append_toArray, List.nil_append, List.cons_append]
  have HV := hide hv
  have HM := hide hm
  have HD := hide h
  have hcl := h.c
  have hlt := hm.lt
  have hgl := lt_of_cell hv
  clear hv hm h
  gi_wp2
  refine ⟨trivial, nofun, (callsIn_wide.2 (log_make ca cc cs da dc ds _)).mono ?_⟩
  rintro e w1 ⟨rfl, rfl⟩
  gi_wp2
  obtain ⟨W0, hW0⟩ : ∃ W0, ((w.alloc (.cells #[.slice ca cs.length cc, .slice da ds.length dc] 33)).alloc (.cells #[.slice none 0 0] 27)).alloc (.cells #[.slice ca cs.length cc, .slice da ds.length dc] 33) = W0 := ⟨_, rfl⟩
  have HS0 : Hid (W0.heap.size = w.heap.size + 3) := by show _ = _; rw [← hW0]; simp
  have hk0 : Keeps w W0 := by rw [← hW0]; exact ((Keeps.refl w).alloc _).alloc _ |>.alloc _
  have hbx := (born_alloc ((w.alloc (.cells #[.slice ca cs.length cc, .slice da ds.length dc] 33)).alloc (.cells #[.slice none 0 0] 27)) #[.slice ca cs.length cc, .slice da ds.length dc] 33).toOwn
  have htb := (born_alloc (w.alloc (.cells #[.slice ca cs.length cc, .slice da ds.length dc] 33)) #[.slice none 0 0] 27).toOwn.kept (Keeps.alloc (Keeps.refl _) (.cells #[.slice ca cs.length cc, .slice da ds.length dc] 33))
  rw [hW0] at hbx htb
  simp only [World.size_alloc] at hbx htb
  rw [hW0]
  have cb0 := cell_at hbx.mem 0 (by simp)
  have cb1 := cell_at hbx.mem 1 (by simp)
  have ct0 := cell_at htb.mem 0 (by simp)
  have cf0 := htb.free (w.heap.size + 1) (by simp [fp, fpS]) 0
  simp only [Nat.zero_add, List.getElem_cons_zero, List.getElem_cons_succ] at cb0 cb1 ct0
  have HI0 : Hid (∀ W1, Keeps W0 W1 → w.heap.size + 5 + 6 ≤ W1.heap.size → RdI w (w.heap.size + 5) ca cc cs da dc ds u pv 0 W1 (.slice none 0 0) []) := fun W1 hk1 hs1 =>
    ⟨HM.out.kept (hk0.trans hk1), (hk0.trans hk1).cell HV.out, hk1.cell ct0, by rw [hk1.oldF _ _ (lt_of_cell ct0)]; exact cf0, LB.nil _ _ _ _ (by omega), rfl, hk0.trans hk1⟩
  have HA0 : Hid (AllAt (w.heap.size + 1 + 1) ca cc cs da dc ds u pv W0) := ⟨cb0, cb1, HM.out.kept hk0, hk0.cell HV.out⟩
  clear hW0 hbx htb cf0 cb0 cb1 ct0
  refine wp_range rfl (by omega) (gf := 48) (lb := #[.pointer (some ⟨w.heap.size + 1 + 1, 0, none⟩)]) rfl trivial (enters_of Tryd.func48 (by kernel_rfl) rfl) (fun W => ∃ v nb, RdI w (w.heap.size + 5) ca cc cs da dc ds u pv (logN (dat cs ds)) W v nb) (fun _ _ => False) ?_ ?_ ?_
  · intro fn hfn W1 hk1 hs1 hr1
    generalize hR : recOf fn _ _ _ _ _ = R at hr1 ⊢
    have hs1' : W1.heap.size = w.heap.size + 5 := by have := HS0.out; omega
    have hturn : ∀ k W2 W3, ((∃ v nb, RdI w (w.heap.size + 5) ca cc cs da dc ds u pv k W2 v nb) ∧ RL R W0.heap.size .ready none W2) → Turn (lown W1.heap.size) W2 W3 → ((∃ v nb, RdI w (w.heap.size + 5) ca cc cs da dc ds u pv k W3 v nb) ∧ RL R W0.heap.size .ready none W3) := by
      rintro k W2 W3 ⟨⟨v, nb, h⟩, h'⟩ ht
      rw [hs1'] at ht
      have hs := HS0.out
      exact ⟨⟨v, nb, h.turn ht (fun b hb => by simp at hb; omega) (fun b hb => by simp at hb; omega) (by simp <;> omega) hlt hgl⟩, h'.turn ht (by simp <;> omega) (by simp <;> omega)⟩
    refine (log_in (n - 1) (W0.heap.size + 1) (w.heap.size + 1 + 1) ca cc cs da dc ds u pv (fun k W => (∃ v nb, RdI w (w.heap.size + 5) ca cc cs da dc ds u pv k W v nb) ∧ RL R W0.heap.size .ready none W) (fun _ => False) HD.out (by omega) W1 (HA0.out.kept hk1) ?_ hturn ?_ ?_ ?_).mono ?_
    · rintro k W2 ⟨⟨v, nb, h⟩, _⟩
      exact ⟨h.mem, h.err⟩
    · intro W2 W3 hf
      exact hf.elim
    · intro W2 hk2 hs2
      exact ⟨⟨_, _, HI0.out W2 (hk1.trans hk2) (by omega)⟩, hr1.kept hk2⟩
    · rintro k W2 W3 a c n' hkl hfk hfit ⟨⟨v, nb, h⟩, h'⟩ ht hs2 hac hb
      obtain ⟨⟨v1, nb1, h2⟩, hr2⟩ := hturn k W2 W3 ⟨⟨v, nb, h⟩, h'⟩ ht
      have h2 : RdI w (w.heap.size + 5) ca cc cs da dc ds u pv k W3 v nb := by
        rw [hs1'] at ht
        exact h.turn ht (fun b hb => by simp at hb; omega) (fun b hb => by simp at hb; omega) (by simp <;> omega) hlt hgl
      rw [hs1'] at hs2 ht
      have hnl := h.len
      subst hR
      refine YieldAt.mono (yield_round (G := fun W' => (∃ v nb, RdI w (w.heap.size + 5) ca cc cs da dc ds u pv (k + 1) W' v nb) ∧ ∃ gs, (∀ b ∈ gs, b < W2.heap.size ∧ (b < w.heap.size + 5 ∨ w.heap.size + 5 + 6 ≤ b)) ∧ Turn gs W3 W') (Gx := fun _ _ => False) hfn hr2 rfl ?_) ?_
      · generalize recOf fn _ _ _ _ _ = R at hr2 ⊢
        gi_wp2
        have hka := Keeps.alloc (Keeps.refl W3) (.cells #[.int .i64 (srQ (readL (dat cs ds) k)), .int .i64 (srE (readL (dat cs ds) k)), .slice a (srL (readL (dat cs ds) k)).length c] 52)
        have hbo := (born_alloc W3 #[.int .i64 (srQ (readL (dat cs ds) k)), .int .i64 (srE (readL (dat cs ds) k)), .slice a (srL (readL (dat cs ds) k)).length c] 52).toOwn
        generalize W3.alloc (.cells #[.int .i64 (srQ (readL (dat cs ds) k)), .int .i64 (srE (readL (dat cs ds) k)), .slice a (srL (readL (dat cs ds) k)).length c] 52) = W4 at *
        refine ⟨hr2.kept hka, fun W5 ht5 hr5 => ?_⟩
        have hl2 := hr2.lt
        have hz := HS0.out
        have hb5 := hbo.turn ht5 (fun x hx hy => by simp [fp, fpS] at hx hy; omega)
        have h5 := (h2.later hka).turn ht5 (fun b hb => by simp at hb; omega) (fun b hb => by simp at hb; omega) (by simp <;> omega) hlt hgl
        have hT : Turn (lown (w.heap.size + 5) ++ [W0.heap.size + 1]) W2 W5 := (ht.trans (Turn.of_keeps hka [])).mono (by simp) |>.trans ht5
        have s0 := cell_at hb5.mem 0 (by simp)
        have s1 := cell_at hb5.mem 1 (by simp)
        have s2 := cell_at hb5.mem 2 (by simp)
        simp only [Nat.zero_add, List.getElem_cons_zero, List.getElem_cons_succ] at s0 s1 s2
        have t0 := h5.box
        have t1 := h5.free
        have hown := h5.list.row
        rw [hnl] at hown
        obtain ⟨v', w6, e6, hr6, hg6, hv6⟩ := run_sector W5 (w.heap.size + 5 + 6) v k _ (.int .i64 (srQ (readL (dat cs ds) k))) (.int .i64 (srE (readL (dat cs ds) k))) (.slice a (srL (readL (dat cs ds) k)).length c) rfl rfl rfl 27 hown (by omega) h5.list.size
        obtain ⟨g', cap', rfl⟩ := ownsRow_succ hr6
        have htv : Turn v.ownBlock.toList (W5.alloc (.cells #[.int .i64 (srQ (readL (dat cs ds) k)), .int .i64 (srE (readL (dat cs ds) k)), .slice a (srL (readL (dat cs ds) k)).length c] 52)) w6 := Turn.of_grown hg6 (fun k hk' => by rw [hk']; simp)
        have hvb : ∀ b ∈ v.ownBlock.toList, w.heap.size + 5 + 6 ≤ b ∧ b < W2.heap.size := fun b hb => h.list.row.lt b (by simpa using hb)
        have hkt := Keeps.alloc (Keeps.refl W5) (.cells #[.int .i64 (srQ (readL (dat cs ds) k)), .int .i64 (srE (readL (dat cs ds) k)), .slice a (srL (readL (dat cs ds) k)).length c] 52)
        have T6 : Turn v.ownBlock.toList W5 w6 := ((Turn.of_keeps hkt []).trans htv).mono (by simp)
        have b6 := T6.cell (p := ⟨w.heap.size + 1, 0, none⟩) (fun hx => by have := hvb _ hx; dsimp only at this; omega) t0
        have f6 : w6.frozen? ⟨w.heap.size + 1, 0, none⟩ = false := by rw [← t1]; exact World.frozen?_of_block (T6.block _ (lt_of_cell t0) (fun hx => by have := hvb _ hx; dsimp only at this; omega))
        have HL6 := hide (h.list.snoc (x := ⟨srQ (readL (dat cs ds) k), srE (readL (dat cs ds) k), ⟨a, c, srL (readL (dat cs ds) k)⟩⟩) hT (fun b hb => by simp at hb; omega) ((hb.kept hka).toOwn.turn ht5 (fun x hx hy => by have := hb.new x hx; simp at hy; omega)) (fun b hb' => hb.new b hb') hg6 (by rw [hnl]; exact hr6) hv6)
        have HR5 := hide hr5
        have H5 := hide h5
        have HT6 := hide T6
        have HT5 := hide ((Turn.of_keeps hka []).trans ht5)
        have HVB := hide hvb
        have hsz6 : W5.heap.size ≤ w6.heap.size := T6.size
        have HE6 := hide e6
        clear h h2 hr2 hka hbo ht5 hr5 h5 hT hown hr6 hg6 hv6 htv hvb hkt T6 hb hb5 hl2 ht e6
        gi_wp2_with (gi_at_builtin; refine wpListIn_append_run _ rfl (.tmp 9) (.tmp 11) 27 rfl _ _ rfl rfl _ _ HE6.out ?_)
        have T : Turn (v.ownBlock.toList ++ [w.heap.size + 1]) W5 (w6.setCell ⟨w.heap.size + 1, 0, none⟩ (.slice (some ⟨g', 0, none⟩) (k + 1) cap')) := HT6.out.trans (Turn.set (by simp) _)
        have hT1 : ∀ b ∈ v.ownBlock.toList ++ [w.heap.size + 1], (w.heap.size + 5 + 6 ≤ b ∧ b < W2.heap.size) ∨ b = w.heap.size + 1 := fun b hb => by
          rcases List.mem_append.1 hb with hb | hb
          · exact .inl (HVB.out b hb)
          · exact .inr (by simpa using hb)
        refine ⟨HR5.out.turn T (fun hx => by have := hT1 _ hx; omega) (fun hx => by have := hT1 _ hx; omega), fun W7 ht7 => ⟨?_, [W0.heap.size + 1] ++ (v.ownBlock.toList ++ [w.heap.size + 1]), ?_, ?_⟩⟩
        · have h8 : RdI w (w.heap.size + 5) ca cc cs da dc ds u pv (k + 1) (w6.setCell ⟨w.heap.size + 1, 0, none⟩ (.slice (some ⟨g', 0, none⟩) (k + 1) cap')) (.slice (some ⟨g', 0, none⟩) (k + 1) cap') (nb ++ [⟨srQ (readL (dat cs ds) k), srE (readL (dat cs ds) k), ⟨a, c, srL (readL (dat cs ds) k)⟩⟩]) :=
            ⟨H5.out.mem.turn T (fun x hx hy => by have := hlt x hx; have := hT1 x hy; omega), T.cell (fun hy => by have := hT1 _ hy; dsimp only at this; omega) H5.out.err, World.cell?_setCell_same _ _ _ b6, by rw [World.frozen?_setCell]; exact f6,
             HL6.out.turn (Turn.set (fs := [w.heap.size + 1]) (by simp) _) (fun b hb => by simp at hb; omega), by rw [List.map_append, H5.out.key, secsTo_succ]; rfl, T.keeps H5.out.kept (fun b hb => by have := hT1 b hb; omega)⟩
          exact ⟨_, _, h8.turn ht7 (fun b hb => by simp at hb; omega) (fun b hb => by simp at hb; omega) (by simp <;> omega) hlt hgl⟩
        · intro b hb
          rcases List.mem_append.1 hb with hb | hb
          · have : b = W0.heap.size + 1 := by simpa using hb
            omega
          · have := hT1 b hb
            omega
        · exact (((HT5.out.mono (gs := [W0.heap.size + 1]) (by simp)).trans T).trans ht7).mono (fun x hx => by rcases List.mem_append.1 hx with hx | hx; exact hx; exact List.mem_append_left _ hx)
      · rintro e W'' (⟨he, hg, hr⟩ | ⟨_, _, hf, _⟩)
        · refine ⟨.inl ⟨he, hg.1, hr⟩, ?_⟩
          obtain ⟨gs, h1, h2⟩ := hg.2
          exact ⟨gs, fun b hb => by have := h1 b hb; omega, h2⟩
        · exact hf.elim
    · rintro e W2 ⟨hv, W3, (⟨⟨v, nb, h⟩, h'⟩ | hf), ht⟩
      · have hz := HS0.out
        rw [hs1'] at ht
        exact ⟨hv, .inl ⟨⟨v, nb, h.turn ht (fun b hb => by simp at hb; omega) (fun b hb => by simp at hb; omega) (by simp <;> omega) hlt hgl⟩, h'.turn ht (by simp <;> omega) (by simp <;> omega)⟩⟩
      · exact hf.elim
  · rintro W W' ⟨v, nb, hG⟩ ht hK
    have hz := HS0.out
    have h2 := hG.turn ht (fun b hb => by simp at hb; omega) (fun b hb => by simp at hb; omega) (by simp <;> omega) hlt hgl
    obtain ⟨a, cap, rfl, hna, ho, hnew⟩ := h2.list.born
    have hnl := h2.len
    have HNL := hide hnl
    have t0 := h2.box
    have HI := hide h2
    have HO := hide ho
    have HN := hide hnew
    clear h2 ho hnew hG ht hnl
    have hmx : Tryd.prog.follows .mixedOrders = true := by kernel_rfl
    gi_wp2
    refine wpIn_wide.2 ?_
    go_region_held3 (fun w' => w'.cell? ⟨w.heap.size + 1, 0, none⟩ = some (.slice a nb.length cap)) (go_keep) (fail)
    gi_wp2
    refine ⟨by simp, .inl ⟨_, _, rfl, run_takeDeferred (w := W'.drew) hK, ?_⟩⟩
    have T : Turn [W0.heap.size] W' (W'.drew.putObj W0.heap.size (.deferred none)) := ((Turn.of_keeps ((Keeps.refl W').drew) []).trans (turn_putObj _ _ _)).mono (by simp)
    refine ⟨.tuple #[.slice a nb.length cap, .int .i64 (nb.length : Nat)], by simp [results, Tryd.results9, go_sem], a, cap, nb, by rw [HNL.out], HI.out.key, hna, ⟨?_, ?_⟩, ?_⟩
    · exact HO.out.turn T (fun b hb hx => by have := HN.out b hb; simp at hx; omega)
    · intro b hb
      have := HN.out b hb
      omega
    · exact T.keeps HI.out.kept (fun b hb => by simp at hb; omega)
  · intro c W W' hf
    exact hf.elim
end Go.Proofs.YtmkhlhjggbencaaDoor
