/- Texts of the verifier, joined: LRi, SBS, Str. -/
import Derived.Test.YtkdnddckogbgaaaDoorLR10
import Derived.Test.YtkdnddckogbgaaaDoorLR2
import Derived.Laws.BytesString
import Derived.Laws.Cells
namespace Go.Proofs.YtkdnddckogbgaaaDoor
open Go.RowKit Go.Deep Go.Shelf
set_option linter.unusedVariables false
set_option maxRecDepth 10000
attribute [local go_sem] Oper.semAt_some

theorem wpListIn_append_run {F : Fence} {n : Nat} {P : Program} (w : World) {ops : Array Oper} {rest : List Oper} {o : Oper} {a : Act} {Q : Exit → Act → World → Prop}
    (hg : o.guard = none) (s x : Operand) (t : TypeId) (hop : o.op = Op.call { callee := Callee.builtin Builtin.append, args := #[s, x], argTypes := #[t, t] }) (vs vx : Value) (hs : a.eval s = vs) (hx : a.eval x = vx)
    (v' : Value) (w' : World) (hrun : (Builtin.append_ #[t, t] o.type #[vs, vx]).run P w = .ok v' w') (hK : wpListIn F n P ops Q rest (a.put o.dst v') w') : wpListIn F n P ops Q (o :: rest) a w := by
  refine wpListIn_plain hg fun K hK' => ?_
  unfold Oper.wpIn
  refine ⟨?_, ?_⟩
  · simp [Oper.about, hop, resolve, Target.leads, Sem.run_pure]
  · rw [Oper.semAt_plain F _ _ (by rw [hop]; intro c hc'; cases hc')]
    simp [execOp, hop, resolve, invoke, builtin, hs, hx, hrun, Result.andThen]
    exact hK' _ _ hK
/-- Between two rounds of LogRead, k sectors read; lo: where the iterator's own blocks begin. -/
structure RdI (w : World) (lo : Nat) (ca : Option Addr) (cc : Nat) (cs : List Bs) (da : Option Addr) (dc : Nat) (ds : List Wr) (u : TypeId) (pv : Value) (k : Nat) (W : World) (v : Value) (nb : List Sc) : Prop where
  mem : Mem W (dsk ca cs da ds)
  err : W.cell? ⟨0, 0, none⟩ = some (.iface u pv)
  box : W.cell? ⟨w.heap.size + 1, 0, none⟩ = some v
  free : W.frozen? ⟨w.heap.size + 1, 0, none⟩ = false
  list : LB 52 3 Sc.cells Sc.seg (lo + 6) W v nb
  key : nb.map Sc.key = secsTo (dat cs ds) k
  kept : Keeps w W
section
variable {w : World} {lo : Nat} {ca : Option Addr} {cc : Nat} {cs : List Bs} {da : Option Addr} {dc : Nat} {ds : List Wr} {u : TypeId} {pv : Value} {k : Nat} {W W' : World} {v : Value} {nb : List Sc}
theorem RdI.turn (h : RdI w lo ca cc cs da dc ds u pv k W v nb) {fs : List Nat} (ht : Turn fs W W') (hf : ∀ b ∈ fs, b < lo + 6) (hw : ∀ b ∈ fs, w.heap.size ≤ b) (h1 : w.heap.size + 1 ∉ fs) (h2 : ∀ x ∈ fp (dsk ca cs da ds), x < w.heap.size) (h3 : 0 < w.heap.size) : RdI w lo ca cc cs da dc ds u pv k W' v nb :=
  ⟨h.mem.turn ht (fun x hx hy => by have := h2 x hx; have := hw x hy; omega), ht.cell (fun hy => by have := hw _ hy; dsimp only at this; omega) h.err, ht.cell h1 h.box, by rw [← h.free]; exact World.frozen?_of_block (ht.block _ (lt_of_cell h.box) h1), h.list.turn ht hf, h.key, ht.keeps h.kept hw⟩
theorem RdI.later (h : RdI w lo ca cc cs da dc ds u pv k W v nb) (hk : Keeps W W') : RdI w lo ca cc cs da dc ds u pv k W' v nb :=
  ⟨h.mem.kept hk, hk.cell h.err, hk.cell h.box, by rw [hk.oldF _ _ (lt_of_cell h.box)]; exact h.free, h.list.kept hk, h.key, h.kept.trans hk⟩
theorem RdI.len (h : RdI w lo ca cc cs da dc ds u pv k W v nb) : nb.length = k := by
  have := congrArg List.length h.key
  simpa [secsTo_len] using this
end
set_option maxHeartbeats 8000000 in
theorem logread_impl (ca : Option Addr) (cc : Nat) (cs : List Bs) (da : Option Addr) (dc : Nat) (ds : List Wr) (w : World) (u : TypeId) (pv : Value) (hv : w.cell? ⟨0, 0, none⟩ = some (.iface u pv)) (hm : Mem w (dsk ca cs da ds)) (h : DOk cs ds) :
    Calls Tryd.prog 9 #[dskV ca cs.length cc da ds.length dc] w (LrPost w (dat cs ds)) := by
  obtain ⟨n, hn⟩ : ∃ n, 19 ≤ n := ⟨19, Nat.le_refl _⟩
  refine (callsIn_wide (n := n)).1 ?_
  refine callsIn_of_wp_marks Tryd.func9 rfl trivial ?_ rfl
  simp only [Tryd.ntmps9, List.size_toArray, List.length_cons, List.length_nil, Nat.reduceAdd, Nat.reduceSub, Array.replicate_succ, Array.replicate_zero, List.push_toArray, List.append_toArray, List.nil_append, List.cons_append]
  have HV := hide hv
  have HM := hide hm
  have HD := hide h
  have hcl := h.c
  have hlt := hm.lt
  have hgl := lt_of_cell hv
  clear hv hm h
  gi_wp2
  refine ⟨trivial, nofun, (callsIn_wide.2 (log_make ca cc cs da dc ds _)).mono ?_⟩
  rintro e w1 ⟨rfl, rfl⟩
  gi_wp2
  obtain ⟨W0, hW0⟩ : ∃ W0, ((w.alloc (.cells #[.slice ca cs.length cc, .slice da ds.length dc] 33)).alloc (.cells #[.slice none 0 0] 27)).alloc (.cells #[.slice ca cs.length cc, .slice da ds.length dc] 33) = W0 := ⟨_, rfl⟩
  have HS0 : Hid (W0.heap.size = w.heap.size + 3) := by show _ = _; rw [← hW0]; simp
  have hk0 : Keeps w W0 := by rw [← hW0]; exact ((Keeps.refl w).alloc _).alloc _ |>.alloc _
  have hbx := (born_alloc ((w.alloc (.cells #[.slice ca cs.length cc, .slice da ds.length dc] 33)).alloc (.cells #[.slice none 0 0] 27)) #[.slice ca cs.length cc, .slice da ds.length dc] 33).toOwn
  have htb := (born_alloc (w.alloc (.cells #[.slice ca cs.length cc, .slice da ds.length dc] 33)) #[.slice none 0 0] 27).toOwn.kept (Keeps.alloc (Keeps.refl _) (.cells #[.slice ca cs.length cc, .slice da ds.length dc] 33))
  rw [hW0] at hbx htb
  simp only [World.size_alloc] at hbx htb
  rw [hW0]
  have cb0 := cell_at hbx.mem 0 (by simp)
  have cb1 := cell_at hbx.mem 1 (by simp)
  have ct0 := cell_at htb.mem 0 (by simp)
  have cf0 := htb.free (w.heap.size + 1) (by simp [fp, fpS]) 0
  simp only [Nat.zero_add, List.getElem_cons_zero, List.getElem_cons_succ] at cb0 cb1 ct0
  have HI0 : Hid (∀ W1, Keeps W0 W1 → w.heap.size + 5 + 6 ≤ W1.heap.size → RdI w (w.heap.size + 5) ca cc cs da dc ds u pv 0 W1 (.slice none 0 0) []) := fun W1 hk1 hs1 =>
    ⟨HM.out.kept (hk0.trans hk1), (hk0.trans hk1).cell HV.out, hk1.cell ct0, by rw [hk1.oldF _ _ (lt_of_cell ct0)]; exact cf0, LB.nil _ _ _ _ (by omega), rfl, hk0.trans hk1⟩
  have HA0 : Hid (AllAt (w.heap.size + 1 + 1) ca cc cs da dc ds u pv W0) := ⟨cb0, cb1, HM.out.kept hk0, hk0.cell HV.out⟩
  clear hW0 hbx htb cf0 cb0 cb1 ct0
  refine wp_range rfl (by omega) (gf := 48) (lb := #[.pointer (some ⟨w.heap.size + 1 + 1, 0, none⟩)]) rfl trivial (enters_of Tryd.func48 (by kernel_rfl) rfl) (fun W => ∃ v nb, RdI w (w.heap.size + 5) ca cc cs da dc ds u pv (logN (dat cs ds)) W v nb) (fun _ _ => False) ?_ ?_ ?_
  · intro fn hfn W1 hk1 hs1 hr1
    generalize hR : recOf fn _ _ _ _ _ = R at hr1 ⊢
    have hs1' : W1.heap.size = w.heap.size + 5 := by have := HS0.out; omega
    have hturn : ∀ k W2 W3, ((∃ v nb, RdI w (w.heap.size + 5) ca cc cs da dc ds u pv k W2 v nb) ∧ RL R W0.heap.size .ready none W2) → Turn (lown W1.heap.size) W2 W3 → ((∃ v nb, RdI w (w.heap.size + 5) ca cc cs da dc ds u pv k W3 v nb) ∧ RL R W0.heap.size .ready none W3) := by
      rintro k W2 W3 ⟨⟨v, nb, h⟩, h'⟩ ht
      rw [hs1'] at ht
      have hs := HS0.out
      exact ⟨⟨v, nb, h.turn ht (fun b hb => by simp at hb; omega) (fun b hb => by simp at hb; omega) (by simp <;> omega) hlt hgl⟩, h'.turn ht (by simp <;> omega) (by simp <;> omega)⟩
    refine (log_in (n - 1) (W0.heap.size + 1) (w.heap.size + 1 + 1) ca cc cs da dc ds u pv (fun k W => (∃ v nb, RdI w (w.heap.size + 5) ca cc cs da dc ds u pv k W v nb) ∧ RL R W0.heap.size .ready none W) (fun _ => False) HD.out (by omega) W1 (HA0.out.kept hk1) ?_ hturn ?_ ?_ ?_).mono ?_
    · rintro k W2 ⟨⟨v, nb, h⟩, _⟩
      exact ⟨h.mem, h.err⟩
    · intro W2 W3 hf
      exact hf.elim
    · intro W2 hk2 hs2
      exact ⟨⟨_, _, HI0.out W2 (hk1.trans hk2) (by omega)⟩, hr1.kept hk2⟩
    · rintro k W2 W3 a c n' hkl hfk hfit ⟨⟨v, nb, h⟩, h'⟩ ht hs2 hac hb
      obtain ⟨⟨v1, nb1, h2⟩, hr2⟩ := hturn k W2 W3 ⟨⟨v, nb, h⟩, h'⟩ ht
      have h2 : RdI w (w.heap.size + 5) ca cc cs da dc ds u pv k W3 v nb := by
        rw [hs1'] at ht
        exact h.turn ht (fun b hb => by simp at hb; omega) (fun b hb => by simp at hb; omega) (by simp <;> omega) hlt hgl
      rw [hs1'] at hs2 ht
      have hnl := h.len
      subst hR
      refine YieldAt.mono (yield_round (G := fun W' => (∃ v nb, RdI w (w.heap.size + 5) ca cc cs da dc ds u pv (k + 1) W' v nb) ∧ ∃ gs, (∀ b ∈ gs, b < W2.heap.size ∧ (b < w.heap.size + 5 ∨ w.heap.size + 5 + 6 ≤ b)) ∧ Turn gs W3 W') (Gx := fun _ _ => False) hfn hr2 rfl ?_) ?_
      · generalize recOf fn _ _ _ _ _ = R at hr2 ⊢
        gi_wp2
        have hka := Keeps.alloc (Keeps.refl W3) (.cells #[.int .i64 (srQ (readL (dat cs ds) k)), .int .i64 (srE (readL (dat cs ds) k)), .slice a (srL (readL (dat cs ds) k)).length c] 52)
        have hbo := (born_alloc W3 #[.int .i64 (srQ (readL (dat cs ds) k)), .int .i64 (srE (readL (dat cs ds) k)), .slice a (srL (readL (dat cs ds) k)).length c] 52).toOwn
        generalize W3.alloc (.cells #[.int .i64 (srQ (readL (dat cs ds) k)), .int .i64 (srE (readL (dat cs ds) k)), .slice a (srL (readL (dat cs ds) k)).length c] 52) = W4 at *
        refine ⟨hr2.kept hka, fun W5 ht5 hr5 => ?_⟩
        have hl2 := hr2.lt
        have hz := HS0.out
        have hb5 := hbo.turn ht5 (fun x hx hy => by simp [fp, fpS] at hx hy; omega)
        have h5 := (h2.later hka).turn ht5 (fun b hb => by simp at hb; omega) (fun b hb => by simp at hb; omega) (by simp <;> omega) hlt hgl
        have hT : Turn (lown (w.heap.size + 5) ++ [W0.heap.size + 1]) W2 W5 := (ht.trans (Turn.of_keeps hka [])).mono (by simp) |>.trans ht5
        have s0 := cell_at hb5.mem 0 (by simp)
        have s1 := cell_at hb5.mem 1 (by simp)
        have s2 := cell_at hb5.mem 2 (by simp)
        simp only [Nat.zero_add, List.getElem_cons_zero, List.getElem_cons_succ] at s0 s1 s2
        have t0 := h5.box
        have t1 := h5.free
        have hown := h5.list.row
        rw [hnl] at hown
        obtain ⟨v', w6, e6, hr6, hg6, hv6⟩ := run_sector W5 (w.heap.size + 5 + 6) v k _ (.int .i64 (srQ (readL (dat cs ds) k))) (.int .i64 (srE (readL (dat cs ds) k))) (.slice a (srL (readL (dat cs ds) k)).length c) rfl rfl rfl 27 hown (by omega) h5.list.size
        obtain ⟨g', cap', rfl⟩ := ownsRow_succ hr6
        have htv : Turn v.ownBlock.toList (W5.alloc (.cells #[.int .i64 (srQ (readL (dat cs ds) k)), .int .i64 (srE (readL (dat cs ds) k)), .slice a (srL (readL (dat cs ds) k)).length c] 52)) w6 := Turn.of_grown hg6 (fun k hk' => by rw [hk']; simp)
        have hvb : ∀ b ∈ v.ownBlock.toList, w.heap.size + 5 + 6 ≤ b ∧ b < W2.heap.size := fun b hb => h.list.row.lt b (by simpa using hb)
        have hkt := Keeps.alloc (Keeps.refl W5) (.cells #[.int .i64 (srQ (readL (dat cs ds) k)), .int .i64 (srE (readL (dat cs ds) k)), .slice a (srL (readL (dat cs ds) k)).length c] 52)
        have T6 : Turn v.ownBlock.toList W5 w6 := ((Turn.of_keeps hkt []).trans htv).mono (by simp)
        have b6 := T6.cell (p := ⟨w.heap.size + 1, 0, none⟩) (fun hx => by have := hvb _ hx; dsimp only at this; omega) t0
        have f6 : w6.frozen? ⟨w.heap.size + 1, 0, none⟩ = false := by rw [← t1]; exact World.frozen?_of_block (T6.block _ (lt_of_cell t0) (fun hx => by have := hvb _ hx; dsimp only at this; omega))
        have HL6 := hide (h.list.snoc (x := ⟨srQ (readL (dat cs ds) k), srE (readL (dat cs ds) k), ⟨a, c, srL (readL (dat cs ds) k)⟩⟩) hT (fun b hb => by simp at hb; omega) ((hb.kept hka).toOwn.turn ht5 (fun x hx hy => by have := hb.new x hx; simp at hy; omega)) (fun b hb' => hb.new b hb') hg6 (by rw [hnl]; exact hr6) hv6)
        have HR5 := hide hr5
        have H5 := hide h5
        have HT6 := hide T6
        have HT5 := hide ((Turn.of_keeps hka []).trans ht5)
        have HVB := hide hvb
        have hsz6 : W5.heap.size ≤ w6.heap.size := T6.size
        have HE6 := hide e6
        clear h h2 hr2 hka hbo ht5 hr5 h5 hT hown hr6 hg6 hv6 htv hvb hkt T6 hb hb5 hl2 ht e6
        gi_wp2_with (gi_at_builtin; refine wpListIn_append_run _ rfl (.tmp 9) (.tmp 11) 27 rfl _ _ rfl rfl _ _ HE6.out ?_)
        have T : Turn (v.ownBlock.toList ++ [w.heap.size + 1]) W5 (w6.setCell ⟨w.heap.size + 1, 0, none⟩ (.slice (some ⟨g', 0, none⟩) (k + 1) cap')) := HT6.out.trans (Turn.set (by simp) _)
        have hT1 : ∀ b ∈ v.ownBlock.toList ++ [w.heap.size + 1], (w.heap.size + 5 + 6 ≤ b ∧ b < W2.heap.size) ∨ b = w.heap.size + 1 := fun b hb => by
          rcases List.mem_append.1 hb with hb | hb
          · exact .inl (HVB.out b hb)
          · exact .inr (by simpa using hb)
        refine ⟨HR5.out.turn T (fun hx => by have := hT1 _ hx; omega) (fun hx => by have := hT1 _ hx; omega), fun W7 ht7 => ⟨?_, [W0.heap.size + 1] ++ (v.ownBlock.toList ++ [w.heap.size + 1]), ?_, ?_⟩⟩
        · have h8 : RdI w (w.heap.size + 5) ca cc cs da dc ds u pv (k + 1) (w6.setCell ⟨w.heap.size + 1, 0, none⟩ (.slice (some ⟨g', 0, none⟩) (k + 1) cap')) (.slice (some ⟨g', 0, none⟩) (k + 1) cap') (nb ++ [⟨srQ (readL (dat cs ds) k), srE (readL (dat cs ds) k), ⟨a, c, srL (readL (dat cs ds) k)⟩⟩]) :=
            ⟨H5.out.mem.turn T (fun x hx hy => by have := hlt x hx; have := hT1 x hy; omega), T.cell (fun hy => by have := hT1 _ hy; dsimp only at this; omega) H5.out.err, World.cell?_setCell_same _ _ _ b6, by rw [World.frozen?_setCell]; exact f6,
             HL6.out.turn (Turn.set (fs := [w.heap.size + 1]) (by simp) _) (fun b hb => by simp at hb; omega), by rw [List.map_append, H5.out.key, secsTo_succ]; rfl, T.keeps H5.out.kept (fun b hb => by have := hT1 b hb; omega)⟩
          exact ⟨_, _, h8.turn ht7 (fun b hb => by simp at hb; omega) (fun b hb => by simp at hb; omega) (by simp <;> omega) hlt hgl⟩
        · intro b hb
          rcases List.mem_append.1 hb with hb | hb
          · have : b = W0.heap.size + 1 := by simpa using hb
            omega
          · have := hT1 b hb
            omega
        · exact (((HT5.out.mono (gs := [W0.heap.size + 1]) (by simp)).trans T).trans ht7).mono (fun x hx => by rcases List.mem_append.1 hx with hx | hx; exact hx; exact List.mem_append_left _ hx)
      · rintro e W'' (⟨he, hg, hr⟩ | ⟨_, _, hf, _⟩)
        · refine ⟨.inl ⟨he, hg.1, hr⟩, ?_⟩
          obtain ⟨gs, h1, h2⟩ := hg.2
          exact ⟨gs, fun b hb => by have := h1 b hb; omega, h2⟩
        · exact hf.elim
    · rintro e W2 ⟨hv, W3, (⟨⟨v, nb, h⟩, h'⟩ | hf), ht⟩
      · have hz := HS0.out
        rw [hs1'] at ht
        exact ⟨hv, .inl ⟨⟨v, nb, h.turn ht (fun b hb => by simp at hb; omega) (fun b hb => by simp at hb; omega) (by simp <;> omega) hlt hgl⟩, h'.turn ht (by simp <;> omega) (by simp <;> omega)⟩⟩
      · exact hf.elim
  · rintro W W' ⟨v, nb, hG⟩ ht hK
    have hz := HS0.out
    have h2 := hG.turn ht (fun b hb => by simp at hb; omega) (fun b hb => by simp at hb; omega) (by simp <;> omega) hlt hgl
    obtain ⟨a, cap, rfl, hna, ho, hnew⟩ := h2.list.born
    have hnl := h2.len
    have HNL := hide hnl
    have t0 := h2.box
    have HI := hide h2
    have HO := hide ho
    have HN := hide hnew
    clear h2 ho hnew hG ht hnl
    have hmx : Tryd.prog.follows .mixedOrders = true := by kernel_rfl
    gi_wp2
    refine wpIn_wide.2 ?_
    go_region_held3 (fun w' => w'.cell? ⟨w.heap.size + 1, 0, none⟩ = some (.slice a nb.length cap)) (go_keep) (fail)
    gi_wp2
    refine ⟨by simp, .inl ⟨_, _, rfl, run_takeDeferred (w := W'.drew) hK, ?_⟩⟩
    have T : Turn [W0.heap.size] W' (W'.drew.putObj W0.heap.size (.deferred none)) := ((Turn.of_keeps ((Keeps.refl W').drew) []).trans (turn_putObj _ _ _)).mono (by simp)
    refine ⟨.tuple #[.slice a nb.length cap, .int .i64 (nb.length : Nat)], by simp [results, Tryd.results9, go_sem], a, cap, nb, by rw [HNL.out], HI.out.key, hna, ⟨?_, ?_⟩, ?_⟩
    · exact HO.out.turn T (fun b hb hx => by have := HN.out b hb; simp at hx; omega)
    · intro b hb
      have := HN.out b hb
      omega
    · exact T.keeps HI.out.kept (fun b hb => by simp at hb; omega)
  · intro c W W' hf
    exact hf.elim
end Go.Proofs.YtkdnddckogbgaaaDoor
namespace Go.Proofs.YtkdnddckogbgaaaDoor
open Go.RowKit Go.Deep
set_option linter.unusedVariables false
set_option maxRecDepth 10000
theorem put_yes (a : Option Addr) (cap : Nat) (L : List UInt8) (n s : Nat) (w : World) (hc : Cells w a (bys L)) (hn : a = none → cap = 0) (hl : L.length ≤ 2097152) (h1 : 1 ≤ s) (h2 : s ≤ 7) (hb : n < 256 ^ s) :
    Calls Tryd.prog 61 #[.slice a L.length cap, .int .i64 (n : Int), .int .i64 (s : Int)] w fun x w' => ∃ v, x = .returned (.tuple #[v, .bool true]) ∧ OwnsB w' w.heap.size v (L ++ digs n s) ∧ Keeps w w' := by
  have hp : putB n s = true := putB_yes h1 h2 (by omega) (by omega)
  have h7 := pow_le7 h2
  refine (putnum_spec a cap L n s w hc hn hl (by omega)).mono ?_
  rintro x w' ⟨v, rfl, ho, hk⟩
  refine ⟨v, by rw [hp], ?_, hk⟩
  unfold putL at ho
  rw [if_pos hp] at ho
  exact ho
set_option maxHeartbeats 2000000 in
theorem secbytes_spec (q e : Int) (a : Option Addr) (cap : Nat) (L : List UInt8) (w : World) (hc : Cells w a (bys L)) (hn : a = none → cap = 0) (hl : L.length ≤ 9223372036854775807) :
    Calls Tryd.prog 45 #[secV q e a L.length cap] w (SecPost w q e L) := by
  have HOK := hide (fun w1 => secok_spec q e a L.length cap w1 hl)
  have HKA := hide (Keeps.alloc (Keeps.refl w) (.cells #[.int .i64 q, .int .i64 e, .slice a L.length cap] 52))
  have HD : Hid (∀ w', Keeps (w.alloc (.cells #[.int .i64 q, .int .i64 e, .slice a L.length cap] 52)) w' → w'.cell? ⟨w.heap.size, 0, none⟩ = some (.int .i64 q) ∧ w'.cell? ⟨w.heap.size, 1, none⟩ = some (.int .i64 e) ∧ w'.cell? ⟨w.heap.size, 2, none⟩ = some (.slice a L.length cap)) :=
    fun w' hk => ⟨hk.cell (by simp), hk.cell (by simp), hk.cell (by simp)⟩
  have HC := hide (hc.kept HKA.out)
  have HH := hide hn
  clear hc hn
  cases hb : secB q e L.length
  · rw [hb] at HOK
    have HB := hide hb
    clear hb
    go_enter Tryd.func45, Tryd.ntmps45
    go_wp2_with (go_at_call 60; refine (unhide HOK _).mono ?_; rintro x w1 ⟨rfl, hk1⟩)
    go_ret2
    exact SecPost.no HB.out (HKA.out.trans hk1)
  · rw [hb] at HOK
    obtain ⟨hq0, hq1, he0, he1, hL⟩ := secB_true hb
    obtain ⟨q, rfl⟩ : ∃ n : Nat, q = n := ⟨q.toNat, by omega⟩
    obtain ⟨e, rfl⟩ : ∃ n : Nat, e = n := ⟨e.toNat, by omega⟩
    have HB := hide hb
    have HQ : Hid (q < 256 ^ 3) := by show q < 16777216; omega
    have HE : Hid (e < 256 ^ 3) := by show e < 16777216; omega
    have HN : Hid (L.length < 256 ^ 1) := by show L.length < 256; omega
    have HL := hide hL
    clear hb hl hq0 hq1 he0 he1
    go_enter Tryd.func45, Tryd.ntmps45
    go_wp2_with fail
    refine (unhide HOK _).mono ?_
    rintro x w1 ⟨rfl, hk1⟩
    have HK1 := hide hk1
    replace HC := hide (HC.out.kept hk1)
    obtain ⟨d0', d1', d2'⟩ := HD.out _ hk1
    clear hk1
    have HCJ : Hid (Cells (w1.alloc (.cells #[.int .u8 74] 5)) (some ⟨w1.heap.size, 0, none⟩) (bys [74])) := cells_one w1 74
    have HK2 := hide (Keeps.alloc (Keeps.refl w1) (.cells #[.int .u8 74] 5))
    have hz : w.heap.size < w1.heap.size := by have := HK1.out.size; simp at this; omega
    go_wp2_with fail
    generalize w1.alloc (.cells #[.int .u8 74] 5) = w2 at *
    refine (put_yes (some ⟨w1.heap.size, 0, none⟩) 1 ([74]) q 3 w2 HCJ.out (fun e => nomatch e) (by have := HL.out; simp; try omega) (by decide) (by decide) HQ.out).mono ?_
    rintro x w3 ⟨v3, rfl, ho, hk⟩
    have HK3 := hide (HK2.out.trans hk)
    have HO3 : Hid (OwnsB w3 w1.heap.size v3 ([74] ++ digs q 3)) := OwnsB.older ho HK2.out.size
    clear d0' d1' d2' ho hk HK2
    obtain ⟨d0', d1', d2'⟩ := HD.out _ (HK1.out.trans HK3.out)
    obtain ⟨a3, c3, rfl, _, _, hn3, ho3, _⟩ := Own.of_owns HO3.out
    have HH3 := hide hn3
    have HC3 : Hid (Cells w3 a3 (bys ([74] ++ digs q 3))) := ho3.one
    clear hn3 ho3
    go_wp2_with fail
    refine (put_yes a3 c3 ([74] ++ digs q 3) e 3 w3 HC3.out HH3.out (by have := HL.out; simp [digs_length]; try omega) (by decide) (by decide) HE.out).mono ?_
    rintro x w4 ⟨v4, rfl, ho, hk⟩
    have HK4 := hide (HK3.out.trans hk)
    have HO4 : Hid (OwnsB w4 w1.heap.size v4 ([74] ++ digs q 3 ++ digs e 3)) := OwnsB.older ho HK3.out.size
    clear d0' d1' d2' ho hk HK3
    obtain ⟨d0', d1', d2'⟩ := HD.out _ (HK1.out.trans HK4.out)
    obtain ⟨a4, c4, rfl, _, _, hn4, ho4, _⟩ := Own.of_owns HO4.out
    have HH4 := hide hn4
    have HC4 : Hid (Cells w4 a4 (bys ([74] ++ digs q 3 ++ digs e 3))) := ho4.one
    clear hn4 ho4
    go_wp2_with fail
    refine (put_yes a4 c4 ([74] ++ digs q 3 ++ digs e 3) L.length 1 w4 HC4.out HH4.out (by have := HL.out; simp [digs_length]; try omega) (by decide) (by decide) HN.out).mono ?_
    rintro x w5 ⟨v5, rfl, ho, hk⟩
    have HK5 := hide (HK4.out.trans hk)
    have HO5 : Hid (OwnsB w5 w1.heap.size v5 ([74] ++ digs q 3 ++ digs e 3 ++ digs L.length 1)) := OwnsB.older ho HK4.out.size
    clear d0' d1' d2' ho hk HK4
    obtain ⟨d0', d1', d2'⟩ := HD.out _ (HK1.out.trans HK5.out)
    obtain ⟨a5, c5, rfl, _, _, hn5, ho5, _⟩ := Own.of_owns HO5.out
    have HH5 := hide hn5
    have HC5 : Hid (Cells w5 a5 (bys ([74] ++ digs q 3 ++ digs e 3 ++ digs L.length 1))) := ho5.one
    clear hn5 ho5
    have HX : Hid (([74] ++ digs q 3 ++ digs e 3 ++ digs L.length 1).length + L.length ≤ 4194304) := by have := HL.out; show _ ≤ _; simp [digs_length]; omega
    have HM : Hid (([74] ++ digs q 3 ++ digs e 3 ++ digs L.length 1 ++ L).length = 8 + L.length) := by show _ = _; simp [digs_length]; omega
    generalize hM : [74] ++ digs q 3 ++ digs e 3 ++ digs L.length 1 ++ L = M at HM
    have hm1 : M.length ≤ 108 := by have := HM.out; omega
    have hm2 : 8 ≤ M.length := by have := HM.out; omega
    have HMM := hide hM
    clear hM
    have HZ : Hid ((M ++ List.replicate (122 - M.length) 0).length ≤ 122) := by show _ ≤ _; simp; omega
    generalize hZ : M ++ List.replicate (122 - M.length) 0 = Z at HZ
    have HZZ := hide hZ
    clear hZ
    go_wp2_with (first
      | (at_builtin; refine app_bys rfl (.tmp 31) (.tmp 33) rfl w1.heap.size _ ([74] ++ digs q 3 ++ digs e 3 ++ digs L.length 1) L rfl a cap rfl (HC.out.kept HK5.out) HH.out HO5.out HX.out HK5.out.size ?_; intro v6 w6 ho hg; rw [HMM.out] at ho; have HK6 := hide (Keeps.grown HK5.out hg (fun k hk => (HO5.out.lt k hk).1)); have HO6 := hide ho; obtain ⟨a6, c6, rfl, _⟩ := Own.of_owns ho; clear d0' d1' d2' ho hg HO5 HK5; obtain ⟨d0', d1', d2'⟩ := HD.out _ (HK1.out.trans HK6.out))
      | (at_builtin; refine app_zeros rfl (.tmp 35) (.tmp 38) rfl w1.heap.size _ M (122 - M.length) rfl _ rfl (by omega) (by omega) (by omega) HO6.out (by omega) HK6.out.size ?_; intro v7 w7 ho hg; rw [HZZ.out] at ho; have HK7 := hide (Keeps.grown HK6.out hg (fun k hk => (HO6.out.lt k hk).1)); have HO7 := hide ho; clear d0' d1' d2' ho hg HO6 HK6; obtain ⟨d0', d1', d2'⟩ := HD.out _ (HK1.out.trans HK7.out); obtain ⟨a7, c7, rfl, _, _, hn7, ho7, _⟩ := Own.of_owns HO7.out))
    refine (put_yes a7 c7 (Z) q 3 w7 ho7.one hn7 (by have := HL.out; have := HZ.out; simp; try omega) (by decide) (by decide) HQ.out).mono ?_
    rintro x w8 ⟨v8, rfl, ho, hk⟩
    have HK8 := hide (HK7.out.trans hk)
    have HO8 : Hid (OwnsB w8 w1.heap.size v8 (Z ++ digs q 3)) := OwnsB.older ho HK7.out.size
    clear d0' d1' d2' ho hk HK7
    obtain ⟨d0', d1', d2'⟩ := HD.out _ (HK1.out.trans HK8.out)
    obtain ⟨a8, c8, rfl, _, _, hn8, ho8, _⟩ := Own.of_owns HO8.out
    have HH8 := hide hn8
    have HC8 : Hid (Cells w8 a8 (bys (Z ++ digs q 3))) := ho8.one
    clear hn8 ho8
    have HY : Hid ((Z ++ digs q 3).length ≤ 125) := by have := HZ.out; show _ ≤ _; simp [digs_length]; omega
    generalize hY : Z ++ digs q 3 = Y at *
    have HYY := hide hY
    clear hY
    go_wp2_with fail
    refine (put_yes a8 c8 (Y) e 3 w8 HC8.out HH8.out (by have := HL.out; have := HY.out; simp; try omega) (by decide) (by decide) HE.out).mono ?_
    rintro x w9 ⟨v9, rfl, ho, hk⟩
    have HK9 := hide (HK8.out.trans hk)
    have HO9 : Hid (OwnsB w9 w1.heap.size v9 (Y ++ digs e 3)) := OwnsB.older ho HK8.out.size
    clear d0' d1' d2' ho hk HK8
    obtain ⟨d0', d1', d2'⟩ := HD.out _ (HK1.out.trans HK9.out)
    go_wp2_with fail
    go_ret2
    refine SecPost.yes HB.out ?_ (HKA.out.trans (HK1.out.trans HK9.out))
    have h := HO9.out
    rw [← HYY.out, ← HZZ.out, HM.out, show 122 - (8 + L.length) = 114 - L.length by omega, ← HMM.out] at h
    exact OwnsB.older h (HKA.out.trans HK1.out).size
end Go.Proofs.YtkdnddckogbgaaaDoor
namespace Go.Proofs.YtkdnddckogbgaaaDoor
open Go.RowKit Go.Deep
set_option linter.unusedVariables false

/-- A list of bytes as a text. -/
def strL (L : List UInt8) : ByteArray := ⟨L.toArray⟩
theorem push_fold : ∀ (L : List UInt8) (r : ByteArray), (L.map (fun x => (x.toNat : Int))).foldl (fun (r : ByteArray) (n : Int) => r.push (UInt8.ofNat n.toNat)) r = ⟨r.data ++ L.toArray⟩
  | [], r => by simp
  | x :: t, r => by
    rw [List.map_cons, List.foldl_cons, push_fold t]
    have e : UInt8.ofNat (Int.toNat (x.toNat : Int)) = x := by simp
    rw [e]
    simp [ByteArray.push]
theorem str_of (a : Option Addr) (cap : Nat) (L : List UInt8) (w : World) (b off : Nat) (ha : a = some ⟨b, off, none⟩) (hc : Cells w a (bys L)) :
    (convert 48 9 (.slice a L.length cap)).run Tryd.prog w = .ok (.string (strL L)) w := by
  subst ha
  rw [run_convert_bytes_string w 48 9 5 _ _ _ underBytes Tryd.underlying5 Tryd.underlying9]
  have hl : (loadCells ⟨b, off, none⟩ L.length).run Tryd.prog w = .ok (bys L).toArray w := by
    have h := run_loadCells_list (P := Tryd.prog) (w := w) ⟨b, off, none⟩ (bys L) (fun j v hj => by
      obtain ⟨hj', e⟩ := List.getElem?_eq_some_iff.1 hj
      rw [add_at]
      rcases hc with h' | ⟨b', off', e', h'⟩
      · rw [h'] at hj'; simp at hj'
      · have e2 := Option.some.inj e'
        injection e2 with e3 e4
        subst e3 e4
        rw [h' j hj', e])
    rw [bys_length] at h
    exact h
  have e : bys L = (L.map (fun x => (x.toNat : Int))).map (Value.int .u8) := by simp [bys, byV]
  rw [e] at hl
  rw [run_bytesToString w _ _ cap _ hl, push_fold]
  simp [strL]
theorem strL_list (L : List UInt8) : (strL L).toList = L := by rw [ByteArray.toList_eq]; simp [strL]
theorem strL_beq (L M : List UInt8) : ((strL L).toList == (strL M).toList) = decide (L = M) := by
  rw [strL_list, strL_list, Bool.eq_iff_iff]; simp
end Go.Proofs.YtkdnddckogbgaaaDoor
