/- Texts of the verifier, joined: LRi, LEi. -/
import Derived.Test.YtkdnddckogbgaaaGreatDoorLO25
import Derived.Test.YtkdnddckogbgaaaGreatDoorLO23
import Derived.Test.YtkdnddckogbgaaaGreatDoorLO24
namespace Go.Proofs.YtkdnddckogbgaaaGreatDoor
open Go.RowKit Go.Deep Go.Shelf
set_option linter.unusedVariables false
set_option maxRecDepth 10000
attribute [local go_sem] Oper.semAt_some

theorem wpListIn_append_run {F : Fence} {n : Nat} {P : Program} (w : World) {ops : Array Oper} {rest : List Oper} {o : Oper} {a : Act} {Q : Exit → Act → World → Prop}
    (hg : o.guard = none) (s x : Operand) (t : TypeId) (hop : o.op = Op.call { callee := Callee.builtin Builtin.append, args := #[s, x], argTypes := #[t, t] }) (vs vx : Value) (hs : a.eval s = vs) (hx : a.eval x = vx)
    (v' : Value) (w' : World) (hrun : (Builtin.append_ #[t, t] o.type #[vs, vx]).run P w = .ok v' w') (hK : wpListIn F n P ops Q rest (a.put o.dst v') w') : wpListIn F n P ops Q (o :: rest) a w := by
  refine wpListIn_plain hg fun K hK' => ?_
  unfold Oper.wpIn
  refine ⟨?_, ?_⟩
  · simp [Oper.about, hop, resolve, Target.leads, Sem.run_pure]
  · rw [Oper.semAt_plain F _ _ (by rw [hop]; intro c hc'; cases hc')]
    simp [execOp, hop, resolve, invoke, builtin, hs, hx, hrun, Result.andThen]
    exact hK' _ _ hK
/-- Between two rounds of LogRead, k sectors read; lo: where the iterator's own blocks begin. -/
structure RdI (w : World) (lo : Nat) (ca : Option Addr) (cc : Nat) (cs : List Bs) (da : Option Addr) (dc : Nat) (ds : List Wr) (u : TypeId) (pv : Value) (k : Nat) (W : World) (v : Value) (nb : List Sc) : Prop where
  mem : Mem W (dsk ca cs da ds)
  err : W.cell? ⟨0, 0, none⟩ = some (.iface u pv)
  box : W.cell? ⟨w.heap.size + 1, 0, none⟩ = some v
  free : W.frozen? ⟨w.heap.size + 1, 0, none⟩ = false
  list : LB 72 3 Sc.cells Sc.seg (lo + 6) W v nb
  key : nb.map Sc.key = secsTo (dat cs ds) k
  kept : Keeps w W
section
variable {w : World} {lo : Nat} {ca : Option Addr} {cc : Nat} {cs : List Bs} {da : Option Addr} {dc : Nat} {ds : List Wr} {u : TypeId} {pv : Value} {k : Nat} {W W' : World} {v : Value} {nb : List Sc}
theorem RdI.turn (h : RdI w lo ca cc cs da dc ds u pv k W v nb) {fs : List Nat} (ht : Turn fs W W') (hf : ∀ b ∈ fs, b < lo + 6) (hw : ∀ b ∈ fs, w.heap.size ≤ b) (h1 : w.heap.size + 1 ∉ fs) (h2 : ∀ x ∈ fp (dsk ca cs da ds), x < w.heap.size) (h3 : 0 < w.heap.size) : RdI w lo ca cc cs da dc ds u pv k W' v nb :=
  ⟨h.mem.turn ht (fun x hx hy => by have := h2 x hx; have := hw x hy; omega), ht.cell (fun hy => by have := hw _ hy; dsimp only at this; omega) h.err, ht.cell h1 h.box, by rw [← h.free]; exact World.frozen?_of_block (ht.block _ (lt_of_cell h.box) h1), h.list.turn ht hf, h.key, ht.keeps h.kept hw⟩
theorem RdI.later (h : RdI w lo ca cc cs da dc ds u pv k W v nb) (hk : Keeps W W') : RdI w lo ca cc cs da dc ds u pv k W' v nb :=
  ⟨h.mem.kept hk, hk.cell h.err, hk.cell h.box, by rw [hk.oldF _ _ (lt_of_cell h.box)]; exact h.free, h.list.kept hk, h.key, h.kept.trans hk⟩
theorem RdI.len (h : RdI w lo ca cc cs da dc ds u pv k W v nb) : nb.length = k := by
  have := congrArg List.length h.key
  simpa [secsTo_len] using this
end
set_option maxHeartbeats 8000000 in
theorem logread_impl (ca : Option Addr) (cc : Nat) (cs : List Bs) (da : Option Addr) (dc : Nat) (ds : List Wr) (w : World) (u : TypeId) (pv : Value) (hv : w.cell? ⟨0, 0, none⟩ = some (.iface u pv)) (hm : Mem w (dsk ca cs da ds)) (h : DOk cs ds) :
    Calls Tryz.prog 11 #[dskV ca cs.length cc da ds.length dc] w (LrPost w (dat cs ds)) := by
  obtain ⟨n, hn⟩ : ∃ n, 19 ≤ n := ⟨19, Nat.le_refl _⟩
  refine (callsIn_wide (n := n)).1 ?_
  refine callsIn_of_wp_marks Tryz.func11 rfl trivial ?_ rfl
  simp only [Tryz.ntmps11, List.size_toArray, List.length_cons, List.length_nil, Nat.reduceAdd, Nat.reduceSub, Array.replicate_succ, Array.replicate_zero, List.push_toArray, List.append_toArray, List.nil_append, List.cons_append]
  have HV := hide hv
  have HM := hide hm
  have HD := hide h
  have hcl := h.c
  have hlt := hm.lt
  have hgl := lt_of_cell hv
  clear hv hm h
  gi_wp2
  refine ⟨trivial, nofun, (callsIn_wide.2 (log_make ca cc cs da dc ds _)).mono ?_⟩
  rintro e w1 ⟨rfl, rfl⟩
  gi_wp2
  obtain ⟨W0, hW0⟩ : ∃ W0, ((w.alloc (.cells #[.slice ca cs.length cc, .slice da ds.length dc] 26)).alloc (.cells #[.slice none 0 0] 35)).alloc (.cells #[.slice ca cs.length cc, .slice da ds.length dc] 26) = W0 := ⟨_, rfl⟩
  have HS0 : Hid (W0.heap.size = w.heap.size + 3) := by show _ = _; rw [← hW0]; simp
  have hk0 : Keeps w W0 := by rw [← hW0]; exact ((Keeps.refl w).alloc _).alloc _ |>.alloc _
  have hbx := (born_alloc ((w.alloc (.cells #[.slice ca cs.length cc, .slice da ds.length dc] 26)).alloc (.cells #[.slice none 0 0] 35)) #[.slice ca cs.length cc, .slice da ds.length dc] 26).toOwn
  have htb := (born_alloc (w.alloc (.cells #[.slice ca cs.length cc, .slice da ds.length dc] 26)) #[.slice none 0 0] 35).toOwn.kept (Keeps.alloc (Keeps.refl _) (.cells #[.slice ca cs.length cc, .slice da ds.length dc] 26))
  rw [hW0] at hbx htb
  simp only [World.size_alloc] at hbx htb
  rw [hW0]
  have cb0 := cell_at hbx.mem 0 (by simp)
  have cb1 := cell_at hbx.mem 1 (by simp)
  have ct0 := cell_at htb.mem 0 (by simp)
  have cf0 := htb.free (w.heap.size + 1) (by simp [fp, fpS]) 0
  simp only [Nat.zero_add, List.getElem_cons_zero, List.getElem_cons_succ] at cb0 cb1 ct0
  have HI0 : Hid (∀ W1, Keeps W0 W1 → w.heap.size + 5 + 6 ≤ W1.heap.size → RdI w (w.heap.size + 5) ca cc cs da dc ds u pv 0 W1 (.slice none 0 0) []) := fun W1 hk1 hs1 =>
    ⟨HM.out.kept (hk0.trans hk1), (hk0.trans hk1).cell HV.out, hk1.cell ct0, by rw [hk1.oldF _ _ (lt_of_cell ct0)]; exact cf0, LB.nil _ _ _ _ (by omega), rfl, hk0.trans hk1⟩
  have HA0 : Hid (AllAt (w.heap.size + 1 + 1) ca cc cs da dc ds u pv W0) := ⟨cb0, cb1, HM.out.kept hk0, hk0.cell HV.out⟩
  clear hW0 hbx htb cf0 cb0 cb1 ct0
  refine wp_range rfl (by omega) (gf := 80) (lb := #[.pointer (some ⟨w.heap.size + 1 + 1, 0, none⟩)]) rfl trivial (enters_of Tryz.func80 (by kernel_rfl) rfl) (fun W => ∃ v nb, RdI w (w.heap.size + 5) ca cc cs da dc ds u pv (logN (dat cs ds)) W v nb) (fun _ _ => False) ?_ ?_ ?_
  · intro fn hfn W1 hk1 hs1 hr1
    generalize hR : recOf fn _ _ _ _ _ = R at hr1 ⊢
    have hs1' : W1.heap.size = w.heap.size + 5 := by have := HS0.out; omega
    have hturn : ∀ k W2 W3, ((∃ v nb, RdI w (w.heap.size + 5) ca cc cs da dc ds u pv k W2 v nb) ∧ RL R W0.heap.size .ready none W2) → Turn (lown W1.heap.size) W2 W3 → ((∃ v nb, RdI w (w.heap.size + 5) ca cc cs da dc ds u pv k W3 v nb) ∧ RL R W0.heap.size .ready none W3) := by
      rintro k W2 W3 ⟨⟨v, nb, h⟩, h'⟩ ht
      rw [hs1'] at ht
      have hs := HS0.out
      exact ⟨⟨v, nb, h.turn ht (fun b hb => by simp at hb; omega) (fun b hb => by simp at hb; omega) (by simp <;> omega) hlt hgl⟩, h'.turn ht (by simp <;> omega) (by simp <;> omega)⟩
    refine (log_in (n - 1) (W0.heap.size + 1) (w.heap.size + 1 + 1) ca cc cs da dc ds u pv (fun k W => (∃ v nb, RdI w (w.heap.size + 5) ca cc cs da dc ds u pv k W v nb) ∧ RL R W0.heap.size .ready none W) (fun _ => False) HD.out (by omega) W1 (HA0.out.kept hk1) ?_ hturn ?_ ?_ ?_).mono ?_
    · rintro k W2 ⟨⟨v, nb, h⟩, _⟩
      exact ⟨h.mem, h.err⟩
    · intro W2 W3 hf
      exact hf.elim
    · intro W2 hk2 hs2
      exact ⟨⟨_, _, HI0.out W2 (hk1.trans hk2) (by omega)⟩, hr1.kept hk2⟩
    · rintro k W2 W3 a c n' hkl hfk hfit ⟨⟨v, nb, h⟩, h'⟩ ht hs2 hac hb
      obtain ⟨⟨v1, nb1, h2⟩, hr2⟩ := hturn k W2 W3 ⟨⟨v, nb, h⟩, h'⟩ ht
      have h2 : RdI w (w.heap.size + 5) ca cc cs da dc ds u pv k W3 v nb := by
        rw [hs1'] at ht
        exact h.turn ht (fun b hb => by simp at hb; omega) (fun b hb => by simp at hb; omega) (by simp <;> omega) hlt hgl
      rw [hs1'] at hs2 ht
      have hnl := h.len
      subst hR
      refine YieldAt.mono (yield_round (G := fun W' => (∃ v nb, RdI w (w.heap.size + 5) ca cc cs da dc ds u pv (k + 1) W' v nb) ∧ ∃ gs, (∀ b ∈ gs, b < W2.heap.size ∧ (b < w.heap.size + 5 ∨ w.heap.size + 5 + 6 ≤ b)) ∧ Turn gs W3 W') (Gx := fun _ _ => False) hfn hr2 rfl ?_) ?_
      · generalize recOf fn _ _ _ _ _ = R at hr2 ⊢
        gi_wp2
        have hka := Keeps.alloc (Keeps.refl W3) (.cells #[.int .i64 (srQ (readL (dat cs ds) k)), .int .i64 (srE (readL (dat cs ds) k)), .slice a (srL (readL (dat cs ds) k)).length c] 72)
        have hbo := (born_alloc W3 #[.int .i64 (srQ (readL (dat cs ds) k)), .int .i64 (srE (readL (dat cs ds) k)), .slice a (srL (readL (dat cs ds) k)).length c] 72).toOwn
        generalize W3.alloc (.cells #[.int .i64 (srQ (readL (dat cs ds) k)), .int .i64 (srE (readL (dat cs ds) k)), .slice a (srL (readL (dat cs ds) k)).length c] 72) = W4 at *
        refine ⟨hr2.kept hka, fun W5 ht5 hr5 => ?_⟩
        have hl2 := hr2.lt
        have hz := HS0.out
        have hb5 := hbo.turn ht5 (fun x hx hy => by simp [fp, fpS] at hx hy; omega)
        have h5 := (h2.later hka).turn ht5 (fun b hb => by simp at hb; omega) (fun b hb => by simp at hb; omega) (by simp <;> omega) hlt hgl
        have hT : Turn (lown (w.heap.size + 5) ++ [W0.heap.size + 1]) W2 W5 := (ht.trans (Turn.of_keeps hka [])).mono (by simp) |>.trans ht5
        have s0 := cell_at hb5.mem 0 (by simp)
        have s1 := cell_at hb5.mem 1 (by simp)
        have s2 := cell_at hb5.mem 2 (by simp)
        simp only [Nat.zero_add, List.getElem_cons_zero, List.getElem_cons_succ] at s0 s1 s2
        have t0 := h5.box
        have t1 := h5.free
        have hown := h5.list.row
        rw [hnl] at hown
        obtain ⟨v', w6, e6, hr6, hg6, hv6⟩ := run_sector W5 (w.heap.size + 5 + 6) v k _ (.int .i64 (srQ (readL (dat cs ds) k))) (.int .i64 (srE (readL (dat cs ds) k))) (.slice a (srL (readL (dat cs ds) k)).length c) rfl rfl rfl 35 hown (by omega) h5.list.size
        obtain ⟨g', cap', rfl⟩ := ownsRow_succ hr6
        have htv : Turn v.ownBlock.toList (W5.alloc (.cells #[.int .i64 (srQ (readL (dat cs ds) k)), .int .i64 (srE (readL (dat cs ds) k)), .slice a (srL (readL (dat cs ds) k)).length c] 72)) w6 := Turn.of_grown hg6 (fun k hk' => by rw [hk']; simp)
        have hvb : ∀ b ∈ v.ownBlock.toList, w.heap.size + 5 + 6 ≤ b ∧ b < W2.heap.size := fun b hb => h.list.row.lt b (by simpa using hb)
        have hkt := Keeps.alloc (Keeps.refl W5) (.cells #[.int .i64 (srQ (readL (dat cs ds) k)), .int .i64 (srE (readL (dat cs ds) k)), .slice a (srL (readL (dat cs ds) k)).length c] 72)
        have T6 : Turn v.ownBlock.toList W5 w6 := ((Turn.of_keeps hkt []).trans htv).mono (by simp)
        have b6 := T6.cell (p := ⟨w.heap.size + 1, 0, none⟩) (fun hx => by have := hvb _ hx; dsimp only at this; omega) t0
        have f6 : w6.frozen? ⟨w.heap.size + 1, 0, none⟩ = false := by rw [← t1]; exact World.frozen?_of_block (T6.block _ (lt_of_cell t0) (fun hx => by have := hvb _ hx; dsimp only at this; omega))
        have HL6 := hide (h.list.snoc (x := ⟨srQ (readL (dat cs ds) k), srE (readL (dat cs ds) k), ⟨a, c, srL (readL (dat cs ds) k)⟩⟩) hT (fun b hb => by simp at hb; omega) ((hb.kept hka).toOwn.turn ht5 (fun x hx hy => by have := hb.new x hx; simp at hy; omega)) (fun b hb' => hb.new b hb') hg6 (by rw [hnl]; exact hr6) hv6)
        have HR5 := hide hr5
        have H5 := hide h5
        have HT6 := hide T6
        have HT5 := hide ((Turn.of_keeps hka []).trans ht5)
        have HVB := hide hvb
        have hsz6 : W5.heap.size ≤ w6.heap.size := T6.size
        have HE6 := hide e6
        clear h h2 hr2 hka hbo ht5 hr5 h5 hT hown hr6 hg6 hv6 htv hvb hkt T6 hb hb5 hl2 ht e6
        gi_wp2_with (gi_at_builtin; refine wpListIn_append_run _ rfl (.tmp 9) (.tmp 11) 35 rfl _ _ rfl rfl _ _ HE6.out ?_)
        have T : Turn (v.ownBlock.toList ++ [w.heap.size + 1]) W5 (w6.setCell ⟨w.heap.size + 1, 0, none⟩ (.slice (some ⟨g', 0, none⟩) (k + 1) cap')) := HT6.out.trans (Turn.set (by simp) _)
        have hT1 : ∀ b ∈ v.ownBlock.toList ++ [w.heap.size + 1], (w.heap.size + 5 + 6 ≤ b ∧ b < W2.heap.size) ∨ b = w.heap.size + 1 := fun b hb => by
          rcases List.mem_append.1 hb with hb | hb
          · exact .inl (HVB.out b hb)
          · exact .inr (by simpa using hb)
        refine ⟨HR5.out.turn T (fun hx => by have := hT1 _ hx; omega) (fun hx => by have := hT1 _ hx; omega), fun W7 ht7 => ⟨?_, [W0.heap.size + 1] ++ (v.ownBlock.toList ++ [w.heap.size + 1]), ?_, ?_⟩⟩
        · have h8 : RdI w (w.heap.size + 5) ca cc cs da dc ds u pv (k + 1) (w6.setCell ⟨w.heap.size + 1, 0, none⟩ (.slice (some ⟨g', 0, none⟩) (k + 1) cap')) (.slice (some ⟨g', 0, none⟩) (k + 1) cap') (nb ++ [⟨srQ (readL (dat cs ds) k), srE (readL (dat cs ds) k), ⟨a, c, srL (readL (dat cs ds) k)⟩⟩]) :=
            ⟨H5.out.mem.turn T (fun x hx hy => by have := hlt x hx; have := hT1 x hy; omega), T.cell (fun hy => by have := hT1 _ hy; dsimp only at this; omega) H5.out.err, World.cell?_setCell_same _ _ _ b6, by rw [World.frozen?_setCell]; exact f6,
             HL6.out.turn (Turn.set (fs := [w.heap.size + 1]) (by simp) _) (fun b hb => by simp at hb; omega), by rw [List.map_append, H5.out.key, secsTo_succ]; rfl, T.keeps H5.out.kept (fun b hb => by have := hT1 b hb; omega)⟩
          exact ⟨_, _, h8.turn ht7 (fun b hb => by simp at hb; omega) (fun b hb => by simp at hb; omega) (by simp <;> omega) hlt hgl⟩
        · intro b hb
          rcases List.mem_append.1 hb with hb | hb
          · have : b = W0.heap.size + 1 := by simpa using hb
            omega
          · have := hT1 b hb
            omega
        · exact (((HT5.out.mono (gs := [W0.heap.size + 1]) (by simp)).trans T).trans ht7).mono (fun x hx => by rcases List.mem_append.1 hx with hx | hx; exact hx; exact List.mem_append_left _ hx)
      · rintro e W'' (⟨he, hg, hr⟩ | ⟨_, _, hf, _⟩)
        · refine ⟨.inl ⟨he, hg.1, hr⟩, ?_⟩
          obtain ⟨gs, h1, h2⟩ := hg.2
          exact ⟨gs, fun b hb => by have := h1 b hb; omega, h2⟩
        · exact hf.elim
    · rintro e W2 ⟨hv, W3, (⟨⟨v, nb, h⟩, h'⟩ | hf), ht⟩
      · have hz := HS0.out
        rw [hs1'] at ht
        exact ⟨hv, .inl ⟨⟨v, nb, h.turn ht (fun b hb => by simp at hb; omega) (fun b hb => by simp at hb; omega) (by simp <;> omega) hlt hgl⟩, h'.turn ht (by simp <;> omega) (by simp <;> omega)⟩⟩
      · exact hf.elim
  · rintro W W' ⟨v, nb, hG⟩ ht hK
    have hz := HS0.out
    have h2 := hG.turn ht (fun b hb => by simp at hb; omega) (fun b hb => by simp at hb; omega) (by simp <;> omega) hlt hgl
    obtain ⟨a, cap, rfl, hna, ho, hnew⟩ := h2.list.born
    have hnl := h2.len
    have HNL := hide hnl
    have t0 := h2.box
    have HI := hide h2
    have HO := hide ho
    have HN := hide hnew
    clear h2 ho hnew hG ht hnl
    have hmx : Tryz.prog.follows .mixedOrders = true := by kernel_rfl
    gi_wp2
    refine wpIn_wide.2 ?_
    go_region_held3 (fun w' => w'.cell? ⟨w.heap.size + 1, 0, none⟩ = some (.slice a nb.length cap)) (go_keep) (fail)
    gi_wp2
    refine ⟨by simp, .inl ⟨_, _, rfl, run_takeDeferred (w := W'.drew) hK, ?_⟩⟩
    have T : Turn [W0.heap.size] W' (W'.drew.putObj W0.heap.size (.deferred none)) := ((Turn.of_keeps ((Keeps.refl W').drew) []).trans (turn_putObj _ _ _)).mono (by simp)
    refine ⟨.tuple #[.slice a nb.length cap, .int .i64 (nb.length : Nat)], by simp [results, Tryz.results11, go_sem], a, cap, nb, by rw [HNL.out], HI.out.key, hna, ⟨?_, ?_⟩, ?_⟩
    · exact HO.out.turn T (fun b hb hx => by have := HN.out b hb; simp at hx; omega)
    · intro b hb
      have := HN.out b hb
      omega
    · exact T.keeps HI.out.kept (fun b hb => by simp at hb; omega)
  · intro c W W' hf
    exact hf.elim
end Go.Proofs.YtkdnddckogbgaaaGreatDoor
namespace Go.Proofs.YtkdnddckogbgaaaGreatDoor
open Go.RowKit Go.Deep Go.Shelf
set_option linter.unusedVariables false
set_option maxRecDepth 10000
attribute [local go_sem] Oper.semAt_some

theorem own_none (w : World) (x : Ev) : Own w [x.seg] := ⟨fun s hs => by rw [List.mem_singleton.1 hs]; exact Or.inl rfl, by simp [fp, fpS, Ev.seg], fun b hb => by simp [fp, fpS, Ev.seg] at hb⟩
/-- Between two rounds of LogEvents, k sectors read; lo: where the iterator's own blocks begin. -/
structure EvI (w : World) (lo : Nat) (ca : Option Addr) (cc : Nat) (cs : List Bs) (da : Option Addr) (dc : Nat) (ds : List Wr) (u : TypeId) (pv : Value) (k : Nat) (W : World) (v : Value) : Prop where
  mem : Mem W (dsk ca cs da ds)
  err : W.cell? ⟨0, 0, none⟩ = some (.iface u pv)
  box : W.cell? ⟨w.heap.size + 1, 0, none⟩ = some v
  free : W.frozen? ⟨w.heap.size + 1, 0, none⟩ = false
  list : LB 30 7 Ev.cells Ev.seg (lo + 6) W v (evsTo (dat cs ds) k)
  kept : Keeps w W
section
variable {w : World} {lo : Nat} {ca : Option Addr} {cc : Nat} {cs : List Bs} {da : Option Addr} {dc : Nat} {ds : List Wr} {u : TypeId} {pv : Value} {k : Nat} {W W' : World} {v : Value}
theorem EvI.turn (h : EvI w lo ca cc cs da dc ds u pv k W v) {fs : List Nat} (ht : Turn fs W W') (hf : ∀ b ∈ fs, b < lo + 6) (hw : ∀ b ∈ fs, w.heap.size ≤ b) (h1 : w.heap.size + 1 ∉ fs) (h2 : ∀ x ∈ fp (dsk ca cs da ds), x < w.heap.size) (h3 : 0 < w.heap.size) : EvI w lo ca cc cs da dc ds u pv k W' v :=
  ⟨h.mem.turn ht (fun x hx hy => by have := h2 x hx; have := hw x hy; omega), ht.cell (fun hy => by have := hw _ hy; dsimp only at this; omega) h.err, ht.cell h1 h.box, by rw [← h.free]; exact World.frozen?_of_block (ht.block _ (lt_of_cell h.box) h1), h.list.turn ht hf, ht.keeps h.kept hw⟩
theorem EvI.later (h : EvI w lo ca cc cs da dc ds u pv k W v) (hk : Keeps W W') : EvI w lo ca cc cs da dc ds u pv k W' v :=
  ⟨h.mem.kept hk, hk.cell h.err, hk.cell h.box, by rw [hk.oldF _ _ (lt_of_cell h.box)]; exact h.free, h.list.kept hk, h.kept.trans hk⟩
end
set_option maxHeartbeats 8000000 in
theorem logevents_impl (ca : Option Addr) (cc : Nat) (cs : List Bs) (da : Option Addr) (dc : Nat) (ds : List Wr) (w : World) (u : TypeId) (pv : Value) (hv : w.cell? ⟨0, 0, none⟩ = some (.iface u pv)) (hm : Mem w (dsk ca cs da ds)) (h : DOk cs ds) :
    Calls Tryz.prog 12 #[dskV ca cs.length cc da ds.length dc] w (LePost w (dat cs ds)) := by
  obtain ⟨n, hn⟩ : ∃ n, 19 ≤ n := ⟨19, Nat.le_refl _⟩
  refine (callsIn_wide (n := n)).1 ?_
  refine callsIn_of_wp_marks Tryz.func12 rfl trivial ?_ rfl
  simp only [Tryz.ntmps12, List.size_toArray, List.length_cons, List.length_nil, Nat.reduceAdd, Nat.reduceSub, Array.replicate_succ, Array.replicate_zero, List.push_toArray, List.append_toArray, List.nil_append, List.cons_append]
  have HV := hide hv
  have HM := hide hm
  have HD := hide h
  have hcl := h.c
  have hlt := hm.lt
  have hgl := lt_of_cell hv
  clear hv hm h
  gi_wp2
  refine ⟨trivial, nofun, (callsIn_wide.2 (log_make ca cc cs da dc ds _)).mono ?_⟩
  rintro e w1 ⟨rfl, rfl⟩
  gi_wp2
  obtain ⟨W0, hW0⟩ : ∃ W0, ((w.alloc (.cells #[.slice ca cs.length cc, .slice da ds.length dc] 26)).alloc (.cells #[.slice none 0 0] 39)).alloc (.cells #[.slice ca cs.length cc, .slice da ds.length dc] 26) = W0 := ⟨_, rfl⟩
  have HS0 : Hid (W0.heap.size = w.heap.size + 3) := by show _ = _; rw [← hW0]; simp
  have hk0 : Keeps w W0 := by rw [← hW0]; exact ((Keeps.refl w).alloc _).alloc _ |>.alloc _
  have hbx := (born_alloc ((w.alloc (.cells #[.slice ca cs.length cc, .slice da ds.length dc] 26)).alloc (.cells #[.slice none 0 0] 39)) #[.slice ca cs.length cc, .slice da ds.length dc] 26).toOwn
  have htb := (born_alloc (w.alloc (.cells #[.slice ca cs.length cc, .slice da ds.length dc] 26)) #[.slice none 0 0] 39).toOwn.kept (Keeps.alloc (Keeps.refl _) (.cells #[.slice ca cs.length cc, .slice da ds.length dc] 26))
  rw [hW0] at hbx htb
  simp only [World.size_alloc] at hbx htb
  rw [hW0]
  have cb0 := cell_at hbx.mem 0 (by simp)
  have cb1 := cell_at hbx.mem 1 (by simp)
  have ct0 := cell_at htb.mem 0 (by simp)
  have cf0 := htb.free (w.heap.size + 1) (by simp [fp, fpS]) 0
  simp only [Nat.zero_add, List.getElem_cons_zero, List.getElem_cons_succ] at cb0 cb1 ct0
  have HI0 : Hid (∀ W1, Keeps W0 W1 → w.heap.size + 5 + 6 ≤ W1.heap.size → EvI w (w.heap.size + 5) ca cc cs da dc ds u pv 0 W1 (.slice none 0 0)) := fun W1 hk1 hs1 =>
    ⟨HM.out.kept (hk0.trans hk1), (hk0.trans hk1).cell HV.out, hk1.cell ct0, by rw [hk1.oldF _ _ (lt_of_cell ct0)]; exact cf0, LB.nil _ _ _ _ (by omega), hk0.trans hk1⟩
  have HA0 : Hid (AllAt (w.heap.size + 1 + 1) ca cc cs da dc ds u pv W0) := ⟨cb0, cb1, HM.out.kept hk0, hk0.cell HV.out⟩
  clear hW0 hbx htb cf0 cb0 cb1 ct0
  refine wp_range rfl (by omega) (gf := 80) (lb := #[.pointer (some ⟨w.heap.size + 1 + 1, 0, none⟩)]) rfl trivial (enters_of Tryz.func80 (by kernel_rfl) rfl) (fun W => ∃ v, EvI w (w.heap.size + 5) ca cc cs da dc ds u pv (logN (dat cs ds)) W v) (fun _ _ => False) ?_ ?_ ?_
  · intro fn hfn W1 hk1 hs1 hr1
    generalize hR : recOf fn _ _ _ _ _ = R at hr1 ⊢
    have hs1' : W1.heap.size = w.heap.size + 5 := by have := HS0.out; omega
    have hturn : ∀ k W2 W3, ((∃ v, EvI w (w.heap.size + 5) ca cc cs da dc ds u pv k W2 v) ∧ RL R W0.heap.size .ready none W2) → Turn (lown W1.heap.size) W2 W3 → ((∃ v, EvI w (w.heap.size + 5) ca cc cs da dc ds u pv k W3 v) ∧ RL R W0.heap.size .ready none W3) := by
      rintro k W2 W3 ⟨⟨v, h⟩, h'⟩ ht
      rw [hs1'] at ht
      have hs := HS0.out
      exact ⟨⟨v, h.turn ht (fun b hb => by simp at hb; omega) (fun b hb => by simp at hb; omega) (by simp <;> omega) hlt hgl⟩, h'.turn ht (by simp <;> omega) (by simp <;> omega)⟩
    refine (log_in (n - 1) (W0.heap.size + 1) (w.heap.size + 1 + 1) ca cc cs da dc ds u pv (fun k W => (∃ v, EvI w (w.heap.size + 5) ca cc cs da dc ds u pv k W v) ∧ RL R W0.heap.size .ready none W) (fun _ => False) HD.out (by omega) W1 (HA0.out.kept hk1) ?_ hturn ?_ ?_ ?_).mono ?_
    · rintro k W2 ⟨⟨v, h⟩, _⟩
      exact ⟨h.mem, h.err⟩
    · intro W2 W3 hf
      exact hf.elim
    · intro W2 hk2 hs2
      exact ⟨⟨_, HI0.out W2 (hk1.trans hk2) (by omega)⟩, hr1.kept hk2⟩
    · rintro k W2 W3 a c n' hkl hfk hfit ⟨⟨v, h⟩, h'⟩ ht hs2 hac hb
      obtain ⟨⟨v1, h2⟩, hr2⟩ := hturn k W2 W3 ⟨⟨v, h⟩, h'⟩ ht
      have h2 : EvI w (w.heap.size + 5) ca cc cs da dc ds u pv k W3 v := by
        rw [hs1'] at ht
        exact h.turn ht (fun b hb => by simp at hb; omega) (fun b hb => by simp at hb; omega) (by simp <;> omega) hlt hgl
      rw [hs1'] at hs2 ht
      subst hR
      refine YieldAt.mono (yield_round (G := fun W' => (∃ v, EvI w (w.heap.size + 5) ca cc cs da dc ds u pv (k + 1) W' v) ∧ ∃ gs, (∀ b ∈ gs, b < W2.heap.size ∧ (b < w.heap.size + 5 ∨ w.heap.size + 5 + 6 ≤ b)) ∧ Turn gs W3 W') (Gx := fun _ _ => False) hfn hr2 rfl ?_) ?_
      · generalize recOf fn _ _ _ _ _ = R at hr2 ⊢
        gi_wp2
        have hka := Keeps.alloc (Keeps.refl W3) (.cells #[.int .i64 (srQ (readL (dat cs ds) k)), .int .i64 (srE (readL (dat cs ds) k)), .slice a (srL (readL (dat cs ds) k)).length c] 72)
        have hbo := (born_alloc W3 #[.int .i64 (srQ (readL (dat cs ds) k)), .int .i64 (srE (readL (dat cs ds) k)), .slice a (srL (readL (dat cs ds) k)).length c] 72).toOwn
        generalize W3.alloc (.cells #[.int .i64 (srQ (readL (dat cs ds) k)), .int .i64 (srE (readL (dat cs ds) k)), .slice a (srL (readL (dat cs ds) k)).length c] 72) = W4 at *
        refine ⟨hr2.kept hka, fun W5 ht5 hr5 => ?_⟩
        have hl2 := hr2.lt
        have hz := HS0.out
        have hb5 := hbo.turn ht5 (fun x hx hy => by simp [fp, fpS] at hx hy; omega)
        have h5 := (h2.later hka).turn ht5 (fun b hb => by simp at hb; omega) (fun b hb => by simp at hb; omega) (by simp <;> omega) hlt hgl
        have hT : Turn (lown (w.heap.size + 5) ++ [W0.heap.size + 1]) W2 W5 := (ht.trans (Turn.of_keeps hka [])).mono (by simp) |>.trans ht5
        have HT3 : Hid (Turn [W0.heap.size + 1] W3 W5) := ((Turn.of_keeps hka []).trans ht5).mono (by simp)
        have HBE := hide (bodyevent_any a (srL (readL (dat cs ds) k)) c W5 u pv h5.err (((hb.kept hka).toOwn.turn ht5 (fun x hx hy => by have := hb.new x hx; simp at hy; omega)).one) hac (Nat.le_trans (srL_len _) (by decide)))
        have s2 := cell_at hb5.mem 2 (by simp)
        simp only [Nat.zero_add, List.getElem_cons_zero, List.getElem_cons_succ] at s2
        have HT := hide hT
        have H2 := hide h
        have H5 := hide h5
        have HR5 := hide hr5
        clear h h2 hr2 hka hbo ht5 hr5 h5 hT hb hb5 hl2 ht
        gi_wp2
        refine ⟨trivial, nofun, (CallsIn.inRound _ (callsIn_wide.2 HBE.out)).mono ?_⟩
        rintro e W6 ⟨rfl, hk6⟩
        clear HBE s2
        rw [ebV_eq]
        generalize hx : ebE (srL (readL (dat cs ds) k)) = x
        have HX := hide hx
        have hk7 := hk6.trans (Keeps.alloc (Keeps.refl W6) (.cells #[.int .i64 x.k, .int .i64 x.y, .int .i64 x.c, .int .i64 x.t, .int .i64 x.m, .int .i64 x.f, .bool x.b] 30))
        have H7 := hide (H5.out.later hk7)
        have HK7 := hide hk7
        have hl5 := HR5.out.lt
        clear hx
        have hev := (born_alloc W6 #[.int .i64 x.k, .int .i64 x.y, .int .i64 x.c, .int .i64 x.t, .int .i64 x.m, .int .i64 x.f, .bool x.b] 30).toOwn
        cases hB : ebB (srL (readL (dat cs ds) k))
        · clear hk6 hk7 hev
          gi_wp2
          refine ⟨HR5.out.kept HK7.out, fun W8 ht8 => ⟨⟨v, ?_⟩, [W0.heap.size + 1], ?_, ?_⟩⟩
          · have h8 := H7.out.turn ht8 (fun b hb => by simp at hb; omega) (fun b hb => by simp at hb; omega) (by simp <;> omega) hlt hgl
            exact ⟨h8.mem, h8.err, h8.box, h8.free, by rw [evsTo_no hB]; exact h8.list, h8.kept⟩
          · intro b hb
            have : b = W0.heap.size + 1 := by simpa using hb
            omega
          · exact ((HT3.out.trans (Turn.of_keeps HK7.out [])).trans ht8).mono (by simp)
        · obtain ⟨ln, hln⟩ : ∃ ln, (evsTo (dat cs ds) k).length = ln := ⟨_, rfl⟩
          have hll := evsTo_len (dat cs ds) k
          rw [hln] at hll
          have hown := H7.out.list.row
          rw [hln] at hown
          obtain ⟨v', w8, e8, hr8, hg8, hv8⟩ := run_event (W6.alloc (.cells #[.int .i64 x.k, .int .i64 x.y, .int .i64 x.c, .int .i64 x.t, .int .i64 x.m, .int .i64 x.f, .bool x.b] 30)) (w.heap.size + 5 + 6) v ln _ x 39 hown (by omega) H7.out.list.size
          obtain ⟨g', cap', rfl⟩ := ownsRow_succ hr8
          have htv : Turn v.ownBlock.toList ((W6.alloc (.cells #[.int .i64 x.k, .int .i64 x.y, .int .i64 x.c, .int .i64 x.t, .int .i64 x.m, .int .i64 x.f, .bool x.b] 30)).alloc (.cells #[.int .i64 x.k, .int .i64 x.y, .int .i64 x.c, .int .i64 x.t, .int .i64 x.m, .int .i64 x.f, .bool x.b] 30)) w8 := Turn.of_grown hg8 (fun k hk' => by rw [hk']; simp)
          have hvb : ∀ b ∈ v.ownBlock.toList, w.heap.size + 5 + 6 ≤ b ∧ b < W2.heap.size := fun b hb => H2.out.list.row.lt b (by simpa using hb)
          have T8 : Turn v.ownBlock.toList (W6.alloc (.cells #[.int .i64 x.k, .int .i64 x.y, .int .i64 x.c, .int .i64 x.t, .int .i64 x.m, .int .i64 x.f, .bool x.b] 30)) w8 := ((Turn.of_keeps (Keeps.alloc (Keeps.refl (W6.alloc (.cells #[.int .i64 x.k, .int .i64 x.y, .int .i64 x.c, .int .i64 x.t, .int .i64 x.m, .int .i64 x.f, .bool x.b] 30))) (.cells #[.int .i64 x.k, .int .i64 x.y, .int .i64 x.c, .int .i64 x.t, .int .i64 x.m, .int .i64 x.f, .bool x.b] 30)) []).trans htv).mono (by simp)
          have b8 := T8.cell (p := ⟨w.heap.size + 1, 0, none⟩) (fun hx => by have := hvb _ hx; dsimp only at this; omega) H7.out.box
          have f8 : w8.frozen? ⟨w.heap.size + 1, 0, none⟩ = false := by rw [← H7.out.free]; exact World.frozen?_of_block (T8.block _ (lt_of_cell H7.out.box) (fun hx => by have := hvb _ hx; dsimp only at this; omega))
          have HL8 := hide (H2.out.list.snoc (x := x) (HT.out.trans (Turn.of_keeps hk7 [])) (fun b hb => by simp at hb; omega) (own_none _ x) (fun b hb' => by simp [fp, fpS, Ev.seg] at hb') hg8 (by rw [hln]; exact hr8) hv8)
          have HT8 := hide T8
          have HVB := hide hvb
          simp only [World.size_alloc] at e8
          have HE8 := hide e8
          have t0 := H7.out.box
          have hev0 := cell_at hev.mem 0 (by simp)
          have hev1 := cell_at hev.mem 1 (by simp)
          have hev2 := cell_at hev.mem 2 (by simp)
          have hev3 := cell_at hev.mem 3 (by simp)
          have hev4 := cell_at hev.mem 4 (by simp)
          have hev5 := cell_at hev.mem 5 (by simp)
          have hev6 := cell_at hev.mem 6 (by simp)
          simp only [Nat.zero_add, List.getElem_cons_zero, List.getElem_cons_succ] at hev0 hev1 hev2 hev3 hev4 hev5 hev6
          have hsz8 : W6.heap.size ≤ w8.heap.size := by have := T8.size; rw [World.size_alloc] at this; omega
          clear hown e8 hr8 hg8 hv8 htv hvb T8 hk6 hk7 hev
          gi_wp2_with (gi_at_builtin; refine wpListIn_append_run _ rfl (.tmp 17) (.tmp 19) 39 rfl _ _ rfl rfl _ _ HE8.out ?_)
          have T : Turn (v.ownBlock.toList ++ [w.heap.size + 1]) (W6.alloc (.cells #[.int .i64 x.k, .int .i64 x.y, .int .i64 x.c, .int .i64 x.t, .int .i64 x.m, .int .i64 x.f, .bool x.b] 30)) (w8.setCell ⟨w.heap.size + 1, 0, none⟩ (.slice (some ⟨g', 0, none⟩) (ln + 1) cap')) := HT8.out.trans (Turn.set (by simp) _)
          have hT1 : ∀ b ∈ v.ownBlock.toList ++ [w.heap.size + 1], (w.heap.size + 5 + 6 ≤ b ∧ b < W2.heap.size) ∨ b = w.heap.size + 1 := fun b hb => by
            rcases List.mem_append.1 hb with hb | hb
            · exact .inl (HVB.out b hb)
            · exact .inr (by simpa using hb)
          refine ⟨(HR5.out.kept HK7.out).turn T (fun hx => by have := hT1 _ hx; omega) (fun hx => by have := hT1 _ hx; omega), fun W9 ht9 => ⟨?_, [W0.heap.size + 1] ++ (v.ownBlock.toList ++ [w.heap.size + 1]), ?_, ?_⟩⟩
          · have h9 : EvI w (w.heap.size + 5) ca cc cs da dc ds u pv (k + 1) (w8.setCell ⟨w.heap.size + 1, 0, none⟩ (.slice (some ⟨g', 0, none⟩) (ln + 1) cap')) (.slice (some ⟨g', 0, none⟩) (ln + 1) cap') :=
              ⟨H7.out.mem.turn T (fun x hx hy => by have := hlt x hx; have := hT1 x hy; omega), T.cell (fun hy => by have := hT1 _ hy; dsimp only at this; omega) H7.out.err, World.cell?_setCell_same _ _ _ b8, by rw [World.frozen?_setCell]; exact f8,
               by rw [evsTo_yes hB, HX.out]; exact HL8.out.turn (Turn.set (fs := [w.heap.size + 1]) (by simp) _) (fun b hb => by simp at hb; omega), T.keeps H7.out.kept (fun b hb => by have := hT1 b hb; omega)⟩
            exact ⟨_, h9.turn ht9 (fun b hb => by simp at hb; omega) (fun b hb => by simp at hb; omega) (by simp <;> omega) hlt hgl⟩
          · intro b hb
            rcases List.mem_append.1 hb with hb | hb
            · have : b = W0.heap.size + 1 := by simpa using hb
              omega
            · have := hT1 b hb
              omega
          · exact (((HT3.out.trans (Turn.of_keeps HK7.out [])).mono (gs := [W0.heap.size + 1]) (by simp)).trans T |>.trans ht9).mono (fun x hx => by rcases List.mem_append.1 hx with hx | hx; exact hx; exact List.mem_append_left _ hx)
      · rintro e W'' (⟨he, hg, hr⟩ | ⟨_, _, hf, _⟩)
        · refine ⟨.inl ⟨he, hg.1, hr⟩, ?_⟩
          obtain ⟨gs, h1, h2⟩ := hg.2
          exact ⟨gs, fun b hb => by have := h1 b hb; omega, h2⟩
        · exact hf.elim
    · rintro e W2 ⟨hv, W3, (⟨⟨v, h⟩, h'⟩ | hf), ht⟩
      · have hz := HS0.out
        rw [hs1'] at ht
        exact ⟨hv, .inl ⟨⟨v, h.turn ht (fun b hb => by simp at hb; omega) (fun b hb => by simp at hb; omega) (by simp <;> omega) hlt hgl⟩, h'.turn ht (by simp <;> omega) (by simp <;> omega)⟩⟩
      · exact hf.elim
  · rintro W W' ⟨v, hG⟩ ht hK
    have hz := HS0.out
    have h2 := hG.turn ht (fun b hb => by simp at hb; omega) (fun b hb => by simp at hb; omega) (by simp <;> omega) hlt hgl
    obtain ⟨a, cap, rfl, hna, ho, hnew⟩ := h2.list.born
    have t0 := h2.box
    have HI := hide h2
    have HO := hide ho
    have HN := hide hnew
    clear h2 ho hnew hG ht
    gi_wp2
    refine ⟨by simp, .inl ⟨_, _, rfl, run_takeDeferred hK, ?_⟩⟩
    have T : Turn [W0.heap.size] W' (W'.putObj W0.heap.size (.deferred none)) := turn_putObj _ _ _
    have ho2 := HO.out.turn T (fun b hb hx => by have := HN.out b hb; simp at hx; omega)
    refine ⟨.slice a (evsTo (dat cs ds) (logN (dat cs ds))).length cap, by simp [results, Tryz.results12, go_sem], a, cap, rfl, ⟨Own.left (S := [_]) (T := (evsTo (dat cs ds) (logN (dat cs ds))).map Ev.seg) ho2, fun b hb => ?_⟩, ?_⟩
    · have := HN.out b (by rw [fp_cons]; rw [fp_one] at hb; exact List.mem_append_left _ hb)
      omega
    · exact T.keeps HI.out.kept (fun b hb => by simp at hb; omega)
  · intro c W W' hf
    exact hf.elim
end Go.Proofs.YtkdnddckogbgaaaGreatDoor
