/- Texts of the verifier, joined: LEi, SgX, LEs. -/
import Derived.Test.YtkdnddckogbgaaaGreatDoorFO30
import Derived.Test.YtkdnddckogbgaaaGreatDoorFO21
import Derived.Test.YtkdnddckogbgaaaGreatDoorFO20
import Derived.Test.YtkdnddckogbgaaaGreatDoorFO2
import Derived.Test.YtkdnddckogbgaaaGreatDoorFO29
namespace Go.Proofs.YtkdnddckogbgaaaGreatDoor
open Go.RowKit Go.Deep Go.Shelf
set_option linter.unusedVariables false
set_option maxRecDepth 10000
attribute [local go_sem] Oper.semAt_some

theorem own_none (w : World) (x : Ev) : Own w [x.seg] := ⟨fun s hs => by rw [List.mem_singleton.1 hs]; exact Or.inl rfl, by simp [fp, fpS, Ev.seg], fun b hb => by simp [fp, fpS, Ev.seg] at hb⟩
/-- Between two rounds of LogEvents, k sectors read; lo: where the iterator's own blocks begin. -/
structure EvI (w : World) (lo : Nat) (ca : Option Addr) (cc : Nat) (cs : List Bs) (da : Option Addr) (dc : Nat) (ds : List Wr) (u : TypeId) (pv : Value) (k : Nat) (W : World) (v : Value) : Prop where
  mem : Mem W (dsk ca cs da ds)
  err : W.cell? ⟨0, 0, none⟩ = some (.iface u pv)
  box : W.cell? ⟨w.heap.size + 1, 0, none⟩ = some v
  free : W.frozen? ⟨w.heap.size + 1, 0, none⟩ = false
  list : LB 30 7 Ev.cells Ev.seg (lo + 6) W v (evsTo (dat cs ds) k)
  kept : Keeps w W
section
variable {w : World} {lo : Nat} {ca : Option Addr} {cc : Nat} {cs : List Bs} {da : Option Addr} {dc : Nat} {ds : List Wr} {u : TypeId} {pv : Value} {k : Nat} {W W' : World} {v : Value}
theorem EvI.turn (h : EvI w lo ca cc cs da dc ds u pv k W v) {fs : List Nat} (ht : Turn fs W W') (hf : ∀ b ∈ fs, b < lo + 6) (hw : ∀ b ∈ fs, w.heap.size ≤ b) (h1 : w.heap.size + 1 ∉ fs) (h2 : ∀ x ∈ fp (dsk ca cs da ds), x < w.heap.size) (h3 : 0 < w.heap.size) : EvI w lo ca cc cs da dc ds u pv k W' v :=
  ⟨h.mem.turn ht (fun x hx hy => by have := h2 x hx; have := hw x hy; omega), ht.cell (fun hy => by have := hw _ hy; dsimp only at this; omega) h.err, ht.cell h1 h.box, by rw [← h.free]; exact World.frozen?_of_block (ht.block _ (lt_of_cell h.box) h1), h.list.turn ht hf, ht.keeps h.kept hw⟩
theorem EvI.later (h : EvI w lo ca cc cs da dc ds u pv k W v) (hk : Keeps W W') : EvI w lo ca cc cs da dc ds u pv k W' v :=
  ⟨h.mem.kept hk, hk.cell h.err, hk.cell h.box, by rw [hk.oldF _ _ (lt_of_cell h.box)]; exact h.free, h.list.kept hk, h.kept.trans hk⟩
end
set_option maxHeartbeats 8000000 in
theorem logevents_impl (ca : Option Addr) (cc : Nat) (cs : List Bs) (da : Option Addr) (dc : Nat) (ds : List Wr) (w : World) (u : TypeId) (pv : Value) (hv : w.cell? ⟨0, 0, none⟩ = some (.iface u pv)) (hm : Mem w (dsk ca cs da ds)) (h : DOk cs ds) :
    Calls Tryz.prog 12 #[dskV ca cs.length cc da ds.length dc] w (LePost w (dat cs ds)) := by
  obtain ⟨n, hn⟩ : ∃ n, 19 ≤ n := ⟨19, Nat.le_refl _⟩
  refine (callsIn_wide (n := n)).1 ?_
  refine callsIn_of_wp_marks Tryz.func12 rfl trivial ?_ rfl
  simp only [Tryz.ntmps12, List.size_toArray, List.length_cons, List.length_nil, Nat.reduceAdd, Nat.reduceSub, Array.replicate_succ, Array.replicate_zero, List.push_toArray, List.append_toArray, List.nil_append, List.cons_append]
  have HV := hide hv
  have HM := hide hm
  have HD := hide h
  have hcl := h.c
  have hlt := hm.lt
  have hgl := lt_of_cell hv
  clear hv hm h
  gi_wp2
  refine ⟨trivial, nofun, (callsIn_wide.2 (log_make ca cc cs da dc ds _)).mono ?_⟩
  rintro e w1 ⟨rfl, rfl⟩
  gi_wp2
  obtain ⟨W0, hW0⟩ : ∃ W0, ((w.alloc (.cells #[.slice ca cs.length cc, .slice da ds.length dc] 26)).alloc (.cells #[.slice none 0 0] 39)).alloc (.cells #[.slice ca cs.length cc, .slice da ds.length dc] 26) = W0 := ⟨_, rfl⟩
  have HS0 : Hid (W0.heap.size = w.heap.size + 3) := by show _ = _; rw [← hW0]; simp
  have hk0 : Keeps w W0 := by rw [← hW0]; exact ((Keeps.refl w).alloc _).alloc _ |>.alloc _
  have hbx := (born_alloc ((w.alloc (.cells #[.slice ca cs.length cc, .slice da ds.length dc] 26)).alloc (.cells #[.slice none 0 0] 39)) #[.slice ca cs.length cc, .slice da ds.length dc] 26).toOwn
  have htb := (born_alloc (w.alloc (.cells #[.slice ca cs.length cc, .slice da ds.length dc] 26)) #[.slice none 0 0] 39).toOwn.kept (Keeps.alloc (Keeps.refl _) (.cells #[.slice ca cs.length cc, .slice da ds.length dc] 26))
  rw [hW0] at hbx htb
  simp only [World.size_alloc] at hbx htb
  rw [hW0]
  have cb0 := cell_at hbx.mem 0 (by simp)
  have cb1 := cell_at hbx.mem 1 (by simp)
  have ct0 := cell_at htb.mem 0 (by simp)
  have cf0 := htb.free (w.heap.size + 1) (by simp [fp, fpS]) 0
  simp only [Nat.zero_add, List.getElem_cons_zero, List.getElem_cons_succ] at cb0 cb1 ct0
  have HI0 : Hid (∀ W1, Keeps W0 W1 → w.heap.size + 5 + 6 ≤ W1.heap.size → EvI w (w.heap.size + 5) ca cc cs da dc ds u pv 0 W1 (.slice none 0 0)) := fun W1 hk1 hs1 =>
    ⟨HM.out.kept (hk0.trans hk1), (hk0.trans hk1).cell HV.out, hk1.cell ct0, by rw [hk1.oldF _ _ (lt_of_cell ct0)]; exact cf0, LB.nil _ _ _ _ (by omega), hk0.trans hk1⟩
  have HA0 : Hid (AllAt (w.heap.size + 1 + 1) ca cc cs da dc ds u pv W0) := ⟨cb0, cb1, HM.out.kept hk0, hk0.cell HV.out⟩
  clear hW0 hbx htb cf0 cb0 cb1 ct0
  refine wp_range rfl (by omega) (gf := 80) (lb := #[.pointer (some ⟨w.heap.size + 1 + 1, 0, none⟩)]) rfl trivial (enters_of Tryz.func80 (by kernel_rfl) rfl) (fun W => ∃ v, EvI w (w.heap.size + 5) ca cc cs da dc ds u pv (logN (dat cs ds)) W v) (fun _ _ => False) ?_ ?_ ?_
  · intro fn hfn W1 hk1 hs1 hr1
    generalize hR : recOf fn _ _ _ _ _ = R at hr1 ⊢
    have hs1' : W1.heap.size = w.heap.size + 5 := by have := HS0.out; omega
    have hturn : ∀ k W2 W3, ((∃ v, EvI w (w.heap.size + 5) ca cc cs da dc ds u pv k W2 v) ∧ RL R W0.heap.size .ready none W2) → Turn (lown W1.heap.size) W2 W3 → ((∃ v, EvI w (w.heap.size + 5) ca cc cs da dc ds u pv k W3 v) ∧ RL R W0.heap.size .ready none W3) := by
      rintro k W2 W3 ⟨⟨v, h⟩, h'⟩ ht
      rw [hs1'] at ht
      have hs := HS0.out
      exact ⟨⟨v, h.turn ht (fun b hb => by simp at hb; omega) (fun b hb => by simp at hb; omega) (by simp <;> omega) hlt hgl⟩, h'.turn ht (by simp <;> omega) (by simp <;> omega)⟩
    refine (log_in (n - 1) (W0.heap.size + 1) (w.heap.size + 1 + 1) ca cc cs da dc ds u pv (fun k W => (∃ v, EvI w (w.heap.size + 5) ca cc cs da dc ds u pv k W v) ∧ RL R W0.heap.size .ready none W) (fun _ => False) HD.out (by omega) W1 (HA0.out.kept hk1) ?_ hturn ?_ ?_ ?_).mono ?_
    · rintro k W2 ⟨⟨v, h⟩, _⟩
      exact ⟨h.mem, h.err⟩
    · intro W2 W3 hf
      exact hf.elim
    · intro W2 hk2 hs2
      exact ⟨⟨_, HI0.out W2 (hk1.trans hk2) (by omega)⟩, hr1.kept hk2⟩
    · rintro k W2 W3 a c n' hkl hfk hfit ⟨⟨v, h⟩, h'⟩ ht hs2 hac hb
      obtain ⟨⟨v1, h2⟩, hr2⟩ := hturn k W2 W3 ⟨⟨v, h⟩, h'⟩ ht
      have h2 : EvI w (w.heap.size + 5) ca cc cs da dc ds u pv k W3 v := by
        rw [hs1'] at ht
        exact h.turn ht (fun b hb => by simp at hb; omega) (fun b hb => by simp at hb; omega) (by simp <;> omega) hlt hgl
      rw [hs1'] at hs2 ht
      subst hR
      refine YieldAt.mono (yield_round (G := fun W' => (∃ v, EvI w (w.heap.size + 5) ca cc cs da dc ds u pv (k + 1) W' v) ∧ ∃ gs, (∀ b ∈ gs, b < W2.heap.size ∧ (b < w.heap.size + 5 ∨ w.heap.size + 5 + 6 ≤ b)) ∧ Turn gs W3 W') (Gx := fun _ _ => False) hfn hr2 rfl ?_) ?_
      · generalize recOf fn _ _ _ _ _ = R at hr2 ⊢
        gi_wp2
        have hka := Keeps.alloc (Keeps.refl W3) (.cells #[.int .i64 (srQ (readL (dat cs ds) k)), .int .i64 (srE (readL (dat cs ds) k)), .slice a (srL (readL (dat cs ds) k)).length c] 72)
        have hbo := (born_alloc W3 #[.int .i64 (srQ (readL (dat cs ds) k)), .int .i64 (srE (readL (dat cs ds) k)), .slice a (srL (readL (dat cs ds) k)).length c] 72).toOwn
        generalize W3.alloc (.cells #[.int .i64 (srQ (readL (dat cs ds) k)), .int .i64 (srE (readL (dat cs ds) k)), .slice a (srL (readL (dat cs ds) k)).length c] 72) = W4 at *
        refine ⟨hr2.kept hka, fun W5 ht5 hr5 => ?_⟩
        have hl2 := hr2.lt
        have hz := HS0.out
        have hb5 := hbo.turn ht5 (fun x hx hy => by simp [fp, fpS] at hx hy; omega)
        have h5 := (h2.later hka).turn ht5 (fun b hb => by simp at hb; omega) (fun b hb => by simp at hb; omega) (by simp <;> omega) hlt hgl
        have hT : Turn (lown (w.heap.size + 5) ++ [W0.heap.size + 1]) W2 W5 := (ht.trans (Turn.of_keeps hka [])).mono (by simp) |>.trans ht5
        have HT3 : Hid (Turn [W0.heap.size + 1] W3 W5) := ((Turn.of_keeps hka []).trans ht5).mono (by simp)
        have HBE := hide (bodyevent_any a (srL (readL (dat cs ds) k)) c W5 u pv h5.err (((hb.kept hka).toOwn.turn ht5 (fun x hx hy => by have := hb.new x hx; simp at hy; omega)).one) hac (Nat.le_trans (srL_len _) (by decide)))
        have s2 := cell_at hb5.mem 2 (by simp)
        simp only [Nat.zero_add, List.getElem_cons_zero, List.getElem_cons_succ] at s2
        have HT := hide hT
        have H2 := hide h
        have H5 := hide h5
        have HR5 := hide hr5
        clear h h2 hr2 hka hbo ht5 hr5 h5 hT hb hb5 hl2 ht
        gi_wp2
        refine ⟨trivial, nofun, (CallsIn.inRound _ (callsIn_wide.2 HBE.out)).mono ?_⟩
        rintro e W6 ⟨rfl, hk6⟩
        clear HBE s2
        rw [ebV_eq]
        generalize hx : ebE (srL (readL (dat cs ds) k)) = x
        have HX := hide hx
        have hk7 := hk6.trans (Keeps.alloc (Keeps.refl W6) (.cells #[.int .i64 x.k, .int .i64 x.y, .int .i64 x.c, .int .i64 x.t, .int .i64 x.m, .int .i64 x.f, .bool x.b] 30))
        have H7 := hide (H5.out.later hk7)
        have HK7 := hide hk7
        have hl5 := HR5.out.lt
        clear hx
        have hev := (born_alloc W6 #[.int .i64 x.k, .int .i64 x.y, .int .i64 x.c, .int .i64 x.t, .int .i64 x.m, .int .i64 x.f, .bool x.b] 30).toOwn
        cases hB : ebB (srL (readL (dat cs ds) k))
        · clear hk6 hk7 hev
          gi_wp2
          refine ⟨HR5.out.kept HK7.out, fun W8 ht8 => ⟨⟨v, ?_⟩, [W0.heap.size + 1], ?_, ?_⟩⟩
          · have h8 := H7.out.turn ht8 (fun b hb => by simp at hb; omega) (fun b hb => by simp at hb; omega) (by simp <;> omega) hlt hgl
            exact ⟨h8.mem, h8.err, h8.box, h8.free, by rw [evsTo_no hB]; exact h8.list, h8.kept⟩
          · intro b hb
            have : b = W0.heap.size + 1 := by simpa using hb
            omega
          · exact ((HT3.out.trans (Turn.of_keeps HK7.out [])).trans ht8).mono (by simp)
        · obtain ⟨ln, hln⟩ : ∃ ln, (evsTo (dat cs ds) k).length = ln := ⟨_, rfl⟩
          have hll := evsTo_len (dat cs ds) k
          rw [hln] at hll
          have hown := H7.out.list.row
          rw [hln] at hown
          obtain ⟨v', w8, e8, hr8, hg8, hv8⟩ := run_event (W6.alloc (.cells #[.int .i64 x.k, .int .i64 x.y, .int .i64 x.c, .int .i64 x.t, .int .i64 x.m, .int .i64 x.f, .bool x.b] 30)) (w.heap.size + 5 + 6) v ln _ x 39 hown (by omega) H7.out.list.size
          obtain ⟨g', cap', rfl⟩ := ownsRow_succ hr8
          have htv : Turn v.ownBlock.toList ((W6.alloc (.cells #[.int .i64 x.k, .int .i64 x.y, .int .i64 x.c, .int .i64 x.t, .int .i64 x.m, .int .i64 x.f, .bool x.b] 30)).alloc (.cells #[.int .i64 x.k, .int .i64 x.y, .int .i64 x.c, .int .i64 x.t, .int .i64 x.m, .int .i64 x.f, .bool x.b] 30)) w8 := Turn.of_grown hg8 (fun k hk' => by rw [hk']; simp)
          have hvb : ∀ b ∈ v.ownBlock.toList, w.heap.size + 5 + 6 ≤ b ∧ b < W2.heap.size := fun b hb => H2.out.list.row.lt b (by simpa using hb)
          have T8 : Turn v.ownBlock.toList (W6.alloc (.cells #[.int .i64 x.k, .int .i64 x.y, .int .i64 x.c, .int .i64 x.t, .int .i64 x.m, .int .i64 x.f, .bool x.b] 30)) w8 := ((Turn.of_keeps (Keeps.alloc (Keeps.refl (W6.alloc (.cells #[.int .i64 x.k, .int .i64 x.y, .int .i64 x.c, .int .i64 x.t, .int .i64 x.m, .int .i64 x.f, .bool x.b] 30))) (.cells #[.int .i64 x.k, .int .i64 x.y, .int .i64 x.c, .int .i64 x.t, .int .i64 x.m, .int .i64 x.f, .bool x.b] 30)) []).trans htv).mono (by simp)
          have b8 := T8.cell (p := ⟨w.heap.size + 1, 0, none⟩) (fun hx => by have := hvb _ hx; dsimp only at this; omega) H7.out.box
          have f8 : w8.frozen? ⟨w.heap.size + 1, 0, none⟩ = false := by rw [← H7.out.free]; exact World.frozen?_of_block (T8.block _ (lt_of_cell H7.out.box) (fun hx => by have := hvb _ hx; dsimp only at this; omega))
          have HL8 := hide (H2.out.list.snoc (x := x) (HT.out.trans (Turn.of_keeps hk7 [])) (fun b hb => by simp at hb; omega) (own_none _ x) (fun b hb' => by simp [fp, fpS, Ev.seg] at hb') hg8 (by rw [hln]; exact hr8) hv8)
          have HT8 := hide T8
          have HVB := hide hvb
          simp only [World.size_alloc] at e8
          have HE8 := hide e8
          have t0 := H7.out.box
          have hev0 := cell_at hev.mem 0 (by simp)
          have hev1 := cell_at hev.mem 1 (by simp)
          have hev2 := cell_at hev.mem 2 (by simp)
          have hev3 := cell_at hev.mem 3 (by simp)
          have hev4 := cell_at hev.mem 4 (by simp)
          have hev5 := cell_at hev.mem 5 (by simp)
          have hev6 := cell_at hev.mem 6 (by simp)
          simp only [Nat.zero_add, List.getElem_cons_zero, List.getElem_cons_succ] at hev0 hev1 hev2 hev3 hev4 hev5 hev6
          have hsz8 : W6.heap.size ≤ w8.heap.size := by have := T8.size; rw [World.size_alloc] at this; omega
          clear hown e8 hr8 hg8 hv8 htv hvb T8 hk6 hk7 hev
          gi_wp2_with (gi_at_builtin; refine wpListIn_append_run _ rfl (.tmp 17) (.tmp 19) 39 rfl _ _ rfl rfl _ _ HE8.out ?_)
          have T : Turn (v.ownBlock.toList ++ [w.heap.size + 1]) (W6.alloc (.cells #[.int .i64 x.k, .int .i64 x.y, .int .i64 x.c, .int .i64 x.t, .int .i64 x.m, .int .i64 x.f, .bool x.b] 30)) (w8.setCell ⟨w.heap.size + 1, 0, none⟩ (.slice (some ⟨g', 0, none⟩) (ln + 1) cap')) := HT8.out.trans (Turn.set (by simp) _)
          have hT1 : ∀ b ∈ v.ownBlock.toList ++ [w.heap.size + 1], (w.heap.size + 5 + 6 ≤ b ∧ b < W2.heap.size) ∨ b = w.heap.size + 1 := fun b hb => by
            rcases List.mem_append.1 hb with hb | hb
            · exact .inl (HVB.out b hb)
            · exact .inr (by simpa using hb)
          refine ⟨(HR5.out.kept HK7.out).turn T (fun hx => by have := hT1 _ hx; omega) (fun hx => by have := hT1 _ hx; omega), fun W9 ht9 => ⟨?_, [W0.heap.size + 1] ++ (v.ownBlock.toList ++ [w.heap.size + 1]), ?_, ?_⟩⟩
          · have h9 : EvI w (w.heap.size + 5) ca cc cs da dc ds u pv (k + 1) (w8.setCell ⟨w.heap.size + 1, 0, none⟩ (.slice (some ⟨g', 0, none⟩) (ln + 1) cap')) (.slice (some ⟨g', 0, none⟩) (ln + 1) cap') :=
              ⟨H7.out.mem.turn T (fun x hx hy => by have := hlt x hx; have := hT1 x hy; omega), T.cell (fun hy => by have := hT1 _ hy; dsimp only at this; omega) H7.out.err, World.cell?_setCell_same _ _ _ b8, by rw [World.frozen?_setCell]; exact f8,
               by rw [evsTo_yes hB, HX.out]; exact HL8.out.turn (Turn.set (fs := [w.heap.size + 1]) (by simp) _) (fun b hb => by simp at hb; omega), T.keeps H7.out.kept (fun b hb => by have := hT1 b hb; omega)⟩
            exact ⟨_, h9.turn ht9 (fun b hb => by simp at hb; omega) (fun b hb => by simp at hb; omega) (by simp <;> omega) hlt hgl⟩
          · intro b hb
            rcases List.mem_append.1 hb with hb | hb
            · have : b = W0.heap.size + 1 := by simpa using hb
              omega
            · have := hT1 b hb
              omega
          · exact (((HT3.out.trans (Turn.of_keeps HK7.out [])).mono (gs := [W0.heap.size + 1]) (by simp)).trans T |>.trans ht9).mono (fun x hx => by rcases List.mem_append.1 hx with hx | hx; exact hx; exact List.mem_append_left _ hx)
      · rintro e W'' (⟨he, hg, hr⟩ | ⟨_, _, hf, _⟩)
        · refine ⟨.inl ⟨he, hg.1, hr⟩, ?_⟩
          obtain ⟨gs, h1, h2⟩ := hg.2
          exact ⟨gs, fun b hb => by have := h1 b hb; omega, h2⟩
        · exact hf.elim
    · rintro e W2 ⟨hv, W3, (⟨⟨v, h⟩, h'⟩ | hf), ht⟩
      · have hz := HS0.out
        rw [hs1'] at ht
        exact ⟨hv, .inl ⟨⟨v, h.turn ht (fun b hb => by simp at hb; omega) (fun b hb => by simp at hb; omega) (by simp <;> omega) hlt hgl⟩, h'.turn ht (by simp <;> omega) (by simp <;> omega)⟩⟩
      · exact hf.elim
  · rintro W W' ⟨v, hG⟩ ht hK
    have hz := HS0.out
    have h2 := hG.turn ht (fun b hb => by simp at hb; omega) (fun b hb => by simp at hb; omega) (by simp <;> omega) hlt hgl
    obtain ⟨a, cap, rfl, hna, ho, hnew⟩ := h2.list.born
    have t0 := h2.box
    have HI := hide h2
    have HO := hide ho
    have HN := hide hnew
    clear h2 ho hnew hG ht
    gi_wp2
    refine ⟨by simp, .inl ⟨_, _, rfl, run_takeDeferred hK, ?_⟩⟩
    have T : Turn [W0.heap.size] W' (W'.putObj W0.heap.size (.deferred none)) := turn_putObj _ _ _
    have ho2 := HO.out.turn T (fun b hb hx => by have := HN.out b hb; simp at hx; omega)
    refine ⟨.slice a (evsTo (dat cs ds) (logN (dat cs ds))).length cap, by simp [results, Tryz.results12, go_sem], a, cap, rfl, ⟨Own.left (S := [_]) (T := (evsTo (dat cs ds) (logN (dat cs ds))).map Ev.seg) ho2, fun b hb => ?_⟩, ?_⟩
    · have := HN.out b (by rw [fp_cons]; rw [fp_one] at hb; exact List.mem_append_left _ hb)
      omega
    · exact T.keeps HI.out.kept (fun b hb => by simp at hb; omega)
  · intro c W W' hf
    exact hf.elim
end Go.Proofs.YtkdnddckogbgaaaGreatDoor
namespace Go.Proofs.YtkdnddckogbgaaaGreatDoor
open Go.RowKit Go.Deep
set_option linter.unusedVariables false
set_option maxRecDepth 10000

theorem mem_segS {w : World} {ds : List Sc} (h : Mem w (ds.map Sc.seg)) (k : Nat) (hk : k < ds.length) : Cells w ds[k].b.a (bys ds[k].b.L) := h ds[k].seg (List.mem_map.2 ⟨_, List.getElem_mem hk, rfl⟩)
theorem scells_len : ∀ xs : List Sc, (scells xs).length = xs.length * 3
  | [] => rfl
  | x :: t => by
    have := scells_len t
    simp only [scells, List.flatMap_cons, List.length_append, List.length_cons] at this ⊢
    rw [this]
    simp [Sc.cells]
    omega
theorem scells_append (xs ys : List Sc) : scells (xs ++ ys) = scells xs ++ scells ys := by simp [scells]
theorem scells_at (xs : List Sc) (k : Nat) (h : k < xs.length) : (scells xs)[k * 3]? = some (.int .i64 xs[k].q) ∧ (scells xs)[k * 3 + 1]? = some (.int .i64 xs[k].e) ∧ (scells xs)[k * 3 + 2]? = some xs[k].b.v := by
  have e : xs = xs.take k ++ xs[k] :: xs.drop (k + 1) := by rw [← List.drop_eq_getElem_cons h]; simp
  have hl : (scells (xs.take k)).length = k * 3 := by rw [scells_len]; simp; omega
  have e2 : scells xs = scells (xs.take k) ++ ([.int .i64 xs[k].q, .int .i64 xs[k].e, xs[k].b.v] ++ scells (xs.drop (k + 1))) := by
    conv => lhs; rw [e]
    rw [scells_append]
    rfl
  rw [e2]
  refine ⟨?_, ?_, ?_⟩
  · rw [List.getElem?_append_right (by omega), hl]; simp
  · rw [List.getElem?_append_right (by omega), hl, show k * 3 + 1 - k * 3 = 1 by omega]; simp
  · rw [List.getElem?_append_right (by omega), hl, show k * 3 + 2 - k * 3 = 2 by omega]; simp
theorem cell3 {w : World} {a : Option Addr} {xs : List Sc} (h : Cells w a (scells xs)) (k : Nat) (hk : k < xs.length) :
    ∃ b off, a = some ⟨b, off, none⟩ ∧ w.cell? ⟨b, off + k * 3, none⟩ = some (.int .i64 xs[k].q) ∧ w.cell? ⟨b, off + k * 3 + 1, none⟩ = some (.int .i64 xs[k].e) ∧ w.cell? ⟨b, off + k * 3 + 2, none⟩ = some xs[k].b.v := by
  have hl := scells_len xs
  obtain ⟨h0, h1, h2⟩ := scells_at xs k hk
  rcases h with h' | ⟨b, off, e, h'⟩
  · rw [h'] at hl
    simp at hl
    omega
  · refine ⟨b, off, e, ?_, ?_, ?_⟩
    · have := h' (k * 3) (by omega)
      rw [this, ← h0, List.getElem?_eq_getElem (by omega)]
    · have := h' (k * 3 + 1) (by omega)
      rw [← Nat.add_assoc] at this
      rw [this, ← h1, List.getElem?_eq_getElem (by omega)]
    · have := h' (k * 3 + 2) (by omega)
      rw [← Nat.add_assoc] at this
      rw [this, ← h2, List.getElem?_eq_getElem (by omega)]
end Go.Proofs.YtkdnddckogbgaaaGreatDoor
namespace Go.Proofs.YtkdnddckogbgaaaGreatDoor
open Go.RowKit Go.Deep
set_option linter.unusedVariables false
set_option maxRecDepth 10000

theorem LePost.of {w w' : World} {m : DkM} {oa : Option Addr} {oc ln k : Nat} (hl : (evsTo m k).length = ln) (h : LB 30 7 Ev.cells Ev.seg (w.heap.size + 1) w' (.slice oa ln oc) (evsTo m k)) (hk : Keeps w w') (hn : logN m = k) : LePost w m (.returned (.slice oa ln oc)) w' := by
  subst hl hn
  obtain ⟨a, cap, e, hna, ho, hnew⟩ := h.born
  injection e with e1 _ e2
  subst e1 e2
  refine ⟨oa, oc, rfl, ⟨Own.left (S := [_]) (T := (evsTo m (logN m)).map Ev.seg) ho, fun b hb => ?_⟩, hk⟩
  have := hnew b (by rw [fp_cons]; rw [fp_one] at hb; exact List.mem_append_left _ hb)
  omega
set_option maxHeartbeats 8000000 in
theorem logevents_spec (ca : Option Addr) (cc : Nat) (cs : List Bs) (da : Option Addr) (dc : Nat) (ds : List Wr) (w : World) (hm : Mem w (dsk ca cs da ds)) (h : DOk cs ds) :
    Calls Tryz.prog 18 #[dskV ca cs.length cc da ds.length dc] w (LePost w (dat cs ds)) := by
  have HKA := hide (Keeps.alloc (Keeps.refl w) (.cells #[.slice ca cs.length cc, .slice da ds.length dc] 26))
  have HSA : Hid ((w.alloc (.cells #[.slice ca cs.length cc, .slice da ds.length dc] 26)).heap.size = w.heap.size + 1) := by show _ = _; rw [World.size_alloc]
  have HK0 := hide (Keeps.alloc (Keeps.refl (w.alloc (.cells #[.slice ca cs.length cc, .slice da ds.length dc] 26))) (.cells #[] 30))
  have HS0 : Hid (((w.alloc (.cells #[.slice ca cs.length cc, .slice da ds.length dc] 26)).alloc (.cells #[] 30)).heap.size = w.heap.size + 1 + 1) := by show _ = _; rw [World.size_alloc, World.size_alloc]
  have HL0 : Hid (LB 30 7 Ev.cells Ev.seg (w.heap.size + 1) ((w.alloc (.cells #[.slice ca cs.length cc, .slice da ds.length dc] 26)).alloc (.cells #[] 30)) (.slice (some ⟨w.heap.size + 1, 0, none⟩) 0 0) []) := by
    have h0 := World.ownsRow_made (base := (w.alloc (.cells #[.slice ca cs.length cc, .slice da ds.length dc] 26)).heap.size) (e := 30) (size := 7) (w.alloc (.cells #[.slice ca cs.length cc, .slice da ds.length dc] 26)) #[] 0 (Nat.le_refl _) (by decide) rfl
    refine ⟨w.alloc (.cells #[.slice ca cs.length cc, .slice da ds.length dc] 26), HSA.out, LG.nil _ _ _ _ ?_ HK0.out⟩
    have e : (w.alloc (.cells #[.slice ca cs.length cc, .slice da ds.length dc] 26)).heap.size = w.heap.size + 1 := HSA.out
    rw [← e]
    exact h0
  have HT := hide (logread_spec ca cc cs da dc ds _ ((hm.kept HKA.out).kept HK0.out) h)
  have hcl := h.c
  have hml : (dat cs ds).cells.length = cs.length := by simp [dat]
  have HML := hide hml
  have d0 : ((w.alloc (.cells #[.slice ca cs.length cc, .slice da ds.length dc] 26)).alloc (.cells #[] 30)).cell? ⟨w.heap.size, 0, none⟩ = some (.slice ca cs.length cc) := HK0.out.cell (by simp)
  have d1 : ((w.alloc (.cells #[.slice ca cs.length cc, .slice da ds.length dc] 26)).alloc (.cells #[] 30)).cell? ⟨w.heap.size, 1, none⟩ = some (.slice da ds.length dc) := HK0.out.cell (by simp)
  clear hm h hml
  go_enter Tryz.func18, Tryz.ntmps18
  go_wp2_with fail
  clear d0 d1
  generalize w.alloc (.cells #[.slice ca cs.length cc, .slice da ds.length dc] 26) = W0 at *
  refine (unhide HT).mono ?_
  rintro x w1 ⟨a, c, nb, rfl, hkey, hna, hb, hk⟩
  have hlen : nb.length = logN (dat cs ds) := by have := congrArg List.length hkey; simpa [logS, secsTo_len] using this
  have hlog : logN (dat cs ds) ≤ cs.length := by rw [← HML.out]; exact logTo_le _ _
  have HKey := hide hkey
  have HLen := hide hlen
  have hnl : nb.length ≤ 1048576 := by omega
  have HK1 := hide (HK0.out.trans hk)
  have HL1 := hide (HL0.out.kept hk)
  have HM1 := hide hb.mem
  have HA1 : Hid (∀ g, Value.ownBlock (.slice (some ⟨w.heap.size + 1, 0, none⟩) 0 0) = some g → g ∉ fp ((a, scells nb) :: nb.map Sc.seg)) := fun g hg hx => by
    have h1 := hb.new g hx
    have h2 : g = w.heap.size + 1 := by simpa [Value.ownBlock] using hg.symm
    have := HS0.out
    have e : (W0.alloc (.cells #[] 30)).heap.size = w.heap.size + 1 + 1 := HS0.out
    omega
  clear hkey hlen hk hb HL0 HT hna hlog
  go_wp2_with fail
  go_loopw [3, 18] (fun x y wr => ∃ (j : Nat) (oa : Option Addr) (oc ln : Nat), j ≤ nb.length ∧ Hid ((evsTo (dat cs ds) j).length = ln) ∧ x = .slice oa ln oc ∧ y = .int .i64 (j : Int) ∧ Hid (LB 30 7 Ev.cells Ev.seg (w.heap.size + 1) wr (.slice oa ln oc) (evsTo (dat cs ds) j)) ∧ Hid (Mem wr ((a, scells nb) :: nb.map Sc.seg)) ∧ Hid (∀ g, Value.ownBlock (.slice oa ln oc) = some g → g ∉ fp ((a, scells nb) :: nb.map Sc.seg)) ∧ Hid (Keeps W0 wr)) (fun _ y _ => nb.length - (intOf y).toNat)
  case atStart => exact ⟨0, some ⟨w.heap.size + 1, 0, none⟩, 0, 0, Nat.zero_le _, rfl, rfl, rfl, HL1, HM1, HA1, HK1⟩
  case round =>
    obtain ⟨j, oa, oc, ln, hj, HLn, rfl, rfl, HLr, HMr, HAr, HKr⟩ := hrel
    by_cases hlt : j < nb.length
    · obtain ⟨b, off, ea, c0, c1, c2⟩ := cell3 (HMr.out (a, scells nb) (by simp)) j hlt
      have HBod : Hid (nb[j].b.L = srL (readL (dat cs ds) j)) := by
        have h1 := congrArg (fun l => l[j]?) HKey.out
        have h2 : j < logN (dat cs ds) := by have := HLen.out; omega
        simp [logS, secsTo, hlt, h2] at h1
        exact congrArg (fun z => z.2.2) h1
      have HCb := hide (mem_segS (mem_cons.1 HMr.out).2 j hlt)
      generalize nb[j] = sx at *
      obtain ⟨sq, se, ba, bc, bL⟩ := sx
      dsimp only [Bs.v] at c0 c1 c2 HBod HCb
      subst ea
      have hks := Keeps.alloc (Keeps.refl wr) (.cells #[.int .i64 sq, .int .i64 se, .slice ba bL.length bc] 72)
      have hso := (born_alloc wr #[.int .i64 sq, .int .i64 se, .slice ba bL.length bc] 72).toOwn
      have s2 := cell_at hso.mem 2 (by simp)
      simp only [Nat.zero_add, List.getElem_cons_zero, List.getElem_cons_succ] at s2
      have HBE := hide (bodyspec_any ba bL bc (wr.alloc (.cells #[.int .i64 sq, .int .i64 se, .slice ba bL.length bc] 72)) (HCb.out.kept hks) (by have := HBod.out; have := srL_len (readL (dat cs ds) j); simp_all; omega))
      have HKs := hide hks
      clear hks hso
      go_wp2_with fail
      refine (unhide HBE).mono ?_
      rintro e w3 ⟨rfl, hk3⟩
      clear HBE s2 c0 c1 c2
      rw [ebV_eq]
      generalize hx : ebE bL = x
      have HX := hide hx
      clear hx
      have HK4 := hide ((HKs.out.trans hk3).alloc (.cells #[.int .i64 x.k, .int .i64 x.y, .int .i64 x.c, .int .i64 x.t, .int .i64 x.m, .int .i64 x.f, .bool x.b] 30))
      have hev := (born_alloc w3 #[.int .i64 x.k, .int .i64 x.y, .int .i64 x.c, .int .i64 x.t, .int .i64 x.m, .int .i64 x.f, .bool x.b] 30).toOwn
      have hev0 := cell_at hev.mem 0 (by simp)
      have hev1 := cell_at hev.mem 1 (by simp)
      have hev2 := cell_at hev.mem 2 (by simp)
      have hev3 := cell_at hev.mem 3 (by simp)
      have hev4 := cell_at hev.mem 4 (by simp)
      have hev5 := cell_at hev.mem 5 (by simp)
      have hev6 := cell_at hev.mem 6 (by simp)
      simp only [Nat.zero_add, List.getElem_cons_zero, List.getElem_cons_succ] at hev0 hev1 hev2 hev3 hev4 hev5 hev6
      clear hev hk3
      cases hB : ebB bL
      · go_wp2_with fail
        go_roundw
        case rel => exact ⟨j + 1, oa, oc, ln, by omega, (by show _ = _; rw [evsTo_no (by rw [← HBod.out]; exact hB)]; exact HLn.out), rfl, by go_num, (by show LB 30 7 Ev.cells Ev.seg (w.heap.size + 1) _ _ _; rw [evsTo_no (by rw [← HBod.out]; exact hB)]; exact HLr.out.kept HK4.out), hide (HMr.out.kept HK4.out), HAr, hide (HKr.out.trans HK4.out)⟩
        case measure => simp [intOf]; omega
      · have hll := evsTo_len (dat cs ds) j
        rw [HLn.out] at hll
        have hown := (HLr.out.kept HK4.out).row
        rw [HLn.out] at hown
        obtain ⟨v', w5, e5, hr5, hg5, hv5⟩ := run_event (w3.alloc (.cells #[.int .i64 x.k, .int .i64 x.y, .int .i64 x.c, .int .i64 x.t, .int .i64 x.m, .int .i64 x.f, .bool x.b] 30)) (w.heap.size + 1) (.slice oa ln oc) ln _ x 39 hown (by omega) (HLr.out.kept HK4.out).size
        obtain ⟨g', cap', rfl⟩ := ownsRow_plus hr5
        have HL5 := hide (HLr.out.snoc (x := x) (Turn.of_keeps HK4.out []) (by simp) (own_none _ x) (fun b hb' => by simp [fp, fpS, Ev.seg] at hb') hg5 (by rw [HLn.out]; exact hr5) hv5)
        have T5 : Turn (Value.ownBlock (.slice oa ln oc)).toList (w3.alloc (.cells #[.int .i64 x.k, .int .i64 x.y, .int .i64 x.c, .int .i64 x.t, .int .i64 x.m, .int .i64 x.f, .bool x.b] 30)) w5 := ((Turn.of_keeps (Keeps.alloc (Keeps.refl (w3.alloc (.cells #[.int .i64 x.k, .int .i64 x.y, .int .i64 x.c, .int .i64 x.t, .int .i64 x.m, .int .i64 x.f, .bool x.b] 30))) (.cells #[.int .i64 x.k, .int .i64 x.y, .int .i64 x.c, .int .i64 x.t, .int .i64 x.m, .int .i64 x.f, .bool x.b] 30)) []).trans (Turn.of_grown (fs := (Value.ownBlock (.slice oa ln oc)).toList) hg5 (fun k hk' => by rw [hk']; simp))).mono (by simp)
        have HM5 := hide ((HMr.out.kept HK4.out).turn T5 (fun b hb hx => HAr.out b (by simpa using hx) hb))
        have HA5 : Hid (∀ g, Value.ownBlock (.slice (some ⟨g', 0, none⟩) (ln + 1) cap') = some g → g ∉ fp ((some (⟨b, off, none⟩ : Addr), scells nb) :: nb.map Sc.seg)) := fun g hg hx => by
          rcases hv5 with h1 | h1
          · rw [h1] at hg; exact HAr.out g hg hx
          · rw [h1] at hg
            have h2 := (HMr.out.kept HK4.out).lt g hx
            have h3 := Option.some.inj hg
            simp at h2 h3
            omega
        have HK5 : Hid (Keeps W0 w5) := Keeps.grown ((HKr.out.trans HK4.out).alloc _) hg5 (fun g hg => by have := HSA.out; have := (HLr.out.row.lt g hg).1; omega)
        simp only [World.size_alloc] at e5
        have HE5 := hide e5
        clear hown e5 hr5 hg5 hv5 T5
        go_wp2_with (at_builtin; refine Lib.wpList_append_run _ rfl (.tmp 29) (.tmp 31) _ _ rfl _ _ rfl rfl _ _ HE5.out ?_)
        go_roundw
        case rel => exact ⟨j + 1, some ⟨g', 0, none⟩, cap', ln + 1, by omega, (by show _ = _; rw [evsTo_yes (by rw [← HBod.out]; exact hB), List.length_append, HLn.out]; rfl), rfl, by go_num, (by show LB 30 7 Ev.cells Ev.seg (w.heap.size + 1) _ _ _; rw [evsTo_yes (by rw [← HBod.out]; exact hB), ← HBod.out, HX.out]; exact HL5.out), HM5, HA5, HK5⟩
        case measure => simp [intOf]; omega
    · have e : j = nb.length := by omega
      subst e
      go_wp2_with fail
      refine bodyPost_ret (v := .slice oa ln oc) (by simp [results, Tryz.results18, go_sem]) rfl ?_
      exact LePost.of HLn.out HLr.out (HKA.out.trans HKr.out) HLen.out.symm
end Go.Proofs.YtkdnddckogbgaaaGreatDoor
