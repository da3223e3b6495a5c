/- Texts of the verifier, joined: LgI, LRi. -/
import Derived.Test.YtkdnddckogbgaaaGreatDoorFO29
import Derived.Test.YtkdnddckogbgaaaGreatDoorFO20
namespace Go.Proofs.YtkdnddckogbgaaaGreatDoor
open Go.RowKit Go.Deep Go.Shelf
set_option linter.unusedVariables false
set_option maxRecDepth 10000
attribute [local go_sem] Oper.semAt_some

theorem log_make (ca : Option Addr) (cc : Nat) (cs : List Bs) (da : Option Addr) (dc : Nat) (ds : List Wr) (w : World) :
    Calls Tryz.prog 43 #[dskV ca cs.length cc da ds.length dc] w fun e w' => e = .returned (.func (.func 80) #[] #[.pointer (some ⟨w.heap.size, 0, none⟩)]) ∧ w' = w.alloc (.cells #[.slice ca cs.length cc, .slice da ds.length dc] 26) := by
  have hmf : ∀ (fn : Fn) (first cap : Array Value) (w : World), (Instr.makeFunc fn first cap).run Tryz.prog w = .ok (.func fn first cap) w := fun _ _ _ _ => rfl
  go_enter Tryz.func43, Tryz.ntmps43
  go_wp2_with fail
  go_ret
  exact ⟨rfl, rfl⟩
/-- The blocks that the iterator itself turns: the next number, the epoch, its own loop's two. -/
abbrev lown (lo : Nat) : List Nat := [lo + 1, lo + 1 + 1, lo + 4, lo + 4 + 1]
/-- Between two rounds of the iterator's own loop: j sectors have been told, cell k comes next. -/
structure LogJ (m : DkM) (lo l : Nat) (ca : Option Addr) (cc : Nat) (cs : List Bs) (da : Option Addr) (dc : Nat) (ds : List Wr) (u : TypeId) (pv : Value) (J : Nat → World → Prop) (j k : Nat) (W : World) : Prop where
  le : j ≤ k
  fit : fitTo m j
  gap : ∀ i, j ≤ i → i < k → srB (readL m i) = false
  yld : W.cell? ⟨lo, 0, none⟩ = some (.func (.yield l) #[] #[])
  next : W.cell? ⟨lo + 1, 0, none⟩ = some (.int .i64 (j : Nat))
  nfree : W.frozen? ⟨lo + 1, 0, none⟩ = false
  ep : W.cell? ⟨lo + 1 + 1, 0, none⟩ = some (.int .i64 (lastE m j))
  efree : W.frozen? ⟨lo + 1 + 1, 0, none⟩ = false
  at_ : AllAt (lo + 1 + 1 + 1) ca cc cs da dc ds u pv W
  size : lo + 6 ≤ W.heap.size
  out : J j W
section
variable {m : DkM} {lo l : Nat} {ca : Option Addr} {cc : Nat} {cs : List Bs} {da : Option Addr} {dc : Nat} {ds : List Wr} {u : TypeId} {pv : Value} {J : Nat → World → Prop} {j k : Nat} {W W' : World}
theorem LogJ.later (hA : ∀ k W1 W2, J k W1 → Turn (lown lo) W1 W2 → J k W2) (h : LogJ m lo l ca cc cs da dc ds u pv J j k W) (ht : Keeps W W') : LogJ m lo l ca cc cs da dc ds u pv J j k W' :=
  have hs := h.size
  ⟨h.le, h.fit, h.gap, ht.cell h.yld, ht.cell h.next, by rw [ht.oldF _ _ (by omega)]; exact h.nfree, ht.cell h.ep, by rw [ht.oldF _ _ (by omega)]; exact h.efree, h.at_.kept ht, Nat.le_trans h.size ht.size, hA _ _ _ h.out (Turn.of_keeps ht _)⟩
/-- The record of the iterator's own loop turns. -/
theorem LogJ.turnR (hA : ∀ k W1 W2, J k W1 → Turn (lown lo) W1 W2 → J k W2) (h : LogJ m lo l ca cc cs da dc ds u pv J j k W) (ht : Turn [lo + 4 + 1] W W') (h2 : ∀ x ∈ fp (dsk ca cs da ds), x < lo) (h3 : 0 < lo) : LogJ m lo l ca cc cs da dc ds u pv J j k W' :=
  have hs := h.size
  ⟨h.le, h.fit, h.gap, ht.cell (by simp <;> omega) h.yld, ht.cell (by simp <;> omega) h.next, by rw [← h.nfree]; exact World.frozen?_of_block (ht.block _ (by show lo + 1 < _; omega) (by simp <;> omega)), ht.cell (by simp <;> omega) h.ep, by rw [← h.efree]; exact World.frozen?_of_block (ht.block _ (by show lo + 1 + 1 < _; omega) (by simp <;> omega)),
   h.at_.turn ht (by simp <;> omega) (fun x hx hy => by have := h2 x hx; simp at hy; omega) (by simp <;> omega), Nat.le_trans h.size ht.size, hA _ _ _ h.out (ht.mono (by simp))⟩
/-- What the round of the one that ranges over the log kept. -/
theorem LogJ.round {gs : List Nat} (h : LogJ m lo l ca cc cs da dc ds u pv J j k W) (ht : Turn gs W W') (hg : ∀ b ∈ gs, b < lo ∨ lo + 6 ≤ b) :
    W'.cell? ⟨lo, 0, none⟩ = some (.func (.yield l) #[] #[]) ∧ W'.cell? ⟨lo + 1, 0, none⟩ = some (.int .i64 (j : Nat)) ∧ W'.frozen? ⟨lo + 1, 0, none⟩ = false ∧ W'.cell? ⟨lo + 1 + 1, 0, none⟩ = some (.int .i64 (lastE m j)) ∧ W'.frozen? ⟨lo + 1 + 1, 0, none⟩ = false ∧ lo + 6 ≤ W'.heap.size :=
  have hs := h.size
  ⟨ht.cell (fun hx => by have := hg _ hx; dsimp only at this; omega) h.yld, ht.cell (fun hx => by have := hg _ hx; dsimp only at this; omega) h.next,
   by rw [← h.nfree]; exact World.frozen?_of_block (ht.block _ (by show lo + 1 < _; omega) (fun hx => by have := hg _ hx; dsimp only at this; omega)),
   ht.cell (fun hx => by have := hg _ hx; dsimp only at this; omega) h.ep,
   by rw [← h.efree]; exact World.frozen?_of_block (ht.block _ (by show lo + 1 + 1 < _; omega) (fun hx => by have := hg _ hx; dsimp only at this; omega)), Nat.le_trans h.size ht.size⟩
end
theorem LogJ.stop {m : DkM} {lo l : Nat} {ca : Option Addr} {cc : Nat} {cs : List Bs} {da : Option Addr} {dc : Nat} {ds : List Wr} {u : TypeId} {pv : Value} {J : Nat → World → Prop} {j k : Nat} {W : World} (h : LogJ m lo l ca cc cs da dc ds u pv J j k W) (hk : k ≤ m.cells.length) (hn : j = k → k = m.cells.length ∨ fitB m k = false) : J (logN m) W := by
  have e : logN m = j := by
    by_cases e : j = k
    · subst e
      rcases hn rfl with h1 | h1
      · unfold logN; rw [← h1]; exact logTo_all h.fit
      · exact logTo_stop h.fit h1 hk
    · have h1 := h.gap j (Nat.le_refl _) (by have := h.le; omega)
      exact logTo_stop h.fit (by simp [fitB, h1]) (by have := h.le; omega)
  rw [e]
  exact h.out
set_option maxHeartbeats 8000000 in
theorem log_in (n l Bx : Nat) (ca : Option Addr) (cc : Nat) (cs : List Bs) (da : Option Addr) (dc : Nat) (ds : List Wr) (u : TypeId) (pv : Value) (J : Nat → World → Prop) (Jx : World → Prop) (hd : DOk cs ds) (hn : 9 ≤ n) (W : World)
    (hat : AllAt Bx ca cc cs da dc ds u pv W)
    (hJ : ∀ k W1, J k W1 → Mem W1 (dsk ca cs da ds) ∧ W1.cell? ⟨0, 0, none⟩ = some (.iface u pv))
    (hA : ∀ k W1 W2, J k W1 → Turn (lown W.heap.size) W1 W2 → J k W2)
    (hX : ∀ W1 W2, Jx W1 → Turn (lown W.heap.size) W1 W2 → Jx W2)
    (h0 : ∀ W1, Keeps W W1 → W.heap.size + 6 ≤ W1.heap.size → J 0 W1)
    (hY : ∀ k W1 W2 a c n', k < cs.length → fitTo (dat cs ds) k → fitB (dat cs ds) k = true → J k W1 → Turn (lown W.heap.size) W1 W2 → W.heap.size + 6 ≤ W1.heap.size → CapB a c (srL (readL (dat cs ds) k)).length → Born W1 W2 [(a, bys (srL (readL (dat cs ds) k)))] →
      YieldAt Fence.wide n' Tryz.prog l #[secV (srQ (readL (dat cs ds) k)) (srE (readL (dat cs ds) k)) a (srL (readL (dat cs ds) k)).length c] W2 fun e W3 =>
        ((e = .returned (.bool true) ∧ J (k + 1) W3) ∨ (e = .returned (.bool false) ∧ Jx W3)) ∧ ∃ gs, (∀ b ∈ gs, b < W1.heap.size ∧ (b < W.heap.size ∨ W.heap.size + 6 ≤ b)) ∧ Turn gs W2 W3) :
    CallsIn Fence.wide n Tryz.prog 80 #[.func (.yield l) #[] #[], .pointer (some ⟨Bx, 0, none⟩)] W fun e W' => (∃ v, e = .returned v) ∧ ∃ W1, (J (logN (dat cs ds)) W1 ∨ Jx W1) ∧ Turn [W.heap.size + 4, W.heap.size + 4 + 1] W1 W' := by
  have hmlen : (dat cs ds).cells.length = cs.length := by simp [dat]
  have hlt := hat.2.2.1.lt
  have hgl := lt_of_cell hat.2.2.2
  refine callsIn_of_wp_marks Tryz.func80 rfl trivial ?_ rfl
  simp only [Tryz.ntmps80, List.size_toArray, List.length_cons, List.length_nil, Nat.reduceAdd, Nat.reduceSub, Array.replicate_succ, Array.replicate_zero, List.push_toArray, List.append_toArray, List.nil_append, List.cons_append]
  have HJ := hide hJ
  have HA := hide hA
  have HY := hide hY
  have HX := hide hX
  have HD := hide hd
  have H0 := hide h0
  have HML := hide hmlen
  obtain ⟨b0, b1, hm, hv⟩ := hat
  have HM := hide hm
  have HV := hide hv
  clear hJ hA hY hX hd h0 hmlen hm hv
  have hbl := lt_of_cell b0
  have hk3 : Keeps W (((W.alloc (.cells #[.func (.yield l) #[] #[]] 114)).alloc (.cells #[.int .i64 0] 3)).alloc (.cells #[.int .i64 0] 3)) := (((Keeps.refl W).alloc _).alloc _).alloc _
  have c0 := hk3.cell b0
  have c1 := hk3.cell b1
  gi_wp2
  refine ⟨trivial, nofun, (callsIn_wide.2 (all_make ca cc cs da dc ds _)).mono ?_⟩
  rintro e w1 ⟨rfl, rfl⟩
  gi_wp2
  obtain ⟨W4, hW4⟩ : ∃ W4, (((W.alloc (.cells #[.func (.yield l) #[] #[]] 114)).alloc (.cells #[.int .i64 0] 3)).alloc (.cells #[.int .i64 0] 3)).alloc (.cells #[.slice ca cs.length cc, .slice da ds.length dc] 26) = W4 := ⟨_, rfl⟩
  have HS4 : Hid (W4.heap.size = W.heap.size + 4) := by show _ = _; rw [← hW4]; simp
  have hk4 : Keeps W W4 := by rw [← hW4]; exact hk3.alloc _
  have y1 := (born_alloc W #[.func (.yield l) #[] #[]] 114).toOwn.kept ((((Keeps.refl _).alloc (.cells #[.int .i64 0] 3)).alloc (.cells #[.int .i64 0] 3)).alloc (.cells #[.slice ca cs.length cc, .slice da ds.length dc] 26))
  have y2 := (born_alloc (W.alloc (.cells #[.func (.yield l) #[] #[]] 114)) #[.int .i64 0] 3).toOwn.kept (((Keeps.refl _).alloc (.cells #[.int .i64 0] 3)).alloc (.cells #[.slice ca cs.length cc, .slice da ds.length dc] 26))
  have y3 := (born_alloc ((W.alloc (.cells #[.func (.yield l) #[] #[]] 114)).alloc (.cells #[.int .i64 0] 3)) #[.int .i64 0] 3).toOwn.kept ((Keeps.refl _).alloc (.cells #[.slice ca cs.length cc, .slice da ds.length dc] 26))
  have y4 := (born_alloc (((W.alloc (.cells #[.func (.yield l) #[] #[]] 114)).alloc (.cells #[.int .i64 0] 3)).alloc (.cells #[.int .i64 0] 3)) #[.slice ca cs.length cc, .slice da ds.length dc] 26).toOwn
  rw [hW4] at y1 y2 y3 y4
  simp only [World.size_alloc] at y2 y3 y4
  rw [hW4]
  have HI4 : Hid (∀ W1, Keeps W4 W1 → W1.heap.size = W4.heap.size + 2 → LogJ (dat cs ds) W.heap.size l ca cc cs da dc ds u pv J 0 0 W1) := fun W1 hk1 hs1 => by
    have z1 := cell_at (y1.kept hk1).mem 0 (by simp)
    have z2 := cell_at (y2.kept hk1).mem 0 (by simp)
    have z3 := cell_at (y3.kept hk1).mem 0 (by simp)
    have z4 := cell_at (y4.kept hk1).mem 0 (by simp)
    have z5 := cell_at (y4.kept hk1).mem 1 (by simp)
    simp only [Nat.zero_add, List.getElem_cons_zero, List.getElem_cons_succ] at z1 z2 z3 z4 z5
    have hs := HS4.out
    exact ⟨Nat.le_refl _, fun j hj => absurd hj (by omega), fun i hi hi' => absurd hi' (by omega), z1, z2, (y2.kept hk1).free (W.heap.size + 1) (by simp [fp, fpS]) 0, z3, (y3.kept hk1).free (W.heap.size + 1 + 1) (by simp [fp, fpS]) 0,
      ⟨z4, z5, HM.out.kept (hk4.trans hk1), (hk4.trans hk1).cell HV.out⟩, by omega, H0.out W1 (hk4.trans hk1) (by omega)⟩
  clear hW4 y1 y2 y3 y4 c0 c1 b0 b1 hk3
  refine wp_range rfl (by omega) (gf := 90) (lb := #[.pointer (some ⟨W.heap.size + 1 + 1 + 1, 0, none⟩)]) rfl trivial (enters_of Tryz.func90 (by kernel_rfl) rfl) (fun W' => J (logN (dat cs ds)) W' ∨ Jx W') (fun c W' => c = .ret ∧ (J (logN (dat cs ds)) W' ∨ Jx W')) ?_ ?_ ?_
  · intro fn hfn W1 hk1 hs1 hr1
    generalize hR : recOf fn _ _ _ _ _ = R at hr1 ⊢
    refine (all_in (n - 1) (W4.heap.size + 1) (W.heap.size + 1 + 1 + 1) ca cc cs da dc ds u pv (fun k W' => (∃ j, LogJ (dat cs ds) W.heap.size l ca cc cs da dc ds u pv J j k W') ∧ RL R W4.heap.size .ready none W') (fun W' => (J (logN (dat cs ds)) W' ∨ Jx W') ∧ RL R W4.heap.size .done (some .ret) W') HD.out ?_ ?_ ?_ ?_ W1 ⟨⟨0, HI4.out W1 hk1 hs1⟩, hr1⟩).mono ?_
    · rintro k W' ⟨⟨j, h⟩, _⟩
      exact h.at_
    · rintro k W' W'' ⟨⟨j, h⟩, h'⟩ hk
      exact ⟨⟨j, h.later HA.out hk⟩, h'.kept hk⟩
    · rintro k W' _ ⟨⟨j, h⟩, h'⟩ hB
      exact ⟨⟨j, Nat.le_succ_of_le h.le, h.fit, fun i hi hi' => (by
        by_cases e : i = k
        · subst e; exact hB
        · exact h.gap i hi (by omega)), h.yld, h.next, h.nfree, h.ep, h.efree, h.at_, h.size, h.out⟩, h'⟩
    · rintro k Wa Wb a c hkl ⟨⟨j, h⟩, h'⟩ hB hac hb hk
      have h2 := h.later HA.out hk
      have hr2 := h'.kept hk
      subst hR
      refine YieldAt.mono (yield_round (G := fun W' => ∃ j, LogJ (dat cs ds) W.heap.size l ca cc cs da dc ds u pv J j (k + 1) W') (Gx := fun c W' => c = .ret ∧ (J (logN (dat cs ds)) W' ∨ Jx W')) hfn hr2 rfl ?_) ?_
      · generalize recOf fn _ _ _ _ _ = R at hr2 ⊢
        gi_wp2
        have hka := Keeps.alloc (Keeps.refl Wb) (.cells #[.int .i64 (srQ (readL (dat cs ds) k)), .int .i64 (srE (readL (dat cs ds) k)), .slice a (srL (readL (dat cs ds) k)).length c] 72)
        have hbo := (born_alloc Wb #[.int .i64 (srQ (readL (dat cs ds) k)), .int .i64 (srE (readL (dat cs ds) k)), .slice a (srL (readL (dat cs ds) k)).length c] 72).toOwn
        generalize Wb.alloc (.cells #[.int .i64 (srQ (readL (dat cs ds) k)), .int .i64 (srE (readL (dat cs ds) k)), .slice a (srL (readL (dat cs ds) k)).length c] 72) = W2 at *
        refine ⟨hr2.kept hka, fun W3 ht hr3 => ?_⟩
        have hl2 := hr2.lt
        have hb3 := hbo.turn ht (fun x hx hy => by simp [fp, fpS] at hx hy; have := HS4.out; omega)
        have hsb : Wb.heap.size < W3.heap.size := hb3.mem.lt Wb.heap.size (by simp [fp, fpS])
        have hSz := Nat.le_trans h.size hk.size
        rw [HS4.out] at ht
        have h3 := (h2.later HA.out hka).turnR HA.out ht hlt hgl
        have s0 := cell_at hb3.mem 0 (by simp)
        have s1 := cell_at hb3.mem 1 (by simp)
        have s2 := cell_at hb3.mem 2 (by simp)
        simp only [Nat.zero_add, List.getElem_cons_zero, List.getElem_cons_succ] at s0 s1 s2
        have n0 := h3.next
        have n1 := h3.nfree
        have e0 := h3.ep
        have e1 := h3.efree
        have yl := h3.yld
        have HI := hide h3
        have HR3 := hide hr3
        have HB3 := hide hb3
        by_cases hjk : k = j
        · subst hjk
          by_cases hq : srQ (readL (dat cs ds) k) = k
          · by_cases he : srE (readL (dat cs ds) k) < lastE (dat cs ds) k
            · have hnf : fitB (dat cs ds) k = false := by unfold fitB; rw [decide_eq_false (p := lastE (dat cs ds) k ≤ srE (readL (dat cs ds) k)) (by omega), Bool.and_false]
              clear h h2 h' hr2 hka hbo ht h3 hr3 hb3 hl2 hb
              gi_wp2
              refine ⟨fun _ h => (by cases h), ?_⟩
              gi_wp2
              refine ⟨HR3.out, fun W5 ht5 => ⟨rfl, .inl ?_⟩⟩
              rw [HS4.out] at ht5
              refine ((HI.out.turnR HA.out ht5 hlt hgl).stop (by rw [HML.out]; omega) ?_)
              exact fun _ => .inr hnf
            · have hfit : fitB (dat cs ds) k = true := by unfold fitB; rw [hB, decide_eq_true hq, decide_eq_true (by omega)]; rfl
              have htt : Turn (lown W.heap.size) Wa W3 := ((Turn.of_keeps (hk.trans hka) _).trans' (ht.mono (by simp)))
              obtain ⟨fn2, tmps2, assign2, body2, hy, hR2⟩ := HY.out k Wa W3 a c (n - 1 - 1 - 1) hkl h.fit hfit h.out htt h.size hac ((hb.kept hka).turn ht (fun x hx hy => by have := hb.new x hx; have := h.size; simp at hy; omega))
              have hSa := hk.size
              rw [hq] at hy
              have hfitk := h.fit
              clear h h2 h' hr2 hka hbo ht h3 hr3 hb3 hl2 hb htt
              gi_wp2
              refine ⟨nofun, RoundIn.mono hR2 ?_⟩
              rintro e W5 ⟨he5, gs, hgs, ht5⟩
              have hsa := HI.out.size
              have HR5 := hide (HR3.out.turn ht5 (fun hx => by have := hgs _ hx; have := HS4.out; omega) (fun hx => by have := hgs _ hx; have := HS4.out; omega))
              rcases he5 with ⟨rfl, hJ5⟩ | ⟨rfl, hx5⟩
              · obtain ⟨yl5, n5, n51, e5, e51, hs5⟩ := HI.out.round ht5 (fun b hb => (hgs b hb).2)
                have s15 := ht5.cell (p := ⟨Wb.heap.size, 1, none⟩) (fun hx => by have := (hgs _ hx).1; dsimp only at this; omega) s1
                have HAt : Hid (AllAt (W.heap.size + 1 + 1 + 1) ca cc cs da dc ds u pv W5) :=
                  ⟨ht5.cell (fun hx => by have := hgs _ hx; dsimp only at this; omega) HI.out.at_.1, ht5.cell (fun hx => by have := hgs _ hx; dsimp only at this; omega) HI.out.at_.2.1, HJ.out _ _ hJ5⟩
                have HJ5 := hide hJ5
                have hsb5 : Wb.heap.size < W5.heap.size := Nat.lt_of_lt_of_le hsb ht5.size
                have hmx : Tryz.prog.follows .mixedOrders = true := by kernel_rfl
                have HLJ : Hid (∀ W6, Turn [W.heap.size + 1, W.heap.size + 1 + 1] W5 W6 → W6.cell? ⟨W.heap.size + 1, 0, none⟩ = some (.int .i64 ((k + 1 : Nat) : Int)) → W6.frozen? ⟨W.heap.size + 1, 0, none⟩ = false → W6.cell? ⟨W.heap.size + 1 + 1, 0, none⟩ = some (.int .i64 (srE (readL (dat cs ds) k))) → W6.frozen? ⟨W.heap.size + 1 + 1, 0, none⟩ = false → LogJ (dat cs ds) W.heap.size l ca cc cs da dc ds u pv J (k + 1) (k + 1) W6) := fun W6 ht6 q1 q2 q3 q4 =>
                  ⟨Nat.le_refl _, fitTo_succ hfitk hfit, fun i hi hi' => absurd hi' (by omega), ht6.cell (by simp <;> omega) yl5, q1, q2, q3, q4, HAt.out.turn ht6 (by simp <;> omega) (fun x hx hy => by have := hlt x hx; simp at hy; omega) (by simp <;> omega), Nat.le_trans hs5 ht6.size, HA.out _ _ _ HJ5.out (ht6.mono (by simp))⟩
                clear hy hR2 hJ5 hgs ht5 s0 s1 s2 n0 n1 e0 e1 yl
                gi_wp2
                gi_region_with_o (fail)
                all_goals gi_wp2
                all_goals
                  have hw : IntKind.i64.wrap ((k : Int) + 1) = ((k + 1 : Nat) : Int) := by
                    have := HD.out.c
                    simp [IntKind.wrap, IntKind.bits, IntKind.signed]
                    omega
                  have T : Turn [W.heap.size + 1, W.heap.size + 1 + 1] W5 ((W5.setCell ⟨W.heap.size + 1, 0, none⟩ (.int .i64 (IntKind.i64.wrap ((k : Int) + 1)))).setCell ⟨W.heap.size + 1 + 1, 0, none⟩ (.int .i64 (srE (readL (dat cs ds) k)))).drew :=
                    ((Turn.set (by simp) _).trans' (Turn.set (by simp) _)).trans' (Turn.of_keeps ((Keeps.refl _).drew) _)
                  refine ⟨HR5.out.turn T (by have := HS4.out; simp <;> omega) (by have := HS4.out; simp <;> omega), fun W6 ht6 => ⟨k + 1, ?_⟩⟩
                  rw [HS4.out] at ht6
                  refine (HLJ.out _ T ?_ ?_ ?_ ?_).turnR HA.out ht6 hlt hgl
                  · show World.cell? (World.setCell _ _ _) _ = _
                    rw [World.cell?_setCell_other _ _ _ _ (by simp), World.cell?_setCell_same _ _ _ n5, hw]
                  · show World.frozen? (World.setCell _ _ _) _ = _
                    rw [World.frozen?_setCell, World.frozen?_setCell]
                    exact n51
                  · show World.cell? (World.setCell _ _ _) _ = _
                    exact World.cell?_setCell_same _ _ _ (by rw [World.cell?_setCell_other _ _ _ _ (by simp)]; exact e5)
                  · show World.frozen? (World.setCell _ _ _) _ = _
                    rw [World.frozen?_setCell, World.frozen?_setCell]
                    exact e51
              · clear hy hR2 s0 s1 s2 n0 n1 e0 e1 yl
                gi_wp2
                refine ⟨HR5.out, fun W6 ht6 => ⟨rfl, .inr ?_⟩⟩
                rw [HS4.out] at ht6
                exact HX.out _ _ hx5 (ht6.mono (by simp))
          · have hnf : fitB (dat cs ds) k = false := by unfold fitB; rw [decide_eq_false hq, Bool.and_false, Bool.false_and]
            clear h h2 h' hr2 hka hbo ht h3 hr3 hb3 hl2 hb
            gi_wp2
            refine ⟨fun _ h => (by cases h), ?_⟩
            gi_wp2
            refine ⟨HR3.out, fun W5 ht5 => ⟨rfl, .inl ?_⟩⟩
            rw [HS4.out] at ht5
            refine ((HI.out.turnR HA.out ht5 hlt hgl).stop (by rw [HML.out]; omega) ?_)
            exact fun _ => .inr hnf
        · have hjk' : ¬ ((k : Int) = (j : Int)) := by omega
          clear h h2 h' hr2 hka hbo ht h3 hr3 hb3 hl2 hb
          gi_wp2
          refine ⟨fun _ h => (by cases h), ?_⟩
          gi_wp2
          refine ⟨HR3.out, fun W5 ht5 => ⟨rfl, .inl ?_⟩⟩
          rw [HS4.out] at ht5
          refine ((HI.out.turnR HA.out ht5 hlt hgl).stop (by rw [HML.out]; omega) ?_)
          exact fun e => absurd e.symm hjk
      · rintro e W'' (⟨he, hg, hr⟩ | ⟨he, c, ⟨rfl, hj⟩, hr⟩)
        · exact .inl ⟨he, hg, hr⟩
        · exact .inr ⟨he, hj, hr⟩
    · rintro e W2 ⟨hv, (⟨⟨j, h⟩, h'⟩ | ⟨hj, hr⟩)⟩
      · exact ⟨hv, .inl ⟨.inl (h.stop (by rw [HML.out]; exact Nat.le_refl _) (fun _ => .inl HML.out.symm)), h'⟩⟩
      · exact ⟨hv, .inr ⟨.ret, ⟨rfl, hj⟩, hr⟩⟩
  · intro W1 W2 hG ht hK
    rw [HS4.out] at ht
    have HG := hide hG
    have HT := hide ht
    clear hG ht
    gi_wp2
    refine ⟨by simp, .inl ⟨_, _, rfl, run_takeDeferred hK, ?_⟩⟩
    refine ⟨_, results_none rfl _ _ _, ⟨_, rfl⟩, W1, HG.out, ?_⟩
    have hp := turn_putObj W2 W4.heap.size (.deferred none)
    rw [HS4.out] at hp ⊢
    exact (HT.out.mono (by simp)).trans' (hp.mono (by simp))
  · rintro c W1 W2 ⟨rfl, hG⟩ ht hK
    rw [HS4.out] at ht
    have HG := hide hG
    have HT := hide ht
    clear hG ht
    gi_wp2
    refine ⟨by simp, .inl ⟨_, _, rfl, run_takeDeferred hK, ?_⟩⟩
    refine ⟨_, results_none rfl _ _ _, ⟨_, rfl⟩, W1, HG.out, ?_⟩
    have hp := turn_putObj W2 W4.heap.size (.deferred none)
    rw [HS4.out] at hp ⊢
    exact (HT.out.mono (by simp)).trans' (hp.mono (by simp))
end Go.Proofs.YtkdnddckogbgaaaGreatDoor
namespace Go.Proofs.YtkdnddckogbgaaaGreatDoor
open Go.RowKit Go.Deep Go.Shelf
set_option linter.unusedVariables false
set_option maxRecDepth 10000
attribute [local go_sem] Oper.semAt_some

theorem wpListIn_append_run {F : Fence} {n : Nat} {P : Program} (w : World) {ops : Array Oper} {rest : List Oper} {o : Oper} {a : Act} {Q : Exit → Act → World → Prop}
    (hg : o.guard = none) (s x : Operand) (t : TypeId) (hop : o.op = Op.call { callee := Callee.builtin Builtin.append, args := #[s, x], argTypes := #[t, t] }) (vs vx : Value) (hs : a.eval s = vs) (hx : a.eval x = vx)
    (v' : Value) (w' : World) (hrun : (Builtin.append_ #[t, t] o.type #[vs, vx]).run P w = .ok v' w') (hK : wpListIn F n P ops Q rest (a.put o.dst v') w') : wpListIn F n P ops Q (o :: rest) a w := by
  refine wpListIn_plain hg fun K hK' => ?_
  unfold Oper.wpIn
  refine ⟨?_, ?_⟩
  · simp [Oper.about, hop, resolve, Target.leads, Sem.run_pure]
  · rw [Oper.semAt_plain F _ _ (by rw [hop]; intro c hc'; cases hc')]
    simp [execOp, hop, resolve, invoke, builtin, hs, hx, hrun, Result.andThen]
    exact hK' _ _ hK
/-- Between two rounds of LogRead, k sectors read; lo: where the iterator's own blocks begin. -/
structure RdI (w : World) (lo : Nat) (ca : Option Addr) (cc : Nat) (cs : List Bs) (da : Option Addr) (dc : Nat) (ds : List Wr) (u : TypeId) (pv : Value) (k : Nat) (W : World) (v : Value) (nb : List Sc) : Prop where
  mem : Mem W (dsk ca cs da ds)
  err : W.cell? ⟨0, 0, none⟩ = some (.iface u pv)
  box : W.cell? ⟨w.heap.size + 1, 0, none⟩ = some v
  free : W.frozen? ⟨w.heap.size + 1, 0, none⟩ = false
  list : LB 72 3 Sc.cells Sc.seg (lo + 6) W v nb
  key : nb.map Sc.key = secsTo (dat cs ds) k
  kept : Keeps w W
section
variable {w : World} {lo : Nat} {ca : Option Addr} {cc : Nat} {cs : List Bs} {da : Option Addr} {dc : Nat} {ds : List Wr} {u : TypeId} {pv : Value} {k : Nat} {W W' : World} {v : Value} {nb : List Sc}
theorem RdI.turn (h : RdI w lo ca cc cs da dc ds u pv k W v nb) {fs : List Nat} (ht : Turn fs W W') (hf : ∀ b ∈ fs, b < lo + 6) (hw : ∀ b ∈ fs, w.heap.size ≤ b) (h1 : w.heap.size + 1 ∉ fs) (h2 : ∀ x ∈ fp (dsk ca cs da ds), x < w.heap.size) (h3 : 0 < w.heap.size) : RdI w lo ca cc cs da dc ds u pv k W' v nb :=
  ⟨h.mem.turn ht (fun x hx hy => by have := h2 x hx; have := hw x hy; omega), ht.cell (fun hy => by have := hw _ hy; dsimp only at this; omega) h.err, ht.cell h1 h.box, by rw [← h.free]; exact World.frozen?_of_block (ht.block _ (lt_of_cell h.box) h1), h.list.turn ht hf, h.key, ht.keeps h.kept hw⟩
theorem RdI.later (h : RdI w lo ca cc cs da dc ds u pv k W v nb) (hk : Keeps W W') : RdI w lo ca cc cs da dc ds u pv k W' v nb :=
  ⟨h.mem.kept hk, hk.cell h.err, hk.cell h.box, by rw [hk.oldF _ _ (lt_of_cell h.box)]; exact h.free, h.list.kept hk, h.key, h.kept.trans hk⟩
theorem RdI.len (h : RdI w lo ca cc cs da dc ds u pv k W v nb) : nb.length = k := by
  have := congrArg List.length h.key
  simpa [secsTo_len] using this
end
set_option maxHeartbeats 8000000 in
theorem logread_impl (ca : Option Addr) (cc : Nat) (cs : List Bs) (da : Option Addr) (dc : Nat) (ds : List Wr) (w : World) (u : TypeId) (pv : Value) (hv : w.cell? ⟨0, 0, none⟩ = some (.iface u pv)) (hm : Mem w (dsk ca cs da ds)) (h : DOk cs ds) :
    Calls Tryz.prog 11 #[dskV ca cs.length cc da ds.length dc] w (LrPost w (dat cs ds)) := by
  obtain ⟨n, hn⟩ : ∃ n, 19 ≤ n := ⟨19, Nat.le_refl _⟩
  refine (callsIn_wide (n := n)).1 ?_
  refine callsIn_of_wp_marks Tryz.func11 rfl trivial ?_ rfl
  simp only [Tryz.ntmps11, List.size_toArray, List.length_cons, List.length_nil, Nat.reduceAdd, Nat.reduceSub, Array.replicate_succ, Array.replicate_zero, List.push_toArray, List.append_toArray, List.nil_append, List.cons_append]
  have HV := hide hv
  have HM := hide hm
  have HD := hide h
  have hcl := h.c
  have hlt := hm.lt
  have hgl := lt_of_cell hv
  clear hv hm h
  gi_wp2
  refine ⟨trivial, nofun, (callsIn_wide.2 (log_make ca cc cs da dc ds _)).mono ?_⟩
  rintro e w1 ⟨rfl, rfl⟩
  gi_wp2
  obtain ⟨W0, hW0⟩ : ∃ W0, ((w.alloc (.cells #[.slice ca cs.length cc, .slice da ds.length dc] 26)).alloc (.cells #[.slice none 0 0] 35)).alloc (.cells #[.slice ca cs.length cc, .slice da ds.length dc] 26) = W0 := ⟨_, rfl⟩
  have HS0 : Hid (W0.heap.size = w.heap.size + 3) := by show _ = _; rw [← hW0]; simp
  have hk0 : Keeps w W0 := by rw [← hW0]; exact ((Keeps.refl w).alloc _).alloc _ |>.alloc _
  have hbx := (born_alloc ((w.alloc (.cells #[.slice ca cs.length cc, .slice da ds.length dc] 26)).alloc (.cells #[.slice none 0 0] 35)) #[.slice ca cs.length cc, .slice da ds.length dc] 26).toOwn
  have htb := (born_alloc (w.alloc (.cells #[.slice ca cs.length cc, .slice da ds.length dc] 26)) #[.slice none 0 0] 35).toOwn.kept (Keeps.alloc (Keeps.refl _) (.cells #[.slice ca cs.length cc, .slice da ds.length dc] 26))
  rw [hW0] at hbx htb
  simp only [World.size_alloc] at hbx htb
  rw [hW0]
  have cb0 := cell_at hbx.mem 0 (by simp)
  have cb1 := cell_at hbx.mem 1 (by simp)
  have ct0 := cell_at htb.mem 0 (by simp)
  have cf0 := htb.free (w.heap.size + 1) (by simp [fp, fpS]) 0
  simp only [Nat.zero_add, List.getElem_cons_zero, List.getElem_cons_succ] at cb0 cb1 ct0
  have HI0 : Hid (∀ W1, Keeps W0 W1 → w.heap.size + 5 + 6 ≤ W1.heap.size → RdI w (w.heap.size + 5) ca cc cs da dc ds u pv 0 W1 (.slice none 0 0) []) := fun W1 hk1 hs1 =>
    ⟨HM.out.kept (hk0.trans hk1), (hk0.trans hk1).cell HV.out, hk1.cell ct0, by rw [hk1.oldF _ _ (lt_of_cell ct0)]; exact cf0, LB.nil _ _ _ _ (by omega), rfl, hk0.trans hk1⟩
  have HA0 : Hid (AllAt (w.heap.size + 1 + 1) ca cc cs da dc ds u pv W0) := ⟨cb0, cb1, HM.out.kept hk0, hk0.cell HV.out⟩
  clear hW0 hbx htb cf0 cb0 cb1 ct0
  refine wp_range rfl (by omega) (gf := 80) (lb := #[.pointer (some ⟨w.heap.size + 1 + 1, 0, none⟩)]) rfl trivial (enters_of Tryz.func80 (by kernel_rfl) rfl) (fun W => ∃ v nb, RdI w (w.heap.size + 5) ca cc cs da dc ds u pv (logN (dat cs ds)) W v nb) (fun _ _ => False) ?_ ?_ ?_
  · intro fn hfn W1 hk1 hs1 hr1
    generalize hR : recOf fn _ _ _ _ _ = R at hr1 ⊢
    have hs1' : W1.heap.size = w.heap.size + 5 := by have := HS0.out; omega
    have hturn : ∀ k W2 W3, ((∃ v nb, RdI w (w.heap.size + 5) ca cc cs da dc ds u pv k W2 v nb) ∧ RL R W0.heap.size .ready none W2) → Turn (lown W1.heap.size) W2 W3 → ((∃ v nb, RdI w (w.heap.size + 5) ca cc cs da dc ds u pv k W3 v nb) ∧ RL R W0.heap.size .ready none W3) := by
      rintro k W2 W3 ⟨⟨v, nb, h⟩, h'⟩ ht
      rw [hs1'] at ht
      have hs := HS0.out
      exact ⟨⟨v, nb, h.turn ht (fun b hb => by simp at hb; omega) (fun b hb => by simp at hb; omega) (by simp <;> omega) hlt hgl⟩, h'.turn ht (by simp <;> omega) (by simp <;> omega)⟩
    refine (log_in (n - 1) (W0.heap.size + 1) (w.heap.size + 1 + 1) ca cc cs da dc ds u pv (fun k W => (∃ v nb, RdI w (w.heap.size + 5) ca cc cs da dc ds u pv k W v nb) ∧ RL R W0.heap.size .ready none W) (fun _ => False) HD.out (by omega) W1 (HA0.out.kept hk1) ?_ hturn ?_ ?_ ?_).mono ?_
    · rintro k W2 ⟨⟨v, nb, h⟩, _⟩
      exact ⟨h.mem, h.err⟩
    · intro W2 W3 hf
      exact hf.elim
    · intro W2 hk2 hs2
      exact ⟨⟨_, _, HI0.out W2 (hk1.trans hk2) (by omega)⟩, hr1.kept hk2⟩
    · rintro k W2 W3 a c n' hkl hfk hfit ⟨⟨v, nb, h⟩, h'⟩ ht hs2 hac hb
      obtain ⟨⟨v1, nb1, h2⟩, hr2⟩ := hturn k W2 W3 ⟨⟨v, nb, h⟩, h'⟩ ht
      have h2 : RdI w (w.heap.size + 5) ca cc cs da dc ds u pv k W3 v nb := by
        rw [hs1'] at ht
        exact h.turn ht (fun b hb => by simp at hb; omega) (fun b hb => by simp at hb; omega) (by simp <;> omega) hlt hgl
      rw [hs1'] at hs2 ht
      have hnl := h.len
      subst hR
      refine YieldAt.mono (yield_round (G := fun W' => (∃ v nb, RdI w (w.heap.size + 5) ca cc cs da dc ds u pv (k + 1) W' v nb) ∧ ∃ gs, (∀ b ∈ gs, b < W2.heap.size ∧ (b < w.heap.size + 5 ∨ w.heap.size + 5 + 6 ≤ b)) ∧ Turn gs W3 W') (Gx := fun _ _ => False) hfn hr2 rfl ?_) ?_
      · generalize recOf fn _ _ _ _ _ = R at hr2 ⊢
        gi_wp2
        have hka := Keeps.alloc (Keeps.refl W3) (.cells #[.int .i64 (srQ (readL (dat cs ds) k)), .int .i64 (srE (readL (dat cs ds) k)), .slice a (srL (readL (dat cs ds) k)).length c] 72)
        have hbo := (born_alloc W3 #[.int .i64 (srQ (readL (dat cs ds) k)), .int .i64 (srE (readL (dat cs ds) k)), .slice a (srL (readL (dat cs ds) k)).length c] 72).toOwn
        generalize W3.alloc (.cells #[.int .i64 (srQ (readL (dat cs ds) k)), .int .i64 (srE (readL (dat cs ds) k)), .slice a (srL (readL (dat cs ds) k)).length c] 72) = W4 at *
        refine ⟨hr2.kept hka, fun W5 ht5 hr5 => ?_⟩
        have hl2 := hr2.lt
        have hz := HS0.out
        have hb5 := hbo.turn ht5 (fun x hx hy => by simp [fp, fpS] at hx hy; omega)
        have h5 := (h2.later hka).turn ht5 (fun b hb => by simp at hb; omega) (fun b hb => by simp at hb; omega) (by simp <;> omega) hlt hgl
        have hT : Turn (lown (w.heap.size + 5) ++ [W0.heap.size + 1]) W2 W5 := (ht.trans (Turn.of_keeps hka [])).mono (by simp) |>.trans ht5
        have s0 := cell_at hb5.mem 0 (by simp)
        have s1 := cell_at hb5.mem 1 (by simp)
        have s2 := cell_at hb5.mem 2 (by simp)
        simp only [Nat.zero_add, List.getElem_cons_zero, List.getElem_cons_succ] at s0 s1 s2
        have t0 := h5.box
        have t1 := h5.free
        have hown := h5.list.row
        rw [hnl] at hown
        obtain ⟨v', w6, e6, hr6, hg6, hv6⟩ := run_sector W5 (w.heap.size + 5 + 6) v k _ (.int .i64 (srQ (readL (dat cs ds) k))) (.int .i64 (srE (readL (dat cs ds) k))) (.slice a (srL (readL (dat cs ds) k)).length c) rfl rfl rfl 35 hown (by omega) h5.list.size
        obtain ⟨g', cap', rfl⟩ := ownsRow_succ hr6
        have htv : Turn v.ownBlock.toList (W5.alloc (.cells #[.int .i64 (srQ (readL (dat cs ds) k)), .int .i64 (srE (readL (dat cs ds) k)), .slice a (srL (readL (dat cs ds) k)).length c] 72)) w6 := Turn.of_grown hg6 (fun k hk' => by rw [hk']; simp)
        have hvb : ∀ b ∈ v.ownBlock.toList, w.heap.size + 5 + 6 ≤ b ∧ b < W2.heap.size := fun b hb => h.list.row.lt b (by simpa using hb)
        have hkt := Keeps.alloc (Keeps.refl W5) (.cells #[.int .i64 (srQ (readL (dat cs ds) k)), .int .i64 (srE (readL (dat cs ds) k)), .slice a (srL (readL (dat cs ds) k)).length c] 72)
        have T6 : Turn v.ownBlock.toList W5 w6 := ((Turn.of_keeps hkt []).trans htv).mono (by simp)
        have b6 := T6.cell (p := ⟨w.heap.size + 1, 0, none⟩) (fun hx => by have := hvb _ hx; dsimp only at this; omega) t0
        have f6 : w6.frozen? ⟨w.heap.size + 1, 0, none⟩ = false := by rw [← t1]; exact World.frozen?_of_block (T6.block _ (lt_of_cell t0) (fun hx => by have := hvb _ hx; dsimp only at this; omega))
        have HL6 := hide (h.list.snoc (x := ⟨srQ (readL (dat cs ds) k), srE (readL (dat cs ds) k), ⟨a, c, srL (readL (dat cs ds) k)⟩⟩) hT (fun b hb => by simp at hb; omega) ((hb.kept hka).toOwn.turn ht5 (fun x hx hy => by have := hb.new x hx; simp at hy; omega)) (fun b hb' => hb.new b hb') hg6 (by rw [hnl]; exact hr6) hv6)
        have HR5 := hide hr5
        have H5 := hide h5
        have HT6 := hide T6
        have HT5 := hide ((Turn.of_keeps hka []).trans ht5)
        have HVB := hide hvb
        have hsz6 : W5.heap.size ≤ w6.heap.size := T6.size
        have HE6 := hide e6
        clear h h2 hr2 hka hbo ht5 hr5 h5 hT hown hr6 hg6 hv6 htv hvb hkt T6 hb hb5 hl2 ht e6
        gi_wp2_with (gi_at_builtin; refine wpListIn_append_run _ rfl (.tmp 9) (.tmp 11) 35 rfl _ _ rfl rfl _ _ HE6.out ?_)
        have T : Turn (v.ownBlock.toList ++ [w.heap.size + 1]) W5 (w6.setCell ⟨w.heap.size + 1, 0, none⟩ (.slice (some ⟨g', 0, none⟩) (k + 1) cap')) := HT6.out.trans (Turn.set (by simp) _)
        have hT1 : ∀ b ∈ v.ownBlock.toList ++ [w.heap.size + 1], (w.heap.size + 5 + 6 ≤ b ∧ b < W2.heap.size) ∨ b = w.heap.size + 1 := fun b hb => by
          rcases List.mem_append.1 hb with hb | hb
          · exact .inl (HVB.out b hb)
          · exact .inr (by simpa using hb)
        refine ⟨HR5.out.turn T (fun hx => by have := hT1 _ hx; omega) (fun hx => by have := hT1 _ hx; omega), fun W7 ht7 => ⟨?_, [W0.heap.size + 1] ++ (v.ownBlock.toList ++ [w.heap.size + 1]), ?_, ?_⟩⟩
        · have h8 : RdI w (w.heap.size + 5) ca cc cs da dc ds u pv (k + 1) (w6.setCell ⟨w.heap.size + 1, 0, none⟩ (.slice (some ⟨g', 0, none⟩) (k + 1) cap')) (.slice (some ⟨g', 0, none⟩) (k + 1) cap') (nb ++ [⟨srQ (readL (dat cs ds) k), srE (readL (dat cs ds) k), ⟨a, c, srL (readL (dat cs ds) k)⟩⟩]) :=
            ⟨H5.out.mem.turn T (fun x hx hy => by have := hlt x hx; have := hT1 x hy; omega), T.cell (fun hy => by have := hT1 _ hy; dsimp only at this; omega) H5.out.err, World.cell?_setCell_same _ _ _ b6, by rw [World.frozen?_setCell]; exact f6,
             HL6.out.turn (Turn.set (fs := [w.heap.size + 1]) (by simp) _) (fun b hb => by simp at hb; omega), by rw [List.map_append, H5.out.key, secsTo_succ]; rfl, T.keeps H5.out.kept (fun b hb => by have := hT1 b hb; omega)⟩
          exact ⟨_, _, h8.turn ht7 (fun b hb => by simp at hb; omega) (fun b hb => by simp at hb; omega) (by simp <;> omega) hlt hgl⟩
        · intro b hb
          rcases List.mem_append.1 hb with hb | hb
          · have : b = W0.heap.size + 1 := by simpa using hb
            omega
          · have := hT1 b hb
            omega
        · exact (((HT5.out.mono (gs := [W0.heap.size + 1]) (by simp)).trans T).trans ht7).mono (fun x hx => by rcases List.mem_append.1 hx with hx | hx; exact hx; exact List.mem_append_left _ hx)
      · rintro e W'' (⟨he, hg, hr⟩ | ⟨_, _, hf, _⟩)
        · refine ⟨.inl ⟨he, hg.1, hr⟩, ?_⟩
          obtain ⟨gs, h1, h2⟩ := hg.2
          exact ⟨gs, fun b hb => by have := h1 b hb; omega, h2⟩
        · exact hf.elim
    · rintro e W2 ⟨hv, W3, (⟨⟨v, nb, h⟩, h'⟩ | hf), ht⟩
      · have hz := HS0.out
        rw [hs1'] at ht
        exact ⟨hv, .inl ⟨⟨v, nb, h.turn ht (fun b hb => by simp at hb; omega) (fun b hb => by simp at hb; omega) (by simp <;> omega) hlt hgl⟩, h'.turn ht (by simp <;> omega) (by simp <;> omega)⟩⟩
      · exact hf.elim
  · rintro W W' ⟨v, nb, hG⟩ ht hK
    have hz := HS0.out
    have h2 := hG.turn ht (fun b hb => by simp at hb; omega) (fun b hb => by simp at hb; omega) (by simp <;> omega) hlt hgl
    obtain ⟨a, cap, rfl, hna, ho, hnew⟩ := h2.list.born
    have hnl := h2.len
    have HNL := hide hnl
    have t0 := h2.box
    have HI := hide h2
    have HO := hide ho
    have HN := hide hnew
    clear h2 ho hnew hG ht hnl
    have hmx : Tryz.prog.follows .mixedOrders = true := by kernel_rfl
    gi_wp2
    refine wpIn_wide.2 ?_
    go_region_held3 (fun w' => w'.cell? ⟨w.heap.size + 1, 0, none⟩ = some (.slice a nb.length cap)) (go_keep) (fail)
    gi_wp2
    refine ⟨by simp, .inl ⟨_, _, rfl, run_takeDeferred (w := W'.drew) hK, ?_⟩⟩
    have T : Turn [W0.heap.size] W' (W'.drew.putObj W0.heap.size (.deferred none)) := ((Turn.of_keeps ((Keeps.refl W').drew) []).trans (turn_putObj _ _ _)).mono (by simp)
    refine ⟨.tuple #[.slice a nb.length cap, .int .i64 (nb.length : Nat)], by simp [results, Tryz.results11, go_sem], a, cap, nb, by rw [HNL.out], HI.out.key, hna, ⟨?_, ?_⟩, ?_⟩
    · exact HO.out.turn T (fun b hb hx => by have := HN.out b hb; simp at hx; omega)
    · intro b hb
      have := HN.out b hb
      omega
    · exact T.keeps HI.out.kept (fun b hb => by simp at hb; omega)
  · intro c W W' hf
    exact hf.elim
end Go.Proofs.YtkdnddckogbgaaaGreatDoor
