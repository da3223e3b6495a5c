/- The sectors of the log: the iterator's contract. -/
import Derived.Test.YtmkhlhjggbencaaGreatDoorCLogOpen12
import Derived.Lib.SlBytesConst
namespace Go.Proofs.YtmkhlhjggbencaaGreatDoor
open Go.RowKit Go.Deep Go.Shelf
set_option linter.unusedVariables false
set_option maxRecDepth 10000
attribute [local go_sem] Oper.semAt_some

theorem log_make (ca : Option Addr) (cc : Nat) (cs : List Bs) (da : Option Addr) (dc : Nat) (ds : List Wr) (w : World) :
    Calls Tryz.prog 43 #[dskV ca cs.length cc da ds.length dc] w fun e w' => e = .returned (.func (.func 80) #[] #[.pointer (some ⟨w.heap.size, 0, none⟩)]) ∧ w' = w.alloc (.cells #[.slice ca cs.length cc, .slice da ds.length dc] 26) := by
  have hmf : ∀ (fn : Fn) (first cap : Array Value) (w : World), (Instr.makeFunc fn first cap).run Tryz.prog w = .ok (.func fn first cap) w := fun _ _ _ _ => rfl
  go_enter Tryz.func43, Tryz.ntmps43
  go_wp2_with fail
  go_ret
  exact ⟨rfl, rfl⟩
/-- The blocks that the iterator itself turns: the next number, the epoch, its own loop's two. -/
abbrev lown (lo : Nat) : List Nat := [lo + 1, lo + 1 + 1, lo + 4, lo + 4 + 1]
/-- Between two rounds of the iterator's own loop: j sectors have been told, cell k comes next. -/
structure LogJ (m : DkM) (lo l : Nat) (ca : Option Addr) (cc : Nat) (cs : List Bs) (da : Option Addr) (dc : Nat) (ds : List Wr) (u : TypeId) (pv : Value) (J : Nat → World → Prop) (j k : Nat) (W : World) : Prop where
  le : j ≤ k
  fit : fitTo m j
  gap : ∀ i, j ≤ i → i < k → srB (readL m i) = false
  yld : W.cell? ⟨lo, 0, none⟩ = some (.func (.yield l) #[] #[])
  next : W.cell? ⟨lo + 1, 0, none⟩ = some (.int .i64 (j : Nat))
  nfree : W.frozen? ⟨lo + 1, 0, none⟩ = false
  ep : W.cell? ⟨lo + 1 + 1, 0, none⟩ = some (.int .i64 (lastE m j))
  efree : W.frozen? ⟨lo + 1 + 1, 0, none⟩ = false
  at_ : AllAt (lo + 1 + 1 + 1) ca cc cs da dc ds u pv W
  size : lo + 6 ≤ W.heap.size
  out : J j W
section
variable {m : DkM} {lo l : Nat} {ca : Option Addr} {cc : Nat} {cs : List Bs} {da : Option Addr} {dc : Nat} {ds : List Wr} {u : TypeId} {pv : Value} {J : Nat → World → Prop} {j k : Nat} {W W' : World}
theorem LogJ.later (hA : ∀ k W1 W2, J k W1 → Turn (lown lo) W1 W2 → J k W2) (h : LogJ m lo l ca cc cs da dc ds u pv J j k W) (ht : Keeps W W') : LogJ m lo l ca cc cs da dc ds u pv J j k W' :=
  have hs := h.size
  ⟨h.le, h.fit, h.gap, ht.cell h.yld, ht.cell h.next, by rw [ht.oldF _ _ (by omega)]; exact h.nfree, ht.cell h.ep, by rw [ht.oldF _ _ (by omega)]; exact h.efree, h.at_.kept ht, Nat.le_trans h.size ht.size, hA _ _ _ h.out (Turn.of_keeps ht _)⟩
/-- The record of the iterator's own loop turns. -/
theorem LogJ.turnR (hA : ∀ k W1 W2, J k W1 → Turn (lown lo) W1 W2 → J k W2) (h : LogJ m lo l ca cc cs da dc ds u pv J j k W) (ht : Turn [lo + 4 + 1] W W') (h2 : ∀ x ∈ fp (dsk ca cs da ds), x < lo) (h3 : 0 < lo) : LogJ m lo l ca cc cs da dc ds u pv J j k W' :=
  have hs := h.size
  ⟨h.le, h.fit, h.gap, ht.cell (by simp <;> omega) h.yld, ht.cell (by simp <;> omega) h.next, by rw [← h.nfree]; exact World.frozen?_of_block (ht.block _ (by show lo + 1 < _; omega) (by simp <;> omega)), ht.cell (by simp <;> omega) h.ep, by rw [← h.efree]; exact World.frozen?_of_block (ht.block _ (by show lo + 1 + 1 < _; omega) (by simp <;> omega)),
   h.at_.turn ht (by simp <;> omega) (fun x hx hy => by have := h2 x hx; simp at hy; omega) (by simp <;> omega), Nat.le_trans h.size ht.size, hA _ _ _ h.out (ht.mono (by simp))⟩
/-- What the round of the one that ranges over the log kept. -/
theorem LogJ.round {gs : List Nat} (h : LogJ m lo l ca cc cs da dc ds u pv J j k W) (ht : Turn gs W W') (hg : ∀ b ∈ gs, b < lo ∨ lo + 6 ≤ b) :
    W'.cell? ⟨lo, 0, none⟩ = some (.func (.yield l) #[] #[]) ∧ W'.cell? ⟨lo + 1, 0, none⟩ = some (.int .i64 (j : Nat)) ∧ W'.frozen? ⟨lo + 1, 0, none⟩ = false ∧ W'.cell? ⟨lo + 1 + 1, 0, none⟩ = some (.int .i64 (lastE m j)) ∧ W'.frozen? ⟨lo + 1 + 1, 0, none⟩ = false ∧ lo + 6 ≤ W'.heap.size :=
  have hs := h.size
  ⟨ht.cell (fun hx => by have := hg _ hx; dsimp only at this; omega) h.yld, ht.cell (fun hx => by have := hg _ hx; dsimp only at this; omega) h.next,
   by rw [← h.nfree]; exact World.frozen?_of_block (ht.block _ (by show lo + 1 < _; omega) (fun hx => by have := hg _ hx; dsimp only at this; omega)),
   ht.cell (fun hx => by have := hg _ hx; dsimp only at this; omega) h.ep,
   by rw [← h.efree]; exact World.frozen?_of_block (ht.block _ (by show lo + 1 + 1 < _; omega) (fun hx => by have := hg _ hx; dsimp only at this; omega)), Nat.le_trans h.size ht.size⟩
end
theorem LogJ.stop {m : DkM} {lo l : Nat} {ca : Option Addr} {cc : Nat} {cs : List Bs} {da : Option Addr} {dc : Nat} {ds : List Wr} {u : TypeId} {pv : Value} {J : Nat → World → Prop} {j k : Nat} {W : World} (h : LogJ m lo l ca cc cs da dc ds u pv J j k W) (hk : k ≤ m.cells.length) (hn : j = k → k = m.cells.length ∨ fitB m k = false) : J (logN m) W := by
  have e : logN m = j := by
    by_cases e : j = k
    · subst e
      rcases hn rfl with h1 | h1
      · unfold logN; rw [← h1]; exact logTo_all h.fit
      · exact logTo_stop h.fit h1 hk
    · have h1 := h.gap j (Nat.le_refl _) (by have := h.le; omega)
      exact logTo_stop h.fit (by simp [fitB, h1]) (by have := h.le; omega)
  rw [e]
  exact h.out
set_option maxHeartbeats 8000000 in
theorem log_in (n l Bx : Nat) (ca : Option Addr) (cc : Nat) (cs : List Bs) (da : Option Addr) (dc : Nat) (ds : List Wr) (u : TypeId) (pv : Value) (J : Nat → World → Prop) (Jx : World → Prop) (hd : DOk cs ds) (hn : 9 ≤ n) (W : World)
    (hat : AllAt Bx ca cc cs da dc ds u pv W)
    (hJ : ∀ k W1, J k W1 → Mem W1 (dsk ca cs da ds) ∧ W1.cell? ⟨0, 0, none⟩ = some (.iface u pv))
    (hA : ∀ k W1 W2, J k W1 → Turn (lown W.heap.size) W1 W2 → J k W2)
    (hX : ∀ W1 W2, Jx W1 → Turn (lown W.heap.size) W1 W2 → Jx W2)
    (h0 : ∀ W1, Keeps W W1 → W.heap.size + 6 ≤ W1.heap.size → J 0 W1)
    (hY : ∀ k W1 W2 a c n', k < cs.length → fitTo (dat cs ds) k → fitB (dat cs ds) k = true → J k W1 → Turn (lown W.heap.size) W1 W2 → W.heap.size + 6 ≤ W1.heap.size → CapB a c (srL (readL (dat cs ds) k)).length → Born W1 W2 [(a, bys (srL (readL (dat cs ds) k)))] →
      YieldAt Fence.wide n' Tryz.prog l #[secV (srQ (readL (dat cs ds) k)) (srE (readL (dat cs ds) k)) a (srL (readL (dat cs ds) k)).length c] W2 fun e W3 =>
        ((e = .returned (.bool true) ∧ J (k + 1) W3) ∨ (e = .returned (.bool false) ∧ Jx W3)) ∧ ∃ gs, (∀ b ∈ gs, b < W1.heap.size ∧ (b < W.heap.size ∨ W.heap.size + 6 ≤ b)) ∧ Turn gs W2 W3) :
    CallsIn Fence.wide n Tryz.prog 80 #[.func (.yield l) #[] #[], .pointer (some ⟨Bx, 0, none⟩)] W fun e W' => (∃ v, e = .returned v) ∧ ∃ W1, (J (logN (dat cs ds)) W1 ∨ Jx W1) ∧ Turn [W.heap.size + 4, W.heap.size + 4 + 1] W1 W' := by
  have hmlen : (dat cs ds).cells.length = cs.length := by simp [dat]
  have hlt := hat.2.2.1.lt
  have hgl := lt_of_cell hat.2.2.2
  refine callsIn_of_wp_marks Tryz.func80 rfl trivial ?_ rfl
  simp only [Tryz.ntmps80, List.size_toArray, List.length_cons, List.length_nil, Nat.reduceAdd, Nat.reduceSub, Array.replicate_succ, Array.replicate_zero, List.push_toArray, List.append_toArray, List.nil_append, List.cons_append]
  have HJ := hide hJ
  have HA := hide hA
  have HY := hide hY
  have HX := hide hX
  have HD := hide hd
  have H0 := hide h0
  have HML := hide hmlen
  obtain ⟨b0, b1, hm, hv⟩ := hat
  have HM := hide hm
  have HV := hide hv
  clear hJ hA hY hX hd h0 hmlen hm hv
  have hbl := lt_of_cell b0
  have hk3 : Keeps W (((W.alloc (.cells #[.func (.yield l) #[] #[]] 114)).alloc (.cells #[.int .i64 0] 3)).alloc (.cells #[.int .i64 0] 3)) := (((Keeps.refl W).alloc _).alloc _).alloc _
  have c0 := hk3.cell b0
  have c1 := hk3.cell b1
  gi_wp2
  refine ⟨trivial, nofun, (callsIn_wide.2 (all_make ca cc cs da dc ds _)).mono ?_⟩
  rintro e w1 ⟨rfl, rfl⟩
  gi_wp2
  obtain ⟨W4, hW4⟩ : ∃ W4, (((W.alloc (.cells #[.func (.yield l) #[] #[]] 114)).alloc (.cells #[.int .i64 0] 3)).alloc (.cells #[.int .i64 0] 3)).alloc (.cells #[.slice ca cs.length cc, .slice da ds.length dc] 26) = W4 := ⟨_, rfl⟩
  have HS4 : Hid (W4.heap.size = W.heap.size + 4) := by show _ = _; rw [← hW4]; simp
  have hk4 : Keeps W W4 := by rw [← hW4]; exact hk3.alloc _
  have y1 := (born_alloc W #[.func (.yield l) #[] #[]] 114).toOwn.kept ((((Keeps.refl _).alloc (.cells #[.int .i64 0] 3)).alloc (.cells #[.int .i64 0] 3)).alloc (.cells #[.slice ca cs.length cc, .slice da ds.length dc] 26))
  have y2 := (born_alloc (W.alloc (.cells #[.func (.yield l) #[] #[]] 114)) #[.int .i64 0] 3).toOwn.kept (((Keeps.refl _).alloc (.cells #[.int .i64 0] 3)).alloc (.cells #[.slice ca cs.length cc, .slice da ds.length dc] 26))
  have y3 := (born_alloc ((W.alloc (.cells #[.func (.yield l) #[] #[]] 114)).alloc (.cells #[.int .i64 0] 3)) #[.int .i64 0] 3).toOwn.kept ((Keeps.refl _).alloc (.cells #[.slice ca cs.length cc, .slice da ds.length dc] 26))
  have y4 := (born_alloc (((W.alloc (.cells #[.func (.yield l) #[] #[]] 114)).alloc (.cells #[.int .i64 0] 3)).alloc (.cells #[.int .i64 0] 3)) #[.slice ca cs.length cc, .slice da ds.length dc] 26).toOwn
  rw [hW4] at y1 y2 y3 y4
  simp only [World.size_alloc] at y2 y3 y4
  rw [hW4]
  have HI4 : Hid (∀ W1, Keeps W4 W1 → W1.heap.size = W4.heap.size + 2 → LogJ (dat cs ds) W.heap.size l ca cc cs da dc ds u pv J 0 0 W1) := fun W1 hk1 hs1 => by
    have z1 := cell_at (y1.kept hk1).mem 0 (by simp)
    have z2 := cell_at (y2.kept hk1).mem 0 (by simp)
    have z3 := cell_at (y3.kept hk1).mem 0 (by simp)
    have z4 := cell_at (y4.kept hk1).mem 0 (by simp)
    have z5 := cell_at (y4.kept hk1).mem 1 (by simp)
    simp only [Nat.zero_add, List.getElem_cons_zero, List.getElem_cons_succ] at z1 z2 z3 z4 z5
    have hs := HS4.out
    exact ⟨Nat.le_refl _, fun j hj => absurd hj (by omega), fun i hi hi' => absurd hi' (by omega), z1, z2, (y2.kept hk1).free (W.heap.size + 1) (by simp [fp, fpS]) 0, z3, (y3.kept hk1).free (W.heap.size + 1 + 1) (by simp [fp, fpS]) 0,
      ⟨z4, z5, HM.out.kept (hk4.trans hk1), (hk4.trans hk1).cell HV.out⟩, by omega, H0.out W1 (hk4.trans hk1) (by omega)⟩
  clear hW4 y1 y2 y3 y4 c0 c1 b0 b1 hk3
  refine wp_range rfl (by omega) (gf := 90) (lb := #[.pointer (some ⟨W.heap.size + 1 + 1 + 1, 0, none⟩)]) rfl trivial (enters_of Tryz.func90 (by kernel_rfl) rfl) (fun W' => J (logN (dat cs ds)) W' ∨ Jx W') (fun c W' => c = .ret ∧ (J (logN (dat cs ds)) W' ∨ Jx W')) ?_ ?_ ?_
  · intro fn hfn W1 hk1 hs1 hr1
    generalize hR : recOf fn _ _ _ _ _ = R at hr1 ⊢
    refine (all_in (n - 1) (W4.heap.size + 1) (W.heap.size + 1 + 1 + 1) ca cc cs da dc ds u pv (fun k W' => (∃ j, LogJ (dat cs ds) W.heap.size l ca cc cs da dc ds u pv J j k W') ∧ RL R W4.heap.size .ready none W') (fun W' => (J (logN (dat cs ds)) W' ∨ Jx W') ∧ RL R W4.heap.size .done (some .ret) W') HD.out ?_ ?_ ?_ ?_ W1 ⟨⟨0, HI4.out W1 hk1 hs1⟩, hr1⟩).mono ?_
    · rintro k W' ⟨⟨j, h⟩, _⟩
      exact h.at_
    · rintro k W' W'' ⟨⟨j, h⟩, h'⟩ hk
      exact ⟨⟨j, h.later HA.out hk⟩, h'.kept hk⟩
    · rintro k W' _ ⟨⟨j, h⟩, h'⟩ hB
      exact ⟨⟨j, Nat.le_succ_of_le h.le, h.fit, fun i hi hi' => (by
        by_cases e : i = k
        · subst e; exact hB
        · exact h.gap i hi (by omega)), h.yld, h.next, h.nfree, h.ep, h.efree, h.at_, h.size, h.out⟩, h'⟩
    · rintro k Wa Wb a c hkl ⟨⟨j, h⟩, h'⟩ hB hac hb hk
      have h2 := h.later HA.out hk
      have hr2 := h'.kept hk
      subst hR
      refine YieldAt.mono (yield_round (G := fun W' => ∃ j, LogJ (dat cs ds) W.heap.size l ca cc cs da dc ds u pv J j (k + 1) W') (Gx := fun c W' => c = .ret ∧ (J (logN (dat cs ds)) W' ∨ Jx W')) hfn hr2 rfl ?_) ?_
      · generalize recOf fn _ _ _ _ _ = R at hr2 ⊢
        gi_wp2
        have hka := Keeps.alloc (Keeps.refl Wb) (.cells #[.int .i64 (srQ (readL (dat cs ds) k)), .int .i64 (srE (readL (dat cs ds) k)), .slice a (srL (readL (dat cs ds) k)).length c] 72)
        have hbo := (born_alloc Wb #[.int .i64 (srQ (readL (dat cs ds) k)), .int .i64 (srE (readL (dat cs ds) k)), .slice a (srL (readL (dat cs ds) k)).length c] 72).toOwn
        generalize Wb.alloc (.cells #[.int .i64 (srQ (readL (dat cs ds) k)), .int .i64 (srE (readL (dat cs ds) k)), .slice a (srL (readL (dat cs ds) k)).length c] 72) = W2 at *
        refine ⟨hr2.kept hka, fun W3 ht hr3 => ?_⟩
        have hl2 := hr2.lt
        have hb3 := hbo.turn ht (fun x hx hy => by simp [fp, fpS] at hx hy; have := HS4.out; omega)
        have hsb : Wb.heap.size < W3.heap.size := hb3.mem.lt Wb.heap.size (by simp [fp, fpS])
        have hSz := Nat.le_trans h.size hk.size
        rw [HS4.out] at ht
        have h3 := (h2.later HA.out hka).turnR HA.out ht hlt hgl
        have s0 := cell_at hb3.mem 0 (by simp)
        have s1 := cell_at hb3.mem 1 (by simp)
        have s2 := cell_at hb3.mem 2 (by simp)
        simp only [Nat.zero_add, List.getElem_cons_zero, List.getElem_cons_succ] at s0 s1 s2
        have n0 := h3.next
        have n1 := h3.nfree
        have e0 := h3.ep
        have e1 := h3.efree
        have yl := h3.yld
        have HI := hide h3
        have HR3 := hide hr3
        have HB3 := hide hb3
        by_cases hjk : k = j
        · subst hjk
          by_cases hq : srQ (readL (dat cs ds) k) = k
          · by_cases he : srE (readL (dat cs ds) k) < lastE (dat cs ds) k
            · have hnf : fitB (dat cs ds) k = false := by unfold fitB; rw [decide_eq_false (p := lastE (dat cs ds) k ≤ srE (readL (dat cs ds) k)) (by omega), Bool.and_false]
              clear h h2 h' hr2 hka hbo ht h3 hr3 hb3 hl2 hb
              gi_wp2
              refine ⟨fun _ h => (by cases h), ?_⟩
              gi_wp2
              refine ⟨HR3.out, fun W5 ht5 => ⟨rfl, .inl ?_⟩⟩
              rw [HS4.out] at ht5
              refine ((HI.out.turnR HA.out ht5 hlt hgl).stop (by rw [HML.out]; omega) ?_)
              exact fun _ => .inr hnf
            · have hfit : fitB (dat cs ds) k = true := by unfold fitB; rw [hB, decide_eq_true hq, decide_eq_true (by omega)]; rfl
              have htt : Turn (lown W.heap.size) Wa W3 := ((Turn.of_keeps (hk.trans hka) _).trans' (ht.mono (by simp)))
              obtain ⟨fn2, tmps2, assign2, body2, hy, hR2⟩ := HY.out k Wa W3 a c (n - 1 - 1 - 1) hkl h.fit hfit h.out htt h.size hac ((hb.kept hka).turn ht (fun x hx hy => by have := hb.new x hx; have := h.size; simp at hy; omega))
              have hSa := hk.size
              rw [hq] at hy
              have hfitk := h.fit
              clear h h2 h' hr2 hka hbo ht h3 hr3 hb3 hl2 hb htt
              gi_wp2
              refine ⟨nofun, RoundIn.mono hR2 ?_⟩
              rintro e W5 ⟨he5, gs, hgs, ht5⟩
              have hsa := HI.out.size
              have HR5 := hide (HR3.out.turn ht5 (fun hx => by have := hgs _ hx; have := HS4.out; omega) (fun hx => by have := hgs _ hx; have := HS4.out; omega))
              rcases he5 with ⟨rfl, hJ5⟩ | ⟨rfl, hx5⟩
              · obtain ⟨yl5, n5, n51, e5, e51, hs5⟩ := HI.out.round ht5 (fun b hb => (hgs b hb).2)
                have s15 := ht5.cell (p := ⟨Wb.heap.size, 1, none⟩) (fun hx => by have := (hgs _ hx).1; dsimp only at this; omega) s1
                have HAt : Hid (AllAt (W.heap.size + 1 + 1 + 1) ca cc cs da dc ds u pv W5) :=
                  ⟨ht5.cell (fun hx => by have := hgs _ hx; dsimp only at this; omega) HI.out.at_.1, ht5.cell (fun hx => by have := hgs _ hx; dsimp only at this; omega) HI.out.at_.2.1, HJ.out _ _ hJ5⟩
                have HJ5 := hide hJ5
                have hsb5 : Wb.heap.size < W5.heap.size := Nat.lt_of_lt_of_le hsb ht5.size
                have hmx : Tryz.prog.follows .mixedOrders = true := by kernel_rfl
                have HLJ : Hid (∀ W6, Turn [W.heap.size + 1, W.heap.size + 1 + 1] W5 W6 → W6.cell? ⟨W.heap.size + 1, 0, none⟩ = some (.int .i64 ((k + 1 : Nat) : Int)) → W6.frozen? ⟨W.heap.size + 1, 0, none⟩ = false → W6.cell? ⟨W.heap.size + 1 + 1, 0, none⟩ = some (.int .i64 (srE (readL (dat cs ds) k))) → W6.frozen? ⟨W.heap.size + 1 + 1, 0, none⟩ = false → LogJ (dat cs ds) W.heap.size l ca cc cs da dc ds u pv J (k + 1) (k + 1) W6) := fun W6 ht6 q1 q2 q3 q4 =>
                  ⟨Nat.le_refl _, fitTo_succ hfitk hfit, fun i hi hi' => absurd hi' (by omega), ht6.cell (by simp <;> omega) yl5, q1, q2, q3, q4, HAt.out.turn ht6 (by simp <;> omega) (fun x hx hy => by have := hlt x hx; simp at hy; omega) (by simp <;> omega), Nat.le_trans hs5 ht6.size, HA.out _ _ _ HJ5.out (ht6.mono (by simp))⟩
                clear hy hR2 hJ5 hgs ht5 s0 s1 s2 n0 n1 e0 e1 yl
                gi_wp2
                gi_region_with_o (fail)
                all_goals gi_wp2
                all_goals
                  have hw : IntKind.i64.wrap ((k : Int) + 1) = ((k + 1 : Nat) : Int) := by
                    have := HD.out.c
                    simp [IntKind.wrap, IntKind.bits, IntKind.signed]
                    omega
                  have T : Turn [W.heap.size + 1, W.heap.size + 1 + 1] W5 ((W5.setCell ⟨W.heap.size + 1, 0, none⟩ (.int .i64 (IntKind.i64.wrap ((k : Int) + 1)))).setCell ⟨W.heap.size + 1 + 1, 0, none⟩ (.int .i64 (srE (readL (dat cs ds) k)))).drew :=
                    ((Turn.set (by simp) _).trans' (Turn.set (by simp) _)).trans' (Turn.of_keeps ((Keeps.refl _).drew) _)
                  refine ⟨HR5.out.turn T (by have := HS4.out; simp <;> omega) (by have := HS4.out; simp <;> omega), fun W6 ht6 => ⟨k + 1, ?_⟩⟩
                  rw [HS4.out] at ht6
                  refine (HLJ.out _ T ?_ ?_ ?_ ?_).turnR HA.out ht6 hlt hgl
                  · show World.cell? (World.setCell _ _ _) _ = _
                    rw [World.cell?_setCell_other _ _ _ _ (by simp), World.cell?_setCell_same _ _ _ n5, hw]
                  · show World.frozen? (World.setCell _ _ _) _ = _
                    rw [World.frozen?_setCell, World.frozen?_setCell]
                    exact n51
                  · show World.cell? (World.setCell _ _ _) _ = _
                    exact World.cell?_setCell_same _ _ _ (by rw [World.cell?_setCell_other _ _ _ _ (by simp)]; exact e5)
                  · show World.frozen? (World.setCell _ _ _) _ = _
                    rw [World.frozen?_setCell, World.frozen?_setCell]
                    exact e51
              · clear hy hR2 s0 s1 s2 n0 n1 e0 e1 yl
                gi_wp2
                refine ⟨HR5.out, fun W6 ht6 => ⟨rfl, .inr ?_⟩⟩
                rw [HS4.out] at ht6
                exact HX.out _ _ hx5 (ht6.mono (by simp))
          · have hnf : fitB (dat cs ds) k = false := by unfold fitB; rw [decide_eq_false hq, Bool.and_false, Bool.false_and]
            clear h h2 h' hr2 hka hbo ht h3 hr3 hb3 hl2 hb
            gi_wp2
            refine ⟨fun _ h => (by cases h), ?_⟩
            gi_wp2
            refine ⟨HR3.out, fun W5 ht5 => ⟨rfl, .inl ?_⟩⟩
            rw [HS4.out] at ht5
            refine ((HI.out.turnR HA.out ht5 hlt hgl).stop (by rw [HML.out]; omega) ?_)
            exact fun _ => .inr hnf
        · have hjk' : ¬ ((k : Int) = (j : Int)) := by omega
          clear h h2 h' hr2 hka hbo ht h3 hr3 hb3 hl2 hb
          gi_wp2
          refine ⟨fun _ h => (by cases h), ?_⟩
          gi_wp2
          refine ⟨HR3.out, fun W5 ht5 => ⟨rfl, .inl ?_⟩⟩
          rw [HS4.out] at ht5
          refine ((HI.out.turnR HA.out ht5 hlt hgl).stop (by rw [HML.out]; omega) ?_)
          exact fun e => absurd e.symm hjk
      · rintro e W'' (⟨he, hg, hr⟩ | ⟨he, c, ⟨rfl, hj⟩, hr⟩)
        · exact .inl ⟨he, hg, hr⟩
        · exact .inr ⟨he, hj, hr⟩
    · rintro e W2 ⟨hv, (⟨⟨j, h⟩, h'⟩ | ⟨hj, hr⟩)⟩
      · exact ⟨hv, .inl ⟨.inl (h.stop (by rw [HML.out]; exact Nat.le_refl _) (fun _ => .inl HML.out.symm)), h'⟩⟩
      · exact ⟨hv, .inr ⟨.ret, ⟨rfl, hj⟩, hr⟩⟩
  · intro W1 W2 hG ht hK
    rw [HS4.out] at ht
    have HG := hide hG
    have HT := hide ht
    clear hG ht
    gi_wp2
    refine ⟨by simp, .inl ⟨_, _, rfl, run_takeDeferred hK, ?_⟩⟩
    refine ⟨_, results_none rfl _ _ _, ⟨_, rfl⟩, W1, HG.out, ?_⟩
    have hp := turn_putObj W2 W4.heap.size (.deferred none)
    rw [HS4.out] at hp ⊢
    exact (HT.out.mono (by simp)).trans' (hp.mono (by simp))
  · rintro c W1 W2 ⟨rfl, hG⟩ ht hK
    rw [HS4.out] at ht
    have HG := hide hG
    have HT := hide ht
    clear hG ht
    gi_wp2
    refine ⟨by simp, .inl ⟨_, _, rfl, run_takeDeferred hK, ?_⟩⟩
    refine ⟨_, results_none rfl _ _ _, ⟨_, rfl⟩, W1, HG.out, ?_⟩
    have hp := turn_putObj W2 W4.heap.size (.deferred none)
    rw [HS4.out] at hp ⊢
    exact (HT.out.mono (by simp)).trans' (hp.mono (by simp))
end Go.Proofs.YtmkhlhjggbencaaGreatDoor

/- LogRead of the program. -/
namespace Go.Proofs.YtmkhlhjggbencaaGreatDoor
open Go.RowKit Go.Deep Go.Shelf
set_option linter.unusedVariables false
set_option maxRecDepth 10000
attribute [local go_sem] Oper.semAt_some

theorem wpListIn_append_run {F : Fence} {n : Nat} {P : Program} (w : World) {ops : Array Oper} {rest : List Oper} {o : Oper} {a : Act} {Q : Exit → Act → World → Prop}
    (hg : o.guard = none) (s x : Operand) (t : TypeId) (hop : o.op = Op.call { callee := Callee.builtin Builtin.append, args := #[s, x], argTypes := #[t, t] }) (vs vx : Value) (hs : a.eval s = vs) (hx : a.eval x = vx)
    (v' : Value) (w' : World) (hrun : (Builtin.append_ #[t, t] o.type #[vs, vx]).run P w = .ok v' w') (hK : wpListIn F n P ops Q rest (a.put o.dst v') w') : wpListIn F n P ops Q (o :: rest) a w := by
  refine wpListIn_plain hg fun K hK' => ?_
  unfold Oper.wpIn
  refine ⟨?_, ?_⟩
  · simp [Oper.about, hop, resolve, Target.leads, Sem.run_pure]
  · rw [Oper.semAt_plain F _ _ (by rw [hop]; intro c hc'; cases hc')]
    simp [execOp, hop, resolve, invoke, builtin, hs, hx, hrun, Result.andThen]
    exact hK' _ _ hK
/-- Between two rounds of LogRead, k sectors read; lo: where the iterator's own blocks begin. -/
structure RdI (w : World) (lo : Nat) (ca : Option Addr) (cc : Nat) (cs : List Bs) (da : Option Addr) (dc : Nat) (ds : List Wr) (u : TypeId) (pv : Value) (k : Nat) (W : World) (v : Value) (nb : List Sc) : Prop where
  mem : Mem W (dsk ca cs da ds)
  err : W.cell? ⟨0, 0, none⟩ = some (.iface u pv)
  box : W.cell? ⟨w.heap.size + 1, 0, none⟩ = some v
  free : W.frozen? ⟨w.heap.size + 1, 0, none⟩ = false
  list : LB 72 3 Sc.cells Sc.seg (lo + 6) W v nb
  key : nb.map Sc.key = secsTo (dat cs ds) k
  kept : Keeps w W
section
variable {w : World} {lo : Nat} {ca : Option Addr} {cc : Nat} {cs : List Bs} {da : Option Addr} {dc : Nat} {ds : List Wr} {u : TypeId} {pv : Value} {k : Nat} {W W' : World} {v : Value} {nb : List Sc}
theorem RdI.turn (h : RdI w lo ca cc cs da dc ds u pv k W v nb) {fs : List Nat} (ht : Turn fs W W') (hf : ∀ b ∈ fs, b < lo + 6) (hw : ∀ b ∈ fs, w.heap.size ≤ b) (h1 : w.heap.size + 1 ∉ fs) (h2 : ∀ x ∈ fp (dsk ca cs da ds), x < w.heap.size) (h3 : 0 < w.heap.size) : RdI w lo ca cc cs da dc ds u pv k W' v nb :=
  ⟨h.mem.turn ht (fun x hx hy => by have := h2 x hx; have := hw x hy; omega), ht.cell (fun hy => by have := hw _ hy; dsimp only at this; omega) h.err, ht.cell h1 h.box, by rw [← h.free]; exact World.frozen?_of_block (ht.block _ (lt_of_cell h.box) h1), h.list.turn ht hf, h.key, ht.keeps h.kept hw⟩
theorem RdI.later (h : RdI w lo ca cc cs da dc ds u pv k W v nb) (hk : Keeps W W') : RdI w lo ca cc cs da dc ds u pv k W' v nb :=
  ⟨h.mem.kept hk, hk.cell h.err, hk.cell h.box, by rw [hk.oldF _ _ (lt_of_cell h.box)]; exact h.free, h.list.kept hk, h.key, h.kept.trans hk⟩
theorem RdI.len (h : RdI w lo ca cc cs da dc ds u pv k W v nb) : nb.length = k := by
  have := congrArg List.length h.key
  simpa [secsTo_len] using this
end
set_option maxHeartbeats 8000000 in
theorem logread_impl (ca : Option Addr) (cc : Nat) (cs : List Bs) (da : Option Addr) (dc : Nat) (ds : List Wr) (w : World) (u : TypeId) (pv : Value) (hv : w.cell? ⟨0, 0, none⟩ = some (.iface u pv)) (hm : Mem w (dsk ca cs da ds)) (h : DOk cs ds) :
    Calls Tryz.prog 11 #[dskV ca cs.length cc da ds.length dc] w (LrPost w (dat cs ds)) := by
  obtain ⟨n, hn⟩ : ∃ n, 19 ≤ n := ⟨19, Nat.le_refl _⟩
  refine (callsIn_wide (n := n)).1 ?_
  refine callsIn_of_wp_marks Tryz.func11 rfl trivial ?_ rfl
  simp only [Tryz.ntmps11, List.size_toArray, List.length_cons, List.length_nil, Nat.reduceAdd, Nat.reduceSub, Array.replicate_succ, Array.replicate_zero, List.push_toArray, List.append_toArray, List.nil_append, List.cons_append]
  have HV := hide hv
  have HM := hide hm
  have HD := hide h
  have hcl := h.c
  have hlt := hm.lt
  have hgl := lt_of_cell hv
  clear hv hm h
  gi_wp2
  refine ⟨trivial, nofun, (callsIn_wide.2 (log_make ca cc cs da dc ds _)).mono ?_⟩
  rintro e w1 ⟨rfl, rfl⟩
  gi_wp2
  obtain ⟨W0, hW0⟩ : ∃ W0, ((w.alloc (.cells #[.slice ca cs.length cc, .slice da ds.length dc] 26)).alloc (.cells #[.slice none 0 0] 35)).alloc (.cells #[.slice ca cs.length cc, .slice da ds.length dc] 26) = W0 := ⟨_, rfl⟩
  have HS0 : Hid (W0.heap.size = w.heap.size + 3) := by show _ = _; rw [← hW0]; simp
  have hk0 : Keeps w W0 := by rw [← hW0]; exact ((Keeps.refl w).alloc _).alloc _ |>.alloc _
  have hbx := (born_alloc ((w.alloc (.cells #[.slice ca cs.length cc, .slice da ds.length dc] 26)).alloc (.cells #[.slice none 0 0] 35)) #[.slice ca cs.length cc, .slice da ds.length dc] 26).toOwn
  have htb := (born_alloc (w.alloc (.cells #[.slice ca cs.length cc, .slice da ds.length dc] 26)) #[.slice none 0 0] 35).toOwn.kept (Keeps.alloc (Keeps.refl _) (.cells #[.slice ca cs.length cc, .slice da ds.length dc] 26))
  rw [hW0] at hbx htb
  simp only [World.size_alloc] at hbx htb
  rw [hW0]
  have cb0 := cell_at hbx.mem 0 (by simp)
  have cb1 := cell_at hbx.mem 1 (by simp)
  have ct0 := cell_at htb.mem 0 (by simp)
  have cf0 := htb.free (w.heap.size + 1) (by simp [fp, fpS]) 0
  simp only [Nat.zero_add, List.getElem_cons_zero, List.getElem_cons_succ] at cb0 cb1 ct0
  have HI0 : Hid (∀ W1, Keeps W0 W1 → w.heap.size + 5 + 6 ≤ W1.heap.size → RdI w (w.heap.size + 5) ca cc cs da dc ds u pv 0 W1 (.slice none 0 0) []) := fun W1 hk1 hs1 =>
    ⟨HM.out.kept (hk0.trans hk1), (hk0.trans hk1).cell HV.out, hk1.cell ct0, by rw [hk1.oldF _ _ (lt_of_cell ct0)]; exact cf0, LB.nil _ _ _ _ (by omega), rfl, hk0.trans hk1⟩
  have HA0 : Hid (AllAt (w.heap.size + 1 + 1) ca cc cs da dc ds u pv W0) := ⟨cb0, cb1, HM.out.kept hk0, hk0.cell HV.out⟩
  clear hW0 hbx htb cf0 cb0 cb1 ct0
  refine wp_range rfl (by omega) (gf := 80) (lb := #[.pointer (some ⟨w.heap.size + 1 + 1, 0, none⟩)]) rfl trivial (enters_of Tryz.func80 (by kernel_rfl) rfl) (fun W => ∃ v nb, RdI w (w.heap.size + 5) ca cc cs da dc ds u pv (logN (dat cs ds)) W v nb) (fun _ _ => False) ?_ ?_ ?_
  · intro fn hfn W1 hk1 hs1 hr1
    generalize hR : recOf fn _ _ _ _ _ = R at hr1 ⊢
    have hs1' : W1.heap.size = w.heap.size + 5 := by have := HS0.out; omega
    have hturn : ∀ k W2 W3, ((∃ v nb, RdI w (w.heap.size + 5) ca cc cs da dc ds u pv k W2 v nb) ∧ RL R W0.heap.size .ready none W2) → Turn (lown W1.heap.size) W2 W3 → ((∃ v nb, RdI w (w.heap.size + 5) ca cc cs da dc ds u pv k W3 v nb) ∧ RL R W0.heap.size .ready none W3) := by
      rintro k W2 W3 ⟨⟨v, nb, h⟩, h'⟩ ht
      rw [hs1'] at ht
      have hs := HS0.out
      exact ⟨⟨v, nb, h.turn ht (fun b hb => by simp at hb; omega) (fun b hb => by simp at hb; omega) (by simp <;> omega) hlt hgl⟩, h'.turn ht (by simp <;> omega) (by simp <;> omega)⟩
    refine (log_in (n - 1) (W0.heap.size + 1) (w.heap.size + 1 + 1) ca cc cs da dc ds u pv (fun k W => (∃ v nb, RdI w (w.heap.size + 5) ca cc cs da dc ds u pv k W v nb) ∧ RL R W0.heap.size .ready none W) (fun _ => False) HD.out (by omega) W1 (HA0.out.kept hk1) ?_ hturn ?_ ?_ ?_).mono ?_
    · rintro k W2 ⟨⟨v, nb, h⟩, _⟩
      exact ⟨h.mem, h.err⟩
    · intro W2 W3 hf
      exact hf.elim
    · intro W2 hk2 hs2
      exact ⟨⟨_, _, HI0.out W2 (hk1.trans hk2) (by omega)⟩, hr1.kept hk2⟩
    · rintro k W2 W3 a c n' hkl hfk hfit ⟨⟨v, nb, h⟩, h'⟩ ht hs2 hac hb
      obtain ⟨⟨v1, nb1, h2⟩, hr2⟩ := hturn k W2 W3 ⟨⟨v, nb, h⟩, h'⟩ ht
      have h2 : RdI w (w.heap.size + 5) ca cc cs da dc ds u pv k W3 v nb := by
        rw [hs1'] at ht
        exact h.turn ht (fun b hb => by simp at hb; omega) (fun b hb => by simp at hb; omega) (by simp <;> omega) hlt hgl
      rw [hs1'] at hs2 ht
      have hnl := h.len
      subst hR
      refine YieldAt.mono (yield_round (G := fun W' => (∃ v nb, RdI w (w.heap.size + 5) ca cc cs da dc ds u pv (k + 1) W' v nb) ∧ ∃ gs, (∀ b ∈ gs, b < W2.heap.size ∧ (b < w.heap.size + 5 ∨ w.heap.size + 5 + 6 ≤ b)) ∧ Turn gs W3 W') (Gx := fun _ _ => False) hfn hr2 rfl ?_) ?_
      · generalize recOf fn _ _ _ _ _ = R at hr2 ⊢
        gi_wp2
        have hka := Keeps.alloc (Keeps.refl W3) (.cells #[.int .i64 (srQ (readL (dat cs ds) k)), .int .i64 (srE (readL (dat cs ds) k)), .slice a (srL (readL (dat cs ds) k)).length c] 72)
        have hbo := (born_alloc W3 #[.int .i64 (srQ (readL (dat cs ds) k)), .int .i64 (srE (readL (dat cs ds) k)), .slice a (srL (readL (dat cs ds) k)).length c] 72).toOwn
        generalize W3.alloc (.cells #[.int .i64 (srQ (readL (dat cs ds) k)), .int .i64 (srE (readL (dat cs ds) k)), .slice a (srL (readL (dat cs ds) k)).length c] 72) = W4 at *
        refine ⟨hr2.kept hka, fun W5 ht5 hr5 => ?_⟩
        have hl2 := hr2.lt
        have hz := HS0.out
        have hb5 := hbo.turn ht5 (fun x hx hy => by simp [fp, fpS] at hx hy; omega)
        have h5 := (h2.later hka).turn ht5 (fun b hb => by simp at hb; omega) (fun b hb => by simp at hb; omega) (by simp <;> omega) hlt hgl
        have hT : Turn (lown (w.heap.size + 5) ++ [W0.heap.size + 1]) W2 W5 := (ht.trans (Turn.of_keeps hka [])).mono (by simp) |>.trans ht5
        have s0 := cell_at hb5.mem 0 (by simp)
        have s1 := cell_at hb5.mem 1 (by simp)
        have s2 := cell_at hb5.mem 2 (by simp)
        simp only [Nat.zero_add, List.getElem_cons_zero, List.getElem_cons_succ] at s0 s1 s2
        have t0 := h5.box
        have t1 := h5.free
        have hown := h5.list.row
        rw [hnl] at hown
        obtain ⟨v', w6, e6, hr6, hg6, hv6⟩ := run_sector W5 (w.heap.size + 5 + 6) v k _ (.int .i64 (srQ (readL (dat cs ds) k))) (.int .i64 (srE (readL (dat cs ds) k))) (.slice a (srL (readL (dat cs ds) k)).length c) rfl rfl rfl 35 hown (by omega) h5.list.size
        obtain ⟨g', cap', rfl⟩ := ownsRow_succ hr6
        have htv : Turn v.ownBlock.toList (W5.alloc (.cells #[.int .i64 (srQ (readL (dat cs ds) k)), .int .i64 (srE (readL (dat cs ds) k)), .slice a (srL (readL (dat cs ds) k)).length c] 72)) w6 := Turn.of_grown hg6 (fun k hk' => by rw [hk']; simp)
        have hvb : ∀ b ∈ v.ownBlock.toList, w.heap.size + 5 + 6 ≤ b ∧ b < W2.heap.size := fun b hb => h.list.row.lt b (by simpa using hb)
        have hkt := Keeps.alloc (Keeps.refl W5) (.cells #[.int .i64 (srQ (readL (dat cs ds) k)), .int .i64 (srE (readL (dat cs ds) k)), .slice a (srL (readL (dat cs ds) k)).length c] 72)
        have T6 : Turn v.ownBlock.toList W5 w6 := ((Turn.of_keeps hkt []).trans htv).mono (by simp)
        have b6 := T6.cell (p := ⟨w.heap.size + 1, 0, none⟩) (fun hx => by have := hvb _ hx; dsimp only at this; omega) t0
        have f6 : w6.frozen? ⟨w.heap.size + 1, 0, none⟩ = false := by rw [← t1]; exact World.frozen?_of_block (T6.block _ (lt_of_cell t0) (fun hx => by have := hvb _ hx; dsimp only at this; omega))
        have HL6 := hide (h.list.snoc (x := ⟨srQ (readL (dat cs ds) k), srE (readL (dat cs ds) k), ⟨a, c, srL (readL (dat cs ds) k)⟩⟩) hT (fun b hb => by simp at hb; omega) ((hb.kept hka).toOwn.turn ht5 (fun x hx hy => by have := hb.new x hx; simp at hy; omega)) (fun b hb' => hb.new b hb') hg6 (by rw [hnl]; exact hr6) hv6)
        have HR5 := hide hr5
        have H5 := hide h5
        have HT6 := hide T6
        have HT5 := hide ((Turn.of_keeps hka []).trans ht5)
        have HVB := hide hvb
        have hsz6 : W5.heap.size ≤ w6.heap.size := T6.size
        have HE6 := hide e6
        clear h h2 hr2 hka hbo ht5 hr5 h5 hT hown hr6 hg6 hv6 htv hvb hkt T6 hb hb5 hl2 ht e6
        gi_wp2_with (gi_at_builtin; refine wpListIn_append_run _ rfl (.tmp 9) (.tmp 11) 35 rfl _ _ rfl rfl _ _ HE6.out ?_)
        have T : Turn (v.ownBlock.toList ++ [w.heap.size + 1]) W5 (w6.setCell ⟨w.heap.size + 1, 0, none⟩ (.slice (some ⟨g', 0, none⟩) (k + 1) cap')) := HT6.out.trans (Turn.set (by simp) _)
        have hT1 : ∀ b ∈ v.ownBlock.toList ++ [w.heap.size + 1], (w.heap.size + 5 + 6 ≤ b ∧ b < W2.heap.size) ∨ b = w.heap.size + 1 := fun b hb => by
          rcases List.mem_append.1 hb with hb | hb
          · exact .inl (HVB.out b hb)
          · exact .inr (by simpa using hb)
        refine ⟨HR5.out.turn T (fun hx => by have := hT1 _ hx; omega) (fun hx => by have := hT1 _ hx; omega), fun W7 ht7 => ⟨?_, [W0.heap.size + 1] ++ (v.ownBlock.toList ++ [w.heap.size + 1]), ?_, ?_⟩⟩
        · have h8 : RdI w (w.heap.size + 5) ca cc cs da dc ds u pv (k + 1) (w6.setCell ⟨w.heap.size + 1, 0, none⟩ (.slice (some ⟨g', 0, none⟩) (k + 1) cap')) (.slice (some ⟨g', 0, none⟩) (k + 1) cap') (nb ++ [⟨srQ (readL (dat cs ds) k), srE (readL (dat cs ds) k), ⟨a, c, srL (readL (dat cs ds) k)⟩⟩]) :=
            ⟨H5.out.mem.turn T (fun x hx hy => by have := hlt x hx; have := hT1 x hy; omega), T.cell (fun hy => by have := hT1 _ hy; dsimp only at this; omega) H5.out.err, World.cell?_setCell_same _ _ _ b6, by rw [World.frozen?_setCell]; exact f6,
             HL6.out.turn (Turn.set (fs := [w.heap.size + 1]) (by simp) _) (fun b hb => by simp at hb; omega), by rw [List.map_append, H5.out.key, secsTo_succ]; rfl, T.keeps H5.out.kept (fun b hb => by have := hT1 b hb; omega)⟩
          exact ⟨_, _, h8.turn ht7 (fun b hb => by simp at hb; omega) (fun b hb => by simp at hb; omega) (by simp <;> omega) hlt hgl⟩
        · intro b hb
          rcases List.mem_append.1 hb with hb | hb
          · have : b = W0.heap.size + 1 := by simpa using hb
            omega
          · have := hT1 b hb
            omega
        · exact (((HT5.out.mono (gs := [W0.heap.size + 1]) (by simp)).trans T).trans ht7).mono (fun x hx => by rcases List.mem_append.1 hx with hx | hx; exact hx; exact List.mem_append_left _ hx)
      · rintro e W'' (⟨he, hg, hr⟩ | ⟨_, _, hf, _⟩)
        · refine ⟨.inl ⟨he, hg.1, hr⟩, ?_⟩
          obtain ⟨gs, h1, h2⟩ := hg.2
          exact ⟨gs, fun b hb => by have := h1 b hb; omega, h2⟩
        · exact hf.elim
    · rintro e W2 ⟨hv, W3, (⟨⟨v, nb, h⟩, h'⟩ | hf), ht⟩
      · have hz := HS0.out
        rw [hs1'] at ht
        exact ⟨hv, .inl ⟨⟨v, nb, h.turn ht (fun b hb => by simp at hb; omega) (fun b hb => by simp at hb; omega) (by simp <;> omega) hlt hgl⟩, h'.turn ht (by simp <;> omega) (by simp <;> omega)⟩⟩
      · exact hf.elim
  · rintro W W' ⟨v, nb, hG⟩ ht hK
    have hz := HS0.out
    have h2 := hG.turn ht (fun b hb => by simp at hb; omega) (fun b hb => by simp at hb; omega) (by simp <;> omega) hlt hgl
    obtain ⟨a, cap, rfl, hna, ho, hnew⟩ := h2.list.born
    have hnl := h2.len
    have HNL := hide hnl
    have t0 := h2.box
    have HI := hide h2
    have HO := hide ho
    have HN := hide hnew
    clear h2 ho hnew hG ht hnl
    have hmx : Tryz.prog.follows .mixedOrders = true := by kernel_rfl
    gi_wp2
    refine wpIn_wide.2 ?_
    go_region_held3 (fun w' => w'.cell? ⟨w.heap.size + 1, 0, none⟩ = some (.slice a nb.length cap)) (go_keep) (fail)
    gi_wp2
    refine ⟨by simp, .inl ⟨_, _, rfl, run_takeDeferred (w := W'.drew) hK, ?_⟩⟩
    have T : Turn [W0.heap.size] W' (W'.drew.putObj W0.heap.size (.deferred none)) := ((Turn.of_keeps ((Keeps.refl W').drew) []).trans (turn_putObj _ _ _)).mono (by simp)
    refine ⟨.tuple #[.slice a nb.length cap, .int .i64 (nb.length : Nat)], by simp [results, Tryz.results11, go_sem], a, cap, nb, by rw [HNL.out], HI.out.key, hna, ⟨?_, ?_⟩, ?_⟩
    · exact HO.out.turn T (fun b hb hx => by have := HN.out b hb; simp at hx; omega)
    · intro b hb
      have := HN.out b hb
      omega
    · exact T.keeps HI.out.kept (fun b hb => by simp at hb; omega)
  · intro c W W' hf
    exact hf.elim
end Go.Proofs.YtmkhlhjggbencaaGreatDoor

/- LogEvents of the program. -/
namespace Go.Proofs.YtmkhlhjggbencaaGreatDoor
open Go.RowKit Go.Deep Go.Shelf
set_option linter.unusedVariables false
set_option maxRecDepth 10000
attribute [local go_sem] Oper.semAt_some

theorem own_none (w : World) (x : Ev) : Own w [x.seg] := ⟨fun s hs => by rw [List.mem_singleton.1 hs]; exact Or.inl rfl, by simp [fp, fpS, Ev.seg], fun b hb => by simp [fp, fpS, Ev.seg] at hb⟩
/-- Between two rounds of LogEvents, k sectors read; lo: where the iterator's own blocks begin. -/
structure EvI (w : World) (lo : Nat) (ca : Option Addr) (cc : Nat) (cs : List Bs) (da : Option Addr) (dc : Nat) (ds : List Wr) (u : TypeId) (pv : Value) (k : Nat) (W : World) (v : Value) : Prop where
  mem : Mem W (dsk ca cs da ds)
  err : W.cell? ⟨0, 0, none⟩ = some (.iface u pv)
  box : W.cell? ⟨w.heap.size + 1, 0, none⟩ = some v
  free : W.frozen? ⟨w.heap.size + 1, 0, none⟩ = false
  list : LB 30 7 Ev.cells Ev.seg (lo + 6) W v (evsTo (dat cs ds) k)
  kept : Keeps w W
section
variable {w : World} {lo : Nat} {ca : Option Addr} {cc : Nat} {cs : List Bs} {da : Option Addr} {dc : Nat} {ds : List Wr} {u : TypeId} {pv : Value} {k : Nat} {W W' : World} {v : Value}
theorem EvI.turn (h : EvI w lo ca cc cs da dc ds u pv k W v) {fs : List Nat} (ht : Turn fs W W') (hf : ∀ b ∈ fs, b < lo + 6) (hw : ∀ b ∈ fs, w.heap.size ≤ b) (h1 : w.heap.size + 1 ∉ fs) (h2 : ∀ x ∈ fp (dsk ca cs da ds), x < w.heap.size) (h3 : 0 < w.heap.size) : EvI w lo ca cc cs da dc ds u pv k W' v :=
  ⟨h.mem.turn ht (fun x hx hy => by have := h2 x hx; have := hw x hy; omega), ht.cell (fun hy => by have := hw _ hy; dsimp only at this; omega) h.err, ht.cell h1 h.box, by rw [← h.free]; exact World.frozen?_of_block (ht.block _ (lt_of_cell h.box) h1), h.list.turn ht hf, ht.keeps h.kept hw⟩
theorem EvI.later (h : EvI w lo ca cc cs da dc ds u pv k W v) (hk : Keeps W W') : EvI w lo ca cc cs da dc ds u pv k W' v :=
  ⟨h.mem.kept hk, hk.cell h.err, hk.cell h.box, by rw [hk.oldF _ _ (lt_of_cell h.box)]; exact h.free, h.list.kept hk, h.kept.trans hk⟩
end
set_option maxHeartbeats 8000000 in
theorem logevents_impl (ca : Option Addr) (cc : Nat) (cs : List Bs) (da : Option Addr) (dc : Nat) (ds : List Wr) (w : World) (u : TypeId) (pv : Value) (hv : w.cell? ⟨0, 0, none⟩ = some (.iface u pv)) (hm : Mem w (dsk ca cs da ds)) (h : DOk cs ds) :
    Calls Tryz.prog 12 #[dskV ca cs.length cc da ds.length dc] w (LePost w (dat cs ds)) := by
  obtain ⟨n, hn⟩ : ∃ n, 19 ≤ n := ⟨19, Nat.le_refl _⟩
  refine (callsIn_wide (n := n)).1 ?_
  refine callsIn_of_wp_marks Tryz.func12 rfl trivial ?_ rfl
  simp only [Tryz.ntmps12, List.size_toArray, List.length_cons, List.length_nil, Nat.reduceAdd, Nat.reduceSub, Array.replicate_succ, Array.replicate_zero, List.push_toArray, List.append_toArray, List.nil_append, List.cons_append]
  have HV := hide hv
  have HM := hide hm
  have HD := hide h
  have hcl := h.c
  have hlt := hm.lt
  have hgl := lt_of_cell hv
  clear hv hm h
  gi_wp2
  refine ⟨trivial, nofun, (callsIn_wide.2 (log_make ca cc cs da dc ds _)).mono ?_⟩
  rintro e w1 ⟨rfl, rfl⟩
  gi_wp2
  obtain ⟨W0, hW0⟩ : ∃ W0, ((w.alloc (.cells #[.slice ca cs.length cc, .slice da ds.length dc] 26)).alloc (.cells #[.slice none 0 0] 39)).alloc (.cells #[.slice ca cs.length cc, .slice da ds.length dc] 26) = W0 := ⟨_, rfl⟩
  have HS0 : Hid (W0.heap.size = w.heap.size + 3) := by show _ = _; rw [← hW0]; simp
  have hk0 : Keeps w W0 := by rw [← hW0]; exact ((Keeps.refl w).alloc _).alloc _ |>.alloc _
  have hbx := (born_alloc ((w.alloc (.cells #[.slice ca cs.length cc, .slice da ds.length dc] 26)).alloc (.cells #[.slice none 0 0] 39)) #[.slice ca cs.length cc, .slice da ds.length dc] 26).toOwn
  have htb := (born_alloc (w.alloc (.cells #[.slice ca cs.length cc, .slice da ds.length dc] 26)) #[.slice none 0 0] 39).toOwn.kept (Keeps.alloc (Keeps.refl _) (.cells #[.slice ca cs.length cc, .slice da ds.length dc] 26))
  rw [hW0] at hbx htb
  simp only [World.size_alloc] at hbx htb
  rw [hW0]
  have cb0 := cell_at hbx.mem 0 (by simp)
  have cb1 := cell_at hbx.mem 1 (by simp)
  have ct0 := cell_at htb.mem 0 (by simp)
  have cf0 := htb.free (w.heap.size + 1) (by simp [fp, fpS]) 0
  simp only [Nat.zero_add, List.getElem_cons_zero, List.getElem_cons_succ] at cb0 cb1 ct0
  have HI0 : Hid (∀ W1, Keeps W0 W1 → w.heap.size + 5 + 6 ≤ W1.heap.size → EvI w (w.heap.size + 5) ca cc cs da dc ds u pv 0 W1 (.slice none 0 0)) := fun W1 hk1 hs1 =>
    ⟨HM.out.kept (hk0.trans hk1), (hk0.trans hk1).cell HV.out, hk1.cell ct0, by rw [hk1.oldF _ _ (lt_of_cell ct0)]; exact cf0, LB.nil _ _ _ _ (by omega), hk0.trans hk1⟩
  have HA0 : Hid (AllAt (w.heap.size + 1 + 1) ca cc cs da dc ds u pv W0) := ⟨cb0, cb1, HM.out.kept hk0, hk0.cell HV.out⟩
  clear hW0 hbx htb cf0 cb0 cb1 ct0
  refine wp_range rfl (by omega) (gf := 80) (lb := #[.pointer (some ⟨w.heap.size + 1 + 1, 0, none⟩)]) rfl trivial (enters_of Tryz.func80 (by kernel_rfl) rfl) (fun W => ∃ v, EvI w (w.heap.size + 5) ca cc cs da dc ds u pv (logN (dat cs ds)) W v) (fun _ _ => False) ?_ ?_ ?_
  · intro fn hfn W1 hk1 hs1 hr1
    generalize hR : recOf fn _ _ _ _ _ = R at hr1 ⊢
    have hs1' : W1.heap.size = w.heap.size + 5 := by have := HS0.out; omega
    have hturn : ∀ k W2 W3, ((∃ v, EvI w (w.heap.size + 5) ca cc cs da dc ds u pv k W2 v) ∧ RL R W0.heap.size .ready none W2) → Turn (lown W1.heap.size) W2 W3 → ((∃ v, EvI w (w.heap.size + 5) ca cc cs da dc ds u pv k W3 v) ∧ RL R W0.heap.size .ready none W3) := by
      rintro k W2 W3 ⟨⟨v, h⟩, h'⟩ ht
      rw [hs1'] at ht
      have hs := HS0.out
      exact ⟨⟨v, h.turn ht (fun b hb => by simp at hb; omega) (fun b hb => by simp at hb; omega) (by simp <;> omega) hlt hgl⟩, h'.turn ht (by simp <;> omega) (by simp <;> omega)⟩
    refine (log_in (n - 1) (W0.heap.size + 1) (w.heap.size + 1 + 1) ca cc cs da dc ds u pv (fun k W => (∃ v, EvI w (w.heap.size + 5) ca cc cs da dc ds u pv k W v) ∧ RL R W0.heap.size .ready none W) (fun _ => False) HD.out (by omega) W1 (HA0.out.kept hk1) ?_ hturn ?_ ?_ ?_).mono ?_
    · rintro k W2 ⟨⟨v, h⟩, _⟩
      exact ⟨h.mem, h.err⟩
    · intro W2 W3 hf
      exact hf.elim
    · intro W2 hk2 hs2
      exact ⟨⟨_, HI0.out W2 (hk1.trans hk2) (by omega)⟩, hr1.kept hk2⟩
    · rintro k W2 W3 a c n' hkl hfk hfit ⟨⟨v, h⟩, h'⟩ ht hs2 hac hb
      obtain ⟨⟨v1, h2⟩, hr2⟩ := hturn k W2 W3 ⟨⟨v, h⟩, h'⟩ ht
      have h2 : EvI w (w.heap.size + 5) ca cc cs da dc ds u pv k W3 v := by
        rw [hs1'] at ht
        exact h.turn ht (fun b hb => by simp at hb; omega) (fun b hb => by simp at hb; omega) (by simp <;> omega) hlt hgl
      rw [hs1'] at hs2 ht
      subst hR
      refine YieldAt.mono (yield_round (G := fun W' => (∃ v, EvI w (w.heap.size + 5) ca cc cs da dc ds u pv (k + 1) W' v) ∧ ∃ gs, (∀ b ∈ gs, b < W2.heap.size ∧ (b < w.heap.size + 5 ∨ w.heap.size + 5 + 6 ≤ b)) ∧ Turn gs W3 W') (Gx := fun _ _ => False) hfn hr2 rfl ?_) ?_
      · generalize recOf fn _ _ _ _ _ = R at hr2 ⊢
        gi_wp2
        have hka := Keeps.alloc (Keeps.refl W3) (.cells #[.int .i64 (srQ (readL (dat cs ds) k)), .int .i64 (srE (readL (dat cs ds) k)), .slice a (srL (readL (dat cs ds) k)).length c] 72)
        have hbo := (born_alloc W3 #[.int .i64 (srQ (readL (dat cs ds) k)), .int .i64 (srE (readL (dat cs ds) k)), .slice a (srL (readL (dat cs ds) k)).length c] 72).toOwn
        generalize W3.alloc (.cells #[.int .i64 (srQ (readL (dat cs ds) k)), .int .i64 (srE (readL (dat cs ds) k)), .slice a (srL (readL (dat cs ds) k)).length c] 72) = W4 at *
        refine ⟨hr2.kept hka, fun W5 ht5 hr5 => ?_⟩
        have hl2 := hr2.lt
        have hz := HS0.out
        have hb5 := hbo.turn ht5 (fun x hx hy => by simp [fp, fpS] at hx hy; omega)
        have h5 := (h2.later hka).turn ht5 (fun b hb => by simp at hb; omega) (fun b hb => by simp at hb; omega) (by simp <;> omega) hlt hgl
        have hT : Turn (lown (w.heap.size + 5) ++ [W0.heap.size + 1]) W2 W5 := (ht.trans (Turn.of_keeps hka [])).mono (by simp) |>.trans ht5
        have HT3 : Hid (Turn [W0.heap.size + 1] W3 W5) := ((Turn.of_keeps hka []).trans ht5).mono (by simp)
        have HBE := hide (bodyevent_any a (srL (readL (dat cs ds) k)) c W5 u pv h5.err (((hb.kept hka).toOwn.turn ht5 (fun x hx hy => by have := hb.new x hx; simp at hy; omega)).one) hac (Nat.le_trans (srL_len _) (by decide)))
        have s2 := cell_at hb5.mem 2 (by simp)
        simp only [Nat.zero_add, List.getElem_cons_zero, List.getElem_cons_succ] at s2
        have HT := hide hT
        have H2 := hide h
        have H5 := hide h5
        have HR5 := hide hr5
        clear h h2 hr2 hka hbo ht5 hr5 h5 hT hb hb5 hl2 ht
        gi_wp2
        refine ⟨trivial, nofun, (CallsIn.inRound _ (callsIn_wide.2 HBE.out)).mono ?_⟩
        rintro e W6 ⟨rfl, hk6⟩
        clear HBE s2
        rw [ebV_eq]
        generalize hx : ebE (srL (readL (dat cs ds) k)) = x
        have HX := hide hx
        have hk7 := hk6.trans (Keeps.alloc (Keeps.refl W6) (.cells #[.int .i64 x.k, .int .i64 x.y, .int .i64 x.c, .int .i64 x.t, .int .i64 x.m, .int .i64 x.f, .bool x.b] 30))
        have H7 := hide (H5.out.later hk7)
        have HK7 := hide hk7
        have hl5 := HR5.out.lt
        clear hx
        have hev := (born_alloc W6 #[.int .i64 x.k, .int .i64 x.y, .int .i64 x.c, .int .i64 x.t, .int .i64 x.m, .int .i64 x.f, .bool x.b] 30).toOwn
        cases hB : ebB (srL (readL (dat cs ds) k))
        · clear hk6 hk7 hev
          gi_wp2
          refine ⟨HR5.out.kept HK7.out, fun W8 ht8 => ⟨⟨v, ?_⟩, [W0.heap.size + 1], ?_, ?_⟩⟩
          · have h8 := H7.out.turn ht8 (fun b hb => by simp at hb; omega) (fun b hb => by simp at hb; omega) (by simp <;> omega) hlt hgl
            exact ⟨h8.mem, h8.err, h8.box, h8.free, by rw [evsTo_no hB]; exact h8.list, h8.kept⟩
          · intro b hb
            have : b = W0.heap.size + 1 := by simpa using hb
            omega
          · exact ((HT3.out.trans (Turn.of_keeps HK7.out [])).trans ht8).mono (by simp)
        · obtain ⟨ln, hln⟩ : ∃ ln, (evsTo (dat cs ds) k).length = ln := ⟨_, rfl⟩
          have hll := evsTo_len (dat cs ds) k
          rw [hln] at hll
          have hown := H7.out.list.row
          rw [hln] at hown
          obtain ⟨v', w8, e8, hr8, hg8, hv8⟩ := run_event (W6.alloc (.cells #[.int .i64 x.k, .int .i64 x.y, .int .i64 x.c, .int .i64 x.t, .int .i64 x.m, .int .i64 x.f, .bool x.b] 30)) (w.heap.size + 5 + 6) v ln _ x 39 hown (by omega) H7.out.list.size
          obtain ⟨g', cap', rfl⟩ := ownsRow_succ hr8
          have htv : Turn v.ownBlock.toList ((W6.alloc (.cells #[.int .i64 x.k, .int .i64 x.y, .int .i64 x.c, .int .i64 x.t, .int .i64 x.m, .int .i64 x.f, .bool x.b] 30)).alloc (.cells #[.int .i64 x.k, .int .i64 x.y, .int .i64 x.c, .int .i64 x.t, .int .i64 x.m, .int .i64 x.f, .bool x.b] 30)) w8 := Turn.of_grown hg8 (fun k hk' => by rw [hk']; simp)
          have hvb : ∀ b ∈ v.ownBlock.toList, w.heap.size + 5 + 6 ≤ b ∧ b < W2.heap.size := fun b hb => H2.out.list.row.lt b (by simpa using hb)
          have T8 : Turn v.ownBlock.toList (W6.alloc (.cells #[.int .i64 x.k, .int .i64 x.y, .int .i64 x.c, .int .i64 x.t, .int .i64 x.m, .int .i64 x.f, .bool x.b] 30)) w8 := ((Turn.of_keeps (Keeps.alloc (Keeps.refl (W6.alloc (.cells #[.int .i64 x.k, .int .i64 x.y, .int .i64 x.c, .int .i64 x.t, .int .i64 x.m, .int .i64 x.f, .bool x.b] 30))) (.cells #[.int .i64 x.k, .int .i64 x.y, .int .i64 x.c, .int .i64 x.t, .int .i64 x.m, .int .i64 x.f, .bool x.b] 30)) []).trans htv).mono (by simp)
          have b8 := T8.cell (p := ⟨w.heap.size + 1, 0, none⟩) (fun hx => by have := hvb _ hx; dsimp only at this; omega) H7.out.box
          have f8 : w8.frozen? ⟨w.heap.size + 1, 0, none⟩ = false := by rw [← H7.out.free]; exact World.frozen?_of_block (T8.block _ (lt_of_cell H7.out.box) (fun hx => by have := hvb _ hx; dsimp only at this; omega))
          have HL8 := hide (H2.out.list.snoc (x := x) (HT.out.trans (Turn.of_keeps hk7 [])) (fun b hb => by simp at hb; omega) (own_none _ x) (fun b hb' => by simp [fp, fpS, Ev.seg] at hb') hg8 (by rw [hln]; exact hr8) hv8)
          have HT8 := hide T8
          have HVB := hide hvb
          simp only [World.size_alloc] at e8
          have HE8 := hide e8
          have t0 := H7.out.box
          have hev0 := cell_at hev.mem 0 (by simp)
          have hev1 := cell_at hev.mem 1 (by simp)
          have hev2 := cell_at hev.mem 2 (by simp)
          have hev3 := cell_at hev.mem 3 (by simp)
          have hev4 := cell_at hev.mem 4 (by simp)
          have hev5 := cell_at hev.mem 5 (by simp)
          have hev6 := cell_at hev.mem 6 (by simp)
          simp only [Nat.zero_add, List.getElem_cons_zero, List.getElem_cons_succ] at hev0 hev1 hev2 hev3 hev4 hev5 hev6
          have hsz8 : W6.heap.size ≤ w8.heap.size := by have := T8.size; rw [World.size_alloc] at this; omega
          clear hown e8 hr8 hg8 hv8 htv hvb T8 hk6 hk7 hev
          gi_wp2_with (gi_at_builtin; refine wpListIn_append_run _ rfl (.tmp 17) (.tmp 19) 39 rfl _ _ rfl rfl _ _ HE8.out ?_)
          have T : Turn (v.ownBlock.toList ++ [w.heap.size + 1]) (W6.alloc (.cells #[.int .i64 x.k, .int .i64 x.y, .int .i64 x.c, .int .i64 x.t, .int .i64 x.m, .int .i64 x.f, .bool x.b] 30)) (w8.setCell ⟨w.heap.size + 1, 0, none⟩ (.slice (some ⟨g', 0, none⟩) (ln + 1) cap')) := HT8.out.trans (Turn.set (by simp) _)
          have hT1 : ∀ b ∈ v.ownBlock.toList ++ [w.heap.size + 1], (w.heap.size + 5 + 6 ≤ b ∧ b < W2.heap.size) ∨ b = w.heap.size + 1 := fun b hb => by
            rcases List.mem_append.1 hb with hb | hb
            · exact .inl (HVB.out b hb)
            · exact .inr (by simpa using hb)
          refine ⟨(HR5.out.kept HK7.out).turn T (fun hx => by have := hT1 _ hx; omega) (fun hx => by have := hT1 _ hx; omega), fun W9 ht9 => ⟨?_, [W0.heap.size + 1] ++ (v.ownBlock.toList ++ [w.heap.size + 1]), ?_, ?_⟩⟩
          · have h9 : EvI w (w.heap.size + 5) ca cc cs da dc ds u pv (k + 1) (w8.setCell ⟨w.heap.size + 1, 0, none⟩ (.slice (some ⟨g', 0, none⟩) (ln + 1) cap')) (.slice (some ⟨g', 0, none⟩) (ln + 1) cap') :=
              ⟨H7.out.mem.turn T (fun x hx hy => by have := hlt x hx; have := hT1 x hy; omega), T.cell (fun hy => by have := hT1 _ hy; dsimp only at this; omega) H7.out.err, World.cell?_setCell_same _ _ _ b8, by rw [World.frozen?_setCell]; exact f8,
               by rw [evsTo_yes hB, HX.out]; exact HL8.out.turn (Turn.set (fs := [w.heap.size + 1]) (by simp) _) (fun b hb => by simp at hb; omega), T.keeps H7.out.kept (fun b hb => by have := hT1 b hb; omega)⟩
            exact ⟨_, h9.turn ht9 (fun b hb => by simp at hb; omega) (fun b hb => by simp at hb; omega) (by simp <;> omega) hlt hgl⟩
          · intro b hb
            rcases List.mem_append.1 hb with hb | hb
            · have : b = W0.heap.size + 1 := by simpa using hb
              omega
            · have := hT1 b hb
              omega
          · exact (((HT3.out.trans (Turn.of_keeps HK7.out [])).mono (gs := [W0.heap.size + 1]) (by simp)).trans T |>.trans ht9).mono (fun x hx => by rcases List.mem_append.1 hx with hx | hx; exact hx; exact List.mem_append_left _ hx)
      · rintro e W'' (⟨he, hg, hr⟩ | ⟨_, _, hf, _⟩)
        · refine ⟨.inl ⟨he, hg.1, hr⟩, ?_⟩
          obtain ⟨gs, h1, h2⟩ := hg.2
          exact ⟨gs, fun b hb => by have := h1 b hb; omega, h2⟩
        · exact hf.elim
    · rintro e W2 ⟨hv, W3, (⟨⟨v, h⟩, h'⟩ | hf), ht⟩
      · have hz := HS0.out
        rw [hs1'] at ht
        exact ⟨hv, .inl ⟨⟨v, h.turn ht (fun b hb => by simp at hb; omega) (fun b hb => by simp at hb; omega) (by simp <;> omega) hlt hgl⟩, h'.turn ht (by simp <;> omega) (by simp <;> omega)⟩⟩
      · exact hf.elim
  · rintro W W' ⟨v, hG⟩ ht hK
    have hz := HS0.out
    have h2 := hG.turn ht (fun b hb => by simp at hb; omega) (fun b hb => by simp at hb; omega) (by simp <;> omega) hlt hgl
    obtain ⟨a, cap, rfl, hna, ho, hnew⟩ := h2.list.born
    have t0 := h2.box
    have HI := hide h2
    have HO := hide ho
    have HN := hide hnew
    clear h2 ho hnew hG ht
    gi_wp2
    refine ⟨by simp, .inl ⟨_, _, rfl, run_takeDeferred hK, ?_⟩⟩
    have T : Turn [W0.heap.size] W' (W'.putObj W0.heap.size (.deferred none)) := turn_putObj _ _ _
    have ho2 := HO.out.turn T (fun b hb hx => by have := HN.out b hb; simp at hx; omega)
    refine ⟨.slice a (evsTo (dat cs ds) (logN (dat cs ds))).length cap, by simp [results, Tryz.results12, go_sem], a, cap, rfl, ⟨Own.left (S := [_]) (T := (evsTo (dat cs ds) (logN (dat cs ds))).map Ev.seg) ho2, fun b hb => ?_⟩, ?_⟩
    · have := HN.out b (by rw [fp_cons]; rw [fp_one] at hb; exact List.mem_append_left _ hb)
      omega
    · exact T.keeps HI.out.kept (fun b hb => by simp at hb; omega)
  · intro c W W' hf
    exact hf.elim
end Go.Proofs.YtmkhlhjggbencaaGreatDoor

/- LogOpen of the program. -/
namespace Go.Proofs.YtmkhlhjggbencaaGreatDoor
open Go.RowKit Go.Deep
set_option linter.unusedVariables false
set_option maxRecDepth 10000

set_option maxHeartbeats 8000000 in
theorem logopen_impl (ca : Option Addr) (cc : Nat) (cs : List Bs) (da : Option Addr) (dc : Nat) (ds : List Wr) (w : World) (u : TypeId) (pv : Value) (hv : w.cell? ⟨0, 0, none⟩ = some (.iface u pv)) (hm : Mem w (dsk ca cs da ds)) (h : DOk cs ds) :
    Calls Tryz.prog 16 #[dskV ca cs.length cc da ds.length dc] w (OpPost w (dat cs ds)) := by
  have HKA := hide (Keeps.alloc (Keeps.alloc (Keeps.refl w) (.cells #[.slice ca cs.length cc, .slice da ds.length dc] 26)) (.cells #[.slice none 0 0, .slice none 0 0, .int .i64 0, .int .i64 0] 28))
  have HM := hide (hm.kept HKA.out)
  have HDO := hide h
  have hcl := h.c
  have hdl := h.d
  have HV := hide (HKA.out.cell hv)
  clear hv
  have HLC : Hid ((dat cs ds).cells.length = cs.length ∧ (dat cs ds).dirty.length = ds.length) := by show _ ∧ _; simp [dat]
  have HR := hide (row_new (w.alloc (.cells #[.slice ca cs.length cc, .slice da ds.length dc] 26)) #[.slice none 0 0, .slice none 0 0, .int .i64 0, .int .i64 0] 28)
  have HS : Hid ((w.alloc (.cells #[.slice ca cs.length cc, .slice da ds.length dc] 26)).heap.size = w.heap.size + 1 ∧ ((w.alloc (.cells #[.slice ca cs.length cc, .slice da ds.length dc] 26)).alloc (.cells #[.slice none 0 0, .slice none 0 0, .int .i64 0, .int .i64 0] 28)).heap.size = w.heap.size + 1 + 1) := by show _ ∧ _; exact ⟨by simp, by simp⟩
  rw [HS.out.1] at HR
  have HD : Hid (∀ w', Keeps ((w.alloc (.cells #[.slice ca cs.length cc, .slice da ds.length dc] 26)).alloc (.cells #[.slice none 0 0, .slice none 0 0, .int .i64 0, .int .i64 0] 28)) w' → w'.cell? ⟨w.heap.size, 0, none⟩ = some (.slice ca cs.length cc) ∧ w'.cell? ⟨w.heap.size, 1, none⟩ = some (.slice da ds.length dc)) :=
    fun w' hk => ⟨hk.cell (by simp), hk.cell (by simp)⟩
  have HT := hide (diskok_impl' ca cc cs da dc ds _ HM.out h)
  obtain ⟨b, hbb⟩ : ∃ b, dokM (dat cs ds) = b := ⟨_, rfl⟩
  rw [hbb] at HT
  have HBB := hide hbb
  clear hm h hbb
  obtain ⟨d0, d1⟩ := HD.out _ (Keeps.refl _)
  go_enter Tryz.func16, Tryz.ntmps16
  go_wp2_with fail
  have HSz := hide HS.out.2
  generalize ((w.alloc (.cells #[.slice ca cs.length cc, .slice da ds.length dc] 26)).alloc (.cells #[.slice none 0 0, .slice none 0 0, .int .i64 0, .int .i64 0] 28)) = W0 at *
  refine (unhide HT).mono ?_
  rintro x w1 ⟨rfl, hk⟩
  clear d0 d1 HT HS
  obtain ⟨d0, d1⟩ := HD.out _ hk
  replace HR := hide (hk.row HR.out)
  have HK1 := hide hk
  have hz : w.heap.size + 1 + 1 ≤ w1.heap.size := by have := hk.size; have := HSz.out; omega
  have q0 := HR.out.cell (i := 0) (by decide)
  have q1 := HR.out.cell (i := 1) (by decide)
  have q2 := HR.out.cell (i := 2) (by decide)
  have q3 := HR.out.cell (i := 3) (by decide)
  have g0 := HR.out.frozen 0
  have g1 := HR.out.frozen 1
  have g2 := HR.out.frozen 2
  have g3 := HR.out.frozen 3
  simp only [Array.getD] at q0 q1 q2 q3
  simp at q0 q1 q2 q3
  clear hk
  cases b
  · go_wp2_with fail
    have r9 := ((((HR.out.set 0 (.slice none 0 0)).set 1 (.slice none 0 0)).set 2 (.int .i64 0)).set 3 (.int .i64 0))
    have c0 := r9.cell (i := 0) (by decide)
    have c1 := r9.cell (i := 1) (by decide)
    have c2 := r9.cell (i := 2) (by decide)
    have c3 := r9.cell (i := 3) (by decide)
    simp at c0 c1 c2 c3
    have HSs : Hid (Turn [w.heap.size + 1] w1 ((((w1.setCell ⟨w.heap.size + 1, 0, none⟩ (.slice none 0 0)).setCell ⟨w.heap.size + 1, 1, none⟩ (.slice none 0 0)).setCell ⟨w.heap.size + 1, 2, none⟩ (.int .i64 0)).setCell ⟨w.heap.size + 1, 3, none⟩ (.int .i64 0))) := ((((Turn.set (by simp) _).trans' (Turn.set (by simp) _)).trans' (Turn.set (by simp) _)).trans' (Turn.set (by simp) _))
    clear r9 HR q0 q1 q2 q3 g0 g1 g2 g3
    revert c0 c1 c2 c3 HSs
    generalize World.setCell _ _ _ = W
    intro c0 c1 c2 c3 HSs
    have HKF : Hid (Keeps w W) := HSs.out.keeps (HKA.out.trans HK1.out) (fun b hb => by simp at hb; omega)
    refine bodyPost_ret (v := .tuple #[.agg #[.slice none 0 0, .slice none 0 0, .int .i64 0, .int .i64 0], .slice none 0 0, .int .i64 1]) ?_ rfl (OpPost.no (opC_one (by rw [HBB.out]; rfl)) (by decide) HKF.out)
    simp [results, Tryz.results16, go_sem, c0, c1, c2, c3]
  · have hle := (dokM_len HBB.out)
    rw [HLC.out.1, HLC.out.2] at hle
    by_cases hd0 : ds.length = 0
    · have hd0' : ¬ ((0 : Int) < (ds.length : Int)) := by omega
      have HDZ := hide hd0
      have hq0 : decide ((0 : Int) < (ds.length : Int)) = false := decide_eq_false hd0'
      clear hd0
      have HT := hide (logread_impl ca cc cs da dc ds w1 u pv (HK1.out.cell HV.out) (HM.out.kept HK1.out) HDO.out)
      go_wp2_with fail
      refine (unhide HT).mono ?_
      rintro x w2 ⟨oa, oc, nb, rfl, hkey, hna, hb, hk⟩
      clear d0 d1 q0 q1 q2 q3 g0 g1 g2 g3 HT hkey hna hb
      obtain ⟨d0, d1⟩ := HD.out _ (HK1.out.trans hk)
      replace HR := hide (hk.row HR.out)
      have HK2 := hide (HK1.out.trans hk)
      replace hz : w.heap.size + 1 + 1 ≤ w2.heap.size := by have := hk.size; omega
      clear hk
      have HT := hide (logtop_impl ca cc cs da dc ds w2 u pv (HK2.out.cell HV.out) (HM.out.kept HK2.out) HDO.out)
      have htb := topM_bound (dat cs ds)
      have hlb : logN (dat cs ds) ≤ cs.length := by rw [← HLC.out.1]; exact logTo_le _ _
      have HNd : Hid (∀ h2 : ¬ (logN (dat cs ds) = cs.length ∨ topM (dat cs ds) = 16000000), opC (dat cs ds) = 0 ∧ dokM (opW (dat cs ds)) = true) := fun h2 => by
        rw [← HLC.out.1] at h2
        have hd : (dat cs ds).dirty.length = 0 := by rw [HLC.out.2]; exact HDZ.out
        exact ⟨opC_zero HBB.out hd h2, opW_ok HBB.out hd h2⟩
      have HNt : Hid (∀ h2 : logN (dat cs ds) = cs.length ∨ topM (dat cs ds) = 16000000, opC (dat cs ds) = 2) := fun h2 => by
        rw [← HLC.out.1] at h2
        exact opC_two HBB.out (by rw [HLC.out.2]; exact HDZ.out) h2
      obtain ⟨tp, htp⟩ : ∃ tp, topM (dat cs ds) = tp := ⟨_, rfl⟩
      obtain ⟨ln, hln⟩ : ∃ ln, logN (dat cs ds) = ln := ⟨_, rfl⟩
      have HTP := hide htp
      have HLN := hide hln
      rw [htp] at HT htb HNd HNt
      rw [hln] at hlb HNd HNt
      rw [hln]
      clear htp hln
      go_wp2_with fail
      refine (unhide HT).mono ?_
      rintro x w3 ⟨rfl, hk⟩
      clear d0 d1 HT
      obtain ⟨d0, d1⟩ := HD.out _ (HK2.out.trans hk)
      replace HR := hide (hk.row HR.out)
      have HK3 := hide (HK2.out.trans hk)
      replace hz : w.heap.size + 1 + 1 ≤ w3.heap.size := by have := hk.size; omega
      have q0 := HR.out.cell (i := 0) (by decide)
      have q1 := HR.out.cell (i := 1) (by decide)
      have q2 := HR.out.cell (i := 2) (by decide)
      have q3 := HR.out.cell (i := 3) (by decide)
      have g0 := HR.out.frozen 0
      have g1 := HR.out.frozen 1
      have g2 := HR.out.frozen 2
      have g3 := HR.out.frozen 3
      simp only [Array.getD] at q0 q1 q2 q3
      simp at q0 q1 q2 q3
      clear hk
      by_cases h1 : (ln : Int) = (cs.length : Int)
      · go_wp2_with fail
        have r9 := ((((HR.out.set 0 (.slice none 0 0)).set 1 (.slice none 0 0)).set 2 (.int .i64 0)).set 3 (.int .i64 0))
        have c0 := r9.cell (i := 0) (by decide)
        have c1 := r9.cell (i := 1) (by decide)
        have c2 := r9.cell (i := 2) (by decide)
        have c3 := r9.cell (i := 3) (by decide)
        simp at c0 c1 c2 c3
        have HSs : Hid (Turn [w.heap.size + 1] w3 ((((w3.setCell ⟨w.heap.size + 1, 0, none⟩ (.slice none 0 0)).setCell ⟨w.heap.size + 1, 1, none⟩ (.slice none 0 0)).setCell ⟨w.heap.size + 1, 2, none⟩ (.int .i64 0)).setCell ⟨w.heap.size + 1, 3, none⟩ (.int .i64 0))) := ((((Turn.set (by simp) _).trans' (Turn.set (by simp) _)).trans' (Turn.set (by simp) _)).trans' (Turn.set (by simp) _))
        clear r9 HR q0 q1 q2 q3 g0 g1 g2 g3
        revert c0 c1 c2 c3 HSs
        generalize World.setCell _ _ _ = W
        intro c0 c1 c2 c3 HSs
        have HKF : Hid (Keeps w W) := HSs.out.keeps (HKA.out.trans HK3.out) (fun b hb => by simp at hb; omega)
        refine bodyPost_ret (v := .tuple #[.agg #[.slice none 0 0, .slice none 0 0, .int .i64 0, .int .i64 0], .slice none 0 0, .int .i64 2]) ?_ rfl (OpPost.no (HNt.out (.inl (by omega))) (by decide) HKF.out)
        simp [results, Tryz.results16, go_sem, c0, c1, c2, c3]
      · have hq1 : ((ln : Int) == (cs.length : Int)) = false := beq_eq_false_iff_ne.2 h1
        by_cases h2 : tp = 16000000
        · have HQ2 := hide h2
          have hq2 : (tp == 16000000) = true := by simp [h2]
          clear h2
          go_wp2_with fail
          have r9 := ((((HR.out.set 0 (.slice none 0 0)).set 1 (.slice none 0 0)).set 2 (.int .i64 0)).set 3 (.int .i64 0))
          have c0 := r9.cell (i := 0) (by decide)
          have c1 := r9.cell (i := 1) (by decide)
          have c2 := r9.cell (i := 2) (by decide)
          have c3 := r9.cell (i := 3) (by decide)
          simp at c0 c1 c2 c3
          have HSs : Hid (Turn [w.heap.size + 1] w3 ((((w3.setCell ⟨w.heap.size + 1, 0, none⟩ (.slice none 0 0)).setCell ⟨w.heap.size + 1, 1, none⟩ (.slice none 0 0)).setCell ⟨w.heap.size + 1, 2, none⟩ (.int .i64 0)).setCell ⟨w.heap.size + 1, 3, none⟩ (.int .i64 0))) := ((((Turn.set (by simp) _).trans' (Turn.set (by simp) _)).trans' (Turn.set (by simp) _)).trans' (Turn.set (by simp) _))
          clear r9 HR q0 q1 q2 q3 g0 g1 g2 g3
          revert c0 c1 c2 c3 HSs
          generalize World.setCell _ _ _ = W
          intro c0 c1 c2 c3 HSs
          have HKF : Hid (Keeps w W) := HSs.out.keeps (HKA.out.trans HK3.out) (fun b hb => by simp at hb; omega)
          refine bodyPost_ret (v := .tuple #[.agg #[.slice none 0 0, .slice none 0 0, .int .i64 0, .int .i64 0], .slice none 0 0, .int .i64 2]) ?_ rfl (OpPost.no (HNt.out (.inr HQ2.out)) (by decide) HKF.out)
          simp [results, Tryz.results16, go_sem, c0, c1, c2, c3]
        · have hq2 : (tp == 16000000) = false := beq_eq_false_iff_ne.2 h2
          obtain ⟨hc0, hwok⟩ := HNd.out (fun hx => by omega)
          have HC0 := hide hc0
          have HWOK := hide hwok
          clear hc0 hwok
          have hkB := Keeps.alloc (Keeps.refl w3) (.cells #[.int .u8 66] 5 (1, 2))
          have kc := fun (w : World) (C : Array Value) (n c : Nat) => Lib.run_convert_bytes_const (P := Tryz.prog) w 22 5 C n c Tryz.underlying22 Tryz.underlying5
          have HT := hide (with_impl ca cc cs da dc ds (ln : Int) (tp + 1) (some ⟨w3.heap.size, 0, none⟩) 1 [66] (w3.alloc (.cells #[.int .u8 66] 5 (1, 2))) ((HM.out.kept HK3.out).kept hkB) HDO.out (bys_Bm w3) (fun e => nomatch e) (by decide) (by omega) (by omega))
          clear d0 d1 q0 q1 q2 q3 g0 g1 g2 g3
          obtain ⟨d0, d1⟩ := HD.out _ HK3.out
          go_wp2_with fail
          refine (unhide HT).mono ?_
          rintro x w4 ⟨v, rfl, hr, hk⟩
          obtain ⟨ca2, cc2, cs2, da2, dc2, ds2, rfl, he2, hok2, hna2, hnd2, hb2⟩ := hr
          clear d0 d1 HT hna2 hnd2 kc
          have HKM := hide (((HK3.out.trans hkB).trans hk).alloc (.cells #[.slice ca2 cs2.length cc2, .slice da2 ds2.length dc2, .int .i64 ((ln : Int) + 1), .int .i64 (tp + 1)] 28))
          obtain ⟨d0, d1⟩ := HD.out _ HKM.out
          replace HR := hide (((hkB.trans hk).alloc (.cells #[.slice ca2 cs2.length cc2, .slice da2 ds2.length dc2, .int .i64 ((ln : Int) + 1), .int .i64 (tp + 1)] 28)).row HR.out)
          have HB2 := hide (hb2.toOwn.kept (Keeps.alloc (Keeps.refl w4) (.cells #[.slice ca2 cs2.length cc2, .slice da2 ds2.length dc2, .int .i64 ((ln : Int) + 1), .int .i64 (tp + 1)] 28)))
          have HE2 : Hid (dat cs2 ds2 = opW (dat cs ds)) := by show _ = _; rw [he2]; unfold opW; rw [HLN.out, HTP.out]
          have HOK2 := hide hok2
          have hmo := (born_alloc w4 #[.slice ca2 cs2.length cc2, .slice da2 ds2.length dc2, .int .i64 ((ln : Int) + 1), .int .i64 (tp + 1)] 28).toOwn
          have m0 := cell_at hmo.mem 0 (by simp)
          have m1 := cell_at hmo.mem 1 (by simp)
          have m2 := cell_at hmo.mem 2 (by simp)
          have m3 := cell_at hmo.mem 3 (by simp)
          simp only [Nat.zero_add, List.getElem_cons_zero, List.getElem_cons_succ] at m0 m1 m2 m3
          have HMO := hide hmo
          replace hz : w.heap.size + 1 + 1 ≤ w4.heap.size := by have := (hkB.trans hk).size; omega
          clear hk hkB he2 hok2 hb2 hmo
          go_wp2_with fail
          generalize w4.alloc (.cells #[.slice ca2 cs2.length cc2, .slice da2 ds2.length dc2, .int .i64 ((ln : Int) + 1), .int .i64 (tp + 1)] 28) = w5 at *
          generalize hMB : w4.heap.size = MB at *
          have HTS := hide (fun w' (hk : Keeps w5 w') => logsync_impl ca2 cc2 cs2 da2 dc2 ds2 ((ln : Int) + 1) (tp + 1) w' (HB2.out.mem.kept hk) HOK2.out)
          have HTE := hide (fun w' (hk : Keeps w5 w') => logevents_impl ca cc cs da dc ds w' u pv ((HKM.out.trans hk).cell HV.out) (HM.out.kept (HKM.out.trans hk)) HDO.out)
          have hz5 : w.heap.size + 1 + 1 ≤ w5.heap.size := by have := HKM.out.size; have := HSz.out; omega
          have hne : ¬ MB = w.heap.size + 1 := by omega
          have hne' : ¬ w.heap.size + 1 = MB := by omega
          go_region_held3 (fun w' => w'.cell? ⟨w.heap.size, 0, none⟩ = some (.slice ca cs.length cc) ∧ w'.cell? ⟨w.heap.size, 1, none⟩ = some (.slice da ds.length dc) ∧ w'.cell? ⟨MB, 0, none⟩ = some (.slice ca2 cs2.length cc2) ∧ w'.cell? ⟨MB, 1, none⟩ = some (.slice da2 ds2.length dc2) ∧ w'.cell? ⟨MB, 2, none⟩ = some (.int .i64 ((ln : Int) + 1)) ∧ w'.cell? ⟨MB, 3, none⟩ = some (.int .i64 (tp + 1))) (first | (go_keep; done) | (refine ⟨?_, ?_, ?_, ?_, ?_, ?_⟩ <;> (rw [World.cell?_setCell_other _ _ _ _ (by simp <;> omega), World.cell?_setCell_other _ _ _ _ (by simp <;> omega), World.cell?_setCell_other _ _ _ _ (by simp <;> omega), World.cell?_setCell_other _ _ _ _ (by simp <;> omega)]; assumption)))
            (first
              | (go_at_call 14
                 refine (unhide HTS _ (Keeps.refl w5).drew).mono ?_
                 rintro x w6 ⟨v, rfl, hr, hk⟩
                 rw [HE2.out] at hr
                 unfold syncM syncN at hr
                 rw [HWOK.out, if_pos rfl, if_pos rfl, if_pos rfl] at hr
                 obtain ⟨ca3, cc3, cs3, da3, dc3, ds3, rfl, he3, hok3, hna3, hnd3, hb3⟩ := hr
                 have hk6 := (Keeps.refl w5).drew.trans hk
                 have HB3 := hide (hb3.old (Keeps.refl w5).drew)
                 have HF := hide (⟨he3, hok3, hna3, hnd3⟩ : _ ∧ _ ∧ _ ∧ _)
                 have HK6 := hide hk6
                 have n0 := hk6.cell m0
                 have n1 := hk6.cell m1
                 have n2 := hk6.cell m2
                 have n3 := hk6.cell m3
                 obtain ⟨d0, d1⟩ := HD.out _ (HKM.out.trans hk6)
                 clear hb3 he3 hok3 hna3 hnd3 hk hk6)
              | (go_at_call 12
                 refine (unhide HTE _ HK6.out).mono ?_
                 rintro x w7 hpost
                 unfold LePost at hpost
                 rw [HLN.out] at hpost
                 obtain ⟨ea, ec, rfl, hbe, hk⟩ := hpost
                 have hk1 := HK6.out.trans hk
                 have HK7 := hide (HKM.out.trans hk1)
                 have p0 := hk.cell n0
                 have p1 := hk.cell n1
                 have p2 := hk.cell n2
                 have p3 := hk.cell n3
                 have HBJ := hide ((HB3.out.join hk HK6.out (hbe.old (Keeps.refl _))).old (HKA.out.trans HKM.out))
                 have HBN : Hid (∀ b ∈ fp (dsk ca3 cs3 da3 ds3 ++ [(ea, ecells (evsTo (dat cs ds) ln))]), w.heap.size + 1 + 1 ≤ b) := fun b hb => by
                   rw [fp_append] at hb
                   have h6 := HK6.out.size
                   rcases List.mem_append.1 hb with hb | hb
                   · have := HB3.out.new b hb; omega
                   · have := hbe.new b hb; omega
                 replace HR := hide (hk1.row HR.out)
                 obtain ⟨d0, d1⟩ := HD.out _ HK7.out
                 have hz7 : w.heap.size + 1 + 1 ≤ w7.heap.size := by have := hk1.size; omega
                 have q0 := HR.out.cell (i := 0) (by decide)
                 have q1 := HR.out.cell (i := 1) (by decide)
                 have q2 := HR.out.cell (i := 2) (by decide)
                 have q3 := HR.out.cell (i := 3) (by decide)
                 have g0 := HR.out.frozen 0
                 have g1 := HR.out.frozen 1
                 have g2 := HR.out.frozen 2
                 have g3 := HR.out.frozen 3
                 simp only [Array.getD] at q0 q1 q2 q3
                 simp at q0 q1 q2 q3
                 clear hbe hk hk1))
          go_wp2_with fail
          have r9 := ((((HR.out.set 0 (.slice ca3 cs3.length cc3)).set 1 (.slice da3 ds3.length dc3)).set 2 (.int .i64 ((ln : Int) + 1))).set 3 (.int .i64 (tp + 1)))
          have c0 := r9.cell (i := 0) (by decide)
          have c1 := r9.cell (i := 1) (by decide)
          have c2 := r9.cell (i := 2) (by decide)
          have c3 := r9.cell (i := 3) (by decide)
          simp at c0 c1 c2 c3
          have HSs : Hid (Turn [w.heap.size + 1] w7 ((((w7.setCell ⟨w.heap.size + 1, 0, none⟩ (.slice ca3 cs3.length cc3)).setCell ⟨w.heap.size + 1, 1, none⟩ (.slice da3 ds3.length dc3)).setCell ⟨w.heap.size + 1, 2, none⟩ (.int .i64 ((ln : Int) + 1))).setCell ⟨w.heap.size + 1, 3, none⟩ (.int .i64 (tp + 1)))) := ((((Turn.set (by simp) _).trans' (Turn.set (by simp) _)).trans' (Turn.set (by simp) _)).trans' (Turn.set (by simp) _))
          clear r9 HR q0 q1 q2 q3 g0 g1 g2 g3
          revert c0 c1 c2 c3 HSs
          generalize World.setCell _ _ _ = W
          intro c0 c1 c2 c3 HSs
          have HKF : Hid (Keeps w W) := HSs.out.keeps (HKA.out.trans HK7.out) (fun b hb => by simp at hb; omega)
          have hbw : Born w W (dsk ca3 cs3 da3 ds3 ++ [(ea, ecells (evsTo (dat cs ds) ln))]) := HBJ.out.turn HSs.out (fun b hb hx => by have := HBN.out b hb; simp at hx; omega)
          have hpo := OpPost.yes (w := w) (w' := W) (m := dat cs ds) (a := ea) (c := ec) HC0.out HF.out.1 HF.out.2.1 HF.out.2.2.1 HF.out.2.2.2 (by rw [HLN.out]; exact hbw) HKF.out
          rw [HLN.out, HTP.out] at hpo
          have HPost := hide hpo
          clear hbw hpo
          refine bodyPost_ret (v := .tuple #[logV ca3 cs3.length cc3 da3 ds3.length dc3 ((ln : Int) + 1) (tp + 1), .slice ea (evsTo (dat cs ds) ln).length ec, .int .i64 0]) ?_ rfl (HPost.out)
          simp [results, Tryz.results16, go_sem, c0, c1, c2, c3]
    · have hd0' : (0 : Int) < (ds.length : Int) := by omega
      go_wp2_with fail
      have r9 := ((((HR.out.set 0 (.slice none 0 0)).set 1 (.slice none 0 0)).set 2 (.int .i64 0)).set 3 (.int .i64 0))
      have c0 := r9.cell (i := 0) (by decide)
      have c1 := r9.cell (i := 1) (by decide)
      have c2 := r9.cell (i := 2) (by decide)
      have c3 := r9.cell (i := 3) (by decide)
      simp at c0 c1 c2 c3
      have HSs : Hid (Turn [w.heap.size + 1] w1 ((((w1.setCell ⟨w.heap.size + 1, 0, none⟩ (.slice none 0 0)).setCell ⟨w.heap.size + 1, 1, none⟩ (.slice none 0 0)).setCell ⟨w.heap.size + 1, 2, none⟩ (.int .i64 0)).setCell ⟨w.heap.size + 1, 3, none⟩ (.int .i64 0))) := ((((Turn.set (by simp) _).trans' (Turn.set (by simp) _)).trans' (Turn.set (by simp) _)).trans' (Turn.set (by simp) _))
      clear r9 HR q0 q1 q2 q3 g0 g1 g2 g3
      revert c0 c1 c2 c3 HSs
      generalize World.setCell _ _ _ = W
      intro c0 c1 c2 c3 HSs
      have HKF : Hid (Keeps w W) := HSs.out.keeps (HKA.out.trans HK1.out) (fun b hb => by simp at hb; omega)
      refine bodyPost_ret (v := .tuple #[.agg #[.slice none 0 0, .slice none 0 0, .int .i64 0, .int .i64 0], .slice none 0 0, .int .i64 1]) ?_ rfl (OpPost.no (opC_one (by rw [HBB.out, HLC.out.2, decide_eq_false hd0]; rfl)) (by decide) HKF.out)
      simp [results, Tryz.results16, go_sem, c0, c1, c2, c3]
end Go.Proofs.YtmkhlhjggbencaaGreatDoor
