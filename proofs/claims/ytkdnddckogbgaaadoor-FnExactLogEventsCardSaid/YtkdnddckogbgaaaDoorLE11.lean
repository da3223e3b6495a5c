/- Texts of the verifier, joined: LgI, Cpy, Sls, LRi. -/
import Derived.Test.YtkdnddckogbgaaaDoorLE10
import Derived.Test.YtkdnddckogbgaaaDoorLE9
import Derived.Maps.AppendAt
namespace Go.Proofs.YtkdnddckogbgaaaDoor
open Go.RowKit Go.Deep Go.Shelf
set_option linter.unusedVariables false
set_option maxRecDepth 10000
attribute [local go_sem] Oper.semAt_some

theorem log_make (ca : Option Addr) (cc : Nat) (cs : List Bs) (da : Option Addr) (dc : Nat) (ds : List Wr) (w : World) :
    Calls Tryd.prog 29 #[dskV ca cs.length cc da ds.length dc] w fun e w' => e = .returned (.func (.func 48) #[] #[.pointer (some ⟨w.heap.size, 0, none⟩)]) ∧ w' = w.alloc (.cells #[.slice ca cs.length cc, .slice da ds.length dc] 33) := by
  have hmf : ∀ (fn : Fn) (first cap : Array Value) (w : World), (Instr.makeFunc fn first cap).run Tryd.prog w = .ok (.func fn first cap) w := fun _ _ _ _ => rfl
  go_enter Tryd.func29, Tryd.ntmps29
  go_wp2_with fail
  go_ret
  exact ⟨rfl, rfl⟩
/-- The blocks that the iterator itself turns: the next number, the epoch, its own loop's two. -/
abbrev lown (lo : Nat) : List Nat := [lo + 1, lo + 1 + 1, lo + 4, lo + 4 + 1]
/-- Between two rounds of the iterator's own loop: j sectors have been told, cell k comes next. -/
structure LogJ (m : DkM) (lo l : Nat) (ca : Option Addr) (cc : Nat) (cs : List Bs) (da : Option Addr) (dc : Nat) (ds : List Wr) (u : TypeId) (pv : Value) (J : Nat → World → Prop) (j k : Nat) (W : World) : Prop where
  le : j ≤ k
  fit : fitTo m j
  gap : ∀ i, j ≤ i → i < k → srB (readL m i) = false
  yld : W.cell? ⟨lo, 0, none⟩ = some (.func (.yield l) #[] #[])
  next : W.cell? ⟨lo + 1, 0, none⟩ = some (.int .i64 (j : Nat))
  nfree : W.frozen? ⟨lo + 1, 0, none⟩ = false
  ep : W.cell? ⟨lo + 1 + 1, 0, none⟩ = some (.int .i64 (lastE m j))
  efree : W.frozen? ⟨lo + 1 + 1, 0, none⟩ = false
  at_ : AllAt (lo + 1 + 1 + 1) ca cc cs da dc ds u pv W
  size : lo + 6 ≤ W.heap.size
  out : J j W
section
variable {m : DkM} {lo l : Nat} {ca : Option Addr} {cc : Nat} {cs : List Bs} {da : Option Addr} {dc : Nat} {ds : List Wr} {u : TypeId} {pv : Value} {J : Nat → World → Prop} {j k : Nat} {W W' : World}
theorem LogJ.later (hA : ∀ k W1 W2, J k W1 → Turn (lown lo) W1 W2 → J k W2) (h : LogJ m lo l ca cc cs da dc ds u pv J j k W) (ht : Keeps W W') : LogJ m lo l ca cc cs da dc ds u pv J j k W' :=
  have hs := h.size
  ⟨h.le, h.fit, h.gap, ht.cell h.yld, ht.cell h.next, by rw [ht.oldF _ _ (by omega)]; exact h.nfree, ht.cell h.ep, by rw [ht.oldF _ _ (by omega)]; exact h.efree, h.at_.kept ht, Nat.le_trans h.size ht.size, hA _ _ _ h.out (Turn.of_keeps ht _)⟩
/-- The record of the iterator's own loop turns. -/
theorem LogJ.turnR (hA : ∀ k W1 W2, J k W1 → Turn (lown lo) W1 W2 → J k W2) (h : LogJ m lo l ca cc cs da dc ds u pv J j k W) (ht : Turn [lo + 4 + 1] W W') (h2 : ∀ x ∈ fp (dsk ca cs da ds), x < lo) (h3 : 0 < lo) : LogJ m lo l ca cc cs da dc ds u pv J j k W' :=
  have hs := h.size
  ⟨h.le, h.fit, h.gap, ht.cell (by simp <;> omega) h.yld, ht.cell (by simp <;> omega) h.next, by rw [← h.nfree]; exact World.frozen?_of_block (ht.block _ (by show lo + 1 < _; omega) (by simp <;> omega)), ht.cell (by simp <;> omega) h.ep, by rw [← h.efree]; exact World.frozen?_of_block (ht.block _ (by show lo + 1 + 1 < _; omega) (by simp <;> omega)),
   h.at_.turn ht (by simp <;> omega) (fun x hx hy => by have := h2 x hx; simp at hy; omega) (by simp <;> omega), Nat.le_trans h.size ht.size, hA _ _ _ h.out (ht.mono (by simp))⟩
/-- What the round of the one that ranges over the log kept. -/
theorem LogJ.round {gs : List Nat} (h : LogJ m lo l ca cc cs da dc ds u pv J j k W) (ht : Turn gs W W') (hg : ∀ b ∈ gs, b < lo ∨ lo + 6 ≤ b) :
    W'.cell? ⟨lo, 0, none⟩ = some (.func (.yield l) #[] #[]) ∧ W'.cell? ⟨lo + 1, 0, none⟩ = some (.int .i64 (j : Nat)) ∧ W'.frozen? ⟨lo + 1, 0, none⟩ = false ∧ W'.cell? ⟨lo + 1 + 1, 0, none⟩ = some (.int .i64 (lastE m j)) ∧ W'.frozen? ⟨lo + 1 + 1, 0, none⟩ = false ∧ lo + 6 ≤ W'.heap.size :=
  have hs := h.size
  ⟨ht.cell (fun hx => by have := hg _ hx; dsimp only at this; omega) h.yld, ht.cell (fun hx => by have := hg _ hx; dsimp only at this; omega) h.next,
   by rw [← h.nfree]; exact World.frozen?_of_block (ht.block _ (by show lo + 1 < _; omega) (fun hx => by have := hg _ hx; dsimp only at this; omega)),
   ht.cell (fun hx => by have := hg _ hx; dsimp only at this; omega) h.ep,
   by rw [← h.efree]; exact World.frozen?_of_block (ht.block _ (by show lo + 1 + 1 < _; omega) (fun hx => by have := hg _ hx; dsimp only at this; omega)), Nat.le_trans h.size ht.size⟩
end
theorem LogJ.stop {m : DkM} {lo l : Nat} {ca : Option Addr} {cc : Nat} {cs : List Bs} {da : Option Addr} {dc : Nat} {ds : List Wr} {u : TypeId} {pv : Value} {J : Nat → World → Prop} {j k : Nat} {W : World} (h : LogJ m lo l ca cc cs da dc ds u pv J j k W) (hk : k ≤ m.cells.length) (hn : j = k → k = m.cells.length ∨ fitB m k = false) : J (logN m) W := by
  have e : logN m = j := by
    by_cases e : j = k
    · subst e
      rcases hn rfl with h1 | h1
      · unfold logN; rw [← h1]; exact logTo_all h.fit
      · exact logTo_stop h.fit h1 hk
    · have h1 := h.gap j (Nat.le_refl _) (by have := h.le; omega)
      exact logTo_stop h.fit (by simp [fitB, h1]) (by have := h.le; omega)
  rw [e]
  exact h.out
set_option maxHeartbeats 8000000 in
theorem log_in (n l Bx : Nat) (ca : Option Addr) (cc : Nat) (cs : List Bs) (da : Option Addr) (dc : Nat) (ds : List Wr) (u : TypeId) (pv : Value) (J : Nat → World → Prop) (Jx : World → Prop) (hd : DOk cs ds) (hn : 9 ≤ n) (W : World)
    (hat : AllAt Bx ca cc cs da dc ds u pv W)
    (hJ : ∀ k W1, J k W1 → Mem W1 (dsk ca cs da ds) ∧ W1.cell? ⟨0, 0, none⟩ = some (.iface u pv))
    (hA : ∀ k W1 W2, J k W1 → Turn (lown W.heap.size) W1 W2 → J k W2)
    (hX : ∀ W1 W2, Jx W1 → Turn (lown W.heap.size) W1 W2 → Jx W2)
    (h0 : ∀ W1, Keeps W W1 → W.heap.size + 6 ≤ W1.heap.size → J 0 W1)
    (hY : ∀ k W1 W2 a c n', k < cs.length → fitTo (dat cs ds) k → fitB (dat cs ds) k = true → J k W1 → Turn (lown W.heap.size) W1 W2 → W.heap.size + 6 ≤ W1.heap.size → CapB a c (srL (readL (dat cs ds) k)).length → Born W1 W2 [(a, bys (srL (readL (dat cs ds) k)))] →
      YieldAt Fence.wide n' Tryd.prog l #[secV (srQ (readL (dat cs ds) k)) (srE (readL (dat cs ds) k)) a (srL (readL (dat cs ds) k)).length c] W2 fun e W3 =>
        ((e = .returned (.bool true) ∧ J (k + 1) W3) ∨ (e = .returned (.bool false) ∧ Jx W3)) ∧ ∃ gs, (∀ b ∈ gs, b < W1.heap.size ∧ (b < W.heap.size ∨ W.heap.size + 6 ≤ b)) ∧ Turn gs W2 W3) :
    CallsIn Fence.wide n Tryd.prog 48 #[.func (.yield l) #[] #[], .pointer (some ⟨Bx, 0, none⟩)] W fun e W' => (∃ v, e = .returned v) ∧ ∃ W1, (J (logN (dat cs ds)) W1 ∨ Jx W1) ∧ Turn [W.heap.size + 4, W.heap.size + 4 + 1] W1 W' := by
  have hmlen : (dat cs ds).cells.length = cs.length := by simp [dat]
  have hlt := hat.2.2.1.lt
  have hgl := lt_of_cell hat.2.2.2
  refine callsIn_of_wp_marks Tryd.func48 rfl trivial ?_ rfl
  simp only [Tryd.ntmps48, List.size_toArray, List.length_cons, List.length_nil, Nat.reduceAdd, Nat.reduceSub, Array.replicate_succ, Array.replicate_zero, List.push_toArray, List.append_toArray, List.nil_append, List.cons_append]
  have HJ := hide hJ
  have HA := hide hA
  have HY := hide hY
  have HX := hide hX
  have HD := hide hd
  have H0 := hide h0
  have HML := hide hmlen
  obtain ⟨b0, b1, hm, hv⟩ := hat
  have HM := hide hm
  have HV := hide hv
  clear hJ hA hY hX hd h0 hmlen hm hv
  have hbl := lt_of_cell b0
  have hk3 : Keeps W (((W.alloc (.cells #[.func (.yield l) #[] #[]] 88)).alloc (.cells #[.int .i64 0] 3)).alloc (.cells #[.int .i64 0] 3)) := (((Keeps.refl W).alloc _).alloc _).alloc _
  have c0 := hk3.cell b0
  have c1 := hk3.cell b1
  gi_wp2
  refine ⟨trivial, nofun, (callsIn_wide.2 (all_make ca cc cs da dc ds _)).mono ?_⟩
  rintro e w1 ⟨rfl, rfl⟩
  gi_wp2
  obtain ⟨W4, hW4⟩ : ∃ W4, (((W.alloc (.cells #[.func (.yield l) #[] #[]] 88)).alloc (.cells #[.int .i64 0] 3)).alloc (.cells #[.int .i64 0] 3)).alloc (.cells #[.slice ca cs.length cc, .slice da ds.length dc] 33) = W4 := ⟨_, rfl⟩
  have HS4 : Hid (W4.heap.size = W.heap.size + 4) := by show _ = _; rw [← hW4]; simp
  have hk4 : Keeps W W4 := by rw [← hW4]; exact hk3.alloc _
  have y1 := (born_alloc W #[.func (.yield l) #[] #[]] 88).toOwn.kept ((((Keeps.refl _).alloc (.cells #[.int .i64 0] 3)).alloc (.cells #[.int .i64 0] 3)).alloc (.cells #[.slice ca cs.length cc, .slice da ds.length dc] 33))
  have y2 := (born_alloc (W.alloc (.cells #[.func (.yield l) #[] #[]] 88)) #[.int .i64 0] 3).toOwn.kept (((Keeps.refl _).alloc (.cells #[.int .i64 0] 3)).alloc (.cells #[.slice ca cs.length cc, .slice da ds.length dc] 33))
  have y3 := (born_alloc ((W.alloc (.cells #[.func (.yield l) #[] #[]] 88)).alloc (.cells #[.int .i64 0] 3)) #[.int .i64 0] 3).toOwn.kept ((Keeps.refl _).alloc (.cells #[.slice ca cs.length cc, .slice da ds.length dc] 33))
  have y4 := (born_alloc (((W.alloc (.cells #[.func (.yield l) #[] #[]] 88)).alloc (.cells #[.int .i64 0] 3)).alloc (.cells #[.int .i64 0] 3)) #[.slice ca cs.length cc, .slice da ds.length dc] 33).toOwn
  rw [hW4] at y1 y2 y3 y4
  simp only [World.size_alloc] at y2 y3 y4
  rw [hW4]
  have HI4 : Hid (∀ W1, Keeps W4 W1 → W1.heap.size = W4.heap.size + 2 → LogJ (dat cs ds) W.heap.size l ca cc cs da dc ds u pv J 0 0 W1) := fun W1 hk1 hs1 => by
    have z1 := cell_at (y1.kept hk1).mem 0 (by simp)
    have z2 := cell_at (y2.kept hk1).mem 0 (by simp)
    have z3 := cell_at (y3.kept hk1).mem 0 (by simp)
    have z4 := cell_at (y4.kept hk1).mem 0 (by simp)
    have z5 := cell_at (y4.kept hk1).mem 1 (by simp)
    simp only [Nat.zero_add, List.getElem_cons_zero, List.getElem_cons_succ] at z1 z2 z3 z4 z5
    have hs := HS4.out
    exact ⟨Nat.le_refl _, fun j hj => absurd hj (by omega), fun i hi hi' => absurd hi' (by omega), z1, z2, (y2.kept hk1).free (W.heap.size + 1) (by simp [fp, fpS]) 0, z3, (y3.kept hk1).free (W.heap.size + 1 + 1) (by simp [fp, fpS]) 0,
      ⟨z4, z5, HM.out.kept (hk4.trans hk1), (hk4.trans hk1).cell HV.out⟩, by omega, H0.out W1 (hk4.trans hk1) (by omega)⟩
  clear hW4 y1 y2 y3 y4 c0 c1 b0 b1 hk3
  refine wp_range rfl (by omega) (gf := 52) (lb := #[.pointer (some ⟨W.heap.size + 1 + 1 + 1, 0, none⟩)]) rfl trivial (enters_of Tryd.func52 (by kernel_rfl) rfl) (fun W' => J (logN (dat cs ds)) W' ∨ Jx W') (fun c W' => c = .ret ∧ (J (logN (dat cs ds)) W' ∨ Jx W')) ?_ ?_ ?_
  · intro fn hfn W1 hk1 hs1 hr1
    generalize hR : recOf fn _ _ _ _ _ = R at hr1 ⊢
    refine (all_in (n - 1) (W4.heap.size + 1) (W.heap.size + 1 + 1 + 1) ca cc cs da dc ds u pv (fun k W' => (∃ j, LogJ (dat cs ds) W.heap.size l ca cc cs da dc ds u pv J j k W') ∧ RL R W4.heap.size .ready none W') (fun W' => (J (logN (dat cs ds)) W' ∨ Jx W') ∧ RL R W4.heap.size .done (some .ret) W') HD.out ?_ ?_ ?_ ?_ W1 ⟨⟨0, HI4.out W1 hk1 hs1⟩, hr1⟩).mono ?_
    · rintro k W' ⟨⟨j, h⟩, _⟩
      exact h.at_
    · rintro k W' W'' ⟨⟨j, h⟩, h'⟩ hk
      exact ⟨⟨j, h.later HA.out hk⟩, h'.kept hk⟩
    · rintro k W' _ ⟨⟨j, h⟩, h'⟩ hB
      exact ⟨⟨j, Nat.le_succ_of_le h.le, h.fit, fun i hi hi' => (by
        by_cases e : i = k
        · subst e; exact hB
        · exact h.gap i hi (by omega)), h.yld, h.next, h.nfree, h.ep, h.efree, h.at_, h.size, h.out⟩, h'⟩
    · rintro k Wa Wb a c hkl ⟨⟨j, h⟩, h'⟩ hB hac hb hk
      have h2 := h.later HA.out hk
      have hr2 := h'.kept hk
      subst hR
      refine YieldAt.mono (yield_round (G := fun W' => ∃ j, LogJ (dat cs ds) W.heap.size l ca cc cs da dc ds u pv J j (k + 1) W') (Gx := fun c W' => c = .ret ∧ (J (logN (dat cs ds)) W' ∨ Jx W')) hfn hr2 rfl ?_) ?_
      · generalize recOf fn _ _ _ _ _ = R at hr2 ⊢
        gi_wp2
        have hka := Keeps.alloc (Keeps.refl Wb) (.cells #[.int .i64 (srQ (readL (dat cs ds) k)), .int .i64 (srE (readL (dat cs ds) k)), .slice a (srL (readL (dat cs ds) k)).length c] 52)
        have hbo := (born_alloc Wb #[.int .i64 (srQ (readL (dat cs ds) k)), .int .i64 (srE (readL (dat cs ds) k)), .slice a (srL (readL (dat cs ds) k)).length c] 52).toOwn
        generalize Wb.alloc (.cells #[.int .i64 (srQ (readL (dat cs ds) k)), .int .i64 (srE (readL (dat cs ds) k)), .slice a (srL (readL (dat cs ds) k)).length c] 52) = W2 at *
        refine ⟨hr2.kept hka, fun W3 ht hr3 => ?_⟩
        have hl2 := hr2.lt
        have hb3 := hbo.turn ht (fun x hx hy => by simp [fp, fpS] at hx hy; have := HS4.out; omega)
        have hsb : Wb.heap.size < W3.heap.size := hb3.mem.lt Wb.heap.size (by simp [fp, fpS])
        have hSz := Nat.le_trans h.size hk.size
        rw [HS4.out] at ht
        have h3 := (h2.later HA.out hka).turnR HA.out ht hlt hgl
        have s0 := cell_at hb3.mem 0 (by simp)
        have s1 := cell_at hb3.mem 1 (by simp)
        have s2 := cell_at hb3.mem 2 (by simp)
        simp only [Nat.zero_add, List.getElem_cons_zero, List.getElem_cons_succ] at s0 s1 s2
        have n0 := h3.next
        have n1 := h3.nfree
        have e0 := h3.ep
        have e1 := h3.efree
        have yl := h3.yld
        have HI := hide h3
        have HR3 := hide hr3
        have HB3 := hide hb3
        by_cases hjk : k = j
        · subst hjk
          by_cases hq : srQ (readL (dat cs ds) k) = k
          · by_cases he : srE (readL (dat cs ds) k) < lastE (dat cs ds) k
            · have hnf : fitB (dat cs ds) k = false := by unfold fitB; rw [decide_eq_false (p := lastE (dat cs ds) k ≤ srE (readL (dat cs ds) k)) (by omega), Bool.and_false]
              clear h h2 h' hr2 hka hbo ht h3 hr3 hb3 hl2 hb
              gi_wp2
              refine ⟨fun _ h => (by cases h), ?_⟩
              gi_wp2
              refine ⟨HR3.out, fun W5 ht5 => ⟨rfl, .inl ?_⟩⟩
              rw [HS4.out] at ht5
              refine ((HI.out.turnR HA.out ht5 hlt hgl).stop (by rw [HML.out]; omega) ?_)
              exact fun _ => .inr hnf
            · have hfit : fitB (dat cs ds) k = true := by unfold fitB; rw [hB, decide_eq_true hq, decide_eq_true (by omega)]; rfl
              have htt : Turn (lown W.heap.size) Wa W3 := ((Turn.of_keeps (hk.trans hka) _).trans' (ht.mono (by simp)))
              obtain ⟨fn2, tmps2, assign2, body2, hy, hR2⟩ := HY.out k Wa W3 a c (n - 1 - 1 - 1) hkl h.fit hfit h.out htt h.size hac ((hb.kept hka).turn ht (fun x hx hy => by have := hb.new x hx; have := h.size; simp at hy; omega))
              have hSa := hk.size
              rw [hq] at hy
              have hfitk := h.fit
              clear h h2 h' hr2 hka hbo ht h3 hr3 hb3 hl2 hb htt
              gi_wp2
              refine ⟨nofun, RoundIn.mono hR2 ?_⟩
              rintro e W5 ⟨he5, gs, hgs, ht5⟩
              have hsa := HI.out.size
              have HR5 := hide (HR3.out.turn ht5 (fun hx => by have := hgs _ hx; have := HS4.out; omega) (fun hx => by have := hgs _ hx; have := HS4.out; omega))
              rcases he5 with ⟨rfl, hJ5⟩ | ⟨rfl, hx5⟩
              · obtain ⟨yl5, n5, n51, e5, e51, hs5⟩ := HI.out.round ht5 (fun b hb => (hgs b hb).2)
                have s15 := ht5.cell (p := ⟨Wb.heap.size, 1, none⟩) (fun hx => by have := (hgs _ hx).1; dsimp only at this; omega) s1
                have HAt : Hid (AllAt (W.heap.size + 1 + 1 + 1) ca cc cs da dc ds u pv W5) :=
                  ⟨ht5.cell (fun hx => by have := hgs _ hx; dsimp only at this; omega) HI.out.at_.1, ht5.cell (fun hx => by have := hgs _ hx; dsimp only at this; omega) HI.out.at_.2.1, HJ.out _ _ hJ5⟩
                have HJ5 := hide hJ5
                have hsb5 : Wb.heap.size < W5.heap.size := Nat.lt_of_lt_of_le hsb ht5.size
                have hmx : Tryd.prog.follows .mixedOrders = true := by kernel_rfl
                have HLJ : Hid (∀ W6, Turn [W.heap.size + 1, W.heap.size + 1 + 1] W5 W6 → W6.cell? ⟨W.heap.size + 1, 0, none⟩ = some (.int .i64 ((k + 1 : Nat) : Int)) → W6.frozen? ⟨W.heap.size + 1, 0, none⟩ = false → W6.cell? ⟨W.heap.size + 1 + 1, 0, none⟩ = some (.int .i64 (srE (readL (dat cs ds) k))) → W6.frozen? ⟨W.heap.size + 1 + 1, 0, none⟩ = false → LogJ (dat cs ds) W.heap.size l ca cc cs da dc ds u pv J (k + 1) (k + 1) W6) := fun W6 ht6 q1 q2 q3 q4 =>
                  ⟨Nat.le_refl _, fitTo_succ hfitk hfit, fun i hi hi' => absurd hi' (by omega), ht6.cell (by simp <;> omega) yl5, q1, q2, q3, q4, HAt.out.turn ht6 (by simp <;> omega) (fun x hx hy => by have := hlt x hx; simp at hy; omega) (by simp <;> omega), Nat.le_trans hs5 ht6.size, HA.out _ _ _ HJ5.out (ht6.mono (by simp))⟩
                clear hy hR2 hJ5 hgs ht5 s0 s1 s2 n0 n1 e0 e1 yl
                gi_wp2
                gi_region_with_o (fail)
                all_goals gi_wp2
                all_goals
                  have hw : IntKind.i64.wrap ((k : Int) + 1) = ((k + 1 : Nat) : Int) := by
                    have := HD.out.c
                    simp [IntKind.wrap, IntKind.bits, IntKind.signed]
                    omega
                  have T : Turn [W.heap.size + 1, W.heap.size + 1 + 1] W5 ((W5.setCell ⟨W.heap.size + 1, 0, none⟩ (.int .i64 (IntKind.i64.wrap ((k : Int) + 1)))).setCell ⟨W.heap.size + 1 + 1, 0, none⟩ (.int .i64 (srE (readL (dat cs ds) k)))).drew :=
                    ((Turn.set (by simp) _).trans' (Turn.set (by simp) _)).trans' (Turn.of_keeps ((Keeps.refl _).drew) _)
                  refine ⟨HR5.out.turn T (by have := HS4.out; simp <;> omega) (by have := HS4.out; simp <;> omega), fun W6 ht6 => ⟨k + 1, ?_⟩⟩
                  rw [HS4.out] at ht6
                  refine (HLJ.out _ T ?_ ?_ ?_ ?_).turnR HA.out ht6 hlt hgl
                  · show World.cell? (World.setCell _ _ _) _ = _
                    rw [World.cell?_setCell_other _ _ _ _ (by simp), World.cell?_setCell_same _ _ _ n5, hw]
                  · show World.frozen? (World.setCell _ _ _) _ = _
                    rw [World.frozen?_setCell, World.frozen?_setCell]
                    exact n51
                  · show World.cell? (World.setCell _ _ _) _ = _
                    exact World.cell?_setCell_same _ _ _ (by rw [World.cell?_setCell_other _ _ _ _ (by simp)]; exact e5)
                  · show World.frozen? (World.setCell _ _ _) _ = _
                    rw [World.frozen?_setCell, World.frozen?_setCell]
                    exact e51
              · clear hy hR2 s0 s1 s2 n0 n1 e0 e1 yl
                gi_wp2
                refine ⟨HR5.out, fun W6 ht6 => ⟨rfl, .inr ?_⟩⟩
                rw [HS4.out] at ht6
                exact HX.out _ _ hx5 (ht6.mono (by simp))
          · have hnf : fitB (dat cs ds) k = false := by unfold fitB; rw [decide_eq_false hq, Bool.and_false, Bool.false_and]
            clear h h2 h' hr2 hka hbo ht h3 hr3 hb3 hl2 hb
            gi_wp2
            refine ⟨fun _ h => (by cases h), ?_⟩
            gi_wp2
            refine ⟨HR3.out, fun W5 ht5 => ⟨rfl, .inl ?_⟩⟩
            rw [HS4.out] at ht5
            refine ((HI.out.turnR HA.out ht5 hlt hgl).stop (by rw [HML.out]; omega) ?_)
            exact fun _ => .inr hnf
        · have hjk' : ¬ ((k : Int) = (j : Int)) := by omega
          clear h h2 h' hr2 hka hbo ht h3 hr3 hb3 hl2 hb
          gi_wp2
          refine ⟨fun _ h => (by cases h), ?_⟩
          gi_wp2
          refine ⟨HR3.out, fun W5 ht5 => ⟨rfl, .inl ?_⟩⟩
          rw [HS4.out] at ht5
          refine ((HI.out.turnR HA.out ht5 hlt hgl).stop (by rw [HML.out]; omega) ?_)
          exact fun e => absurd e.symm hjk
      · rintro e W'' (⟨he, hg, hr⟩ | ⟨he, c, ⟨rfl, hj⟩, hr⟩)
        · exact .inl ⟨he, hg, hr⟩
        · exact .inr ⟨he, hj, hr⟩
    · rintro e W2 ⟨hv, (⟨⟨j, h⟩, h'⟩ | ⟨hj, hr⟩)⟩
      · exact ⟨hv, .inl ⟨.inl (h.stop (by rw [HML.out]; exact Nat.le_refl _) (fun _ => .inl HML.out.symm)), h'⟩⟩
      · exact ⟨hv, .inr ⟨.ret, ⟨rfl, hj⟩, hr⟩⟩
  · intro W1 W2 hG ht hK
    rw [HS4.out] at ht
    have HG := hide hG
    have HT := hide ht
    clear hG ht
    gi_wp2
    refine ⟨by simp, .inl ⟨_, _, rfl, run_takeDeferred hK, ?_⟩⟩
    refine ⟨_, results_none rfl _ _ _, ⟨_, rfl⟩, W1, HG.out, ?_⟩
    have hp := turn_putObj W2 W4.heap.size (.deferred none)
    rw [HS4.out] at hp ⊢
    exact (HT.out.mono (by simp)).trans' (hp.mono (by simp))
  · rintro c W1 W2 ⟨rfl, hG⟩ ht hK
    rw [HS4.out] at ht
    have HG := hide hG
    have HT := hide ht
    clear hG ht
    gi_wp2
    refine ⟨by simp, .inl ⟨_, _, rfl, run_takeDeferred hK, ?_⟩⟩
    refine ⟨_, results_none rfl _ _ _, ⟨_, rfl⟩, W1, HG.out, ?_⟩
    have hp := turn_putObj W2 W4.heap.size (.deferred none)
    rw [HS4.out] at hp ⊢
    exact (HT.out.mono (by simp)).trans' (hp.mono (by simp))
end Go.Proofs.YtkdnddckogbgaaaDoor
namespace Go.Proofs.YtkdnddckogbgaaaDoor
open Go.RowKit Go.Deep
set_option linter.unusedVariables false
set_option maxRecDepth 10000

/-- A list of structs while it is made: its row, the lists inside, no block shared. -/
structure LG {α : Type} (T : TypeId) (sz : Nat) (f : α → List Value) (sg : α → Seg) (w0 w : World) (v : Value) (nb : List α) : Prop where
  row : w.ownsRow w0.heap.size T sz v nb.length (nb.flatMap f)
  inner : Born w0 w (nb.map sg)
  apart : ∀ g, v.ownBlock = some g → g ∉ fp (nb.map sg)
  keeps : Keeps w0 w
section
variable {α : Type} {T : TypeId} {sz : Nat} {f : α → List Value} {sg : α → Seg} {w0 w w1 w2 : World} {v v' : Value} {nb : List α}
theorem owns_kept {base n : Nat} {e : TypeId} {xs : List Value} (hk : Keeps w w1) (h : w.ownsRow base e sz v n xs) : w1.ownsRow base e sz v n xs := by
  refine ⟨h.1, ?_⟩
  rcases h.2 with h' | ⟨g, cap, cur, rfl, hb, hg, rest⟩
  · exact .inl h'
  · refine .inr ⟨g, cap, cur, rfl, hb, ?_, rest⟩
    rw [Below.block hk g (Array.getElem?_eq_some_iff.1 hg).1]; exact hg
theorem LG.kept (h : LG T sz f sg w0 w v nb) (hk : Keeps w w1) : LG T sz f sg w0 w1 v nb :=
  ⟨owns_kept hk h.row, h.inner.kept hk, h.apart, h.keeps.trans hk⟩
theorem LG.snoc (h : LG T sz f sg w0 w v nb) (hk : Keeps w w1) {x : α} (hx : Own w1 [sg x]) (hn : ∀ b ∈ fp [sg x], w.heap.size ≤ b) {o : Obj} (hg : (w1.alloc o).grownBy w2 v.ownBlock)
    (hr : w2.ownsRow w0.heap.size T sz v' (nb.length + 1) (nb.flatMap f ++ f x)) (hv : v'.ownBlock = v.ownBlock ∨ v'.ownBlock = some (w1.alloc o).heap.size) : LG T sz f sg w0 w2 v' (nb ++ [x]) := by
  have hka : Keeps w1 (w1.alloc o) := Keeps.alloc (Keeps.refl _) _
  have hs : (w1.alloc o).heap.size = w1.heap.size + 1 := by rw [World.size_alloc]
  have hI := (h.inner.kept hk).kept hka
  have hX := hx.kept hka
  have ht : Turn v.ownBlock.toList (w1.alloc o) w2 := Turn.of_grown hg (fun k hk' => by rw [hk']; simp)
  have hrow : ∀ g, v.ownBlock = some g → w0.heap.size ≤ g ∧ g < w.heap.size := fun g hg' => h.row.lt g hg'
  have hIT : Born w0 w2 (nb.map sg) := hI.turn ht (fun b hb hb' => by
    have : v.ownBlock = some b := by simpa using hb'
    exact h.apart b this hb)
  have hXT : Own w2 [sg x] := hX.turn ht (fun b hb hb' => by
    have e : v.ownBlock = some b := by simpa using hb'
    have h1 := hrow b e
    have h2 := hn b hb
    omega)
  refine ⟨?_, ⟨?_, ?_⟩, ?_, ?_⟩
  · rw [List.length_append, List.flatMap_append, List.flatMap_singleton]; exact hr
  · rw [List.map_append]
    refine hIT.toOwn.append hXT (fun b hb hb' => ?_)
    have h1 := h.inner.mem.lt b hb
    have h2 := hn b hb'
    omega
  · intro b hb
    rw [List.map_append, fp_append] at hb
    rcases List.mem_append.1 hb with hb | hb
    · exact h.inner.new b hb
    · have h1 := hn b hb
      have h2 := h.keeps.size
      omega
  · intro g hg' hb
    rw [List.map_append, fp_append] at hb
    rcases hv with hv | hv
    · rw [hv] at hg'
      rcases List.mem_append.1 hb with hb | hb
      · exact h.apart g hg' hb
      · have h1 := hn g hb
        have h2 := hrow g hg'
        omega
    · rw [hv] at hg'
      have hg2 := Option.some.inj hg'
      rcases List.mem_append.1 hb with hb | hb
      · have h1 := h.inner.mem.lt g hb
        have h2 := hk.size
        omega
      · have h1 := hx.mem.lt g hb
        omega
  · exact Keeps.grown ((h.keeps.trans hk).trans hka) hg (fun g hg' => (hrow g hg').1)
end
theorem LG.nil {α : Type} (T : TypeId) (sz : Nat) (f : α → List Value) (sg : α → Seg) {w0 w : World} {v : Value} (h : w.ownsRow w0.heap.size T sz v 0 []) (hk : Keeps w0 w) : LG T sz f sg w0 w v [] :=
  ⟨h, Born.nil _ _, fun g _ hb => by simp [fp] at hb, hk⟩
end Go.Proofs.YtkdnddckogbgaaaDoor
namespace Go.Proofs.YtkdnddckogbgaaaDoor
open Go.RowKit Go.Deep
set_option linter.unusedVariables false
set_option maxRecDepth 10000

/-- A sector in memory. -/
structure Sc where
  q : Int
  e : Int
  b : Bs
def Sc.cells (x : Sc) : List Value := [.int .i64 x.q, .int .i64 x.e, x.b.v]
def Sc.seg (x : Sc) : Seg := x.b.seg
def Sc.key (x : Sc) : Int × Int × List UInt8 := (x.q, x.e, x.b.L)
def scells (l : List Sc) : List Value := l.flatMap Sc.cells
theorem infoSector : (Tryd.prog.info? 52).map (fun i => (i.zero, i.size, i.bytes)) = some (some (.agg #[.int .i64 0, .int .i64 0, .slice none 0 0]), 3, 40) := by kernel_rfl
theorem underSectors : Tryd.prog.underlying 27 = some (.slice 52) := by kernel_rfl
theorem cell_three_new (w : World) (x y z : Value) (t : TypeId) : ∀ j u, [x, y, z][j]? = some u → (w.alloc (.cells #[x, y, z] t)).cell? ((⟨w.heap.size, 0, none⟩ : Addr).add j) = some u := by
  intro j u hj
  match j, hj with
  | 0, hj => simp at hj; subst hj; simp [Addr.add]
  | 1, hj => simp at hj; subst hj; simp [Addr.add]
  | 2, hj => simp at hj; subst hj; simp [Addr.add]
  | n + 3, hj => simp at hj
theorem run_sector (w : World) (base : Nat) (v : Value) (n : Nat) (xs : List Value) (x y z : Value) (hx : x.oneCell' = true) (hy : y.oneCell' = true) (hz' : z.oneCell' = true) (ty : TypeId) (h : w.ownsRow base 52 3 v n xs) (hn : n ≤ 1048576) (hb : base ≤ w.heap.size) :
    ∃ v' w', (Builtin.append_ #[27, 27] ty #[v, .slice (some ⟨w.heap.size, 0, none⟩) 1 1]).run Tryd.prog (w.alloc (.cells #[x, y, z] 52)) = .ok v' w' ∧ w'.ownsRow base 52 3 v' (n + 1) (xs ++ [x, y, z]) ∧ (w.alloc (.cells #[x, y, z] 52)).grownBy w' v.ownBlock ∧ (v'.ownBlock = v.ownBlock ∨ v'.ownBlock = some (w.alloc (.cells #[x, y, z] 52)).heap.size) := by
  have hI := infoSector
  cases hi : Tryd.prog.info? 52 with
  | none => rw [hi] at hI; simp at hI
  | some i =>
    rw [hi] at hI
    simp at hI
    obtain ⟨hz, hsz, hby⟩ := hI
    obtain ⟨v', w', h1, h2, h3, _, h5⟩ := run_append_own_at (P := Tryd.prog) (w.alloc (.cells #[x, y, z] 52)) base 27 ty 52 i _ 3 40 underSectors hi hz hsz hby rfl (by decide) v n xs (h.alloc _) ⟨w.heap.size, 0, none⟩ 1 1 [x, y, z] rfl (cell_three_new w x y z _) (by intro u hu; simp at hu; rcases hu with rfl | rfl | rfl <;> assumption) (by simp only [maxLen]; omega) (by omega) (by simp; omega)
    exact ⟨v', w', h1, h2, h3, h5⟩
/-- The world as far as block n. -/
def cutW (w : World) (n : Nat) : World := { w with heap := w.heap.extract 0 n }
theorem cutW_size {w : World} {n : Nat} (h : n ≤ w.heap.size) : (cutW w n).heap.size = n := by simp [cutW]; omega
theorem cutW_block {w : World} {n k : Nat} (h : n ≤ w.heap.size) (hk : k < n) : (cutW w n).heap[k]? = w.heap[k]? := by
  show (w.heap.extract 0 n)[k]? = _
  rw [Array.getElem?_extract, if_pos (by omega)]
  simp
theorem cutW_keeps {w : World} {n : Nat} (h : n ≤ w.heap.size) : Keeps (cutW w n) w :=
  ⟨rfl, rfl, rfl, by rw [cutW_size h]; exact h, fun k hk => by rw [cutW_size h] at hk; exact (cutW_block h hk).symm⟩
theorem cutW_turn {w w' : World} {fs : List Nat} (h : Turn fs w w') : Turn fs w (cutW w' w.heap.size) :=
  ⟨h.os, h.tape, h.output, by rw [cutW_size h.size]; exact Nat.le_refl _, fun k hk hn => (cutW_block h.size hk).trans (h.block k hk hn)⟩
/-- A list of structs while it is made, all of it in blocks from base on. -/
def LB {α : Type} (T : TypeId) (sz : Nat) (f : α → List Value) (sg : α → Seg) (base : Nat) (w : World) (v : Value) (nb : List α) : Prop := ∃ w0, w0.heap.size = base ∧ LG T sz f sg w0 w v nb
section
variable {α : Type} {T : TypeId} {sz : Nat} {f : α → List Value} {sg : α → Seg} {base : Nat} {w w1 w2 : World} {v v' : Value} {nb : List α}
theorem owns_turn {n : Nat} {e : TypeId} {xs : List Value} {fs : List Nat} (ht : Turn fs w w1) (hf : ∀ b ∈ fs, b < base) (h : w.ownsRow base e sz v n xs) : w1.ownsRow base e sz v n xs := by
  refine ⟨h.1, ?_⟩
  rcases h.2 with h' | ⟨g, cap, cur, rfl, hb, hg, rest⟩
  · exact .inl h'
  · refine .inr ⟨g, cap, cur, rfl, hb, ?_, rest⟩
    rw [ht.block g (Array.getElem?_eq_some_iff.1 hg).1 (fun hx => by have := hf g hx; omega)]; exact hg
theorem LB.turn (h : LB T sz f sg base w v nb) {fs : List Nat} (ht : Turn fs w w1) (hf : ∀ b ∈ fs, b < base) : LB T sz f sg base w1 v nb := by
  obtain ⟨w0, hb, hL⟩ := h
  have hs : base ≤ w1.heap.size := by have := hL.keeps.size; have := ht.size; omega
  refine ⟨cutW w1 base, cutW_size hs, ?_, ⟨?_, ?_⟩, hL.apart, cutW_keeps hs⟩
  · rw [cutW_size hs]
    have hr := hL.row
    rw [hb] at hr
    exact owns_turn ht hf hr
  · exact hL.inner.toOwn.turn ht (fun x hx hy => by have := hf x hy; have := hL.inner.new x hx; omega)
  · intro x hx
    rw [cutW_size hs]
    have := hL.inner.new x hx
    omega
theorem LB.kept (h : LB T sz f sg base w v nb) (hk : Keeps w w1) : LB T sz f sg base w1 v nb := by
  obtain ⟨w0, hb, hL⟩ := h
  exact ⟨w0, hb, hL.kept hk⟩
theorem LB.nil (T : TypeId) (sz : Nat) (f : α → List Value) (sg : α → Seg) (h : base ≤ w.heap.size) : LB T sz f sg base w (.slice none 0 0) [] :=
  ⟨cutW w base, cutW_size h, LG.nil T sz f sg (World.ownsRow_nil _ _ _ _) (cutW_keeps h)⟩
theorem LB.row (h : LB T sz f sg base w v nb) : w.ownsRow base T sz v nb.length (nb.flatMap f) := by
  obtain ⟨w0, hb, hL⟩ := h
  rw [← hb]
  exact hL.row
theorem LB.size (h : LB T sz f sg base w v nb) : base ≤ w.heap.size := by
  obtain ⟨w0, hb, hL⟩ := h
  have := hL.keeps.size
  omega
/-- One more, whose own list was made behind w (w1: where it is put; of what was there at w only blocks ahead of base have turned). -/
theorem LB.snoc (h : LB T sz f sg base w v nb) {fs : List Nat} (ht : Turn fs w w1) (hf : ∀ b ∈ fs, b < base) {x : α} (hx : Own w1 [sg x]) (hn : ∀ b ∈ fp [sg x], w.heap.size ≤ b) {o : Obj} (hg : (w1.alloc o).grownBy w2 v.ownBlock)
    (hr : w2.ownsRow base T sz v' (nb.length + 1) (nb.flatMap f ++ f x)) (hv : v'.ownBlock = v.ownBlock ∨ v'.ownBlock = some (w1.alloc o).heap.size) : LB T sz f sg base w2 v' (nb ++ [x]) := by
  obtain ⟨w0, hb, hL⟩ := LB.turn h (cutW_turn ht) hf
  refine ⟨w0, hb, hL.snoc (cutW_keeps ht.size) hx ?_ hg (by rw [hb]; exact hr) hv⟩
  intro b hb'
  rw [cutW_size ht.size]
  exact hn b hb'
theorem LB.born (h : LB T sz f sg base w v nb) : ∃ (a : Option Addr) (cap : Nat), v = .slice a nb.length cap ∧ (a = none → cap = 0) ∧ Own w ((a, nb.flatMap f) :: nb.map sg) ∧ ∀ b ∈ fp ((a, nb.flatMap f) :: nb.map sg), base ≤ b := by
  obtain ⟨w0, hw, h⟩ := h
  obtain ⟨a, cap, rfl, _, _, hn, ho, hb⟩ := Own.of_owns h.row
  refine ⟨a, cap, rfl, hn, Own.append (S := [_]) ho h.inner.toOwn (fun b hb1 hb2 => ?_), ?_⟩
  · have : Value.ownBlock (.slice a nb.length cap) = some b := by
      rcases h.row.2 with ⟨e, _⟩ | ⟨g, c, _, e, _⟩
      · injection e with e1
        subst e1
        simp [fp, fpS] at hb1
      · injection e with e1
        subst e1
        by_cases h0 : nb.flatMap f = []
        · simp [fp, fpS, h0] at hb1
        · simp [fp, fpS, h0] at hb1
          subst hb1
          rfl
    exact h.apart b this hb2
  · intro b hb1
    rw [fp_cons] at hb1
    rcases List.mem_append.1 hb1 with hb1 | hb1
    · have := hb b (by rw [fp_one]; exact hb1); omega
    · have := h.inner.new b hb1; omega
end
/-- What the first k sectors say. -/
def secsTo (m : DkM) (k : Nat) : List (Int × Int × List UInt8) := (List.range k).map fun i : Nat => (srQ (readL m i), srE (readL m i), srL (readL m i))
theorem secsTo_succ (m : DkM) (k : Nat) : secsTo m (k + 1) = secsTo m k ++ [(srQ (readL m k), srE (readL m k), srL (readL m k))] := by simp [secsTo, List.range_succ]
theorem secsTo_len (m : DkM) (k : Nat) : (secsTo m k).length = k := by simp [secsTo]
def logS (m : DkM) : List (Int × Int × List UInt8) := secsTo m (logN m)
/-- What LogRead answers. -/
def LrPost (w : World) (m : DkM) (x : Ending) (w' : World) : Prop := ∃ (a : Option Addr) (c : Nat) (nb : List Sc), x = .returned (.tuple #[.slice a nb.length c, .int .i64 (logN m : Nat)]) ∧ nb.map Sc.key = logS m ∧ (a = none → c = 0) ∧ Born w w' ((a, scells nb) :: nb.map Sc.seg) ∧ Keeps w w'
end Go.Proofs.YtkdnddckogbgaaaDoor
namespace Go.Proofs.YtkdnddckogbgaaaDoor
open Go.RowKit Go.Deep Go.Shelf
set_option linter.unusedVariables false
set_option maxRecDepth 10000
attribute [local go_sem] Oper.semAt_some

theorem wpListIn_append_run {F : Fence} {n : Nat} {P : Program} (w : World) {ops : Array Oper} {rest : List Oper} {o : Oper} {a : Act} {Q : Exit → Act → World → Prop}
    (hg : o.guard = none) (s x : Operand) (t : TypeId) (hop : o.op = Op.call { callee := Callee.builtin Builtin.append, args := #[s, x], argTypes := #[t, t] }) (vs vx : Value) (hs : a.eval s = vs) (hx : a.eval x = vx)
    (v' : Value) (w' : World) (hrun : (Builtin.append_ #[t, t] o.type #[vs, vx]).run P w = .ok v' w') (hK : wpListIn F n P ops Q rest (a.put o.dst v') w') : wpListIn F n P ops Q (o :: rest) a w := by
  refine wpListIn_plain hg fun K hK' => ?_
  unfold Oper.wpIn
  refine ⟨?_, ?_⟩
  · simp [Oper.about, hop, resolve, Target.leads, Sem.run_pure]
  · rw [Oper.semAt_plain F _ _ (by rw [hop]; intro c hc'; cases hc')]
    simp [execOp, hop, resolve, invoke, builtin, hs, hx, hrun, Result.andThen]
    exact hK' _ _ hK
section
variable {w : World} {lo : Nat} {ca : Option Addr} {cc : Nat} {cs : List Bs} {da : Option Addr} {dc : Nat} {ds : List Wr} {u : TypeId} {pv : Value} {k : Nat} {W W' : World} {v : Value} {nb : List Sc}
end
end Go.Proofs.YtkdnddckogbgaaaDoor
