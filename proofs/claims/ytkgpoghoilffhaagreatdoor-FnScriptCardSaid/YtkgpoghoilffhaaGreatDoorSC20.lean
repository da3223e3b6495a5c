/- The model's draws of lists of events. -/
import Derived.Test.YtkgpoghoilffhaaGreatDoorSC18
import Derived.Test.YtkgpoghoilffhaaGreatDoorSC16
import Derived.Test.YtkgpoghoilffhaaGreatDoorSC19
import Derived.Deep.WholeRow
namespace Go.Proofs.YtkgpoghoilffhaaGreatDoor
open Go.RowKit Go.Deep
set_option linter.unusedVariables false
set_option linter.unusedSimpArgs false
set_option maxRecDepth 10000
theorem infoEventsF : (Tryz.prog.info? 28).map (fun i => (i.zero, i.size, i.bytes)) = some (some (evV 0 0 0 0 0 0 false), 7, 56) := by kernel_rfl
theorem underEventsF : Tryz.prog.underlying 92 = some (.slice 28) := by kernel_rfl
theorem run_ev (w : World) (base : Nat) (v : Value) (n : Nat) (xs : List Value) (x : Et) (ty : TypeId) (h : w.ownsRow base 28 7 v n xs) (hn : n ≤ 1048576) (hb : base ≤ w.heap.size) :
    ∃ v' w', (Builtin.append_ #[92, 92] ty #[v, .slice (some ⟨w.heap.size, 0, none⟩) 1 1]).run Tryz.prog (w.alloc (.cells x.cells.toArray 28)) = .ok v' w' ∧ w'.ownsRow base 28 7 v' (n + 1) (xs ++ x.cells) ∧ (w.alloc (.cells x.cells.toArray 28)).grownBy w' v.ownBlock := by
  have hI := infoEventsF
  cases hi : Tryz.prog.info? 28 with
  | none => rw [hi] at hI; simp at hI
  | some i =>
    rw [hi] at hI
    simp at hI
    obtain ⟨hz, hsz, hby⟩ := hI
    obtain ⟨v', w', h1, h2, h3, _, _⟩ := run_append_own_at (P := Tryz.prog) (w := w.alloc (.cells x.cells.toArray 28)) base 92 ty 28 i _ 7 56 underEventsF hi hz hsz hby rfl (by decide) v n xs (h.alloc _) ⟨w.heap.size, 0, none⟩ 1 1 x.cells rfl (by
      intro j u hj
      rw [addr_add0]
      have h2 := own_fresh w x.cells 28
      rcases h2.one with hc | ⟨b, off, e, hc⟩
      · exact absurd hc (by simp [Et.cells])
      · injection e with e
        injection e with e1 e2 _
        subst e1 e2
        obtain ⟨hlt, rfl⟩ := List.getElem?_eq_some_iff.1 hj
        have h3 := hc j hlt
        rw [Nat.zero_add] at h3
        exact h3) (by
        intro u hu
        simp only [Et.cells, List.mem_cons, List.not_mem_nil, or_false] at hu
        rcases hu with rfl | rfl | rfl | rfl | rfl | rfl | rfl <;> rfl) (by simp only [maxLen]; omega) (by omega) (by rw [World.size_alloc]; omega)
    exact ⟨v', w', h1, h2, h3⟩
theorem owns_shrink {w : World} {base n m sz cap : Nat} {e : TypeId} {p : Addr} {xs : List Value} (h : w.ownsRow base e sz (.slice (some p) n cap) n xs) (hm : m ≤ n) : w.ownsRow base e sz (.slice (some p) m cap) m (xs.take (m * sz)) := by
  have hmul := Nat.mul_le_mul_right sz hm
  rcases h.2 with ⟨h', _⟩ | ⟨g, c, cur, e1, hb, hg, hn, hc, hs, ht⟩
  · exact nomatch h'
  · injection e1 with e1 e2 e3
    injection e1 with e1
    subst e1 e3
    refine ⟨by rw [List.length_take, h.1]; omega, .inr ⟨g, cap, cur, rfl, hb, hg, by omega, hc, hs, ?_⟩⟩
    rw [← ht, List.take_take, Nat.min_eq_left hmul]
theorem slice_evs (p : Addr) (n m cap : Nat) (h : n ≤ cap) (hp : p.off = 0) (hq : p = ⟨p.block, 0, none⟩) : ∀ w, (Instr.slice 92 (.slice (some p) m cap) none (some (.int .i64 (n : Int))) none).run Tryz.prog w = .ok (.slice (some p) n cap) w := fun w => by
  have hu : Tryz.prog.underlying 92 = some (.slice (Tryz.prog.elem 92)) := by kernel_rfl
  have hz : ∀ w, (sizeOf (Tryz.prog.elem 92)).run Tryz.prog w = .ok 7 w := fun w => by kernel_rfl
  rw [run_slice_h w _ _ _ _ hu .i64 (n : Int) (by omega) (by omega), hz, hq]
  simp [Result.andThen, sliced, Addr.add]
theorem owns_growE {W W' : World} {base n sz : Nat} {T : TypeId} {v : Value} {xs : List Value} {row : Option Nat} (h : W.ownsRow base T sz v n xs) (g : W.grownBy W' row) (hr : ∀ r, row = some r → v.ownBlock ≠ some r) : W'.ownsRow base T sz v n xs :=
  owns_turnZ h (Turn.of_grown (fs := row.toList) g (fun k hk => by rw [hk]; simp)) (fun b hb hx => by
    have : row = some b := by simpa using hx
    exact hr b this hb)
theorem ets_take (l : List Et) (m : Nat) : (ets l).take (m * 7) = ets (l.take m) := by
  induction l generalizing m with
  | nil => simp [ets]
  | cons x t ih =>
    cases m with
    | zero => simp [ets]
    | succ m =>
      have := ih m
      have e : ets (x :: t) = x.cells ++ ets t := by simp [ets]
      rw [e, List.take_succ_cons, show ets (x :: t.take m) = x.cells ++ ets (t.take m) by simp [ets], ← this, show (m + 1) * 7 = x.cells.length + m * 7 by simp [Et.cells]; omega, List.take_append]
      simp
      exact List.take_of_length_le (by omega)
def IsEvs (base N : Nat) (e : Ending) (w' : World) : Prop := ∃ (v : Value) (es : List Et), e = .returned v ∧ w'.ownsRow base 28 7 v es.length (ets es) ∧ es.length ≤ N
set_option maxHeartbeats 32000000 in
theorem events_any {B0 B : Nat} {a : Option Addr} {len cap : Nat} {w : World} (s : Dr B0 B a len cap w) (most : Nat) (hmo : most ≤ 100) :
    Calls Tryz.prog 51 #[.pointer (some ⟨B, 0, none⟩), .int .i64 (most : Int)] w fun e w' => IsEvs w.heap.size (5 + most) e w' ∧ Dr B0 B a len cap w' ∧ w.grownBy w' (some B) := by
  have HD := hide (Ds.start s)
  have hB := s.lt
  clear s
  go_enter Tryz.func51, Tryz.ntmps51
  go_wp2_with fail
  refine (below_any 3 HD.out.dr (by omega) (by omega)).mono ?_
  rintro _ w1 ⟨⟨x, x0, x1, rfl⟩, s1, g1⟩
  replace HD := hide (HD.out.step s1 g1)
  clear s1 g1
  go_wp2_with fail
  refine (below_any 20 HD.out.dr (by omega) (by omega)).mono ?_
  rintro _ w2 ⟨⟨y, y0, y1, rfl⟩, s1, g1⟩
  replace HD := hide (HD.out.step s1 g1)
  clear s1 g1
  go_wp2_with fail
  refine (below_any 20000 HD.out.dr (by omega) (by omega)).mono ?_
  rintro _ w3 ⟨⟨z, z0, z1, rfl⟩, s1, g1⟩
  replace HD := hide (HD.out.step s1 g1)
  clear s1 g1
  have HO : Hid ((w3.alloc (.cells #[.int .i64 1, .int .i64 0, .int .i64 0, .int .i64 0, .int .i64 100000, .int .i64 0, .bool false, .int .i64 2, .int .i64 0, .int .i64 1, .int .i64 0, .int .i64 20000, .int .i64 10000, .bool false, .int .i64 2, .int .i64 0, .int .i64 2, .int .i64 0, .int .i64 10000, .int .i64 20000, .bool false, .int .i64 2, .int .i64 0, .int .i64 3, .int .i64 0, .int .i64 15000, .int .i64 15000, .bool false, .int .i64 4, .int .i64 0, .int .i64 (1 + x), .int .i64 0, .int .i64 y, .int .i64 z, .bool false] 28)).ownsRow w.heap.size 28 7 (.slice (some ⟨w3.heap.size, 0, none⟩) 5 5) 5 (ets [⟨1, 0, 0, 0, 100000, 0, false⟩, ⟨2, 0, 1, 0, 20000, 10000, false⟩, ⟨2, 0, 2, 0, 10000, 20000, false⟩, ⟨2, 0, 3, 0, 15000, 15000, false⟩, ⟨4, 0, 1 + x, 0, y, z, false⟩])) := ⟨rfl, .inr ⟨w3.heap.size, 5, #[.int .i64 1, .int .i64 0, .int .i64 0, .int .i64 0, .int .i64 100000, .int .i64 0, .bool false, .int .i64 2, .int .i64 0, .int .i64 1, .int .i64 0, .int .i64 20000, .int .i64 10000, .bool false, .int .i64 2, .int .i64 0, .int .i64 2, .int .i64 0, .int .i64 10000, .int .i64 20000, .bool false, .int .i64 2, .int .i64 0, .int .i64 3, .int .i64 0, .int .i64 15000, .int .i64 15000, .bool false, .int .i64 4, .int .i64 0, .int .i64 (1 + x), .int .i64 0, .int .i64 y, .int .i64 z, .bool false], rfl, HD.out.le, heap_alloc_last w3 _, by decide, by decide, rfl, rfl⟩⟩
  replace HD := hide (HD.out.alloc (.cells #[.int .i64 1, .int .i64 0, .int .i64 0, .int .i64 0, .int .i64 100000, .int .i64 0, .bool false, .int .i64 2, .int .i64 0, .int .i64 1, .int .i64 0, .int .i64 20000, .int .i64 10000, .bool false, .int .i64 2, .int .i64 0, .int .i64 2, .int .i64 0, .int .i64 10000, .int .i64 20000, .bool false, .int .i64 2, .int .i64 0, .int .i64 3, .int .i64 0, .int .i64 15000, .int .i64 15000, .bool false, .int .i64 4, .int .i64 0, .int .i64 (1 + x), .int .i64 0, .int .i64 y, .int .i64 z, .bool false] 28))
  go_wp2_with fail
  generalize w3.alloc (.cells #[.int .i64 1, .int .i64 0, .int .i64 0, .int .i64 0, .int .i64 100000, .int .i64 0, .bool false, .int .i64 2, .int .i64 0, .int .i64 1, .int .i64 0, .int .i64 20000, .int .i64 10000, .bool false, .int .i64 2, .int .i64 0, .int .i64 2, .int .i64 0, .int .i64 10000, .int .i64 20000, .bool false, .int .i64 2, .int .i64 0, .int .i64 3, .int .i64 0, .int .i64 15000, .int .i64 15000, .bool false, .int .i64 4, .int .i64 0, .int .i64 (1 + x), .int .i64 0, .int .i64 y, .int .i64 z, .bool false] 28) = W0 at *
  refine (below_any 4 HD.out.dr (by omega) (by omega)).mono ?_
  rintro _ w4 ⟨⟨k, k0, k1, rfl⟩, s1, g1⟩
  replace HO := hide (owns_growE HO.out g1 (fun r hr hb => by
    have h1 := (HO.out.lt _ hb).1
    have h2 := Option.some.inj hr
    omega))
  replace HD := hide (HD.out.step s1 g1)
  clear s1 g1
  generalize hes : ([⟨1, 0, 0, 0, 100000, 0, false⟩, ⟨2, 0, 1, 0, 20000, 10000, false⟩, ⟨2, 0, 2, 0, 10000, 20000, false⟩, ⟨2, 0, 3, 0, 15000, 15000, false⟩, ⟨4, 0, 1 + x, 0, y, z, false⟩] : List Et) = es0 at *
  have hl0 : es0.length = 5 := by rw [← hes]; rfl
  replace HO : Hid (w4.ownsRow w.heap.size 28 7 (.slice (some ⟨w3.heap.size, 0, none⟩) 5 5) es0.length (ets es0)) := by show World.ownsRow _ _ _ _ _ _ _; rw [hl0]; exact HO.out
  clear hes
  by_cases hk : k = 0
  · subst hk
    go_wp2_with fail
    refine (below_any 5 HD.out.dr (by omega) (by omega)).mono ?_
    rintro _ w5 ⟨⟨p, p0, p1, rfl⟩, s1, g1⟩
    replace HO := hide (owns_growE HO.out g1 (fun r hr hb => by
      have h1 := (HO.out.lt _ hb).1
      have h2 := Option.some.inj hr
      omega))
    replace HD := hide (HD.out.step s1 g1)
    clear s1 g1
    obtain ⟨p', rfl⟩ : ∃ p' : Nat, p = p' := ⟨p.toNat, by omega⟩
    have qs := slice_evs ⟨w3.heap.size, 0, none⟩ p' 5 5 (by omega) rfl rfl
    have h9 : w5.ownsRow w.heap.size 28 7 (.slice (some ⟨w3.heap.size, 0, none⟩) p' 5) p' ((ets es0).take (p' * 7)) := by
      have h8 : w5.ownsRow w.heap.size 28 7 (.slice (some ⟨w3.heap.size, 0, none⟩) es0.length 5) es0.length (ets es0) := by have := HO.out; rw [hl0] at this ⊢; exact this
      exact owns_shrink h8 (by omega)
    rw [ets_take] at h9
    obtain ⟨es1, he1⟩ : ∃ es1, es0.take p' = es1 := ⟨_, rfl⟩
    have hl1 : es1.length = p' := by rw [← he1, List.length_take]; omega
    rw [he1] at h9
    replace HO : Hid (w5.ownsRow w.heap.size 28 7 (.slice (some ⟨w3.heap.size, 0, none⟩) p' 5) es1.length (ets es1)) := by show World.ownsRow _ _ _ _ _ _ _; rw [hl1]; exact h9
    clear h9 he1
    go_wp2_with fail
    refine (below_any (most + 1) HD.out.dr (by omega) (by omega)).mono ?_
    rintro _ w6 ⟨⟨n, n0, n1, rfl⟩, s1, g1⟩
    replace HO := hide (owns_growE HO.out g1 (fun r hr hb => by
      have h1 := (HO.out.lt _ hb).1
      have h2 := Option.some.inj hr
      omega))
    replace HD := hide (HD.out.step s1 g1)
    clear s1 g1
    obtain ⟨n', rfl⟩ : ∃ n' : Nat, n = n' := ⟨n.toNat, by omega⟩
    go_wp2_with fail
    go_loopw [5, 6] (fun v y wr => ∃ (m : Nat) (es : List Et), y = .int .i64 (m : Int) ∧ Hid (es.length + m ≤ 5 + most) ∧ Hid (wr.ownsRow w.heap.size 28 7 v es.length (ets es)) ∧ Hid (Ds w B0 B a len cap wr)) (fun _ y _ => (intOf y).toNat)
    case atStart => exact ⟨n', es1, rfl, by show _ ≤ _; omega, HO.out, HD.out⟩
    case round =>
      clear HO HD
      obtain ⟨m, es, rfl, HL, HO, HD⟩ := hrel
      by_cases hm : 0 < m
      · obtain ⟨j, rfl⟩ : ∃ j, m = j + 1 := ⟨m - 1, by omega⟩
        have hj5 : j ≤ 200 := by have := HL.out; omega
        have hle : es.length ≤ 200 := by have := HL.out; omega
        go_wp2_with fail
        refine (event_any HD.out.dr).mono ?_
        rintro _ w7 ⟨⟨ek, ey, ec, et, em, ef, eb, rfl⟩, s1, g1⟩
        replace HO := hide (owns_growE HO.out g1 (fun r hr hb => by
          have h1 := (HO.out.lt _ hb).1
          have h2 := Option.some.inj hr
          omega))
        replace HD := hide (HD.out.step s1 g1)
        clear s1 g1
        have HE : Hid ((w7.alloc (.cells (evCells ek ey ec et em ef eb) 28)).rowIs w7.heap.size 28 7 (evRow ek ey ec et em ef eb)) := (World.rowIs_alloc w7 (evCells ek ey ec et em ef eb) 28 _ (ev_row ek ey ec et em ef eb))
        have HOE : Hid (∀ g, u5.ownBlock = some g → g < w7.heap.size) := fun g hg => (HO.out.lt g hg).2
        have HM : Hid (w.heap.size ≤ w7.heap.size) := HD.out.le
        replace HO := hide (HO.out.alloc (.cells (evCells ek ey ec et em ef eb) 28))
        replace HD := hide (HD.out.alloc (.cells (evCells ek ey ec et em ef eb) 28))
        go_wp2_with fail
        generalize w7.alloc (.cells (evCells ek ey ec et em ef eb) 28) = W1 at *
        generalize w7.heap.size = E at *
        refine (below_any 3 HD.out.dr (by omega) (by omega)).mono ?_
        rintro _ w8 ⟨⟨q, q0, q1, rfl⟩, s1, g1⟩
        replace HO := hide (owns_growE HO.out g1 (fun r hr hb => by
          have h1 := (HO.out.lt _ hb).1
          have h2 := Option.some.inj hr
          omega))
        replace HE := hide (HD.out.row g1 HE.out HM.out)
        replace HD := hide (HD.out.step s1 g1)
        clear s1 g1
        by_cases hq : q = 0
        · subst hq
          go_wp2_with fail
          refine (below_any 6 HD.out.dr (by omega) (by omega)).mono ?_
          rintro _ w9 ⟨⟨xa, xa0, xa1, rfl⟩, s1, g1⟩
          replace HO := hide (owns_growE HO.out g1 (fun r hr hb => by
            have h1 := (HO.out.lt _ hb).1
            have h2 := Option.some.inj hr
            omega))
          replace HE := hide (HD.out.row g1 HE.out HM.out)
          replace HD := hide (HD.out.step s1 g1)
          clear s1 g1
          go_wp2_with fail
          refine (below_any 3 HD.out.dr (by omega) (by omega)).mono ?_
          rintro _ w10 ⟨⟨xb, xb0, xb1, rfl⟩, s1, g1⟩
          replace HO := hide (owns_growE HO.out g1 (fun r hr hb => by
            have h1 := (HO.out.lt _ hb).1
            have h2 := Option.some.inj hr
            omega))
          replace HE := hide (HD.out.row g1 HE.out HM.out)
          replace HD := hide (HD.out.step s1 g1)
          clear s1 g1
          go_wp2_with fail
          refine (below_any 5000 HD.out.dr (by omega) (by omega)).mono ?_
          rintro _ w11 ⟨⟨xc, xc0, xc1, rfl⟩, s1, g1⟩
          replace HO := hide (owns_growE HO.out g1 (fun r hr hb => by
            have h1 := (HO.out.lt _ hb).1
            have h2 := Option.some.inj hr
            omega))
          replace HE := hide (HD.out.row g1 HE.out HM.out)
          replace HD := hide (HD.out.step s1 g1)
          clear s1 g1
          go_wp2_with fail
          refine (below_any 2 HD.out.dr (by omega) (by omega)).mono ?_
          rintro _ w12 ⟨⟨xd, xd0, xd1, rfl⟩, s1, g1⟩
          replace HO := hide (owns_growE HO.out g1 (fun r hr hb => by
            have h1 := (HO.out.lt _ hb).1
            have h2 := Option.some.inj hr
            omega))
          replace HE := hide (HD.out.row g1 HE.out HM.out)
          replace HD := hide (HD.out.step s1 g1)
          clear s1 g1
          obtain ⟨bd, hbd⟩ : ∃ bd : Bool, (xd == 0) = bd := ⟨_, rfl⟩
          have z0 := HE.out.cell (i := 0) (by decide)
          have zf0 := HE.out.frozen 0
          have z1 := HE.out.cell (i := 1) (by decide)
          have zf1 := HE.out.frozen 1
          have z2 := HE.out.cell (i := 2) (by decide)
          have zf2 := HE.out.frozen 2
          have z3 := HE.out.cell (i := 3) (by decide)
          have zf3 := HE.out.frozen 3
          have z4 := HE.out.cell (i := 4) (by decide)
          have zf4 := HE.out.frozen 4
          have z5 := HE.out.cell (i := 5) (by decide)
          have zf5 := HE.out.frozen 5
          have z6 := HE.out.cell (i := 6) (by decide)
          have zf6 := HE.out.frozen 6
          have zl := HE.out.lt
          simp [evRow] at z0 z1 z2 z3 z4 z5 z6
          go_upto_region 11 with fail
          clear z0 z1 z2 z3 z4 z5 z6 zf0 zf1 zf2 zf3 zf4 zf5 zf6 zl
          replace HO := hide (owns_turnZ HO.out (set_chain _ E 0 (.int .i64 5)) (fun g hg hx => by have := HOE.out g hg; simp at hx; omega))
          replace HE := hide (HE.out.set 0 (.int .i64 5))
          replace HD := hide (HD.out.set (b := E) (o := 0) (v := .int .i64 5) HM.out)
          replace HO := hide (owns_turnZ HO.out (set_chain _ E 1 (.int .i64 (1 + xa))) (fun g hg hx => by have := HOE.out g hg; simp at hx; omega))
          replace HE := hide (HE.out.set 1 (.int .i64 (1 + xa)))
          replace HD := hide (HD.out.set (b := E) (o := 1) (v := .int .i64 (1 + xa)) HM.out)
          replace HO := hide (owns_turnZ HO.out (set_chain _ E 2 (.int .i64 (1 + xb))) (fun g hg hx => by have := HOE.out g hg; simp at hx; omega))
          replace HE := hide (HE.out.set 2 (.int .i64 (1 + xb)))
          replace HD := hide (HD.out.set (b := E) (o := 2) (v := .int .i64 (1 + xb)) HM.out)
          replace HO := hide (owns_turnZ HO.out (set_chain _ E 3 (.int .i64 0)) (fun g hg hx => by have := HOE.out g hg; simp at hx; omega))
          replace HE := hide (HE.out.set 3 (.int .i64 0))
          replace HD := hide (HD.out.set (b := E) (o := 3) (v := .int .i64 0) HM.out)
          replace HO := hide (owns_turnZ HO.out (set_chain _ E 4 (.int .i64 (1 + xc))) (fun g hg hx => by have := HOE.out g hg; simp at hx; omega))
          replace HE := hide (HE.out.set 4 (.int .i64 (1 + xc)))
          replace HD := hide (HD.out.set (b := E) (o := 4) (v := .int .i64 (1 + xc)) HM.out)
          replace HO := hide (owns_turnZ HO.out (set_chain _ E 5 (.int .i64 0)) (fun g hg hx => by have := HOE.out g hg; simp at hx; omega))
          replace HE := hide (HE.out.set 5 (.int .i64 0))
          replace HD := hide (HD.out.set (b := E) (o := 5) (v := .int .i64 0) HM.out)
          replace HO := hide (owns_turnZ HO.out (set_chain _ E 6 (.bool bd)) (fun g hg hx => by have := HOE.out g hg; simp at hx; omega))
          replace HE := hide (HE.out.set 6 (.bool bd))
          replace HD := hide (HD.out.set (b := E) (o := 6) (v := .bool bd) HM.out)
          replace HO := hide (owns_turnZ HO.out (set_chain _ E 3 (.int .i64 (1 + (1 + xb) % 3))) (fun g hg hx => by have := HOE.out g hg; simp at hx; omega))
          replace HE := hide (HE.out.set 3 (.int .i64 (1 + (1 + xb) % 3)))
          replace HD := hide (HD.out.set (b := E) (o := 3) (v := .int .i64 (1 + (1 + xb) % 3)) HM.out)
          generalize ((((((((w12.setCell ⟨E, 0, none⟩ (.int .i64 5)).setCell ⟨E, 1, none⟩ (.int .i64 (1 + xa))).setCell ⟨E, 2, none⟩ (.int .i64 (1 + xb))).setCell ⟨E, 3, none⟩ (.int .i64 0)).setCell ⟨E, 4, none⟩ (.int .i64 (1 + xc))).setCell ⟨E, 5, none⟩ (.int .i64 0)).setCell ⟨E, 6, none⟩ (.bool bd)).setCell ⟨E, 3, none⟩ (.int .i64 (1 + (1 + xb) % 3))) = W9 at *
          have z0 := HE.out.cell (i := 0) (by decide)
          have z1 := HE.out.cell (i := 1) (by decide)
          have z2 := HE.out.cell (i := 2) (by decide)
          have z3 := HE.out.cell (i := 3) (by decide)
          have z4 := HE.out.cell (i := 4) (by decide)
          have z5 := HE.out.cell (i := 5) (by decide)
          have z6 := HE.out.cell (i := 6) (by decide)
          simp [evRow] at z0 z1 z2 z3 z4 z5 z6
          obtain ⟨v9, w9, hr9, ho9, hg9⟩ := run_ev W9 w.heap.size u5 es.length (ets es) (⟨5, 1 + xa, 1 + xb, 1 + (1 + xb) % 3, 1 + xc, 0, bd⟩) 92 HO.out (by omega) HD.out.le
          have HR9 := hide hr9
          have HO9 : Hid (w9.ownsRow w.heap.size 28 7 v9 (es ++ [((⟨5, 1 + xa, 1 + xb, 1 + (1 + xb) % 3, 1 + xc, 0, bd⟩) : Et)]).length (ets (es ++ [((⟨5, 1 + xa, 1 + xb, 1 + (1 + xb) % 3, 1 + xc, 0, bd⟩) : Et)]))) := by show World.ownsRow _ _ _ _ _ _ _; rw [ets_append, List.length_append]; simpa [ets] using ho9
          have HD9 := hide ((HD.out.alloc (.cells ((⟨5, 1 + xa, 1 + xb, 1 + (1 + xb) % 3, 1 + xc, 0, bd⟩) : Et).cells.toArray 28)).grow hg9 (fun r hr => (HO.out.lt _ hr).1))
          clear hr9 ho9 hg9 HO HD HE
          go_wp2_with (at_builtin; refine Lib.wpList_append_run _ rfl (.tmp 59) (.tmp 61) _ _ rfl _ _ rfl rfl v9 w9 HR9.out ?_)
          go_roundw
          case rel => exact ⟨j, es ++ [((⟨5, 1 + xa, 1 + xb, 1 + (1 + xb) % 3, 1 + xc, 0, bd⟩) : Et)], by go_num, by have := HL.out; show _ ≤ _; simp; omega, HO9, HD9⟩
          case measure => simp [intOf]
        · have hq' : (q == 0) = false := beq_eq_false_iff_ne.2 hq
          have z0 := HE.out.cell (i := 0) (by decide)
          have zf0 := HE.out.frozen 0
          have z1 := HE.out.cell (i := 1) (by decide)
          have zf1 := HE.out.frozen 1
          have z2 := HE.out.cell (i := 2) (by decide)
          have zf2 := HE.out.frozen 2
          have z3 := HE.out.cell (i := 3) (by decide)
          have zf3 := HE.out.frozen 3
          have z4 := HE.out.cell (i := 4) (by decide)
          have zf4 := HE.out.frozen 4
          have z5 := HE.out.cell (i := 5) (by decide)
          have zf5 := HE.out.frozen 5
          have z6 := HE.out.cell (i := 6) (by decide)
          have zf6 := HE.out.frozen 6
          have zl := HE.out.lt
          simp [evRow] at z0 z1 z2 z3 z4 z5 z6
          obtain ⟨v9, w9, hr9, ho9, hg9⟩ := run_ev w8 w.heap.size u5 es.length (ets es) (⟨ek, ey, ec, et, em, ef, eb⟩) 92 HO.out (by omega) HD.out.le
          have HR9 := hide hr9
          have HO9 : Hid (w9.ownsRow w.heap.size 28 7 v9 (es ++ [((⟨ek, ey, ec, et, em, ef, eb⟩) : Et)]).length (ets (es ++ [((⟨ek, ey, ec, et, em, ef, eb⟩) : Et)]))) := by show World.ownsRow _ _ _ _ _ _ _; rw [ets_append, List.length_append]; simpa [ets] using ho9
          have HD9 := hide ((HD.out.alloc (.cells ((⟨ek, ey, ec, et, em, ef, eb⟩) : Et).cells.toArray 28)).grow hg9 (fun r hr => (HO.out.lt _ hr).1))
          clear hr9 ho9 hg9 HO HD HE
          go_wp2_with (at_builtin; refine Lib.wpList_append_run _ rfl (.tmp 59) (.tmp 61) _ _ rfl _ _ rfl rfl v9 w9 HR9.out ?_)
          go_roundw
          case rel => exact ⟨j, es ++ [((⟨ek, ey, ec, et, em, ef, eb⟩) : Et)], by go_num, by have := HL.out; show _ ≤ _; simp; omega, HO9, HD9⟩
          case measure => simp [intOf]
      · obtain rfl : m = 0 := by omega
        have HOF := hide HO.out
        have hl5 := HL.out
        go_wp2_with fail
        go_ret
        exact ⟨⟨_, es, rfl, HOF.out, by omega⟩, HD.out.dr, HD.out.gr⟩
  · have hk' : (k == 0) = false := beq_eq_false_iff_ne.2 hk
    go_wp2_with fail
    refine (below_any (most + 1) HD.out.dr (by omega) (by omega)).mono ?_
    rintro _ w6 ⟨⟨n, n0, n1, rfl⟩, s1, g1⟩
    replace HO := hide (owns_growE HO.out g1 (fun r hr hb => by
      have h1 := (HO.out.lt _ hb).1
      have h2 := Option.some.inj hr
      omega))
    replace HD := hide (HD.out.step s1 g1)
    clear s1 g1
    obtain ⟨n', rfl⟩ : ∃ n' : Nat, n = n' := ⟨n.toNat, by omega⟩
    go_wp2_with fail
    go_loopw [5, 6] (fun v y wr => ∃ (m : Nat) (es : List Et), y = .int .i64 (m : Int) ∧ Hid (es.length + m ≤ 5 + most) ∧ Hid (wr.ownsRow w.heap.size 28 7 v es.length (ets es)) ∧ Hid (Ds w B0 B a len cap wr)) (fun _ y _ => (intOf y).toNat)
    case atStart => exact ⟨n', es0, rfl, by show _ ≤ _; omega, HO.out, HD.out⟩
    case round =>
      clear HO HD
      obtain ⟨m, es, rfl, HL, HO, HD⟩ := hrel
      by_cases hm : 0 < m
      · obtain ⟨j, rfl⟩ : ∃ j, m = j + 1 := ⟨m - 1, by omega⟩
        have hj5 : j ≤ 200 := by have := HL.out; omega
        have hle : es.length ≤ 200 := by have := HL.out; omega
        go_wp2_with fail
        refine (event_any HD.out.dr).mono ?_
        rintro _ w7 ⟨⟨ek, ey, ec, et, em, ef, eb, rfl⟩, s1, g1⟩
        replace HO := hide (owns_growE HO.out g1 (fun r hr hb => by
          have h1 := (HO.out.lt _ hb).1
          have h2 := Option.some.inj hr
          omega))
        replace HD := hide (HD.out.step s1 g1)
        clear s1 g1
        have HE : Hid ((w7.alloc (.cells (evCells ek ey ec et em ef eb) 28)).rowIs w7.heap.size 28 7 (evRow ek ey ec et em ef eb)) := (World.rowIs_alloc w7 (evCells ek ey ec et em ef eb) 28 _ (ev_row ek ey ec et em ef eb))
        have HOE : Hid (∀ g, u5.ownBlock = some g → g < w7.heap.size) := fun g hg => (HO.out.lt g hg).2
        have HM : Hid (w.heap.size ≤ w7.heap.size) := HD.out.le
        replace HO := hide (HO.out.alloc (.cells (evCells ek ey ec et em ef eb) 28))
        replace HD := hide (HD.out.alloc (.cells (evCells ek ey ec et em ef eb) 28))
        go_wp2_with fail
        generalize w7.alloc (.cells (evCells ek ey ec et em ef eb) 28) = W1 at *
        generalize w7.heap.size = E at *
        refine (below_any 3 HD.out.dr (by omega) (by omega)).mono ?_
        rintro _ w8 ⟨⟨q, q0, q1, rfl⟩, s1, g1⟩
        replace HO := hide (owns_growE HO.out g1 (fun r hr hb => by
          have h1 := (HO.out.lt _ hb).1
          have h2 := Option.some.inj hr
          omega))
        replace HE := hide (HD.out.row g1 HE.out HM.out)
        replace HD := hide (HD.out.step s1 g1)
        clear s1 g1
        by_cases hq : q = 0
        · subst hq
          go_wp2_with fail
          refine (below_any 6 HD.out.dr (by omega) (by omega)).mono ?_
          rintro _ w9 ⟨⟨xa, xa0, xa1, rfl⟩, s1, g1⟩
          replace HO := hide (owns_growE HO.out g1 (fun r hr hb => by
            have h1 := (HO.out.lt _ hb).1
            have h2 := Option.some.inj hr
            omega))
          replace HE := hide (HD.out.row g1 HE.out HM.out)
          replace HD := hide (HD.out.step s1 g1)
          clear s1 g1
          go_wp2_with fail
          refine (below_any 3 HD.out.dr (by omega) (by omega)).mono ?_
          rintro _ w10 ⟨⟨xb, xb0, xb1, rfl⟩, s1, g1⟩
          replace HO := hide (owns_growE HO.out g1 (fun r hr hb => by
            have h1 := (HO.out.lt _ hb).1
            have h2 := Option.some.inj hr
            omega))
          replace HE := hide (HD.out.row g1 HE.out HM.out)
          replace HD := hide (HD.out.step s1 g1)
          clear s1 g1
          go_wp2_with fail
          refine (below_any 5000 HD.out.dr (by omega) (by omega)).mono ?_
          rintro _ w11 ⟨⟨xc, xc0, xc1, rfl⟩, s1, g1⟩
          replace HO := hide (owns_growE HO.out g1 (fun r hr hb => by
            have h1 := (HO.out.lt _ hb).1
            have h2 := Option.some.inj hr
            omega))
          replace HE := hide (HD.out.row g1 HE.out HM.out)
          replace HD := hide (HD.out.step s1 g1)
          clear s1 g1
          go_wp2_with fail
          refine (below_any 2 HD.out.dr (by omega) (by omega)).mono ?_
          rintro _ w12 ⟨⟨xd, xd0, xd1, rfl⟩, s1, g1⟩
          replace HO := hide (owns_growE HO.out g1 (fun r hr hb => by
            have h1 := (HO.out.lt _ hb).1
            have h2 := Option.some.inj hr
            omega))
          replace HE := hide (HD.out.row g1 HE.out HM.out)
          replace HD := hide (HD.out.step s1 g1)
          clear s1 g1
          obtain ⟨bd, hbd⟩ : ∃ bd : Bool, (xd == 0) = bd := ⟨_, rfl⟩
          have z0 := HE.out.cell (i := 0) (by decide)
          have zf0 := HE.out.frozen 0
          have z1 := HE.out.cell (i := 1) (by decide)
          have zf1 := HE.out.frozen 1
          have z2 := HE.out.cell (i := 2) (by decide)
          have zf2 := HE.out.frozen 2
          have z3 := HE.out.cell (i := 3) (by decide)
          have zf3 := HE.out.frozen 3
          have z4 := HE.out.cell (i := 4) (by decide)
          have zf4 := HE.out.frozen 4
          have z5 := HE.out.cell (i := 5) (by decide)
          have zf5 := HE.out.frozen 5
          have z6 := HE.out.cell (i := 6) (by decide)
          have zf6 := HE.out.frozen 6
          have zl := HE.out.lt
          simp [evRow] at z0 z1 z2 z3 z4 z5 z6
          go_upto_region 11 with fail
          clear z0 z1 z2 z3 z4 z5 z6 zf0 zf1 zf2 zf3 zf4 zf5 zf6 zl
          replace HO := hide (owns_turnZ HO.out (set_chain _ E 0 (.int .i64 5)) (fun g hg hx => by have := HOE.out g hg; simp at hx; omega))
          replace HE := hide (HE.out.set 0 (.int .i64 5))
          replace HD := hide (HD.out.set (b := E) (o := 0) (v := .int .i64 5) HM.out)
          replace HO := hide (owns_turnZ HO.out (set_chain _ E 1 (.int .i64 (1 + xa))) (fun g hg hx => by have := HOE.out g hg; simp at hx; omega))
          replace HE := hide (HE.out.set 1 (.int .i64 (1 + xa)))
          replace HD := hide (HD.out.set (b := E) (o := 1) (v := .int .i64 (1 + xa)) HM.out)
          replace HO := hide (owns_turnZ HO.out (set_chain _ E 2 (.int .i64 (1 + xb))) (fun g hg hx => by have := HOE.out g hg; simp at hx; omega))
          replace HE := hide (HE.out.set 2 (.int .i64 (1 + xb)))
          replace HD := hide (HD.out.set (b := E) (o := 2) (v := .int .i64 (1 + xb)) HM.out)
          replace HO := hide (owns_turnZ HO.out (set_chain _ E 3 (.int .i64 0)) (fun g hg hx => by have := HOE.out g hg; simp at hx; omega))
          replace HE := hide (HE.out.set 3 (.int .i64 0))
          replace HD := hide (HD.out.set (b := E) (o := 3) (v := .int .i64 0) HM.out)
          replace HO := hide (owns_turnZ HO.out (set_chain _ E 4 (.int .i64 (1 + xc))) (fun g hg hx => by have := HOE.out g hg; simp at hx; omega))
          replace HE := hide (HE.out.set 4 (.int .i64 (1 + xc)))
          replace HD := hide (HD.out.set (b := E) (o := 4) (v := .int .i64 (1 + xc)) HM.out)
          replace HO := hide (owns_turnZ HO.out (set_chain _ E 5 (.int .i64 0)) (fun g hg hx => by have := HOE.out g hg; simp at hx; omega))
          replace HE := hide (HE.out.set 5 (.int .i64 0))
          replace HD := hide (HD.out.set (b := E) (o := 5) (v := .int .i64 0) HM.out)
          replace HO := hide (owns_turnZ HO.out (set_chain _ E 6 (.bool bd)) (fun g hg hx => by have := HOE.out g hg; simp at hx; omega))
          replace HE := hide (HE.out.set 6 (.bool bd))
          replace HD := hide (HD.out.set (b := E) (o := 6) (v := .bool bd) HM.out)
          replace HO := hide (owns_turnZ HO.out (set_chain _ E 3 (.int .i64 (1 + (1 + xb) % 3))) (fun g hg hx => by have := HOE.out g hg; simp at hx; omega))
          replace HE := hide (HE.out.set 3 (.int .i64 (1 + (1 + xb) % 3)))
          replace HD := hide (HD.out.set (b := E) (o := 3) (v := .int .i64 (1 + (1 + xb) % 3)) HM.out)
          generalize ((((((((w12.setCell ⟨E, 0, none⟩ (.int .i64 5)).setCell ⟨E, 1, none⟩ (.int .i64 (1 + xa))).setCell ⟨E, 2, none⟩ (.int .i64 (1 + xb))).setCell ⟨E, 3, none⟩ (.int .i64 0)).setCell ⟨E, 4, none⟩ (.int .i64 (1 + xc))).setCell ⟨E, 5, none⟩ (.int .i64 0)).setCell ⟨E, 6, none⟩ (.bool bd)).setCell ⟨E, 3, none⟩ (.int .i64 (1 + (1 + xb) % 3))) = W9 at *
          have z0 := HE.out.cell (i := 0) (by decide)
          have z1 := HE.out.cell (i := 1) (by decide)
          have z2 := HE.out.cell (i := 2) (by decide)
          have z3 := HE.out.cell (i := 3) (by decide)
          have z4 := HE.out.cell (i := 4) (by decide)
          have z5 := HE.out.cell (i := 5) (by decide)
          have z6 := HE.out.cell (i := 6) (by decide)
          simp [evRow] at z0 z1 z2 z3 z4 z5 z6
          obtain ⟨v9, w9, hr9, ho9, hg9⟩ := run_ev W9 w.heap.size u5 es.length (ets es) (⟨5, 1 + xa, 1 + xb, 1 + (1 + xb) % 3, 1 + xc, 0, bd⟩) 92 HO.out (by omega) HD.out.le
          have HR9 := hide hr9
          have HO9 : Hid (w9.ownsRow w.heap.size 28 7 v9 (es ++ [((⟨5, 1 + xa, 1 + xb, 1 + (1 + xb) % 3, 1 + xc, 0, bd⟩) : Et)]).length (ets (es ++ [((⟨5, 1 + xa, 1 + xb, 1 + (1 + xb) % 3, 1 + xc, 0, bd⟩) : Et)]))) := by show World.ownsRow _ _ _ _ _ _ _; rw [ets_append, List.length_append]; simpa [ets] using ho9
          have HD9 := hide ((HD.out.alloc (.cells ((⟨5, 1 + xa, 1 + xb, 1 + (1 + xb) % 3, 1 + xc, 0, bd⟩) : Et).cells.toArray 28)).grow hg9 (fun r hr => (HO.out.lt _ hr).1))
          clear hr9 ho9 hg9 HO HD HE
          go_wp2_with (at_builtin; refine Lib.wpList_append_run _ rfl (.tmp 59) (.tmp 61) _ _ rfl _ _ rfl rfl v9 w9 HR9.out ?_)
          go_roundw
          case rel => exact ⟨j, es ++ [((⟨5, 1 + xa, 1 + xb, 1 + (1 + xb) % 3, 1 + xc, 0, bd⟩) : Et)], by go_num, by have := HL.out; show _ ≤ _; simp; omega, HO9, HD9⟩
          case measure => simp [intOf]
        · have hq' : (q == 0) = false := beq_eq_false_iff_ne.2 hq
          have z0 := HE.out.cell (i := 0) (by decide)
          have zf0 := HE.out.frozen 0
          have z1 := HE.out.cell (i := 1) (by decide)
          have zf1 := HE.out.frozen 1
          have z2 := HE.out.cell (i := 2) (by decide)
          have zf2 := HE.out.frozen 2
          have z3 := HE.out.cell (i := 3) (by decide)
          have zf3 := HE.out.frozen 3
          have z4 := HE.out.cell (i := 4) (by decide)
          have zf4 := HE.out.frozen 4
          have z5 := HE.out.cell (i := 5) (by decide)
          have zf5 := HE.out.frozen 5
          have z6 := HE.out.cell (i := 6) (by decide)
          have zf6 := HE.out.frozen 6
          have zl := HE.out.lt
          simp [evRow] at z0 z1 z2 z3 z4 z5 z6
          obtain ⟨v9, w9, hr9, ho9, hg9⟩ := run_ev w8 w.heap.size u5 es.length (ets es) (⟨ek, ey, ec, et, em, ef, eb⟩) 92 HO.out (by omega) HD.out.le
          have HR9 := hide hr9
          have HO9 : Hid (w9.ownsRow w.heap.size 28 7 v9 (es ++ [((⟨ek, ey, ec, et, em, ef, eb⟩) : Et)]).length (ets (es ++ [((⟨ek, ey, ec, et, em, ef, eb⟩) : Et)]))) := by show World.ownsRow _ _ _ _ _ _ _; rw [ets_append, List.length_append]; simpa [ets] using ho9
          have HD9 := hide ((HD.out.alloc (.cells ((⟨ek, ey, ec, et, em, ef, eb⟩) : Et).cells.toArray 28)).grow hg9 (fun r hr => (HO.out.lt _ hr).1))
          clear hr9 ho9 hg9 HO HD HE
          go_wp2_with (at_builtin; refine Lib.wpList_append_run _ rfl (.tmp 59) (.tmp 61) _ _ rfl _ _ rfl rfl v9 w9 HR9.out ?_)
          go_roundw
          case rel => exact ⟨j, es ++ [((⟨ek, ey, ec, et, em, ef, eb⟩) : Et)], by go_num, by have := HL.out; show _ ≤ _; simp; omega, HO9, HD9⟩
          case measure => simp [intOf]
      · obtain rfl : m = 0 := by omega
        have HOF := hide HO.out
        have hl5 := HL.out
        go_wp2_with fail
        go_ret
        exact ⟨⟨_, es, rfl, HOF.out, by omega⟩, HD.out.dr, HD.out.gr⟩
end Go.Proofs.YtkgpoghoilffhaaGreatDoor
