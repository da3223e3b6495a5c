/- Steps held against each other; a step among a law's arguments. -/
import Derived.Test.YtjihinkjcplgcaaDoorStG
import Derived.Deep.OwnRows
namespace Go.Proofs.YtjihinkjcplgcaaDoor
open Go.RowKit Go.Deep Go.ChangeShapes Go.WideShapes
set_option linter.unusedVariables false
set_option linter.unusedSimpArgs false
set_option maxRecDepth 10000
set_option maxHeartbeats 4000000 in
theorem eqStep_k (D : Stp) (a a' : Option Addr) (c c' : Nat) (w : World) (hc : Cells w a (its D.ks)) (hc' : Cells w a' (its D.ks)) (hl : D.ks.length ≤ 1048576) :
    Calls Tryd.prog 8 #[D.v a c, D.v a' c'] w fun e w' => e = .returned (.bool true) ∧ Keeps w w' := by
  have HK := hide (Keeps.alloc (Keeps.alloc (Keeps.refl w) (.cells (D.cells a c) 34)) (.cells (D.cells a' c') 34))
  have HK1 := hide (Keeps.alloc (Keeps.refl (w.alloc (.cells (D.cells a c) 34))) (.cells (D.cells a' c') 34))
  have HA := hide (stp_box D a c w 34)
  have HB := hide (stp_box D a' c' (w.alloc (.cells (D.cells a c) 34)) 34)
  have hs : (w.alloc (.cells (D.cells a c) 34)).heap.size = w.heap.size + 1 := by simp
  rw [hs] at HB
  have HE := hide (fun w' (hk : Keeps w w') => eqInts_k a a' c c' D.ks w' (hc.kept hk) (hc'.kept hk) hl)
  clear hc hc' hs
  go_enter Tryd.func8, Tryd.ntmps8
  go_wp2_with fail
  generalize (w.alloc (.cells (D.cells a c) 34)) = W1 at *
  generalize W1.alloc (.cells (D.cells a' c') 34) = W2 at *
  have HK2 := hide (Keeps.refl W2)
  refine (eqEvent_same D.e.k D.e.y D.e.c D.e.t D.e.m D.e.f D.e.b W2).mono ?_
  rintro x w3 ⟨rfl, hk3⟩
  replace HK2 := hide (HK2.out.trans hk3)
  clear hk3
  obtain ⟨c0, ⟨c1, c2, c3, c4, c5, c6, c7⟩, c8, c9, c10, c11, c12, c13⟩ := HA.out w3 (HK1.out.trans HK2.out)
  obtain ⟨d0, ⟨d1, d2, d3, d4, d5, d6, d7⟩, d8, d9, d10, d11, d12, d13⟩ := HB.out w3 HK2.out
  go_wp2_with fail
  refine (unhide HE w3 (HK.out.trans HK2.out)).mono ?_
  rintro x w4 ⟨rfl, hk4⟩
  replace HK2 := hide (HK2.out.trans hk4)
  clear hk4 c0 c1 c2 c3 c4 c5 c6 c7 c8 c9 c10 c11 c12 c13 d0 d1 d2 d3 d4 d5 d6 d7 d8 d9 d10 d11 d12 d13
  obtain ⟨c0, ⟨c1, c2, c3, c4, c5, c6, c7⟩, c8, c9, c10, c11, c12, c13⟩ := HA.out w4 (HK1.out.trans HK2.out)
  obtain ⟨d0, ⟨d1, d2, d3, d4, d5, d6, d7⟩, d8, d9, d10, d11, d12, d13⟩ := HB.out w4 HK2.out
  go_wp2_with fail
  refine (eqRule_k D.r w4).mono ?_
  rintro x w5 ⟨rfl, hk5⟩
  replace HK2 := hide (HK2.out.trans hk5)
  clear hk5 c0 c1 c2 c3 c4 c5 c6 c7 c8 c9 c10 c11 c12 c13 d0 d1 d2 d3 d4 d5 d6 d7 d8 d9 d10 d11 d12 d13
  go_wp2_with fail
  go_ret
  exact ⟨rfl, HK.out.trans HK2.out⟩
section
variable {H : Type} {enc : TypeId × Value → H} {W : World} {n : Nat} {base : Nat} {sp : Nat → Bool} {hd : Bool}
theorem ints_ofT : ∀ M : List (List Value), (∀ c ∈ M, c.length = 1 ∧ ∃ x : Int, c = [.int .i64 x]) → ∃ L : List Int, L.length = M.length ∧ M.flatten = its L
  | [], _ => ⟨[], rfl, rfl⟩
  | c :: M, h => by
    obtain ⟨L, hl, hf⟩ := ints_ofT M (fun c hc => h c (List.mem_cons_of_mem _ hc))
    obtain ⟨_, x, rfl⟩ := h c (List.mem_cons_self ..)
    exact ⟨x :: L, by simp [hl], by simp [its, hf]⟩
variable {v : Value} {d : DataW H} {ps : List MemPlace}
set_option maxHeartbeats 4000000 in
theorem step_row {b0 : Nat} (hv : Value.okWide Tryd.prog W .any b0 28 v) (h : DataW.Trod enc Tryd.prog W base sp hd 28 v d ps) :
    ∃ (D : Stp) (a : Option Addr) (c : Nat), v = D.v a c ∧ Cells W a (its D.ks) ∧ D.ks.length ≤ 9223372036854775807 := by
  have hs : Tryd.prog.cellsOf 28 = 14 := by kernel_rfl
  have hi : Tryd.prog.cellsOf 3 = 1 := by kernel_rfl
  have hb : Tryd.prog.cellsOf 4 = 1 := by kernel_rfl
  have he : Tryd.prog.cellsOf 23 = 7 := by kernel_rfl
  have hr : Tryd.prog.cellsOf 26 = 5 := by kernel_rfl
  have hk : Tryd.prog.cellsOf 24 = 1 := by kernel_rfl
  obtain ⟨cs, rfl, hz⟩ := okWide_struct Tryd.underlying28 hv
  obtain ⟨m, h⟩ := h
  obtain ⟨xs, n, _, _, hl, hlen, hf⟩ := DataW.trod_struct Tryd.underlying28 h
  rw [hs] at hz
  match xs, hlen with
  | [x0, x1, x2, x3], _ =>
    match cs, hz with
    | ⟨[v0, v1, v2, v3, v4, v5, v6, v7, v8, v9, v10, v11, v12, v13]⟩, _ =>
      have h0 := hf 0 _ rfl
      have h1 := hf 1 _ rfl
      have h2 := hf 2 _ rfl
      have h3 := hf 3 _ rfl
      simp [Value.cells, hi, hb, he, hr, hk] at h0 h1 h2 h3
      obtain ⟨k, e0, _, _⟩ := DataW.trod_int Tryd.underlying3 h0
      obtain ⟨ys, n1, _, _, hl1, hlen1, hf1⟩ := DataW.trod_struct Tryd.underlying23 h1
      obtain ⟨zs, n3, _, _, hl3, hlen3, hf3⟩ := DataW.trod_struct Tryd.underlying26 h3
      obtain ⟨a', cap', M, hv', hq, hc, hn, hl'⟩ := open_cells' underInts cellsInt (by decide) h2 (fun c => ∃ x : Int, c = [.int .i64 x]) (fun _ _ _ h => by
        obtain ⟨k, e, _, _⟩ := DataW.trod_int Tryd.underlying3 h
        exact ⟨k, e⟩)
      obtain ⟨L, eL, ef⟩ := ints_ofT M hq
      match ys, hlen1, zs, hlen3 with
      | [y0, y1, y2, y3, y4, y5, y6], _, [z0, z1, z2, z3, z4], _ =>
        have g0 := hf1 0 _ rfl
        have g1 := hf1 1 _ rfl
        have g2 := hf1 2 _ rfl
        have g3 := hf1 3 _ rfl
        have g4 := hf1 4 _ rfl
        have g5 := hf1 5 _ rfl
        have g6 := hf1 6 _ rfl
        have r0 := hf3 0 _ rfl
        have r1 := hf3 1 _ rfl
        have r2 := hf3 2 _ rfl
        have r3 := hf3 3 _ rfl
        have r4 := hf3 4 _ rfl
        simp [Value.cells, hi, hb] at g0 g1 g2 g3 g4 g5 g6 r0 r1 r2 r3 r4
        obtain ⟨p0, q0, _, _⟩ := DataW.trod_int Tryd.underlying3 g0
        obtain ⟨p1, q1, _, _⟩ := DataW.trod_int Tryd.underlying3 g1
        obtain ⟨p2, q2, _, _⟩ := DataW.trod_int Tryd.underlying3 g2
        obtain ⟨p3, q3, _, _⟩ := DataW.trod_int Tryd.underlying3 g3
        obtain ⟨p4, q4, _, _⟩ := DataW.trod_int Tryd.underlying3 g4
        obtain ⟨p5, q5, _, _⟩ := DataW.trod_int Tryd.underlying3 g5
        obtain ⟨p6, q6, _⟩ := DataW.trod_bool Tryd.underlying4 g6
        obtain ⟨s0, t0, _, _⟩ := DataW.trod_int Tryd.underlying3 r0
        obtain ⟨s1, t1, _, _⟩ := DataW.trod_int Tryd.underlying3 r1
        obtain ⟨s2, t2, _, _⟩ := DataW.trod_int Tryd.underlying3 r2
        obtain ⟨s3, t3, _, _⟩ := DataW.trod_int Tryd.underlying3 r3
        obtain ⟨s4, t4, _, _⟩ := DataW.trod_int Tryd.underlying3 r4
        simp at e0 q0 q1 q2 q3 q4 q5 q6 t0 t1 t2 t3 t4
        refine ⟨⟨k, ⟨p0, p1, p2, p3, p4, p5, p6⟩, L, ⟨s0, s1, s2, s3, s4⟩⟩, a', cap', ?_, by rw [← ef]; exact hc, by rw [eL]; exact hl'⟩
        rw [e0, q0, q1, q2, q3, q4, q5, q6, t0, t1, t2, t3, t4, hv', ← eL]
end
end Go.Proofs.YtjihinkjcplgcaaDoor
