/- Texts of the verifier, joined: FfS, Rd, Rf, Re, FgI. -/
import Derived.Test.YtjdbedlgkngdkaaGreatDoorPMoves5
import Derived.Deep.Cut
import Derived.OwnWalk
import Derived.Deep.RegionHeld3
import Derived.Test.YtjdbedlgkngdkaaGreatDoorPMoves4
import Derived.Test.YtjdbedlgkngdkaaGreatDoorPMoves3
namespace Go.Proofs.YtjdbedlgkngdkaaGreatDoor
open Go.RowKit Go.Deep
set_option linter.unusedVariables false
set_option linter.unusedSimpArgs false
set_option maxRecDepth 10000

set_option maxHeartbeats 8000000 in
theorem flow_spec (G : Gf) (fa : Option Addr) (fc : Nat) (f : List Int) (w : World) (hm : Mem w G.segs) (hf : Cells w fa (its f)) (hl : G.len) (hlf : f.length ≤ 1048576) : Calls Tryz.prog 99 #[G.v, .slice fa f.length fc] w fun e w' => e = .returned (.bool (flowB G.nn G.E f)) ∧ Keeps w w' := by
  have HQ := hide (fun w' (hk : Keeps w w') => graph_spec G w' (hm.kept hk) hl)
  obtain ⟨nn, ea, ec, E⟩ := G
  have HC := hide (fun w' (hk : Keeps w w') => Gf.memE (hm.kept hk))
  have HF := hide hf
  have HB := hide (gr_box ⟨nn, ea, ec, E⟩ w 36)
  have HK := hide (Keeps.alloc (Keeps.refl w) (.cells #[.int .i64 nn, .slice ea E.length ec] 36))
  have HS : Hid ((w.alloc (.cells #[.int .i64 nn, .slice ea E.length ec] 36)).heap.size = w.heap.size + 1) := by show _ = _; simp
  dsimp only [Gf.v, Gf.len] at *
  clear hm hf
  cases hb : graphB nn E
  · go_enter Tryz.func99, Tryz.ntmps99
    go_wp2_with fail
    refine (unhide HQ _ HK.out).mono ?_
    rintro e w1 ⟨rfl, hk⟩
    rw [hb]
    go_wp2_with fail
    go_ret
    exact ⟨ret_b (flowB_no (Or.inl hb)).symm, HK.out.trans hk⟩
  by_cases hle : f.length = E.length
  rotate_left
  · have HN := hide hle
    have hne : ((f.length : Int) != (E.length : Int)) = true := by simp; omega
    go_enter Tryz.func99, Tryz.ntmps99
    go_wp2_with fail
    refine (unhide HQ _ HK.out).mono ?_
    rintro e w1 ⟨rfl, hk⟩
    generalize w.alloc (.cells #[.int .i64 nn, .slice ea E.length ec] 36) = W0 at *
    rw [hb]
    obtain ⟨q0, q1⟩ := HB.out.kept hk
    dsimp only at q0 q1
    go_wp2_with fail
    go_ret
    exact ⟨ret_b (flowB_no (Or.inr (Or.inl HN.out))).symm, HK.out.trans hk⟩
  have HL := hide hle
  rw [hle] at hlf ⊢
  clear hle
  obtain ⟨g1, g2, g3, g4⟩ := graphB_true hb
  have HG4 := hide g4
  clear g4
  obtain ⟨n, rfl⟩ : ∃ n : Nat, nn = (n : Int) := ⟨nn.toNat, by omega⟩
  have HBB := hide hb
  have hmk := make_ints n (by omega)
  go_enter Tryz.func99, Tryz.ntmps99
  go_wp2_with fail
  refine (unhide HQ _ HK.out).mono ?_
  rintro e w1 ⟨rfl, hk⟩
  rw [hb]
  clear hb
  generalize w.alloc (.cells #[.int .i64 (n : Int), .slice ea E.length ec] 36) = W0 at *
  obtain ⟨q0, q1⟩ := HB.out.kept hk
  dsimp only at q0 q1
  have HB1 := hide (HB.out.kept hk)
  have HK1 := hide (HK.out.trans hk)
  have HS1 : Hid (w.heap.size + 1 ≤ w1.heap.size) := by show _ ≤ _; have := hk.size; have := HS.out; omega
  clear hk HB HK HS HQ
  have lb := lt_of_cell q0
  go_wp2_with fail
  clear hmk q0 q1 lb
  have HR0 := hide ((World.rowIs_made w1 (.int .i64 0) n 3).congr (g := fun v => .int .i64 (bal E f 0 v)) (fun i _ => by simp [bal]))
  have HK2 := hide (Keeps.alloc (Keeps.refl w1) (.cells (madeCells #[.int .i64 0] n) 3))
  obtain ⟨B, hB⟩ : ∃ B, B = w1.heap.size := ⟨_, rfl⟩
  rw [← hB] at HR0 HS1 ⊢
  have HB0 := hide hB
  clear hB
  have HKW := hide (HK1.out.trans HK2.out)
  have HBW := hide (HB1.out.kept HK2.out)
  generalize w1.alloc (.cells (madeCells #[.int .i64 0] n) 3) = W1 at *
  clear HK2 HK1 HB1 HB0
  have HKV := hide (Keeps.refl W1)
  go_loopw [27] (fun y wr => ∃ k : Nat, k ≤ E.length ∧ y = .int .i64 (k : Int) ∧ Hid (wr.rowIs B 3 n (fun v => .int .i64 (bal E f k v))) ∧ Hid (∀ j (hj : j < E.length) (hf : j < f.length), j < k → 0 ≤ f[j] ∧ f[j] ≤ E[j].cp) ∧ Hid (Turn [B] W1 wr)) (fun y _ => E.length - (intOf y).toNat)
  case atStart => exact ⟨0, by omega, rfl, HR0.out, fun j hj _ h => absurd h (by omega), Turn.refl _ _⟩
  case round =>
    obtain ⟨k, hk, rfl, HR, HG, HTr⟩ := hrel
    clear HR0 HKV
    have HKr : Hid (Keeps w wr) := HTr.out.keeps HKW.out (by have := HS1.out; simp; omega)
    have hBlt := HR.out.lt
    have HBr : Hid (GrAt wr w.heap.size ⟨(n : Int), ea, ec, E⟩) := by
      obtain ⟨q0, q1⟩ := HBW.out
      have := HS1.out
      exact ⟨HTr.out.cell (by simp; omega) q0, HTr.out.cell (by simp; omega) q1⟩
    by_cases hlt : k < E.length
    · have hkf : k < f.length := by rw [HL.out]; exact hlt
      obtain ⟨eb, eoff, ea', c0, c1, c2, c3⟩ := egs_at (unhide HC _ HKr.out) k hlt
      obtain ⟨fb, foff, fa', y0⟩ := its_at HF.out k hkf
      have hfl := lt_of_cell y0
      replace y0 := HKr.out.cell y0
      have hel := lt_of_cell c0
      have he := edgeB_true (HG4.out k hlt)
      have HBS := hide (fun v => bal_step hlt hkf v)
      have HNO : Hid (¬ (0 ≤ f[k] ∧ f[k] ≤ E[k].cp) → flowB (n : Int) E f = false) := fun h => flowB_no (Or.inr (Or.inr (Or.inl (fun hc => h (hc k hlt hkf)))))
      have HGS : Hid (0 ≤ f[k] → f[k] ≤ E[k].cp → ∀ j (hj : j < E.length) (hf : j < f.length), j < k + 1 → 0 ≤ f[j] ∧ f[j] ≤ E[j].cp) := fun h h' j hj hf hlt' => by
        by_cases e : j = k
        · subst e; exact ⟨h, h'⟩
        · exact HG.out j hj hf (by omega)
      have hbb := fun v => bal_bound (E := E) (f := f) (B := 1000000000) (by decide) k (fun j hj h => by
        obtain ⟨a1, a2⟩ := HG.out j (by rw [← HL.out]; exact hj) hj h
        have a3 := edgeB_true (HG4.out j (by rw [← HL.out]; exact hj))
        exact ⟨a1, by omega⟩) v
      generalize E[k] = x at *
      generalize f[k] = y at *
      obtain ⟨xfr, xto, xcp, xco⟩ := x
      dsimp only at c0 c1 c2 c3 he HBS HNO HGS
      obtain ⟨e0, e1, e2, e3, e4, e5, e6, -, -⟩ := he
      obtain ⟨a, rfl⟩ : ∃ a : Nat, xfr = (a : Int) := ⟨xfr.toNat, by omega⟩
      obtain ⟨b, rfl⟩ : ∃ b : Nat, xto = (b : Int) := ⟨xto.toNat, by omega⟩
      have ha : a < n := by omega
      have hb : b < n := by omega
      have hab : a ≠ b := by omega
      have hba := hbb a
      have hbb := hbb b
      have HKA := hide (Keeps.alloc (Keeps.refl wr) (.cells #[.int .i64 (a : Int), .int .i64 (b : Int), .int .i64 xcp, .int .i64 xco] 40))
      have hw : w.heap.size + 1 ≤ B := HS1.out
      obtain rfl := fa'
      have HX := hide ea'
      clear ea' e0 e1 e2 e3 e4
      obtain rfl := HX.out
      go_upto_region 7 with fail
      have HRA := hide (HKA.out.rowK HR.out)
      have HTA : Hid (Turn [B] W1 (wr.alloc (.cells #[.int .i64 (a : Int), .int .i64 (b : Int), .int .i64 xcp, .int .i64 xco] 40))) := HTr.out.trans' (Turn.of_keeps HKA.out _)
      have v0 : (wr.alloc (.cells #[.int .i64 (a : Int), .int .i64 (b : Int), .int .i64 xcp, .int .i64 xco] 40)).cell? ⟨wr.heap.size, 0, none⟩ = some (.int .i64 (a : Int)) := by simp
      have v1 : (wr.alloc (.cells #[.int .i64 (a : Int), .int .i64 (b : Int), .int .i64 xcp, .int .i64 xco] 40)).cell? ⟨wr.heap.size, 1, none⟩ = some (.int .i64 (b : Int)) := by simp
      have v2 : (wr.alloc (.cells #[.int .i64 (a : Int), .int .i64 (b : Int), .int .i64 xcp, .int .i64 xco] 40)).cell? ⟨wr.heap.size, 2, none⟩ = some (.int .i64 xcp) := by simp
      replace y0 := HKA.out.cell y0
      have HKZ := hide (HKr.out.trans HKA.out)
      obtain ⟨V, hV⟩ : ∃ V, V = wr.heap.size := ⟨_, rfl⟩
      rw [← hV] at v0 v1 v2 hBlt ⊢
      have HV := hide hV
      clear hV c0 c1 c2 c3 hel HR HKr HBr
      generalize wr.alloc (.cells #[.int .i64 (a : Int), .int .i64 (b : Int), .int .i64 xcp, .int .i64 xco] 40) = W2 at *
      by_cases hy0 : 0 ≤ y
      rotate_left
      · have hyd : decide (y < 0) = true := by simp; omega
        clear v0 v1 v2
        go_quiet (fail)
        go_wp2_with fail
        go_ret
        exact ⟨ret_b (HNO.out (by omega)).symm, HKZ.out.drewN _⟩
      have hyd : decide (y < 0) = false := by simp; omega
      by_cases hy1 : y ≤ xcp
      rotate_left
      · go_quiet (fail)
        go_wp2_with fail
        go_ret
        exact ⟨ret_b (HNO.out (by omega)).symm, HKZ.out.drewN _⟩
      go_quiet (fail)
      go_upto_region 9 with fail
      have hk3 := (Keeps.refl W2).drewN nq
      replace y0 := hk3.cell y0
      replace v0 := hk3.cell v0
      replace v1 := hk3.cell v1
      replace HRA := hide (hk3.rowK HRA.out)
      replace HTA := hide (HTA.out.trans' (Turn.of_keeps hk3 _))
      clear hk3 v2 HKZ
      generalize W2.drewN nq = W3 at *
      have r0 := HRA.out.cell (i := a) ha
      have f0 := HRA.out.frozen a
      have HA0 := hide (rfl : bal E f k a = bal E f k a)
      generalize hA0 : bal E f k a = A0 at r0 hba
      replace HA0 := hide hA0
      clear hA0
      have w0 : IntKind.i64.wrap (A0 - y) = A0 - y := by rw [IntKind.wrap_i64]; omega
      go_big_region
      have ht4 : Turn [B] W3 (W3.setCell ⟨B, a, none⟩ (.int .i64 (A0 - y))).drew := (Turn.set (by simp) _).trans' (Turn.of_keeps ((Keeps.refl _).drew) _)
      replace HRA := hide (((Keeps.refl _).drew).rowK (HRA.out.set a (.int .i64 (A0 - y))))
      replace y0 := ht4.cell (by simp; omega) y0
      replace v1 := ht4.cell (by simp; omega) v1
      replace HTA := hide (HTA.out.trans' ht4)
      clear ht4 v0 r0 f0 w0
      generalize (W3.setCell ⟨B, a, none⟩ (.int .i64 (A0 - y))).drew = W4 at *
      go_upto_region 10 with fail
      have r1 := HRA.out.cell (i := b) hb
      rw [if_neg (Ne.symm hab)] at r1
      have f1 := HRA.out.frozen b
      generalize hB0 : bal E f k b = B0 at r1 hbb
      have HB0 := hide hB0
      clear hB0
      have w1' : IntKind.i64.wrap (B0 + y) = B0 + y := by rw [IntKind.wrap_i64]; omega
      go_big_region
      have ht5 : Turn [B] W4 (W4.setCell ⟨B, b, none⟩ (.int .i64 (B0 + y))).drew := (Turn.set (by simp) _).trans' (Turn.of_keeps ((Keeps.refl _).drew) _)
      replace HRA := hide (((Keeps.refl _).drew).rowK (HRA.out.set b (.int .i64 (B0 + y))))
      replace HTA := hide (HTA.out.trans' ht5)
      clear ht5 v1 r1 f1 w1' y0
      generalize (W4.setCell ⟨B, b, none⟩ (.int .i64 (B0 + y))).drew = W5 at *
      go_wp2_with fail
      go_roundw
      case rel =>
        refine ⟨k + 1, by omega, by go_num, HRA.out.congr (fun j _ => ?_), HGS.out hy0 hy1, HTA.out⟩
        have hs := HBS.out j
        have h1 := HA0.out
        have h2 := HB0.out
        by_cases ej : j = b
        · subst ej
          rw [if_pos rfl, hs, if_neg (by omega), if_pos rfl, h2]; congr 1; omega
        · rw [if_neg ej]
          by_cases ei : j = a
          · subst ei
            rw [if_pos rfl, hs, if_pos rfl, if_neg (by omega), h1]; congr 1; omega
          · rw [if_neg ei, hs, if_neg (by omega), if_neg (by omega)]; congr 1; omega
      case measure => simp [intOf]; omega
    · have e : k = E.length := by omega
      subst e
      have HIN : Hid (inCap E f) := fun j hj hf => HG.out j hj hf hj
      have HFN : Hid ((∀ v : Nat, (v : Int) < (n : Int) → bal E f E.length v = 0) → flowB (n : Int) E f = true) := fun h => flowB_yes HBB.out HL.out HIN.out h
      have HFO : Hid ((∃ v : Nat, (v : Int) < (n : Int) ∧ bal E f E.length v ≠ 0) → flowB (n : Int) E f = false) := fun h => flowB_no (Or.inr (Or.inr (Or.inr h)))
      go_wp2_with fail
      go_loop [77] (fun y => ∃ k : Nat, k ≤ n ∧ y = .int .i64 (k : Int) ∧ Hid (∀ v, v < k → bal E f E.length v = 0)) (fun y => n - (intOf y).toNat)
      case atStart => exact ⟨0, by omega, rfl, fun v h => absurd h (by omega)⟩
      case round =>
        obtain ⟨v, hv, rfl, HZ⟩ := hrel
        by_cases hvn : v < n
        · have r := HR.out.cell (i := v) hvn
          have HE := hide (rfl : bal E f E.length v = bal E f E.length v)
          generalize hx : bal E f E.length v = x at r
          replace HE := hide hx
          clear hx
          by_cases hx0 : x = 0
          · subst hx0
            go_wp2_with fail
            go_round
            case rel => exact ⟨v + 1, by omega, by go_num, fun u hu => by
                          by_cases e : u = v
                          · subst e; exact HE.out
                          · exact HZ.out u (by omega)⟩
            case measure => simp [intOf]; omega
          · have hxx : (x != 0) = true := by simp [hx0]
            go_wp2_with fail
            go_ret
            exact ⟨ret_b (HFO.out ⟨v, by omega, by rw [HE.out]; exact hx0⟩).symm, HKr.out⟩
        · have e : v = n := by omega
          subst e
          go_wp2_with fail
          go_ret
          exact ⟨ret_b (HFN.out (fun u hu => HZ.out u (by omega))).symm, HKr.out⟩
end Go.Proofs.YtjdbedlgkngdkaaGreatDoor
namespace Go.Proofs.YtjdbedlgkngdkaaGreatDoor
open Go.RowKit Go.Deep
set_option linter.unusedVariables false
set_option linter.unusedSimpArgs false
set_option maxRecDepth 10000

structure RgJ (w : World) (wb D La eb cb n : Nat) (A : List Arc) (e0 : Int) (S : Srch) : Prop where
  wk : WkR w wb D La n A S
  ce : w.cell? ⟨eb, 0, none⟩ = some (.int .i64 (if S.e = -1 then e0 else S.e))
  cc : w.cell? ⟨cb, 0, none⟩ = some (.bool (decide (S.e ≠ -1)))
  fe : w.frozen? ⟨eb, 0, none⟩ = false
  fc : w.frozen? ⟨cb, 0, none⟩ = false
  ap : eb ≠ D ∧ eb ≠ La ∧ eb ≠ wb ∧ cb ≠ D ∧ cb ≠ La ∧ cb ≠ wb ∧ eb ≠ cb
theorem RgJ.kept {w w' : World} {wb D La eb cb n : Nat} {A : List Arc} {e0 : Int} {S : Srch} (h : RgJ w wb D La eb cb n A e0 S) (hk : Keeps w w') : RgJ w' wb D La eb cb n A e0 S :=
  ⟨h.wk.kept hk, hk.cell h.ce, hk.cell h.cc, by rw [hk.oldF eb 0 (lt_of_cell h.ce)]; exact h.fe, by rw [hk.oldF cb 0 (lt_of_cell h.cc)]; exact h.fc, h.ap⟩
theorem WkR.turn {w w' : World} {wb D La n : Nat} {A : List Arc} {S : Srch} (h : WkR w wb D La n A S) {fs : List Nat} (ht : Turn fs w w') (h1 : wb ∉ fs) (h2 : D ∉ fs) (h3 : La ∉ fs) : WkR w' wb D La n A S :=
  ⟨ht.cell h1 h.c0, ht.cell h1 h.c1, h.rd.of_block (ht.block D h.rd.lt h2), h.rl.of_block (ht.block La h.rl.lt h3), h.n1, h.n2, h.n3⟩
set_option maxHeartbeats 4000000 in
theorem ring1_k (wb D La eb cb n : Nat) (A : List Arc) (e0 : Int) (S : Srch) (j q : Nat) (hj : j < A.length) (w : World) (h : RgJ w wb D La eb cb n A e0 S) (h0 : 0 ≤ A[j].fr) (h1 : A[j].fr < (n : Int)) (h2 : 0 ≤ A[j].to) (h3 : A[j].to < (n : Int)) (hn : n ≤ 24)
    (hb : ∀ v, S.d v ≤ 0 ∧ -4000000000 ≤ S.d v) (hc : -1000000 ≤ A[j].co ∧ A[j].co ≤ 1000000) :
    Calls Tryz.prog 93 #[A[j].v, .pointer (some ⟨wb, 0, none⟩), .pointer (some ⟨eb, 0, none⟩), .pointer (some ⟨cb, 0, none⟩)] w fun e w' => e = .returned (.tuple #[]) ∧ RgJ w' wb D La eb cb n A e0 (relax q j A[j] S) ∧ Turn [D, La, eb, cb] w w' := by
  have HB := hide (arc_box w A[j] 147)
  have HK := hide (Keeps.alloc (Keeps.refl w) (.cells #[.int .i64 A[j].nm, .int .i64 A[j].fr, .int .i64 A[j].to, .int .i64 A[j].rs, .int .i64 A[j].co] 147))
  have HJ := hide (h.kept HK.out)
  have HS := hide (fun w1 hw => shortens_k wb D La n A S A[j] w1 hw h0 h1 h2 h3 hn hb hc)
  have HT := hide (fun w1 hw hlt => take_k wb D La n A S j q hj w1 hw h0 h1 h2 h3 hn hb hc hlt)
  have HR1 := hide (relax_yes (n := q) (j := j) (a := A[j]) (S := S))
  have HR0 := hide (relax_no (n := q) (j := j) (a := A[j]) (S := S))
  have HSZ : Hid (w.heap.size ≠ D ∧ w.heap.size ≠ La ∧ w.heap.size ≠ eb ∧ w.heap.size ≠ cb) := by
    have a1 := h.wk.rd.lt
    have a2 := h.wk.rl.lt
    have a3 := lt_of_cell h.ce
    have a4 := lt_of_cell h.cc
    exact ⟨by omega, by omega, by omega, by omega⟩
  obtain ⟨p1, p2, p3, p4, p5, p6, p7⟩ := h.ap
  clear h hb hc h0 h1 h3
  generalize A[j] = a at *
  by_cases hlt : S.d a.fr.toNat + a.co < S.d a.to.toNat
  · rw [decide_eq_true hlt] at HS
    have HE : Hid ((relax q j a S).e = a.to) := by show _ = _; rw [HR1.out hlt]
    obtain ⟨nm, fr, to, rs, co⟩ := a
    dsimp only [Arc.v] at *
    replace HT := hide (fun w1 hw => HT.out w1 hw hlt)
    clear hlt
    go_enter Tryz.func93, Tryz.ntmps93
    go_upto_region 1 with fail
    generalize w.alloc (.cells #[.int .i64 nm, .int .i64 fr, .int .i64 to, .int .i64 rs, .int .i64 co] 147) = W1 at *
    obtain ⟨v0, v1, v2, v3, v4⟩ := HB.out
    go_wp2_with fail
    refine (unhide HS W1 HJ.out.wk).mono ?_
    rintro e w2 ⟨rfl, hk⟩
    replace HJ := hide (HJ.out.kept hk)
    replace HK := hide (HK.out.trans hk)
    replace v0 := hk.cell v0
    replace v1 := hk.cell v1
    replace v2 := hk.cell v2
    replace v3 := hk.cell v3
    replace v4 := hk.cell v4
    clear hk HB
    go_wp2_with fail
    refine (unhide HT w2 HJ.out.wk).mono ?_
    rintro e w3 ⟨rfl, hwk, ht⟩
    obtain ⟨s1, s2, s3, s4⟩ := HSZ.out
    have x2 := ht.cell (by simp; omega) v2
    have ce := ht.cell (by simp; omega) HJ.out.ce
    have cc := ht.cell (by simp; omega) HJ.out.cc
    have fe : w3.frozen? ⟨eb, 0, none⟩ = false := by rw [World.frozen?_of_block (w := w2) (ht.block eb (lt_of_cell HJ.out.ce) (by simp; omega))]; exact HJ.out.fe
    have fc : w3.frozen? ⟨cb, 0, none⟩ = false := by rw [World.frozen?_of_block (w := w2) (ht.block cb (lt_of_cell HJ.out.cc) (by simp; omega))]; exact HJ.out.fc
    have HWK := hide hwk
    have HTT : Hid (Turn [D, La, eb, cb] w w3) := (Turn.of_keeps HK.out _).trans' (ht.mono (by simp))
    clear v0 v1 v2 v3 v4 ht hwk HT HS HJ HR1 HR0
    go_wp2_with fail
    go_end0
    have ht4 : Turn [eb, cb] w3 ((w3.setCell ⟨eb, 0, none⟩ (.int .i64 to)).setCell ⟨cb, 0, none⟩ (.bool true)) := (Turn.set (by simp) _).trans' (Turn.set (by simp) _)
    refine ⟨rfl, ⟨HWK.out.turn ht4 (by simp; omega) (by simp; omega) (by simp; omega), ?_, ?_, ?_, ?_, p1, p2, p3, p4, p5, p6, p7⟩, HTT.out.trans' (ht4.mono (by simp))⟩
    · rw [HE.out, if_neg (by omega), World.cell?_setCell_other _ _ _ _ (by simp), World.cell?_setCell_same _ _ _ ce]
    · rw [HE.out, decide_eq_true (show to ≠ -1 by omega)]
      exact World.cell?_setCell_same _ _ _ (by rw [World.cell?_setCell_other _ _ _ _ (by simp)]; exact cc)
    · rw [frozen_set, frozen_set]; exact fe
    · rw [frozen_set, frozen_set]; exact fc
  · rw [decide_eq_false hlt] at HS
    have HE := hide (HR0.out hlt)
    obtain ⟨nm, fr, to, rs, co⟩ := a
    dsimp only [Arc.v] at *
    clear hlt
    go_enter Tryz.func93, Tryz.ntmps93
    go_upto_region 1 with fail
    generalize w.alloc (.cells #[.int .i64 nm, .int .i64 fr, .int .i64 to, .int .i64 rs, .int .i64 co] 147) = W1 at *
    obtain ⟨v0, v1, v2, v3, v4⟩ := HB.out
    go_wp2_with fail
    refine (unhide HS W1 HJ.out.wk).mono ?_
    rintro e w2 ⟨rfl, hk⟩
    go_wp2_with fail
    go_end0
    rw [HE.out]
    exact ⟨rfl, HJ.out.kept hk, (Turn.of_keeps HK.out _).trans' (Turn.of_keeps hk _)⟩
end Go.Proofs.YtjdbedlgkngdkaaGreatDoor
namespace Go.Proofs.YtjdbedlgkngdkaaGreatDoor
open Go.RowKit Go.Deep
set_option linter.unusedVariables false
set_option linter.unusedSimpArgs false
set_option maxRecDepth 10000

def lenOf (v : Value) : Nat := match v with | .slice _ n _ => n | _ => 0
theorem laV_at {A : List Arc} {S : Srch} {v r : Nat} (h : S.s v = true) (hr : r < 5) : laV A S (v * 5 + r) = (pa A S v).cell r := by
  unfold laV
  rw [show (v * 5 + r) / 5 = v by omega, show (v * 5 + r) % 5 = r by omega, if_pos h]
theorem WkR.arcAt {w : World} {wb D La n : Nat} {A : List Arc} {S : Srch} (h : WkR w wb D La n A S) {v : Nat} (hs : S.s v = true) (hv : v < n) :
    w.cell? ⟨La, v * 5, none⟩ = some (.int .i64 (pa A S v).nm) ∧ w.cell? ⟨La, v * 5 + 1, none⟩ = some (.int .i64 (pa A S v).fr) ∧ w.cell? ⟨La, v * 5 + 2, none⟩ = some (.int .i64 (pa A S v).to) ∧ w.cell? ⟨La, v * 5 + 3, none⟩ = some (.int .i64 (pa A S v).rs) ∧ w.cell? ⟨La, v * 5 + 4, none⟩ = some (.int .i64 (pa A S v).co) := by
  have a0 := h.rl.cell (i := v * 5) (by omega)
  have a1 := h.rl.cell (i := v * 5 + 1) (by omega)
  have a2 := h.rl.cell (i := v * 5 + 2) (by omega)
  have a3 := h.rl.cell (i := v * 5 + 3) (by omega)
  have a4 := h.rl.cell (i := v * 5 + 4) (by omega)
  have e0 : laV A S (v * 5) = (pa A S v).cell 0 := laV_at (r := 0) hs (by omega)
  rw [e0] at a0
  rw [laV_at hs (by omega)] at a1 a2 a3 a4
  exact ⟨a0, a1, a2, a3, a4⟩
theorem its_oneR (w : World) (x : Int) (t : TypeId) : ∀ j u, (its [x])[j]? = some u → (w.alloc (.cells #[.int .i64 x] t)).cell? ((⟨w.heap.size, 0, none⟩ : Addr).add j) = some u := by
  intro j u h
  have hj : j = 0 := by
    rcases Nat.lt_or_ge j 1 with h' | h'
    · omega
    · rw [List.getElem?_eq_none (by simp [its]; omega)] at h; cases h
  subst hj
  simp [its] at h
  subst h
  simp [Addr.add]
theorem row_arc (x : Arc) : ∀ i, i < (#[.int .i64 x.nm, .int .i64 x.fr, .int .i64 x.to, .int .i64 x.rs, .int .i64 x.co] : Array Value).size → (#[.int .i64 x.nm, .int .i64 x.fr, .int .i64 x.to, .int .i64 x.rs, .int .i64 x.co] : Array Value)[i]? = some (x.cell i)
  | 0, _ => rfl
  | 1, _ => rfl
  | 2, _ => rfl
  | 3, _ => rfl
  | 4, _ => rfl
  | n + 5, h => absurd h (by simp)
theorem owns_one (w : World) (x : Int) (base : Nat) (hb : base ≤ w.heap.size) : OwnsI (w.alloc (.cells #[.int .i64 x] 3)) base (.slice (some ⟨w.heap.size, 0, none⟩) 1 1) [x] :=
  ⟨by simp [its], .inr ⟨w.heap.size, 1, #[.int .i64 x], rfl, hb, heap_alloc_new w _, by simp, by decide, by simp, by simp [its]⟩⟩
theorem owns_turn {w w' : World} {base : Nat} {v : Value} {L : List Int} (h : OwnsI w base v L) (hb : ∀ j, v.ownBlock = some j → w'.heap[j]? = w.heap[j]?) : OwnsI w' base v L := by
  refine ⟨h.1, ?_⟩
  rcases h.2 with h2 | ⟨g, cap, cur, e, h3, h4, h5⟩
  · exact .inl h2
  · exact .inr ⟨g, cap, cur, e, h3, by rw [hb g (by rw [e]; rfl)]; exact h4, h5⟩
theorem born_owns {W w : World} {base g cap : Nat} {L : List Int} (h : OwnsI w base (.slice (some ⟨g, 0, none⟩) L.length cap) L) (hb : W.heap.size ≤ base) : Born W w [(some ⟨g, 0, none⟩, its L)] := by
  refine ⟨⟨?_, ?_, ?_⟩, ?_⟩
  · intro s hs
    rw [List.mem_singleton.1 hs]
    refine Or.inr ⟨g, 0, rfl, fun j hj => ?_⟩
    have hj' : j < (its L).length := hj
    have hl := its_length L
    rw [Nat.zero_add, h.cellAt j (by omega), List.getElem?_eq_getElem hj']
  · by_cases h0 : its L = [] <;> simp [fp, fpS, h0]
  · intro b hb'
    by_cases h0 : its L = []
    · simp [fp, fpS, h0] at hb'
    · simp [fp, fpS, h0] at hb'
      subst hb'
      exact fun o => h.frozenAt o
  · intro b hb'
    by_cases h0 : its L = []
    · simp [fp, fpS, h0] at hb'
    · simp [fp, fpS, h0] at hb'
      subst hb'
      have := (h.lt b rfl).1
      omega
set_option maxHeartbeats 8000000 in
theorem behind_k (wb D La n m : Nat) (A : List Arc) (S : Srch) (e0 : Nat) (w : World) (h : WkR w wb D La n A S) (hn : n ≤ 24) (hset : ∀ i, i < n → S.s (bk A S i e0) = true) (hlt : ∀ i, i ≤ n → bk A S i e0 < n)
    (hp : ∀ v, S.s v = true → 0 ≤ (pa A S v).fr) (b : Nat) (hbb : bk A S n e0 = b) (hr : OnRing n A S b m) :
    Calls Tryz.prog 96 #[.pointer (some ⟨wb, 0, none⟩), .int .i64 (e0 : Int)] w fun e w' => ∃ g cap, e = .returned (.slice (some ⟨g, 0, none⟩) m cap) ∧ Born w w' [(some ⟨g, 0, none⟩, its (ringL A S b m))] ∧ Keeps w w' := by
  have HW := hide h
  have HSET := hide hset
  have HLT := hide hlt
  have HP := hide hp
  have HR := hide hr
  have HBB := hide hbb
  clear h hset hlt hp hr hbb
  have q1 := HW.out.c1
  go_enter Tryz.func96, Tryz.ntmps96
  go_wp2_with fail
  go_loop [5, 14] (fun b y => ∃ k : Nat, k ≤ n ∧ b = .int .i64 ((bk A S k e0 : Nat) : Int) ∧ y = .int .i64 (k : Int)) (fun _ y => n - (intOf y).toNat)
  case atStart => exact ⟨0, by omega, rfl, rfl⟩
  case round =>
    obtain ⟨k, hk, rfl, rfl⟩ := hrel
    by_cases hlt : k < n
    · have hs := HSET.out k hlt
      have hv := HLT.out k (by omega)
      have a1 := (HW.out.arcAt hs hv).2.1
      have hfr := HP.out _ hs
      have HN : Hid ((pa A S (bk A S k e0)).fr = ((bk A S (k + 1) e0 : Nat) : Int)) := by show _ = _; show _ = (((pa A S (bk A S k e0)).fr.toNat : Nat) : Int); omega
      rw [HN.out] at a1
      clear hs hfr
      generalize hb0 : bk A S k e0 = v at *
      have HB0 := hide hb0
      clear hb0
      go_wp2_with fail
      go_round
      case rel => exact ⟨k + 1, by omega, rfl, by go_num⟩
      case measure => simp [intOf]; omega
    · have e : k = n := by omega
      subst e
      have hs0 := HR.out.set 0
      have hv0 := HR.out.lt 0
      have hback := HR.out.back
      have hfirst := HR.out.first
      have hpos := HR.out.pos
      have hle := HR.out.le
      have HSB := hide HR.out.set
      have HLB := hide HR.out.lt
      have HBK := hide hback
      have HFI := hide hfirst
      clear HR HSET HLT hback hfirst
      rw [HBB.out]
      have hs0 : S.s b = true := hs0
      have hv0 : b < k := hv0
      obtain ⟨a0, a1, a2, a3, a4⟩ := HW.out.arcAt hs0 hv0
      have HX0 : Hid (pa A S (bk A S 0 b) = pa A S b) := rfl
      have HF0 := hide (HP.out _ hs0)
      have HRA := hide (row_arc (pa A S b))
      have HRL1 := hide (ringL_succ A S b 0)
      rw [HX0.out] at HRL1
      generalize pa A S b = x at *
      obtain ⟨xnm, xfr, xto, xrs, xco⟩ := x
      dsimp only at a0 a1 a2 a3 a4 HRA HRL1 HF0
      clear hs0
      have HV0 := hide (World.rowIs_alloc w #[.int .i64 xnm, .int .i64 xfr, .int .i64 xto, .int .i64 xrs, .int .i64 xco] 147 _ HRA.out)
      have HK0 := hide (Keeps.alloc (Keeps.refl w) (.cells #[.int .i64 xnm, .int .i64 xfr, .int .i64 xto, .int .i64 xrs, .int .i64 xco] 147))
      have HO0 := hide (owns_one (w.alloc (.cells #[.int .i64 xnm, .int .i64 xfr, .int .i64 xto, .int .i64 xrs, .int .i64 xco] 147)) xnm (w.heap.size + 1) (by simp))
      have HK1 := hide (Keeps.alloc (Keeps.refl (w.alloc (.cells #[.int .i64 xnm, .int .i64 xfr, .int .i64 xto, .int .i64 xrs, .int .i64 xco] 147))) (.cells #[.int .i64 xnm] 3))
      have HZ1 : Hid ((w.alloc (.cells #[.int .i64 xnm, .int .i64 xfr, .int .i64 xto, .int .i64 xrs, .int .i64 xco] 147)).heap.size = w.heap.size + 1) := by show _ = _; simp
      rw [HZ1.out] at HO0
      go_wp2_with fail
      generalize w.alloc (.cells #[.int .i64 xnm, .int .i64 xfr, .int .i64 xto, .int .i64 xrs, .int .i64 xco] 147) = W1 at *
      generalize W1.alloc (.cells #[.int .i64 xnm] 3) = W2 at *
      have HWl := hide (show wb < w.heap.size ∧ D < w.heap.size ∧ La < w.heap.size from ⟨lt_of_cell HW.out.c0, HW.out.rd.lt, HW.out.rl.lt⟩)
      have HW2 := hide ((HW.out.kept HK0.out).kept HK1.out)
      have HV2 : Hid (W2.rowIs w.heap.size 147 5 (Arc.cell ⟨xnm, xfr, xto, xrs, xco⟩)) := HK1.out.rowK HV0.out
      have HKw := hide (HK0.out.trans HK1.out)
      have HXX : Hid ((⟨xnm, xfr, xto, xrs, xco⟩ : Arc) = pa A S (bk A S 0 b)) := HX0.out.symm
      clear HV0 HK0 HK1 HZ1 HW q1 a0 a1 a2 a3 a4 HX0 HRA HF0
      go_loopw [7] (fun v wr => ∃ i g cap, i + 1 ≤ m ∧ v = .slice (some ⟨g, 0, none⟩) (i + 1) cap ∧ Hid (OwnsI wr (w.heap.size + 1) (.slice (some ⟨g, 0, none⟩) (i + 1) cap) (ringL A S b (i + 1))) ∧ Hid (wr.rowIs w.heap.size 147 5 (pa A S (bk A S i b)).cell) ∧ Hid (WkR wr wb D La k A S) ∧ Hid (Keeps w wr)) (fun v _ => m - lenOf v)
      case atStart => exact ⟨0, _, _, by omega, rfl, by show OwnsI _ _ _ _; rw [HRL1.out]; exact HO0.out, by show World.rowIs _ _ _ _ _; rw [← HXX.out]; exact HV2.out, HW2.out, HKw.out⟩
      case round =>
        obtain ⟨i, g, cap, hi, rfl, HO, HV, HW, HK⟩ := hrel
        clear HO0 HV2 HW2 HKw HXX HRL1
        have hs := HSB.out i
        have hv := HLB.out i
        have c0 := HV.out.cell (i := 0) (by decide)
        have c1 := HV.out.cell (i := 1) (by decide)
        have c2 := HV.out.cell (i := 2) (by decide)
        have c3 := HV.out.cell (i := 3) (by decide)
        have c4 := HV.out.cell (i := 4) (by decide)
        have f0 := HV.out.frozen 0
        have f1 := HV.out.frozen 1
        have f2 := HV.out.frozen 2
        have f3 := HV.out.frozen 3
        have f4 := HV.out.frozen 4
        have hVl := HV.out.lt
        have HN : Hid ((pa A S (bk A S i b)).fr = ((bk A S (i + 1) b : Nat) : Int)) := by
          have := HP.out _ hs
          show _ = _; show _ = (((pa A S (bk A S i b)).fr.toNat : Nat) : Int); omega
        simp only [Arc.cell] at c0 c1 c2 c3 c4
        simp only [if_true, if_false, show ¬ (1 : Nat) = 0 by decide, show ¬ (2 : Nat) = 0 by decide, show ¬ (2 : Nat) = 1 by decide, show ¬ (3 : Nat) = 0 by decide, show ¬ (3 : Nat) = 1 by decide, show ¬ (3 : Nat) = 2 by decide, show ¬ (4 : Nat) = 0 by decide, show ¬ (4 : Nat) = 1 by decide, show ¬ (4 : Nat) = 2 by decide, show ¬ (4 : Nat) = 3 by decide] at c0 c1 c2 c3 c4
        rw [HN.out] at c1
        by_cases hend : i + 1 = m
        · have HE := hide hend
          have hb1 : bk A S (i + 1) b = b := by rw [hend]; exact HBK.out
          rw [hb1] at c1
          clear hb1 hend c0 c2 c3 c4 f0 f1 f2 f3 f4
          have hne : ((b : Int) != (b : Int)) = false := by simp
          go_wp2_with fail
          go_ret
          have ho := HO.out
          rw [HE.out] at ho
          have ho2 : OwnsI wr (w.heap.size + 1) (.slice (some ⟨g, 0, none⟩) (ringL A S b m).length cap) (ringL A S b m) := by rw [ringL_len]; exact ho
          exact ⟨g, cap, by rw [HE.out]; rfl, born_owns ho2 (Nat.le_succ _), HK.out⟩
        · have hne0 : bk A S (i + 1) b ≠ b := HFI.out (i + 1) (by omega) (by omega)
          have hne : (((bk A S (i + 1) b : Nat) : Int) != (b : Int)) = true := by simp; omega
          have hs1 := HSB.out (i + 1)
          have hv1 := HLB.out (i + 1)
          obtain ⟨a0, a1, a2, a3, a4⟩ := HW.out.arcAt hs1 hv1
          have q1 := HW.out.c1
          have HRS := hide (ringL_succ A S b (i + 1))
          obtain ⟨x, hx⟩ : ∃ x, x = pa A S (bk A S (i + 1) b) := ⟨_, rfl⟩
          rw [← hx] at a0 a1 a2 a3 a4 HRS
          have HXE := hide hx
          clear hx
          generalize hbv : bk A S (i + 1) b = v at c1 hne hv1 a0 a1 a2 a3 a4 ⊢
          obtain ⟨xnm, xfr, xto, xrs, xco⟩ := x
          dsimp only at a0 a1 a2 a3 a4 HRS
          clear hs hv hs1 hbv hne0 HN
          obtain ⟨l1, l2, l3⟩ := HWl.out
          go_upto_region 9 with fail
          go_big_region
          have ht : Turn [w.heap.size] wr (((((wr.setCell ⟨w.heap.size, 0, none⟩ (.int .i64 xnm)).setCell ⟨w.heap.size, 1, none⟩ (.int .i64 xfr)).setCell ⟨w.heap.size, 2, none⟩ (.int .i64 xto)).setCell ⟨w.heap.size, 3, none⟩ (.int .i64 xrs)).setCell ⟨w.heap.size, 4, none⟩ (.int .i64 xco)).drew := (((((Turn.set (by simp) _).trans' (Turn.set (by simp) _)).trans' (Turn.set (by simp) _)).trans' (Turn.set (by simp) _)).trans' (Turn.set (by simp) _)).trans' (Turn.of_keeps ((Keeps.refl _).drew) _)
          have HVX := hide ((((Keeps.refl _).drew).rowK (((((HV.out.set 0 (.int .i64 xnm)).set 1 (.int .i64 xfr)).set 2 (.int .i64 xto)).set 3 (.int .i64 xrs)).set 4 (.int .i64 xco))).congr (g := (⟨xnm, xfr, xto, xrs, xco⟩ : Arc).cell) (fun j hj => by
            rcases (show j = 0 ∨ j = 1 ∨ j = 2 ∨ j = 3 ∨ j = 4 by omega) with rfl | rfl | rfl | rfl | rfl <;> rfl))
          replace HW := hide (HW.out.turn ht (by simp; omega) (by simp; omega) (by simp; omega))
          replace HK := hide (ht.keeps HK.out (by simp))
          have HOX : Hid (OwnsI (((((wr.setCell ⟨w.heap.size, 0, none⟩ (.int .i64 xnm)).setCell ⟨w.heap.size, 1, none⟩ (.int .i64 xfr)).setCell ⟨w.heap.size, 2, none⟩ (.int .i64 xto)).setCell ⟨w.heap.size, 3, none⟩ (.int .i64 xrs)).setCell ⟨w.heap.size, 4, none⟩ (.int .i64 xco)).drew (w.heap.size + 1) (.slice (some ⟨g, 0, none⟩) (i + 1) cap) (ringL A S b (i + 1))) := by
            have hgb := (HO.out.lt g rfl).1
            exact owns_turn HO.out (fun j hj => ht.block j (HO.out.lt j hj).2 (by have := (HO.out.lt j hj).1; simp; omega))
          clear ht c0 c1 c2 c3 c4 f0 f1 f2 f3 f4 a0 a1 a2 a3 a4 q1 HO HV
          generalize (((((wr.setCell ⟨w.heap.size, 0, none⟩ (.int .i64 xnm)).setCell ⟨w.heap.size, 1, none⟩ (.int .i64 xfr)).setCell ⟨w.heap.size, 2, none⟩ (.int .i64 xto)).setCell ⟨w.heap.size, 3, none⟩ (.int .i64 xrs)).setCell ⟨w.heap.size, 4, none⟩ (.int .i64 xco)).drew = W5 at *
          have c0 := HVX.out.cell (i := 0) (by decide)
          have hc0 : (⟨xnm, xfr, xto, xrs, xco⟩ : Arc).cell 0 = .int .i64 xnm := rfl
          rw [hc0] at c0
          clear hc0
          have HM2 := hide (its_oneR W5 xnm 3)
          have HO2 := hide (HOX.out.alloc (.cells #[.int .i64 xnm] 3))
          have HK2 := hide (Keeps.alloc (Keeps.refl W5) (.cells #[.int .i64 xnm] 3))
          have HB2 : Hid (w.heap.size + 1 ≤ (W5.alloc (.cells #[.int .i64 xnm] 3)).heap.size) := by show _ ≤ _; have := HVX.out.lt; simp; omega
          go_wp2_with (at_builtin; refine app_its rfl (.tmp 47) (.tmp 50) rfl (w.heap.size + 1) _ (ringL A S b (i + 1)) [xnm] rfl ⟨W5.heap.size, 0, none⟩ 1 rfl HM2.out HO2.out (by rw [ringL_len]; simp; omega) HB2.out ?_; intro v' w' ho hg hnn)
          go_roundw
          case rel =>
            have hgb := (HOX.out.lt g rfl).1
            have htg : Turn [g] W5 w' := (Turn.of_keeps HK2.out _).trans' (Turn.of_grown hg (fun k hk => by cases hk; simp))
            obtain ⟨ho1, ho2⟩ := ho
            rcases ho2 with ⟨_, hz⟩ | ⟨g', cap', cur, e, ho3⟩
            · simp at hz
            · refine ⟨i + 1, g', cap', by omega, by rw [e]; simp [ringL_len], ?_, ?_, HW.out.turn htg (by simp; omega) (by simp; omega) (by simp; omega), htg.keeps HK.out (by simp; omega)⟩
              · show OwnsI _ _ _ _
                rw [HRS.out]
                refine ⟨ho1, .inr ⟨g', cap', cur, by simp [ringL_len], ho3⟩⟩
              · show World.rowIs _ _ _ _ _
                rw [← HXE.out]
                exact HVX.out.of_block (htg.block w.heap.size HVX.out.lt (by simp; omega))
          case measure =>
            rcases ho.2 with ⟨_, hz⟩ | ⟨g', cap', cur, e, ho3⟩
            · simp at hz
            · rw [e]
              simp [lenOf, ringL_len]
              omega
end Go.Proofs.YtjdbedlgkngdkaaGreatDoor
namespace Go.Proofs.YtjdbedlgkngdkaaGreatDoor
open Go.RowKit Go.Deep
set_option linter.unusedVariables false
set_option linter.unusedSimpArgs false
set_option maxRecDepth 10000

set_option maxHeartbeats 8000000 in
theorem each_ring (G : Gf) (n : Nat) (fa : Option Addr) (fc : Nat) (f : List Int) (wb eb cb : Nat) (J : Nat → World → Prop) (fs : List Nat) (w : World) (hnn : G.nn = (n : Int)) (hflow : flowB (n : Int) G.E f = true) (hm : Mem w G.segs) (hf : Cells w fa (its f))
    (hE : ∀ b ∈ fp G.segs, b ∉ fs) (hF : ∀ b ∈ fp [(fa, its f)], b ∉ fs) (hfs : ∀ b ∈ fs, b < w.heap.size)
    (hst : ∀ j w1 w2, J j w1 → Keeps w1 w2 → J j w2)
    (hcl : ∀ j (hj : j < (arcs G.E f).length) w1, J j w1 → Calls Tryz.prog 93 #[(arcs G.E f)[j].v, .pointer (some ⟨wb, 0, none⟩), .pointer (some ⟨eb, 0, none⟩), .pointer (some ⟨cb, 0, none⟩)] w1 fun e w' => e = .returned (.tuple #[]) ∧ J (j + 1) w' ∧ Turn fs w1 w')
    (h0 : J 0 w) :
    Calls Tryz.prog 92 #[G.v, .slice fa f.length fc, .func (Fn.func 93) #[] #[.pointer (some ⟨wb, 0, none⟩), .pointer (some ⟨eb, 0, none⟩), .pointer (some ⟨cb, 0, none⟩)]] w fun e w' => e = .returned (.tuple #[]) ∧ J (arcs G.E f).length w' ∧ Turn fs w w' := by
  obtain ⟨nn, ea, ec, E⟩ := G
  dsimp only [Gf.v, Gf.segs] at *
  subst hnn
  have HM := hide hm
  have HF := hide hf
  have HEf := hide hE
  have HFf := hide hF
  have HST := hide hst
  have HCL := hide hcl
  have HFS := hide hfs
  have HB := hide (gr_box ⟨(n : Int), ea, ec, E⟩ w 36)
  have HK := hide (Keeps.alloc (Keeps.refl w) (.cells #[.int .i64 (n : Int), .slice ea E.length ec] 36))
  have HJ0 := hide (hst 0 _ _ h0 HK.out)
  obtain ⟨hg, hle, hcap, hbal⟩ := flowB_true hflow
  obtain ⟨g1, g2, g3, g4⟩ := graphB_true hg
  have HL := hide hle
  have HG4 := hide g4
  have HCP := hide hcap
  clear hm hf hE hF hst hcl hfs h0 hg hcap hbal g4 hflow
  rw [hle]
  clear hle
  have HS0 : Hid ((w.alloc (.cells #[.int .i64 (n : Int), .slice ea E.length ec] 36)).heap.size = w.heap.size + 1) := by show _ = _; simp
  go_enter Tryz.func92, Tryz.ntmps92
  go_wp2_with fail
  generalize w.alloc (.cells #[.int .i64 (n : Int), .slice ea E.length ec] 36) = W0 at *
  go_loopw [11] (fun y wr => ∃ k : Nat, k ≤ E.length ∧ y = .int .i64 (k : Int) ∧ Hid (J (arcsTo E f k).length wr) ∧ Hid (Turn fs W0 wr)) (fun y _ => E.length - (intOf y).toNat)
  case atStart => exact ⟨0, by omega, rfl, HJ0.out, Turn.refl _ _⟩
  case round =>
    obtain ⟨k, hk, rfl, HJ, HTr⟩ := hrel
    by_cases hlt : k < E.length
    · have hkf : k < f.length := by rw [HL.out]; exact hlt
      have HTw : Hid (Turn fs w wr) := (Turn.of_keeps HK.out _).trans' HTr.out
      obtain ⟨eb0, eoff, ea', c0, c1, c2, c3⟩ := egs_at ((HM.out.turn HTw.out HEf.out) (ea, egs E) (by simp)) k hlt
      obtain ⟨fb, foff, fa', y0⟩ := its_at HF.out k hkf
      have hFf : fb ∉ fs := HFf.out fb (by rw [fp_one, fa', fpS_some (by rw [ne_eq, its_nil]; intro e; rw [e] at hkf; simp at hkf)]; simp)
      replace y0 := HTw.out.cell hFf y0
      have he := edgeB_true (HG4.out k hlt)
      have hcy := HCP.out k hlt hkf
      have HAS : Hid (arcsTo E f (k + 1) = arcsTo E f k ++ (if f[k] < E[k].cp then [(⟨2 * (k : Int), E[k].fr, E[k].to, E[k].cp - f[k], E[k].co⟩ : Arc)] else []) ++ (if 0 < f[k] then [(⟨2 * (k : Int) + 1, E[k].to, E[k].fr, f[k], -E[k].co⟩ : Arc)] else [])) := by
        show _ = _; rw [arcsTo_step hlt hkf]; rfl
      have HA : Hid (f[k] < E[k].cp → ∀ w1, J (arcsTo E f k).length w1 → Calls Tryz.prog 93 #[(⟨2 * (k : Int), E[k].fr, E[k].to, E[k].cp - f[k], E[k].co⟩ : Arc).v, .pointer (some ⟨wb, 0, none⟩), .pointer (some ⟨eb, 0, none⟩), .pointer (some ⟨cb, 0, none⟩)] w1 fun e w' => e = .returned (.tuple #[]) ∧ J ((arcsTo E f k).length + 1) w' ∧ Turn fs w1 w') := fun h w1 hj => by
        obtain ⟨hj', e⟩ := arcs_a hlt hkf h
        have := HCL.out _ hj' w1 hj
        rw [e] at this; exact this
      have HZ : Hid (0 < f[k] → ∀ w1, J (arcsTo E f k ++ (if f[k] < E[k].cp then [(⟨2 * (k : Int), E[k].fr, E[k].to, E[k].cp - f[k], E[k].co⟩ : Arc)] else [])).length w1 → Calls Tryz.prog 93 #[(⟨2 * (k : Int) + 1, E[k].to, E[k].fr, f[k], -E[k].co⟩ : Arc).v, .pointer (some ⟨wb, 0, none⟩), .pointer (some ⟨eb, 0, none⟩), .pointer (some ⟨cb, 0, none⟩)] w1 fun e w' => e = .returned (.tuple #[]) ∧ J ((arcsTo E f k ++ (if f[k] < E[k].cp then [(⟨2 * (k : Int), E[k].fr, E[k].to, E[k].cp - f[k], E[k].co⟩ : Arc)] else [])).length + 1) w' ∧ Turn fs w1 w') := fun h w1 hj => by
        obtain ⟨hj', e⟩ := arcs_z hlt hkf h
        have := HCL.out _ hj' w1 hj
        rw [e] at this; exact this
      have hVf : wr.heap.size ∉ fs := fun hx => by have := HFS.out _ hx; have := HTr.out.size; have := HS0.out; omega
      generalize E[k] = x at *
      generalize f[k] = y at *
      obtain ⟨xfr, xto, xcp, xco⟩ := x
      dsimp only [Arc.v] at c0 c1 c2 c3 he hcy HAS HA HZ
      have HX := hide ea'
      obtain rfl := fa'
      clear ea'
      obtain rfl := HX.out
      obtain ⟨-, -, -, -, -, e5, e6, e7, e8⟩ := he
      have w0 : IntKind.i64.wrap (2 * (k : Int)) = 2 * (k : Int) := by rw [IntKind.wrap_i64]; omega
      have w1 : IntKind.i64.wrap (2 * (k : Int) + 1) = 2 * (k : Int) + 1 := by rw [IntKind.wrap_i64]; omega
      have w2 : IntKind.i64.wrap (xcp - y) = xcp - y := by rw [IntKind.wrap_i64]; omega
      have w3 : IntKind.i64.wrap (-xco) = -xco := by rw [IntKind.wrap_i64]; omega
      go_upto_region 4 with fail
      have HKA := hide (Keeps.alloc (Keeps.refl wr) (.cells #[.int .i64 xfr, .int .i64 xto, .int .i64 xcp, .int .i64 xco] 40))
      have v0 : (wr.alloc (.cells #[.int .i64 xfr, .int .i64 xto, .int .i64 xcp, .int .i64 xco] 40)).cell? ⟨wr.heap.size, 0, none⟩ = some (.int .i64 xfr) := by simp
      have v1 : (wr.alloc (.cells #[.int .i64 xfr, .int .i64 xto, .int .i64 xcp, .int .i64 xco] 40)).cell? ⟨wr.heap.size, 1, none⟩ = some (.int .i64 xto) := by simp
      have v2 : (wr.alloc (.cells #[.int .i64 xfr, .int .i64 xto, .int .i64 xcp, .int .i64 xco] 40)).cell? ⟨wr.heap.size, 2, none⟩ = some (.int .i64 xcp) := by simp
      have v3 : (wr.alloc (.cells #[.int .i64 xfr, .int .i64 xto, .int .i64 xcp, .int .i64 xco] 40)).cell? ⟨wr.heap.size, 3, none⟩ = some (.int .i64 xco) := by simp
      replace y0 := HKA.out.cell y0
      replace HJ := hide (HST.out _ _ _ HJ.out HKA.out)
      have HTA := hide (HTr.out.trans' (Turn.of_keeps HKA.out fs))
      obtain ⟨V, hV⟩ : ∃ V, V = wr.heap.size := ⟨_, rfl⟩
      rw [← hV] at v0 v1 v2 v3 hVf ⊢
      have HV := hide hV
      clear hV c0 c1 c2 c3 HKA HTw
      generalize wr.alloc (.cells #[.int .i64 xfr, .int .i64 xto, .int .i64 xcp, .int .i64 xco] 40) = W2 at *
      clear HV HTr
      by_cases hy1 : y < xcp
      · have HCA := hide (HA.out hy1)
        simp only [if_pos hy1] at HAS HZ
        have hd : decide (y < xcp) = true := by simp [hy1]
        go_quiet (fail)
        have hk3 := (Keeps.refl W2).drewN nq
        replace v0 := hk3.cell v0
        replace v1 := hk3.cell v1
        replace v2 := hk3.cell v2
        replace v3 := hk3.cell v3
        replace y0 := hk3.cell y0
        replace HJ := hide (HST.out _ _ _ HJ.out hk3)
        replace HTA := hide (HTA.out.trans' (Turn.of_keeps hk3 fs))
        clear hk3
        generalize W2.drewN nq = W3 at *
        go_upto_region 5 with fail
        go_region_held3 (fun w' => w'.cell? ⟨V, 0, none⟩ = some (.int .i64 xfr) ∧ w'.cell? ⟨V, 1, none⟩ = some (.int .i64 xto) ∧ w'.cell? ⟨V, 2, none⟩ = some (.int .i64 xcp) ∧ w'.cell? ⟨V, 3, none⟩ = some (.int .i64 xco) ∧ w'.cell? ⟨fb, foff + k, none⟩ = some (.int .i64 y)) (go_keep)
          (first
            | (go_at_call 93
               refine (unhide HCA _ (HST.out _ _ _ HJ.out ((Keeps.refl W3).drew))).mono ?_
               rintro e w4 ⟨rfl, hj, ht⟩
               replace ht := (Turn.of_keeps ((Keeps.refl W3).drew) fs).trans' ht
               replace HJ := hide hj
               replace HTA := hide (HTA.out.trans' ht)
               replace v0 := ht.cell hVf v0
               replace v1 := ht.cell hVf v1
               replace v2 := ht.cell hVf v2
               replace v3 := ht.cell hVf v3
               replace y0 := ht.cell hFf y0
               clear hj ht))
        replace HJ : Hid (J (arcsTo E f k ++ [(⟨2 * (k : Int), xfr, xto, xcp - y, xco⟩ : Arc)]).length w4) := by show J _ _; rw [List.length_append]; exact HJ.out
        by_cases hy2 : 0 < y
        · have HCZ := hide (HZ.out hy2)
          rw [if_pos hy2] at HAS
          have hp : decide (0 < y) = true := by simp [hy2]
          go_upto_region 7 with fail
          go_region_held3 (fun w' => w'.cell? ⟨V, 0, none⟩ = some (.int .i64 xfr) ∧ w'.cell? ⟨V, 1, none⟩ = some (.int .i64 xto) ∧ w'.cell? ⟨V, 2, none⟩ = some (.int .i64 xcp) ∧ w'.cell? ⟨V, 3, none⟩ = some (.int .i64 xco) ∧ w'.cell? ⟨fb, foff + k, none⟩ = some (.int .i64 y)) (go_keep)
            (first
              | (go_at_call 93
                 refine (unhide HCZ _ (HST.out _ _ _ HJ.out ((Keeps.refl w4).drew))).mono ?_
                 rintro e w5 ⟨rfl, hj, ht⟩
                 replace ht := (Turn.of_keeps ((Keeps.refl w4).drew) fs).trans' ht
                 replace HJ := hide hj
                 replace HTA := hide (HTA.out.trans' ht)
                 replace v0 := ht.cell hVf v0
                 replace v1 := ht.cell hVf v1
                 replace v2 := ht.cell hVf v2
                 replace v3 := ht.cell hVf v3
                 replace y0 := ht.cell hFf y0
                 clear hj ht))
          go_wp2_with fail
          go_roundw
          case rel => exact ⟨k + 1, by omega, by go_num, (by show J (arcsTo E f (k + 1)).length _; rw [HAS.out]; simpa using HJ.out), HTA.out⟩
          case measure => simp [intOf]; omega
        · rw [if_neg hy2] at HAS
          have hp : decide (0 < y) = false := by simp; omega
          go_wp2_with fail
          go_roundw
          case rel => exact ⟨k + 1, by omega, by go_num, (by show J (arcsTo E f (k + 1)).length _; rw [HAS.out]; simpa using HJ.out), HTA.out⟩
          case measure => simp [intOf]; omega
      · simp only [if_neg hy1] at HAS HZ
        simp only [List.append_nil] at HAS HZ
        have hd : decide (y < xcp) = false := by simp; omega
        go_quiet (fail)
        have hk3 := (Keeps.refl W2).drewN nq
        replace v0 := hk3.cell v0
        replace v1 := hk3.cell v1
        replace v2 := hk3.cell v2
        replace v3 := hk3.cell v3
        replace y0 := hk3.cell y0
        replace HJ := hide (HST.out _ _ _ HJ.out hk3)
        replace HTA := hide (HTA.out.trans' (Turn.of_keeps hk3 fs))
        clear hk3
        generalize W2.drewN nq = W3 at *
        by_cases hy2 : 0 < y
        · have HCZ := hide (HZ.out hy2)
          rw [if_pos hy2] at HAS
          have hp : decide (0 < y) = true := by simp [hy2]
          go_upto_region 7 with fail
          go_region_held3 (fun w' => w'.cell? ⟨V, 0, none⟩ = some (.int .i64 xfr) ∧ w'.cell? ⟨V, 1, none⟩ = some (.int .i64 xto) ∧ w'.cell? ⟨V, 2, none⟩ = some (.int .i64 xcp) ∧ w'.cell? ⟨V, 3, none⟩ = some (.int .i64 xco) ∧ w'.cell? ⟨fb, foff + k, none⟩ = some (.int .i64 y)) (go_keep)
            (first
              | (go_at_call 93
                 refine (unhide HCZ _ (HST.out _ _ _ HJ.out ((Keeps.refl W3).drew))).mono ?_
                 rintro e w5 ⟨rfl, hj, ht⟩
                 replace ht := (Turn.of_keeps ((Keeps.refl W3).drew) fs).trans' ht
                 replace HJ := hide hj
                 replace HTA := hide (HTA.out.trans' ht)
                 replace v0 := ht.cell hVf v0
                 replace v1 := ht.cell hVf v1
                 replace v2 := ht.cell hVf v2
                 replace v3 := ht.cell hVf v3
                 replace y0 := ht.cell hFf y0
                 clear hj ht))
          go_wp2_with fail
          go_roundw
          case rel => exact ⟨k + 1, by omega, by go_num, (by show J (arcsTo E f (k + 1)).length _; rw [HAS.out]; simpa using HJ.out), HTA.out⟩
          case measure => simp [intOf]; omega
        · rw [if_neg hy2] at HAS
          have hp : decide (0 < y) = false := by simp; omega
          go_wp2_with fail
          go_roundw
          case rel => exact ⟨k + 1, by omega, by go_num, (by show J (arcsTo E f (k + 1)).length _; rw [HAS.out]; simpa using HJ.out), HTA.out⟩
          case measure => simp [intOf]; omega
    · have e : k = E.length := by omega
      subst e
      go_wp2_with fail
      go_end0
      exact ⟨rfl, HJ.out, (Turn.of_keeps HK.out _).trans' HTr.out⟩
end Go.Proofs.YtjdbedlgkngdkaaGreatDoor
namespace Go.Proofs.YtjdbedlgkngdkaaGreatDoor
open Go.RowKit Go.Deep
set_option linter.unusedVariables false
set_option linter.unusedSimpArgs false
set_option maxRecDepth 10000

set_option maxHeartbeats 4000000 in
theorem edge_impl (x : Edg) (nn : Int) (w : World) : Calls Tryz.prog 90 #[x.v, .int .i64 nn] w fun e w' => e = .returned (.bool (edgeB nn x)) ∧ Keeps w w' := by
  obtain ⟨xfr, xto, xcp, xco⟩ := x
  have HK := hide (Keeps.alloc (Keeps.refl w) (.cells #[.int .i64 xfr, .int .i64 xto, .int .i64 xcp, .int .i64 xco] 40))
  dsimp only [Edg.v]
  by_cases hs0 : 0 ≤ xfr
  rotate_left
  · skip
    go_enter Tryz.func90, Tryz.ntmps90
    go_wp2_with fail
    go_ret
    exact ⟨ret_b (edgeB_no (by simp only []; omega)).symm, HK.out⟩
  by_cases hs1 : xfr < nn
  rotate_left
  · skip
    go_enter Tryz.func90, Tryz.ntmps90
    go_wp2_with fail
    go_ret
    exact ⟨ret_b (edgeB_no (by simp only []; omega)).symm, HK.out⟩
  by_cases hs2 : 0 ≤ xto
  rotate_left
  · skip
    go_enter Tryz.func90, Tryz.ntmps90
    go_wp2_with fail
    go_ret
    exact ⟨ret_b (edgeB_no (by simp only []; omega)).symm, HK.out⟩
  by_cases hs3 : xto < nn
  rotate_left
  · skip
    go_enter Tryz.func90, Tryz.ntmps90
    go_wp2_with fail
    go_ret
    exact ⟨ret_b (edgeB_no (by simp only []; omega)).symm, HK.out⟩
  by_cases hs4 : xfr ≠ xto
  rotate_left
  · have hq : (xfr == xto) = true := by simp; omega
    go_enter Tryz.func90, Tryz.ntmps90
    go_wp2_with fail
    go_ret
    exact ⟨ret_b (edgeB_no (by simp only []; omega)).symm, HK.out⟩
  by_cases hs5 : 0 ≤ xcp
  rotate_left
  · have hq : (xfr == xto) = false := by simp [hs4]
    go_enter Tryz.func90, Tryz.ntmps90
    go_wp2_with fail
    go_ret
    exact ⟨ret_b (edgeB_no (by simp only []; omega)).symm, HK.out⟩
  by_cases hs6 : xcp ≤ 1000000000
  rotate_left
  · have hq : (xfr == xto) = false := by simp [hs4]
    go_enter Tryz.func90, Tryz.ntmps90
    go_wp2_with fail
    go_ret
    exact ⟨ret_b (edgeB_no (by simp only []; omega)).symm, HK.out⟩
  by_cases hs7 : -1000000 ≤ xco
  rotate_left
  · have hq : (xfr == xto) = false := by simp [hs4]
    go_enter Tryz.func90, Tryz.ntmps90
    go_wp2_with fail
    go_ret
    exact ⟨ret_b (edgeB_no (by simp only []; omega)).symm, HK.out⟩
  by_cases hs8 : xco ≤ 1000000
  rotate_left
  · have hq : (xfr == xto) = false := by simp [hs4]
    go_enter Tryz.func90, Tryz.ntmps90
    go_wp2_with fail
    go_ret
    exact ⟨ret_b (edgeB_no (by simp only []; omega)).symm, HK.out⟩
  have hq : (xfr == xto) = false := by simp [hs4]
  go_enter Tryz.func90, Tryz.ntmps90
  go_wp2_with fail
  go_ret
  exact ⟨ret_b (edgeB_yes hs0 hs1 hs2 hs3 hs4 hs5 hs6 hs7 hs8).symm, HK.out⟩
set_option maxHeartbeats 4000000 in
theorem graph_impl (G : Gf) (w : World) (hm : Mem w G.segs) (hl : G.len) : Calls Tryz.prog 62 #[G.v] w fun e w' => e = .returned (.bool (graphB G.nn G.E)) ∧ Keeps w w' := by
  obtain ⟨nn, ea, ec, E⟩ := G
  have HC := hide (fun w' (hk : Keeps w w') => Gf.memE (hm.kept hk))
  have HB := hide (gr_box ⟨nn, ea, ec, E⟩ w 36)
  have HK := hide (Keeps.alloc (Keeps.refl w) (.cells #[.int .i64 nn, .slice ea E.length ec] 36))
  dsimp only [Gf.v, Gf.len] at *
  clear hm
  rcases graph_cases nn E with ⟨h1, hr⟩ | ⟨h1, h2, hr⟩ | ⟨h1, h2, h3, hr⟩ | ⟨h1, h2, h3⟩
  rotate_left 3
  · go_enter Tryz.func62, Tryz.ntmps62
    go_wp2_with fail
    generalize w.alloc (.cells #[.int .i64 nn, .slice ea E.length ec] 36) = W0 at *
    go_loopw [22] (fun y wr => ∃ k : Nat, k ≤ E.length ∧ y = .int .i64 (k : Int) ∧ Hid (∀ j (hj : j < E.length), j < k → edgeB nn E[j] = true) ∧ Hid (Keeps W0 wr)) (fun y _ => E.length - (intOf y).toNat)
    case atStart => exact ⟨0, by omega, rfl, fun j hj h => absurd h (by omega), Keeps.refl _⟩
    case round =>
      obtain ⟨k, hk, rfl, HG, HKr⟩ := hrel
      by_cases hlt : k < E.length
      · obtain ⟨b, off, ea', c0, c1, c2, c3⟩ := egs_at (unhide HC _ (HK.out.trans HKr.out)) k hlt
        obtain ⟨q0, q1⟩ := HB.out.kept HKr.out
        have HX := hide ea'
        dsimp only at q0 q1
        have lb := lt_of_cell q0
        clear ea'
        have HN : Hid (edgeB nn E[k] = false → graphB nn E = false) := fun h => graphB_no (Or.inr (Or.inr (Or.inr ⟨k, hlt, h⟩)))
        have HG' : Hid (edgeB nn E[k] = true → ∀ j (hj : j < E.length), j < k + 1 → edgeB nn E[j] = true) := fun h j hj h' => by
          by_cases e : j = k
          · subst e; exact h
          · exact HG.out j hj (by omega)
        generalize E[k] = x at *
        obtain ⟨xfr, xto, xcp, xco⟩ := x
        dsimp only at c0 c1 c2 c3
        have HKA := hide (Keeps.alloc HKr.out (.cells #[.int .i64 xfr, .int .i64 xto, .int .i64 xcp, .int .i64 xco] 40))
        obtain rfl := HX.out
        clear HG
        have HQ := hide (fun w' => edge_impl ⟨xfr, xto, xcp, xco⟩ nn w')
        dsimp only [Edg.v] at HQ
        go_wp2_with fail
        refine (unhide HQ _).mono ?_
        rintro e w2 ⟨rfl, hk2⟩
        cases hb : edgeB nn ⟨xfr, xto, xcp, xco⟩
        · go_wp2_with fail
          go_ret
          exact ⟨ret_b (HN.out hb).symm, (HK.out.trans HKA.out).trans hk2⟩
        · go_wp2_with fail
          go_roundw
          case rel => exact ⟨k + 1, by omega, by go_num, HG'.out hb, HKA.out.trans hk2⟩
          case measure => simp [intOf]; omega
      · have e : k = E.length := by omega
        subst e
        go_wp2_with fail
        go_ret
        exact ⟨ret_b (graphB_yes h1 h2 h3 (fun j hj => HG.out j hj hj)).symm, HK.out.trans HKr.out⟩
  · go_enter Tryz.func62, Tryz.ntmps62
    go_wp2_with fail
    go_ret
    exact ⟨ret_b hr.symm, HK.out⟩
  · go_enter Tryz.func62, Tryz.ntmps62
    go_wp2_with fail
    go_ret
    exact ⟨ret_b hr.symm, HK.out⟩
  · go_enter Tryz.func62, Tryz.ntmps62
    go_wp2_with fail
    go_ret
    exact ⟨ret_b hr.symm, HK.out⟩
end Go.Proofs.YtjdbedlgkngdkaaGreatDoor
