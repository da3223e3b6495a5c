/- The program's word on flows. -/
import Derived.Test.YtaboogkioehkeaaFgI
import Derived.Deep.Cut
namespace Go.Proofs.Ytaboogkioehkeaa
open Go.RowKit Go.Deep
set_option linter.unusedVariables false
set_option linter.unusedSimpArgs false
set_option maxRecDepth 10000

theorem isnot_k (x : Int) (w : World) : Calls Try.prog 43 #[.int .i64 x] w fun e w' => e = .returned (.bool (x != 0)) ∧ w' = w := by
  go_enter Try.func43, Try.ntmps43
  go_wp2_with fail
  go_ret
  exact ⟨rfl, rfl⟩
set_option maxHeartbeats 2000000 in
theorem indexf_k (B n : Nat) (g : Nat → Int) (w : World) (h : w.rowIs B 3 n (fun v => .int .i64 (g v))) (hn : n ≤ 24) :
    Calls Try.prog 56 #[.slice (some ⟨B, 0, none⟩) n n, .func (Fn.func 43) #[] #[]] w fun e w' => w' = w ∧ ((∃ v, v < n ∧ g v ≠ 0 ∧ e = .returned (.int .i64 (v : Int))) ∨ ((∀ v, v < n → g v = 0) ∧ e = .returned (.int .i64 (-1)))) := by
  have HR := hide h
  clear h
  go_enter Try.func56, Try.ntmps56
  go_wp2_with fail
  go_loop [8] (fun y => ∃ k : Nat, k ≤ n ∧ y = .int .i64 (k : Int) ∧ Hid (∀ v, v < k → g v = 0)) (fun y => n - (intOf y).toNat)
  case atStart => exact ⟨0, by omega, rfl, fun v h => absurd h (by omega)⟩
  case round =>
    obtain ⟨k, hk, rfl, HZ⟩ := hrel
    by_cases hlt : k < n
    · have r := HR.out.cell (i := k) hlt
      have HE := hide (rfl : g k = g k)
      generalize hx : g k = x at r
      replace HE := hide hx
      clear hx
      have HQ := hide (fun w' => isnot_k x w')
      by_cases hx0 : x = 0
      · subst hx0
        go_wp2_with fail
        refine (unhide HQ _).mono ?_
        rintro e w1 ⟨rfl, hw⟩
        obtain rfl := Eq.symm hw
        clear hw
        go_wp2_with fail
        go_round
        case rel => exact ⟨k + 1, by omega, by go_num, fun u hu => by
                      by_cases e : u = k
                      · subst e; exact HE.out
                      · exact HZ.out u (by omega)⟩
        case measure => simp [intOf]; omega
      · have hxx : (x != 0) = true := by simp [hx0]
        rw [hxx] at HQ
        clear hxx
        go_wp2_with fail
        refine (unhide HQ _).mono ?_
        rintro e w1 ⟨rfl, hw⟩
        obtain rfl := Eq.symm hw
        clear hw
        go_wp2_with fail
        go_ret
        exact ⟨rfl, Or.inl ⟨k, hlt, by rw [HE.out]; exact hx0, rfl⟩⟩
    · have e : k = n := by omega
      subst e
      go_wp2_with fail
      go_ret
      exact ⟨rfl, Or.inr ⟨fun v hv => HZ.out v hv, rfl⟩⟩
theorem contf_k (B n : Nat) (g : Nat → Int) (w : World) (h : w.rowIs B 3 n (fun v => .int .i64 (g v))) (hn : n ≤ 24) :
    Calls Try.prog 42 #[.slice (some ⟨B, 0, none⟩) n n, .func (Fn.func 43) #[] #[]] w fun e w' => w' = w ∧ (((∃ v, v < n ∧ g v ≠ 0) ∧ e = .returned (.bool true)) ∨ ((∀ v, v < n → g v = 0) ∧ e = .returned (.bool false))) := by
  have HQ := hide (indexf_k B n g w h hn)
  clear h
  go_enter Try.func42, Try.ntmps42
  go_wp2_with fail
  refine (unhide HQ).mono ?_
  rintro e w1 ⟨hw, ⟨v, hv, hg, rfl⟩ | ⟨hg, rfl⟩⟩
  · obtain rfl := Eq.symm hw
    clear hw
    have hd : decide ((0 : Int) ≤ (v : Int)) = true := by simp
    go_wp2_with fail
    go_ret
    exact ⟨rfl, Or.inl ⟨⟨v, hv, hg⟩, ret_b (by simp)⟩⟩
  · obtain rfl := Eq.symm hw
    clear hw
    go_wp2_with fail
    go_ret
    exact ⟨rfl, Or.inr ⟨hg, rfl⟩⟩
set_option maxHeartbeats 8000000 in
theorem flow_impl (G : Gf) (fa : Option Addr) (fc : Nat) (f : List Int) (w : World) (hm : Mem w G.segs) (hf : Cells w fa (its f)) (hl : G.len) (hlf : f.length ≤ 1048576) : Calls Try.prog 16 #[G.v, .slice fa f.length fc] w fun e w' => e = .returned (.bool (flowB G.nn G.E f)) ∧ Keeps w w' := by
  have HQ := hide (fun w' (hk : Keeps w w') => graph_impl G w' (hm.kept hk) hl)
  obtain ⟨nn, ea, ec, E⟩ := G
  have HC := hide (fun w' (hk : Keeps w w') => Gf.memE (hm.kept hk))
  have HF := hide hf
  have HB := hide (gr_box ⟨nn, ea, ec, E⟩ w 25)
  have HK := hide (Keeps.alloc (Keeps.refl w) (.cells #[.int .i64 nn, .slice ea E.length ec] 25))
  have HS : Hid ((w.alloc (.cells #[.int .i64 nn, .slice ea E.length ec] 25)).heap.size = w.heap.size + 1) := by show _ = _; simp
  dsimp only [Gf.v, Gf.len] at *
  clear hm hf
  cases hb : graphB nn E
  · go_enter Try.func16, Try.ntmps16
    go_wp2_with fail
    refine (unhide HQ _ HK.out).mono ?_
    rintro e w1 ⟨rfl, hk⟩
    rw [hb]
    go_wp2_with fail
    go_ret
    exact ⟨ret_b (flowB_no (Or.inl hb)).symm, HK.out.trans hk⟩
  by_cases hle : f.length = E.length
  rotate_left
  · have HN := hide hle
    have hne : ((f.length : Int) != (E.length : Int)) = true := by simp; omega
    go_enter Try.func16, Try.ntmps16
    go_wp2_with fail
    refine (unhide HQ _ HK.out).mono ?_
    rintro e w1 ⟨rfl, hk⟩
    generalize w.alloc (.cells #[.int .i64 nn, .slice ea E.length ec] 25) = W0 at *
    rw [hb]
    obtain ⟨q0, q1⟩ := HB.out.kept hk
    dsimp only at q0 q1
    go_wp2_with fail
    go_ret
    exact ⟨ret_b (flowB_no (Or.inr (Or.inl HN.out))).symm, HK.out.trans hk⟩
  have HL := hide hle
  rw [hle] at hlf ⊢
  clear hle
  obtain ⟨g1, g2, g3, g4⟩ := graphB_true hb
  have HG4 := hide g4
  clear g4
  obtain ⟨n, rfl⟩ : ∃ n : Nat, nn = (n : Int) := ⟨nn.toNat, by omega⟩
  have HBB := hide hb
  have hmk := make_ints n (by omega)
  go_enter Try.func16, Try.ntmps16
  go_wp2_with fail
  refine (unhide HQ _ HK.out).mono ?_
  rintro e w1 ⟨rfl, hk⟩
  rw [hb]
  clear hb
  generalize w.alloc (.cells #[.int .i64 (n : Int), .slice ea E.length ec] 25) = W0 at *
  obtain ⟨q0, q1⟩ := HB.out.kept hk
  dsimp only at q0 q1
  have HB1 := hide (HB.out.kept hk)
  have HK1 := hide (HK.out.trans hk)
  have HS1 : Hid (w.heap.size + 1 ≤ w1.heap.size) := by show _ ≤ _; have := hk.size; have := HS.out; omega
  clear hk HB HK HS HQ
  have lb := lt_of_cell q0
  go_wp2_with fail
  clear hmk q0 q1 lb
  have HR0 := hide ((World.rowIs_made w1 (.int .i64 0) n 3).congr (g := fun v => .int .i64 (bal E f 0 v)) (fun i _ => by simp [bal]))
  have HK2 := hide (Keeps.alloc (Keeps.refl w1) (.cells (madeCells #[.int .i64 0] n) 3))
  obtain ⟨B, hB⟩ : ∃ B, B = w1.heap.size := ⟨_, rfl⟩
  rw [← hB] at HR0 HS1 ⊢
  have HB0 := hide hB
  clear hB
  have HKW := hide (HK1.out.trans HK2.out)
  have HBW := hide (HB1.out.kept HK2.out)
  generalize w1.alloc (.cells (madeCells #[.int .i64 0] n) 3) = W1 at *
  clear HK2 HK1 HB1 HB0
  have HKV := hide (Keeps.refl W1)
  go_loopw [25] (fun y wr => ∃ k : Nat, k ≤ E.length ∧ y = .int .i64 (k : Int) ∧ Hid (wr.rowIs B 3 n (fun v => .int .i64 (bal E f k v))) ∧ Hid (∀ j (hj : j < E.length) (hf : j < f.length), j < k → 0 ≤ f[j] ∧ f[j] ≤ E[j].cp) ∧ Hid (Turn [B] W1 wr)) (fun y _ => E.length - (intOf y).toNat)
  case atStart => exact ⟨0, by omega, rfl, HR0.out, fun j hj _ h => absurd h (by omega), Turn.refl _ _⟩
  case round =>
    obtain ⟨k, hk, rfl, HR, HG, HTr⟩ := hrel
    clear HR0 HKV
    have HKr : Hid (Keeps w wr) := HTr.out.keeps HKW.out (by have := HS1.out; simp; omega)
    have hBlt := HR.out.lt
    have HBr : Hid (GrAt wr w.heap.size ⟨(n : Int), ea, ec, E⟩) := by
      obtain ⟨q0, q1⟩ := HBW.out
      have := HS1.out
      exact ⟨HTr.out.cell (by simp; omega) q0, HTr.out.cell (by simp; omega) q1⟩
    by_cases hlt : k < E.length
    · have hkf : k < f.length := by rw [HL.out]; exact hlt
      obtain ⟨eb, eoff, ea', c0, c1, c2, c3⟩ := egs_at (unhide HC _ HKr.out) k hlt
      obtain ⟨fb, foff, fa', y0⟩ := its_at HF.out k hkf
      have hfl := lt_of_cell y0
      replace y0 := HKr.out.cell y0
      have hel := lt_of_cell c0
      have he := edgeB_true (HG4.out k hlt)
      have HBS := hide (fun v => bal_step hlt hkf v)
      have HNO : Hid (¬ (0 ≤ f[k] ∧ f[k] ≤ E[k].cp) → flowB (n : Int) E f = false) := fun h => flowB_no (Or.inr (Or.inr (Or.inl (fun hc => h (hc k hlt hkf)))))
      have HGS : Hid (0 ≤ f[k] → f[k] ≤ E[k].cp → ∀ j (hj : j < E.length) (hf : j < f.length), j < k + 1 → 0 ≤ f[j] ∧ f[j] ≤ E[j].cp) := fun h h' j hj hf hlt' => by
        by_cases e : j = k
        · subst e; exact ⟨h, h'⟩
        · exact HG.out j hj hf (by omega)
      have hbb := fun v => bal_bound (E := E) (f := f) (B := 1000000000) (by decide) k (fun j hj h => by
        obtain ⟨a1, a2⟩ := HG.out j (by rw [← HL.out]; exact hj) hj h
        have a3 := edgeB_true (HG4.out j (by rw [← HL.out]; exact hj))
        exact ⟨a1, by omega⟩) v
      generalize E[k] = x at *
      generalize f[k] = y at *
      obtain ⟨xfr, xto, xcp, xco⟩ := x
      dsimp only at c0 c1 c2 c3 he HBS HNO HGS
      obtain ⟨e0, e1, e2, e3, e4, e5, e6, -, -⟩ := he
      obtain ⟨a, rfl⟩ : ∃ a : Nat, xfr = (a : Int) := ⟨xfr.toNat, by omega⟩
      obtain ⟨b, rfl⟩ : ∃ b : Nat, xto = (b : Int) := ⟨xto.toNat, by omega⟩
      have ha : a < n := by omega
      have hb : b < n := by omega
      have hab : a ≠ b := by omega
      have hba := hbb a
      have hbb := hbb b
      have HKA := hide (Keeps.alloc (Keeps.refl wr) (.cells #[.int .i64 (a : Int), .int .i64 (b : Int), .int .i64 xcp, .int .i64 xco] 66))
      have hw : w.heap.size + 1 ≤ B := HS1.out
      obtain rfl := fa'
      have HX := hide ea'
      clear ea' e0 e1 e2 e3 e4
      obtain rfl := HX.out
      go_upto_region 7 with fail
      have HRA := hide (HKA.out.rowK HR.out)
      have HTA : Hid (Turn [B] W1 (wr.alloc (.cells #[.int .i64 (a : Int), .int .i64 (b : Int), .int .i64 xcp, .int .i64 xco] 66))) := HTr.out.trans' (Turn.of_keeps HKA.out _)
      have v0 : (wr.alloc (.cells #[.int .i64 (a : Int), .int .i64 (b : Int), .int .i64 xcp, .int .i64 xco] 66)).cell? ⟨wr.heap.size, 0, none⟩ = some (.int .i64 (a : Int)) := by simp
      have v1 : (wr.alloc (.cells #[.int .i64 (a : Int), .int .i64 (b : Int), .int .i64 xcp, .int .i64 xco] 66)).cell? ⟨wr.heap.size, 1, none⟩ = some (.int .i64 (b : Int)) := by simp
      have v2 : (wr.alloc (.cells #[.int .i64 (a : Int), .int .i64 (b : Int), .int .i64 xcp, .int .i64 xco] 66)).cell? ⟨wr.heap.size, 2, none⟩ = some (.int .i64 xcp) := by simp
      replace y0 := HKA.out.cell y0
      have HKZ := hide (HKr.out.trans HKA.out)
      obtain ⟨V, hV⟩ : ∃ V, V = wr.heap.size := ⟨_, rfl⟩
      rw [← hV] at v0 v1 v2 hBlt ⊢
      have HV := hide hV
      clear hV c0 c1 c2 c3 hel HR HKr HBr
      generalize wr.alloc (.cells #[.int .i64 (a : Int), .int .i64 (b : Int), .int .i64 xcp, .int .i64 xco] 66) = W2 at *
      by_cases hy0 : 0 ≤ y
      rotate_left
      · have hyd : decide (y < 0) = true := by simp; omega
        clear v0 v1 v2
        go_quiet (fail)
        go_wp2_with fail
        go_ret
        exact ⟨ret_b (HNO.out (by omega)).symm, HKZ.out.drewN _⟩
      have hyd : decide (y < 0) = false := by simp; omega
      by_cases hy1 : y ≤ xcp
      rotate_left
      · go_quiet (fail)
        go_wp2_with fail
        go_ret
        exact ⟨ret_b (HNO.out (by omega)).symm, HKZ.out.drewN _⟩
      go_quiet (fail)
      go_upto_region 9 with fail
      have hk3 := (Keeps.refl W2).drewN nq
      replace y0 := hk3.cell y0
      replace v0 := hk3.cell v0
      replace v1 := hk3.cell v1
      replace HRA := hide (hk3.rowK HRA.out)
      replace HTA := hide (HTA.out.trans' (Turn.of_keeps hk3 _))
      clear hk3 v2 HKZ
      generalize W2.drewN nq = W3 at *
      have r0 := HRA.out.cell (i := a) ha
      have f0 := HRA.out.frozen a
      have HA0 := hide (rfl : bal E f k a = bal E f k a)
      generalize hA0 : bal E f k a = A0 at r0 hba
      replace HA0 := hide hA0
      clear hA0
      have w0 : IntKind.i64.wrap (A0 - y) = A0 - y := by rw [IntKind.wrap_i64]; omega
      go_big_region
      have ht4 : Turn [B] W3 (W3.setCell ⟨B, a, none⟩ (.int .i64 (A0 - y))).drew := (Turn.set (by simp) _).trans' (Turn.of_keeps ((Keeps.refl _).drew) _)
      replace HRA := hide (((Keeps.refl _).drew).rowK (HRA.out.set a (.int .i64 (A0 - y))))
      replace y0 := ht4.cell (by simp; omega) y0
      replace v1 := ht4.cell (by simp; omega) v1
      replace HTA := hide (HTA.out.trans' ht4)
      clear ht4 v0 r0 f0 w0
      generalize (W3.setCell ⟨B, a, none⟩ (.int .i64 (A0 - y))).drew = W4 at *
      go_upto_region 10 with fail
      have r1 := HRA.out.cell (i := b) hb
      rw [if_neg (Ne.symm hab)] at r1
      have f1 := HRA.out.frozen b
      generalize hB0 : bal E f k b = B0 at r1 hbb
      have HB0 := hide hB0
      clear hB0
      have w1' : IntKind.i64.wrap (B0 + y) = B0 + y := by rw [IntKind.wrap_i64]; omega
      go_big_region
      have ht5 : Turn [B] W4 (W4.setCell ⟨B, b, none⟩ (.int .i64 (B0 + y))).drew := (Turn.set (by simp) _).trans' (Turn.of_keeps ((Keeps.refl _).drew) _)
      replace HRA := hide (((Keeps.refl _).drew).rowK (HRA.out.set b (.int .i64 (B0 + y))))
      replace HTA := hide (HTA.out.trans' ht5)
      clear ht5 v1 r1 f1 w1' y0
      generalize (W4.setCell ⟨B, b, none⟩ (.int .i64 (B0 + y))).drew = W5 at *
      go_wp2_with fail
      go_roundw
      case rel =>
        refine ⟨k + 1, by omega, by go_num, HRA.out.congr (fun j _ => ?_), HGS.out hy0 hy1, HTA.out⟩
        have hs := HBS.out j
        have h1 := HA0.out
        have h2 := HB0.out
        by_cases ej : j = b
        · subst ej
          rw [if_pos rfl, hs, if_neg (by omega), if_pos rfl, h2]; congr 1; omega
        · rw [if_neg ej]
          by_cases ei : j = a
          · subst ei
            rw [if_pos rfl, hs, if_pos rfl, if_neg (by omega), h1]; congr 1; omega
          · rw [if_neg ei, hs, if_neg (by omega), if_neg (by omega)]; congr 1; omega
      case measure => simp [intOf]; omega
    · have e : k = E.length := by omega
      subst e
      have HIN : Hid (inCap E f) := fun j hj hf => HG.out j hj hf hj
      have HFN : Hid ((∀ v : Nat, (v : Int) < (n : Int) → bal E f E.length v = 0) → flowB (n : Int) E f = true) := fun h => flowB_yes HBB.out HL.out HIN.out h
      have HFO : Hid ((∃ v : Nat, (v : Int) < (n : Int) ∧ bal E f E.length v ≠ 0) → flowB (n : Int) E f = false) := fun h => flowB_no (Or.inr (Or.inr (Or.inr h)))
      have HQ := hide (contf_k B n (bal E f E.length) wr HR.out (by omega))
      go_wp2_with fail
      refine (unhide HQ).mono ?_
      rintro e w2 ⟨hw, ⟨⟨v, hv, hg⟩, rfl⟩ | ⟨hg, rfl⟩⟩
      · obtain rfl := Eq.symm hw
        clear hw
        go_wp2_with fail
        go_ret
        exact ⟨ret_b (HFO.out ⟨v, by omega, hg⟩).symm, HKr.out⟩
      · obtain rfl := Eq.symm hw
        clear hw
        go_wp2_with fail
        go_ret
        exact ⟨ret_b (HFN.out (fun u hu => hg u (by omega))).symm, HKr.out⟩
end Go.Proofs.Ytaboogkioehkeaa
