/- Texts of the verifier, joined: FfI, Rg. -/
import Derived.Test.YtjdbedlgkngdkaaGreatDoorPMoves6
import Derived.Deep.Cut
import Derived.WalkMore
import Derived.Deep.RegionHeld3
namespace Go.Proofs.YtjdbedlgkngdkaaGreatDoor
open Go.RowKit Go.Deep
set_option linter.unusedVariables false
set_option linter.unusedSimpArgs false
set_option maxRecDepth 10000

theorem isnot_k (x : Int) (w : World) : Calls Tryz.prog 122 #[.int .i64 x] w fun e w' => e = .returned (.bool (x != 0)) ∧ w' = w := by
  go_enter Tryz.func122, Tryz.ntmps122
  go_wp2_with fail
  go_ret
  exact ⟨rfl, rfl⟩
set_option maxHeartbeats 2000000 in
theorem indexf_k (B n : Nat) (g : Nat → Int) (w : World) (h : w.rowIs B 3 n (fun v => .int .i64 (g v))) (hn : n ≤ 24) :
    Calls Tryz.prog 138 #[.slice (some ⟨B, 0, none⟩) n n, .func (Fn.func 122) #[] #[]] w fun e w' => w' = w ∧ ((∃ v, v < n ∧ g v ≠ 0 ∧ e = .returned (.int .i64 (v : Int))) ∨ ((∀ v, v < n → g v = 0) ∧ e = .returned (.int .i64 (-1)))) := by
  have HR := hide h
  clear h
  go_enter Tryz.func138, Tryz.ntmps138
  go_wp2_with fail
  go_loop [8] (fun y => ∃ k : Nat, k ≤ n ∧ y = .int .i64 (k : Int) ∧ Hid (∀ v, v < k → g v = 0)) (fun y => n - (intOf y).toNat)
  case atStart => exact ⟨0, by omega, rfl, fun v h => absurd h (by omega)⟩
  case round =>
    obtain ⟨k, hk, rfl, HZ⟩ := hrel
    by_cases hlt : k < n
    · have r := HR.out.cell (i := k) hlt
      have HE := hide (rfl : g k = g k)
      generalize hx : g k = x at r
      replace HE := hide hx
      clear hx
      have HQ := hide (fun w' => isnot_k x w')
      by_cases hx0 : x = 0
      · subst hx0
        go_wp2_with fail
        refine (unhide HQ _).mono ?_
        rintro e w1 ⟨rfl, hw⟩
        obtain rfl := Eq.symm hw
        clear hw
        go_wp2_with fail
        go_round
        case rel => exact ⟨k + 1, by omega, by go_num, fun u hu => by
                      by_cases e : u = k
                      · subst e; exact HE.out
                      · exact HZ.out u (by omega)⟩
        case measure => simp [intOf]; omega
      · have hxx : (x != 0) = true := by simp [hx0]
        rw [hxx] at HQ
        clear hxx
        go_wp2_with fail
        refine (unhide HQ _).mono ?_
        rintro e w1 ⟨rfl, hw⟩
        obtain rfl := Eq.symm hw
        clear hw
        go_wp2_with fail
        go_ret
        exact ⟨rfl, Or.inl ⟨k, hlt, by rw [HE.out]; exact hx0, rfl⟩⟩
    · have e : k = n := by omega
      subst e
      go_wp2_with fail
      go_ret
      exact ⟨rfl, Or.inr ⟨fun v hv => HZ.out v hv, rfl⟩⟩
theorem contf_k (B n : Nat) (g : Nat → Int) (w : World) (h : w.rowIs B 3 n (fun v => .int .i64 (g v))) (hn : n ≤ 24) :
    Calls Tryz.prog 121 #[.slice (some ⟨B, 0, none⟩) n n, .func (Fn.func 122) #[] #[]] w fun e w' => w' = w ∧ (((∃ v, v < n ∧ g v ≠ 0) ∧ e = .returned (.bool true)) ∨ ((∀ v, v < n → g v = 0) ∧ e = .returned (.bool false))) := by
  have HQ := hide (indexf_k B n g w h hn)
  clear h
  go_enter Tryz.func121, Tryz.ntmps121
  go_wp2_with fail
  refine (unhide HQ).mono ?_
  rintro e w1 ⟨hw, ⟨v, hv, hg, rfl⟩ | ⟨hg, rfl⟩⟩
  · obtain rfl := Eq.symm hw
    clear hw
    have hd : decide ((0 : Int) ≤ (v : Int)) = true := by simp
    go_wp2_with fail
    go_ret
    exact ⟨rfl, Or.inl ⟨⟨v, hv, hg⟩, ret_b (by simp)⟩⟩
  · obtain rfl := Eq.symm hw
    clear hw
    go_wp2_with fail
    go_ret
    exact ⟨rfl, Or.inr ⟨hg, rfl⟩⟩
set_option maxHeartbeats 8000000 in
theorem flow_impl (G : Gf) (fa : Option Addr) (fc : Nat) (f : List Int) (w : World) (hm : Mem w G.segs) (hf : Cells w fa (its f)) (hl : G.len) (hlf : f.length ≤ 1048576) : Calls Tryz.prog 91 #[G.v, .slice fa f.length fc] w fun e w' => e = .returned (.bool (flowB G.nn G.E f)) ∧ Keeps w w' := by
  have HQ := hide (fun w' (hk : Keeps w w') => graph_impl G w' (hm.kept hk) hl)
  obtain ⟨nn, ea, ec, E⟩ := G
  have HC := hide (fun w' (hk : Keeps w w') => Gf.memE (hm.kept hk))
  have HF := hide hf
  have HB := hide (gr_box ⟨nn, ea, ec, E⟩ w 36)
  have HK := hide (Keeps.alloc (Keeps.refl w) (.cells #[.int .i64 nn, .slice ea E.length ec] 36))
  have HS : Hid ((w.alloc (.cells #[.int .i64 nn, .slice ea E.length ec] 36)).heap.size = w.heap.size + 1) := by show _ = _; simp
  dsimp only [Gf.v, Gf.len] at *
  clear hm hf
  cases hb : graphB nn E
  · go_enter Tryz.func91, Tryz.ntmps91
    go_wp2_with fail
    refine (unhide HQ _ HK.out).mono ?_
    rintro e w1 ⟨rfl, hk⟩
    rw [hb]
    go_wp2_with fail
    go_ret
    exact ⟨ret_b (flowB_no (Or.inl hb)).symm, HK.out.trans hk⟩
  by_cases hle : f.length = E.length
  rotate_left
  · have HN := hide hle
    have hne : ((f.length : Int) != (E.length : Int)) = true := by simp; omega
    go_enter Tryz.func91, Tryz.ntmps91
    go_wp2_with fail
    refine (unhide HQ _ HK.out).mono ?_
    rintro e w1 ⟨rfl, hk⟩
    generalize w.alloc (.cells #[.int .i64 nn, .slice ea E.length ec] 36) = W0 at *
    rw [hb]
    obtain ⟨q0, q1⟩ := HB.out.kept hk
    dsimp only at q0 q1
    go_wp2_with fail
    go_ret
    exact ⟨ret_b (flowB_no (Or.inr (Or.inl HN.out))).symm, HK.out.trans hk⟩
  have HL := hide hle
  rw [hle] at hlf ⊢
  clear hle
  obtain ⟨g1, g2, g3, g4⟩ := graphB_true hb
  have HG4 := hide g4
  clear g4
  obtain ⟨n, rfl⟩ : ∃ n : Nat, nn = (n : Int) := ⟨nn.toNat, by omega⟩
  have HBB := hide hb
  have hmk := make_ints n (by omega)
  go_enter Tryz.func91, Tryz.ntmps91
  go_wp2_with fail
  refine (unhide HQ _ HK.out).mono ?_
  rintro e w1 ⟨rfl, hk⟩
  rw [hb]
  clear hb
  generalize w.alloc (.cells #[.int .i64 (n : Int), .slice ea E.length ec] 36) = W0 at *
  obtain ⟨q0, q1⟩ := HB.out.kept hk
  dsimp only at q0 q1
  have HB1 := hide (HB.out.kept hk)
  have HK1 := hide (HK.out.trans hk)
  have HS1 : Hid (w.heap.size + 1 ≤ w1.heap.size) := by show _ ≤ _; have := hk.size; have := HS.out; omega
  clear hk HB HK HS HQ
  have lb := lt_of_cell q0
  go_wp2_with fail
  clear hmk q0 q1 lb
  have HR0 := hide ((World.rowIs_made w1 (.int .i64 0) n 3).congr (g := fun v => .int .i64 (bal E f 0 v)) (fun i _ => by simp [bal]))
  have HK2 := hide (Keeps.alloc (Keeps.refl w1) (.cells (madeCells #[.int .i64 0] n) 3))
  obtain ⟨B, hB⟩ : ∃ B, B = w1.heap.size := ⟨_, rfl⟩
  rw [← hB] at HR0 HS1 ⊢
  have HB0 := hide hB
  clear hB
  have HKW := hide (HK1.out.trans HK2.out)
  have HBW := hide (HB1.out.kept HK2.out)
  generalize w1.alloc (.cells (madeCells #[.int .i64 0] n) 3) = W1 at *
  clear HK2 HK1 HB1 HB0
  have HKV := hide (Keeps.refl W1)
  go_loopw [25] (fun y wr => ∃ k : Nat, k ≤ E.length ∧ y = .int .i64 (k : Int) ∧ Hid (wr.rowIs B 3 n (fun v => .int .i64 (bal E f k v))) ∧ Hid (∀ j (hj : j < E.length) (hf : j < f.length), j < k → 0 ≤ f[j] ∧ f[j] ≤ E[j].cp) ∧ Hid (Turn [B] W1 wr)) (fun y _ => E.length - (intOf y).toNat)
  case atStart => exact ⟨0, by omega, rfl, HR0.out, fun j hj _ h => absurd h (by omega), Turn.refl _ _⟩
  case round =>
    obtain ⟨k, hk, rfl, HR, HG, HTr⟩ := hrel
    clear HR0 HKV
    have HKr : Hid (Keeps w wr) := HTr.out.keeps HKW.out (by have := HS1.out; simp; omega)
    have hBlt := HR.out.lt
    have HBr : Hid (GrAt wr w.heap.size ⟨(n : Int), ea, ec, E⟩) := by
      obtain ⟨q0, q1⟩ := HBW.out
      have := HS1.out
      exact ⟨HTr.out.cell (by simp; omega) q0, HTr.out.cell (by simp; omega) q1⟩
    by_cases hlt : k < E.length
    · have hkf : k < f.length := by rw [HL.out]; exact hlt
      obtain ⟨eb, eoff, ea', c0, c1, c2, c3⟩ := egs_at (unhide HC _ HKr.out) k hlt
      obtain ⟨fb, foff, fa', y0⟩ := its_at HF.out k hkf
      have hfl := lt_of_cell y0
      replace y0 := HKr.out.cell y0
      have hel := lt_of_cell c0
      have he := edgeB_true (HG4.out k hlt)
      have HBS := hide (fun v => bal_step hlt hkf v)
      have HNO : Hid (¬ (0 ≤ f[k] ∧ f[k] ≤ E[k].cp) → flowB (n : Int) E f = false) := fun h => flowB_no (Or.inr (Or.inr (Or.inl (fun hc => h (hc k hlt hkf)))))
      have HGS : Hid (0 ≤ f[k] → f[k] ≤ E[k].cp → ∀ j (hj : j < E.length) (hf : j < f.length), j < k + 1 → 0 ≤ f[j] ∧ f[j] ≤ E[j].cp) := fun h h' j hj hf hlt' => by
        by_cases e : j = k
        · subst e; exact ⟨h, h'⟩
        · exact HG.out j hj hf (by omega)
      have hbb := fun v => bal_bound (E := E) (f := f) (B := 1000000000) (by decide) k (fun j hj h => by
        obtain ⟨a1, a2⟩ := HG.out j (by rw [← HL.out]; exact hj) hj h
        have a3 := edgeB_true (HG4.out j (by rw [← HL.out]; exact hj))
        exact ⟨a1, by omega⟩) v
      generalize E[k] = x at *
      generalize f[k] = y at *
      obtain ⟨xfr, xto, xcp, xco⟩ := x
      dsimp only at c0 c1 c2 c3 he HBS HNO HGS
      obtain ⟨e0, e1, e2, e3, e4, e5, e6, -, -⟩ := he
      obtain ⟨a, rfl⟩ : ∃ a : Nat, xfr = (a : Int) := ⟨xfr.toNat, by omega⟩
      obtain ⟨b, rfl⟩ : ∃ b : Nat, xto = (b : Int) := ⟨xto.toNat, by omega⟩
      have ha : a < n := by omega
      have hb : b < n := by omega
      have hab : a ≠ b := by omega
      have hba := hbb a
      have hbb := hbb b
      have HKA := hide (Keeps.alloc (Keeps.refl wr) (.cells #[.int .i64 (a : Int), .int .i64 (b : Int), .int .i64 xcp, .int .i64 xco] 40))
      have hw : w.heap.size + 1 ≤ B := HS1.out
      obtain rfl := fa'
      have HX := hide ea'
      clear ea' e0 e1 e2 e3 e4
      obtain rfl := HX.out
      go_upto_region 7 with fail
      have HRA := hide (HKA.out.rowK HR.out)
      have HTA : Hid (Turn [B] W1 (wr.alloc (.cells #[.int .i64 (a : Int), .int .i64 (b : Int), .int .i64 xcp, .int .i64 xco] 40))) := HTr.out.trans' (Turn.of_keeps HKA.out _)
      have v0 : (wr.alloc (.cells #[.int .i64 (a : Int), .int .i64 (b : Int), .int .i64 xcp, .int .i64 xco] 40)).cell? ⟨wr.heap.size, 0, none⟩ = some (.int .i64 (a : Int)) := by simp
      have v1 : (wr.alloc (.cells #[.int .i64 (a : Int), .int .i64 (b : Int), .int .i64 xcp, .int .i64 xco] 40)).cell? ⟨wr.heap.size, 1, none⟩ = some (.int .i64 (b : Int)) := by simp
      have v2 : (wr.alloc (.cells #[.int .i64 (a : Int), .int .i64 (b : Int), .int .i64 xcp, .int .i64 xco] 40)).cell? ⟨wr.heap.size, 2, none⟩ = some (.int .i64 xcp) := by simp
      replace y0 := HKA.out.cell y0
      have HKZ := hide (HKr.out.trans HKA.out)
      obtain ⟨V, hV⟩ : ∃ V, V = wr.heap.size := ⟨_, rfl⟩
      rw [← hV] at v0 v1 v2 hBlt ⊢
      have HV := hide hV
      clear hV c0 c1 c2 c3 hel HR HKr HBr
      generalize wr.alloc (.cells #[.int .i64 (a : Int), .int .i64 (b : Int), .int .i64 xcp, .int .i64 xco] 40) = W2 at *
      by_cases hy0 : 0 ≤ y
      rotate_left
      · have hyd : decide (y < 0) = true := by simp; omega
        clear v0 v1 v2
        go_quiet (fail)
        go_wp2_with fail
        go_ret
        exact ⟨ret_b (HNO.out (by omega)).symm, HKZ.out.drewN _⟩
      have hyd : decide (y < 0) = false := by simp; omega
      by_cases hy1 : y ≤ xcp
      rotate_left
      · go_quiet (fail)
        go_wp2_with fail
        go_ret
        exact ⟨ret_b (HNO.out (by omega)).symm, HKZ.out.drewN _⟩
      go_quiet (fail)
      go_upto_region 9 with fail
      have hk3 := (Keeps.refl W2).drewN nq
      replace y0 := hk3.cell y0
      replace v0 := hk3.cell v0
      replace v1 := hk3.cell v1
      replace HRA := hide (hk3.rowK HRA.out)
      replace HTA := hide (HTA.out.trans' (Turn.of_keeps hk3 _))
      clear hk3 v2 HKZ
      generalize W2.drewN nq = W3 at *
      have r0 := HRA.out.cell (i := a) ha
      have f0 := HRA.out.frozen a
      have HA0 := hide (rfl : bal E f k a = bal E f k a)
      generalize hA0 : bal E f k a = A0 at r0 hba
      replace HA0 := hide hA0
      clear hA0
      have w0 : IntKind.i64.wrap (A0 - y) = A0 - y := by rw [IntKind.wrap_i64]; omega
      go_big_region
      have ht4 : Turn [B] W3 (W3.setCell ⟨B, a, none⟩ (.int .i64 (A0 - y))).drew := (Turn.set (by simp) _).trans' (Turn.of_keeps ((Keeps.refl _).drew) _)
      replace HRA := hide (((Keeps.refl _).drew).rowK (HRA.out.set a (.int .i64 (A0 - y))))
      replace y0 := ht4.cell (by simp; omega) y0
      replace v1 := ht4.cell (by simp; omega) v1
      replace HTA := hide (HTA.out.trans' ht4)
      clear ht4 v0 r0 f0 w0
      generalize (W3.setCell ⟨B, a, none⟩ (.int .i64 (A0 - y))).drew = W4 at *
      go_upto_region 10 with fail
      have r1 := HRA.out.cell (i := b) hb
      rw [if_neg (Ne.symm hab)] at r1
      have f1 := HRA.out.frozen b
      generalize hB0 : bal E f k b = B0 at r1 hbb
      have HB0 := hide hB0
      clear hB0
      have w1' : IntKind.i64.wrap (B0 + y) = B0 + y := by rw [IntKind.wrap_i64]; omega
      go_big_region
      have ht5 : Turn [B] W4 (W4.setCell ⟨B, b, none⟩ (.int .i64 (B0 + y))).drew := (Turn.set (by simp) _).trans' (Turn.of_keeps ((Keeps.refl _).drew) _)
      replace HRA := hide (((Keeps.refl _).drew).rowK (HRA.out.set b (.int .i64 (B0 + y))))
      replace HTA := hide (HTA.out.trans' ht5)
      clear ht5 v1 r1 f1 w1' y0
      generalize (W4.setCell ⟨B, b, none⟩ (.int .i64 (B0 + y))).drew = W5 at *
      go_wp2_with fail
      go_roundw
      case rel =>
        refine ⟨k + 1, by omega, by go_num, HRA.out.congr (fun j _ => ?_), HGS.out hy0 hy1, HTA.out⟩
        have hs := HBS.out j
        have h1 := HA0.out
        have h2 := HB0.out
        by_cases ej : j = b
        · subst ej
          rw [if_pos rfl, hs, if_neg (by omega), if_pos rfl, h2]; congr 1; omega
        · rw [if_neg ej]
          by_cases ei : j = a
          · subst ei
            rw [if_pos rfl, hs, if_pos rfl, if_neg (by omega), h1]; congr 1; omega
          · rw [if_neg ei, hs, if_neg (by omega), if_neg (by omega)]; congr 1; omega
      case measure => simp [intOf]; omega
    · have e : k = E.length := by omega
      subst e
      have HIN : Hid (inCap E f) := fun j hj hf => HG.out j hj hf hj
      have HFN : Hid ((∀ v : Nat, (v : Int) < (n : Int) → bal E f E.length v = 0) → flowB (n : Int) E f = true) := fun h => flowB_yes HBB.out HL.out HIN.out h
      have HFO : Hid ((∃ v : Nat, (v : Int) < (n : Int) ∧ bal E f E.length v ≠ 0) → flowB (n : Int) E f = false) := fun h => flowB_no (Or.inr (Or.inr (Or.inr h)))
      have HQ := hide (contf_k B n (bal E f E.length) wr HR.out (by omega))
      go_wp2_with fail
      refine (unhide HQ).mono ?_
      rintro e w2 ⟨hw, ⟨⟨v, hv, hg⟩, rfl⟩ | ⟨hg, rfl⟩⟩
      · obtain rfl := Eq.symm hw
        clear hw
        go_wp2_with fail
        go_ret
        exact ⟨ret_b (HFO.out ⟨v, by omega, hg⟩).symm, HKr.out⟩
      · obtain rfl := Eq.symm hw
        clear hw
        go_wp2_with fail
        go_ret
        exact ⟨ret_b (HFN.out (fun u hu => hg u (by omega))).symm, HKr.out⟩
end Go.Proofs.YtjdbedlgkngdkaaGreatDoor
namespace Go.Proofs.YtjdbedlgkngdkaaGreatDoor
open Go.RowKit Go.Deep
set_option linter.unusedVariables false
set_option linter.unusedSimpArgs false
set_option maxRecDepth 10000

theorem once3 {P : Program} {c : Code} {Q : Exit → Act → World → Prop} {a : Act} {w : World} {α0 α1 α2 : Type} (F : α0 → α1 → α2 → World → Prop) (A : α0 → α1 → α2 → Act)
    (h1 : c.wp P (Exit.then (fun a' w' => ∃ x0 x1 x2, a' = A x0 x1 x2 ∧ F x0 x1 x2 w') (fun _ _ _ => False)) a w) (h2 : ∀ x0 x1 x2 w', F x0 x1 x2 w' → Q .normal (A x0 x1 x2) w') : c.wp P Q a w :=
  wp_mono h1 (fun e a' w' h => by
    cases e with
    | normal => obtain ⟨x0, x1, x2, rfl, hF⟩ := h; exact h2 x0 x1 x2 w' hF
    | _ => exact False.elim h)
theorem born_none (w w' : World) : Born w w' [(none, its [])] := ⟨⟨fun s hs => by rw [List.mem_singleton.1 hs]; exact Cells.nil _ _, by simp [fp, fpS, its], fun b hb => absurd hb (by simp [fp, fpS, its])⟩, fun b hb => absurd hb (by simp [fp, fpS, its])⟩
theorem ringOk_no {N : Int} {E : List Edg} {f : List Int} (h : flowB N E f = false) : ringOk N E f = false ∧ ringV N E f = [] := by
  have e : ringOk N E f = false := by simp [ringOk, h]
  exact ⟨e, by simp [ringV, e]⟩
theorem infoArcI : (Tryz.prog.info? 147).map (fun i => (i.zero, i.size, i.bytes)) = some (some (.agg #[.int .i64 0, .int .i64 0, .int .i64 0, .int .i64 0, .int .i64 0]), 5, 40) := by kernel_rfl
theorem underArcsI : Tryz.prog.underlying 142 = some (.slice 147) := by kernel_rfl
theorem make_arcs (n : Nat) (hn : n ≤ 1048576) (w : World) : (Instr.makeSlice 142 (.int .i64 (n : Int)) (.int .i64 (n : Int))).run Tryz.prog w = .ok (.slice (some ⟨w.heap.size, 0, none⟩) n n) (w.alloc (.cells (madeCells #[.int .i64 0, .int .i64 0, .int .i64 0, .int .i64 0, .int .i64 0] (n * 5)) 147)) := by
  have hI := infoArcI
  cases hi : Tryz.prog.info? 147 with
  | none => rw [hi] at hI; simp at hI
  | some i =>
    rw [hi] at hI
    simp at hI
    obtain ⟨hz, hs, hb⟩ := hI
    have h := run_make (P := Tryz.prog) w 142 147 i _ underArcsI hi hz .i64 .i64 n n (by omega) (Int.le_refl _) (by rw [hb]; omega) (by omega)
    rw [hs] at h
    simpa [Value.cells] using h
theorem made_arcs (A : List Arc) (w : World) (m : Nat) : (w.alloc (.cells (madeCells #[.int .i64 0, .int .i64 0, .int .i64 0, .int .i64 0, .int .i64 0] m) 147)).rowIs w.heap.size 147 m (laV A (turns A 0)) := by
  have h := World.rowIs_alloc w (madeCells #[.int .i64 0, .int .i64 0, .int .i64 0, .int .i64 0, .int .i64 0] m) 147 (laV A (turns A 0)) (by
    intro i hi
    rw [size_madeCells] at hi
    simp only [madeCells, Array.getElem?_map, Array.getElem?_range]
    rw [if_pos hi]
    have : i % 5 < 5 := Nat.mod_lt _ (by decide)
    rcases (show i % 5 = 0 ∨ i % 5 = 1 ∨ i % 5 = 2 ∨ i % 5 = 3 ∨ i % 5 = 4 by omega) with e | e | e | e | e <;> simp [laV, turns, e])
  rw [size_madeCells] at h
  exact h
theorem made_dist (A : List Arc) (w : World) (n : Nat) : (w.alloc (.cells (madeCells #[.int .i64 0] n) 3)).rowIs w.heap.size 3 n (fun v => .int .i64 ((turns A 0).d v)) :=
  (World.rowIs_made w (.int .i64 0) n 3).congr (fun i _ => by simp [turns])
theorem wk_of {X P1 P2 P3 : World} {n : Nat} (A : List Arc) (k1 : Keeps (P1.alloc (.cells (madeCells #[.int .i64 0] n) 3)) X) (k2 : Keeps (P2.alloc (.cells (madeCells #[.int .i64 0, .int .i64 0, .int .i64 0, .int .i64 0, .int .i64 0] (n * 5)) 147)) X)
    (k3 : Keeps (P3.alloc (.cells #[.slice (some ⟨P1.heap.size, 0, none⟩) n n, .slice (some ⟨P2.heap.size, 0, none⟩) n n] 144)) X) (n1 : P3.heap.size ≠ P1.heap.size) (n2 : P3.heap.size ≠ P2.heap.size) (n3 : P1.heap.size ≠ P2.heap.size) : WkR X P3.heap.size P1.heap.size P2.heap.size n A (turns A 0) :=
  ⟨k3.cell (by simp), k3.cell (by simp), k1.rowK (made_dist A P1 n), k2.rowK (made_arcs A P2 (n * 5)), n1, n2, n3⟩
theorem WkR.same {w : World} {wb D La n : Nat} {A : List Arc} {S : Srch} (h : WkR w wb D La n A S) (e : Int) : WkR w wb D La n A { S with e := e } := ⟨h.c0, h.c1, h.rd, h.rl, h.n1, h.n2, h.n3⟩
theorem ring_yes {n : Nat} {E : List Edg} {f : List Int} {m : Nat} (h : flowB (n : Int) E f = true) (he : (turns (arcs E f) n).e ≠ -1) (hr : OnRing n (arcs E f) (turns (arcs E f) n) (bk (arcs E f) (turns (arcs E f) n) n (turns (arcs E f) n).e.toNat) m) :
    ringOk (n : Int) E f = true ∧ ringV (n : Int) E f = ringL (arcs E f) (turns (arcs E f) n) (bk (arcs E f) (turns (arcs E f) n) n (turns (arcs E f) n).e.toNat) m := by
  have e1 : ringOk (n : Int) E f = true := by simp [ringOk, h, he]
  refine ⟨e1, ?_⟩
  unfold ringV
  rw [if_pos e1]
  simp only [Int.toNat_natCast]
  rw [per_eq hr]
theorem ring_none {n r : Nat} {E : List Edg} {f : List Int} (h : flowB (n : Int) E f = true) (hr : r + 1 ≤ n) (he : (turns (arcs E f) (r + 1)).e = -1) : ringOk (n : Int) E f = false ∧ ringV (n : Int) E f = [] := by
  have h1 := (turns_still (arcs_ok h) he (n - (r + 1))).1
  rw [show r + 1 + (n - (r + 1)) = n by omega] at h1
  have e1 : ringOk (n : Int) E f = false := by simp [ringOk, h, h1]
  exact ⟨e1, by simp [ringV, e1]⟩
theorem round_k (n : Nat) (E : List Edg) (f : List Int) (ea : Option Addr) (ec : Nat) (fa : Option Addr) (fc : Nat) (wb D La eb cb r : Nat) (x : Int) (w : World) (hflow : flowB (n : Int) E f = true) (hr : r + 1 ≤ n) (hn : n ≤ 24) (hm : Mem w [(ea, egs E)]) (hf : Cells w fa (its f))
    (hE : ∀ b ∈ fp [(ea, egs E)], b ∉ [D, La, eb, cb]) (hF : ∀ b ∈ fp [(fa, its f)], b ∉ [D, La, eb, cb]) (h0 : RgJ w wb D La eb cb n (arcs E f) x { turns (arcs E f) r with e := -1 }) :
    Calls Tryz.prog 92 #[.agg #[.int .i64 (n : Int), .slice ea E.length ec], .slice fa E.length fc, .func (Fn.func 93) #[] #[.pointer (some ⟨wb, 0, none⟩), .pointer (some ⟨eb, 0, none⟩), .pointer (some ⟨cb, 0, none⟩)]] w fun e w' => e = .returned (.tuple #[]) ∧ RgJ w' wb D La eb cb n (arcs E f) x (turns (arcs E f) (r + 1)) ∧ Turn [D, La, eb, cb] w w' := by
  have hle := (flowB_true hflow).2.1
  have hA := arcs_ok hflow
  have h := each_ring ⟨(n : Int), ea, ec, E⟩ n fa fc f wb eb cb (fun j w' => RgJ w' wb D La eb cb n (arcs E f) x (turnTo (arcs E f) (r + 1) (turns (arcs E f) r) j)) [D, La, eb, cb] w rfl hflow hm hf hE hF (by
    have a1 := h0.wk.rd.lt
    have a2 := h0.wk.rl.lt
    have a3 := lt_of_cell h0.ce
    have a4 := lt_of_cell h0.cc
    intro b hb
    simp at hb
    omega) (fun j w1 w2 h hk => h.kept hk) (fun j hj w1 hJ => by
      dsimp only at hj ⊢
      have hi := turns_mid hA r j (by omega)
      have ha := hA.2 _ (List.getElem_mem hj)
      have h120 := hA.1
      rw [turnTo_step hj]
      refine ring1_k wb D La eb cb n (arcs E f) x (turnTo (arcs E f) (r + 1) (turns (arcs E f) r) j) j (r + 1) hj w1 hJ ha.1 ha.2.1 ha.2.2.1 ha.2.2.2.1 hn (fun v => ?_) ⟨ha.2.2.2.2.2.1, ha.2.2.2.2.2.2⟩
      have hb := hi.bnd v
      refine ⟨hb.1, ?_⟩
      have e : r + 1 - 1 = r := by omega
      rw [e] at hb
      omega) h0
  rw [hle] at h
  exact h
set_option maxHeartbeats 8000000 in
theorem ring_impl (G : Gf) (fa : Option Addr) (fc : Nat) (f : List Int) (w : World) (hm : Mem w G.segs) (hf : Cells w fa (its f)) (hl : G.len) (hlf : f.length ≤ 1048576) :
    Calls Tryz.prog 63 #[G.v, .slice fa f.length fc] w fun e w' => ∃ a c, e = .returned (.tuple #[.slice a (ringV G.nn G.E f).length c, .bool (ringOk G.nn G.E f)]) ∧ Born w w' [(a, its (ringV G.nn G.E f))] ∧ (a = none → c = 0) ∧ Keeps w w' := by
  have HQ := hide (fun w' (hk : Keeps w w') => flow_impl G fa fc f w' (hm.kept hk) (hf.kept hk) hl hlf)
  obtain ⟨nn, ea, ec, E⟩ := G
  have HM := hide hm
  have HF := hide hf
  have HB := hide (gr_box ⟨nn, ea, ec, E⟩ w 36)
  have HK := hide (Keeps.alloc (Keeps.refl w) (.cells #[.int .i64 nn, .slice ea E.length ec] 36))
  dsimp only [Gf.v, Gf.len, Gf.segs] at *
  clear hm hf
  cases hb : flowB nn E f
  · obtain ⟨h1, h2⟩ := ringOk_no hb
    rw [h1, h2]
    clear h1 h2
    go_enter Tryz.func63, Tryz.ntmps63
    go_wp2_with fail
    go_step3
    go_wp2_with fail
    refine (unhide HQ _ HK.out).mono ?_
    rintro e w1 ⟨rfl, hk⟩
    rw [hb]
    go_wp2_with fail
    (try rw [Exit.noGoto_ret])
    go_ret2
    exact ⟨none, 0, rfl, born_none _ _, fun _ => rfl, HK.out.trans hk⟩
  have HFL := hide hb
  obtain ⟨hg, hle, -, -⟩ := flowB_true hb
  obtain ⟨g1, g2, g3, -⟩ := graphB_true hg
  obtain ⟨n, rfl⟩ : ∃ n : Nat, nn = (n : Int) := ⟨nn.toNat, by omega⟩
  have hmk := make_ints n (by omega)
  have hmk2 := make_arcs n (by omega)
  have HL := hide hle
  rw [hle] at HQ hlf ⊢
  clear hg hle
  go_enter Tryz.func63, Tryz.ntmps63
  go_wp2_with fail
  go_step3
  go_wp2_with fail
  refine (unhide HQ _ HK.out).mono ?_
  rintro e w1 ⟨rfl, hk⟩
  rw [hb]
  clear hb
  generalize w.alloc (.cells #[.int .i64 (n : Int), .slice ea E.length ec] 36) = W0 at *
  have HB1 := hide (HB.out.kept hk)
  have HK1 := hide (HK.out.trans hk)
  clear hk HB HK HQ
  obtain ⟨q0, q1⟩ := HB1.out
  dsimp only at q0 q1
  have lb := lt_of_cell q0
  go_upto_region 3 with fail
  have HRD := hide (fun w' => made_dist (arcs E f) w' n)
  have HRL := hide (fun w' => made_arcs (arcs E f) w' (n * 5))
  apply once3 (F := fun wb D La w' => WkR w' wb D La n (arcs E f) (turns (arcs E f) 0) ∧ Keeps w1 w' ∧ w1.heap.size ≤ wb ∧ w1.heap.size ≤ D ∧ w1.heap.size ≤ La)
  · skip
    go_region_held3 (fun w' => w'.cell? ⟨w.heap.size, 0, none⟩ = some (.int .i64 (n : Int))) (first | (go_keep; done) | exact (Keeps.drew (Keeps.alloc (Keeps.alloc (Keeps.alloc (Keeps.refl w1) _) _) _)).cell q0 | exact (Keeps.drew (Keeps.setCell (Keeps.setCell (Keeps.alloc (Keeps.alloc (Keeps.alloc (Keeps.refl w1) _) _) _) (by simp <;> omega) _) (by simp <;> omega) _)).cell q0) (fail)
    all_goals
      obtain ⟨s0, hs0⟩ : ∃ s, s = w1.heap.size := ⟨_, rfl⟩
      obtain ⟨s1, hs1⟩ : ∃ s, s = w1.heap.size + 1 := ⟨_, rfl⟩
      obtain ⟨s2, hs2⟩ : ∃ s, s = w1.heap.size + 1 + 1 := ⟨_, rfl⟩
      first
       | (have HFF : WkR (((w1.alloc (.cells (madeCells #[.int .i64 0] n) 3)).alloc (.cells (madeCells #[.int .i64 0, .int .i64 0, .int .i64 0, .int .i64 0, .int .i64 0] (n * 5)) 147)).alloc (.cells #[.slice (some ⟨w1.heap.size, 0, none⟩) n n, .slice (some ⟨w1.heap.size + 1, 0, none⟩) n n] 144)).drew s2 s0 s1 n (arcs E f) (turns (arcs E f) 0) ∧ Keeps w1 (((w1.alloc (.cells (madeCells #[.int .i64 0] n) 3)).alloc (.cells (madeCells #[.int .i64 0, .int .i64 0, .int .i64 0, .int .i64 0, .int .i64 0] (n * 5)) 147)).alloc (.cells #[.slice (some ⟨w1.heap.size, 0, none⟩) n n, .slice (some ⟨w1.heap.size + 1, 0, none⟩) n n] 144)).drew ∧ w1.heap.size ≤ s2 ∧ w1.heap.size ≤ s0 ∧ w1.heap.size ≤ s1 := by
            subst hs0 hs1 hs2
            refine ⟨?_, Keeps.drew (Keeps.alloc (Keeps.alloc (Keeps.alloc (Keeps.refl w1) _) _) _), by omega, by omega, by omega⟩
            have h := wk_of (X := (((w1.alloc (.cells (madeCells #[.int .i64 0] n) 3)).alloc (.cells (madeCells #[.int .i64 0, .int .i64 0, .int .i64 0, .int .i64 0, .int .i64 0] (n * 5)) 147)).alloc (.cells #[.slice (some ⟨w1.heap.size, 0, none⟩) n n, .slice (some ⟨w1.heap.size + 1, 0, none⟩) n n] 144)).drew) (P1 := w1) (P2 := (w1.alloc (.cells (madeCells #[.int .i64 0] n) 3))) (P3 := ((w1.alloc (.cells (madeCells #[.int .i64 0] n) 3)).alloc (.cells (madeCells #[.int .i64 0, .int .i64 0, .int .i64 0, .int .i64 0, .int .i64 0] (n * 5)) 147))) (n := n) (arcs E f) (Keeps.drew (Keeps.alloc (Keeps.alloc (Keeps.refl _) _) _)) (Keeps.drew (Keeps.alloc (Keeps.refl _) _)) (by simp only [World.size_alloc]; exact (Keeps.drew (Keeps.refl _))) (by simp only [World.size_alloc]; omega) (by simp only [World.size_alloc]; omega) (by simp only [World.size_alloc]; omega)
            simp only [World.size_alloc] at h
            exact h
          refine ⟨_, _, _, ?_, HFF⟩
          rw [← hs2, ← hs1, ← hs0])
       | (have HFF : WkR (((w1.alloc (.cells (madeCells #[.int .i64 0] n) 3)).alloc (.cells #[.slice (some ⟨w1.heap.size, 0, none⟩) n n, .slice (some ⟨w1.heap.size + 1 + 1, 0, none⟩) n n] 144)).alloc (.cells (madeCells #[.int .i64 0, .int .i64 0, .int .i64 0, .int .i64 0, .int .i64 0] (n * 5)) 147)).drew s1 s0 s2 n (arcs E f) (turns (arcs E f) 0) ∧ Keeps w1 (((w1.alloc (.cells (madeCells #[.int .i64 0] n) 3)).alloc (.cells #[.slice (some ⟨w1.heap.size, 0, none⟩) n n, .slice (some ⟨w1.heap.size + 1 + 1, 0, none⟩) n n] 144)).alloc (.cells (madeCells #[.int .i64 0, .int .i64 0, .int .i64 0, .int .i64 0, .int .i64 0] (n * 5)) 147)).drew ∧ w1.heap.size ≤ s1 ∧ w1.heap.size ≤ s0 ∧ w1.heap.size ≤ s2 := by
            subst hs0 hs1 hs2
            refine ⟨?_, Keeps.drew (Keeps.alloc (Keeps.alloc (Keeps.alloc (Keeps.refl w1) _) _) _), by omega, by omega, by omega⟩
            have h := wk_of (X := (((w1.alloc (.cells (madeCells #[.int .i64 0] n) 3)).alloc (.cells #[.slice (some ⟨w1.heap.size, 0, none⟩) n n, .slice (some ⟨w1.heap.size + 1 + 1, 0, none⟩) n n] 144)).alloc (.cells (madeCells #[.int .i64 0, .int .i64 0, .int .i64 0, .int .i64 0, .int .i64 0] (n * 5)) 147)).drew) (P1 := w1) (P2 := ((w1.alloc (.cells (madeCells #[.int .i64 0] n) 3)).alloc (.cells #[.slice (some ⟨w1.heap.size, 0, none⟩) n n, .slice (some ⟨w1.heap.size + 1 + 1, 0, none⟩) n n] 144))) (P3 := (w1.alloc (.cells (madeCells #[.int .i64 0] n) 3))) (n := n) (arcs E f) (Keeps.drew (Keeps.alloc (Keeps.alloc (Keeps.refl _) _) _)) (Keeps.drew (Keeps.refl _)) (by simp only [World.size_alloc]; exact (Keeps.drew (Keeps.alloc (Keeps.refl _) _))) (by simp only [World.size_alloc]; omega) (by simp only [World.size_alloc]; omega) (by simp only [World.size_alloc]; omega)
            simp only [World.size_alloc] at h
            exact h
          refine ⟨_, _, _, ?_, HFF⟩
          rw [← hs2, ← hs1, ← hs0])
       | (have HFF : WkR (((w1.alloc (.cells (madeCells #[.int .i64 0, .int .i64 0, .int .i64 0, .int .i64 0, .int .i64 0] (n * 5)) 147)).alloc (.cells (madeCells #[.int .i64 0] n) 3)).alloc (.cells #[.slice (some ⟨w1.heap.size + 1, 0, none⟩) n n, .slice (some ⟨w1.heap.size, 0, none⟩) n n] 144)).drew s2 s1 s0 n (arcs E f) (turns (arcs E f) 0) ∧ Keeps w1 (((w1.alloc (.cells (madeCells #[.int .i64 0, .int .i64 0, .int .i64 0, .int .i64 0, .int .i64 0] (n * 5)) 147)).alloc (.cells (madeCells #[.int .i64 0] n) 3)).alloc (.cells #[.slice (some ⟨w1.heap.size + 1, 0, none⟩) n n, .slice (some ⟨w1.heap.size, 0, none⟩) n n] 144)).drew ∧ w1.heap.size ≤ s2 ∧ w1.heap.size ≤ s1 ∧ w1.heap.size ≤ s0 := by
            subst hs0 hs1 hs2
            refine ⟨?_, Keeps.drew (Keeps.alloc (Keeps.alloc (Keeps.alloc (Keeps.refl w1) _) _) _), by omega, by omega, by omega⟩
            have h := wk_of (X := (((w1.alloc (.cells (madeCells #[.int .i64 0, .int .i64 0, .int .i64 0, .int .i64 0, .int .i64 0] (n * 5)) 147)).alloc (.cells (madeCells #[.int .i64 0] n) 3)).alloc (.cells #[.slice (some ⟨w1.heap.size + 1, 0, none⟩) n n, .slice (some ⟨w1.heap.size, 0, none⟩) n n] 144)).drew) (P1 := (w1.alloc (.cells (madeCells #[.int .i64 0, .int .i64 0, .int .i64 0, .int .i64 0, .int .i64 0] (n * 5)) 147))) (P2 := w1) (P3 := ((w1.alloc (.cells (madeCells #[.int .i64 0, .int .i64 0, .int .i64 0, .int .i64 0, .int .i64 0] (n * 5)) 147)).alloc (.cells (madeCells #[.int .i64 0] n) 3))) (n := n) (arcs E f) (Keeps.drew (Keeps.alloc (Keeps.refl _) _)) (Keeps.drew (Keeps.alloc (Keeps.alloc (Keeps.refl _) _) _)) (by simp only [World.size_alloc]; exact (Keeps.drew (Keeps.refl _))) (by simp only [World.size_alloc]; omega) (by simp only [World.size_alloc]; omega) (by simp only [World.size_alloc]; omega)
            simp only [World.size_alloc] at h
            exact h
          refine ⟨_, _, _, ?_, HFF⟩
          rw [← hs2, ← hs1, ← hs0])
       | (have HFF : WkR (((w1.alloc (.cells (madeCells #[.int .i64 0, .int .i64 0, .int .i64 0, .int .i64 0, .int .i64 0] (n * 5)) 147)).alloc (.cells #[.slice (some ⟨w1.heap.size + 1 + 1, 0, none⟩) n n, .slice (some ⟨w1.heap.size, 0, none⟩) n n] 144)).alloc (.cells (madeCells #[.int .i64 0] n) 3)).drew s1 s2 s0 n (arcs E f) (turns (arcs E f) 0) ∧ Keeps w1 (((w1.alloc (.cells (madeCells #[.int .i64 0, .int .i64 0, .int .i64 0, .int .i64 0, .int .i64 0] (n * 5)) 147)).alloc (.cells #[.slice (some ⟨w1.heap.size + 1 + 1, 0, none⟩) n n, .slice (some ⟨w1.heap.size, 0, none⟩) n n] 144)).alloc (.cells (madeCells #[.int .i64 0] n) 3)).drew ∧ w1.heap.size ≤ s1 ∧ w1.heap.size ≤ s2 ∧ w1.heap.size ≤ s0 := by
            subst hs0 hs1 hs2
            refine ⟨?_, Keeps.drew (Keeps.alloc (Keeps.alloc (Keeps.alloc (Keeps.refl w1) _) _) _), by omega, by omega, by omega⟩
            have h := wk_of (X := (((w1.alloc (.cells (madeCells #[.int .i64 0, .int .i64 0, .int .i64 0, .int .i64 0, .int .i64 0] (n * 5)) 147)).alloc (.cells #[.slice (some ⟨w1.heap.size + 1 + 1, 0, none⟩) n n, .slice (some ⟨w1.heap.size, 0, none⟩) n n] 144)).alloc (.cells (madeCells #[.int .i64 0] n) 3)).drew) (P1 := ((w1.alloc (.cells (madeCells #[.int .i64 0, .int .i64 0, .int .i64 0, .int .i64 0, .int .i64 0] (n * 5)) 147)).alloc (.cells #[.slice (some ⟨w1.heap.size + 1 + 1, 0, none⟩) n n, .slice (some ⟨w1.heap.size, 0, none⟩) n n] 144))) (P2 := w1) (P3 := (w1.alloc (.cells (madeCells #[.int .i64 0, .int .i64 0, .int .i64 0, .int .i64 0, .int .i64 0] (n * 5)) 147))) (n := n) (arcs E f) (Keeps.drew (Keeps.refl _)) (Keeps.drew (Keeps.alloc (Keeps.alloc (Keeps.refl _) _) _)) (by simp only [World.size_alloc]; exact (Keeps.drew (Keeps.alloc (Keeps.refl _) _))) (by simp only [World.size_alloc]; omega) (by simp only [World.size_alloc]; omega) (by simp only [World.size_alloc]; omega)
            simp only [World.size_alloc] at h
            exact h
          refine ⟨_, _, _, ?_, HFF⟩
          rw [← hs2, ← hs1, ← hs0])
       | (have HFF : WkR (((w1.alloc (.cells #[.slice (some ⟨w1.heap.size + 1, 0, none⟩) n n, .slice (some ⟨w1.heap.size + 1 + 1, 0, none⟩) n n] 144)).alloc (.cells (madeCells #[.int .i64 0] n) 3)).alloc (.cells (madeCells #[.int .i64 0, .int .i64 0, .int .i64 0, .int .i64 0, .int .i64 0] (n * 5)) 147)).drew s0 s1 s2 n (arcs E f) (turns (arcs E f) 0) ∧ Keeps w1 (((w1.alloc (.cells #[.slice (some ⟨w1.heap.size + 1, 0, none⟩) n n, .slice (some ⟨w1.heap.size + 1 + 1, 0, none⟩) n n] 144)).alloc (.cells (madeCells #[.int .i64 0] n) 3)).alloc (.cells (madeCells #[.int .i64 0, .int .i64 0, .int .i64 0, .int .i64 0, .int .i64 0] (n * 5)) 147)).drew ∧ w1.heap.size ≤ s0 ∧ w1.heap.size ≤ s1 ∧ w1.heap.size ≤ s2 := by
            subst hs0 hs1 hs2
            refine ⟨?_, Keeps.drew (Keeps.alloc (Keeps.alloc (Keeps.alloc (Keeps.refl w1) _) _) _), by omega, by omega, by omega⟩
            have h := wk_of (X := (((w1.alloc (.cells #[.slice (some ⟨w1.heap.size + 1, 0, none⟩) n n, .slice (some ⟨w1.heap.size + 1 + 1, 0, none⟩) n n] 144)).alloc (.cells (madeCells #[.int .i64 0] n) 3)).alloc (.cells (madeCells #[.int .i64 0, .int .i64 0, .int .i64 0, .int .i64 0, .int .i64 0] (n * 5)) 147)).drew) (P1 := (w1.alloc (.cells #[.slice (some ⟨w1.heap.size + 1, 0, none⟩) n n, .slice (some ⟨w1.heap.size + 1 + 1, 0, none⟩) n n] 144))) (P2 := ((w1.alloc (.cells #[.slice (some ⟨w1.heap.size + 1, 0, none⟩) n n, .slice (some ⟨w1.heap.size + 1 + 1, 0, none⟩) n n] 144)).alloc (.cells (madeCells #[.int .i64 0] n) 3))) (P3 := w1) (n := n) (arcs E f) (Keeps.drew (Keeps.alloc (Keeps.refl _) _)) (Keeps.drew (Keeps.refl _)) (by simp only [World.size_alloc]; exact (Keeps.drew (Keeps.alloc (Keeps.alloc (Keeps.refl _) _) _))) (by simp only [World.size_alloc]; omega) (by simp only [World.size_alloc]; omega) (by simp only [World.size_alloc]; omega)
            simp only [World.size_alloc] at h
            exact h
          refine ⟨_, _, _, ?_, HFF⟩
          rw [← hs2, ← hs1, ← hs0])
       | (have HFF : WkR (((w1.alloc (.cells #[.slice (some ⟨w1.heap.size + 1 + 1, 0, none⟩) n n, .slice (some ⟨w1.heap.size + 1, 0, none⟩) n n] 144)).alloc (.cells (madeCells #[.int .i64 0, .int .i64 0, .int .i64 0, .int .i64 0, .int .i64 0] (n * 5)) 147)).alloc (.cells (madeCells #[.int .i64 0] n) 3)).drew s0 s2 s1 n (arcs E f) (turns (arcs E f) 0) ∧ Keeps w1 (((w1.alloc (.cells #[.slice (some ⟨w1.heap.size + 1 + 1, 0, none⟩) n n, .slice (some ⟨w1.heap.size + 1, 0, none⟩) n n] 144)).alloc (.cells (madeCells #[.int .i64 0, .int .i64 0, .int .i64 0, .int .i64 0, .int .i64 0] (n * 5)) 147)).alloc (.cells (madeCells #[.int .i64 0] n) 3)).drew ∧ w1.heap.size ≤ s0 ∧ w1.heap.size ≤ s2 ∧ w1.heap.size ≤ s1 := by
            subst hs0 hs1 hs2
            refine ⟨?_, Keeps.drew (Keeps.alloc (Keeps.alloc (Keeps.alloc (Keeps.refl w1) _) _) _), by omega, by omega, by omega⟩
            have h := wk_of (X := (((w1.alloc (.cells #[.slice (some ⟨w1.heap.size + 1 + 1, 0, none⟩) n n, .slice (some ⟨w1.heap.size + 1, 0, none⟩) n n] 144)).alloc (.cells (madeCells #[.int .i64 0, .int .i64 0, .int .i64 0, .int .i64 0, .int .i64 0] (n * 5)) 147)).alloc (.cells (madeCells #[.int .i64 0] n) 3)).drew) (P1 := ((w1.alloc (.cells #[.slice (some ⟨w1.heap.size + 1 + 1, 0, none⟩) n n, .slice (some ⟨w1.heap.size + 1, 0, none⟩) n n] 144)).alloc (.cells (madeCells #[.int .i64 0, .int .i64 0, .int .i64 0, .int .i64 0, .int .i64 0] (n * 5)) 147))) (P2 := (w1.alloc (.cells #[.slice (some ⟨w1.heap.size + 1 + 1, 0, none⟩) n n, .slice (some ⟨w1.heap.size + 1, 0, none⟩) n n] 144))) (P3 := w1) (n := n) (arcs E f) (Keeps.drew (Keeps.refl _)) (Keeps.drew (Keeps.alloc (Keeps.refl _) _)) (by simp only [World.size_alloc]; exact (Keeps.drew (Keeps.alloc (Keeps.alloc (Keeps.refl _) _) _))) (by simp only [World.size_alloc]; omega) (by simp only [World.size_alloc]; omega) (by simp only [World.size_alloc]; omega)
            simp only [World.size_alloc] at h
            exact h
          refine ⟨_, _, _, ?_, HFF⟩
          rw [← hs2, ← hs1, ← hs0])
  rintro wb D La w2 ⟨hwk, hk2, l0, l1, l2⟩
  have HWK := hide hwk
  have HK2 := hide (HK1.out.trans hk2)
  have HB2 := hide (HB1.out.kept hk2)
  have HLE : Hid (w.heap.size < wb ∧ w.heap.size < D ∧ w.heap.size < La ∧ wb < w2.heap.size) := ⟨by omega, by omega, by omega, lt_of_cell hwk.c0⟩
  clear hwk hk2 l0 l1 l2 lb q0 q1 hmk hmk2 HRD HRL HB1 HK1
  go_wp2_with fail
  go_step3
  go_wp2_with fail
  have HKA := hide (Keeps.alloc (Keeps.refl w2) (.cells #[.int .i64 0] 3))
  have HCE : Hid ((w2.alloc (.cells #[.int .i64 0] 3)).cell? ⟨w2.heap.size, 0, none⟩ = some (.int .i64 0) ∧ (w2.alloc (.cells #[.int .i64 0] 3)).frozen? ⟨w2.heap.size, 0, none⟩ = false) := ⟨by simp, by simp⟩
  have HLD : Hid (D < w2.heap.size ∧ La < w2.heap.size) := ⟨HWK.out.rd.lt, HWK.out.rl.lt⟩
  obtain ⟨eb, heb⟩ : ∃ eb, eb = w2.heap.size := ⟨_, rfl⟩
  rw [← heb] at HCE HLE HLD ⊢
  clear heb
  generalize w2.alloc (.cells #[.int .i64 0] 3) = W3 at *
  have HW3 := hide (HWK.out.kept HKA.out)
  have HB3 := hide (HB2.out.kept HKA.out)
  have HK3 := hide (HK2.out.trans HKA.out)
  clear HWK HB2 HK2 HKA
  go_loopw [8] (fun y wr => ∃ (r : Nat) (x : Int), r + 1 ≤ n ∧ y = .int .i64 ((r + 1 : Nat) : Int) ∧ Hid (WkR wr wb D La n (arcs E f) (turns (arcs E f) r)) ∧ Hid (wr.cell? ⟨eb, 0, none⟩ = some (.int .i64 x) ∧ wr.frozen? ⟨eb, 0, none⟩ = false) ∧ Hid (GrAt wr w.heap.size ⟨(n : Int), ea, ec, E⟩) ∧ Hid (Keeps w wr)) (fun y _ => n - (intOf y).toNat)
  case atStart => exact ⟨0, 0, by omega, rfl, HW3.out, HCE.out, HB3.out, HK3.out⟩
  case round =>
    obtain ⟨r, x, hr, rfl, HW, HC, HB, HK⟩ := hrel
    clear HW3 HCE HB3 HK3
    have HKA := hide (Keeps.alloc (Keeps.refl wr) (.cells #[.bool false] 4))
    have HCC : Hid ((wr.alloc (.cells #[.bool false] 4)).cell? ⟨wr.heap.size, 0, none⟩ = some (.bool false) ∧ (wr.alloc (.cells #[.bool false] 4)).frozen? ⟨wr.heap.size, 0, none⟩ = false) := ⟨by simp, by simp⟩
    have HLW : Hid (wb < wr.heap.size ∧ D < wr.heap.size ∧ La < wr.heap.size ∧ eb < wr.heap.size) := ⟨lt_of_cell HW.out.c0, HW.out.rd.lt, HW.out.rl.lt, lt_of_cell HC.out.1⟩
    go_upto_region 8 with fail
    obtain ⟨cb, hcb⟩ : ∃ cb, cb = wr.heap.size := ⟨_, rfl⟩
    rw [← hcb] at HCC HLW ⊢
    clear hcb
    generalize wr.alloc (.cells #[.bool false] 4) = W4 at *
    have HB4 := hide (HB.out.kept HKA.out)
    have HK4 := hide (HK.out.trans HKA.out)
    have HEF : Hid (∀ b, b < w.heap.size + 1 → b ∉ [D, La, eb, cb]) := fun b hb hx => by
      have h1 := HLE.out
      have h2 := HLW.out
      simp at hx
      omega
    have HJ : Hid (RgJ W4 wb D La eb cb n (arcs E f) x { turns (arcs E f) r with e := -1 }) := by
      have h1 := HLE.out
      have h2 := HLW.out
      have h3 := HLD.out
      refine ⟨(HW.out.kept HKA.out).same (-1), ?_, ?_, ?_, HCC.out.2, ⟨by omega, by omega, by omega, by omega, by omega, by omega, by omega⟩⟩
      · rw [if_pos rfl]; exact HKA.out.cell HC.out.1
      · simpa using HCC.out.1
      · rw [HKA.out.oldF eb 0 (lt_of_cell HC.out.1)]; exact HC.out.2
    have HRK := hide (round_k n E f ea ec fa fc wb D La eb cb r x W4 HFL.out hr (by omega) (HM.out.kept HK4.out) (HF.out.kept HK4.out) (fun b hb => HEF.out b (by have := HM.out.lt b hb; omega)) (fun b hb => HEF.out b (by have := Cells.lt (s := (fa, its f)) HF.out b (by simpa [fp] using hb); omega)) HJ.out)
    obtain ⟨q0, q1⟩ := HB4.out
    dsimp only at q0 q1
    clear HW HC HB HK HKA HJ HCC
    go_wp2_with fail
    refine (unhide HRK).mono ?_
    rintro e w5 ⟨rfl, hj, ht⟩
    have HJ := hide hj
    replace q0 := ht.cell (HEF.out _ (by simp)) q0
    replace q1 := ht.cell (HEF.out _ (by simp)) q1
    have HK5 : Hid (Keeps w w5) := ht.keeps HK4.out (fun b hb => by
      have h1 := HLE.out
      have h2 := HLW.out
      simp at hb
      omega)
    have ce := hj.ce
    have cc := hj.cc
    clear hj ht HRK HK4 HB4
    by_cases he : (turns (arcs E f) (r + 1)).e = -1
    · obtain ⟨h1, h2⟩ := ring_none HFL.out hr he
      have HO1 := hide h1
      have HO2 := hide h2
      have hd : decide ((turns (arcs E f) (r + 1)).e ≠ -1) = false := by simp [he]
      rw [hd] at cc
      clear hd h1 h2 ce he
      go_wp2_with fail
      (try rw [Exit.noGoto_ret])
      go_ret2
      exact ⟨none, 0, by rw [HO1.out, HO2.out]; rfl, by rw [HO2.out]; exact born_none _ _, fun _ => rfl, HK5.out⟩
    · have hd : decide ((turns (arcs E f) (r + 1)).e ≠ -1) = true := by simp [he]
      rw [hd] at cc
      rw [if_neg he] at ce
      have HE := hide he
      clear hd he
      by_cases hrn : r + 1 = n
      · have hne : (((r + 1 : Nat) : Int) == (n : Int)) = true := by simp; omega
        have hsi : SInv (arcs E f) n (arcs E f).length (turns (arcs E f) n) := by have := turns_inv (arcs_ok HFL.out) r; rw [hrn] at this; exact this
        rw [hrn] at HJ ce
        have hee : (turns (arcs E f) n).e ≠ -1 := by rw [← hrn]; exact HE.out
        obtain ⟨hset, hlt, m, hor⟩ := on_ring (arcs_ok HFL.out) (by omega) hsi hee
        obtain ⟨o1, o2⟩ := ring_yes HFL.out hee hor
        have hp : ∀ v, (turns (arcs E f) n).s v = true → 0 ≤ (pa (arcs E f) (turns (arcs E f) n) v).fr := fun v hv => ((arcs_ok HFL.out).2 _ (pa_mem (hsi.set v hv).1)).1
        have he0 := (hsi.fin hee).1
        obtain ⟨e0, he0⟩ : ∃ e0 : Nat, (turns (arcs E f) n).e = (e0 : Int) := ⟨(turns (arcs E f) n).e.toNat, by omega⟩
        rw [he0] at ce hset hlt hor o2
        simp only [Int.toNat_natCast] at hset hlt hor o2
        have HBH := hide (behind_k wb D La n m (arcs E f) (turns (arcs E f) n) e0 w5 HJ.out.wk (by omega) hset hlt hp _ rfl hor)
        have HO1 := hide o1
        have HO2 := hide o2
        clear hset hlt hor o1 o2 hp he0 hee hsi hrn HE
        go_wp2_with fail
        refine (unhide HBH).mono ?_
        rintro e w6 ⟨g, cap, rfl, hb, hk⟩
        have HB6 := hide (hb.old HK5.out)
        have HK6 := hide (HK5.out.trans hk)
        clear hb hk
        go_wp2_with fail
        (try rw [Exit.noGoto_ret])
        go_ret2
        exact ⟨some ⟨g, 0, none⟩, cap, by rw [HO1.out, HO2.out, ringL_len]; rfl, by rw [HO2.out]; exact HB6.out, fun h => (nomatch h), HK6.out⟩
      · have hne : (((r + 1 : Nat) : Int) == (n : Int)) = false := by simp; omega
        go_wp2_with fail
        go_roundw
        case rel => exact ⟨r + 1, _, by omega, by go_num, HJ.out.wk, ⟨ce, HJ.out.fe⟩, ⟨q0, q1⟩, HK5.out⟩
        case measure => simp [intOf]; omega
end Go.Proofs.YtjdbedlgkngdkaaGreatDoor
