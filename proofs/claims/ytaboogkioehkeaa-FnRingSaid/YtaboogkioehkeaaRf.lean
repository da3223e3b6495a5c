/- The ring behind a node, gathered by the program. -/
import Derived.Test.YtaboogkioehkeaaRd
import Derived.OwnWalk
namespace Go.Proofs.Ytaboogkioehkeaa
open Go.RowKit Go.Deep
set_option linter.unusedVariables false
set_option linter.unusedSimpArgs false
set_option maxRecDepth 10000

def lenOf (v : Value) : Nat := match v with | .slice _ n _ => n | _ => 0
theorem laV_at {A : List Arc} {S : Srch} {v r : Nat} (h : S.s v = true) (hr : r < 5) : laV A S (v * 5 + r) = (pa A S v).cell r := by
  unfold laV
  rw [show (v * 5 + r) / 5 = v by omega, show (v * 5 + r) % 5 = r by omega, if_pos h]
theorem WkR.arcAt {w : World} {wb D La n : Nat} {A : List Arc} {S : Srch} (h : WkR w wb D La n A S) {v : Nat} (hs : S.s v = true) (hv : v < n) :
    w.cell? ⟨La, v * 5, none⟩ = some (.int .i64 (pa A S v).nm) ∧ w.cell? ⟨La, v * 5 + 1, none⟩ = some (.int .i64 (pa A S v).fr) ∧ w.cell? ⟨La, v * 5 + 2, none⟩ = some (.int .i64 (pa A S v).to) ∧ w.cell? ⟨La, v * 5 + 3, none⟩ = some (.int .i64 (pa A S v).rs) ∧ w.cell? ⟨La, v * 5 + 4, none⟩ = some (.int .i64 (pa A S v).co) := by
  have a0 := h.rl.cell (i := v * 5) (by omega)
  have a1 := h.rl.cell (i := v * 5 + 1) (by omega)
  have a2 := h.rl.cell (i := v * 5 + 2) (by omega)
  have a3 := h.rl.cell (i := v * 5 + 3) (by omega)
  have a4 := h.rl.cell (i := v * 5 + 4) (by omega)
  have e0 : laV A S (v * 5) = (pa A S v).cell 0 := laV_at (r := 0) hs (by omega)
  rw [e0] at a0
  rw [laV_at hs (by omega)] at a1 a2 a3 a4
  exact ⟨a0, a1, a2, a3, a4⟩
theorem its_oneR (w : World) (x : Int) (t : TypeId) : ∀ j u, (its [x])[j]? = some u → (w.alloc (.cells #[.int .i64 x] t)).cell? ((⟨w.heap.size, 0, none⟩ : Addr).add j) = some u := by
  intro j u h
  have hj : j = 0 := by
    rcases Nat.lt_or_ge j 1 with h' | h'
    · omega
    · rw [List.getElem?_eq_none (by simp [its]; omega)] at h; cases h
  subst hj
  simp [its] at h
  subst h
  simp [Addr.add]
theorem row_arc (x : Arc) : ∀ i, i < (#[.int .i64 x.nm, .int .i64 x.fr, .int .i64 x.to, .int .i64 x.rs, .int .i64 x.co] : Array Value).size → (#[.int .i64 x.nm, .int .i64 x.fr, .int .i64 x.to, .int .i64 x.rs, .int .i64 x.co] : Array Value)[i]? = some (x.cell i)
  | 0, _ => rfl
  | 1, _ => rfl
  | 2, _ => rfl
  | 3, _ => rfl
  | 4, _ => rfl
  | n + 5, h => absurd h (by simp)
theorem owns_one (w : World) (x : Int) (base : Nat) (hb : base ≤ w.heap.size) : OwnsI (w.alloc (.cells #[.int .i64 x] 3)) base (.slice (some ⟨w.heap.size, 0, none⟩) 1 1) [x] :=
  ⟨by simp [its], .inr ⟨w.heap.size, 1, #[.int .i64 x], rfl, hb, heap_alloc_new w _, by simp, by decide, by simp, by simp [its]⟩⟩
theorem owns_turn {w w' : World} {base : Nat} {v : Value} {L : List Int} (h : OwnsI w base v L) (hb : ∀ j, v.ownBlock = some j → w'.heap[j]? = w.heap[j]?) : OwnsI w' base v L := by
  refine ⟨h.1, ?_⟩
  rcases h.2 with h2 | ⟨g, cap, cur, e, h3, h4, h5⟩
  · exact .inl h2
  · exact .inr ⟨g, cap, cur, e, h3, by rw [hb g (by rw [e]; rfl)]; exact h4, h5⟩
theorem born_owns {W w : World} {base g cap : Nat} {L : List Int} (h : OwnsI w base (.slice (some ⟨g, 0, none⟩) L.length cap) L) (hb : W.heap.size ≤ base) : Born W w [(some ⟨g, 0, none⟩, its L)] := by
  refine ⟨⟨?_, ?_, ?_⟩, ?_⟩
  · intro s hs
    rw [List.mem_singleton.1 hs]
    refine Or.inr ⟨g, 0, rfl, fun j hj => ?_⟩
    have hj' : j < (its L).length := hj
    have hl := its_length L
    rw [Nat.zero_add, h.cellAt j (by omega), List.getElem?_eq_getElem hj']
  · by_cases h0 : its L = [] <;> simp [fp, fpS, h0]
  · intro b hb'
    by_cases h0 : its L = []
    · simp [fp, fpS, h0] at hb'
    · simp [fp, fpS, h0] at hb'
      subst hb'
      exact fun o => h.frozenAt o
  · intro b hb'
    by_cases h0 : its L = []
    · simp [fp, fpS, h0] at hb'
    · simp [fp, fpS, h0] at hb'
      subst hb'
      have := (h.lt b rfl).1
      omega
set_option maxHeartbeats 8000000 in
theorem behind_k (wb D La n m : Nat) (A : List Arc) (S : Srch) (e0 : Nat) (w : World) (h : WkR w wb D La n A S) (hn : n ≤ 24) (hset : ∀ i, i < n → S.s (bk A S i e0) = true) (hlt : ∀ i, i ≤ n → bk A S i e0 < n)
    (hp : ∀ v, S.s v = true → 0 ≤ (pa A S v).fr) (b : Nat) (hbb : bk A S n e0 = b) (hr : OnRing n A S b m) :
    Calls Try.prog 40 #[.pointer (some ⟨wb, 0, none⟩), .int .i64 (e0 : Int)] w fun e w' => ∃ g cap, e = .returned (.slice (some ⟨g, 0, none⟩) m cap) ∧ Born w w' [(some ⟨g, 0, none⟩, its (ringL A S b m))] ∧ Keeps w w' := by
  have HW := hide h
  have HSET := hide hset
  have HLT := hide hlt
  have HP := hide hp
  have HR := hide hr
  have HBB := hide hbb
  clear h hset hlt hp hr hbb
  have q1 := HW.out.c1
  go_enter Try.func40, Try.ntmps40
  go_wp2_with fail
  go_loop [5, 14] (fun b y => ∃ k : Nat, k ≤ n ∧ b = .int .i64 ((bk A S k e0 : Nat) : Int) ∧ y = .int .i64 (k : Int)) (fun _ y => n - (intOf y).toNat)
  case atStart => exact ⟨0, by omega, rfl, rfl⟩
  case round =>
    obtain ⟨k, hk, rfl, rfl⟩ := hrel
    by_cases hlt : k < n
    · have hs := HSET.out k hlt
      have hv := HLT.out k (by omega)
      have a1 := (HW.out.arcAt hs hv).2.1
      have hfr := HP.out _ hs
      have HN : Hid ((pa A S (bk A S k e0)).fr = ((bk A S (k + 1) e0 : Nat) : Int)) := by show _ = _; show _ = (((pa A S (bk A S k e0)).fr.toNat : Nat) : Int); omega
      rw [HN.out] at a1
      clear hs hfr
      generalize hb0 : bk A S k e0 = v at *
      have HB0 := hide hb0
      clear hb0
      go_wp2_with fail
      go_round
      case rel => exact ⟨k + 1, by omega, rfl, by go_num⟩
      case measure => simp [intOf]; omega
    · have e : k = n := by omega
      subst e
      have hs0 := HR.out.set 0
      have hv0 := HR.out.lt 0
      have hback := HR.out.back
      have hfirst := HR.out.first
      have hpos := HR.out.pos
      have hle := HR.out.le
      have HSB := hide HR.out.set
      have HLB := hide HR.out.lt
      have HBK := hide hback
      have HFI := hide hfirst
      clear HR HSET HLT hback hfirst
      rw [HBB.out]
      have hs0 : S.s b = true := hs0
      have hv0 : b < k := hv0
      obtain ⟨a0, a1, a2, a3, a4⟩ := HW.out.arcAt hs0 hv0
      have HX0 : Hid (pa A S (bk A S 0 b) = pa A S b) := rfl
      have HF0 := hide (HP.out _ hs0)
      have HRA := hide (row_arc (pa A S b))
      have HRL1 := hide (ringL_succ A S b 0)
      rw [HX0.out] at HRL1
      generalize pa A S b = x at *
      obtain ⟨xnm, xfr, xto, xrs, xco⟩ := x
      dsimp only at a0 a1 a2 a3 a4 HRA HRL1 HF0
      clear hs0
      have HV0 := hide (World.rowIs_alloc w #[.int .i64 xnm, .int .i64 xfr, .int .i64 xto, .int .i64 xrs, .int .i64 xco] 60 _ HRA.out)
      have HK0 := hide (Keeps.alloc (Keeps.refl w) (.cells #[.int .i64 xnm, .int .i64 xfr, .int .i64 xto, .int .i64 xrs, .int .i64 xco] 60))
      have HO0 := hide (owns_one (w.alloc (.cells #[.int .i64 xnm, .int .i64 xfr, .int .i64 xto, .int .i64 xrs, .int .i64 xco] 60)) xnm (w.heap.size + 1) (by simp))
      have HK1 := hide (Keeps.alloc (Keeps.refl (w.alloc (.cells #[.int .i64 xnm, .int .i64 xfr, .int .i64 xto, .int .i64 xrs, .int .i64 xco] 60))) (.cells #[.int .i64 xnm] 3))
      have HZ1 : Hid ((w.alloc (.cells #[.int .i64 xnm, .int .i64 xfr, .int .i64 xto, .int .i64 xrs, .int .i64 xco] 60)).heap.size = w.heap.size + 1) := by show _ = _; simp
      rw [HZ1.out] at HO0
      go_wp2_with fail
      generalize w.alloc (.cells #[.int .i64 xnm, .int .i64 xfr, .int .i64 xto, .int .i64 xrs, .int .i64 xco] 60) = W1 at *
      generalize W1.alloc (.cells #[.int .i64 xnm] 3) = W2 at *
      have HWl := hide (show wb < w.heap.size ∧ D < w.heap.size ∧ La < w.heap.size from ⟨lt_of_cell HW.out.c0, HW.out.rd.lt, HW.out.rl.lt⟩)
      have HW2 := hide ((HW.out.kept HK0.out).kept HK1.out)
      have HV2 : Hid (W2.rowIs w.heap.size 60 5 (Arc.cell ⟨xnm, xfr, xto, xrs, xco⟩)) := HK1.out.rowK HV0.out
      have HKw := hide (HK0.out.trans HK1.out)
      have HXX : Hid ((⟨xnm, xfr, xto, xrs, xco⟩ : Arc) = pa A S (bk A S 0 b)) := HX0.out.symm
      clear HV0 HK0 HK1 HZ1 HW q1 a0 a1 a2 a3 a4 HX0 HRA HF0
      go_loopw [7] (fun v wr => ∃ i g cap, i + 1 ≤ m ∧ v = .slice (some ⟨g, 0, none⟩) (i + 1) cap ∧ Hid (OwnsI wr (w.heap.size + 1) (.slice (some ⟨g, 0, none⟩) (i + 1) cap) (ringL A S b (i + 1))) ∧ Hid (wr.rowIs w.heap.size 60 5 (pa A S (bk A S i b)).cell) ∧ Hid (WkR wr wb D La k A S) ∧ Hid (Keeps w wr)) (fun v _ => m - lenOf v)
      case atStart => exact ⟨0, _, _, by omega, rfl, by show OwnsI _ _ _ _; rw [HRL1.out]; exact HO0.out, by show World.rowIs _ _ _ _ _; rw [← HXX.out]; exact HV2.out, HW2.out, HKw.out⟩
      case round =>
        obtain ⟨i, g, cap, hi, rfl, HO, HV, HW, HK⟩ := hrel
        clear HO0 HV2 HW2 HKw HXX HRL1
        have hs := HSB.out i
        have hv := HLB.out i
        have c0 := HV.out.cell (i := 0) (by decide)
        have c1 := HV.out.cell (i := 1) (by decide)
        have c2 := HV.out.cell (i := 2) (by decide)
        have c3 := HV.out.cell (i := 3) (by decide)
        have c4 := HV.out.cell (i := 4) (by decide)
        have f0 := HV.out.frozen 0
        have f1 := HV.out.frozen 1
        have f2 := HV.out.frozen 2
        have f3 := HV.out.frozen 3
        have f4 := HV.out.frozen 4
        have hVl := HV.out.lt
        have HN : Hid ((pa A S (bk A S i b)).fr = ((bk A S (i + 1) b : Nat) : Int)) := by
          have := HP.out _ hs
          show _ = _; show _ = (((pa A S (bk A S i b)).fr.toNat : Nat) : Int); omega
        simp only [Arc.cell] at c0 c1 c2 c3 c4
        simp only [if_true, if_false, show ¬ (1 : Nat) = 0 by decide, show ¬ (2 : Nat) = 0 by decide, show ¬ (2 : Nat) = 1 by decide, show ¬ (3 : Nat) = 0 by decide, show ¬ (3 : Nat) = 1 by decide, show ¬ (3 : Nat) = 2 by decide, show ¬ (4 : Nat) = 0 by decide, show ¬ (4 : Nat) = 1 by decide, show ¬ (4 : Nat) = 2 by decide, show ¬ (4 : Nat) = 3 by decide] at c0 c1 c2 c3 c4
        rw [HN.out] at c1
        by_cases hend : i + 1 = m
        · have HE := hide hend
          have hb1 : bk A S (i + 1) b = b := by rw [hend]; exact HBK.out
          rw [hb1] at c1
          clear hb1 hend c0 c2 c3 c4 f0 f1 f2 f3 f4
          have hne : ((b : Int) != (b : Int)) = false := by simp
          go_wp2_with fail
          go_ret
          have ho := HO.out
          rw [HE.out] at ho
          have ho2 : OwnsI wr (w.heap.size + 1) (.slice (some ⟨g, 0, none⟩) (ringL A S b m).length cap) (ringL A S b m) := by rw [ringL_len]; exact ho
          exact ⟨g, cap, by rw [HE.out]; rfl, born_owns ho2 (Nat.le_succ _), HK.out⟩
        · have hne0 : bk A S (i + 1) b ≠ b := HFI.out (i + 1) (by omega) (by omega)
          have hne : (((bk A S (i + 1) b : Nat) : Int) != (b : Int)) = true := by simp; omega
          have hs1 := HSB.out (i + 1)
          have hv1 := HLB.out (i + 1)
          obtain ⟨a0, a1, a2, a3, a4⟩ := HW.out.arcAt hs1 hv1
          have q1 := HW.out.c1
          have HRS := hide (ringL_succ A S b (i + 1))
          obtain ⟨x, hx⟩ : ∃ x, x = pa A S (bk A S (i + 1) b) := ⟨_, rfl⟩
          rw [← hx] at a0 a1 a2 a3 a4 HRS
          have HXE := hide hx
          clear hx
          generalize hbv : bk A S (i + 1) b = v at c1 hne hv1 a0 a1 a2 a3 a4 ⊢
          obtain ⟨xnm, xfr, xto, xrs, xco⟩ := x
          dsimp only at a0 a1 a2 a3 a4 HRS
          clear hs hv hs1 hbv hne0 HN
          obtain ⟨l1, l2, l3⟩ := HWl.out
          go_upto_region 9 with fail
          go_big_region
          have ht : Turn [w.heap.size] wr (((((wr.setCell ⟨w.heap.size, 0, none⟩ (.int .i64 xnm)).setCell ⟨w.heap.size, 1, none⟩ (.int .i64 xfr)).setCell ⟨w.heap.size, 2, none⟩ (.int .i64 xto)).setCell ⟨w.heap.size, 3, none⟩ (.int .i64 xrs)).setCell ⟨w.heap.size, 4, none⟩ (.int .i64 xco)).drew := (((((Turn.set (by simp) _).trans' (Turn.set (by simp) _)).trans' (Turn.set (by simp) _)).trans' (Turn.set (by simp) _)).trans' (Turn.set (by simp) _)).trans' (Turn.of_keeps ((Keeps.refl _).drew) _)
          have HVX := hide ((((Keeps.refl _).drew).rowK (((((HV.out.set 0 (.int .i64 xnm)).set 1 (.int .i64 xfr)).set 2 (.int .i64 xto)).set 3 (.int .i64 xrs)).set 4 (.int .i64 xco))).congr (g := (⟨xnm, xfr, xto, xrs, xco⟩ : Arc).cell) (fun j hj => by
            rcases (show j = 0 ∨ j = 1 ∨ j = 2 ∨ j = 3 ∨ j = 4 by omega) with rfl | rfl | rfl | rfl | rfl <;> rfl))
          replace HW := hide (HW.out.turn ht (by simp; omega) (by simp; omega) (by simp; omega))
          replace HK := hide (ht.keeps HK.out (by simp))
          have HOX : Hid (OwnsI (((((wr.setCell ⟨w.heap.size, 0, none⟩ (.int .i64 xnm)).setCell ⟨w.heap.size, 1, none⟩ (.int .i64 xfr)).setCell ⟨w.heap.size, 2, none⟩ (.int .i64 xto)).setCell ⟨w.heap.size, 3, none⟩ (.int .i64 xrs)).setCell ⟨w.heap.size, 4, none⟩ (.int .i64 xco)).drew (w.heap.size + 1) (.slice (some ⟨g, 0, none⟩) (i + 1) cap) (ringL A S b (i + 1))) := by
            have hgb := (HO.out.lt g rfl).1
            exact owns_turn HO.out (fun j hj => ht.block j (HO.out.lt j hj).2 (by have := (HO.out.lt j hj).1; simp; omega))
          clear ht c0 c1 c2 c3 c4 f0 f1 f2 f3 f4 a0 a1 a2 a3 a4 q1 HO HV
          generalize (((((wr.setCell ⟨w.heap.size, 0, none⟩ (.int .i64 xnm)).setCell ⟨w.heap.size, 1, none⟩ (.int .i64 xfr)).setCell ⟨w.heap.size, 2, none⟩ (.int .i64 xto)).setCell ⟨w.heap.size, 3, none⟩ (.int .i64 xrs)).setCell ⟨w.heap.size, 4, none⟩ (.int .i64 xco)).drew = W5 at *
          have c0 := HVX.out.cell (i := 0) (by decide)
          have hc0 : (⟨xnm, xfr, xto, xrs, xco⟩ : Arc).cell 0 = .int .i64 xnm := rfl
          rw [hc0] at c0
          clear hc0
          have HM2 := hide (its_oneR W5 xnm 3)
          have HO2 := hide (HOX.out.alloc (.cells #[.int .i64 xnm] 3))
          have HK2 := hide (Keeps.alloc (Keeps.refl W5) (.cells #[.int .i64 xnm] 3))
          have HB2 : Hid (w.heap.size + 1 ≤ (W5.alloc (.cells #[.int .i64 xnm] 3)).heap.size) := by show _ ≤ _; have := HVX.out.lt; simp; omega
          go_wp2_with (at_builtin; refine app_its rfl (.tmp 47) (.tmp 50) rfl (w.heap.size + 1) _ (ringL A S b (i + 1)) [xnm] rfl ⟨W5.heap.size, 0, none⟩ 1 rfl HM2.out HO2.out (by rw [ringL_len]; simp; omega) HB2.out ?_; intro v' w' ho hg hnn)
          go_roundw
          case rel =>
            have hgb := (HOX.out.lt g rfl).1
            have htg : Turn [g] W5 w' := (Turn.of_keeps HK2.out _).trans' (Turn.of_grown hg (fun k hk => by cases hk; simp))
            obtain ⟨ho1, ho2⟩ := ho
            rcases ho2 with ⟨_, hz⟩ | ⟨g', cap', cur, e, ho3⟩
            · simp at hz
            · refine ⟨i + 1, g', cap', by omega, by rw [e]; simp [ringL_len], ?_, ?_, HW.out.turn htg (by simp; omega) (by simp; omega) (by simp; omega), htg.keeps HK.out (by simp; omega)⟩
              · show OwnsI _ _ _ _
                rw [HRS.out]
                refine ⟨ho1, .inr ⟨g', cap', cur, by simp [ringL_len], ho3⟩⟩
              · show World.rowIs _ _ _ _ _
                rw [← HXE.out]
                exact HVX.out.of_block (htg.block w.heap.size HVX.out.lt (by simp; omega))
          case measure =>
            rcases ho.2 with ⟨_, hz⟩ | ⟨g', cap', cur, e, ho3⟩
            · simp at hz
            · rw [e]
              simp [lenOf, ringL_len]
              omega
end Go.Proofs.Ytaboogkioehkeaa
