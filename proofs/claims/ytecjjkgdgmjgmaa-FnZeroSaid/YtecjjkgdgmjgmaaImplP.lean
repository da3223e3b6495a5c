/- The program's Post. -/
import Derived.Test.YtecjjkgdgmjgmaaLedg2
import Derived.Test.YtecjjkgdgmjgmaaPSp
namespace Go.Proofs.Ytecjjkgdgmjgmaa
open Go.RowKit Go.Maps
set_option linter.unusedVariables false

theorem car_ledg {id pid : Int} {L P : List Ln} (hL : ledgB id L = true) (hP : postB pid P = true) : carB L P = ledgB pid (addAll L P) := by
  obtain ⟨h1, h2, h3, h4, h5⟩ := post_parts hP
  have h := post_iff (id := pid) (by omega) h2 (ledgB_lines hL).1 h5
  rw [Bool.eq_iff_iff, h]
  unfold carB
  rw [List.all_eq_true]
theorem jcode_p {id pid : Int} {L P : List Ln} (hL : ledgB id L = true) : jcode id L pid P = pcode id L pid P := by
  unfold jcode pcode
  cases hP : postB pid P
  · simp
  · simp [hL, car_ledg hL hP]
theorem born_at {w w' : World} {g : Nat} {xs : List Value} (hc : Cells w' (some ⟨g, 0, none⟩) xs) (hg : w.heap.size ≤ g) (hf : ∀ j, w'.frozen? ⟨g, j, none⟩ = false) : Born w w' [(some ⟨g, 0, none⟩, xs)] := by
  refine ⟨⟨?_, ?_, ?_⟩, ?_⟩
  · intro s hs
    rw [List.mem_singleton.1 hs]
    exact hc
  · by_cases h0 : xs = [] <;> simp [fp, fpS, h0]
  · intro b hb
    by_cases h0 : xs = []
    · simp [fp, fpS, h0] at hb
    · simp [fp, fpS, h0] at hb
      subst hb
      exact hf
  · intro b hb
    by_cases h0 : xs = []
    · simp [fp, fpS, h0] at hb
    · simp [fp, fpS, h0] at hb
      omega
set_option maxHeartbeats 4000000 in
theorem post_impl (id pid : Int) (a a' : Option Addr) (cap cap' : Nat) (L P : List Ln) (w : World) (hc : Cells w a (flat L)) (hc' : Cells w a' (flat P)) (hl : L.length ≤ 1048576) (hl' : P.length ≤ 1048576) :
    Calls Try.prog 9 #[.agg #[.int .i64 id, .slice a L.length cap], .agg #[.int .i64 pid, .slice a' P.length cap']] w fun e w' => PostO (pid' id L pid P) (pL id L pid P) (pcode id L pid P) w w' e ∧ Keeps w w' := by
  have HKA := hide (Keeps.alloc (Keeps.alloc (Keeps.alloc (Keeps.refl w) (.cells #[.int .i64 id, .slice a L.length cap] 25)) (.cells #[.int .i64 pid, .slice a' P.length cap'] 27)) (.cells #[.int .i64 0, .slice none 0 0] 25))
  have HD : Hid (∀ w', Keeps (((w.alloc (.cells #[.int .i64 id, .slice a L.length cap] 25)).alloc (.cells #[.int .i64 pid, .slice a' P.length cap'] 27)).alloc (.cells #[.int .i64 0, .slice none 0 0] 25)) w' →
      w'.cell? ⟨w.heap.size, 0, none⟩ = some (.int .i64 id) ∧ w'.cell? ⟨w.heap.size, 1, none⟩ = some (.slice a L.length cap) ∧ w'.cell? ⟨w.heap.size + 1, 0, none⟩ = some (.int .i64 pid) ∧ w'.cell? ⟨w.heap.size + 1, 1, none⟩ = some (.slice a' P.length cap')) :=
    fun w' hk => ⟨hk.cell ((Keeps.alloc (Keeps.refl _) _).cell (by simp)), hk.cell ((Keeps.alloc (Keeps.refl _) _).cell (by simp)), hk.cell ((Keeps.alloc (Keeps.refl _) _).cell (by simp)), hk.cell ((Keeps.alloc (Keeps.refl _) _).cell (by simp))⟩
  have r0 := World.rowIs_alloc ((w.alloc (.cells #[.int .i64 id, .slice a L.length cap] 25)).alloc (.cells #[.int .i64 pid, .slice a' P.length cap'] 27)) #[.int .i64 0, .slice none 0 0] 25 _ (two_row _ _)
  simp only [World.size_alloc] at r0
  have HR0 := hide r0
  have HC := hide hc
  have HC' := hide hc'
  have HS := hide (fun w1 (hk : Keeps w w1) => impl_ledger id a cap L w1 (HC.out.kept hk) hl)
  clear hc hc' r0
  cases hb : ledgB id L
  · rw [hb] at HS
    have HV : Hid (pcode id L pid P = 1) := by show _ = _; simp [pcode, hb]
    clear hb
    go_enter Try.func9, Try.ntmps9
    go_wp2_with fail
    refine (unhide HS _ HKA.out).mono ?_
    rintro e w1 ⟨rfl, hk1⟩
    have HK1 := hide hk1
    have HRow := hide (Keeps.row hk1 HR0.out)
    have f0 := HRow.out.frozen 0
    have f1 := HRow.out.frozen 1
    have z0 := HRow.out.cell (i := 0) (by decide)
    have z1 := HRow.out.cell (i := 1) (by decide)
    simp at z0 z1
    clear hk1
    go_wp2_with fail
    obtain ⟨o0, o1⟩ := row2_out HRow.out (.int .i64 0) (.slice none 0 0)
    refine bodyPost_ret (v := .tuple #[.agg #[.int .i64 0, .slice none 0 0], .int .i64 1]) ?_ rfl ⟨by simp only [pid', pL, HV.out]; exact postO_none, Keeps.setCell (Keeps.setCell (HKA.out.trans HK1.out) (by show _ ≤ _ + 1 + 1; omega) _) (by show _ ≤ _ + 1 + 1; omega) _⟩
    revert o0 o1
    clear HRow HK1 f0 f1 z0 z1
    generalize World.setCell _ _ _ = W
    intro o0 o1
    simp [results, Try.results9, go_sem, o0, o1]
  · rw [hb] at HS
    have hll := ledgB_lines hb
    have HL := hide hll.1
    have HJo := hide (fun w1 (hk : Keeps w w1) => jour_impl id a cap L w1 (HC.out.kept hk) (lines_good HL.out) (lines_mem_range HL.out))
    have HV := hide (jcode_p (pid := pid) (P := P) hb)
    have h320 := hll.2
    clear hll hb
    go_enter Try.func9, Try.ntmps9
    go_wp2_with fail
    refine (unhide HS _ HKA.out).mono ?_
    rintro e w1 ⟨rfl, hk1⟩
    have HK1 := hide hk1
    obtain ⟨d0, d1, d2, d3⟩ := HD.out _ hk1
    clear hk1
    go_wp2_with fail
    refine (unhide HJo _ (HKA.out.trans HK1.out)).mono ?_
    rintro e w2 ⟨⟨b, D, rfl, hO, hR, hbb⟩, hk2⟩
    have HK2 := hide (HK1.out.trans hk2)
    have HO := hide (hO.alloc (.cells #[.int .i64 id, .map (some b)] 82))
    have HRep := hide hR
    have HBB : Hid (w.heap.size + 3 ≤ b) := by
      have := HK1.out.size
      simp at this
      show _ ≤ _
      omega
    have HK3 := hide (Keeps.alloc HK2.out (.cells #[.int .i64 id, .map (some b)] 82))
    have HJ : Hid ((w2.alloc (.cells #[.int .i64 id, .map (some b)] 82)).rowIs w2.heap.size 82 2 (jf id b)) := World.rowIs_alloc w2 #[.int .i64 id, .map (some b)] 82 (jf id b) (two_row _ _)
    have HZ2 : Hid (w.heap.size + 3 ≤ w2.heap.size) := by
      have := HK2.out.size
      simp at this
      exact this
    obtain ⟨g0, g1, g2, g3⟩ := HD.out _ HK2.out
    have hlt0 := lt_of_cell g0
    have hlt1 := lt_of_cell g2
    clear hk2 hO hR hbb d0 d1 d2 d3
    have HPo := hide (jpost_impl w2.heap.size b L.length D L P id pid a' cap' w (w2.alloc (.cells #[.int .i64 id, .map (some b)] 82)) HJ.out HO.out HRep.out HL.out (by omega) HC'.out (HKA.out.trans HK3.out) hl' (by have := HZ2.out; omega) (by have := HBB.out; omega))
    go_wp2_with fail
    refine (unhide HPo).mono ?_
    rintro e w4 ⟨rfl, hpo⟩
    have HPd := hide hpo
    rw [HV.out]
    clear hpo HPo
    have HK4 : Hid (Keeps (((w.alloc (.cells #[.int .i64 id, .slice a L.length cap] 25)).alloc (.cells #[.int .i64 pid, .slice a' P.length cap'] 27)).alloc (.cells #[.int .i64 0, .slice none 0 0] 25)) w4) := by
      have k3 := HK3.out
      have z2 := HZ2.out
      have bb := HBB.out
      exact ⟨HPd.out.os.trans k3.os, HPd.out.tape.trans k3.tape, HPd.out.output.trans k3.output, Nat.le_trans k3.size HPd.out.size, fun i hi => by
        have hi' := hi
        simp at hi'
        exact (HPd.out.block i (by simp; omega) (by omega) (by omega)).trans (k3.block i hi)⟩
    have HRow := hide (Keeps.row HK4.out HR0.out)
    by_cases hz : pcode id L pid P = 0
    · obtain ⟨D', ho', hr', hrow'⟩ := HPd.out.yes (by rw [HV.out]; exact hz)
      have hz' : (pcode id L pid P != 0) = false := by rw [hz]; rfl
      have hgood : Good (addAll L P) := by
        have hpb : postB pid P = true := by
          by_cases h : postB pid P = true
          · exact h
          · simp [pcode, h] at hz
        exact addAll_good (lines_good (post_parts hpb).2.2.2.2).2 (lines_good HL.out)
      have HLd := hide (ledg_impl w2.heap.size b _ D' (addAll L P) pid w4 hrow' ho' hr' hgood)
      have HE : Hid (pid' id L pid P = pid ∧ pL id L pid P = addAll L P) := by show _ ∧ _; simp [pid', pL, hz]
      clear ho' hr' hrow' hgood HPd
      go_wp2_with fail
      refine (unhide HLd).mono ?_
      rintro e w5 ⟨⟨g, cp, rfl, hc5, hg5, hf5⟩, hk5⟩
      have HK5 := hide (HK4.out.trans hk5)
      have HRow5 := hide (Keeps.row hk5 HRow.out)
      have HC5 := hide hc5
      have HF5 := hide hf5
      have HG5 : Hid (w.heap.size + 3 ≤ g) := by
        have := HK4.out.size
        simp at this
        show _ ≤ _
        omega
      have f0 := HRow5.out.frozen 0
      have f1 := HRow5.out.frozen 1
      have z0 := HRow5.out.cell (i := 0) (by decide)
      have z1 := HRow5.out.cell (i := 1) (by decide)
      simp at z0 z1
      clear hk5 hc5 hg5 hf5
      go_wp2_with fail
      obtain ⟨o0, o1⟩ := row2_out HRow5.out (.int .i64 pid) (.slice (some ⟨g, 0, none⟩) (addAll L P).length cp)
      refine bodyPost_ret (v := .tuple #[.agg #[.int .i64 pid, .slice (some ⟨g, 0, none⟩) (addAll L P).length cp], .int .i64 0]) ?_ rfl ⟨?_, Keeps.setCell (Keeps.setCell (HKA.out.trans HK5.out) (by show _ ≤ _ + 1 + 1; omega) _) (by show _ ≤ _ + 1 + 1; omega) _⟩
      · revert o0 o1
        clear HRow HRow5 HK5 f0 f1 z0 z1 HC5 HK4
        generalize World.setCell _ _ _ = W
        intro o0 o1
        simp [results, Try.results9, go_sem, o0, o1]
      · rw [HE.out.1, HE.out.2, hz]
        refine ⟨some ⟨g, 0, none⟩, cp, rfl, (fun e => nomatch e), born_at ?_ (by have := HG5.out; omega) (fun j => by rw [World.frozen?_setCell, World.frozen?_setCell]; exact HF5.out j)⟩
        rcases HC5.out with h | ⟨b', off', e', h⟩
        · exact Or.inl h
        · injection e' with e'; injection e' with e1 e2
          subst e1 e2
          refine Or.inr ⟨g, 0, rfl, fun j hj => ?_⟩
          rw [World.cell?_setCell_other _ _ _ _ (by have := HG5.out; simp; try omega), World.cell?_setCell_other _ _ _ _ (by have := HG5.out; simp; try omega)]
          exact h j hj
    · have hz' : (pcode id L pid P != 0) = true := by rw [bne_iff_ne]; exact hz
      have HE : Hid (pid' id L pid P = 0 ∧ pL id L pid P = []) := by show _ ∧ _; simp [pid', pL, hz]
      have f0 := HRow.out.frozen 0
      have f1 := HRow.out.frozen 1
      have z0 := HRow.out.cell (i := 0) (by decide)
      have z1 := HRow.out.cell (i := 1) (by decide)
      simp at z0 z1
      clear hz HPd
      go_wp2_with fail
      obtain ⟨o0, o1⟩ := row2_out HRow.out (.int .i64 0) (.slice none 0 0)
      refine bodyPost_ret (v := .tuple #[.agg #[.int .i64 0, .slice none 0 0], .int .i64 (pcode id L pid P)]) ?_ rfl ⟨by rw [HE.out.1, HE.out.2]; exact postO_none, Keeps.setCell (Keeps.setCell (HKA.out.trans HK4.out) (by show _ ≤ _ + 1 + 1; omega) _) (by show _ ≤ _ + 1 + 1; omega) _⟩
      revert o0 o1
      clear HRow HK4 f0 f1 z0 z1
      generalize World.setCell _ _ _ = W
      intro o0 o1
      simp [results, Try.results9, go_sem, o0, o1]
end Go.Proofs.Ytecjjkgdgmjgmaa
