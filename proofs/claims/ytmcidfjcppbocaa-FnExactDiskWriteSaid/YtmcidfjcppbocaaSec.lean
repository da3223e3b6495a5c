/- Sectors: what the laws do with them, and SectorOk, the program's and the model's. -/
import Derived.Test.YtmcidfjcppbocaaApn
import Derived.Test.YtmcidfjcppbocaaDsk
namespace Go.Proofs.Ytmcidfjcppbocaa
open Go.RowKit Go.Deep Go.ChangeShapes Go.WideShapes
set_option linter.unusedVariables false
set_option maxRecDepth 10000

abbrev secV (q e : Int) (a : Option Addr) (len cap : Nat) : Value := .agg #[.int .i64 q, .int .i64 e, .slice a len cap]
/-- Is the sector right? -/
def secB (q e : Int) (len : Nat) : Bool := decide (0 ≤ q) && decide (q < 600) && decide (1 ≤ e) && decide (e ≤ 16000000) && decide (len ≤ 100)
theorem secok_spec (q e : Int) (a : Option Addr) (len cap : Nat) (w : World) (hl : len ≤ 9223372036854775807) : Calls Try.prog 26 #[.agg #[.int .i64 q, .int .i64 e, .slice a len cap]] w fun x w' => x = .returned (.bool (secB q e len)) ∧ Keeps w w' := by
  by_cases h0 : 0 ≤ q
  · by_cases h1 : q < 600
    · by_cases h2 : 1 ≤ e
      · by_cases h3 : e ≤ 16000000
        · by_cases h4 : (len : Int) ≤ 100
          · have H : Hid (secB q e len = true) := by show _ = _; simp only [secB, decide_eq_true h0, decide_eq_true h1, decide_eq_true h2, decide_eq_true h3, decide_eq_true (show len ≤ 100 by omega), Bool.and_self]
            go_enter Try.func26, Try.ntmps26
            go_wp2
            go_ret
            exact ⟨ret_b H.out.symm, Keeps.alloc (Keeps.refl _) _⟩
          · have H : Hid (secB q e len = false) := by show _ = _; simp only [secB]; simp; omega
            go_enter Try.func26, Try.ntmps26
            go_wp2
            go_ret
            exact ⟨ret_b H.out.symm, Keeps.alloc (Keeps.refl _) _⟩
        · have H : Hid (secB q e len = false) := by show _ = _; simp only [secB]; simp; omega
          go_enter Try.func26, Try.ntmps26
          go_wp2
          go_ret
          exact ⟨ret_b H.out.symm, Keeps.alloc (Keeps.refl _) _⟩
      · have H : Hid (secB q e len = false) := by show _ = _; simp only [secB]; simp; omega
        go_enter Try.func26, Try.ntmps26
        go_wp2
        go_ret
        exact ⟨ret_b H.out.symm, Keeps.alloc (Keeps.refl _) _⟩
    · have H : Hid (secB q e len = false) := by show _ = _; simp only [secB]; simp; omega
      go_enter Try.func26, Try.ntmps26
      go_wp2
      go_ret
      exact ⟨ret_b H.out.symm, Keeps.alloc (Keeps.refl _) _⟩
  · have H : Hid (secB q e len = false) := by show _ = _; simp only [secB]; simp; omega
    go_enter Try.func26, Try.ntmps26
    go_wp2
    go_ret
    exact ⟨ret_b H.out.symm, Keeps.alloc (Keeps.refl _) _⟩
theorem secok_impl (q e : Int) (a : Option Addr) (len cap : Nat) (w : World) (hl : len ≤ 9223372036854775807) : Calls Try.prog 28 #[.agg #[.int .i64 q, .int .i64 e, .slice a len cap]] w fun x w' => x = .returned (.bool (secB q e len)) ∧ Keeps w w' := by
  by_cases h0 : 0 ≤ q
  · by_cases h1 : q < 600
    · by_cases h2 : 1 ≤ e
      · by_cases h3 : e ≤ 16000000
        · by_cases h4 : (len : Int) ≤ 100
          · have H : Hid (secB q e len = true) := by show _ = _; simp only [secB, decide_eq_true h0, decide_eq_true h1, decide_eq_true h2, decide_eq_true h3, decide_eq_true (show len ≤ 100 by omega), Bool.and_self]
            go_enter Try.func28, Try.ntmps28
            go_wp2
            go_ret
            exact ⟨ret_b H.out.symm, Keeps.alloc (Keeps.refl _) _⟩
          · have H : Hid (secB q e len = false) := by show _ = _; simp only [secB]; simp; omega
            go_enter Try.func28, Try.ntmps28
            go_wp2
            go_ret
            exact ⟨ret_b H.out.symm, Keeps.alloc (Keeps.refl _) _⟩
        · have H : Hid (secB q e len = false) := by show _ = _; simp only [secB]; simp; omega
          go_enter Try.func28, Try.ntmps28
          go_wp2
          go_ret
          exact ⟨ret_b H.out.symm, Keeps.alloc (Keeps.refl _) _⟩
      · have H : Hid (secB q e len = false) := by show _ = _; simp only [secB]; simp; omega
        go_enter Try.func28, Try.ntmps28
        go_wp2
        go_ret
        exact ⟨ret_b H.out.symm, Keeps.alloc (Keeps.refl _) _⟩
    · have H : Hid (secB q e len = false) := by show _ = _; simp only [secB]; simp; omega
      go_enter Try.func28, Try.ntmps28
      go_wp2
      go_ret
      exact ⟨ret_b H.out.symm, Keeps.alloc (Keeps.refl _) _⟩
  · have H : Hid (secB q e len = false) := by show _ = _; simp only [secB]; simp; omega
    go_enter Try.func28, Try.ntmps28
    go_wp2
    go_ret
    exact ⟨ret_b H.out.symm, Keeps.alloc (Keeps.refl _) _⟩

theorem szSector_k (q e : Int) (a : Option Addr) (len cap : Nat) (left : Int) (w : World) (h0 : 0 ≤ left) (h1 : left ≤ 1048576) (hl : len ≤ 9223372036854775807) :
    Calls Try.prog 25 #[secV q e a len cap, .int .i64 left] w fun x w' => x = .returned (.int .i64 (if (len : Int) ≤ left then left - len else -1)) ∧ Keeps w w' := by
  have HS := hide (fun w1 => szByteS_k a len cap left w1 h0 h1 hl)
  by_cases h : (len : Int) ≤ left
  · rw [if_pos h] at HS
    have H : Hid ((if (len : Int) ≤ left then left - len else -1) = left - len) := if_pos h
    go_enter Try.func25, Try.ntmps25
    go_wp2_with fail
    refine (unhide HS _).mono ?_
    rintro e w1 ⟨rfl, hw⟩
    subst hw
    go_wp2_with fail
    go_ret
    exact ⟨rfl, Keeps.alloc (Keeps.refl _) _⟩
  · rw [if_neg h] at HS
    have H : Hid ((if (len : Int) ≤ left then left - len else -1) = -1) := if_neg h
    go_enter Try.func25, Try.ntmps25
    go_wp2_with fail
    refine (unhide HS _).mono ?_
    rintro e w1 ⟨rfl, hw⟩
    subst hw
    go_wp2_with fail
    go_ret
    exact ⟨rfl, Keeps.alloc (Keeps.refl _) _⟩

theorem row_new (w : World) (c : Array Value) (t : TypeId) : (w.alloc (.cells c t)).rowIs w.heap.size t c.size (fun i => c.getD i (.int .i64 0)) :=
  World.rowIs_alloc w c t _ (fun i hi => by simp [Array.getD, hi])
theorem Keeps.row {w w' : World} (hk : Keeps w w') {b : Nat} {t : TypeId} {n : Nat} {f : Nat → Value} (h : w.rowIs b t n f) : w'.rowIs b t n f := h.of_block (Below.block hk b h.lt)
set_option maxHeartbeats 1000000 in
theorem toSector_k (q e : Int) (a : Option Addr) (cap : Nat) (L : List UInt8) (w : World) (hc : Cells w a (bys L)) (hl : L.length ≤ 1048576) :
    Calls Try.prog 27 #[secV q e a L.length cap] w fun x w' => ∃ b, x = .returned (secV q e (some ⟨b, 0, none⟩) L.length L.length) ∧ Born w w' [(some ⟨b, 0, none⟩, bys L)] ∧ Keeps w w' := by
  have HC := hide hc
  clear hc
  go_enter Try.func27, Try.ntmps27
  go_wp2_with fail
  have HKA := hide (Keeps.alloc (Keeps.alloc (Keeps.alloc (Keeps.refl w) (.cells #[.int .i64 q, .int .i64 e, .slice a L.length cap] 41)) (.cells #[.int .i64 0, .int .i64 0, .slice none 0 0] 44)) (.cells #[.int .i64 q, .int .i64 e, .slice none 0 0] 44))
  have HR1 := hide ((row_new (w.alloc (.cells #[.int .i64 q, .int .i64 e, .slice a L.length cap] 41)) #[.int .i64 0, .int .i64 0, .slice none 0 0] 44).alloc (.cells #[.int .i64 q, .int .i64 e, .slice none 0 0] 44))
  refine (toByteS_k a cap L _ (HC.out.kept HKA.out) hl).mono ?_
  rintro x w1 ⟨b1, rfl, hb, hk⟩
  have HB := hide hb
  have HK := hide hk
  replace HR1 := hide (hk.row HR1.out)
  have ho := hk.old
  have hf := hk.oldF
  have hz := hk.size
  clear hk hb
  go_wp2_with fail
  have r2 := HR1.out
  simp only [World.size_alloc] at r2
  have r3 := ((((r2.setOther (a := ⟨w.heap.size + 1 + 1, 2, none⟩) (by simp) (.slice (some ⟨b1, 0, none⟩) L.length L.length)).set 0 (.int .i64 q)).set 1 (.int .i64 e)).set 2 (.slice (some ⟨b1, 0, none⟩) L.length L.length))
  have c0 := r3.cell (i := 0) (by decide)
  have c1 := r3.cell (i := 1) (by decide)
  have c2 := r3.cell (i := 2) (by decide)
  simp at c0 c1 c2
  have HS : Hid (Turn [w.heap.size + 1, w.heap.size + 1 + 1] w1 ((((w1.setCell ⟨w.heap.size + 1 + 1, 2, none⟩ (.slice (some ⟨b1, 0, none⟩) L.length L.length)).setCell ⟨w.heap.size + 1, 0, none⟩ (.int .i64 q)).setCell ⟨w.heap.size + 1, 1, none⟩ (.int .i64 e)).setCell ⟨w.heap.size + 1, 2, none⟩ (.slice (some ⟨b1, 0, none⟩) L.length L.length))) :=
    ((((Turn.set (by simp) _).trans' (Turn.set (by simp) _)).trans' (Turn.set (by simp) _)).trans' (Turn.set (by simp) _))
  clear r2 r3 HR1 hz ho hf
  revert c0 c1 c2 HS
  generalize World.setCell _ _ _ = W
  intro c0 c1 c2 HS
  refine bodyPost_ret (v := secV q e (some ⟨b1, 0, none⟩) L.length L.length) ?_ rfl ⟨b1, rfl, ?_, ?_⟩
  · simp [results, Try.results27, go_sem, c0, c1, c2]
  · refine (HB.out.turn HS.out ?_).old HKA.out
    intro b hb hx
    have := HB.out.new b hb
    simp at this hx
    omega
  · refine HS.out.keeps (HKA.out.trans HK.out) ?_
    intro b hb
    simp at hb
    omega

theorem eqBytes_k (a a' : Option Addr) (cap cap' : Nat) (L : List UInt8) (w : World) (hc : Cells w a (bys L)) (hc' : Cells w a' (bys L)) (hl : L.length ≤ 16777216) :
    Calls Try.prog 22 #[.slice a L.length cap, .slice a' L.length cap'] w fun e w' => e = .returned (.bool true) ∧ Keeps w w' := by
  have h := eqByteS_k a a' cap cap' L L w hc hc' hl hl
  rw [decide_eq_true rfl] at h
  exact h
theorem eqSector_k (q e : Int) (a a' : Option Addr) (cap cap' : Nat) (L : List UInt8) (w : World) (hc : Cells w a (bys L)) (hc' : Cells w a' (bys L)) (hl : L.length ≤ 16777216) :
    Calls Try.prog 29 #[secV q e a L.length cap, secV q e a' L.length cap'] w fun x w' => x = .returned (.bool true) ∧ Keeps w w' := by
  have HKA := hide (Keeps.alloc (Keeps.alloc (Keeps.refl w) (.cells #[.int .i64 q, .int .i64 e, .slice a L.length cap] 44)) (.cells #[.int .i64 q, .int .i64 e, .slice a' L.length cap'] 44))
  have HQ := hide (eqBytes_k a a' cap cap' L _ (hc.kept HKA.out) (hc'.kept HKA.out) hl)
  clear hc hc' hl
  go_enter Try.func29, Try.ntmps29
  go_wp2_with fail
  refine (unhide HQ).mono ?_
  rintro x w1 ⟨rfl, hk⟩
  replace HKA := hide (HKA.out.trans hk)
  clear hk
  go_wp2_with fail
  go_ret
  exact ⟨rfl, HKA.out⟩
theorem markSector_k (q e : Int) (a : Option Addr) (cap : Nat) (L : List UInt8) (n : Nat) (w : World) (h : Own w [(a, bys L)]) (hl : L.length ≤ 16777216) (hn : n ≤ 1000000000000) :
    Calls Try.prog 32 #[secV q e a L.length cap, .int .i64 (n : Int)] w fun x w' => x = .returned (.int .i64 ((n + L.length : Nat) : Int)) ∧ Own w' [(a, bys (marksB n L.length))] ∧ Turn (fp [(a, bys L)]) w w' := by
  have HKA := hide (Keeps.alloc (Keeps.refl w) (.cells #[.int .i64 q, .int .i64 e, .slice a L.length cap] 44))
  have HM := hide (markByteS_k a cap L n _ (h.kept HKA.out) hl hn)
  clear h
  go_enter Try.func32, Try.ntmps32
  go_wp2_with fail
  refine (unhide HM).mono ?_
  rintro x w1 ⟨rfl, ho, ht⟩
  have HO := hide ho
  have HT := hide ((Turn.of_keeps HKA.out (fp [(a, bys L)])).trans' ht)
  clear ho ht
  go_wp2_with fail
  go_ret
  exact ⟨rfl, HO.out, HT.out⟩
section
variable {H : Type} {enc : TypeId × Value → H} {W : World} {base : Nat} {sp : Nat → Bool} {hd : Bool} {v : Value} {d : DataW H} {ps : List MemPlace}
theorem sector_row {b0 : Nat} (hv : Value.okWide Try.prog W .any b0 41 v) (h : DataW.Trod enc Try.prog W base sp hd 41 v d ps) :
    ∃ (q e : Int) (a : Option Addr) (cap : Nat) (L : List UInt8), v = secV q e a L.length cap ∧ (Lit.int .i64 q).wf = true ∧ (Lit.int .i64 e).wf = true ∧ Cells W a (bys L) ∧ (a = none → cap = 0) ∧ L.length ≤ 9223372036854775807 := by
  have hs : Try.prog.cellsOf 41 = 3 := by kernel_rfl
  obtain ⟨cs, rfl, hz⟩ := okWide_struct Try.underlying41 hv
  obtain ⟨m, h⟩ := h
  obtain ⟨y0, y1, y2, n, _, hl, h0, h1, h2⟩ := trod_struct3 Try.underlying41 h
  rw [hs] at hz
  match cs, hz with
  | ⟨[v0, v1, v2]⟩, _ =>
    simp [Value.cells, cellsInt, cellsBytes] at h0 h1 h2
    obtain ⟨q, e0, _, hw0⟩ := DataW.trod_int Try.underlying3 h0
    obtain ⟨e, e1, _, hw1⟩ := DataW.trod_int Try.underlying3 h1
    obtain ⟨b, e2, hc, ho⟩ := open_bytes h2
    simp at e0 e1
    exact ⟨q, e, b.a, b.cap, b.L, by rw [e0, e1, e2]; rfl, hw0, hw1, hc, ho.1, ho.2⟩
end
end Go.Proofs.Ytmcidfjcppbocaa
