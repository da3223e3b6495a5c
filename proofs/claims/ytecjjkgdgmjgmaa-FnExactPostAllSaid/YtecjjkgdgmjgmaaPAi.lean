/- The program's PostAll. -/
import Derived.Test.YtecjjkgdgmjgmaaImplP
import Derived.Test.YtecjjkgdgmjgmaaPAs
namespace Go.Proofs.Ytecjjkgdgmjgmaa
open Go.RowKit Go.Maps Go.Deep
set_option linter.unusedVariables false

/-- While postings are posted: the journal's block, its map. -/
structure JSt (w : World) (J b n : Nat) (D : DataW Unit) (id : Int) (M : List Ln) (W : World) : Prop where
  row : W.rowIs J 82 2 (jf id b)
  own : OwnsJ W b n D
  rep : Rep D M
  ok : ledgB id M = true
  bJ : w.heap.size ≤ J
  bb : w.heap.size ≤ b
  keeps : Keeps w W
theorem JSt.kept {w : World} {J b n : Nat} {D : DataW Unit} {id : Int} {M : List Ln} {W W' : World} (s : JSt w J b n D id M W) (hk : Keeps W W') : JSt w J b n D id M W' :=
  ⟨Keeps.row hk s.row, World.ownsMap.kept s.own (hk.grownJ (row := none)) (by simp), s.rep, s.ok, s.bJ, s.bb, s.keeps.trans hk⟩
theorem JSt.posted {w : World} {J b n : Nat} {D : DataW Unit} {id pid : Int} {M P : List Ln} {W W' : World} (s : JSt w J b n D id M W) (h : JPosted J b n id pid M P W W') (hz : pcode id M pid P = 0) : ∃ D', JSt w J b (n + P.length) D' pid (addAll M P) W' := by
  obtain ⟨D', ho, hr, hrow⟩ := h.yes ((jcode_p s.ok).trans hz)
  refine ⟨D', hrow, ho, hr, ?_, s.bJ, s.bb, ?_⟩
  · unfold pcode at hz
    split at hz
    · simp at hz
    · split at hz
      · simp at hz
      · split at hz
        · simp at hz
        · rename_i h3
          simpa using h3
  · have k := s.keeps
    have h1 := s.bJ
    have h2 := s.bb
    exact ⟨h.os.trans k.os, h.tape.trans k.tape, h.output.trans k.output, Nat.le_trans k.size h.size, fun i hi => (h.block i (Nat.lt_of_lt_of_le hi k.size) (by omega) (by omega)).trans (k.block i hi)⟩
theorem JSt.not {w : World} {J b n : Nat} {D : DataW Unit} {id pid : Int} {M P : List Ln} {W W' : World} (s : JSt w J b n D id M W) (h : JPosted J b n id pid M P W W') (hz : pcode id M pid P ≠ 0) : JSt w J b n D id M W' :=
  s.kept (h.no (by rw [jcode_p s.ok]; exact hz))
theorem pcode_len {id pid : Int} {M P : List Ln} (hz : pcode id M pid P = 0) : P.length ≤ 8 := by
  unfold pcode at hz
  split at hz
  · simp at hz
  · rename_i h
    simp at h
    exact (post_all h.2).2.2.2.1
set_option maxRecDepth 100000 in
set_option maxHeartbeats 8000000 in
theorem postall_impl (id : Int) (a pa : Option Addr) (cap pc : Nat) (L : List Ln) (ds : List Pg) (w : World) (hc : Cells w a (flat L)) (hp : Cells w pa (pcells ds)) (hm : Mem w (ds.map Pg.seg)) (hl : L.length ≤ 1048576) (hld : ds.length ≤ 1048576) (ht : ∀ x ∈ ds, x.b.L.length ≤ 1048576) :
    Calls Try.prog 32 #[.agg #[.int .i64 id, .slice a L.length cap], .slice pa ds.length pc] w fun e w' => PostO (aid id L (ds.map Pg.key)) (aL id L (ds.map Pg.key)) (acode id L (ds.map Pg.key)) w w' e ∧ Keeps w w' := by
  have HKA := hide (Keeps.alloc (Keeps.alloc (Keeps.refl w) (.cells #[.int .i64 id, .slice a L.length cap] 25)) (.cells #[.int .i64 0, .slice none 0 0] 25))
  have HD : Hid (∀ w', Keeps ((w.alloc (.cells #[.int .i64 id, .slice a L.length cap] 25)).alloc (.cells #[.int .i64 0, .slice none 0 0] 25)) w' → w'.cell? ⟨w.heap.size, 0, none⟩ = some (.int .i64 id) ∧ w'.cell? ⟨w.heap.size, 1, none⟩ = some (.slice a L.length cap)) :=
    fun w' hk => ⟨hk.cell ((Keeps.alloc (Keeps.refl _) _).cell (by simp)), hk.cell ((Keeps.alloc (Keeps.refl _) _).cell (by simp))⟩
  have r0 := World.rowIs_alloc (w.alloc (.cells #[.int .i64 id, .slice a L.length cap] 25)) #[.int .i64 0, .slice none 0 0] 25 _ (two_row' _ _)
  simp only [World.size_alloc] at r0
  have HR0 := hide r0
  have HC := hide hc
  have HP := hide hp
  have HM := hide hm
  have HT := hide ht
  have HS := hide (fun w1 (hk : Keeps w w1) => impl_ledger id a cap L w1 (HC.out.kept hk) hl)
  clear hc hp hm ht r0
  cases hb : ledgB id L
  · rw [hb] at HS
    have HV : Hid (aid id L (ds.map Pg.key) = 0 ∧ aL id L (ds.map Pg.key) = [] ∧ acode id L (ds.map Pg.key) = -1) := by show _ ∧ _; simp [aid, aL, acode, hb]
    clear hb
    go_enter Try.func32, Try.ntmps32
    go_wp2_with fail
    refine (unhide HS _ HKA.out).mono ?_
    rintro e w1 ⟨rfl, hk1⟩
    have HK1 := hide hk1
    clear hk1
    have HRow := hide (Keeps.row HK1.out HR0.out)
    have f0 := HRow.out.frozen 0
    have f1 := HRow.out.frozen 1
    have z0 := HRow.out.cell (i := 0) (by decide)
    have z1 := HRow.out.cell (i := 1) (by decide)
    simp at z0 z1
    go_wp2_with fail
    obtain ⟨o0, o1⟩ := row2_out' HRow.out (.int .i64 0) (.slice none 0 0)
    refine bodyPost_ret (v := .tuple #[.agg #[.int .i64 0, .slice none 0 0], .int .i64 (-1)]) ?_ rfl ⟨by rw [HV.out.1, HV.out.2.1, HV.out.2.2]; exact postO_none, Keeps.setCell (Keeps.setCell (HKA.out.trans HK1.out) (by show _ ≤ _ + 1; omega) _) (by show _ ≤ _ + 1; omega) _⟩
    revert o0 o1
    clear HRow HK1 f0 f1 z0 z1
    generalize World.setCell _ _ _ = W
    intro o0 o1
    simp [results, Try.results32, go_sem, o0, o1]
  · rw [hb] at HS
    have HB := hide hb
    have hll := ledgB_lines hb
    have HLl := hide hll.1
    have h320 := hll.2
    have HJo := hide (fun w1 (hk : Keeps w w1) => jour_impl id a cap L w1 (HC.out.kept hk) (lines_good HLl.out) (lines_mem_range HLl.out))
    clear hb hll
    go_enter Try.func32, Try.ntmps32
    go_wp2_with fail
    refine (unhide HS _ HKA.out).mono ?_
    rintro e w1 ⟨rfl, hk1⟩
    have HK1 := hide hk1
    obtain ⟨d0, d1⟩ := HD.out _ hk1
    have hz1 := hk1.size
    simp only [World.size_alloc] at hz1
    clear hk1 HS
    go_wp2_with fail
    refine (unhide HJo _ (HKA.out.trans HK1.out)).mono ?_
    rintro e w2 ⟨⟨b, D, rfl, hO, hR, hbb⟩, hk2⟩
    have HSt : Hid (JSt w1 w2.heap.size b L.length D id L (w2.alloc (.cells #[.int .i64 id, .map (some b)] 82))) :=
      ⟨World.rowIs_alloc w2 #[.int .i64 id, .map (some b)] 82 (jf id b) (two_row _ _), hO.alloc _, hR, HB.out, hk2.size, hbb, Keeps.alloc hk2 _⟩
    have HRR := hide (Keeps.row HK1.out HR0.out)
    have HK1' := hide (HKA.out.trans HK1.out)
    clear hk2 hO hR hbb HJo d0 d1
    go_wp2_with fail
    generalize w2.heap.size = J at *
    generalize w2.alloc (.cells #[.int .i64 id, .map (some b)] 82) = W2 at *
    go_loopw [7, 18] (fun x y wr => ∃ (k n : Nat) (D : DataW Unit), k ≤ ds.length ∧ n ≤ 320 + 8 * k ∧ x = .int .i64 ((aAll id L ((ds.map Pg.key).take k)).2.2 : Int) ∧ y = .int .i64 (k : Int) ∧ Hid (JSt w1 J b n D (aAll id L ((ds.map Pg.key).take k)).1 (aAll id L ((ds.map Pg.key).take k)).2.1 wr)) (fun _ y _ => ds.length - (intOf y).toNat)
    case atStart => exact ⟨0, L.length, D, by omega, by omega, by simp [aAll], rfl, by show JSt _ _ _ _ _ _ _ _; simpa [aAll] using HSt.out⟩
    case round =>
      obtain ⟨k, n, D', hk, hn, rfl, rfl, HS⟩ := hrel
      clear HSt
      have HKr := hide (HK1'.out.trans HS.out.keeps)
      by_cases hlt : k < ds.length
      · have hnn := (aAll_ok HB.out (ds.map Pg.key) k (by simp; omega)).2
        have HST := hide (aAll_take id L (ds.map Pg.key) k (by simp; omega))
        obtain ⟨pb, off, ea, c0, c1⟩ := cell2P (HP.out.kept HKr.out) k hlt
        have HMk := hide (mem_segP (HM.out.kept HK1'.out) k hlt)
        have HTk := hide (HT.out _ (List.getElem_mem hlt))
        have HKy : Hid ((ds.map Pg.key)[k]'(by simp; omega) = (ds[k].i, ds[k].b.L)) := by show _ = _; simp [Pg.key]
        rw [HKy.out] at HST
        clear HKy
        generalize ds[k] = x at *
        obtain ⟨xi, xa, xc, xL⟩ := x
        unfold Bl.v at c1
        dsimp only at c0 c1 HMk HTk HST
        generalize aAll id L ((ds.map Pg.key).take k) = S at *
        obtain ⟨sid, sL, sn⟩ := S
        dsimp only at HS HST hnn
        have HS1 := hide (HS.out.kept (Keeps.alloc (Keeps.refl wr) (.cells #[.int .i64 xi, .slice xa xL.length xc] 27)))
        have HPo := hide (jpost_impl J b n D' sL xL sid xi xa xc w1 (wr.alloc (.cells #[.int .i64 xi, .slice xa xL.length xc] 27)) HS1.out.row HS1.out.own HS1.out.rep (ledgB_lines HS1.out.ok).1 (by omega) HMk.out HS1.out.keeps HTk.out HS1.out.bJ HS1.out.bb)
        have HJc := hide (jcode_p (pid := xi) (P := xL) HS.out.ok)
        rw [HJc.out] at HPo
        subst ea
        by_cases hz : pcode sid sL xi xL = 0
        · have HZ := hide hz
          have HSn : Hid (aStep (sid, sL, sn) (xi, xL) = (xi, addAll sL xL, sn + 1)) := by show _ = _; simp [aStep, hz]
          rw [HSn.out] at HST
          have h8 := pcode_len hz
          rw [hz] at HPo
          clear hz HSn HJc
          go_wp2_with fail
          refine (unhide HPo).mono ?_
          rintro e w4 ⟨rfl, hpo⟩
          obtain ⟨D'', hs4⟩ := HS1.out.posted hpo HZ.out
          have HS4 := hide hs4
          clear hpo hs4 HPo HS1
          go_wp2_with fail
          go_roundw
          case rel =>
            refine ⟨k + 1, n + xL.length, D'', by omega, by omega, by rw [HST.out]; go_num, by go_num, ?_⟩
            show JSt _ _ _ _ _ _ _ _
            rw [HST.out]
            exact HS4.out
          case measure => simp [intOf]; omega
        · have hz' : (pcode sid sL xi xL == 0) = false := by rw [beq_eq_false_iff_ne]; exact hz
          have HZ := hide hz
          have HSn : Hid (aStep (sid, sL, sn) (xi, xL) = (sid, sL, sn)) := by show _ = _; simp [aStep, hz]
          rw [HSn.out] at HST
          clear hz HSn HJc
          go_wp2_with fail
          refine (unhide HPo).mono ?_
          rintro e w4 ⟨rfl, hpo⟩
          have HS4 := hide (HS1.out.not hpo HZ.out)
          clear hpo HPo HS1
          go_wp2_with fail
          go_roundw
          case rel =>
            refine ⟨k + 1, n, D', by omega, by omega, by rw [HST.out], by go_num, ?_⟩
            show JSt _ _ _ _ _ _ _ _
            rw [HST.out]
            exact HS4.out
          case measure => simp [intOf]; omega
      · have e : k = ds.length := by omega
        subst e
        have HE : Hid (aid id L (ds.map Pg.key) = (aAll id L ((ds.map Pg.key).take ds.length)).1 ∧ aL id L (ds.map Pg.key) = (aAll id L ((ds.map Pg.key).take ds.length)).2.1 ∧ acode id L (ds.map Pg.key) = ((aAll id L ((ds.map Pg.key).take ds.length)).2.2 : Int)) := by
          show _ ∧ _
          rw [List.take_of_length_le (by simp)]
          simp [aid, aL, acode, HB.out]
        generalize aAll id L ((ds.map Pg.key).take ds.length) = S at *
        obtain ⟨sid, sL, sn⟩ := S
        dsimp only at HS HE
        have HLd := hide (ledg_impl J b n D' sL sid wr HS.out.row HS.out.own HS.out.rep (lines_good (ledgB_lines HS.out.ok).1))
        go_wp2_with fail
        refine (unhide HLd).mono ?_
        rintro e w5 ⟨⟨g, cp, rfl, hc5, hg5, hf5⟩, hk5⟩
        have HRow := hide (Keeps.row (HS.out.keeps.trans hk5) HRR.out)
        have HK5 := hide (HKr.out.trans hk5)
        have HC5 := hide hc5
        have HF5 := hide hf5
        have HG5 : Hid (w.heap.size + 1 < g) := by
          have h1 := HS.out.keeps.size
          show _ < _
          omega
        have f0 := HRow.out.frozen 0
        have f1 := HRow.out.frozen 1
        have z0 := HRow.out.cell (i := 0) (by decide)
        have z1 := HRow.out.cell (i := 1) (by decide)
        simp at z0 z1
        clear hk5 hc5 hg5 hf5 HLd
        go_wp2_with fail
        obtain ⟨o0, o1⟩ := row2_out' HRow.out (.int .i64 sid) (.slice (some ⟨g, 0, none⟩) sL.length cp)
        refine bodyPost_ret (v := .tuple #[.agg #[.int .i64 sid, .slice (some ⟨g, 0, none⟩) sL.length cp], .int .i64 (sn : Int)]) ?_ rfl ⟨?_, Keeps.setCell (Keeps.setCell HK5.out (by show _ ≤ _ + 1; omega) _) (by show _ ≤ _ + 1; omega) _⟩
        · revert o0 o1
          clear HRow HK5 f0 f1 z0 z1 HC5 HF5
          generalize World.setCell _ _ _ = W
          intro o0 o1
          simp [results, Try.results32, go_sem, o0, o1]
        · rw [HE.out.1, HE.out.2.1, HE.out.2.2]
          refine ⟨some ⟨g, 0, none⟩, cp, rfl, (fun e => nomatch e), born_at ?_ (by have := HG5.out; omega) (fun j => by rw [World.frozen?_setCell, World.frozen?_setCell]; exact HF5.out j)⟩
          rcases HC5.out with h | ⟨b', off', e', h⟩
          · exact Or.inl h
          · injection e' with e'; injection e' with e1 e2
            subst e1 e2
            refine Or.inr ⟨g, 0, rfl, fun j hj => ?_⟩
            rw [World.cell?_setCell_other _ _ _ _ (by have := HG5.out; simp; try omega), World.cell?_setCell_other _ _ _ _ (by have := HG5.out; simp; try omega)]
            exact h j hj
end Go.Proofs.Ytecjjkgdgmjgmaa
