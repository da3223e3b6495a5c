/- The model's draws of any ledger: l02AnyLedger. -/
import Derived.Test.YtecjjkgdgmjgmaaDrO
namespace Go.Proofs.Ytecjjkgdgmjgmaa
open Go.RowKit Go.Deep
set_option linter.unusedVariables false
set_option linter.unusedSimpArgs false
theorem led_done {w W : World} {B0 B Lb : Nat} {a : Option Addr} {len cap : Nat} {id : Int} {av : Option Addr} {cv : Nat} {M : List Ln} (hL : LSt (w.heap.size + 1) Lb id av cv M W) (hm : M.length ≤ 320) (hS : Dr B0 B a len cap W) (hG : w.grownBy W (some B)) (hB : B < w.heap.size) (hB0 : B0 ≤ B) :
    IsLedger w ((W.setCell ⟨w.heap.size, 0, none⟩ (.int .i64 id)).setCell ⟨w.heap.size, 1, none⟩ (.slice av M.length cv)) (.returned (.agg #[.int .i64 id, .slice av M.length cv])) ∧ Dr B0 B a len cap ((W.setCell ⟨w.heap.size, 0, none⟩ (.int .i64 id)).setCell ⟨w.heap.size, 1, none⟩ (.slice av M.length cv)) ∧ w.grownBy ((W.setCell ⟨w.heap.size, 0, none⟩ (.int .i64 id)).setCell ⟨w.heap.size, 1, none⟩ (.slice av M.length cv)) (some B) := by
  have ht : Turn [w.heap.size] W ((W.setCell ⟨w.heap.size, 0, none⟩ (.int .i64 id)).setCell ⟨w.heap.size, 1, none⟩ (.slice av M.length cv)) := (Turn.set (by simp) _).trans' (Turn.set (by simp) _)
  have hBn : Born w ((W.setCell ⟨w.heap.size, 0, none⟩ (.int .i64 id)).setCell ⟨w.heap.size, 1, none⟩ (.slice av M.length cv)) [(av, flat M)] :=
    ⟨hL.own.turn ht (fun b hb hx => by have h1 := (hL.far b hb).1; have h2 : b = w.heap.size := (by simpa using hx); omega), fun b hb => by have := (hL.far b hb).1; omega⟩
  exact ⟨⟨id, av, cv, M, hm, rfl, hL.nil, hBn, hL.fit⟩, (hS.setL (by omega) (by omega) _).setL (by omega) (by omega) _, grown_new (grown_new hG (Nat.le_refl _)) (Nat.le_refl _)⟩
theorem LSt.last {W : World} {base Lb : Nat} {id : Int} {a : Option Addr} {cap : Nat} {M : List Ln} (s : LSt base Lb id a cap M W) (n : Int) : LSt base Lb n a cap M (W.setCell ⟨Lb, 0, none⟩ (.int .i64 n)) :=
  ⟨(s.row.set 0 (.int .i64 n)).congr (fun i hi => by match i, hi with | 0, _ => simp | 1, _ => simp), s.own.turn (Turn.set (fs := [Lb]) (by simp) _) (fun b hb hx => (s.far b hb).2 (by simpa using hx)), s.far, s.nil, s.new, s.fit⟩
theorem fp_take {p : Option Addr} {L L' : List Ln} (h : L'.length ≤ L.length) : ∀ b ∈ fp [(p, flat L')], b ∈ fp [(p, flat L)] := fun b hb => by
  rw [fp_one] at hb ⊢
  unfold fpS at hb ⊢
  by_cases h0 : flat L' = []
  · simp [h0] at hb
  · have h1 : flat L ≠ [] := fun h2 => h0 (by have e := flat_nil.1 h2; rw [e] at h; exact flat_nil.2 (List.length_eq_zero_iff.1 (by simpa using h)))
    simp only [h0, h1, if_false] at hb ⊢
    exact hb
theorem Turn.grownTo {w w' W : World} {fs : List Nat} {B : Nat} (hG : w.grownBy W (some B)) (ht : Turn fs W w') (hf : ∀ b ∈ fs, b = B ∨ w.heap.size ≤ b) : w.grownBy w' (some B) :=
  ⟨ht.os.trans hG.os, ht.tape.trans hG.tape, ht.output.trans hG.output, Nat.le_trans hG.size ht.size, fun k hk hne => (ht.block k (Nat.lt_of_lt_of_le hk hG.size) (fun hx => by rcases hf k hx with h | h; exact hne (by rw [h]); omega)).trans (hG.block k hk hne)⟩
set_option maxRecDepth 100000 in
set_option maxHeartbeats 8000000 in
theorem anyledger_any {B0 B : Nat} {a : Option Addr} {len cap : Nat} {w : World} (s : Dr B0 B a len cap w) :
    Calls Try.prog 36 #[.pointer (some ⟨B, 0, none⟩)] w fun e w' => IsLedger w w' e ∧ Dr B0 B a len cap w' ∧ w.grownBy w' (some B) := by
  have hB := s.lt
  have hB0 := s.le
  have HS0 := hide (s.grown (World.grownBy_alloc w (.cells #[.int .i64 0, .slice none 0 0] 25) none) (by simp) (by simp))
  have HG0 := hide (grown_alloc (grown_refl w (some B)) (.cells #[.int .i64 0, .slice none 0 0] 25))
  have HR0 := hide (row_zero w (.int .i64 0) (.slice none 0 0) 25)
  clear s
  go_enter Try.func36, Try.ntmps36
  go_wp2_with fail
  refine (ledger_any HS0.out).mono ?_
  rintro e w1 ⟨⟨id, av, cv, M, hm, rfl, hn, hb, hcv⟩, s1, g1⟩
  have hz1 : w.heap.size < w1.heap.size := by have := g1.size; simp at this; omega
  have HA := hide (Keeps.alloc (Keeps.refl w1) (.cells #[.int .i64 id, .slice av M.length cv] 25))
  have HL1 : Hid (LSt (w.heap.size + 1) w1.heap.size id av cv M (w1.alloc (.cells #[.int .i64 id, .slice av M.length cv] 25))) :=
    ⟨row_zero w1 (.int .i64 id) (.slice av M.length cv) 25, hb.toOwn.kept HA.out, fun b hb' => by have h1 := hb.new b hb'; have h2 := hb.mem.lt b hb'; simp at h1; omega, hn, by omega, hcv⟩
  have HS1 := hide (s1.grown (row := none) (HA.out.grows none) (by simp) (by simp))
  have HG1 := hide ((HG0.out.trans g1).trans (HA.out.grows (some B)))
  have HR1 := hide (Keeps.row HA.out (grown_row g1 (by intro e; injection e with e; omega) HR0.out))
  clear s1 g1 hb hn hcv HS0 HG0 HR0
  go_wp2_with fail
  generalize w1.heap.size = Lb at *
  generalize w1.alloc (.cells #[.int .i64 id, .slice av M.length cv] 25) = W1 at *
  refine (below_any 10 HS1.out (by omega) (by omega)).mono ?_
  rintro e w2 ⟨⟨k, k0, k10, rfl⟩, s2, g2⟩
  have HS2 := hide s2
  have HG2 := hide (HG1.out.trans g2)
  have HR2 := hide (grown_row g2 (by intro e; injection e with e; omega) HR1.out)
  have HL2 := hide (HL1.out.grown g2 (by omega))
  have hLb := HL2.out.new
  clear s2 g2 HS1 HG1 HR1 HL1 HA
  by_cases e0 : k = 0
  · subst e0
    go_wp2_with fail
    refine (raw_any HS2.out).mono ?_
    rintro e w3 ⟨⟨n, rfl⟩, s3, g3⟩
    have HL3' := hide (HL2.out.grown g3 (by omega))
    have HL3 := hide (HL3'.out.last n)
    have HS3 := hide (s3.setL (b := Lb) (o := 0) (by omega) (by omega) (.int .i64 n))
    have HG3 := hide (grown_new (b := Lb) (o := 0) (v := .int .i64 n) (HG2.out.trans g3) (by omega))
    have HR3 := hide ((grown_row g3 (by intro e; injection e with e; omega) HR2.out).setOther (a := ⟨Lb, 0, none⟩) (by simp; omega) (.int .i64 n))
    have q0 := HL3'.out.row.cell (i := 0) (by decide)
    have qf0 := HL3'.out.row.frozen 0
    have p0 := HL3.out.row.cell (i := 0) (by decide)
    have p1 := HL3.out.row.cell (i := 1) (by decide)
    simp at q0 p0 p1
    have z0 := HR3.out.cell (i := 0) (by decide)
    have z1 := HR3.out.cell (i := 1) (by decide)
    have zf0 := HR3.out.frozen 0
    have zf1 := HR3.out.frozen 1
    have lR := HR3.out.lt
    simp at z0 z1
    have hne : w.heap.size ≠ Lb := by omega
    clear s3 g3 HL3' HS2 HG2 HR2 HL2
    go_wp2_with fail
    refine bodyPost_ret (v := .agg #[.int .i64 n, .slice av M.length cv]) ?_ rfl (led_done HL3.out (by exact hm) HS3.out HG3.out hB hB0)
    have r9 := row_two HR3.out (.int .i64 n) (.slice av M.length cv)
    have o0 := r9.cell (i := 0) (by decide)
    have o1 := r9.cell (i := 1) (by decide)
    simp only [if_true, Nat.one_ne_zero, if_false] at o0 o1
    clear r9
    revert o0 o1
    generalize World.setCell _ _ _ = W'
    intro o0 o1
    simp [results, Try.results36, go_sem, o0, o1]
  · by_cases e1 : k = 1
    · subst e1
      have q1 := HL2.out.row.cell (i := 1) (by decide)
      simp at q1
      go_wp2_with fail
      refine (any_any av cv M HS2.out HL2.out.own (fun b hb => by have h1 := (HL2.out.far b hb).1; have h2 := HS2.out.le; omega) hm HL2.out.fit).mono ?_
      rintro e w3 ⟨⟨M', hM', rfl, ho3, ht3⟩, s3⟩
      have hfs : ∀ b ∈ B :: fp [(av, flat M)], b = B ∨ w.heap.size + 1 ≤ b := fun b hb => by
        rcases List.mem_cons.1 hb with h | h
        · exact .inl h
        · exact .inr (HL2.out.far b h).1
      have hLn : Lb ∉ B :: fp [(av, flat M)] := fun hx => by
        rcases List.mem_cons.1 hx with h | h
        · omega
        · exact (HL2.out.far Lb h).2 rfl
      have hrow3 : w3.rowIs Lb 25 2 (fun i : Nat => if i = 0 then .int .i64 id else .slice av M.length cv) := HL2.out.row.of_block (ht3.block Lb HL2.out.row.lt hLn)
      have HL3 : Hid (LSt (w.heap.size + 1) Lb id av cv M' (w3.setCell ⟨Lb, 1, none⟩ (.slice av M'.length cv))) :=
        ⟨(hrow3.set 1 (.slice av M'.length cv)).congr (fun i hi => by match i, hi with | 0, _ => simp | 1, _ => simp), ho3.turn (Turn.set (fs := [Lb]) (by simp) _) (fun b hb hx => (HL2.out.far b (fp_take hM' b hb)).2 (by simpa using hx)), fun b hb => HL2.out.far b (fp_take hM' b hb), HL2.out.nil, HL2.out.new, Nat.le_trans hM' HL2.out.fit⟩
      have HS3 := hide (s3.setL (b := Lb) (o := 1) (by omega) (by omega) (.slice av M'.length cv))
      have HG3 := hide (grown_new (b := Lb) (o := 1) (v := .slice av M'.length cv) (Turn.grownTo HG2.out ht3 (fun b hb => by rcases hfs b hb with h | h; exact .inl h; exact .inr (by omega))) (by omega))
      have HR3 := hide ((HR2.out.of_block (ht3.block w.heap.size HR2.out.lt (fun hx => by rcases hfs _ hx with h | h <;> omega))).setOther (a := ⟨Lb, 1, none⟩) (by simp; omega) (.slice av M'.length cv))
      have y1 := hrow3.cell (i := 1) (by decide)
      have yf1 := hrow3.frozen 1
      have p0 := HL3.out.row.cell (i := 0) (by decide)
      have p1 := HL3.out.row.cell (i := 1) (by decide)
      simp at y1 p0 p1
      have z0 := HR3.out.cell (i := 0) (by decide)
      have z1 := HR3.out.cell (i := 1) (by decide)
      have zf0 := HR3.out.frozen 0
      have zf1 := HR3.out.frozen 1
      have lR := HR3.out.lt
      simp at z0 z1
      clear ho3 ht3 s3 hfs hLn hrow3 q1 HS2 HG2 HR2 HL2
      go_wp2_with fail
      refine bodyPost_ret (v := .agg #[.int .i64 id, .slice av M'.length cv]) ?_ rfl (led_done HL3.out (by omega) HS3.out HG3.out hB hB0)
      have r9 := row_two HR3.out (.int .i64 id) (.slice av M'.length cv)
      have o0 := r9.cell (i := 0) (by decide)
      have o1 := r9.cell (i := 1) (by decide)
      simp only [if_true, Nat.one_ne_zero, if_false] at o0 o1
      clear r9
      revert o0 o1
      generalize World.setCell _ _ _ = W'
      intro o0 o1
      simp [results, Try.results36, go_sem, o0, o1]
    · by_cases e2 : k = 2
      · subst e2
        have q0 := HL2.out.row.cell (i := 0) (by decide)
        have q1 := HL2.out.row.cell (i := 1) (by decide)
        have qf0 := HL2.out.row.frozen 0
        have qf1 := HL2.out.row.frozen 1
        have lL := HL2.out.row.lt
        simp at q0 q1
        have z0 := HR2.out.cell (i := 0) (by decide)
        have z1 := HR2.out.cell (i := 1) (by decide)
        have zf0 := HR2.out.frozen 0
        have zf1 := HR2.out.frozen 1
        have lR := HR2.out.lt
        simp at z0 z1
        have kC := Keeps.alloc (Keeps.refl w2) (.cells #[.int .i64 1, .int .i64 0, .int .i64 1125899906842624, .int .i64 2, .int .i64 0, .int .i64 (-1125899906842624)] 35)
        have hown : Own (w2.alloc (.cells #[.int .i64 1, .int .i64 0, .int .i64 1125899906842624, .int .i64 2, .int .i64 0, .int .i64 (-1125899906842624)] 35)) [((some ⟨w2.heap.size, 0, none⟩ : Option Addr), flat [⟨1, 0, 1125899906842624⟩, ⟨2, 0, -1125899906842624⟩])] := (born_alloc w2 #[.int .i64 1, .int .i64 0, .int .i64 1125899906842624, .int .i64 2, .int .i64 0, .int .i64 (-1125899906842624)] 35).toOwn
        have hfn : ∀ b ∈ fp [((some ⟨w2.heap.size, 0, none⟩ : Option Addr), flat [⟨1, 0, 1125899906842624⟩, ⟨2, 0, -1125899906842624⟩])], w.heap.size + 1 ≤ b ∧ b ≠ Lb := fun b hb => by
          have h1 : b = w2.heap.size := by simpa [fp, fpS, flat, Ln.cells] using hb
          omega
        have HL3 := hide ((HL2.out.kept kC).put' (id' := 1) (cap' := 2) hown hfn (fun e => nomatch e) (by simp))
        have HS3 := hide (((HS2.out.grown (row := none) (kC.grows none) (by simp) (by simp)).setL (b := Lb) (o := 0) (by omega) (by omega) (.int .i64 1)).setL (b := Lb) (o := 1) (by omega) (by omega) (.slice (some ⟨w2.heap.size, 0, none⟩) 2 2))
        have HG3 := hide (grown_new (b := Lb) (o := 1) (v := (.slice (some ⟨w2.heap.size, 0, none⟩) 2 2)) (grown_new (b := Lb) (o := 0) (v := .int .i64 1) (HG2.out.trans (kC.grows (some B))) (by omega)) (by omega))
        have HR3 := hide (((Keeps.row kC HR2.out).setOther (a := ⟨Lb, 0, none⟩) (by simp; omega) (.int .i64 1)).setOther (a := ⟨Lb, 1, none⟩) (by simp; omega) (.slice (some ⟨w2.heap.size, 0, none⟩) 2 2))
        clear kC hown hfn
        go_wp2_with fail
        have hfin := led_done HL3.out (by simp) HS3.out HG3.out hB hB0
        simp only [List.length_cons, List.length_nil, Nat.zero_add, Nat.reduceAdd] at hfin
        have e9 : ((((w2.alloc (.cells #[.int .i64 1, .int .i64 0, .int .i64 1125899906842624, .int .i64 2, .int .i64 0, .int .i64 (-1125899906842624)] 35)).setCell ⟨Lb, 0, none⟩ (.int .i64 1)).setCell ⟨Lb, 1, none⟩ (.slice (some ⟨w2.heap.size, 0, none⟩) 2 2)).setCell ⟨w.heap.size, 0, none⟩ (.int .i64 1)).setCell ⟨w.heap.size, 1, none⟩ (.slice (some ⟨w2.heap.size, 0, none⟩) 2 2) = ((((w2.setCell ⟨Lb, 0, none⟩ (.int .i64 1)).setCell ⟨Lb, 1, none⟩ (.slice (some ⟨w2.heap.size, 0, none⟩) 2 2)).setCell ⟨w.heap.size, 0, none⟩ (.int .i64 1)).setCell ⟨w.heap.size, 1, none⟩ (.slice (some ⟨w2.heap.size, 0, none⟩) 2 2)).alloc (.cells #[.int .i64 1, .int .i64 0, .int .i64 1125899906842624, .int .i64 2, .int .i64 0, .int .i64 (-1125899906842624)] 35) := by
          rw [World.setCell_alloc_past _ _ _ _ lL, World.setCell_alloc_past _ _ _ _ (by simp [World.setCell]; omega), World.setCell_alloc_past _ _ _ _ (by simp [World.setCell]; omega), World.setCell_alloc_past _ _ _ _ (by simp [World.setCell]; omega)]
        have r9 := row_two HR3.out (.int .i64 1) (.slice (some ⟨w2.heap.size, 0, none⟩) 2 2)
        have o0 := r9.cell (i := 0) (by decide)
        have o1 := r9.cell (i := 1) (by decide)
        simp only [if_true, Nat.one_ne_zero, if_false] at o0 o1
        clear r9
        rw [e9] at hfin o0 o1
        refine bodyPost_ret (v := .agg #[.int .i64 1, .slice (some ⟨w2.heap.size, 0, none⟩) 2 2]) ?_ rfl hfin
        clear hfin e9
        revert o0 o1
        generalize World.alloc _ _ = W'
        intro o0 o1
        simp [results, Try.results36, go_sem, o0, o1]
      · have b0 : (k == 0) = false := by rw [beq_eq_false_iff_ne]; exact e0
        have b1 : (k == 1) = false := by rw [beq_eq_false_iff_ne]; exact e1
        have b2 : (k == 2) = false := by rw [beq_eq_false_iff_ne]; exact e2
        have q0 := HL2.out.row.cell (i := 0) (by decide)
        have q1 := HL2.out.row.cell (i := 1) (by decide)
        simp at q0 q1
        have z0 := HR2.out.cell (i := 0) (by decide)
        have z1 := HR2.out.cell (i := 1) (by decide)
        have zf0 := HR2.out.frozen 0
        have zf1 := HR2.out.frozen 1
        have lR := HR2.out.lt
        simp at z0 z1
        clear e0 e1 e2
        go_wp2_with fail
        refine bodyPost_ret (v := .agg #[.int .i64 id, .slice av M.length cv]) ?_ rfl (led_done HL2.out (by exact hm) HS2.out HG2.out hB hB0)
        have r9 := row_two HR2.out (.int .i64 id) (.slice av M.length cv)
        have o0 := r9.cell (i := 0) (by decide)
        have o1 := r9.cell (i := 1) (by decide)
        simp only [if_true, Nat.one_ne_zero, if_false] at o0 o1
        clear r9
        revert o0 o1
        generalize World.setCell _ _ _ = W'
        intro o0 o1
        simp [results, Try.results36, go_sem, o0, o1]
end Go.Proofs.Ytecjjkgdgmjgmaa
