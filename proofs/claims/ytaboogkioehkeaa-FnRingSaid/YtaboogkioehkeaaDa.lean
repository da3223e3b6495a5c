/- The model's draw of any graph. -/
import Derived.Test.YtaboogkioehkeaaDg2
namespace Go.Proofs.Ytaboogkioehkeaa
open Go.RowKit Go.Deep
set_option linter.unusedVariables false
set_option linter.unusedSimpArgs false
set_option maxRecDepth 10000

theorem egs_any : ∀ (E : List Edg) (p : Nat) (z : Int), p < E.length * 4 → ∃ E' : List Edg, E'.length = E.length ∧ (egs E).set p (.int .i64 z) = egs E'
  | [], p, z, h => absurd h (by simp)
  | x :: E, p, z, h => by
    obtain ⟨x0, x1, x2, x3⟩ := x
    by_cases hp : p < 4
    · rcases (show p = 0 ∨ p = 1 ∨ p = 2 ∨ p = 3 by omega) with rfl | rfl | rfl | rfl
      · exact ⟨⟨z, x1, x2, x3⟩ :: E, rfl, rfl⟩
      · exact ⟨⟨x0, z, x2, x3⟩ :: E, rfl, rfl⟩
      · exact ⟨⟨x0, x1, z, x3⟩ :: E, rfl, rfl⟩
      · exact ⟨⟨x0, x1, x2, z⟩ :: E, rfl, rfl⟩
    · obtain ⟨q, rfl⟩ : ∃ q, p = q + 4 := ⟨p - 4, by omega⟩
      obtain ⟨E', h1, h2⟩ := egs_any E q z (by simp at h; omega)
      refine ⟨⟨x0, x1, x2, x3⟩ :: E', by simp [h1], ?_⟩
      show (egs (⟨x0, x1, x2, x3⟩ :: E)).set (q + 4) _ = egs (⟨x0, x1, x2, x3⟩ :: E')
      have e1 : ∀ L : List Edg, egs (⟨x0, x1, x2, x3⟩ :: L) = .int .i64 x0 :: .int .i64 x1 :: .int .i64 x2 :: .int .i64 x3 :: egs L := fun L => rfl
      rw [e1, e1, ← h2]
      rfl
structure AnS (B0 B : Nat) (a : Option Addr) (len cap : Nat) (w wr : World) (G : Nat) (nn : Int) (ea : Option Addr) (ec : Nat) (E : List Edg) : Prop where
  dr : Dr B0 B a len cap wr
  tu : Turn [B] w wr
  gr : wr.rowIs G 25 2 (row2 (.int .i64 nn) (.slice ea E.length ec))
  rs : ∃ f, wr.rowIs w.heap.size 25 2 f
  ow : Own wr [(ea, egs E)]
  nw : ∀ b ∈ fp [(ea, egs E)], w.heap.size < b ∧ b ≠ G
  lt : w.heap.size < G
  nB : B < w.heap.size
  sm : E.length ≤ 12
  en : ea = none → ec = 0
theorem turn_more {w wr w' : World} {B : Nat} {fs : List Nat} (h : Turn [B] w wr) (ht : Turn fs wr w') (hf : ∀ b ∈ fs, w.heap.size ≤ b) : Turn [B] w w' :=
  ⟨ht.os.trans h.os, ht.tape.trans h.tape, ht.output.trans h.output, Nat.le_trans h.size ht.size, fun k hk hn => (ht.block k (Nat.lt_of_lt_of_le hk h.size) (fun hx => by have := hf k hx; omega)).trans (h.block k hk hn)⟩
theorem AnS.turn {B0 B : Nat} {a : Option Addr} {len cap : Nat} {w wr w' : World} {G : Nat} {nn : Int} {ea : Option Addr} {ec : Nat} {E : List Edg} (h : AnS B0 B a len cap w wr G nn ea ec E) (hd : Dr B0 B a len cap w') (ht : Turn [B] wr w') : AnS B0 B a len cap w w' G nn ea ec E := by
  have h1 := h.lt
  have h2 := h.nB
  obtain ⟨f, hf⟩ := h.rs
  exact ⟨hd, h.tu.trans' ht, h.gr.of_block (ht.block G h.gr.lt (by simp; omega)), ⟨f, hf.of_block (ht.block _ hf.lt (by simp; omega))⟩, h.ow.turn ht (fun b hb hx => by have := (h.nw b hb).1; simp at hx; omega), h.nw, h.lt, h.nB, h.sm, h.en⟩
theorem AnS.kept {B0 B : Nat} {a : Option Addr} {len cap : Nat} {w wr w' : World} {G : Nat} {nn : Int} {ea : Option Addr} {ec : Nat} {E : List Edg} (h : AnS B0 B a len cap w wr G nn ea ec E) (hk : Keeps wr w') : AnS B0 B a len cap w w' G nn ea ec E :=
  h.turn (h.dr.turned (Turn.of_keeps hk []) (by simp) (by simp)) (Turn.of_keeps hk _)
theorem AnS.setN {B0 B : Nat} {a : Option Addr} {len cap : Nat} {w wr : World} {G : Nat} {nn : Int} {ea : Option Addr} {ec : Nat} {E : List Edg} (h : AnS B0 B a len cap w wr G nn ea ec E) (z : Int) : AnS B0 B a len cap w (wr.setCell ⟨G, 0, none⟩ (.int .i64 z)) G z ea ec E := by
  have h1 := h.lt
  have h2 := h.nB
  have h3 := h.dr.le
  obtain ⟨f, hf⟩ := h.rs
  have ht : Turn [G] wr (wr.setCell ⟨G, 0, none⟩ (.int .i64 z)) := Turn.set (by simp) _
  refine ⟨h.dr.turned ht (by simp; omega) (by simp; omega), turn_more h.tu ht (by simp; omega), (h.gr.set 0 (.int .i64 z)).congr (fun i hi => ?_), ⟨f, hf.of_block (ht.block _ hf.lt (by simp; omega))⟩, h.ow.turn ht (fun b hb hx => (h.nw b hb).2 (by simpa using hx)), h.nw, h.lt, h.nB, h.sm, h.en⟩
  rcases (show i = 0 ∨ i = 1 by omega) with rfl | rfl <;> rfl
theorem AnS.setE {B0 B : Nat} {a : Option Addr} {len cap : Nat} {w wr : World} {G g off : Nat} {nn : Int} {ec : Nat} {E : List Edg} (h : AnS B0 B a len cap w wr G nn (some ⟨g, off, none⟩) ec E) (p : Nat) (hp : p < E.length * 4) (z : Int) : ∃ E', E'.length = E.length ∧ AnS B0 B a len cap w (wr.setCell ⟨g, off + p, none⟩ (.int .i64 z)) G nn (some ⟨g, off, none⟩) ec E' := by
  obtain ⟨E', h1, h2⟩ := egs_any E p z hp
  have hl := egs_len E
  have hne : egs E ≠ [] := fun e => by rw [e] at hl; simp only [List.length_nil] at hl; omega
  have hfp : fp [(some (⟨g, off, none⟩ : Addr), egs E)] = [g] := by rw [fp_one]; exact fpS_some hne
  have hne' : egs E' ≠ [] := fun e => by have h9 := egs_len E'; rw [e] at h9; simp only [List.length_nil] at h9; omega
  have hfp' : fp [(some (⟨g, off, none⟩ : Addr), egs E')] = [g] := by rw [fp_one]; exact fpS_some hne'
  have hg := h.nw g (by rw [hfp]; simp)
  have h3 := h.lt
  have h4 := h.nB
  have h5 := h.dr.le
  obtain ⟨f, hf⟩ := h.rs
  have ht : Turn [g] wr (wr.setCell ⟨g, off + p, none⟩ (.int .i64 z)) := Turn.set (by simp) _
  refine ⟨E', h1, h.dr.turned ht (by simp; omega) (by simp; omega), turn_more h.tu ht (by simp; omega), ?_, ⟨f, hf.of_block (ht.block _ hf.lt (by simp; omega))⟩, ?_, fun b hb => h.nw b (by rw [hfp'] at hb; rw [hfp]; exact hb), h.lt, h.nB, by have := h.sm; omega, h.en⟩
  · rw [h1]; exact h.gr.of_block (ht.block G h.gr.lt (by simp; omega))
  · rw [← h2]; exact own_set h.ow p (.int .i64 z) (by omega)
theorem AnS.cellE {B0 B : Nat} {a : Option Addr} {len cap : Nat} {w wr : World} {G : Nat} {nn : Int} {ea : Option Addr} {ec : Nat} {E : List Edg} (h : AnS B0 B a len cap w wr G nn ea ec E) (j : Nat) (hj : j < E.length) :
    ∃ g off, ea = some ⟨g, off, none⟩ ∧ w.heap.size < g ∧ g ≠ G ∧ g < wr.heap.size ∧ (∀ o, wr.frozen? ⟨g, o, none⟩ = false) ∧ wr.cell? ⟨g, off + j * 4, none⟩ = some (.int .i64 E[j].fr) ∧ wr.cell? ⟨g, off + j * 4 + 1, none⟩ = some (.int .i64 E[j].to) ∧ wr.cell? ⟨g, off + j * 4 + 2, none⟩ = some (.int .i64 E[j].cp) ∧ wr.cell? ⟨g, off + j * 4 + 3, none⟩ = some (.int .i64 E[j].co) := by
  obtain ⟨g, off, e, c0, c1, c2, c3⟩ := egs_at (h.ow.mem (ea, egs E) (by simp)) j hj
  subst e
  have hl := egs_len E
  have hne : egs E ≠ [] := fun e => by rw [e] at hl; simp only [List.length_nil] at hl; omega
  have hfp : fp [(some (⟨g, off, none⟩ : Addr), egs E)] = [g] := by rw [fp_one]; exact fpS_some hne
  have hg := h.nw g (by rw [hfp]; simp)
  exact ⟨g, off, rfl, hg.1, hg.2, lt_of_cell c0, fun o => h.ow.free g (by rw [hfp]; simp) o, c0, c1, c2, c3⟩
theorem AnS.fin {B0 B : Nat} {a : Option Addr} {len cap : Nat} {w wr V : World} {G : Nat} {nn : Int} {ea : Option Addr} {ec : Nat} {E : List Edg} {f : Nat → Value} (h : AnS B0 B a len cap w wr G nn ea ec E) (hf : wr.rowIs w.heap.size 25 2 f) (hV : V = (wr.setCell ⟨w.heap.size, 0, none⟩ (.int .i64 nn)).setCell ⟨w.heap.size, 1, none⟩ (.slice ea E.length ec)) :
    (V.cell? ⟨w.heap.size, 0, none⟩ = some (.int .i64 nn) ∧ V.cell? ⟨w.heap.size, 1, none⟩ = some (.slice ea E.length ec)) ∧ GrRes w V (.returned (.agg #[.int .i64 nn, .slice ea E.length ec])) ∧ Dr B0 B a len cap V ∧ Turn [B] w V := by
  have h1 := h.lt
  have h2 := h.nB
  have h3 := h.dr.le
  have ht : Turn [w.heap.size] wr ((wr.setCell ⟨w.heap.size, 0, none⟩ (.int .i64 nn)).setCell ⟨w.heap.size, 1, none⟩ (.slice ea E.length ec)) := (Turn.set (by simp) _).trans' (Turn.set (by simp) _)
  have hr := (hf.set 0 (.int .i64 nn)).set 1 (.slice ea E.length ec)
  have p0 := hr.cell (i := 0) (by decide)
  have p1 := hr.cell (i := 1) (by decide)
  simp only [if_true, if_false, show ¬ (0 : Nat) = 1 by decide] at p0 p1
  rw [← hV] at p0 p1 ht
  exact ⟨⟨p0, p1⟩, ⟨nn, ea, ec, E, rfl, h.sm, h.en, h.ow.turn ht (fun b hb hx => by have := (h.nw b hb).1; simp at hx; omega), fun b hb => by have := (h.nw b hb).1; omega⟩, h.dr.turned ht (by simp; omega) (by simp; omega), turn_more h.tu ht (by simp)⟩
set_option maxHeartbeats 16000000 in
theorem anyg_any {B0 B : Nat} {a : Option Addr} {len cap : Nat} {w : World} (s : Dr B0 B a len cap w) :
    Calls Try.prog 35 #[.pointer (some ⟨B, 0, none⟩)] w fun e w' => GrRes w w' e ∧ Dr B0 B a len cap w' ∧ Turn [B] w w' := by
  have hBw := s.lt
  have HK0 := hide (Keeps.alloc (Keeps.refl w) (.cells #[.int .i64 0, .slice none 0 0] 25))
  have HR0 := hide (World.rowIs_alloc w #[.int .i64 0, .slice none 0 0] 25 (row2 (.int .i64 0) (.slice none 0 0)) (row2_at _ _))
  have HZ0 : Hid ((w.alloc (.cells #[.int .i64 0, .slice none 0 0] 25)).heap.size = w.heap.size + 1) := by show _ = _; simp
  have HD := hide (s.turned (Turn.of_keeps HK0.out []) (by simp) (by simp))
  clear s
  go_enter Try.func35, Try.ntmps35
  go_upto_region 1 with fail
  generalize w.alloc (.cells #[.int .i64 0, .slice none 0 0] 25) = W0 at *
  have HR0 : Hid (W0.rowIs w.heap.size 25 2 (row2 (.int .i64 0) (.slice none 0 0))) := HR0.out
  go_wp2_with fail
  refine (graph_any HD.out).mono ?_
  rintro e w1 ⟨⟨nn, ea, ec, E, rfl, hel12, hen, hb⟩, hd, ht⟩
  have HR1 := hide (HR0.out.of_block (ht.block _ HR0.out.lt (by simp; omega)))
  have HT1 : Hid (Turn [B] w w1) := (Turn.of_keeps HK0.out _).trans' ht
  have HBO := hide hb
  have HEN := hide hen
  have HLT := hide hb.toOwn.mem.lt
  replace HD := hide hd
  clear hd ht HR0 HK0 hb hen
  go_upto_region 2 with fail
  have HK1 := hide (Keeps.alloc (Keeps.refl w1) (.cells #[.int .i64 nn, .slice ea E.length ec] 25))
  have HRG := hide (World.rowIs_alloc w1 #[.int .i64 nn, .slice ea E.length ec] 25 (row2 (.int .i64 nn) (.slice ea E.length ec)) (row2_at _ _))
  generalize w1.alloc (.cells #[.int .i64 nn, .slice ea E.length ec] 25) = W2 at *
  have HA : Hid (AnS B0 B a len cap w W2 w1.heap.size nn ea ec E) := ⟨HD.out.turned (Turn.of_keeps HK1.out []) (by simp) (by simp), HT1.out.trans' (Turn.of_keeps HK1.out _), HRG.out, ⟨_, HK1.out.rowK HR1.out⟩, HBO.out.toOwn.kept HK1.out, fun b hb => ⟨by have := HBO.out.new b hb; have := HZ0.out; omega, by have := HLT.out b hb; omega⟩, HR1.out.lt, hBw, hel12, HEN.out⟩
  obtain ⟨G, hG⟩ : ∃ G, G = w1.heap.size := ⟨_, rfl⟩
  rw [← hG] at HA
  rw [← hG]
  clear hG HRG HK1 HR1 HT1 HD HBO HLT HZ0
  go_wp2_with fail
  refine (below_t 12 HA.out.dr (by decide) (by decide)).mono ?_
  rintro e w3 ⟨⟨k, k0, k1, rfl⟩, hd, ht⟩
  replace HA := hide (HA.out.turn hd ht)
  clear hd ht
  have g1 := HA.out.gr.cell (i := 1) (by decide)
  simp only [row2, if_false, show ¬ (1 : Nat) = 0 by decide] at g1
  go_upto_region 4 with fail
  have lG := HA.out.gr.lt
  by_cases hk0 : k = 0
  · subst hk0
    clear g1
    have g0 := HA.out.gr.cell (i := 0) (by decide)
    go_wp2_with fail
    refine (raw_t HA.out.dr).mono ?_
    rintro e w4 ⟨⟨z, rfl⟩, hd, ht⟩
    replace HA := hide (HA.out.turn hd ht)
    clear hd ht g0
    have g0 := HA.out.gr.cell (i := 0) (by decide)
    have fg := HA.out.gr.frozen 0
    have lG := HA.out.gr.lt
    go_upto_region 14 with fail
    replace HA := hide (HA.out.setN z)
    clear g0 fg lG
    generalize w4.setCell ⟨G, 0, none⟩ (.int .i64 z) = WX at *
    have g0 := HA.out.gr.cell (i := 0) (by decide)
    have g1 := HA.out.gr.cell (i := 1) (by decide)
    simp only [row2, if_true, if_false, show ¬ (1 : Nat) = 0 by decide] at g0 g1
    obtain ⟨f, hf⟩ := HA.out.rs
    have r0 := hf.cell (i := 0) (by decide)
    have r1 := hf.cell (i := 1) (by decide)
    have f0 := hf.frozen 0
    have f1 := hf.frozen 1
    have lG := HA.out.gr.lt
    have lw := HA.out.lt
    go_wp2_with fail
    obtain ⟨⟨p0, p1⟩, hres⟩ := HA.out.fin hf rfl
    refine bodyPost_ret (v := .agg #[.int .i64 z, .slice ea E.length ec]) ?_ rfl hres
    clear hres g0 g1 r0 r1 f0 f1
    revert p0 p1
    generalize World.setCell (World.setCell _ _ _) _ _ = WW
    intro p0 p1
    simp [results, Try.results35, go_sem, p0, p1]
  by_cases hel : 0 < E.length
  rotate_left
  · have hE0 : ¬ (0 : Int) < (E.length : Int) := by omega
    clear g1
    rcases (show k = 1 ∨ k = 2 ∨ k = 3 ∨ k = 4 ∨ 5 ≤ k by omega) with rfl | rfl | rfl | rfl | hk5
    · go_upto_region 14 with fail
      have g0 := HA.out.gr.cell (i := 0) (by decide)
      have g1 := HA.out.gr.cell (i := 1) (by decide)
      simp only [row2, if_true, if_false, show ¬ (1 : Nat) = 0 by decide] at g0 g1
      obtain ⟨f, hf⟩ := HA.out.rs
      have r0 := hf.cell (i := 0) (by decide)
      have r1 := hf.cell (i := 1) (by decide)
      have f0 := hf.frozen 0
      have f1 := hf.frozen 1
      have lG := HA.out.gr.lt
      have lw := HA.out.lt
      go_wp2_with fail
      obtain ⟨⟨p0, p1⟩, hres⟩ := HA.out.fin hf rfl
      refine bodyPost_ret (v := .agg #[.int .i64 nn, .slice ea E.length ec]) ?_ rfl hres
      clear hres g0 g1 r0 r1 f0 f1
      revert p0 p1
      generalize World.setCell (World.setCell _ _ _) _ _ = WW
      intro p0 p1
      simp [results, Try.results35, go_sem, p0, p1]
    · go_upto_region 14 with fail
      have g0 := HA.out.gr.cell (i := 0) (by decide)
      have g1 := HA.out.gr.cell (i := 1) (by decide)
      simp only [row2, if_true, if_false, show ¬ (1 : Nat) = 0 by decide] at g0 g1
      obtain ⟨f, hf⟩ := HA.out.rs
      have r0 := hf.cell (i := 0) (by decide)
      have r1 := hf.cell (i := 1) (by decide)
      have f0 := hf.frozen 0
      have f1 := hf.frozen 1
      have lG := HA.out.gr.lt
      have lw := HA.out.lt
      go_wp2_with fail
      obtain ⟨⟨p0, p1⟩, hres⟩ := HA.out.fin hf rfl
      refine bodyPost_ret (v := .agg #[.int .i64 nn, .slice ea E.length ec]) ?_ rfl hres
      clear hres g0 g1 r0 r1 f0 f1
      revert p0 p1
      generalize World.setCell (World.setCell _ _ _) _ _ = WW
      intro p0 p1
      simp [results, Try.results35, go_sem, p0, p1]
    · go_upto_region 14 with fail
      have g0 := HA.out.gr.cell (i := 0) (by decide)
      have g1 := HA.out.gr.cell (i := 1) (by decide)
      simp only [row2, if_true, if_false, show ¬ (1 : Nat) = 0 by decide] at g0 g1
      obtain ⟨f, hf⟩ := HA.out.rs
      have r0 := hf.cell (i := 0) (by decide)
      have r1 := hf.cell (i := 1) (by decide)
      have f0 := hf.frozen 0
      have f1 := hf.frozen 1
      have lG := HA.out.gr.lt
      have lw := HA.out.lt
      go_wp2_with fail
      obtain ⟨⟨p0, p1⟩, hres⟩ := HA.out.fin hf rfl
      refine bodyPost_ret (v := .agg #[.int .i64 nn, .slice ea E.length ec]) ?_ rfl hres
      clear hres g0 g1 r0 r1 f0 f1
      revert p0 p1
      generalize World.setCell (World.setCell _ _ _) _ _ = WW
      intro p0 p1
      simp [results, Try.results35, go_sem, p0, p1]
    · go_upto_region 14 with fail
      have g0 := HA.out.gr.cell (i := 0) (by decide)
      have g1 := HA.out.gr.cell (i := 1) (by decide)
      simp only [row2, if_true, if_false, show ¬ (1 : Nat) = 0 by decide] at g0 g1
      obtain ⟨f, hf⟩ := HA.out.rs
      have r0 := hf.cell (i := 0) (by decide)
      have r1 := hf.cell (i := 1) (by decide)
      have f0 := hf.frozen 0
      have f1 := hf.frozen 1
      have lG := HA.out.gr.lt
      have lw := HA.out.lt
      go_wp2_with fail
      obtain ⟨⟨p0, p1⟩, hres⟩ := HA.out.fin hf rfl
      refine bodyPost_ret (v := .agg #[.int .i64 nn, .slice ea E.length ec]) ?_ rfl hres
      clear hres g0 g1 r0 r1 f0 f1
      revert p0 p1
      generalize World.setCell (World.setCell _ _ _) _ _ = WW
      intro p0 p1
      simp [results, Try.results35, go_sem, p0, p1]
    · have q1 : (k == 0) = false := by simp; omega
      have q2 : (k == 1) = false := by simp; omega
      have q3 : (k == 2) = false := by simp; omega
      have q4 : (k == 3) = false := by simp; omega
      have q5 : (k == 4) = false := by simp; omega
      go_upto_region 14 with fail
      have g0 := HA.out.gr.cell (i := 0) (by decide)
      have g1 := HA.out.gr.cell (i := 1) (by decide)
      simp only [row2, if_true, if_false, show ¬ (1 : Nat) = 0 by decide] at g0 g1
      obtain ⟨f, hf⟩ := HA.out.rs
      have r0 := hf.cell (i := 0) (by decide)
      have r1 := hf.cell (i := 1) (by decide)
      have f0 := hf.frozen 0
      have f1 := hf.frozen 1
      have lG := HA.out.gr.lt
      have lw := HA.out.lt
      go_wp2_with fail
      obtain ⟨⟨p0, p1⟩, hres⟩ := HA.out.fin hf rfl
      refine bodyPost_ret (v := .agg #[.int .i64 nn, .slice ea E.length ec]) ?_ rfl hres
      clear hres g0 g1 r0 r1 f0 f1
      revert p0 p1
      generalize World.setCell (World.setCell _ _ _) _ _ = WW
      intro p0 p1
      simp [results, Try.results35, go_sem, p0, p1]
  have hE1 : (0 : Int) < (E.length : Int) := by omega
  rcases (show k = 1 ∨ k = 2 ∨ k = 3 ∨ k = 4 ∨ 5 ≤ k by omega) with rfl | rfl | rfl | rfl | hk5
  · obtain ⟨g, off, hea, lw, lf, lg, fz, c0, c1, c2, c3⟩ := HA.out.cellE 0 hel
    subst hea
    have fz1 := fz (off + 2)
    simp only [Nat.zero_mul, Nat.add_zero] at c0 c1 c2 c3
    go_upto_region 7 with fail
    go_region_held3 (fun w' => w'.cell? ⟨G, 1, none⟩ = some (.slice (some ⟨g, off, none⟩) E.length ec)) (first | (go_keep; done) | exact g1 | (rw [World.cell?_setCell_other _ _ _ _ (by simp <;> omega)]; assumption))
      (first
        | (go_at_call 55
           refine (raw_t (HA.out.kept ((Keeps.refl w3).drew)).dr).mono ?_
           rintro e w8 ⟨⟨z, rfl⟩, hd, ht⟩
           replace ht := (Turn.of_keeps ((Keeps.refl w3).drew) [B]).trans' ht
           replace HA := hide (HA.out.turn hd ht)
           clear hd ht g1 lG lg lf lw c0 c1 c2 c3 fz fz1
           have g1 := HA.out.gr.cell (i := 1) (by decide)
           simp only [row2, if_false, show ¬ (1 : Nat) = 0 by decide] at g1
           have lG := HA.out.gr.lt
           obtain ⟨gg, ooff, hee, lw, lf, lg, fz, c0, c1, c2, c3⟩ := HA.out.cellE 0 (by omega)
           cases hee
           simp only [Nat.zero_mul, Nat.add_zero] at c0 c1 c2 c3
           have fz1 := fz (off + 2)))
    obtain ⟨E', hE', hA'⟩ := HA.out.setE 2 (by omega) z
    replace HA := hide hA'
    have HEL := hide hE'
    clear hA' hE' g1 lG lg lf lw c0 c1 c2 c3 fz fz1
    generalize w8.setCell ⟨g, off + 2, none⟩ (.int .i64 z) = WX at *
    go_upto_region 14 with fail
    have g0 := HA.out.gr.cell (i := 0) (by decide)
    have g1 := HA.out.gr.cell (i := 1) (by decide)
    simp only [row2, if_true, if_false, show ¬ (1 : Nat) = 0 by decide] at g0 g1
    rw [HEL.out] at g1
    obtain ⟨f, hf⟩ := HA.out.rs
    have r0 := hf.cell (i := 0) (by decide)
    have r1 := hf.cell (i := 1) (by decide)
    have f0 := hf.frozen 0
    have f1 := hf.frozen 1
    have lG := HA.out.gr.lt
    have lw := HA.out.lt
    go_wp2_with fail
    have hfin := HA.out.fin hf rfl
    rw [HEL.out] at hfin
    obtain ⟨⟨p0, p1⟩, hres⟩ := hfin
    refine bodyPost_ret (v := .agg #[.int .i64 nn, .slice (some ⟨g, off, none⟩) E.length ec]) ?_ rfl hres
    clear hres g0 g1 r0 r1 f0 f1
    revert p0 p1
    generalize World.setCell (World.setCell _ _ _) _ _ = WW
    intro p0 p1
    simp [results, Try.results35, go_sem, p0, p1]
  · obtain ⟨g, off, hea, lw, lf, lg, fz, c0, c1, c2, c3⟩ := HA.out.cellE 0 hel
    subst hea
    have fz1 := fz (off + 3)
    simp only [Nat.zero_mul, Nat.add_zero] at c0 c1 c2 c3
    go_upto_region 9 with fail
    go_region_held3 (fun w' => w'.cell? ⟨G, 1, none⟩ = some (.slice (some ⟨g, off, none⟩) E.length ec)) (first | (go_keep; done) | exact g1 | (rw [World.cell?_setCell_other _ _ _ _ (by simp <;> omega)]; assumption))
      (first
        | (go_at_call 55
           refine (raw_t (HA.out.kept ((Keeps.refl w3).drew)).dr).mono ?_
           rintro e w8 ⟨⟨z, rfl⟩, hd, ht⟩
           replace ht := (Turn.of_keeps ((Keeps.refl w3).drew) [B]).trans' ht
           replace HA := hide (HA.out.turn hd ht)
           clear hd ht g1 lG lg lf lw c0 c1 c2 c3 fz fz1
           have g1 := HA.out.gr.cell (i := 1) (by decide)
           simp only [row2, if_false, show ¬ (1 : Nat) = 0 by decide] at g1
           have lG := HA.out.gr.lt
           obtain ⟨gg, ooff, hee, lw, lf, lg, fz, c0, c1, c2, c3⟩ := HA.out.cellE 0 (by omega)
           cases hee
           simp only [Nat.zero_mul, Nat.add_zero] at c0 c1 c2 c3
           have fz1 := fz (off + 3)))
    obtain ⟨E', hE', hA'⟩ := HA.out.setE 3 (by omega) z
    replace HA := hide hA'
    have HEL := hide hE'
    clear hA' hE' g1 lG lg lf lw c0 c1 c2 c3 fz fz1
    generalize w8.setCell ⟨g, off + 3, none⟩ (.int .i64 z) = WX at *
    go_upto_region 14 with fail
    have g0 := HA.out.gr.cell (i := 0) (by decide)
    have g1 := HA.out.gr.cell (i := 1) (by decide)
    simp only [row2, if_true, if_false, show ¬ (1 : Nat) = 0 by decide] at g0 g1
    rw [HEL.out] at g1
    obtain ⟨f, hf⟩ := HA.out.rs
    have r0 := hf.cell (i := 0) (by decide)
    have r1 := hf.cell (i := 1) (by decide)
    have f0 := hf.frozen 0
    have f1 := hf.frozen 1
    have lG := HA.out.gr.lt
    have lw := HA.out.lt
    go_wp2_with fail
    have hfin := HA.out.fin hf rfl
    rw [HEL.out] at hfin
    obtain ⟨⟨p0, p1⟩, hres⟩ := hfin
    refine bodyPost_ret (v := .agg #[.int .i64 nn, .slice (some ⟨g, off, none⟩) E.length ec]) ?_ rfl hres
    clear hres g0 g1 r0 r1 f0 f1
    revert p0 p1
    generalize World.setCell (World.setCell _ _ _) _ _ = WW
    intro p0 p1
    simp [results, Try.results35, go_sem, p0, p1]
  · obtain ⟨m, hm⟩ : ∃ m, E.length = m + 1 := ⟨E.length - 1, by omega⟩
    have hml : m < E.length := by omega
    obtain ⟨g, off, hea, lw, lf, lg, fz, c0, c1, c2, c3⟩ := HA.out.cellE m hml
    subst hea
    have hw1 : IntKind.i64.wrap ((E.length : Int) - 1) = (m : Int) := by rw [IntKind.wrap_i64]; omega
    have fz1 := fz (off + m * 4 + 1)
    have HM := hide hm
    generalize E[m] = x at c0 c1 c2 c3
    clear hm
    go_upto_region 11 with fail
    go_big_region
    obtain ⟨E', hE', hA'⟩ := HA.out.setE (m * 4 + 1) (by omega) x.fr
    rw [← Nat.add_assoc] at hA'
    replace HA := hide (hA'.kept ((Keeps.refl _).drew))
    have HEL := hide hE'
    clear hA' hE' g1 lG lg lf lw c0 c1 c2 c3 fz fz1
    generalize (w3.setCell ⟨g, off + m * 4 + 1, none⟩ (.int .i64 x.fr)).drew = WX at *
    go_upto_region 14 with fail
    have g0 := HA.out.gr.cell (i := 0) (by decide)
    have g1 := HA.out.gr.cell (i := 1) (by decide)
    simp only [row2, if_true, if_false, show ¬ (1 : Nat) = 0 by decide] at g0 g1
    rw [HEL.out] at g1
    obtain ⟨f, hf⟩ := HA.out.rs
    have r0 := hf.cell (i := 0) (by decide)
    have r1 := hf.cell (i := 1) (by decide)
    have f0 := hf.frozen 0
    have f1 := hf.frozen 1
    have lG := HA.out.gr.lt
    have lw := HA.out.lt
    go_wp2_with fail
    have hfin := HA.out.fin hf rfl
    rw [HEL.out] at hfin
    obtain ⟨⟨p0, p1⟩, hres⟩ := hfin
    refine bodyPost_ret (v := .agg #[.int .i64 nn, .slice (some ⟨g, off, none⟩) E.length ec]) ?_ rfl hres
    clear hres g0 g1 r0 r1 f0 f1
    revert p0 p1
    generalize World.setCell (World.setCell _ _ _) _ _ = WW
    intro p0 p1
    simp [results, Try.results35, go_sem, p0, p1]
  · obtain ⟨m, hm⟩ : ∃ m, E.length = m + 1 := ⟨E.length - 1, by omega⟩
    have hml : m < E.length := by omega
    obtain ⟨g, off, hea, lw, lf, lg, fz, c0, c1, c2, c3⟩ := HA.out.cellE m hml
    subst hea
    have hw1 : IntKind.i64.wrap ((E.length : Int) - 1) = (m : Int) := by rw [IntKind.wrap_i64]; omega
    have fz1 := fz (off + m * 4)
    have HM := hide hm
    clear hm
    go_upto_region 13 with fail
    go_region_held3 (fun w' => w'.cell? ⟨G, 1, none⟩ = some (.slice (some ⟨g, off, none⟩) E.length ec)) (first | (go_keep; done) | exact g1 | (rw [World.cell?_setCell_other _ _ _ _ (by simp <;> omega)]; assumption))
      (first
        | (go_at_call 55
           refine (raw_t (HA.out.kept ((Keeps.refl w3).drew)).dr).mono ?_
           rintro e w8 ⟨⟨z, rfl⟩, hd, ht⟩
           replace ht := (Turn.of_keeps ((Keeps.refl w3).drew) [B]).trans' ht
           replace HA := hide (HA.out.turn hd ht)
           clear hd ht g1 lG lg lf lw c0 c1 c2 c3 fz fz1
           have g1 := HA.out.gr.cell (i := 1) (by decide)
           simp only [row2, if_false, show ¬ (1 : Nat) = 0 by decide] at g1
           have lG := HA.out.gr.lt
           obtain ⟨gg, ooff, hee, lw, lf, lg, fz, c0, c1, c2, c3⟩ := HA.out.cellE m (by omega)
           cases hee
           have fz1 := fz (off + m * 4)))
    obtain ⟨E', hE', hA'⟩ := HA.out.setE (m * 4) (by omega) z
    replace HA := hide hA'
    have HEL := hide hE'
    clear hA' hE' g1 lG lg lf lw c0 c1 c2 c3 fz fz1
    generalize w8.setCell ⟨g, off + m * 4, none⟩ (.int .i64 z) = WX at *
    go_upto_region 14 with fail
    have g0 := HA.out.gr.cell (i := 0) (by decide)
    have g1 := HA.out.gr.cell (i := 1) (by decide)
    simp only [row2, if_true, if_false, show ¬ (1 : Nat) = 0 by decide] at g0 g1
    rw [HEL.out] at g1
    obtain ⟨f, hf⟩ := HA.out.rs
    have r0 := hf.cell (i := 0) (by decide)
    have r1 := hf.cell (i := 1) (by decide)
    have f0 := hf.frozen 0
    have f1 := hf.frozen 1
    have lG := HA.out.gr.lt
    have lw := HA.out.lt
    go_wp2_with fail
    have hfin := HA.out.fin hf rfl
    rw [HEL.out] at hfin
    obtain ⟨⟨p0, p1⟩, hres⟩ := hfin
    refine bodyPost_ret (v := .agg #[.int .i64 nn, .slice (some ⟨g, off, none⟩) E.length ec]) ?_ rfl hres
    clear hres g0 g1 r0 r1 f0 f1
    revert p0 p1
    generalize World.setCell (World.setCell _ _ _) _ _ = WW
    intro p0 p1
    simp [results, Try.results35, go_sem, p0, p1]
  · have q1 : (k == 0) = false := by simp; omega
    have q2 : (k == 1) = false := by simp; omega
    have q3 : (k == 2) = false := by simp; omega
    have q4 : (k == 3) = false := by simp; omega
    have q5 : (k == 4) = false := by simp; omega
    clear g1
    go_upto_region 14 with fail
    have g0 := HA.out.gr.cell (i := 0) (by decide)
    have g1 := HA.out.gr.cell (i := 1) (by decide)
    simp only [row2, if_true, if_false, show ¬ (1 : Nat) = 0 by decide] at g0 g1
    obtain ⟨f, hf⟩ := HA.out.rs
    have r0 := hf.cell (i := 0) (by decide)
    have r1 := hf.cell (i := 1) (by decide)
    have f0 := hf.frozen 0
    have f1 := hf.frozen 1
    have lG := HA.out.gr.lt
    have lw := HA.out.lt
    go_wp2_with fail
    obtain ⟨⟨p0, p1⟩, hres⟩ := HA.out.fin hf rfl
    refine bodyPost_ret (v := .agg #[.int .i64 nn, .slice ea E.length ec]) ?_ rfl hres
    clear hres g0 g1 r0 r1 f0 f1
    revert p0 p1
    generalize World.setCell (World.setCell _ _ _) _ _ = WW
    intro p0 p1
    simp [results, Try.results35, go_sem, p0, p1]
end Go.Proofs.Ytaboogkioehkeaa
