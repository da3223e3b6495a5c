/- What FnRing draws. -/
import Derived.Test.YtaboogkioehkeaaDu
namespace Go.Proofs.Ytaboogkioehkeaa
open Go.RowKit Go.Deep
set_option linter.unusedVariables false
set_option linter.unusedSimpArgs false
set_option maxRecDepth 10000

set_option maxHeartbeats 4000000 in
theorem draw_ring (a : Option Addr) (len cap : Nat) (w : World) (hr : RowAt w.heap.size w a len) (hl : len ≤ 1048576) :
    Calls Try.prog 19 #[.slice a len cap] w fun e w' => BoRes w w' e ∧ Keeps w w' := by
  have HK0 := hide (Keeps.alloc (Keeps.refl w) (.cells #[.int .i64 0, .slice none 0 0] 25))
  have HR0 := hide (World.rowIs_alloc w #[.int .i64 0, .slice none 0 0] 25 (row2 (.int .i64 0) (.slice none 0 0)) (row2_at _ _))
  have HZ0 : Hid ((w.alloc (.cells #[.int .i64 0, .slice none 0 0] 25)).heap.size = w.heap.size + 1) := by show _ = _; simp
  have HN := hide (new_any a len cap _ (rowAt_kept hr HK0.out) hl)
  clear hr
  go_enter Try.func19, Try.ntmps19
  go_upto_region 1 with fail
  generalize w.alloc (.cells #[.int .i64 0, .slice none 0 0] 25) = W0 at *
  have HR0 : Hid (W0.rowIs w.heap.size 25 2 (row2 (.int .i64 0) (.slice none 0 0))) := HR0.out
  go_wp2_with fail
  refine (unhide HN).mono ?_
  rintro e w1 ⟨rfl, hd, hk⟩
  have HD := hide hd
  have HR1 := hide (hk.rowK HR0.out)
  have HK1 := hide (HK0.out.trans hk)
  have HB1 : Hid (w.heap.size < W0.heap.size ∧ W0.heap.size ≤ w1.heap.size) := ⟨by have := HZ0.out; omega, hk.size⟩
  clear hd hk HN HR0 HK0
  go_wp2_with fail
  refine (both_any HD.out).mono ?_
  rintro e w2 ⟨⟨nn, ea, ec, E, fa, fc, f, rfl, hel, hfl, hme, hnf⟩, hd, ht⟩
  have hB1 := HB1.out
  have HR2 := hide (HR1.out.of_block (ht.block _ HR1.out.lt (by simp; omega)))
  have HK2 : Hid (Keeps w w2) := ht.keeps HK1.out (by simp; omega)
  have HME := hide hme
  have HNF := hide hnf
  clear hd ht HR1 HK1 hme hnf HD
  go_upto_region 3 with fail
  have HK3 := hide (Keeps.alloc (Keeps.refl w2) (.cells #[.int .i64 nn, .slice ea E.length ec] 25))
  have HBX := hide (gr_box ⟨nn, ea, ec, E⟩ w2 25)
  generalize w2.alloc (.cells #[.int .i64 nn, .slice ea E.length ec] 25) = W3 at *
  obtain ⟨q0, q1⟩ := HBX.out
  dsimp only at q0 q1
  have HR3 := hide (HK3.out.rowK HR2.out)
  have r0 := HR3.out.cell (i := 0) (by decide)
  have r1 := HR3.out.cell (i := 1) (by decide)
  have f0 := HR3.out.frozen 0
  have f1 := HR3.out.frozen 1
  have lw := HR2.out.lt
  go_wp2_with fail
  have ht : Turn [w.heap.size] W3 ((W3.setCell ⟨w.heap.size, 0, none⟩ (.int .i64 nn)).setCell ⟨w.heap.size, 1, none⟩ (.slice ea E.length ec)) := (Turn.set (by simp) _).trans' (Turn.set (by simp) _)
  have hr := (HR3.out.set 0 (.int .i64 nn)).set 1 (.slice ea E.length ec)
  have p0 := hr.cell (i := 0) (by decide)
  have p1 := hr.cell (i := 1) (by decide)
  simp only [if_true, if_false, show ¬ (0 : Nat) = 1 by decide] at p0 p1
  have hnF : ∀ b ∈ fp [(ea, egs E), (fa, its f)], w.heap.size < b := fun b hb => by have := HNF.out b hb; omega
  have hmF := (HME.out.kept HK3.out).turn ht (fun b hb hx => by have := hnF b hb; simp at hx; omega)
  have hkF := ht.keeps (HK2.out.trans HK3.out) (by simp)
  refine bodyPost_ret (v := .tuple #[.agg #[.int .i64 nn, .slice ea E.length ec], .slice fa f.length fc]) ?_ rfl ⟨⟨nn, ea, ec, E, fa, fc, f, rfl, hel, hfl, hmF, hnF⟩, hkF⟩
  clear hkF hmF hnF ht hr r0 r1 f0 f1 q0 q1
  revert p0 p1
  generalize World.setCell (World.setCell _ _ _) _ _ = WW
  intro p0 p1
  simp [results, Try.results19, go_sem, p0, p1]
end Go.Proofs.Ytaboogkioehkeaa
