/- What the laws draw: a graph, a flow. -/
import Derived.Test.YtaboogkioehkeaaDw
namespace Go.Proofs.Ytaboogkioehkeaa
open Go.RowKit Go.Deep
set_option linter.unusedVariables false
set_option linter.unusedSimpArgs false
set_option maxRecDepth 10000

theorem rowAt_kept {w w' : World} {a : Option Addr} {len : Nat} (h : RowAt w.heap.size w a len) (hk : Keeps w w') : RowAt w'.heap.size w' a len := by
  intro j hj
  obtain ⟨b, off, n, e, hlt, n0, n1, hc⟩ := h j hj
  exact ⟨b, off, n, e, Nat.lt_of_lt_of_le hlt hk.size, n0, n1, hk.cell hc⟩
set_option maxHeartbeats 4000000 in
theorem draw_cheap (a : Option Addr) (len cap : Nat) (w : World) (hr : RowAt w.heap.size w a len) (hl : len ≤ 1048576) :
    Calls Try.prog 11 #[.slice a len cap] w fun e w' => GrRes w w' e ∧ Keeps w w' := by
  have HK0 := hide (Keeps.alloc (Keeps.refl w) (.cells #[.int .i64 0, .slice none 0 0] 25))
  have HR0 := hide (World.rowIs_alloc w #[.int .i64 0, .slice none 0 0] 25 (row2 (.int .i64 0) (.slice none 0 0)) (row2_at _ _))
  have HZ0 : Hid ((w.alloc (.cells #[.int .i64 0, .slice none 0 0] 25)).heap.size = w.heap.size + 1) := by show _ = _; simp
  have HN := hide (new_any a len cap _ (rowAt_kept hr HK0.out) hl)
  clear hr
  go_enter Try.func11, Try.ntmps11
  go_upto_region 1 with fail
  generalize w.alloc (.cells #[.int .i64 0, .slice none 0 0] 25) = W0 at *
  have HR0 : Hid (W0.rowIs w.heap.size 25 2 (row2 (.int .i64 0) (.slice none 0 0))) := HR0.out
  go_wp2_with fail
  refine (unhide HN).mono ?_
  rintro e w1 ⟨rfl, hd, hk⟩
  have HD := hide hd
  have HR1 := hide (hk.rowK HR0.out)
  have HK1 := hide (HK0.out.trans hk)
  have HB1 : Hid (w.heap.size < W0.heap.size ∧ W0.heap.size ≤ w1.heap.size) := ⟨by have := HZ0.out; omega, hk.size⟩
  clear hd hk HN HR0 HK0
  go_wp2_with fail
  refine (anyg_any HD.out).mono ?_
  rintro e w2 ⟨⟨nn, ea, ec, E, rfl, hel, hen, hb⟩, hd, ht⟩
  have hB1 := HB1.out
  have HR2 := hide (HR1.out.of_block (ht.block _ HR1.out.lt (by simp; omega)))
  have HK2 : Hid (Keeps w w2) := ht.keeps HK1.out (by simp; omega)
  have HBO := hide hb
  have HEN := hide hen
  clear hd ht HR1 HK1 hb hen HD
  go_upto_region 3 with fail
  have HK3 := hide (Keeps.alloc (Keeps.refl w2) (.cells #[.int .i64 nn, .slice ea E.length ec] 25))
  have HBX := hide (gr_box ⟨nn, ea, ec, E⟩ w2 25)
  generalize w2.alloc (.cells #[.int .i64 nn, .slice ea E.length ec] 25) = W3 at *
  obtain ⟨q0, q1⟩ := HBX.out
  dsimp only at q0 q1
  have HR3 := hide (HK3.out.rowK HR2.out)
  have r0 := HR3.out.cell (i := 0) (by decide)
  have r1 := HR3.out.cell (i := 1) (by decide)
  have f0 := HR3.out.frozen 0
  have f1 := HR3.out.frozen 1
  have lw := HR2.out.lt
  go_wp2_with fail
  have ht : Turn [w.heap.size] W3 ((W3.setCell ⟨w.heap.size, 0, none⟩ (.int .i64 nn)).setCell ⟨w.heap.size, 1, none⟩ (.slice ea E.length ec)) := (Turn.set (by simp) _).trans' (Turn.set (by simp) _)
  have hr := (HR3.out.set 0 (.int .i64 nn)).set 1 (.slice ea E.length ec)
  have p0 := hr.cell (i := 0) (by decide)
  have p1 := hr.cell (i := 1) (by decide)
  simp only [if_true, if_false, show ¬ (0 : Nat) = 1 by decide] at p0 p1
  have hoF := (HBO.out.toOwn.kept HK3.out).turn ht (fun b hb hx => by have := HBO.out.new b hb; simp at hx; omega)
  have hkF := ht.keeps (HK2.out.trans HK3.out) (by simp)
  refine bodyPost_ret (v := .agg #[.int .i64 nn, .slice ea E.length ec]) ?_ rfl ⟨⟨nn, ea, ec, E, rfl, hel, HEN.out, hoF, fun b hb => by have := HBO.out.new b hb; omega⟩, hkF⟩
  clear hkF hoF ht hr r0 r1 f0 f1 q0 q1
  revert p0 p1
  generalize World.setCell (World.setCell _ _ _) _ _ = WW
  intro p0 p1
  simp [results, Try.results11, go_sem, p0, p1]
set_option maxHeartbeats 4000000 in
theorem make_flow (a : Option Addr) (len cap : Nat) (w : World) (hr : RowAt w.heap.size w a len) (hl : len ≤ 1048576) :
    Calls Try.prog 15 #[.slice a len cap] w fun e w' => FlRes w w' e ∧ Keeps w w' := by
  have HN := hide (new_any a len cap w hr hl)
  clear hr
  go_enter Try.func15, Try.ntmps15
  go_wp2_with fail
  refine (unhide HN).mono ?_
  rintro e w1 ⟨rfl, hd, hk⟩
  have HD := hide hd
  have HK1 := hide hk
  clear hd hk HN
  go_wp2_with fail
  refine (anyg_any HD.out).mono ?_
  rintro e w2 ⟨⟨nn, ea, ec, E, rfl, hel, hen, hb⟩, hd, ht⟩
  have hBl := HD.out.lt
  have HK2 : Hid (Keeps w w2) := ht.keeps HK1.out (by simp)
  have HBO := hide hb
  have HD2 := hide hd
  have HNB : Hid (∀ b ∈ fp [(ea, egs E)], b ∉ [w.heap.size]) := fun b hb' hx => by have := hb.new b hb'; simp at hx; omega
  clear hd ht HK1 hb hen HD
  go_upto_region 3 with fail
  have HK3 := hide (Keeps.alloc (Keeps.refl w2) (.cells #[.int .i64 nn, .slice ea E.length ec] 25))
  have HBX := hide (gr_box ⟨nn, ea, ec, E⟩ w2 25)
  generalize w2.alloc (.cells #[.int .i64 nn, .slice ea E.length ec] 25) = W3 at *
  have HO3 := hide (HBO.out.toOwn.kept HK3.out)
  have HGC := hide (graph_spec ⟨nn, ea, ec, E⟩ W3 HO3.out.mem (by show E.length ≤ 1048576; omega))
  dsimp only [Gf.v] at HGC
  obtain ⟨q0, q1⟩ := HBX.out
  dsimp only at q0 q1
  go_wp2_with fail
  refine (unhide HGC).mono ?_
  rintro e w4 ⟨rfl, hk⟩
  have HK4 := hide ((HK2.out.trans HK3.out).trans hk)
  have HO4 := hide (HO3.out.kept hk)
  have HD4 := hide (HD2.out.turned (Turn.of_keeps (HK3.out.trans hk) []) (by simp) (by simp))
  replace HBX := hide (HBX.out.kept hk)
  clear hk HGC q0 q1 HK2 HK3 HO3 HD2
  obtain ⟨q0, q1⟩ := HBX.out
  dsimp only at q0 q1
  cases hgb : graphB nn E
  · clear hgb
    go_wp2_with fail
    go_ret
    exact ⟨⟨none, 0, [], rfl, by simp, fun _ => rfl, born_none _ _⟩, HK4.out⟩
  · clear hgb
    have HFC := hide (flow_any HD4.out nn ea ec E HO4.out.mem HNB.out hel)
    go_wp2_with fail
    refine (unhide HFC).mono ?_
    rintro e w5 ⟨⟨fa, fc, f, rfl, hf, hfn, hb5⟩, hd5, ht5⟩
    have HB5 := hide (hb5.old HK4.out)
    have HK5 : Hid (Keeps w w5) := ht5.keeps HK4.out (by simp)
    have HFN := hide hfn
    clear hb5 hd5 ht5 hfn
    go_wp2_with fail
    go_ret
    exact ⟨⟨fa, fc, f, rfl, hf, HFN.out, HB5.out⟩, HK5.out⟩
end Go.Proofs.Ytaboogkioehkeaa
