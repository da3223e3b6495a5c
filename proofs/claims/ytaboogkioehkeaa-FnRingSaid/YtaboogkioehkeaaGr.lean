/- Graphs: their size, their copy, whether two are the same, marks in them. -/
import Derived.Test.YtaboogkioehkeaaEgM
import Derived.Test.YtaboogkioehkeaaGq
import Derived.Deep.Cut
namespace Go.Proofs.Ytaboogkioehkeaa
open Go.RowKit Go.Deep
set_option linter.unusedVariables false
set_option linter.unusedSimpArgs false
set_option maxRecDepth 10000

set_option maxHeartbeats 2000000 in
theorem szGraph_k (G : Gf) (left : Int) (w : World) (hl : G.E.length ≤ 9223372036854775807) (h0 : 0 ≤ left) (h1 : left ≤ 1048576) :
    Calls Try.prog 22 #[G.v, .int .i64 left] w fun e w' => ∃ r : Int, e = .returned (.int .i64 r) ∧ r ≤ 1048576 ∧ (0 ≤ r → G.len) ∧ Keeps w w' := by
  obtain ⟨nn, ea, ec, E⟩ := G
  have HK := hide (Keeps.alloc (Keeps.refl w) (.cells #[.int .i64 nn, .slice ea E.length ec] 40))
  dsimp only [Gf.v, Gf.len] at *
  have H1 := hide (fun w' => szEdgeS_k ea E.length ec left w' hl h0 h1)
  go_enter Try.func22, Try.ntmps22
  go_wp2_with fail
  refine (unhide H1 _).mono ?_
  rintro e w1 ⟨rfl, rfl⟩
  by_cases q1 : (E.length : Int) ≤ left
  rotate_left
  · rw [if_neg q1]
    go_wp2_with fail
    go_ret
    exact ⟨-1, rfl, by decide, fun h => absurd h (by decide), HK.out⟩
  rw [if_pos q1]
  go_wp2_with fail
  go_ret
  exact ⟨left - E.length, rfl, by omega, fun _ => by omega, HK.out⟩
def row2 (v0 v1 : Value) : Nat → Value := fun i => if i = 0 then v0 else v1
theorem row2_at (v0 v1 : Value) : ∀ i, i < (#[v0, v1] : Array Value).size → (#[v0, v1] : Array Value)[i]? = some (row2 v0 v1 i)
  | 0, _ => rfl
  | 1, _ => rfl
  | n + 2, h => absurd h (by simp)
set_option maxHeartbeats 4000000 in
theorem toGraph_k (G : Gf) (w : World) (hm : Mem w G.segs) (hl : G.len) :
    Calls Try.prog 24 #[G.v] w fun e w' => ∃ b : Nat, e = .returned (.agg #[.int .i64 G.nn, .slice (some ⟨b, 0, none⟩) G.E.length G.E.length]) ∧ Born w w' [(some ⟨b, 0, none⟩, egs G.E)] ∧ Keeps w w' := by
  have HCC := hide (fun w' (hk : Keeps w w') => toEdgeS_k G.ea G.ec G.E w' (Gf.memE (hm.kept hk)) hl)
  obtain ⟨nn, ea, ec, E⟩ := G
  dsimp only [Gf.v, Gf.d] at *
  clear hm hl
  have s1 : (w.alloc (.cells #[.int .i64 nn, .slice ea E.length ec] 40)).heap.size = w.heap.size + 1 := by simp
  have HB := hide (gr_box ⟨nn, ea, ec, E⟩ w 40)
  have HK1 := hide (Keeps.alloc (Keeps.refl w) (.cells #[.int .i64 nn, .slice ea E.length ec] 40))
  go_enter Try.func24, Try.ntmps24
  go_upto_region 3 with fail
  have HR := hide (World.rowIs_alloc (w.alloc (.cells #[.int .i64 nn, .slice ea E.length ec] 40)) #[.int .i64 0, .slice none 0 0] 25 (row2 (.int .i64 0) (.slice none 0 0)) (row2_at _ _))
  have HK2 := hide (Keeps.alloc (Keeps.refl (w.alloc (.cells #[.int .i64 nn, .slice ea E.length ec] 40))) (.cells #[.int .i64 0, .slice none 0 0] 25))
  have HS2 : Hid (((w.alloc (.cells #[.int .i64 nn, .slice ea E.length ec] 40)).alloc (.cells #[.int .i64 0, .slice none 0 0] 25)).heap.size = w.heap.size + 2) := by show _ = _; simp
  rw [s1] at HR
  clear s1
  generalize w.alloc (.cells #[.int .i64 nn, .slice ea E.length ec] 40) = W1 at *
  generalize W1.alloc (.cells #[.int .i64 0, .slice none 0 0] 25) = W2 at *
  have HR3 := hide (World.rowIs_alloc W2 #[.int .i64 nn, .slice none 0 0] 25 (row2 (.int .i64 nn) (.slice none 0 0)) (row2_at _ _))
  have HK3 := hide (Keeps.alloc (Keeps.refl W2) (.cells #[.int .i64 nn, .slice none 0 0] 25))
  have HS3 : Hid ((W2.alloc (.cells #[.int .i64 nn, .slice none 0 0] 25)).heap.size = w.heap.size + 3) := by show _ = _; have := HS2.out; simp [this]
  rw [HS2.out] at HR3
  generalize W2.alloc (.cells #[.int .i64 nn, .slice none 0 0] 25) = W3 at *
  have HR3 : Hid (W3.rowIs (w.heap.size + 1 + 1) 25 2 (row2 (.int .i64 nn) (.slice none 0 0))) := HR3.out
  have HR : Hid (W3.rowIs (w.heap.size + 1) 25 2 (row2 (.int .i64 0) (.slice none 0 0))) := HK3.out.rowK HR.out
  have c1 := ((HB.out.kept HK2.out).kept HK3.out).2
  have HKT := hide ((HK1.out.trans HK2.out).trans HK3.out)
  dsimp only at c1
  clear HB HK1 HK2 HK3 HS2
  have hlt := HR3.out.lt
  go_wp2_with fail
  refine (unhide HCC W3 HKT.out).mono ?_
  rintro e y1 ⟨b1, rfl, hb, hk⟩
  replace HR := hide (hk.rowK HR.out)
  replace HR3 := hide (hk.rowK HR3.out)
  have HKY := hide (HKT.out.trans hk)
  have HOB := hide hb
  clear hb hk c1 hlt HCC
  have d1 := HR3.out.cell (i := 1) (by decide)
  have f1 := HR3.out.frozen 1
  have hlt := HR3.out.lt
  go_upto_region 4 with fail
  have HR3' := hide (HR3.out.set 1 (.slice (some ⟨b1, 0, none⟩) E.length E.length))
  have HR' : Hid ((y1.setCell ⟨w.heap.size + 1 + 1, 1, none⟩ (.slice (some ⟨b1, 0, none⟩) E.length E.length)).rowIs (w.heap.size + 1) 25 2 (row2 (.int .i64 0) (.slice none 0 0))) := HR.out.setOther (by simp) _
  have HKZ := hide (Keeps.setCell HKY.out (p := ⟨w.heap.size + 1 + 1, 1, none⟩) (by show _ ≤ _; simp; omega) (.slice (some ⟨b1, 0, none⟩) E.length E.length))
  have HOZ : Hid (Own (y1.setCell ⟨w.heap.size + 1 + 1, 1, none⟩ (.slice (some ⟨b1, 0, none⟩) E.length E.length)) [(some ⟨b1, 0, none⟩, egs E)]) :=
    HOB.out.toOwn.turn (fs := [w.heap.size + 1 + 1]) (Turn.set (by simp) _) (fun b hb hx => by have := HOB.out.new b hb; have := HS3.out; simp at hx; omega)
  have HNB : Hid (∀ b ∈ fp [(some (⟨b1, 0, none⟩ : Addr), egs E)], w.heap.size + 3 ≤ b) := fun b hb => by have := HOB.out.new b hb; have := HS3.out; omega
  clear d1 f1 hlt HR HR3 HKY HOB HKT HS3
  generalize y1.setCell ⟨w.heap.size + 1 + 1, 1, none⟩ (.slice (some ⟨b1, 0, none⟩) E.length E.length) = x1 at *
  have d0 := HR3'.out.cell (i := 0) (by decide)
  have d1 := HR3'.out.cell (i := 1) (by decide)
  simp [row2] at d0 d1
  have r0 := HR'.out.cell (i := 0) (by decide)
  have r1 := HR'.out.cell (i := 1) (by decide)
  have f0 := HR'.out.frozen 0
  have f1 := HR'.out.frozen 1
  have hlt := HR3'.out.lt
  go_wp2_with fail
  have hr := (HR'.out.set 0 (.int .i64 nn)).set 1 (.slice (some ⟨b1, 0, none⟩) E.length E.length)
  have p0 := hr.cell (i := 0) (by decide)
  have p1 := hr.cell (i := 1) (by decide)
  simp only [if_true, if_false, show ¬ (0 : Nat) = 1 by decide] at p0 p1
  have ht : Turn [w.heap.size + 1] x1 ((x1.setCell ⟨w.heap.size + 1, 0, none⟩ (.int .i64 nn)).setCell ⟨w.heap.size + 1, 1, none⟩ (.slice (some ⟨b1, 0, none⟩) E.length E.length)) := (Turn.set (by simp) _).trans' (Turn.set (by simp) _)
  have ho := HOZ.out.turn ht (fun b hb hx => by have := HNB.out b hb; simp at hx; omega)
  have hkF := ht.keeps HKZ.out (by simp)
  clear ht hr d0 d1 r0 r1 f0 f1 hlt
  refine bodyPost_ret (v := (Gf.mk nn (some ⟨b1, 0, none⟩) E.length E).v) ?_ rfl ⟨b1, rfl, ⟨ho, fun b hb => by have := HNB.out b hb; omega⟩, hkF⟩
  clear hkF ho
  revert p0 p1
  generalize World.setCell (World.setCell _ _ _) _ _ = WW
  intro p0 p1
  simp [results, Try.results24, go_sem, p0, p1, Gf.v]
set_option maxHeartbeats 4000000 in
theorem eqGraph_k (G G' : Gf) (w : World) (hd : G.d = G'.d) (hm : Mem w G.segs) (hm' : Mem w G'.segs) (hl : G.len) :
    Calls Try.prog 26 #[G.v, G'.v] w fun e w' => e = .returned (.bool true) ∧ Keeps w w' := by
  obtain ⟨nn, ea, ec, E⟩ := G
  obtain ⟨nn2, ea2, ec2, E2⟩ := G'
  dsimp only [Gf.d] at hd
  injection hd with e1 e2
  subst e1 e2
  have HC := hide (fun w' (hk : Keeps w w') => eqEdgeS_k ea ea2 ec ec2 E w' (Gf.memE (hm.kept hk)) (Gf.memE (hm'.kept hk)) hl)
  have HK := hide (Keeps.alloc (Keeps.alloc (Keeps.refl w) (.cells #[.int .i64 nn, .slice ea E.length ec] 25)) (.cells #[.int .i64 nn, .slice ea2 E.length ec2] 25))
  dsimp only [Gf.v]
  clear hm hm' hl
  go_enter Try.func26, Try.ntmps26
  go_wp2_with fail
  refine (unhide HC _ HK.out).mono ?_
  rintro e w1 ⟨rfl, hk⟩
  go_wp2_with fail
  go_ret
  exact ⟨rfl, HK.out.trans hk⟩
set_option maxHeartbeats 4000000 in
theorem markGraph_k (G : Gf) (n : Nat) (w : World) (h : Own w G.segs) (hl : G.len) (hn : n ≤ 900000000) :
    Calls Try.prog 30 #[G.v, .int .i64 (n : Int)] w fun e w' => e = .returned (.int .i64 ((n + 4 * G.E.length : Nat) : Int)) ∧ Turn (fp G.segs) w w' := by
  obtain ⟨nn, ea, ec, E⟩ := G
  have HK := hide (Keeps.alloc (Keeps.refl w) (.cells #[.int .i64 nn, .slice ea E.length ec] 25))
  dsimp only [Gf.v, Gf.segs] at *
  have HC := hide (fun w' (hk : Keeps w w') => markEdgeS_k ea ec E n w' (h.kept hk) hl (by omega))
  clear h hl
  go_enter Try.func30, Try.ntmps30
  go_wp2_with fail
  refine (unhide HC _ HK.out).mono ?_
  rintro e w1 ⟨rfl, ho, ht⟩
  go_wp2_with fail
  go_ret
  exact ⟨rfl, (Turn.of_keeps HK.out _).trans' ht⟩
end Go.Proofs.Ytaboogkioehkeaa
