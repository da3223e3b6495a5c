/- The model's draws of lists of steps. -/
import Derived.Test.YtkgpoghoilffhaaGreatDoorSC20
namespace Go.Proofs.YtkgpoghoilffhaaGreatDoor
open Go.RowKit Go.Deep
set_option linter.unusedVariables false
set_option linter.unusedSimpArgs false
set_option maxRecDepth 10000
/-- A list of steps of the draw's own: its row, the lists inside, all from base on. -/
structure LD (base : Nat) (w : World) (v : Value) (nb : List Ms) : Prop where
  row : w.ownsRow base 33 14 v nb.length (mcells nb)
  inner : Own w (nb.map Ms.seg)
  new : ∀ b ∈ fp (nb.map Ms.seg), base ≤ b
  apart : ∀ g, v.ownBlock = some g → g ∉ fp (nb.map Ms.seg)
theorem LD.turn {base : Nat} {w w' : World} {v : Value} {nb : List Ms} (h : LD base w v nb) {fs : List Nat} (ht : Turn fs w w') (hf : ∀ b ∈ fs, b < base ∨ w.heap.size ≤ b) : LD base w' v nb := by
  refine ⟨owns_turnZ h.row ht (fun g hg hx => ?_), h.inner.turn ht (fun b hb hx => ?_), h.new, h.apart⟩
  · have h1 := h.row.lt g hg
    rcases hf g hx with h2 | h2 <;> omega
  · have h1 := h.inner.mem.lt b hb
    have h2 := h.new b hb
    rcases hf b hx with h3 | h3 <;> omega
theorem LD.snoc {base : Nat} {wa w1 w2 : World} {v v' : Value} {nb : List Ms} (h : LD base wa v nb) {fs : List Nat} (ht : Turn fs wa w1) (hf : ∀ b ∈ fs, b < base ∨ wa.heap.size ≤ b) {x : Ms} (hx : Own w1 [x.seg]) (hn : ∀ b ∈ fp [x.seg], wa.heap.size ≤ b) (hbs : base ≤ wa.heap.size) (hg : w1.grownBy w2 v.ownBlock)
    (hr : w2.ownsRow base 33 14 v' (nb.length + 1) (mcells nb ++ x.cells)) (hv : v'.ownBlock = v.ownBlock ∨ v'.ownBlock = some w1.heap.size) : LD base w2 v' (nb ++ [x]) := by
  have h1 := h.turn ht hf
  have ht2 : Turn v.ownBlock.toList w1 w2 := Turn.of_grown hg (fun k hk' => by rw [hk']; simp)
  have hlt := h.inner.mem.lt
  have hin := h1.inner.turn ht2 (fun b hb hb' => h1.apart b (by simpa using hb') hb)
  have hxx := hx.turn ht2 (fun b hb hb' => by
    have e : v.ownBlock = some b := by simpa using hb'
    have h3 := (h.row.lt b e).2
    have h4 := hn b hb
    omega)
  refine ⟨?_, ?_, ?_, ?_⟩
  · rw [List.length_append, mcells_snoc]; exact hr
  · rw [List.map_append]
    exact hin.append hxx (fun b hb hb' => by have h3 := hlt b hb; have h4 := hn b hb'; omega)
  · intro b hb
    rw [List.map_append, fp_append] at hb
    rcases List.mem_append.1 hb with hb | hb
    · exact h.new b hb
    · have h4 := hn b hb; omega
  · intro g hg' hb
    rw [List.map_append, fp_append] at hb
    rcases hv with e | e
    · rw [e] at hg'
      rcases List.mem_append.1 hb with hb | hb
      · exact h.apart g hg' hb
      · have h3 := (h.row.lt g hg').2
        have h4 := hn g hb
        omega
    · rw [e] at hg'
      have h5 := Option.some.inj hg'
      rcases List.mem_append.1 hb with hb | hb
      · have h3 := h1.inner.mem.lt g hb; omega
      · have h3 := hx.mem.lt g hb; omega
theorem turn_grownX {w w' : World} {R : Nat} (ht : Turn [R] w w') : w.grownBy w' (some R) := ⟨ht.os, ht.tape, ht.output, ht.size, fun k hk hn => ht.block k hk (by simp; exact fun e => hn (by rw [e]))⟩
theorem own_seg {W : World} {base : Nat} {D : Stp} {a : Option Addr} {c : Nat} (h : OwnsI W base (.slice a D.ks.length c) D.ks) : Own W [(Ms.mk D a c).seg] ∧ ∀ b ∈ fp [(Ms.mk D a c).seg], base ≤ b := by
  obtain ⟨a', c', e, _, _, _, h5, h6⟩ := Own.of_owns h
  injection e with e _ _
  subst e
  exact ⟨h5, h6⟩
theorem no_seg (w : World) : Own w [((none : Option Addr), its ([] : List Int))] := ⟨fun s hs => by simp at hs; subst hs; exact Or.inl rfl, by simp [fp, fpS, its], fun b hb => absurd hb (by simp [fp, fpS, its])⟩
def IsSteps (base N : Nat) (e : Ending) (w' : World) : Prop := ∃ (v : Value) (nb : List Ms), e = .returned v ∧ LD base w' v nb ∧ nb.length ≤ N ∧ ∀ x ∈ nb, x.D.ks.length ≤ 6
theorem grown_turnX {w w' : World} {B : Nat} (g : w.grownBy w' (some B)) : Turn [B] w w' := Turn.of_grown g (fun k hk => by injection hk with hk; simp [hk])
set_option maxHeartbeats 32000000 in
theorem steps_any {B0 B : Nat} {a : Option Addr} {len cap : Nat} {w : World} (s : Dr B0 B a len cap w) (most : Nat) (hmo : most ≤ 100) :
    Calls Tryz.prog 29 #[.pointer (some ⟨B, 0, none⟩), .int .i64 (most : Int)] w fun e w' => IsSteps w.heap.size (8 + most) e w' ∧ Dr B0 B a len cap w' ∧ w.grownBy w' (some B) := by
  have HD := hide ((Ds.start s).alloc (.cells #[.int .i64 4, .int .i64 0, .int .i64 0, .int .i64 0, .int .i64 0, .int .i64 0, .int .i64 0, .bool false, .slice none 0 0, .int .i64 0, .int .i64 0, .int .i64 0, .int .i64 0, .int .i64 0] 33))
  have HL : Hid (LD w.heap.size (w.alloc (.cells #[.int .i64 4, .int .i64 0, .int .i64 0, .int .i64 0, .int .i64 0, .int .i64 0, .int .i64 0, .bool false, .slice none 0 0, .int .i64 0, .int .i64 0, .int .i64 0, .int .i64 0, .int .i64 0] 33)) (.slice (some ⟨w.heap.size, 0, none⟩) 1 1) [⟨⟨4, noE, [], noR⟩, none, 0⟩]) :=
    ⟨⟨rfl, .inr ⟨w.heap.size, 1, #[.int .i64 4, .int .i64 0, .int .i64 0, .int .i64 0, .int .i64 0, .int .i64 0, .int .i64 0, .bool false, .slice none 0 0, .int .i64 0, .int .i64 0, .int .i64 0, .int .i64 0, .int .i64 0], rfl, Nat.le_refl _, heap_alloc_last w _, by decide, by decide, rfl, rfl⟩⟩, no_seg _, by simp [fp, fpS, Ms.seg, its], by simp [fp, fpS, Ms.seg, its]⟩
  have hB := s.lt
  have hB0 := s.le
  clear s
  go_enter Tryz.func29, Tryz.ntmps29
  go_wp2_with fail
  have HW1 : Hid (w.heap.size < (w.alloc (.cells #[.int .i64 4, .int .i64 0, .int .i64 0, .int .i64 0, .int .i64 0, .int .i64 0, .int .i64 0, .bool false, .slice none 0 0, .int .i64 0, .int .i64 0, .int .i64 0, .int .i64 0, .int .i64 0] 33)).heap.size) := by show _ < _; simp
  have HW0 : Hid (w.heap.size ≤ (w.alloc (.cells #[.int .i64 4, .int .i64 0, .int .i64 0, .int .i64 0, .int .i64 0, .int .i64 0, .int .i64 0, .bool false, .slice none 0 0, .int .i64 0, .int .i64 0, .int .i64 0, .int .i64 0, .int .i64 0] 33)).heap.size) := HD.out.le
  generalize w.alloc (.cells #[.int .i64 4, .int .i64 0, .int .i64 0, .int .i64 0, .int .i64 0, .int .i64 0, .int .i64 0, .bool false, .slice none 0 0, .int .i64 0, .int .i64 0, .int .i64 0, .int .i64 0, .int .i64 0] 33) = W0 at *
  refine (events_any HD.out.dr 2 (by omega)).mono ?_
  rintro _ w1 ⟨⟨ev, es, rfl, hes, hel⟩, s1, g1⟩
  replace HL := hide (HL.out.turn (grown_turnX g1) (by simp; omega))
  replace HD := hide (HD.out.step s1 g1)
  clear s1 g1
  obtain ⟨ea, ec, rfl, _, heo⟩ := own_ofF hes
  have HEC := hide heo.one
  have HLT : Hid (∀ b ∈ fpS (ea, ets es), b ≠ w.heap.size ∧ b < w1.heap.size) := fun b hb => by
    have h1 := heo.mem.lt b (by rw [fp_one]; exact hb)
    rcases hes.2 with ⟨e1, e2⟩ | ⟨g, c, cu, e1, hb2, _⟩
    · have : es = [] := List.length_eq_zero_iff.1 e2
      subst this
      simp [fpS, ets] at hb
    · injection e1 with e1 _ _
      subst e1
      unfold fpS at hb
      split at hb
      · simp at hb
      · simp at hb
        subst hb
        have h2 := HW0.out
        have h3 : W0.heap.size ≤ b := hb2
        exact ⟨fun e => by rw [e] at h3; have := HW1.out; omega, h1⟩
  clear hes heo
  go_wp2_with fail
  go_loopw [5, 16] (fun v y wr => ∃ (i : Nat) (nb : List Ms), i ≤ es.length ∧ y = .int .i64 (i : Int) ∧ Hid (LD w.heap.size wr v nb) ∧ Hid (nb.length = 1 + i) ∧ Hid (∀ x ∈ nb, x.D.ks.length ≤ 6) ∧ Hid (Cells wr ea (ets es)) ∧ Hid (∀ g, v.ownBlock = some g → g ∉ fpS (ea, ets es)) ∧ Hid (Ds w B0 B a len cap wr)) (fun _ y _ => es.length - (intOf y).toNat)
  case atStart => exact ⟨0, [⟨⟨4, noE, [], noR⟩, none, 0⟩], by omega, rfl, HL.out, rfl, by show ∀ x ∈ _, _; simp, HEC.out, fun g hg hb => by have := (HLT.out g hb).1; simp [Value.ownBlock] at hg; omega, HD.out⟩
  case round =>
    clear HL HD HEC HLT HW0 HW1
    obtain ⟨i, nb, hi, rfl, HL, HN, HK, HC, HA, HD⟩ := hrel
    by_cases hlt : i < es.length
    · obtain ⟨b, off, e1, c0, c1, c2, c3, c4, c5, c6⟩ := ets_at HC.out i hlt
      have HE1 := hide e1
      generalize es[i] = c at *
      obtain ⟨ek, ey, ec, et, em, ef, eb⟩ := c
      dsimp only at c0 c1 c2 c3 c4 c5 c6
      have HA1 := hide (Keeps.alloc (Keeps.refl wr) (.cells #[.int .i64 ek, .int .i64 ey, .int .i64 ec, .int .i64 et, .int .i64 em, .int .i64 ef, .bool eb] 28))
      have HA2 := hide (Keeps.alloc (Keeps.refl (wr.alloc (.cells #[.int .i64 ek, .int .i64 ey, .int .i64 ec, .int .i64 et, .int .i64 em, .int .i64 ef, .bool eb] 28))) (.cells #[.int .i64 1, .int .i64 ek, .int .i64 ey, .int .i64 ec, .int .i64 et, .int .i64 em, .int .i64 ef, .bool eb, .slice none 0 0, .int .i64 0, .int .i64 0, .int .i64 0, .int .i64 0, .int .i64 0] 33))
      have hnl : nb.length ≤ 1048576 := by have := HN.out; omega
      have hcx : ∀ j u, ((⟨⟨1, ⟨ek, ey, ec, et, em, ef, eb⟩, [], noR⟩, none, 0⟩ : Ms)).cells[j]? = some u → ((wr.alloc (.cells #[.int .i64 ek, .int .i64 ey, .int .i64 ec, .int .i64 et, .int .i64 em, .int .i64 ef, .bool eb] 28)).alloc (.cells #[.int .i64 1, .int .i64 ek, .int .i64 ey, .int .i64 ec, .int .i64 et, .int .i64 em, .int .i64 ef, .bool eb, .slice none 0 0, .int .i64 0, .int .i64 0, .int .i64 0, .int .i64 0, .int .i64 0] 33)).cell? ((⟨(wr.alloc (.cells #[.int .i64 ek, .int .i64 ey, .int .i64 ec, .int .i64 et, .int .i64 em, .int .i64 ef, .bool eb] 28)).heap.size, 0, none⟩ : Addr).add j) = some u := by
        have hF : Own ((wr.alloc (.cells #[.int .i64 ek, .int .i64 ey, .int .i64 ec, .int .i64 et, .int .i64 em, .int .i64 ef, .bool eb] 28)).alloc (.cells #[.int .i64 1, .int .i64 ek, .int .i64 ey, .int .i64 ec, .int .i64 et, .int .i64 em, .int .i64 ef, .bool eb, .slice none 0 0, .int .i64 0, .int .i64 0, .int .i64 0, .int .i64 0, .int .i64 0] 33)) [(some ⟨(wr.alloc (.cells #[.int .i64 ek, .int .i64 ey, .int .i64 ec, .int .i64 et, .int .i64 em, .int .i64 ef, .bool eb] 28)).heap.size, 0, none⟩, ((⟨⟨1, ⟨ek, ey, ec, et, em, ef, eb⟩, [], noR⟩, none, 0⟩ : Ms)).cells)] := own_fresh (wr.alloc (.cells #[.int .i64 ek, .int .i64 ey, .int .i64 ec, .int .i64 et, .int .i64 em, .int .i64 ef, .bool eb] 28)) ((⟨⟨1, ⟨ek, ey, ec, et, em, ef, eb⟩, [], noR⟩, none, 0⟩ : Ms)).cells 33
        intro j u hj
        rw [addr_add0]
        rcases hF.one with hc | ⟨b, off, e, hc⟩
        · exact absurd hc (by simp [Ms.cells])
        · injection e with e
          injection e with e1 e2 _
          subst e1 e2
          obtain ⟨hlt, rfl⟩ := List.getElem?_eq_some_iff.1 hj
          have h2 := hc j hlt
          rw [Nat.zero_add] at h2
          exact h2
      obtain ⟨v7, w7, hr7, ho7, hg7, hv7⟩ := run_step _ w.heap.size u5 nb.length (mcells nb) (⟨⟨1, ⟨ek, ey, ec, et, em, ef, eb⟩, [], noR⟩, none, 0⟩ : Ms) ⟨(wr.alloc (.cells #[.int .i64 ek, .int .i64 ey, .int .i64 ec, .int .i64 et, .int .i64 em, .int .i64 ef, .bool eb] 28)).heap.size, 0, none⟩ 1 hcx 24 (owns_keptZ (owns_keptZ HL.out.row HA1.out) HA2.out) hnl (by rw [World.size_alloc, World.size_alloc]; have := HD.out.le; omega)
      have HR7 := hide hr7
      rw [World.size_alloc] at HR7
      have HL7 := hide (HL.out.snoc (x := (⟨⟨1, ⟨ek, ey, ec, et, em, ef, eb⟩, [], noR⟩, none, 0⟩ : Ms)) (Turn.of_keeps (HA1.out.trans HA2.out) []) (by simp) (no_seg _) (by simp [fp, fpS, Ms.seg, its]) HD.out.le hg7 ho7 hv7)
      have HD7 := hide (((HD.out.alloc (.cells #[.int .i64 ek, .int .i64 ey, .int .i64 ec, .int .i64 et, .int .i64 em, .int .i64 ef, .bool eb] 28)).alloc (.cells #[.int .i64 1, .int .i64 ek, .int .i64 ey, .int .i64 ec, .int .i64 et, .int .i64 em, .int .i64 ef, .bool eb, .slice none 0 0, .int .i64 0, .int .i64 0, .int .i64 0, .int .i64 0, .int .i64 0] 33)).grow hg7 (fun r hr => (HL.out.row.lt r hr).1))
      have HC7 : Hid (Cells w7 ea (ets es)) := (Cells.turn (s := (ea, ets es)) ((HC.out.kept HA1.out).kept HA2.out) (Turn.of_grown (fs := u5.ownBlock.toList) hg7 (fun k hk => by rw [hk]; simp)) (fun g hg hx => HA.out g (by simpa using hx) hg))
      have HA7 : Hid (∀ g, v7.ownBlock = some g → g ∉ fpS (ea, ets es)) := fun g hg hb => by
        rcases hv7 with e | e
        · exact HA.out g (by rw [← e]; exact hg) hb
        · rw [e] at hg
          have h1 := Option.some.inj hg
          have h2 := Cells.lt (s := (ea, ets es)) HC.out g hb
          rw [World.size_alloc, World.size_alloc] at h1
          omega
      have HK7 : Hid (∀ x ∈ nb ++ [(⟨⟨1, ⟨ek, ey, ec, et, em, ef, eb⟩, [], noR⟩, none, 0⟩ : Ms)], x.D.ks.length ≤ 6) := fun x hx => by
        rcases List.mem_append.1 hx with hx | hx
        · exact HK.out x hx
        · rw [List.mem_singleton.1 hx]; simp
      have HN7 : Hid ((nb ++ [(⟨⟨1, ⟨ek, ey, ec, et, em, ef, eb⟩, [], noR⟩, none, 0⟩ : Ms)]).length = 1 + (i + 1)) := by have := HN.out; show _ = _; simp; omega
      have hea : ea = some ⟨b, off, none⟩ := HE1.out
      clear hr7 ho7 hg7 hv7 hcx HL HA HK HN HD HA1 HA2 e1
      subst hea
      go_wp2_with (at_builtin; refine Lib.wpList_append_run _ rfl (.tmp 20) (.tmp 23) _ _ rfl _ _ rfl rfl v7 w7 HR7.out ?_)
      go_roundw
      case rel => exact ⟨i + 1, nb ++ [(⟨⟨1, ⟨ek, ey, ec, et, em, ef, eb⟩, [], noR⟩, none, 0⟩ : Ms)], by omega, by go_num, HL7, HN7, HK7, HC7, HA7, HD7⟩
      case measure => simp [intOf]; omega
    · have hie : i = es.length := by omega
      subst hie
      clear HC HA
      have HN2 : Hid (nb.length ≤ 8) := by have := HN.out; show _ ≤ _; omega
      go_wp2_with fail
      refine (below_any (most + 1) HD.out.dr (by omega) (by omega)).mono ?_
      rintro _ w6 ⟨⟨n, n0, n1, rfl⟩, s1, g1⟩
      replace HL := hide (HL.out.turn (grown_turnX g1) (by simp; omega))
      replace HD := hide (HD.out.step s1 g1)
      clear s1 g1 HN
      obtain ⟨n', rfl⟩ : ∃ n' : Nat, n = n' := ⟨n.toNat, by omega⟩
      go_wp2_with fail
      go_loopw [5, 8] (fun v y wr => ∃ (m : Nat) (nb : List Ms), y = .int .i64 (m : Int) ∧ Hid (LD w.heap.size wr v nb) ∧ Hid (nb.length + m ≤ 8 + most) ∧ Hid (∀ x ∈ nb, x.D.ks.length ≤ 6) ∧ Hid (Ds w B0 B a len cap wr)) (fun _ y _ => (intOf y).toNat)
      case atStart => exact ⟨n', nb, rfl, HL.out, by have := HN2.out; show _ ≤ _; omega, HK.out, HD.out⟩
      case round =>
        clear HL HD HK HN2
        obtain ⟨m, nb, rfl, HL, HN, HK, HD⟩ := hrel
        by_cases hm : 0 < m
        · obtain ⟨j, rfl⟩ : ∃ j, m = j + 1 := ⟨m - 1, by omega⟩
          have hj5 : j ≤ 200 := by have := HN.out; omega
          have hnl : nb.length ≤ 1048576 := by have := HN.out; omega
          have HS := hide (Ds.start HD.out.dr)
          have hBr : B < wr.heap.size := HD.out.dr.lt
          have hwr := HD.out.le
          go_wp2_with fail
          refine (step_any HD.out.dr).mono ?_
          rintro _ w7 ⟨⟨⟨k, ⟨ek, ey, ec, et, em, ef, eb⟩, ks, ⟨lo, hi, st, mi, ma⟩⟩, ka, kc, rfl, ho, hks⟩, s1, g1⟩
          dsimp only at ho hks
          replace HS := hide (HS.out.step s1 g1)
          clear s1 g1
          have hA := Keeps.alloc (Keeps.refl w7) (.cells #[.int .i64 k, .int .i64 ek, .int .i64 ey, .int .i64 ec, .int .i64 et, .int .i64 em, .int .i64 ef, .bool eb, .slice ka ks.length kc, .int .i64 lo, .int .i64 hi, .int .i64 st, .int .i64 mi, .int .i64 ma] 33)
          have HOW := hide (owns_keepI ho hA)
          have HOE : Hid (∀ g, (Value.slice ka ks.length kc).ownBlock = some g → g < w7.heap.size) := fun g hg => (ho.lt g hg).2
          have HKL : Hid (ks.length ≤ 6) := by show _ ≤ _; omega
          have HX : Hid ((w7.alloc (.cells #[.int .i64 k, .int .i64 ek, .int .i64 ey, .int .i64 ec, .int .i64 et, .int .i64 em, .int .i64 ef, .bool eb, .slice ka ks.length kc, .int .i64 lo, .int .i64 hi, .int .i64 st, .int .i64 mi, .int .i64 ma] 33)).rowIs w7.heap.size 33 14 (fun i => if i = 0 then .int .i64 k else if i = 1 then .int .i64 ek else if i = 2 then .int .i64 ey else if i = 3 then .int .i64 ec else if i = 4 then .int .i64 et else if i = 5 then .int .i64 em else if i = 6 then .int .i64 ef else if i = 7 then .bool eb else if i = 8 then .slice ka ks.length kc else if i = 9 then .int .i64 lo else if i = 10 then .int .i64 hi else if i = 11 then .int .i64 st else if i = 12 then .int .i64 mi else .int .i64 ma)) := row_14 w7 33 (.int .i64 k) (.int .i64 ek) (.int .i64 ey) (.int .i64 ec) (.int .i64 et) (.int .i64 em) (.int .i64 ef) (.bool eb) (.slice ka ks.length kc) (.int .i64 lo) (.int .i64 hi) (.int .i64 st) (.int .i64 mi) (.int .i64 ma)
          have HM : Hid (wr.heap.size ≤ w7.heap.size) := HS.out.le
          replace HS := hide (HS.out.alloc (.cells #[.int .i64 k, .int .i64 ek, .int .i64 ey, .int .i64 ec, .int .i64 et, .int .i64 em, .int .i64 ef, .bool eb, .slice ka ks.length kc, .int .i64 lo, .int .i64 hi, .int .i64 st, .int .i64 mi, .int .i64 ma] 33))
          clear ho hA hks
          go_wp2_with fail
          generalize w7.alloc (.cells #[.int .i64 k, .int .i64 ek, .int .i64 ey, .int .i64 ec, .int .i64 et, .int .i64 em, .int .i64 ef, .bool eb, .slice ka ks.length kc, .int .i64 lo, .int .i64 hi, .int .i64 st, .int .i64 mi, .int .i64 ma] 33) = W1 at *
          generalize w7.heap.size = X at *
          refine (below_any 3 HS.out.dr (by omega) (by omega)).mono ?_
          rintro _ w8 ⟨⟨q, q0, q1, rfl⟩, s1, g1⟩
          replace HX := hide (HS.out.row g1 HX.out HM.out)
          replace HOW := hide (owns_grow HOW.out g1 (fun r hr hb => by
            have h1 := (HOW.out.lt _ hb).1
            have h2 := Option.some.inj hr
            omega))
          replace HS := hide (HS.out.step s1 g1)
          clear s1 g1
          by_cases hq : q = 0
          · subst hq
            go_wp2_with fail
            refine (below_any 5 HS.out.dr (by omega) (by omega)).mono ?_
            rintro _ w9 ⟨⟨xa, xa0, xa1, rfl⟩, s1, g1⟩
            replace HX := hide (HS.out.row g1 HX.out HM.out)
            replace HOW := hide (owns_grow HOW.out g1 (fun r hr hb => by
              have h1 := (HOW.out.lt _ hb).1
              have h2 := Option.some.inj hr
              omega))
            replace HS := hide (HS.out.step s1 g1)
            clear s1 g1
            go_wp2_with fail
            refine (below_any 3 HS.out.dr (by omega) (by omega)).mono ?_
            rintro _ w10 ⟨⟨xb, xb0, xb1, rfl⟩, s1, g1⟩
            replace HX := hide (HS.out.row g1 HX.out HM.out)
            replace HOW := hide (owns_grow HOW.out g1 (fun r hr hb => by
              have h1 := (HOW.out.lt _ hb).1
              have h2 := Option.some.inj hr
              omega))
            replace HS := hide (HS.out.step s1 g1)
            clear s1 g1
            go_wp2_with fail
            refine (below_any 3000 HS.out.dr (by omega) (by omega)).mono ?_
            rintro _ w11 ⟨⟨xc, xc0, xc1, rfl⟩, s1, g1⟩
            replace HX := hide (HS.out.row g1 HX.out HM.out)
            replace HOW := hide (owns_grow HOW.out g1 (fun r hr hb => by
              have h1 := (HOW.out.lt _ hb).1
              have h2 := Option.some.inj hr
              omega))
            replace HS := hide (HS.out.step s1 g1)
            clear s1 g1
            have HY : Hid ((w11.alloc (.cells (evCells 5 (1 + xa) (1 + xb) 0 (1 + xc) 0 false) 28)).rowIs w11.heap.size 28 7 (evRow 5 (1 + xa) (1 + xb) 0 (1 + xc) 0 false)) := (World.rowIs_alloc w11 (evCells 5 (1 + xa) (1 + xb) 0 (1 + xc) 0 false) 28 _ (ev_row 5 (1 + xa) (1 + xb) 0 (1 + xc) 0 false))
            have hXY : X < w11.heap.size := HX.out.lt
            have hle11 := HS.out.le
            replace HX := hide (HX.out.alloc (.cells (evCells 5 (1 + xa) (1 + xb) 0 (1 + xc) 0 false) 28))
            replace HS := hide (HS.out.alloc (.cells (evCells 5 (1 + xa) (1 + xb) 0 (1 + xc) 0 false) 28))
            go_upto_region 13 with fail
            generalize w11.alloc (.cells (evCells 5 (1 + xa) (1 + xb) 0 (1 + xc) 0 false) 28) = W2 at *
            generalize w11.heap.size = Y at *
            have z2 := HY.out.cell (i := 2) (by decide)
            have z3 := HY.out.cell (i := 3) (by decide)
            have zf3 := HY.out.frozen 3
            have zl := HY.out.lt
            simp [evRow] at z2 z3
            replace HX := hide (row_other (b := Y) (o := 3) (v := .int .i64 (1 + (1 + xb) % 3)) HX.out (by omega))
            replace HY := hide (HY.out.set 3 (.int .i64 (1 + (1 + xb) % 3)))
            replace HS := hide (HS.out.set (b := Y) (o := 3) (v := .int .i64 (1 + (1 + xb) % 3)) (by omega))
            go_upto_region 14 with fail
            generalize W2.setCell ⟨Y, 3, none⟩ (.int .i64 (1 + (1 + xb) % 3)) = W3 at *
            clear z2 z3 zf3 zl
            have z0 := HY.out.cell (i := 0) (by decide)
            have z1 := HY.out.cell (i := 1) (by decide)
            have z2 := HY.out.cell (i := 2) (by decide)
            have z3 := HY.out.cell (i := 3) (by decide)
            have z4 := HY.out.cell (i := 4) (by decide)
            have z5 := HY.out.cell (i := 5) (by decide)
            have z6 := HY.out.cell (i := 6) (by decide)
            simp [evRow] at z0 z1 z2 z3 z4 z5 z6
            obtain ⟨tv, htv⟩ : ∃ tv, 1 + (1 + xb) % 3 = tv := ⟨_, rfl⟩
            rw [htv] at z3
            have HTX := hide (there_rowF HX.out)
            go_upto_region 15 with (refine wp_storeS rfl (.tmp 9) (.tmp 55) rfl X #[.int .i64 1, .int .i64 5, .int .i64 (1 + xa), .int .i64 (1 + xb), .int .i64 tv, .int .i64 (1 + xc), .int .i64 0, .bool false, .slice none 0 0, .int .i64 0, .int .i64 0, .int .i64 0, .int .i64 0, .int .i64 0] rfl rfl rfl (by simp [Value.oneCell']) HTX.out ?_)
            have HRG := hide (World.rangeAt_setCells_same W3 X 0 [.int .i64 1, .int .i64 5, .int .i64 (1 + xa), .int .i64 (1 + xb), .int .i64 tv, .int .i64 (1 + xc), .int .i64 0, .bool false, .slice none 0 0, .int .i64 0, .int .i64 0, .int .i64 0, .int .i64 0, .int .i64 0] HTX.out)
            have HSS := hide (HS.out.dr.grown (row := some X) (w' := W3.setCells X 0 [.int .i64 1, .int .i64 5, .int .i64 (1 + xa), .int .i64 (1 + xb), .int .i64 tv, .int .i64 (1 + xc), .int .i64 0, .bool false, .slice none 0 0, .int .i64 0, .int .i64 0, .int .i64 0, .int .i64 0, .int .i64 0]) (turn_grownX (turn_setCellsF X [.int .i64 1, .int .i64 5, .int .i64 (1 + xa), .int .i64 (1 + xb), .int .i64 tv, .int .i64 (1 + xc), .int .i64 0, .bool false, .slice none 0 0, .int .i64 0, .int .i64 0, .int .i64 0, .int .i64 0, .int .i64 0] 0 W3)) (by have := HM.out; simp; omega) (by intro r hr; have := HM.out; injection hr with hr; omega))
            have HSG := hide (HS.out.turn (turn_setCellsF X [.int .i64 1, .int .i64 5, .int .i64 (1 + xa), .int .i64 (1 + xb), .int .i64 tv, .int .i64 (1 + xc), .int .i64 0, .bool false, .slice none 0 0, .int .i64 0, .int .i64 0, .int .i64 0, .int .i64 0, .int .i64 0] 0 W3) HM.out)
            generalize W3.setCells X 0 [.int .i64 1, .int .i64 5, .int .i64 (1 + xa), .int .i64 (1 + xb), .int .i64 tv, .int .i64 (1 + xc), .int .i64 0, .bool false, .slice none 0 0, .int .i64 0, .int .i64 0, .int .i64 0, .int .i64 0, .int .i64 0] = W4 at *
            clear z0 z1 z2 z3 z4 z5 z6 HX HY HS HTX HOW
            have hcx : ∀ j u, ((⟨⟨1, ⟨5, 1 + xa, 1 + xb, tv, 1 + xc, 0, false⟩, [], noR⟩, none, 0⟩ : Ms)).cells[j]? = some u → (W4.alloc (.cells #[.int .i64 1, .int .i64 5, .int .i64 (1 + xa), .int .i64 (1 + xb), .int .i64 tv, .int .i64 (1 + xc), .int .i64 0, .bool false, .slice none 0 0, .int .i64 0, .int .i64 0, .int .i64 0, .int .i64 0, .int .i64 0] 33)).cell? ((⟨W4.heap.size, 0, none⟩ : Addr).add j) = some u := by
              have hF : Own (W4.alloc (.cells #[.int .i64 1, .int .i64 5, .int .i64 (1 + xa), .int .i64 (1 + xb), .int .i64 tv, .int .i64 (1 + xc), .int .i64 0, .bool false, .slice none 0 0, .int .i64 0, .int .i64 0, .int .i64 0, .int .i64 0, .int .i64 0] 33)) [(some ⟨W4.heap.size, 0, none⟩, ((⟨⟨1, ⟨5, 1 + xa, 1 + xb, tv, 1 + xc, 0, false⟩, [], noR⟩, none, 0⟩ : Ms)).cells)] := own_fresh W4 ((⟨⟨1, ⟨5, 1 + xa, 1 + xb, tv, 1 + xc, 0, false⟩, [], noR⟩, none, 0⟩ : Ms)).cells 33
              intro j u hj
              rw [addr_add0]
              rcases hF.one with hc | ⟨b, off, e, hc⟩
              · exact absurd hc (by simp [Ms.cells])
              · injection e with e
                injection e with e1 e2 _
                subst e1 e2
                obtain ⟨hlt, rfl⟩ := List.getElem?_eq_some_iff.1 hj
                have h2 := hc j hlt
                rw [Nat.zero_add] at h2
                exact h2
            have HA9 := hide (Keeps.alloc (Keeps.refl W4) (.cells #[.int .i64 1, .int .i64 5, .int .i64 (1 + xa), .int .i64 (1 + xb), .int .i64 tv, .int .i64 (1 + xc), .int .i64 0, .bool false, .slice none 0 0, .int .i64 0, .int .i64 0, .int .i64 0, .int .i64 0, .int .i64 0] 33))
            have HS9 := hide (HSG.out.alloc (.cells #[.int .i64 1, .int .i64 5, .int .i64 (1 + xa), .int .i64 (1 + xb), .int .i64 tv, .int .i64 (1 + xc), .int .i64 0, .bool false, .slice none 0 0, .int .i64 0, .int .i64 0, .int .i64 0, .int .i64 0, .int .i64 0] 33))
            have HLT := hide (HL.out.turn (grown_turnX HS9.out.gr) (by have := HD.out.hB; simp; omega))
            obtain ⟨v7, w77, hr7, ho7, hg7, hv7⟩ := run_step _ w.heap.size u5 nb.length (mcells nb) (⟨⟨1, ⟨5, 1 + xa, 1 + xb, tv, 1 + xc, 0, false⟩, [], noR⟩, none, 0⟩ : Ms) ⟨W4.heap.size, 0, none⟩ 1 hcx 24 HLT.out.row hnl (by have := HS9.out.le; omega)
            have HR7 := hide hr7
            have HL7 := hide (HL.out.snoc (x := (⟨⟨1, ⟨5, 1 + xa, 1 + xb, tv, 1 + xc, 0, false⟩, [], noR⟩, none, 0⟩ : Ms)) (grown_turnX HS9.out.gr) (by have := HD.out.hB; simp; omega) (no_seg _) (by simp [fp, fpS, Ms.seg, its]) hwr hg7 ho7 hv7)
            have HD7 := hide ((HD.out.step HS9.out.dr HS9.out.gr).grow hg7 (fun r hr => (HL.out.row.lt r hr).1))
            have HK7 : Hid (∀ x ∈ nb ++ [(⟨⟨1, ⟨5, 1 + xa, 1 + xb, tv, 1 + xc, 0, false⟩, [], noR⟩, none, 0⟩ : Ms)], x.D.ks.length ≤ 6) := fun x hx => by
              rcases List.mem_append.1 hx with hx | hx
              · exact HK.out x hx
              · rw [List.mem_singleton.1 hx]; simp
            have HN7 : Hid ((nb ++ [(⟨⟨1, ⟨5, 1 + xa, 1 + xb, tv, 1 + xc, 0, false⟩, [], noR⟩, none, 0⟩ : Ms)]).length + j ≤ 8 + most) := by have := HN.out; show _ ≤ _; simp; omega
            clear hr7 ho7 hg7 hv7 hcx HL HK HN HD HA9 HS9 HLT HSG
            go_wp2_with (first | (refine wp_loadS rfl (.tmp 9) rfl X #[.int .i64 1, .int .i64 5, .int .i64 (1 + xa), .int .i64 (1 + xb), .int .i64 tv, .int .i64 (1 + xc), .int .i64 0, .bool false, .slice none 0 0, .int .i64 0, .int .i64 0, .int .i64 0, .int .i64 0, .int .i64 0] rfl rfl HRG.out ?_) | (at_builtin; refine Lib.wpList_append_run _ rfl (.tmp 56) (.tmp 58) _ _ rfl _ _ rfl rfl v7 w77 HR7.out ?_))
            go_roundw
            case rel => exact ⟨j, nb ++ [(⟨⟨1, ⟨5, 1 + xa, 1 + xb, tv, 1 + xc, 0, false⟩, [], noR⟩, none, 0⟩ : Ms)], by go_num, HL7, HN7, HK7, HD7⟩
            case measure => simp [intOf]
          · have hq' : (q == 0) = false := beq_eq_false_iff_ne.2 hq
            have HRG := hide (range_rowF (A := #[.int .i64 k, .int .i64 ek, .int .i64 ey, .int .i64 ec, .int .i64 et, .int .i64 em, .int .i64 ef, .bool eb, .slice ka ks.length kc, .int .i64 lo, .int .i64 hi, .int .i64 st, .int .i64 mi, .int .i64 ma]) HX.out rfl (fun i v hv => by
              match i, hv with
              | 0, hv => simp at hv; simpa using hv
              | 1, hv => simp at hv; simpa using hv
              | 2, hv => simp at hv; simpa using hv
              | 3, hv => simp at hv; simpa using hv
              | 4, hv => simp at hv; simpa using hv
              | 5, hv => simp at hv; simpa using hv
              | 6, hv => simp at hv; simpa using hv
              | 7, hv => simp at hv; simpa using hv
              | 8, hv => simp at hv; simpa using hv
              | 9, hv => simp at hv; simpa using hv
              | 10, hv => simp at hv; simpa using hv
              | 11, hv => simp at hv; simpa using hv
              | 12, hv => simp at hv; simpa using hv
              | 13, hv => simp at hv; simpa using hv
              | m + 14, hv => simp at hv))
            have HSG := HS
            clear HX HS
            have hcx : ∀ j u, ((⟨⟨k, ⟨ek, ey, ec, et, em, ef, eb⟩, ks, ⟨lo, hi, st, mi, ma⟩⟩, ka, kc⟩ : Ms)).cells[j]? = some u → (w8.alloc (.cells #[.int .i64 k, .int .i64 ek, .int .i64 ey, .int .i64 ec, .int .i64 et, .int .i64 em, .int .i64 ef, .bool eb, .slice ka ks.length kc, .int .i64 lo, .int .i64 hi, .int .i64 st, .int .i64 mi, .int .i64 ma] 33)).cell? ((⟨w8.heap.size, 0, none⟩ : Addr).add j) = some u := by
              have hF : Own (w8.alloc (.cells #[.int .i64 k, .int .i64 ek, .int .i64 ey, .int .i64 ec, .int .i64 et, .int .i64 em, .int .i64 ef, .bool eb, .slice ka ks.length kc, .int .i64 lo, .int .i64 hi, .int .i64 st, .int .i64 mi, .int .i64 ma] 33)) [(some ⟨w8.heap.size, 0, none⟩, ((⟨⟨k, ⟨ek, ey, ec, et, em, ef, eb⟩, ks, ⟨lo, hi, st, mi, ma⟩⟩, ka, kc⟩ : Ms)).cells)] := own_fresh w8 ((⟨⟨k, ⟨ek, ey, ec, et, em, ef, eb⟩, ks, ⟨lo, hi, st, mi, ma⟩⟩, ka, kc⟩ : Ms)).cells 33
              intro j u hj
              rw [addr_add0]
              rcases hF.one with hc | ⟨b, off, e, hc⟩
              · exact absurd hc (by simp [Ms.cells])
              · injection e with e
                injection e with e1 e2 _
                subst e1 e2
                obtain ⟨hlt, rfl⟩ := List.getElem?_eq_some_iff.1 hj
                have h2 := hc j hlt
                rw [Nat.zero_add] at h2
                exact h2
            have HA9 := hide (Keeps.alloc (Keeps.refl w8) (.cells #[.int .i64 k, .int .i64 ek, .int .i64 ey, .int .i64 ec, .int .i64 et, .int .i64 em, .int .i64 ef, .bool eb, .slice ka ks.length kc, .int .i64 lo, .int .i64 hi, .int .i64 st, .int .i64 mi, .int .i64 ma] 33))
            have HS9 := hide (HSG.out.alloc (.cells #[.int .i64 k, .int .i64 ek, .int .i64 ey, .int .i64 ec, .int .i64 et, .int .i64 em, .int .i64 ef, .bool eb, .slice ka ks.length kc, .int .i64 lo, .int .i64 hi, .int .i64 st, .int .i64 mi, .int .i64 ma] 33))
            have HLT := hide (HL.out.turn (grown_turnX HS9.out.gr) (by have := HD.out.hB; simp; omega))
            obtain ⟨v7, w77, hr7, ho7, hg7, hv7⟩ := run_step _ w.heap.size u5 nb.length (mcells nb) (⟨⟨k, ⟨ek, ey, ec, et, em, ef, eb⟩, ks, ⟨lo, hi, st, mi, ma⟩⟩, ka, kc⟩ : Ms) ⟨w8.heap.size, 0, none⟩ 1 hcx 24 HLT.out.row hnl (by have := HS9.out.le; omega)
            have HR7 := hide hr7
            have HL7 := hide (HL.out.snoc (x := (⟨⟨k, ⟨ek, ey, ec, et, em, ef, eb⟩, ks, ⟨lo, hi, st, mi, ma⟩⟩, ka, kc⟩ : Ms)) (grown_turnX HS9.out.gr) (by have := HD.out.hB; simp; omega) ((own_seg HOW.out).1.kept HA9.out) (own_seg HOW.out).2 hwr hg7 ho7 hv7)
            have HD7 := hide ((HD.out.step HS9.out.dr HS9.out.gr).grow hg7 (fun r hr => (HL.out.row.lt r hr).1))
            have HK7 : Hid (∀ x ∈ nb ++ [(⟨⟨k, ⟨ek, ey, ec, et, em, ef, eb⟩, ks, ⟨lo, hi, st, mi, ma⟩⟩, ka, kc⟩ : Ms)], x.D.ks.length ≤ 6) := fun x hx => by
              rcases List.mem_append.1 hx with hx | hx
              · exact HK.out x hx
              · rw [List.mem_singleton.1 hx]; exact HKL.out
            have HN7 : Hid ((nb ++ [(⟨⟨k, ⟨ek, ey, ec, et, em, ef, eb⟩, ks, ⟨lo, hi, st, mi, ma⟩⟩, ka, kc⟩ : Ms)]).length + j ≤ 8 + most) := by have := HN.out; show _ ≤ _; simp; omega
            clear hr7 ho7 hg7 hv7 hcx HL HK HN HD HA9 HS9 HLT HSG
            go_wp2_with (first | (refine wp_loadS rfl (.tmp 9) rfl X #[.int .i64 k, .int .i64 ek, .int .i64 ey, .int .i64 ec, .int .i64 et, .int .i64 em, .int .i64 ef, .bool eb, .slice ka ks.length kc, .int .i64 lo, .int .i64 hi, .int .i64 st, .int .i64 mi, .int .i64 ma] rfl rfl HRG.out ?_) | (at_builtin; refine Lib.wpList_append_run _ rfl (.tmp 56) (.tmp 58) _ _ rfl _ _ rfl rfl v7 w77 HR7.out ?_))
            go_roundw
            case rel => exact ⟨j, nb ++ [(⟨⟨k, ⟨ek, ey, ec, et, em, ef, eb⟩, ks, ⟨lo, hi, st, mi, ma⟩⟩, ka, kc⟩ : Ms)], by go_num, HL7, HN7, HK7, HD7⟩
            case measure => simp [intOf]
        · obtain rfl : m = 0 := by omega
          have HLF := hide HL.out
          have hn8 := HN.out
          go_wp2_with fail
          go_ret
          exact ⟨⟨_, nb, rfl, HLF.out, by omega, HK.out⟩, HD.out.dr, HD.out.gr⟩
end Go.Proofs.YtkgpoghoilffhaaGreatDoor
