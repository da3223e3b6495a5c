/- The model's draw of a graph. -/
import Derived.Test.YtaboogkioehkeaaDf
import Derived.Deep.RegionHeld3
import Derived.Deep.Cut
namespace Go.Proofs.Ytaboogkioehkeaa
open Go.RowKit Go.Deep
set_option linter.unusedVariables false
set_option linter.unusedSimpArgs false
set_option maxRecDepth 10000

def rowE (y0 y1 y2 y3 : Int) : Nat → Value := fun i => if i = 0 then .int .i64 y0 else if i = 1 then .int .i64 y1 else if i = 2 then .int .i64 y2 else .int .i64 y3
theorem rowE_at (y0 y1 y2 y3 : Int) : ∀ i, i < (#[.int .i64 y0, .int .i64 y1, .int .i64 y2, .int .i64 y3] : Array Value).size → (#[.int .i64 y0, .int .i64 y1, .int .i64 y2, .int .i64 y3] : Array Value)[i]? = some (rowE y0 y1 y2 y3 i)
  | 0, _ => rfl
  | 1, _ => rfl
  | 2, _ => rfl
  | 3, _ => rfl
  | n + 4, h => absurd h (by simp)
/-- Another block of one's own is written. -/
theorem DgS.other {B0 B : Nat} {a : Option Addr} {len cap : Nat} {w wr w' : World} {G V : Nat} {nn : Int} {ea : Option Addr} {ec : Nat} {E : List Edg} (h : DgS B0 B a len cap w wr G nn ea ec E) (ht : Turn [V] wr w') (hV : V ≠ G ∧ w.heap.size < V) (ho : ∀ j, Value.ownBlock (.slice ea E.length ec) = some j → j ≠ V) : DgS B0 B a len cap w w' G nn ea ec E := by
  have h1 := h.lt
  have h2 := h.nB
  have h3 := h.dr.le
  obtain ⟨f, hf⟩ := h.rs
  refine ⟨h.dr.turned ht (by simp; omega) (by simp; omega), ?_, h.gr.of_block (ht.block G h.gr.lt (by simp; omega)), ⟨f, hf.of_block (ht.block _ hf.lt (by simp; omega))⟩, ownsE_turn h.ow (fun j hj => ht.block j (h.ow.lt j hj).2 (by have := ho j hj; simp; omega)), h.lt, h.nB⟩
  exact ⟨ht.os.trans h.tu.os, ht.tape.trans h.tu.tape, ht.output.trans h.tu.output, Nat.le_trans h.tu.size ht.size, fun k hk hn => (ht.block k (Nat.lt_of_lt_of_le hk h.tu.size) (by simp; omega)).trans (h.tu.block k hk hn)⟩
set_option maxHeartbeats 16000000 in
theorem graph_any {B0 B : Nat} {a : Option Addr} {len cap : Nat} {w : World} (s : Dr B0 B a len cap w) :
    Calls Try.prog 53 #[.pointer (some ⟨B, 0, none⟩)] w fun e w' => GrRes w w' e ∧ Dr B0 B a len cap w' ∧ Turn [B] w w' := by
  have hBw := s.lt
  have HK0 := hide (Keeps.alloc (Keeps.refl w) (.cells #[.int .i64 0, .slice none 0 0] 25))
  have HR0 := hide (World.rowIs_alloc w #[.int .i64 0, .slice none 0 0] 25 (row2 (.int .i64 0) (.slice none 0 0)) (row2_at _ _))
  have HD := hide (s.turned (Turn.of_keeps HK0.out []) (by simp) (by simp))
  clear s
  go_enter Try.func53, Try.ntmps53
  go_upto_region 1 with fail
  generalize w.alloc (.cells #[.int .i64 0, .slice none 0 0] 25) = W0 at *
  have HR0 : Hid (W0.rowIs w.heap.size 25 2 (row2 (.int .i64 0) (.slice none 0 0))) := HR0.out
  go_wp2_with fail
  refine (below_t 5 HD.out (by decide) (by decide)).mono ?_
  rintro e w1 ⟨⟨x, x0, x1, rfl⟩, hd, ht⟩
  have HR1 := hide (HR0.out.of_block (ht.block _ HR0.out.lt (by simp; omega)))
  have HT1 : Hid (Turn [B] w w1) := (Turn.of_keeps HK0.out _).trans' ht
  replace HD := hide hd
  clear hd ht HR0 HK0
  have hw : IntKind.i64.wrap (2 + x) = 2 + x := by rw [IntKind.wrap_i64]; omega
  go_upto_region 2 with fail
  have HK1 := hide (Keeps.alloc (Keeps.refl w1) (.cells #[.int .i64 (2 + x), .slice none 0 0] 25))
  have HRG := hide (World.rowIs_alloc w1 #[.int .i64 (2 + x), .slice none 0 0] 25 (row2 (.int .i64 (2 + x)) (.slice none 0 0)) (row2_at _ _))
  generalize w1.alloc (.cells #[.int .i64 (2 + x), .slice none 0 0] 25) = W2 at *
  have HG : Hid (DgS B0 B a len cap w W2 w1.heap.size (2 + x) none 0 []) := ⟨HD.out.turned (Turn.of_keeps HK1.out []) (by simp) (by simp), HT1.out.trans' (Turn.of_keeps HK1.out _), HRG.out, ⟨_, HK1.out.rowK HR1.out⟩, ⟨by simp [egs], .inl ⟨rfl, rfl⟩⟩, HR1.out.lt, hBw⟩
  obtain ⟨G, hG⟩ : ∃ G, G = w1.heap.size := ⟨_, rfl⟩
  rw [← hG] at HG
  rw [← hG]
  obtain ⟨nn, hnn⟩ : ∃ nn, nn = 2 + x := ⟨_, rfl⟩
  rw [← hnn] at HG
  rw [← hnn]
  have hn0 : 2 ≤ nn := by omega
  have hn1 : nn ≤ 6 := by omega
  clear hG hnn hw x0 x1 HRG HK1 HR1 HT1 HD
  go_wp2_with fail
  refine (below_t 12 HG.out.dr (by decide) (by decide)).mono ?_
  rintro e w3 ⟨⟨n0, n1, n2, rfl⟩, hd, ht⟩
  have HG3 := hide (HG.out.turn hd ht)
  obtain ⟨n0, rfl⟩ : ∃ k : Nat, n0 = (k : Int) := ⟨n0.toNat, by omega⟩
  clear hd ht HG
  go_wp2_with fail
  go_loopw [4] (fun y wr => ∃ (k : Nat) (ea : Option Addr) (ec : Nat) (E : List Edg), k ≤ 11 ∧ k + E.length ≤ 11 ∧ y = .int .i64 (k : Int) ∧ Hid (ea = none → ec = 0) ∧ Hid (DgS B0 B a len cap w wr G nn ea ec E)) (fun y _ => (intOf y).toNat)
  case atStart => exact ⟨n0, none, 0, [], by omega, by simp; omega, rfl, fun _ => rfl, HG3.out⟩
  case round =>
    obtain ⟨k, ea, ec, E, hk, hkE, rfl, HEN0, HG⟩ := hrel
    clear HG3
    have g0 := HG.out.gr.cell (i := 0) (by decide)
    simp only [row2, if_true] at g0
    have hGl := HG.out.gr.lt
    have hwG := HG.out.lt
    have hnB := HG.out.nB
    by_cases hk0 : 0 < k
    · go_wp2_with fail
      refine (below_t nn HG.out.dr (by omega) (by omega)).mono ?_
      rintro e w4 ⟨⟨y0, p0, p1, rfl⟩, hd, ht⟩
      replace HG := hide (HG.out.turn hd ht)
      clear hd ht
      go_wp2_with fail
      refine (below_t 12 HG.out.dr (by decide) (by decide)).mono ?_
      rintro e w5 ⟨⟨y2, p2, p3, rfl⟩, hd, ht⟩
      replace HG := hide (HG.out.turn hd ht)
      clear hd ht
      go_wp2_with fail
      refine (below_t 21 HG.out.dr (by decide) (by decide)).mono ?_
      rintro e w6 ⟨⟨y3, p4, p5, rfl⟩, hd, ht⟩
      replace HG := hide (HG.out.turn hd ht)
      clear hd ht g0
      have hw3 : IntKind.i64.wrap (y3 - 10) = y3 - 10 := by rw [IntKind.wrap_i64]; omega
      go_upto_region 6 with fail
      have HKE := hide (Keeps.alloc (Keeps.refl w6) (.cells #[.int .i64 y0, .int .i64 0, .int .i64 y2, .int .i64 (y3 - 10)] 66))
      have HE := hide (World.rowIs_alloc w6 #[.int .i64 y0, .int .i64 0, .int .i64 y2, .int .i64 (y3 - 10)] 66 (rowE y0 0 y2 (y3 - 10)) (rowE_at _ _ _ _))
      generalize w6.alloc (.cells #[.int .i64 y0, .int .i64 0, .int .i64 y2, .int .i64 (y3 - 10)] 66) = W7 at *
      have HE : Hid (W7.rowIs w6.heap.size 66 4 (rowE y0 0 y2 (y3 - 10))) := HE.out
      have HGl := hide HG.out.gr.lt
      have HVB0 : Hid (∀ j, Value.ownBlock (.slice ea E.length ec) = some j → j ≠ w6.heap.size) := fun j hj e => by have := (HG.out.ow.lt j hj).2; omega
      replace HG := hide (HG.out.kept HKE.out)
      obtain ⟨V, hV⟩ : ∃ V, V = w6.heap.size := ⟨_, rfl⟩
      rw [← hV] at HE HGl HVB0
      rw [← hV]
      have HVG : Hid (V ≠ G ∧ w.heap.size < V) := ⟨by have := HGl.out; omega, by have := HGl.out; omega⟩
      have HVB := hide HVB0.out
      clear hV HKE HVB0
      generalize y3 - 10 = y3' at *
      have v0 := HE.out.cell (i := 0) (by decide)
      have v1 := HE.out.cell (i := 1) (by decide)
      have f1 := HE.out.frozen 1
      simp only [rowE, if_true, if_false, show ¬ (1 : Nat) = 0 by decide] at v0 v1
      have g0 := HG.out.gr.cell (i := 0) (by decide)
      simp only [row2, if_true] at g0
      have lV := HE.out.lt
      have lG := HG.out.gr.lt
      have hVG := HVG.out.1
      have w1a : IntKind.i64.wrap (y0 + 1) = y0 + 1 := by rw [IntKind.wrap_i64]; omega
      have w1b : IntKind.i64.wrap (nn - 1) = nn - 1 := by rw [IntKind.wrap_i64]; omega
      have w1c : ∀ z : Int, 0 ≤ z → z < nn - 1 → IntKind.i64.wrap (y0 + 1 + z) = y0 + 1 + z := fun z h0 h1 => by rw [IntKind.wrap_i64]; omega
      have HWC := hide w1c
      clear w1c
      have hnz : nn ≠ 0 := by omega
      have hnz2 : (nn == 0) = false := by simp [hnz]
      go_region_held3 (fun w' => w'.cell? ⟨V, 0, none⟩ = some (.int .i64 y0) ∧ w'.cell? ⟨G, 0, none⟩ = some (.int .i64 nn)) (first | (go_keep; done) | exact ⟨v0, g0⟩ | (refine ⟨?_, ?_⟩ <;> (rw [World.cell?_setCell_other _ _ _ _ (by simp <;> omega)]; assumption)))
        (first
          | (go_at_call 54
             refine (below_t (nn - 1) (HG.out.kept ((Keeps.refl W7).drew)).dr (by omega) (by omega)).mono ?_
             rintro e w8 ⟨⟨z, z0, z1, rfl⟩, hd, ht⟩
             replace ht := (Turn.of_keeps ((Keeps.refl W7).drew) [B]).trans' ht
             replace HG := hide (HG.out.turn hd ht)
             replace HE := hide (HE.out.of_block (ht.block V HE.out.lt (by have := HVG.out.2; simp; omega)))
             clear hd ht v0 v1 f1 g0 lV lG
             have v0 := HE.out.cell (i := 0) (by decide)
             have v1 := HE.out.cell (i := 1) (by decide)
             have f1 := HE.out.frozen 1
             simp only [rowE, if_true, if_false, show ¬ (1 : Nat) = 0 by decide] at v0 v1
             have g0 := HG.out.gr.cell (i := 0) (by decide)
             simp only [row2, if_true] at g0
             have lV := HE.out.lt
             have lG := HG.out.gr.lt
             have hwz := HWC.out z z0 z1
             have hwr : IntKind.i64.wrap ((y0 + 1 + z) % nn) = (y0 + 1 + z) % nn := by
               have h1 := Int.emod_nonneg (y0 + 1 + z) (show nn ≠ 0 by omega)
               have h2 := Int.emod_lt_of_pos (y0 + 1 + z) (show 0 < nn by omega)
               rw [IntKind.wrap_i64]; omega))
      change Exit.then _ _ Exit.normal _ (w8.setCell ⟨V, 1, none⟩ (.int .i64 ((y0 + 1 + z).tmod nn)))
      have HGT := hide (Turn.set (fs := [V]) (w := w8) (a := ⟨V, 1, none⟩) (by simp) (.int .i64 ((y0 + 1 + z).tmod nn)))
      have HE2 := hide ((HE.out.set 1 (.int .i64 ((y0 + 1 + z).tmod nn))).congr (g := rowE y0 ((y0 + 1 + z).tmod nn) y2 y3') (fun j hj => by rcases (show j = 0 ∨ j = 1 ∨ j = 2 ∨ j = 3 by omega) with rfl | rfl | rfl | rfl <;> rfl))
      have HG2 := hide (HG.out.other HGT.out HVG.out HVB.out)
      clear HGT HE HG v0 v1 f1 g0 lV lG hwz hwr
      generalize w8.setCell ⟨V, 1, none⟩ (.int .i64 ((y0 + 1 + z).tmod nn)) = W9 at *
      generalize (y0 + 1 + z).tmod nn = y1 at *
      go_upto_region 7 with fail
      go_wp2_with fail
      refine (below_t 14 HG2.out.dr (by decide) (by decide)).mono ?_
      rintro e WA ⟨⟨u, u0, u1, rfl⟩, hd, ht⟩
      have HG := hide (HG2.out.turn hd ht)
      have HE := hide (HE2.out.of_block (ht.block V HE2.out.lt (by have := HVG.out.2; simp; omega)))
      clear hd ht HG2 HE2
      by_cases hu : u = 0
      · have hu1 : (u == 0) = true := by simp [hu]
        clear hu
        have c2 := HE.out.cell (i := 2) (by decide)
        have f2 := HE.out.frozen 2
        simp only [rowE, if_false, if_true, show ¬ (2 : Nat) = 0 by decide, show ¬ (2 : Nat) = 1 by decide] at c2
        have lV := HE.out.lt
        go_upto_region 9 with fail
        have HGT := hide (Turn.set (fs := [V]) (w := WA) (a := ⟨V, 2, none⟩) (by simp) (.int .i64 1000000000))
        have HE2 := hide ((HE.out.set 2 (.int .i64 1000000000)).congr (g := rowE y0 y1 1000000000 y3') (fun j hj => by rcases (show j = 0 ∨ j = 1 ∨ j = 2 ∨ j = 3 by omega) with rfl | rfl | rfl | rfl <;> rfl))
        have HG2 := hide (HG.out.other HGT.out HVG.out HVB.out)
        clear HGT HE HG c2 f2 lV
        generalize WA.setCell ⟨V, 2, none⟩ (.int .i64 1000000000) = WB at *
        go_wp2_with fail
        refine (below_t 14 HG2.out.dr (by decide) (by decide)).mono ?_
        rintro e WC ⟨⟨v, q0, q1, rfl⟩, hd, ht⟩
        have HG := hide (HG2.out.turn hd ht)
        have HE := hide (HE2.out.of_block (ht.block V HE2.out.lt (by have := HVG.out.2; simp; omega)))
        clear hd ht HG2 HE2
        by_cases hv : v = 0
        · have hv1 : (v == 0) = true := by simp [hv]
          clear hv
          have c3 := HE.out.cell (i := 3) (by decide)
          have f3 := HE.out.frozen 3
          simp only [rowE, if_false, show ¬ (3 : Nat) = 0 by decide, show ¬ (3 : Nat) = 1 by decide, show ¬ (3 : Nat) = 2 by decide] at c3
          have lV := HE.out.lt
          go_upto_region 11 with fail
          have HGT := hide (Turn.set (fs := [V]) (w := WC) (a := ⟨V, 3, none⟩) (by simp) (.int .i64 (-1000000)))
          have HE2 := hide ((HE.out.set 3 (.int .i64 (-1000000))).congr (g := rowE y0 y1 1000000000 (-1000000)) (fun j hj => by rcases (show j = 0 ∨ j = 1 ∨ j = 2 ∨ j = 3 by omega) with rfl | rfl | rfl | rfl <;> rfl))
          have HG2 := hide (HG.out.other HGT.out HVG.out HVB.out)
          clear HGT HE HG c3 f3 lV
          generalize WC.setCell ⟨V, 3, none⟩ (.int .i64 (-1000000)) = WX at *
          have HG := hide HG2.out
          have HE := hide HE2.out
          clear HG2 HE2
          skip
          have c0 := HE.out.cell (i := 0) (by decide)
          have c1 := HE.out.cell (i := 1) (by decide)
          have c2 := HE.out.cell (i := 2) (by decide)
          have c3 := HE.out.cell (i := 3) (by decide)
          simp only [rowE, if_true, if_false, show ¬ (1 : Nat) = 0 by decide, show ¬ (2 : Nat) = 0 by decide, show ¬ (2 : Nat) = 1 by decide, show ¬ (3 : Nat) = 0 by decide, show ¬ (3 : Nat) = 1 by decide, show ¬ (3 : Nat) = 2 by decide] at c0 c1 c2 c3
          have g1 := HG.out.gr.cell (i := 1) (by decide)
          simp only [row2, if_false, show ¬ (1 : Nat) = 0 by decide] at g1
          have hGl := HG.out.gr.lt
          have HM2 : Hid (Cells (WX.alloc (.cells #[.int .i64 y0, .int .i64 y1, .int .i64 1000000000, .int .i64 (-1000000)] 66)) (some ⟨WX.heap.size, 0, none⟩) (egs [⟨y0, y1, 1000000000, (-1000000)⟩])) := Or.inr ⟨WX.heap.size, 0, rfl, fun j hj => by
            have hj' : j < 4 := by have h4 := egs_len [(⟨y0, y1, 1000000000, (-1000000)⟩ : Edg)]; rw [h4] at hj; simpa using hj
            rcases (show j = 0 ∨ j = 1 ∨ j = 2 ∨ j = 3 by omega) with rfl | rfl | rfl | rfl <;> simp [egs, Edg.cells]⟩
          have HK2 := hide (Keeps.alloc (Keeps.refl WX) (.cells #[.int .i64 y0, .int .i64 y1, .int .i64 1000000000, .int .i64 (-1000000)] 66))
          have HO2 := hide ((HG.out.kept HK2.out).ow)
          have HB2 : Hid (G + 1 ≤ (WX.alloc (.cells #[.int .i64 y0, .int .i64 y1, .int .i64 1000000000, .int .i64 (-1000000)] 66)).heap.size) := by show _ ≤ _; simp; omega
          go_wp2_with (at_builtin; refine app_Edge rfl (.tmp 48) (.tmp 50) rfl (G + 1) _ E [⟨y0, y1, 1000000000, (-1000000)⟩] rfl (some ⟨WX.heap.size, 0, none⟩) 1 rfl HM2.out (fun h => nomatch h) HO2.out (by simp; omega) HB2.out ?_; intro v' w' ho hg hnn; obtain ⟨ea', ec', rfl, hen, hDG, q1, q2, q3⟩ := HG.out.grow HK2.out ho hg; have HDG := hide hDG; have HEN := hide hen; clear hDG ho hg hnn hen)
          go_roundw
          case rel => exact ⟨k - 1, ea', ec', E ++ [(⟨y0, y1, 1000000000, (-1000000)⟩ : Edg)], by omega, by simp; omega, by go_num, HEN.out, HDG.out⟩
          case measure => simp [intOf]; omega
        · have hv1 : (v == 0) = false := by simp [hv]
          clear hv
          obtain ⟨WX, hWX⟩ : ∃ WX, WX = WC := ⟨_, rfl⟩
          subst hWX
          go_upto_region 11 with fail
          have c0 := HE.out.cell (i := 0) (by decide)
          have c1 := HE.out.cell (i := 1) (by decide)
          have c2 := HE.out.cell (i := 2) (by decide)
          have c3 := HE.out.cell (i := 3) (by decide)
          simp only [rowE, if_true, if_false, show ¬ (1 : Nat) = 0 by decide, show ¬ (2 : Nat) = 0 by decide, show ¬ (2 : Nat) = 1 by decide, show ¬ (3 : Nat) = 0 by decide, show ¬ (3 : Nat) = 1 by decide, show ¬ (3 : Nat) = 2 by decide] at c0 c1 c2 c3
          have g1 := HG.out.gr.cell (i := 1) (by decide)
          simp only [row2, if_false, show ¬ (1 : Nat) = 0 by decide] at g1
          have hGl := HG.out.gr.lt
          have HM2 : Hid (Cells (WX.alloc (.cells #[.int .i64 y0, .int .i64 y1, .int .i64 1000000000, .int .i64 y3'] 66)) (some ⟨WX.heap.size, 0, none⟩) (egs [⟨y0, y1, 1000000000, y3'⟩])) := Or.inr ⟨WX.heap.size, 0, rfl, fun j hj => by
            have hj' : j < 4 := by have h4 := egs_len [(⟨y0, y1, 1000000000, y3'⟩ : Edg)]; rw [h4] at hj; simpa using hj
            rcases (show j = 0 ∨ j = 1 ∨ j = 2 ∨ j = 3 by omega) with rfl | rfl | rfl | rfl <;> simp [egs, Edg.cells]⟩
          have HK2 := hide (Keeps.alloc (Keeps.refl WX) (.cells #[.int .i64 y0, .int .i64 y1, .int .i64 1000000000, .int .i64 y3'] 66))
          have HO2 := hide ((HG.out.kept HK2.out).ow)
          have HB2 : Hid (G + 1 ≤ (WX.alloc (.cells #[.int .i64 y0, .int .i64 y1, .int .i64 1000000000, .int .i64 y3'] 66)).heap.size) := by show _ ≤ _; simp; omega
          go_wp2_with (at_builtin; refine app_Edge rfl (.tmp 48) (.tmp 50) rfl (G + 1) _ E [⟨y0, y1, 1000000000, y3'⟩] rfl (some ⟨WX.heap.size, 0, none⟩) 1 rfl HM2.out (fun h => nomatch h) HO2.out (by simp; omega) HB2.out ?_; intro v' w' ho hg hnn; obtain ⟨ea', ec', rfl, hen, hDG, q1, q2, q3⟩ := HG.out.grow HK2.out ho hg; have HDG := hide hDG; have HEN := hide hen; clear hDG ho hg hnn hen)
          go_roundw
          case rel => exact ⟨k - 1, ea', ec', E ++ [(⟨y0, y1, 1000000000, y3'⟩ : Edg)], by omega, by simp; omega, by go_num, HEN.out, HDG.out⟩
          case measure => simp [intOf]; omega
      · have hu1 : (u == 0) = false := by simp [hu]
        clear hu
        go_upto_region 9 with fail
        have HG2 := hide HG.out
        have HE2 := hide HE.out
        clear HG HE
        obtain ⟨WB, hWB⟩ : ∃ WB, WB = WA := ⟨_, rfl⟩
        subst hWB
        go_wp2_with fail
        refine (below_t 14 HG2.out.dr (by decide) (by decide)).mono ?_
        rintro e WC ⟨⟨v, q0, q1, rfl⟩, hd, ht⟩
        have HG := hide (HG2.out.turn hd ht)
        have HE := hide (HE2.out.of_block (ht.block V HE2.out.lt (by have := HVG.out.2; simp; omega)))
        clear hd ht HG2 HE2
        by_cases hv : v = 0
        · have hv1 : (v == 0) = true := by simp [hv]
          clear hv
          have c3 := HE.out.cell (i := 3) (by decide)
          have f3 := HE.out.frozen 3
          simp only [rowE, if_false, show ¬ (3 : Nat) = 0 by decide, show ¬ (3 : Nat) = 1 by decide, show ¬ (3 : Nat) = 2 by decide] at c3
          have lV := HE.out.lt
          go_upto_region 11 with fail
          have HGT := hide (Turn.set (fs := [V]) (w := WC) (a := ⟨V, 3, none⟩) (by simp) (.int .i64 (-1000000)))
          have HE2 := hide ((HE.out.set 3 (.int .i64 (-1000000))).congr (g := rowE y0 y1 y2 (-1000000)) (fun j hj => by rcases (show j = 0 ∨ j = 1 ∨ j = 2 ∨ j = 3 by omega) with rfl | rfl | rfl | rfl <;> rfl))
          have HG2 := hide (HG.out.other HGT.out HVG.out HVB.out)
          clear HGT HE HG c3 f3 lV
          generalize WC.setCell ⟨V, 3, none⟩ (.int .i64 (-1000000)) = WX at *
          have HG := hide HG2.out
          have HE := hide HE2.out
          clear HG2 HE2
          skip
          have c0 := HE.out.cell (i := 0) (by decide)
          have c1 := HE.out.cell (i := 1) (by decide)
          have c2 := HE.out.cell (i := 2) (by decide)
          have c3 := HE.out.cell (i := 3) (by decide)
          simp only [rowE, if_true, if_false, show ¬ (1 : Nat) = 0 by decide, show ¬ (2 : Nat) = 0 by decide, show ¬ (2 : Nat) = 1 by decide, show ¬ (3 : Nat) = 0 by decide, show ¬ (3 : Nat) = 1 by decide, show ¬ (3 : Nat) = 2 by decide] at c0 c1 c2 c3
          have g1 := HG.out.gr.cell (i := 1) (by decide)
          simp only [row2, if_false, show ¬ (1 : Nat) = 0 by decide] at g1
          have hGl := HG.out.gr.lt
          have HM2 : Hid (Cells (WX.alloc (.cells #[.int .i64 y0, .int .i64 y1, .int .i64 y2, .int .i64 (-1000000)] 66)) (some ⟨WX.heap.size, 0, none⟩) (egs [⟨y0, y1, y2, (-1000000)⟩])) := Or.inr ⟨WX.heap.size, 0, rfl, fun j hj => by
            have hj' : j < 4 := by have h4 := egs_len [(⟨y0, y1, y2, (-1000000)⟩ : Edg)]; rw [h4] at hj; simpa using hj
            rcases (show j = 0 ∨ j = 1 ∨ j = 2 ∨ j = 3 by omega) with rfl | rfl | rfl | rfl <;> simp [egs, Edg.cells]⟩
          have HK2 := hide (Keeps.alloc (Keeps.refl WX) (.cells #[.int .i64 y0, .int .i64 y1, .int .i64 y2, .int .i64 (-1000000)] 66))
          have HO2 := hide ((HG.out.kept HK2.out).ow)
          have HB2 : Hid (G + 1 ≤ (WX.alloc (.cells #[.int .i64 y0, .int .i64 y1, .int .i64 y2, .int .i64 (-1000000)] 66)).heap.size) := by show _ ≤ _; simp; omega
          go_wp2_with (at_builtin; refine app_Edge rfl (.tmp 48) (.tmp 50) rfl (G + 1) _ E [⟨y0, y1, y2, (-1000000)⟩] rfl (some ⟨WX.heap.size, 0, none⟩) 1 rfl HM2.out (fun h => nomatch h) HO2.out (by simp; omega) HB2.out ?_; intro v' w' ho hg hnn; obtain ⟨ea', ec', rfl, hen, hDG, q1, q2, q3⟩ := HG.out.grow HK2.out ho hg; have HDG := hide hDG; have HEN := hide hen; clear hDG ho hg hnn hen)
          go_roundw
          case rel => exact ⟨k - 1, ea', ec', E ++ [(⟨y0, y1, y2, (-1000000)⟩ : Edg)], by omega, by simp; omega, by go_num, HEN.out, HDG.out⟩
          case measure => simp [intOf]; omega
        · have hv1 : (v == 0) = false := by simp [hv]
          clear hv
          obtain ⟨WX, hWX⟩ : ∃ WX, WX = WC := ⟨_, rfl⟩
          subst hWX
          go_upto_region 11 with fail
          have c0 := HE.out.cell (i := 0) (by decide)
          have c1 := HE.out.cell (i := 1) (by decide)
          have c2 := HE.out.cell (i := 2) (by decide)
          have c3 := HE.out.cell (i := 3) (by decide)
          simp only [rowE, if_true, if_false, show ¬ (1 : Nat) = 0 by decide, show ¬ (2 : Nat) = 0 by decide, show ¬ (2 : Nat) = 1 by decide, show ¬ (3 : Nat) = 0 by decide, show ¬ (3 : Nat) = 1 by decide, show ¬ (3 : Nat) = 2 by decide] at c0 c1 c2 c3
          have g1 := HG.out.gr.cell (i := 1) (by decide)
          simp only [row2, if_false, show ¬ (1 : Nat) = 0 by decide] at g1
          have hGl := HG.out.gr.lt
          have HM2 : Hid (Cells (WX.alloc (.cells #[.int .i64 y0, .int .i64 y1, .int .i64 y2, .int .i64 y3'] 66)) (some ⟨WX.heap.size, 0, none⟩) (egs [⟨y0, y1, y2, y3'⟩])) := Or.inr ⟨WX.heap.size, 0, rfl, fun j hj => by
            have hj' : j < 4 := by have h4 := egs_len [(⟨y0, y1, y2, y3'⟩ : Edg)]; rw [h4] at hj; simpa using hj
            rcases (show j = 0 ∨ j = 1 ∨ j = 2 ∨ j = 3 by omega) with rfl | rfl | rfl | rfl <;> simp [egs, Edg.cells]⟩
          have HK2 := hide (Keeps.alloc (Keeps.refl WX) (.cells #[.int .i64 y0, .int .i64 y1, .int .i64 y2, .int .i64 y3'] 66))
          have HO2 := hide ((HG.out.kept HK2.out).ow)
          have HB2 : Hid (G + 1 ≤ (WX.alloc (.cells #[.int .i64 y0, .int .i64 y1, .int .i64 y2, .int .i64 y3'] 66)).heap.size) := by show _ ≤ _; simp; omega
          go_wp2_with (at_builtin; refine app_Edge rfl (.tmp 48) (.tmp 50) rfl (G + 1) _ E [⟨y0, y1, y2, y3'⟩] rfl (some ⟨WX.heap.size, 0, none⟩) 1 rfl HM2.out (fun h => nomatch h) HO2.out (by simp; omega) HB2.out ?_; intro v' w' ho hg hnn; obtain ⟨ea', ec', rfl, hen, hDG, q1, q2, q3⟩ := HG.out.grow HK2.out ho hg; have HDG := hide hDG; have HEN := hide hen; clear hDG ho hg hnn hen)
          go_roundw
          case rel => exact ⟨k - 1, ea', ec', E ++ [(⟨y0, y1, y2, y3'⟩ : Edg)], by omega, by simp; omega, by go_num, HEN.out, HDG.out⟩
          case measure => simp [intOf]; omega
    · have e : k = 0 := by omega
      subst e
      obtain ⟨f, hf⟩ := HG.out.rs
      have g1 := HG.out.gr.cell (i := 1) (by decide)
      simp only [row2, if_false, show ¬ (1 : Nat) = 0 by decide] at g1
      have r0 := hf.cell (i := 0) (by decide)
      have r1 := hf.cell (i := 1) (by decide)
      have f0 := hf.frozen 0
      have f1 := hf.frozen 1
      have lw := hf.lt
      have hkF := HG.out.rs
      go_wp2_with fail
      have ht : Turn [w.heap.size] wr ((wr.setCell ⟨w.heap.size, 0, none⟩ (.int .i64 nn)).setCell ⟨w.heap.size, 1, none⟩ (.slice ea E.length ec)) := (Turn.set (by simp) _).trans' (Turn.set (by simp) _)
      have hr := (hf.set 0 (.int .i64 nn)).set 1 (.slice ea E.length ec)
      have p0 := hr.cell (i := 0) (by decide)
      have p1 := hr.cell (i := 1) (by decide)
      simp only [if_true, if_false, show ¬ (0 : Nat) = 1 by decide] at p0 p1
      have hle := HG.out.dr.le
      have hdF := HG.out.dr.turned ht (by simp; omega) (by simp; omega)
      have hoF := ownsE_turn HG.out.ow (fun j hj => ht.block j (HG.out.ow.lt j hj).2 (by have := (HG.out.ow.lt j hj).1; simp; omega))
      have htF : Turn [B] w ((wr.setCell ⟨w.heap.size, 0, none⟩ (.int .i64 nn)).setCell ⟨w.heap.size, 1, none⟩ (.slice ea E.length ec)) :=
        ⟨ht.os.trans HG.out.tu.os, ht.tape.trans HG.out.tu.tape, ht.output.trans HG.out.tu.output, Nat.le_trans HG.out.tu.size ht.size, fun k hk hn => (ht.block k (Nat.lt_of_lt_of_le hk HG.out.tu.size) (by simp; omega)).trans (HG.out.tu.block k hk hn)⟩
      refine bodyPost_ret (v := .agg #[.int .i64 nn, .slice ea E.length ec]) ?_ rfl ⟨⟨nn, ea, ec, E, rfl, by omega, HEN0.out, bornE hoF (by omega)⟩, hdF, htF⟩
      clear hdF hoF htF ht hr r0 r1 f0 f1 g0 g1
      revert p0 p1
      generalize World.setCell (World.setCell _ _ _) _ _ = WW
      intro p0 p1
      simp [results, Try.results53, go_sem, p0, p1]
end Go.Proofs.Ytaboogkioehkeaa
