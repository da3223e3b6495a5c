/- The model's rest arcs. -/
import Derived.Test.YtaboogkioehkeaaRc
import Derived.Deep.RegionHeld3
import Derived.Deep.AppendLies
namespace Go.Proofs.Ytaboogkioehkeaa
open Go.RowKit Go.Deep
set_option linter.unusedVariables false
set_option linter.unusedSimpArgs false
set_option maxRecDepth 10000

def ars (xs : List Arc) : List Value := xs.flatMap Arc.cells
theorem ars_len (xs : List Arc) : (ars xs).length = xs.length * 5 := flatMap_len (f := Arc.cells) (sz := 5) (fun _ => rfl) xs
theorem ars_append (xs ys : List Arc) : ars (xs ++ ys) = ars xs ++ ars ys := by simp [ars]
theorem ars_at {w : World} {a : Option Addr} {xs : List Arc} (h : Cells w a (ars xs)) (k : Nat) (hk : k < xs.length) :
    ∃ b off, a = some ⟨b, off, none⟩ ∧ w.cell? ⟨b, off + k * 5, none⟩ = some (.int .i64 xs[k].nm) ∧ w.cell? ⟨b, off + k * 5 + 1, none⟩ = some (.int .i64 xs[k].fr) ∧ w.cell? ⟨b, off + k * 5 + 2, none⟩ = some (.int .i64 xs[k].to) ∧ w.cell? ⟨b, off + k * 5 + 3, none⟩ = some (.int .i64 xs[k].rs) ∧ w.cell? ⟨b, off + k * 5 + 4, none⟩ = some (.int .i64 xs[k].co) := by
  obtain ⟨b, off, e, h⟩ := elem_at (f := Arc.cells) (sz := 5) (fun _ => rfl) h k hk (by decide)
  exact ⟨b, off, e, h 0 (by simp [Arc.cells]), h 1 (by simp [Arc.cells]), h 2 (by simp [Arc.cells]), h 3 (by simp [Arc.cells]), h 4 (by simp [Arc.cells])⟩
abbrev OwnsA (w : World) (base : Nat) (v : Value) (L : List Arc) : Prop := w.ownsRow base 73 5 v L.length (ars L)
theorem infoArcS : (Try.prog.info? 73).map (fun i => (i.zero, i.size, i.bytes)) = some (some (.agg #[.int .i64 0, .int .i64 0, .int .i64 0, .int .i64 0, .int .i64 0]), 5, 40) := by kernel_rfl
theorem underArcsS : Try.prog.underlying 70 = some (.slice 73) := by kernel_rfl
theorem ownsA_kept {w w' : World} {base : Nat} {v : Value} {L : List Arc} (h : OwnsA w base v L) (hk : Keeps w w') : OwnsA w' base v L := by
  refine ⟨h.1, ?_⟩
  rcases h.2 with h2 | ⟨g, cap, cur, e, h3, h4, h5⟩
  · exact .inl h2
  · exact .inr ⟨g, cap, cur, e, h3, by rw [Below.block hk g (h.lt g (by rw [e]; rfl)).2]; exact h4, h5⟩
theorem born_ars {W w : World} {base g cap : Nat} {L : List Arc} (h : OwnsA w base (.slice (some ⟨g, 0, none⟩) L.length cap) L) (hb : W.heap.size ≤ base) : Born W w [(some ⟨g, 0, none⟩, ars L)] := by
  refine ⟨⟨?_, ?_, ?_⟩, ?_⟩
  · intro s hs
    rw [List.mem_singleton.1 hs]
    refine Or.inr ⟨g, 0, rfl, fun j hj => ?_⟩
    have hj' : j < (ars L).length := hj
    have hl := ars_len L
    rw [Nat.zero_add, h.cellAt j (by omega), List.getElem?_eq_getElem hj']
  · by_cases h0 : ars L = [] <;> simp [fp, fpS, h0]
  · intro b hb'
    by_cases h0 : ars L = []
    · simp [fp, fpS, h0] at hb'
    · simp [fp, fpS, h0] at hb'
      subst hb'
      exact fun o => h.frozenAt o
  · intro b hb'
    by_cases h0 : ars L = []
    · simp [fp, fpS, h0] at hb'
    · simp [fp, fpS, h0] at hb'
      subst hb'
      have := (h.lt b rfl).1
      omega
theorem step_arc {w W : World} {ops : Array Oper} {o : Oper} {a : Act} {K : Act → World → Prop} {Q : Exit → Act → World → Prop} {E' : Prop} (hgd : o.guard = none) (s x : Operand)
    (ho : o.op = .call { callee := .builtin .append, args := #[s, x], argTypes := #[70, 70] }) (base g cap : Nat) (L : List Arc) (y : Arc) (hs : a.eval s = .slice (some ⟨g, 0, none⟩) L.length cap) (hx : a.eval x = .slice (some ⟨W.heap.size, 0, none⟩) 1 1)
    (hW : w = (W.alloc (.cells #[.int .i64 y.nm, .int .i64 y.fr, .int .i64 y.to, .int .i64 y.rs, .int .i64 y.co] 73)).drew) (hown : OwnsA W base (.slice (some ⟨g, 0, none⟩) L.length cap) L) (hl : L.length ≤ 1000) (hbase : base ≤ W.heap.size)
    (h : ∀ g' cap' w', OwnsA w' base (.slice (some ⟨g', 0, none⟩) (L.length + 1) cap') (L ++ [y]) → Turn [g] W w' → (g' = g ∨ W.heap.size ≤ g') → K (a.put o.dst (.slice (some ⟨g', 0, none⟩) (L.length + 1) cap')) w') :
    if Region.wanted o (yielded ops a.tmps) = true then Oper.wp Try.prog o a w K Q else E' := by
  have hI := infoArcS
  have hk : Keeps W w := by rw [hW]; exact ((Keeps.alloc (Keeps.refl W) _).drew)
  have hsz : w.heap.size = W.heap.size + 1 := by rw [hW]; simp
  have hc : ∀ j u, (ars [y])[j]? = some u → w.cell? ((⟨W.heap.size, 0, none⟩ : Addr).add j) = some u := by
    intro j u hj
    rw [addr_at, Nat.zero_add]
    have hj5 : j < 5 := by
      rcases Nat.lt_or_ge j 5 with h' | h'
      · exact h'
      · rw [List.getElem?_eq_none (by rw [ars_len]; simpa using h')] at hj; cases hj
    rw [hW]
    rcases (show j = 0 ∨ j = 1 ∨ j = 2 ∨ j = 3 ∨ j = 4 by omega) with rfl | rfl | rfl | rfl | rfl <;> (simp [ars, Arc.cells] at hj; subst hj; simp)
  cases hi : Try.prog.info? 73 with
  | none => rw [hi] at hI; simp at hI
  | some i =>
    rw [hi] at hI
    simp at hI
    obtain ⟨hz, hsz', hby⟩ := hI
    refine step_append_lies w hgd s x 70 ho base 73 i _ 5 40 underArcsS hi hz hsz' hby rfl (by decide) _ L.length (ars L) hs (ownsA_kept hown hk) ⟨W.heap.size, 0, none⟩ 1 1 (ars [y]) hx (by rw [ars_len]; rfl) hc (fun u hu => ?_) (by decide) ?_ ?_ (by omega) _ rfl ?_
    · simp [ars, Arc.cells] at hu
      rcases hu with rfl | rfl | rfl | rfl | rfl <;> rfl
    · simp only [maxLen]; omega
    · omega
    · intro g' cap' w' h1 h2 h3 h4
      refine h g' cap' w' ?_ ((Turn.of_keeps hk _).trans' (Turn.of_grown h2 (fun k hk => by cases hk; simp))) (by
        rcases h3 with h3 | h3
        · left; cases h3; rfl
        · right; omega)
      unfold OwnsA
      rw [ars_append, List.length_append]
      exact h1
set_option maxHeartbeats 8000000 in
theorem arcs_spec (G : Gf) (n : Nat) (fa : Option Addr) (fc : Nat) (f : List Int) (w : World) (hnn : G.nn = (n : Int)) (hflow : flowB (n : Int) G.E f = true) (hm : Mem w G.segs) (hf : Cells w fa (its f)) :
    Calls Try.prog 45 #[G.v, .slice fa G.E.length fc] w fun e w' => ∃ g cap, e = .returned (.slice (some ⟨g, 0, none⟩) (arcs G.E f).length cap) ∧ Born w w' [(some ⟨g, 0, none⟩, ars (arcs G.E f))] ∧ Keeps w w' := by
  obtain ⟨nn, ea, ec, E⟩ := G
  dsimp only [Gf.v, Gf.segs] at *
  subst hnn
  have HM := hide hm
  have HF := hide hf
  have HKB := hide (Keeps.alloc (Keeps.refl w) (.cells #[.int .i64 (n : Int), .slice ea E.length ec] 25))
  obtain ⟨hg, hle, hcap, hbal⟩ := flowB_true hflow
  obtain ⟨g1, g2, g3, g4⟩ := graphB_true hg
  have HL := hide hle
  have HG4 := hide g4
  have HCP := hide hcap
  clear hm hf hg hcap hbal g4 hflow hle
  have HS0 : Hid ((w.alloc (.cells #[.int .i64 (n : Int), .slice ea E.length ec] 25)).heap.size = w.heap.size + 1) := by show _ = _; simp
  have HO0 : Hid (OwnsA ((w.alloc (.cells #[.int .i64 (n : Int), .slice ea E.length ec] 25)).alloc (.cells #[] 73)) (w.heap.size + 1) (.slice (some ⟨w.heap.size + 1, 0, none⟩) 0 0) []) := by
    have h := World.ownsRow_made (base := w.heap.size + 1) (e := 73) (size := 5) (w.alloc (.cells #[.int .i64 (n : Int), .slice ea E.length ec] 25)) #[] 0 (by simp) (by decide) (by simp)
    rw [HS0.out] at h
    exact h
  have HK0 := hide (HKB.out.alloc (.cells #[] 73))
  have q1 : ((w.alloc (.cells #[.int .i64 (n : Int), .slice ea E.length ec] 25)).alloc (.cells #[] 73)).cell? ⟨w.heap.size, 1, none⟩ = some (.slice ea E.length ec) := by simp
  go_enter Try.func45, Try.ntmps45
  go_wp2_with fail
  clear q1
  generalize (w.alloc (.cells #[.int .i64 (n : Int), .slice ea E.length ec] 25)).alloc (.cells #[] 73) = W0 at *
  go_loopw [5, 12] (fun v y wr => ∃ k g cap, k ≤ E.length ∧ v = .slice (some ⟨g, 0, none⟩) (arcsTo E f k).length cap ∧ y = .int .i64 (k : Int) ∧ Hid (OwnsA wr (w.heap.size + 1) (.slice (some ⟨g, 0, none⟩) (arcsTo E f k).length cap) (arcsTo E f k)) ∧ Hid (Keeps w wr)) (fun _ y _ => E.length - (intOf y).toNat)
  case atStart => exact ⟨0, _, _, by omega, rfl, rfl, HO0.out, HK0.out⟩
  case round =>
    obtain ⟨k, g, cap, hk, rfl, rfl, HO, HK⟩ := hrel
    clear HO0 HK0
    by_cases hlt : k < E.length
    · have hkf : k < f.length := by rw [HL.out]; exact hlt
      obtain ⟨eb0, eoff, ea', c0, c1, c2, c3⟩ := egs_at ((HM.out.kept HK.out) (ea, egs E) (by simp)) k hlt
      obtain ⟨fb, foff, fa', y0⟩ := its_at HF.out k hkf
      have hfl := lt_of_cell y0
      replace y0 := HK.out.cell y0
      have he := edgeB_true (HG4.out k hlt)
      have hcy := HCP.out k hlt hkf
      have HAS : Hid (arcsTo E f (k + 1) = arcsTo E f k ++ (if f[k] < E[k].cp then [(⟨2 * (k : Int), E[k].fr, E[k].to, E[k].cp - f[k], E[k].co⟩ : Arc)] else []) ++ (if 0 < f[k] then [(⟨2 * (k : Int) + 1, E[k].to, E[k].fr, f[k], -E[k].co⟩ : Arc)] else [])) := by
        show _ = _; rw [arcsTo_step hlt hkf]; rfl
      generalize E[k] = x at *
      generalize f[k] = y at *
      obtain ⟨xfr, xto, xcp, xco⟩ := x
      dsimp only at c0 c1 c2 c3 he hcy HAS
      have HX := hide ea'
      obtain rfl := fa'
      clear ea'
      obtain rfl := HX.out
      obtain ⟨-, -, -, -, -, e5, e6, e7, e8⟩ := he
      have w0 : IntKind.i64.wrap (2 * (k : Int)) = 2 * (k : Int) := by rw [IntKind.wrap_i64]; omega
      have w1 : IntKind.i64.wrap (2 * (k : Int) + 1) = 2 * (k : Int) + 1 := by rw [IntKind.wrap_i64]; omega
      have w2 : IntKind.i64.wrap (xcp - y) = xcp - y := by rw [IntKind.wrap_i64]; omega
      have w3 : IntKind.i64.wrap (-xco) = -xco := by rw [IntKind.wrap_i64]; omega
      go_upto_region 5 with fail
      have HKA := hide (Keeps.alloc (Keeps.refl wr) (.cells #[.int .i64 xfr, .int .i64 xto, .int .i64 xcp, .int .i64 xco] 66))
      have v0 : (wr.alloc (.cells #[.int .i64 xfr, .int .i64 xto, .int .i64 xcp, .int .i64 xco] 66)).cell? ⟨wr.heap.size, 0, none⟩ = some (.int .i64 xfr) := by simp
      have v1 : (wr.alloc (.cells #[.int .i64 xfr, .int .i64 xto, .int .i64 xcp, .int .i64 xco] 66)).cell? ⟨wr.heap.size, 1, none⟩ = some (.int .i64 xto) := by simp
      have v2 : (wr.alloc (.cells #[.int .i64 xfr, .int .i64 xto, .int .i64 xcp, .int .i64 xco] 66)).cell? ⟨wr.heap.size, 2, none⟩ = some (.int .i64 xcp) := by simp
      have v3 : (wr.alloc (.cells #[.int .i64 xfr, .int .i64 xto, .int .i64 xcp, .int .i64 xco] 66)).cell? ⟨wr.heap.size, 3, none⟩ = some (.int .i64 xco) := by simp
      replace y0 := HKA.out.cell y0
      have HGL := hide (HO.out.lt g rfl)
      replace HO := hide (ownsA_kept HO.out HKA.out)
      replace HK := hide (HK.out.trans HKA.out)
      obtain ⟨V, hV⟩ : ∃ V, V = wr.heap.size := ⟨_, rfl⟩
      rw [← hV] at v0 v1 v2 v3 HGL ⊢
      clear hV c0 c1 c2 c3 HKA
      generalize wr.alloc (.cells #[.int .i64 xfr, .int .i64 xto, .int .i64 xcp, .int .i64 xco] 66) = W2 at *
      have HVG : Hid (V ∉ [g]) := by have := HGL.out; show ¬ _; simp; omega
      have HFG : Hid (fb ∉ [g]) := by have := HGL.out; show ¬ _; simp; omega
      have HVF : Hid (w.heap.size + 1 ≤ V ∧ fb < w.heap.size) := ⟨by have := HGL.out; omega, hfl⟩
      clear hfl
      by_cases hy1 : y < xcp
      · have hd : decide (y < xcp) = true := by simp [hy1]
        rw [if_pos hy1] at HAS
        go_quiet (fail)
        have hk3 := (Keeps.refl W2).drewN nq
        replace v0 := hk3.cell v0
        replace v1 := hk3.cell v1
        replace v2 := hk3.cell v2
        replace v3 := hk3.cell v3
        replace y0 := hk3.cell y0
        replace HO := hide (ownsA_kept HO.out hk3)
        replace HK := hide (HK.out.trans hk3)
        clear hk3
        generalize W2.drewN nq = W3 at *
        have HBS : Hid (w.heap.size + 1 ≤ W3.heap.size) := by show _ ≤ _; have := (HO.out.lt g rfl).2; have := (HO.out.lt g rfl).1; omega
        have HBL : Hid ((arcsTo E f k).length ≤ 1000) := by show _ ≤ _; have := arcsTo_len E f k; omega
        go_upto_region 6 with fail
        go_region_held3 (fun w' => w'.cell? ⟨V, 0, none⟩ = some (.int .i64 xfr) ∧ w'.cell? ⟨V, 1, none⟩ = some (.int .i64 xto) ∧ w'.cell? ⟨V, 2, none⟩ = some (.int .i64 xcp) ∧ w'.cell? ⟨V, 3, none⟩ = some (.int .i64 xco) ∧ w'.cell? ⟨fb, foff + k, none⟩ = some (.int .i64 y)) (first | (go_keep; done) | exact ⟨v0, v1, v2, v3, y0⟩)
          (first
            | (refine step_arc (W := W3) (by rfl) (.tmp 24) (.tmp 41) (by rfl) (w.heap.size + 1) _ _ _ ⟨2 * (k : Int), xfr, xto, xcp - y, xco⟩ (by rfl) (by rfl) (by rfl) HO.out HBL.out HBS.out ?_
               intro g2 cap2 w4 ho ht hgg
               have hgV : w.heap.size + 1 ≤ g := (HO.out.lt _ rfl).1
               have hVW : V < W3.heap.size := lt_of_cell v0
               have hg2 : w.heap.size + 1 ≤ g2 := (ho.lt _ rfl).1
               replace HO := hide ho
               replace v0 := ht.cell (HVG.out) v0
               replace v1 := ht.cell (HVG.out) v1
               replace v2 := ht.cell (HVG.out) v2
               replace v3 := ht.cell (HVG.out) v3
               replace y0 := ht.cell (HFG.out) y0
               replace HK := hide (ht.keeps HK.out (by simp; omega))
               replace HVG : Hid (V ∉ [g2]) := by have h1 := HVG.out; show ¬ _; simp at h1 ⊢; omega
               replace HFG : Hid (fb ∉ [g2]) := by have h1 := HVF.out.2; show ¬ _; simp; omega
               clear ho ht hgV hgg hVW hg2))
        have HO' : Hid (OwnsA w4 (w.heap.size + 1) (.slice (some ⟨g2, 0, none⟩) (arcsTo E f k ++ [(⟨2 * (k : Int), xfr, xto, xcp - y, xco⟩ : Arc)]).length cap2) (arcsTo E f k ++ [(⟨2 * (k : Int), xfr, xto, xcp - y, xco⟩ : Arc)])) := by show OwnsA _ _ _ _; rw [List.length_append]; exact HO.out
        have HLL : Hid ((arcsTo E f k).length + 1 = (arcsTo E f k ++ [(⟨2 * (k : Int), xfr, xto, xcp - y, xco⟩ : Arc)]).length) := by show _ = _; simp
        rw [HLL.out]
        have HBL : Hid ((arcsTo E f k ++ [(⟨2 * (k : Int), xfr, xto, xcp - y, xco⟩ : Arc)]).length ≤ 1000) := by show _ ≤ _; have := arcsTo_len E f k; simp; omega
        clear HO HLL
        generalize arcsTo E f k ++ [(⟨2 * (k : Int), xfr, xto, xcp - y, xco⟩ : Arc)] = LA at *
        have HO := hide HO'.out
        clear HO'
        by_cases hy2 : 0 < y
        · have hp : decide (0 < y) = true := by simp [hy2]
          rw [if_pos hy2] at HAS
          have HBS : Hid (w.heap.size + 1 ≤ w4.heap.size) := by show _ ≤ _; have := (HO.out.lt g2 rfl).2; have := (HO.out.lt g2 rfl).1; omega
          go_upto_region 8 with fail
          go_region_held3 (fun w' => w'.cell? ⟨V, 0, none⟩ = some (.int .i64 xfr) ∧ w'.cell? ⟨V, 1, none⟩ = some (.int .i64 xto) ∧ w'.cell? ⟨V, 2, none⟩ = some (.int .i64 xcp) ∧ w'.cell? ⟨V, 3, none⟩ = some (.int .i64 xco) ∧ w'.cell? ⟨fb, foff + k, none⟩ = some (.int .i64 y)) (first | (go_keep; done) | exact ⟨v0, v1, v2, v3, y0⟩)
            (first
              | (refine step_arc (W := w4) (by rfl) (.tmp 48) (.tmp 64) (by rfl) (w.heap.size + 1) _ _ _ ⟨2 * (k : Int) + 1, xto, xfr, y, -xco⟩ (by rfl) (by rfl) (by rfl) HO.out HBL.out HBS.out ?_
                 intro g3 cap3 w6 ho ht hgg
                 have hgV : w.heap.size + 1 ≤ g2 := (HO.out.lt _ rfl).1
                 have hVW : V < w4.heap.size := lt_of_cell v0
                 have hg2 : w.heap.size + 1 ≤ g3 := (ho.lt _ rfl).1
                 replace HO := hide ho
                 replace v0 := ht.cell (HVG.out) v0
                 replace v1 := ht.cell (HVG.out) v1
                 replace v2 := ht.cell (HVG.out) v2
                 replace v3 := ht.cell (HVG.out) v3
                 replace y0 := ht.cell (HFG.out) y0
                 replace HK := hide (ht.keeps HK.out (by simp; omega))
                 replace HVG : Hid (V ∉ [g3]) := by have h1 := HVG.out; show ¬ _; simp at h1 ⊢; omega
                 replace HFG : Hid (fb ∉ [g3]) := by have h1 := HVF.out.2; show ¬ _; simp; omega
                 clear ho ht hgV hgg hVW hg2))
          go_wp2_with fail
          go_roundw
          case rel => exact ⟨k + 1, g3, cap3, by omega, by rw [HAS.out]; simp, by go_num, by show OwnsA _ _ _ _; rw [HAS.out, List.length_append]; exact HO.out, HK.out⟩
          case measure => simp [intOf]; omega
        · have hp : decide (0 < y) = false := by simp; omega
          rw [if_neg hy2, List.append_nil] at HAS
          go_wp2_with fail
          go_roundw
          case rel => exact ⟨k + 1, g2, cap2, by omega, by rw [HAS.out], by go_num, by show OwnsA _ _ _ _; rw [HAS.out]; exact HO.out, HK.out⟩
          case measure => simp [intOf]; omega
      · have hd : decide (y < xcp) = false := by simp; omega
        rw [if_neg hy1, List.append_nil] at HAS
        go_quiet (fail)
        have hk3 := (Keeps.refl W2).drewN nq
        replace v0 := hk3.cell v0
        replace v1 := hk3.cell v1
        replace v2 := hk3.cell v2
        replace v3 := hk3.cell v3
        replace y0 := hk3.cell y0
        have HO' := hide (ownsA_kept HO.out hk3)
        replace HK := hide (HK.out.trans hk3)
        clear hk3 HO
        generalize W2.drewN nq = W3 at *
        have HBL : Hid ((arcsTo E f k).length ≤ 1000) := by show _ ≤ _; have := arcsTo_len E f k; omega
        generalize arcsTo E f k = LA at *
        have HO := hide HO'.out
        clear HO'
        by_cases hy2 : 0 < y
        · have hp : decide (0 < y) = true := by simp [hy2]
          rw [if_pos hy2] at HAS
          have HBS : Hid (w.heap.size + 1 ≤ W3.heap.size) := by show _ ≤ _; have := (HO.out.lt g rfl).2; have := (HO.out.lt g rfl).1; omega
          go_upto_region 8 with fail
          go_region_held3 (fun w' => w'.cell? ⟨V, 0, none⟩ = some (.int .i64 xfr) ∧ w'.cell? ⟨V, 1, none⟩ = some (.int .i64 xto) ∧ w'.cell? ⟨V, 2, none⟩ = some (.int .i64 xcp) ∧ w'.cell? ⟨V, 3, none⟩ = some (.int .i64 xco) ∧ w'.cell? ⟨fb, foff + k, none⟩ = some (.int .i64 y)) (first | (go_keep; done) | exact ⟨v0, v1, v2, v3, y0⟩)
            (first
              | (refine step_arc (W := W3) (by rfl) (.tmp 48) (.tmp 64) (by rfl) (w.heap.size + 1) _ _ _ ⟨2 * (k : Int) + 1, xto, xfr, y, -xco⟩ (by rfl) (by rfl) (by rfl) HO.out HBL.out HBS.out ?_
                 intro g3 cap3 w6 ho ht hgg
                 have hgV : w.heap.size + 1 ≤ g := (HO.out.lt _ rfl).1
                 have hVW : V < W3.heap.size := lt_of_cell v0
                 have hg2 : w.heap.size + 1 ≤ g3 := (ho.lt _ rfl).1
                 replace HO := hide ho
                 replace v0 := ht.cell (HVG.out) v0
                 replace v1 := ht.cell (HVG.out) v1
                 replace v2 := ht.cell (HVG.out) v2
                 replace v3 := ht.cell (HVG.out) v3
                 replace y0 := ht.cell (HFG.out) y0
                 replace HK := hide (ht.keeps HK.out (by simp; omega))
                 replace HVG : Hid (V ∉ [g3]) := by have h1 := HVG.out; show ¬ _; simp at h1 ⊢; omega
                 replace HFG : Hid (fb ∉ [g3]) := by have h1 := HVF.out.2; show ¬ _; simp; omega
                 clear ho ht hgV hgg hVW hg2))
          go_wp2_with fail
          go_roundw
          case rel => exact ⟨k + 1, g3, cap3, by omega, by rw [HAS.out]; simp, by go_num, by show OwnsA _ _ _ _; rw [HAS.out, List.length_append]; exact HO.out, HK.out⟩
          case measure => simp [intOf]; omega
        · have hp : decide (0 < y) = false := by simp; omega
          rw [if_neg hy2, List.append_nil] at HAS
          go_wp2_with fail
          go_roundw
          case rel => exact ⟨k + 1, g, cap, by omega, by rw [HAS.out], by go_num, by show OwnsA _ _ _ _; rw [HAS.out]; exact HO.out, HK.out⟩
          case measure => simp [intOf]; omega
    · have e : k = E.length := by omega
      subst e
      go_wp2_with fail
      go_ret
      exact ⟨g, cap, rfl, born_ars HO.out (Nat.le_succ _), HK.out⟩
end Go.Proofs.Ytaboogkioehkeaa
