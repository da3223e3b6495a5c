/- The program tells the rest arcs one by one, to the reader of rests. -/
import Derived.Test.YtaboogkioehkeaaRc
import Derived.Deep.RegionHeld3
namespace Go.Proofs.Ytaboogkioehkeaa
open Go.RowKit Go.Deep
set_option linter.unusedVariables false
set_option linter.unusedSimpArgs false
set_option maxRecDepth 10000

set_option maxHeartbeats 8000000 in
theorem each_least (G : Gf) (n : Nat) (fa : Option Addr) (fc : Nat) (f : List Int) (rb : Nat) (J : Nat → World → Prop) (fs : List Nat) (w : World) (hnn : G.nn = (n : Int)) (hflow : flowB (n : Int) G.E f = true) (hm : Mem w G.segs) (hf : Cells w fa (its f))
    (hE : ∀ b ∈ fp G.segs, b ∉ fs) (hF : ∀ b ∈ fp [(fa, its f)], b ∉ fs) (hfs : ∀ b ∈ fs, b < w.heap.size)
    (hst : ∀ j w1 w2, J j w1 → Keeps w1 w2 → J j w2)
    (hcl : ∀ j (hj : j < (arcs G.E f).length) w1, J j w1 → Calls Try.prog 57 #[(arcs G.E f)[j].v, .pointer (some ⟨rb, 0, none⟩)] w1 fun e w' => e = .returned (.tuple #[]) ∧ J (j + 1) w' ∧ Turn fs w1 w')
    (h0 : J 0 w) :
    Calls Try.prog 36 #[G.v, .slice fa f.length fc, .func (Fn.func 57) #[] #[.pointer (some ⟨rb, 0, none⟩)]] w fun e w' => e = .returned (.tuple #[]) ∧ J (arcs G.E f).length w' ∧ Turn fs w w' := by
  obtain ⟨nn, ea, ec, E⟩ := G
  dsimp only [Gf.v, Gf.segs] at *
  subst hnn
  have HM := hide hm
  have HF := hide hf
  have HEf := hide hE
  have HFf := hide hF
  have HST := hide hst
  have HCL := hide hcl
  have HFS := hide hfs
  have HB := hide (gr_box ⟨(n : Int), ea, ec, E⟩ w 25)
  have HK := hide (Keeps.alloc (Keeps.refl w) (.cells #[.int .i64 (n : Int), .slice ea E.length ec] 25))
  have HJ0 := hide (hst 0 _ _ h0 HK.out)
  obtain ⟨hg, hle, hcap, hbal⟩ := flowB_true hflow
  obtain ⟨g1, g2, g3, g4⟩ := graphB_true hg
  have HL := hide hle
  have HG4 := hide g4
  have HCP := hide hcap
  clear hm hf hE hF hst hcl hfs h0 hg hcap hbal g4 hflow
  rw [hle]
  clear hle
  have HS0 : Hid ((w.alloc (.cells #[.int .i64 (n : Int), .slice ea E.length ec] 25)).heap.size = w.heap.size + 1) := by show _ = _; simp
  go_enter Try.func36, Try.ntmps36
  go_wp2_with fail
  generalize w.alloc (.cells #[.int .i64 (n : Int), .slice ea E.length ec] 25) = W0 at *
  go_loopw [11] (fun y wr => ∃ k : Nat, k ≤ E.length ∧ y = .int .i64 (k : Int) ∧ Hid (J (arcsTo E f k).length wr) ∧ Hid (Turn fs W0 wr)) (fun y _ => E.length - (intOf y).toNat)
  case atStart => exact ⟨0, by omega, rfl, HJ0.out, Turn.refl _ _⟩
  case round =>
    obtain ⟨k, hk, rfl, HJ, HTr⟩ := hrel
    by_cases hlt : k < E.length
    · have hkf : k < f.length := by rw [HL.out]; exact hlt
      have HTw : Hid (Turn fs w wr) := (Turn.of_keeps HK.out _).trans' HTr.out
      obtain ⟨eb0, eoff, ea', c0, c1, c2, c3⟩ := egs_at ((HM.out.turn HTw.out HEf.out) (ea, egs E) (by simp)) k hlt
      obtain ⟨fb, foff, fa', y0⟩ := its_at HF.out k hkf
      have hFf : fb ∉ fs := HFf.out fb (by rw [fp_one, fa', fpS_some (by rw [ne_eq, its_nil]; intro e; rw [e] at hkf; simp at hkf)]; simp)
      replace y0 := HTw.out.cell hFf y0
      have he := edgeB_true (HG4.out k hlt)
      have hcy := HCP.out k hlt hkf
      have HAS : Hid (arcsTo E f (k + 1) = arcsTo E f k ++ (if f[k] < E[k].cp then [(⟨2 * (k : Int), E[k].fr, E[k].to, E[k].cp - f[k], E[k].co⟩ : Arc)] else []) ++ (if 0 < f[k] then [(⟨2 * (k : Int) + 1, E[k].to, E[k].fr, f[k], -E[k].co⟩ : Arc)] else [])) := by
        show _ = _; rw [arcsTo_step hlt hkf]; rfl
      have HA : Hid (f[k] < E[k].cp → ∀ w1, J (arcsTo E f k).length w1 → Calls Try.prog 57 #[(⟨2 * (k : Int), E[k].fr, E[k].to, E[k].cp - f[k], E[k].co⟩ : Arc).v, .pointer (some ⟨rb, 0, none⟩)] w1 fun e w' => e = .returned (.tuple #[]) ∧ J ((arcsTo E f k).length + 1) w' ∧ Turn fs w1 w') := fun h w1 hj => by
        obtain ⟨hj', e⟩ := arcs_a hlt hkf h
        have := HCL.out _ hj' w1 hj
        rw [e] at this; exact this
      have HZ : Hid (0 < f[k] → ∀ w1, J (arcsTo E f k ++ (if f[k] < E[k].cp then [(⟨2 * (k : Int), E[k].fr, E[k].to, E[k].cp - f[k], E[k].co⟩ : Arc)] else [])).length w1 → Calls Try.prog 57 #[(⟨2 * (k : Int) + 1, E[k].to, E[k].fr, f[k], -E[k].co⟩ : Arc).v, .pointer (some ⟨rb, 0, none⟩)] w1 fun e w' => e = .returned (.tuple #[]) ∧ J ((arcsTo E f k ++ (if f[k] < E[k].cp then [(⟨2 * (k : Int), E[k].fr, E[k].to, E[k].cp - f[k], E[k].co⟩ : Arc)] else [])).length + 1) w' ∧ Turn fs w1 w') := fun h w1 hj => by
        obtain ⟨hj', e⟩ := arcs_z hlt hkf h
        have := HCL.out _ hj' w1 hj
        rw [e] at this; exact this
      have hVf : wr.heap.size ∉ fs := fun hx => by have := HFS.out _ hx; have := HTr.out.size; have := HS0.out; omega
      generalize E[k] = x at *
      generalize f[k] = y at *
      obtain ⟨xfr, xto, xcp, xco⟩ := x
      dsimp only [Arc.v] at c0 c1 c2 c3 he hcy HAS HA HZ
      have HX := hide ea'
      obtain rfl := fa'
      clear ea'
      obtain rfl := HX.out
      obtain ⟨-, -, -, -, -, e5, e6, e7, e8⟩ := he
      have w0 : IntKind.i64.wrap (2 * (k : Int)) = 2 * (k : Int) := by rw [IntKind.wrap_i64]; omega
      have w1 : IntKind.i64.wrap (2 * (k : Int) + 1) = 2 * (k : Int) + 1 := by rw [IntKind.wrap_i64]; omega
      have w2 : IntKind.i64.wrap (xcp - y) = xcp - y := by rw [IntKind.wrap_i64]; omega
      have w3 : IntKind.i64.wrap (-xco) = -xco := by rw [IntKind.wrap_i64]; omega
      go_upto_region 4 with fail
      have HKA := hide (Keeps.alloc (Keeps.refl wr) (.cells #[.int .i64 xfr, .int .i64 xto, .int .i64 xcp, .int .i64 xco] 66))
      have v0 : (wr.alloc (.cells #[.int .i64 xfr, .int .i64 xto, .int .i64 xcp, .int .i64 xco] 66)).cell? ⟨wr.heap.size, 0, none⟩ = some (.int .i64 xfr) := by simp
      have v1 : (wr.alloc (.cells #[.int .i64 xfr, .int .i64 xto, .int .i64 xcp, .int .i64 xco] 66)).cell? ⟨wr.heap.size, 1, none⟩ = some (.int .i64 xto) := by simp
      have v2 : (wr.alloc (.cells #[.int .i64 xfr, .int .i64 xto, .int .i64 xcp, .int .i64 xco] 66)).cell? ⟨wr.heap.size, 2, none⟩ = some (.int .i64 xcp) := by simp
      have v3 : (wr.alloc (.cells #[.int .i64 xfr, .int .i64 xto, .int .i64 xcp, .int .i64 xco] 66)).cell? ⟨wr.heap.size, 3, none⟩ = some (.int .i64 xco) := by simp
      replace y0 := HKA.out.cell y0
      replace HJ := hide (HST.out _ _ _ HJ.out HKA.out)
      have HTA := hide (HTr.out.trans' (Turn.of_keeps HKA.out fs))
      obtain ⟨V, hV⟩ : ∃ V, V = wr.heap.size := ⟨_, rfl⟩
      rw [← hV] at v0 v1 v2 v3 hVf ⊢
      have HV := hide hV
      clear hV c0 c1 c2 c3 HKA HTw
      generalize wr.alloc (.cells #[.int .i64 xfr, .int .i64 xto, .int .i64 xcp, .int .i64 xco] 66) = W2 at *
      clear HV HTr
      by_cases hy1 : y < xcp
      · have HCA := hide (HA.out hy1)
        simp only [if_pos hy1] at HAS HZ
        have hd : decide (y < xcp) = true := by simp [hy1]
        go_quiet (fail)
        have hk3 := (Keeps.refl W2).drewN nq
        replace v0 := hk3.cell v0
        replace v1 := hk3.cell v1
        replace v2 := hk3.cell v2
        replace v3 := hk3.cell v3
        replace y0 := hk3.cell y0
        replace HJ := hide (HST.out _ _ _ HJ.out hk3)
        replace HTA := hide (HTA.out.trans' (Turn.of_keeps hk3 fs))
        clear hk3
        generalize W2.drewN nq = W3 at *
        go_upto_region 5 with fail
        go_region_held3 (fun w' => w'.cell? ⟨V, 0, none⟩ = some (.int .i64 xfr) ∧ w'.cell? ⟨V, 1, none⟩ = some (.int .i64 xto) ∧ w'.cell? ⟨V, 2, none⟩ = some (.int .i64 xcp) ∧ w'.cell? ⟨V, 3, none⟩ = some (.int .i64 xco) ∧ w'.cell? ⟨fb, foff + k, none⟩ = some (.int .i64 y)) (go_keep)
          (first
            | (go_at_call 57
               refine (unhide HCA _ (HST.out _ _ _ HJ.out ((Keeps.refl W3).drew))).mono ?_
               rintro e w4 ⟨rfl, hj, ht⟩
               replace ht := (Turn.of_keeps ((Keeps.refl W3).drew) fs).trans' ht
               replace HJ := hide hj
               replace HTA := hide (HTA.out.trans' ht)
               replace v0 := ht.cell hVf v0
               replace v1 := ht.cell hVf v1
               replace v2 := ht.cell hVf v2
               replace v3 := ht.cell hVf v3
               replace y0 := ht.cell hFf y0
               clear hj ht))
        replace HJ : Hid (J (arcsTo E f k ++ [(⟨2 * (k : Int), xfr, xto, xcp - y, xco⟩ : Arc)]).length w4) := by show J _ _; rw [List.length_append]; exact HJ.out
        by_cases hy2 : 0 < y
        · have HCZ := hide (HZ.out hy2)
          rw [if_pos hy2] at HAS
          have hp : decide (0 < y) = true := by simp [hy2]
          go_upto_region 7 with fail
          go_region_held3 (fun w' => w'.cell? ⟨V, 0, none⟩ = some (.int .i64 xfr) ∧ w'.cell? ⟨V, 1, none⟩ = some (.int .i64 xto) ∧ w'.cell? ⟨V, 2, none⟩ = some (.int .i64 xcp) ∧ w'.cell? ⟨V, 3, none⟩ = some (.int .i64 xco) ∧ w'.cell? ⟨fb, foff + k, none⟩ = some (.int .i64 y)) (go_keep)
            (first
              | (go_at_call 57
                 refine (unhide HCZ _ (HST.out _ _ _ HJ.out ((Keeps.refl w4).drew))).mono ?_
                 rintro e w5 ⟨rfl, hj, ht⟩
                 replace ht := (Turn.of_keeps ((Keeps.refl w4).drew) fs).trans' ht
                 replace HJ := hide hj
                 replace HTA := hide (HTA.out.trans' ht)
                 replace v0 := ht.cell hVf v0
                 replace v1 := ht.cell hVf v1
                 replace v2 := ht.cell hVf v2
                 replace v3 := ht.cell hVf v3
                 replace y0 := ht.cell hFf y0
                 clear hj ht))
          go_wp2_with fail
          go_roundw
          case rel => exact ⟨k + 1, by omega, by go_num, (by show J (arcsTo E f (k + 1)).length _; rw [HAS.out]; simpa using HJ.out), HTA.out⟩
          case measure => simp [intOf]; omega
        · rw [if_neg hy2] at HAS
          have hp : decide (0 < y) = false := by simp; omega
          go_wp2_with fail
          go_roundw
          case rel => exact ⟨k + 1, by omega, by go_num, (by show J (arcsTo E f (k + 1)).length _; rw [HAS.out]; simpa using HJ.out), HTA.out⟩
          case measure => simp [intOf]; omega
      · simp only [if_neg hy1] at HAS HZ
        simp only [List.append_nil] at HAS HZ
        have hd : decide (y < xcp) = false := by simp; omega
        go_quiet (fail)
        have hk3 := (Keeps.refl W2).drewN nq
        replace v0 := hk3.cell v0
        replace v1 := hk3.cell v1
        replace v2 := hk3.cell v2
        replace v3 := hk3.cell v3
        replace y0 := hk3.cell y0
        replace HJ := hide (HST.out _ _ _ HJ.out hk3)
        replace HTA := hide (HTA.out.trans' (Turn.of_keeps hk3 fs))
        clear hk3
        generalize W2.drewN nq = W3 at *
        by_cases hy2 : 0 < y
        · have HCZ := hide (HZ.out hy2)
          rw [if_pos hy2] at HAS
          have hp : decide (0 < y) = true := by simp [hy2]
          go_upto_region 7 with fail
          go_region_held3 (fun w' => w'.cell? ⟨V, 0, none⟩ = some (.int .i64 xfr) ∧ w'.cell? ⟨V, 1, none⟩ = some (.int .i64 xto) ∧ w'.cell? ⟨V, 2, none⟩ = some (.int .i64 xcp) ∧ w'.cell? ⟨V, 3, none⟩ = some (.int .i64 xco) ∧ w'.cell? ⟨fb, foff + k, none⟩ = some (.int .i64 y)) (go_keep)
            (first
              | (go_at_call 57
                 refine (unhide HCZ _ (HST.out _ _ _ HJ.out ((Keeps.refl W3).drew))).mono ?_
                 rintro e w5 ⟨rfl, hj, ht⟩
                 replace ht := (Turn.of_keeps ((Keeps.refl W3).drew) fs).trans' ht
                 replace HJ := hide hj
                 replace HTA := hide (HTA.out.trans' ht)
                 replace v0 := ht.cell hVf v0
                 replace v1 := ht.cell hVf v1
                 replace v2 := ht.cell hVf v2
                 replace v3 := ht.cell hVf v3
                 replace y0 := ht.cell hFf y0
                 clear hj ht))
          go_wp2_with fail
          go_roundw
          case rel => exact ⟨k + 1, by omega, by go_num, (by show J (arcsTo E f (k + 1)).length _; rw [HAS.out]; simpa using HJ.out), HTA.out⟩
          case measure => simp [intOf]; omega
        · rw [if_neg hy2] at HAS
          have hp : decide (0 < y) = false := by simp; omega
          go_wp2_with fail
          go_roundw
          case rel => exact ⟨k + 1, by omega, by go_num, (by show J (arcsTo E f (k + 1)).length _; rw [HAS.out]; simpa using HJ.out), HTA.out⟩
          case measure => simp [intOf]; omega
    · have e : k = E.length := by omega
      subst e
      go_wp2_with fail
      go_end0
      exact ⟨rfl, HJ.out, (Turn.of_keeps HK.out _).trans' HTr.out⟩
end Go.Proofs.Ytaboogkioehkeaa
