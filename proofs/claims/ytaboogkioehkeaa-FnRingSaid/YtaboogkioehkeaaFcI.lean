/- Cost. -/
import Derived.Test.YtaboogkioehkeaaFfI
namespace Go.Proofs.Ytaboogkioehkeaa
open Go.RowKit Go.Deep
set_option linter.unusedVariables false
set_option linter.unusedSimpArgs false
set_option maxRecDepth 10000

set_option maxHeartbeats 8000000 in
theorem cost_impl (G : Gf) (fa : Option Addr) (fc : Nat) (f : List Int) (w : World) (hm : Mem w G.segs) (hf : Cells w fa (its f)) (hl : G.len) (hlf : f.length ≤ 1048576) : Calls Try.prog 17 #[G.v, .slice fa f.length fc] w fun e w' => e = .returned (.int .i64 (costV G.nn G.E f)) ∧ Keeps w w' := by
  have HQ := hide (fun w' (hk : Keeps w w') => flow_impl G fa fc f w' (hm.kept hk) (hf.kept hk) hl hlf)
  obtain ⟨nn, ea, ec, E⟩ := G
  have HC := hide (fun w' (hk : Keeps w w') => Gf.memE (hm.kept hk))
  have HF := hide hf
  have HB := hide (gr_box ⟨nn, ea, ec, E⟩ w 25)
  have HK := hide (Keeps.alloc (Keeps.refl w) (.cells #[.int .i64 nn, .slice ea E.length ec] 25))
  dsimp only [Gf.v, Gf.len] at *
  clear hm hf
  cases hb : flowB nn E f
  · have hv : costV nn E f = 0 := by simp [costV, hb]
    rw [hv]
    clear hv
    go_enter Try.func17, Try.ntmps17
    go_wp2_with fail
    refine (unhide HQ _ HK.out).mono ?_
    rintro e w1 ⟨rfl, hk⟩
    rw [hb]
    go_wp2_with fail
    go_ret
    exact ⟨rfl, HK.out.trans hk⟩
  have hv : costV nn E f = costTo E f E.length := by simp [costV, hb]
  rw [hv]
  clear hv
  obtain ⟨hg, hle, hcap, hbal⟩ := flowB_true hb
  obtain ⟨g1, g2, g3, g4⟩ := graphB_true hg
  have HBD : Hid (∀ k, k ≤ E.length → ∀ j (hj : j < E.length) (hf : j < f.length), j < k → -1000000 ≤ E[j].co ∧ E[j].co ≤ 1000000 ∧ 0 ≤ f[j] ∧ f[j] ≤ 1000000000) := fun k hk j hj hf' _ => by
    have a := edgeB_true (g4 j hj)
    have b := hcap j hj hf'
    omega
  have HL := hide hle
  rw [hle] at HQ hlf ⊢
  clear hle hg hcap hbal g4 g1 g2
  go_enter Try.func17, Try.ntmps17
  go_wp2_with fail
  refine (unhide HQ _ HK.out).mono ?_
  rintro e w1 ⟨rfl, hk⟩
  rw [hb]
  clear hb
  generalize w.alloc (.cells #[.int .i64 nn, .slice ea E.length ec] 25) = W0 at *
  obtain ⟨q0, q1⟩ := HB.out.kept hk
  dsimp only at q0 q1
  have HK1 := hide (HK.out.trans hk)
  clear hk HB HK HQ
  go_wp2_with fail
  clear q0 q1
  go_loopw [5, 15] (fun s y wr => ∃ k : Nat, k ≤ E.length ∧ s = .int .i64 (costTo E f k) ∧ y = .int .i64 (k : Int) ∧ Hid (Keeps w wr)) (fun _ y _ => E.length - (intOf y).toNat)
  case atStart => exact ⟨0, by omega, rfl, rfl, HK1.out⟩
  case round =>
    obtain ⟨k, hk, rfl, rfl, HKr⟩ := hrel
    by_cases hlt : k < E.length
    · have hkf : k < f.length := by rw [HL.out]; exact hlt
      obtain ⟨eb, eoff, ea', c0, c1, c2, c3⟩ := egs_at (unhide HC _ HKr.out) k hlt
      obtain ⟨fb, foff, fa', y0⟩ := its_at HF.out k hkf
      replace y0 := HKr.out.cell y0
      have HST := hide (costTo_step hlt hkf)
      have hb1 := cost_bound (HBD.out k hk) hk (by have := HL.out; omega)
      obtain ⟨a1, a2, a3, a4⟩ := HBD.out (k + 1) (by omega) k hlt hkf (by omega)
      have hb2 := mul_bound a1 a2 a3 a4
      generalize E[k] = x at *
      generalize f[k] = y at *
      obtain ⟨xfr, xto, xcp, xco⟩ := x
      dsimp only at c0 c1 c2 c3 a1 a2 HST hb2
      have HKA := hide (Keeps.alloc (Keeps.refl wr) (.cells #[.int .i64 xfr, .int .i64 xto, .int .i64 xcp, .int .i64 xco] 66))
      obtain rfl := fa'
      have HX := hide ea'
      clear ea'
      obtain rfl := HX.out
      have hw1 : IntKind.i64.wrap (xco * y) = xco * y := by rw [IntKind.wrap_i64]; omega
      have hw2 : IntKind.i64.wrap (costTo E f k + xco * y) = costTo E f (k + 1) := by rw [HST.out, IntKind.wrap_i64]; omega
      go_upto_region 7 with fail
      have v3 : (wr.alloc (.cells #[.int .i64 xfr, .int .i64 xto, .int .i64 xcp, .int .i64 xco] 66)).cell? ⟨wr.heap.size, 3, none⟩ = some (.int .i64 xco) := by simp
      replace y0 := HKA.out.cell y0
      obtain ⟨V, hV⟩ : ∃ V, V = wr.heap.size := ⟨_, rfl⟩
      rw [← hV] at v3 ⊢
      have HV := hide hV
      clear hV c0 c1 c2 c3
      generalize wr.alloc (.cells #[.int .i64 xfr, .int .i64 xto, .int .i64 xcp, .int .i64 xco] 66) = W2 at *
      generalize costTo E f k = s0 at *
      generalize hs1 : costTo E f (k + 1) = s1 at *
      have HS1 := hide hs1
      clear hs1
      clear hb1 hb2 a1 a2 a3 a4
      go_quiet (fail)
      go_wp2_with fail
      go_roundw
      case rel => exact ⟨k + 1, by omega, by rw [HS1.out], by go_num, (HKr.out.trans HKA.out).drewN _⟩
      case measure => simp [intOf]; omega
    · have e : k = E.length := by omega
      subst e
      go_wp2_with fail
      go_ret
      exact ⟨rfl, HKr.out⟩
end Go.Proofs.Ytaboogkioehkeaa
