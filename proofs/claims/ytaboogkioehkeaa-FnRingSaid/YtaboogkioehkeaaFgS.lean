/- The model's word on graphs. -/
import Derived.Test.YtaboogkioehkeaaFm
namespace Go.Proofs.Ytaboogkioehkeaa
open Go.RowKit Go.Deep
set_option linter.unusedVariables false
set_option linter.unusedSimpArgs false
set_option maxRecDepth 10000

set_option maxHeartbeats 4000000 in
theorem graph_spec (G : Gf) (w : World) (hm : Mem w G.segs) (hl : G.len) : Calls Try.prog 23 #[G.v] w fun e w' => e = .returned (.bool (graphB G.nn G.E)) ∧ Keeps w w' := by
  obtain ⟨nn, ea, ec, E⟩ := G
  have HC := hide (fun w' (hk : Keeps w w') => Gf.memE (hm.kept hk))
  have HB := hide (gr_box ⟨nn, ea, ec, E⟩ w 25)
  have HK := hide (Keeps.alloc (Keeps.refl w) (.cells #[.int .i64 nn, .slice ea E.length ec] 25))
  dsimp only [Gf.v, Gf.len] at *
  clear hm
  rcases graph_cases nn E with ⟨h1, hr⟩ | ⟨h1, h2, hr⟩ | ⟨h1, h2, h3, hr⟩ | ⟨h1, h2, h3⟩
  rotate_left 3
  · go_enter Try.func23, Try.ntmps23
    go_wp2_with fail
    generalize w.alloc (.cells #[.int .i64 nn, .slice ea E.length ec] 25) = W0 at *
    go_loopw [22] (fun y wr => ∃ k : Nat, k ≤ E.length ∧ y = .int .i64 (k : Int) ∧ Hid (∀ j (hj : j < E.length), j < k → edgeB nn E[j] = true) ∧ Hid (Keeps W0 wr)) (fun y _ => E.length - (intOf y).toNat)
    case atStart => exact ⟨0, by omega, rfl, fun j hj h => absurd h (by omega), Keeps.refl _⟩
    case round =>
      obtain ⟨k, hk, rfl, HG, HKr⟩ := hrel
      by_cases hlt : k < E.length
      · obtain ⟨b, off, ea', c0, c1, c2, c3⟩ := egs_at (unhide HC _ (HK.out.trans HKr.out)) k hlt
        obtain ⟨q0, q1⟩ := HB.out.kept HKr.out
        have HX := hide ea'
        dsimp only at q0 q1
        have lb := lt_of_cell q0
        clear ea'
        have HN : Hid (edgeB nn E[k] = false → graphB nn E = false) := fun h => graphB_no (Or.inr (Or.inr (Or.inr ⟨k, hlt, h⟩)))
        have HG' : Hid (edgeB nn E[k] = true → ∀ j (hj : j < E.length), j < k + 1 → edgeB nn E[j] = true) := fun h j hj h' => by
          by_cases e : j = k
          · subst e; exact h
          · exact HG.out j hj (by omega)
        generalize E[k] = x at *
        obtain ⟨xfr, xto, xcp, xco⟩ := x
        dsimp only at c0 c1 c2 c3
        have HKA := hide (Keeps.alloc HKr.out (.cells #[.int .i64 xfr, .int .i64 xto, .int .i64 xcp, .int .i64 xco] 66))
        obtain rfl := HX.out
        clear HG
        by_cases hs0 : 0 ≤ xfr
        rotate_left
        · skip
          go_wp2_with fail
          go_ret
          exact ⟨ret_b (HN.out (edgeB_no (by simp only []; omega))).symm, HK.out.trans HKA.out⟩
        by_cases hs1 : xfr < nn
        rotate_left
        · skip
          go_wp2_with fail
          go_ret
          exact ⟨ret_b (HN.out (edgeB_no (by simp only []; omega))).symm, HK.out.trans HKA.out⟩
        by_cases hs2 : 0 ≤ xto
        rotate_left
        · skip
          go_wp2_with fail
          go_ret
          exact ⟨ret_b (HN.out (edgeB_no (by simp only []; omega))).symm, HK.out.trans HKA.out⟩
        by_cases hs3 : xto < nn
        rotate_left
        · skip
          go_wp2_with fail
          go_ret
          exact ⟨ret_b (HN.out (edgeB_no (by simp only []; omega))).symm, HK.out.trans HKA.out⟩
        by_cases hs4 : xfr ≠ xto
        rotate_left
        · have hq : (xfr == xto) = true := by simp; omega
          go_wp2_with fail
          go_ret
          exact ⟨ret_b (HN.out (edgeB_no (by simp only []; omega))).symm, HK.out.trans HKA.out⟩
        by_cases hs5 : 0 ≤ xcp
        rotate_left
        · have hq : (xfr == xto) = false := by simp [hs4]
          go_wp2_with fail
          go_ret
          exact ⟨ret_b (HN.out (edgeB_no (by simp only []; omega))).symm, HK.out.trans HKA.out⟩
        by_cases hs6 : xcp ≤ 1000000000
        rotate_left
        · have hq : (xfr == xto) = false := by simp [hs4]
          go_wp2_with fail
          go_ret
          exact ⟨ret_b (HN.out (edgeB_no (by simp only []; omega))).symm, HK.out.trans HKA.out⟩
        by_cases hs7 : -1000000 ≤ xco
        rotate_left
        · have hq : (xfr == xto) = false := by simp [hs4]
          go_wp2_with fail
          go_ret
          exact ⟨ret_b (HN.out (edgeB_no (by simp only []; omega))).symm, HK.out.trans HKA.out⟩
        by_cases hs8 : xco ≤ 1000000
        rotate_left
        · have hq : (xfr == xto) = false := by simp [hs4]
          go_wp2_with fail
          go_ret
          exact ⟨ret_b (HN.out (edgeB_no (by simp only []; omega))).symm, HK.out.trans HKA.out⟩
        have hq : (xfr == xto) = false := by simp [hs4]
        go_wp2_with fail
        go_roundw
        case rel => exact ⟨k + 1, by omega, by go_num, HG'.out (edgeB_yes hs0 hs1 hs2 hs3 hs4 hs5 hs6 hs7 hs8), HKA.out⟩
        case measure => simp [intOf]; omega
      · have e : k = E.length := by omega
        subst e
        go_wp2_with fail
        go_ret
        exact ⟨ret_b (graphB_yes h1 h2 h3 (fun j hj => HG.out j hj hj)).symm, HK.out.trans HKr.out⟩
  · go_enter Try.func23, Try.ntmps23
    go_wp2_with fail
    go_ret
    exact ⟨ret_b hr.symm, HK.out⟩
  · go_enter Try.func23, Try.ntmps23
    go_wp2_with fail
    go_ret
    exact ⟨ret_b hr.symm, HK.out⟩
  · go_enter Try.func23, Try.ntmps23
    go_wp2_with fail
    go_ret
    exact ⟨ret_b hr.symm, HK.out⟩
end Go.Proofs.Ytaboogkioehkeaa
