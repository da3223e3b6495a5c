/- Draws of scores, and of what Allow is asked. -/
import Derived.Test.YtdigcnplmhdbnaaDrG
import Derived.Test.YtdigcnplmhdbnaaJam2
namespace Go.Proofs.Ytdigcnplmhdbnaa
open Go.RowKit
set_option linter.unusedVariables false

theorem seven_at : ∀ {k : Nat}, k < 7 → ∃ d : Int, (#[.int .i64 (-101), .int .i64 (-100), .int .i64 0, .int .i64 19, .int .i64 20, .int .i64 100, .int .i64 101] : Array Value)[k]? = some (.int .i64 d)
  | 0, _ => ⟨-101, rfl⟩
  | 1, _ => ⟨-100, rfl⟩
  | 2, _ => ⟨0, rfl⟩
  | 3, _ => ⟨19, rfl⟩
  | 4, _ => ⟨20, rfl⟩
  | 5, _ => ⟨100, rfl⟩
  | 6, _ => ⟨101, rfl⟩
  | n + 7, h => absurd h (by omega)
theorem many_in (W : World) {W' : World} {C : Array Value} {t : TypeId} {B k : Nat} {v : Value} (g : (W.alloc (.cells C t)).grownBy W' (some B)) (h : C[k]? = some v) (hB : B < W.heap.size) : W'.cell? ⟨W.heap.size, k, none⟩ = some v := by
  have hb := g.block W.heap.size (by simp) (by simp; omega)
  rw [World.cell?_of_block (w := W.alloc (.cells C t)) hb, World.cell?_alloc_mark W C t (0, 0) k]
  exact h
theorem score_any {B0 B : Nat} {a : Option Addr} {len cap : Nat} {w : World} (s : Dr B0 B a len cap w) :
    Calls Try.prog 33 #[.pointer (some ⟨B, 0, none⟩)] w fun e w' => IsInt e ∧ Dr B0 B a len cap w' ∧ w.grownBy w' (some B) := by
  have HS := hide s
  clear s
  go_enter Try.func33, Try.ntmps33
  go_wp2_with fail
  refine (below_any 201 HS.out (by omega) (by omega)).mono ?_
  rintro e w1 ⟨⟨n, n0, n1, rfl⟩, s1, g1⟩
  have S1 := hide s1
  have G1 := hide g1
  clear s1 g1 HS
  go_wp2_with fail
  refine (below_any 8 S1.out (by omega) (by omega)).mono ?_
  rintro e w2 ⟨⟨k, k0, k1, rfl⟩, s2, g2⟩
  have S2 := hide s2
  have G2 := hide (G1.out.trans g2)
  clear s2 g2 S1 G1
  by_cases hk0 : k = 0
  · subst hk0
    go_wp2_with fail
    refine (raw_any S2.out).mono ?_
    rintro e w3 ⟨⟨x, rfl⟩, s3, g3⟩
    have S3 := hide s3
    have G3 := hide (G2.out.trans g3)
    clear s3 g3 S2 G2
    go_wp2_with fail
    go_ret
    exact ⟨isInt, S3.out, G3.out⟩
  · by_cases hk1 : k = 1
    · subst hk1
      have hlt := S2.out.lt
      have hB := S2.out.le
      go_wp2_with fail
      refine (below_any 7 (S2.out.grown (World.grownBy_alloc w2 (.cells #[.int .i64 (-101), .int .i64 (-100), .int .i64 0, .int .i64 19, .int .i64 20, .int .i64 100, .int .i64 101] 3) none) (by simp) (by simp)) (by omega) (by omega)).mono ?_
      rintro e w3 ⟨⟨k, k0, k1, rfl⟩, s3, g3⟩
      obtain ⟨k, rfl⟩ := Int.eq_ofNat_of_zero_le k0
      have hk7 : k < 7 := by omega
      obtain ⟨d, hd⟩ := seven_at hk7
      have hd3 := many_in w2 g3 hd (by omega)
      have S3 := hide s3
      have G3 := hide ((grown_alloc G2.out (.cells #[.int .i64 (-101), .int .i64 (-100), .int .i64 0, .int .i64 19, .int .i64 20, .int .i64 100, .int .i64 101] 3)).trans g3)
      clear s3 g3 S2 G2 hd
      go_wp2_with fail
      go_ret
      exact ⟨isInt, S3.out, G3.out⟩
    · go_wp2_with fail
      go_ret
      exact ⟨isInt, S2.out, G2.out⟩
theorem draw_score (a : Option Addr) (len cap : Nat) (w : World) (hr : RowAt w.heap.size w a len) (hl : len ≤ 1048576) :
    Calls Try.prog 14 #[.slice a len cap] w fun e w' => IsInt e ∧ Keeps w w' := by
  go_enter Try.func14, Try.ntmps14
  go_wp2_with fail
  refine (new_any a len cap _ hr hl).mono ?_
  rintro x w1 ⟨he, s1, hk1⟩
  have he1 : x = .returned (.pointer (some ⟨w.heap.size, 0, none⟩)) := he
  clear he
  subst he1
  have S1 := hide s1
  have HK1 := hide hk1
  clear s1 hk1 hr
  go_wp2_with fail
  refine (score_any S1.out).mono ?_
  rintro x w2 ⟨⟨n, rfl⟩, s2, g2⟩
  have HK2 := hide (keeps_of HK1.out g2 (by intro r hr; injection hr with hr; omega))
  clear s2 g2 S1 HK1
  go_wp2_with fail
  go_ret
  exact ⟨isInt, HK2.out⟩
def IsAllow (e : Ending) : Prop := ∃ (s uf ua sf sa n : Int) (g : Bool), e = .returned (.tuple #[.int .i64 s, .int .i64 uf, .int .i64 ua, .int .i64 sf, .int .i64 sa, .int .i64 n, .bool g])
theorem isAllow {s uf ua sf sa n : Int} {g : Bool} : IsAllow (.returned (.tuple #[.int .i64 s, .int .i64 uf, .int .i64 ua, .int .i64 sf, .int .i64 sa, .int .i64 n, .bool g])) := ⟨s, uf, ua, sf, sa, n, g, rfl⟩
set_option maxHeartbeats 4000000 in
theorem draw_allow (a : Option Addr) (len cap : Nat) (w : World) (hr : RowAt w.heap.size w a len) (hl : len ≤ 1048576) :
    Calls Try.prog 11 #[.slice a len cap] w fun e w' => IsAllow e ∧ Keeps w w' := by
  go_enter Try.func11, Try.ntmps11
  go_wp2_with fail
  refine (new_any a len cap _ hr hl).mono ?_
  rintro x w1 ⟨he, s1, hk1⟩
  have he1 : x = .returned (.pointer (some ⟨w.heap.size, 0, none⟩)) := he
  clear he
  subst he1
  have S1 := hide s1
  have HK1 := hide hk1
  clear s1 hk1 hr
  go_wp2_with fail
  refine (below_any 100 S1.out (by omega) (by omega)).mono ?_
  rintro e w2 ⟨⟨s, s0, s1, rfl⟩, s2, g2⟩
  have S2 := hide s2
  have HK2 := hide (keeps_of HK1.out g2 (by intro r hr; injection hr with hr; omega))
  clear s2 g2 S1 HK1
  go_wp2_with fail
  refine (below_any 500 S2.out (by omega) (by omega)).mono ?_
  rintro e w3 ⟨⟨f, f0, f1, rfl⟩, s3, g3⟩
  have S3 := hide s3
  have HK3 := hide (keeps_of HK2.out g3 (by intro r hr; injection hr with hr; omega))
  clear s3 g3 S2 HK2
  go_wp2_with fail
  refine (below_any 500 S3.out (by omega) (by omega)).mono ?_
  rintro e w4 ⟨⟨u, u0, u1, rfl⟩, s4, g4⟩
  have S4 := hide s4
  have HK4 := hide (keeps_of HK3.out g4 (by intro r hr; injection hr with hr; omega))
  clear s4 g4 S3 HK3
  go_wp2_with fail
  refine (below_any 7 S4.out (by omega) (by omega)).mono ?_
  rintro e w5 ⟨⟨p, p0, p1, rfl⟩, s5, g5⟩
  have S5 := hide s5
  have HK5 := hide (keeps_of HK4.out g5 (by intro r hr; injection hr with hr; omega))
  clear s5 g5 S4 HK4
  go_wp2_with fail
  refine (below_any 6 S5.out (by omega) (by omega)).mono ?_
  rintro e w6 ⟨⟨q, q0, q1, rfl⟩, s6, g6⟩
  have S6 := hide s6
  have HK6 := hide (keeps_of HK5.out g6 (by intro r hr; injection hr with hr; omega))
  clear s6 g6 S5 HK5
  go_wp2_with fail
  refine (below_any 400 S6.out (by omega) (by omega)).mono ?_
  rintro e w7 ⟨⟨m, m0, m1, rfl⟩, s7, g7⟩
  have S7 := hide s7
  have HK7 := hide (keeps_of HK6.out g7 (by intro r hr; injection hr with hr; omega))
  clear s7 g7 S6 HK6
  go_wp2_with fail
  refine (below_any 4 S7.out (by omega) (by omega)).mono ?_
  rintro e w8 ⟨⟨z, z0, z1, rfl⟩, s8, g8⟩
  have S8 := hide s8
  have HK8 := hide (keeps_of HK7.out g8 (by intro r hr; injection hr with hr; omega))
  clear s8 g8 S7 HK7
  by_cases hz : z = 0
  · subst hz
    go_wp2_with fail
    refine (below_any 2 S8.out (by omega) (by omega)).mono ?_
    rintro e w9 ⟨⟨y, y0, y1, rfl⟩, s9, g9⟩
    have S9 := hide s9
    have HK9 := hide (keeps_of HK8.out g9 (by intro r hr; injection hr with hr; omega))
    clear s9 g9 S8 HK8
    go_wp2_with fail
    refine (below_any 16 S9.out (by omega) (by omega)).mono ?_
    rintro e w10 ⟨⟨k, k0, k1, rfl⟩, s10, g10⟩
    have S10 := hide s10
    have HK10 := hide (keeps_of HK9.out g10 (by intro r hr; injection hr with hr; omega))
    clear s10 g10 S9 HK9
    by_cases hk0 : k = 0
    · subst hk0
      go_wp2_with fail
      refine (raw_any S10.out).mono ?_
      rintro e w11 ⟨⟨r, rfl⟩, s11, g11⟩
      have S11 := hide s11
      have HK11 := hide (keeps_of HK10.out g11 (by intro r hr; injection hr with hr; omega))
      clear s11 g11 S10 HK10
      go_wp2_with fail
      refine (below_any 2 S11.out (by omega) (by omega)).mono ?_
      rintro e w12 ⟨⟨b, b0, b1, rfl⟩, s12, g12⟩
      have S12 := hide s12
      have HK12 := hide (keeps_of HK11.out g12 (by intro r hr; injection hr with hr; omega))
      clear s12 g12 S11 HK11
      go_wp2_with fail
      refine bodyPost_ret (v := .tuple #[.int .i64 _, .int .i64 _, .int .i64 _, .int .i64 _, .int .i64 _, .int .i64 _, .bool _]) (by simp [results, Try.results11, go_sem]; exact ⟨rfl, rfl, rfl, rfl, rfl, rfl, rfl⟩) rfl ⟨isAllow, HK12.out⟩
    · skip
      by_cases hk1 : k = 1
      · subst hk1
        go_wp2_with fail
        refine (raw_any S10.out).mono ?_
        rintro e w13 ⟨⟨r, rfl⟩, s13, g13⟩
        have S13 := hide s13
        have HK13 := hide (keeps_of HK10.out g13 (by intro r hr; injection hr with hr; omega))
        clear s13 g13 S10 HK10
        go_wp2_with fail
        refine (below_any 2 S13.out (by omega) (by omega)).mono ?_
        rintro e w14 ⟨⟨b, b0, b1, rfl⟩, s14, g14⟩
        have S14 := hide s14
        have HK14 := hide (keeps_of HK13.out g14 (by intro r hr; injection hr with hr; omega))
        clear s14 g14 S13 HK13
        go_wp2_with fail
        refine bodyPost_ret (v := .tuple #[.int .i64 _, .int .i64 _, .int .i64 _, .int .i64 _, .int .i64 _, .int .i64 _, .bool _]) (by simp [results, Try.results11, go_sem]; exact ⟨rfl, rfl, rfl, rfl, rfl, rfl, rfl⟩) rfl ⟨isAllow, HK14.out⟩
      · skip
        by_cases hk2 : k = 2
        · subst hk2
          go_wp2_with fail
          refine (raw_any S10.out).mono ?_
          rintro e w15 ⟨⟨r, rfl⟩, s15, g15⟩
          have S15 := hide s15
          have HK15 := hide (keeps_of HK10.out g15 (by intro r hr; injection hr with hr; omega))
          clear s15 g15 S10 HK10
          go_wp2_with fail
          refine (below_any 2 S15.out (by omega) (by omega)).mono ?_
          rintro e w16 ⟨⟨b, b0, b1, rfl⟩, s16, g16⟩
          have S16 := hide s16
          have HK16 := hide (keeps_of HK15.out g16 (by intro r hr; injection hr with hr; omega))
          clear s16 g16 S15 HK15
          go_wp2_with fail
          refine bodyPost_ret (v := .tuple #[.int .i64 _, .int .i64 _, .int .i64 _, .int .i64 _, .int .i64 _, .int .i64 _, .bool _]) (by simp [results, Try.results11, go_sem]; exact ⟨rfl, rfl, rfl, rfl, rfl, rfl, rfl⟩) rfl ⟨isAllow, HK16.out⟩
        · skip
          by_cases hk3 : k = 3
          · subst hk3
            go_wp2_with fail
            refine (raw_any S10.out).mono ?_
            rintro e w17 ⟨⟨r, rfl⟩, s17, g17⟩
            have S17 := hide s17
            have HK17 := hide (keeps_of HK10.out g17 (by intro r hr; injection hr with hr; omega))
            clear s17 g17 S10 HK10
            go_wp2_with fail
            refine (below_any 2 S17.out (by omega) (by omega)).mono ?_
            rintro e w18 ⟨⟨b, b0, b1, rfl⟩, s18, g18⟩
            have S18 := hide s18
            have HK18 := hide (keeps_of HK17.out g18 (by intro r hr; injection hr with hr; omega))
            clear s18 g18 S17 HK17
            go_wp2_with fail
            refine bodyPost_ret (v := .tuple #[.int .i64 _, .int .i64 _, .int .i64 _, .int .i64 _, .int .i64 _, .int .i64 _, .bool _]) (by simp [results, Try.results11, go_sem]; exact ⟨rfl, rfl, rfl, rfl, rfl, rfl, rfl⟩) rfl ⟨isAllow, HK18.out⟩
          · skip
            go_wp2_with fail
            refine (below_any 2 S10.out (by omega) (by omega)).mono ?_
            rintro e w19 ⟨⟨b, b0, b1, rfl⟩, s19, g19⟩
            have S19 := hide s19
            have HK19 := hide (keeps_of HK10.out g19 (by intro r hr; injection hr with hr; omega))
            clear s19 g19 S10 HK10
            go_wp2_with fail
            refine bodyPost_ret (v := .tuple #[.int .i64 _, .int .i64 _, .int .i64 _, .int .i64 _, .int .i64 _, .int .i64 _, .bool _]) (by simp [results, Try.results11, go_sem]; exact ⟨rfl, rfl, rfl, rfl, rfl, rfl, rfl⟩) rfl ⟨isAllow, HK19.out⟩
  · skip
    go_wp2_with fail
    refine (below_any 16 S8.out (by omega) (by omega)).mono ?_
    rintro e w20 ⟨⟨k, k0, k1, rfl⟩, s20, g20⟩
    have S20 := hide s20
    have HK20 := hide (keeps_of HK8.out g20 (by intro r hr; injection hr with hr; omega))
    clear s20 g20 S8 HK8
    by_cases hk0 : k = 0
    · subst hk0
      go_wp2_with fail
      refine (raw_any S20.out).mono ?_
      rintro e w21 ⟨⟨r, rfl⟩, s21, g21⟩
      have S21 := hide s21
      have HK21 := hide (keeps_of HK20.out g21 (by intro r hr; injection hr with hr; omega))
      clear s21 g21 S20 HK20
      go_wp2_with fail
      refine (below_any 2 S21.out (by omega) (by omega)).mono ?_
      rintro e w22 ⟨⟨b, b0, b1, rfl⟩, s22, g22⟩
      have S22 := hide s22
      have HK22 := hide (keeps_of HK21.out g22 (by intro r hr; injection hr with hr; omega))
      clear s22 g22 S21 HK21
      go_wp2_with fail
      refine bodyPost_ret (v := .tuple #[.int .i64 _, .int .i64 _, .int .i64 _, .int .i64 _, .int .i64 _, .int .i64 _, .bool _]) (by simp [results, Try.results11, go_sem]; exact ⟨rfl, rfl, rfl, rfl, rfl, rfl, rfl⟩) rfl ⟨isAllow, HK22.out⟩
    · skip
      by_cases hk1 : k = 1
      · subst hk1
        go_wp2_with fail
        refine (raw_any S20.out).mono ?_
        rintro e w23 ⟨⟨r, rfl⟩, s23, g23⟩
        have S23 := hide s23
        have HK23 := hide (keeps_of HK20.out g23 (by intro r hr; injection hr with hr; omega))
        clear s23 g23 S20 HK20
        go_wp2_with fail
        refine (below_any 2 S23.out (by omega) (by omega)).mono ?_
        rintro e w24 ⟨⟨b, b0, b1, rfl⟩, s24, g24⟩
        have S24 := hide s24
        have HK24 := hide (keeps_of HK23.out g24 (by intro r hr; injection hr with hr; omega))
        clear s24 g24 S23 HK23
        go_wp2_with fail
        refine bodyPost_ret (v := .tuple #[.int .i64 _, .int .i64 _, .int .i64 _, .int .i64 _, .int .i64 _, .int .i64 _, .bool _]) (by simp [results, Try.results11, go_sem]; exact ⟨rfl, rfl, rfl, rfl, rfl, rfl, rfl⟩) rfl ⟨isAllow, HK24.out⟩
      · skip
        by_cases hk2 : k = 2
        · subst hk2
          go_wp2_with fail
          refine (raw_any S20.out).mono ?_
          rintro e w25 ⟨⟨r, rfl⟩, s25, g25⟩
          have S25 := hide s25
          have HK25 := hide (keeps_of HK20.out g25 (by intro r hr; injection hr with hr; omega))
          clear s25 g25 S20 HK20
          go_wp2_with fail
          refine (below_any 2 S25.out (by omega) (by omega)).mono ?_
          rintro e w26 ⟨⟨b, b0, b1, rfl⟩, s26, g26⟩
          have S26 := hide s26
          have HK26 := hide (keeps_of HK25.out g26 (by intro r hr; injection hr with hr; omega))
          clear s26 g26 S25 HK25
          go_wp2_with fail
          refine bodyPost_ret (v := .tuple #[.int .i64 _, .int .i64 _, .int .i64 _, .int .i64 _, .int .i64 _, .int .i64 _, .bool _]) (by simp [results, Try.results11, go_sem]; exact ⟨rfl, rfl, rfl, rfl, rfl, rfl, rfl⟩) rfl ⟨isAllow, HK26.out⟩
        · skip
          by_cases hk3 : k = 3
          · subst hk3
            go_wp2_with fail
            refine (raw_any S20.out).mono ?_
            rintro e w27 ⟨⟨r, rfl⟩, s27, g27⟩
            have S27 := hide s27
            have HK27 := hide (keeps_of HK20.out g27 (by intro r hr; injection hr with hr; omega))
            clear s27 g27 S20 HK20
            go_wp2_with fail
            refine (below_any 2 S27.out (by omega) (by omega)).mono ?_
            rintro e w28 ⟨⟨b, b0, b1, rfl⟩, s28, g28⟩
            have S28 := hide s28
            have HK28 := hide (keeps_of HK27.out g28 (by intro r hr; injection hr with hr; omega))
            clear s28 g28 S27 HK27
            go_wp2_with fail
            refine bodyPost_ret (v := .tuple #[.int .i64 _, .int .i64 _, .int .i64 _, .int .i64 _, .int .i64 _, .int .i64 _, .bool _]) (by simp [results, Try.results11, go_sem]; exact ⟨rfl, rfl, rfl, rfl, rfl, rfl, rfl⟩) rfl ⟨isAllow, HK28.out⟩
          · skip
            go_wp2_with fail
            refine (below_any 2 S20.out (by omega) (by omega)).mono ?_
            rintro e w29 ⟨⟨b, b0, b1, rfl⟩, s29, g29⟩
            have S29 := hide s29
            have HK29 := hide (keeps_of HK20.out g29 (by intro r hr; injection hr with hr; omega))
            clear s29 g29 S20 HK20
            go_wp2_with fail
            refine bodyPost_ret (v := .tuple #[.int .i64 _, .int .i64 _, .int .i64 _, .int .i64 _, .int .i64 _, .int .i64 _, .bool _]) (by simp [results, Try.results11, go_sem]; exact ⟨rfl, rfl, rfl, rfl, rfl, rfl, rfl⟩) rfl ⟨isAllow, HK29.out⟩
end Go.Proofs.Ytdigcnplmhdbnaa
