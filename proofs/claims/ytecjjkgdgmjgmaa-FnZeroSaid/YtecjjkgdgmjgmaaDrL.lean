/- The model's draws of lines and postings: l02Lines, l02Posting. -/
import Derived.Test.YtecjjkgdgmjgmaaDrAq
import Derived.Test.YtecjjkgdgmjgmaaVars
namespace Go.Proofs.Ytecjjkgdgmjgmaa
open Go.RowKit Go.Deep
set_option linter.unusedVariables false
set_option linter.unusedSimpArgs false
theorem Dr.setL {B0 B b o : Nat} {a : Option Addr} {len cap : Nat} {w : World} (s : Dr B0 B a len cap w) (hb : b ≠ B) (h0 : B0 ≤ b) (v : Value) : Dr B0 B a len cap (w.setCell ⟨b, o, none⟩ v) :=
  s.grown (grown_set (grown_refl w (some b))) (by simp; omega) (by intro r hr; injection hr with hr; omega)
/-- Lines of the call's own, few and small. -/
def IsLines (base : Nat) (w' : World) (e : Ending) : Prop := ∃ (p : Option Addr) (l c : Nat) (L : List Ln), l ≤ 8 ∧ e = .returned (.slice p l c) ∧ Hid (L.length = l ∧ OwnsL w' base (.slice p l c) L)
theorem OwnsL.grows {w w' : World} {base B : Nat} {v : Value} {L : List Ln} (h : OwnsL w base v L) (g : w.grownBy w' (some B)) (hB : B < base) : OwnsL w' base v L :=
  World.ownsRow.kept h g (.inr fun e => by have := (h.lt B e).1; omega)
set_option maxRecDepth 100000 in
set_option maxHeartbeats 8000000 in
theorem lines_any {B0 B : Nat} {a : Option Addr} {len cap : Nat} {w : World} (s : Dr B0 B a len cap w) :
    Calls Try.prog 63 #[.pointer (some ⟨B, 0, none⟩), .int .i64 4] w fun e w' => IsLines w.heap.size w' e ∧ Dr B0 B a len cap w' ∧ w.grownBy w' (some B) := by
  have hB := s.lt
  have hB0 := s.le
  have HS0 := hide (s.grown (World.grownBy_alloc w (.cells #[] 35) none) (by simp) (by simp))
  have HG0 := hide (grown_alloc (grown_refl w (some B)) (.cells #[] 35))
  have HO0 : Hid (OwnsL (w.alloc (.cells #[] 35)) w.heap.size (.slice (some ⟨w.heap.size, 0, none⟩) 0 0) []) := World.ownsRow_made (base := w.heap.size) (e := 35) (size := 3) w #[] 0 (Nat.le_refl _) (by decide) rfl
  clear s
  go_enter Try.func63, Try.ntmps63
  go_wp2_with fail
  refine (below_any 4 HS0.out (by omega) (by omega)).mono ?_
  rintro e w1 ⟨⟨x, x0, x4, rfl⟩, s1, g1⟩
  have HS1 := hide s1
  have HG1 := hide (HG0.out.trans g1)
  have HO1 := hide (HO0.out.grows g1 hB)
  clear s1 g1 HS0 HG0 HO0
  obtain ⟨n0, rfl⟩ := Int.eq_ofNat_of_zero_le x0
  go_wp2_with fail
  go_loopw [5, 7] (fun x y wr => ∃ (n k : Nat) (p : Option Addr) (c : Nat) (L : List Ln), n + k ≤ 4 ∧ n ≤ 4 ∧ L.length ≤ k ∧ y = .int .i64 (n : Int) ∧ x = .slice p L.length c ∧ Hid (∀ y ∈ L, -(1000 * (k : Int)) ≤ y.a ∧ y.a ≤ 1000 * (k : Int)) ∧ Hid (OwnsL wr w.heap.size (.slice p L.length c) L) ∧ Hid (Dr B0 B a len cap wr) ∧ Hid (w.grownBy wr (some B))) (fun _ y _ => (intOf y).toNat)
  case atStart => exact ⟨n0 + 1, 0, some ⟨w.heap.size, 0, none⟩, 0, [], by omega, by omega, by simp, by congr 1; omega, rfl, fun y hy => absurd hy (by simp), HO1, HS1, HG1⟩
  case round =>
    clear HO1 HS1 HG1
    obtain ⟨n, k, p, c, L, hnk, hn4, hLk, rfl, rfl, HB, HO, HS, HG⟩ := hrel
    by_cases hlt : 0 < n
    · go_wp2_with fail
      refine (below_any 1000 HS.out (by omega) (by omega)).mono ?_
      rintro e w2 ⟨⟨x, x0, x9, rfl⟩, s2, g2⟩
      have HS2 := hide s2
      have HG2 := hide (HG.out.trans g2)
      have HO2 := hide (HO.out.grows g2 hB)
      clear s2 g2 HS HG HO
      go_wp2_with fail
      refine (below_any 2 HS2.out (by omega) (by omega)).mono ?_
      rintro e w3 ⟨⟨y, y0, y2, rfl⟩, s3, g3⟩
      have HS3 := hide s3
      have HG3 := hide (HG2.out.trans g3)
      have HO3 := hide (HO2.out.grows g3 hB)
      clear s3 g3 HS2 HG2 HO2
      by_cases hy : y = 0
      · subst hy
        go_wp2_with fail
        refine (acc_any HS3.out).mono ?_
        rintro e w4 ⟨⟨ak, ac, hacc, rfl⟩, s4, g4⟩
        have HS4 := hide s4
        have HG4 := hide (HG3.out.trans g4)
        have HO4 := hide (HO3.out.grows g4 hB)
        obtain ⟨av, cv, hvv, hcv⟩ := own_cells HO4.out
        injection hvv with e1 e2 e3
        subst e1 e3
        have HAd := hide (add_spec p c L ⟨ak, ac, (-(1 + x))⟩ w4 hcv (by omega) (by dsimp only; omega) (by dsimp only; omega) (fun j hj => by have := HB.out _ (List.getElem_mem hj); omega))
        have hz4 := HG4.out.size
        clear s4 g4 HS3 HG3 HO3 hcv e2 hacc
        go_wp2_with fail
        refine (unhide HAd).mono ?_
        rintro e w5 ⟨v5, rfl, ho5, hk5⟩
        have HS5 := hide (HS4.out.grown (row := none) (hk5.grows none) (by simp) (by simp))
        have HG5 := hide (HG4.out.trans (hk5.grows (some B)))
        have HO5 : Hid (OwnsL w5 w.heap.size v5 (addG ⟨ak, ac, (-(1 + x))⟩ false L)) := owns_mono ho5 hz4
        have hlen := addG_len ⟨ak, ac, (-(1 + x))⟩ false L
        have HB5 : Hid (∀ y ∈ addG ⟨ak, ac, (-(1 + x))⟩ false L, -(1000 * ((k : Int) + 1)) ≤ y.a ∧ y.a ≤ 1000 * ((k : Int) + 1)) := fun y hy => by
          have h := addG_bound ⟨ak, ac, (-(1 + x))⟩ (1000 * (k : Int)) 1000 (by dsimp only; omega) (by dsimp only; omega) (by omega) (by omega) false L HB.out y hy
          omega
        obtain ⟨a5, c5, rfl, _⟩ := own_cells HO5.out
        clear ho5 hk5 HS4 HG4 HO4 HAd
        generalize addG ⟨ak, ac, (-(1 + x))⟩ false L = L5 at *
        go_wp2_with fail
        go_roundw
        case rel => exact ⟨n - 1, k + 1, a5, c5, L5, by omega, by omega, by omega, by congr 1; omega, rfl, HB5, HO5, HS5, HG5⟩
        case measure => simp [intOf]; omega
      · have hy' : (y == 0) = false := by rw [beq_eq_false_iff_ne]; exact hy
        clear hy
        go_wp2_with fail
        refine (acc_any HS3.out).mono ?_
        rintro e w4 ⟨⟨ak, ac, hacc, rfl⟩, s4, g4⟩
        have HS4 := hide s4
        have HG4 := hide (HG3.out.trans g4)
        have HO4 := hide (HO3.out.grows g4 hB)
        obtain ⟨av, cv, hvv, hcv⟩ := own_cells HO4.out
        injection hvv with e1 e2 e3
        subst e1 e3
        have HAd := hide (add_spec p c L ⟨ak, ac, (1 + x)⟩ w4 hcv (by omega) (by dsimp only; omega) (by dsimp only; omega) (fun j hj => by have := HB.out _ (List.getElem_mem hj); omega))
        have hz4 := HG4.out.size
        clear s4 g4 HS3 HG3 HO3 hcv e2 hacc
        go_wp2_with fail
        refine (unhide HAd).mono ?_
        rintro e w5 ⟨v5, rfl, ho5, hk5⟩
        have HS5 := hide (HS4.out.grown (row := none) (hk5.grows none) (by simp) (by simp))
        have HG5 := hide (HG4.out.trans (hk5.grows (some B)))
        have HO5 : Hid (OwnsL w5 w.heap.size v5 (addG ⟨ak, ac, (1 + x)⟩ false L)) := owns_mono ho5 hz4
        have hlen := addG_len ⟨ak, ac, (1 + x)⟩ false L
        have HB5 : Hid (∀ y ∈ addG ⟨ak, ac, (1 + x)⟩ false L, -(1000 * ((k : Int) + 1)) ≤ y.a ∧ y.a ≤ 1000 * ((k : Int) + 1)) := fun y hy => by
          have h := addG_bound ⟨ak, ac, (1 + x)⟩ (1000 * (k : Int)) 1000 (by dsimp only; omega) (by dsimp only; omega) (by omega) (by omega) false L HB.out y hy
          omega
        obtain ⟨a5, c5, rfl, _⟩ := own_cells HO5.out
        clear ho5 hk5 HS4 HG4 HO4 HAd
        generalize addG ⟨ak, ac, (1 + x)⟩ false L = L5 at *
        go_wp2_with fail
        go_roundw
        case rel => exact ⟨n - 1, k + 1, a5, c5, L5, by omega, by omega, by omega, by congr 1; omega, rfl, HB5, HO5, HS5, HG5⟩
        case measure => simp [intOf]; omega
    · have e : n = 0 := by omega
      subst e
      have hz := HG.out.size
      generalize wr = W3 at *
      go_wp2_with fail
      go_loopw [6, 36] (fun x y wr => ∃ (j : Nat) (t : Int), j ≤ L.length ∧ -(4000 * (j : Int)) ≤ t ∧ t ≤ 4000 * (j : Int) ∧ x = .int .i64 t ∧ y = .int .i64 (j : Int) ∧ Hid (Keeps W3 wr)) (fun _ y _ => L.length - (intOf y).toNat)
      case atStart => exact ⟨0, 0, by omega, by omega, by omega, rfl, rfl, Keeps.refl _⟩
      case round =>
        obtain ⟨j, t, hj, t0, t1, rfl, rfl, HK⟩ := hrel
        by_cases hlt' : j < L.length
        · obtain ⟨av, cv, hvv, hcv⟩ := own_cells HO.out
          injection hvv with e1 e2 e3
          subst e1 e3
          obtain ⟨b, off, ea, c0, c1, c2⟩ := cells_at (hcv.kept HK.out) j hlt'
          have hb := HB.out _ (List.getElem_mem hlt')
          subst ea
          clear hcv e2
          generalize L[j] = x at *
          have HKx := hide (Keeps.alloc HK.out (.cells #[.int .i64 x.k, .int .i64 x.c, .int .i64 x.a] 35))
          go_wp2_with fail
          go_roundw
          case rel => exact ⟨j + 1, t + x.a, by omega, by omega, by omega, by go_num, by go_num, HKx⟩
          case measure => simp [intOf]; omega
        · have HS4 := hide (HS.out.grown (row := none) (HK.out.grows none) (by simp) (by simp))
          have HG4 := hide (HG.out.trans (HK.out.grows (some B)))
          have HO4 := hide (Keeps.owns HK.out HO.out)
          have hz4 := HG4.out.size
          by_cases ht : t = 0
          · subst ht
            go_wp2_with fail
            go_ret
            exact ⟨⟨p, L.length, c, L, by omega, rfl, rfl, HO4.out⟩, HS4.out, HG4.out⟩
          · have ht' : (t != 0) = true := by rw [bne_iff_ne]; exact ht
            obtain ⟨av, cv, hvv, hcv⟩ := own_cells HO4.out
            injection hvv with e1 e2 e3
            subst e1 e3
            have HAd := hide (add_spec p c L ⟨2, 0, -t⟩ wr hcv (by omega) (by dsimp only; omega) (by dsimp only; omega) (fun j hj => by have := HB.out _ (List.getElem_mem hj); omega))
            have hlen := addG_len ⟨2, 0, -t⟩ false L
            clear hcv e2 ht
            go_wp2_with fail
            refine (unhide HAd).mono ?_
            rintro e w5 ⟨v5, rfl, ho5, hk5⟩
            have HS5 := hide (HS4.out.grown (row := none) (hk5.grows none) (by simp) (by simp))
            have HG5 := hide (HG4.out.trans (hk5.grows (some B)))
            have HO5 : Hid (OwnsL w5 w.heap.size v5 (addG ⟨2, 0, -t⟩ false L)) := owns_mono ho5 hz4
            obtain ⟨a5, c5, rfl, _⟩ := own_cells HO5.out
            clear ho5 hk5 HAd
            generalize addG ⟨2, 0, -t⟩ false L = L5 at *
            go_wp2_with fail
            go_ret
            exact ⟨⟨a5, L5.length, c5, L5, by omega, rfl, rfl, HO5.out⟩, HS5.out, HG5.out⟩
/-- A posting of the call's own. -/
def IsPosting (base : Nat) (id : Int) (w' : World) (e : Ending) : Prop := ∃ (p : Option Addr) (l c : Nat) (L : List Ln), l ≤ 8 ∧ e = .returned (.agg #[.int .i64 id, .slice p l c]) ∧ Hid (L.length = l ∧ OwnsL w' base (.slice p l c) L)
set_option maxRecDepth 100000 in
set_option maxHeartbeats 8000000 in
theorem posting_any {B0 B : Nat} {a : Option Addr} {len cap : Nat} {w : World} (id : Int) (s : Dr B0 B a len cap w) :
    Calls Try.prog 37 #[.pointer (some ⟨B, 0, none⟩), .int .i64 id] w fun e w' => IsPosting w.heap.size id w' e ∧ Dr B0 B a len cap w' ∧ w.grownBy w' (some B) := by
  have hB := s.lt
  have hB0 := s.le
  have HS0 := hide (s.grown (World.grownBy_alloc w (.cells #[.int .i64 0, .slice none 0 0] 27) none) (by simp) (by simp))
  have HG0 := hide (grown_alloc (grown_refl w (some B)) (.cells #[.int .i64 0, .slice none 0 0] 27))
  have HR0 := hide (World.rowIs_alloc w #[.int .i64 0, .slice none 0 0] 27 _ (two_row' _ _))
  clear s
  go_enter Try.func37, Try.ntmps37
  go_wp2_with fail
  refine (lines_any HS0.out).mono ?_
  rintro e w1 ⟨⟨p, l, c, L, hl8, rfl, HO⟩, s1, g1⟩
  obtain ⟨rfl, ho⟩ := HO.out
  have hz1 : w.heap.size < w1.heap.size := by have := g1.size; simp at this; omega
  have HO1 : Hid (OwnsL w1 (w.heap.size + 1) (.slice p L.length c) L) := by
    show World.ownsRow _ _ _ _ _ _ _
    have h := ho
    simp only [World.size_alloc] at h
    exact h
  have HS1 := hide s1
  have HG1 := hide (HG0.out.trans g1)
  have HR1 := hide (grown_row g1 (by intro e; injection e with e; omega) HR0.out)
  have z0 := HR1.out.cell (i := 0) (by simp)
  have z1 := HR1.out.cell (i := 1) (by simp)
  have zf0 := HR1.out.frozen 0
  have zf1 := HR1.out.frozen 1
  simp at z0 z1
  clear s1 g1 ho HO HS0 HG0 HR0
  by_cases hl2 : L.length < 2
  · go_wp2_with fail
    have HS2 := hide ((HS1.out.setL (b := w.heap.size) (o := 0) (by omega) (by omega) (.int .i64 id)).setL (b := w.heap.size) (o := 1) (by omega) (by omega) (.slice (some ⟨w1.heap.size + 1, 0, none⟩) 2 2))
    have HG2 := hide (grown_new (b := w.heap.size) (o := 1) (v := (.slice (some ⟨w1.heap.size + 1, 0, none⟩) 2 2)) (grown_new (b := w.heap.size) (o := 0) (v := .int .i64 id) HG1.out (Nat.le_refl _)) (Nat.le_refl _))
    have r9 := row_two HR1.out (.int .i64 id) (.slice (some ⟨w1.heap.size + 1, 0, none⟩) 2 2)
    have o0 := r9.cell (i := 0) (by decide)
    have o1 := r9.cell (i := 1) (by decide)
    simp only [if_true, Nat.one_ne_zero, if_false] at o0 o1
    have hzz : (w1.setCell ⟨w.heap.size, 0, none⟩ (.int .i64 id)).heap.size = w1.heap.size ∧ ((w1.setCell ⟨w.heap.size, 0, none⟩ (.int .i64 id)).setCell ⟨w.heap.size, 1, none⟩ (.slice (some ⟨w1.heap.size + 1, 0, none⟩) 2 2)).heap.size = w1.heap.size := by simp [World.setCell]
    have hz2 := hzz.2
    clear r9 z0 z1 zf0 zf1 HR1 HS1 HG1 HO1 hzz
    generalize (w1.setCell ⟨w.heap.size, 0, none⟩ (.int .i64 id)).setCell ⟨w.heap.size, 1, none⟩ (.slice (some ⟨w1.heap.size + 1, 0, none⟩) 2 2) = V1 at *
    rw [← hz2] at o1 ⊢
    have kA := Keeps.alloc (Keeps.alloc (Keeps.refl V1) (.cells #[.int .i64 id, .slice (some ⟨V1.heap.size + 1, 0, none⟩) 2 2] 27)) (.cells #[.int .i64 1, .int .i64 0, .int .i64 5, .int .i64 2, .int .i64 0, .int .i64 (-5)] 35)
    have hO : OwnsL ((V1.alloc (.cells #[.int .i64 id, .slice (some ⟨V1.heap.size + 1, 0, none⟩) 2 2] 27)).alloc (.cells #[.int .i64 1, .int .i64 0, .int .i64 5, .int .i64 2, .int .i64 0, .int .i64 (-5)] 35)) w.heap.size (.slice (some ⟨V1.heap.size + 1, 0, none⟩) 2 2) [⟨1, 0, 5⟩, ⟨2, 0, -5⟩] := by
      have h := heap_alloc_new (V1.alloc (.cells #[.int .i64 id, .slice (some ⟨V1.heap.size + 1, 0, none⟩) 2 2] 27)) (.cells #[.int .i64 1, .int .i64 0, .int .i64 5, .int .i64 2, .int .i64 0, .int .i64 (-5)] 35)
      rw [World.size_alloc] at h
      exact ⟨by simp [flat, Ln.cells], .inr ⟨V1.heap.size + 1, 2, _, rfl, by omega, h, Nat.le_refl _, by decide, by rfl, by simp [flat, Ln.cells]⟩⟩
    refine bodyPost_ret (v := .agg #[.int .i64 id, .slice (some ⟨V1.heap.size + 1, 0, none⟩) 2 2]) ?_ rfl ⟨⟨some ⟨V1.heap.size + 1, 0, none⟩, 2, 2, [⟨1, 0, 5⟩, ⟨2, 0, -5⟩], by omega, rfl, rfl, hO⟩, HS2.out.grown (row := none) (kA.grows none) (by simp) (by simp), HG2.out.trans (kA.grows (some B))⟩
    have p0 := kA.cell o0
    have p1 := kA.cell o1
    clear hO kA HS2 HG2 o0 o1
    revert p0 p1
    generalize World.alloc _ _ = W'
    intro p0 p1
    simp [results, Try.results37, go_sem, p0, p1]
  · go_wp2_with fail
    have hne : (Value.slice p L.length c).ownBlock ≠ some w.heap.size := fun e => by have := (HO1.out.lt _ e).1; omega
    have HO2 := hide ((HO1.out.other (o := 0) (x := .int .i64 id) hne).other (o := 1) (x := .slice p L.length c) hne)
    have HS2 := hide ((HS1.out.setL (b := w.heap.size) (o := 0) (by omega) (by omega) (.int .i64 id)).setL (b := w.heap.size) (o := 1) (by omega) (by omega) (.slice p L.length c))
    have HG2 := hide (grown_new (b := w.heap.size) (o := 1) (v := .slice p L.length c) (grown_new (b := w.heap.size) (o := 0) (v := .int .i64 id) HG1.out (Nat.le_refl _)) (Nat.le_refl _))
    have r9 := row_two HR1.out (.int .i64 id) (.slice p L.length c)
    have o0 := r9.cell (i := 0) (by decide)
    have o1 := r9.cell (i := 1) (by decide)
    simp only [if_true, Nat.one_ne_zero, if_false] at o0 o1
    clear r9 z0 z1 zf0 zf1 HR1 HS1 HG1 HO1 hne
    generalize (w1.setCell ⟨w.heap.size, 0, none⟩ (.int .i64 id)).setCell ⟨w.heap.size, 1, none⟩ (.slice p L.length c) = V1 at *
    have kA := Keeps.alloc (Keeps.refl V1) (.cells #[.int .i64 id, .slice p L.length c] 27)
    refine bodyPost_ret (v := .agg #[.int .i64 id, .slice p L.length c]) ?_ rfl ⟨⟨p, L.length, c, L, hl8, rfl, rfl, owns_mono (Keeps.owns kA HO2.out) (by omega)⟩, HS2.out.grown (row := none) (kA.grows none) (by simp) (by simp), HG2.out.trans (kA.grows (some B))⟩
    have p0 := kA.cell o0
    have p1 := kA.cell o1
    clear kA HS2 HG2 HO2 o0 o1
    revert p0 p1
    generalize World.alloc _ _ = W'
    intro p0 p1
    simp [results, Try.results37, go_sem, p0, p1]
end Go.Proofs.Ytecjjkgdgmjgmaa
