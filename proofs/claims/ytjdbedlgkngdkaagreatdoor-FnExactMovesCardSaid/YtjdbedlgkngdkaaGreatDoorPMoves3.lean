/- Texts of the verifier, joined: BkE, BsA, Flt, Pc, Mv, Eg, Gq, Pd, Pm, EgG, EgO, Gr. -/
import Derived.Test.YtjdbedlgkngdkaaGreatDoorPMoves2
import Derived.Test.YtjdbedlgkngdkaaGreatDoorPMoves1
import Derived.Deep.OwnRows
import Derived.Deep.DrawnRows
import Derived.Laws.MakeOwn
import Derived.OwnWalk
import Derived.Laws.OwnMore
import Derived.Laws.AppendOwnNone
import Derived.Deep.Cut
namespace Go.Proofs.YtjdbedlgkngdkaaGreatDoor
open Go.RowKit Go.Deep
set_option linter.unusedVariables false
set_option linter.unusedSimpArgs false
set_option maxRecDepth 10000

theorem sortI_perm (L : List Int) : (sortI L).Perm L := List.mergeSort_perm L _
theorem sortI_le (L : List Int) : (sortI L).Pairwise (· ≤ ·) := by
  have h := List.pairwise_mergeSort (le := fun x y : Int => decide (x ≤ y)) (fun a b c h1 h2 => by simp at *; omega) (fun a b => by simp; omega) L
  exact h.imp (fun h => by simpa using h)
theorem sortI_len (L : List Int) : (sortI L).length = L.length := (sortI_perm L).length_eq
theorem keys_no1 {L : List Int} {k : Nat} (hk : k < (sortI L).length) (h : keyB (sortI L)[k] = false) : keysB L = false := by
  have : L.all keyB = false := by
    rw [List.all_eq_false]
    exact ⟨_, (sortI_perm L).mem_iff.1 (List.getElem_mem hk), by simp [h]⟩
  simp [keysB, this]
theorem keys_no2 {L : List Int} {m : Nat} (hk : m + 1 < (sortI L).length) (h : (sortI L)[m] = (sortI L)[m + 1]) : keysB L = false := by
  have : ¬ L.Nodup := fun hn => by
    have h2 := (sortI_perm L).nodup_iff.2 hn
    exact (List.pairwise_iff_getElem.1 h2 m (m + 1) (by omega) hk (by omega)) h
  simp [keysB, this]
theorem keys_yes {L : List Int} (h1 : ∀ k (hk : k < (sortI L).length), keyB (sortI L)[k] = true) (h2 : ∀ m (hk : m + 1 < (sortI L).length), (sortI L)[m] ≠ (sortI L)[m + 1]) : keysB L = true := by
  have hall : L.all keyB = true := by
    rw [List.all_eq_true]
    intro x hx
    obtain ⟨k, hk, rfl⟩ := List.getElem_of_mem ((sortI_perm L).mem_iff.2 hx)
    exact h1 k hk
  have hs := List.pairwise_iff_getElem.1 (sortI_le L)
  have hn : (sortI L).Nodup := by
    refine List.pairwise_iff_getElem.2 (fun i j hi hj hij => ?_)
    have a1 := h2 i (by omega)
    have a2 := hs i (i + 1) (by omega) (by omega) (by omega)
    rcases Nat.lt_or_ge (i + 1) j with h | h
    · have a3 := hs (i + 1) j (by omega) hj h
      omega
    · have e : j = i + 1 := by omega
      subst e; exact a1
  simp [keysB, hall, (sortI_perm L).nodup_iff.1 hn]
def keysTo (H : List Htl) (R : List Crc) : List Int := H.map Htl.ky ++ R.map Crc.ky
theorem make_ints0 (n : Nat) (hn : n ≤ 1048576) (w : World) : (Instr.makeSlice 65 (.int .i64 0) (.int .i64 (n : Int))).run Tryz.prog w = .ok (.slice (some ⟨w.heap.size, 0, none⟩) 0 n) (w.alloc (.cells (madeCells #[.int .i64 0] n) 3)) := by
  have hI := infoInt
  cases hi : Tryz.prog.info? 3 with
  | none => rw [hi] at hI; simp at hI
  | some i =>
    rw [hi] at hI
    simp at hI
    obtain ⟨hz, hs, hb⟩ := hI
    have h := run_make (P := Tryz.prog) w 65 3 i _ underInts hi hz .i64 .i64 0 n (by omega) (by omega) (by rw [hb]; omega) (by omega)
    rw [hs] at h
    simpa [Value.cells] using h
theorem its_one (w : World) (x : Int) (t : TypeId) : ∀ j u, (its [x])[j]? = some u → (w.alloc (.cells #[.int .i64 x] t)).cell? ((⟨w.heap.size, 0, none⟩ : Addr).add j) = some u := by
  intro j u h
  have hj : j = 0 := by
    rcases Nat.lt_or_ge j 1 with h' | h'
    · omega
    · rw [List.getElem?_eq_none (by simp [its]; omega)] at h; cases h
  subst hj
  simp [its] at h
  subst h
  simp [Addr.add]
set_option maxHeartbeats 4000000 in
theorem keys_impl (B : Bo) (w : World) (hm : Mem w B.segs) (hl : B.len) (hH : B.Hs.length ≤ 60) (hR : B.R.length ≤ 20) : Calls Tryz.prog 103 #[B.v] w fun e w' => e = .returned (.bool (keysB (keysL B.d))) ∧ Keeps w w' := by
  obtain ⟨tk, nx, wa, ca, cc, C, ha, hc, Hs, ra, rc, R⟩ := B
  have HCH := hide (fun w' (hk : Keeps w w') => Bo.memH (hm.kept hk))
  have HCR := hide (fun w' (hk : Keeps w w') => Bo.memR (hm.kept hk))
  have HBA := hide (book_box ⟨tk, nx, wa, ca, cc, C, ha, hc, Hs, ra, rc, R⟩ w 27)
  have HKA := hide (Keeps.alloc (Keeps.refl w) (.cells #[.int .i64 tk, .int .i64 nx, .int .i64 wa, .slice ca C.length cc, .slice ha Hs.length hc, .slice ra R.length rc] 27))
  dsimp only [Bo.d, Bo.v] at *
  clear hm hl
  have hmk := make_ints0 (Hs.length + R.length) (by omega)
  simp only [Int.natCast_add] at hmk
  go_enter Tryz.func103, Tryz.ntmps103
  go_wp2_with fail
  have HO0 : Hid (OwnsI ((w.alloc (.cells #[.int .i64 tk, .int .i64 nx, .int .i64 wa, .slice ca C.length cc, .slice ha Hs.length hc, .slice ra R.length rc] 27)).alloc (.cells (madeCells #[.int .i64 0] (Hs.length + R.length)) 3)) (w.alloc (.cells #[.int .i64 tk, .int .i64 nx, .int .i64 wa, .slice ca C.length cc, .slice ha Hs.length hc, .slice ra R.length rc] 27)).heap.size (.slice (some ⟨(w.alloc (.cells #[.int .i64 tk, .int .i64 nx, .int .i64 wa, .slice ca C.length cc, .slice ha Hs.length hc, .slice ra R.length rc] 27)).heap.size, 0, none⟩) 0 (Hs.length + R.length)) []) :=
    World.ownsRow_made (base := (w.alloc (.cells #[.int .i64 tk, .int .i64 nx, .int .i64 wa, .slice ca C.length cc, .slice ha Hs.length hc, .slice ra R.length rc] 27)).heap.size) (e := 3) (size := 1) _ _ (Hs.length + R.length) (Nat.le_refl _) (by simp only [maxLen]; omega) (by simp [madeCells])
  have HK0 := hide (Keeps.alloc (Keeps.refl (w.alloc (.cells #[.int .i64 tk, .int .i64 nx, .int .i64 wa, .slice ca C.length cc, .slice ha Hs.length hc, .slice ra R.length rc] 27))) (.cells (madeCells #[.int .i64 0] (Hs.length + R.length)) 3))
  have hsz : (w.alloc (.cells #[.int .i64 tk, .int .i64 nx, .int .i64 wa, .slice ca C.length cc, .slice ha Hs.length hc, .slice ra R.length rc] 27)).heap.size = w.heap.size + 1 := by simp
  have HSZ := hide hsz
  clear hsz hmk
  generalize hW : w.alloc (.cells #[.int .i64 tk, .int .i64 nx, .int .i64 wa, .slice ca C.length cc, .slice ha Hs.length hc, .slice ra R.length rc] 27) = W0 at *
  clear hW
  go_loopw [3, 21] (fun v y wr => ∃ k : Nat, k ≤ Hs.length ∧ y = .int .i64 (k : Int) ∧ Hid (OwnsI wr W0.heap.size v (keysTo (Hs.take k) [])) ∧ Hid (v ≠ .slice none 0 0) ∧ Hid (Keeps W0 wr)) (fun _ y _ => Hs.length - (intOf y).toNat)
  case atStart => exact ⟨0, by omega, rfl, by show OwnsI _ _ _ _; rw [HSZ.out] at HO0 ⊢; simpa [keysTo] using HO0.out, fun h => by simp at h, HK0.out⟩
  case round =>
   obtain ⟨k, hk, rfl, HO, HN, HKr⟩ := hrel
   clear HO0 HK0
   by_cases hlt : k < Hs.length
   · skip
     obtain ⟨b, off, ea, c0, c1, c2, c3, c4, c5, c6⟩ := hts_at (unhide HCH _ (HKA.out.trans HKr.out)) k hlt
     have HX := hide ea
     clear ea
     have HS : Hid (Hs.take (k + 1) = Hs.take k ++ [Hs[k]]) := by show _ = _; rw [List.take_add_one, List.getElem?_eq_getElem hlt]; rfl
     generalize Hs[k] = x at *
     obtain ⟨xky, xinn, xout, xai, xao, xkp, xag⟩ := x
     dsimp only at c0 c1 c2 c3 c4 c5 c6 HS
     have HO2 := hide ((HO.out.alloc (.cells #[.int .i64 xky, .int .i64 xinn, .int .i64 xout, .int .i64 xai, .int .i64 xao, .bool xkp, .int .i64 xag] 126)).alloc (.cells #[.int .i64 xky] 3))
     have HK2 := hide (Keeps.alloc (Keeps.alloc HKr.out (.cells #[.int .i64 xky, .int .i64 xinn, .int .i64 xout, .int .i64 xai, .int .i64 xao, .bool xkp, .int .i64 xag] 126)) (.cells #[.int .i64 xky] 3))
     have HM2 := hide (its_one (wr.alloc (.cells #[.int .i64 xky, .int .i64 xinn, .int .i64 xout, .int .i64 xai, .int .i64 xao, .bool xkp, .int .i64 xag] 126)) xky 3)
     have hz : (wr.alloc (.cells #[.int .i64 xky, .int .i64 xinn, .int .i64 xout, .int .i64 xai, .int .i64 xao, .bool xkp, .int .i64 xag] 126)).heap.size = wr.heap.size + 1 := by simp
     rw [hz] at HM2
     have hb2 : W0.heap.size ≤ ((wr.alloc (.cells #[.int .i64 xky, .int .i64 xinn, .int .i64 xout, .int .i64 xai, .int .i64 xao, .bool xkp, .int .i64 xag] 126)).alloc (.cells #[.int .i64 xky] 3)).heap.size := HK2.out.size
     have HB2 := hide hb2
     clear hb2 hz
     obtain rfl := HX.out
     go_wp2_with (at_builtin; refine app_its rfl (.tmp 25) (.tmp 28) rfl W0.heap.size _ (keysTo (Hs.take k) []) [xky] rfl ⟨wr.heap.size + 1, 0, none⟩ 1 rfl HM2.out HO2.out (by simp [keysTo]; omega) HB2.out ?_; intro v' w' ho hg hn)
     go_roundw
     case rel =>
       refine ⟨k + 1, by omega, by go_num, ?_, hn HN.out, Keeps.grown HK2.out hg (fun j hj => (HO2.out.lt j hj).1)⟩
       show OwnsI _ _ _ _
       rw [HS.out]
       simpa [keysTo] using ho
     case measure => simp [intOf]; omega
   · have e : k = Hs.length := by omega
     subst e
     rw [List.take_length] at HO
     obtain ⟨-, -, -, -, -, b5⟩ := HBA.out.kept HKr.out
     dsimp only at b5
     go_wp2_with fail
     clear b5
     have HO1 := hide HO.out
     have HN1 := hide HN.out
     have HK1 := hide HKr.out
     clear HO HN HKr
     go_loopw [3, 34] (fun v y wr => ∃ k : Nat, k ≤ R.length ∧ y = .int .i64 (k : Int) ∧ Hid (OwnsI wr W0.heap.size v (keysTo Hs (R.take k))) ∧ Hid (v ≠ .slice none 0 0) ∧ Hid (Keeps W0 wr)) (fun _ y _ => R.length - (intOf y).toNat)
     case atStart => exact ⟨0, by omega, rfl, by show OwnsI _ _ _ _; simpa using HO1.out, HN1, HK1⟩
     case round =>
      obtain ⟨k, hk, rfl, HO, HN, HKr⟩ := hrel
      clear HO1 HN1 HK1
      by_cases hlt : k < R.length
      · skip
        obtain ⟨b, off, ea, c0, c1, c2, c3, c4⟩ := crs_at (unhide HCR _ (HKA.out.trans HKr.out)) k hlt
        have HX := hide ea
        clear ea
        have HS : Hid (R.take (k + 1) = R.take k ++ [R[k]]) := by show _ = _; rw [List.take_add_one, List.getElem?_eq_getElem hlt]; rfl
        generalize R[k] = x at *
        obtain ⟨xky, xfr, xto, xam, xfe⟩ := x
        dsimp only at c0 c1 c2 c3 c4 HS
        have HO2 := hide ((HO.out.alloc (.cells #[.int .i64 xky, .int .i64 xfr, .int .i64 xto, .int .i64 xam, .int .i64 xfe] 130)).alloc (.cells #[.int .i64 xky] 3))
        have HK2 := hide (Keeps.alloc (Keeps.alloc HKr.out (.cells #[.int .i64 xky, .int .i64 xfr, .int .i64 xto, .int .i64 xam, .int .i64 xfe] 130)) (.cells #[.int .i64 xky] 3))
        have HM2 := hide (its_one (wr.alloc (.cells #[.int .i64 xky, .int .i64 xfr, .int .i64 xto, .int .i64 xam, .int .i64 xfe] 130)) xky 3)
        have hz : (wr.alloc (.cells #[.int .i64 xky, .int .i64 xfr, .int .i64 xto, .int .i64 xam, .int .i64 xfe] 130)).heap.size = wr.heap.size + 1 := by simp
        rw [hz] at HM2
        have hb2 : W0.heap.size ≤ ((wr.alloc (.cells #[.int .i64 xky, .int .i64 xfr, .int .i64 xto, .int .i64 xam, .int .i64 xfe] 130)).alloc (.cells #[.int .i64 xky] 3)).heap.size := HK2.out.size
        have HB2 := hide hb2
        clear hb2 hz
        obtain rfl := HX.out
        go_wp2_with (at_builtin; refine app_its rfl (.tmp 38) (.tmp 41) rfl W0.heap.size _ (keysTo Hs (R.take k)) [xky] rfl ⟨wr.heap.size + 1, 0, none⟩ 1 rfl HM2.out HO2.out (by simp [keysTo]; omega) HB2.out ?_; intro v' w' ho hg hn)
        go_roundw
        case rel =>
          refine ⟨k + 1, by omega, by go_num, ?_, hn HN.out, Keeps.grown HK2.out hg (fun j hj => (HO2.out.lt j hj).1)⟩
          show OwnsI _ _ _ _
          rw [HS.out]
          simpa [keysTo] using ho
        case measure => simp [intOf]; omega
      · have e : k = R.length := by omega
        subst e
        rw [List.take_length] at HO
        have hll : (keysTo Hs R).length ≤ 80 := by simp [keysTo]; omega
        obtain ⟨g, cap, e1, hb, hlt', h1, h2, h3, -⟩ := Go.Lib.holds_of_ownsRow (enc := Value.int .i64) (zs := keysTo Hs R) HO.out HN.out
        have HVE := hide e1
        obtain rfl := HVE.out
        have HKL : Hid (keysB (keysL ⟨tk, nx, wa, C, Hs, R⟩) = keysB (keysTo Hs R)) := rfl
        generalize keysTo Hs R = L at *
        have HST := hide (fun w' => sort_ints g cap W0.heap.size L w')
        clear e1 hb h1 h2 h3 HN
        go_wp2_with fail
        refine (unhide HST _ HO.out (by omega) W0 (Nat.le_refl _) HKr.out).mono ?_
        rintro e w3 ⟨rfl, ho3, hk3⟩
        have HK3 := hide hk3
        obtain ⟨M, hM⟩ : ∃ M, M = sortI L := ⟨_, rfl⟩
        rw [← hM] at ho3
        have HLM : Hid (M.length = L.length) := by show _ = _; rw [hM]; exact sortI_len L
        have HCM : Hid (∀ w'', Keeps w3 w'' → ∀ j (hj : j < M.length), w''.cell? ⟨g, j, none⟩ = some (.int .i64 M[j])) := fun w'' hk j hj => by
          refine hk.cell ?_
          have h := ho3.cells rfl j (.int .i64 M[j]) (by simp [its, hj])
          have ea : (⟨g, 0, none⟩ : Addr).add j = ⟨g, j, none⟩ := by simp [Addr.add]; intro h; exact h.symm
          rw [ea] at h; exact h
        have HN1 : Hid (∀ k (hk : k < M.length), keyB M[k] = false → keysB L = false) := by subst hM; exact fun k hk h => keys_no1 hk h
        have HN2 : Hid (∀ m (hk : m + 1 < M.length), M[m] = M[m + 1] → keysB L = false) := by subst hM; exact fun m hk h => keys_no2 hk h
        have HY : Hid ((∀ k (hk : k < M.length), keyB M[k] = true) → (∀ m (hk : m + 1 < M.length), M[m] ≠ M[m + 1]) → keysB L = true) := by subst hM; exact fun h1 h2 => keys_yes h1 h2
        clear hM
        clear ho3 hk3 HST
        go_wp2_with fail
        go_loopw [48] (fun y wr => ∃ k : Nat, k ≤ L.length ∧ y = .int .i64 (k : Int) ∧ Hid (∀ j (hj : j < M.length), j < k → keyB M[j] = true) ∧ Hid (∀ m (hm : m + 1 < M.length), m + 1 < k → M[m] ≠ M[m + 1]) ∧ Hid (Keeps w3 wr)) (fun y _ => L.length - (intOf y).toNat)
        case atStart => exact ⟨0, by omega, rfl, fun j hj h => absurd h (by omega), fun m hm h => absurd h (by omega), Keeps.refl _⟩
        case round =>
          obtain ⟨k, hk, rfl, HG, HG2, HKr⟩ := hrel
          have hlm := HLM.out
          by_cases hlt : k < L.length
          · have c0 := HCM.out _ HKr.out k (by omega)
            have HX : Hid (M[k]'(by omega) = M[k]'(by omega)) := rfl
            generalize hx : M[k]'(by omega) = x at c0 HX
            replace HX := hide hx
            clear hx
            have HQ := hide (fun w' => key_impl x w')
            cases hb : keyB x
            · rw [hb] at HQ
              go_wp2_with fail
              refine (unhide HQ _).mono ?_
              rintro e w4 ⟨rfl, hk4⟩
              go_wp2_with fail
              go_ret
              exact ⟨ret_b (by rw [HKL.out, HN1.out k (by omega) (by rw [HX.out]; exact hb)]), (HKA.out.trans HK3.out).trans (HKr.out.trans hk4)⟩
            rw [hb] at HQ
            by_cases hk0 : k = 0
            · have h0 : ¬ 0 < k := by omega
              have HK0 := hide hk0
              clear hk0
              go_wp2_with fail
              refine (unhide HQ _).mono ?_
              rintro e w4 ⟨rfl, hk4⟩
              have HK4 := hide (HKr.out.trans hk4)
              clear hk4
              go_wp2_with fail
              go_roundw
              case rel => exact ⟨k + 1, by omega, by go_num, fun j hj h => by
                            by_cases e : j = k
                            · subst e; rw [HX.out]; exact hb
                            · exact HG.out j hj (by omega), fun m hm h => absurd h (by have := HK0.out; omega), HK4.out⟩
              case measure => simp [intOf]; omega
            · have h0 : 0 < k := by omega
              obtain ⟨m, hm⟩ : ∃ m, k = m + 1 := ⟨k - 1, by omega⟩
              have hml : m < M.length := by omega
              have hi1 : (k : Int) - 1 = (m : Int) := by omega
              have c1 := fun w'' hk => HCM.out w'' hk m hml
              have HY0 : Hid (M[m]'hml = M[m]'hml) := rfl
              generalize hy : M[m]'hml = y at c1 HY0
              replace HY0 := hide hy
              replace c1 := hide c1
              have HMK := hide hm
              clear hy hk0 hm
              by_cases hxy : y = x
              · have HXY := hide hxy
                have hxy' : (y == x) = true := by simpa using hxy
                clear hxy
                go_wp2_with fail
                refine (unhide HQ _).mono ?_
                rintro e w4 ⟨rfl, hk4⟩
                have d1 := c1.out w4 (HKr.out.trans hk4)
                have HK4 := hide (HKr.out.trans hk4)
                clear hk4
                go_wp2_with fail
                go_ret
                exact ⟨ret_b (by rw [HKL.out, HN2.out m (by have := HMK.out; omega) (by rw [HY0.out, HXY.out, ← HX.out]; congr 1 <;> exact HMK.out)]), (HKA.out.trans HK3.out).trans HK4.out⟩
              · have HXY := hide hxy
                have hxy' : (y == x) = false := by simpa using hxy
                clear hxy
                go_wp2_with fail
                refine (unhide HQ _).mono ?_
                rintro e w4 ⟨rfl, hk4⟩
                have d1 := c1.out w4 (HKr.out.trans hk4)
                have HK4 := hide (HKr.out.trans hk4)
                clear hk4
                go_wp2_with fail
                go_roundw
                case rel => exact ⟨k + 1, by omega, by go_num, fun j hj h => by
                              by_cases e : j = k
                              · subst e; rw [HX.out]; exact hb
                              · exact HG.out j hj (by omega), fun m' hm' h => by
                              by_cases e : m' = m
                              · subst e
                                rw [HY0.out]
                                intro e2
                                apply HXY.out
                                rw [e2, ← HX.out]
                                congr 1; exact HMK.out.symm
                              · exact HG2.out m' hm' (by have := HMK.out; omega), HK4.out⟩
                case measure => simp [intOf]; omega
          · have HR : Hid (keysB L = true) := HY.out (fun j hj => HG.out j hj (by omega)) (fun m hm => HG2.out m hm (by omega))
            go_wp2_with fail
            go_ret
            exact ⟨ret_b (by rw [HKL.out, HR.out]), (HKA.out.trans HK3.out).trans HKr.out⟩
end Go.Proofs.YtjdbedlgkngdkaaGreatDoor
namespace Go.Proofs.YtjdbedlgkngdkaaGreatDoor
open Go.RowKit Go.Deep
set_option linter.unusedVariables false
set_option linter.unusedSimpArgs false
set_option maxRecDepth 10000

def atI (C : List Chn) (ch : Int) : Int := match atC C ch with | some k => (k : Int) | none => -1
theorem atI_none {C : List Chn} {ch : Int} (h : atC C ch = none) : atI C ch = -1 := by unfold atI; rw [h]
theorem atI_some {C : List Chn} {ch : Int} {k : Nat} (h : atC C ch = some k) : atI C ch = (k : Int) := by unfold atI; rw [h]
theorem atI_has (C : List Chn) (ch : Int) : hasC C ch = decide (0 ≤ atI C ch) := by
  rw [hasC_at]; unfold atI
  cases atC C ch <;> simp
set_option maxHeartbeats 1000000 in
theorem at_spec (B : Bo) (ch : Int) (w : World) (hm : Mem w B.segs) (hl : B.C.length ≤ 1048576) : Calls Tryz.prog 43 #[B.v, .int .i64 ch] w fun e w' => e = .returned (.int .i64 (atI B.C ch)) ∧ Keeps w w' := by
  obtain ⟨tk, nx, wa, ca, cc, C, ha, hc, Hs, ra, rc, R⟩ := B
  have HCC := hide (fun w' (hk : Keeps w w') => Bo.memC (hm.kept hk))
  have HCH := hide (fun w' (hk : Keeps w w') => Bo.memH (hm.kept hk))
  have HCR := hide (fun w' (hk : Keeps w w') => Bo.memR (hm.kept hk))
  have HL := hide hl
  have HBA := hide (book_box ⟨tk, nx, wa, ca, cc, C, ha, hc, Hs, ra, rc, R⟩ w 27)
  have HKA := hide (Keeps.alloc (Keeps.refl w) (.cells #[.int .i64 tk, .int .i64 nx, .int .i64 wa, .slice ca C.length cc, .slice ha Hs.length hc, .slice ra R.length rc] 27))
  dsimp only [Bo.d, Bo.v] at *
  clear hm hl
  go_enter Tryz.func43, Tryz.ntmps43
  go_wp2_with fail
  generalize w.alloc (.cells #[.int .i64 tk, .int .i64 nx, .int .i64 wa, .slice ca C.length cc, .slice ha Hs.length hc, .slice ra R.length rc] 27) = W0 at *
  obtain ⟨-, -, -, b3, -, -⟩ := HBA.out
  dsimp only at b3
  have HC := hide (unhide HCC _ HKA.out)

  have hl := HL.out
  go_loop [9] (fun y => ∃ k : Nat, k ≤ C.length ∧ y = .int .i64 (k : Int) ∧ Hid (∀ j (hj : j < C.length), j < k → C[j].id ≠ ch)) (fun y => C.length - (intOf y).toNat)
  case atStart => exact ⟨0, by omega, rfl, fun j hj h => absurd h (by omega)⟩
  case round =>
    obtain ⟨k, hk, rfl, HG⟩ := hrel
    by_cases hlt : k < C.length
    · obtain ⟨b, off, ea, c0, -, -, -, -, -, -⟩ := chs_at HC.out k hlt
      have HX := hide ea
      obtain rfl := HX.out
      by_cases he : C[k].id = ch
      · have HR : Hid (atI C ch = (k : Int)) := atI_some (atC_some hlt he HG.out)
        rw [he] at c0
        clear he HG
        go_wp2_with fail
        go_ret
        exact ⟨ret_i HR.out.symm, HKA.out⟩
      · have HE := hide he
        generalize C[k].id = x at c0 he
        go_wp2_with fail
        go_round
        case rel => exact ⟨k + 1, by omega, by go_num, fun j hj h => by
                      by_cases e : j = k
                      · subst e; exact HE.out
                      · exact HG.out j hj (by omega)⟩
        case measure => simp [intOf]; omega
    · have HR : Hid (atI C ch = -1) := atI_none (atC_none (fun j hj => HG.out j hj (by omega)))
      go_wp2_with fail
      go_ret
      exact ⟨ret_i HR.out.symm, HKA.out⟩
set_option maxHeartbeats 1000000 in
theorem two_spec (B : Bo) (x y : Int) (w : World) (hm : Mem w B.segs) (hl : B.C.length ≤ 1048576) : Calls Tryz.prog 75 #[B.v, .int .i64 x, .int .i64 y] w fun e w' => e = .returned (.bool (twoB B.C x y)) ∧ Keeps w w' := by
  have HC := hide (fun ch w' (hk : Keeps w w') => at_spec B ch w' (hm.kept hk) hl)
  obtain ⟨tk, nx, wa, ca, cc, C, ha, hc, Hs, ra, rc, R⟩ := B
  have HCC := hide (fun w' (hk : Keeps w w') => Bo.memC (hm.kept hk))
  have HCH := hide (fun w' (hk : Keeps w w') => Bo.memH (hm.kept hk))
  have HCR := hide (fun w' (hk : Keeps w w') => Bo.memR (hm.kept hk))
  have HL := hide hl
  have HBA := hide (book_box ⟨tk, nx, wa, ca, cc, C, ha, hc, Hs, ra, rc, R⟩ w 27)
  have HKA := hide (Keeps.alloc (Keeps.refl w) (.cells #[.int .i64 tk, .int .i64 nx, .int .i64 wa, .slice ca C.length cc, .slice ha Hs.length hc, .slice ra R.length rc] 27))
  dsimp only [Bo.d, Bo.v] at *
  clear hm hl
  go_enter Tryz.func75, Tryz.ntmps75
  by_cases hxy : x = y
  · have HV : Hid (twoB C x y = false) := by show _ = _; simp [twoB, hxy]
    go_wp2_with fail
    go_ret
    exact ⟨ret_b HV.out.symm, HKA.out⟩
  go_wp2_with fail
  generalize w.alloc (.cells #[.int .i64 tk, .int .i64 nx, .int .i64 wa, .slice ca C.length cc, .slice ha Hs.length hc, .slice ra R.length rc] 27) = W0 at *
  obtain ⟨b0, b1, b2, b3, b4, b5⟩ := HBA.out
  dsimp only at b0 b1 b2 b3 b4 b5
  have hx := atI_has C x
  have hy := atI_has C y
  go_wp2_with fail
  refine (unhide HC x _ HKA.out).mono ?_
  rintro e w1 ⟨rfl, hk⟩
  have HK1 := hide (HKA.out.trans hk)
  obtain ⟨e0, e1, e2, e3, e4, e5⟩ := HBA.out.kept hk
  dsimp only at e0 e1 e2 e3 e4 e5
  clear hk b0 b1 b2 b3 b4 b5
  generalize hp : atI C x = p at *
  by_cases h1 : 0 ≤ p
  rotate_left
  · have HV : Hid (twoB C x y = false) := by show _ = _; simp [twoB, hx, h1]
    go_wp2_with fail
    go_ret
    exact ⟨ret_b HV.out.symm, HK1.out⟩
  have HV1 : Hid (hasC C x = true) := by show _ = _; rw [hx]; simpa using h1
  go_wp2_with fail
  refine (unhide HC y _ HK1.out).mono ?_
  rintro e w2 ⟨rfl, hk⟩
  have HK2 := hide (HK1.out.trans hk)
  clear hk
  have HV : Hid (decide (0 ≤ atI C y) = twoB C x y) := by show _ = _; simp [twoB, HV1.out, hxy, ← hy]
  clear hx hy
  generalize atI C y = q at *
  go_wp2_with fail
  go_ret
  exact ⟨ret_b (by rw [← HV.out]; (first | rfl | simp_all)), HK2.out⟩
set_option maxHeartbeats 1000000 in
theorem hasint_spec (a : Option Addr) (cap : Nat) (L : List Int) (x : Int) (w : World) (hc : Cells w a (its L)) (hl : L.length ≤ 1048576) : Calls Tryz.prog 134 #[.slice a L.length cap, .int .i64 x] w fun e w' => e = .returned (.bool (decide (x ∈ L))) ∧ w' = w := by
  have HC := hide hc
  clear hc
  go_enter Tryz.func134, Tryz.ntmps134
  go_wp2_with fail
  go_loop [9] (fun y => ∃ k : Nat, k ≤ L.length ∧ y = .int .i64 (k : Int) ∧ Hid (∀ j (hj : j < L.length), j < k → L[j] ≠ x)) (fun y => L.length - (intOf y).toNat)
  case atStart => exact ⟨0, by omega, rfl, fun j hj h => absurd h (by omega)⟩
  case round =>
    obtain ⟨k, hk, rfl, HG⟩ := hrel
    by_cases hlt : k < L.length
    · obtain ⟨b, off, ea, c0⟩ := its_at HC.out k hlt
      have HX := hide ea
      obtain rfl := HX.out
      by_cases he : L[k] = x
      · have HR : Hid (decide (x ∈ L) = true) := decide_eq_true (he ▸ List.getElem_mem hlt)
        rw [he] at c0
        clear he HG
        go_wp2_with fail
        go_ret
        exact ⟨ret_b HR.out.symm, rfl⟩
      · have HE := hide he
        generalize L[k] = z at c0 he
        go_wp2_with fail
        go_round
        case rel => exact ⟨k + 1, by omega, by go_num, fun j hj h => by
                      by_cases e : j = k
                      · subst e; exact HE.out
                      · exact HG.out j hj (by omega)⟩
        case measure => simp [intOf]; omega
    · have HR : Hid (decide (x ∈ L) = false) := decide_eq_false (fun hx => by
        obtain ⟨j, hj, e⟩ := List.getElem_of_mem hx
        exact HG.out j hj (by omega) e)
      go_wp2_with fail
      go_ret
      exact ⟨ret_b HR.out.symm, rfl⟩
end Go.Proofs.YtjdbedlgkngdkaaGreatDoor
namespace Go.Proofs.YtjdbedlgkngdkaaGreatDoor
open Go.RowKit Go.Deep
set_option linter.unusedVariables false

theorem Keeps.rowK {w w' : World} (hk : Keeps w w') {b : Nat} {t : TypeId} {n : Nat} {f : Nat → Value} (h : w.rowIs b t n f) : w'.rowIs b t n f := h.of_block (Below.block hk b h.lt)
theorem own_row {w : World} {b : Nat} {t : TypeId} {n : Nat} {f : Nat → Value} (h : w.rowIs b t n f) (xs : List Value) (hx : xs.length ≤ n) (hf : ∀ j (hj : j < xs.length), f j = xs[j]) : Own w [(some ⟨b, 0, none⟩, xs)] := by
  refine ⟨?_, ?_, ?_⟩
  · intro s hs
    rw [List.mem_singleton.1 hs]
    refine Or.inr ⟨b, 0, rfl, fun j hj => ?_⟩
    have hj' : j < xs.length := hj
    rw [Nat.zero_add, h.cell (by omega), hf j hj']
  · by_cases h0 : xs = [] <;> simp [fp, fpS, h0]
  · intro g hg
    by_cases h0 : xs = []
    · simp [fp, fpS, h0] at hg
    · simp [fp, fpS, h0] at hg
      subst hg
      exact h.frozen
theorem born_row {W w : World} {b : Nat} {t : TypeId} {n : Nat} {f : Nat → Value} (h : w.rowIs b t n f) (xs : List Value) (hx : xs.length ≤ n) (hf : ∀ j (hj : j < xs.length), f j = xs[j]) (hb : W.heap.size ≤ b) : Born W w [(some ⟨b, 0, none⟩, xs)] :=
  ⟨own_row h xs hx hf, fun g hg => by
    by_cases h0 : xs = []
    · simp [fp, fpS, h0] at hg
    · simp [fp, fpS, h0] at hg
      omega⟩
theorem addr_at (b off j : Nat) : (⟨b, off, none⟩ : Addr).add j = ⟨b, off + j, none⟩ := by
  unfold Addr.add
  by_cases h : j = 0
  · simp [h]
  · simp [h]
theorem own_wrote {w w' : World} {a : Option Addr} {xs ys : List Value} (h : Own w [(a, xs)]) (hl : ys.length = xs.length) (hc : Cells w' a ys) (hf : ∀ p, w'.frozen? p = w.frozen? p) : Own w' [(a, ys)] := by
  have e : fp [(a, ys)] = fp [(a, xs)] := by rw [fp_one, fp_one]; exact fpS_len hl
  refine ⟨?_, by rw [e]; exact h.nd, ?_⟩
  · intro s hs
    rw [List.mem_singleton.1 hs]; exact hc
  · rw [e]
    intro b hb o
    rw [hf]; exact h.free b hb o
theorem cells_setF {w : World} {g off : Nat} {xs : List Value} (hc : ∀ j (hj : j < xs.length), w.cell? ⟨g, off + j, none⟩ = some xs[j]) (i : Nat) (v : Value) (hi : i < xs.length) : ∀ j (hj : j < (xs.set i v).length), (w.setCell ⟨g, off + i, none⟩ v).cell? ⟨g, off + j, none⟩ = some (xs.set i v)[j] := by
  intro j hj
  have hj' : j < xs.length := by simpa using hj
  by_cases e : j = i
  · subst e
    rw [World.cell?_setCell_same _ _ _ (hc j hj')]; simp
  · rw [World.cell?_setCell_other _ _ _ _ (by simp), hc j hj', List.getElem_set_ne (Ne.symm e)]
/-- One cell of a list of one's own was written. -/
theorem own_set {w : World} {g off : Nat} {xs : List Value} (h : Own w [(some ⟨g, off, none⟩, xs)]) (i : Nat) (v : Value) (hi : i < xs.length) : Own (w.setCell ⟨g, off + i, none⟩ v) [(some ⟨g, off, none⟩, xs.set i v)] := by
  refine own_wrote h (by simp) (Or.inr ⟨g, off, rfl, cells_setF ?_ i v hi⟩) (fun p => frozen_set ..)
  rcases h.one with h' | ⟨g', off', e, h'⟩
  · rw [h'] at hi; simp at hi
  · have e' := Option.some.inj e
    injection e' with e1 e2
    subst e1 e2
    exact h'
end Go.Proofs.YtjdbedlgkngdkaaGreatDoor
namespace Go.Proofs.YtjdbedlgkngdkaaGreatDoor
open Go.RowKit Go.Deep
set_option linter.unusedVariables false
set_option linter.unusedSimpArgs false
set_option maxRecDepth 10000

structure Prc where
  fr : Int
  to : Int
  pp : Int
def Prc.cells (x : Prc) : List Value := [.int .i64 x.fr, .int .i64 x.to, .int .i64 x.pp]
def pcs (xs : List Prc) : List Value := xs.flatMap Prc.cells
theorem pcs_len (xs : List Prc) : (pcs xs).length = xs.length * 3 := flatMap_len (f := Prc.cells) (sz := 3) (fun _ => rfl) xs
theorem pcs_append (xs ys : List Prc) : pcs (xs ++ ys) = pcs xs ++ pcs ys := by simp [pcs]
theorem pcs_at {w : World} {a : Option Addr} {xs : List Prc} (h : Cells w a (pcs xs)) (k : Nat) (hk : k < xs.length) :
    ∃ b off, a = some ⟨b, off, none⟩ ∧ w.cell? ⟨b, off + k * 3, none⟩ = some (.int .i64 xs[k].fr) ∧ w.cell? ⟨b, off + k * 3 + 1, none⟩ = some (.int .i64 xs[k].to) ∧ w.cell? ⟨b, off + k * 3 + 2, none⟩ = some (.int .i64 xs[k].pp) := by
  obtain ⟨b, off, e, h⟩ := elem_at (f := Prc.cells) (sz := 3) (fun _ => rfl) h k hk (by decide)
  exact ⟨b, off, e, h 0 (by simp [Prc.cells]), h 1 (by simp [Prc.cells]), h 2 (by simp [Prc.cells])⟩
end Go.Proofs.YtjdbedlgkngdkaaGreatDoor
namespace Go.Proofs.YtjdbedlgkngdkaaGreatDoor
open Go.RowKit Go.Deep
set_option linter.unusedVariables false
set_option linter.unusedSimpArgs false
set_option maxRecDepth 10000

structure Mov where
  fr : Int
  to : Int
  am : Int
  pp : Int
def Mov.cells (x : Mov) : List Value := [.int .i64 x.fr, .int .i64 x.to, .int .i64 x.am, .int .i64 x.pp]
def mvs (xs : List Mov) : List Value := xs.flatMap Mov.cells
theorem mvs_len (xs : List Mov) : (mvs xs).length = xs.length * 4 := flatMap_len (f := Mov.cells) (sz := 4) (fun _ => rfl) xs
theorem mvs_append (xs ys : List Mov) : mvs (xs ++ ys) = mvs xs ++ mvs ys := by simp [mvs]
theorem mvs_at {w : World} {a : Option Addr} {xs : List Mov} (h : Cells w a (mvs xs)) (k : Nat) (hk : k < xs.length) :
    ∃ b off, a = some ⟨b, off, none⟩ ∧ w.cell? ⟨b, off + k * 4, none⟩ = some (.int .i64 xs[k].fr) ∧ w.cell? ⟨b, off + k * 4 + 1, none⟩ = some (.int .i64 xs[k].to) ∧ w.cell? ⟨b, off + k * 4 + 2, none⟩ = some (.int .i64 xs[k].am) ∧ w.cell? ⟨b, off + k * 4 + 3, none⟩ = some (.int .i64 xs[k].pp) := by
  obtain ⟨b, off, e, h⟩ := elem_at (f := Mov.cells) (sz := 4) (fun _ => rfl) h k hk (by decide)
  exact ⟨b, off, e, h 0 (by simp [Mov.cells]), h 1 (by simp [Mov.cells]), h 2 (by simp [Mov.cells]), h 3 (by simp [Mov.cells])⟩
end Go.Proofs.YtjdbedlgkngdkaaGreatDoor
namespace Go.Proofs.YtjdbedlgkngdkaaGreatDoor
open Go.RowKit Go.Deep
set_option linter.unusedVariables false
set_option linter.unusedSimpArgs false
set_option maxRecDepth 10000

structure Edg where
  fr : Int
  to : Int
  cp : Int
  co : Int
def Edg.cells (x : Edg) : List Value := [.int .i64 x.fr, .int .i64 x.to, .int .i64 x.cp, .int .i64 x.co]
def egs (xs : List Edg) : List Value := xs.flatMap Edg.cells
theorem egs_len (xs : List Edg) : (egs xs).length = xs.length * 4 := flatMap_len (f := Edg.cells) (sz := 4) (fun _ => rfl) xs
theorem egs_append (xs ys : List Edg) : egs (xs ++ ys) = egs xs ++ egs ys := by simp [egs]
theorem egs_at {w : World} {a : Option Addr} {xs : List Edg} (h : Cells w a (egs xs)) (k : Nat) (hk : k < xs.length) :
    ∃ b off, a = some ⟨b, off, none⟩ ∧ w.cell? ⟨b, off + k * 4, none⟩ = some (.int .i64 xs[k].fr) ∧ w.cell? ⟨b, off + k * 4 + 1, none⟩ = some (.int .i64 xs[k].to) ∧ w.cell? ⟨b, off + k * 4 + 2, none⟩ = some (.int .i64 xs[k].cp) ∧ w.cell? ⟨b, off + k * 4 + 3, none⟩ = some (.int .i64 xs[k].co) := by
  obtain ⟨b, off, e, h⟩ := elem_at (f := Edg.cells) (sz := 4) (fun _ => rfl) h k hk (by decide)
  exact ⟨b, off, e, h 0 (by simp [Edg.cells]), h 1 (by simp [Edg.cells]), h 2 (by simp [Edg.cells]), h 3 (by simp [Edg.cells])⟩
end Go.Proofs.YtjdbedlgkngdkaaGreatDoor
namespace Go.Proofs.YtjdbedlgkngdkaaGreatDoor
open Go.RowKit Go.Deep
set_option linter.unusedVariables false
set_option linter.unusedSimpArgs false
set_option maxRecDepth 10000

/-- A graph in memory. -/
structure Gf where
  nn : Int
  ea : Option Addr
  ec : Nat
  E : List Edg
def Gf.v (G : Gf) : Value := .agg #[.int .i64 G.nn, .slice G.ea G.E.length G.ec]
def Gf.segs (G : Gf) : List Seg := [(G.ea, egs G.E)]
def Gf.d (G : Gf) : Int × List Edg := (G.nn, G.E)
def Gf.len (G : Gf) : Prop := G.E.length ≤ 1048576
def Gf.fit (G : Gf) : Prop := (G.ea = none → G.ec = 0) ∧ G.E.length ≤ G.ec
theorem Gf.memE {w : World} {G : Gf} (h : Mem w G.segs) : Cells w G.ea (egs G.E) := h (G.ea, egs G.E) (by simp [Gf.segs])
/-- A graph lies in a block of its own. -/
def GrAt (w : World) (b : Nat) (G : Gf) : Prop := w.cell? ⟨b, 0, none⟩ = some (.int .i64 G.nn) ∧ w.cell? ⟨b, 1, none⟩ = some (.slice G.ea G.E.length G.ec)
theorem GrAt.kept {w w' : World} {b : Nat} {G : Gf} (h : GrAt w b G) (hk : Keeps w w') : GrAt w' b G := ⟨hk.cell h.1, hk.cell h.2⟩
theorem gr_box (G : Gf) (w : World) (T : TypeId) : GrAt (w.alloc (.cells #[.int .i64 G.nn, .slice G.ea G.E.length G.ec] T)) w.heap.size G := by
  constructor <;> simp
end Go.Proofs.YtjdbedlgkngdkaaGreatDoor
namespace Go.Proofs.YtjdbedlgkngdkaaGreatDoor
open Go.RowKit
set_option linter.unusedVariables false
set_option linter.unusedSimpArgs false
set_option maxRecDepth 10000

/-- Are these limits? -/
def bandB (lo hi : Int) : Bool := decide (0 ≤ lo) && decide (lo ≤ hi) && decide (hi ≤ 100)
theorem bandB_true {lo hi : Int} (h : bandB lo hi = true) : 0 ≤ lo ∧ lo ≤ hi ∧ hi ≤ 100 := by simp [bandB] at h; omega
theorem bandB_yes {lo hi : Int} (h0 : 0 ≤ lo) (h1 : lo ≤ hi) (h2 : hi ≤ 100) : bandB lo hi = true := by simp [bandB]; omega
theorem bandB_no {lo hi : Int} (h : lo < 0 ∨ hi < lo ∨ 100 < hi) : bandB lo hi = false := by
  cases e : bandB lo hi
  · rfl
  · have := bandB_true e; omega
/-- A part of a size that the limit gives. -/
def endV (sz k lo hi : Int) : Int := if (bandB lo hi && amtB sz) = true then sz * k / 100 else 0
theorem endV_no {sz lo hi : Int} (k : Int) (h : (bandB lo hi && amtB sz) = false) : endV sz k lo hi = 0 := by simp [endV, h]
theorem endV_yes {sz lo hi : Int} (k : Int) (h : (bandB lo hi && amtB sz) = true) : endV sz k lo hi = sz * k / 100 := by simp [endV, h]
theorem part_bound {sz k : Int} (h0 : 0 ≤ sz) (h1 : sz ≤ 1125899906842624) (k0 : 0 ≤ k) (k1 : k ≤ 100) : 0 ≤ sz * k / 100 ∧ sz * k / 100 ≤ sz := by
  have a : 0 ≤ sz * k := Int.mul_nonneg h0 k0
  have b : sz * k ≤ sz * 100 := Int.mul_le_mul_of_nonneg_left k1 h0
  generalize sz * k = X at *
  omega
theorem endV_bound {sz lo hi k : Int} (hk : k = lo ∨ k = hi) : 0 ≤ endV sz k lo hi ∧ endV sz k lo hi ≤ 1125899906842624 := by
  cases h : bandB lo hi && amtB sz
  · rw [endV_no k h]; omega
  · rw [endV_yes k h]
    rw [Bool.and_eq_true] at h
    obtain ⟨b1, b2, b3⟩ := bandB_true h.1
    obtain ⟨s0, s1⟩ := amtB_true h.2
    have := part_bound s0 s1 (k := k) (by omega) (by omega)
    omega
end Go.Proofs.YtjdbedlgkngdkaaGreatDoor
namespace Go.Proofs.YtjdbedlgkngdkaaGreatDoor
open Go.RowKit Go.Deep
set_option linter.unusedVariables false
set_option linter.unusedSimpArgs false
set_option maxRecDepth 10000

def sameP (p q : Prc) : Bool := decide (p.fr = q.fr) && decide (p.to = q.to)
/-- Price k is right, and its way is new. -/
def prAt (C : List Chn) (L : List Prc) (k : Nat) : Bool := match L[k]? with
  | none => true
  | some p => twoB C p.fr p.to && ppmB p.pp && !((L.take k).any (sameP p))
def pricesB (B : Bk) (L : List Prc) : Bool := bookB B && decide (L.length ≤ 20) && (List.range L.length).all (prAt B.C L)
theorem prAt_at {C : List Chn} {L : List Prc} {k : Nat} (hk : k < L.length) : prAt C L k = (twoB C L[k].fr L[k].to && ppmB L[k].pp && !((L.take k).any (sameP L[k]))) := by
  unfold prAt; rw [List.getElem?_eq_getElem hk]
theorem prices_yes {B : Bk} {L : List Prc} (h0 : bookB B = true) (h1 : L.length ≤ 20) (h : ∀ j, j < L.length → prAt B.C L j = true) : pricesB B L = true := by
  simp only [pricesB, h0, h1, decide_true, Bool.true_and, List.all_eq_true, List.mem_range]
  exact h
theorem prices_no {B : Bk} {L : List Prc} {k : Nat} (hk : k < L.length) (h : prAt B.C L k = false) : pricesB B L = false := by
  have : (List.range L.length).all (prAt B.C L) = false := by
    rw [List.all_eq_false]; exact ⟨k, by simpa using hk, by simp [h]⟩
  simp [pricesB, this]
theorem prices_book {B : Bk} {L : List Prc} (h : bookB B = false) : pricesB B L = false := by simp [pricesB, h]
theorem prices_len {B : Bk} {L : List Prc} (h : 20 < L.length) : pricesB B L = false := by
  have : ¬ L.length ≤ 20 := by omega
  simp [pricesB, this]
theorem prices_true {B : Bk} {L : List Prc} (h : pricesB B L = true) : bookB B = true ∧ L.length ≤ 20 ∧ ∀ j (hj : j < L.length), twoB B.C L[j].fr L[j].to = true ∧ ppmB L[j].pp = true := by
  simp only [pricesB, Bool.and_eq_true, decide_eq_true_eq, List.all_eq_true, List.mem_range] at h
  refine ⟨h.1.1, h.1.2, fun j hj => ?_⟩
  have := h.2 j hj
  rw [prAt_at hj] at this
  simp only [Bool.and_eq_true] at this
  exact ⟨this.1.1, this.1.2⟩
/-- What is above MaxCap becomes MaxCap. -/
def capV (n : Int) : Int := if n ≤ 1000000000 then n else 1000000000
def aboveE (lo hi : Int) (k : Nat) (c : Chn) : List Edg := if endV c.sz hi lo hi < c.lo then [⟨0, (k : Int) + 1, capV (c.lo - endV c.sz hi lo hi), 0⟩] else []
def lackE (lo hi gain : Int) (k : Nat) (c : Chn) : List Edg := if c.lo < endV c.sz lo lo hi then [⟨(k : Int) + 1, 0, capV (endV c.sz lo lo hi - c.lo), -gain⟩] else []
/-- The edges of the first k channels. -/
def overC (f : Nat → Chn → List Edg) (C : List Chn) : Nat → List Edg
  | 0 => []
  | k + 1 => overC f C k ++ (match C[k]? with | some c => f k c | none => [])
theorem overC_step (f : Nat → Chn → List Edg) (C : List Chn) {k : Nat} (hk : k < C.length) : overC f C (k + 1) = overC f C k ++ f k C[k] := by
  simp [overC, List.getElem?_eq_getElem hk]
def priceE (C : List Chn) (p : Prc) : Edg := ⟨atI C p.fr + 1, atI C p.to + 1, 1000000000, p.pp⟩
def planE (C : List Chn) (lo hi gain : Int) (L : List Prc) : List Edg := overC (aboveE lo hi) C C.length ++ overC (lackE lo hi gain) C C.length ++ L.map (priceE C)
def planB (B : Bk) (lo hi gain : Int) (L : List Prc) : Bool := pricesB B L && bandB lo hi && ppmB gain
def planN (B : Bk) (lo hi gain : Int) (L : List Prc) : Int := if planB B lo hi gain L = true then (B.C.length : Int) + 1 else 0
def planV (B : Bk) (lo hi gain : Int) (L : List Prc) : List Edg := if planB B lo hi gain L = true then planE B.C lo hi gain L else []
theorem aboveE_len (lo hi : Int) (k : Nat) (c : Chn) : (aboveE lo hi k c).length ≤ 1 := by unfold aboveE; split <;> simp
theorem lackE_len (lo hi gain : Int) (k : Nat) (c : Chn) : (lackE lo hi gain k c).length ≤ 1 := by unfold lackE; split <;> simp
theorem overC_len {f : Nat → Chn → List Edg} (hf : ∀ k c, (f k c).length ≤ 1) (C : List Chn) : ∀ k, (overC f C k).length ≤ k
  | 0 => by simp [overC]
  | k + 1 => by
    have := overC_len hf C k
    unfold overC
    rw [List.length_append]
    cases C[k]? with
    | none => simp; omega
    | some c => have := hf k c; simp only []; omega
theorem plan_len {B : Bk} {lo hi gain : Int} {L : List Prc} (h : planB B lo hi gain L = true) : (planE B.C lo hi gain L).length ≤ 60 ∧ L.length ≤ (planE B.C lo hi gain L).length := by
  simp only [planB, Bool.and_eq_true] at h
  obtain ⟨hb, hl, _⟩ := prices_true h.1.1
  have hc : B.C.length ≤ 20 := by
    simp only [bookB, headB, Bool.and_eq_true, decide_eq_true_eq] at hb
    omega
  have h1 := overC_len (aboveE_len lo hi) B.C B.C.length
  have h2 := overC_len (lackE_len lo hi gain) B.C B.C.length
  unfold planE
  simp only [List.length_append, List.length_map]
  omega
theorem planV_len (B : Bk) (lo hi gain : Int) (L : List Prc) : (planV B lo hi gain L).length ≤ 60 := by
  unfold planV
  split
  · next h => exact (plan_len h).1
  · simp
/-- Numbers rise, so a channel is found at its place. -/
theorem atC_own {C : List Chn} (h : idsB C = true) {k : Nat} (hk : k < C.length) : atC C C[k].id = some k := by
  refine atC_some hk rfl (fun j hj hlt => ?_)
  have hs : ∀ i, i + 1 < C.length → ∀ (h1 : i < C.length) (h2 : i + 1 < C.length), C[i].id < C[i + 1].id := by
    intro i hi h1 h2
    simp only [idsB, List.all_eq_true, List.mem_range] at h
    have := h (i + 1) hi
    unfold idAt at this
    rw [List.getElem?_eq_getElem h2, show i + 1 - 1 = i by omega, List.getElem?_eq_getElem h1] at this
    simp at this
    exact this.2
  have up : ∀ d i, (hi : i < C.length) → (hd : i + d + 1 < C.length) → C[i].id < (C[i + d + 1]'hd).id := by
    intro d
    induction d with
    | zero => intro i hi hd; exact hs i hd hi hd
    | succ d ih =>
      intro i hi hd
      have a := ih i hi (by omega)
      have b := hs (i + d + 1) (by omega) (by omega) (by omega)
      have e : i + (d + 1) + 1 = i + d + 1 + 1 := by omega
      simp only [e] at *
      exact Int.lt_trans a b
  have := up (k - j - 1) j hj (by omega)
  have e : j + (k - j - 1) + 1 = k := by omega
  simp only [e] at this
  omega
theorem atI_own {C : List Chn} (h : idsB C = true) {k : Nat} (hk : k < C.length) : atI C C[k].id = (k : Int) := atI_some (atC_own h hk)
/-- The move of a price with n on its edge. -/
def moveP (p : Prc) (n : Int) : List Mov := if 0 < n then [⟨p.fr, p.to, n, p.pp⟩] else []
/-- The moves of the first k prices, whose edges begin at s. -/
def movesTo (L : List Prc) (F : List Int) (s : Nat) : Nat → List Mov
  | 0 => []
  | k + 1 => movesTo L F s k ++ (match L[k]?, F[s + k]? with | some p, some n => moveP p n | _, _ => [])
theorem movesTo_step {L : List Prc} {F : List Int} {s k : Nat} (hk : k < L.length) (hf : s + k < F.length) : movesTo L F s (k + 1) = movesTo L F s k ++ moveP L[k] F[s + k] := by
  simp [movesTo, List.getElem?_eq_getElem hk, List.getElem?_eq_getElem hf]
theorem movesTo_len (L : List Prc) (F : List Int) (s : Nat) : ∀ k, (movesTo L F s k).length ≤ k
  | 0 => by simp [movesTo]
  | k + 1 => by
    have := movesTo_len L F s k
    unfold movesTo
    rw [List.length_append]
    cases L[k]? with
    | none => simp; omega
    | some p =>
      cases F[s + k]? with
      | none => simp; omega
      | some n =>
        simp only [moveP]
        split <;> simp <;> omega
end Go.Proofs.YtjdbedlgkngdkaaGreatDoor
namespace Go.Proofs.YtjdbedlgkngdkaaGreatDoor
open Go.RowKit Go.Deep
set_option linter.unusedVariables false
set_option linter.unusedSimpArgs false
set_option maxRecDepth 10000

def Edg.v (x : Edg) : Value := .agg #[.int .i64 x.fr, .int .i64 x.to, .int .i64 x.cp, .int .i64 x.co]
theorem infoEdge : (Tryz.prog.info? 40).map (fun i => (i.zero, i.size, i.bytes)) = some (some (.agg #[.int .i64 0, .int .i64 0, .int .i64 0, .int .i64 0]), 4, 32) := by kernel_rfl
theorem underEdges : Tryz.prog.underlying 34 = some (.slice 40) := by kernel_rfl
end Go.Proofs.YtjdbedlgkngdkaaGreatDoor
namespace Go.Proofs.YtjdbedlgkngdkaaGreatDoor
open Go.RowKit Go.Deep
set_option linter.unusedVariables false
set_option linter.unusedSimpArgs false
set_option maxRecDepth 10000

/-- A list of Edge of one's own. -/
abbrev OwnsEdge (w : World) (base : Nat) (v : Value) (L : List Edg) : Prop := w.ownsRow base 40 4 v L.length (egs L)
theorem cells_Edge {L : List Edg} : egs L = [] ↔ L = [] := by
  constructor
  · intro h
    have := egs_len L
    rw [h] at this
    simp only [List.length_nil] at this
    exact List.length_eq_zero_iff.1 (by omega)
  · rintro rfl; rfl
theorem cell_one_Edge {L : List Edg} {u : Value} (h : u ∈ egs L) : u.oneCell' = true := by
  unfold egs at h
  obtain ⟨x, _, hx⟩ := List.mem_flatMap.1 h
  simp only [Edg.cells, List.mem_cons, List.mem_nil_iff, or_false] at hx
  rcases hx with rfl | rfl | rfl | rfl <;> rfl
/-- append to a list of one's own, whatever list is appended. -/
theorem app_Edge {ops : Array Oper} {rest : List Oper} {o : Oper} {a : Act} {Q : Exit → Act → World → Prop} {wr : World} (hgd : o.guard = none) (s x : Operand)
    (ho : o.op = .call { callee := .builtin .append, args := #[s, x], argTypes := #[34, 34] }) (base : Nat) (v : Value) (L M : List Edg) (hs : a.eval s = v) (xa : Option Addr) (c : Nat)
    (hx : a.eval x = .slice xa M.length c) (hM : Cells wr xa (egs M)) (hn : xa = none → c = 0) (hown : OwnsEdge wr base v L) (hl : L.length + M.length ≤ 4194304) (hbase : base ≤ wr.heap.size)
    (h : ∀ v' w', OwnsEdge w' base v' (L ++ M) → wr.grownBy w' v.ownBlock → (v ≠ .slice none 0 0 → v' ≠ .slice none 0 0) → wpList Tryz.prog ops Q rest (a.put o.dst v') w') :
    wpList Tryz.prog ops Q (o :: rest) a wr := by
  have hI := infoEdge
  cases hi : Tryz.prog.info? 40 with
  | none => rw [hi] at hI; simp at hI
  | some i =>
    rw [hi] at hI
    simp at hI
    obtain ⟨hz, hsz, hby⟩ := hI
    cases xa with
    | none =>
      obtain rfl := hn rfl
      have hM0 : M = [] := by
        rcases hM with hM | ⟨_, _, e, _⟩
        · exact cells_Edge.1 hM
        · cases e
      subst hM0
      refine wpList_append_own_none hgd s x 34 ho base 40 i 4 underEdges hi v L.length (egs L) hs hown hx ?_
      exact h v wr (by simpa using hown) ⟨rfl, rfl, rfl, Nat.le_refl _, fun _ _ _ => rfl⟩ (fun h => h)
    | some p =>
      refine wpList_append_own _ hgd s x 34 ho base 40 i _ 4 32 underEdges hi hz hsz hby rfl (by decide) v L.length (egs L) hs hown p M.length c (egs M) hx (by rw [egs_len]) ?_ (fun u hu => cell_one_Edge hu) ?_ ?_ hbase ?_
      · intro j u hj
        rcases hM with hM | ⟨b, off, e, hM⟩
        · rw [hM] at hj; simp at hj
        · obtain rfl := Option.some.inj e
          obtain ⟨hj', e'⟩ := List.getElem?_eq_some_iff.1 hj
          have := hM j hj'
          rw [e'] at this
          rw [← this, addr_at]
      · simp only [maxLen]; omega
      · omega
      · intro v' w' h1 h2 h3
        exact h v' w' (by unfold OwnsEdge; rw [egs_append, List.length_append]; exact h1) h2 (fun hn he => hn (h3.1 he).1)
end Go.Proofs.YtjdbedlgkngdkaaGreatDoor
namespace Go.Proofs.YtjdbedlgkngdkaaGreatDoor
open Go.RowKit Go.Deep
set_option linter.unusedVariables false
set_option linter.unusedSimpArgs false
set_option maxRecDepth 10000

def row2 (v0 v1 : Value) : Nat → Value := fun i => if i = 0 then v0 else v1
theorem row2_at (v0 v1 : Value) : ∀ i, i < (#[v0, v1] : Array Value).size → (#[v0, v1] : Array Value)[i]? = some (row2 v0 v1 i)
  | 0, _ => rfl
  | 1, _ => rfl
  | n + 2, h => absurd h (by simp)
end Go.Proofs.YtjdbedlgkngdkaaGreatDoor
