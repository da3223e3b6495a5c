/- DiskOk, the program's and the model's. -/
import Derived.Test.YtkdnddckogbgaaaDoorDGK
namespace Go.Proofs.YtkdnddckogbgaaaDoor
open Go.RowKit Go.Deep
set_option linter.unusedVariables false
set_option maxRecDepth 10000

/-- Is the cell right? -/
def cokB (b : Bs) : Bool := decide (b.L.length = 0) || decide (b.L.length = 128)
def wokB (n : Nat) (x : Wr) : Bool := decide (0 ≤ x.i) && decide (x.i < n) && decide (x.b.L.length = 128)
/-- Is the disk right? -/
def dokB (cs : List Bs) (ds : List Wr) : Bool := decide (1 ≤ cs.length) && decide (cs.length ≤ 600) && decide (ds.length ≤ 600) && cs.all cokB && ds.all (wokB cs.length)
theorem dok_bad1 {cs : List Bs} {ds : List Wr} (h : cs.length < 1 ∨ 600 < cs.length ∨ 600 < ds.length) : dokB cs ds = false := by
  unfold dokB
  rcases h with h | h | h
  · rw [decide_eq_false (show ¬ 1 ≤ cs.length by omega)]; simp
  · rw [decide_eq_false (show ¬ cs.length ≤ 600 by omega)]; simp
  · rw [decide_eq_false (show ¬ ds.length ≤ 600 by omega)]; simp
theorem dok_bad2 {cs : List Bs} {ds : List Wr} {k : Nat} (h : k < cs.length) (hb : cokB cs[k] = false) : dokB cs ds = false := by
  have : cs.all cokB = false := by rw [List.all_eq_false]; exact ⟨_, List.getElem_mem h, by simp [hb]⟩
  unfold dokB; rw [this]; simp
theorem dok_bad3 {cs : List Bs} {ds : List Wr} {k : Nat} (h : k < ds.length) (hb : wokB cs.length ds[k] = false) : dokB cs ds = false := by
  have : ds.all (wokB cs.length) = false := by rw [List.all_eq_false]; exact ⟨_, List.getElem_mem h, by simp [hb]⟩
  unfold dokB; rw [this]; simp
theorem dok_good {cs : List Bs} {ds : List Wr} (h1 : 1 ≤ cs.length) (h2 : cs.length ≤ 600) (h3 : ds.length ≤ 600) (hc : ∀ k (h : k < cs.length), cokB cs[k] = true) (hd : ∀ k (h : k < ds.length), wokB cs.length ds[k] = true) : dokB cs ds = true := by
  have e1 : cs.all cokB = true := by
    rw [List.all_eq_true]; intro b hb
    obtain ⟨k, hk, rfl⟩ := List.getElem_of_mem hb
    exact hc k hk
  have e2 : ds.all (wokB cs.length) = true := by
    rw [List.all_eq_true]; intro b hb
    obtain ⟨k, hk, rfl⟩ := List.getElem_of_mem hb
    exact hd k hk
  unfold dokB; rw [e1, e2]; simp [h1, h2, h3]
theorem ne_false {a b : Nat} (h : a = b) : ((a : Int) != (b : Int)) = false := by rw [h]; simp
theorem ne_true {a b : Nat} (h : a ≠ b) : ((a : Int) != (b : Int)) = true := by rw [bne_iff_ne]; omega
theorem hascell_k (ca : Option Addr) (cn cc : Nat) (da : Option Addr) (dn dc : Nat) (i : Int) (w : World) (hl : cn ≤ 9223372036854775807) :
    Calls Tryd.prog 63 #[dskV ca cn cc da dn dc, .int .i64 i] w fun e w' => e = .returned (.bool (decide (0 ≤ i) && decide (i < cn))) ∧ Keeps w w' := by
  by_cases h : 0 ≤ i
  · have H : Hid ((decide (0 ≤ i) && decide (i < cn)) = decide (i < (cn : Int))) := by show _ = _; rw [decide_eq_true h, Bool.true_and]
    go_enter Tryd.func63, Tryd.ntmps63
    go_wp2
    go_ret
    exact ⟨ret_b H.out.symm, Keeps.alloc (Keeps.refl _) _⟩
  · have H : Hid ((decide (0 ≤ i) && decide (i < cn)) = false) := by show _ = _; rw [decide_eq_false h, Bool.false_and]
    go_enter Tryd.func63, Tryd.ntmps63
    go_wp2
    go_ret
    exact ⟨ret_b H.out.symm, Keeps.alloc (Keeps.refl _) _⟩
set_option maxHeartbeats 4000000 in
theorem diskok_spec (ca : Option Addr) (cc : Nat) (cs : List Bs) (da : Option Addr) (dc : Nat) (ds : List Wr) (w : World) (hm : Mem w (dsk ca cs da ds)) (hl : cs.length ≤ 9223372036854775807) (hl' : ds.length ≤ 9223372036854775807) (ht : ∀ b ∈ cs, b.L.length ≤ 9223372036854775807) (ht' : ∀ x ∈ ds, x.b.L.length ≤ 9223372036854775807) :
    Calls Tryd.prog 24 #[dskV ca cs.length cc da ds.length dc] w fun e w' => e = .returned (.bool (dokB cs ds)) ∧ Keeps w w' := by
  have HKW := hide (Keeps.alloc (Keeps.refl w) (.cells #[.slice ca cs.length cc, .slice da ds.length dc] 33))
  have HM := hide (hm.kept HKW.out)
  have HT := hide ht
  have HT' := hide ht'
  clear hm ht ht'
  by_cases h1 : cs.length < 1
  · have H : Hid (dokB cs ds = false) := dok_bad1 (Or.inl h1)
    go_enter Tryd.func24, Tryd.ntmps24
    go_wp2_with fail
    go_ret
    exact ⟨ret_b H.out.symm, Keeps.alloc (Keeps.refl _) _⟩
  by_cases h2 : 600 < cs.length
  · have H : Hid (dokB cs ds = false) := dok_bad1 (Or.inr (Or.inl h2))
    go_enter Tryd.func24, Tryd.ntmps24
    go_wp2_with fail
    go_ret
    exact ⟨ret_b H.out.symm, Keeps.alloc (Keeps.refl _) _⟩
  by_cases h3 : 600 < ds.length
  · have H : Hid (dokB cs ds = false) := dok_bad1 (Or.inr (Or.inr h3))
    go_enter Tryd.func24, Tryd.ntmps24
    go_wp2_with fail
    go_ret
    exact ⟨ret_b H.out.symm, Keeps.alloc (Keeps.refl _) _⟩
  clear hl hl'
  have HD : Hid (∀ w', Keeps (w.alloc (.cells #[.slice ca cs.length cc, .slice da ds.length dc] 33)) w' → w'.cell? ⟨w.heap.size, 0, none⟩ = some (.slice ca cs.length cc) ∧ w'.cell? ⟨w.heap.size, 1, none⟩ = some (.slice da ds.length dc)) :=
    fun w' hk => ⟨hk.cell (by simp), hk.cell (by simp)⟩
  have HZ : Hid ((w.alloc (.cells #[.slice ca cs.length cc, .slice da ds.length dc] 33)).heap.size = w.heap.size + 1) := by show _ = _; rw [World.size_alloc]
  go_enter Tryd.func24, Tryd.ntmps24
  go_wp2_with fail
  generalize w.alloc (.cells #[.slice ca cs.length cc, .slice da ds.length dc] 33) = W0 at *
  go_loopw [26] (fun y wr => ∃ k : Nat, k ≤ cs.length ∧ y = .int .i64 (k : Int) ∧ Hid (∀ j (hj : j < cs.length), j < k → cokB cs[j] = true) ∧ Hid (Keeps W0 wr)) (fun y _ => cs.length - (intOf y).toNat)
  case atStart => exact ⟨0, by omega, rfl, fun j hj h => absurd h (by omega), Keeps.refl _⟩
  case round =>
    obtain ⟨k, hk, rfl, HG, HKr⟩ := hrel
    by_cases hlt : k < cs.length
    · obtain ⟨b, off, ea, c0⟩ := cell1 ((dsk_mem HM.out).1.kept HKr.out) k hlt
      subst ea
      have HX : Hid (cs[k] = cs[k]) := rfl
      generalize hc : cs[k] = c at c0 HX
      replace HX := hide hc
      have hcl := HT.out cs[k] (List.getElem_mem hlt)
      rw [hc] at hcl
      clear hc
      obtain ⟨xa, xc, xL⟩ := c
      dsimp only [Bs.v] at c0 hcl
      by_cases e0 : xL.length = 0
      · have hb := ne_false e0
        have HE := hide e0
        clear e0
        simp only [Int.cast_ofNat_Int] at hb
        go_wp2_with fail
        go_roundw
        case rel => exact ⟨k + 1, by omega, by go_num, fun j hj h => by
                      by_cases e : j = k
                      · subst e; rw [HX.out]; simp [cokB, HE.out]
                      · exact HG.out j hj (by omega), HKr.out.trans (Keeps.alloc (Keeps.refl _) _)⟩
        case measure => simp [intOf]; omega
      · have hb := ne_true e0
        simp only [Int.cast_ofNat_Int] at hb
        by_cases e1 : xL.length = 128
        · have hb1 := ne_false e1
          have HE := hide e1
          clear e0 e1
          simp only [Int.cast_ofNat_Int] at hb1
          go_wp2_with fail
          go_roundw
          case rel => exact ⟨k + 1, by omega, by go_num, fun j hj h => by
                        by_cases e : j = k
                        · subst e; rw [HX.out]; simp [cokB, HE.out]
                        · exact HG.out j hj (by omega), HKr.out.trans (Keeps.alloc (Keeps.refl _) _)⟩
          case measure => simp [intOf]; omega
        · have hb1 := ne_true e1
          simp only [Int.cast_ofNat_Int] at hb1
          have H : Hid (dokB cs ds = false) := dok_bad2 hlt (by rw [HX.out]; simp only [cokB, decide_eq_false e0, decide_eq_false e1]; rfl)
          clear e0 e1
          go_wp2_with fail
          go_ret
          exact ⟨ret_b H.out.symm, HKW.out.trans (HKr.out.trans (Keeps.alloc (Keeps.refl _) _))⟩
    · have HG1 : Hid (∀ j (hj : j < cs.length), cokB cs[j] = true) := fun j hj => HG.out j hj (by omega)
      obtain ⟨d0, d1⟩ := HD.out _ HKr.out
      have HKs := HKr
      clear HG
      go_wp2_with fail
      go_loopw [44] (fun y wr => ∃ k : Nat, k ≤ ds.length ∧ y = .int .i64 (k : Int) ∧ Hid (∀ j (hj : j < ds.length), j < k → wokB cs.length ds[j] = true) ∧ Hid (Keeps W0 wr)) (fun y _ => ds.length - (intOf y).toNat)
      case atStart => exact ⟨0, by omega, rfl, fun j hj h => absurd h (by omega), HKs⟩
      case round =>
        clear HKr d0 d1 HKs
        obtain ⟨k, hk, rfl, HG, HKr⟩ := hrel
        by_cases hlt : k < ds.length
        · obtain ⟨b, off, ea, c0, c1⟩ := cell2 ((dsk_mem HM.out).2.2.1.kept HKr.out) k hlt
          subst ea
          have HX : Hid (ds[k] = ds[k]) := rfl
          generalize hc : ds[k] = c at c0 c1 HX
          replace HX := hide hc
          have hcl := HT'.out ds[k] (List.getElem_mem hlt)
          rw [hc] at hcl
          clear hc
          obtain ⟨xi, xa, xc, xL⟩ := c
          dsimp only [Bs.v] at c0 c1 hcl
          obtain ⟨d0, d1⟩ := HD.out _ HKr.out
          have hz : w.heap.size < wr.heap.size := by have := HKr.out.size; have := HZ.out; omega
          by_cases i0 : xi < 0
          · have H : Hid (dokB cs ds = false) := dok_bad3 hlt (by rw [HX.out]; simp [wokB]; omega)
            go_wp2_with fail
            go_ret
            exact ⟨ret_b H.out.symm, HKW.out.trans (HKr.out.trans (Keeps.alloc (Keeps.refl _) _))⟩
          by_cases i1 : (cs.length : Int) ≤ xi
          · have H : Hid (dokB cs ds = false) := dok_bad3 hlt (by rw [HX.out]; simp [wokB]; omega)
            go_wp2_with fail
            go_ret
            exact ⟨ret_b H.out.symm, HKW.out.trans (HKr.out.trans (Keeps.alloc (Keeps.refl _) _))⟩
          have hbi : xi < (cs.length : Int) := by omega
          by_cases e1 : xL.length = 128
          · have hb1 := ne_false e1
            have HE := hide e1
            clear e1
            simp only [Int.cast_ofNat_Int] at hb1
            go_wp2_with fail
            go_roundw
            case rel => exact ⟨k + 1, by omega, by go_num, fun j hj h => by
                          by_cases e : j = k
                          · subst e; rw [HX.out]; simp [wokB, HE.out]; omega
                          · exact HG.out j hj (by omega), HKr.out.trans (Keeps.alloc (Keeps.refl _) _)⟩
            case measure => simp [intOf]; omega
          · have hb1 := ne_true e1
            simp only [Int.cast_ofNat_Int] at hb1
            have H : Hid (dokB cs ds = false) := dok_bad3 hlt (by rw [HX.out]; simp [wokB, e1])
            clear e1
            go_wp2_with fail
            go_ret
            exact ⟨ret_b H.out.symm, HKW.out.trans (HKr.out.trans (Keeps.alloc (Keeps.refl _) _))⟩
        · have H : Hid (dokB cs ds = true) := dok_good (by omega) (by omega) (by omega) HG1.out (fun j hj => HG.out j hj (by omega))
          go_wp2_with fail
          go_ret
          exact ⟨ret_b H.out.symm, HKW.out.trans HKr.out⟩
set_option maxHeartbeats 4000000 in
theorem diskok_impl (ca : Option Addr) (cc : Nat) (cs : List Bs) (da : Option Addr) (dc : Nat) (ds : List Wr) (w : World) (hm : Mem w (dsk ca cs da ds)) (hl : cs.length ≤ 9223372036854775807) (hl' : ds.length ≤ 9223372036854775807) (ht : ∀ b ∈ cs, b.L.length ≤ 9223372036854775807) (ht' : ∀ x ∈ ds, x.b.L.length ≤ 9223372036854775807) :
    Calls Tryd.prog 53 #[dskV ca cs.length cc da ds.length dc] w fun e w' => e = .returned (.bool (dokB cs ds)) ∧ Keeps w w' := by
  have HKW := hide (Keeps.alloc (Keeps.refl w) (.cells #[.slice ca cs.length cc, .slice da ds.length dc] 33))
  have HM := hide (hm.kept HKW.out)
  have HT := hide ht
  have HT' := hide ht'
  clear hm ht ht'
  by_cases h1 : cs.length < 1
  · have H : Hid (dokB cs ds = false) := dok_bad1 (Or.inl h1)
    go_enter Tryd.func53, Tryd.ntmps53
    go_wp2_with fail
    go_ret
    exact ⟨ret_b H.out.symm, Keeps.alloc (Keeps.refl _) _⟩
  by_cases h2 : 600 < cs.length
  · have H : Hid (dokB cs ds = false) := dok_bad1 (Or.inr (Or.inl h2))
    go_enter Tryd.func53, Tryd.ntmps53
    go_wp2_with fail
    go_ret
    exact ⟨ret_b H.out.symm, Keeps.alloc (Keeps.refl _) _⟩
  by_cases h3 : 600 < ds.length
  · have H : Hid (dokB cs ds = false) := dok_bad1 (Or.inr (Or.inr h3))
    go_enter Tryd.func53, Tryd.ntmps53
    go_wp2_with fail
    go_ret
    exact ⟨ret_b H.out.symm, Keeps.alloc (Keeps.refl _) _⟩
  clear hl hl'
  have HD : Hid (∀ w', Keeps (w.alloc (.cells #[.slice ca cs.length cc, .slice da ds.length dc] 33)) w' → w'.cell? ⟨w.heap.size, 0, none⟩ = some (.slice ca cs.length cc) ∧ w'.cell? ⟨w.heap.size, 1, none⟩ = some (.slice da ds.length dc)) :=
    fun w' hk => ⟨hk.cell (by simp), hk.cell (by simp)⟩
  have HZ : Hid ((w.alloc (.cells #[.slice ca cs.length cc, .slice da ds.length dc] 33)).heap.size = w.heap.size + 1) := by show _ = _; rw [World.size_alloc]
  go_enter Tryd.func53, Tryd.ntmps53
  go_wp2_with fail
  generalize w.alloc (.cells #[.slice ca cs.length cc, .slice da ds.length dc] 33) = W0 at *
  go_loopw [26] (fun y wr => ∃ k : Nat, k ≤ cs.length ∧ y = .int .i64 (k : Int) ∧ Hid (∀ j (hj : j < cs.length), j < k → cokB cs[j] = true) ∧ Hid (Keeps W0 wr)) (fun y _ => cs.length - (intOf y).toNat)
  case atStart => exact ⟨0, by omega, rfl, fun j hj h => absurd h (by omega), Keeps.refl _⟩
  case round =>
    obtain ⟨k, hk, rfl, HG, HKr⟩ := hrel
    by_cases hlt : k < cs.length
    · obtain ⟨b, off, ea, c0⟩ := cell1 ((dsk_mem HM.out).1.kept HKr.out) k hlt
      subst ea
      have HX : Hid (cs[k] = cs[k]) := rfl
      generalize hc : cs[k] = c at c0 HX
      replace HX := hide hc
      have hcl := HT.out cs[k] (List.getElem_mem hlt)
      rw [hc] at hcl
      clear hc
      obtain ⟨xa, xc, xL⟩ := c
      dsimp only [Bs.v] at c0 hcl
      by_cases e0 : xL.length = 0
      · have hb := ne_false e0
        have HE := hide e0
        clear e0
        simp only [Int.cast_ofNat_Int] at hb
        go_wp2_with fail
        go_roundw
        case rel => exact ⟨k + 1, by omega, by go_num, fun j hj h => by
                      by_cases e : j = k
                      · subst e; rw [HX.out]; simp [cokB, HE.out]
                      · exact HG.out j hj (by omega), HKr.out.trans (Keeps.alloc (Keeps.refl _) _)⟩
        case measure => simp [intOf]; omega
      · have hb := ne_true e0
        simp only [Int.cast_ofNat_Int] at hb
        by_cases e1 : xL.length = 128
        · have hb1 := ne_false e1
          have HE := hide e1
          clear e0 e1
          simp only [Int.cast_ofNat_Int] at hb1
          go_wp2_with fail
          go_roundw
          case rel => exact ⟨k + 1, by omega, by go_num, fun j hj h => by
                        by_cases e : j = k
                        · subst e; rw [HX.out]; simp [cokB, HE.out]
                        · exact HG.out j hj (by omega), HKr.out.trans (Keeps.alloc (Keeps.refl _) _)⟩
          case measure => simp [intOf]; omega
        · have hb1 := ne_true e1
          simp only [Int.cast_ofNat_Int] at hb1
          have H : Hid (dokB cs ds = false) := dok_bad2 hlt (by rw [HX.out]; simp only [cokB, decide_eq_false e0, decide_eq_false e1]; rfl)
          clear e0 e1
          go_wp2_with fail
          go_ret
          exact ⟨ret_b H.out.symm, HKW.out.trans (HKr.out.trans (Keeps.alloc (Keeps.refl _) _))⟩
    · have HG1 : Hid (∀ j (hj : j < cs.length), cokB cs[j] = true) := fun j hj => HG.out j hj (by omega)
      obtain ⟨d0, d1⟩ := HD.out _ HKr.out
      have HKs := HKr
      clear HG
      go_wp2_with fail
      go_loopw [44] (fun y wr => ∃ k : Nat, k ≤ ds.length ∧ y = .int .i64 (k : Int) ∧ Hid (∀ j (hj : j < ds.length), j < k → wokB cs.length ds[j] = true) ∧ Hid (Keeps W0 wr)) (fun y _ => ds.length - (intOf y).toNat)
      case atStart => exact ⟨0, by omega, rfl, fun j hj h => absurd h (by omega), HKs⟩
      case round =>
        clear HKr d0 d1 HKs
        obtain ⟨k, hk, rfl, HG, HKr⟩ := hrel
        by_cases hlt : k < ds.length
        · obtain ⟨b, off, ea, c0, c1⟩ := cell2 ((dsk_mem HM.out).2.2.1.kept HKr.out) k hlt
          subst ea
          have HX : Hid (ds[k] = ds[k]) := rfl
          generalize hc : ds[k] = c at c0 c1 HX
          replace HX := hide hc
          have hcl := HT'.out ds[k] (List.getElem_mem hlt)
          rw [hc] at hcl
          clear hc
          obtain ⟨xi, xa, xc, xL⟩ := c
          dsimp only [Bs.v] at c0 c1 hcl
          obtain ⟨d0, d1⟩ := HD.out _ HKr.out
          have hz : w.heap.size < wr.heap.size := by have := HKr.out.size; have := HZ.out; omega
          by_cases i0 : xi < 0
          · have H : Hid (dokB cs ds = false) := dok_bad3 hlt (by rw [HX.out]; simp [wokB]; omega)
            have hbool : (decide (0 ≤ xi) && decide (xi < (cs.length : Int))) = false := by
              simp; omega
            have HQ := hide (hascell_k ca cs.length cc (some ⟨b, off, none⟩) ds.length dc xi (wr.alloc (.cells #[.int .i64 xi, .slice xa xL.length xc] 81)) (by omega))
            rw [hbool] at HQ
            go_wp2_with fail
            refine (unhide HQ).mono ?_
            rintro e w9 ⟨rfl, hk9⟩
            have d2 := hk9.cell (p := ⟨wr.heap.size, 1, none⟩) (v := .slice xa xL.length xc) (by simp)
            have HK9 := hide (HKr.out.trans ((Keeps.alloc (Keeps.refl wr) (.cells #[.int .i64 xi, .slice xa xL.length xc] 81)).trans hk9))
            clear hk9
            go_wp2_with fail
            go_ret
            exact ⟨ret_b H.out.symm, HKW.out.trans HK9.out⟩
          by_cases i1 : (cs.length : Int) ≤ xi
          · have H : Hid (dokB cs ds = false) := dok_bad3 hlt (by rw [HX.out]; simp [wokB]; omega)
            have hbool : (decide (0 ≤ xi) && decide (xi < (cs.length : Int))) = false := by
              simp; omega
            have HQ := hide (hascell_k ca cs.length cc (some ⟨b, off, none⟩) ds.length dc xi (wr.alloc (.cells #[.int .i64 xi, .slice xa xL.length xc] 81)) (by omega))
            rw [hbool] at HQ
            go_wp2_with fail
            refine (unhide HQ).mono ?_
            rintro e w9 ⟨rfl, hk9⟩
            have d2 := hk9.cell (p := ⟨wr.heap.size, 1, none⟩) (v := .slice xa xL.length xc) (by simp)
            have HK9 := hide (HKr.out.trans ((Keeps.alloc (Keeps.refl wr) (.cells #[.int .i64 xi, .slice xa xL.length xc] 81)).trans hk9))
            clear hk9
            go_wp2_with fail
            go_ret
            exact ⟨ret_b H.out.symm, HKW.out.trans HK9.out⟩
          have hbi : xi < (cs.length : Int) := by omega
          have hbool : (decide (0 ≤ xi) && decide (xi < (cs.length : Int))) = true := by
            simp; omega
          by_cases e1 : xL.length = 128
          · have hb1 := ne_false e1
            have HE := hide e1
            clear e1
            simp only [Int.cast_ofNat_Int] at hb1
            have HQ := hide (hascell_k ca cs.length cc (some ⟨b, off, none⟩) ds.length dc xi (wr.alloc (.cells #[.int .i64 xi, .slice xa xL.length xc] 81)) (by omega))
            rw [hbool] at HQ
            go_wp2_with fail
            refine (unhide HQ).mono ?_
            rintro e w9 ⟨rfl, hk9⟩
            have d2 := hk9.cell (p := ⟨wr.heap.size, 1, none⟩) (v := .slice xa xL.length xc) (by simp)
            have HK9 := hide (HKr.out.trans ((Keeps.alloc (Keeps.refl wr) (.cells #[.int .i64 xi, .slice xa xL.length xc] 81)).trans hk9))
            clear hk9
            go_wp2_with fail
            go_roundw
            case rel => exact ⟨k + 1, by omega, by go_num, fun j hj h => by
                          by_cases e : j = k
                          · subst e; rw [HX.out]; simp [wokB, HE.out]; omega
                          · exact HG.out j hj (by omega), HK9.out⟩
            case measure => simp [intOf]; omega
          · have hb1 := ne_true e1
            simp only [Int.cast_ofNat_Int] at hb1
            have H : Hid (dokB cs ds = false) := dok_bad3 hlt (by rw [HX.out]; simp [wokB, e1])
            clear e1
            have HQ := hide (hascell_k ca cs.length cc (some ⟨b, off, none⟩) ds.length dc xi (wr.alloc (.cells #[.int .i64 xi, .slice xa xL.length xc] 81)) (by omega))
            rw [hbool] at HQ
            go_wp2_with fail
            refine (unhide HQ).mono ?_
            rintro e w9 ⟨rfl, hk9⟩
            have d2 := hk9.cell (p := ⟨wr.heap.size, 1, none⟩) (v := .slice xa xL.length xc) (by simp)
            have HK9 := hide (HKr.out.trans ((Keeps.alloc (Keeps.refl wr) (.cells #[.int .i64 xi, .slice xa xL.length xc] 81)).trans hk9))
            clear hk9
            go_wp2_with fail
            go_ret
            exact ⟨ret_b H.out.symm, HKW.out.trans HK9.out⟩
        · have H : Hid (dokB cs ds = true) := dok_good (by omega) (by omega) (by omega) HG1.out (fun j hj => HG.out j hj (by omega))
          go_wp2_with fail
          go_ret
          exact ⟨ret_b H.out.symm, HKW.out.trans HKr.out⟩
end Go.Proofs.YtkdnddckogbgaaaDoor
