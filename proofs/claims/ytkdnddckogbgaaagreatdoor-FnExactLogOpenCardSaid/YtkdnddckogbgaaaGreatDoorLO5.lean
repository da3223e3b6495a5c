/- Texts of the verifier, joined: DOk, DW, DN, DR. -/
import Derived.Test.YtkdnddckogbgaaaGreatDoorLO4
import Derived.Laws.CopyOwn
namespace Go.Proofs.YtkdnddckogbgaaaGreatDoor
open Go.RowKit Go.Deep
set_option linter.unusedVariables false
set_option maxRecDepth 10000

/-- Is the cell right? -/
def cokB (b : Bs) : Bool := decide (b.L.length = 0) || decide (b.L.length = 128)
def wokB (n : Nat) (x : Wr) : Bool := decide (0 ≤ x.i) && decide (x.i < n) && decide (x.b.L.length = 128)
/-- Is the disk right? -/
def dokB (cs : List Bs) (ds : List Wr) : Bool := decide (1 ≤ cs.length) && decide (cs.length ≤ 600) && decide (ds.length ≤ 600) && cs.all cokB && ds.all (wokB cs.length)
theorem dok_bad1 {cs : List Bs} {ds : List Wr} (h : cs.length < 1 ∨ 600 < cs.length ∨ 600 < ds.length) : dokB cs ds = false := by
  unfold dokB
  rcases h with h | h | h
  · rw [decide_eq_false (show ¬ 1 ≤ cs.length by omega)]; simp
  · rw [decide_eq_false (show ¬ cs.length ≤ 600 by omega)]; simp
  · rw [decide_eq_false (show ¬ ds.length ≤ 600 by omega)]; simp
theorem dok_bad2 {cs : List Bs} {ds : List Wr} {k : Nat} (h : k < cs.length) (hb : cokB cs[k] = false) : dokB cs ds = false := by
  have : cs.all cokB = false := by rw [List.all_eq_false]; exact ⟨_, List.getElem_mem h, by simp [hb]⟩
  unfold dokB; rw [this]; simp
theorem dok_bad3 {cs : List Bs} {ds : List Wr} {k : Nat} (h : k < ds.length) (hb : wokB cs.length ds[k] = false) : dokB cs ds = false := by
  have : ds.all (wokB cs.length) = false := by rw [List.all_eq_false]; exact ⟨_, List.getElem_mem h, by simp [hb]⟩
  unfold dokB; rw [this]; simp
theorem dok_good {cs : List Bs} {ds : List Wr} (h1 : 1 ≤ cs.length) (h2 : cs.length ≤ 600) (h3 : ds.length ≤ 600) (hc : ∀ k (h : k < cs.length), cokB cs[k] = true) (hd : ∀ k (h : k < ds.length), wokB cs.length ds[k] = true) : dokB cs ds = true := by
  have e1 : cs.all cokB = true := by
    rw [List.all_eq_true]; intro b hb
    obtain ⟨k, hk, rfl⟩ := List.getElem_of_mem hb
    exact hc k hk
  have e2 : ds.all (wokB cs.length) = true := by
    rw [List.all_eq_true]; intro b hb
    obtain ⟨k, hk, rfl⟩ := List.getElem_of_mem hb
    exact hd k hk
  unfold dokB; rw [e1, e2]; simp [h1, h2, h3]
theorem ne_false {a b : Nat} (h : a = b) : ((a : Int) != (b : Int)) = false := by rw [h]; simp
theorem ne_true {a b : Nat} (h : a ≠ b) : ((a : Int) != (b : Int)) = true := by rw [bne_iff_ne]; omega
theorem hascell_k (ca : Option Addr) (cn cc : Nat) (da : Option Addr) (dn dc : Nat) (i : Int) (w : World) (hl : cn ≤ 9223372036854775807) :
    Calls Tryz.prog 83 #[dskV ca cn cc da dn dc, .int .i64 i] w fun e w' => e = .returned (.bool (decide (0 ≤ i) && decide (i < cn))) ∧ Keeps w w' := by
  by_cases h : 0 ≤ i
  · have H : Hid ((decide (0 ≤ i) && decide (i < cn)) = decide (i < (cn : Int))) := by show _ = _; rw [decide_eq_true h, Bool.true_and]
    go_enter Tryz.func83, Tryz.ntmps83
    go_wp2
    go_ret
    exact ⟨ret_b H.out.symm, Keeps.alloc (Keeps.refl _) _⟩
  · have H : Hid ((decide (0 ≤ i) && decide (i < cn)) = false) := by show _ = _; rw [decide_eq_false h, Bool.false_and]
    go_enter Tryz.func83, Tryz.ntmps83
    go_wp2
    go_ret
    exact ⟨ret_b H.out.symm, Keeps.alloc (Keeps.refl _) _⟩
set_option maxHeartbeats 4000000 in
theorem diskok_spec (ca : Option Addr) (cc : Nat) (cs : List Bs) (da : Option Addr) (dc : Nat) (ds : List Wr) (w : World) (hm : Mem w (dsk ca cs da ds)) (hl : cs.length ≤ 9223372036854775807) (hl' : ds.length ≤ 9223372036854775807) (ht : ∀ b ∈ cs, b.L.length ≤ 9223372036854775807) (ht' : ∀ x ∈ ds, x.b.L.length ≤ 9223372036854775807) :
    Calls Tryz.prog 36 #[dskV ca cs.length cc da ds.length dc] w fun e w' => e = .returned (.bool (dokB cs ds)) ∧ Keeps w w' := by
  have HKW := hide (Keeps.alloc (Keeps.refl w) (.cells #[.slice ca cs.length cc, .slice da ds.length dc] 26))
  have HM := hide (hm.kept HKW.out)
  have HT := hide ht
  have HT' := hide ht'
  clear hm ht ht'
  by_cases h1 : cs.length < 1
  · have H : Hid (dokB cs ds = false) := dok_bad1 (Or.inl h1)
    go_enter Tryz.func36, Tryz.ntmps36
    go_wp2_with fail
    go_ret
    exact ⟨ret_b H.out.symm, Keeps.alloc (Keeps.refl _) _⟩
  by_cases h2 : 600 < cs.length
  · have H : Hid (dokB cs ds = false) := dok_bad1 (Or.inr (Or.inl h2))
    go_enter Tryz.func36, Tryz.ntmps36
    go_wp2_with fail
    go_ret
    exact ⟨ret_b H.out.symm, Keeps.alloc (Keeps.refl _) _⟩
  by_cases h3 : 600 < ds.length
  · have H : Hid (dokB cs ds = false) := dok_bad1 (Or.inr (Or.inr h3))
    go_enter Tryz.func36, Tryz.ntmps36
    go_wp2_with fail
    go_ret
    exact ⟨ret_b H.out.symm, Keeps.alloc (Keeps.refl _) _⟩
  clear hl hl'
  have HD : Hid (∀ w', Keeps (w.alloc (.cells #[.slice ca cs.length cc, .slice da ds.length dc] 26)) w' → w'.cell? ⟨w.heap.size, 0, none⟩ = some (.slice ca cs.length cc) ∧ w'.cell? ⟨w.heap.size, 1, none⟩ = some (.slice da ds.length dc)) :=
    fun w' hk => ⟨hk.cell (by simp), hk.cell (by simp)⟩
  have HZ : Hid ((w.alloc (.cells #[.slice ca cs.length cc, .slice da ds.length dc] 26)).heap.size = w.heap.size + 1) := by show _ = _; rw [World.size_alloc]
  go_enter Tryz.func36, Tryz.ntmps36
  go_wp2_with fail
  generalize w.alloc (.cells #[.slice ca cs.length cc, .slice da ds.length dc] 26) = W0 at *
  go_loopw [26] (fun y wr => ∃ k : Nat, k ≤ cs.length ∧ y = .int .i64 (k : Int) ∧ Hid (∀ j (hj : j < cs.length), j < k → cokB cs[j] = true) ∧ Hid (Keeps W0 wr)) (fun y _ => cs.length - (intOf y).toNat)
  case atStart => exact ⟨0, by omega, rfl, fun j hj h => absurd h (by omega), Keeps.refl _⟩
  case round =>
    obtain ⟨k, hk, rfl, HG, HKr⟩ := hrel
    by_cases hlt : k < cs.length
    · obtain ⟨b, off, ea, c0⟩ := cell1 ((dsk_mem HM.out).1.kept HKr.out) k hlt
      subst ea
      have HX : Hid (cs[k] = cs[k]) := rfl
      generalize hc : cs[k] = c at c0 HX
      replace HX := hide hc
      have hcl := HT.out cs[k] (List.getElem_mem hlt)
      rw [hc] at hcl
      clear hc
      obtain ⟨xa, xc, xL⟩ := c
      dsimp only [Bs.v] at c0 hcl
      by_cases e0 : xL.length = 0
      · have hb := ne_false e0
        have HE := hide e0
        clear e0
        simp only [Int.cast_ofNat_Int] at hb
        go_wp2_with fail
        go_roundw
        case rel => exact ⟨k + 1, by omega, by go_num, fun j hj h => by
                      by_cases e : j = k
                      · subst e; rw [HX.out]; simp [cokB, HE.out]
                      · exact HG.out j hj (by omega), HKr.out.trans (Keeps.alloc (Keeps.refl _) _)⟩
        case measure => simp [intOf]; omega
      · have hb := ne_true e0
        simp only [Int.cast_ofNat_Int] at hb
        by_cases e1 : xL.length = 128
        · have hb1 := ne_false e1
          have HE := hide e1
          clear e0 e1
          simp only [Int.cast_ofNat_Int] at hb1
          go_wp2_with fail
          go_roundw
          case rel => exact ⟨k + 1, by omega, by go_num, fun j hj h => by
                        by_cases e : j = k
                        · subst e; rw [HX.out]; simp [cokB, HE.out]
                        · exact HG.out j hj (by omega), HKr.out.trans (Keeps.alloc (Keeps.refl _) _)⟩
          case measure => simp [intOf]; omega
        · have hb1 := ne_true e1
          simp only [Int.cast_ofNat_Int] at hb1
          have H : Hid (dokB cs ds = false) := dok_bad2 hlt (by rw [HX.out]; simp only [cokB, decide_eq_false e0, decide_eq_false e1]; rfl)
          clear e0 e1
          go_wp2_with fail
          go_ret
          exact ⟨ret_b H.out.symm, HKW.out.trans (HKr.out.trans (Keeps.alloc (Keeps.refl _) _))⟩
    · have HG1 : Hid (∀ j (hj : j < cs.length), cokB cs[j] = true) := fun j hj => HG.out j hj (by omega)
      obtain ⟨d0, d1⟩ := HD.out _ HKr.out
      have HKs := HKr
      clear HG
      go_wp2_with fail
      go_loopw [44] (fun y wr => ∃ k : Nat, k ≤ ds.length ∧ y = .int .i64 (k : Int) ∧ Hid (∀ j (hj : j < ds.length), j < k → wokB cs.length ds[j] = true) ∧ Hid (Keeps W0 wr)) (fun y _ => ds.length - (intOf y).toNat)
      case atStart => exact ⟨0, by omega, rfl, fun j hj h => absurd h (by omega), HKs⟩
      case round =>
        clear HKr d0 d1 HKs
        obtain ⟨k, hk, rfl, HG, HKr⟩ := hrel
        by_cases hlt : k < ds.length
        · obtain ⟨b, off, ea, c0, c1⟩ := cell2 ((dsk_mem HM.out).2.2.1.kept HKr.out) k hlt
          subst ea
          have HX : Hid (ds[k] = ds[k]) := rfl
          generalize hc : ds[k] = c at c0 c1 HX
          replace HX := hide hc
          have hcl := HT'.out ds[k] (List.getElem_mem hlt)
          rw [hc] at hcl
          clear hc
          obtain ⟨xi, xa, xc, xL⟩ := c
          dsimp only [Bs.v] at c0 c1 hcl
          obtain ⟨d0, d1⟩ := HD.out _ HKr.out
          have hz : w.heap.size < wr.heap.size := by have := HKr.out.size; have := HZ.out; omega
          by_cases i0 : xi < 0
          · have H : Hid (dokB cs ds = false) := dok_bad3 hlt (by rw [HX.out]; simp [wokB]; omega)
            go_wp2_with fail
            go_ret
            exact ⟨ret_b H.out.symm, HKW.out.trans (HKr.out.trans (Keeps.alloc (Keeps.refl _) _))⟩
          by_cases i1 : (cs.length : Int) ≤ xi
          · have H : Hid (dokB cs ds = false) := dok_bad3 hlt (by rw [HX.out]; simp [wokB]; omega)
            go_wp2_with fail
            go_ret
            exact ⟨ret_b H.out.symm, HKW.out.trans (HKr.out.trans (Keeps.alloc (Keeps.refl _) _))⟩
          have hbi : xi < (cs.length : Int) := by omega
          by_cases e1 : xL.length = 128
          · have hb1 := ne_false e1
            have HE := hide e1
            clear e1
            simp only [Int.cast_ofNat_Int] at hb1
            go_wp2_with fail
            go_roundw
            case rel => exact ⟨k + 1, by omega, by go_num, fun j hj h => by
                          by_cases e : j = k
                          · subst e; rw [HX.out]; simp [wokB, HE.out]; omega
                          · exact HG.out j hj (by omega), HKr.out.trans (Keeps.alloc (Keeps.refl _) _)⟩
            case measure => simp [intOf]; omega
          · have hb1 := ne_true e1
            simp only [Int.cast_ofNat_Int] at hb1
            have H : Hid (dokB cs ds = false) := dok_bad3 hlt (by rw [HX.out]; simp [wokB, e1])
            clear e1
            go_wp2_with fail
            go_ret
            exact ⟨ret_b H.out.symm, HKW.out.trans (HKr.out.trans (Keeps.alloc (Keeps.refl _) _))⟩
        · have H : Hid (dokB cs ds = true) := dok_good (by omega) (by omega) (by omega) HG1.out (fun j hj => HG.out j hj (by omega))
          go_wp2_with fail
          go_ret
          exact ⟨ret_b H.out.symm, HKW.out.trans HKr.out⟩
set_option maxHeartbeats 4000000 in
theorem diskok_impl (ca : Option Addr) (cc : Nat) (cs : List Bs) (da : Option Addr) (dc : Nat) (ds : List Wr) (w : World) (hm : Mem w (dsk ca cs da ds)) (hl : cs.length ≤ 9223372036854775807) (hl' : ds.length ≤ 9223372036854775807) (ht : ∀ b ∈ cs, b.L.length ≤ 9223372036854775807) (ht' : ∀ x ∈ ds, x.b.L.length ≤ 9223372036854775807) :
    Calls Tryz.prog 45 #[dskV ca cs.length cc da ds.length dc] w fun e w' => e = .returned (.bool (dokB cs ds)) ∧ Keeps w w' := by
  have HKW := hide (Keeps.alloc (Keeps.refl w) (.cells #[.slice ca cs.length cc, .slice da ds.length dc] 26))
  have HM := hide (hm.kept HKW.out)
  have HT := hide ht
  have HT' := hide ht'
  clear hm ht ht'
  by_cases h1 : cs.length < 1
  · have H : Hid (dokB cs ds = false) := dok_bad1 (Or.inl h1)
    go_enter Tryz.func45, Tryz.ntmps45
    go_wp2_with fail
    go_ret
    exact ⟨ret_b H.out.symm, Keeps.alloc (Keeps.refl _) _⟩
  by_cases h2 : 600 < cs.length
  · have H : Hid (dokB cs ds = false) := dok_bad1 (Or.inr (Or.inl h2))
    go_enter Tryz.func45, Tryz.ntmps45
    go_wp2_with fail
    go_ret
    exact ⟨ret_b H.out.symm, Keeps.alloc (Keeps.refl _) _⟩
  by_cases h3 : 600 < ds.length
  · have H : Hid (dokB cs ds = false) := dok_bad1 (Or.inr (Or.inr h3))
    go_enter Tryz.func45, Tryz.ntmps45
    go_wp2_with fail
    go_ret
    exact ⟨ret_b H.out.symm, Keeps.alloc (Keeps.refl _) _⟩
  clear hl hl'
  have HD : Hid (∀ w', Keeps (w.alloc (.cells #[.slice ca cs.length cc, .slice da ds.length dc] 26)) w' → w'.cell? ⟨w.heap.size, 0, none⟩ = some (.slice ca cs.length cc) ∧ w'.cell? ⟨w.heap.size, 1, none⟩ = some (.slice da ds.length dc)) :=
    fun w' hk => ⟨hk.cell (by simp), hk.cell (by simp)⟩
  have HZ : Hid ((w.alloc (.cells #[.slice ca cs.length cc, .slice da ds.length dc] 26)).heap.size = w.heap.size + 1) := by show _ = _; rw [World.size_alloc]
  go_enter Tryz.func45, Tryz.ntmps45
  go_wp2_with fail
  generalize w.alloc (.cells #[.slice ca cs.length cc, .slice da ds.length dc] 26) = W0 at *
  go_loopw [26] (fun y wr => ∃ k : Nat, k ≤ cs.length ∧ y = .int .i64 (k : Int) ∧ Hid (∀ j (hj : j < cs.length), j < k → cokB cs[j] = true) ∧ Hid (Keeps W0 wr)) (fun y _ => cs.length - (intOf y).toNat)
  case atStart => exact ⟨0, by omega, rfl, fun j hj h => absurd h (by omega), Keeps.refl _⟩
  case round =>
    obtain ⟨k, hk, rfl, HG, HKr⟩ := hrel
    by_cases hlt : k < cs.length
    · obtain ⟨b, off, ea, c0⟩ := cell1 ((dsk_mem HM.out).1.kept HKr.out) k hlt
      subst ea
      have HX : Hid (cs[k] = cs[k]) := rfl
      generalize hc : cs[k] = c at c0 HX
      replace HX := hide hc
      have hcl := HT.out cs[k] (List.getElem_mem hlt)
      rw [hc] at hcl
      clear hc
      obtain ⟨xa, xc, xL⟩ := c
      dsimp only [Bs.v] at c0 hcl
      by_cases e0 : xL.length = 0
      · have hb := ne_false e0
        have HE := hide e0
        clear e0
        simp only [Int.cast_ofNat_Int] at hb
        go_wp2_with fail
        go_roundw
        case rel => exact ⟨k + 1, by omega, by go_num, fun j hj h => by
                      by_cases e : j = k
                      · subst e; rw [HX.out]; simp [cokB, HE.out]
                      · exact HG.out j hj (by omega), HKr.out.trans (Keeps.alloc (Keeps.refl _) _)⟩
        case measure => simp [intOf]; omega
      · have hb := ne_true e0
        simp only [Int.cast_ofNat_Int] at hb
        by_cases e1 : xL.length = 128
        · have hb1 := ne_false e1
          have HE := hide e1
          clear e0 e1
          simp only [Int.cast_ofNat_Int] at hb1
          go_wp2_with fail
          go_roundw
          case rel => exact ⟨k + 1, by omega, by go_num, fun j hj h => by
                        by_cases e : j = k
                        · subst e; rw [HX.out]; simp [cokB, HE.out]
                        · exact HG.out j hj (by omega), HKr.out.trans (Keeps.alloc (Keeps.refl _) _)⟩
          case measure => simp [intOf]; omega
        · have hb1 := ne_true e1
          simp only [Int.cast_ofNat_Int] at hb1
          have H : Hid (dokB cs ds = false) := dok_bad2 hlt (by rw [HX.out]; simp only [cokB, decide_eq_false e0, decide_eq_false e1]; rfl)
          clear e0 e1
          go_wp2_with fail
          go_ret
          exact ⟨ret_b H.out.symm, HKW.out.trans (HKr.out.trans (Keeps.alloc (Keeps.refl _) _))⟩
    · have HG1 : Hid (∀ j (hj : j < cs.length), cokB cs[j] = true) := fun j hj => HG.out j hj (by omega)
      obtain ⟨d0, d1⟩ := HD.out _ HKr.out
      have HKs := HKr
      clear HG
      go_wp2_with fail
      go_loopw [44] (fun y wr => ∃ k : Nat, k ≤ ds.length ∧ y = .int .i64 (k : Int) ∧ Hid (∀ j (hj : j < ds.length), j < k → wokB cs.length ds[j] = true) ∧ Hid (Keeps W0 wr)) (fun y _ => ds.length - (intOf y).toNat)
      case atStart => exact ⟨0, by omega, rfl, fun j hj h => absurd h (by omega), HKs⟩
      case round =>
        clear HKr d0 d1 HKs
        obtain ⟨k, hk, rfl, HG, HKr⟩ := hrel
        by_cases hlt : k < ds.length
        · obtain ⟨b, off, ea, c0, c1⟩ := cell2 ((dsk_mem HM.out).2.2.1.kept HKr.out) k hlt
          subst ea
          have HX : Hid (ds[k] = ds[k]) := rfl
          generalize hc : ds[k] = c at c0 c1 HX
          replace HX := hide hc
          have hcl := HT'.out ds[k] (List.getElem_mem hlt)
          rw [hc] at hcl
          clear hc
          obtain ⟨xi, xa, xc, xL⟩ := c
          dsimp only [Bs.v] at c0 c1 hcl
          obtain ⟨d0, d1⟩ := HD.out _ HKr.out
          have hz : w.heap.size < wr.heap.size := by have := HKr.out.size; have := HZ.out; omega
          by_cases i0 : xi < 0
          · have H : Hid (dokB cs ds = false) := dok_bad3 hlt (by rw [HX.out]; simp [wokB]; omega)
            have hbool : (decide (0 ≤ xi) && decide (xi < (cs.length : Int))) = false := by
              simp; omega
            have HQ := hide (hascell_k ca cs.length cc (some ⟨b, off, none⟩) ds.length dc xi (wr.alloc (.cells #[.int .i64 xi, .slice xa xL.length xc] 86)) (by omega))
            rw [hbool] at HQ
            go_wp2_with fail
            refine (unhide HQ).mono ?_
            rintro e w9 ⟨rfl, hk9⟩
            have d2 := hk9.cell (p := ⟨wr.heap.size, 1, none⟩) (v := .slice xa xL.length xc) (by simp)
            have HK9 := hide (HKr.out.trans ((Keeps.alloc (Keeps.refl wr) (.cells #[.int .i64 xi, .slice xa xL.length xc] 86)).trans hk9))
            clear hk9
            go_wp2_with fail
            go_ret
            exact ⟨ret_b H.out.symm, HKW.out.trans HK9.out⟩
          by_cases i1 : (cs.length : Int) ≤ xi
          · have H : Hid (dokB cs ds = false) := dok_bad3 hlt (by rw [HX.out]; simp [wokB]; omega)
            have hbool : (decide (0 ≤ xi) && decide (xi < (cs.length : Int))) = false := by
              simp; omega
            have HQ := hide (hascell_k ca cs.length cc (some ⟨b, off, none⟩) ds.length dc xi (wr.alloc (.cells #[.int .i64 xi, .slice xa xL.length xc] 86)) (by omega))
            rw [hbool] at HQ
            go_wp2_with fail
            refine (unhide HQ).mono ?_
            rintro e w9 ⟨rfl, hk9⟩
            have d2 := hk9.cell (p := ⟨wr.heap.size, 1, none⟩) (v := .slice xa xL.length xc) (by simp)
            have HK9 := hide (HKr.out.trans ((Keeps.alloc (Keeps.refl wr) (.cells #[.int .i64 xi, .slice xa xL.length xc] 86)).trans hk9))
            clear hk9
            go_wp2_with fail
            go_ret
            exact ⟨ret_b H.out.symm, HKW.out.trans HK9.out⟩
          have hbi : xi < (cs.length : Int) := by omega
          have hbool : (decide (0 ≤ xi) && decide (xi < (cs.length : Int))) = true := by
            simp; omega
          by_cases e1 : xL.length = 128
          · have hb1 := ne_false e1
            have HE := hide e1
            clear e1
            simp only [Int.cast_ofNat_Int] at hb1
            have HQ := hide (hascell_k ca cs.length cc (some ⟨b, off, none⟩) ds.length dc xi (wr.alloc (.cells #[.int .i64 xi, .slice xa xL.length xc] 86)) (by omega))
            rw [hbool] at HQ
            go_wp2_with fail
            refine (unhide HQ).mono ?_
            rintro e w9 ⟨rfl, hk9⟩
            have d2 := hk9.cell (p := ⟨wr.heap.size, 1, none⟩) (v := .slice xa xL.length xc) (by simp)
            have HK9 := hide (HKr.out.trans ((Keeps.alloc (Keeps.refl wr) (.cells #[.int .i64 xi, .slice xa xL.length xc] 86)).trans hk9))
            clear hk9
            go_wp2_with fail
            go_roundw
            case rel => exact ⟨k + 1, by omega, by go_num, fun j hj h => by
                          by_cases e : j = k
                          · subst e; rw [HX.out]; simp [wokB, HE.out]; omega
                          · exact HG.out j hj (by omega), HK9.out⟩
            case measure => simp [intOf]; omega
          · have hb1 := ne_true e1
            simp only [Int.cast_ofNat_Int] at hb1
            have H : Hid (dokB cs ds = false) := dok_bad3 hlt (by rw [HX.out]; simp [wokB, e1])
            clear e1
            have HQ := hide (hascell_k ca cs.length cc (some ⟨b, off, none⟩) ds.length dc xi (wr.alloc (.cells #[.int .i64 xi, .slice xa xL.length xc] 86)) (by omega))
            rw [hbool] at HQ
            go_wp2_with fail
            refine (unhide HQ).mono ?_
            rintro e w9 ⟨rfl, hk9⟩
            have d2 := hk9.cell (p := ⟨wr.heap.size, 1, none⟩) (v := .slice xa xL.length xc) (by simp)
            have HK9 := hide (HKr.out.trans ((Keeps.alloc (Keeps.refl wr) (.cells #[.int .i64 xi, .slice xa xL.length xc] 86)).trans hk9))
            clear hk9
            go_wp2_with fail
            go_ret
            exact ⟨ret_b H.out.symm, HKW.out.trans HK9.out⟩
        · have H : Hid (dokB cs ds = true) := dok_good (by omega) (by omega) (by omega) HG1.out (fun j hj => HG.out j hj (by omega))
          go_wp2_with fail
          go_ret
          exact ⟨ret_b H.out.symm, HKW.out.trans HKr.out⟩
end Go.Proofs.YtkdnddckogbgaaaGreatDoor
namespace Go.Proofs.YtkdnddckogbgaaaGreatDoor
open Go.RowKit Go.Deep
set_option linter.unusedVariables false
set_option maxRecDepth 10000

def dat (cs : List Bs) (ds : List Wr) : DkM := ⟨cs.map Bs.L, ds.map Wr.key⟩
/-- A disk of moderate size, no list of which is nil and has room. -/
structure DOk (cs : List Bs) (ds : List Wr) : Prop where
  c : cs.length ≤ 1048576
  d : ds.length ≤ 1048576
  tc : tot cs ≤ 1048576
  td : totW ds ≤ 1048576
  nc : ∀ b ∈ cs, b.fit
  nd : ∀ x ∈ ds, x.b.fit
theorem dat_len {cs cs' : List Bs} {ds ds' : List Wr} (h : dat cs' ds' = dat cs ds) : cs'.length = cs.length ∧ ds'.length = ds.length := by
  injection h with h1 h2
  exact ⟨by simpa using congrArg List.length h1, by simpa using congrArg List.length h2⟩
def DkM.tot (m : DkM) : Nat := (m.cells.map List.length).sum
def DkM.totW (m : DkM) : Nat := (m.dirty.map fun x => x.2.length).sum
theorem tot_dat (cs : List Bs) (ds : List Wr) : Go.Proofs.YtkdnddckogbgaaaGreatDoor.tot cs = (dat cs ds).tot := by simp [Go.Proofs.YtkdnddckogbgaaaGreatDoor.tot, DkM.tot, dat, Function.comp_def]
theorem totW_dat (cs : List Bs) (ds : List Wr) : Go.Proofs.YtkdnddckogbgaaaGreatDoor.totW ds = (dat cs ds).totW := by simp [Go.Proofs.YtkdnddckogbgaaaGreatDoor.totW, DkM.totW, dat, Function.comp_def, Wr.key]
theorem DOk.like {cs cs' : List Bs} {ds ds' : List Wr} (h : DOk cs ds) (e : dat cs' ds' = dat cs ds) (nc : ∀ b ∈ cs', b.fit) (nd : ∀ x ∈ ds', x.b.fit) : DOk cs' ds' :=
  ⟨by rw [(dat_len e).1]; exact h.c, by rw [(dat_len e).2]; exact h.d, by rw [tot_dat cs' ds', e, ← tot_dat]; exact h.tc, by rw [totW_dat cs' ds', e, ← totW_dat]; exact h.td, nc, nd⟩
/-- Is the disk right? By what it says. -/
def dokM (m : DkM) : Bool := decide (1 ≤ m.cells.length) && decide (m.cells.length ≤ 600) && decide (m.dirty.length ≤ 600) && m.cells.all (fun L => decide (L.length = 0) || decide (L.length = 128)) && m.dirty.all (fun x => decide (0 ≤ x.1) && decide (x.1 < m.cells.length) && decide (x.2.length = 128))
theorem dok_dat (cs : List Bs) (ds : List Wr) : dokB cs ds = dokM (dat cs ds) := by
  unfold dokB dokM dat
  simp only [List.length_map, List.all_map]
  rfl
/-- A disk that was made behind w. -/
def DiskRes (w w' : World) (v : Value) (M : DkM) : Prop := ∃ (ca : Option Addr) (cc : Nat) (cs : List Bs) (da : Option Addr) (dc : Nat) (ds : List Wr), v = dskV ca cs.length cc da ds.length dc ∧ dat cs ds = M ∧ DOk cs ds ∧ (ca = none → cc = 0) ∧ (da = none → dc = 0) ∧ Born w w' (dsk ca cs da ds)
theorem toDisk' (ca : Option Addr) (cc : Nat) (cs : List Bs) (da : Option Addr) (dc : Nat) (ds : List Wr) (w : World) (hm : Mem w (dsk ca cs da ds)) (h : DOk cs ds) :
    Calls Tryz.prog 21 #[dskV ca cs.length cc da ds.length dc] w fun e w' => ∃ v, e = .returned v ∧ DiskRes w w' v (dat cs ds) ∧ Keeps w w' := by
  refine (toDisk_k ca cc cs da dc ds w hm h.c h.d (fun b hb => Nat.le_trans (tot_le hb) h.tc) (fun x hx => Nat.le_trans (totW_le hx) h.td)).mono ?_
  rintro e w' ⟨g1, g2, nb, nw, rfl, h1, h2, h3, h4, hb, hk⟩
  have e : dat nb nw = dat cs ds := by unfold dat; rw [h1, h2]
  refine ⟨_, rfl, ⟨some ⟨g1, 0, none⟩, cs.length, nb, some ⟨g2, 0, none⟩, ds.length, nw, ?_, e, h.like e h3 h4, (fun e => nomatch e), (fun e => nomatch e), hb⟩, hk⟩
  rw [(dat_len e).1, (dat_len e).2]
theorem eqDisk' (ca : Option Addr) (cc : Nat) (cs : List Bs) (da : Option Addr) (dc : Nat) (ds : List Wr) (ca' : Option Addr) (cc' : Nat) (cs' : List Bs) (da' : Option Addr) (dc' : Nat) (ds' : List Wr) (w : World)
    (e : dat cs' ds' = dat cs ds) (hm : Mem w (dsk ca cs da ds)) (hm' : Mem w (dsk ca' cs' da' ds')) (h : DOk cs ds) :
    Calls Tryz.prog 24 #[dskV ca cs.length cc da ds.length dc, dskV ca' cs'.length cc' da' ds'.length dc'] w fun e w' => e = .returned (.bool true) ∧ Keeps w w' :=
  eqDisk_k ca cc cs da dc ds ca' cc' cs' da' dc' ds' w (congrArg DkM.cells e) (congrArg DkM.dirty e) hm hm' h.c h.d (fun b hb => Nat.le_trans (tot_le hb) (Nat.le_trans h.tc (by decide))) (fun x hx => Nat.le_trans (totW_le hx) (Nat.le_trans h.td (by decide)))
theorem markDisk' (ca : Option Addr) (cc : Nat) (cs : List Bs) (da : Option Addr) (dc : Nat) (ds : List Wr) (w : World) (ho : Own w (dsk ca cs da ds)) (h : DOk cs ds) :
    Calls Tryz.prog 25 #[dskV ca cs.length cc da ds.length dc, .int .i64 1] w fun e w' => e = .returned (.int .i64 ((1 + tot cs + ds.length + totW ds : Nat) : Int)) ∧ Own w' (dsk ca (markC 1 cs) da (markW (1 + tot cs) ds)) ∧ Turn (fp (dsk ca cs da ds)) w w' :=
  markDisk_k ca cc cs da dc ds 1 w ho h.c h.d (Nat.le_trans h.tc (by decide)) (Nat.le_trans h.td (by decide)) (by decide)
theorem heldDisk' (ca : Option Addr) (cc : Nat) (cs : List Bs) (da : Option Addr) (dc : Nat) (ds : List Wr) (w : World) (hm : Mem w (dsk ca (markC 1 cs) da (markW (1 + tot cs) ds))) (h : DOk cs ds) :
    Calls Tryz.prog 66 #[dskV ca cs.length cc da ds.length dc, .int .i64 1] w fun e w' => e = .returned (.int .i64 ((1 + tot cs + ds.length + totW ds : Nat) : Int)) ∧ Keeps w w' :=
  heldDisk_k ca cc cs da dc ds 1 w hm h.c h.d (Nat.le_trans h.tc (by decide)) (Nat.le_trans h.td (by decide)) (by decide)
theorem DOk.big {cs : List Bs} {ds : List Wr} (h : DOk cs ds) : cs.length ≤ 9223372036854775807 ∧ ds.length ≤ 9223372036854775807 ∧ (∀ b ∈ cs, b.L.length ≤ 9223372036854775807) ∧ (∀ x ∈ ds, x.b.L.length ≤ 9223372036854775807) :=
  ⟨Nat.le_trans h.c (by decide), Nat.le_trans h.d (by decide), fun b hb => Nat.le_trans (tot_le hb) (Nat.le_trans h.tc (by decide)), fun x hx => Nat.le_trans (totW_le hx) (Nat.le_trans h.td (by decide))⟩
theorem diskok_spec' (ca : Option Addr) (cc : Nat) (cs : List Bs) (da : Option Addr) (dc : Nat) (ds : List Wr) (w : World) (hm : Mem w (dsk ca cs da ds)) (h : DOk cs ds) :
    Calls Tryz.prog 36 #[dskV ca cs.length cc da ds.length dc] w fun e w' => e = .returned (.bool (dokM (dat cs ds))) ∧ Keeps w w' := by
  rw [← dok_dat]; exact diskok_spec ca cc cs da dc ds w hm h.big.1 h.big.2.1 h.big.2.2.1 h.big.2.2.2
theorem diskok_impl' (ca : Option Addr) (cc : Nat) (cs : List Bs) (da : Option Addr) (dc : Nat) (ds : List Wr) (w : World) (hm : Mem w (dsk ca cs da ds)) (h : DOk cs ds) :
    Calls Tryz.prog 45 #[dskV ca cs.length cc da ds.length dc] w fun e w' => e = .returned (.bool (dokM (dat cs ds))) ∧ Keeps w w' := by
  rw [← dok_dat]; exact diskok_impl ca cc cs da dc ds w hm h.big.1 h.big.2.1 h.big.2.2.1 h.big.2.2.2
/-- The gate of a law over a disk. -/
theorem szDisk' (ca : Option Addr) (cc : Nat) (cs : List Bs) (da : Option Addr) (dc : Nat) (ds : List Wr) (w : World) (hm : Mem w (dsk ca cs da ds)) (ho : Dk.ok ⟨ca, cc, cs, da, dc, ds⟩) :
    Calls Tryz.prog 20 #[dskV ca cs.length cc da ds.length dc, .int .i64 1048576] w fun e w' => ∃ r : Int, e = .returned (.int .i64 r) ∧ (0 ≤ r → DOk cs ds) ∧ Keeps w w' := by
  obtain ⟨h1, h2, h3, h4, h5, h6⟩ := ho
  refine (szDisk_k ca cc cs da dc ds w hm (fun b hb => (h5 b hb).2) (fun x hx => (h6 x hx).1.2) h3 h4).mono ?_
  rintro e w' ⟨r, rfl, hr, hk⟩
  refine ⟨r, rfl, fun h => ?_, hk⟩
  have := hr h
  exact ⟨by omega, by omega, by omega, by omega, fun b hb => (h5 b hb).1, fun x hx => (h6 x hx).1.1⟩
end Go.Proofs.YtkdnddckogbgaaaGreatDoor
namespace Go.Proofs.YtkdnddckogbgaaaGreatDoor
open Go.RowKit Go.Deep
set_option linter.unusedVariables false
set_option maxRecDepth 10000

def noneM : DkM := ⟨[], []⟩
theorem diskres_none (w w' : World) : DiskRes w w' (dskV none 0 0 none 0 0) noneM := by
  refine ⟨.none, 0, [], .none, 0, [], rfl, rfl, ⟨by simp, by simp, by simp [tot], by simp [totW], by simp, by simp⟩, fun _ => rfl, fun _ => rfl, ⟨⟨?_, ?_, ?_⟩, ?_⟩⟩
  · intro s hs
    simp [dsk, ccells, wcells] at hs
    subst hs
    exact Cells.nil _ _
  · simp [dsk, ccells, wcells, fp, fpS]
  · intro b hb
    simp [dsk, ccells, wcells, fp, fpS] at hb
  · intro b hb
    simp [dsk, ccells, wcells, fp, fpS] at hb
end Go.Proofs.YtkdnddckogbgaaaGreatDoor
namespace Go.Proofs.YtkdnddckogbgaaaGreatDoor
open Go.RowKit Go.Deep
set_option linter.unusedVariables false
set_option maxRecDepth 10000

/-- The last of the writes at a place. -/
def lastD : List (Int × List UInt8) → Int → Option (List UInt8)
  | [], _ => none
  | x :: t, i => (lastD t i).or (if x.1 = i then some x.2 else none)
theorem lastD_append : ∀ (A B : List (Int × List UInt8)) (i : Int), lastD (A ++ B) i = (lastD B i).or (lastD A i)
  | [], B, i => by simp [lastD]
  | x :: A, B, i => by
    simp only [List.cons_append, lastD, lastD_append A B i]
    cases lastD B i <;> cases lastD A i <;> simp
def fullL (L : List UInt8) : List UInt8 := if L = [] then List.replicate 128 0 else L
def fillL (L : List UInt8) : List UInt8 := L.take 128 ++ List.replicate (128 - L.length) 0
theorem fill_full {L : List UInt8} (h : L.length = 0 ∨ L.length = 128) : fillL L = fullL L := by
  unfold fillL fullL
  rcases h with h | h
  · have : L = [] := List.length_eq_zero_iff.1 h
    subst this; simp
  · have hne : L ≠ [] := fun e => by rw [e] at h; simp at h
    rw [if_neg hne, List.take_of_length_le (by omega), h]; simp
theorem fillL_len (L : List UInt8) : (fillL L).length = 128 := by simp [fillL]; omega
def readB (m : DkM) (i : Int) : Bool := dokM m && (decide (0 ≤ i) && decide (i < m.cells.length))
def readL (m : DkM) (i : Int) : List UInt8 := if readB m i = true then (lastD m.dirty i).getD (fullL (m.cells.getD i.toNat [])) else []
theorem dokM_cell {m : DkM} (h : dokM m = true) {L : List UInt8} (hL : L ∈ m.cells) : L.length = 0 ∨ L.length = 128 := by
  simp only [dokM, Bool.and_eq_true, List.all_eq_true, Bool.or_eq_true, decide_eq_true_eq] at h
  exact h.1.2 L hL
theorem dokM_dirty {m : DkM} (h : dokM m = true) {x : Int × List UInt8} (hx : x ∈ m.dirty) : 0 ≤ x.1 ∧ x.1 < m.cells.length ∧ x.2.length = 128 := by
  simp only [dokM, Bool.and_eq_true, List.all_eq_true, decide_eq_true_eq] at h
  have := h.2 x hx
  exact ⟨this.1.1, this.1.2, this.2⟩
theorem dokM_len {m : DkM} (h : dokM m = true) : 1 ≤ m.cells.length ∧ m.cells.length ≤ 600 ∧ m.dirty.length ≤ 600 := by
  simp only [dokM, Bool.and_eq_true, decide_eq_true_eq] at h
  exact ⟨h.1.1.1.1, h.1.1.1.2, h.1.1.2⟩
theorem lastD_mem : ∀ (D : List (Int × List UInt8)) (i : Int) {L : List UInt8}, lastD D i = some L → ∃ x ∈ D, x.2 = L
  | [], _, _, h => by simp [lastD] at h
  | x :: t, i, L, h => by
    simp only [lastD] at h
    cases ht : lastD t i with
    | some L' =>
      rw [ht] at h
      obtain ⟨y, hy, e⟩ := lastD_mem t i ht
      exact ⟨y, List.mem_cons_of_mem _ hy, by rw [e]; simpa using h⟩
    | none =>
      rw [ht] at h
      by_cases e : x.1 = i
      · simp [e] at h; exact ⟨x, List.mem_cons_self .., h⟩
      · simp [e] at h
theorem readL_len (m : DkM) (i : Int) : (readL m i).length ≤ 128 := by
  unfold readL
  split
  · rename_i h
    have hd : dokM m = true := by unfold readB at h; exact (Bool.and_eq_true_iff.1 h).1
    have hi : 0 ≤ i ∧ i < m.cells.length := by unfold readB at h; have := (Bool.and_eq_true_iff.1 h).2; simpa using this
    cases hl : lastD m.dirty i with
    | some L =>
      obtain ⟨x, hx, rfl⟩ := lastD_mem _ _ hl
      have := (dokM_dirty hd hx).2.2
      simp [this]
    | none =>
      have hm : m.cells.getD i.toNat [] ∈ m.cells := by
        rw [List.getD_eq_getElem?_getD, List.getElem?_eq_getElem (show i.toNat < m.cells.length by omega)]; exact List.getElem_mem _
      have := dokM_cell hd hm
      simp only [Option.getD_none]
      generalize m.cells.getD i.toNat [] = L at *
      unfold fullL
      split
      · simp
      · omega
  · simp
def ReadPost (w : World) (m : DkM) (i : Int) (x : Ending) (w' : World) : Prop := ∃ v, x = .returned (.tuple #[v, .bool (readB m i)]) ∧ OwnsB w' w.heap.size v (readL m i) ∧ Keeps w w'
theorem ReadPost.no {w w' : World} {m : DkM} {i : Int} (h : readB m i = false) (hk : Keeps w w') : ReadPost w m i (.returned (.tuple #[.slice none 0 0, .bool false])) w' :=
  ⟨_, by rw [h], by unfold readL; rw [h]; exact OwnsB.nil _ _, hk⟩
theorem ReadPost.yes {w w' : World} {m : DkM} {i : Int} {v : Value} {L : List UInt8} (h : readB m i = true) (hl : (lastD m.dirty i).getD (fullL (m.cells.getD i.toNat [])) = L) (ho : OwnsB w' w.heap.size v L) (hk : Keeps w w') : ReadPost w m i (.returned (.tuple #[v, .bool true])) w' :=
  ⟨_, by rw [h], by unfold readL; rw [if_pos h, hl]; exact ho, hk⟩

theorem make_128 (w : World) : (Instr.makeSlice 22 (.int .i64 128) (.int .i64 128)).run Tryz.prog w = .ok (.slice (some ⟨w.heap.size, 0, none⟩) 128 128) (w.alloc (.cells (madeCells #[.int .u8 0] 128) 5)) := make_bytes 128 (by decide) w
theorem made_zeros (n : Nat) : madeCells #[Value.int .u8 0] n = (bys (List.replicate n 0)).toArray := by
  apply Array.ext'
  apply List.ext_getElem?
  intro i
  by_cases h : i < n
  · simp [madeCells, bys, byV, h, Nat.mod_one]
  · simp [madeCells, bys, byV, h]
theorem size_byte : (Tryz.prog.info? 5).map (·.size) = some 1 := by kernel_rfl
theorem bys_take (L : List UInt8) (n : Nat) : bys (L.take n) = (bys L).take n := by simp [bys]
theorem src_at {w : World} {p : Addr} {L : List UInt8} (hc : Cells w (some p) (bys L)) : ∀ j v, (bys L)[j]? = some v → w.cell? (p.add j) = some v := by
  intro j v hj
  rcases hc with h | ⟨b, off, e, h⟩
  · rw [h] at hj; simp at hj
  · obtain rfl := Option.some.inj e
    obtain ⟨hj', e'⟩ := List.getElem?_eq_some_iff.1 hj
    rw [add_at, h j hj', e']
/-- copy into a row of one's own from its first cell on. -/
theorem splice_zero (cur cs : List Value) : splice cur 0 cs = cs ++ cur.drop cs.length := by simp [splice]
theorem splice_fill (L : List UInt8) : splice (bys (List.replicate 128 0)) 0 (bys (L.take 128)) = bys (fillL L) := by
  rw [splice_zero]
  unfold fillL
  rw [bys_append, bys_length]
  congr 1
  simp only [bys, List.map_replicate, List.drop_replicate, List.length_take]
  congr 1
  omega
theorem own_row {w : World} {base g n : Nat} {L : List UInt8} (hb : base ≤ g) (hl : L.length = n) (hg : w.heap[g]? = some (.cells (bys L).toArray 5 (0, 0))) (hn : n ≤ 1048576 := by decide) : OwnsB w base (.slice (some ⟨g, 0, none⟩) n n) L := by
  subst hl
  refine ⟨by rw [bys_length]; simp, .inr ⟨g, L.length, _, rfl, hb, hg, Nat.le_refl _, by simp only [maxLen]; omega, by simp [bys_length], ?_⟩⟩
  simp only [Nat.mul_one]
  rw [List.take_of_length_le (by rw [bys_length]; exact Nat.le_refl _)]
set_option maxHeartbeats 1000000 in
theorem filled_k (a : Option Addr) (cap : Nat) (L : List UInt8) (w : World) (hc : Cells w a (bys L)) (hl : L.length ≤ 4194304) :
    Calls Tryz.prog 85 #[.slice a L.length cap] w fun e w' => ∃ v, e = .returned v ∧ OwnsB w' w.heap.size v (fillL L) ∧ Keeps w w' := by
  have hmk := make_128
  have HKA := hide (Keeps.alloc (Keeps.refl w) (.cells (madeCells #[.int .u8 0] 128) 5))
  have HC := hide (hc.kept HKA.out)
  have HB : Hid ((w.alloc (.cells (madeCells #[.int .u8 0] 128) 5)).heap[w.heap.size]? = some (.cells (bys (List.replicate 128 0)).toArray 5 (0, 0))) := by
    show _ = _
    rw [← made_zeros]; exact blk_alloc_new w _
  have HL : Hid ((bys (L.take 128)).length = Nat.min L.length 128) := by show _ = _; rw [bys_length, List.length_take, Nat.min_comm]
  have HP : Hid (0 < (bys (L.take 128)).length → some (⟨w.heap.size, 0, none⟩ : Addr) = some ⟨w.heap.size, 0, none⟩ ∧ ∃ ad, a = some ad ∧ ∀ j v, (bys (L.take 128))[j]? = some v → (w.alloc (.cells (madeCells #[.int .u8 0] 128) 5)).cell? (ad.add j) = some v) := by
    intro hp
    refine ⟨rfl, ?_⟩
    have hc' := HC.out
    rcases hc' with h | ⟨b, off, e, h⟩
    · rw [bys_nil] at h; subst h; simp [bys] at hp
    · refine ⟨_, e, fun j v hj => src_at (HC.out.elim (fun h => by rw [bys_nil] at h; subst h; simp [bys] at hp) (fun _ => by rw [← e]; exact HC.out)) j v ?_⟩
      rw [bys_take] at hj
      rw [List.getElem?_take] at hj
      split at hj
      · exact hj
      · cases hj
  have HF : Hid (0 + (bys (L.take 128)).length ≤ (bys (List.replicate 128 (0 : UInt8))).length) := by show _ ≤ _; rw [HL.out, bys_length, List.length_replicate, Nat.zero_add]; exact Nat.min_le_right _ _
  clear hc hl
  go_enter Tryz.func85, Tryz.ntmps85
  go_wp2_with (refine wpList_copy_splice (by rfl) (.tmp 5) (.tmp 6) 22 22 (by rfl) 5 underBytes size_byte (some ⟨w.heap.size, 0, none⟩) a 128 128 L.length cap (by rfl) (by rfl) w.heap.size 0 (bys (List.replicate 128 0)) 5 HB.out (bys (L.take 128)) HL.out HP.out HF.out (fun v hv => one_cells hv) w.heap.size w HKA.out (Nat.le_refl _) ?_; intro w1 hg hb)
  go_ret
  have hg' := hg.out
  rw [splice_fill] at hg'
  refine ⟨.slice (some ⟨w.heap.size, 0, none⟩) 128 128, rfl, own_row (Nat.le_refl _) (fillL_len L) hg', hb⟩
set_option maxHeartbeats 1000000 in
theorem full_k (a : Option Addr) (cap : Nat) (L : List UInt8) (w : World) (hc : Cells w a (bys L)) (hn : a = none → cap = 0) (hl : L.length ≤ 2097152) :
    Calls Tryz.prog 78 #[.slice a L.length cap] w fun e w' => ∃ v, e = .returned v ∧ OwnsB w' w.heap.size v (fullL L) ∧ Keeps w w' := by
  by_cases h0 : L = []
  · subst h0
    have hmk := make_128
    have HKA := hide (Keeps.alloc (Keeps.refl w) (.cells (madeCells #[.int .u8 0] 128) 5))
    have HB : Hid ((w.alloc (.cells (madeCells #[.int .u8 0] 128) 5)).heap[w.heap.size]? = some (.cells (bys (List.replicate 128 0)).toArray 5 (0, 0))) := by
      show _ = _
      rw [← made_zeros]; exact blk_alloc_new w _
    clear hc hn hl
    go_enter Tryz.func78, Tryz.ntmps78
    go_wp2_with fail
    go_ret
    exact ⟨.slice (some ⟨w.heap.size, 0, none⟩) 128 128, rfl, own_row (Nat.le_refl _) (by simp [fullL]) HB.out, HKA.out⟩
  · have hne : ((L.length : Int) == 0) = false := by
      rw [beq_eq_false_iff_ne]
      intro e
      exact h0 (List.length_eq_zero_iff.1 (by omega))
    have HF : Hid (fullL L = L) := if_neg h0
    have HC := hide (hc.kept (Keeps.alloc (Keeps.refl w) (.cells #[] 5)))
    have HO := hide (World.ownsRow_made (base := w.heap.size) (e := 5) (size := 1) w #[] 0 (Nat.le_refl _) (by decide) rfl)
    have HH := hide hn
    have HL : Hid (([] : List UInt8).length + L.length ≤ 4194304) := by show _ ≤ _; simp; omega
    clear hc hn hl h0
    go_enter Tryz.func78, Tryz.ntmps78
    go_wp2_with (at_builtin; refine app_bys rfl (.tmp 7) (.tmp 8) rfl w.heap.size _ [] L rfl a cap rfl HC.out HH.out HO.out HL.out (by simp) ?_; intro v' w' ho hg)
    go_ret
    refine ⟨_, rfl, by rw [HF.out]; simpa using ho, ?_⟩
    exact Keeps.grown (Keeps.alloc (Keeps.refl w) _) hg (fun k hk => (HO.out.lt k hk).1)
end Go.Proofs.YtkdnddckogbgaaaGreatDoor
