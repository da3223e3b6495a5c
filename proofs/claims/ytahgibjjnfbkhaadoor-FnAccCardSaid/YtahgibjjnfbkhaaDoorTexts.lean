/- AccText, of the model and of the program. -/
import Derived.Test.YtahgibjjnfbkhaaDoorAccD
import Derived.Test.YtahgibjjnfbkhaaDoorNumK
namespace Go.Proofs.YtahgibjjnfbkhaaDoor
open Go.RowKit
set_option linter.unusedVariables false

/-- What AccText answers. -/
def textA (k c : Int) : ByteArray := if accB k c = true then (if k < 6 then nameA k else nameA k ++ ⟨(numT c).toArray⟩) else ⟨#[]⟩
theorem accB_small {k c : Int} (h : accB k c = true) (hk : k < 6) : c = 0 := by simp [accB, hk] at h; exact h.2
theorem accB_great {k c : Int} (h : accB k c = true) (hk : ¬ k < 6) : 1 ≤ c ∧ c ≤ 99 := by simp [accB, hk] at h; exact h.2
theorem accB_kind {k c : Int} (h : accB k c = true) : 1 ≤ k ∧ k ≤ 8 := by simp [accB] at h; exact h.1

set_option maxHeartbeats 1000000 in
theorem atext_spec (k c : Int) (w : World) : Calls Tryd.prog 10 #[accV k c] w fun e w' => e = .returned (.string (textA k c)) ∧ Keeps w w' := by
  have HA := hide (fun w1 => acc_spec k c w1)
  cases hb : accB k c
  · rw [hb] at HA
    have HV : Hid (textA k c = ⟨#[]⟩) := by show _ = _; simp [textA, hb]
    clear hb
    go_enter Tryd.func10, Tryd.ntmps10
    go_wp2_with fail
    refine (unhide HA _).mono ?_
    rintro e w1 ⟨rfl, rfl⟩
    go_wp2_with fail
    go_ret
    exact ⟨by rw [HV.out]; rfl, Keeps.alloc (Keeps.alloc (Keeps.refl _) _) _⟩
  · rw [hb] at HA
    by_cases h6 : k < 6
    · obtain rfl := accB_small hb h6
      have hk := accB_kind hb
      have HV : Hid (textA k 0 = nameA k) := by show _ = _; simp [textA, hb, h6]
      clear hb
      rcases kinds k with rfl | rfl | rfl | rfl | rfl | h | h | h | h
      iterate 5
        · clear hk h6
          go_enter Tryd.func10, Tryd.ntmps10
          go_wp2_with fail
          refine (unhide HA _).mono ?_
          rintro e w1 ⟨rfl, rfl⟩
          go_wp2_with fail
          go_ret
          exact ⟨by rw [HV.out]; rfl, Keeps.alloc (Keeps.alloc (Keeps.alloc (Keeps.refl _) _) _) _⟩
      all_goals (exfalso; omega)
    · obtain ⟨hc1, hc2⟩ := accB_great hb h6
      have hk := accB_kind hb
      have HN := hide (fun w1 => num_spec c w1)
      have HV : Hid (textA k c = nameA k ++ ⟨(numT c).toArray⟩) := by show _ = _; simp [textA, hb, h6]
      have hD := numT_len c
      clear hb hc2
      generalize numT c = D at *
      rcases kinds k with h | h | h | h | h | rfl | rfl | rfl | h
      iterate 5
        · exfalso; omega
      iterate 3
        · clear hk h6
          go_enter Tryd.func10, Tryd.ntmps10
          go_wp2_with fail
          refine (unhide HA _).mono ?_
          rintro e w1 ⟨rfl, rfl⟩
          go_wp2_with fail
          refine (unhide HN _).mono ?_
          rintro e w2 ⟨rfl, hk2⟩
          have HK := hide ((Keeps.alloc (Keeps.alloc (Keeps.alloc (Keeps.refl w) _) _) _).trans hk2)
          clear hk2
          go_wp2_with fail
          go_ret
          exact ⟨by rw [HV.out]; rfl, HK.out⟩
      exfalso; omega

set_option maxHeartbeats 1000000 in
theorem atext_impl (k c : Int) (w : World) (ht : Tab w) : Calls Tryd.prog 7 #[accV k c] w fun e w' => e = .returned (.string (textA k c)) ∧ Keeps w w' := by
  have HA := hide (fun w1 => impl_acc_a k c w1)
  have HT := hide ht
  clear ht
  cases hb : accB k c
  · rw [hb] at HA
    have HV : Hid (textA k c = ⟨#[]⟩) := by show _ = _; simp [textA, hb]
    clear hb
    go_enter Tryd.func7, Tryd.ntmps7
    go_wp2_with fail
    refine (unhide HA _).mono ?_
    rintro e w1 ⟨rfl, rfl⟩
    go_wp2_with fail
    go_ret
    exact ⟨by rw [HV.out]; rfl, Keeps.alloc (Keeps.alloc (Keeps.refl _) _) _⟩
  · rw [hb] at HA
    have HC := hide (fun w1 => chan_impl k w1)
    have HM := hide (fun w1 => name_impl k w1)
    have hk := accB_kind hb
    by_cases h6 : k < 6
    · have HV : Hid (textA k c = nameA k) := by show _ = _; simp [textA, hb, h6]
      have hch : chB k = false := by simp [chB]; omega
      rw [hch] at HC
      clear hb hk h6 hch
      generalize nameA k = s at *
      go_enter Tryd.func7, Tryd.ntmps7
      go_wp2_with fail
      refine (unhide HA _).mono ?_
      rintro e w1 ⟨rfl, rfl⟩
      go_wp2_with fail
      refine (unhide HC _).mono ?_
      rintro e w1 ⟨rfl, rfl⟩
      go_wp2_with fail
      refine (unhide HM _).mono ?_
      rintro e w1 ⟨rfl, rfl⟩
      go_wp2_with fail
      go_ret
      exact ⟨by rw [HV.out]; rfl, Keeps.alloc (Keeps.alloc (Keeps.refl _) _) _⟩
    · have HV : Hid (textA k c = nameA k ++ ⟨(numT c).toArray⟩) := by show _ = _; simp [textA, hb, h6]
      have hch : chB k = true := by simp [chB]; omega
      rw [hch] at HC
      have hD := numT_len c
      have hs : (nameA k).size ≤ 6 := by
        rcases kinds k with rfl | rfl | rfl | rfl | rfl | rfl | rfl | rfl | h <;> first | decide | (exfalso; omega)
      have HKA := hide (Keeps.alloc (Keeps.alloc (Keeps.refl w) (.cells #[.int .i64 k, .int .i64 c] 24)) (.cells #[.int .i64 k, .int .i64 c] 24))
      have HN := hide (fun t => num_impl c (gr ((w.alloc (.cells #[.int .i64 k, .int .i64 c] 24)).alloc (.cells #[.int .i64 k, .int .i64 c] 24)) t) ((HT.out.kept HKA.out).kept (gr_keeps _ t)))
      have HMk : Hid (∀ w1, Calls Tryd.prog 18 #[.int .i64 k] w1 fun e w' => e = .returned (.string (nameA k)) ∧ Keeps w1 w') := fun w1 => (HM.out w1).mono fun _ _ ⟨h, e⟩ => ⟨h, by rw [e]; exact Keeps.refl _⟩
      have D0 := hide (gr_cell (W := (w.alloc (.cells #[.int .i64 k, .int .i64 c] 24)).alloc (.cells #[.int .i64 k, .int .i64 c] 24)) (p := ⟨w.heap.size, 0, none⟩) (v := .int .i64 k) (by simp))
      have D1 := hide (gr_cell (W := (w.alloc (.cells #[.int .i64 k, .int .i64 c] 24)).alloc (.cells #[.int .i64 k, .int .i64 c] 24)) (p := ⟨w.heap.size, 1, none⟩) (v := .int .i64 c) (by simp))
      clear hb hk h6 hch HM HT
      generalize numT c = D at *
      generalize nameA k = s at *
      go_enter Tryd.func7, Tryd.ntmps7
      go_wp2_with fail
      refine (unhide HA _).mono ?_
      rintro e w1 ⟨rfl, rfl⟩
      go_wp2_with fail
      refine (unhide HC _).mono ?_
      rintro e w1 ⟨rfl, rfl⟩
      go_wp2_with fail
      generalize (w.alloc (.cells #[.int .i64 k, .int .i64 c] 24)).alloc (.cells #[.int .i64 k, .int .i64 c] 24) = W at *
      have g0 := D0.out
      have g1 := D1.out
      refine region_gr (by kernel_rfl) (by kernel_rfl) ?_
      repeat (go_big_quiet_step (first | (go_at_call 18; exact gr_call (unhide HMk _)) | (go_at_call 19; exact gr_call (unhide HN _))))
      refine wpQuiet_nil ?_
      intro w' hw'
      have hk2 := HKA.out.trans (Keeps.of_gr hw')
      clear hw'
      go_wp2_with fail
      go_ret
      exact ⟨by rw [HV.out]; rfl, hk2⟩
end Go.Proofs.YtahgibjjnfbkhaaDoor
