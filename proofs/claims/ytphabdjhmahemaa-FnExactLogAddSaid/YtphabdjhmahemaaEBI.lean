/- EventBody of the program. -/
import Derived.Test.YtphabdjhmahemaaEB
import Derived.Test.YtphabdjhmahemaaEvJ
namespace Go.Proofs.Ytphabdjhmahemaa
open Go.RowKit Go.Deep
set_option linter.unusedVariables false
set_option maxRecDepth 10000
set_option linter.unusedSimpArgs false
set_option maxHeartbeats 4000000 in
theorem body_impl (k y c t m f : Int) (b : Bool) (w : World) :
    Calls Try.prog 48 #[evV k y c t m f b] w (BodyPost w k y c t m f b) := by
  have HOK := hide (fun w1 => evok_impl k y c t m f b w1)
  have HKA := hide (Keeps.alloc (Keeps.refl w) (.cells (evCells k y c t m f b) 51))
  have HD : Hid (∀ w', Keeps (w.alloc (.cells (evCells k y c t m f b) 51)) w' → w'.cell? ⟨w.heap.size, 0, none⟩ = some (.int .i64 k) ∧ w'.cell? ⟨w.heap.size, 1, none⟩ = some (.int .i64 y) ∧ w'.cell? ⟨w.heap.size, 2, none⟩ = some (.int .i64 c) ∧ w'.cell? ⟨w.heap.size, 3, none⟩ = some (.int .i64 t) ∧ w'.cell? ⟨w.heap.size, 4, none⟩ = some (.int .i64 m) ∧ w'.cell? ⟨w.heap.size, 5, none⟩ = some (.int .i64 f) ∧ w'.cell? ⟨w.heap.size, 6, none⟩ = some (.bool b)) :=
    fun w' hk => ⟨hk.cell (by simp), hk.cell (by simp), hk.cell (by simp), hk.cell (by simp), hk.cell (by simp), hk.cell (by simp), hk.cell (by simp)⟩
  cases hb : evB k y c t m f b
  · rw [hb] at HOK
    have HB := hide hb
    clear hb
    go_enter Try.func48, Try.ntmps48
    go_wp2_with (go_at_call 78; refine (unhide HOK _).mono ?_; rintro x w1 ⟨rfl, hk1⟩)
    go_ret2
    exact BodyPost.no HB.out (HKA.out.trans hk1)
  · rw [hb] at HOK
    obtain ⟨⟨hk0, hk1⟩, ⟨hy0, hy1⟩, ⟨hc0, hc1⟩, ⟨ht0, ht1⟩, ⟨hm0, hm1⟩, ⟨hf0, hf1⟩⟩ := evB_bounds hb
    obtain ⟨k, rfl⟩ : ∃ n : Nat, k = n := ⟨k.toNat, by omega⟩
    obtain ⟨y, rfl⟩ : ∃ n : Nat, y = n := ⟨y.toNat, by omega⟩
    obtain ⟨c, rfl⟩ : ∃ n : Nat, c = n := ⟨c.toNat, by omega⟩
    obtain ⟨t, rfl⟩ : ∃ n : Nat, t = n := ⟨t.toNat, by omega⟩
    obtain ⟨m, rfl⟩ : ∃ n : Nat, m = n := ⟨m.toNat, by omega⟩
    obtain ⟨f, rfl⟩ : ∃ n : Nat, f = n := ⟨f.toNat, by omega⟩
    have HB := hide hb
    have HK : Hid (k < 9223372036854775808) := by show _ < _; omega
    have HY : Hid (y < 9223372036854775808) := by show _ < _; omega
    have HC : Hid (c < 9223372036854775808) := by show _ < _; omega
    have HT : Hid (t < 9223372036854775808) := by show _ < _; omega
    have HM : Hid (m < 9223372036854775808) := by show _ < _; omega
    have HF : Hid (f < 9223372036854775808) := by show _ < _; omega
    clear hb hk0 hk1 hy0 hy1 hc0 hc1 ht0 ht1 hm0 hm1 hf0 hf1
    go_enter Try.func48, Try.ntmps48
    go_wp2_with fail
    refine (unhide HOK _).mono ?_
    rintro x w1 ⟨rfl, hk1⟩
    have HK1 := hide hk1
    obtain ⟨d0, d1, d2, d3, d4, d5, d6⟩ := HD.out _ hk1
    clear hk1
    have hmk := make_22
    have HO0 := hide (World.ownsRow_made (base := w1.heap.size) (e := 5) (size := 1) w1 (madeCells #[.int .u8 0] 22) 22 (Nat.le_refl _) (by decide) (by rw [size_madeCells]))
    have HOJ : Hid (OwnsB ((w1.alloc (.cells (madeCells #[.int .u8 0] 22) 5)).alloc (.cells #[.int .u8 69] 5)) w1.heap.size (.slice (some ⟨w1.heap.size, 0, none⟩) 0 22) []) := World.ownsRow.alloc HO0.out _
    have HCJ : Hid (Cells ((w1.alloc (.cells (madeCells #[.int .u8 0] 22) 5)).alloc (.cells #[.int .u8 69] 5)) (some ⟨w1.heap.size + 1, 0, none⟩) (bys [69])) := by
      have h := cells_one (w1.alloc (.cells (madeCells #[.int .u8 0] 22) 5)) 69
      rw [World.size_alloc] at h
      exact h
    have HKJ := hide (Keeps.alloc (Keeps.alloc (Keeps.refl w1) (.cells (madeCells #[.int .u8 0] 22) 5)) (.cells #[.int .u8 69] 5))
    go_wp2_with (at_builtin; refine app_bys rfl (.tmp 9) (.tmp 10) rfl w1.heap.size _ [] [69] rfl (some ⟨w1.heap.size + 1, 0, none⟩) 1 rfl HCJ.out (fun e => nomatch e) HOJ.out (by decide) (by simp; omega) ?_; intro v2 w2 ho2 hg2; have HK2 := hide (Keeps.grown HKJ.out hg2 (fun k hk => (HOJ.out.lt k hk).1)); have HO2 : Hid (OwnsB w2 w1.heap.size v2 [69]) := ho2; clear ho2 hg2; clear d0 d1 d2 d3 d4 d5 d6; obtain ⟨d0, d1, d2, d3, d4, d5, d6⟩ := HD.out _ (HK1.out.trans HK2.out))
    clear HO0 HOJ HCJ HKJ hmk
    refine (appnum_k v2 ([69]) k 1 w1.heap.size w2 (by decide) (by decide) HK.out (by simp) HO2.out HK2.out.size w1 (Nat.le_refl _) HK2.out).mono ?_
    rintro x w3 ⟨v3, rfl, ho, _, hk⟩
    have HK3 := hide hk
    have HO3 := hide ho
    clear ho hk HO2 HK2
    clear d0 d1 d2 d3 d4 d5 d6
    obtain ⟨d0, d1, d2, d3, d4, d5, d6⟩ := HD.out _ (HK1.out.trans HK3.out)
    go_wp2_with fail
    refine (appnum_k v3 ([69] ++ digs k 1) y 3 w1.heap.size w3 (by decide) (by decide) HY.out (by simp [digs_length]) HO3.out HK3.out.size w1 (Nat.le_refl _) HK3.out).mono ?_
    rintro x w4 ⟨v4, rfl, ho, _, hk⟩
    have HK4 := hide hk
    have HO4 := hide ho
    clear ho hk HO3 HK3
    clear d0 d1 d2 d3 d4 d5 d6
    obtain ⟨d0, d1, d2, d3, d4, d5, d6⟩ := HD.out _ (HK1.out.trans HK4.out)
    go_wp2_with fail
    refine (appnum_k v4 ([69] ++ digs k 1 ++ digs y 3) c 1 w1.heap.size w4 (by decide) (by decide) HC.out (by simp [digs_length]) HO4.out HK4.out.size w1 (Nat.le_refl _) HK4.out).mono ?_
    rintro x w5 ⟨v5, rfl, ho, _, hk⟩
    have HK5 := hide hk
    have HO5 := hide ho
    clear ho hk HO4 HK4
    clear d0 d1 d2 d3 d4 d5 d6
    obtain ⟨d0, d1, d2, d3, d4, d5, d6⟩ := HD.out _ (HK1.out.trans HK5.out)
    go_wp2_with fail
    refine (appnum_k v5 ([69] ++ digs k 1 ++ digs y 3 ++ digs c 1) t 1 w1.heap.size w5 (by decide) (by decide) HT.out (by simp [digs_length]) HO5.out HK5.out.size w1 (Nat.le_refl _) HK5.out).mono ?_
    rintro x w6 ⟨v6, rfl, ho, _, hk⟩
    have HK6 := hide hk
    have HO6 := hide ho
    clear ho hk HO5 HK5
    clear d0 d1 d2 d3 d4 d5 d6
    obtain ⟨d0, d1, d2, d3, d4, d5, d6⟩ := HD.out _ (HK1.out.trans HK6.out)
    go_wp2_with fail
    refine (appnum_k v6 ([69] ++ digs k 1 ++ digs y 3 ++ digs c 1 ++ digs t 1) m 7 w1.heap.size w6 (by decide) (by decide) HM.out (by simp [digs_length]) HO6.out HK6.out.size w1 (Nat.le_refl _) HK6.out).mono ?_
    rintro x w7 ⟨v7, rfl, ho, _, hk⟩
    have HK7 := hide hk
    have HO7 := hide ho
    clear ho hk HO6 HK6
    clear d0 d1 d2 d3 d4 d5 d6
    obtain ⟨d0, d1, d2, d3, d4, d5, d6⟩ := HD.out _ (HK1.out.trans HK7.out)
    go_wp2_with fail
    refine (appnum_k v7 ([69] ++ digs k 1 ++ digs y 3 ++ digs c 1 ++ digs t 1 ++ digs m 7) f 7 w1.heap.size w7 (by decide) (by decide) HF.out (by simp [digs_length]) HO7.out HK7.out.size w1 (Nat.le_refl _) HK7.out).mono ?_
    rintro x w8 ⟨v8, rfl, ho, _, hk⟩
    have HK8 := hide hk
    have HO8 := hide ho
    clear ho hk HO7 HK7
    clear d0 d1 d2 d3 d4 d5 d6
    obtain ⟨d0, d1, d2, d3, d4, d5, d6⟩ := HD.out _ (HK1.out.trans HK8.out)
    have HX : Hid ((([69] ++ digs k 1 ++ digs y 3 ++ digs c 1 ++ digs t 1 ++ digs m 7 ++ digs f 7) : List UInt8).length + 1 ≤ 4194304) := by show _ ≤ _; simp [digs_length]
    cases b
    · have HCJ : Hid (Cells (w8.alloc (.cells #[.int .u8 0] 5)) (some ⟨w8.heap.size, 0, none⟩) (bys [0])) := cells_one w8 0
      have HOJ := hide (HO8.out.allocE (.cells #[.int .u8 0] 5))
      have HKJ := hide (Keeps.alloc HK8.out (.cells #[.int .u8 0] 5))
      go_wp2_with (at_builtin; refine app_bys rfl (.tmp 41) (.tmp 42) rfl w1.heap.size _ ([69] ++ digs k 1 ++ digs y 3 ++ digs c 1 ++ digs t 1 ++ digs m 7 ++ digs f 7) [0] rfl (some ⟨w8.heap.size, 0, none⟩) 1 rfl HCJ.out (fun e => nomatch e) HOJ.out HX.out (by simp; have := HK8.out.size; omega) ?_; intro v9 w9 ho hg)
      go_ret2
      refine BodyPost.yes HB.out ?_ (HKA.out.trans (HK1.out.trans (Keeps.grown HKJ.out hg (fun k hk => (HOJ.out.lt k hk).1))))
      refine OwnsB.older (base := w1.heap.size) ?_ (HKA.out.trans HK1.out).size
      unfold bodyL yesL
      simpa using ho
    · have HCJ : Hid (Cells (w8.alloc (.cells #[.int .u8 1] 5)) (some ⟨w8.heap.size, 0, none⟩) (bys [1])) := cells_one w8 1
      have HOJ := hide (HO8.out.allocE (.cells #[.int .u8 1] 5))
      have HKJ := hide (Keeps.alloc HK8.out (.cells #[.int .u8 1] 5))
      go_wp2_with (at_builtin; refine app_bys rfl (.tmp 38) (.tmp 39) rfl w1.heap.size _ ([69] ++ digs k 1 ++ digs y 3 ++ digs c 1 ++ digs t 1 ++ digs m 7 ++ digs f 7) [1] rfl (some ⟨w8.heap.size, 0, none⟩) 1 rfl HCJ.out (fun e => nomatch e) HOJ.out HX.out (by simp; have := HK8.out.size; omega) ?_; intro v9 w9 ho hg)
      go_ret2
      refine BodyPost.yes HB.out ?_ (HKA.out.trans (HK1.out.trans (Keeps.grown HKJ.out hg (fun k hk => (HOJ.out.lt k hk).1))))
      refine OwnsB.older (base := w1.heap.size) ?_ (HKA.out.trans HK1.out).size
      unfold bodyL yesL
      simpa using ho
end Go.Proofs.Ytphabdjhmahemaa
