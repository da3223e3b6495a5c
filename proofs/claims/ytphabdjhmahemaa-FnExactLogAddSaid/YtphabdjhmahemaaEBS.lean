/- EventBody of the model. -/
import Derived.Test.YtphabdjhmahemaaEB
import Derived.Test.YtphabdjhmahemaaEvS
namespace Go.Proofs.Ytphabdjhmahemaa
open Go.RowKit Go.Deep
set_option linter.unusedVariables false
set_option maxRecDepth 10000
set_option linter.unusedSimpArgs false
set_option maxHeartbeats 4000000 in
theorem body_spec (k y c t m f : Int) (b : Bool) (w : World) :
    Calls Try.prog 46 #[evV k y c t m f b] w (BodyPost w k y c t m f b) := by
  have HOK := hide (fun w1 => evok_spec k y c t m f b w1)
  have HKA := hide (Keeps.alloc (Keeps.refl w) (.cells (evCells k y c t m f b) 51))
  have HD : Hid (∀ w', Keeps (w.alloc (.cells (evCells k y c t m f b) 51)) w' → w'.cell? ⟨w.heap.size, 0, none⟩ = some (.int .i64 k) ∧ w'.cell? ⟨w.heap.size, 1, none⟩ = some (.int .i64 y) ∧ w'.cell? ⟨w.heap.size, 2, none⟩ = some (.int .i64 c) ∧ w'.cell? ⟨w.heap.size, 3, none⟩ = some (.int .i64 t) ∧ w'.cell? ⟨w.heap.size, 4, none⟩ = some (.int .i64 m) ∧ w'.cell? ⟨w.heap.size, 5, none⟩ = some (.int .i64 f) ∧ w'.cell? ⟨w.heap.size, 6, none⟩ = some (.bool b)) :=
    fun w' hk => ⟨hk.cell (by simp), hk.cell (by simp), hk.cell (by simp), hk.cell (by simp), hk.cell (by simp), hk.cell (by simp), hk.cell (by simp)⟩
  cases hb : evB k y c t m f b
  · rw [hb] at HOK
    have HB := hide hb
    clear hb
    go_enter Try.func46, Try.ntmps46
    go_wp2_with (go_at_call 45; refine (unhide HOK _).mono ?_; rintro x w1 ⟨rfl, hk1⟩)
    go_ret2
    exact BodyPost.no HB.out (HKA.out.trans hk1)
  · rw [hb] at HOK
    obtain ⟨⟨hk0, hk1⟩, ⟨hy0, hy1⟩, ⟨hc0, hc1⟩, ⟨ht0, ht1⟩, ⟨hm0, hm1⟩, ⟨hf0, hf1⟩⟩ := evB_bounds hb
    obtain ⟨k, rfl⟩ : ∃ n : Nat, k = n := ⟨k.toNat, by omega⟩
    obtain ⟨y, rfl⟩ : ∃ n : Nat, y = n := ⟨y.toNat, by omega⟩
    obtain ⟨c, rfl⟩ : ∃ n : Nat, c = n := ⟨c.toNat, by omega⟩
    obtain ⟨t, rfl⟩ : ∃ n : Nat, t = n := ⟨t.toNat, by omega⟩
    obtain ⟨m, rfl⟩ : ∃ n : Nat, m = n := ⟨m.toNat, by omega⟩
    obtain ⟨f, rfl⟩ : ∃ n : Nat, f = n := ⟨f.toNat, by omega⟩
    have HB := hide hb
    have HY : Hid (y < 256 ^ 3) := by show y < 16777216; omega
    have HM : Hid (m < 256 ^ 7) := by show m < 72057594037927936; omega
    have HF : Hid (f < 256 ^ 7) := by show f < 72057594037927936; omega
    have HK : Hid (k < 256) := by show _ < _; omega
    have wk : (((k : Nat) : Int) % 256) = (k : Int) := by omega
    have HC : Hid (c < 256) := by show _ < _; omega
    have wc : (((c : Nat) : Int) % 256) = (c : Int) := by omega
    have HT : Hid (t < 256) := by show _ < _; omega
    have wt : (((t : Nat) : Int) % 256) = (t : Int) := by omega
    have Bk : Hid (byV (UInt8.ofNat k) = .int .u8 (k : Int)) := nat_byte HK.out
    have Bc : Hid (byV (UInt8.ofNat c) = .int .u8 (c : Int)) := nat_byte HC.out
    have Bt : Hid (byV (UInt8.ofNat t) = .int .u8 (t : Int)) := nat_byte HT.out
    clear hb hk0 hk1 hy0 hy1 hc0 hc1 ht0 ht1 hm0 hm1 hf0 hf1
    go_enter Try.func46, Try.ntmps46
    go_wp2_with fail
    refine (unhide HOK _).mono ?_
    rintro x w1 ⟨rfl, hk1⟩
    have HK1 := hide hk1
    obtain ⟨d0, d1, d2, d3, d4, d5, d6⟩ := HD.out _ hk1
    clear hk1
    have HCJ : Hid (Cells (w1.alloc (.cells #[.int .u8 69, .int .u8 (k : Int)] 5)) (some ⟨w1.heap.size, 0, none⟩) (bys [69, UInt8.ofNat k])) := by
      have h := cells_two w1 69 (UInt8.ofNat k)
      rw [Bk.out] at h
      exact h
    have HK2 := hide (Keeps.alloc (Keeps.refl w1) (.cells #[.int .u8 69, .int .u8 (k : Int)] 5))
    have hz : w.heap.size < w1.heap.size := by have := HK1.out.size; simp at this; omega
    go_wp2_with fail
    generalize w1.alloc (.cells #[.int .u8 69, .int .u8 (k : Int)] 5) = w2 at *
    refine (put_good (some ⟨w1.heap.size, 0, none⟩) 2 ([69, UInt8.ofNat k]) y 3 w2 HCJ.out (fun e => nomatch e) (by simp) (by decide) (by decide) HY.out).mono ?_
    rintro x w3 ⟨v3, rfl, ho, hk⟩
    have HK3 := hide (HK2.out.trans hk)
    have HO3 : Hid (OwnsB w3 w1.heap.size v3 ([69, UInt8.ofNat k] ++ digs y 3)) := OwnsB.older ho HK2.out.size
    clear ho hk HK2
    clear d0 d1 d2 d3 d4 d5 d6
    obtain ⟨d0, d1, d2, d3, d4, d5, d6⟩ := HD.out _ (HK1.out.trans HK3.out)
    obtain ⟨a3, c3, rfl, _, _, hn3, ho3, _⟩ := Own.of_owns HO3.out
    have HH3 := hide hn3
    have HC3 : Hid (Cells w3 a3 (bys ([69, UInt8.ofNat k] ++ digs y 3))) := ho3.one
    clear hn3 ho3
    have HX : Hid ((([69, UInt8.ofNat k] ++ digs y 3) : List UInt8).length + 2 ≤ 4194304) := by show _ ≤ _; simp [digs_length]
    have HCJ2 : Hid (Cells (w3.alloc (.cells #[.int .u8 (c : Int), .int .u8 (t : Int)] 5)) (some ⟨w3.heap.size, 0, none⟩) (bys [UInt8.ofNat c, UInt8.ofNat t])) := by
      have h := cells_two w3 (UInt8.ofNat c) (UInt8.ofNat t)
      rw [Bc.out, Bt.out] at h
      exact h
    have HOJ := hide (HO3.out.allocE (.cells #[.int .u8 (c : Int), .int .u8 (t : Int)] 5))
    have HKJ := hide (Keeps.alloc HK3.out (.cells #[.int .u8 (c : Int), .int .u8 (t : Int)] 5))
    go_wp2_with (at_builtin; refine app_bys rfl (.tmp 19) (.tmp 26) rfl w1.heap.size _ ([69, UInt8.ofNat k] ++ digs y 3) [UInt8.ofNat c, UInt8.ofNat t] rfl (some ⟨w3.heap.size, 0, none⟩) 2 rfl HCJ2.out (fun e => nomatch e) HOJ.out HX.out (by simp; have := HK3.out.size; omega) ?_; intro v4 w4 ho hg; have HK4 := hide (Keeps.grown HKJ.out hg (fun k hk => (HOJ.out.lt k hk).1)); have HO4 : Hid (OwnsB w4 w1.heap.size v4 ([69, UInt8.ofNat k] ++ digs y 3 ++ [UInt8.ofNat c, UInt8.ofNat t])) := ho; clear ho hg; clear d0 d1 d2 d3 d4 d5 d6; obtain ⟨d0, d1, d2, d3, d4, d5, d6⟩ := HD.out _ (HK1.out.trans HK4.out); obtain ⟨a4, c4, rfl, _, _, hn4, ho4, _⟩ := Own.of_owns HO4.out)
    have HH4 := hide hn4
    have HC4 : Hid (Cells w4 a4 (bys ([69, UInt8.ofNat k] ++ digs y 3 ++ [UInt8.ofNat c, UInt8.ofNat t]))) := ho4.one
    clear hn4 ho4 HCJ2 HOJ HKJ HX
    refine (put_good a4 c4 ([69, UInt8.ofNat k] ++ digs y 3 ++ [UInt8.ofNat c, UInt8.ofNat t]) m 7 w4 HC4.out HH4.out (by simp [digs_length]) (by decide) (by decide) HM.out).mono ?_
    rintro x w5 ⟨v5, rfl, ho, hk⟩
    have HK5 := hide (HK4.out.trans hk)
    have HO5 : Hid (OwnsB w5 w1.heap.size v5 ([69, UInt8.ofNat k] ++ digs y 3 ++ [UInt8.ofNat c, UInt8.ofNat t] ++ digs m 7)) := OwnsB.older ho HK4.out.size
    clear ho hk HK4
    clear d0 d1 d2 d3 d4 d5 d6
    obtain ⟨d0, d1, d2, d3, d4, d5, d6⟩ := HD.out _ (HK1.out.trans HK5.out)
    obtain ⟨a5, c5, rfl, _, _, hn5, ho5, _⟩ := Own.of_owns HO5.out
    have HH5 := hide hn5
    have HC5 : Hid (Cells w5 a5 (bys ([69, UInt8.ofNat k] ++ digs y 3 ++ [UInt8.ofNat c, UInt8.ofNat t] ++ digs m 7))) := ho5.one
    clear hn5 ho5
    go_wp2_with fail
    refine (put_good a5 c5 ([69, UInt8.ofNat k] ++ digs y 3 ++ [UInt8.ofNat c, UInt8.ofNat t] ++ digs m 7) f 7 w5 HC5.out HH5.out (by simp [digs_length]) (by decide) (by decide) HF.out).mono ?_
    rintro x w6 ⟨v6, rfl, ho, hk⟩
    have HK6 := hide (HK5.out.trans hk)
    have HO6 : Hid (OwnsB w6 w1.heap.size v6 ([69, UInt8.ofNat k] ++ digs y 3 ++ [UInt8.ofNat c, UInt8.ofNat t] ++ digs m 7 ++ digs f 7)) := OwnsB.older ho HK5.out.size
    clear ho hk HK5
    clear d0 d1 d2 d3 d4 d5 d6
    obtain ⟨d0, d1, d2, d3, d4, d5, d6⟩ := HD.out _ (HK1.out.trans HK6.out)
    obtain ⟨a6, c6, rfl, _, _, hn6, ho6, _⟩ := Own.of_owns HO6.out
    have HH6 := hide hn6
    have HC6 : Hid (Cells w6 a6 (bys ([69, UInt8.ofNat k] ++ digs y 3 ++ [UInt8.ofNat c, UInt8.ofNat t] ++ digs m 7 ++ digs f 7))) := ho6.one
    clear hn6 ho6
    have HX : Hid ((([69, UInt8.ofNat k] ++ digs y 3 ++ [UInt8.ofNat c, UInt8.ofNat t] ++ digs m 7 ++ digs f 7) : List UInt8).length + 1 ≤ 4194304) := by show _ ≤ _; simp [digs_length]
    cases b
    · have HCJ : Hid (Cells (w6.alloc (.cells #[.int .u8 0] 5)) (some ⟨w6.heap.size, 0, none⟩) (bys [0])) := cells_one w6 0
      have HOJ := hide (HO6.out.allocE (.cells #[.int .u8 0] 5))
      have HKJ := hide (Keeps.alloc HK6.out (.cells #[.int .u8 0] 5))
      go_wp2_with (at_builtin; refine app_bys rfl (.tmp 47) (.tmp 48) rfl w1.heap.size _ ([69, UInt8.ofNat k] ++ digs y 3 ++ [UInt8.ofNat c, UInt8.ofNat t] ++ digs m 7 ++ digs f 7) [0] rfl (some ⟨w6.heap.size, 0, none⟩) 1 rfl HCJ.out (fun e => nomatch e) HOJ.out HX.out (by simp; have := HK6.out.size; omega) ?_; intro v7 w7 ho hg)
      go_ret2
      refine BodyPost.yes HB.out ?_ (HKA.out.trans (HK1.out.trans (Keeps.grown HKJ.out hg (fun k hk => (HOJ.out.lt k hk).1))))
      refine OwnsB.older (base := w1.heap.size) ?_ (HKA.out.trans HK1.out).size
      unfold bodyL yesL
      rw [digs_one, digs_one, digs_one]
      simpa using ho
    · have HCJ : Hid (Cells (w6.alloc (.cells #[.int .u8 1] 5)) (some ⟨w6.heap.size, 0, none⟩) (bys [1])) := cells_one w6 1
      have HOJ := hide (HO6.out.allocE (.cells #[.int .u8 1] 5))
      have HKJ := hide (Keeps.alloc HK6.out (.cells #[.int .u8 1] 5))
      go_wp2_with (at_builtin; refine app_bys rfl (.tmp 44) (.tmp 45) rfl w1.heap.size _ ([69, UInt8.ofNat k] ++ digs y 3 ++ [UInt8.ofNat c, UInt8.ofNat t] ++ digs m 7 ++ digs f 7) [1] rfl (some ⟨w6.heap.size, 0, none⟩) 1 rfl HCJ.out (fun e => nomatch e) HOJ.out HX.out (by simp; have := HK6.out.size; omega) ?_; intro v7 w7 ho hg)
      go_ret2
      refine BodyPost.yes HB.out ?_ (HKA.out.trans (HK1.out.trans (Keeps.grown HKJ.out hg (fun k hk => (HOJ.out.lt k hk).1))))
      refine OwnsB.older (base := w1.heap.size) ?_ (HKA.out.trans HK1.out).size
      unfold bodyL yesL
      rw [digs_one, digs_one, digs_one]
      simpa using ho
end Go.Proofs.Ytphabdjhmahemaa
