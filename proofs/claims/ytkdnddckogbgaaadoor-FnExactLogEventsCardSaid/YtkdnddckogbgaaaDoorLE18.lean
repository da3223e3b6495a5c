/- SectorBytes of the model. -/
import Derived.Test.YtkdnddckogbgaaaDoorLE2
namespace Go.Proofs.YtkdnddckogbgaaaDoor
open Go.RowKit Go.Deep
set_option linter.unusedVariables false
set_option maxRecDepth 10000
theorem put_yes (a : Option Addr) (cap : Nat) (L : List UInt8) (n s : Nat) (w : World) (hc : Cells w a (bys L)) (hn : a = none → cap = 0) (hl : L.length ≤ 2097152) (h1 : 1 ≤ s) (h2 : s ≤ 7) (hb : n < 256 ^ s) :
    Calls Tryd.prog 61 #[.slice a L.length cap, .int .i64 (n : Int), .int .i64 (s : Int)] w fun x w' => ∃ v, x = .returned (.tuple #[v, .bool true]) ∧ OwnsB w' w.heap.size v (L ++ digs n s) ∧ Keeps w w' := by
  have hp : putB n s = true := putB_yes h1 h2 (by omega) (by omega)
  have h7 := pow_le7 h2
  refine (putnum_spec a cap L n s w hc hn hl (by omega)).mono ?_
  rintro x w' ⟨v, rfl, ho, hk⟩
  refine ⟨v, by rw [hp], ?_, hk⟩
  unfold putL at ho
  rw [if_pos hp] at ho
  exact ho
set_option maxHeartbeats 2000000 in
theorem secbytes_spec (q e : Int) (a : Option Addr) (cap : Nat) (L : List UInt8) (w : World) (hc : Cells w a (bys L)) (hn : a = none → cap = 0) (hl : L.length ≤ 9223372036854775807) :
    Calls Tryd.prog 45 #[secV q e a L.length cap] w (SecPost w q e L) := by
  have HOK := hide (fun w1 => secok_spec q e a L.length cap w1 hl)
  have HKA := hide (Keeps.alloc (Keeps.refl w) (.cells #[.int .i64 q, .int .i64 e, .slice a L.length cap] 52))
  have HD : Hid (∀ w', Keeps (w.alloc (.cells #[.int .i64 q, .int .i64 e, .slice a L.length cap] 52)) w' → w'.cell? ⟨w.heap.size, 0, none⟩ = some (.int .i64 q) ∧ w'.cell? ⟨w.heap.size, 1, none⟩ = some (.int .i64 e) ∧ w'.cell? ⟨w.heap.size, 2, none⟩ = some (.slice a L.length cap)) :=
    fun w' hk => ⟨hk.cell (by simp), hk.cell (by simp), hk.cell (by simp)⟩
  have HC := hide (hc.kept HKA.out)
  have HH := hide hn
  clear hc hn
  cases hb : secB q e L.length
  · rw [hb] at HOK
    have HB := hide hb
    clear hb
    go_enter Tryd.func45, Tryd.ntmps45
    go_wp2_with (go_at_call 60; refine (unhide HOK _).mono ?_; rintro x w1 ⟨rfl, hk1⟩)
    go_ret2
    exact SecPost.no HB.out (HKA.out.trans hk1)
  · rw [hb] at HOK
    obtain ⟨hq0, hq1, he0, he1, hL⟩ := secB_true hb
    obtain ⟨q, rfl⟩ : ∃ n : Nat, q = n := ⟨q.toNat, by omega⟩
    obtain ⟨e, rfl⟩ : ∃ n : Nat, e = n := ⟨e.toNat, by omega⟩
    have HB := hide hb
    have HQ : Hid (q < 256 ^ 3) := by show q < 16777216; omega
    have HE : Hid (e < 256 ^ 3) := by show e < 16777216; omega
    have HN : Hid (L.length < 256 ^ 1) := by show L.length < 256; omega
    have HL := hide hL
    clear hb hl hq0 hq1 he0 he1
    go_enter Tryd.func45, Tryd.ntmps45
    go_wp2_with fail
    refine (unhide HOK _).mono ?_
    rintro x w1 ⟨rfl, hk1⟩
    have HK1 := hide hk1
    replace HC := hide (HC.out.kept hk1)
    obtain ⟨d0', d1', d2'⟩ := HD.out _ hk1
    clear hk1
    have HCJ : Hid (Cells (w1.alloc (.cells #[.int .u8 74] 5)) (some ⟨w1.heap.size, 0, none⟩) (bys [74])) := cells_one w1 74
    have HK2 := hide (Keeps.alloc (Keeps.refl w1) (.cells #[.int .u8 74] 5))
    have hz : w.heap.size < w1.heap.size := by have := HK1.out.size; simp at this; omega
    go_wp2_with fail
    generalize w1.alloc (.cells #[.int .u8 74] 5) = w2 at *
    refine (put_yes (some ⟨w1.heap.size, 0, none⟩) 1 ([74]) q 3 w2 HCJ.out (fun e => nomatch e) (by have := HL.out; simp; try omega) (by decide) (by decide) HQ.out).mono ?_
    rintro x w3 ⟨v3, rfl, ho, hk⟩
    have HK3 := hide (HK2.out.trans hk)
    have HO3 : Hid (OwnsB w3 w1.heap.size v3 ([74] ++ digs q 3)) := OwnsB.older ho HK2.out.size
    clear d0' d1' d2' ho hk HK2
    obtain ⟨d0', d1', d2'⟩ := HD.out _ (HK1.out.trans HK3.out)
    obtain ⟨a3, c3, rfl, _, _, hn3, ho3, _⟩ := Own.of_owns HO3.out
    have HH3 := hide hn3
    have HC3 : Hid (Cells w3 a3 (bys ([74] ++ digs q 3))) := ho3.one
    clear hn3 ho3
    go_wp2_with fail
    refine (put_yes a3 c3 ([74] ++ digs q 3) e 3 w3 HC3.out HH3.out (by have := HL.out; simp [digs_length]; try omega) (by decide) (by decide) HE.out).mono ?_
    rintro x w4 ⟨v4, rfl, ho, hk⟩
    have HK4 := hide (HK3.out.trans hk)
    have HO4 : Hid (OwnsB w4 w1.heap.size v4 ([74] ++ digs q 3 ++ digs e 3)) := OwnsB.older ho HK3.out.size
    clear d0' d1' d2' ho hk HK3
    obtain ⟨d0', d1', d2'⟩ := HD.out _ (HK1.out.trans HK4.out)
    obtain ⟨a4, c4, rfl, _, _, hn4, ho4, _⟩ := Own.of_owns HO4.out
    have HH4 := hide hn4
    have HC4 : Hid (Cells w4 a4 (bys ([74] ++ digs q 3 ++ digs e 3))) := ho4.one
    clear hn4 ho4
    go_wp2_with fail
    refine (put_yes a4 c4 ([74] ++ digs q 3 ++ digs e 3) L.length 1 w4 HC4.out HH4.out (by have := HL.out; simp [digs_length]; try omega) (by decide) (by decide) HN.out).mono ?_
    rintro x w5 ⟨v5, rfl, ho, hk⟩
    have HK5 := hide (HK4.out.trans hk)
    have HO5 : Hid (OwnsB w5 w1.heap.size v5 ([74] ++ digs q 3 ++ digs e 3 ++ digs L.length 1)) := OwnsB.older ho HK4.out.size
    clear d0' d1' d2' ho hk HK4
    obtain ⟨d0', d1', d2'⟩ := HD.out _ (HK1.out.trans HK5.out)
    obtain ⟨a5, c5, rfl, _, _, hn5, ho5, _⟩ := Own.of_owns HO5.out
    have HH5 := hide hn5
    have HC5 : Hid (Cells w5 a5 (bys ([74] ++ digs q 3 ++ digs e 3 ++ digs L.length 1))) := ho5.one
    clear hn5 ho5
    have HX : Hid (([74] ++ digs q 3 ++ digs e 3 ++ digs L.length 1).length + L.length ≤ 4194304) := by have := HL.out; show _ ≤ _; simp [digs_length]; omega
    have HM : Hid (([74] ++ digs q 3 ++ digs e 3 ++ digs L.length 1 ++ L).length = 8 + L.length) := by show _ = _; simp [digs_length]; omega
    generalize hM : [74] ++ digs q 3 ++ digs e 3 ++ digs L.length 1 ++ L = M at HM
    have hm1 : M.length ≤ 108 := by have := HM.out; omega
    have hm2 : 8 ≤ M.length := by have := HM.out; omega
    have HMM := hide hM
    clear hM
    have HZ : Hid ((M ++ List.replicate (122 - M.length) 0).length ≤ 122) := by show _ ≤ _; simp; omega
    generalize hZ : M ++ List.replicate (122 - M.length) 0 = Z at HZ
    have HZZ := hide hZ
    clear hZ
    go_wp2_with (first
      | (at_builtin; refine app_bys rfl (.tmp 31) (.tmp 33) rfl w1.heap.size _ ([74] ++ digs q 3 ++ digs e 3 ++ digs L.length 1) L rfl a cap rfl (HC.out.kept HK5.out) HH.out HO5.out HX.out HK5.out.size ?_; intro v6 w6 ho hg; rw [HMM.out] at ho; have HK6 := hide (Keeps.grown HK5.out hg (fun k hk => (HO5.out.lt k hk).1)); have HO6 := hide ho; obtain ⟨a6, c6, rfl, _⟩ := Own.of_owns ho; clear d0' d1' d2' ho hg HO5 HK5; obtain ⟨d0', d1', d2'⟩ := HD.out _ (HK1.out.trans HK6.out))
      | (at_builtin; refine app_zeros rfl (.tmp 35) (.tmp 38) rfl w1.heap.size _ M (122 - M.length) rfl _ rfl (by omega) (by omega) (by omega) HO6.out (by omega) HK6.out.size ?_; intro v7 w7 ho hg; rw [HZZ.out] at ho; have HK7 := hide (Keeps.grown HK6.out hg (fun k hk => (HO6.out.lt k hk).1)); have HO7 := hide ho; clear d0' d1' d2' ho hg HO6 HK6; obtain ⟨d0', d1', d2'⟩ := HD.out _ (HK1.out.trans HK7.out); obtain ⟨a7, c7, rfl, _, _, hn7, ho7, _⟩ := Own.of_owns HO7.out))
    refine (put_yes a7 c7 (Z) q 3 w7 ho7.one hn7 (by have := HL.out; have := HZ.out; simp; try omega) (by decide) (by decide) HQ.out).mono ?_
    rintro x w8 ⟨v8, rfl, ho, hk⟩
    have HK8 := hide (HK7.out.trans hk)
    have HO8 : Hid (OwnsB w8 w1.heap.size v8 (Z ++ digs q 3)) := OwnsB.older ho HK7.out.size
    clear d0' d1' d2' ho hk HK7
    obtain ⟨d0', d1', d2'⟩ := HD.out _ (HK1.out.trans HK8.out)
    obtain ⟨a8, c8, rfl, _, _, hn8, ho8, _⟩ := Own.of_owns HO8.out
    have HH8 := hide hn8
    have HC8 : Hid (Cells w8 a8 (bys (Z ++ digs q 3))) := ho8.one
    clear hn8 ho8
    have HY : Hid ((Z ++ digs q 3).length ≤ 125) := by have := HZ.out; show _ ≤ _; simp [digs_length]; omega
    generalize hY : Z ++ digs q 3 = Y at *
    have HYY := hide hY
    clear hY
    go_wp2_with fail
    refine (put_yes a8 c8 (Y) e 3 w8 HC8.out HH8.out (by have := HL.out; have := HY.out; simp; try omega) (by decide) (by decide) HE.out).mono ?_
    rintro x w9 ⟨v9, rfl, ho, hk⟩
    have HK9 := hide (HK8.out.trans hk)
    have HO9 : Hid (OwnsB w9 w1.heap.size v9 (Y ++ digs e 3)) := OwnsB.older ho HK8.out.size
    clear d0' d1' d2' ho hk HK8
    obtain ⟨d0', d1', d2'⟩ := HD.out _ (HK1.out.trans HK9.out)
    go_wp2_with fail
    go_ret2
    refine SecPost.yes HB.out ?_ (HKA.out.trans (HK1.out.trans HK9.out))
    have h := HO9.out
    rw [← HYY.out, ← HZZ.out, HM.out, show 122 - (8 + L.length) = 114 - L.length by omega, ← HMM.out] at h
    exact OwnsB.older h (HKA.out.trans HK1.out).size
end Go.Proofs.YtkdnddckogbgaaaDoor
