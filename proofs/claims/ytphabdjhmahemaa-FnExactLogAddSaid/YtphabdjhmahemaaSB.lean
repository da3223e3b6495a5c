/- SectorBytes, the program's and the model's. -/
import Derived.Test.YtphabdjhmahemaaSec
import Derived.Test.YtphabdjhmahemaaZer
import Derived.Test.YtphabdjhmahemaaPut
namespace Go.Proofs.Ytphabdjhmahemaa
open Go.RowKit Go.Deep
set_option linter.unusedVariables false
set_option maxRecDepth 10000

/-- The bytes of a sector. -/
def secL (q e : Nat) (L : List UInt8) : List UInt8 := [74] ++ digs q 3 ++ digs e 3 ++ digs L.length 1 ++ L ++ List.replicate (114 - L.length) 0 ++ digs q 3 ++ digs e 3
def secR (q e : Int) (L : List UInt8) : List UInt8 := if secB q e L.length = true then secL q.toNat e.toNat L else []
theorem secL_length {q e : Nat} {L : List UInt8} (h : L.length ≤ 100) : (secL q e L).length = 128 := by
  simp [secL, digs_length]; omega
theorem secR_length (q e : Int) (L : List UInt8) : (secR q e L).length ≤ 128 := by
  unfold secR
  split
  · rename_i h
    simp only [secB, Bool.and_eq_true, decide_eq_true_eq] at h
    rw [secL_length h.2]; exact Nat.le_refl _
  · simp
def SecPost (w : World) (q e : Int) (L : List UInt8) (x : Ending) (w' : World) : Prop := ∃ v, x = .returned (.tuple #[v, .bool (secB q e L.length)]) ∧ OwnsB w' w.heap.size v (secR q e L) ∧ Keeps w w'
theorem SecPost.no {w w' : World} {q e : Int} {L : List UInt8} (h : secB q e L.length = false) (hk : Keeps w w') : SecPost w q e L (.returned (.tuple #[.slice none 0 0, .bool false])) w' :=
  ⟨_, by rw [h], by unfold secR; rw [h]; exact OwnsB.nil _ _, hk⟩
theorem SecPost.yes {w w' : World} {q e : Nat} {L : List UInt8} {v : Value} (h : secB q e L.length = true) (ho : OwnsB w' w.heap.size v (secL q e L)) (hk : Keeps w w') : SecPost w q e L (.returned (.tuple #[v, .bool true])) w' :=
  ⟨_, by rw [h], by unfold secR; rw [if_pos h]; exact ho, hk⟩
theorem OwnsB.alloc {w : World} {base : Nat} {v : Value} {L : List UInt8} (h : OwnsB w base v L) (o : Obj) : OwnsB (w.alloc o) base v L := World.ownsRow.alloc h o
theorem secB_true {q e : Int} {n : Nat} (h : secB q e n = true) : 0 ≤ q ∧ q < 600 ∧ 1 ≤ e ∧ e ≤ 16000000 ∧ n ≤ 100 := by
  simp only [secB, Bool.and_eq_true, decide_eq_true_eq] at h
  exact ⟨h.1.1.1.1, h.1.1.1.2, h.1.1.2, h.1.2, h.2⟩
theorem make_sec (w : World) : (Instr.makeSlice 26 (.int .i64 0) (.int .i64 128)).run Try.prog w = .ok (.slice (some ⟨w.heap.size, 0, none⟩) 0 128) (w.alloc (.cells (madeCells #[.int .u8 0] 128) 5)) := by
  have hI := infoByte
  cases hi : Try.prog.info? 5 with
  | none => rw [hi] at hI; simp at hI
  | some i =>
    rw [hi] at hI
    simp at hI
    obtain ⟨hz, hs, hb⟩ := hI
    have h := run_make (P := Try.prog) w 26 5 i _ underBytes hi hz .i64 .i64 0 128 (by omega) (by omega) (by rw [hb]; omega) (by omega)
    rw [hs] at h
    exact h

set_option maxHeartbeats 2000000 in
theorem secbytes_impl (q e : Int) (a : Option Addr) (cap : Nat) (L : List UInt8) (w : World) (hc : Cells w a (bys L)) (hn : a = none → cap = 0) (hl : L.length ≤ 9223372036854775807) :
    Calls Try.prog 80 #[secV q e a L.length cap] w (SecPost w q e L) := by
  have HOK := hide (fun w1 => secok_impl q e a L.length cap w1 hl)
  have HKA := hide (Keeps.alloc (Keeps.refl w) (.cells #[.int .i64 q, .int .i64 e, .slice a L.length cap] 89))
  have HD : Hid (∀ w', Keeps (w.alloc (.cells #[.int .i64 q, .int .i64 e, .slice a L.length cap] 89)) w' → w'.cell? ⟨w.heap.size, 0, none⟩ = some (.int .i64 q) ∧ w'.cell? ⟨w.heap.size, 1, none⟩ = some (.int .i64 e) ∧ w'.cell? ⟨w.heap.size, 2, none⟩ = some (.slice a L.length cap)) :=
    fun w' hk => ⟨hk.cell (by simp), hk.cell (by simp), hk.cell (by simp)⟩
  have HC := hide (hc.kept HKA.out)
  have HH := hide hn
  clear hc hn
  cases hb : secB q e L.length
  · rw [hb] at HOK
    have HB := hide hb
    clear hb
    go_enter Try.func80, Try.ntmps80
    go_wp2_with (go_at_call 103; refine (unhide HOK _).mono ?_; rintro x w1 ⟨rfl, hk1⟩)
    go_ret2
    exact SecPost.no HB.out (HKA.out.trans hk1)
  · rw [hb] at HOK
    obtain ⟨hq0, hq1, he0, he1, hL⟩ := secB_true hb
    obtain ⟨q, rfl⟩ : ∃ n : Nat, q = n := ⟨q.toNat, by omega⟩
    obtain ⟨e, rfl⟩ : ∃ n : Nat, e = n := ⟨e.toNat, by omega⟩
    have HB := hide hb
    have HQ : Hid (q < 9223372036854775808) := by show _ < _; omega
    have HE : Hid (e < 9223372036854775808) := by show _ < _; omega
    have HN : Hid (L.length < 9223372036854775808) := by show _ < _; omega
    have HL := hide hL
    clear hb hl hq0 hq1 he0 he1
    go_enter Try.func80, Try.ntmps80
    go_wp2_with fail
    refine (unhide HOK _).mono ?_
    rintro x w1 ⟨rfl, hk1⟩
    have HK1 := hide hk1
    replace HC := hide (HC.out.kept hk1)
    obtain ⟨d0, d1, d2⟩ := HD.out _ hk1
    clear hk1
    have hmk := make_sec
    have HO0 := hide (World.ownsRow_made (base := w1.heap.size) (e := 5) (size := 1) w1 (madeCells #[.int .u8 0] 128) 128 (Nat.le_refl _) (by decide) (by rw [size_madeCells]))
    have HOJ : Hid (OwnsB ((w1.alloc (.cells (madeCells #[.int .u8 0] 128) 5)).alloc (.cells #[.int .u8 74] 5)) w1.heap.size (.slice (some ⟨w1.heap.size, 0, none⟩) 0 128) []) := HO0.out.alloc _
    have HCJ : Hid (Cells ((w1.alloc (.cells (madeCells #[.int .u8 0] 128) 5)).alloc (.cells #[.int .u8 74] 5)) (some ⟨w1.heap.size + 1, 0, none⟩) (bys [74])) := by
      have h := cells_one (w1.alloc (.cells (madeCells #[.int .u8 0] 128) 5)) 74
      rw [World.size_alloc] at h
      exact h
    have HKJ := hide (Keeps.alloc (Keeps.alloc (Keeps.refl w1) (.cells (madeCells #[.int .u8 0] 128) 5)) (.cells #[.int .u8 74] 5))
    go_wp2_with (at_builtin; refine app_bys rfl (.tmp 9) (.tmp 10) rfl w1.heap.size _ [] [74] rfl (some ⟨w1.heap.size + 1, 0, none⟩) 1 rfl HCJ.out (fun e => nomatch e) HOJ.out (by decide) (by simp; omega) ?_; intro v2 w2 ho2 hg2; have HK2 := hide (Keeps.grown HKJ.out hg2 (fun k hk => (HOJ.out.lt k hk).1)); have HO2 : Hid (OwnsB w2 w1.heap.size v2 [74]) := ho2; obtain ⟨d0', d1', d2'⟩ := HD.out _ (HK1.out.trans HK2.out); clear ho2 hg2 d0 d1 d2)
    clear HO0 HOJ HCJ HKJ hmk
    refine (appnum_k v2 ([74]) q 3 w1.heap.size w2 (by decide) (by decide) HQ.out (by have := HL.out; simp; try omega) HO2.out HK2.out.size w1 (Nat.le_refl _) HK2.out).mono ?_
    rintro x w3 ⟨v3, rfl, ho, _, hk⟩
    have HK3 := hide hk
    have HO3 := hide ho
    clear d0' d1' d2' ho hk HO2 HK2
    obtain ⟨d0', d1', d2'⟩ := HD.out _ (HK1.out.trans HK3.out)
    go_wp2_with fail
    refine (appnum_k v3 ([74] ++ digs q 3) e 3 w1.heap.size w3 (by decide) (by decide) HE.out (by have := HL.out; simp [digs_length]; try omega) HO3.out HK3.out.size w1 (Nat.le_refl _) HK3.out).mono ?_
    rintro x w4 ⟨v4, rfl, ho, _, hk⟩
    have HK4 := hide hk
    have HO4 := hide ho
    clear d0' d1' d2' ho hk HO3 HK3
    obtain ⟨d0', d1', d2'⟩ := HD.out _ (HK1.out.trans HK4.out)
    go_wp2_with fail
    refine (appnum_k v4 ([74] ++ digs q 3 ++ digs e 3) L.length 1 w1.heap.size w4 (by decide) (by decide) HN.out (by have := HL.out; simp [digs_length]; try omega) HO4.out HK4.out.size w1 (Nat.le_refl _) HK4.out).mono ?_
    rintro x w5 ⟨v5, rfl, ho, _, hk⟩
    have HK5 := hide hk
    have HO5 := hide ho
    clear d0' d1' d2' ho hk HO4 HK4
    obtain ⟨d0', d1', d2'⟩ := HD.out _ (HK1.out.trans HK5.out)
    have HX : Hid (([74] ++ digs q 3 ++ digs e 3 ++ digs L.length 1).length + L.length ≤ 4194304) := by have := HL.out; show _ ≤ _; simp [digs_length]; omega
    have HM : Hid (([74] ++ digs q 3 ++ digs e 3 ++ digs L.length 1 ++ L).length = 8 + L.length) := by show _ = _; simp [digs_length]; omega
    generalize hM : [74] ++ digs q 3 ++ digs e 3 ++ digs L.length 1 ++ L = M at HM
    have hm1 : M.length ≤ 108 := by have := HM.out; omega
    have hm2 : 8 ≤ M.length := by have := HM.out; omega
    have HMM := hide hM
    clear hM
    go_wp2_with (first
      | (at_builtin; refine app_bys rfl (.tmp 25) (.tmp 27) rfl w1.heap.size v5 ([74] ++ digs q 3 ++ digs e 3 ++ digs L.length 1) L rfl a cap rfl (HC.out.kept HK5.out) HH.out HO5.out HX.out HK5.out.size ?_; intro v6 w6 ho hg; rw [HMM.out] at ho; have HK6 := hide (Keeps.grown HK5.out hg (fun k hk => (HO5.out.lt k hk).1)); have HO6 := hide ho; obtain ⟨a6, c6, rfl, _⟩ := Own.of_owns ho; clear d0' d1' d2' ho hg HO5 HK5; obtain ⟨d0', d1', d2'⟩ := HD.out _ (HK1.out.trans HK6.out))
      | (at_builtin; refine app_zeros rfl (.tmp 29) (.tmp 32) rfl w1.heap.size _ M (122 - M.length) rfl _ rfl (by omega) (by omega) (by omega) HO6.out (by omega) HK6.out.size ?_; intro v7 w7 ho hg; have HK7 := hide (Keeps.grown HK6.out hg (fun k hk => (HO6.out.lt k hk).1)); have HO7 := hide ho; clear d0' d1' d2' ho hg HO6 HK6; obtain ⟨d0', d1', d2'⟩ := HD.out _ (HK1.out.trans HK7.out)))
    refine (appnum_k v7 (M ++ List.replicate (122 - M.length) 0) q 3 w1.heap.size w7 (by decide) (by decide) HQ.out (by have := HL.out; simp; try omega) HO7.out HK7.out.size w1 (Nat.le_refl _) HK7.out).mono ?_
    rintro x w8 ⟨v8, rfl, ho, _, hk⟩
    have HK8 := hide hk
    have HO8 := hide ho
    clear d0' d1' d2' ho hk HO7 HK7
    obtain ⟨d0', d1', d2'⟩ := HD.out _ (HK1.out.trans HK8.out)
    go_wp2_with fail
    refine (appnum_k v8 (M ++ List.replicate (122 - M.length) 0 ++ digs q 3) e 3 w1.heap.size w8 (by decide) (by decide) HE.out (by have := HL.out; simp [digs_length]; try omega) HO8.out HK8.out.size w1 (Nat.le_refl _) HK8.out).mono ?_
    rintro x w9 ⟨v9, rfl, ho, _, hk⟩
    have HK9 := hide hk
    have HO9 := hide ho
    clear d0' d1' d2' ho hk HO8 HK8
    obtain ⟨d0', d1', d2'⟩ := HD.out _ (HK1.out.trans HK9.out)
    go_wp2_with fail
    go_ret2
    refine SecPost.yes HB.out ?_ (HKA.out.trans (HK1.out.trans HK9.out))
    have h := HO9.out
    rw [HM.out, show 122 - (8 + L.length) = 114 - L.length by omega, ← HMM.out] at h
    exact OwnsB.older h (HKA.out.trans HK1.out).size
end Go.Proofs.Ytphabdjhmahemaa
