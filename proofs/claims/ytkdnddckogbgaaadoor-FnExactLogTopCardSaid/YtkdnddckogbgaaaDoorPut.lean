/- Contracts of PutNum, the program's and the model's. -/
import Derived.Test.YtkdnddckogbgaaaDoorApn
namespace Go.Proofs.YtkdnddckogbgaaaDoor
open Go.RowKit Go.Deep
set_option linter.unusedVariables false
set_option maxRecDepth 10000

theorem putB_size {n size : Int} (h : ¬ (1 ≤ size ∧ size ≤ 7)) : putB n size = false := by
  unfold putB
  by_cases h1 : 1 ≤ size
  · have h2 : ¬ size ≤ 7 := fun h2 => h ⟨h1, h2⟩
    simp [h2]
  · simp [h1]
theorem putB_neg {n size : Int} (h : n < 0) : putB n size = false := by unfold putB; simp; omega
theorem putB_great {n : Int} {s : Nat} (h : ((256 ^ s : Nat) : Int) ≤ n) : putB n s = false := by
  unfold putB
  rw [Int.toNat_natCast, decide_eq_false (show ¬ n < ((256 ^ s : Nat) : Int) by omega), Bool.and_false]
theorem putB_yes {n : Int} {s : Nat} (h1 : 1 ≤ s) (h2 : s ≤ 7) (h0 : 0 ≤ n) (h : n < ((256 ^ s : Nat) : Int)) : putB n s = true := by
  unfold putB
  rw [Int.toNat_natCast, decide_eq_true h, decide_eq_true h0]
  simp; omega
theorem pow_le7 {s : Nat} (h : s ≤ 7) : 256 ^ s ≤ 72057594037927936 := Nat.le_trans (Nat.pow_le_pow_right (by decide) h) (by decide)
def PutPost (w : World) (L : List UInt8) (n size : Int) (e : Ending) (w' : World) : Prop := ∃ v, e = .returned (.tuple #[v, .bool (putB n size)]) ∧ OwnsB w' w.heap.size v (putL L n size) ∧ Keeps w w'
theorem PutPost.no {w w' : World} {L : List UInt8} {n size : Int} (h : putB n size = false) (hk : Keeps w w') : PutPost w L n size (.returned (.tuple #[.slice none 0 0, .bool false])) w' :=
  ⟨_, by rw [h], by unfold putL; rw [h]; exact OwnsB.nil _ _, hk⟩
theorem PutPost.yes {w w' : World} {L : List UInt8} {n s : Nat} {v : Value} (h : putB n s = true) (ho : OwnsB w' w.heap.size v (L ++ digs n s)) (hk : Keeps w w') : PutPost w L n s (.returned (.tuple #[v, .bool true])) w' :=
  ⟨_, by rw [h], by unfold putL; rw [if_pos h]; exact ho, hk⟩

set_option maxHeartbeats 1000000 in
theorem putnum_spec (a : Option Addr) (cap : Nat) (L : List UInt8) (n size : Int) (w : World) (hc : Cells w a (bys L)) (hn : a = none → cap = 0) (hl : L.length ≤ 2097152) (hw : n < 9223372036854775808) :
    Calls Tryd.prog 61 #[.slice a L.length cap, .int .i64 n, .int .i64 size] w (PutPost w L n size) := by
  by_cases hs : 1 ≤ size ∧ size ≤ 7
  · obtain ⟨s, rfl⟩ : ∃ s : Nat, size = s := ⟨size.toNat, by omega⟩
    have hs1 : 1 ≤ s := by omega
    have hs2 : s ≤ 7 := by omega
    have HS := hide (fun w1 => pow_spec s hs2 w1)
    clear hs
    by_cases h0 : n < 0
    · have HN := hide (putB_neg (size := s) h0)
      clear hc hn hl hw
      go_enter Tryd.func61, Tryd.ntmps61
      go_wp2_with (go_at_call 72; refine (unhide HS _).mono ?_; rintro e w' ⟨rfl, hw'⟩; obtain rfl := Eq.symm hw')
      go_ret2
      exact PutPost.no HN.out (Keeps.refl _)
    · have hp := pow_le7 hs2
      by_cases hlt : n < ((256 ^ s : Nat) : Int)
      · have HB := hide (putB_yes hs1 hs2 (by omega) hlt)
        obtain ⟨m, rfl⟩ : ∃ m : Nat, n = m := ⟨n.toNat, by omega⟩
        have HC := hide (hc.kept (Keeps.alloc (Keeps.refl w) (.cells #[] 5)))
        have HO := hide (World.ownsRow_made (base := w.heap.size) (e := 5) (size := 1) w #[] 0 (Nat.le_refl _) (by decide) rfl)
        have HH := hide hn
        have HL : Hid (([] : List UInt8).length + L.length ≤ 4194304) := by show _ ≤ _; simp; omega
        have HLL := hide hl
        clear hc hn hw hl
        have HLt := hide hlt
        clear hlt
        generalize hP : 256 ^ s = p at *
        have hlt : (m : Int) < p := HLt.out
        have HP := hide hP
        clear hP
        go_enter Tryd.func61, Tryd.ntmps61
        go_wp2_with (first
          | (go_at_call 72; refine (unhide HS _).mono ?_; rintro e w' ⟨rfl, hw'⟩; obtain rfl := Eq.symm hw')
          | (at_builtin; refine app_bys rfl (.tmp 26) (.tmp 27) rfl w.heap.size _ [] L rfl a cap rfl HC.out HH.out HO.out HL.out (by simp) ?_; intro v1 w1 ho1 hg1))
        have HO1 : Hid (OwnsB w1 w.heap.size v1 L) := by show OwnsB _ _ _ _; simpa using ho1
        have HK1 := hide (Keeps.grown (Keeps.alloc (Keeps.refl w) (.cells #[] 5)) hg1 (fun k hk => (HO.out.lt k hk).1))
        have hm2 : m ≤ 72057594037927936 := by omega
        clear ho1 hg1 HLt hlt
        go_loopw [8, 9] (fun x y wr => ∃ k : Nat, k ≤ s ∧ y = .int .i64 ((s : Int) - 1 - k) ∧ Hid (OwnsB wr w.heap.size x (L ++ digsTo m s k)) ∧ Hid (Keeps w wr)) (fun _ y _ => (intOf y + 1).toNat)
        case atStart => exact ⟨0, by omega, by simp, by show OwnsB _ _ _ _; simpa [digsTo] using HO1.out, HK1⟩
        case round =>
          obtain ⟨k, hk, rfl, HOr, HKr⟩ := hrel
          by_cases hlt : k < s
          · have HW := hide (fun w1 => pow_spec (s - 1 - k) (by omega) w1)
            rw [show ((s - 1 - k : Nat) : Int) = (s : Int) - 1 - k by omega] at HW
            have hq1 : 1 ≤ 256 ^ (s - 1 - k) := Nat.one_le_pow _ _ (by decide)
            have hq2 := pow_le6 (k := s - 1 - k) (by omega)
            generalize hQ : 256 ^ (s - 1 - k) = q at *
            have HQ := hide hQ
            clear hQ
            have hd0 : (0 : Int) ≤ (m : Int) / (q : Int) := Int.ediv_nonneg (by omega) (by omega)
            have hd1 : (m : Int) / (q : Int) ≤ 72057594037927936 := Int.le_trans (Int.ediv_le_self _ (by omega)) (by omega)
            have HL2 : Hid ((L ++ digsTo m s k).length + [UInt8.ofNat (m / q)].length ≤ 4194304) := by have := HLL.out; show _ ≤ _; simp [digsTo_length]; omega
            have HC1 : Hid (Cells (wr.alloc (.cells #[.int .u8 ((m : Int) / (q : Int) % 256)] 5)) (some ⟨wr.heap.size, 0, none⟩) (bys [UInt8.ofNat (m / q)])) := by
              show Cells _ _ _
              rw [← Int.natCast_ediv, ← byV_ofNat]
              exact cells_one wr _
            have HO2 := hide (HOr.out.alloc (.cells #[.int .u8 ((m : Int) / (q : Int) % 256)] 5))
            have HK2 := hide (Keeps.alloc HKr.out (.cells #[.int .u8 ((m : Int) / (q : Int) % 256)] 5))
            go_wp2_with (first
              | (go_at_call 72; refine (unhide HW _).mono ?_; rintro e w' ⟨rfl, hw'⟩; obtain rfl := Eq.symm hw')
              | (at_builtin; refine app_bys rfl (.tmp 35) (.tmp 42) rfl w.heap.size _ (L ++ digsTo m s k) [UInt8.ofNat (m / q)] rfl (some ⟨wr.heap.size, 0, none⟩) 1 rfl HC1.out (fun e => nomatch e) HO2.out HL2.out (by have := HKr.out.size; simp; omega) ?_; intro v' w' ho hg))
            go_roundw
            case rel =>
              refine ⟨k + 1, by omega, by congr 1; omega, ?_, Keeps.grown HK2.out hg (fun j hj => (HO2.out.lt j hj).1)⟩
              show OwnsB _ _ _ _
              rw [digsTo_succ, ← List.append_assoc, HQ.out]; exact ho
            case measure => simp [intOf]; omega
          · have e : k = s := by omega
            subst e
            go_wp2_with fail
            go_ret2
            exact PutPost.yes HB.out HOr.out HKr.out
      · have HN := hide (putB_great (n := n) (s := s) (by omega))
        clear hc hn hl hw
        generalize 256 ^ s = p at *
        go_enter Tryd.func61, Tryd.ntmps61
        go_wp2_with (go_at_call 72; refine (unhide HS _).mono ?_; rintro e w' ⟨rfl, hw'⟩; obtain rfl := Eq.symm hw')
        go_ret2
        exact PutPost.no HN.out (Keeps.refl _)
  · have HN := hide (putB_size (n := n) hs)
    clear hc hn hl hw
    by_cases h1 : size < 1
    · clear hs
      go_enter Tryd.func61, Tryd.ntmps61
      go_wp2_with fail
      go_ret2
      exact PutPost.no HN.out (Keeps.refl _)
    · have h2 : 7 < size := by omega
      clear hs
      go_enter Tryd.func61, Tryd.ntmps61
      go_wp2_with fail
      go_ret2
      exact PutPost.no HN.out (Keeps.refl _)
theorem putL_len (L : List UInt8) (n size : Int) (h : L.length ≤ 1048576) : (putL L n size).length ≤ 16777216 := by
  unfold putL
  split
  · rename_i hb
    have : size ≤ 7 := by
      simp only [putB, Bool.and_eq_true, decide_eq_true_eq] at hb
      exact hb.1.1.2
    rw [List.length_append, digs_length]
    omega
  · simp
end Go.Proofs.YtkdnddckogbgaaaDoor
