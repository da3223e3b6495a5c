/- TextAcc, of the program and of the model. -/
import Derived.Test.YtahgibjjnfbkhaaDoorTAcc
namespace Go.Proofs.YtahgibjjnfbkhaaDoor
open Go.RowKit
set_option linter.unusedVariables false
def TTells (s : List UInt8) (e : Ending) : Prop := ∃ k c b, TA s k c b ∧ e = .returned (.tuple #[accV k c, .bool b])
theorem ttells {s : List UInt8} {k c : Int} {b : Bool} (h : TA s k c b) : TTells s (.returned (.tuple #[accV k c, .bool b])) := ⟨k, c, b, h, rfl⟩

set_option maxHeartbeats 2000000 in
theorem tacc_impl (s : ByteArray) (w : World) (hs : s.size ≤ 1048576) (he : Env w) :
    Calls Tryd.prog 9 #[.string s] w fun e w' => TTells s.data.toList e ∧ Keeps w w' := by
  have HE := hide he
  have HKA := hide (Keeps.alloc (Keeps.refl w) (.cells #[.int .i64 0, .int .i64 0] 24))
  have HR0 := hide (World.rowIs_alloc w #[.int .i64 0, .int .i64 0] 24 (fun _ => .int .i64 0) zero2)
  clear he
  go_enter Tryd.func9, Tryd.ntmps9
  go_wp2_with fail
  go_loopw [4] (fun x w1 => ∃ n : Int, 1 ≤ n ∧ n ≤ 9 ∧ Hid (∀ k' c', k' < n → accB k' c' = true → textL k' c' ≠ s.data.toList) ∧ x = .int .i64 n ∧ Hid (Keeps (w.alloc (.cells #[.int .i64 0, .int .i64 0] 24)) w1)) (fun x _ => (9 - intOf x).toNat)
  case atStart => exact ⟨1, by omega, by omega, fun k' c' h ha => absurd (accB_kind ha).1 (by omega), rfl, Keeps.refl _⟩
  case round =>
    obtain ⟨n, hn1, hn2, HNo, rfl, HK⟩ := hrel
    by_cases h9 : n ≤ 8
    · have HC := hide (kind_impl n ⟨hn1, h9⟩ s wr hs ((HE.out.kept HKA.out).kept HK.out))
      go_wp2_with fail
      refine (unhide HC).mono ?_
      rintro e w2 ⟨⟨k', c', b, hka, rfl⟩, hk2⟩
      have HK2 := hide (HK.out.trans hk2)
      have HRow := hide (Keeps.row HK2.out HR0.out)
      have f0 := HRow.out.frozen 0
      have f1 := HRow.out.frozen 1
      have z0 := HRow.out.cell (i := 0) (by decide)
      have z1 := HRow.out.cell (i := 1) (by decide)
      have hlt := HRow.out.lt
      clear hk2
      rcases hka with ⟨rfl, rfl, ha, ht⟩ | ⟨rfl, rfl, rfl, hno⟩
      · have HR := hide (ttells (Or.inl ⟨rfl, ha, ht⟩))
        have HRow3 := hide (HRow.out.alloc (.cells #[.int .i64 k', .int .i64 c'] 24))
        clear ha ht HNo
        go_wp2_with fail
        obtain ⟨o0', o1'⟩ := acc_out HRow.out k' c'
        have o0 := (Keeps.alloc (Keeps.refl _) (.cells #[.int .i64 k', .int .i64 c'] 24)).cell o0'
        have o1 := (Keeps.alloc (Keeps.refl _) (.cells #[.int .i64 k', .int .i64 c'] 24)).cell o1'
        refine bodyPost_ret (v := .tuple #[accV k' c', .bool true]) ?_ rfl ⟨HR.out, Keeps.alloc (Keeps.setCell (Keeps.setCell (HKA.out.trans HK2.out) (Nat.le_refl _) _) (Nat.le_refl _) _) _⟩
        revert o0 o1
        clear HRow HRow3 HK2 HK HKA o0' o1'
        generalize World.alloc (World.setCell _ _ _) _ = W
        intro o0 o1
        simp [results, Tryd.results9, go_sem, o0, o1]
      · have HNx : Hid (∀ k' c', k' < n + 1 → accB k' c' = true → textL k' c' ≠ s.data.toList) := by
          intro k' c' h ha
          by_cases hk : k' = n
          · subst hk; exact hno c' ha
          · exact HNo.out k' c' (by omega) ha
        clear hno
        go_wp2_with fail
        go_roundw
        case rel => exact ⟨n + 1, by omega, by omega, HNx, rfl, Keeps.alloc HK2.out _⟩
        case measure => simp [intOf]; omega
    · have HR : Hid (TTells s.data.toList (.returned (.tuple #[accV 0 0, .bool false]))) := ttells (Or.inr ⟨rfl, rfl, rfl, fun k' c' ha => HNo.out k' c' (by have := (accB_kind ha).2; omega) ha⟩)
      have HRow := hide (Keeps.row HK.out HR0.out)
      have f0 := HRow.out.frozen 0
      have f1 := HRow.out.frozen 1
      have z0 := HRow.out.cell (i := 0) (by decide)
      have z1 := HRow.out.cell (i := 1) (by decide)
      have hlt := HRow.out.lt
      clear HNo
      go_wp2_with fail
      obtain ⟨o0, o1⟩ := acc_out HRow.out 0 0
      refine bodyPost_ret (v := .tuple #[accV 0 0, .bool false]) ?_ rfl ⟨HR.out, Keeps.setCell (Keeps.setCell (HKA.out.trans HK.out) (Nat.le_refl _) _) (Nat.le_refl _) _⟩
      revert o0 o1
      clear HRow HK HKA
      generalize World.setCell _ _ _ = W
      intro o0 o1
      simp [results, Tryd.results9, go_sem, o0, o1]

set_option maxHeartbeats 2000000 in
theorem tacc_spec (s : ByteArray) (w : World) :
    Calls Tryd.prog 12 #[.string s] w fun e w' => TTells s.data.toList e ∧ Keeps w w' := by
  have HKA := hide (Keeps.alloc (Keeps.refl w) (.cells #[.int .i64 0, .int .i64 0] 24))
  have HR0 := hide (World.rowIs_alloc w #[.int .i64 0, .int .i64 0] 24 (fun _ => .int .i64 0) zero2)
  go_enter Tryd.func12, Tryd.ntmps12
  go_wp2_with fail
  go_loopw [4] (fun x w1 => ∃ n : Int, 1 ≤ n ∧ n ≤ 9 ∧ Hid (∀ k' c', k' < n → accB k' c' = true → textL k' c' ≠ s.data.toList) ∧ x = .int .i64 n ∧ Hid (Keeps (w.alloc (.cells #[.int .i64 0, .int .i64 0] 24)) w1)) (fun x _ => (9 - intOf x).toNat)
  case atStart => exact ⟨1, by omega, by omega, fun k' c' h ha => absurd (accB_kind ha).1 (by omega), rfl, Keeps.refl _⟩
  case round =>
    obtain ⟨n, hn1, hn2, HNo, rfl, HK⟩ := hrel
    by_cases h9 : n ≤ 8
    · go_wp2_with fail
      go_loopw [5] (fun x w1 => ∃ m : Int, 0 ≤ m ∧ m ≤ 100 ∧ Hid (∀ c', c' < m → accB n c' = true → textL n c' ≠ s.data.toList) ∧ x = .int .i64 m ∧ Hid (Keeps (w.alloc (.cells #[.int .i64 0, .int .i64 0] 24)) w1)) (fun x _ => (100 - intOf x).toNat)
      case atStart => exact ⟨0, by omega, by omega, fun c' h ha => absurd h (by
          by_cases h6 : n < 6
          · rw [accB_small ha h6]; omega
          · have := (accB_great ha h6).1; omega), rfl, HK⟩
      case round =>
        obtain ⟨m, hm1, hm2, HNo2, rfl, HK2⟩ := hrel
        by_cases h100 : m ≤ 99
        · have HA := hide (fun w1 => acc_k n m w1)
          have HKB := hide (Keeps.alloc HK2.out (.cells #[.int .i64 n, .int .i64 m] 24))
          cases hb : accB n m
          · rw [hb] at HA
            have HNx : Hid (∀ c', c' < m + 1 → accB n c' = true → textL n c' ≠ s.data.toList) := by
              intro c' h ha
              by_cases hk : c' = m
              · subst hk; rw [hb] at ha; cases ha
              · exact HNo2.out c' (by omega) ha
            clear hb HNo2
            go_wp2_with fail
            refine (unhide HA _).mono ?_
            rintro e w3 ⟨rfl, hk3⟩
            go_wp2_with fail
            go_roundw
            case rel => exact ⟨m + 1, by omega, by omega, HNx, rfl, HKB.out.trans hk3⟩
            case measure => simp [intOf]; omega
          · rw [hb] at HA
            have HX := hide (fun w1 => atext_spec n m w1)
            have HB := hide (beq_text (k := n) (c := m) (s := s))
            by_cases heq : textL n m = s.data.toList
            · have HR := hide (ttells (Or.inl ⟨rfl, hb, heq⟩))
              have hbq : ((textA n m).toList == s.toList) = true := by rw [HB.out]; exact decide_eq_true heq
              clear hb heq HB HNo2
              generalize textA n m = tx at *
              go_wp2_with fail
              refine (unhide HA _).mono ?_
              rintro e w3 ⟨rfl, hk3⟩
              have d0 := hk3.cell (p := ⟨wr.heap.size, 0, none⟩) (v := .int .i64 n) (by simp)
              have d1 := hk3.cell (p := ⟨wr.heap.size, 1, none⟩) (v := .int .i64 m) (by simp)
              have HK3 := hide (HKB.out.trans hk3)
              clear hk3
              go_wp2_with fail
              refine (unhide HX _).mono ?_
              rintro e w4 ⟨rfl, hk4⟩
              have e0 := hk4.cell d0
              have e1 := hk4.cell d1
              have HK4 := hide (HK3.out.trans hk4)
              have HRow := hide (Keeps.row HK4.out HR0.out)
              have f0 := HRow.out.frozen 0
              have f1 := HRow.out.frozen 1
              have z0 := HRow.out.cell (i := 0) (by decide)
              have z1 := HRow.out.cell (i := 1) (by decide)
              clear hk4 d0 d1
              go_wp2_with fail
              obtain ⟨o0, o1⟩ := acc_out HRow.out n m
              refine bodyPost_ret (v := .tuple #[accV n m, .bool true]) ?_ rfl ⟨HR.out, Keeps.setCell (Keeps.setCell (HKA.out.trans HK4.out) (Nat.le_refl _) _) (Nat.le_refl _) _⟩
              revert o0 o1
              clear HRow HK4 HK3 HK HKA HKB HK2 e0 e1 f0 f1 z0 z1
              generalize World.setCell _ _ _ = W
              intro o0 o1
              simp [results, Tryd.results12, go_sem, o0, o1]
            · have HNx : Hid (∀ c', c' < m + 1 → accB n c' = true → textL n c' ≠ s.data.toList) := by
                intro c' h ha
                by_cases hk : c' = m
                · subst hk; exact heq
                · exact HNo2.out c' (by omega) ha
              have hbq : ((textA n m).toList == s.toList) = false := by rw [HB.out]; exact decide_eq_false heq
              clear hb heq HB HNo2
              generalize textA n m = tx at *
              go_wp2_with fail
              refine (unhide HA _).mono ?_
              rintro e w3 ⟨rfl, hk3⟩
              have d0 := hk3.cell (p := ⟨wr.heap.size, 0, none⟩) (v := .int .i64 n) (by simp)
              have d1 := hk3.cell (p := ⟨wr.heap.size, 1, none⟩) (v := .int .i64 m) (by simp)
              have HK3 := hide (HKB.out.trans hk3)
              clear hk3
              go_wp2_with fail
              refine (unhide HX _).mono ?_
              rintro e w4 ⟨rfl, hk4⟩
              have HK4 := hide (HK3.out.trans hk4)
              clear hk4
              go_wp2_with fail
              go_roundw
              case rel => exact ⟨m + 1, by omega, by omega, HNx, rfl, HK4⟩
              case measure => simp [intOf]; omega
        · have HNx : Hid (∀ k' c', k' < n + 1 → accB k' c' = true → textL k' c' ≠ s.data.toList) := by
            intro k' c' h ha
            by_cases hk : k' = n
            · subst hk
              refine HNo2.out c' ?_ ha
              by_cases h6 : k' < 6
              · rw [accB_small ha h6]; omega
              · have := (accB_great ha h6).2; omega
            · exact HNo.out k' c' (by omega) ha
          clear HNo2
          go_wp2_with fail
          go_roundw
          case rel => exact ⟨n + 1, by omega, by omega, HNx, rfl, HK2⟩
          case measure => simp [intOf]; omega
    · have HR : Hid (TTells s.data.toList (.returned (.tuple #[accV 0 0, .bool false]))) := ttells (Or.inr ⟨rfl, rfl, rfl, fun k' c' ha => HNo.out k' c' (by have := (accB_kind ha).2; omega) ha⟩)
      have HRow := hide (Keeps.row HK.out HR0.out)
      have f0 := HRow.out.frozen 0
      have f1 := HRow.out.frozen 1
      have z0 := HRow.out.cell (i := 0) (by decide)
      have z1 := HRow.out.cell (i := 1) (by decide)
      have hlt := HRow.out.lt
      clear HNo
      go_wp2_with fail
      obtain ⟨o0, o1⟩ := acc_out HRow.out 0 0
      refine bodyPost_ret (v := .tuple #[accV 0 0, .bool false]) ?_ rfl ⟨HR.out, Keeps.setCell (Keeps.setCell (HKA.out.trans HK.out) (Nat.le_refl _) _) (Nat.le_refl _) _⟩
      revert o0 o1
      clear HRow HK HKA
      generalize World.setCell _ _ _ = W
      intro o0 o1
      simp [results, Tryd.results12, go_sem, o0, o1]
end Go.Proofs.YtahgibjjnfbkhaaDoor
