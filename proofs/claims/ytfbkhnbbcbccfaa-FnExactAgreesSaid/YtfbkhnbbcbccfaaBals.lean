/- The model's Balance. -/
import Derived.Test.YtfbkhnbbcbccfaaWorths
namespace Go.Proofs.Ytfbkhnbbcbccfaa
open Go.RowKit
set_option linter.unusedVariables false
/-- The amount of the first line of an account, or 0. -/
def balF (k c : Int) : List Ln → Int
  | [] => 0
  | x :: L => if x.k = k ∧ x.c = c then x.a else balF k c L
theorem balF_drop {k c : Int} {L : List Ln} {n : Nat} (h : n < L.length) : balF k c (L.drop n) = if L[n].k = k ∧ L[n].c = c then L[n].a else balF k c (L.drop (n + 1)) := by
  rw [List.drop_eq_getElem_cons h]; rfl
/-- What Balance answers. -/
def balV (id : Int) (L : List Ln) (k c : Int) : Int := if ledgB id L = true ∧ accB k c = true then balF k c L else 0

theorem bal_spec (id : Int) (a : Option Addr) (cap : Nat) (L : List Ln) (k c : Int) (w : World) (hc : Cells w a (flat L)) (hl : L.length ≤ 1048576) :
    Calls Try.prog 18 #[.agg #[.int .i64 id, .slice a L.length cap], accV k c] w fun e w' => e = .returned (.int .i64 (balV id L k c)) ∧ Keeps w w' := by
  have HKA := hide (Keeps.alloc (Keeps.alloc (Keeps.refl w) (.cells #[.int .i64 id, .slice a L.length cap] 41)) (.cells #[.int .i64 k, .int .i64 c] 54))
  have HC := hide (hc.kept HKA.out)
  have HD : Hid (∀ w', Keeps ((w.alloc (.cells #[.int .i64 id, .slice a L.length cap] 41)).alloc (.cells #[.int .i64 k, .int .i64 c] 54)) w' → w'.cell? ⟨w.heap.size, 1, none⟩ = some (.slice a L.length cap) ∧ w'.cell? ⟨w.heap.size + 1, 0, none⟩ = some (.int .i64 k) ∧ w'.cell? ⟨w.heap.size + 1, 1, none⟩ = some (.int .i64 c)) :=
    fun w' hk => ⟨hk.cell (by simp), hk.cell (by simp), hk.cell (by simp)⟩
  clear hc
  have HS := hide (fun w1 (hk : Keeps ((w.alloc (.cells #[.int .i64 id, .slice a L.length cap] 41)).alloc (.cells #[.int .i64 k, .int .i64 c] 54)) w1) => ledger_spec id a cap L w1 (HC.out.kept hk) hl)
  have HA := hide (fun w1 => acc_k k c w1)
  cases hb : ledgB id L
  · rw [hb] at HS
    have HV : Hid (balV id L k c = 0) := by show _ = _; simp [balV, hb]
    clear hb
    go_enter Try.func18, Try.ntmps18
    go_wp2_with fail
    refine (unhide HS _ (Keeps.refl _)).mono ?_
    rintro e w1 ⟨rfl, hk⟩
    go_wp2_with fail
    go_ret
    exact ⟨by rw [HV.out]; rfl, HKA.out.trans hk⟩
  · rw [hb] at HS
    cases ha : accB k c
    · rw [ha] at HA
      have HV : Hid (balV id L k c = 0) := by show _ = _; simp [balV, ha]
      clear hb ha
      go_enter Try.func18, Try.ntmps18
      go_wp2_with fail
      refine (unhide HS _ (Keeps.refl _)).mono ?_
      rintro e w1 ⟨rfl, hk⟩
      obtain ⟨d0, d1, d2⟩ := HD.out _ hk
      go_wp2_with fail
      refine (unhide HA _).mono ?_
      rintro e w2 ⟨rfl, hk2⟩
      go_wp2_with fail
      go_ret
      exact ⟨by rw [HV.out]; rfl, (HKA.out.trans hk).trans hk2⟩
    · rw [ha] at HA
      have HV : Hid (balV id L k c = balF k c L) := by show _ = _; simp [balV, ha, hb]
      have h320 := (ledgB_lines hb).2
      clear hb ha
      go_enter Try.func18, Try.ntmps18
      go_wp2_with fail
      refine (unhide HS _ (Keeps.refl _)).mono ?_
      rintro e w1 ⟨rfl, hk⟩
      obtain ⟨d0, d1, d2⟩ := HD.out _ hk
      have HK1 := hide hk
      clear hk
      go_wp2_with fail
      refine (unhide HA _).mono ?_
      rintro e w2 ⟨rfl, hk2⟩
      have HK2 := hide (HK1.out.trans hk2)
      obtain ⟨e0, e1, e2⟩ := HD.out _ HK2.out
      clear hk2 d0 d1 d2
      go_wp2_with fail
      go_loopw [18] (fun y w3 => ∃ (n : Nat), n ≤ L.length ∧ Hid (balF k c L = balF k c (L.drop n)) ∧ y = .int .i64 (n : Int) ∧ Keeps w2 w3) (fun y _ => L.length - (intOf y).toNat)
      case atStart => exact ⟨0, by omega, rfl, rfl, Keeps.refl _⟩
      case round =>
        obtain ⟨n, hn, HB, rfl, hkw⟩ := hrel
        by_cases hlt : n < L.length
        · obtain ⟨b, off, ea, c0, c1, c2⟩ := cells_at ((HC.out.kept HK2.out).kept hkw) n hlt
          subst ea
          obtain ⟨f0, f1, f2⟩ := HD.out _ (HK2.out.trans hkw)
          have HNext := hide (balF_drop (k := k) (c := c) hlt)
          have HW := hide (Keeps.alloc hkw (Obj.cells #[Value.int IntKind.i64 L[n].k, Value.int IntKind.i64 L[n].c, Value.int IntKind.i64 L[n].a] 76))
          have l1 := lt_of_cell f1
          clear hkw e0 e1 e2
          generalize L[n] = x at *
          by_cases h1 : x.k = k
          · by_cases h2 : x.c = c
            · have HN : Hid (balF k c (L.drop n) = x.a) := by show _ = _; rw [HNext.out, if_pos ⟨h1, h2⟩]
              subst h1 h2
              go_wp2_with fail
              go_ret
              exact ⟨by rw [HV.out, HB.out, HN.out]; rfl, (HKA.out.trans HK2.out).trans HW.out⟩
            · have HN : Hid (balF k c (L.drop n) = balF k c (L.drop (n + 1))) := by show _ = _; rw [HNext.out, if_neg (fun h => h2 h.2)]
              go_wp2_with fail
              go_roundw
              case rel => exact ⟨n + 1, by omega, HB.out.trans HN.out, by go_num, by simpa [h1] using HW.out⟩
              case measure => simp [intOf]; omega
          · have HN : Hid (balF k c (L.drop n) = balF k c (L.drop (n + 1))) := by show _ = _; rw [HNext.out, if_neg (fun h => h1 h.1)]
            go_wp2_with fail
            go_roundw
            case rel => exact ⟨n + 1, by omega, HB.out.trans HN.out, by go_num, HW.out⟩
            case measure => simp [intOf]; omega
        · have e : n = L.length := by omega
          have HE : Hid (balF k c L = 0) := by show _ = _; rw [HB.out, e, List.drop_length]; rfl
          clear e HB
          go_wp2_with fail
          go_ret
          exact ⟨by rw [HV.out, HE.out]; rfl, (HKA.out.trans HK2.out).trans hkw⟩
end Go.Proofs.Ytfbkhnbbcbccfaa
