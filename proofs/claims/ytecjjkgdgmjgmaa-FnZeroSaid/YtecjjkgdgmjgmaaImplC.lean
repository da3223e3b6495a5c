/- The program's PostingOk, LedgerOk, isOwned, Worth, Balance. -/
import Derived.Test.YtecjjkgdgmjgmaaImplB
namespace Go.Proofs.Ytecjjkgdgmjgmaa
open Go.RowKit
set_option linter.unusedVariables false
theorem impl_posting (id : Int) (a : Option Addr) (cap : Nat) (L : List Ln) (w : World) (hc : Cells w a (flat L)) (hl : L.length ≤ 1048576) :
    Calls Try.prog 66 #[.agg #[.int .i64 id, .slice a L.length cap]] w fun e w' => e = .returned (.bool (postB id L)) ∧ Keeps w w' := by
  have HC := hide hc
  clear hc
  have HS := hide (fun w1 (hk : Keeps w w1) => impl_lines a cap L w1 (HC.out.kept hk) hl)
  go_enter Try.func66, Try.ntmps66
  go_wp2_with fail
  · refine (unhide HS _ (Keeps.alloc (Keeps.refl _) _)).mono ?_
    rintro e w1 ⟨rfl, hk⟩
    go_wp2_with fail
    go_ret
    exact ⟨ret_bool (by
      unfold postB
      rw [show decide (1 ≤ id) = true from decide_eq_true (by omega), show decide (id ≤ 1125899906842624) = true from decide_eq_true (by omega), show decide (2 ≤ L.length) = true from decide_eq_true (by omega), show decide (L.length ≤ 8) = true from decide_eq_true (by omega)]
      rfl), (Keeps.alloc (Keeps.refl _) _).trans hk⟩
  all_goals (go_ret; exact ⟨ret_bool (by simp [postB]; intros; omega), Keeps.alloc (Keeps.refl _) _⟩)
theorem impl_ledger (id : Int) (a : Option Addr) (cap : Nat) (L : List Ln) (w : World) (hc : Cells w a (flat L)) (hl : L.length ≤ 1048576) :
    Calls Try.prog 11 #[.agg #[.int .i64 id, .slice a L.length cap]] w fun e w' => e = .returned (.bool (ledgB id L)) ∧ Keeps w w' := by
  have HC := hide hc
  clear hc
  have HS := hide (fun w1 (hk : Keeps w w1) => impl_lines a cap L w1 (HC.out.kept hk) hl)
  have HA := hide (fun w1 => amt_impl id w1)
  have HE : Hid (ledgB id L = (amtB id && decide (L.length ≤ 320) && linesB L)) := by show _ = _; simp [ledgB, amtB]
  cases hb : amtB id
  · rw [hb] at HA HE
    clear hb
    go_enter Try.func11, Try.ntmps11
    go_wp2_with fail
    refine (unhide HA _).mono ?_
    rintro e w1 ⟨rfl, rfl⟩
    go_wp2_with fail
    go_ret
    exact ⟨ret_bool (by rw [HE.out]; simp), Keeps.alloc (Keeps.refl _) _⟩
  · rw [hb] at HA HE
    clear hb
    by_cases h320 : L.length ≤ 320
    · rw [decide_eq_true h320] at HE
      go_enter Try.func11, Try.ntmps11
      go_wp2_with fail
      refine (unhide HA _).mono ?_
      rintro e w1 ⟨rfl, rfl⟩
      go_wp2_with fail
      refine (unhide HS _ (Keeps.alloc (Keeps.refl _) _)).mono ?_
      rintro e w1 ⟨rfl, hk⟩
      go_wp2_with fail
      go_ret
      exact ⟨ret_bool (by rw [HE.out]; simp), (Keeps.alloc (Keeps.refl _) _).trans hk⟩
    · rw [decide_eq_false h320] at HE
      go_enter Try.func11, Try.ntmps11
      go_wp2_with fail
      refine (unhide HA _).mono ?_
      rintro e w1 ⟨rfl, rfl⟩
      go_wp2_with fail
      go_ret
      exact ⟨ret_bool (by rw [HE.out]; simp), Keeps.alloc (Keeps.refl _) _⟩
theorem own_impl (x : Ln) (ha : accB x.k x.c = true) (w : World) : Calls Try.prog 49 #[accV x.k x.c] w fun e w' => e = .returned (.bool (ownB x)) ∧ Keeps w w' := by
  obtain ⟨k, c, a⟩ := x
  dsimp only at ha ⊢
  have h8 : k ≤ 8 := by simp [accB] at ha; omega
  have HC := hide (fun w1 => chan_impl k w1)
  clear ha
  by_cases h1 : k = 1
  · subst h1
    go_enter Try.func49, Try.ntmps49
    go_wp2_with fail
    go_ret
    exact ⟨ret_bool (by simp [ownB]), Keeps.alloc (Keeps.refl _) _⟩
  · have e1 : (k == 1) = false := beq_eq_false_iff_ne.2 h1
    have HE : Hid (ownB ⟨k, c, a⟩ = chB k) := by
      show _ = _
      unfold ownB chB
      rw [Bool.eq_iff_iff]
      simp
      omega
    clear h1 h8
    generalize chB k = r at *
    go_enter Try.func49, Try.ntmps49
    go_wp2_with fail
    refine (unhide HC _).mono ?_
    rintro e w1 ⟨rfl, rfl⟩
    go_wp2_with fail
    go_ret
    exact ⟨ret_bool (by rw [HE.out]), Keeps.alloc (Keeps.refl _) _⟩

theorem impl_worth (id : Int) (a : Option Addr) (cap : Nat) (L : List Ln) (w : World) (hc : Cells w a (flat L)) (hl : L.length ≤ 1048576) :
    Calls Try.prog 13 #[.agg #[.int .i64 id, .slice a L.length cap]] w fun e w' => e = .returned (.int .i64 (worthV id L)) ∧ Keeps w w' := by
  have HKA := hide (Keeps.alloc (Keeps.refl w) (.cells #[.int .i64 id, .slice a L.length cap] 25))
  have HC := hide (hc.kept HKA.out)
  have HD : Hid (∀ w', Keeps (w.alloc (.cells #[.int .i64 id, .slice a L.length cap] 25)) w' → w'.cell? ⟨w.heap.size, 0, none⟩ = some (.int .i64 id) ∧ w'.cell? ⟨w.heap.size, 1, none⟩ = some (.slice a L.length cap)) :=
    fun w' hk => ⟨hk.cell (by simp), hk.cell (by simp)⟩
  clear hc
  have HS := hide (fun w1 (hk : Keeps (w.alloc (.cells #[.int .i64 id, .slice a L.length cap] 25)) w1) => impl_ledger id a cap L w1 (HC.out.kept hk) hl)
  cases hb : ledgB id L
  · rw [hb] at HS
    have HV : Hid (worthV id L = 0) := by show _ = _; simp [worthV, hb]
    clear hb
    go_enter Try.func13, Try.ntmps13
    go_wp2_with fail
    refine (unhide HS _ (Keeps.refl _)).mono ?_
    rintro e w1 ⟨rfl, hk⟩
    go_wp2_with fail
    go_ret
    exact ⟨by rw [HV.out]; rfl, HKA.out.trans hk⟩
  · rw [hb] at HS
    have HV : Hid (worthV id L = sumW L) := by show _ = _; simp [worthV, hb]
    have HR := hide (linesB_range (ledgB_lines hb).1)
    have HAll : Hid (∀ (j : Nat) (h : j < L.length), accB L[j].k L[j].c = true) := fun j h => ((lines_good (ledgB_lines hb).1).2 _ (List.getElem_mem h)).1
    have h320 := (ledgB_lines hb).2
    clear hb
    go_enter Try.func13, Try.ntmps13
    go_wp2_with fail
    refine (unhide HS _ (Keeps.refl _)).mono ?_
    rintro e w1 ⟨rfl, hk⟩
    obtain ⟨d0, d1⟩ := HD.out _ hk
    have HK1 := hide hk
    clear hk
    go_wp2_with fail
    go_loopw [3, 12] (fun x y w2 => ∃ (s : Int) (k : Nat), k ≤ L.length ∧ -(1125899906842624 * (k : Int)) ≤ s ∧ s ≤ 1125899906842624 * (k : Int) ∧ Hid (s = sumW (L.take k)) ∧ x = .int .i64 s ∧ y = .int .i64 (k : Int) ∧ Keeps w1 w2) (fun _ y _ => L.length - (intOf y).toNat)
    case atStart => exact ⟨0, 0, by omega, by omega, by omega, rfl, rfl, rfl, Keeps.refl _⟩
    case round =>
      obtain ⟨s, k, hk, s0, s1, HSum, rfl, rfl, hkw⟩ := hrel
      by_cases hlt : k < L.length
      · obtain ⟨b, off, ea, c0, c1, c2⟩ := cells_at ((HC.out.kept HK1.out).kept hkw) k hlt
        subst ea
        have HNext := hide (sumW_take L k hlt)
        obtain ⟨r0, r1⟩ := HR.out k hlt
        have HW := hide (Keeps.alloc hkw (Obj.cells #[Value.int IntKind.i64 L[k].k, Value.int IntKind.i64 L[k].c, Value.int IntKind.i64 L[k].a] 35))
        clear hkw
        have HP : Hid (∀ (j : Nat) (h : j < L.length), accB L[j].k L[j].c = true) := HAll.out
        have HPk := HAll.out k hlt
        clear HP
        have HP := hide HPk
        clear HPk
        generalize L[k] = x at *
        obtain ⟨xk, xc, xa⟩ := x
        dsimp only at *
        have HQ := hide (fun w1 => own_impl ⟨xk, xc, xa⟩ HP.out w1)
        cases ho : ownB ⟨xk, xc, xa⟩
        · rw [ho] at HNext HQ
          clear ho
          go_wp2_with fail
          refine (unhide HQ _).mono ?_
          rintro e w2 ⟨rfl, hk2⟩
          have HW2 := hide (HW.out.trans hk2)
          clear hk2
          go_wp2_with fail
          go_roundw
          case rel => exact ⟨s, k + 1, by omega, by omega, by omega, by show _ = _; rw [HNext.out, ← HSum.out]; simp, rfl, by go_num, HW2.out⟩
          case measure => simp [intOf]; omega
        · rw [ho] at HNext HQ
          clear ho
          go_wp2_with fail
          refine (unhide HQ _).mono ?_
          rintro e w2 ⟨rfl, hk2⟩
          have e2 := hk2.cell (p := ⟨wr.heap.size, 2, none⟩) (v := .int .i64 xa) (by simp)
          have HW2 := hide (HW.out.trans hk2)
          clear hk2
          go_wp2_with fail
          go_roundw
          case rel => exact ⟨s + xa, k + 1, by omega, by omega, by omega, by show _ = _; rw [HNext.out, ← HSum.out]; simp, rfl, by go_num, HW2.out⟩
          case measure => simp [intOf]; omega
      · have e : k = L.length := by omega
        have HE : Hid (s = sumW L) := by show _ = _; rw [HSum.out, e, List.take_length]
        clear e HSum
        go_wp2_with fail
        go_ret
        exact ⟨by rw [HV.out, ← HE.out]; rfl, (HKA.out.trans HK1.out).trans hkw⟩
end Go.Proofs.Ytecjjkgdgmjgmaa
