/- The program's words on books: numbers of channels that rise, and what is under way. -/
import Derived.Test.YtphabdjhmahemaaBkB
namespace Go.Proofs.Ytphabdjhmahemaa
open Go.RowKit Go.Deep
set_option linter.unusedVariables false
set_option linter.unusedSimpArgs false
set_option maxRecDepth 10000

theorem idAt_zero {C : List Chn} (h : 0 < C.length) : idAt C 0 = chB C[0].id := by simp [idAt, List.getElem?_eq_getElem h]
theorem idAt_succ {C : List Chn} {m : Nat} (h : m + 1 < C.length) : idAt C (m + 1) = (chB C[m + 1].id && decide (C[m].id < C[m + 1].id)) := by
  simp [idAt, List.getElem?_eq_getElem h, List.getElem?_eq_getElem (show m < C.length by omega)]
theorem idsB_no {C : List Chn} {k : Nat} (hk : k < C.length) (h : idAt C k = false) : idsB C = false := by
  unfold idsB; rw [List.all_eq_false]; exact ⟨k, List.mem_range.2 hk, by simp [h]⟩
theorem idsB_yes {C : List Chn} (h : ∀ k, k < C.length → idAt C k = true) : idsB C = true := by
  unfold idsB; rw [List.all_eq_true]; intro k hk; exact h k (List.mem_range.1 hk)
set_option maxHeartbeats 4000000 in
theorem ids_impl (ca : Option Addr) (cc : Nat) (C : List Chn) (w : World) (hc : Cells w ca (chs C)) (hl : C.length ≤ 1048576) :
    Calls Try.prog 94 #[.slice ca C.length cc] w fun e w' => e = .returned (.bool (idsB C)) ∧ Keeps w w' := by
  have HC := hide hc
  clear hc
  go_enter Try.func94, Try.ntmps94
  go_wp2_with fail
  go_loopw [7] (fun y wr => ∃ k : Nat, k ≤ C.length ∧ y = .int .i64 (k : Int) ∧ Hid (∀ j, j < k → idAt C j = true) ∧ Hid (Keeps w wr)) (fun y _ => C.length - (intOf y).toNat)
  case atStart => exact ⟨0, by omega, rfl, fun j h => absurd h (by omega), Keeps.refl _⟩
  case round =>
    obtain ⟨k, hk, rfl, HG, HKr⟩ := hrel
    by_cases hlt : k < C.length
    · obtain ⟨b, off, ea, c0, c1, c2, c3, c4, c5, c6⟩ := chs_at (HC.out.kept HKr.out) k hlt
      subst ea
      have HA := hide (fun x : Chn => rowc7 wr (.int .i64 x.id) (.int .i64 x.sz) (.int .i64 x.lo) (.int .i64 x.re) (.int .i64 x.ba) (.int .i64 x.pp) (.int .i64 x.sc) 97)
      by_cases hk0 : k = 0
      · have h0 : decide (0 < k) = false := by simp; omega
        have HV : Hid (idAt C k = chB C[k].id) := by show _ = _; subst hk0; exact idAt_zero hlt
        clear hk0
        generalize C[k] = x at *
        obtain ⟨xid, xsz, xlo, xre, xba, xpp, xsc⟩ := x
        dsimp only at c0 c1 c2 c3 c4 c5 c6 HV
        go_wp2_with fail
        replace HA := hide (unhide HA ⟨xid, xsz, xlo, xre, xba, xpp, xsc⟩)
        dsimp only at HA
        have HKv := hide (HKr.out.trans (Keeps.alloc (Keeps.refl wr) (.cells #[.int .i64 xid, .int .i64 xsz, .int .i64 xlo, .int .i64 xre, .int .i64 xba, .int .i64 xpp, .int .i64 xsc] 97)))
        generalize wr.alloc (.cells #[.int .i64 xid, .int .i64 xsz, .int .i64 xlo, .int .i64 xre, .int .i64 xba, .int .i64 xpp, .int .i64 xsc] 97) = W1 at *
        have g0 : ∀ t, (gr W1 t).cell? ⟨wr.heap.size, 0, none⟩ = some (.int .i64 xid) := fun t => (unhide HA _ (gr_keeps W1 t)).1
        cases hb : chB xid
        · skip
          have HQ1 := hide (fun t => chan_impl xid (gr W1 t))
          rw [hb] at HQ1
          refine region_gr (by kernel_rfl) (by kernel_rfl) ?_
          repeat (go_big_quiet_step (first | (go_at_call 110; exact gr_call (unhide HQ1 _))))
          refine wpQuiet_nil ?_
          intro w' hw'
          have hk' := HKv.out.trans (Keeps.of_gr hw')
          clear hw'
          go_wp2_with fail
          go_ret
          exact ⟨ret_b (idsB_no hlt (by rw [HV.out, hb])).symm, hk'⟩
        · skip
          have HQ1 := hide (fun t => chan_impl xid (gr W1 t))
          rw [hb] at HQ1
          refine region_gr (by kernel_rfl) (by kernel_rfl) ?_
          repeat (go_big_quiet_step (first | (go_at_call 110; exact gr_call (unhide HQ1 _))))
          refine wpQuiet_nil ?_
          intro w' hw'
          have hk' := HKv.out.trans (Keeps.of_gr hw')
          clear hw'
          go_wp2_with fail
          go_roundw
          case rel => exact ⟨k + 1, by omega, by go_num, fun j h => by
                        by_cases e : j = k
                        · subst e; rw [HV.out]; exact hb
                        · exact HG.out j (by omega), hk'⟩
          case measure => simp [intOf]; omega
      · have h0 : decide (0 < k) = true := by simp; omega
        obtain ⟨m, hm⟩ : ∃ m, k = m + 1 := ⟨k - 1, by omega⟩
        have hml : m < C.length := by omega
        obtain ⟨b', off', ea', p0, -, -, -, -, -, -⟩ := chs_at (HC.out.kept HKr.out) m hml
        have ea2 := Option.some.inj ea'
        injection ea2 with e1 e2
        subst e1 e2
        clear ea'
        have HV : Hid (idAt C k = (chB C[k].id && decide (C[m].id < C[k].id))) := by
          show _ = _
          subst hm; exact idAt_succ hlt
        have hi1 : (k : Int) - 1 = (m : Int) := by omega
        have hi2 : IntKind.i64.wrap (m : Int) = (m : Int) := by rw [IntKind.wrap_i64]; omega
        have hi3 : IntKind.i64.wrap ((k : Int) - 1) = (m : Int) := by rw [hi1]; exact hi2
        clear hk0 hm
        generalize C[k] = x at *
        generalize C[m].id = y at *
        obtain ⟨xid, xsz, xlo, xre, xba, xpp, xsc⟩ := x
        dsimp only at c0 c1 c2 c3 c4 c5 c6 HV
        go_wp2_with fail
        replace HA := hide (unhide HA ⟨xid, xsz, xlo, xre, xba, xpp, xsc⟩)
        dsimp only at HA
        have HKv := hide (HKr.out.trans (Keeps.alloc (Keeps.refl wr) (.cells #[.int .i64 xid, .int .i64 xsz, .int .i64 xlo, .int .i64 xre, .int .i64 xba, .int .i64 xpp, .int .i64 xsc] 97)))
        replace p0 := (Keeps.alloc (Keeps.refl wr) (.cells #[.int .i64 xid, .int .i64 xsz, .int .i64 xlo, .int .i64 xre, .int .i64 xba, .int .i64 xpp, .int .i64 xsc] 97)).cell p0
        generalize wr.alloc (.cells #[.int .i64 xid, .int .i64 xsz, .int .i64 xlo, .int .i64 xre, .int .i64 xba, .int .i64 xpp, .int .i64 xsc] 97) = W1 at *
        have g0 : ∀ t, (gr W1 t).cell? ⟨wr.heap.size, 0, none⟩ = some (.int .i64 xid) := fun t => (unhide HA _ (gr_keeps W1 t)).1
        have g1 := gr_cell p0
        cases hb : chB xid
        · skip
          have HQ1 := hide (fun t => chan_impl xid (gr W1 t))
          rw [hb] at HQ1
          refine region_gr (by kernel_rfl) (by kernel_rfl) ?_
          repeat (go_big_quiet_step (first | (go_at_call 110; exact gr_call (unhide HQ1 _))))
          refine wpQuiet_nil ?_
          intro w' hw'
          have hk' := HKv.out.trans (Keeps.of_gr hw')
          clear hw'
          go_wp2_with fail
          go_ret
          exact ⟨ret_b (idsB_no hlt (by rw [HV.out, hb]; rfl)).symm, hk'⟩
        by_cases hy : y < xid
        · have HY := hide hy
          have HQ1 := hide (fun t => chan_impl xid (gr W1 t))
          rw [hb] at HQ1
          refine region_gr (by kernel_rfl) (by kernel_rfl) ?_
          repeat (go_big_quiet_step (first | (go_at_call 110; exact gr_call (unhide HQ1 _))))
          refine wpQuiet_nil ?_
          intro w' hw'
          have hk' := HKv.out.trans (Keeps.of_gr hw')
          clear hw'
          go_wp2_with fail
          go_roundw
          case rel => exact ⟨k + 1, by omega, by go_num, fun j h => by
                        by_cases e : j = k
                        · subst e; rw [HV.out, hb]; simpa using HY.out
                        · exact HG.out j (by omega), hk'⟩
          case measure => simp [intOf]; omega
        · have HY := hide hy
          have HQ1 := hide (fun t => chan_impl xid (gr W1 t))
          rw [hb] at HQ1
          refine region_gr (by kernel_rfl) (by kernel_rfl) ?_
          repeat (go_big_quiet_step (first | (go_at_call 110; exact gr_call (unhide HQ1 _))))
          refine wpQuiet_nil ?_
          intro w' hw'
          have hk' := HKv.out.trans (Keeps.of_gr hw')
          clear hw'
          go_wp2_with fail
          go_ret
          exact ⟨ret_b (idsB_no hlt (by rw [HV.out, hb]; simpa using HY.out)).symm, hk'⟩
    · have HR : Hid (idsB C = true) := idsB_yes (fun k hk' => HG.out k (by omega))
      go_wp2_with fail
      go_ret
      exact ⟨ret_b HR.out.symm, HKr.out⟩
end Go.Proofs.Ytphabdjhmahemaa
