/- SameBook of the program and of the model. -/
import Derived.Test.YtphabdjhmahemaaBkF
import Derived.Test.YtphabdjhmahemaaBsD
import Derived.Laws.StructEq
import Derived.Deep.Cut
namespace Go.Proofs.Ytphabdjhmahemaa
open Go.RowKit Go.Deep
set_option linter.unusedVariables false
set_option linter.unusedSimpArgs false
set_option maxRecDepth 10000
theorem run_eqC (xid yid xsz ysz xlo ylo xre yre xba yba xpp ypp xsc ysc : Int) (w : World) : (Op.equalIn 10000 97 (.agg #[.int .i64 xid, .int .i64 xsz, .int .i64 xlo, .int .i64 xre, .int .i64 xba, .int .i64 xpp, .int .i64 xsc]) (.agg #[.int .i64 yid, .int .i64 ysz, .int .i64 ylo, .int .i64 yre, .int .i64 yba, .int .i64 ypp, .int .i64 ysc])).run Try.prog w = .ok (xid == yid && xsz == ysz && xlo == ylo && xre == yre && xba == yba && xpp == ypp && xsc == ysc) w := by
  have u3 := Try.underlying3
  have a3 := Try.isAgg3
  have z3 := Try.sizeOf3
  rw [show (10000 : Nat) = 9999 + 1 from rfl, run_equalIn_agg w 9999 97 _ _ (by kernel_rfl) Try.stoodInHeld97]
  simp only [Program.fieldsOf, Try.underlying97]
  go_simp
  by_cases hid : xid = yid
  rotate_left
  · simp [hid]
  subst hid
  by_cases hsz : xsz = ysz
  rotate_left
  · simp [hsz]
  subst hsz
  by_cases hlo : xlo = ylo
  rotate_left
  · simp [hlo]
  subst hlo
  by_cases hre : xre = yre
  rotate_left
  · simp [hre]
  subst hre
  by_cases hba : xba = yba
  rotate_left
  · simp [hba]
  subst hba
  by_cases hpp : xpp = ypp
  rotate_left
  · simp [hpp]
  subst hpp
  by_cases hsc : xsc = ysc
  rotate_left
  · simp [hsc]
  subst hsc
  simp
set_option maxHeartbeats 4000000 in
theorem eqC_impl (a a' : Option Addr) (cap cap' : Nat) (L M : List Chn) (w : World) (hc : Cells w a (chs L)) (hc' : Cells w a' (chs M)) (hl : L.length ≤ 1048576) (hl' : M.length ≤ 1048576) :
    Calls Try.prog 59 #[.slice a L.length cap, .slice a' M.length cap'] w fun e w' => ∃ r : Bool, e = .returned (.bool r) ∧ (r = true ↔ L = M) ∧ Keeps w w' := by
  have HC := hide hc
  have HC' := hide hc'
  clear hc hc'
  by_cases hlen : L.length = M.length
  rotate_left
  · have HV : Hid (L ≠ M) := fun h => hlen (by rw [h])
    have hne : ((L.length : Int) != (M.length : Int)) = true := by simp; omega
    go_enter Try.func59, Try.ntmps59
    go_wp2_with fail
    go_ret
    exact ⟨false, rfl, by simp [HV.out], Keeps.refl _⟩
  have hne : ((L.length : Int) != (M.length : Int)) = false := by simp [hlen]
  have HLN : Hid (L.length = M.length) := hlen
  clear hlen
  go_enter Try.func59, Try.ntmps59
  go_wp2_with fail
  clear hne
  go_loopw [13] (fun y w1 => ∃ k : Nat, k ≤ L.length ∧ y = .int .i64 (k : Int) ∧ Hid (L.take k = M.take k) ∧ Keeps w w1) (fun y _ => L.length - (intOf y).toNat)
  case atStart => exact ⟨0, by omega, rfl, rfl, Keeps.refl _⟩
  case round =>
    obtain ⟨k, hk, rfl, HG, hkw⟩ := hrel
    by_cases hlt : k < L.length
    · have hlt' : k < M.length := by rw [← HLN.out]; exact hlt
      obtain ⟨b, off, ea, c0, c1, c2, c3, c4, c5, c6⟩ := chs_at (HC.out.kept hkw) k hlt
      obtain ⟨b', off', ea', d0, d1, d2, d3, d4, d5, d6⟩ := chs_at (HC'.out.kept hkw) k hlt'
      have HEA := hide ea
      have HEA' := hide ea'
      clear ea ea'
      obtain rfl := HEA.out
      obtain rfl := HEA'.out
      have HN : Hid (L[k] ≠ M[k] → L ≠ M) := fun h e => h (by subst e; rfl)
      have HY : Hid (L[k] = M[k] → L.take (k + 1) = M.take (k + 1)) := fun h => by rw [List.take_succ_eq_append_getElem hlt, List.take_succ_eq_append_getElem hlt', h, HG.out]
      have g0 := gr_cell c0
      have i0 := gr_cell d0
      have g1 := gr_cell c1
      have i1 := gr_cell d1
      have g2 := gr_cell c2
      have i2 := gr_cell d2
      have g3 := gr_cell c3
      have i3 := gr_cell d3
      have g4 := gr_cell c4
      have i4 := gr_cell d4
      have g5 := gr_cell c5
      have i5 := gr_cell d5
      have g6 := gr_cell c6
      have i6 := gr_cell d6
      by_cases he : L[k] = M[k]
      · have HS := hide (HY.out he)
        clear HN HY
        generalize L[k] = x at *
        generalize M[k] = z at *
        subst he
        obtain ⟨xid, xsz, xlo, xre, xba, xpp, xsc⟩ := x
        have q0 := Try.eqGuardType97
        have q1 := run_eqC xid xid xsz xsz xlo xlo xre xre xba xba xpp xpp xsc xsc 
        simp only [beq_self_eq_true, Bool.and_self] at q1
        dsimp only at c0 d0 g0 i0 c1 d1 g1 i1 c2 d2 g2 i2 c3 d3 g3 i3 c4 d4 g4 i4 c5 d5 g5 i5 c6 d6 g6 i6
        go_wp2_with fail
        refine region_gr (by kernel_rfl) (by kernel_rfl) ?_
        repeat (go_big_quiet_step (fail))
        refine wpQuiet_nil ?_
        intro w' hw'
        have hk' := hkw.trans (Keeps.of_gr hw')
        clear hw'
        go_wp2_with fail
        go_roundw
        case rel => exact ⟨k + 1, by omega, by go_num, HS, hk'⟩
        case measure => simp [intOf]; omega
      · have HV := hide (HN.out he)
        clear HN HY
        generalize L[k] = x at *
        generalize M[k] = z at *
        obtain ⟨xid, xsz, xlo, xre, xba, xpp, xsc⟩ := x
        obtain ⟨yid, ysz, ylo, yre, yba, ypp, ysc⟩ := z
        dsimp only at c0 d0 g0 i0 c1 d1 g1 i1 c2 d2 g2 i2 c3 d3 g3 i3 c4 d4 g4 i4 c5 d5 g5 i5 c6 d6 g6 i6
        have q0 := Try.eqGuardType97
        have q1 := run_eqC xid yid xsz ysz xlo ylo xre yre xba yba xpp ypp xsc ysc 
        have q2 : (xid == yid && xsz == ysz && xlo == ylo && xre == yre && xba == yba && xpp == ypp && xsc == ysc) = false := by
          rw [Bool.eq_false_iff]
          intro h
          simp only [Bool.and_eq_true, beq_iff_eq] at h
          exact he (by simp [h])
        rw [q2] at q1
        clear q2 he
        go_wp2_with fail
        refine region_gr (by kernel_rfl) (by kernel_rfl) ?_
        repeat (go_big_quiet_step (fail))
        refine wpQuiet_nil ?_
        intro w' hw'
        have hk' := hkw.trans (Keeps.of_gr hw')
        clear hw'
        go_wp2_with fail
        go_ret
        exact ⟨false, rfl, by simp [HV.out], hk'⟩
    · have HV : Hid (L = M) := by
        have := HG.out
        have h2 := HLN.out
        rwa [List.take_of_length_le (by omega), List.take_of_length_le (by omega)] at this
      go_wp2_with fail
      go_ret
      exact ⟨true, rfl, by simp [HV.out], hkw⟩
theorem run_eqH (xky yky xinn yinn xout yout xai yai xao yao xag yag : Int) (xkp ykp : Bool) (w : World) : (Op.equalIn 10000 99 (.agg #[.int .i64 xky, .int .i64 xinn, .int .i64 xout, .int .i64 xai, .int .i64 xao, .bool xkp, .int .i64 xag]) (.agg #[.int .i64 yky, .int .i64 yinn, .int .i64 yout, .int .i64 yai, .int .i64 yao, .bool ykp, .int .i64 yag])).run Try.prog w = .ok (xky == yky && xinn == yinn && xout == yout && xai == yai && xao == yao && xkp == ykp && xag == yag) w := by
  have u3 := Try.underlying3
  have a3 := Try.isAgg3
  have z3 := Try.sizeOf3
  have u4 := Try.underlying4
  have a4 := Try.isAgg4
  have z4 := Try.sizeOf4
  rw [show (10000 : Nat) = 9999 + 1 from rfl, run_equalIn_agg w 9999 99 _ _ (by kernel_rfl) Try.stoodInHeld99]
  simp only [Program.fieldsOf, Try.underlying99]
  go_simp
  by_cases hky : xky = yky
  rotate_left
  · simp [hky]
  subst hky
  by_cases hinn : xinn = yinn
  rotate_left
  · simp [hinn]
  subst hinn
  by_cases hout : xout = yout
  rotate_left
  · simp [hout]
  subst hout
  by_cases hai : xai = yai
  rotate_left
  · simp [hai]
  subst hai
  by_cases hao : xao = yao
  rotate_left
  · simp [hao]
  subst hao
  by_cases hkp : xkp = ykp
  rotate_left
  · simp [hkp]
  subst hkp
  by_cases hag : xag = yag
  rotate_left
  · simp [hag]
  subst hag
  simp
set_option maxHeartbeats 4000000 in
theorem eqH_impl (a a' : Option Addr) (cap cap' : Nat) (L M : List Htl) (w : World) (hc : Cells w a (hts L)) (hc' : Cells w a' (hts M)) (hl : L.length ≤ 1048576) (hl' : M.length ≤ 1048576) :
    Calls Try.prog 60 #[.slice a L.length cap, .slice a' M.length cap'] w fun e w' => ∃ r : Bool, e = .returned (.bool r) ∧ (r = true ↔ L = M) ∧ Keeps w w' := by
  have HC := hide hc
  have HC' := hide hc'
  clear hc hc'
  by_cases hlen : L.length = M.length
  rotate_left
  · have HV : Hid (L ≠ M) := fun h => hlen (by rw [h])
    have hne : ((L.length : Int) != (M.length : Int)) = true := by simp; omega
    go_enter Try.func60, Try.ntmps60
    go_wp2_with fail
    go_ret
    exact ⟨false, rfl, by simp [HV.out], Keeps.refl _⟩
  have hne : ((L.length : Int) != (M.length : Int)) = false := by simp [hlen]
  have HLN : Hid (L.length = M.length) := hlen
  clear hlen
  go_enter Try.func60, Try.ntmps60
  go_wp2_with fail
  clear hne
  go_loopw [13] (fun y w1 => ∃ k : Nat, k ≤ L.length ∧ y = .int .i64 (k : Int) ∧ Hid (L.take k = M.take k) ∧ Keeps w w1) (fun y _ => L.length - (intOf y).toNat)
  case atStart => exact ⟨0, by omega, rfl, rfl, Keeps.refl _⟩
  case round =>
    obtain ⟨k, hk, rfl, HG, hkw⟩ := hrel
    by_cases hlt : k < L.length
    · have hlt' : k < M.length := by rw [← HLN.out]; exact hlt
      obtain ⟨b, off, ea, c0, c1, c2, c3, c4, c5, c6⟩ := hts_at (HC.out.kept hkw) k hlt
      obtain ⟨b', off', ea', d0, d1, d2, d3, d4, d5, d6⟩ := hts_at (HC'.out.kept hkw) k hlt'
      have HEA := hide ea
      have HEA' := hide ea'
      clear ea ea'
      obtain rfl := HEA.out
      obtain rfl := HEA'.out
      have HN : Hid (L[k] ≠ M[k] → L ≠ M) := fun h e => h (by subst e; rfl)
      have HY : Hid (L[k] = M[k] → L.take (k + 1) = M.take (k + 1)) := fun h => by rw [List.take_succ_eq_append_getElem hlt, List.take_succ_eq_append_getElem hlt', h, HG.out]
      have g0 := gr_cell c0
      have i0 := gr_cell d0
      have g1 := gr_cell c1
      have i1 := gr_cell d1
      have g2 := gr_cell c2
      have i2 := gr_cell d2
      have g3 := gr_cell c3
      have i3 := gr_cell d3
      have g4 := gr_cell c4
      have i4 := gr_cell d4
      have g5 := gr_cell c5
      have i5 := gr_cell d5
      have g6 := gr_cell c6
      have i6 := gr_cell d6
      by_cases he : L[k] = M[k]
      · have HS := hide (HY.out he)
        clear HN HY
        generalize L[k] = x at *
        generalize M[k] = z at *
        subst he
        obtain ⟨xky, xinn, xout, xai, xao, xkp, xag⟩ := x
        have q0 := Try.eqGuardType99
        have q1 := run_eqH xky xky xinn xinn xout xout xai xai xao xao xag xag xkp xkp
        simp only [beq_self_eq_true, Bool.and_self] at q1
        dsimp only at c0 d0 g0 i0 c1 d1 g1 i1 c2 d2 g2 i2 c3 d3 g3 i3 c4 d4 g4 i4 c5 d5 g5 i5 c6 d6 g6 i6
        go_wp2_with fail
        refine region_gr (by kernel_rfl) (by kernel_rfl) ?_
        repeat (go_big_quiet_step (fail))
        refine wpQuiet_nil ?_
        intro w' hw'
        have hk' := hkw.trans (Keeps.of_gr hw')
        clear hw'
        go_wp2_with fail
        go_roundw
        case rel => exact ⟨k + 1, by omega, by go_num, HS, hk'⟩
        case measure => simp [intOf]; omega
      · have HV := hide (HN.out he)
        clear HN HY
        generalize L[k] = x at *
        generalize M[k] = z at *
        obtain ⟨xky, xinn, xout, xai, xao, xkp, xag⟩ := x
        obtain ⟨yky, yinn, yout, yai, yao, ykp, yag⟩ := z
        dsimp only at c0 d0 g0 i0 c1 d1 g1 i1 c2 d2 g2 i2 c3 d3 g3 i3 c4 d4 g4 i4 c5 d5 g5 i5 c6 d6 g6 i6
        have q0 := Try.eqGuardType99
        have q1 := run_eqH xky yky xinn yinn xout yout xai yai xao yao xag yag xkp ykp
        have q2 : (xky == yky && xinn == yinn && xout == yout && xai == yai && xao == yao && xkp == ykp && xag == yag) = false := by
          rw [Bool.eq_false_iff]
          intro h
          simp only [Bool.and_eq_true, beq_iff_eq] at h
          exact he (by simp [h])
        rw [q2] at q1
        clear q2 he
        go_wp2_with fail
        refine region_gr (by kernel_rfl) (by kernel_rfl) ?_
        repeat (go_big_quiet_step (fail))
        refine wpQuiet_nil ?_
        intro w' hw'
        have hk' := hkw.trans (Keeps.of_gr hw')
        clear hw'
        go_wp2_with fail
        go_ret
        exact ⟨false, rfl, by simp [HV.out], hk'⟩
    · have HV : Hid (L = M) := by
        have := HG.out
        have h2 := HLN.out
        rwa [List.take_of_length_le (by omega), List.take_of_length_le (by omega)] at this
      go_wp2_with fail
      go_ret
      exact ⟨true, rfl, by simp [HV.out], hkw⟩
theorem run_eqR (xky yky xfr yfr xto yto xam yam xfe yfe : Int) (w : World) : (Op.equalIn 10000 101 (.agg #[.int .i64 xky, .int .i64 xfr, .int .i64 xto, .int .i64 xam, .int .i64 xfe]) (.agg #[.int .i64 yky, .int .i64 yfr, .int .i64 yto, .int .i64 yam, .int .i64 yfe])).run Try.prog w = .ok (xky == yky && xfr == yfr && xto == yto && xam == yam && xfe == yfe) w := by
  have u3 := Try.underlying3
  have a3 := Try.isAgg3
  have z3 := Try.sizeOf3
  rw [show (10000 : Nat) = 9999 + 1 from rfl, run_equalIn_agg w 9999 101 _ _ (by kernel_rfl) Try.stoodInHeld101]
  simp only [Program.fieldsOf, Try.underlying101]
  go_simp
  by_cases hky : xky = yky
  rotate_left
  · simp [hky]
  subst hky
  by_cases hfr : xfr = yfr
  rotate_left
  · simp [hfr]
  subst hfr
  by_cases hto : xto = yto
  rotate_left
  · simp [hto]
  subst hto
  by_cases ham : xam = yam
  rotate_left
  · simp [ham]
  subst ham
  by_cases hfe : xfe = yfe
  rotate_left
  · simp [hfe]
  subst hfe
  simp
set_option maxHeartbeats 4000000 in
theorem eqR_impl (a a' : Option Addr) (cap cap' : Nat) (L M : List Crc) (w : World) (hc : Cells w a (crs L)) (hc' : Cells w a' (crs M)) (hl : L.length ≤ 1048576) (hl' : M.length ≤ 1048576) :
    Calls Try.prog 61 #[.slice a L.length cap, .slice a' M.length cap'] w fun e w' => ∃ r : Bool, e = .returned (.bool r) ∧ (r = true ↔ L = M) ∧ Keeps w w' := by
  have HC := hide hc
  have HC' := hide hc'
  clear hc hc'
  by_cases hlen : L.length = M.length
  rotate_left
  · have HV : Hid (L ≠ M) := fun h => hlen (by rw [h])
    have hne : ((L.length : Int) != (M.length : Int)) = true := by simp; omega
    go_enter Try.func61, Try.ntmps61
    go_wp2_with fail
    go_ret
    exact ⟨false, rfl, by simp [HV.out], Keeps.refl _⟩
  have hne : ((L.length : Int) != (M.length : Int)) = false := by simp [hlen]
  have HLN : Hid (L.length = M.length) := hlen
  clear hlen
  go_enter Try.func61, Try.ntmps61
  go_wp2_with fail
  clear hne
  go_loopw [13] (fun y w1 => ∃ k : Nat, k ≤ L.length ∧ y = .int .i64 (k : Int) ∧ Hid (L.take k = M.take k) ∧ Keeps w w1) (fun y _ => L.length - (intOf y).toNat)
  case atStart => exact ⟨0, by omega, rfl, rfl, Keeps.refl _⟩
  case round =>
    obtain ⟨k, hk, rfl, HG, hkw⟩ := hrel
    by_cases hlt : k < L.length
    · have hlt' : k < M.length := by rw [← HLN.out]; exact hlt
      obtain ⟨b, off, ea, c0, c1, c2, c3, c4⟩ := crs_at (HC.out.kept hkw) k hlt
      obtain ⟨b', off', ea', d0, d1, d2, d3, d4⟩ := crs_at (HC'.out.kept hkw) k hlt'
      have HEA := hide ea
      have HEA' := hide ea'
      clear ea ea'
      obtain rfl := HEA.out
      obtain rfl := HEA'.out
      have HN : Hid (L[k] ≠ M[k] → L ≠ M) := fun h e => h (by subst e; rfl)
      have HY : Hid (L[k] = M[k] → L.take (k + 1) = M.take (k + 1)) := fun h => by rw [List.take_succ_eq_append_getElem hlt, List.take_succ_eq_append_getElem hlt', h, HG.out]
      have g0 := gr_cell c0
      have i0 := gr_cell d0
      have g1 := gr_cell c1
      have i1 := gr_cell d1
      have g2 := gr_cell c2
      have i2 := gr_cell d2
      have g3 := gr_cell c3
      have i3 := gr_cell d3
      have g4 := gr_cell c4
      have i4 := gr_cell d4
      by_cases he : L[k] = M[k]
      · have HS := hide (HY.out he)
        clear HN HY
        generalize L[k] = x at *
        generalize M[k] = z at *
        subst he
        obtain ⟨xky, xfr, xto, xam, xfe⟩ := x
        have q0 := Try.eqGuardType101
        have q1 := run_eqR xky xky xfr xfr xto xto xam xam xfe xfe 
        simp only [beq_self_eq_true, Bool.and_self] at q1
        dsimp only at c0 d0 g0 i0 c1 d1 g1 i1 c2 d2 g2 i2 c3 d3 g3 i3 c4 d4 g4 i4
        go_wp2_with fail
        refine region_gr (by kernel_rfl) (by kernel_rfl) ?_
        repeat (go_big_quiet_step (fail))
        refine wpQuiet_nil ?_
        intro w' hw'
        have hk' := hkw.trans (Keeps.of_gr hw')
        clear hw'
        go_wp2_with fail
        go_roundw
        case rel => exact ⟨k + 1, by omega, by go_num, HS, hk'⟩
        case measure => simp [intOf]; omega
      · have HV := hide (HN.out he)
        clear HN HY
        generalize L[k] = x at *
        generalize M[k] = z at *
        obtain ⟨xky, xfr, xto, xam, xfe⟩ := x
        obtain ⟨yky, yfr, yto, yam, yfe⟩ := z
        dsimp only at c0 d0 g0 i0 c1 d1 g1 i1 c2 d2 g2 i2 c3 d3 g3 i3 c4 d4 g4 i4
        have q0 := Try.eqGuardType101
        have q1 := run_eqR xky yky xfr yfr xto yto xam yam xfe yfe 
        have q2 : (xky == yky && xfr == yfr && xto == yto && xam == yam && xfe == yfe) = false := by
          rw [Bool.eq_false_iff]
          intro h
          simp only [Bool.and_eq_true, beq_iff_eq] at h
          exact he (by simp [h])
        rw [q2] at q1
        clear q2 he
        go_wp2_with fail
        refine region_gr (by kernel_rfl) (by kernel_rfl) ?_
        repeat (go_big_quiet_step (fail))
        refine wpQuiet_nil ?_
        intro w' hw'
        have hk' := hkw.trans (Keeps.of_gr hw')
        clear hw'
        go_wp2_with fail
        go_ret
        exact ⟨false, rfl, by simp [HV.out], hk'⟩
    · have HV : Hid (L = M) := by
        have := HG.out
        have h2 := HLN.out
        rwa [List.take_of_length_le (by omega), List.take_of_length_le (by omega)] at this
      go_wp2_with fail
      go_ret
      exact ⟨true, rfl, by simp [HV.out], hkw⟩
/-- The same book, and a right one. -/
def sameB (A B : Bk) : Prop := bookB A = true ∧ bookB B = true ∧ A = B
set_option maxHeartbeats 8000000 in
theorem same_impl (A B : Bo) (w : World) (hm : Mem w A.segs) (hm' : Mem w B.segs) (hl : A.len) (hl' : B.len) : Calls Try.prog 27 #[A.v, B.v] w fun e w' => ∃ r : Bool, e = .returned (.bool r) ∧ (r = true ↔ sameB A.d B.d) ∧ Keeps w w' := by
  have HOA := hide (fun w' (hk : Keeps w w') => bookok_impl A w' (hm.kept hk) hl)
  have HOB := hide (fun w' (hk : Keeps w w') => bookok_impl B w' (hm'.kept hk) hl')
  have HEC := hide (fun w' (hk : Keeps w w') => eqC_impl A.ca B.ca A.cc B.cc A.C B.C w' (Bo.memC (hm.kept hk)) (Bo.memC (hm'.kept hk)) hl.1 hl'.1)
  have HEH := hide (fun w' (hk : Keeps w w') => eqH_impl A.ha B.ha A.hc B.hc A.Hs B.Hs w' (Bo.memH (hm.kept hk)) (Bo.memH (hm'.kept hk)) hl.2.1 hl'.2.1)
  have HER := hide (fun w' (hk : Keeps w w') => eqR_impl A.ra B.ra A.rc B.rc A.R B.R w' (Bo.memR (hm.kept hk)) (Bo.memR (hm'.kept hk)) hl.2.2 hl'.2.2)
  obtain ⟨tk, nx, wa, ca, cc, C, ha, hc, Hs, ra, rc, R⟩ := A
  obtain ⟨tk2, nx2, wa2, ca2, cc2, C2, ha2, hc2, Hs2, ra2, rc2, R2⟩ := B
  have HM := hide hm
  have HM' := hide hm'
  have HL := hide hl
  have HL' := hide hl'
  have HBA := hide (book_box ⟨tk, nx, wa, ca, cc, C, ha, hc, Hs, ra, rc, R⟩ w 67)
  have HK1 := hide (Keeps.alloc (Keeps.refl w) (.cells #[.int .i64 tk, .int .i64 nx, .int .i64 wa, .slice ca C.length cc, .slice ha Hs.length hc, .slice ra R.length rc] 67))
  have HBB := hide (book_box ⟨tk2, nx2, wa2, ca2, cc2, C2, ha2, hc2, Hs2, ra2, rc2, R2⟩ (w.alloc (.cells #[.int .i64 tk, .int .i64 nx, .int .i64 wa, .slice ca C.length cc, .slice ha Hs.length hc, .slice ra R.length rc] 67)) 67)
  rw [World.size_alloc] at HBB
  have HK2 := hide (Keeps.alloc (Keeps.refl (w.alloc (.cells #[.int .i64 tk, .int .i64 nx, .int .i64 wa, .slice ca C.length cc, .slice ha Hs.length hc, .slice ra R.length rc] 67))) (.cells #[.int .i64 tk2, .int .i64 nx2, .int .i64 wa2, .slice ca2 C2.length cc2, .slice ha2 Hs2.length hc2, .slice ra2 R2.length rc2] 67))
  dsimp only [Bo.v, Bo.d] at *
  clear hm hm' hl hl'
  go_enter Try.func27, Try.ntmps27
  go_upto_region 1 with fail
  generalize hW : (w.alloc (.cells #[.int .i64 tk, .int .i64 nx, .int .i64 wa, .slice ca C.length cc, .slice ha Hs.length hc, .slice ra R.length rc] 67)).alloc (.cells #[.int .i64 tk2, .int .i64 nx2, .int .i64 wa2, .slice ca2 C2.length cc2, .slice ha2 Hs2.length hc2, .slice ra2 R2.length rc2] 67) = W0 at *
  replace HBA := hide (HBA.out.kept HK2.out)
  replace HK1 := hide (HK1.out.trans HK2.out)
  clear hW HK2
  have HKc := hide (Keeps.refl W0)
  obtain ⟨e0, e1, e2, e3, e4, e5⟩ := HBA.out.kept HKc.out
  obtain ⟨f0, f1, f2, f3, f4, f5⟩ := HBB.out.kept HKc.out
  dsimp only at e0 e1 e2 e3 e4 e5 f0 f1 f2 f3 f4 f5
  go_wp2_with fail
  refine (unhide HOA _ (HK1.out.trans HKc.out)).mono ?_
  rintro e w1 ⟨rfl, hk⟩
  replace HKc := hide (HKc.out.trans hk)
  clear hk
  clear e0 e1 e2 e3 e4 e5 f0 f1 f2 f3 f4 f5
  obtain ⟨e0, e1, e2, e3, e4, e5⟩ := HBA.out.kept HKc.out
  obtain ⟨f0, f1, f2, f3, f4, f5⟩ := HBB.out.kept HKc.out
  dsimp only at e0 e1 e2 e3 e4 e5 f0 f1 f2 f3 f4 f5
  cases hb0 : bookB ⟨tk, nx, wa, C, Hs, R⟩
  · go_wp2_with fail
    go_ret
    exact ⟨false, rfl, by simp [sameB, hb0], HK1.out.trans HKc.out⟩
  go_wp2_with fail
  refine (unhide HOB _ (HK1.out.trans HKc.out)).mono ?_
  rintro e w2 ⟨rfl, hk⟩
  replace HKc := hide (HKc.out.trans hk)
  clear hk
  clear e0 e1 e2 e3 e4 e5 f0 f1 f2 f3 f4 f5
  obtain ⟨e0, e1, e2, e3, e4, e5⟩ := HBA.out.kept HKc.out
  obtain ⟨f0, f1, f2, f3, f4, f5⟩ := HBB.out.kept HKc.out
  dsimp only at e0 e1 e2 e3 e4 e5 f0 f1 f2 f3 f4 f5
  cases hb1 : bookB ⟨tk2, nx2, wa2, C2, Hs2, R2⟩
  · go_wp2_with fail
    go_ret
    exact ⟨false, rfl, by simp [sameB, hb1], HK1.out.trans HKc.out⟩
  by_cases htk : tk = tk2
  rotate_left
  · have hn : (tk != tk2) = true := by simpa using htk
    go_wp2_with fail
    go_ret
    exact ⟨false, rfl, by simp [sameB, htk], HK1.out.trans HKc.out⟩
  have hntk : (tk != tk2) = false := by simpa using htk
  by_cases hnx : nx = nx2
  rotate_left
  · have hn : (nx != nx2) = true := by simpa using hnx
    go_wp2_with fail
    go_ret
    exact ⟨false, rfl, by simp [sameB, hnx], HK1.out.trans HKc.out⟩
  have hnnx : (nx != nx2) = false := by simpa using hnx
  by_cases hwa : wa = wa2
  rotate_left
  · have hn : (wa != wa2) = true := by simpa using hwa
    go_wp2_with fail
    go_ret
    exact ⟨false, rfl, by simp [sameB, hwa], HK1.out.trans HKc.out⟩
  have hnwa : (wa != wa2) = false := by simpa using hwa
  go_wp2_with fail
  refine (unhide HEC _ (HK1.out.trans HKc.out)).mono ?_
  rintro e w' ⟨rC, rfl, hrC, hk⟩
  replace HKc := hide (HKc.out.trans hk)
  clear hk
  clear e0 e1 e2 e3 e4 e5 f0 f1 f2 f3 f4 f5
  obtain ⟨e0, e1, e2, e3, e4, e5⟩ := HBA.out.kept HKc.out
  obtain ⟨f0, f1, f2, f3, f4, f5⟩ := HBB.out.kept HKc.out
  dsimp only at e0 e1 e2 e3 e4 e5 f0 f1 f2 f3 f4 f5
  cases rC
  · have hn : ¬ C = C2 := by simpa using hrC
    go_wp2_with fail
    go_ret
    exact ⟨false, rfl, by simp [sameB, hn], HK1.out.trans HKc.out⟩
  replace hrC : C = C2 := by simpa using hrC
  have HRC := hide hrC
  clear hrC
  go_wp2_with fail
  refine (unhide HEH _ (HK1.out.trans HKc.out)).mono ?_
  rintro e w' ⟨rH, rfl, hrH, hk⟩
  replace HKc := hide (HKc.out.trans hk)
  clear hk
  clear e0 e1 e2 e3 e4 e5 f0 f1 f2 f3 f4 f5
  obtain ⟨e0, e1, e2, e3, e4, e5⟩ := HBA.out.kept HKc.out
  obtain ⟨f0, f1, f2, f3, f4, f5⟩ := HBB.out.kept HKc.out
  dsimp only at e0 e1 e2 e3 e4 e5 f0 f1 f2 f3 f4 f5
  cases rH
  · have hn : ¬ Hs = Hs2 := by simpa using hrH
    go_wp2_with fail
    go_ret
    exact ⟨false, rfl, by simp [sameB, hn], HK1.out.trans HKc.out⟩
  replace hrH : Hs = Hs2 := by simpa using hrH
  have HRH := hide hrH
  clear hrH
  go_wp2_with fail
  refine (unhide HER _ (HK1.out.trans HKc.out)).mono ?_
  rintro e w' ⟨rR, rfl, hrR, hk⟩
  replace HKc := hide (HKc.out.trans hk)
  clear hk
  clear e0 e1 e2 e3 e4 e5 f0 f1 f2 f3 f4 f5
  obtain ⟨e0, e1, e2, e3, e4, e5⟩ := HBA.out.kept HKc.out
  obtain ⟨f0, f1, f2, f3, f4, f5⟩ := HBB.out.kept HKc.out
  dsimp only at e0 e1 e2 e3 e4 e5 f0 f1 f2 f3 f4 f5
  cases rR
  · have hn : ¬ R = R2 := by simpa using hrR
    go_wp2_with fail
    go_ret
    exact ⟨false, rfl, by simp [sameB, hn], HK1.out.trans HKc.out⟩
  replace hrR : R = R2 := by simpa using hrR
  have HRR := hide hrR
  clear hrR
  go_wp2_with fail
  go_ret
  exact ⟨true, rfl, by simp [sameB, hb0, hb1, htk, hnx, hwa, HRC.out, HRH.out, HRR.out], HK1.out.trans HKc.out⟩
set_option maxHeartbeats 16000000 in
theorem same_spec (A B : Bo) (w : World) (hm : Mem w A.segs) (hm' : Mem w B.segs) (hl : A.len) (hl' : B.len) : Calls Try.prog 25 #[A.v, B.v] w fun e w' => ∃ r : Bool, e = .returned (.bool r) ∧ (r = true ↔ sameB A.d B.d) ∧ Keeps w w' := by
  have HOA := hide (fun w' (hk : Keeps w w') => bookok_spec A w' (hm.kept hk) hl)
  have HOB := hide (fun w' (hk : Keeps w w') => bookok_spec B w' (hm'.kept hk) hl')
  obtain ⟨tk, nx, wa, ca, cc, C, ha, hc, Hs, ra, rc, R⟩ := A
  obtain ⟨tk2, nx2, wa2, ca2, cc2, C2, ha2, hc2, Hs2, ra2, rc2, R2⟩ := B
  have HM := hide hm
  have HM' := hide hm'
  have HL := hide hl
  have HL' := hide hl'
  have HBA := hide (book_box ⟨tk, nx, wa, ca, cc, C, ha, hc, Hs, ra, rc, R⟩ w 67)
  have HK1 := hide (Keeps.alloc (Keeps.refl w) (.cells #[.int .i64 tk, .int .i64 nx, .int .i64 wa, .slice ca C.length cc, .slice ha Hs.length hc, .slice ra R.length rc] 67))
  have HBB := hide (book_box ⟨tk2, nx2, wa2, ca2, cc2, C2, ha2, hc2, Hs2, ra2, rc2, R2⟩ (w.alloc (.cells #[.int .i64 tk, .int .i64 nx, .int .i64 wa, .slice ca C.length cc, .slice ha Hs.length hc, .slice ra R.length rc] 67)) 67)
  rw [World.size_alloc] at HBB
  have HK2 := hide (Keeps.alloc (Keeps.refl (w.alloc (.cells #[.int .i64 tk, .int .i64 nx, .int .i64 wa, .slice ca C.length cc, .slice ha Hs.length hc, .slice ra R.length rc] 67))) (.cells #[.int .i64 tk2, .int .i64 nx2, .int .i64 wa2, .slice ca2 C2.length cc2, .slice ha2 Hs2.length hc2, .slice ra2 R2.length rc2] 67))
  dsimp only [Bo.v, Bo.d] at *
  clear hm hm' hl hl'
  go_enter Try.func25, Try.ntmps25
  go_upto_region 1 with fail
  generalize hW : (w.alloc (.cells #[.int .i64 tk, .int .i64 nx, .int .i64 wa, .slice ca C.length cc, .slice ha Hs.length hc, .slice ra R.length rc] 67)).alloc (.cells #[.int .i64 tk2, .int .i64 nx2, .int .i64 wa2, .slice ca2 C2.length cc2, .slice ha2 Hs2.length hc2, .slice ra2 R2.length rc2] 67) = W0 at *
  replace HBA := hide (HBA.out.kept HK2.out)
  replace HK1 := hide (HK1.out.trans HK2.out)
  clear hW HK2
  have HKc := hide (Keeps.refl W0)
  obtain ⟨e0, e1, e2, e3, e4, e5⟩ := HBA.out.kept HKc.out
  obtain ⟨f0, f1, f2, f3, f4, f5⟩ := HBB.out.kept HKc.out
  dsimp only at e0 e1 e2 e3 e4 e5 f0 f1 f2 f3 f4 f5
  go_wp2_with fail
  refine (unhide HOA _ (HK1.out.trans HKc.out)).mono ?_
  rintro e w1 ⟨rfl, hk⟩
  replace HKc := hide (HKc.out.trans hk)
  clear hk
  clear e0 e1 e2 e3 e4 e5 f0 f1 f2 f3 f4 f5
  obtain ⟨e0, e1, e2, e3, e4, e5⟩ := HBA.out.kept HKc.out
  obtain ⟨f0, f1, f2, f3, f4, f5⟩ := HBB.out.kept HKc.out
  dsimp only at e0 e1 e2 e3 e4 e5 f0 f1 f2 f3 f4 f5
  cases hb0 : bookB ⟨tk, nx, wa, C, Hs, R⟩
  · go_wp2_with fail
    go_ret
    exact ⟨false, rfl, by simp [sameB, hb0], HK1.out.trans HKc.out⟩
  go_wp2_with fail
  refine (unhide HOB _ (HK1.out.trans HKc.out)).mono ?_
  rintro e w2 ⟨rfl, hk⟩
  replace HKc := hide (HKc.out.trans hk)
  clear hk
  clear e0 e1 e2 e3 e4 e5 f0 f1 f2 f3 f4 f5
  obtain ⟨e0, e1, e2, e3, e4, e5⟩ := HBA.out.kept HKc.out
  obtain ⟨f0, f1, f2, f3, f4, f5⟩ := HBB.out.kept HKc.out
  dsimp only at e0 e1 e2 e3 e4 e5 f0 f1 f2 f3 f4 f5
  cases hb1 : bookB ⟨tk2, nx2, wa2, C2, Hs2, R2⟩
  · go_wp2_with fail
    go_ret
    exact ⟨false, rfl, by simp [sameB, hb1], HK1.out.trans HKc.out⟩
  by_cases htk : tk = tk2
  rotate_left
  · have hn : (tk != tk2) = true := by simpa using htk
    go_wp2_with fail
    go_ret
    exact ⟨false, rfl, by simp [sameB, htk], HK1.out.trans HKc.out⟩
  have hntk : (tk != tk2) = false := by simpa using htk
  by_cases hnx : nx = nx2
  rotate_left
  · have hn : (nx != nx2) = true := by simpa using hnx
    go_wp2_with fail
    go_ret
    exact ⟨false, rfl, by simp [sameB, hnx], HK1.out.trans HKc.out⟩
  have hnnx : (nx != nx2) = false := by simpa using hnx
  by_cases hwa : wa = wa2
  rotate_left
  · have hn : (wa != wa2) = true := by simpa using hwa
    go_wp2_with fail
    go_ret
    exact ⟨false, rfl, by simp [sameB, hwa], HK1.out.trans HKc.out⟩
  have hnwa : (wa != wa2) = false := by simpa using hwa
  by_cases hlC : C.length = C2.length
  rotate_left
  · have hn : ((C.length : Int) != (C2.length : Int)) = true := by simp; omega
    have hn2 : ¬ C = C2 := fun h => hlC (by rw [h])
    clear hlC
    go_wp2_with fail
    go_ret
    exact ⟨false, rfl, by simp [sameB, hn2], HK1.out.trans HKc.out⟩
  have hnC : ((C.length : Int) != (C2.length : Int)) = false := by simp [hlC]
  have HLNC : Hid (C.length = C2.length) := hlC
  clear hlC
  by_cases hlH : Hs.length = Hs2.length
  rotate_left
  · have hn : ((Hs.length : Int) != (Hs2.length : Int)) = true := by simp; omega
    have hn2 : ¬ Hs = Hs2 := fun h => hlH (by rw [h])
    clear hlH
    go_wp2_with fail
    go_ret
    exact ⟨false, rfl, by simp [sameB, hn2], HK1.out.trans HKc.out⟩
  have hnH : ((Hs.length : Int) != (Hs2.length : Int)) = false := by simp [hlH]
  have HLNH : Hid (Hs.length = Hs2.length) := hlH
  clear hlH
  by_cases hlR : R.length = R2.length
  rotate_left
  · have hn : ((R.length : Int) != (R2.length : Int)) = true := by simp; omega
    have hn2 : ¬ R = R2 := fun h => hlR (by rw [h])
    clear hlR
    go_wp2_with fail
    go_ret
    exact ⟨false, rfl, by simp [sameB, hn2], HK1.out.trans HKc.out⟩
  have hnR : ((R.length : Int) != (R2.length : Int)) = false := by simp [hlR]
  have HLNR : Hid (R.length = R2.length) := hlR
  clear hlR
  have l1 := HL.out.1
  have l2 := HL.out.2.1
  have l3 := HL.out.2.2
  dsimp only at l1 l2 l3
  go_wp2_with fail
  clear hnC hnH hnR hntk hnnx hnwa
  have HT : Hid (tk = tk2 ∧ nx = nx2 ∧ wa = wa2) := ⟨htk, hnx, hwa⟩
  clear htk hnx hwa
  go_loopw [67] (fun y w1 => ∃ k : Nat, k ≤ C.length ∧ y = .int .i64 (k : Int) ∧ Hid (C.take k = C2.take k) ∧ Hid (Keeps W0 w1)) (fun y _ => C.length - (intOf y).toNat)
  case atStart => exact ⟨0, by omega, rfl, rfl, HKc⟩
  case round =>
    clear HKc e0 e1 e2 e3 e4 e5 f0 f1 f2 f3 f4 f5
    obtain ⟨k, hk, rfl, HG, HKc⟩ := hrel
    obtain ⟨e0, e1, e2, e3, e4, e5⟩ := HBA.out.kept HKc.out
    obtain ⟨f0, f1, f2, f3, f4, f5⟩ := HBB.out.kept HKc.out
    dsimp only at e0 e1 e2 e3 e4 e5 f0 f1 f2 f3 f4 f5
    by_cases hlt : k < C.length
    · have hlt' : k < C2.length := by rw [← HLNC.out]; exact hlt
      obtain ⟨b, off, ea, c0, c1, c2, c3, c4, c5, c6⟩ := chs_at ((Bo.memC HM.out).kept (HK1.out.trans HKc.out)) k hlt
      obtain ⟨b', off', ea', d0, d1, d2, d3, d4, d5, d6⟩ := chs_at ((Bo.memC HM'.out).kept (HK1.out.trans HKc.out)) k hlt'
      have HEA := hide ea
      have HEA' := hide ea'
      clear ea ea'
      obtain rfl := HEA.out
      obtain rfl := HEA'.out
      have HN : Hid (C[k] ≠ C2[k] → C ≠ C2) := fun h e => h (by subst e; rfl)
      have HY : Hid (C[k] = C2[k] → C.take (k + 1) = C2.take (k + 1)) := fun h => by rw [List.take_succ_eq_append_getElem hlt, List.take_succ_eq_append_getElem hlt', h, HG.out]
      have g0 := gr_cell c0
      have i0 := gr_cell d0
      have g1 := gr_cell c1
      have i1 := gr_cell d1
      have g2 := gr_cell c2
      have i2 := gr_cell d2
      have g3 := gr_cell c3
      have i3 := gr_cell d3
      have g4 := gr_cell c4
      have i4 := gr_cell d4
      have g5 := gr_cell c5
      have i5 := gr_cell d5
      have g6 := gr_cell c6
      have i6 := gr_cell d6
      have ge := gr_cell e3
      have gf := gr_cell f3
      have q0 := Try.eqGuardType97
      by_cases he : C[k] = C2[k]
      · have HS := hide (HY.out he)
        clear HN HY
        generalize C[k] = x at *
        generalize C2[k] = z at *
        subst he
        obtain ⟨xid, xsz, xlo, xre, xba, xpp, xsc⟩ := x
        have q1 := run_eqC xid xid xsz xsz xlo xlo xre xre xba xba xpp xpp xsc xsc 
        simp only [beq_self_eq_true, Bool.and_self] at q1
        dsimp only at c0 d0 g0 i0 c1 d1 g1 i1 c2 d2 g2 i2 c3 d3 g3 i3 c4 d4 g4 i4 c5 d5 g5 i5 c6 d6 g6 i6
        go_wp2_with fail
        refine region_gr (by kernel_rfl) (by kernel_rfl) ?_
        repeat (go_big_quiet_step (fail))
        refine wpQuiet_nil ?_
        intro w' hw'
        have hk' := hide (HKc.out.trans (Keeps.of_gr hw'))
        clear hw'
        go_wp2_with fail
        go_roundw
        case rel => exact ⟨k + 1, by omega, by go_num, HS, hk'⟩
        case measure => simp [intOf]; omega
      · have HV := hide (HN.out he)
        clear HN HY
        generalize C[k] = x at *
        generalize C2[k] = z at *
        obtain ⟨xid, xsz, xlo, xre, xba, xpp, xsc⟩ := x
        obtain ⟨yid, ysz, ylo, yre, yba, ypp, ysc⟩ := z
        have q1 := run_eqC xid yid xsz ysz xlo ylo xre yre xba yba xpp ypp xsc ysc 
        dsimp only at c0 d0 g0 i0 c1 d1 g1 i1 c2 d2 g2 i2 c3 d3 g3 i3 c4 d4 g4 i4 c5 d5 g5 i5 c6 d6 g6 i6
        have q2 : (xid == yid && xsz == ysz && xlo == ylo && xre == yre && xba == yba && xpp == ypp && xsc == ysc) = false := by
          rw [Bool.eq_false_iff]
          intro h
          simp only [Bool.and_eq_true, beq_iff_eq] at h
          exact he (by simp [h])
        rw [q2] at q1
        clear q2 he
        go_wp2_with fail
        refine region_gr (by kernel_rfl) (by kernel_rfl) ?_
        repeat (go_big_quiet_step (fail))
        refine wpQuiet_nil ?_
        intro w' hw'
        have hk' := HKc.out.trans (Keeps.of_gr hw')
        clear hw'
        go_wp2_with fail
        go_ret
        exact ⟨false, rfl, by simp [sameB, HV.out], HK1.out.trans hk'⟩
    have HVC : Hid (C = C2) := by
      have := HG.out
      have h2 := HLNC.out
      rwa [List.take_of_length_le (by omega), List.take_of_length_le (by omega)] at this
    clear HG HLNC
    go_wp2_with fail
    go_loopw [85] (fun y w1 => ∃ k : Nat, k ≤ Hs.length ∧ y = .int .i64 (k : Int) ∧ Hid (Hs.take k = Hs2.take k) ∧ Hid (Keeps W0 w1)) (fun y _ => Hs.length - (intOf y).toNat)
    case atStart => exact ⟨0, by omega, rfl, rfl, HKc⟩
    case round =>
      clear HKc e0 e1 e2 e3 e4 e5 f0 f1 f2 f3 f4 f5
      obtain ⟨k, hk, rfl, HG, HKc⟩ := hrel
      obtain ⟨e0, e1, e2, e3, e4, e5⟩ := HBA.out.kept HKc.out
      obtain ⟨f0, f1, f2, f3, f4, f5⟩ := HBB.out.kept HKc.out
      dsimp only at e0 e1 e2 e3 e4 e5 f0 f1 f2 f3 f4 f5
      by_cases hlt : k < Hs.length
      · have hlt' : k < Hs2.length := by rw [← HLNH.out]; exact hlt
        obtain ⟨b, off, ea, c0, c1, c2, c3, c4, c5, c6⟩ := hts_at ((Bo.memH HM.out).kept (HK1.out.trans HKc.out)) k hlt
        obtain ⟨b', off', ea', d0, d1, d2, d3, d4, d5, d6⟩ := hts_at ((Bo.memH HM'.out).kept (HK1.out.trans HKc.out)) k hlt'
        have HEA := hide ea
        have HEA' := hide ea'
        clear ea ea'
        obtain rfl := HEA.out
        obtain rfl := HEA'.out
        have HN : Hid (Hs[k] ≠ Hs2[k] → Hs ≠ Hs2) := fun h e => h (by subst e; rfl)
        have HY : Hid (Hs[k] = Hs2[k] → Hs.take (k + 1) = Hs2.take (k + 1)) := fun h => by rw [List.take_succ_eq_append_getElem hlt, List.take_succ_eq_append_getElem hlt', h, HG.out]
        have g0 := gr_cell c0
        have i0 := gr_cell d0
        have g1 := gr_cell c1
        have i1 := gr_cell d1
        have g2 := gr_cell c2
        have i2 := gr_cell d2
        have g3 := gr_cell c3
        have i3 := gr_cell d3
        have g4 := gr_cell c4
        have i4 := gr_cell d4
        have g5 := gr_cell c5
        have i5 := gr_cell d5
        have g6 := gr_cell c6
        have i6 := gr_cell d6
        have ge := gr_cell e4
        have gf := gr_cell f4
        have q0 := Try.eqGuardType99
        by_cases he : Hs[k] = Hs2[k]
        · have HS := hide (HY.out he)
          clear HN HY
          generalize Hs[k] = x at *
          generalize Hs2[k] = z at *
          subst he
          obtain ⟨xky, xinn, xout, xai, xao, xkp, xag⟩ := x
          have q1 := run_eqH xky xky xinn xinn xout xout xai xai xao xao xag xag xkp xkp
          simp only [beq_self_eq_true, Bool.and_self] at q1
          dsimp only at c0 d0 g0 i0 c1 d1 g1 i1 c2 d2 g2 i2 c3 d3 g3 i3 c4 d4 g4 i4 c5 d5 g5 i5 c6 d6 g6 i6
          go_wp2_with fail
          refine region_gr (by kernel_rfl) (by kernel_rfl) ?_
          repeat (go_big_quiet_step (fail))
          refine wpQuiet_nil ?_
          intro w' hw'
          have hk' := hide (HKc.out.trans (Keeps.of_gr hw'))
          clear hw'
          go_wp2_with fail
          go_roundw
          case rel => exact ⟨k + 1, by omega, by go_num, HS, hk'⟩
          case measure => simp [intOf]; omega
        · have HV := hide (HN.out he)
          clear HN HY
          generalize Hs[k] = x at *
          generalize Hs2[k] = z at *
          obtain ⟨xky, xinn, xout, xai, xao, xkp, xag⟩ := x
          obtain ⟨yky, yinn, yout, yai, yao, ykp, yag⟩ := z
          have q1 := run_eqH xky yky xinn yinn xout yout xai yai xao yao xag yag xkp ykp
          dsimp only at c0 d0 g0 i0 c1 d1 g1 i1 c2 d2 g2 i2 c3 d3 g3 i3 c4 d4 g4 i4 c5 d5 g5 i5 c6 d6 g6 i6
          have q2 : (xky == yky && xinn == yinn && xout == yout && xai == yai && xao == yao && xkp == ykp && xag == yag) = false := by
            rw [Bool.eq_false_iff]
            intro h
            simp only [Bool.and_eq_true, beq_iff_eq] at h
            exact he (by simp [h])
          rw [q2] at q1
          clear q2 he
          go_wp2_with fail
          refine region_gr (by kernel_rfl) (by kernel_rfl) ?_
          repeat (go_big_quiet_step (fail))
          refine wpQuiet_nil ?_
          intro w' hw'
          have hk' := HKc.out.trans (Keeps.of_gr hw')
          clear hw'
          go_wp2_with fail
          go_ret
          exact ⟨false, rfl, by simp [sameB, HV.out], HK1.out.trans hk'⟩
      have HVH : Hid (Hs = Hs2) := by
        have := HG.out
        have h2 := HLNH.out
        rwa [List.take_of_length_le (by omega), List.take_of_length_le (by omega)] at this
      clear HG HLNH
      go_wp2_with fail
      go_loopw [103] (fun y w1 => ∃ k : Nat, k ≤ R.length ∧ y = .int .i64 (k : Int) ∧ Hid (R.take k = R2.take k) ∧ Hid (Keeps W0 w1)) (fun y _ => R.length - (intOf y).toNat)
      case atStart => exact ⟨0, by omega, rfl, rfl, HKc⟩
      case round =>
        clear HKc e0 e1 e2 e3 e4 e5 f0 f1 f2 f3 f4 f5
        obtain ⟨k, hk, rfl, HG, HKc⟩ := hrel
        obtain ⟨e0, e1, e2, e3, e4, e5⟩ := HBA.out.kept HKc.out
        obtain ⟨f0, f1, f2, f3, f4, f5⟩ := HBB.out.kept HKc.out
        dsimp only at e0 e1 e2 e3 e4 e5 f0 f1 f2 f3 f4 f5
        by_cases hlt : k < R.length
        · have hlt' : k < R2.length := by rw [← HLNR.out]; exact hlt
          obtain ⟨b, off, ea, c0, c1, c2, c3, c4⟩ := crs_at ((Bo.memR HM.out).kept (HK1.out.trans HKc.out)) k hlt
          obtain ⟨b', off', ea', d0, d1, d2, d3, d4⟩ := crs_at ((Bo.memR HM'.out).kept (HK1.out.trans HKc.out)) k hlt'
          have HEA := hide ea
          have HEA' := hide ea'
          clear ea ea'
          obtain rfl := HEA.out
          obtain rfl := HEA'.out
          have HN : Hid (R[k] ≠ R2[k] → R ≠ R2) := fun h e => h (by subst e; rfl)
          have HY : Hid (R[k] = R2[k] → R.take (k + 1) = R2.take (k + 1)) := fun h => by rw [List.take_succ_eq_append_getElem hlt, List.take_succ_eq_append_getElem hlt', h, HG.out]
          have g0 := gr_cell c0
          have i0 := gr_cell d0
          have g1 := gr_cell c1
          have i1 := gr_cell d1
          have g2 := gr_cell c2
          have i2 := gr_cell d2
          have g3 := gr_cell c3
          have i3 := gr_cell d3
          have g4 := gr_cell c4
          have i4 := gr_cell d4
          have ge := gr_cell e5
          have gf := gr_cell f5
          have q0 := Try.eqGuardType101
          by_cases he : R[k] = R2[k]
          · have HS := hide (HY.out he)
            clear HN HY
            generalize R[k] = x at *
            generalize R2[k] = z at *
            subst he
            obtain ⟨xky, xfr, xto, xam, xfe⟩ := x
            have q1 := run_eqR xky xky xfr xfr xto xto xam xam xfe xfe 
            simp only [beq_self_eq_true, Bool.and_self] at q1
            dsimp only at c0 d0 g0 i0 c1 d1 g1 i1 c2 d2 g2 i2 c3 d3 g3 i3 c4 d4 g4 i4
            go_wp2_with fail
            refine region_gr (by kernel_rfl) (by kernel_rfl) ?_
            repeat (go_big_quiet_step (fail))
            refine wpQuiet_nil ?_
            intro w' hw'
            have hk' := hide (HKc.out.trans (Keeps.of_gr hw'))
            clear hw'
            go_wp2_with fail
            go_roundw
            case rel => exact ⟨k + 1, by omega, by go_num, HS, hk'⟩
            case measure => simp [intOf]; omega
          · have HV := hide (HN.out he)
            clear HN HY
            generalize R[k] = x at *
            generalize R2[k] = z at *
            obtain ⟨xky, xfr, xto, xam, xfe⟩ := x
            obtain ⟨yky, yfr, yto, yam, yfe⟩ := z
            have q1 := run_eqR xky yky xfr yfr xto yto xam yam xfe yfe 
            dsimp only at c0 d0 g0 i0 c1 d1 g1 i1 c2 d2 g2 i2 c3 d3 g3 i3 c4 d4 g4 i4
            have q2 : (xky == yky && xfr == yfr && xto == yto && xam == yam && xfe == yfe) = false := by
              rw [Bool.eq_false_iff]
              intro h
              simp only [Bool.and_eq_true, beq_iff_eq] at h
              exact he (by simp [h])
            rw [q2] at q1
            clear q2 he
            go_wp2_with fail
            refine region_gr (by kernel_rfl) (by kernel_rfl) ?_
            repeat (go_big_quiet_step (fail))
            refine wpQuiet_nil ?_
            intro w' hw'
            have hk' := HKc.out.trans (Keeps.of_gr hw')
            clear hw'
            go_wp2_with fail
            go_ret
            exact ⟨false, rfl, by simp [sameB, HV.out], HK1.out.trans hk'⟩
        have HVR : Hid (R = R2) := by
          have := HG.out
          have h2 := HLNR.out
          rwa [List.take_of_length_le (by omega), List.take_of_length_le (by omega)] at this
        clear HG HLNR
        go_wp2_with fail
        go_ret
        exact ⟨true, rfl, by simp [sameB, hb0, hb1, HT.out, HVC.out, HVH.out, HVR.out], HK1.out.trans HKc.out⟩
end Go.Proofs.Ytphabdjhmahemaa
