/- FnNum: numbers are read as they were written, as bytes and as texts. -/
import Derived.Test.YtecjjkgdgmjgmaaDoorSent
import Derived.Test.YtecjjkgdgmjgmaaDoorNuM
import Derived.Test.YtecjjkgdgmjgmaaDoorCards
import Derived.Test.YtecjjkgdgmjgmaaDoorTie
import Derived.WalkKit
import Derived.ProofKit
import Derived.OpenShut
import Derived.ShutString
import Derived.LaidMore
import Derived.Stop.Joined
import Derived.SevenTiedAt
import Derived.ChangeOld
import Derived.Below
namespace Go.Proofs.YtecjjkgdgmjgmaaDoor.fnNum
open Go.ChangeShapes Go.WideShapes Go.ChangeAt Go.RowKit
open Go.ChangeMaps (open_string shut_string)
set_option linter.unusedVariables false
theorem own : ownKnob Tryd.prog.godebug = none := by kernel_rfl
theorem laidOut : laidOutB Tryd.prog = true := by kernel_rfl
theorem gRange : Tryd.prog.globalNamed "strconv.ErrRange" = some 4 := by kernel_rfl
theorem tRange : (Tryd.prog.globals[4]?).map (·.type) = some 56 := by kernel_rfl
theorem gSyntax : Tryd.prog.globalNamed "strconv.ErrSyntax" = some 3 := by kernel_rfl
theorem tSyntax : (Tryd.prog.globals[3]?).map (·.type) = some 56 := by kernel_rfl
theorem gGaveUp : Tryd.prog.globalNamed "loop.example/g00400/impl.errGaveUp" = some 1 := by kernel_rfl
theorem tGaveUp : (Tryd.prog.globals[1]?).map (·.type) = some 56 := by kernel_rfl
theorem door_met (os : Os) (args : Array Value) : laidMetH Tryd.prog Rows.fnNumRow.laid ((World.doorLaid Tryd.prog 89 os).forCall (fun _ _ => 0) ⟨#[], args, []⟩).memory :=
  laidMetH_of_parts3 (fuel := 8) (laidMet_of_run' 8 (by kernel_rfl) (by kernel_rfl)) (by kernel_rfl) (by kernel_rfl)

set_option maxRecDepth 100000 in
set_option maxHeartbeats 4000000 in
theorem walk (a : Option Addr) (len cap : Nat) (w : World) (hr : RowAt w.heap.size w a len) (ht : Tab w) (tR : TypeId) (pR : Value) (hR : w.var? Tryd.prog "strconv.ErrRange" = some #[.iface tR pR]) (tS : TypeId) (pS : Value) (hS : w.var? Tryd.prog "strconv.ErrSyntax" = some #[.iface tS pS]) (u1 : TypeId) (x1 : Value) (hg : w.cell? ⟨0, 0, none⟩ = some (.iface u1 x1)) (u : TypeId) (pv : Value) (hv : w.cell? ⟨1, 0, none⟩ = some (.iface u pv)) :
    Calls Tryd.prog 4 #[.slice a len cap] w fun e w' => e = .returned (.bool true) ∧ Keeps w w' := by
  have HV := hide hv
  have HT := hide ht
  have HR := hide hR
  have HS := hide hS
  have HG := hide hg
  have HRw := hide hr
  clear hv hr ht hR hS hg
  by_cases hl : 1048576 < len
  · go_enter Tryd.func4, Tryd.ntmps4
    go_wp2_with fail
    go_ret
    exact ⟨rfl, Keeps.refl _⟩
  · have HD := hide (draw_put a len cap w HRw.out (by omega))
    clear HRw
    go_enter Tryd.func4, Tryd.ntmps4
    go_wp2_with fail
    refine (unhide HD).mono ?_
    rintro x w1 ⟨⟨p, l, c, L, n, s, hl4, hn, hs1, hs8, rfl, HO⟩, hk1⟩
    obtain ⟨k, rfl⟩ := Int.eq_ofNat_of_zero_le (show 0 ≤ s by omega)
    have HK1 := hide hk1
    obtain ⟨rfl, ho⟩ := HO.out
    have HC := hide (OwnsB.read ho).1
    have HN := hide (OwnsB.read ho).2
    clear HD hk1 HO ho
    go_wp2_with fail
    refine (putnum_impl p c L n k w1 HC.out HN.out (by omega) hn).mono ?_
    rintro x w2 ⟨v, rfl, ho, hk2⟩
    have HO2 := hide ho
    have HK2 := hide (HK1.out.trans hk2)
    have HC2 := hide (HC.out.kept hk2)
    clear ho hk2 HC HK1
    go_wp2_with fail
    refine (putnum_spec p c L n k w2 HC2.out HN.out (by omega) hn).mono ?_
    rintro x w3 ⟨v', rfl, ho', hk3⟩
    have HO3 := hide (hk3.ownsB HO2.out)
    have HK3 := hide (HK2.out.trans hk3)
    clear ho' hk3 HO2 HK2 HC2 HN
    have HLp := hide (putL_len L n k (by omega))
    obtain ⟨a3, c3, rfl, _⟩ := Own.of_owns HO3.out
    have HTx : Hid (∀ w', Keeps w w' → Calls Tryd.prog 12 #[.int .i64 n] w' fun e w'' => e = .returned (.string ⟨(numT n).toArray⟩) ∧ Keeps w' w'') := fun w' h => num_impl n w' (HT.out.kept h)
    have HTn : Hid (∀ w', Keeps w w' → Calls Tryd.prog 13 #[.string ⟨(numT n).toArray⟩] w' fun e w'' => (∃ v b, Res (numT n) v b ∧ e = .returned (.tuple #[.int .i64 v, .bool b])) ∧ Keeps w' w'') := fun w' h => text_impl ⟨(numT n).toArray⟩ w' (by have := numT_len n; simp [ByteArray.size]; omega) tS tR u1 pS pR x1 (var_kept h HS.out) (var_kept h HR.out) (HT.out.kept h) (h.cell HG.out)
    cases hb : putB n k
    · have hL0 : putL L n k = [] := by unfold putL; rw [hb]; rfl
      rw [hL0] at HO3 HLp
      rw [hL0]
      clear hb hL0
      go_wp2_with fail
      refine (getnum_own (L.length : Nat) k u pv (HK3.out.cell HV.out) HO3.out HLp.out (by omega) (by omega)).mono ?_
      rintro x w4 ⟨rfl, hk4⟩
      have HK4 := hide (HK3.out.trans hk4)
      clear hk4 HO3 HK3
      generalize getV [] (L.length : Nat) k = m
      generalize getB [] (L.length : Nat) k = fine
      go_wp2_with fail
      refine (HTx.out _ HK4.out).mono ?_
      rintro x w5 ⟨rfl, hk5⟩
      have HK5 := hide (HK4.out.trans hk5)
      clear hk5 HK4 HTx
      go_wp2_with fail
      refine (HTn.out _ HK5.out).mono ?_
      rintro x w6 ⟨⟨v, b, hres, rfl⟩, hk6⟩
      have HK6 := hide (HK5.out.trans hk6)
      clear hk6 HK5 HTn
      by_cases hi : -1125899906842624 ≤ n ∧ n ≤ 1125899906842624
      · obtain ⟨e1, e2⟩ := (num_yes hi.1 hi.2).2 _ _ hres
        rw [e1, e2]
        have hne : ((⟨(numT n).toArray⟩ : ByteArray).toList == ([] : List UInt8)) = false := by
          rw [toList_data]
          exact beq_eq_false_iff_ne.2 (num_yes hi.1 hi.2).1
        obtain ⟨hi1, hi2⟩ := hi
        clear hres e1 e2
        generalize (⟨(numT n).toArray⟩ : ByteArray) = S at *
        go_wp2_with fail
        go_ret
        exact ⟨rfl, HK6.out⟩
      · have hno := num_no (n := n) (by omega)
        obtain ⟨e1, e2⟩ := hno.2 _ _ hres
        rw [e1, e2, hno.1]
        clear hres e1 e2 hno
        by_cases hi1 : -1125899906842624 ≤ n
        · have hi2 : (!decide (n ≤ 1125899906842624)) = true := by simp; omega
          clear hi
          go_wp2_with fail
          go_ret
          exact ⟨rfl, HK6.out⟩
        · have hi2 : n < -1125899906842624 := by omega
          clear hi hi1
          go_wp2_with fail
          go_ret
          exact ⟨rfl, HK6.out⟩
    · obtain ⟨hgB, hgV, hlen⟩ := put_get (L := L) hb
      have HP : Hid (getB (putL L n k) (L.length : Nat) k = true ∧ getV (putL L n k) (L.length : Nat) k = n) := ⟨hgB, hgV⟩
      rw [hlen] at HO3
      rw [hlen]
      have hk : ((L.length + k : Nat) : Int) = (L.length : Int) + (k : Int) := by omega
      have HLq := hide hlen
      clear hb hgB hgV hlen
      generalize L.length + k = z at *
      go_wp2_with fail
      refine (getnum_own (L.length : Nat) k u pv (HK3.out.cell HV.out) HO3.out HLp.out (by omega) (by omega)).mono ?_
      rintro x w4 ⟨rfl, hk4⟩
      have HK4 := hide (HK3.out.trans hk4)
      rw [HP.out.1, HP.out.2]
      clear hk4 HO3 HK3 HP
      go_wp2_with fail
      refine (HTx.out _ HK4.out).mono ?_
      rintro x w5 ⟨rfl, hk5⟩
      have HK5 := hide (HK4.out.trans hk5)
      clear hk5 HK4 HTx
      go_wp2_with fail
      refine (HTn.out _ HK5.out).mono ?_
      rintro x w6 ⟨⟨v, b, hres, rfl⟩, hk6⟩
      have HK6 := hide (HK5.out.trans hk6)
      clear hk6 HK5 HTn
      by_cases hi : -1125899906842624 ≤ n ∧ n ≤ 1125899906842624
      · obtain ⟨e1, e2⟩ := (num_yes hi.1 hi.2).2 _ _ hres
        rw [e1, e2]
        have hne : ((⟨(numT n).toArray⟩ : ByteArray).toList == ([] : List UInt8)) = false := by
          rw [toList_data]
          exact beq_eq_false_iff_ne.2 (num_yes hi.1 hi.2).1
        obtain ⟨hi1, hi2⟩ := hi
        clear hres e1 e2
        generalize (⟨(numT n).toArray⟩ : ByteArray) = S at *
        go_wp2_with fail
        go_ret
        exact ⟨rfl, HK6.out⟩
      · have hno := num_no (n := n) (by omega)
        obtain ⟨e1, e2⟩ := hno.2 _ _ hres
        rw [e1, e2, hno.1]
        clear hres e1 e2 hno
        by_cases hi1 : -1125899906842624 ≤ n
        · have hi2 : (!decide (n ≤ 1125899906842624)) = true := by simp; omega
          clear hi
          go_wp2_with fail
          go_ret
          exact ⟨rfl, HK6.out⟩
        · have hi2 : n < -1125899906842624 := by omega
          clear hi hi1
          go_wp2_with fail
          go_ret
          exact ⟨rfl, HK6.out⟩

set_option maxRecDepth 100000 in
theorem lifted (os : Os) (started : os.Started) (H : Type) (enc : TypeId × Value → H) :
    ReturnsInHanded {} Tryd.checked os 4 .any (fun w args => (Rows.fnNumSpec.pre enc Tryd.prog Tryd.f4 [] false w args ∧ laidMetH Tryd.prog Rows.fnNumRow.laid w) ∧ sizedMet enc Tryd.prog Tryd.f4 (OpenSpec.ofChange Rows.fnNumSpec) false w args)
      (Rows.fnNumSpec.post enc Tryd.prog Tryd.f4 false true false false) := by
  refine returnsInHanded_of_change_and (C := Tryd.checked) (X := fun w _ => laidMetH Tryd.prog Rows.fnNumRow.laid w) (fun _ _ _ hh h => h.of_heap hh) own started (by kernel_rfl) Tryd.func4
    (ChangeSpec.witness_shaped (enc := enc) (C := Tryd.checked) (os := os) (X := fun w _ => laidMetH Tryd.prog Rows.fnNumRow.laid w) false (World.doorLaid Tryd.prog 89 os) #[.slice none 0 0] 8 rfl (World.shaped_of_RefB (by kernel_rfl) (by kernel_rfl)) (by kernel_rfl) (by kernel_rfl) (by kernel_rfl) (door_met os _)) ?_
  intro W base args ds gs before hval0 hW _ hsz hL _
  have hval : ∀ (j : Nat) t v, Tryd.f4.params[j]? = some t → args[j]? = some v → Value.okWide Tryd.prog W .any base t v := hval0
  have hW' := hW
  obtain ⟨p, q, hA0, hV0, rfl, hfz, hnd⟩ := hW
  have hA : DataW.TrodAll enc Tryd.prog W 0 (fun _ => true) true Tryd.f4.params.toList args.toList ds p := hA0
  have hV : DataW.TrodVars enc Tryd.prog W (fun _ => true) ["loop.example/g00400/impl.errGaveUp", "loop.example/g00400/impl.errNoNumber"] gs q := hV0
  rw [Tryd.params4] at hA hval
  obtain ⟨v0, vs0, d0, ds0, p0, q0, hargs, rfl, rfl, h0, r0⟩ := trodAll_cons hA
  obtain ⟨rfl, rfl, rfl⟩ := trodAll_nil r0
  obtain rfl : args = #[v0] := by cases args; simp_all
  have k0 := h0
  have lt0 : ∀ x ∈ p0, x.block < W.heap.size := by obtain ⟨m, hm⟩ := k0; exact DataW.trod_lt m _ _ _ hm
  obtain ⟨a0, len0, cap0, rfl⟩ := okWide_slice Tryd.underlying22 (hval 0 22 v0 rfl rfl)
  have w0 : RowAt W.heap.size W a0 len0 := by
    obtain ⟨fuel, hf⟩ := h0
    rcases open_ints Tryd.underlying22 Tryd.underlying5 (by kernel_rfl) hf with ⟨hcs, _⟩ | ⟨x, l, c, zs, hcs, _, hl, hm, hz, _, hcell, hwz⟩
    · simp [Value.cells] at hcs
      obtain ⟨rfl, rfl, rfl⟩ := hcs
      exact row_nil
    · simp [Value.cells] at hcs
      obtain ⟨rfl, rfl, rfl⟩ := hcs
      exact row_of hl (by simpa using hz) hcell hwz
  have hL0 : laidMet Tryd.prog Rows.fnNumRow.laid W := by rw [← MakeChecks.laidMetH_plain _ _ _ (by kernel_rfl)]; exact hL
  have hT : Tab W := Lib.tabIs_of_head gPow tPow Tryd.underlying81 Tryd.underlying69 cells56 cells81 (laidMet.tail (laidMet.tail hL0))
  obtain ⟨xRange, hvRange⟩ := sent (laidMet.tail (laidMet.tail (laidMet.tail hL0))) gRange tRange
  obtain ⟨xSyntax, hvSyntax⟩ := sent (laidMet.tail (laidMet.tail (laidMet.tail (laidMet.tail hL0)))) gSyntax tSyntax
  obtain ⟨xNumber, hvNumber⟩ := sent (laidMet.tail (laidMet.tail (laidMet.tail (laidMet.tail (laidMet.tail hL0))))) gNumber tNumber
  obtain ⟨xGaveUp, hvGaveUp⟩ := sent (laidMet.tail (laidMet.tail (laidMet.tail (laidMet.tail (laidMet.tail (laidMet.tail hL0)))))) gGaveUp tGaveUp
  obtain ⟨rfl, rfl⟩ := hV.unique (vars_read2 enc gGaveUp tGaveUp Tryd.underlying56 hvGaveUp trivial gNumber tNumber Tryd.underlying56 hvNumber trivial _)
  clear hA0 hV0 hval0
  refine (walk a0 len0 cap0 W w0 hT _ _ hvRange _ _ hvSyntax _ _ (cell_of_var gNumber hvNumber) _ _ (cell_of_var gGaveUp hvGaveUp)).mono fun e W' ⟨he, hb⟩ => ?_
  subst he
  refine ⟨_, rfl, _, _, _, [], (p0 ++ []), [.cell 1 0, .cell 0 0], hW', ?_, ?_, ?_, Below.frame hb _, fun h => by cases h⟩
  · exact trodAll_mk1 (shut_bool Tryd.underlying4 _)
  · exact (trodAll_cons_mk (Below.trod laidOut (by kernel_rfl) (of_decide_eq_true (by kernel_rfl)) k0 hb lt0) trodAll_mk0)
  · exact vars_read2 enc gGaveUp tGaveUp Tryd.underlying56 (var_kept hb hvGaveUp) trivial gNumber tNumber Tryd.underlying56 (var_kept hb hvNumber) trivial _

theorem over : Rows.FnNumSaid :=
  OpenClaim.holds_of_wide 4 Tryd.f4 rfl rfl rfl rfl rfl rfl rfl ⟨rfl, rfl, rfl, rfl, rfl⟩ rfl rfl rfl rfl rfl (by kernel_rfl) Tryd.func4 (by kernel_rfl)
    (of_decide_eq_true (by kernel_rfl)) (by unfold Func.isWrapper; first | (rw [if_pos (by decide +kernel)]; kernel_rfl) | (rw [if_neg (by decide +kernel)]; exact ⟨rfl, rfl⟩))
    (fun os started H enc _ => lifted os started H enc)
end Go.Proofs.YtecjjkgdgmjgmaaDoor.fnNum
namespace Go.Proofs.YtecjjkgdgmjgmaaDoor
theorem fnNum_card : Rows.FnNumCardSaid :=
  Claim7.holds_tied_plain_at .later [] Rows.fnNumCard.laidKinds true Rows.fnNumCard.stood.harness true
    fnNum.over (fun _ h => by cases h) (by kernel_rfl) (fun _ h => by cases h) fnNum_row_tie rfl ⟨rfl, rfl⟩ (by kernel_rfl) rfl
    (fun f fn hf hfn => by
      obtain rfl : f = 4 := Option.some.inj ((show Tryd.prog.funcNamed Rows.fnNumRow.func = some 4 by kernel_rfl).symm.trans hf) |>.symm
      obtain rfl : fn = Tryd.f4 := (Option.some.inj (Tryd.func4.symm.trans hfn)).symm
      exact ⟨by kernel_rfl, fun j t ht => by
        rw [Tryd.params4] at ht
        have hm : t ∈ [22] := by simpa using Array.mem_of_getElem? ht
        have hall : ([22].all fun u => !Tryd.prog.wantsStandIn u) = true := by kernel_rfl
        exact (show Tryd.prog.wantsStandIn t = false by simpa using List.all_eq_true.1 hall t hm)⟩)
    (by kernel_rfl)
end Go.Proofs.YtecjjkgdgmjgmaaDoor
