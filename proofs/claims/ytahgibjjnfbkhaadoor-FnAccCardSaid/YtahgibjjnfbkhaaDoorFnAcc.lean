/- Of every draw: the text of an account is empty just where the account isn't right, and a right account is read as it was written; the argument stays as it was. -/
import Derived.Test.YtahgibjjnfbkhaaDoorTAcc2
import Derived.Test.YtahgibjjnfbkhaaDoorDrAcc
import Derived.Test.YtahgibjjnfbkhaaDoorSent
import Derived.Test.YtahgibjjnfbkhaaDoorTold
import Derived.Test.YtahgibjjnfbkhaaDoorCards
import Derived.Test.YtahgibjjnfbkhaaDoorTie
import Derived.WalkKit
import Derived.ProofKit
import Derived.OpenShut
import Derived.ShutString
import Derived.LaidMore
import Derived.Stop.Joined
import Derived.SevenTiedAt
import Derived.ChangeOld
import Derived.Below
namespace Go.Proofs.YtahgibjjnfbkhaaDoor.fnAcc
open Go.ChangeShapes Go.WideShapes Go.ChangeAt Go.RowKit
open Go.ChangeMaps (open_string shut_string)
set_option linter.unusedVariables false
theorem own : ownKnob Tryd.prog.godebug = none := by kernel_rfl
theorem laidOut : laidOutB Tryd.prog = true := by kernel_rfl
theorem gRange : Tryd.prog.globalNamed "strconv.ErrRange" = some 3 := by kernel_rfl
theorem tRange : (Tryd.prog.globals[3]?).map (·.type) = some 53 := by kernel_rfl
theorem gSyntax : Tryd.prog.globalNamed "strconv.ErrSyntax" = some 2 := by kernel_rfl
theorem tSyntax : (Tryd.prog.globals[2]?).map (·.type) = some 53 := by kernel_rfl
theorem door_met (os : Os) (args : Array Value) : laidMetH Tryd.prog Rows.fnAccRow.laid ((World.doorLaid Tryd.prog 86 os).forCall (fun _ _ => 0) ⟨#[], args, []⟩).memory :=
  laidMetH_of_parts3 (fuel := 8) (laidMet_of_run' 8 (by kernel_rfl) (by kernel_rfl)) (by kernel_rfl) (by kernel_rfl)

theorem size_text (k c : Int) : (textA k c).size ≤ 100 := by
  unfold textA
  split
  · have hn : (nameA k).size ≤ 6 := by
      rcases kinds k with rfl | rfl | rfl | rfl | rfl | rfl | rfl | rfl | h
      iterate 8
        · decide
      unfold nameA
      rw [if_neg (by omega), if_neg (by omega), if_neg (by omega), if_neg (by omega), if_neg (by omega), if_neg (by omega), if_neg (by omega), if_neg (by omega)]
      decide
    split
    · omega
    · have := numT_len c
      rw [ByteArray.size_append]
      have h2 : (⟨(numT c).toArray⟩ : ByteArray).size = (numT c).length := by simp [ByteArray.size]
      omega
  · simp [ByteArray.size]
theorem walk (a : Option Addr) (len cap : Nat) (w : World) (hr : RowAt w.heap.size w a len) (ht : Tab w) (tR : TypeId) (pR : Value) (hR : w.var? Tryd.prog "strconv.ErrRange" = some #[.iface tR pR]) (tS : TypeId) (pS : Value) (hS : w.var? Tryd.prog "strconv.ErrSyntax" = some #[.iface tS pS]) (u1 : TypeId) (x1 : Value) (hg : w.cell? ⟨0, 0, none⟩ = some (.iface u1 x1)) :
    Calls Tryd.prog 3 #[.slice a len cap] w fun e w' => e = .returned (.bool true) ∧ Keeps w w' := by
  have HE : Hid (Env w) := ⟨ht, tS, tR, u1, pS, pR, x1, hS, hR, hg⟩
  have HRw := hide hr
  clear ht hS hR hg hr
  by_cases hl : 1048576 < len
  · go_enter Tryd.func3, Tryd.ntmps3
    go_wp2_with fail
    go_ret
    exact ⟨rfl, Keeps.refl _⟩
  · have HD := hide (draw_acc a len cap w HRw.out (by omega))
    clear HRw
    go_enter Tryd.func3, Tryd.ntmps3
    go_wp2_with fail
    refine (unhide HD).mono ?_
    rintro e w1 ⟨⟨k, c, rfl⟩, hk1⟩
    have HKB := hide (Keeps.alloc (Keeps.refl w1) (.cells #[.int .i64 k, .int .i64 c] 24))
    have HK1 := hide (hk1.trans HKB.out)
    have HX := hide (fun w2 (h : Tab w2) => atext_impl k c w2 h)
    have HA := hide (fun w2 => acc_k k c w2)
    have HI := hide (fun w2 (h : Env w2) => tacc_impl (textA k c) w2 (by have := size_text k c; omega) h)
    clear hk1 HD
    cases hb : accB k c
    · rw [hb] at HA
      have he : textA k c = ⟨#[]⟩ := by simp [textA, hb]
      have HU : Hid (∀ k' c' b', TA (textL k c) k' c' b' → k' = 0 ∧ c' = 0 ∧ b' = false) := by
        intro k' c' b' h
        have h0 : TA (textL k c) 0 0 false := Or.inr ⟨rfl, rfl, rfl, fun k'' c'' ha e => by rw [textL_no hb] at e; exact textL_ne ha e⟩
        exact ta_unique h0 h
      have HTL : Hid (textL k c = (textA k c).data.toList) := rfl
      rw [he] at HX HI HTL
      clear hb he
      go_wp2_with fail
      refine (unhide HX _ (HE.out.1.kept HK1.out)).mono ?_
      rintro e w2 ⟨rfl, hk2⟩
      have HK2 := hide (HK1.out.trans hk2)
      have d0 := hk2.cell (p := ⟨w1.heap.size, 0, none⟩) (v := .int .i64 k) (by simp)
      have d1 := hk2.cell (p := ⟨w1.heap.size, 1, none⟩) (v := .int .i64 c) (by simp)
      clear hk2
      go_wp2_with fail
      refine (unhide HA _).mono ?_
      rintro e w3 ⟨rfl, hk3⟩
      have HK3 := hide (HK2.out.trans hk3)
      clear hk3
      go_wp2_with fail
      refine (unhide HI _ (HE.out.kept HK3.out)).mono ?_
      rintro e w4 ⟨⟨k', c', b', hta, rfl⟩, hk4⟩
      rw [← HTL.out] at hta
      obtain ⟨rfl, rfl, rfl⟩ := HU.out _ _ _ hta
      have HK4 := hide (Keeps.alloc (HK3.out.trans hk4) (.cells #[.int .i64 0, .int .i64 0] 24))
      clear hk4 hta HU
      go_wp2_with fail
      go_ret
      exact ⟨rfl, HK4.out⟩
    · rw [hb] at HA
      have hne : ((textA k c).toList == ([] : List UInt8)) = false := by
        rw [toList_data]
        exact beq_eq_false_iff_ne.2 (textL_ne hb)
      have HU : Hid (∀ k' c' b', TA (textL k c) k' c' b' → k' = k ∧ c' = c ∧ b' = true) := fun k' c' b' h => ta_unique (Or.inl ⟨rfl, hb, rfl⟩) h
      have HTL : Hid (textL k c = (textA k c).data.toList) := rfl
      clear hb
      generalize textA k c = s at *
      go_wp2_with fail
      refine (unhide HX _ (HE.out.1.kept HK1.out)).mono ?_
      rintro e w2 ⟨rfl, hk2⟩
      have HK2 := hide (HK1.out.trans hk2)
      have d0 := hk2.cell (p := ⟨w1.heap.size, 0, none⟩) (v := .int .i64 k) (by simp)
      have d1 := hk2.cell (p := ⟨w1.heap.size, 1, none⟩) (v := .int .i64 c) (by simp)
      clear hk2
      go_wp2_with fail
      refine (unhide HA _).mono ?_
      rintro e w3 ⟨rfl, hk3⟩
      have HK3 := hide (HK2.out.trans hk3)
      have e0 := hk3.cell d0
      have e1 := hk3.cell d1
      clear hk3
      go_wp2_with fail
      refine (unhide HI _ (HE.out.kept HK3.out)).mono ?_
      rintro e w4 ⟨⟨k', c', b', hta, rfl⟩, hk4⟩
      rw [← HTL.out] at hta
      obtain ⟨rfl, rfl, rfl⟩ := HU.out _ _ _ hta
      have HK4 := hide (Keeps.alloc (HK3.out.trans hk4) (.cells #[.int .i64 k', .int .i64 c'] 24))
      have f0 := hk4.cell e0
      have f1 := hk4.cell e1
      have hz := lt_of_cell f0
      clear hk4 hta HU d0 d1 e0 e1
      go_wp2_with fail
      go_ret
      exact ⟨rfl, HK4.out⟩

set_option maxRecDepth 100000 in
theorem lifted (os : Os) (started : os.Started) (H : Type) (enc : TypeId × Value → H) :
    ReturnsInHanded {} Tryd.checked os 3 .any (fun w args => (Rows.fnAccSpec.pre enc Tryd.prog Tryd.f3 [] false w args ∧ laidMetH Tryd.prog Rows.fnAccRow.laid w) ∧ sizedMet enc Tryd.prog Tryd.f3 (OpenSpec.ofChange Rows.fnAccSpec) false w args)
      (Rows.fnAccSpec.post enc Tryd.prog Tryd.f3 false true false false) := by
  refine returnsInHanded_of_change_and (C := Tryd.checked) (X := fun w _ => laidMetH Tryd.prog Rows.fnAccRow.laid w) (fun _ _ _ hh h => h.of_heap hh) own started (by kernel_rfl) Tryd.func3
    (ChangeSpec.witness_shaped (enc := enc) (C := Tryd.checked) (os := os) (X := fun w _ => laidMetH Tryd.prog Rows.fnAccRow.laid w) false (World.doorLaid Tryd.prog 86 os) #[.slice none 0 0] 8 rfl (World.shaped_of_RefB (by kernel_rfl) (by kernel_rfl)) (by kernel_rfl) (by kernel_rfl) (by kernel_rfl) (door_met os _)) ?_
  intro W base args ds gs before hval0 hW _ hsz hL _
  have hval : ∀ (j : Nat) t v, Tryd.f3.params[j]? = some t → args[j]? = some v → Value.okWide Tryd.prog W .any base t v := hval0
  have hW' := hW
  obtain ⟨p, q, hA0, hV0, rfl, hfz, hnd⟩ := hW
  have hA : DataW.TrodAll enc Tryd.prog W 0 (fun _ => true) true Tryd.f3.params.toList args.toList ds p := hA0
  have hV : DataW.TrodVars enc Tryd.prog W (fun _ => true) ["loop.example/g00400/impl.errNoNumber"] gs q := hV0
  rw [Tryd.params3] at hA hval
  obtain ⟨v0, vs0, d0, ds0, p0, q0, hargs, rfl, rfl, h0, r0⟩ := trodAll_cons hA
  obtain ⟨rfl, rfl, rfl⟩ := trodAll_nil r0
  obtain rfl : args = #[v0] := by cases args; simp_all
  have k0 := h0
  have lt0 : ∀ x ∈ p0, x.block < W.heap.size := by obtain ⟨m, hm⟩ := k0; exact DataW.trod_lt m _ _ _ hm
  obtain ⟨a0, len0, cap0, rfl⟩ := okWide_slice Tryd.underlying22 (hval 0 22 v0 rfl rfl)
  have w0 : RowAt W.heap.size W a0 len0 := by
    obtain ⟨fuel, hf⟩ := h0
    rcases open_ints Tryd.underlying22 Tryd.underlying5 (by kernel_rfl) hf with ⟨hcs, _⟩ | ⟨x, l, c, zs, hcs, _, hl, hm, hz, _, hcell, hwz⟩
    · simp [Value.cells] at hcs
      obtain ⟨rfl, rfl, rfl⟩ := hcs
      exact row_nil
    · simp [Value.cells] at hcs
      obtain ⟨rfl, rfl, rfl⟩ := hcs
      exact row_of hl (by simpa using hz) hcell hwz
  have hL0 : laidMet Tryd.prog Rows.fnAccRow.laid W := by rw [← MakeChecks.laidMetH_plain _ _ _ (by kernel_rfl)]; exact hL
  have hT : Tab W := Lib.tabIs_of_head gPow tPow Tryd.underlying68 Tryd.underlying60 cells56 cells81 (laidMet.tail (laidMet.tail hL0))
  obtain ⟨xRange, hvRange⟩ := sent (laidMet.tail (laidMet.tail (laidMet.tail hL0))) gRange tRange
  obtain ⟨xSyntax, hvSyntax⟩ := sent (laidMet.tail (laidMet.tail (laidMet.tail (laidMet.tail hL0)))) gSyntax tSyntax
  obtain ⟨xNumber, hvNumber⟩ := sent (laidMet.tail (laidMet.tail (laidMet.tail (laidMet.tail (laidMet.tail hL0))))) gNumber tNumber
  obtain ⟨rfl, rfl⟩ := hV.unique (vars_read1 enc gNumber tNumber Tryd.underlying53 hvNumber trivial _)
  clear hA0 hV0 hval0
  refine (walk a0 len0 cap0 W w0 hT _ _ hvRange _ _ hvSyntax _ _ (cell_of_var gNumber hvNumber)).mono fun e W' ⟨he, hb⟩ => ?_
  subst he
  refine ⟨_, rfl, _, _, _, [], (p0 ++ []), [.cell 0 0], hW', ?_, ?_, ?_, Below.frame hb _, fun h => by cases h⟩
  · exact trodAll_mk1 (shut_bool Tryd.underlying4 _)
  · exact (trodAll_cons_mk (Below.trod laidOut (by kernel_rfl) (of_decide_eq_true (by kernel_rfl)) k0 hb lt0) trodAll_mk0)
  · exact vars_read1 enc gNumber tNumber Tryd.underlying53 (var_kept hb hvNumber) trivial _

theorem over : Rows.FnAccSaid :=
  OpenClaim.holds_of_wide 3 Tryd.f3 rfl rfl rfl rfl rfl rfl rfl ⟨rfl, rfl, rfl, rfl, rfl⟩ rfl rfl rfl rfl rfl (by kernel_rfl) Tryd.func3 (by kernel_rfl)
    (of_decide_eq_true (by kernel_rfl)) (by unfold Func.isWrapper; first | (rw [if_pos (by decide +kernel)]; kernel_rfl) | (rw [if_neg (by decide +kernel)]; exact ⟨rfl, rfl⟩))
    (fun os started H enc _ => lifted os started H enc)
end Go.Proofs.YtahgibjjnfbkhaaDoor.fnAcc
namespace Go.Proofs.YtahgibjjnfbkhaaDoor
theorem acc_written_read : Rows.FnAccCardSaid :=
  Claim7.holds_tied_plain_at .later [] Rows.fnAccCard.laidKinds true Rows.fnAccCard.stood.harness true
    fnAcc.over (fun _ h => by cases h) (by kernel_rfl) (fun _ h => by cases h) fnAcc_row_tie rfl ⟨rfl, rfl⟩ (by kernel_rfl) rfl
    (fun f fn hf hfn => by
      obtain rfl : f = 3 := Option.some.inj ((show Tryd.prog.funcNamed Rows.fnAccRow.func = some 3 by kernel_rfl).symm.trans hf) |>.symm
      obtain rfl : fn = Tryd.f3 := (Option.some.inj (Tryd.func3.symm.trans hfn)).symm
      exact ⟨by kernel_rfl, fun j t ht => by
        rw [Tryd.params3] at ht
        have hm : t ∈ [22] := by simpa using Array.mem_of_getElem? ht
        have hall : ([22].all fun u => !Tryd.prog.wantsStandIn u) = true := by kernel_rfl
        exact (show Tryd.prog.wantsStandIn t = false by simpa using List.all_eq_true.1 hall t hm)⟩)
    (by kernel_rfl)
end Go.Proofs.YtahgibjjnfbkhaaDoor
