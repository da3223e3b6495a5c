/- For every text: the program's TextAcc answers as the model's (texts of more than 1048576 bytes are let by, as the law says), and the argument stays as it was. -/
import Derived.Test.YtahgibjjnfbkhaaDoorTAcc2
import Derived.Test.YtahgibjjnfbkhaaDoorSent
import Derived.Test.YtahgibjjnfbkhaaDoorTold
import Derived.Test.YtahgibjjnfbkhaaDoorCards
import Derived.Test.YtahgibjjnfbkhaaDoorTie
import Derived.WalkKit
import Derived.ProofKit
import Derived.OpenShut
import Derived.ShutString
import Derived.LaidMore
import Derived.Stop.Joined
import Derived.SevenTiedAt
import Derived.ChangeOld
import Derived.Below
namespace Go.Proofs.YtahgibjjnfbkhaaDoor.fnExactTextAcc
open Go.ChangeShapes Go.WideShapes Go.ChangeAt Go.RowKit
open Go.ChangeMaps (open_string shut_string)
set_option linter.unusedVariables false
theorem own : ownKnob Tryd.prog.godebug = none := by kernel_rfl
theorem laidOut : laidOutB Tryd.prog = true := by kernel_rfl
theorem gRange : Tryd.prog.globalNamed "strconv.ErrRange" = some 3 := by kernel_rfl
theorem tRange : (Tryd.prog.globals[3]?).map (·.type) = some 53 := by kernel_rfl
theorem gSyntax : Tryd.prog.globalNamed "strconv.ErrSyntax" = some 2 := by kernel_rfl
theorem tSyntax : (Tryd.prog.globals[2]?).map (·.type) = some 53 := by kernel_rfl
theorem door_met (os : Os) (args : Array Value) : laidMetH Tryd.prog Rows.fnExactTextAccRow.laid ((World.doorLaid Tryd.prog 86 os).forCall (fun _ _ => 0) ⟨#[], args, []⟩).memory :=
  laidMetH_of_parts3 (fuel := 8) (laidMet_of_run' 8 (by kernel_rfl) (by kernel_rfl)) (by kernel_rfl) (by kernel_rfl)

theorem walk (s : ByteArray) (w : World) (hs : s.size ≤ maxLen) (ht : Tab w) (tR : TypeId) (pR : Value) (hR : w.var? Tryd.prog "strconv.ErrRange" = some #[.iface tR pR]) (tS : TypeId) (pS : Value) (hS : w.var? Tryd.prog "strconv.ErrSyntax" = some #[.iface tS pS]) (u1 : TypeId) (x1 : Value) (hg : w.cell? ⟨0, 0, none⟩ = some (.iface u1 x1)) :
    Calls Tryd.prog 5 #[.string s] w fun e w' => e = .returned (.bool true) ∧ Keeps w w' := by
  have HE : Hid (Env w) := ⟨ht, tS, tR, u1, pS, pR, x1, hS, hR, hg⟩
  have hm : s.size ≤ 9223372036854775807 := hs
  clear ht hS hR hg hs
  by_cases hl : 1048576 < s.size
  · go_enter Tryd.func5, Tryd.ntmps5
    go_wp2_with fail
    go_ret
    exact ⟨rfl, Keeps.refl _⟩
  · have HS := hide (fun w1 => tacc_spec s w1)
    have HI := hide (fun w1 (h : Env w1) => tacc_impl s w1 (by omega) h)
    go_enter Tryd.func5, Tryd.ntmps5
    go_wp2_with fail
    refine (unhide HS _).mono ?_
    rintro e w1 ⟨⟨k, c, b, hta, rfl⟩, hk1⟩
    have HT := hide hta
    have HKB := hide (Keeps.alloc (Keeps.refl w1) (.cells #[.int .i64 k, .int .i64 c] 24))
    have HK1 := hide hk1
    clear hta hk1
    go_wp2_with fail
    refine (unhide HI _ ((HE.out.kept HK1.out).kept HKB.out)).mono ?_
    rintro e w2 ⟨⟨k', c', b', hta', rfl⟩, hk2⟩
    obtain ⟨rfl, rfl, rfl⟩ := ta_unique HT.out hta'
    have d0 := hk2.cell (p := ⟨w1.heap.size, 0, none⟩) (v := .int .i64 k') (by simp)
    have d1 := hk2.cell (p := ⟨w1.heap.size, 1, none⟩) (v := .int .i64 c') (by simp)
    have hz := lt_of_cell d0
    have HK2 := hide ((HK1.out.trans HKB.out).trans hk2)
    have HQ := hide (fun w1 => eqAcc_k k' c' k' c' w1)
    simp only [decide_true, Bool.and_self] at HQ
    clear hta' hk2 HT HS HI HKB HK1
    go_wp2_with fail
    refine (unhide HQ _).mono ?_
    rintro e w3 ⟨rfl, hk3⟩
    have HK3 := hide ((Keeps.alloc HK2.out _).trans hk3)
    clear hk3
    cases b'
    · go_wp2_with fail
      go_ret
      exact ⟨rfl, HK3.out⟩
    · go_wp2_with fail
      go_ret
      exact ⟨rfl, HK3.out⟩

set_option maxRecDepth 100000 in
theorem lifted (os : Os) (started : os.Started) (H : Type) (enc : TypeId × Value → H) :
    ReturnsInHanded {} Tryd.checked os 5 .any (fun w args => (Rows.fnExactTextAccSpec.pre enc Tryd.prog Tryd.f5 [] false w args ∧ laidMetH Tryd.prog Rows.fnExactTextAccRow.laid w) ∧ sizedMet enc Tryd.prog Tryd.f5 (OpenSpec.ofChange Rows.fnExactTextAccSpec) false w args)
      (Rows.fnExactTextAccSpec.post enc Tryd.prog Tryd.f5 false true false false) := by
  refine returnsInHanded_of_change_and (C := Tryd.checked) (X := fun w _ => laidMetH Tryd.prog Rows.fnExactTextAccRow.laid w) (fun _ _ _ hh h => h.of_heap hh) own started (by kernel_rfl) Tryd.func5
    (ChangeSpec.witness_shaped (enc := enc) (C := Tryd.checked) (os := os) (X := fun w _ => laidMetH Tryd.prog Rows.fnExactTextAccRow.laid w) false (World.doorLaid Tryd.prog 86 os) #[.string ByteArray.empty] 8 rfl (World.shaped_of_RefB (by kernel_rfl) (by kernel_rfl)) (by kernel_rfl) (by kernel_rfl) (by kernel_rfl) (door_met os _)) ?_
  intro W base args ds gs before hval0 hW _ hsz hL _
  have hval : ∀ (j : Nat) t v, Tryd.f5.params[j]? = some t → args[j]? = some v → Value.okWide Tryd.prog W .any base t v := hval0
  have hW' := hW
  obtain ⟨p, q, hA0, hV0, rfl, hfz, hnd⟩ := hW
  have hA : DataW.TrodAll enc Tryd.prog W 0 (fun _ => true) true Tryd.f5.params.toList args.toList ds p := hA0
  have hV : DataW.TrodVars enc Tryd.prog W (fun _ => true) ["loop.example/g00400/impl.errNoNumber"] gs q := hV0
  rw [Tryd.params5] at hA hval
  obtain ⟨v0, vs0, d0, ds0, p0, q0, hargs, rfl, rfl, h0, r0⟩ := trodAll_cons hA
  obtain ⟨rfl, rfl, rfl⟩ := trodAll_nil r0
  obtain rfl : args = #[v0] := by cases args; simp_all
  obtain ⟨a0, rfl, rfl, rfl, w0⟩ := open_string Tryd.underlying9 (hval 0 9 v0 rfl rfl) h0
  have hL0 : laidMet Tryd.prog Rows.fnExactTextAccRow.laid W := by rw [← MakeChecks.laidMetH_plain _ _ _ (by kernel_rfl)]; exact hL
  have hT : Tab W := Lib.tabIs_of_head gPow tPow Tryd.underlying68 Tryd.underlying60 cells56 cells81 (laidMet.tail (laidMet.tail hL0))
  obtain ⟨xRange, hvRange⟩ := sent (laidMet.tail (laidMet.tail (laidMet.tail hL0))) gRange tRange
  obtain ⟨xSyntax, hvSyntax⟩ := sent (laidMet.tail (laidMet.tail (laidMet.tail (laidMet.tail hL0)))) gSyntax tSyntax
  obtain ⟨xNumber, hvNumber⟩ := sent (laidMet.tail (laidMet.tail (laidMet.tail (laidMet.tail (laidMet.tail hL0))))) gNumber tNumber
  obtain ⟨rfl, rfl⟩ := hV.unique (vars_read1 enc gNumber tNumber Tryd.underlying53 hvNumber trivial _)
  clear hA0 hV0 hval0
  refine (walk a0 W w0 hT _ _ hvRange _ _ hvSyntax _ _ (cell_of_var gNumber hvNumber)).mono fun e W' ⟨he, hb⟩ => ?_
  subst he
  refine ⟨_, rfl, _, _, _, [], ([] ++ []), [.cell 0 0], hW', ?_, ?_, ?_, Below.frame hb _, fun h => by cases h⟩
  · exact trodAll_mk1 (shut_bool Tryd.underlying4 _)
  · exact (trodAll_cons_mk (shut_string Tryd.underlying9 w0) trodAll_mk0)
  · exact vars_read1 enc gNumber tNumber Tryd.underlying53 (var_kept hb hvNumber) trivial _

theorem over : Rows.FnExactTextAccSaid :=
  OpenClaim.holds_of_wide 5 Tryd.f5 rfl rfl rfl rfl rfl rfl rfl ⟨rfl, rfl, rfl, rfl, rfl⟩ rfl rfl rfl rfl rfl (by kernel_rfl) Tryd.func5 (by kernel_rfl)
    (of_decide_eq_true (by kernel_rfl)) (by unfold Func.isWrapper; first | (rw [if_pos (by decide +kernel)]; kernel_rfl) | (rw [if_neg (by decide +kernel)]; exact ⟨rfl, rfl⟩))
    (fun os started H enc _ => lifted os started H enc)
end Go.Proofs.YtahgibjjnfbkhaaDoor.fnExactTextAcc
namespace Go.Proofs.YtahgibjjnfbkhaaDoor
theorem text_acc_exact : Rows.FnExactTextAccCardSaid :=
  Claim7.holds_tied_plain_at .later [] Rows.fnExactTextAccCard.laidKinds true Rows.fnExactTextAccCard.stood.harness true
    fnExactTextAcc.over (fun _ h => by cases h) (by kernel_rfl) (fun _ h => by cases h) fnExactTextAcc_row_tie rfl ⟨rfl, rfl⟩ (by kernel_rfl) rfl
    (fun f fn hf hfn => by
      obtain rfl : f = 5 := Option.some.inj ((show Tryd.prog.funcNamed Rows.fnExactTextAccRow.func = some 5 by kernel_rfl).symm.trans hf) |>.symm
      obtain rfl : fn = Tryd.f5 := (Option.some.inj (Tryd.func5.symm.trans hfn)).symm
      exact ⟨by kernel_rfl, fun j t ht => by
        rw [Tryd.params5] at ht
        have hm : t ∈ [9] := by simpa using Array.mem_of_getElem? ht
        have hall : ([9].all fun u => !Tryd.prog.wantsStandIn u) = true := by kernel_rfl
        exact (show Tryd.prog.wantsStandIn t = false by simpa using List.all_eq_true.1 hall t hm)⟩)
    (by kernel_rfl)
end Go.Proofs.YtahgibjjnfbkhaaDoor
