/- Proved: at every string the law FnExactTextNum returns true (TextNum of the program answers as TextNum of the model), its listed package variables tied to the program's text; no condition. -/
import Derived.Test.YtjmhnpnjiaeamaaDoorText2
import Derived.Test.YtjmhnpnjiaeamaaDoorCards
import Derived.Test.YtjmhnpnjiaeamaaDoorTie
import Derived.WalkKit
import Derived.ProofKit
import Derived.OpenShut
import Derived.ShutString
import Derived.LaidMore
import Derived.Stop.Joined
import Derived.SevenTiedAt
namespace Go.Proofs.YtjmhnpnjiaeamaaDoor.fnExactTextNum
open Go.ChangeShapes Go.WideShapes Go.ChangeAt Go.RowKit
open Go.ChangeMaps (open_string shut_string)
set_option linter.unusedVariables false

theorem own : ownKnob Tryd.prog.godebug = none := by kernel_rfl
theorem door_met (os : Os) (args : Array Value) : laidMetH Tryd.prog Rows.fnExactTextNumRow.laid ((World.doorLaid Tryd.prog 138 os).forCall (fun _ _ => 0) ⟨#[], args, []⟩).memory :=
  laidMetH_of_parts3 (fuel := 8) (laidMet_of_run' 8 (by kernel_rfl) (by kernel_rfl)) (by kernel_rfl) (by kernel_rfl)

theorem gSyntax : Tryd.prog.globalNamed "strconv.ErrSyntax" = some 7 := by kernel_rfl
theorem gRange : Tryd.prog.globalNamed "strconv.ErrRange" = some 8 := by kernel_rfl
theorem tSyntax : (Tryd.prog.globals[7]?).map (·.type) = some 43 := by kernel_rfl
theorem tRange : (Tryd.prog.globals[8]?).map (·.type) = some 43 := by kernel_rfl

theorem walk (a0 : ByteArray) (w0 : a0.size ≤ maxLen) (w : World) (ht : Tab w) (tR : TypeId) (pR : Value) (hR : w.var? Tryd.prog "strconv.ErrRange" = some #[.iface tR pR]) (tS : TypeId) (pS : Value) (hS : w.var? Tryd.prog "strconv.ErrSyntax" = some #[.iface tS pS]) (u1 : TypeId) (x1 : Value) (hg : w.cell? ⟨1, 0, none⟩ = some (.iface u1 x1)) :
    Calls Tryd.prog 11 #[.string a0] w fun e w' => e = .returned (.bool true) ∧ Keeps w w' := by
  by_cases hbig : 1048576 < a0.size
  · clear ht hR hS hg
    go_enter Tryd.func11, Tryd.ntmps11
    go_wp2_with fail
    go_ret
    exact ⟨rfl, Keeps.refl _⟩
  · have HS := hide (text_spec a0 w (by omega))
    have HI := hide (fun w1 (hk : Keeps w w1) => text_impl a0 w1 (by omega) tS tR u1 pS pR x1 (var_kept hk hS) (var_kept hk hR) (ht.kept hk) (hk.cell hg))
    clear ht hR hS hg
    go_enter Tryd.func11, Tryd.ntmps11
    go_wp2_with (first | (go_at_call 26; refine (unhide HS).mono ?_; rintro e w1 ⟨⟨v, b, hr, rfl⟩, hk⟩) | (go_at_call 27; refine (unhide HI _ hk).mono ?_; rintro e w2 ⟨⟨v', b', hr', rfl⟩, hk2⟩; obtain ⟨rfl, rfl⟩ := res_unique hr hr'))
    go_ret
    exact ⟨rfl, hk.trans hk2⟩

set_option maxRecDepth 100000 in
theorem lifted (os : Os) (started : os.Started) (H : Type) (enc : TypeId × Value → H) :
    ReturnsInHanded {} Tryd.checked os 11 .any (fun w args => (Rows.fnExactTextNumSpec.pre enc Tryd.prog Tryd.f11 [] false w args ∧ laidMetH Tryd.prog Rows.fnExactTextNumRow.laid w) ∧ sizedMet enc Tryd.prog Tryd.f11 (OpenSpec.ofChange Rows.fnExactTextNumSpec) false w args)
      (Rows.fnExactTextNumSpec.post enc Tryd.prog Tryd.f11 false true false false) := by
  refine returnsInHanded_of_change_and (C := Tryd.checked) (X := fun w _ => laidMetH Tryd.prog Rows.fnExactTextNumRow.laid w) (fun _ _ _ hh h => h.of_heap hh) own started (by kernel_rfl) Tryd.func11
    (ChangeSpec.witness_shaped (enc := enc) (C := Tryd.checked) (os := os) (X := fun w _ => laidMetH Tryd.prog Rows.fnExactTextNumRow.laid w) false (World.doorLaid Tryd.prog 138 os) #[.string ByteArray.empty] 8 rfl (World.shaped_of_RefB (by kernel_rfl) (by kernel_rfl)) (by kernel_rfl) (by kernel_rfl) (by kernel_rfl) (door_met os _)) ?_
  intro W base args ds gs before hval0 hW _ hsz hL _
  have hval : ∀ (j : Nat) t v, Tryd.f11.params[j]? = some t → args[j]? = some v → Value.okWide Tryd.prog W .any base t v := hval0
  have hW' := hW
  obtain ⟨p, q, hA0, hV0, rfl, hfz, hnd⟩ := hW
  have hA : DataW.TrodAll enc Tryd.prog W 0 (fun _ => true) true Tryd.f11.params.toList args.toList ds p := hA0
  have hV : DataW.TrodVars enc Tryd.prog W (fun _ => true) ["loop.example/g00400/impl.errNoNumber"] gs q := hV0
  rw [Tryd.params11] at hA hval
  obtain ⟨v0, vs0, d0, ds0, p0, q0, hargs, rfl, rfl, h0, r0⟩ := trodAll_cons hA
  obtain ⟨rfl, rfl, rfl⟩ := trodAll_nil r0
  obtain rfl : args = #[v0] := by cases args; simp_all
  obtain ⟨a0, rfl, rfl, rfl, w0⟩ := open_string Tryd.underlying9 (hval 0 9 v0 rfl rfl) h0
  have hL0 : laidMet Tryd.prog Rows.fnExactTextNumRow.laid W := by rw [← MakeChecks.laidMetH_plain _ _ _ (by kernel_rfl)]; exact hL
  have hT : Tab W := Lib.tabIs_of_head gPow tPow Tryd.underlying81 Tryd.underlying56 cells56 cells81 (laidMet.tail (laidMet.tail hL0))
  obtain ⟨xRange, hvRange⟩ := sent (laidMet.tail (laidMet.tail (laidMet.tail hL0))) gRange tRange
  obtain ⟨xSyntax, hvSyntax⟩ := sent (laidMet.tail (laidMet.tail (laidMet.tail (laidMet.tail hL0)))) gSyntax tSyntax
  obtain ⟨xNumber, hvNumber⟩ := sent (laidMet.tail (laidMet.tail (laidMet.tail (laidMet.tail (laidMet.tail hL0))))) gNumber tNumber
  obtain ⟨rfl, rfl⟩ := hV.unique (vars_read1 enc gNumber tNumber Tryd.underlying43 hvNumber trivial _)
  clear hA0 hV0 hval0
  refine (walk a0 w0 W hT _ _ hvRange _ _ hvSyntax _ _ (cell_of_var gNumber hvNumber)).mono fun e W' ⟨he, hb⟩ => ?_
  subst he
  refine ⟨_, rfl, _, _, _, [], [], [.cell 1 0], hW', ?_, ?_, ?_, Below.frame hb _, fun h => by cases h⟩
  · exact trodAll_mk1 (shut_bool Tryd.underlying4 _)
  · exact (trodAll_cons_mk (shut_string Tryd.underlying9 w0) trodAll_mk0)
  · exact vars_read1 enc gNumber tNumber Tryd.underlying43 (var_kept hb hvNumber) trivial _

theorem over : Rows.FnExactTextNumSaid :=
  OpenClaim.holds_of_wide 11 Tryd.f11 rfl rfl rfl rfl rfl rfl rfl ⟨rfl, rfl, rfl, rfl, rfl⟩ rfl rfl rfl rfl rfl (by kernel_rfl) Tryd.func11 (by kernel_rfl)
    (of_decide_eq_true (by kernel_rfl)) (by unfold Func.isWrapper; first | (rw [if_pos (by decide +kernel)]; kernel_rfl) | (rw [if_neg (by decide +kernel)]; exact ⟨rfl, rfl⟩))
    (fun os started H enc _ => lifted os started H enc)
end Go.Proofs.YtjmhnpnjiaeamaaDoor.fnExactTextNum
namespace Go.Proofs.YtjmhnpnjiaeamaaDoor
theorem textNum_holds : Rows.FnExactTextNumCardSaid :=
  Claim7.holds_tied_plain_at .later [] Rows.fnExactTextNumCard.laidKinds true Rows.fnExactTextNumCard.stood.harness true
    fnExactTextNum.over (fun _ h => by cases h) (by kernel_rfl) (fun _ h => by cases h) fnExactTextNum_row_tie rfl ⟨rfl, rfl⟩ (by kernel_rfl) rfl
    (fun f fn hf hfn => by
      obtain rfl : f = 11 := Option.some.inj ((show Tryd.prog.funcNamed Rows.fnExactTextNumRow.func = some 11 by kernel_rfl).symm.trans hf) |>.symm
      obtain rfl : fn = Tryd.f11 := (Option.some.inj (Tryd.func11.symm.trans hfn)).symm
      exact ⟨by kernel_rfl, fun j t ht => by
        rw [Tryd.params11] at ht
        have hm : t ∈ [9] := by simpa using Array.mem_of_getElem? ht
        have hall : ([9].all fun u => !Tryd.prog.wantsStandIn u) = true := by kernel_rfl
        exact (show Tryd.prog.wantsStandIn t = false by simpa using List.all_eq_true.1 hall t hm)⟩)
    (by kernel_rfl)
end Go.Proofs.YtjmhnpnjiaeamaaDoor
