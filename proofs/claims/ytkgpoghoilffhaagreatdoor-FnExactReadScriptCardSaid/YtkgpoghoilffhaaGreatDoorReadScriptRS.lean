/- ReadScript of the program answers at every text as the model does: the same steps, the same line; the memory of its answer is its own, behind another call too. -/
import Derived.Test.YtkgpoghoilffhaaGreatDoorRS24
import Derived.Test.YtkgpoghoilffhaaGreatDoorRS25
import Derived.Test.YtkgpoghoilffhaaGreatDoorRS26
import Derived.Test.YtkgpoghoilffhaaGreatDoorRS13
import Derived.Test.YtkgpoghoilffhaaGreatDoorRS5
import Derived.Test.YtkgpoghoilffhaaGreatDoorRS7
import Derived.Test.YtkgpoghoilffhaaGreatDoorCards
import Derived.Test.YtkgpoghoilffhaaGreatDoorTie
import Derived.Shelf.Vars
import Derived.Lay
import Derived.WalkKit
import Derived.ProofKit
import Derived.OpenShut
import Derived.ShutString
import Derived.LaidMore
import Derived.Stop.Joined
import Derived.SevenTiedAt
import Derived.ChangeOld
import Derived.Below
namespace Go.Proofs.YtkgpoghoilffhaaGreatDoor.fnExactReadScript
open Go.ChangeShapes Go.WideShapes Go.ChangeAt Go.RowKit
open Go.ChangeMaps (open_string shut_string)
set_option linter.unusedVariables false
theorem own : ownKnob Tryz.prog.godebug = none := by kernel_rfl
theorem laidOut : laidOutB Tryz.prog = true := by kernel_rfl
theorem gRange : Tryz.prog.globalNamed "strconv.ErrRange" = some 4 := by kernel_rfl
theorem tRange : (Tryz.prog.globals[4]?).map (·.type) = some 80 := by kernel_rfl
theorem gSyntax : Tryz.prog.globalNamed "strconv.ErrSyntax" = some 3 := by kernel_rfl
theorem tSyntax : (Tryz.prog.globals[3]?).map (·.type) = some 80 := by kernel_rfl

set_option maxHeartbeats 8000000 in
theorem walk (s : ByteArray) (w : World) (hs : s.size ≤ maxLen) (he : Env w) (mx : Int) (hm : w.cell? ⟨1, 0, none⟩ = some (.int .i64 mx)) :
    Calls Tryz.prog 4 #[.string s] w fun e w' => e = .returned (.bool true) ∧ Keeps w w' := by
  have HE := hide he
  have HM := hide hm
  have hmm : s.size ≤ 9223372036854775807 := hs
  clear he hm hs
  by_cases hl : 1048576 < s.size
  · go_enter Tryz.func4, Tryz.ntmps4
    go_wp2_with fail
    go_ret
    exact ⟨rfl, Keeps.refl _⟩
  · have hsz : s.size ≤ 1048576 := by omega
    go_enter Tryz.func4, Tryz.ntmps4
    go_wp2_with fail
    refine (readscript_spec s w hsz).mono ?_
    rintro x w1 ⟨ws, aw, cw, rfl, hb, hd, hk⟩
    have HDw := hide hd
    have HBw := hide (sc_bounds hd)
    have HOw := hide hb.toOwn
    have HK := hide hk
    clear hb hd hk
    go_wp2_with fail
    refine (readscript_impl s w1 hsz (HE.out.kept HK.out) mx (HK.out.cell HM.out)).mono ?_
    rintro x w2 ⟨gs, ag, cg, rfl, hb, hd, hk⟩
    have HDg : Hid (ws.map Ms.D = gs.map Ms.D) := HDw.out.trans hd.symm
    have HBg := hide (sc_bounds hd)
    have HAg := hide (hb.apart HOw.out.mem)
    have HAw := hide (hb.apart' HOw.out.mem)
    have HNg := hide ((hb.old HK.out).new)
    replace HK := hide (HK.out.trans hk)
    replace HOw := hide (HOw.out.kept hk)
    have HOg := hide hb.toOwn
    have hlg : gs.length ≤ 300 := HBg.out.1
    have HLg : Hid (gs.length ≤ 1048576) := by show _ ≤ _; omega
    have HL4 : Hid (gs.length ≤ 400) := by show _ ≤ _; omega
    have htg : totM gs ≤ 1048576 * gs.length := totM_le gs HBg.out.2
    clear hb hd hk
    go_wp2_with fail
    refine (eqStepS_k ag aw cg cw gs ws w2 HDg.out (HOg.out.mem (ag, mcells gs) (List.mem_cons_self ..)) (fun s hs => HOg.out.mem s (List.mem_cons_of_mem _ hs)) (HOw.out.mem (aw, mcells ws) (List.mem_cons_self ..)) (fun s hs => HOw.out.mem s (List.mem_cons_of_mem _ hs)) HLg.out HBg.out.2).mono ?_
    rintro x w3 ⟨rfl, hk⟩
    replace HK := hide (HK.out.trans hk)
    replace HOw := hide (HOw.out.kept hk)
    replace HOg := hide (HOg.out.kept hk)
    clear hk
    have HMK := hide (markStepS_k ag cg gs 1 w3 HOg.out HL4.out HBg.out.2 (by decide))
    go_wp2_with fail
    refine (unhide HMK).mono ?_
    rintro x w4 ⟨rfl, ho, ht⟩
    replace HK := hide (ht.keeps HK.out HNg.out)
    replace HOw := hide (HOw.out.turn ht HAg.out)
    replace HOg := hide ho
    have HHE := hide (fun w' (hm : Mem w' ((ag, mcells (markM 1 gs)) :: (markM 1 gs).map Ms.seg)) => heldStepS_k ag cg gs 1 w' hm HL4.out HBg.out.2 (by decide))
    clear ho ht HMK
    have hnn : ¬ (((1 + 13 * gs.length + totM gs : Nat) : Int) < 0) := by omega
    generalize 1 + 13 * gs.length + totM gs = N at *
    go_wp2_with fail
    refine (unhide HHE w4 HOg.out.mem).mono ?_
    rintro x w5 ⟨rfl, rfl⟩
    go_wp2_with fail
    refine (readscript_impl s w5 hsz (HE.out.kept HK.out) mx (HK.out.cell HM.out)).mono ?_
    rintro x w6 ⟨hs, ah, ch, rfl, hb, hd, hk⟩
    have HDh : Hid (ws.map Ms.D = hs.map Ms.D) := HDw.out.trans hd.symm
    have HBh := hide (sc_bounds hd)
    replace HK := hide (HK.out.trans hk)
    replace HOw := hide (HOw.out.kept hk)
    replace HOg := hide (HOg.out.kept hk)
    have HOh := hide hb.toOwn
    have hlh : hs.length ≤ 300 := HBh.out.1
    have HLh : Hid (hs.length ≤ 1048576) := by show _ ≤ _; omega
    clear hb hd hk
    go_wp2_with fail
    refine (eqStepS_k ah aw ch cw hs ws w6 HDh.out (HOh.out.mem (ah, mcells hs) (List.mem_cons_self ..)) (fun s hs => HOh.out.mem s (List.mem_cons_of_mem _ hs)) (HOw.out.mem (aw, mcells ws) (List.mem_cons_self ..)) (fun s hs => HOw.out.mem s (List.mem_cons_of_mem _ hs)) HLh.out HBh.out.2).mono ?_
    rintro x w7 ⟨rfl, hk⟩
    replace HK := hide (HK.out.trans hk)
    replace HOg := hide (HOg.out.kept hk)
    clear hk
    go_wp2_with fail
    refine (unhide HHE w7 HOg.out.mem).mono ?_
    rintro x w8 ⟨rfl, rfl⟩
    go_wp2_with fail
    go_ret
    exact ⟨rfl, HK.out⟩

/-- The wrap for laid variables, the world's shape kept. -/
theorem of_and_shaped {H : Type} {enc : TypeId × Value → H} {a : Assume} {C : Checked} {os : Os} {f : FuncId} {fn : Func} {s : ChangeSpec} {conds : List PathCond} {apart fresh handsOn again : Bool} {X : World → Array Value → Prop}
    (hX : ∀ (w w' : World) (args : Array Value), w.heap = w'.heap → X w args → X w' args)
    (own : ownKnob C.prog.godebug = none) (started : os.Started) (noInit : C.prog.inits.idxOf? f = none) (hfn : C.prog.funcs[f]? = some fn)
    (witness : ∃ (w : World) (tape : Tape) (i : Input), w.os = os ∧ (w.forCall tape i).Shaped C.prog ∧ i.vars = [] ∧ Input.okWide C.prog (w.forCall tape i) .any w.heap.size f i ∧
      ((s.pre enc C.prog fn conds apart (w.forCall tape i).memory i.args ∧ X (w.forCall tape i).memory i.args) ∧ sizedMet enc C.prog fn (OpenSpec.ofChange s) apart (w.forCall tape i).memory i.args) ∧ a.holds C.prog (lone (Frame.enter C.prog f i.args .normal) [] (w.forCall tape i)))
    (contract : ∀ (W : World) (base : Nat) (args : Array Value) (ds gs : List (DataW H)) (before : List MemPlace),
      (∀ (j : Nat) t v, fn.params[j]? = some t → args[j]? = some v → Value.okWide C.prog W .any base t v) →
      DataW.Whole enc C.prog fn.params.toList s.vars apart W args.toList ds gs before →
      X W args → W.ShapedOpen C.prog →
      Calls C.prog f args W fun e W' => ∃ v, e = .returned v ∧ s.post enc C.prog fn apart fresh handsOn again W args v W') :
    ReturnsInHanded a C os f .any (fun w args => (s.pre enc C.prog fn conds apart w args ∧ X w args) ∧ sizedMet enc C.prog fn (OpenSpec.ofChange s) apart w args) (s.post enc C.prog fn apart fresh handsOn again) := by
  refine returnsInHanded_of_calls own started noInit witness ?_
  intro w tape i _ hsh _ hok hpre _
  obtain ⟨_, _, _, fn', hfn', _, _, _, _, hval⟩ := hok
  obtain rfl : fn' = fn := Option.some.inj (hfn'.symm.trans hfn)
  obtain ⟨⟨⟨ds, gs, before, hw, _⟩, hx⟩, _⟩ := hpre
  refine (contract (w.forCall tape i) w.heap.size i.args ds gs before hval (DataW.Whole.of_heap (w' := w.forCall tape i) (by rfl) hw) (hX _ _ _ (by rfl) hx) hsh).mono fun e W' ⟨v, he, hp⟩ => ?_
  subst he
  exact ChangeSpec.post_blind hp
theorem max_len (w : World) (h : w.ShapedOpen Tryz.prog) : ∃ m, w.cell? ⟨1, 0, none⟩ = some (.int .i64 m) :=
  Go.Proofs.cell_of_shapedOpen_int (zero := #[.int .i64 0]) (t := 3) h (of_decide_eq_true (by kernel_rfl)) (by kernel_rfl) rfl (by kernel_rfl) (by kernel_rfl) Tryz.underlying3
set_option maxRecDepth 100000 in
theorem lifted (os : Os) (started : os.Started) (H : Type) (enc : TypeId × Value → H) :
    ReturnsInHanded {} Tryz.checked os 4 .any (fun w args => (Rows.fnExactReadScriptSpec.pre enc Tryz.prog Tryz.f4 [] false w args ∧ laidMetH Tryz.prog Rows.fnExactReadScriptRow.laid w) ∧ sizedMet enc Tryz.prog Tryz.f4 (OpenSpec.ofChange Rows.fnExactReadScriptSpec) false w args)
      (Rows.fnExactReadScriptSpec.post enc Tryz.prog Tryz.f4 false true false false) := by
  refine of_and_shaped (C := Tryz.checked) (X := fun w _ => laidMetH Tryz.prog Rows.fnExactReadScriptRow.laid w) (fun _ _ _ hh h => h.of_heap hh) own started (by kernel_rfl) Tryz.func4
    (ChangeSpec.witness_shaped (enc := enc) (C := Tryz.checked) (os := os) (X := fun w _ => laidMetH Tryz.prog Rows.fnExactReadScriptRow.laid w) false (World.laidAll Tryz.prog os Rows.fnExactReadScriptRow.laid) #[.string ByteArray.empty] 8 (World.laidAll_os _ _ _) (World.shaped_of_ZipB (by kernel_rfl) (by kernel_rfl)) (by kernel_rfl) (by kernel_rfl) (by kernel_rfl)
      (by rw [MakeChecks.laidMetH_plain _ _ _ (by kernel_rfl)]; exact laidMet_laidAll _ (by kernel_rfl) (by kernel_rfl))) ?_
  intro W base args ds gs before hval0 hW hL hsh
  have hval : ∀ (j : Nat) t v, Tryz.f4.params[j]? = some t → args[j]? = some v → Value.okWide Tryz.prog W .any base t v := hval0
  have hW' := hW
  obtain ⟨p, q, hA0, hV0, rfl, hfz, hnd⟩ := hW
  have hA : DataW.TrodAll enc Tryz.prog W 0 (fun _ => true) true Tryz.f4.params.toList args.toList ds p := hA0
  have hV : DataW.TrodVars enc Tryz.prog W (fun _ => true) ["loop.example/g00400/impl.errNoNumber"] gs q := hV0
  rw [Tryz.params4] at hA hval
  obtain ⟨v0, vs0, d0, ds0, p0, q0, hargs, rfl, rfl, h0, r0⟩ := trodAll_cons hA
  obtain ⟨rfl, rfl, rfl⟩ := trodAll_nil r0
  obtain rfl : args = #[v0] := by cases args; simp_all
  obtain ⟨a0, rfl, rfl, rfl, w0⟩ := open_string Tryz.underlying9 (hval 0 9 v0 rfl rfl) h0
  have hL0 : laidMet Tryz.prog Rows.fnExactReadScriptRow.laid W := by rw [← MakeChecks.laidMetH_plain _ _ _ (by kernel_rfl)]; exact hL
  have hT : Tab W := Lib.tabIs_of_head gPow tPow Tryz.underlying166 Tryz.underlying148 cells56 cells81 (laidMet.tail (laidMet.tail hL0))
  obtain ⟨xRange, hvRange⟩ := sent (laidMet.tail (laidMet.tail (laidMet.tail (laidMet.tail hL0)))) gRange tRange
  obtain ⟨xSyntax, hvSyntax⟩ := sent (laidMet.tail (laidMet.tail (laidMet.tail (laidMet.tail (laidMet.tail hL0))))) gSyntax tSyntax
  obtain ⟨xNumber, hvNumber⟩ := sent (laidMet.tail (laidMet.tail (laidMet.tail (laidMet.tail (laidMet.tail (laidMet.tail hL0)))))) gNumber tNumber
  obtain ⟨mx, hmx⟩ := max_len W hsh
  obtain ⟨rfl, rfl⟩ := hV.unique (vars_read1 enc gNumber tNumber Tryz.underlying80 hvNumber trivial _)
  clear hA0 hV0 hval0
  refine (walk a0 W w0 ⟨hT, ⟨_, _, hvSyntax⟩, ⟨_, _, hvRange⟩, ⟨_, _, cell_of_var gNumber hvNumber⟩⟩ mx hmx).mono fun e W' ⟨he, hb⟩ => ?_
  subst he
  refine ⟨_, rfl, _, _, _, [], ([] ++ []), [.cell 0 0], hW', ?_, ?_, ?_, Below.frame hb _, fun h => by cases h⟩
  · exact trodAll_mk1 (shut_bool Tryz.underlying4 _)
  · exact (trodAll_cons_mk (shut_string Tryz.underlying9 w0) trodAll_mk0)
  · exact vars_read1 enc gNumber tNumber Tryz.underlying80 (var_kept hb hvNumber) trivial _

theorem over : Rows.FnExactReadScriptSaid :=
  OpenClaim.holds_of_wide 4 Tryz.f4 rfl rfl rfl rfl rfl rfl rfl ⟨rfl, rfl, rfl, rfl, rfl⟩ rfl rfl rfl rfl rfl (by kernel_rfl) Tryz.func4 (by kernel_rfl)
    (of_decide_eq_true (by kernel_rfl)) (by unfold Func.isWrapper; first | (rw [if_pos (by decide +kernel)]; kernel_rfl) | (rw [if_neg (by decide +kernel)]; exact ⟨rfl, rfl⟩))
    (fun os started H enc _ => lifted os started H enc)
end Go.Proofs.YtkgpoghoilffhaaGreatDoor.fnExactReadScript
namespace Go.Proofs.YtkgpoghoilffhaaGreatDoor
theorem fnExactReadScript_holds : Rows.FnExactReadScriptCardSaid :=
  Claim7.holds_tied_plain_at .later [] Rows.fnExactReadScriptCard.laidKinds true Rows.fnExactReadScriptCard.stood.harness true
    fnExactReadScript.over (fun _ h => by cases h) (by kernel_rfl) (fun _ h => by cases h) fnExactReadScript_row_tie rfl ⟨rfl, rfl⟩ (by kernel_rfl) rfl
    (fun f fn hf hfn => by
      obtain rfl : f = 4 := Option.some.inj ((show Tryz.prog.funcNamed Rows.fnExactReadScriptRow.func = some 4 by kernel_rfl).symm.trans hf) |>.symm
      obtain rfl : fn = Tryz.f4 := (Option.some.inj (Tryz.func4.symm.trans hfn)).symm
      exact ⟨by kernel_rfl, fun j t ht => by
        rw [Tryz.params4] at ht
        have hm : t ∈ [9] := by simpa using Array.mem_of_getElem? ht
        have hall : ([9].all fun u => !Tryz.prog.wantsStandIn u) = true := by kernel_rfl
        exact (show Tryz.prog.wantsStandIn t = false by simpa using List.all_eq_true.1 hall t hm)⟩)
    (by kernel_rfl)
end Go.Proofs.YtkgpoghoilffhaaGreatDoor
