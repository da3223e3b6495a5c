/- FnExactApplyAll: at every book and list of events the program's ApplyAll answers as the model's, writes into no argument, and its answer owns its memory, behind another call too. -/
import Derived.Test.YtccdhcempnkgaaaGreatDoorPL49
import Derived.Test.YtccdhcempnkgaaaGreatDoorPL46
import Derived.Test.YtccdhcempnkgaaaGreatDoorPL47
import Derived.Test.YtccdhcempnkgaaaGreatDoorPL48
import Derived.Test.YtccdhcempnkgaaaGreatDoorPL37
import Derived.Test.YtccdhcempnkgaaaGreatDoorPL13
import Derived.Test.YtccdhcempnkgaaaGreatDoorCards
import Derived.Test.YtccdhcempnkgaaaGreatDoorTie
import Derived.WalkKit
import Derived.ProofKit
import Derived.OpenShut
import Derived.ShutString
import Derived.LaidMore
import Derived.Stop.Joined
import Derived.SevenTiedAt
import Derived.ChangeOld
import Derived.Below
namespace Go.Proofs.YtccdhcempnkgaaaGreatDoor.fnExactApplyAll
open Go.ChangeShapes Go.WideShapes Go.ChangeAt Go.RowKit
open Go.ChangeMaps (open_string shut_string)
set_option linter.unusedVariables false
theorem own:ownKnob Tryz.prog.godebug=none:=by kernel_rfl
theorem laidOut:laidOutB Tryz.prog=true:=by kernel_rfl
theorem gAmount:Tryz.prog.globalNamed "loop.example/g00400/impl.errNoAmount"=some 0:=by kernel_rfl
theorem tAmount:(Tryz.prog.globals[0]?).map (·.type)=some 222:=by kernel_rfl
theorem gDivisor:Tryz.prog.globalNamed "loop.example/g00400/impl.errNoDivisor"=some 2:=by kernel_rfl
theorem tDivisor:(Tryz.prog.globals[2]?).map (·.type)=some 222:=by kernel_rfl
theorem gRate:Tryz.prog.globalNamed "loop.example/g00400/impl.errNoRate"=some 1:=by kernel_rfl
theorem tRate:(Tryz.prog.globals[1]?).map (·.type)=some 222:=by kernel_rfl
theorem door_met (os:Os) (args:Array Value):laidMetH Tryz.prog Rows.fnExactApplyAllRow.laid ((World.doorLaid Tryz.prog 278 os).forCall (fun _ _=>0) ⟨#[],args,[]⟩).memory :=
 laidMetH_of_parts3 (fuel:=8) (laidMet_of_run' 8 (by kernel_rfl) (by kernel_rfl)) (by kernel_rfl) (by kernel_rfl)
set_option maxRecDepth 100000 in
theorem lifted (os:Os) (started:os.Started) (H:Type) (enc:TypeId × Value→H) :
 ReturnsInHanded {} Tryz.checked os 4 .any (fun w args=>(Rows.fnExactApplyAllSpec.pre enc Tryz.prog Tryz.f4 [] false w args∧laidMetH Tryz.prog Rows.fnExactApplyAllRow.laid w)∧sizedMet enc Tryz.prog Tryz.f4 (OpenSpec.ofChange Rows.fnExactApplyAllSpec) false w args)
  (Rows.fnExactApplyAllSpec.post enc Tryz.prog Tryz.f4 false true false false):=by
 refine returnsInHanded_of_change_and (C:=Tryz.checked) (X:=fun w _=>laidMetH Tryz.prog Rows.fnExactApplyAllRow.laid w) (fun _ _ _ hh h=>h.of_heap hh) own started (by kernel_rfl) Tryz.func4
  (ChangeSpec.witness_shaped (enc:=enc) (C:=Tryz.checked) (os:=os) (X:=fun w _=>laidMetH Tryz.prog Rows.fnExactApplyAllRow.laid w) false (World.doorLaid Tryz.prog 278 os) #[.agg #[.int .i64 0,.int .i64 0,.int .i64 0,.slice none 0 0,.slice none 0 0,.slice none 0 0],.slice none 0 0] 8 rfl (World.shaped_of_RefB (by kernel_rfl) (by kernel_rfl)) (by kernel_rfl) (by kernel_rfl) (by kernel_rfl) (door_met os _)) ?_
 intro W base args ds gs before hval0 hW _ hsz hL _
 have hval:∀ (j:Nat) t v,Tryz.f4.params[j]? = some t→args[j]? = some v→Value.okWide Tryz.prog W .any base t v:=hval0
 have hW':=hW
 obtain ⟨p,q,hA0,hV0,rfl,hfz,hnd⟩:=hW
 have hA:DataW.TrodAll enc Tryz.prog W 0 (fun _=>true) true Tryz.f4.params.toList args.toList ds p:=hA0
 have hV:DataW.TrodVars enc Tryz.prog W (fun _=>true) ["loop.example/g00400/impl.errNoRate","loop.example/g00400/impl.errNoAmount","loop.example/g00400/impl.errNoDivisor"] gs q:=hV0
 rw [Tryz.params4] at hA hval
 obtain ⟨v0,vs0,d0,ds0,p0,q0,hargs,rfl,rfl,h0,r0⟩:=trodAll_cons hA
 obtain ⟨v1,vs1,d1,ds1,p1,q1,rfl,rfl,rfl,h1,r1⟩:=trodAll_cons r0
 obtain ⟨rfl,rfl,rfl⟩:=trodAll_nil r1
 obtain rfl:args=#[v0,v1]:=by cases args;simp_all
 have k0:=h0
 have lt0:∀ x∈p0,x.block < W.heap.size:=by obtain ⟨m,hm⟩:=k0;exact DataW.trod_lt m _ _ _ hm
 obtain ⟨B0,rfl,hm0,hf0,hb0⟩:=book_row (hval 0 26 v0 rfl rfl) h0
 have k1:=h1
 have lt1:∀ x∈p1,x.block < W.heap.size:=by obtain ⟨m,hm⟩:=k1;exact DataW.trod_lt m _ _ _ hm
 obtain ⟨a1,cap1,L1,rfl,hc1,hf1,hl1⟩:=events_row (hval 1 48 v1 rfl rfl) h1
 have hL0:laidMet Tryz.prog Rows.fnExactApplyAllRow.laid W:=by rw [← MakeChecks.laidMetH_plain _ _ _ (by kernel_rfl)];exact hL
 obtain ⟨xAmount,hvAmount⟩:=sent hL0 gAmount tAmount
 obtain ⟨xDivisor,hvDivisor⟩:=sent (laidMet.tail hL0) gDivisor tDivisor
 obtain ⟨xRate,hvRate⟩:=sent (laidMet.tail (laidMet.tail hL0)) gRate tRate
 obtain ⟨rfl,rfl⟩:=hV.unique (vars_read3 enc gRate tRate hvRate trivial gAmount tAmount hvAmount trivial gDivisor tDivisor hvDivisor trivial _)
 clear hA0 hV0 hval0
 refine (walk B0 a1 cap1 L1 W hm0 hf0 hb0 hc1 hf1 hl1 _ _ (cell_of_var gAmount hvAmount) _ _ (cell_of_var gDivisor hvDivisor) _ _ (cell_of_var gRate hvRate)).mono fun e W' ⟨he,hb⟩=>?_
 subst he
 refine ⟨_,rfl,_,_,_,[],(p0++(p1++[])),[.cell 1 0,.cell 0 0,.cell 2 0],hW',?_,?_,?_,Below.frame hb _,fun h=>by cases h⟩
 ·exact trodAll_mk1 (shut_bool Tryz.underlying4 _)
 ·exact (trodAll_cons_mk (Below.trod laidOut (by kernel_rfl) (of_decide_eq_true (by kernel_rfl)) k0 hb lt0) (trodAll_cons_mk (Below.trod laidOut (by kernel_rfl) (of_decide_eq_true (by kernel_rfl)) k1 hb lt1) trodAll_mk0))
 ·exact vars_read3 enc gRate tRate (var_kept hb hvRate) trivial gAmount tAmount (var_kept hb hvAmount) trivial gDivisor tDivisor (var_kept hb hvDivisor) trivial _
theorem over:Rows.FnExactApplyAllSaid :=
 OpenClaim.holds_of_wide 4 Tryz.f4 rfl rfl rfl rfl rfl rfl rfl ⟨rfl,rfl,rfl,rfl,rfl⟩ rfl rfl rfl rfl rfl (by kernel_rfl) Tryz.func4 (by kernel_rfl)
  (of_decide_eq_true (by kernel_rfl)) (by unfold Func.isWrapper;first | (rw [if_pos (by decide +kernel)];kernel_rfl) | (rw [if_neg (by decide +kernel)];exact ⟨rfl,rfl⟩))
  (fun os started H enc _=>lifted os started H enc)
end Go.Proofs.YtccdhcempnkgaaaGreatDoor.fnExactApplyAll
namespace Go.Proofs.YtccdhcempnkgaaaGreatDoor
theorem fnExactApplyAll_holds:Rows.FnExactApplyAllCardSaid :=
 Claim7.holds_tied_plain_at .later [] Rows.fnExactApplyAllCard.laidKinds true Rows.fnExactApplyAllCard.stood.harness true
  fnExactApplyAll.over (fun _ h=>by cases h) (by kernel_rfl) (fun _ h=>by cases h) fnExactApplyAll_row_tie rfl ⟨rfl,rfl⟩ (by kernel_rfl) rfl
  (fun f fn hf hfn=>by
    obtain rfl:f=4:=Option.some.inj ((show Tryz.prog.funcNamed Rows.fnExactApplyAllRow.func=some 4 by kernel_rfl).symm.trans hf) |>.symm
    obtain rfl:fn=Tryz.f4:=(Option.some.inj (Tryz.func4.symm.trans hfn)).symm
    exact ⟨by kernel_rfl,fun j t ht=>by
     rw [Tryz.params4] at ht
     have hm:t∈[26,48]:=by simpa using Array.mem_of_getElem? ht
     have hall:([26,48].all fun u=>!Tryz.prog.wantsStandIn u)=true:=by kernel_rfl
     exact (show Tryz.prog.wantsStandIn t=false by simpa using List.all_eq_true.1 hall t hm)⟩)
  (by kernel_rfl)
end Go.Proofs.YtccdhcempnkgaaaGreatDoor
