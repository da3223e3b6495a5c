/- FnScript: the steps of a script, written and read again, are the same script. -/
import Derived.Test.YtkgpoghoilffhaaGreatDoorSC34
import Derived.Test.YtkgpoghoilffhaaGreatDoorSC14
import Derived.Test.YtkgpoghoilffhaaGreatDoorSC5
import Derived.Test.YtkgpoghoilffhaaGreatDoorSC9
import Derived.Test.YtkgpoghoilffhaaGreatDoorCards
import Derived.Test.YtkgpoghoilffhaaGreatDoorTie
import Derived.Shelf.Vars
import Derived.Lay
import Derived.WalkKit
import Derived.ProofKit
import Derived.OpenShut
import Derived.ShutString
import Derived.LaidMore
import Derived.Stop.Joined
import Derived.SevenTiedAt
import Derived.ChangeOld
import Derived.Below
namespace Go.Proofs.YtkgpoghoilffhaaGreatDoor.fnScript
open Go.ChangeShapes Go.WideShapes Go.ChangeAt Go.RowKit
open Go.ChangeMaps (open_string shut_string)
set_option linter.unusedVariables false
theorem own : ownKnob Tryz.prog.godebug = none := by kernel_rfl
theorem laidOut : laidOutB Tryz.prog = true := by kernel_rfl
theorem gRange : Tryz.prog.globalNamed "strconv.ErrRange" = some 4 := by kernel_rfl
theorem tRange : (Tryz.prog.globals[4]?).map (·.type) = some 80 := by kernel_rfl
theorem gSyntax : Tryz.prog.globalNamed "strconv.ErrSyntax" = some 3 := by kernel_rfl
theorem tSyntax : (Tryz.prog.globals[3]?).map (·.type) = some 80 := by kernel_rfl

set_option maxRecDepth 100000 in
set_option maxHeartbeats 8000000 in
theorem walk (a : Option Addr) (len cap : Nat) (w : World) (hr : RowAt w.heap.size w a len) (he : Env w) (mx : Int) (hm : w.cell? ⟨1, 0, none⟩ = some (.int .i64 mx)) :
    Calls Tryz.prog 3 #[.slice a len cap] w fun e w' => e = .returned (.bool true) ∧ Keeps w w' := by
  have HE := hide he
  have HM := hide hm
  have HRw := hide hr
  clear hr he hm
  by_cases hl : 1048576 < len
  · go_enter Tryz.func3, Tryz.ntmps3
    go_wp2_with fail
    go_ret
    exact ⟨rfl, Keeps.refl _⟩
  · have HDr := hide (drawscript_any a len cap w HRw.out (by omega))
    clear HRw
    go_enter Tryz.func3, Tryz.ntmps3
    go_wp2_with fail
    refine (unhide HDr).mono ?_
    rintro x w1 ⟨⟨s, rfl, hs⟩, hk⟩
    have HK := hide hk
    have hsz : s.size ≤ 1048576 := by omega
    clear hk HDr
    go_wp2_with fail
    refine (readscript_impl s w1 hsz (HE.out.kept HK.out) mx (HK.out.cell HM.out)).mono ?_
    rintro x w2 ⟨gs, ag, cg, rfl, hb, hd, hk⟩
    have HDg := hide hd
    have HBg := hide (sc_bounds hd)
    have HVg := hide (sc_valid hd)
    have HCg := hide (hb.toOwn.mem (ag, mcells gs) (List.mem_cons_self ..))
    have HMg : Hid (Mem w2 (gs.map Ms.seg)) := fun s hs => hb.toOwn.mem s (List.mem_cons_of_mem _ hs)
    replace HK := hide (HK.out.trans hk)
    clear hb hd hk
    go_wp2_with fail
    refine (readscript_spec s w2 hsz).mono ?_
    rintro x w3 ⟨ws, aw, cw, rfl, hb, hd, hk⟩
    have hle : gs.length = ws.length := by have := congrArg List.length (HDg.out.trans hd.symm); simpa using this
    have hne : ((gs.length : Int) != (ws.length : Int)) = false := by rw [hle]; simp
    have hne2 : ((ws.length : Int) != (ws.length : Int)) = false := by simp
    have hgl : gs.length ≤ 300 := HBg.out.1
    replace HCg := hide (HCg.out.kept hk)
    replace HMg := hide (HMg.out.kept hk)
    replace HK := hide (HK.out.trans hk)
    have HLE := hide hle
    clear hb hd hk hle
    go_wp2_with fail
    go_loopw [40] (fun y wr => ∃ i : Nat, i ≤ gs.length ∧ y = .int .i64 (i : Int) ∧ Hid (Keeps w3 wr)) (fun y _ => gs.length - (intOf y).toNat)
    case atStart => exact ⟨0, by omega, rfl, Keeps.refl _⟩
    case round =>
      obtain ⟨i, hi, rfl, HK3⟩ := hrel
      by_cases hlt : i < gs.length
      · obtain ⟨b, off, e1, c0, c1, c2, c3, c4, c5, c6, c7, c8, c9, c10, c11, c12, c13⟩ := ms_at (HCg.out.kept HK3.out) i hlt
        have HMi := hide ((mem_ms HMg.out i hlt).kept HK3.out)
        have hks := HBg.out.2 gs[i] (List.getElem_mem hlt)
        have hv := HVg.out gs[i] (List.getElem_mem hlt)
        have HEA := hide e1
        clear e1
        obtain rfl := HEA.out
        generalize gs[i] = x at *
        obtain ⟨⟨k, ⟨ek, ey, ec, et, em, ef, eb⟩, ks, ⟨lo, hi2, st, mi, ma⟩⟩, ka, kc⟩ := x
        dsimp only at c0 c1 c2 c3 c4 c5 c6 c7 c8 c9 c10 c11 c12 c13 HMi hks hv
        have HA := hide (Keeps.alloc (Keeps.refl wr) (.cells #[.int .i64 k, .int .i64 ek, .int .i64 ey, .int .i64 ec, .int .i64 et, .int .i64 em, .int .i64 ef, .bool eb, .slice ka ks.length kc, .int .i64 lo, .int .i64 hi2, .int .i64 st, .int .i64 mi, .int .i64 ma] 33))
        have HKA := hide (HK.out.trans (HK3.out.trans HA.out))
        have HS := hide (stept_impl ⟨k, ⟨ek, ey, ec, et, em, ef, eb⟩, ks, ⟨lo, hi2, st, mi, ma⟩⟩ ka kc _ (HMi.out.kept HA.out) hks (HE.out.tab.kept HKA.out))
        have HBX := hide (stp_box ⟨k, ⟨ek, ey, ec, et, em, ef, eb⟩, ks, ⟨lo, hi2, st, mi, ma⟩⟩ ka kc wr 33)
        obtain ⟨S, hSS⟩ : ∃ S : ByteArray, (⟨(stL ⟨k, ⟨ek, ey, ec, et, em, ef, eb⟩, ks, ⟨lo, hi2, st, mi, ma⟩⟩).toArray⟩ : ByteArray) = S := ⟨_, rfl⟩
        have hSl : S.data.toList = stT ⟨k, ⟨ek, ey, ec, et, em, ef, eb⟩, ks, ⟨lo, hi2, st, mi, ma⟩⟩ := by rw [← hSS, stL_yes hv.1]
        have hSz : S.size ≤ 1048576 := by
          have e2 : S.size = S.data.toList.length := by simp
          rw [e2, hSl]; exact hv.2
        have hSn : S.data.toList ≠ [] := by rw [hSl]; exact stT_ne hv.1
        have hSt : ¬ S.toList = [] := by rw [toList_data]; exact hSn
        have hSi : S.toList.isEmpty = false := by simpa using hSt
        have hSe : (S.toList == []) = false := by simpa using hSt
        rw [hSS] at HS
        have HSQ := hide (fun D2 ok h => ts_again (D2 := D2) (ok := ok) hv.1 hSl h)
        have HSB := hide hSS
        clear hSS hSl hSn hv
        go_wp2_with fail
        refine (unhide HS).mono ?_
        rintro _ w4 ⟨rfl, hk4⟩
        have HK4 := hide (HK3.out.trans (HA.out.trans hk4))
        clear hk4 HS c0 c1 c2 c3 c4 c5 c6 c7 c8 c9 c10 c11 c12 c13 HA HKA
        go_wp2_with fail
        refine (textstep_impl S w4 hSz (HE.out.kept (HK.out.trans HK4.out)) mx ((HK.out.trans HK4.out).cell HM.out)).mono ?_
        rintro _ w5 ⟨hp, hk5⟩
        obtain ⟨D2, ka2, kc2, ok, rfl, hb5, hq⟩ := ts_form hp
        obtain ⟨rfl, rfl⟩ := HSQ.out D2 ok hq
        have HO5 := hide (hb5.toOwn.one)
        have HK5 := hide (HK4.out.trans hk5)
        clear hp hq hb5 hk5 HBX
        have HA5 := hide (Keeps.alloc (Keeps.refl w5) (.cells #[.int .i64 k, .int .i64 ek, .int .i64 ey, .int .i64 ec, .int .i64 et, .int .i64 em, .int .i64 ef, .bool eb, .slice ka2 ks.length kc2, .int .i64 lo, .int .i64 hi2, .int .i64 st, .int .i64 mi, .int .i64 ma] 33))
        have HS5 := hide (stept_impl ⟨k, ⟨ek, ey, ec, et, em, ef, eb⟩, ks, ⟨lo, hi2, st, mi, ma⟩⟩ ka2 kc2 _ (HO5.out.kept HA5.out) hks (HE.out.tab.kept (HK.out.trans (HK5.out.trans HA5.out))))
        rw [HSB.out] at HS5
        go_wp2_with fail
        refine (unhide HS5).mono ?_
        rintro _ w6 ⟨rfl, hk6⟩
        have HK6 := hide (HK5.out.trans (HA5.out.trans hk6))
        clear hk6 HS5 HA5
        go_wp2_with fail
        go_roundw
        case rel => exact ⟨i + 1, by omega, by go_num, HK6⟩
        case measure => simp [intOf]; omega
      · go_wp2_with fail
        go_ret
        exact ⟨rfl, HK.out.trans HK3.out⟩

/-- The wrap for laid variables, the world's shape kept. -/
theorem of_and_shaped {H : Type} {enc : TypeId × Value → H} {a : Assume} {C : Checked} {os : Os} {f : FuncId} {fn : Func} {s : ChangeSpec} {conds : List PathCond} {apart fresh handsOn again : Bool} {X : World → Array Value → Prop}
    (hX : ∀ (w w' : World) (args : Array Value), w.heap = w'.heap → X w args → X w' args)
    (own : ownKnob C.prog.godebug = none) (started : os.Started) (noInit : C.prog.inits.idxOf? f = none) (hfn : C.prog.funcs[f]? = some fn)
    (witness : ∃ (w : World) (tape : Tape) (i : Input), w.os = os ∧ (w.forCall tape i).Shaped C.prog ∧ i.vars = [] ∧ Input.okWide C.prog (w.forCall tape i) .any w.heap.size f i ∧
      ((s.pre enc C.prog fn conds apart (w.forCall tape i).memory i.args ∧ X (w.forCall tape i).memory i.args) ∧ sizedMet enc C.prog fn (OpenSpec.ofChange s) apart (w.forCall tape i).memory i.args) ∧ a.holds C.prog (lone (Frame.enter C.prog f i.args .normal) [] (w.forCall tape i)))
    (contract : ∀ (W : World) (base : Nat) (args : Array Value) (ds gs : List (DataW H)) (before : List MemPlace),
      (∀ (j : Nat) t v, fn.params[j]? = some t → args[j]? = some v → Value.okWide C.prog W .any base t v) →
      DataW.Whole enc C.prog fn.params.toList s.vars apart W args.toList ds gs before →
      X W args → W.ShapedOpen C.prog →
      Calls C.prog f args W fun e W' => ∃ v, e = .returned v ∧ s.post enc C.prog fn apart fresh handsOn again W args v W') :
    ReturnsInHanded a C os f .any (fun w args => (s.pre enc C.prog fn conds apart w args ∧ X w args) ∧ sizedMet enc C.prog fn (OpenSpec.ofChange s) apart w args) (s.post enc C.prog fn apart fresh handsOn again) := by
  refine returnsInHanded_of_calls own started noInit witness ?_
  intro w tape i _ hsh _ hok hpre _
  obtain ⟨_, _, _, fn', hfn', _, _, _, _, hval⟩ := hok
  obtain rfl : fn' = fn := Option.some.inj (hfn'.symm.trans hfn)
  obtain ⟨⟨⟨ds, gs, before, hw, _⟩, hx⟩, _⟩ := hpre
  refine (contract (w.forCall tape i) w.heap.size i.args ds gs before hval (DataW.Whole.of_heap (w' := w.forCall tape i) (by rfl) hw) (hX _ _ _ (by rfl) hx) hsh).mono fun e W' ⟨v, he, hp⟩ => ?_
  subst he
  exact ChangeSpec.post_blind hp
theorem max_len (w : World) (h : w.ShapedOpen Tryz.prog) : ∃ m, w.cell? ⟨1, 0, none⟩ = some (.int .i64 m) :=
  Go.Proofs.cell_of_shapedOpen_int (zero := #[.int .i64 0]) (t := 3) h (of_decide_eq_true (by kernel_rfl)) (by kernel_rfl) rfl (by kernel_rfl) (by kernel_rfl) Tryz.underlying3
set_option maxRecDepth 100000 in
theorem lifted (os : Os) (started : os.Started) (H : Type) (enc : TypeId × Value → H) :
    ReturnsInHanded {} Tryz.checked os 3 .any (fun w args => (Rows.fnScriptSpec.pre enc Tryz.prog Tryz.f3 [] false w args ∧ laidMetH Tryz.prog Rows.fnScriptRow.laid w) ∧ sizedMet enc Tryz.prog Tryz.f3 (OpenSpec.ofChange Rows.fnScriptSpec) false w args)
      (Rows.fnScriptSpec.post enc Tryz.prog Tryz.f3 false true false false) := by
  refine of_and_shaped (C := Tryz.checked) (X := fun w _ => laidMetH Tryz.prog Rows.fnScriptRow.laid w) (fun _ _ _ hh h => h.of_heap hh) own started (by kernel_rfl) Tryz.func3
    (ChangeSpec.witness_shaped (enc := enc) (C := Tryz.checked) (os := os) (X := fun w _ => laidMetH Tryz.prog Rows.fnScriptRow.laid w) false (World.laidAll Tryz.prog os Rows.fnScriptRow.laid) #[.slice none 0 0] 8 (World.laidAll_os _ _ _) (World.shaped_of_ZipB (by kernel_rfl) (by kernel_rfl)) (by kernel_rfl) (by kernel_rfl) (by kernel_rfl)
      (by rw [MakeChecks.laidMetH_plain _ _ _ (by kernel_rfl)]; exact laidMet_laidAll _ (by kernel_rfl) (by kernel_rfl))) ?_
  intro W base args ds gs before hval0 hW hL hsh
  have hval : ∀ (j : Nat) t v, Tryz.f3.params[j]? = some t → args[j]? = some v → Value.okWide Tryz.prog W .any base t v := hval0
  have hW' := hW
  obtain ⟨p, q, hA0, hV0, rfl, hfz, hnd⟩ := hW
  have hA : DataW.TrodAll enc Tryz.prog W 0 (fun _ => true) true Tryz.f3.params.toList args.toList ds p := hA0
  have hV : DataW.TrodVars enc Tryz.prog W (fun _ => true) ["loop.example/g00400/impl.errNoNumber"] gs q := hV0
  rw [Tryz.params3] at hA hval
  obtain ⟨v0, vs0, d0, ds0, p0, q0, hargs, rfl, rfl, h0, r0⟩ := trodAll_cons hA
  obtain ⟨rfl, rfl, rfl⟩ := trodAll_nil r0
  obtain rfl : args = #[v0] := by cases args; simp_all
  have k0 := h0
  have lt0 : ∀ x ∈ p0, x.block < W.heap.size := by obtain ⟨m, hm⟩ := k0; exact DataW.trod_lt m _ _ _ hm
  obtain ⟨a0, len0, cap0, rfl⟩ := okWide_slice Tryz.underlying22 (hval 0 22 v0 rfl rfl)
  have w0 : RowAt W.heap.size W a0 len0 := by
    obtain ⟨fuel, hf⟩ := h0
    rcases open_ints Tryz.underlying22 Tryz.underlying5 (by kernel_rfl) hf with ⟨hcs, _⟩ | ⟨x, l, c, zs, hcs, _, hl, hm, hz, _, hcell, hwz⟩
    · simp [Value.cells] at hcs
      obtain ⟨rfl, rfl, rfl⟩ := hcs
      exact row_nil
    · simp [Value.cells] at hcs
      obtain ⟨rfl, rfl, rfl⟩ := hcs
      exact row_of hl (by simpa using hz) hcell hwz
  have hL0 : laidMet Tryz.prog Rows.fnScriptRow.laid W := by rw [← MakeChecks.laidMetH_plain _ _ _ (by kernel_rfl)]; exact hL
  have hT : Tab W := Lib.tabIs_of_head gPow tPow Tryz.underlying166 Tryz.underlying148 cells56 cells81 (laidMet.tail (laidMet.tail hL0))
  obtain ⟨xRange, hvRange⟩ := sent (laidMet.tail (laidMet.tail (laidMet.tail (laidMet.tail hL0)))) gRange tRange
  obtain ⟨xSyntax, hvSyntax⟩ := sent (laidMet.tail (laidMet.tail (laidMet.tail (laidMet.tail (laidMet.tail hL0))))) gSyntax tSyntax
  obtain ⟨xNumber, hvNumber⟩ := sent (laidMet.tail (laidMet.tail (laidMet.tail (laidMet.tail (laidMet.tail (laidMet.tail hL0)))))) gNumber tNumber
  obtain ⟨mx, hmx⟩ := max_len W hsh
  obtain ⟨rfl, rfl⟩ := hV.unique (vars_read1 enc gNumber tNumber Tryz.underlying80 hvNumber trivial _)
  clear hA0 hV0 hval0
  refine (walk a0 len0 cap0 W w0 ⟨hT, ⟨_, _, hvSyntax⟩, ⟨_, _, hvRange⟩, ⟨_, _, cell_of_var gNumber hvNumber⟩⟩ mx hmx).mono fun e W' ⟨he, hb⟩ => ?_
  subst he
  refine ⟨_, rfl, _, _, _, [], (p0 ++ []), [.cell 0 0], hW', ?_, ?_, ?_, Below.frame hb _, fun h => by cases h⟩
  · exact trodAll_mk1 (shut_bool Tryz.underlying4 _)
  · exact (trodAll_cons_mk (Below.trod laidOut (by kernel_rfl) (of_decide_eq_true (by kernel_rfl)) k0 hb lt0) trodAll_mk0)
  · exact vars_read1 enc gNumber tNumber Tryz.underlying80 (var_kept hb hvNumber) trivial _

theorem over : Rows.FnScriptSaid :=
  OpenClaim.holds_of_wide 3 Tryz.f3 rfl rfl rfl rfl rfl rfl rfl ⟨rfl, rfl, rfl, rfl, rfl⟩ rfl rfl rfl rfl rfl (by kernel_rfl) Tryz.func3 (by kernel_rfl)
    (of_decide_eq_true (by kernel_rfl)) (by unfold Func.isWrapper; first | (rw [if_pos (by decide +kernel)]; kernel_rfl) | (rw [if_neg (by decide +kernel)]; exact ⟨rfl, rfl⟩))
    (fun os started H enc _ => lifted os started H enc)
end Go.Proofs.YtkgpoghoilffhaaGreatDoor.fnScript
namespace Go.Proofs.YtkgpoghoilffhaaGreatDoor
theorem fnScript_holds : Rows.FnScriptCardSaid :=
  Claim7.holds_tied_plain_at .later [] Rows.fnScriptCard.laidKinds true Rows.fnScriptCard.stood.harness true
    fnScript.over (fun _ h => by cases h) (by kernel_rfl) (fun _ h => by cases h) fnScript_row_tie rfl ⟨rfl, rfl⟩ (by kernel_rfl) rfl
    (fun f fn hf hfn => by
      obtain rfl : f = 3 := Option.some.inj ((show Tryz.prog.funcNamed Rows.fnScriptRow.func = some 3 by kernel_rfl).symm.trans hf) |>.symm
      obtain rfl : fn = Tryz.f3 := (Option.some.inj (Tryz.func3.symm.trans hfn)).symm
      exact ⟨by kernel_rfl, fun j t ht => by
        rw [Tryz.params3] at ht
        have hm : t ∈ [22] := by simpa using Array.mem_of_getElem? ht
        have hall : ([22].all fun u => !Tryz.prog.wantsStandIn u) = true := by kernel_rfl
        exact (show Tryz.prog.wantsStandIn t = false by simpa using List.all_eq_true.1 hall t hm)⟩)
    (by kernel_rfl)
end Go.Proofs.YtkgpoghoilffhaaGreatDoor
