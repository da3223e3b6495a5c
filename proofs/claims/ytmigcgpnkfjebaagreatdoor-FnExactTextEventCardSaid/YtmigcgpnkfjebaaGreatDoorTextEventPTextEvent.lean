/- For every text the program's TextEvent and the model's answer the same event and the same word. -/
import Derived.Test.YtmigcgpnkfjebaaGreatDoorPTextEvent8
import Derived.Test.YtmigcgpnkfjebaaGreatDoorPTextEvent7
import Derived.Test.YtmigcgpnkfjebaaGreatDoorPTextEvent4
import Derived.Test.YtmigcgpnkfjebaaGreatDoorPTextEvent5
import Derived.Test.YtmigcgpnkfjebaaGreatDoorCards
import Derived.Test.YtmigcgpnkfjebaaGreatDoorTie
import Derived.Shelf.Vars
import Derived.Lay
import Derived.WalkKit
import Derived.ProofKit
import Derived.OpenShut
import Derived.ShutString
import Derived.LaidMore
import Derived.Stop.Joined
import Derived.SevenTiedAt
import Derived.ChangeOld
import Derived.Below
namespace Go.Proofs.YtmigcgpnkfjebaaGreatDoor.fnExactTextEvent
open Go.ChangeShapes Go.WideShapes Go.ChangeAt Go.RowKit
open Go.ChangeMaps (open_string shut_string)
set_option linter.unusedVariables false
theorem own : ownKnob Tryz.prog.godebug = none := by kernel_rfl
theorem laidOut : laidOutB Tryz.prog = true := by kernel_rfl
theorem gRange : Tryz.prog.globalNamed "strconv.ErrRange" = some 5 := by kernel_rfl
theorem tRange : (Tryz.prog.globals[5]?).map (·.type) = some 75 := by kernel_rfl
theorem gSyntax : Tryz.prog.globalNamed "strconv.ErrSyntax" = some 4 := by kernel_rfl
theorem tSyntax : (Tryz.prog.globals[4]?).map (·.type) = some 75 := by kernel_rfl

theorem te_form {s : ByteArray} {x : Ending} (h : TePost s x) : ∃ (k y c t m f : Int) (b r : Bool), x = .returned (.tuple #[evV k y c t m f b, .bool r]) := by
  rcases h with ⟨k, y, c, t, m, f, b, _, _, rfl⟩ | ⟨_, rfl⟩
  · exact ⟨_, _, _, _, _, _, _, _, rfl⟩
  · exact ⟨_, _, _, _, _, _, _, _, rfl⟩
set_option maxHeartbeats 2000000 in
theorem walk (s : ByteArray) (w : World) (hs : s.size ≤ maxLen) (he : Env w) (mx : Int) (hm : w.cell? ⟨1, 0, none⟩ = some (.int .i64 mx)) :
    Calls Tryz.prog 3 #[.string s] w fun e w' => e = .returned (.bool true) ∧ Keeps w w' := by
  have HE := hide he
  have HM := hide hm
  have hmm : s.size ≤ 9223372036854775807 := hs
  clear he hm hs
  by_cases hl : 1048576 < s.size
  · go_enter Tryz.func3, Tryz.ntmps3
    go_wp2_with fail
    go_ret
    exact ⟨rfl, Keeps.refl _⟩
  · have HS := hide (fun w1 => te_spec s w1 (by omega))
    have HI := hide (fun w1 (h : Keeps w w1) => te_impl s w1 (by omega) (HE.out.kept h) mx (h.cell HM.out))
    go_enter Tryz.func3, Tryz.ntmps3
    go_wp2_with fail
    refine (unhide HS _).mono ?_
    rintro e w1 ⟨hp, hk1⟩
    have HP := hide hp
    obtain ⟨k, y, c, t, m, f, b, r, hx⟩ := te_form hp
    rw [hx] at HP
    subst hx
    have HKB := hide (Keeps.alloc (Keeps.refl w1) (.cells #[.int .i64 k, .int .i64 y, .int .i64 c, .int .i64 t, .int .i64 m, .int .i64 f, .bool b] 23))
    have HK1 := hide hk1
    have hbX := born_alloc w1 #[.int .i64 k, .int .i64 y, .int .i64 c, .int .i64 t, .int .i64 m, .int .i64 f, .bool b] 23
    have HC := hide hbX.mem
    clear hp hk1 hbX
    go_wp2_with fail
    refine (unhide HI _ (HK1.out.trans HKB.out)).mono ?_
    rintro e w2 ⟨hp', hk2⟩
    obtain rfl := te_same hp' HP.out
    have HC2 := hide (HC.out.kept hk2)
    have d0 := cell_at HC2.out 0 (by simp)
    have d1 := cell_at HC2.out 1 (by simp)
    have d2 := cell_at HC2.out 2 (by simp)
    have d3 := cell_at HC2.out 3 (by simp)
    have d4 := cell_at HC2.out 4 (by simp)
    have d5 := cell_at HC2.out 5 (by simp)
    have d6 := cell_at HC2.out 6 (by simp)
    simp only [Nat.zero_add, List.getElem_cons_zero, List.getElem_cons_succ] at d0 d1 d2 d3 d4 d5 d6
    have hz := lt_of_cell d0
    have HK2 := hide ((HK1.out.trans HKB.out).trans hk2)
    have HQ := hide (fun w1 => eqEvent_same k y c t m f b w1)
    clear hp' hk2 HP HS HI HKB HK1 HC HC2
    go_wp2_with fail
    refine (unhide HQ _).mono ?_
    rintro e w3 ⟨rfl, hk3⟩
    have HK3 := hide ((Keeps.alloc HK2.out _).trans hk3)
    clear hk3
    cases r
    · go_wp2_with fail
      go_ret
      exact ⟨rfl, HK3.out⟩
    · go_wp2_with fail
      go_ret
      exact ⟨rfl, HK3.out⟩

/-- The wrap for laid variables, the world's shape kept. -/
theorem of_and_shaped {H : Type} {enc : TypeId × Value → H} {a : Assume} {C : Checked} {os : Os} {f : FuncId} {fn : Func} {s : ChangeSpec} {conds : List PathCond} {apart fresh handsOn again : Bool} {X : World → Array Value → Prop}
    (hX : ∀ (w w' : World) (args : Array Value), w.heap = w'.heap → X w args → X w' args)
    (own : ownKnob C.prog.godebug = none) (started : os.Started) (noInit : C.prog.inits.idxOf? f = none) (hfn : C.prog.funcs[f]? = some fn)
    (witness : ∃ (w : World) (tape : Tape) (i : Input), w.os = os ∧ (w.forCall tape i).Shaped C.prog ∧ i.vars = [] ∧ Input.okWide C.prog (w.forCall tape i) .any w.heap.size f i ∧
      ((s.pre enc C.prog fn conds apart (w.forCall tape i).memory i.args ∧ X (w.forCall tape i).memory i.args) ∧ sizedMet enc C.prog fn (OpenSpec.ofChange s) apart (w.forCall tape i).memory i.args) ∧ a.holds C.prog (lone (Frame.enter C.prog f i.args .normal) [] (w.forCall tape i)))
    (contract : ∀ (W : World) (base : Nat) (args : Array Value) (ds gs : List (DataW H)) (before : List MemPlace),
      (∀ (j : Nat) t v, fn.params[j]? = some t → args[j]? = some v → Value.okWide C.prog W .any base t v) →
      DataW.Whole enc C.prog fn.params.toList s.vars apart W args.toList ds gs before →
      X W args → W.ShapedOpen C.prog →
      Calls C.prog f args W fun e W' => ∃ v, e = .returned v ∧ s.post enc C.prog fn apart fresh handsOn again W args v W') :
    ReturnsInHanded a C os f .any (fun w args => (s.pre enc C.prog fn conds apart w args ∧ X w args) ∧ sizedMet enc C.prog fn (OpenSpec.ofChange s) apart w args) (s.post enc C.prog fn apart fresh handsOn again) := by
  refine returnsInHanded_of_calls own started noInit witness ?_
  intro w tape i _ hsh _ hok hpre _
  obtain ⟨_, _, _, fn', hfn', _, _, _, _, hval⟩ := hok
  obtain rfl : fn' = fn := Option.some.inj (hfn'.symm.trans hfn)
  obtain ⟨⟨⟨ds, gs, before, hw, _⟩, hx⟩, _⟩ := hpre
  refine (contract (w.forCall tape i) w.heap.size i.args ds gs before hval (DataW.Whole.of_heap (w' := w.forCall tape i) (by rfl) hw) (hX _ _ _ (by rfl) hx) hsh).mono fun e W' ⟨v, he, hp⟩ => ?_
  subst he
  exact ChangeSpec.post_blind hp
theorem max_len (w : World) (h : w.ShapedOpen Tryz.prog) : ∃ m, w.cell? ⟨1, 0, none⟩ = some (.int .i64 m) :=
  Go.Proofs.cell_of_shapedOpen_int (zero := #[.int .i64 0]) (t := 3) h (of_decide_eq_true (by kernel_rfl)) (by kernel_rfl) rfl (by kernel_rfl) (by kernel_rfl) Tryz.underlying3
set_option maxRecDepth 100000 in
theorem lifted (os : Os) (started : os.Started) (H : Type) (enc : TypeId × Value → H) :
    ReturnsInHanded {} Tryz.checked os 3 .any (fun w args => (Rows.fnExactTextEventSpec.pre enc Tryz.prog Tryz.f3 [] false w args ∧ laidMetH Tryz.prog Rows.fnExactTextEventRow.laid w) ∧ sizedMet enc Tryz.prog Tryz.f3 (OpenSpec.ofChange Rows.fnExactTextEventSpec) false w args)
      (Rows.fnExactTextEventSpec.post enc Tryz.prog Tryz.f3 false true false false) := by
  refine of_and_shaped (C := Tryz.checked) (X := fun w _ => laidMetH Tryz.prog Rows.fnExactTextEventRow.laid w) (fun _ _ _ hh h => h.of_heap hh) own started (by kernel_rfl) Tryz.func3
    (ChangeSpec.witness_shaped (enc := enc) (C := Tryz.checked) (os := os) (X := fun w _ => laidMetH Tryz.prog Rows.fnExactTextEventRow.laid w) false (World.laidAll Tryz.prog os Rows.fnExactTextEventRow.laid) #[.string ByteArray.empty] 8 (World.laidAll_os _ _ _) (World.shaped_of_ZipB (by kernel_rfl) (by kernel_rfl)) (by kernel_rfl) (by kernel_rfl) (by kernel_rfl)
      (by rw [MakeChecks.laidMetH_plain _ _ _ (by kernel_rfl)]; exact laidMet_laidAll _ (by kernel_rfl) (by kernel_rfl))) ?_
  intro W base args ds gs before hval0 hW hL hsh
  have hval : ∀ (j : Nat) t v, Tryz.f3.params[j]? = some t → args[j]? = some v → Value.okWide Tryz.prog W .any base t v := hval0
  have hW' := hW
  obtain ⟨p, q, hA0, hV0, rfl, hfz, hnd⟩ := hW
  have hA : DataW.TrodAll enc Tryz.prog W 0 (fun _ => true) true Tryz.f3.params.toList args.toList ds p := hA0
  have hV : DataW.TrodVars enc Tryz.prog W (fun _ => true) ["loop.example/g00400/impl.errNoNumber"] gs q := hV0
  rw [Tryz.params3] at hA hval
  obtain ⟨v0, vs0, d0, ds0, p0, q0, hargs, rfl, rfl, h0, r0⟩ := trodAll_cons hA
  obtain ⟨rfl, rfl, rfl⟩ := trodAll_nil r0
  obtain rfl : args = #[v0] := by cases args; simp_all
  obtain ⟨a0, rfl, rfl, rfl, w0⟩ := open_string Tryz.underlying9 (hval 0 9 v0 rfl rfl) h0
  have hL0 : laidMet Tryz.prog Rows.fnExactTextEventRow.laid W := by rw [← MakeChecks.laidMetH_plain _ _ _ (by kernel_rfl)]; exact hL
  have hT : Tab W := Lib.tabIs_of_head gPow tPow Tryz.underlying117 Tryz.underlying98 cells56 cells81 (laidMet.tail (laidMet.tail hL0))
  obtain ⟨xRange, hvRange⟩ := sent (laidMet.tail (laidMet.tail (laidMet.tail (laidMet.tail hL0)))) gRange tRange
  obtain ⟨xSyntax, hvSyntax⟩ := sent (laidMet.tail (laidMet.tail (laidMet.tail (laidMet.tail (laidMet.tail hL0))))) gSyntax tSyntax
  obtain ⟨xNumber, hvNumber⟩ := sent (laidMet.tail (laidMet.tail (laidMet.tail (laidMet.tail (laidMet.tail (laidMet.tail hL0)))))) gNumber tNumber
  obtain ⟨mx, hmx⟩ := max_len W hsh
  obtain ⟨rfl, rfl⟩ := hV.unique (vars_read1 enc gNumber tNumber Tryz.underlying75 hvNumber trivial _)
  clear hA0 hV0 hval0
  refine (walk a0 W w0 ⟨hT, ⟨_, _, hvSyntax⟩, ⟨_, _, hvRange⟩, ⟨_, _, cell_of_var gNumber hvNumber⟩⟩ mx hmx).mono fun e W' ⟨he, hb⟩ => ?_
  subst he
  refine ⟨_, rfl, _, _, _, [], ([] ++ []), [.cell 0 0], hW', ?_, ?_, ?_, Below.frame hb _, fun h => by cases h⟩
  · exact trodAll_mk1 (shut_bool Tryz.underlying4 _)
  · exact (trodAll_cons_mk (shut_string Tryz.underlying9 w0) trodAll_mk0)
  · exact vars_read1 enc gNumber tNumber Tryz.underlying75 (var_kept hb hvNumber) trivial _

theorem over : Rows.FnExactTextEventSaid :=
  OpenClaim.holds_of_wide 3 Tryz.f3 rfl rfl rfl rfl rfl rfl rfl ⟨rfl, rfl, rfl, rfl, rfl⟩ rfl rfl rfl rfl rfl (by kernel_rfl) Tryz.func3 (by kernel_rfl)
    (of_decide_eq_true (by kernel_rfl)) (by unfold Func.isWrapper; first | (rw [if_pos (by decide +kernel)]; kernel_rfl) | (rw [if_neg (by decide +kernel)]; exact ⟨rfl, rfl⟩))
    (fun os started H enc _ => lifted os started H enc)
end Go.Proofs.YtmigcgpnkfjebaaGreatDoor.fnExactTextEvent
namespace Go.Proofs.YtmigcgpnkfjebaaGreatDoor
theorem fnExactTextEvent_holds : Rows.FnExactTextEventCardSaid :=
  Claim7.holds_tied_plain_at .later [] Rows.fnExactTextEventCard.laidKinds true Rows.fnExactTextEventCard.stood.harness true
    fnExactTextEvent.over (fun _ h => by cases h) (by kernel_rfl) (fun _ h => by cases h) fnExactTextEvent_row_tie rfl ⟨rfl, rfl⟩ (by kernel_rfl) rfl
    (fun f fn hf hfn => by
      obtain rfl : f = 3 := Option.some.inj ((show Tryz.prog.funcNamed Rows.fnExactTextEventRow.func = some 3 by kernel_rfl).symm.trans hf) |>.symm
      obtain rfl : fn = Tryz.f3 := (Option.some.inj (Tryz.func3.symm.trans hfn)).symm
      exact ⟨by kernel_rfl, fun j t ht => by
        rw [Tryz.params3] at ht
        have hm : t ∈ [9] := by simpa using Array.mem_of_getElem? ht
        have hall : ([9].all fun u => !Tryz.prog.wantsStandIn u) = true := by kernel_rfl
        exact (show Tryz.prog.wantsStandIn t = false by simpa using List.all_eq_true.1 hall t hm)⟩)
    (by kernel_rfl)
end Go.Proofs.YtmigcgpnkfjebaaGreatDoor
