/- FnSector: a sector is read as it was written. -/
import Derived.Test.YtmjgddgpoecpmaaDoorSent
import Derived.Test.YtmjgddgpoecpmaaDoorSeM
import Derived.Test.YtmjgddgpoecpmaaDoorCards
import Derived.Test.YtmjgddgpoecpmaaDoorTie
import Derived.WalkKit
import Derived.ProofKit
import Derived.OpenShut
import Derived.ShutString
import Derived.LaidMore
import Derived.Stop.Joined
import Derived.SevenTiedAt
import Derived.ChangeOld
import Derived.Below
namespace Go.Proofs.YtmjgddgpoecpmaaDoor.fnSector
open Go.ChangeShapes Go.WideShapes Go.ChangeAt Go.RowKit
open Go.ChangeMaps (open_string shut_string)
set_option linter.unusedVariables false
theorem own : ownKnob Tryd.prog.godebug = none := by kernel_rfl
theorem laidOut : laidOutB Tryd.prog = true := by kernel_rfl
theorem gGaveUp : Tryd.prog.globalNamed "loop.example/g00400/impl.errGaveUp" = some 1 := by kernel_rfl
theorem tGaveUp : (Tryd.prog.globals[1]?).map (·.type) = some 66 := by kernel_rfl
theorem door_met (os : Os) (args : Array Value) : laidMetH Tryd.prog Rows.fnSectorRow.laid ((World.doorLaid Tryd.prog 147 os).forCall (fun _ _ => 0) ⟨#[], args, []⟩).memory :=
  laidMetH_of_parts3 (fuel := 8) (laidMet_of_run' 8 (by kernel_rfl) (by kernel_rfl)) (by kernel_rfl) (by kernel_rfl)

set_option maxHeartbeats 2000000 in
theorem walk (a : Option Addr) (len cap : Nat) (w : World) (hr : RowAt w.heap.size w a len) (u : TypeId) (pv : Value) (hv : w.cell? ⟨1, 0, none⟩ = some (.iface u pv)) :
    Calls Tryd.prog 4 #[.slice a len cap] w fun e w' => e = .returned (.bool true) ∧ Keeps w w' := by
  have HV := hide hv
  have HRw := hide hr
  clear hv hr
  by_cases hl : 1048576 < len
  · go_enter Tryd.func4, Tryd.ntmps4
    go_wp2_with fail
    go_ret
    exact ⟨rfl, Keeps.refl _⟩
  · have HD := hide (draw_sec a len cap w HRw.out (by omega))
    clear HRw
    go_enter Tryd.func4, Tryd.ntmps4
    go_wp2_with fail
    refine (unhide HD).mono ?_
    rintro x w1 ⟨⟨q, e, p, l, c, L, hl1, rfl, HO⟩, hk1⟩
    have HLL := hide HO.out.1
    have hOL := HO.out.2
    obtain ⟨p', c', hpc, _, _, hpn, hown, _⟩ := Own.of_owns hOL
    injection hpc with e1 e2 e3
    subst e1 e3
    have HC1 := hide (hown.one.kept (Keeps.alloc (Keeps.refl w1) (.cells #[.int .i64 q, .int .i64 e, .slice p l c] 24)))
    have HI : Hid (∀ w2, Cells w2 p (bys L) → Calls Tryd.prog 9 #[.agg #[.int .i64 q, .int .i64 e, .slice p l c]] w2 (SecPost w2 q e L)) := by
      intro w2 h
      have h2 := secbytes_impl q e p c L w2 h hpn (by rw [HLL.out]; omega)
      rw [HLL.out] at h2
      exact h2
    have HOK := hide (fun w2 => secok_spec q e p l c w2 (by omega))
    have HK1 := hide (hk1.trans (Keeps.alloc (Keeps.refl w1) (.cells #[.int .i64 q, .int .i64 e, .slice p l c] 24)))
    clear hk1 HD HO hOL hpn hown e2
    cases hb : secB q e l
    · have HM : Hid (secR q e L = [] ∧ secB q e L.length = false) := by
        show _ ∧ _
        rw [HLL.out]
        refine ⟨?_, hb⟩
        unfold secR
        rw [HLL.out, hb]; rfl
      rw [hb] at HOK
      clear hb
      go_wp2_with fail
      refine (unhide HI _ HC1.out).mono ?_
      rintro x w2 ⟨v, rfl, ho, hk2⟩
      rw [HM.out.1] at ho
      rw [HM.out.2]
      have HO2 := hide ho
      obtain ⟨a2, c2, rfl, _⟩ := Own.of_owns ho
      have HK2 := hide (HK1.out.trans hk2)
      have d0 := hk2.cell (p := ⟨w1.heap.size, 0, none⟩) (v := .int .i64 q) (by simp)
      have d1 := hk2.cell (p := ⟨w1.heap.size, 1, none⟩) (v := .int .i64 e) (by simp)
      have d2 := hk2.cell (p := ⟨w1.heap.size, 2, none⟩) (v := .slice p l c) (by simp)
      clear hk2 ho
      go_wp2_with fail
      refine (unhide HOK _).mono ?_
      rintro x w3 ⟨rfl, hk3⟩
      have HK3 := hide (HK2.out.trans hk3)
      have HO3 := hide (hk3.ownsB HO2.out)
      clear hk3
      go_wp2_with fail
      refine (secread_own u pv (HK3.out.cell HV.out) HO3.out (by simp)).mono ?_
      rintro x w4 ⟨a4, c4, rfl, _, _, hk4⟩
      have HK4 := hide (HK3.out.trans hk4)
      have z1 : srB [] = false := by simp [srB]
      have z2 : srQ [] = 0 := by simp [srQ, z1]
      have z3 : srE [] = 0 := by simp [srE, z1]
      have z4 : srL [] = [] := by simp [srL, z1]
      rw [z1, z2, z3, z4]
      have HK5 := hide (Keeps.alloc HK4.out (.cells #[.int .i64 0, .int .i64 0, .slice a4 0 c4] 24))
      clear hk4 z1 z2 z3 z4
      go_wp2_with fail
      go_ret
      exact ⟨rfl, HK5.out⟩
    · have HB : Hid (srB (secR q e L) = true ∧ srQ (secR q e L) = q ∧ srE (secR q e L) = e ∧ srL (secR q e L) = L ∧ (secR q e L).length = 128) := sec_back (by rw [HLL.out]; exact hb)
      have HM : Hid (secB q e L.length = true) := by show _ = _; rw [HLL.out]; exact hb
      rw [hb] at HOK
      clear hb
      go_wp2_with fail
      refine (unhide HI _ HC1.out).mono ?_
      rintro x w2 ⟨v, rfl, ho, hk2⟩
      rw [HM.out]
      have HO2 := hide ho
      obtain ⟨a2, c2, rfl, _⟩ := Own.of_owns ho
      rw [HB.out.2.2.2.2]
      replace HO2 : Hid (OwnsB w2 (w1.alloc (.cells #[.int .i64 q, .int .i64 e, .slice p l c] 24)).heap.size (.slice a2 128 c2) (secR q e L)) := by
        have h := HO2.out
        rw [HB.out.2.2.2.2] at h
        exact h
      have HK2 := hide (HK1.out.trans hk2)
      have HC2 := hide (HC1.out.kept hk2)
      have d0 := hk2.cell (p := ⟨w1.heap.size, 0, none⟩) (v := .int .i64 q) (by simp)
      have d1 := hk2.cell (p := ⟨w1.heap.size, 1, none⟩) (v := .int .i64 e) (by simp)
      have d2 := hk2.cell (p := ⟨w1.heap.size, 2, none⟩) (v := .slice p l c) (by simp)
      clear hk2 ho
      go_wp2_with fail
      refine (unhide HOK _).mono ?_
      rintro x w3 ⟨rfl, hk3⟩
      have HK3 := hide (HK2.out.trans hk3)
      have HC3 := hide (HC2.out.kept hk3)
      have HO3 := hide (hk3.ownsB HO2.out)
      have f0 := hk3.cell d0
      have f1 := hk3.cell d1
      have f2 := hk3.cell d2
      clear hk3 d0 d1 d2
      go_wp2_with fail
      refine (secread_own u pv (HK3.out.cell HV.out) HO3.out (by rw [HB.out.2.2.2.2]; omega)).mono ?_
      rintro x w4 ⟨a4, c4, rfl, _, hb4, hk4⟩
      rw [HB.out.2.2.2.1] at hb4
      rw [HB.out.1, HB.out.2.1, HB.out.2.2.1, HB.out.2.2.2.1, HLL.out]
      have HKA := hide (Keeps.alloc (Keeps.refl w4) (.cells #[.int .i64 q, .int .i64 e, .slice a4 l c4] 24))
      have HK5 := hide ((HK3.out.trans hk4).trans HKA.out)
      have s1 := str_own (c := c4) HLL.out ((hb4.toOwn.one).kept HKA.out)
      have s2 := str_own (c := c) HLL.out (HC3.out.kept (hk4.trans HKA.out))
      have g0 := hk4.cell f0
      have g1 := hk4.cell f1
      have g2 := hk4.cell f2
      have hz := lt_of_cell g0
      clear hk4 hb4 f0 f1 f2
      go_wp2_with fail
      go_ret
      exact ⟨rfl, HK5.out⟩

set_option maxRecDepth 100000 in
theorem lifted (os : Os) (started : os.Started) (H : Type) (enc : TypeId × Value → H) :
    ReturnsInHanded {} Tryd.checked os 4 .any (fun w args => (Rows.fnSectorSpec.pre enc Tryd.prog Tryd.f4 [] false w args ∧ laidMetH Tryd.prog Rows.fnSectorRow.laid w) ∧ sizedMet enc Tryd.prog Tryd.f4 (OpenSpec.ofChange Rows.fnSectorSpec) false w args)
      (Rows.fnSectorSpec.post enc Tryd.prog Tryd.f4 false true false false) := by
  refine returnsInHanded_of_change_and (C := Tryd.checked) (X := fun w _ => laidMetH Tryd.prog Rows.fnSectorRow.laid w) (fun _ _ _ hh h => h.of_heap hh) own started (by kernel_rfl) Tryd.func4
    (ChangeSpec.witness_shaped (enc := enc) (C := Tryd.checked) (os := os) (X := fun w _ => laidMetH Tryd.prog Rows.fnSectorRow.laid w) false (World.doorLaid Tryd.prog 147 os) #[.slice none 0 0] 8 rfl (World.shaped_of_RefB (by kernel_rfl) (by kernel_rfl)) (by kernel_rfl) (by kernel_rfl) (by kernel_rfl) (door_met os _)) ?_
  intro W base args ds gs before hval0 hW _ hsz hL _
  have hval : ∀ (j : Nat) t v, Tryd.f4.params[j]? = some t → args[j]? = some v → Value.okWide Tryd.prog W .any base t v := hval0
  have hW' := hW
  obtain ⟨p, q, hA0, hV0, rfl, hfz, hnd⟩ := hW
  have hA : DataW.TrodAll enc Tryd.prog W 0 (fun _ => true) true Tryd.f4.params.toList args.toList ds p := hA0
  have hV : DataW.TrodVars enc Tryd.prog W (fun _ => true) ["loop.example/g00400/impl.errGaveUp"] gs q := hV0
  rw [Tryd.params4] at hA hval
  obtain ⟨v0, vs0, d0, ds0, p0, q0, hargs, rfl, rfl, h0, r0⟩ := trodAll_cons hA
  obtain ⟨rfl, rfl, rfl⟩ := trodAll_nil r0
  obtain rfl : args = #[v0] := by cases args; simp_all
  have k0 := h0
  have lt0 : ∀ x ∈ p0, x.block < W.heap.size := by obtain ⟨m, hm⟩ := k0; exact DataW.trod_lt m _ _ _ hm
  obtain ⟨a0, len0, cap0, rfl⟩ := okWide_slice Tryd.underlying22 (hval 0 22 v0 rfl rfl)
  have w0 : RowAt W.heap.size W a0 len0 := by
    obtain ⟨fuel, hf⟩ := h0
    rcases open_ints Tryd.underlying22 Tryd.underlying5 (by kernel_rfl) hf with ⟨hcs, _⟩ | ⟨x, l, c, zs, hcs, _, hl, hm, hz, _, hcell, hwz⟩
    · simp [Value.cells] at hcs
      obtain ⟨rfl, rfl, rfl⟩ := hcs
      exact row_nil
    · simp [Value.cells] at hcs
      obtain ⟨rfl, rfl, rfl⟩ := hcs
      exact row_of hl (by simpa using hz) hcell hwz
  have hL0 : laidMet Tryd.prog Rows.fnSectorRow.laid W := by rw [← MakeChecks.laidMetH_plain _ _ _ (by kernel_rfl)]; exact hL
  obtain ⟨xGaveUp, hvGaveUp⟩ := sent hL0 gGaveUp tGaveUp
  obtain ⟨rfl, rfl⟩ := hV.unique (vars_read1 enc gGaveUp tGaveUp Tryd.underlying66 hvGaveUp trivial _)
  clear hA0 hV0 hval0
  refine (walk a0 len0 cap0 W w0 _ _ (cell_of_var gGaveUp hvGaveUp)).mono fun e W' ⟨he, hb⟩ => ?_
  subst he
  refine ⟨_, rfl, _, _, _, [], (p0 ++ []), [.cell 1 0], hW', ?_, ?_, ?_, Below.frame hb _, fun h => by cases h⟩
  · exact trodAll_mk1 (shut_bool Tryd.underlying4 _)
  · exact (trodAll_cons_mk (Below.trod laidOut (by kernel_rfl) (of_decide_eq_true (by kernel_rfl)) k0 hb lt0) trodAll_mk0)
  · exact vars_read1 enc gGaveUp tGaveUp Tryd.underlying66 (var_kept hb hvGaveUp) trivial _

theorem over : Rows.FnSectorSaid :=
  OpenClaim.holds_of_wide 4 Tryd.f4 rfl rfl rfl rfl rfl rfl rfl ⟨rfl, rfl, rfl, rfl, rfl⟩ rfl rfl rfl rfl rfl (by kernel_rfl) Tryd.func4 (by kernel_rfl)
    (of_decide_eq_true (by kernel_rfl)) (by unfold Func.isWrapper; first | (rw [if_pos (by decide +kernel)]; kernel_rfl) | (rw [if_neg (by decide +kernel)]; exact ⟨rfl, rfl⟩))
    (fun os started H enc _ => lifted os started H enc)
end Go.Proofs.YtmjgddgpoecpmaaDoor.fnSector
namespace Go.Proofs.YtmjgddgpoecpmaaDoor
theorem fnSector_card : Rows.FnSectorCardSaid :=
  Claim7.holds_tied_plain_at .later [] Rows.fnSectorCard.laidKinds true Rows.fnSectorCard.stood.harness true
    fnSector.over (fun _ h => by cases h) (by kernel_rfl) (fun _ h => by cases h) fnSector_row_tie rfl ⟨rfl, rfl⟩ (by kernel_rfl) rfl
    (fun f fn hf hfn => by
      obtain rfl : f = 4 := Option.some.inj ((show Tryd.prog.funcNamed Rows.fnSectorRow.func = some 4 by kernel_rfl).symm.trans hf) |>.symm
      obtain rfl : fn = Tryd.f4 := (Option.some.inj (Tryd.func4.symm.trans hfn)).symm
      exact ⟨by kernel_rfl, fun j t ht => by
        rw [Tryd.params4] at ht
        have hm : t ∈ [22] := by simpa using Array.mem_of_getElem? ht
        have hall : ([22].all fun u => !Tryd.prog.wantsStandIn u) = true := by kernel_rfl
        exact (show Tryd.prog.wantsStandIn t = false by simpa using List.all_eq_true.1 hall t hm)⟩)
    (by kernel_rfl)
end Go.Proofs.YtmjgddgpoecpmaaDoor
