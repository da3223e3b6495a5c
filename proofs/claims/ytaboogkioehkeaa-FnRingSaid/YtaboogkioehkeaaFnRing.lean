/- At every draw what is pushed along a ring that is found is a flow that costs less. -/
import Derived.Test.YtaboogkioehkeaaDsk
import Derived.Test.YtaboogkioehkeaaDt
import Derived.Test.YtaboogkioehkeaaMc
import Derived.Test.YtaboogkioehkeaaFcI
import Derived.Test.YtaboogkioehkeaaFcS
import Derived.Test.YtaboogkioehkeaaRows
import Derived.WalkKit
import Derived.ProofKit
import Derived.OpenShut
import Derived.ChangeOld
import Derived.Below
namespace Go.Proofs.Ytaboogkioehkeaa.fnRing
open Go.ChangeShapes Go.WideShapes Go.ChangeAt Go.RowKit
set_option linter.unusedVariables false
theorem rowAt_cells {w : World} {a : Option Addr} {L : List UInt8} (h : Cells w a (bys L)) : RowAt w.heap.size w a L.length := by
  intro j hj
  rcases h with h | ⟨b, off, e, h⟩
  · have := bys_nil.1 h
    subst this
    simp at hj
  · have hj' : j < (bys L).length := by rw [bys_length]; exact hj
    have hc := h j hj'
    have e2 : (bys L)[j] = byV L[j] := by simp [bys]
    rw [e2] at hc
    have hb := L[j].toNat_lt
    exact ⟨b, off, _, e, lt_of_cell hc, by simp, by omega, hc⟩
set_option maxRecDepth 100000 in
set_option maxHeartbeats 8000000 in
theorem walkR (a : Option Addr) (len cap : Nat) (w : World) (hr : RowAt w.heap.size w a len) :
    Calls Try.prog 4 #[.slice a len cap] w fun e w' => e = .returned (.bool true) ∧ Keeps w w' := by
  have HRw := hide hr
  clear hr
  by_cases hl : 1048576 < len
  · go_enter Try.func4, Try.ntmps4
    go_wp2_with fail
    go_ret
    exact ⟨rfl, Keeps.refl _⟩
  · have HDr := hide (draw_ring a len cap w HRw.out (by omega))
    clear HRw
    go_enter Try.func4, Try.ntmps4
    go_wp2_with fail
    refine (unhide HDr).mono ?_
    rintro x w1 ⟨⟨nn, ea, ec, E, fa, fc, f, rfl, hel, hfl, hme, hnf⟩, hk⟩
    have HK := hide hk
    have HME := hide hme
    clear hk HDr hme hnf
    go_upto_region 4 with fail
    have HKV := hide (Keeps.alloc (Keeps.refl w1) (.cells #[.int .i64 nn, .slice ea E.length ec] 25))
    have HBX := hide (gr_box ⟨nn, ea, ec, E⟩ w1 25)
    generalize w1.alloc (.cells #[.int .i64 nn, .slice ea E.length ec] 25) = W2 at *
    replace HK := hide (HK.out.trans HKV.out)
    replace HME := hide (HME.out.kept HKV.out)
    clear HKV
    have HE1 : Hid (∀ w', Mem w' [(ea, egs E), (fa, its f)] → Mem w' [(ea, egs E)] ∧ Cells w' fa (its f)) := fun w' h => ⟨mem_cons.2 ⟨(mem_cons.1 h).1, Mem.nil _⟩, (mem_cons.1 (mem_cons.1 h).2).1⟩
    obtain ⟨q0, q1⟩ := HBX.out
    dsimp only at q0 q1
    have HC1 := hide (ring_impl ⟨nn, ea, ec, E⟩ fa fc f W2 (HE1.out _ HME.out).1 (HE1.out _ HME.out).2 (by show E.length ≤ 1048576; omega) (by omega))
    dsimp only [Gf.v] at HC1
    go_wp2_with fail
    refine (unhide HC1).mono ?_
    rintro x w3 ⟨ra, rc, rfl, hb, hn, hk⟩
    have HBR := hide hb.toOwn
    replace HK := hide (HK.out.trans hk)
    replace HME := hide (HME.out.kept hk)
    replace HBX := hide (HBX.out.kept hk)
    clear hb hn hk HC1 q0 q1
    obtain ⟨q0, q1⟩ := HBX.out
    dsimp only at q0 q1
    have HC2 := hide (ring_spec ⟨nn, ea, ec, E⟩ fa fc f w3 (HE1.out _ HME.out).1 (HE1.out _ HME.out).2 (by show E.length ≤ 1048576; omega) (by omega))
    dsimp only [Gf.v] at HC2
    go_wp2_with fail
    refine (unhide HC2).mono ?_
    rintro x w4 ⟨ga, gc, rfl, hb, hn, hk⟩
    replace HBR := hide (HBR.out.kept hk)
    replace HK := hide (HK.out.trans hk)
    replace HME := hide (HME.out.kept hk)
    replace HBX := hide (HBX.out.kept hk)
    clear hb hn hk HC2 q0 q1
    have HLess := hide (ring_less (N := nn) (E := E) (f := f))
    have HNo : Hid (ringOk nn E f = false → ringV nn E f = []) := fun h => by simp [ringV, h]
    have HR24 := hide (ringV_24 nn E f)
    generalize hrv : ringV nn E f = R at *
    clear hrv
    cases hro : ringOk nn E f
    · have hF := HNo.out hro
      subst hF
      clear hro
      go_wp2_with fail
      go_ret
      exact ⟨rfl, HK.out⟩
    obtain ⟨b1, b2, b3⟩ := HLess.out hro
    have HB2 := hide b2
    have HB3 := hide b3
    have hR24 := HR24.out
    have HP60 := hide (pushV_60 nn E f R)
    have HPC := hide (push_impl ⟨nn, ea, ec, E⟩ fa fc f ra rc R w4 (HE1.out _ HME.out).1 (HE1.out _ HME.out).2 (HBR.out.mem (ra, its R) (by simp)) (by show E.length ≤ 1048576; omega) (by omega) (by omega))
    dsimp only [Gf.v] at HPC
    rw [b1] at HPC
    clear hro b1 b2 b3 HLess HNo
    obtain ⟨q0, q1⟩ := HBX.out
    dsimp only at q0 q1
    generalize pushV nn E f R = H at *
    go_wp2_with fail
    refine (unhide HPC).mono ?_
    rintro x w5 ⟨ha, hc, rfl, hb, hn, hk⟩
    have HBH := hide hb.toOwn
    replace HK := hide (HK.out.trans hk)
    replace HME := hide (HME.out.kept hk)
    replace HBX := hide (HBX.out.kept hk)
    clear hb hn hk HPC q0 q1
    obtain ⟨q0, q1⟩ := HBX.out
    dsimp only at q0 q1
    have HF1 := hide (fun t => flow_impl ⟨nn, ea, ec, E⟩ ha hc H (gr w5 t) ((HE1.out _ HME.out).1.kept (gr_keeps w5 t)) ((HBH.out.mem (ha, its H) (by simp)).kept (gr_keeps w5 t)) (by show E.length ≤ 1048576; omega) (by have := HP60.out; omega))
    have HP1 := hide (fun t => cost_impl ⟨nn, ea, ec, E⟩ ha hc H (gr w5 t) ((HE1.out _ HME.out).1.kept (gr_keeps w5 t)) ((HBH.out.mem (ha, its H) (by simp)).kept (gr_keeps w5 t)) (by show E.length ≤ 1048576; omega) (by have := HP60.out; omega))
    have HP2 := hide (fun t => cost_impl ⟨nn, ea, ec, E⟩ fa fc f (gr w5 t) ((HE1.out _ HME.out).1.kept (gr_keeps w5 t)) ((HE1.out _ HME.out).2.kept (gr_keeps w5 t)) (by show E.length ≤ 1048576; omega) (by omega))
    dsimp only [Gf.v] at HF1 HP1 HP2
    rw [HB2.out] at HF1
    have p0 := gr_cell q0
    have p1 := gr_cell q1
    have h1 := HB3.out
    have hd1 : decide (costV nn E H < costV nn E f) = true := by simp [h1]
    go_upto_region 11 with fail
    refine region_gr (by kernel_rfl) (by kernel_rfl) ?_
    repeat (go_big_quiet_step (first | (go_at_call 16; exact gr_call (unhide HF1 _))))
    go_big_quiet_step (first | (go_at_call 17; exact gr_call (unhide HP1 _)))
    repeat (go_big_quiet_step (fail))
    go_big_quiet_step (first | (go_at_call 17; exact gr_call (unhide HP2 _)))
    repeat (go_big_quiet_step (fail))
    refine wpQuiet_nil ?_
    intro w' hw'
    have hk' := HK.out.trans (Keeps.of_gr hw')
    go_wp2_with fail
    go_ret
    exact ⟨rfl, hk'⟩
theorem walk (a : Option Addr) (cap : Nat) (L : List UInt8) (w : World) (hc : Cells w a (bys L)) (hn : a = none → cap = 0) (hl : L.length ≤ 9223372036854775807) :
    Calls Try.prog 4 #[.slice a L.length cap] w fun e w' => e = .returned (.bool true) ∧ Keeps w w' := walkR a L.length cap w (rowAt_cells hc)

theorem own : ownKnob Try.prog.godebug = none := by kernel_rfl
theorem laidOut : laidOutB Try.prog = true := by kernel_rfl

set_option maxRecDepth 100000 in
theorem lifted (os : Os) (started : os.Started) (H : Type) (enc : TypeId × Value → H) :
    ReturnsInHanded {} Try.checked os 4 .any (Rows.fnRingSpec.pre6 enc Try.prog Try.f4 Rows.fnRingRow.domain false) (Rows.fnRingSpec.post enc Try.prog Try.f4 false true false false) := by
  refine returnsInHanded_of_change (C := Try.checked) own started (by kernel_rfl) Try.func4
    (ChangeSpec.witness6 (enc := enc) (C := Try.checked) false ⟨#[], #[.slice none 0 0], []⟩ 8 (by kernel_rfl) (by kernel_rfl) (by kernel_rfl) (by kernel_rfl)) ?_
  intro W base args ds gs before hval0 hW hcnd _
  have hval : ∀ (j : Nat) t v, Try.f4.params[j]? = some t → args[j]? = some v → Value.okWide Try.prog W .any base t v := hval0
  have hW' := hW
  obtain ⟨p, q, hA0, hV, rfl, hfz, hnd⟩ := hW
  have hA : DataW.TrodAll enc Try.prog W 0 (fun _ => true) true Try.f4.params.toList args.toList ds p := hA0
  rw [Try.params4] at hA hval
  obtain ⟨v0, vs0, d0, ds0, p0, q0, hargs, rfl, rfl, h0, r0⟩ := trodAll_cons hA
  obtain ⟨rfl, rfl, rfl⟩ := trodAll_nil r0
  obtain rfl : args = #[v0] := by cases args; simp_all
  obtain ⟨rfl, rfl⟩ := trodVars_none hV
  have lt0 := lt_row h0
  have k0 := h0
  obtain ⟨a0, cap0, L0, rfl, hc0, hn0, hl0⟩ := bytes_row (hval 0 22 v0 rfl rfl) h0
  clear hA0 hval0
  refine (walk a0 cap0 L0 W hc0 hn0 hl0).mono fun e W' ⟨he, hb⟩ => ?_
  subst he
  refine ⟨_, rfl, _, _, _, [], (p0 ++ []), [], hW', ?_, ?_, ?_, Below.frame hb _, fun h => by cases h⟩
  · exact trodAll_mk1 (shut_bool Try.underlying4 _)
  · exact (trodAll_cons_mk (Below.trod laidOut (by kernel_rfl) (of_decide_eq_true (by kernel_rfl)) k0 hb lt0) trodAll_mk0)
  · exact rfl

theorem over : Rows.fnRingRow.holds Try.pinned (OpenSpec.ofChange Rows.fnRingSpec) :=
  OpenClaim.holds_of_wide 4 Try.f4 rfl rfl rfl rfl rfl rfl rfl ⟨rfl, rfl, rfl, rfl, rfl⟩ rfl rfl rfl rfl rfl (by kernel_rfl) Try.func4 (by kernel_rfl)
    (of_decide_eq_true (by kernel_rfl)) (by unfold Func.isWrapper; first | (rw [if_pos (by decide +kernel)]; kernel_rfl) | (rw [if_neg (by decide +kernel)]; exact ⟨rfl, rfl⟩))
    (fun os started H enc _ => lifted os started H enc)
end Go.Proofs.Ytaboogkioehkeaa.fnRing
namespace Go.Proofs.Ytaboogkioehkeaa
theorem fnRing_holds : Rows.FnRingSaid := fnRing.over
end Go.Proofs.Ytaboogkioehkeaa
