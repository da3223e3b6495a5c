/- The model's text of a step that turns fees. -/
import Derived.Test.YtjihinkjcplgcaaDoorStS
import Derived.BigQuiet
namespace Go.Proofs.YtjihinkjcplgcaaDoor
open Go.RowKit Go.Deep
set_option linter.unusedVariables false
set_option linter.unusedSimpArgs false
set_option maxRecDepth 10000
set_option maxHeartbeats 2000000 in
theorem steps_5 (e : Ev) (ks : List Int) (r : Rul) (a : Option Addr) (c : Nat) (zE zK zR bE bR : Bool) (w : World) (hc : Cells w a (its ks)) (hl : ks.length ≤ 1048576) (hzE : ∀ w, (binOp .eql 31 (evV e.k e.y e.c e.t e.m e.f e.b) (evV 0 0 0 0 0 0 false)).run Tryd.prog w = .ok (.bool zE) w) (hzK : noK ks = zK)
    (hE : ∀ w, Calls Tryd.prog 11 #[evV e.k e.y e.c e.t e.m e.f e.b] w fun x w' => x = .returned (.bool bE) ∧ Keeps w w') (hN : ∀ w, Calls Tryd.prog 10 #[r.v] w fun x w' => x = .returned (.bool zR) ∧ Keeps w w') (hR : ∀ w, Calls Tryd.prog 15 #[r.v] w fun x w' => x = .returned (.bool bR) ∧ Keeps w w') :
    Calls Tryd.prog 5 #[Stp.v ⟨5, e, ks, r⟩ a c] w fun x w' => x = .returned (.string ⟨(stG ⟨5, e, ks, r⟩ (stF 5 zE zK zR bE (allA ks) bR)).toArray⟩) ∧ Keeps w w' := by
  have HK := hide (Keeps.alloc (Keeps.alloc (Keeps.refl w) (.cells (Stp.cells ⟨5, e, ks, r⟩ a c) 34)) (.cells #[.int .i64 0, .int .i64 0, .int .i64 0, .int .i64 0, .int .i64 0, .int .i64 0, .bool false] 31))
  have HK12 := hide (Keeps.alloc (Keeps.refl (w.alloc (.cells (Stp.cells ⟨5, e, ks, r⟩ a c) 34))) (.cells #[.int .i64 0, .int .i64 0, .int .i64 0, .int .i64 0, .int .i64 0, .int .i64 0, .bool false] 31))
  have HB := hide (stp_box ⟨5, e, ks, r⟩ a c w 34)
  have HZ := hide (stp_zero (w.alloc (.cells (Stp.cells ⟨5, e, ks, r⟩ a c) 34)) 31)
  have hsz : (w.alloc (.cells (Stp.cells ⟨5, e, ks, r⟩ a c) 34)).heap.size = w.heap.size + 1 := by simp
  rw [hsz] at HZ
  have HC := hide hc
  have HE := hide hE
  have HN := hide hN
  have HR := hide hR
  have hzN := fun w => neq_of_eql (hzE w)
  dsimp only [Rul.v] at HR HN
  clear hE hN hR hsz hc hzE
  go_enter Tryd.func5, Tryd.ntmps5
  go_upto_region 2 with fail
  generalize w.alloc (.cells (Stp.cells ⟨5, e, ks, r⟩ a c) 34) = W1 at *
  generalize W1.alloc (.cells #[.int .i64 0, .int .i64 0, .int .i64 0, .int .i64 0, .int .i64 0, .int .i64 0, .bool false] 31) = W2 at *
  obtain ⟨c0, ⟨c1, c2, c3, c4, c5, c6, c7⟩, c8, c9, c10, c11, c12, c13⟩ := HB.out W2 HK12.out
  obtain ⟨z0, z1, z2, z3, z4, z5, z6⟩ := HZ.out W2 (Keeps.refl _)
  cases zE
  · go_wp2_with fail
    go_ret
    exact ⟨ret_none (by simp [stF]), HK.out⟩
  cases zK
  · have hkp : 0 < ks.length := by
      cases ks with
      | nil => simp [noK] at hzK
      | cons x t => simp
    clear hzK
    go_wp2_with fail
    go_ret
    exact ⟨ret_none (by simp [stF]), HK.out⟩
  · obtain rfl := noK_eq hzK
    clear hzK
    go_wp2_with fail
    refine (unhide HR _).mono ?_
    rintro x w1 ⟨rfl, hk1⟩
    have hcl := HB.out w1 (HK12.out.trans hk1)
    have HK1 := hide (HK.out.trans hk1)
    have HKW := hide (HK12.out.trans hk1)
    clear hk1 HK c0 c1 c2 c3 c4 c5 c6 c7 c8 c9 c10 c11 c12 c13 z0 z1 z2 z3 z4 z5 z6 hzN
    obtain ⟨lo, hi, st, mi, ma⟩ := r
    cases bR
    · go_wp2_with fail
      go_ret
      exact ⟨ret_none (by simp [stF]), HK1.out⟩
    have q9 := fun t => (HB.out _ (HKW.out.trans (gr_keeps w1 t))).2.2.2.1
    have q10 := fun t => (HB.out _ (HKW.out.trans (gr_keeps w1 t))).2.2.2.2.1
    have q11 := fun t => (HB.out _ (HKW.out.trans (gr_keeps w1 t))).2.2.2.2.2.1
    have q12 := fun t => (HB.out _ (HKW.out.trans (gr_keeps w1 t))).2.2.2.2.2.2.1
    have q13 := fun t => (HB.out _ (HKW.out.trans (gr_keeps w1 t))).2.2.2.2.2.2.2
    obtain ⟨NN, hNN⟩ : ∃ NN : Int → ByteArray, ∀ x, NN x = ⟨(numT x).toArray⟩ := ⟨_, fun _ => rfl⟩
    have HQ := hide (fun (x : Int) t => num_spec x (gr w1 t))
    have HQ' : Hid (∀ (x : Int) t, Calls Tryd.prog 14 #[.int .i64 x] (gr w1 t) fun e w' => e = .returned (.string (NN x)) ∧ Keeps (gr w1 t) w') := fun x t => by rw [hNN]; exact unhide HQ x t
    have hs : ∀ x, (NN x).size ≤ 21 := by
      intro x
      rw [hNN]
      have e2 : (⟨(numT x).toArray⟩ : ByteArray).size = (numT x).length := by show (numT x).toArray.size = _; simp
      rw [e2]; exact numT_len _
    have s0 := hs lo
    have s1 := hs hi
    have s2 := hs st
    have s3 := hs mi
    have s4 := hs ma
    have HNN := hide hNN
    clear hNN hs HQ
    have e1 : (⟨#[32]⟩ : ByteArray).size = 1 := rfl
    have e5 : (⟨#[116, 117, 114, 110, 32]⟩ : ByteArray).size = 5 := rfl
    have qa0 : ∀ w, (Op.stringOp .add (⟨#[116, 117, 114, 110, 32]⟩ : ByteArray) (NN lo)).run Tryd.prog w = .ok (.string ((⟨#[116, 117, 114, 110, 32]⟩ : ByteArray) ++ NN lo)) w := fun w => run_string_add_sum w _ _ (by simp only [ByteArray.size_append, e1, e5]; omega)
    have qa1 : ∀ w, (Op.stringOp .add ((⟨#[116, 117, 114, 110, 32]⟩ : ByteArray) ++ NN lo) ((⟨#[32]⟩ : ByteArray))).run Tryd.prog w = .ok (.string (((⟨#[116, 117, 114, 110, 32]⟩ : ByteArray) ++ NN lo) ++ (⟨#[32]⟩ : ByteArray))) w := fun w => run_string_add_sum w _ _ (by simp only [ByteArray.size_append, e1, e5]; omega)
    have qa2 : ∀ w, (Op.stringOp .add (((⟨#[116, 117, 114, 110, 32]⟩ : ByteArray) ++ NN lo) ++ (⟨#[32]⟩ : ByteArray)) (NN hi)).run Tryd.prog w = .ok (.string ((((⟨#[116, 117, 114, 110, 32]⟩ : ByteArray) ++ NN lo) ++ (⟨#[32]⟩ : ByteArray)) ++ NN hi)) w := fun w => run_string_add_sum w _ _ (by simp only [ByteArray.size_append, e1, e5]; omega)
    have qa3 : ∀ w, (Op.stringOp .add ((((⟨#[116, 117, 114, 110, 32]⟩ : ByteArray) ++ NN lo) ++ (⟨#[32]⟩ : ByteArray)) ++ NN hi) ((⟨#[32]⟩ : ByteArray))).run Tryd.prog w = .ok (.string (((((⟨#[116, 117, 114, 110, 32]⟩ : ByteArray) ++ NN lo) ++ (⟨#[32]⟩ : ByteArray)) ++ NN hi) ++ (⟨#[32]⟩ : ByteArray))) w := fun w => run_string_add_sum w _ _ (by simp only [ByteArray.size_append, e1, e5]; omega)
    have qa4 : ∀ w, (Op.stringOp .add (((((⟨#[116, 117, 114, 110, 32]⟩ : ByteArray) ++ NN lo) ++ (⟨#[32]⟩ : ByteArray)) ++ NN hi) ++ (⟨#[32]⟩ : ByteArray)) (NN st)).run Tryd.prog w = .ok (.string ((((((⟨#[116, 117, 114, 110, 32]⟩ : ByteArray) ++ NN lo) ++ (⟨#[32]⟩ : ByteArray)) ++ NN hi) ++ (⟨#[32]⟩ : ByteArray)) ++ NN st)) w := fun w => run_string_add_sum w _ _ (by simp only [ByteArray.size_append, e1, e5]; omega)
    have qa5 : ∀ w, (Op.stringOp .add ((((((⟨#[116, 117, 114, 110, 32]⟩ : ByteArray) ++ NN lo) ++ (⟨#[32]⟩ : ByteArray)) ++ NN hi) ++ (⟨#[32]⟩ : ByteArray)) ++ NN st) ((⟨#[32]⟩ : ByteArray))).run Tryd.prog w = .ok (.string (((((((⟨#[116, 117, 114, 110, 32]⟩ : ByteArray) ++ NN lo) ++ (⟨#[32]⟩ : ByteArray)) ++ NN hi) ++ (⟨#[32]⟩ : ByteArray)) ++ NN st) ++ (⟨#[32]⟩ : ByteArray))) w := fun w => run_string_add_sum w _ _ (by simp only [ByteArray.size_append, e1, e5]; omega)
    have qa6 : ∀ w, (Op.stringOp .add (((((((⟨#[116, 117, 114, 110, 32]⟩ : ByteArray) ++ NN lo) ++ (⟨#[32]⟩ : ByteArray)) ++ NN hi) ++ (⟨#[32]⟩ : ByteArray)) ++ NN st) ++ (⟨#[32]⟩ : ByteArray)) (NN mi)).run Tryd.prog w = .ok (.string ((((((((⟨#[116, 117, 114, 110, 32]⟩ : ByteArray) ++ NN lo) ++ (⟨#[32]⟩ : ByteArray)) ++ NN hi) ++ (⟨#[32]⟩ : ByteArray)) ++ NN st) ++ (⟨#[32]⟩ : ByteArray)) ++ NN mi)) w := fun w => run_string_add_sum w _ _ (by simp only [ByteArray.size_append, e1, e5]; omega)
    have qa7 : ∀ w, (Op.stringOp .add ((((((((⟨#[116, 117, 114, 110, 32]⟩ : ByteArray) ++ NN lo) ++ (⟨#[32]⟩ : ByteArray)) ++ NN hi) ++ (⟨#[32]⟩ : ByteArray)) ++ NN st) ++ (⟨#[32]⟩ : ByteArray)) ++ NN mi) ((⟨#[32]⟩ : ByteArray))).run Tryd.prog w = .ok (.string (((((((((⟨#[116, 117, 114, 110, 32]⟩ : ByteArray) ++ NN lo) ++ (⟨#[32]⟩ : ByteArray)) ++ NN hi) ++ (⟨#[32]⟩ : ByteArray)) ++ NN st) ++ (⟨#[32]⟩ : ByteArray)) ++ NN mi) ++ (⟨#[32]⟩ : ByteArray))) w := fun w => run_string_add_sum w _ _ (by simp only [ByteArray.size_append, e1, e5]; omega)
    have qa8 : ∀ w, (Op.stringOp .add (((((((((⟨#[116, 117, 114, 110, 32]⟩ : ByteArray) ++ NN lo) ++ (⟨#[32]⟩ : ByteArray)) ++ NN hi) ++ (⟨#[32]⟩ : ByteArray)) ++ NN st) ++ (⟨#[32]⟩ : ByteArray)) ++ NN mi) ++ (⟨#[32]⟩ : ByteArray)) (NN ma)).run Tryd.prog w = .ok (.string ((((((((((⟨#[116, 117, 114, 110, 32]⟩ : ByteArray) ++ NN lo) ++ (⟨#[32]⟩ : ByteArray)) ++ NN hi) ++ (⟨#[32]⟩ : ByteArray)) ++ NN st) ++ (⟨#[32]⟩ : ByteArray)) ++ NN mi) ++ (⟨#[32]⟩ : ByteArray)) ++ NN ma)) w := fun w => run_string_add_sum w _ _ (by simp only [ByteArray.size_append, e1, e5]; omega)
    clear e1 e5 s0 s1 s2 s3 s4 hcl
    go_upto_region 24 with fail
    refine region_gr (by kernel_rfl) (by kernel_rfl) ?_
    repeat (go_big_quiet_step (first | (go_at_call 14; exact gr_call (unhide HQ' _ _))))
    refine wpQuiet_nil ?_
    intro w' hw'
    have hk' := HK1.out.trans (Keeps.of_gr hw')
    clear hw'
    go_wp2_with fail
    go_ret
    refine ⟨?_, hk'⟩
    have hNN := HNN.out
    rw [hNN, hNN, hNN, hNN, hNN]
    refine congrArg _ (congrArg _ (ByteArray.ext (Array.ext' ?_)))
    simp [stG, stF, stT, sen, senN]
end Go.Proofs.YtjihinkjcplgcaaDoor
