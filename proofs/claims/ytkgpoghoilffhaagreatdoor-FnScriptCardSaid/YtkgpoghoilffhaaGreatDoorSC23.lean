/- Texts of the verifier, joined: StU, StT. -/
import Derived.Test.YtkgpoghoilffhaaGreatDoorSC22
import Derived.BigQuiet
namespace Go.Proofs.YtkgpoghoilffhaaGreatDoor
open Go.RowKit Go.Deep
set_option linter.unusedVariables false
set_option linter.unusedSimpArgs false
set_option maxRecDepth 10000
set_option maxHeartbeats 2000000 in
theorem steps_5 (e : Ev) (ks : List Int) (r : Rul) (a : Option Addr) (c : Nat) (zE zK zR bE bR : Bool) (w : World) (hc : Cells w a (its ks)) (hl : ks.length ≤ 1048576) (hzE : ∀ w, (binOp .eql 28 (evV e.k e.y e.c e.t e.m e.f e.b) (evV 0 0 0 0 0 0 false)).run Tryz.prog w = .ok (.bool zE) w) (hzK : noK ks = zK)
    (hE : ∀ w, Calls Tryz.prog 54 #[evV e.k e.y e.c e.t e.m e.f e.b] w fun x w' => x = .returned (.bool bE) ∧ Keeps w w') (hN : ∀ w, Calls Tryz.prog 53 #[r.v] w fun x w' => x = .returned (.bool zR) ∧ Keeps w w') (hR : ∀ w, Calls Tryz.prog 58 #[r.v] w fun x w' => x = .returned (.bool bR) ∧ Keeps w w') :
    Calls Tryz.prog 30 #[Stp.v ⟨5, e, ks, r⟩ a c] w fun x w' => x = .returned (.string ⟨(stG ⟨5, e, ks, r⟩ (stF 5 zE zK zR bE (allA ks) bR)).toArray⟩) ∧ Keeps w w' := by
  have HK := hide (Keeps.alloc (Keeps.alloc (Keeps.refl w) (.cells (Stp.cells ⟨5, e, ks, r⟩ a c) 33)) (.cells #[.int .i64 0, .int .i64 0, .int .i64 0, .int .i64 0, .int .i64 0, .int .i64 0, .bool false] 28))
  have HK12 := hide (Keeps.alloc (Keeps.refl (w.alloc (.cells (Stp.cells ⟨5, e, ks, r⟩ a c) 33))) (.cells #[.int .i64 0, .int .i64 0, .int .i64 0, .int .i64 0, .int .i64 0, .int .i64 0, .bool false] 28))
  have HB := hide (stp_box ⟨5, e, ks, r⟩ a c w 33)
  have HZ := hide (stp_zero (w.alloc (.cells (Stp.cells ⟨5, e, ks, r⟩ a c) 33)) 28)
  have hsz : (w.alloc (.cells (Stp.cells ⟨5, e, ks, r⟩ a c) 33)).heap.size = w.heap.size + 1 := by simp
  rw [hsz] at HZ
  have HC := hide hc
  have HE := hide hE
  have HN := hide hN
  have HR := hide hR
  have hzN := fun w => neq_of_eql (hzE w)
  dsimp only [Rul.v] at HR HN
  clear hE hN hR hsz hc hzE
  go_enter Tryz.func30, Tryz.ntmps30
  go_upto_region 2 with fail
  generalize w.alloc (.cells (Stp.cells ⟨5, e, ks, r⟩ a c) 33) = W1 at *
  generalize W1.alloc (.cells #[.int .i64 0, .int .i64 0, .int .i64 0, .int .i64 0, .int .i64 0, .int .i64 0, .bool false] 28) = W2 at *
  obtain ⟨c0, ⟨c1, c2, c3, c4, c5, c6, c7⟩, c8, c9, c10, c11, c12, c13⟩ := HB.out W2 HK12.out
  obtain ⟨z0, z1, z2, z3, z4, z5, z6⟩ := HZ.out W2 (Keeps.refl _)
  cases zE
  · go_wp2_with fail
    go_ret
    exact ⟨ret_none (by simp [stF]), HK.out⟩
  cases zK
  · have hkp : 0 < ks.length := by
      cases ks with
      | nil => simp [noK] at hzK
      | cons x t => simp
    clear hzK
    go_wp2_with fail
    go_ret
    exact ⟨ret_none (by simp [stF]), HK.out⟩
  · obtain rfl := noK_eq hzK
    clear hzK
    go_wp2_with fail
    refine (unhide HR _).mono ?_
    rintro x w1 ⟨rfl, hk1⟩
    have hcl := HB.out w1 (HK12.out.trans hk1)
    have HK1 := hide (HK.out.trans hk1)
    have HKW := hide (HK12.out.trans hk1)
    clear hk1 HK c0 c1 c2 c3 c4 c5 c6 c7 c8 c9 c10 c11 c12 c13 z0 z1 z2 z3 z4 z5 z6 hzN
    obtain ⟨lo, hi, st, mi, ma⟩ := r
    cases bR
    · go_wp2_with fail
      go_ret
      exact ⟨ret_none (by simp [stF]), HK1.out⟩
    have q9 := fun t => (HB.out _ (HKW.out.trans (gr_keeps w1 t))).2.2.2.1
    have q10 := fun t => (HB.out _ (HKW.out.trans (gr_keeps w1 t))).2.2.2.2.1
    have q11 := fun t => (HB.out _ (HKW.out.trans (gr_keeps w1 t))).2.2.2.2.2.1
    have q12 := fun t => (HB.out _ (HKW.out.trans (gr_keeps w1 t))).2.2.2.2.2.2.1
    have q13 := fun t => (HB.out _ (HKW.out.trans (gr_keeps w1 t))).2.2.2.2.2.2.2
    obtain ⟨NN, hNN⟩ : ∃ NN : Int → ByteArray, ∀ x, NN x = ⟨(numT x).toArray⟩ := ⟨_, fun _ => rfl⟩
    have HQ := hide (fun (x : Int) t => num_spec x (gr w1 t))
    have HQ' : Hid (∀ (x : Int) t, Calls Tryz.prog 57 #[.int .i64 x] (gr w1 t) fun e w' => e = .returned (.string (NN x)) ∧ Keeps (gr w1 t) w') := fun x t => by rw [hNN]; exact unhide HQ x t
    have hs : ∀ x, (NN x).size ≤ 21 := by
      intro x
      rw [hNN]
      have e2 : (⟨(numT x).toArray⟩ : ByteArray).size = (numT x).length := by show (numT x).toArray.size = _; simp
      rw [e2]; exact numT_len _
    have s0 := hs lo
    have s1 := hs hi
    have s2 := hs st
    have s3 := hs mi
    have s4 := hs ma
    have HNN := hide hNN
    clear hNN hs HQ
    have e1 : (⟨#[32]⟩ : ByteArray).size = 1 := rfl
    have e5 : (⟨#[116, 117, 114, 110, 32]⟩ : ByteArray).size = 5 := rfl
    have qa0 : ∀ w, (Op.stringOp .add (⟨#[116, 117, 114, 110, 32]⟩ : ByteArray) (NN lo)).run Tryz.prog w = .ok (.string ((⟨#[116, 117, 114, 110, 32]⟩ : ByteArray) ++ NN lo)) w := fun w => run_string_add_sum w _ _ (by simp only [ByteArray.size_append, e1, e5]; omega)
    have qa1 : ∀ w, (Op.stringOp .add ((⟨#[116, 117, 114, 110, 32]⟩ : ByteArray) ++ NN lo) ((⟨#[32]⟩ : ByteArray))).run Tryz.prog w = .ok (.string (((⟨#[116, 117, 114, 110, 32]⟩ : ByteArray) ++ NN lo) ++ (⟨#[32]⟩ : ByteArray))) w := fun w => run_string_add_sum w _ _ (by simp only [ByteArray.size_append, e1, e5]; omega)
    have qa2 : ∀ w, (Op.stringOp .add (((⟨#[116, 117, 114, 110, 32]⟩ : ByteArray) ++ NN lo) ++ (⟨#[32]⟩ : ByteArray)) (NN hi)).run Tryz.prog w = .ok (.string ((((⟨#[116, 117, 114, 110, 32]⟩ : ByteArray) ++ NN lo) ++ (⟨#[32]⟩ : ByteArray)) ++ NN hi)) w := fun w => run_string_add_sum w _ _ (by simp only [ByteArray.size_append, e1, e5]; omega)
    have qa3 : ∀ w, (Op.stringOp .add ((((⟨#[116, 117, 114, 110, 32]⟩ : ByteArray) ++ NN lo) ++ (⟨#[32]⟩ : ByteArray)) ++ NN hi) ((⟨#[32]⟩ : ByteArray))).run Tryz.prog w = .ok (.string (((((⟨#[116, 117, 114, 110, 32]⟩ : ByteArray) ++ NN lo) ++ (⟨#[32]⟩ : ByteArray)) ++ NN hi) ++ (⟨#[32]⟩ : ByteArray))) w := fun w => run_string_add_sum w _ _ (by simp only [ByteArray.size_append, e1, e5]; omega)
    have qa4 : ∀ w, (Op.stringOp .add (((((⟨#[116, 117, 114, 110, 32]⟩ : ByteArray) ++ NN lo) ++ (⟨#[32]⟩ : ByteArray)) ++ NN hi) ++ (⟨#[32]⟩ : ByteArray)) (NN st)).run Tryz.prog w = .ok (.string ((((((⟨#[116, 117, 114, 110, 32]⟩ : ByteArray) ++ NN lo) ++ (⟨#[32]⟩ : ByteArray)) ++ NN hi) ++ (⟨#[32]⟩ : ByteArray)) ++ NN st)) w := fun w => run_string_add_sum w _ _ (by simp only [ByteArray.size_append, e1, e5]; omega)
    have qa5 : ∀ w, (Op.stringOp .add ((((((⟨#[116, 117, 114, 110, 32]⟩ : ByteArray) ++ NN lo) ++ (⟨#[32]⟩ : ByteArray)) ++ NN hi) ++ (⟨#[32]⟩ : ByteArray)) ++ NN st) ((⟨#[32]⟩ : ByteArray))).run Tryz.prog w = .ok (.string (((((((⟨#[116, 117, 114, 110, 32]⟩ : ByteArray) ++ NN lo) ++ (⟨#[32]⟩ : ByteArray)) ++ NN hi) ++ (⟨#[32]⟩ : ByteArray)) ++ NN st) ++ (⟨#[32]⟩ : ByteArray))) w := fun w => run_string_add_sum w _ _ (by simp only [ByteArray.size_append, e1, e5]; omega)
    have qa6 : ∀ w, (Op.stringOp .add (((((((⟨#[116, 117, 114, 110, 32]⟩ : ByteArray) ++ NN lo) ++ (⟨#[32]⟩ : ByteArray)) ++ NN hi) ++ (⟨#[32]⟩ : ByteArray)) ++ NN st) ++ (⟨#[32]⟩ : ByteArray)) (NN mi)).run Tryz.prog w = .ok (.string ((((((((⟨#[116, 117, 114, 110, 32]⟩ : ByteArray) ++ NN lo) ++ (⟨#[32]⟩ : ByteArray)) ++ NN hi) ++ (⟨#[32]⟩ : ByteArray)) ++ NN st) ++ (⟨#[32]⟩ : ByteArray)) ++ NN mi)) w := fun w => run_string_add_sum w _ _ (by simp only [ByteArray.size_append, e1, e5]; omega)
    have qa7 : ∀ w, (Op.stringOp .add ((((((((⟨#[116, 117, 114, 110, 32]⟩ : ByteArray) ++ NN lo) ++ (⟨#[32]⟩ : ByteArray)) ++ NN hi) ++ (⟨#[32]⟩ : ByteArray)) ++ NN st) ++ (⟨#[32]⟩ : ByteArray)) ++ NN mi) ((⟨#[32]⟩ : ByteArray))).run Tryz.prog w = .ok (.string (((((((((⟨#[116, 117, 114, 110, 32]⟩ : ByteArray) ++ NN lo) ++ (⟨#[32]⟩ : ByteArray)) ++ NN hi) ++ (⟨#[32]⟩ : ByteArray)) ++ NN st) ++ (⟨#[32]⟩ : ByteArray)) ++ NN mi) ++ (⟨#[32]⟩ : ByteArray))) w := fun w => run_string_add_sum w _ _ (by simp only [ByteArray.size_append, e1, e5]; omega)
    have qa8 : ∀ w, (Op.stringOp .add (((((((((⟨#[116, 117, 114, 110, 32]⟩ : ByteArray) ++ NN lo) ++ (⟨#[32]⟩ : ByteArray)) ++ NN hi) ++ (⟨#[32]⟩ : ByteArray)) ++ NN st) ++ (⟨#[32]⟩ : ByteArray)) ++ NN mi) ++ (⟨#[32]⟩ : ByteArray)) (NN ma)).run Tryz.prog w = .ok (.string ((((((((((⟨#[116, 117, 114, 110, 32]⟩ : ByteArray) ++ NN lo) ++ (⟨#[32]⟩ : ByteArray)) ++ NN hi) ++ (⟨#[32]⟩ : ByteArray)) ++ NN st) ++ (⟨#[32]⟩ : ByteArray)) ++ NN mi) ++ (⟨#[32]⟩ : ByteArray)) ++ NN ma)) w := fun w => run_string_add_sum w _ _ (by simp only [ByteArray.size_append, e1, e5]; omega)
    clear e1 e5 s0 s1 s2 s3 s4 hcl
    go_upto_region 24 with fail
    refine region_gr (by kernel_rfl) (by kernel_rfl) ?_
    repeat (go_big_quiet_step (first | (go_at_call 57; exact gr_call (unhide HQ' _ _))))
    refine wpQuiet_nil ?_
    intro w' hw'
    have hk' := HK1.out.trans (Keeps.of_gr hw')
    clear hw'
    go_wp2_with fail
    go_ret
    refine ⟨?_, hk'⟩
    have hNN := HNN.out
    rw [hNN, hNN, hNN, hNN, hNN]
    refine congrArg _ (congrArg _ (ByteArray.ext (Array.ext' ?_)))
    simp [stG, stF, stT, sen, senN]
end Go.Proofs.YtkgpoghoilffhaaGreatDoor
namespace Go.Proofs.YtkgpoghoilffhaaGreatDoor
open Go.RowKit Go.Deep
set_option linter.unusedVariables false
set_option linter.unusedSimpArgs false
set_option maxRecDepth 10000
theorem sen_snoc (W : List UInt8) (ns : List Int) (k : Nat) (h : k < ns.length) : sen W (ns.take (k + 1)) = sen W (ns.take k) ++ [32] ++ numT ns[k] := by
  unfold sen
  rw [senN_succ ns k h]
  simp
set_option maxHeartbeats 2000000 in
theorem steps_3 (e : Ev) (ks : List Int) (r : Rul) (a : Option Addr) (c : Nat) (zE zK zR bE bR : Bool) (w : World) (hc : Cells w a (its ks)) (hl : ks.length ≤ 1048576) (hzE : ∀ w, (binOp .eql 28 (evV e.k e.y e.c e.t e.m e.f e.b) (evV 0 0 0 0 0 0 false)).run Tryz.prog w = .ok (.bool zE) w) (hzK : noK ks = zK)
    (hE : ∀ w, Calls Tryz.prog 54 #[evV e.k e.y e.c e.t e.m e.f e.b] w fun x w' => x = .returned (.bool bE) ∧ Keeps w w') (hN : ∀ w, Calls Tryz.prog 53 #[r.v] w fun x w' => x = .returned (.bool zR) ∧ Keeps w w') (hR : ∀ w, Calls Tryz.prog 58 #[r.v] w fun x w' => x = .returned (.bool bR) ∧ Keeps w w') :
    Calls Tryz.prog 30 #[Stp.v ⟨3, e, ks, r⟩ a c] w fun x w' => x = .returned (.string ⟨(stG ⟨3, e, ks, r⟩ (stF 3 zE zK zR bE (allA ks) bR)).toArray⟩) ∧ Keeps w w' := by
  have HK := hide (Keeps.alloc (Keeps.alloc (Keeps.refl w) (.cells (Stp.cells ⟨3, e, ks, r⟩ a c) 33)) (.cells #[.int .i64 0, .int .i64 0, .int .i64 0, .int .i64 0, .int .i64 0, .int .i64 0, .bool false] 28))
  have HK12 := hide (Keeps.alloc (Keeps.refl (w.alloc (.cells (Stp.cells ⟨3, e, ks, r⟩ a c) 33))) (.cells #[.int .i64 0, .int .i64 0, .int .i64 0, .int .i64 0, .int .i64 0, .int .i64 0, .bool false] 28))
  have HB := hide (stp_box ⟨3, e, ks, r⟩ a c w 33)
  have HZ := hide (stp_zero (w.alloc (.cells (Stp.cells ⟨3, e, ks, r⟩ a c) 33)) 28)
  have hsz : (w.alloc (.cells (Stp.cells ⟨3, e, ks, r⟩ a c) 33)).heap.size = w.heap.size + 1 := by simp
  rw [hsz] at HZ
  have HC := hide hc
  have HE := hide hE
  have HN := hide hN
  have HR := hide hR
  have hzN := fun w => neq_of_eql (hzE w)
  dsimp only [Rul.v] at HR HN
  clear hE hN hR hsz hc hzE
  go_enter Tryz.func30, Tryz.ntmps30
  go_upto_region 2 with fail
  generalize w.alloc (.cells (Stp.cells ⟨3, e, ks, r⟩ a c) 33) = W1 at *
  generalize W1.alloc (.cells #[.int .i64 0, .int .i64 0, .int .i64 0, .int .i64 0, .int .i64 0, .int .i64 0, .bool false] 28) = W2 at *
  obtain ⟨c0, ⟨c1, c2, c3, c4, c5, c6, c7⟩, c8, c9, c10, c11, c12, c13⟩ := HB.out W2 HK12.out
  obtain ⟨z0, z1, z2, z3, z4, z5, z6⟩ := HZ.out W2 (Keeps.refl _)
  cases zE
  · go_wp2_with fail
    go_ret
    exact ⟨ret_none (by simp [stF]), HK.out⟩
  · go_wp2_with fail
    refine (unhide HN _).mono ?_
    rintro x w1 ⟨rfl, hk1⟩
    have hcl := HB.out w1 (HK12.out.trans hk1)
    have HK1 := hide (HK.out.trans hk1)
    clear hk1 HK c0 c1 c2 c3 c4 c5 c6 c7 c8 c9 c10 c11 c12 c13 z0 z1 z2 z3 z4 z5 z6
    obtain ⟨c0, ⟨c1, c2, c3, c4, c5, c6, c7⟩, c8, c9, c10, c11, c12, c13⟩ := hcl
    cases zR
    · go_wp2_with fail
      go_ret
      exact ⟨ret_none (by simp [stF]), HK1.out⟩
    have HCr := hide (fun w' (hk : Keeps w w') => HC.out.kept hk)
    have HLl := hide hl
    have HAm := hide amt_spec
    clear HE HR HB HZ HN hzN hl HK12
    go_wp2_with fail
    clear c0 c1 c2 c3 c4 c5 c6 c7 c8 c9 c10 c11 c12 c13
    have HB0 : Hid ((⟨#[99, 114, 97, 115, 104]⟩ : ByteArray) = ⟨(sen [99, 114, 97, 115, 104] (ks.take 0)).toArray⟩) := by show _ = _; rfl
    go_loopw [4, 59] (fun o y wr => ∃ (k : Nat) (A : ByteArray), k ≤ ks.length ∧ o = .string A ∧ y = .int .i64 (k : Int) ∧ Hid (A = ⟨(sen [99, 114, 97, 115, 104] (ks.take k)).toArray⟩) ∧ Hid ((ks.take k).all amtB = true) ∧ Hid (Keeps w wr)) (fun _ y _ => ks.length - (intOf y).toNat)
    case atStart => exact ⟨0, _, Nat.zero_le _, rfl, rfl, HB0, by show _ = _; simp, HK1⟩
    case round =>
      clear HB0 HK1
      obtain ⟨k, A, hk, rfl, rfl, HA, HAll, HK⟩ := hrel
      have hl := HLl.out
      by_cases hlt : k < ks.length
      · obtain ⟨bb, off, ea, c0⟩ := its_at (unhide HCr wr HK.out) k hlt
        subst ea
        have HE := hide (List.take_append_getElem hlt)
        have HSn := hide (sen_snoc [99, 114, 97, 115, 104] ks k hlt)
        have hA : A.size ≤ 30000000 := by
          rw [HA.out]
          have h2 := senN_len (ks.take k)
          have h3 : (ks.take k).length ≤ k := by simp; omega
          have e2 : (⟨(sen [99, 114, 97, 115, 104] (ks.take k)).toArray⟩ : ByteArray).size = (sen [99, 114, 97, 115, 104] (ks.take k)).length := by show (sen [99, 114, 97, 115, 104] (ks.take k)).toArray.size = _; simp
          rw [e2]
          unfold sen
          simp only [List.length_append, List.length_cons, List.length_nil]
          omega
        have e1 : (⟨#[32]⟩ : ByteArray).size = 1 := rfl
        have qa : ∀ w, (Op.stringOp .add A (⟨#[32]⟩ : ByteArray)).run Tryz.prog w = .ok (.string (A ++ (⟨#[32]⟩ : ByteArray))) w := fun w => run_string_add_sum w _ _ (by rw [e1]; omega)
        generalize ks[k] = x at *
        have HQ := hide (fun w' => num_spec x w')
        obtain ⟨N, hN⟩ : ∃ N : ByteArray, N = ⟨(numT x).toArray⟩ := ⟨_, rfl⟩
        rw [← hN] at HQ
        have hNs : N.size ≤ 21 := by
          rw [hN]
          have e2 : (⟨(numT x).toArray⟩ : ByteArray).size = (numT x).length := by show (numT x).toArray.size = _; simp
          rw [e2]; exact numT_len x
        have HN := hide hN
        clear hN
        have qb : ∀ w, (Op.stringOp .add (A ++ (⟨#[32]⟩ : ByteArray)) N).run Tryz.prog w = .ok (.string (A ++ (⟨#[32]⟩ : ByteArray) ++ N)) w := fun w => run_string_add_sum w _ _ (by rw [ByteArray.size_append, e1]; omega)
        clear hA hNs e1
        have HQ2 := hide (fun w' => unhide HAm x w')
        cases hx : amtB x
        · rw [hx] at HQ2
          have HF : Hid (allA ks = false) := by
            show _ = _
            refine List.all_eq_false.2 ⟨x, ?_, by simp [hx]⟩
            have := HE.out
            exact List.mem_of_mem_take (i := k + 1) (by rw [← this]; simp)
          clear hx
          go_wp2_with fail
          refine (unhide HQ2 _).mono ?_
          rintro x1 w2 ⟨rfl, hk2⟩
          go_wp2_with fail
          go_ret
          exact ⟨ret_none (by simp [stF, HF.out]), HK.out.trans hk2⟩
        · rw [hx] at HQ2
          have HF : Hid ((ks.take (k + 1)).all amtB = true) := by
            show _ = _
            rw [← HE.out, List.all_append, HAll.out]
            simp [hx]
          clear hx HE
          go_wp2_with fail
          refine (unhide HQ2 _).mono ?_
          rintro x1 w2 ⟨rfl, hk2⟩
          have HK2 := hide (HK.out.trans hk2)
          clear hk2 HK
          go_wp2_with fail
          refine (unhide HQ _).mono ?_
          rintro x1 w3 ⟨rfl, hk3⟩
          have HK3 := hide (HK2.out.trans hk3)
          clear hk3 HK2
          go_wp2_with fail
          go_roundw
          case rel => exact ⟨k + 1, _, by omega, rfl, by go_num, by
                        show _ = _
                        rw [HSn.out, HA.out, HN.out]
                        exact ByteArray.ext (Array.ext' (by simp)), HF, HK3⟩
          case measure => simp [intOf]; omega
      · have e : k = ks.length := by omega
        subst e
        have HF : Hid (allA ks = true) := by have h3 := HAll.out; rw [List.take_length] at h3; exact h3
        go_wp2_with fail
        go_ret
        rw [HA.out, List.take_length]
        exact ⟨ret_stG (by simp [stG, stF, stT, HF.out]), HK.out⟩
theorem steps_spec (D : Stp) (a : Option Addr) (c : Nat) (w : World) (hc : Cells w a (its D.ks)) (hl : D.ks.length ≤ 1048576) :
    Calls Tryz.prog 30 #[D.v a c] w fun e w' => e = .returned (.string ⟨(stL D).toArray⟩) ∧ Keeps w w' := by
  have hE := fun w' => evok_spec D.e.k D.e.y D.e.c D.e.t D.e.m D.e.f D.e.b w'
  have hN := fun w' => norule_k D.r w'
  have hR := fun w' => rule_spec D.r w'
  have q1 := ev_eql D.e.k D.e.y D.e.c D.e.t D.e.m D.e.f D.e.b 0 0 0 0 0 0 false
  rw [← stF_eq']
  obtain ⟨k, e, ks, r⟩ := D
  dsimp only at *
  by_cases h1 : k = 1
  · subst h1; exact steps_1 e ks r a c _ _ _ _ _ w rfl hc hl q1 rfl hE hN hR
  by_cases h2 : k = 2
  · subst h2; exact steps_2 e ks r a c _ _ _ _ _ w hc hl q1 rfl hE hN hR
  by_cases h3 : k = 3
  · subst h3; exact steps_3 e ks r a c _ _ _ _ _ w hc hl q1 rfl hE hN hR
  by_cases h4 : k = 4
  · subst h4; exact steps_4 e ks r a c _ _ _ _ _ w hc hl q1 rfl hE hN hR
  by_cases h5 : k = 5
  · subst h5; exact steps_5 e ks r a c _ _ _ _ _ w hc hl q1 rfl hE hN hR
  exact steps_0 k e ks r a c _ _ _ _ _ w hc hl q1 rfl hE hN hR ⟨h1, h2, h3, h4, h5⟩
end Go.Proofs.YtkgpoghoilffhaaGreatDoor
