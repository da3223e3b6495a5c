/- Texts of the verifier, joined: StU, StT, Byt, Prt, Pae. -/
import Derived.Test.YtjihinkjcplgcaaGreatDoorPT15
import Derived.BigQuiet
import Derived.Test.YtjihinkjcplgcaaGreatDoorPT1
import Derived.RegionTactic
import Derived.Test.YtjihinkjcplgcaaGreatDoorPT2
import Derived.OwnWalk
import Derived.Laws.OwnMore
import Derived.Laws.AppendOwnNone
import Derived.Test.YtjihinkjcplgcaaGreatDoorPT8
namespace Go.Proofs.YtjihinkjcplgcaaGreatDoor
open Go.RowKit Go.Deep
set_option linter.unusedVariables false
set_option linter.unusedSimpArgs false
set_option maxRecDepth 10000
set_option maxHeartbeats 2000000 in
theorem steps_5 (e : Ev) (ks : List Int) (r : Rul) (a : Option Addr) (c : Nat) (zE zK zR bE bR : Bool) (w : World) (hc : Cells w a (its ks)) (hl : ks.length ≤ 1048576) (hzE : ∀ w, (binOp .eql 28 (evV e.k e.y e.c e.t e.m e.f e.b) (evV 0 0 0 0 0 0 false)).run Tryz.prog w = .ok (.bool zE) w) (hzK : noK ks = zK)
    (hE : ∀ w, Calls Tryz.prog 59 #[evV e.k e.y e.c e.t e.m e.f e.b] w fun x w' => x = .returned (.bool bE) ∧ Keeps w w') (hN : ∀ w, Calls Tryz.prog 58 #[r.v] w fun x w' => x = .returned (.bool zR) ∧ Keeps w w') (hR : ∀ w, Calls Tryz.prog 61 #[r.v] w fun x w' => x = .returned (.bool bR) ∧ Keeps w w') :
    Calls Tryz.prog 33 #[Stp.v ⟨5, e, ks, r⟩ a c] w fun x w' => x = .returned (.string ⟨(stG ⟨5, e, ks, r⟩ (stF 5 zE zK zR bE (allA ks) bR)).toArray⟩) ∧ Keeps w w' := by
  have HK := hide (Keeps.alloc (Keeps.alloc (Keeps.refl w) (.cells (Stp.cells ⟨5, e, ks, r⟩ a c) 33)) (.cells #[.int .i64 0, .int .i64 0, .int .i64 0, .int .i64 0, .int .i64 0, .int .i64 0, .bool false] 28))
  have HK12 := hide (Keeps.alloc (Keeps.refl (w.alloc (.cells (Stp.cells ⟨5, e, ks, r⟩ a c) 33))) (.cells #[.int .i64 0, .int .i64 0, .int .i64 0, .int .i64 0, .int .i64 0, .int .i64 0, .bool false] 28))
  have HB := hide (stp_box ⟨5, e, ks, r⟩ a c w 33)
  have HZ := hide (stp_zero (w.alloc (.cells (Stp.cells ⟨5, e, ks, r⟩ a c) 33)) 28)
  have hsz : (w.alloc (.cells (Stp.cells ⟨5, e, ks, r⟩ a c) 33)).heap.size = w.heap.size + 1 := by simp
  rw [hsz] at HZ
  have HC := hide hc
  have HE := hide hE
  have HN := hide hN
  have HR := hide hR
  have hzN := fun w => neq_of_eql (hzE w)
  dsimp only [Rul.v] at HR HN
  clear hE hN hR hsz hc hzE
  go_enter Tryz.func33, Tryz.ntmps33
  go_upto_region 2 with fail
  generalize w.alloc (.cells (Stp.cells ⟨5, e, ks, r⟩ a c) 33) = W1 at *
  generalize W1.alloc (.cells #[.int .i64 0, .int .i64 0, .int .i64 0, .int .i64 0, .int .i64 0, .int .i64 0, .bool false] 28) = W2 at *
  obtain ⟨c0, ⟨c1, c2, c3, c4, c5, c6, c7⟩, c8, c9, c10, c11, c12, c13⟩ := HB.out W2 HK12.out
  obtain ⟨z0, z1, z2, z3, z4, z5, z6⟩ := HZ.out W2 (Keeps.refl _)
  cases zE
  · go_wp2_with fail
    go_ret
    exact ⟨ret_none (by simp [stF]), HK.out⟩
  cases zK
  · have hkp : 0 < ks.length := by
      cases ks with
      | nil => simp [noK] at hzK
      | cons x t => simp
    clear hzK
    go_wp2_with fail
    go_ret
    exact ⟨ret_none (by simp [stF]), HK.out⟩
  · obtain rfl := noK_eq hzK
    clear hzK
    go_wp2_with fail
    refine (unhide HR _).mono ?_
    rintro x w1 ⟨rfl, hk1⟩
    have hcl := HB.out w1 (HK12.out.trans hk1)
    have HK1 := hide (HK.out.trans hk1)
    have HKW := hide (HK12.out.trans hk1)
    clear hk1 HK c0 c1 c2 c3 c4 c5 c6 c7 c8 c9 c10 c11 c12 c13 z0 z1 z2 z3 z4 z5 z6 hzN
    obtain ⟨lo, hi, st, mi, ma⟩ := r
    cases bR
    · go_wp2_with fail
      go_ret
      exact ⟨ret_none (by simp [stF]), HK1.out⟩
    have q9 := fun t => (HB.out _ (HKW.out.trans (gr_keeps w1 t))).2.2.2.1
    have q10 := fun t => (HB.out _ (HKW.out.trans (gr_keeps w1 t))).2.2.2.2.1
    have q11 := fun t => (HB.out _ (HKW.out.trans (gr_keeps w1 t))).2.2.2.2.2.1
    have q12 := fun t => (HB.out _ (HKW.out.trans (gr_keeps w1 t))).2.2.2.2.2.2.1
    have q13 := fun t => (HB.out _ (HKW.out.trans (gr_keeps w1 t))).2.2.2.2.2.2.2
    obtain ⟨NN, hNN⟩ : ∃ NN : Int → ByteArray, ∀ x, NN x = ⟨(numT x).toArray⟩ := ⟨_, fun _ => rfl⟩
    have HQ := hide (fun (x : Int) t => num_spec x (gr w1 t))
    have HQ' : Hid (∀ (x : Int) t, Calls Tryz.prog 54 #[.int .i64 x] (gr w1 t) fun e w' => e = .returned (.string (NN x)) ∧ Keeps (gr w1 t) w') := fun x t => by rw [hNN]; exact unhide HQ x t
    have hs : ∀ x, (NN x).size ≤ 21 := by
      intro x
      rw [hNN]
      have e2 : (⟨(numT x).toArray⟩ : ByteArray).size = (numT x).length := by show (numT x).toArray.size = _; simp
      rw [e2]; exact numT_len _
    have s0 := hs lo
    have s1 := hs hi
    have s2 := hs st
    have s3 := hs mi
    have s4 := hs ma
    have HNN := hide hNN
    clear hNN hs HQ
    have e1 : (⟨#[32]⟩ : ByteArray).size = 1 := rfl
    have e5 : (⟨#[116, 117, 114, 110, 32]⟩ : ByteArray).size = 5 := rfl
    have qa0 : ∀ w, (Op.stringOp .add (⟨#[116, 117, 114, 110, 32]⟩ : ByteArray) (NN lo)).run Tryz.prog w = .ok (.string ((⟨#[116, 117, 114, 110, 32]⟩ : ByteArray) ++ NN lo)) w := fun w => run_string_add_sum w _ _ (by simp only [ByteArray.size_append, e1, e5]; omega)
    have qa1 : ∀ w, (Op.stringOp .add ((⟨#[116, 117, 114, 110, 32]⟩ : ByteArray) ++ NN lo) ((⟨#[32]⟩ : ByteArray))).run Tryz.prog w = .ok (.string (((⟨#[116, 117, 114, 110, 32]⟩ : ByteArray) ++ NN lo) ++ (⟨#[32]⟩ : ByteArray))) w := fun w => run_string_add_sum w _ _ (by simp only [ByteArray.size_append, e1, e5]; omega)
    have qa2 : ∀ w, (Op.stringOp .add (((⟨#[116, 117, 114, 110, 32]⟩ : ByteArray) ++ NN lo) ++ (⟨#[32]⟩ : ByteArray)) (NN hi)).run Tryz.prog w = .ok (.string ((((⟨#[116, 117, 114, 110, 32]⟩ : ByteArray) ++ NN lo) ++ (⟨#[32]⟩ : ByteArray)) ++ NN hi)) w := fun w => run_string_add_sum w _ _ (by simp only [ByteArray.size_append, e1, e5]; omega)
    have qa3 : ∀ w, (Op.stringOp .add ((((⟨#[116, 117, 114, 110, 32]⟩ : ByteArray) ++ NN lo) ++ (⟨#[32]⟩ : ByteArray)) ++ NN hi) ((⟨#[32]⟩ : ByteArray))).run Tryz.prog w = .ok (.string (((((⟨#[116, 117, 114, 110, 32]⟩ : ByteArray) ++ NN lo) ++ (⟨#[32]⟩ : ByteArray)) ++ NN hi) ++ (⟨#[32]⟩ : ByteArray))) w := fun w => run_string_add_sum w _ _ (by simp only [ByteArray.size_append, e1, e5]; omega)
    have qa4 : ∀ w, (Op.stringOp .add (((((⟨#[116, 117, 114, 110, 32]⟩ : ByteArray) ++ NN lo) ++ (⟨#[32]⟩ : ByteArray)) ++ NN hi) ++ (⟨#[32]⟩ : ByteArray)) (NN st)).run Tryz.prog w = .ok (.string ((((((⟨#[116, 117, 114, 110, 32]⟩ : ByteArray) ++ NN lo) ++ (⟨#[32]⟩ : ByteArray)) ++ NN hi) ++ (⟨#[32]⟩ : ByteArray)) ++ NN st)) w := fun w => run_string_add_sum w _ _ (by simp only [ByteArray.size_append, e1, e5]; omega)
    have qa5 : ∀ w, (Op.stringOp .add ((((((⟨#[116, 117, 114, 110, 32]⟩ : ByteArray) ++ NN lo) ++ (⟨#[32]⟩ : ByteArray)) ++ NN hi) ++ (⟨#[32]⟩ : ByteArray)) ++ NN st) ((⟨#[32]⟩ : ByteArray))).run Tryz.prog w = .ok (.string (((((((⟨#[116, 117, 114, 110, 32]⟩ : ByteArray) ++ NN lo) ++ (⟨#[32]⟩ : ByteArray)) ++ NN hi) ++ (⟨#[32]⟩ : ByteArray)) ++ NN st) ++ (⟨#[32]⟩ : ByteArray))) w := fun w => run_string_add_sum w _ _ (by simp only [ByteArray.size_append, e1, e5]; omega)
    have qa6 : ∀ w, (Op.stringOp .add (((((((⟨#[116, 117, 114, 110, 32]⟩ : ByteArray) ++ NN lo) ++ (⟨#[32]⟩ : ByteArray)) ++ NN hi) ++ (⟨#[32]⟩ : ByteArray)) ++ NN st) ++ (⟨#[32]⟩ : ByteArray)) (NN mi)).run Tryz.prog w = .ok (.string ((((((((⟨#[116, 117, 114, 110, 32]⟩ : ByteArray) ++ NN lo) ++ (⟨#[32]⟩ : ByteArray)) ++ NN hi) ++ (⟨#[32]⟩ : ByteArray)) ++ NN st) ++ (⟨#[32]⟩ : ByteArray)) ++ NN mi)) w := fun w => run_string_add_sum w _ _ (by simp only [ByteArray.size_append, e1, e5]; omega)
    have qa7 : ∀ w, (Op.stringOp .add ((((((((⟨#[116, 117, 114, 110, 32]⟩ : ByteArray) ++ NN lo) ++ (⟨#[32]⟩ : ByteArray)) ++ NN hi) ++ (⟨#[32]⟩ : ByteArray)) ++ NN st) ++ (⟨#[32]⟩ : ByteArray)) ++ NN mi) ((⟨#[32]⟩ : ByteArray))).run Tryz.prog w = .ok (.string (((((((((⟨#[116, 117, 114, 110, 32]⟩ : ByteArray) ++ NN lo) ++ (⟨#[32]⟩ : ByteArray)) ++ NN hi) ++ (⟨#[32]⟩ : ByteArray)) ++ NN st) ++ (⟨#[32]⟩ : ByteArray)) ++ NN mi) ++ (⟨#[32]⟩ : ByteArray))) w := fun w => run_string_add_sum w _ _ (by simp only [ByteArray.size_append, e1, e5]; omega)
    have qa8 : ∀ w, (Op.stringOp .add (((((((((⟨#[116, 117, 114, 110, 32]⟩ : ByteArray) ++ NN lo) ++ (⟨#[32]⟩ : ByteArray)) ++ NN hi) ++ (⟨#[32]⟩ : ByteArray)) ++ NN st) ++ (⟨#[32]⟩ : ByteArray)) ++ NN mi) ++ (⟨#[32]⟩ : ByteArray)) (NN ma)).run Tryz.prog w = .ok (.string ((((((((((⟨#[116, 117, 114, 110, 32]⟩ : ByteArray) ++ NN lo) ++ (⟨#[32]⟩ : ByteArray)) ++ NN hi) ++ (⟨#[32]⟩ : ByteArray)) ++ NN st) ++ (⟨#[32]⟩ : ByteArray)) ++ NN mi) ++ (⟨#[32]⟩ : ByteArray)) ++ NN ma)) w := fun w => run_string_add_sum w _ _ (by simp only [ByteArray.size_append, e1, e5]; omega)
    clear e1 e5 s0 s1 s2 s3 s4 hcl
    go_upto_region 24 with fail
    refine region_gr (by kernel_rfl) (by kernel_rfl) ?_
    repeat (go_big_quiet_step (first | (go_at_call 54; exact gr_call (unhide HQ' _ _))))
    refine wpQuiet_nil ?_
    intro w' hw'
    have hk' := HK1.out.trans (Keeps.of_gr hw')
    clear hw'
    go_wp2_with fail
    go_ret
    refine ⟨?_, hk'⟩
    have hNN := HNN.out
    rw [hNN, hNN, hNN, hNN, hNN]
    refine congrArg _ (congrArg _ (ByteArray.ext (Array.ext' ?_)))
    simp [stG, stF, stT, sen, senN]
end Go.Proofs.YtjihinkjcplgcaaGreatDoor
namespace Go.Proofs.YtjihinkjcplgcaaGreatDoor
open Go.RowKit Go.Deep
set_option linter.unusedVariables false
set_option linter.unusedSimpArgs false
set_option maxRecDepth 10000
theorem sen_snoc (W : List UInt8) (ns : List Int) (k : Nat) (h : k < ns.length) : sen W (ns.take (k + 1)) = sen W (ns.take k) ++ [32] ++ numT ns[k] := by
  unfold sen
  rw [senN_succ ns k h]
  simp
set_option maxHeartbeats 2000000 in
theorem steps_3 (e : Ev) (ks : List Int) (r : Rul) (a : Option Addr) (c : Nat) (zE zK zR bE bR : Bool) (w : World) (hc : Cells w a (its ks)) (hl : ks.length ≤ 1048576) (hzE : ∀ w, (binOp .eql 28 (evV e.k e.y e.c e.t e.m e.f e.b) (evV 0 0 0 0 0 0 false)).run Tryz.prog w = .ok (.bool zE) w) (hzK : noK ks = zK)
    (hE : ∀ w, Calls Tryz.prog 59 #[evV e.k e.y e.c e.t e.m e.f e.b] w fun x w' => x = .returned (.bool bE) ∧ Keeps w w') (hN : ∀ w, Calls Tryz.prog 58 #[r.v] w fun x w' => x = .returned (.bool zR) ∧ Keeps w w') (hR : ∀ w, Calls Tryz.prog 61 #[r.v] w fun x w' => x = .returned (.bool bR) ∧ Keeps w w') :
    Calls Tryz.prog 33 #[Stp.v ⟨3, e, ks, r⟩ a c] w fun x w' => x = .returned (.string ⟨(stG ⟨3, e, ks, r⟩ (stF 3 zE zK zR bE (allA ks) bR)).toArray⟩) ∧ Keeps w w' := by
  have HK := hide (Keeps.alloc (Keeps.alloc (Keeps.refl w) (.cells (Stp.cells ⟨3, e, ks, r⟩ a c) 33)) (.cells #[.int .i64 0, .int .i64 0, .int .i64 0, .int .i64 0, .int .i64 0, .int .i64 0, .bool false] 28))
  have HK12 := hide (Keeps.alloc (Keeps.refl (w.alloc (.cells (Stp.cells ⟨3, e, ks, r⟩ a c) 33))) (.cells #[.int .i64 0, .int .i64 0, .int .i64 0, .int .i64 0, .int .i64 0, .int .i64 0, .bool false] 28))
  have HB := hide (stp_box ⟨3, e, ks, r⟩ a c w 33)
  have HZ := hide (stp_zero (w.alloc (.cells (Stp.cells ⟨3, e, ks, r⟩ a c) 33)) 28)
  have hsz : (w.alloc (.cells (Stp.cells ⟨3, e, ks, r⟩ a c) 33)).heap.size = w.heap.size + 1 := by simp
  rw [hsz] at HZ
  have HC := hide hc
  have HE := hide hE
  have HN := hide hN
  have HR := hide hR
  have hzN := fun w => neq_of_eql (hzE w)
  dsimp only [Rul.v] at HR HN
  clear hE hN hR hsz hc hzE
  go_enter Tryz.func33, Tryz.ntmps33
  go_upto_region 2 with fail
  generalize w.alloc (.cells (Stp.cells ⟨3, e, ks, r⟩ a c) 33) = W1 at *
  generalize W1.alloc (.cells #[.int .i64 0, .int .i64 0, .int .i64 0, .int .i64 0, .int .i64 0, .int .i64 0, .bool false] 28) = W2 at *
  obtain ⟨c0, ⟨c1, c2, c3, c4, c5, c6, c7⟩, c8, c9, c10, c11, c12, c13⟩ := HB.out W2 HK12.out
  obtain ⟨z0, z1, z2, z3, z4, z5, z6⟩ := HZ.out W2 (Keeps.refl _)
  cases zE
  · go_wp2_with fail
    go_ret
    exact ⟨ret_none (by simp [stF]), HK.out⟩
  · go_wp2_with fail
    refine (unhide HN _).mono ?_
    rintro x w1 ⟨rfl, hk1⟩
    have hcl := HB.out w1 (HK12.out.trans hk1)
    have HK1 := hide (HK.out.trans hk1)
    clear hk1 HK c0 c1 c2 c3 c4 c5 c6 c7 c8 c9 c10 c11 c12 c13 z0 z1 z2 z3 z4 z5 z6
    obtain ⟨c0, ⟨c1, c2, c3, c4, c5, c6, c7⟩, c8, c9, c10, c11, c12, c13⟩ := hcl
    cases zR
    · go_wp2_with fail
      go_ret
      exact ⟨ret_none (by simp [stF]), HK1.out⟩
    have HCr := hide (fun w' (hk : Keeps w w') => HC.out.kept hk)
    have HLl := hide hl
    have HAm := hide amt_spec
    clear HE HR HB HZ HN hzN hl HK12
    go_wp2_with fail
    clear c0 c1 c2 c3 c4 c5 c6 c7 c8 c9 c10 c11 c12 c13
    have HB0 : Hid ((⟨#[99, 114, 97, 115, 104]⟩ : ByteArray) = ⟨(sen [99, 114, 97, 115, 104] (ks.take 0)).toArray⟩) := by show _ = _; rfl
    go_loopw [4, 59] (fun o y wr => ∃ (k : Nat) (A : ByteArray), k ≤ ks.length ∧ o = .string A ∧ y = .int .i64 (k : Int) ∧ Hid (A = ⟨(sen [99, 114, 97, 115, 104] (ks.take k)).toArray⟩) ∧ Hid ((ks.take k).all amtB = true) ∧ Hid (Keeps w wr)) (fun _ y _ => ks.length - (intOf y).toNat)
    case atStart => exact ⟨0, _, Nat.zero_le _, rfl, rfl, HB0, by show _ = _; simp, HK1⟩
    case round =>
      clear HB0 HK1
      obtain ⟨k, A, hk, rfl, rfl, HA, HAll, HK⟩ := hrel
      have hl := HLl.out
      by_cases hlt : k < ks.length
      · obtain ⟨bb, off, ea, c0⟩ := its_at (unhide HCr wr HK.out) k hlt
        subst ea
        have HE := hide (List.take_append_getElem hlt)
        have HSn := hide (sen_snoc [99, 114, 97, 115, 104] ks k hlt)
        have hA : A.size ≤ 30000000 := by
          rw [HA.out]
          have h2 := senN_len (ks.take k)
          have h3 : (ks.take k).length ≤ k := by simp; omega
          have e2 : (⟨(sen [99, 114, 97, 115, 104] (ks.take k)).toArray⟩ : ByteArray).size = (sen [99, 114, 97, 115, 104] (ks.take k)).length := by show (sen [99, 114, 97, 115, 104] (ks.take k)).toArray.size = _; simp
          rw [e2]
          unfold sen
          simp only [List.length_append, List.length_cons, List.length_nil]
          omega
        have e1 : (⟨#[32]⟩ : ByteArray).size = 1 := rfl
        have qa : ∀ w, (Op.stringOp .add A (⟨#[32]⟩ : ByteArray)).run Tryz.prog w = .ok (.string (A ++ (⟨#[32]⟩ : ByteArray))) w := fun w => run_string_add_sum w _ _ (by rw [e1]; omega)
        generalize ks[k] = x at *
        have HQ := hide (fun w' => num_spec x w')
        obtain ⟨N, hN⟩ : ∃ N : ByteArray, N = ⟨(numT x).toArray⟩ := ⟨_, rfl⟩
        rw [← hN] at HQ
        have hNs : N.size ≤ 21 := by
          rw [hN]
          have e2 : (⟨(numT x).toArray⟩ : ByteArray).size = (numT x).length := by show (numT x).toArray.size = _; simp
          rw [e2]; exact numT_len x
        have HN := hide hN
        clear hN
        have qb : ∀ w, (Op.stringOp .add (A ++ (⟨#[32]⟩ : ByteArray)) N).run Tryz.prog w = .ok (.string (A ++ (⟨#[32]⟩ : ByteArray) ++ N)) w := fun w => run_string_add_sum w _ _ (by rw [ByteArray.size_append, e1]; omega)
        clear hA hNs e1
        have HQ2 := hide (fun w' => unhide HAm x w')
        cases hx : amtB x
        · rw [hx] at HQ2
          have HF : Hid (allA ks = false) := by
            show _ = _
            refine List.all_eq_false.2 ⟨x, ?_, by simp [hx]⟩
            have := HE.out
            exact List.mem_of_mem_take (i := k + 1) (by rw [← this]; simp)
          clear hx
          go_wp2_with fail
          refine (unhide HQ2 _).mono ?_
          rintro x1 w2 ⟨rfl, hk2⟩
          go_wp2_with fail
          go_ret
          exact ⟨ret_none (by simp [stF, HF.out]), HK.out.trans hk2⟩
        · rw [hx] at HQ2
          have HF : Hid ((ks.take (k + 1)).all amtB = true) := by
            show _ = _
            rw [← HE.out, List.all_append, HAll.out]
            simp [hx]
          clear hx HE
          go_wp2_with fail
          refine (unhide HQ2 _).mono ?_
          rintro x1 w2 ⟨rfl, hk2⟩
          have HK2 := hide (HK.out.trans hk2)
          clear hk2 HK
          go_wp2_with fail
          refine (unhide HQ _).mono ?_
          rintro x1 w3 ⟨rfl, hk3⟩
          have HK3 := hide (HK2.out.trans hk3)
          clear hk3 HK2
          go_wp2_with fail
          go_roundw
          case rel => exact ⟨k + 1, _, by omega, rfl, by go_num, by
                        show _ = _
                        rw [HSn.out, HA.out, HN.out]
                        exact ByteArray.ext (Array.ext' (by simp)), HF, HK3⟩
          case measure => simp [intOf]; omega
      · have e : k = ks.length := by omega
        subst e
        have HF : Hid (allA ks = true) := by have h3 := HAll.out; rw [List.take_length] at h3; exact h3
        go_wp2_with fail
        go_ret
        rw [HA.out, List.take_length]
        exact ⟨ret_stG (by simp [stG, stF, stT, HF.out]), HK.out⟩
theorem steps_spec (D : Stp) (a : Option Addr) (c : Nat) (w : World) (hc : Cells w a (its D.ks)) (hl : D.ks.length ≤ 1048576) :
    Calls Tryz.prog 33 #[D.v a c] w fun e w' => e = .returned (.string ⟨(stL D).toArray⟩) ∧ Keeps w w' := by
  have hE := fun w' => evok_spec D.e.k D.e.y D.e.c D.e.t D.e.m D.e.f D.e.b w'
  have hN := fun w' => norule_k D.r w'
  have hR := fun w' => rule_spec D.r w'
  have q1 := ev_eql D.e.k D.e.y D.e.c D.e.t D.e.m D.e.f D.e.b 0 0 0 0 0 0 false
  rw [← stF_eq']
  obtain ⟨k, e, ks, r⟩ := D
  dsimp only at *
  by_cases h1 : k = 1
  · subst h1; exact steps_1 e ks r a c _ _ _ _ _ w rfl hc hl q1 rfl hE hN hR
  by_cases h2 : k = 2
  · subst h2; exact steps_2 e ks r a c _ _ _ _ _ w hc hl q1 rfl hE hN hR
  by_cases h3 : k = 3
  · subst h3; exact steps_3 e ks r a c _ _ _ _ _ w hc hl q1 rfl hE hN hR
  by_cases h4 : k = 4
  · subst h4; exact steps_4 e ks r a c _ _ _ _ _ w hc hl q1 rfl hE hN hR
  by_cases h5 : k = 5
  · subst h5; exact steps_5 e ks r a c _ _ _ _ _ w hc hl q1 rfl hE hN hR
  exact steps_0 k e ks r a c _ _ _ _ _ w hc hl q1 rfl hE hN hR ⟨h1, h2, h3, h4, h5⟩
end Go.Proofs.YtjihinkjcplgcaaGreatDoor
namespace Go.Proofs.YtjihinkjcplgcaaGreatDoor
open Go.RowKit Go.Deep
set_option linter.unusedVariables false

theorem infoByte : (Tryz.prog.info? 5).map (fun i => (i.zero, i.size, i.bytes)) = some (some (.int .u8 0), 1, 1) := by kernel_rfl
end Go.Proofs.YtjihinkjcplgcaaGreatDoor
namespace Go.Proofs.YtjihinkjcplgcaaGreatDoor
open Go.RowKit
set_option linter.unusedVariables false
set_option linter.unusedSimpArgs false
set_option maxRecDepth 10000
theorem underStrs : Tryz.prog.underlying 48 = some (.slice 9) := Tryz.underlying48
theorem infoStr : (Tryz.prog.info? 9).map (fun i => (i.zero, i.size, i.bytes)) = some (some (.string ByteArray.empty), 1, 16) := by kernel_rfl
def strs (ws : List ByteArray) : List Value := ws.map .string
theorem app_str {ops : Array Oper} {rest : List Oper} {o : Oper} {a : Act} {Q : Exit → Act → World → Prop} {wr : World} (hgd : o.guard = none) (s x : Operand)
    (ho : o.op = .call { callee := .builtin .append, args := #[s, x], argTypes := #[48, 48] }) (base : Nat) (v : Value) (M : List ByteArray) (y : ByteArray) (hs : a.eval s = v)
    (hx : a.eval x = .slice (some ⟨wr.heap.size, 0, none⟩) 1 1) (hown : wr.ownsRow base 9 1 v M.length (strs M)) (hM : M.length ≤ 4194304) (hbase : base ≤ wr.heap.size)
    (h : ∀ v' w', w'.ownsRow base 9 1 v' (M ++ [y]).length (strs (M ++ [y])) → (wr.alloc (.cells #[.string y] 9)).grownBy w' v.ownBlock → wpList Tryz.prog ops Q rest (a.put o.dst v') w') :
    wpList Tryz.prog ops Q (o :: rest) a (wr.alloc (.cells #[.string y] 9)) := by
  have hI := infoStr
  cases hi : Tryz.prog.info? 9 with
  | none => rw [hi] at hI; simp at hI
  | some i =>
    rw [hi] at hI
    simp at hI
    obtain ⟨hz, hsz, hby⟩ := hI
    refine wpList_append_own _ hgd s x 48 ho base 9 i _ 1 16 underStrs hi hz hsz hby rfl (by decide) v M.length (strs M) hs (hown.alloc _) ⟨wr.heap.size, 0, none⟩ 1 1 [.string y] hx rfl ?_ ?_ ?_ ?_ ?_ ?_
    · intro j u hj
      match j, hj with
      | 0, hj => simp at hj; subst hj; simp [Addr.add]
      | n + 1, hj => simp at hj
    · intro u hu
      simp at hu
      rcases hu with rfl <;> rfl
    · simp only [maxLen]; omega
    · omega
    · simp; omega
    · intro v' w' h1 h2 h3
      refine h v' w' ?_ h2
      unfold strs at h1 ⊢
      rw [List.map_append, List.length_append]; exact h1
/-- Words, each with a blank behind it. -/
def pre (ws : List (List UInt8)) : List UInt8 := ws.flatMap (· ++ [32])
theorem pre_snoc (ws : List (List UInt8)) (x : List UInt8) : pre (ws ++ [x]) = pre ws ++ x ++ [32] := by simp [pre]
theorem join_pre : ∀ (ws : List (List UInt8)) (x : List UInt8), join (ws ++ [x]) = pre ws ++ x
  | [], x => by simp [join, pre]
  | [w], x => by simp [join, pre]
  | w :: v :: r, x => by
    have ih := join_pre (v :: r) x
    have e : (w :: v :: r) ++ [x] = w :: v :: (r ++ [x]) := rfl
    rw [e, join_cons]
    have e2 : v :: (r ++ [x]) = (v :: r) ++ [x] := rfl
    rw [e2, ih]
    simp [pre]
def dl (x : ByteArray) : List UInt8 := x.data.toList
/-- What a text's parts are. -/
structure Spl (s : ByteArray) (ws : List ByteArray) : Prop where
  ne : ws ≠ []
  joined : join (ws.map dl) = dl s
  no : ∀ x ∈ ws, (32 : UInt8) ∉ dl x
  size : ∀ x ∈ ws, x.size ≤ s.size
theorem Spl.eq {s : ByteArray} {ws : List ByteArray} (h : Spl s ws) {W : List (List UInt8)} (hW : W ≠ []) (hn : ∀ w ∈ W, (32 : UInt8) ∉ w) (hj : join W = dl s) : ws.map dl = W := by
  have h1 := split_join (ws.map dl) (ws.length + W.length) (by simpa using h.ne) (by intro w hw; obtain ⟨x, hx, rfl⟩ := List.mem_map.1 hw; exact h.no x hx) (by simp; omega)
  have h2 := split_join W (ws.length + W.length) hW hn (by omega)
  rw [h.joined] at h1
  rw [hj] at h2
  exact h1.symm.trans h2
/-- Where the cutting stands behind i bytes. -/
structure At (s : ByteArray) (i frm : Nat) (ws : List ByteArray) : Prop where
  le : frm ≤ i
  done : pre (ws.map dl) = (dl s).take frm
  clear : ∀ j, frm ≤ j → j < i → (dl s)[j]? ≠ some 32
  no : ∀ x ∈ ws, (32 : UInt8) ∉ dl x
  size : ∀ x ∈ ws, x.size ≤ s.size
  len : ws.length ≤ i
theorem World.ownsRow.from' {w : World} {base n : Nat} {e : TypeId} {sz : Nat} {v : Value} {xs : List Value} (h : w.ownsRow base e sz v n xs) : ∀ k, v.ownBlock = some k → base ≤ k := fun k hk => (h.lt k hk).1
theorem dl_extract (s : ByteArray) (a b : Nat) : dl (s.extract a b) = ((dl s).take b).drop a := by
  unfold dl
  rw [ByteArray.data_extract]
  simp [Array.toList_extract, List.drop_take]
theorem piece_no {s : ByteArray} {frm i : Nat} (hc : ∀ j, frm ≤ j → j < i → (dl s)[j]? ≠ some 32) : (32 : UInt8) ∉ dl (s.extract frm i) := by
  rw [dl_extract]
  intro h
  obtain ⟨j, hj⟩ := List.mem_iff_getElem?.1 h
  rw [List.getElem?_drop, List.getElem?_take] at hj
  split at hj
  · exact hc (frm + j) (by omega) (by omega) hj
  · cases hj
theorem At.miss {s : ByteArray} {i frm : Nat} {ws : List ByteArray} (h : At s i frm ws) (hlt : i < s.size) (hb : (s[i]'hlt).toNat ≠ 32) : At s (i + 1) frm ws := by
  refine ⟨by have := h.le; omega, h.done, ?_, h.no, h.size, by have := h.len; omega⟩
  intro j h1 h2
  by_cases e : j = i
  · subst e
    intro e2
    apply hb
    have e3 : (dl s)[j]? = some (s[j]'hlt) := by
      unfold dl
      rw [Array.getElem?_toList, Array.getElem?_eq_getElem hlt]
      rfl
    rw [e3] at e2
    injection e2 with e2
    rw [e2]; rfl
  · exact h.clear j h1 (by omega)
theorem At.hit {s : ByteArray} {i frm : Nat} {ws : List ByteArray} (h : At s i frm ws) (hlt : i < s.size) (hb : (s[i]'hlt).toNat = 32) : At s (i + 1) (i + 1) (ws ++ [s.extract frm i]) := by
  have e3 : (dl s)[i]? = some 32 := by
    unfold dl
    rw [Array.getElem?_toList, Array.getElem?_eq_getElem hlt]
    exact congrArg some (UInt8.toNat_inj.1 hb)
  refine ⟨by omega, ?_, by intro j h1 h2; omega, ?_, ?_, by have := h.len; simp; omega⟩
  · rw [List.map_append, List.map_cons, List.map_nil, pre_snoc, h.done, dl_extract]
    have hl := h.le
    rw [List.take_add_one, e3]
    have : List.take frm (dl s) = (List.take i (dl s)).take frm := by rw [List.take_take, Nat.min_eq_left hl]
    rw [this, List.take_append_drop]
    rfl
  · intro x hx
    rcases List.mem_append.1 hx with hx | hx
    · exact h.no x hx
    · rw [List.mem_singleton.1 hx]; exact piece_no h.clear
  · intro x hx
    rcases List.mem_append.1 hx with hx | hx
    · exact h.size x hx
    · rw [List.mem_singleton.1 hx, ByteArray.size_extract]; omega
theorem At.last {s : ByteArray} {frm : Nat} {ws : List ByteArray} (h : At s s.size frm ws) : Spl s (ws ++ [s.extract frm s.size]) := by
  refine ⟨by simp, ?_, ?_, ?_⟩
  · rw [List.map_append, List.map_cons, List.map_nil, join_pre, h.done, dl_extract]
    have e : (dl s).take s.size = dl s := List.take_of_length_le (by unfold dl; rw [Array.length_toList]; exact Nat.le_refl _)
    rw [e, List.take_append_drop]
  · intro x hx
    rcases List.mem_append.1 hx with hx | hx
    · exact h.no x hx
    · rw [List.mem_singleton.1 hx]; exact piece_no h.clear
  · intro x hx
    rcases List.mem_append.1 hx with hx | hx
    · exact h.size x hx
    · rw [List.mem_singleton.1 hx, ByteArray.size_extract]; omega
set_option maxRecDepth 100000 in
set_option maxHeartbeats 4000000 in
theorem parts_k (s : ByteArray) (w : World) (hs : s.size ≤ 1048576) :
    Calls Tryz.prog 30 #[.string s, .int .u8 32] w fun e w' => ∃ v ws, e = .returned v ∧ w'.ownsRow w.heap.size 9 1 v ws.length (strs ws) ∧ Spl s ws ∧ Keeps w w' := by
  have hk0 := Keeps.alloc (Keeps.refl w) (.cells #[] 9)
  have HO0 : Hid ((w.alloc (.cells #[] 9)).ownsRow w.heap.size 9 1 (.slice (some ⟨w.heap.size, 0, none⟩) 0 0) 0 []) := World.ownsRow_made (base := w.heap.size) (e := 9) (size := 1) w #[] 0 (Nat.le_refl _) (by decide) rfl
  go_enter Tryz.func30, Tryz.ntmps30
  go_wp2_with fail
  go_loopw [5, 6, 7] (fun o fr y wr => ∃ (i frm : Nat) (ws : List ByteArray), i ≤ s.size ∧ y = .int .i64 (i : Int) ∧ fr = .int .i64 (frm : Int) ∧ Hid (wr.ownsRow w.heap.size 9 1 o ws.length (strs ws)) ∧ Hid (At s i frm ws) ∧ Hid (Keeps w wr)) (fun _ _ y _ => s.size - (intOf y).toNat)
  case atStart => exact ⟨0, 0, [], by omega, rfl, rfl, HO0, ⟨by omega, by simp [pre], by intro j h1 h2; omega, by simp, by simp, by simp⟩, hk0⟩
  case round =>
    clear HO0 hk0
    obtain ⟨i, frm, ws, hi, rfl, rfl, HO, HA, HK⟩ := hrel
    have hfi := HA.out.le
    have hln := HA.out.len
    by_cases hlt : i < s.size
    · have hsz := HK.out.size
      by_cases hb : ((s[i]'hlt).toNat : Int) = 32
      · have HKA := hide (Keeps.alloc HK.out (.cells #[.string (s.extract frm i)] 9))
        have HF := hide (World.ownsRow.from' HO.out)
        go_wp2_with (at_builtin; refine app_str rfl (.tmp 20) (.tmp 25) rfl w.heap.size _ ws (s.extract frm i) rfl rfl HO.out (by omega) hsz ?_; intro v' w' ho hg)
        go_roundw
        case rel => exact ⟨i + 1, i + 1, ws ++ [s.extract frm i], by omega, by go_num, by go_num, ho, HA.out.hit hlt (by omega), Keeps.grown HKA.out hg HF.out⟩
        case measure => simp [intOf]; omega
      · go_wp2_with fail
        go_roundw
        case rel => exact ⟨i + 1, frm, ws, by omega, by go_num, rfl, HO, HA.out.miss hlt (by omega), HK⟩
        case measure => simp [intOf]; omega
    · have e : i = s.size := by omega
      subst e
      have hsz := HK.out.size
      have HKA := hide (Keeps.alloc HK.out (.cells #[.string (s.extract frm s.size)] 9))
      have HF := hide (World.ownsRow.from' HO.out)
      go_wp2_with (at_builtin; refine app_str rfl (.tmp 29) (.tmp 33) rfl w.heap.size _ ws (s.extract frm s.size) rfl rfl HO.out (by omega) hsz ?_; intro v' w' ho hg)
      go_ret
      exact ⟨v', ws ++ [s.extract frm s.size], rfl, ho, HA.out.last, Keeps.grown HKA.out hg HF.out⟩
end Go.Proofs.YtjihinkjcplgcaaGreatDoor
namespace Go.Proofs.YtjihinkjcplgcaaGreatDoor
open Go.RowKit
set_option linter.unusedVariables false
set_option linter.unusedSimpArgs false
set_option maxRecDepth 10000
theorem dl_len (s : ByteArray) : (dl s).length = s.size := by unfold dl; simp
theorem dl_at (s : ByteArray) (c : UInt8) (i : Nat) (h : i < s.size) : (dl s ++ [c])[i]? = some (s[i]'h) := by
  rw [List.getElem?_append_left (by rw [dl_len]; exact h)]
  exact getB_at s i h
theorem dl_end (s : ByteArray) (c : UInt8) : (dl s ++ [c])[s.size]? = some c := by
  rw [List.getElem?_append_right (by rw [dl_len]; exact Nat.le_refl _), dl_len]; simp
theorem dl_piece (s : ByteArray) (c : UInt8) {a b : Nat} (h : b ≤ s.size) : dl (s.extract a b) = ((dl s ++ [c]).take b).drop a := by
  rw [dl_extract, List.take_append_of_le_length (by rw [dl_len]; exact h)]
/-- What the parts of a text are, in memory's words. -/
structure Pts (c : UInt8) (s : ByteArray) (ws : List ByteArray) : Prop where
  eq : ws.map dl = partsE c (dl s ++ [c])
  size : ∀ x ∈ ws, x.size ≤ s.size
  len : ws.length ≤ s.size + 1
theorem Pts.ne {c : UInt8} {s : ByteArray} {ws : List ByteArray} (h : Pts c s ws) : ws ≠ [] := by
  intro e
  have := h.eq
  rw [e] at this
  exact partsE_ne (dl s) this.symm
structure AtP (c : UInt8) (s : ByteArray) (i frm : Nat) (ws : List ByteArray) : Prop where
  at_ : AtE c (dl s ++ [c]) i frm (ws.map dl)
  size : ∀ x ∈ ws, x.size ≤ s.size
  len : ws.length ≤ i
theorem AtP.start (c : UInt8) (s : ByteArray) : AtP c s 0 0 [] := ⟨AtE.start _ _, by simp, by simp⟩
theorem AtP.miss {c : UInt8} {s : ByteArray} {i frm : Nat} {ws : List ByteArray} (h : AtP c s i frm ws) (hlt : i < s.size) (hb : ¬ (s[i]'hlt).toNat = c.toNat) : AtP c s (i + 1) frm ws := by
  refine ⟨h.at_.skip 1 fun j h1 h2 => ?_, h.size, by have := h.len; omega⟩
  obtain rfl : j = i := by omega
  rw [dl_at s c j hlt]
  intro e
  exact hb (congrArg UInt8.toNat (Option.some.inj e))
theorem AtP.hit {c : UInt8} {s : ByteArray} {i frm : Nat} {ws : List ByteArray} (h : AtP c s i frm ws) (hlt : i < s.size) (hb : (s[i]'hlt).toNat = c.toNat) : AtP c s (i + 1) (i + 1) (ws ++ [s.extract frm i]) := by
  refine ⟨?_, ?_, by have := h.len; simp; omega⟩
  · rw [List.map_append, List.map_cons, List.map_nil, dl_piece s c (Nat.le_of_lt hlt)]
    exact h.at_.hit (by rw [dl_at s c i hlt, UInt8.toNat_inj.1 hb])
  · intro x hx
    rcases List.mem_append.1 hx with hx | hx
    · exact h.size x hx
    · rw [List.mem_singleton.1 hx, ByteArray.size_extract]; omega
theorem AtP.last {c : UInt8} {s : ByteArray} {frm : Nat} {ws : List ByteArray} (h : AtP c s s.size frm ws) : Pts c s (ws ++ [s.extract frm s.size]) := by
  refine ⟨?_, ?_, by have := h.len; simp; omega⟩
  · rw [List.map_append, List.map_cons, List.map_nil, dl_piece s c (Nat.le_refl _)]
    exact (((h.at_.hit (dl_end s c)).fin (by rw [dl_len]; omega))).symm
  · intro x hx
    rcases List.mem_append.1 hx with hx | hx
    · exact h.size x hx
    · rw [List.mem_singleton.1 hx, ByteArray.size_extract]; omega
set_option maxRecDepth 100000 in
set_option maxHeartbeats 4000000 in
theorem parts_e (c : UInt8) (s : ByteArray) (w : World) (hs : s.size ≤ 1048576) :
    Calls Tryz.prog 30 #[.string s, .int .u8 (c.toNat : Int)] w fun e w' => ∃ v ws, e = .returned v ∧ w'.ownsRow w.heap.size 9 1 v ws.length (strs ws) ∧ Pts c s ws ∧ Keeps w w' := by
  have hk0 := Keeps.alloc (Keeps.refl w) (.cells #[] 9)
  have HO0 : Hid ((w.alloc (.cells #[] 9)).ownsRow w.heap.size 9 1 (.slice (some ⟨w.heap.size, 0, none⟩) 0 0) 0 []) := World.ownsRow_made (base := w.heap.size) (e := 9) (size := 1) w #[] 0 (Nat.le_refl _) (by decide) rfl
  have hc8 : c.toNat < 256 := c.toNat_lt
  have hcv : Hid (c.toNat = c.toNat) := rfl
  go_enter Tryz.func30, Tryz.ntmps30
  go_wp2_with fail
  go_loopw [5, 6, 7] (fun o fr y wr => ∃ (i frm : Nat) (ws : List ByteArray), i ≤ s.size ∧ y = .int .i64 (i : Int) ∧ fr = .int .i64 (frm : Int) ∧ Hid (wr.ownsRow w.heap.size 9 1 o ws.length (strs ws)) ∧ Hid (AtP c s i frm ws) ∧ Hid (Keeps w wr)) (fun _ _ y _ => s.size - (intOf y).toNat)
  case atStart => exact ⟨0, 0, [], by omega, rfl, rfl, HO0, AtP.start c s, hk0⟩
  case round =>
    clear HO0 hk0
    obtain ⟨i, frm, ws, hi, rfl, rfl, HO, HA, HK⟩ := hrel
    have hfi := HA.out.at_.le
    have hln := HA.out.len
    by_cases hlt : i < s.size
    · have hsz := HK.out.size
      by_cases hb : ((s[i]'hlt).toNat : Int) = (c.toNat : Int)
      · have HKA := hide (Keeps.alloc HK.out (.cells #[.string (s.extract frm i)] 9))
        have HF := hide (World.ownsRow.from' HO.out)
        go_wp2_with (at_builtin; refine app_str rfl (.tmp 20) (.tmp 25) rfl w.heap.size _ ws (s.extract frm i) rfl rfl HO.out (by omega) hsz ?_; intro v' w' ho hg)
        go_roundw
        case rel => exact ⟨i + 1, i + 1, ws ++ [s.extract frm i], by omega, by go_num, by go_num, ho, HA.out.hit hlt (by omega), Keeps.grown HKA.out hg HF.out⟩
        case measure => simp [intOf]; omega
      · go_wp2_with fail
        go_roundw
        case rel => exact ⟨i + 1, frm, ws, by omega, by go_num, rfl, HO, HA.out.miss hlt (by omega), HK⟩
        case measure => simp [intOf]; omega
    · have e : i = s.size := by omega
      subst e
      have hsz := HK.out.size
      have HKA := hide (Keeps.alloc HK.out (.cells #[.string (s.extract frm s.size)] 9))
      have HF := hide (World.ownsRow.from' HO.out)
      go_wp2_with (at_builtin; refine app_str rfl (.tmp 29) (.tmp 33) rfl w.heap.size _ ws (s.extract frm s.size) rfl rfl HO.out (by omega) hsz ?_; intro v' w' ho hg)
      go_ret
      exact ⟨v', ws ++ [s.extract frm s.size], rfl, ho, HA.out.last, Keeps.grown HKA.out hg HF.out⟩
end Go.Proofs.YtjihinkjcplgcaaGreatDoor
