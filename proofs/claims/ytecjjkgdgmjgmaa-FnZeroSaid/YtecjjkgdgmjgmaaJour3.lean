/- The program's add: a line into a journal. -/
import Derived.Test.YtecjjkgdgmjgmaaJour2
namespace Go.Proofs.Ytecjjkgdgmjgmaa
open Go.RowKit Go.Maps
set_option linter.unusedVariables false

theorem grown_drewNs (w : World) (m : Nat) : w.grownBy (w.drewN m) none := ⟨rfl, rfl, rfl, Nat.le_refl _, fun _ _ _ => rfl⟩
theorem grown_drew (w : World) (row : Option Nat) : w.grownBy w.drew row := ⟨rfl, rfl, rfl, Nat.le_refl _, fun _ _ _ => rfl⟩
theorem Keeps.grownJ {w w' : World} (h : Keeps w w') {row : Option Nat} : w.grownBy w' row := ⟨h.os, h.tape, h.output, h.size, fun k hk _ => h.block k hk⟩
theorem look_run {w : World} {b n : Nat} {D : DataW Unit} {M : List Ln} {k c : Int} (hO : OwnsJ w b n D) (hR : Rep D M) (hx : accB k c = true) :
    (Instr.lookup 80 (.map (some b)) (accV k c) false).run Try.prog w = .ok (.int .i64 (balF k c M)) w := by
  obtain ⟨v, hrun, hat, _⟩ := World.ownsMap.lookup_int hO accKeyed Try.underlying80 Try.underlying3 (Try.zeroValue3 w) (key_ok hx)
  have := hR.at' k c hx
  rw [hat] at this
  have e : v = balF k c M := by simpa using this
  rw [hrun, e]
/-- A line has come into a journal. -/
def JAdded (b n : Nat) (M : List Ln) (x : Ln) (w w' : World) : Prop := ∃ D', OwnsJ w' b (n + 1) D' ∧ Rep D' (addG x false M) ∧ w.grownBy w' (some b)

set_option maxHeartbeats 2000000 in
theorem jadd_impl (J b n : Nat) (D : DataW Unit) (M : List Ln) (x : Ln) (w : World) (j1 : w.cell? ⟨J, 1, none⟩ = some (.map (some b))) (hO : OwnsJ w b n D) (hR : Rep D M) (hg : Good M) (hn : n < 1000000000) (hx : accB x.k x.c = true) (h0 : x.a ≠ 0)
    (b0 : -1125899906842624 ≤ balF x.k x.c M) (b1 : balF x.k x.c M ≤ 1125899906842624) (a0 : -1125899906842624 ≤ x.a) (a1 : x.a ≤ 1125899906842624) :
    Calls Try.prog 68 #[.pointer (some ⟨J, 0, none⟩), lineV x] w fun e w' => e = .returned (.tuple #[]) ∧ JAdded b n M x w w' := by
  obtain ⟨xk, xc, xa⟩ := x
  dsimp only at hx h0 b0 b1 a0 a1
  have HO1 := hide (hO.alloc (.cells #[.int .i64 xk, .int .i64 xc, .int .i64 xa] 35))
  have HLk := hide (fun m => look_run (w := (w.alloc (.cells #[.int .i64 xk, .int .i64 xc, .int .i64 xa] 35)).drewN m) (b := b) (n := n) (D := D) (M := M) (k := xk) (c := xc) (HO1.out.kept (grown_drewNs _ m) (by simp)) hR hx)
  have HKey := hide (key_ok hx)
  have hjlt := lt_of_cell j1
  have hJb : J ≠ b := by
    intro e
    subst e
    obtain ⟨es, clock, hb, _⟩ := hO
    simp [World.cell?, hb] at j1
  have HG0 := hide (World.grownBy_alloc w (.cells #[.int .i64 xk, .int .i64 xc, .int .i64 xa] 35) (some b))
  have HPut := hide (fun (h : balF xk xc M + xa ≠ 0) => rep_add_put (x := ⟨xk, xc, xa⟩) hg hR hx h h0)
  have HDel := hide (fun (h : balF xk xc M + xa = 0) => rep_add_del (x := ⟨xk, xc, xa⟩) hg hR hx h h0)
  have hblt := hO.lt
  clear hO hR hx
  generalize balF xk xc M = q at *
  go_enter Try.func68, Try.ntmps68
  go_wp2_with fail
  have W1 := hide (World.cell?_alloc_mark w #[.int .i64 xk, .int .i64 xc, .int .i64 xa] 35 (0, 0) 0)
  have hlk := HLk.out
  go_quiet (fail)
  have HOV := hide (HO1.out.kept (grown_drewNs _ nq) (by simp))
  have HGV := hide (HG0.out.trans ((grown_drewNs _ nq).but _))
  have J1 : ((w.alloc (.cells #[.int .i64 xk, .int .i64 xc, .int .i64 xa] 35)).drewN nq).cell? ⟨J, 1, none⟩ = some (.map (some b)) := (Keeps.drewN (Keeps.alloc (Keeps.refl w) _) nq).cell j1
  have L0 : ((w.alloc (.cells #[.int .i64 xk, .int .i64 xc, .int .i64 xa] 35)).drewN nq).cell? ⟨w.heap.size, 0, none⟩ = some (.int .i64 xk) := by simp
  have L1 : ((w.alloc (.cells #[.int .i64 xk, .int .i64 xc, .int .i64 xa] 35)).drewN nq).cell? ⟨w.heap.size, 1, none⟩ = some (.int .i64 xc) := by simp
  clear hlk HLk W1 HO1 HG0 j1
  by_cases hz : q + xa = 0
  · have hz' : (q + xa == 0) = true := by rw [hz]; rfl
    have HRep := hide (HDel.out hz)
    go_wp2_with fail
    generalize (w.alloc (.cells #[.int .i64 xk, .int .i64 xc, .int .i64 xa] 35)).drewN nq = V at *
    obtain ⟨w2, hrun, hown2, hturn⟩ := World.ownsMap.drop (w := V.drew) HOV.out.drew accKeyed Try.underlying80 HKey.out 0
    have HG2 := hide hturn.grown
    have e1 := HG2.out.cell (a := ⟨J, 1, none⟩) J1 (by simpa using hJb)
    have e2 := HG2.out.cell (a := ⟨w.heap.size, 0, none⟩) L0 (by simp; omega)
    have e3 := HG2.out.cell (a := ⟨w.heap.size, 1, none⟩) L1 (by simp; omega)
    have HOwn := hide hown2
    clear hown2 hturn
    go_region_held3 (fun w' => w'.cell? ⟨J, 1, none⟩ = some (.map (some b)) ∧ w'.cell? ⟨w.heap.size, 0, none⟩ = some (.int .i64 xk) ∧ w'.cell? ⟨w.heap.size, 1, none⟩ = some (.int .i64 xc)) (go_keep) (fail)
    go_wp2_with fail
    refine bodyPost_ret (v := .tuple #[]) (by simp [results, Try.results68, go_sem]) rfl ⟨rfl, _, HOwn.out.mono (Nat.le_succ _), HRep.out, (HGV.out.trans (grown_drew V _)).trans HG2.out⟩
  · have hz' : (q + xa == 0) = false := beq_eq_false_iff_ne.2 hz
    have HRep := hide (HPut.out hz)
    have hwf : (Lit.int .i64 (q + xa)).wf = true := wf_of (by omega) (by omega)
    clear hz
    go_wp2_with fail
    generalize (w.alloc (.cells #[.int .i64 xk, .int .i64 xc, .int .i64 xa] 35)).drewN nq = V at *
    obtain ⟨w2, hrun, hown2, hgrow⟩ := World.ownsMap.update (w := V.drew) HOV.out.drew accKeyed Try.underlying80 (by unfold maxLen; omega) HKey.out (plainElem_int Try.underlying3 hwf)
    have HG2 := hide hgrow
    have e1 := HG2.out.cell (a := ⟨J, 1, none⟩) J1 (by simpa using hJb)
    have e2 := HG2.out.cell (a := ⟨w.heap.size, 0, none⟩) L0 (by simp; omega)
    have e3 := HG2.out.cell (a := ⟨w.heap.size, 1, none⟩) L1 (by simp; omega)
    have HOwn := hide hown2
    clear hown2 hgrow
    go_region_held3 (fun w' => w'.cell? ⟨J, 1, none⟩ = some (.map (some b)) ∧ w'.cell? ⟨w.heap.size, 0, none⟩ = some (.int .i64 xk) ∧ w'.cell? ⟨w.heap.size, 1, none⟩ = some (.int .i64 xc)) (go_keep) (fail)
    go_wp2_with fail
    go_end0
    exact ⟨rfl, _, HOwn.out, HRep.out, (HGV.out.trans (grown_drew V _)).trans HG2.out⟩

/-- Do all sums stay in range? -/
def carB (M P : List Ln) : Bool := P.all fun x => rangeB (balF x.k x.c M + x.a)
theorem carB_bad {M P : List Ln} {k : Nat} (h : k < P.length) (hb : rangeB (balF P[k].k P[k].c M + P[k].a) = false) : carB M P = false := by
  unfold carB
  rw [List.all_eq_false]
  exact ⟨P[k], List.getElem_mem h, by simp [hb]⟩
theorem carB_good {M P : List Ln} (h : ∀ j (hj : j < P.length), rangeB (balF P[j].k P[j].c M + P[j].a) = true) : carB M P = true := by
  unfold carB
  rw [List.all_eq_true]
  intro x hx
  obtain ⟨i, hi, rfl⟩ := List.getElem_of_mem hx
  exact h i hi
theorem bal_range {M : List Ln} (hr : ∀ x ∈ M, rangeB x.a = true) (k c : Int) : -1125899906842624 ≤ balF k c M ∧ balF k c M ≤ 1125899906842624 := by
  by_cases e : balF k c M = 0
  · rw [e]; decide
  · have := hr _ (bal_mem e)
    simpa [rangeB] using this
theorem count_step {M P : List Ln} (hM : Good M) (hP : Good P) {k : Nat} (hk : k < P.length) :
    ((addAll M (P.take (k + 1))).length : Int) = (addAll M (P.take k)).length + (if balF P[k].k P[k].c M = 0 then 1 else if balF P[k].k P[k].c M + P[k].a = 0 then -1 else 0) := by
  rw [addAll_take _ _ _ hk, len_addG (hP.2 _ (List.getElem_mem hk)).2 (addAll_good (good_take hP k).2 hM), addAll_at hP hM hk]
theorem count_le {M P : List Ln} (hM : Good M) (hP : Good P) (k : Nat) : (addAll M (P.take k)).length ≤ 302 := good_len (addAll_good (good_take hP k).2 hM)

set_option maxHeartbeats 2000000 in
theorem carries_impl (J b n : Nat) (D : DataW Unit) (M P : List Ln) (a : Option Addr) (cap : Nat) (w : World) (j1 : w.cell? ⟨J, 1, none⟩ = some (.map (some b))) (hO : OwnsJ w b n D) (hR : Rep D M) (hg : Good M) (hr : ∀ x ∈ M, rangeB x.a = true)
    (hc : Cells w a (flat P)) (hp : Good P) (hpr : ∀ x ∈ P, rangeB x.a = true) :
    Calls Try.prog 67 #[.pointer (some ⟨J, 0, none⟩), .slice a P.length cap] w fun e w' => e = .returned (.bool (carB M P)) ∧ Keeps w w' := by
  have hlen : ∀ ty, (Builtin.len_ #[80] ty #[.map (some b)]).run Try.prog w = .ok (.int .i64 (M.length : Int)) w := by
    intro ty
    rw [World.ownsMap.len hO Try.underlying80 ty, hR.size]
  have h302 := good_len hp
  have HO := hide hO
  have HRep := hide hR
  have HG := hide hg
  have HGP := hide hp
  have HRM := hide hr
  have HRP := hide hpr
  have HC := hide hc
  have HJ := hide j1
  clear hO hR hg hp hr hpr hc
  go_enter Try.func67, Try.ntmps67
  go_wp2_with fail
  clear hlen
  go_loopw [5, 16] (fun x y w1 => ∃ (s : Int) (k : Nat), k ≤ P.length ∧ 0 ≤ s ∧ s ≤ 302 ∧ Hid (s = ((addAll M (P.take k)).length : Int)) ∧ Hid (∀ j (hj : j < P.length), j < k → rangeB (balF P[j].k P[j].c M + P[j].a) = true) ∧ x = .int .i64 s ∧ y = .int .i64 (k : Int) ∧ Keeps w w1) (fun _ y _ => P.length - (intOf y).toNat)
  case atStart => exact ⟨(M.length : Int), 0, by omega, by omega, by have := good_len HG.out; omega, by show _ = _; simp [addAll], fun j hj h => absurd h (Nat.not_lt_zero j), rfl, rfl, Keeps.refl _⟩
  case round =>
    obtain ⟨s, k, hk, hs0, hs1, HS, HOk, rfl, rfl, hkw⟩ := hrel
    by_cases hlt : k < P.length
    · obtain ⟨pb, off, ea, c0, c1, c2⟩ := cells_at (HC.out.kept hkw) k hlt
      subst ea
      have hx := HGP.out.2 P[k] (List.getElem_mem hlt)
      have hra := HRP.out P[k] (List.getElem_mem hlt)
      have hqr := bal_range HRM.out P[k].k P[k].c
      have HStep := hide (count_step HG.out HGP.out hlt)
      have HNx := hide (count_le HG.out HGP.out (k + 1))
      have HBad := hide (fun h => carB_bad (M := M) hlt h)
      have HB := hide (fun w1 => bal_impl (balF P[k].k P[k].c M + P[k].a) w1)
      have HLk := hide (fun m => look_run (w := (wr.alloc (.cells #[.int .i64 P[k].k, .int .i64 P[k].c, .int .i64 P[k].a] 35)).drewN m) (b := b) (n := n) (D := D) (M := M) ((HO.out.kept (hkw.grownJ (row := none)) (by simp)).alloc _ |>.kept (grown_drewNs _ m) (by simp)) HRep.out hx.1)
      have HOkN : Hid (rangeB (balF P[k].k P[k].c M + P[k].a) = true → ∀ j (hj : j < P.length), j < k + 1 → rangeB (balF P[j].k P[j].c M + P[j].a) = true) := by
        intro h j hj hjk
        by_cases e : j = k
        · subst e; exact h
        · exact HOk.out j hj (by omega)
      have hJ := hkw.cell HJ.out
      have hjlt := lt_of_cell hJ
      have hrr : -1125899906842624 ≤ P[k].a ∧ P[k].a ≤ 1125899906842624 := by simpa [rangeB] using hra
      clear HOk hra
      generalize balF P[k].k P[k].c M = q at *
      generalize P[k] = x at *
      obtain ⟨xk, xc, xa⟩ := x
      dsimp only at *
      obtain ⟨hr0, hr1⟩ := hrr
      obtain ⟨hq0, hq1⟩ := hqr
      have HKA := hide (Keeps.alloc hkw (.cells #[.int .i64 xk, .int .i64 xc, .int .i64 xa] 35))
      clear hkw hx
      go_wp2_with fail
      have hlk := HLk.out
      go_quiet (fail)
      clear hlk HLk
      cases hrq : rangeB (q + xa)
      · rw [hrq] at HB
        have HV := hide (HBad.out hrq)
        clear hrq
        go_wp2_with fail
        refine (unhide HB _).mono ?_
        rintro e w2 ⟨rfl, rfl⟩
        go_wp2_with fail
        go_ret
        exact ⟨ret_bool (by rw [HV.out]), HKA.out.drewN _⟩
      · rw [hrq] at HB
        have HOk2 := hide (HOkN.out hrq)
        clear hrq
        by_cases hq : q = 0
        · have hq' : (q == 0) = true := by rw [hq]; rfl
          have HS2 : Hid (s + 1 = ((addAll M (P.take (k + 1))).length : Int)) := by show _ = _; rw [HStep.out, if_pos hq, HS.out]
          have hb : s + 1 ≤ 302 := by have := HNx.out; have := HS2.out; omega
          clear hq
          go_wp2_with fail
          refine (unhide HB _).mono ?_
          rintro e w2 ⟨rfl, rfl⟩
          go_wp2_with fail
          go_roundw
          case rel => exact ⟨s + 1, k + 1, by omega, by omega, hb, HS2, HOk2, rfl, by go_num, HKA.out.drewN _⟩
          case measure => simp [intOf]; omega
        · have hq' : (q == 0) = false := beq_eq_false_iff_ne.2 hq
          by_cases hz : q + xa = 0
          · have hz' : (q + xa == 0) = true := by rw [hz]; rfl
            have HS2 : Hid (s - 1 = ((addAll M (P.take (k + 1))).length : Int)) := by show _ = _; rw [HStep.out, if_neg hq, if_pos hz, HS.out]; omega
            have hb : 0 ≤ s - 1 := by have := HS2.out; omega
            clear hq
            rw [hz] at HB
            go_wp2_with fail
            refine (unhide HB _).mono ?_
            rintro e w2 ⟨rfl, rfl⟩
            go_wp2_with fail
            go_roundw
            case rel => exact ⟨s - 1, k + 1, by omega, hb, by omega, HS2, HOk2, rfl, by go_num, HKA.out.drewN _⟩
            case measure => simp [intOf]; omega
          · have hz' : (q + xa == 0) = false := beq_eq_false_iff_ne.2 hz
            have HS2 : Hid (s = ((addAll M (P.take (k + 1))).length : Int)) := by show _ = _; rw [HStep.out, if_neg hq, if_neg hz, HS.out]; omega
            clear hq hz
            go_wp2_with fail
            refine (unhide HB _).mono ?_
            rintro e w2 ⟨rfl, rfl⟩
            go_wp2_with fail
            go_roundw
            case rel => exact ⟨s, k + 1, by omega, hs0, hs1, HS2, HOk2, rfl, by go_num, HKA.out.drewN _⟩
            case measure => simp [intOf]; omega
    · have HV : Hid (carB M P = true) := carB_good (fun j hj => HOk.out j hj (by omega))
      clear HOk
      go_wp2_with fail
      go_ret
      exact ⟨ret_bool (by rw [HV.out]; simp; omega), hkw⟩
end Go.Proofs.Ytecjjkgdgmjgmaa
