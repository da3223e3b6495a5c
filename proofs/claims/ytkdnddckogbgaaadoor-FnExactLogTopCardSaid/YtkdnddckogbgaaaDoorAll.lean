/- All sectors of a disk: the iterator's contract. -/
import Derived.Test.YtkdnddckogbgaaaDoorSRF
import Derived.Test.YtkdnddckogbgaaaDoorDRR
import Derived.Test.YtkdnddckogbgaaaDoorRF
namespace Go.Proofs.YtkdnddckogbgaaaDoor
open Go.RowKit Go.Deep Go.Shelf
set_option linter.unusedVariables false
set_option maxRecDepth 10000
attribute [local go_sem] Oper.semAt_some

set_option maxHeartbeats 4000000 in
theorem secread_nil (w : World) (u : TypeId) (pv : Value) (hv : w.cell? ⟨0, 0, none⟩ = some (.iface u pv)) :
    Calls Tryd.prog 54 #[.slice none 0 0] w (SrPost w []) := by
  have hB : srB [] = false := rfl
  have hmf : ∀ (fn : Fn) (first cap : Array Value) (w : World), (Instr.makeFunc fn first cap).run Tryd.prog w = .ok (.func fn first cap) w := fun _ _ _ _ => rfl
  have hk3 := threeS_keeps w none 0 0
  have HE := hide (sector_len (w.heap.size + 1 + 1) none 0 0 (threeS w none 0 0) u pv (hk3.cell hv) (threeS_rd w none [] 0).data (by decide) (by decide))
  have HO := hide (threeS_own w none 0 0)
  have H1 := hide (threeS_b w none 0 0)
  have H2 := hide (threeS_zb w none 0 0)
  have HK := hide hk3
  have HSZ : Hid ((threeS w none 0 0).heap.size = w.heap.size + 3) := by show _ = _; simp
  have HB := hide hB
  clear hk3 hv
  go_enter_defers Tryd.func54, Tryd.ntmps54
  go_wp2_with fail
  go_at_call 65
  refine (unhide HE).mono ?_
  rintro e w1 ⟨rfl, ht⟩
  have hO := HO.out.turn ht (fun x hx hb => by
    rw [fp_one, fpS_some (by simp)] at hx
    simp at hx hb
    omega)
  have t1 := ht.cell (p := ⟨w.heap.size + 1, 0, none⟩) (by simp) H1.out
  have z1 : w1.frozen? ⟨w.heap.size + 1, 0, none⟩ = false := by rw [← H2.out]; exact World.frozen?_of_block (ht.block _ (by simp) (by simp))
  have hk1 : Keeps w w1 := ht.keeps HK.out (fun x hx => by simp at hx; omega)
  clear ht HE HO H1 H2 HK HSZ
  have hO2 := own_setB (a := ⟨w.heap.size + 1, 0, none⟩) (own_threeB hO (.int .i64 0) (.int .i64 0) (.slice none 0 0)) (.bool false) (fp_ne (by simp))
  have hk2 := (keeps_threeB hk1 (Nat.le_refl _) (.int .i64 0) (.int .i64 0) (.slice none 0 0)).setCell (p := ⟨w.heap.size + 1, 0, none⟩) (Nat.le_succ _) (.bool false)
  have e8 := World.cell?_setCell_same (((w1.setCell ⟨w.heap.size, 0, none⟩ (.int .i64 0)).setCell ⟨w.heap.size, 1, none⟩ (.int .i64 0)).setCell ⟨w.heap.size, 2, none⟩ (.slice none 0 0)) ⟨w.heap.size + 1, 0, none⟩ (.bool false) (three_other (R := w.heap.size) (p := ⟨w.heap.size + 1, 0, none⟩) (by simp) t1 (.int .i64 0) (.int .i64 0) (.slice none 0 0))
  have e0 := cell_at hO2.mem 0 (by simp)
  have e1 := cell_at hO2.mem 1 (by simp)
  have e2 := cell_at hO2.mem 2 (by simp)
  simp only [Nat.zero_add, List.getElem_cons_zero, List.getElem_cons_succ] at e0 e1 e2
  have hP := SrPost.no HB.out hk2
  refine leaves_cons (f := 64) (args := #[.pointer (some ⟨w.heap.size, 0, none⟩), .pointer (some ⟨w.heap.size + 1, 0, none⟩)]) (by simp) rfl ?_
  refine (catchS_panic w.heap.size (w.heap.size + 1) (by omega) _ _ _ _ u pv [] w1 hO t1 z1).mono ?_
  rintro e u' w' ⟨rfl, rfl, hw'⟩
  rw [← hw'] at e0 e1 e2 e8 hP
  simp [Leaves, settle, results, Tryd.results54, go_sem, e0, e1, e2, e8]
  exact hP
/-- SectorRead of a list of bytes that the call itself made. -/
theorem secread_own (v : Value) (L : List UInt8) (base : Nat) (w : World) (u : TypeId) (pv : Value) (hv : w.cell? ⟨0, 0, none⟩ = some (.iface u pv)) (ho : OwnsB w base v L) (hl : L.length ≤ 16777216) :
    Calls Tryd.prog 54 #[v] w (SrPost w L) := by
  obtain ⟨a, cap, e1, e2, e3, e4, e5, _⟩ := Own.of_owns ho
  have hc := e5.one
  rcases ho.2 with ⟨rfl, _⟩ | ⟨g, c, _, rfl, _⟩
  · have h1 : L = [] := by
      injection e1 with e6 e7 e8
      exact List.length_eq_zero_iff.1 e7.symm
    subst h1
    exact secread_nil w u pv hv
  · injection e1 with e6 e7 e8
    rw [← e6] at hc
    rw [← e8] at e2 e3
    exact secread_impl g 0 L c w u pv hv hc hl e2 (Nat.le_trans e3 (by decide))
/-- What the iterator reads of the disk, wherever it stands. -/
def AllAt (Bx : Nat) (ca : Option Addr) (cc : Nat) (cs : List Bs) (da : Option Addr) (dc : Nat) (ds : List Wr) (u : TypeId) (pv : Value) (W : World) : Prop :=
  W.cell? ⟨Bx, 0, none⟩ = some (.slice ca cs.length cc) ∧ W.cell? ⟨Bx, 1, none⟩ = some (.slice da ds.length dc) ∧ Mem W (dsk ca cs da ds) ∧ W.cell? ⟨0, 0, none⟩ = some (.iface u pv)
theorem AllAt.kept {Bx : Nat} {ca : Option Addr} {cc : Nat} {cs : List Bs} {da : Option Addr} {dc : Nat} {ds : List Wr} {u : TypeId} {pv : Value} {W W' : World} (h : AllAt Bx ca cc cs da dc ds u pv W) (hk : Keeps W W') : AllAt Bx ca cc cs da dc ds u pv W' :=
  ⟨hk.cell h.1, hk.cell h.2.1, h.2.2.1.kept hk, hk.cell h.2.2.2⟩
theorem readL_no {m : DkM} (h : dokM m = false) (i : Int) : srB (readL m i) = false := by
  unfold readL
  rw [readB_dok h]
  rfl
/-- Of a disk that isn't right no sector is told. -/
theorem all_none {m : DkM} {n : Nat} {J : Nat → World → Prop} (h : dokM m = false) (hS : ∀ k W, k < n → J k W → srB (readL m k) = false → J (k + 1) W) {W : World} : ∀ k, k ≤ n → J 0 W → J k W
  | 0, _, h0 => h0
  | k + 1, hk, h0 => hS k W (by omega) (all_none h hS k (by omega) h0) (readL_no h _)
set_option maxHeartbeats 8000000 in
theorem all_in (n l Bx : Nat) (ca : Option Addr) (cc : Nat) (cs : List Bs) (da : Option Addr) (dc : Nat) (ds : List Wr) (u : TypeId) (pv : Value) (J : Nat → World → Prop) (Jx : World → Prop) (hd : DOk cs ds)
    (hJ : ∀ k W, J k W → AllAt Bx ca cc cs da dc ds u pv W)
    (hA : ∀ k W W', J k W → Keeps W W' → J k W')
    (hS : ∀ k W, k < cs.length → J k W → srB (readL (dat cs ds) k) = false → J (k + 1) W)
    (hY : ∀ k W W' a c, k < cs.length → J k W → srB (readL (dat cs ds) k) = true → CapB a c (srL (readL (dat cs ds) k)).length → Born W W' [(a, bys (srL (readL (dat cs ds) k)))] → Keeps W W' →
      YieldAt Fence.wide (n - 1) Tryd.prog l #[.int .i64 (k : Nat), secV (srQ (readL (dat cs ds) k)) (srE (readL (dat cs ds) k)) a (srL (readL (dat cs ds) k)).length c] W' fun e W'' =>
        (e = .returned (.bool true) ∧ J (k + 1) W'') ∨ (e = .returned (.bool false) ∧ Jx W''))
    (W : World) (h0 : J 0 W) :
    CallsIn Fence.wide n Tryd.prog 52 #[.func (.yield l) #[] #[], .pointer (some ⟨Bx, 0, none⟩)] W fun e W' => (∃ v, e = .returned v) ∧ (J cs.length W' ∨ Jx W') := by
  refine callsIn_of_wp Tryd.func52 rfl trivial ?_ rfl
  simp only [Tryd.ntmps52, List.size_toArray, List.length_cons, List.length_nil, Nat.reduceAdd, Nat.reduceSub, Array.replicate_succ, Array.replicate_zero, List.push_toArray, List.append_toArray, List.nil_append, List.cons_append]
  obtain ⟨c0, c1, hm, hv⟩ := hJ 0 W h0
  have HJ := hide hJ
  have HA := hide hA
  have HSk := hide hS
  have HY := hide hY
  have HD := hide hd
  have hcl := hd.c
  have HM := hide hm
  have HV := hide hv
  have HQ := hide (diskok_impl' ca cc cs da dc ds W hm hd)
  have HJ0 := hide (hA 0 W)
  have H0 := hide h0
  have HNo := hide (fun (h : dokM (dat cs ds) = false) (W' : World) (h0 : J 0 W') => all_none (n := cs.length) h hS cs.length (Nat.le_refl _) h0)
  clear hJ hA hS hY hd hm hv h0
  gi_wp2
  refine ⟨trivial, nofun, (callsIn_wide.2 HQ.out).mono ?_⟩
  rintro e w0 ⟨rfl, hk0⟩
  have HJz := hide (HJ0.out w0 H0.out hk0)
  obtain ⟨c0', c1', _, _⟩ := HJ.out 0 w0 HJz.out
  clear hk0 HJ0 H0 HQ c0 c1
  cases hok : dokM (dat cs ds)
  · have HE := hide (HNo.out hok w0 HJz.out)
    clear hok
    gi_wp2
    refine bodyPost_ret (results_none rfl _ _ _) rfl ?_
    exact ⟨⟨_, rfl⟩, .inl HE.out⟩
  have HOK := hide hok
  clear hok HNo
  gi_wp2
  gi_loopw [12] (fun p wr => ∃ k : Nat, k ≤ cs.length ∧ p = .int .i64 (k : Int) ∧ Hid (J k wr)) (fun p _ => cs.length - (intOf p).toNat)
  case atStart => exact ⟨0, Nat.zero_le _, rfl, HJz⟩
  case round =>
    obtain ⟨k, hk, rfl, HJk⟩ := hrel
    clear c0' c1' HM HV
    by_cases hlt : k < cs.length
    · obtain ⟨c0, c1, hm, hv⟩ := HJ.out k wr HJk.out
      have HR := hide (newest_impl ca cc cs da dc ds k wr hm HD.out HOK.out hlt)
      have HV := hide hv
      clear hm hv
      gi_wp2
      refine ⟨trivial, nofun, (callsIn_wide.2 HR.out).mono ?_⟩
      rintro e w1 ⟨v, rfl, ho, hk1⟩
      clear HR
      have HR := hide (secread_own v _ _ w1 u pv (hk1.cell HV.out) ho (Nat.le_trans (readL_len _ _) (by decide)))
      have HK1 := hide hk1
      clear ho hk1 HV c0 c1
      gi_wp2
      refine ⟨trivial, nofun, (callsIn_wide.2 HR.out).mono ?_⟩
      rintro e w2 ⟨a, c, rfl, hac, hb, hk2⟩
      clear HR
      cases hB : srB (readL (dat cs ds) k)
      · have HJ2 := hide (HSk.out k _ hlt (HA.out k _ _ HJk.out ((HK1.out.trans hk2).alloc (.cells #[.int .i64 (srQ (readL (dat cs ds) k)), .int .i64 (srE (readL (dat cs ds) k)), .slice a (srL (readL (dat cs ds) k)).length c] 52))) hB)
        clear hb hk2 hac
        gi_wp2
        refine ⟨fun _ h => (by cases h), ?_⟩
        gi_wp2
        go_roundw
        case rel => exact ⟨k + 1, by omega, by go_num, HJ2⟩
        case measure => simp [intOf]; omega
      · have hk3 := (HK1.out.trans hk2).alloc (.cells #[.int .i64 (srQ (readL (dat cs ds) k)), .int .i64 (srE (readL (dat cs ds) k)), .slice a (srL (readL (dat cs ds) k)).length c] 52)
        have hb3 := (hb.old HK1.out).kept ((Keeps.refl w2).alloc (.cells #[.int .i64 (srQ (readL (dat cs ds) k)), .int .i64 (srE (readL (dat cs ds) k)), .slice a (srL (readL (dat cs ds) k)).length c] 52))
        obtain ⟨fn, tmps, assign, body, hy, hR⟩ := HY.out k wr _ a c hlt HJk.out hB hac hb3 hk3
        clear hb hk2 hac hk3 hb3
        gi_wp2
        refine ⟨nofun, hR.mono ?_⟩
        rintro e W3 (⟨rfl, hJ3⟩ | ⟨rfl, hJx3⟩)
        · have HJ3 := hide hJ3
          clear hJ3 hy hR
          gi_wp2
          go_roundw
          case rel => exact ⟨k + 1, by omega, by go_num, HJ3⟩
          case measure => simp [intOf]; omega
        · clear hy hR
          gi_wp2
          refine bodyPost_ret (results_none rfl _ _ _) rfl ?_
          exact ⟨⟨_, rfl⟩, .inr hJx3⟩
    · have e : k = cs.length := by omega
      subst e
      gi_wp2
      go_end0
      exact ⟨⟨_, rfl⟩, .inl HJk.out⟩
end Go.Proofs.YtkdnddckogbgaaaDoor
