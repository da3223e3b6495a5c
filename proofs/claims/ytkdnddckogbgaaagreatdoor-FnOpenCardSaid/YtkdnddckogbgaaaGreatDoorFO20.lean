/- Texts of the verifier, joined: RF, All, LgM, Sls. -/
import Derived.Test.YtkdnddckogbgaaaGreatDoorFO1
import Derived.RangeFuncNested
import Derived.RangeFuncBound
import Derived.RangeFuncCalls
import Derived.RangeFuncLeaves
import Derived.Shelf.Abstract
import Derived.Shelf.RegionOpen
import Derived.OwnWalkIn
import Derived.TacticsInMore
import Derived.LoopNIn
import Derived.LoopIn
import Derived.Test.YtkdnddckogbgaaaGreatDoorFO19
import Derived.Test.YtkdnddckogbgaaaGreatDoorFO3
namespace Go.Proofs.YtkdnddckogbgaaaGreatDoor
open Go.RowKit Go.Deep
set_option linter.unusedVariables false

/-- The record of a loop over a function. -/
def recOf (fn : FuncId) (tmps : Array Value) (ps : Array Tmp) (assign body : Code) (D : Nat) (st : LoopState) (pe : Option Code) : Loop :=
  { state := st, pending := pe, fn := fn, tmps := tmps, params := ps, assign := assign, body := body, defers := D }
/-- The record lies there in that state, and ahead of it the block of its rounds' deferred calls, with none. -/
def RL (R : LoopState → Option Code → Loop) (D : Nat) (st : LoopState) (pe : Option Code) (W : World) : Prop :=
  W.heap[D + 1]? = some (.loop (R st pe)) ∧ W.heap[D]? = some (.deferred (some []))
theorem RL.lt {R : LoopState → Option Code → Loop} {D : Nat} {st : LoopState} {pe : Option Code} {W : World} (h : RL R D st pe W) : D + 1 < W.heap.size := (Array.getElem?_eq_some_iff.1 h.1).1
theorem RL.turn {R : LoopState → Option Code → Loop} {D : Nat} {st : LoopState} {pe : Option Code} {W W' : World} {fs : List Nat} (h : RL R D st pe W) (ht : Turn fs W W') (h1 : D ∉ fs) (h2 : D + 1 ∉ fs) : RL R D st pe W' :=
  ⟨(ht.block _ h.lt h2).trans h.1, (ht.block _ (Nat.lt_of_succ_lt h.lt) h1).trans h.2⟩
theorem RL.kept {R : LoopState → Option Code → Loop} {D : Nat} {st : LoopState} {pe : Option Code} {W W' : World} (h : RL R D st pe W) (ht : Keeps W W') : RL R D st pe W' := h.turn (Turn.of_keeps ht []) (by simp) (by simp)
theorem turn_putObj (W : World) (l : Nat) (o : Obj) : Turn [l] W (W.putObj l o) :=
  ⟨rfl, rfl, rfl, by simp, fun k hk hn => World.putObj_heap_other (fun e => hn (by simp [e]))⟩
theorem RL.put {R : LoopState → Option Code → Loop} {D : Nat} {st : LoopState} {pe : Option Code} {W : World} (h : RL R D st pe W) (st' : LoopState) (pe' : Option Code) : RL R D st' pe' (W.putObj (D + 1) (.loop (R st' pe'))) :=
  ⟨World.putObj_heap_same h.lt, (World.putObj_heap_other (by omega)).trans h.2⟩

variable {F : Fence} {n : Nat} {P : Program}

/-- How a round may be left. -/
def RoundEnd (R : LoopState → Option Code → Loop) (D : Nat) (G : World → Prop) (Gx : Code → World → Prop) : Exit → Act → World → Prop
  | .normal, _, W => RL R D .busy none W ∧ ∀ W', Turn [D + 1] W W' → G W'
  | .ret, _, W => RL R D .busy none W ∧ ∀ W', Turn [D + 1] W W' → Gx .ret W'
  | .exit id, _, W => RL R D .busy none W ∧ ∀ W', Turn [D + 1] W W' → Gx (.exit id) W'
  | .goto t, _, W => RL R D .busy none W ∧ ∀ W', Turn [D + 1] W W' → Gx (.goto t) W'
  | .panic _, _, _ => False
  | .outgrown, _, _ => False

/-- What a round says to its iterator. -/
def RoundSays (R : LoopState → Option Code → Loop) (D : Nat) (G : World → Prop) (Gx : Code → World → Prop) (e : Ending) (W : World) : Prop :=
  (e = .returned (.bool true) ∧ G W ∧ RL R D .ready none W) ∨ (e = .returned (.bool false) ∧ ∃ c, Gx c W ∧ RL R D .done (some c) W)

theorem yield_round {fn : FuncId} {tmps : Array Value} {ps : Array Tmp} {assign body : Code} {D : Nat} {args : Array Value} {W : World} {G : World → Prop} {Gx : Code → World → Prop}
    (hfn : F.fn fn) (hr : RL (recOf fn tmps ps assign body D) D .ready none W) (hps : args.size = ps.size)
    (h : assign.wpIn (F.inRound (D + 1)) n P (Exit.then (fun a₁ w₁ => RL (recOf fn tmps ps assign body D) D .ready none w₁ ∧
        ∀ w₂, Turn [D + 1] w₁ w₂ → RL (recOf fn tmps ps assign body D) D .busy none w₂ → body.wpIn (F.inRound (D + 1)) n P (RoundEnd (recOf fn tmps ps assign body D) D G Gx) a₁ w₂) (fun _ _ _ => False))
      { tmps := (ps.zip args).foldl (fun t (p, v) => t.setIfInBounds p v) tmps, defers := [] } W) :
    YieldAt F n P (D + 1) args W (RoundSays (recOf fn tmps ps assign body D) D G Gx) := by
  have hy := run_yield (P := P) (args := args) hr.1 hps
  refine ⟨fn, _, assign, body, hy, roundIn_of_wpIn hfn (wpIn_mono h ?_)⟩
  intro e a₁ w₁ hq
  cases e with
  | normal =>
    obtain ⟨hl, hb⟩ := hq
    refine ⟨_, run_beginRound hl.1 rfl, wpIn_mono (hb _ (turn_putObj _ _ _) (hl.put .busy none)) ?_⟩
    intro e2 a2 w2 hp
    cases e2 with
    | normal =>
      obtain ⟨hl2, hg⟩ := hp
      exact ⟨_, _, run_endRound none hl2.1, .inl ⟨rfl, hg _ (turn_putObj _ _ _), hl2.put .ready none⟩⟩
    | ret =>
      obtain ⟨hl2, hg⟩ := hp
      exact ⟨_, _, run_endRound (some .ret) hl2.1, .inr ⟨rfl, _, hg _ (turn_putObj _ _ _), hl2.put .done (some .ret)⟩⟩
    | exit id =>
      obtain ⟨hl2, hg⟩ := hp
      exact ⟨_, _, run_endRound (some (.exit id)) hl2.1, .inr ⟨rfl, _, hg _ (turn_putObj _ _ _), hl2.put .done (some (.exit id))⟩⟩
    | goto t =>
      obtain ⟨hl2, hg⟩ := hp
      exact ⟨_, _, run_endRound (some (.goto t)) hl2.1, .inr ⟨rfl, _, hg _ (turn_putObj _ _ _), hl2.put .done (some (.goto t))⟩⟩
    | panic ch => exact hp.elim
    | outgrown => exact hp.elim
  | exit id => exact hq
  | goto t => exact hq
  | ret => exact hq
  | panic ch => exact hq
  | outgrown => exact hq

/-- The statement: the iterator's contract at this loop's record, and what follows. -/
theorem wp_range {g : Operand} {ps : Array Tmp} {assign body : Code} {Q : Exit → Act → World → Prop} {a : Act} {w : World}
    (hro : F.round = none) (h1 : 1 ≤ n) {gf : Nat} {lb : Array Value} (hg : a.eval g = .func (.func gf) #[] lb) (hFg : F.fn gf) (eg : ∀ args w, (callFunc gf args).run P w = .ok (.enter gf args) w)
    (G : World → Prop) (Gx : Code → World → Prop)
    (hit : ∀ fn, F.fn fn → ∀ W1, Keeps w W1 → W1.heap.size = w.heap.size + 2 → RL (recOf fn a.tmps ps assign body w.heap.size) w.heap.size .ready none W1 →
      CallsIn F (n - 1) P gf (#[.func (.yield (w.heap.size + 1)) #[] #[]] ++ lb) W1 (fun e W' => (∃ v, e = .returned v) ∧ ((G W' ∧ RL (recOf fn a.tmps ps assign body w.heap.size) w.heap.size .ready none W') ∨ (∃ c, Gx c W' ∧ RL (recOf fn a.tmps ps assign body w.heap.size) w.heap.size .done (some c) W'))))
    (hdone : ∀ W W', G W → Turn [w.heap.size + 1] W W' → W'.heap[w.heap.size]? = some (.deferred (some [])) → Q .normal { a with defers := { target := .collected w.heap.size, args := #[] } :: a.defers } W')
    (hstop : ∀ c W W', Gx c W → Turn [w.heap.size + 1] W W' → W'.heap[w.heap.size]? = some (.deferred (some [])) → c.wpIn F n P Q { a with defers := { target := .collected w.heap.size, args := #[] } :: a.defers } W') :
    (Code.rangeFunc g ps assign body).wpIn F n P Q a w := by
  refine wpIn_rangeFunc ?_
  intro fn hfn
  rw [hro]
  obtain ⟨W1, hW1⟩ : ∃ W1, (w.alloc (.deferred (some []))).alloc (.loop (recOf fn a.tmps ps assign body w.heap.size .ready none)) = W1 := ⟨_, rfl⟩
  have hL1 : RL (recOf fn a.tmps ps assign body w.heap.size) w.heap.size .ready none W1 := by
    refine ⟨?_, ?_⟩
    · rw [← hW1]; have := World.alloc_heap_new (w.alloc (.deferred (some []))) (.loop (recOf fn a.tmps ps assign body w.heap.size .ready none)); rwa [World.size_alloc] at this
    · rw [← hW1]; exact (Below.heap_alloc _ _ _ (by simp)).trans (World.alloc_heap_new w _)
  have hk1 : Keeps w W1 := by rw [← hW1]; exact ((Keeps.refl w).alloc _).alloc _
  have hs1 : W1.heap.size = w.heap.size + 2 := by rw [← hW1]; simp
  refine ⟨w.heap.size + 1, [{ target := .collected w.heap.size, args := #[] }], W1, { target := .fn (.func gf) lb, args := #[.func (.yield (w.heap.size + 1)) #[] #[]] }, W1, gf,
    #[.func (.yield (w.heap.size + 1)) #[] #[]] ++ lb, W1, ?_, ?_, ?_, ?_, fun _ => h1, ?_⟩
  · rw [← hW1]; exact run_enterLoop_outer _ _ _ _ _
  · simp only [resolve, hg]
    simp [go_sem]
  · intro f' hf'; simp [Target.leads] at hf'; subst hf'; exact hFg
  · simp [invoke, go_sem, eg]
  · refine (hit fn hfn W1 hk1 hs1 hL1).mono ?_
    rintro e W2 ⟨⟨v, rfl⟩, (⟨hG, hl⟩ | ⟨c, hG, hl⟩)⟩
    · exact ⟨none, _, run_endLoop hl.1 (by simp [recOf]), hdone _ _ hG (turn_putObj _ _ _) ((World.putObj_heap_other (by omega)).trans hl.2)⟩
    · exact ⟨some c, _, run_endLoop hl.1 (by simp [recOf]), hstop c _ _ hG (turn_putObj _ _ _) ((World.putObj_heap_other (by omega)).trans hl.2)⟩
end Go.Proofs.YtkdnddckogbgaaaGreatDoor
namespace Go.Proofs.YtkdnddckogbgaaaGreatDoor
open Go.RowKit Go.Deep Go.Shelf
set_option linter.unusedVariables false
set_option maxRecDepth 10000
attribute [local go_sem] Oper.semAt_some

set_option maxHeartbeats 4000000 in
theorem secread_nil (w : World) (u : TypeId) (pv : Value) (hv : w.cell? ⟨0, 0, none⟩ = some (.iface u pv)) :
    Calls Tryz.prog 91 #[.slice none 0 0] w (SrPost w []) := by
  have hB : srB [] = false := rfl
  have hmf : ∀ (fn : Fn) (first cap : Array Value) (w : World), (Instr.makeFunc fn first cap).run Tryz.prog w = .ok (.func fn first cap) w := fun _ _ _ _ => rfl
  have hk3 := threeS_keeps w none 0 0
  have HE := hide (sector_len (w.heap.size + 1 + 1) none 0 0 (threeS w none 0 0) u pv (hk3.cell hv) (threeS_rd w none [] 0).data (by decide) (by decide))
  have HO := hide (threeS_own w none 0 0)
  have H1 := hide (threeS_b w none 0 0)
  have H2 := hide (threeS_zb w none 0 0)
  have HK := hide hk3
  have HSZ : Hid ((threeS w none 0 0).heap.size = w.heap.size + 3) := by show _ = _; simp
  have HB := hide hB
  clear hk3 hv
  go_enter_defers Tryz.func91, Tryz.ntmps91
  go_wp2_with fail
  go_at_call 112
  refine (unhide HE).mono ?_
  rintro e w1 ⟨rfl, ht⟩
  have hO := HO.out.turn ht (fun x hx hb => by
    rw [fp_one, fpS_some (by simp)] at hx
    simp at hx hb
    omega)
  have t1 := ht.cell (p := ⟨w.heap.size + 1, 0, none⟩) (by simp) H1.out
  have z1 : w1.frozen? ⟨w.heap.size + 1, 0, none⟩ = false := by rw [← H2.out]; exact World.frozen?_of_block (ht.block _ (by simp) (by simp))
  have hk1 : Keeps w w1 := ht.keeps HK.out (fun x hx => by simp at hx; omega)
  clear ht HE HO H1 H2 HK HSZ
  have hO2 := own_setB (a := ⟨w.heap.size + 1, 0, none⟩) (own_threeB hO (.int .i64 0) (.int .i64 0) (.slice none 0 0)) (.bool false) (fp_ne (by simp))
  have hk2 := (keeps_threeB hk1 (Nat.le_refl _) (.int .i64 0) (.int .i64 0) (.slice none 0 0)).setCell (p := ⟨w.heap.size + 1, 0, none⟩) (Nat.le_succ _) (.bool false)
  have e8 := World.cell?_setCell_same (((w1.setCell ⟨w.heap.size, 0, none⟩ (.int .i64 0)).setCell ⟨w.heap.size, 1, none⟩ (.int .i64 0)).setCell ⟨w.heap.size, 2, none⟩ (.slice none 0 0)) ⟨w.heap.size + 1, 0, none⟩ (.bool false) (three_other (R := w.heap.size) (p := ⟨w.heap.size + 1, 0, none⟩) (by simp) t1 (.int .i64 0) (.int .i64 0) (.slice none 0 0))
  have e0 := cell_at hO2.mem 0 (by simp)
  have e1 := cell_at hO2.mem 1 (by simp)
  have e2 := cell_at hO2.mem 2 (by simp)
  simp only [Nat.zero_add, List.getElem_cons_zero, List.getElem_cons_succ] at e0 e1 e2
  have hP := SrPost.no HB.out hk2
  refine leaves_cons (f := 111) (args := #[.pointer (some ⟨w.heap.size, 0, none⟩), .pointer (some ⟨w.heap.size + 1, 0, none⟩)]) (by simp) rfl ?_
  refine (catchS_panic w.heap.size (w.heap.size + 1) (by omega) _ _ _ _ u pv [] w1 hO t1 z1).mono ?_
  rintro e u' w' ⟨rfl, rfl, hw'⟩
  rw [← hw'] at e0 e1 e2 e8 hP
  simp [Leaves, settle, results, Tryz.results91, go_sem, e0, e1, e2, e8]
  exact hP
/-- SectorRead of a list of bytes that the call itself made. -/
theorem secread_own (v : Value) (L : List UInt8) (base : Nat) (w : World) (u : TypeId) (pv : Value) (hv : w.cell? ⟨0, 0, none⟩ = some (.iface u pv)) (ho : OwnsB w base v L) (hl : L.length ≤ 16777216) :
    Calls Tryz.prog 91 #[v] w (SrPost w L) := by
  obtain ⟨a, cap, e1, e2, e3, e4, e5, _⟩ := Own.of_owns ho
  have hc := e5.one
  rcases ho.2 with ⟨rfl, _⟩ | ⟨g, c, _, rfl, _⟩
  · have h1 : L = [] := by
      injection e1 with e6 e7 e8
      exact List.length_eq_zero_iff.1 e7.symm
    subst h1
    exact secread_nil w u pv hv
  · injection e1 with e6 e7 e8
    rw [← e6] at hc
    rw [← e8] at e2 e3
    exact secread_impl g 0 L c w u pv hv hc hl e2 (Nat.le_trans e3 (by decide))
/-- What the iterator reads of the disk, wherever it stands. -/
def AllAt (Bx : Nat) (ca : Option Addr) (cc : Nat) (cs : List Bs) (da : Option Addr) (dc : Nat) (ds : List Wr) (u : TypeId) (pv : Value) (W : World) : Prop :=
  W.cell? ⟨Bx, 0, none⟩ = some (.slice ca cs.length cc) ∧ W.cell? ⟨Bx, 1, none⟩ = some (.slice da ds.length dc) ∧ Mem W (dsk ca cs da ds) ∧ W.cell? ⟨0, 0, none⟩ = some (.iface u pv)
theorem AllAt.kept {Bx : Nat} {ca : Option Addr} {cc : Nat} {cs : List Bs} {da : Option Addr} {dc : Nat} {ds : List Wr} {u : TypeId} {pv : Value} {W W' : World} (h : AllAt Bx ca cc cs da dc ds u pv W) (hk : Keeps W W') : AllAt Bx ca cc cs da dc ds u pv W' :=
  ⟨hk.cell h.1, hk.cell h.2.1, h.2.2.1.kept hk, hk.cell h.2.2.2⟩
theorem readL_no {m : DkM} (h : dokM m = false) (i : Int) : srB (readL m i) = false := by
  unfold readL
  rw [readB_dok h]
  rfl
/-- Of a disk that isn't right no sector is told. -/
theorem all_none {m : DkM} {n : Nat} {J : Nat → World → Prop} (h : dokM m = false) (hS : ∀ k W, k < n → J k W → srB (readL m k) = false → J (k + 1) W) {W : World} : ∀ k, k ≤ n → J 0 W → J k W
  | 0, _, h0 => h0
  | k + 1, hk, h0 => hS k W (by omega) (all_none h hS k (by omega) h0) (readL_no h _)
set_option maxHeartbeats 8000000 in
theorem all_in (n l Bx : Nat) (ca : Option Addr) (cc : Nat) (cs : List Bs) (da : Option Addr) (dc : Nat) (ds : List Wr) (u : TypeId) (pv : Value) (J : Nat → World → Prop) (Jx : World → Prop) (hd : DOk cs ds)
    (hJ : ∀ k W, J k W → AllAt Bx ca cc cs da dc ds u pv W)
    (hA : ∀ k W W', J k W → Keeps W W' → J k W')
    (hS : ∀ k W, k < cs.length → J k W → srB (readL (dat cs ds) k) = false → J (k + 1) W)
    (hY : ∀ k W W' a c, k < cs.length → J k W → srB (readL (dat cs ds) k) = true → CapB a c (srL (readL (dat cs ds) k)).length → Born W W' [(a, bys (srL (readL (dat cs ds) k)))] → Keeps W W' →
      YieldAt Fence.wide (n - 1) Tryz.prog l #[.int .i64 (k : Nat), secV (srQ (readL (dat cs ds) k)) (srE (readL (dat cs ds) k)) a (srL (readL (dat cs ds) k)).length c] W' fun e W'' =>
        (e = .returned (.bool true) ∧ J (k + 1) W'') ∨ (e = .returned (.bool false) ∧ Jx W''))
    (W : World) (h0 : J 0 W) :
    CallsIn Fence.wide n Tryz.prog 90 #[.func (.yield l) #[] #[], .pointer (some ⟨Bx, 0, none⟩)] W fun e W' => (∃ v, e = .returned v) ∧ (J cs.length W' ∨ Jx W') := by
  refine callsIn_of_wp Tryz.func90 rfl trivial ?_ rfl
  simp only [Tryz.ntmps90, List.size_toArray, List.length_cons, List.length_nil, Nat.reduceAdd, Nat.reduceSub, Array.replicate_succ, Array.replicate_zero, List.push_toArray, List.append_toArray, List.nil_append, List.cons_append]
  obtain ⟨c0, c1, hm, hv⟩ := hJ 0 W h0
  have HJ := hide hJ
  have HA := hide hA
  have HSk := hide hS
  have HY := hide hY
  have HD := hide hd
  have hcl := hd.c
  have HM := hide hm
  have HV := hide hv
  have HQ := hide (diskok_impl' ca cc cs da dc ds W hm hd)
  have HJ0 := hide (hA 0 W)
  have H0 := hide h0
  have HNo := hide (fun (h : dokM (dat cs ds) = false) (W' : World) (h0 : J 0 W') => all_none (n := cs.length) h hS cs.length (Nat.le_refl _) h0)
  clear hJ hA hS hY hd hm hv h0
  gi_wp2
  refine ⟨trivial, nofun, (callsIn_wide.2 HQ.out).mono ?_⟩
  rintro e w0 ⟨rfl, hk0⟩
  have HJz := hide (HJ0.out w0 H0.out hk0)
  obtain ⟨c0', c1', _, _⟩ := HJ.out 0 w0 HJz.out
  clear hk0 HJ0 H0 HQ c0 c1
  cases hok : dokM (dat cs ds)
  · have HE := hide (HNo.out hok w0 HJz.out)
    clear hok
    gi_wp2
    refine bodyPost_ret (results_none rfl _ _ _) rfl ?_
    exact ⟨⟨_, rfl⟩, .inl HE.out⟩
  have HOK := hide hok
  clear hok HNo
  gi_wp2
  gi_loopw [12] (fun p wr => ∃ k : Nat, k ≤ cs.length ∧ p = .int .i64 (k : Int) ∧ Hid (J k wr)) (fun p _ => cs.length - (intOf p).toNat)
  case atStart => exact ⟨0, Nat.zero_le _, rfl, HJz⟩
  case round =>
    obtain ⟨k, hk, rfl, HJk⟩ := hrel
    clear c0' c1' HM HV
    by_cases hlt : k < cs.length
    · obtain ⟨c0, c1, hm, hv⟩ := HJ.out k wr HJk.out
      have HR := hide (newest_impl ca cc cs da dc ds k wr hm HD.out HOK.out hlt)
      have HV := hide hv
      clear hm hv
      gi_wp2
      refine ⟨trivial, nofun, (callsIn_wide.2 HR.out).mono ?_⟩
      rintro e w1 ⟨v, rfl, ho, hk1⟩
      clear HR
      have HR := hide (secread_own v _ _ w1 u pv (hk1.cell HV.out) ho (Nat.le_trans (readL_len _ _) (by decide)))
      have HK1 := hide hk1
      clear ho hk1 HV c0 c1
      gi_wp2
      refine ⟨trivial, nofun, (callsIn_wide.2 HR.out).mono ?_⟩
      rintro e w2 ⟨a, c, rfl, hac, hb, hk2⟩
      clear HR
      cases hB : srB (readL (dat cs ds) k)
      · have HJ2 := hide (HSk.out k _ hlt (HA.out k _ _ HJk.out ((HK1.out.trans hk2).alloc (.cells #[.int .i64 (srQ (readL (dat cs ds) k)), .int .i64 (srE (readL (dat cs ds) k)), .slice a (srL (readL (dat cs ds) k)).length c] 72))) hB)
        clear hb hk2 hac
        gi_wp2
        refine ⟨fun _ h => (by cases h), ?_⟩
        gi_wp2
        go_roundw
        case rel => exact ⟨k + 1, by omega, by go_num, HJ2⟩
        case measure => simp [intOf]; omega
      · have hk3 := (HK1.out.trans hk2).alloc (.cells #[.int .i64 (srQ (readL (dat cs ds) k)), .int .i64 (srE (readL (dat cs ds) k)), .slice a (srL (readL (dat cs ds) k)).length c] 72)
        have hb3 := (hb.old HK1.out).kept ((Keeps.refl w2).alloc (.cells #[.int .i64 (srQ (readL (dat cs ds) k)), .int .i64 (srE (readL (dat cs ds) k)), .slice a (srL (readL (dat cs ds) k)).length c] 72))
        obtain ⟨fn, tmps, assign, body, hy, hR⟩ := HY.out k wr _ a c hlt HJk.out hB hac hb3 hk3
        clear hb hk2 hac hk3 hb3
        gi_wp2
        refine ⟨nofun, hR.mono ?_⟩
        rintro e W3 (⟨rfl, hJ3⟩ | ⟨rfl, hJx3⟩)
        · have HJ3 := hide hJ3
          clear hJ3 hy hR
          gi_wp2
          go_roundw
          case rel => exact ⟨k + 1, by omega, by go_num, HJ3⟩
          case measure => simp [intOf]; omega
        · clear hy hR
          gi_wp2
          refine bodyPost_ret (results_none rfl _ _ _) rfl ?_
          exact ⟨⟨_, rfl⟩, .inr hJx3⟩
    · have e : k = cs.length := by omega
      subst e
      gi_wp2
      go_end0
      exact ⟨⟨_, rfl⟩, .inl HJk.out⟩
end Go.Proofs.YtkdnddckogbgaaaGreatDoor
namespace Go.Proofs.YtkdnddckogbgaaaGreatDoor
open Go.RowKit Go.Deep
set_option linter.unusedVariables false

/-- The greatest epoch in the cells ahead of k. -/
def topTo (m : DkM) : Nat → Int
  | 0 => 0
  | k + 1 => if srB (readL m k) = true ∧ topTo m k < srE (readL m k) then srE (readL m k) else topTo m k
def topM (m : DkM) : Int := topTo m m.cells.length
theorem topTo_skip {m : DkM} {k : Nat} (h : srB (readL m k) = false) : topTo m (k + 1) = topTo m k := by simp [topTo, h]
theorem topTo_max {m : DkM} {k : Nat} (h : srB (readL m k) = true) : topTo m (k + 1) = max (topTo m k) (srE (readL m k)) := by
  simp only [topTo, h, true_and]
  split <;> omega
/-- Of a disk that isn't right nothing is read. -/
theorem readL_bad {m : DkM} (h : dokM m = false) (i : Int) : readL m i = [] := by unfold readL; rw [readB_dok h]; rfl
theorem topTo_bad {m : DkM} (h : dokM m = false) : ∀ k, topTo m k = 0
  | 0 => rfl
  | k + 1 => by rw [topTo_skip (by rw [readL_bad h]; rfl)]; exact topTo_bad h k
/-- The epoch ahead of cell k, if all ahead of it fit. -/
def lastE (m : DkM) : Nat → Int
  | 0 => 0
  | k + 1 => srE (readL m k)
/-- Does cell k fit? -/
def fitB (m : DkM) (k : Nat) : Bool := srB (readL m k) && decide (srQ (readL m k) = k) && decide (lastE m k ≤ srE (readL m k))
def fitTo (m : DkM) (k : Nat) : Prop := ∀ j, j < k → fitB m j = true
/-- How many cells fit, from the first on, of those ahead of n. -/
def logTo (m : DkM) : Nat → Nat
  | 0 => 0
  | n + 1 => if logTo m n = n ∧ fitB m n = true then n + 1 else logTo m n
def logN (m : DkM) : Nat := logTo m m.cells.length
theorem logTo_le (m : DkM) : ∀ n, logTo m n ≤ n
  | 0 => Nat.le_refl _
  | n + 1 => by
    unfold logTo
    split
    · exact Nat.le_refl _
    · exact Nat.le_succ_of_le (logTo_le m n)
theorem logTo_all {m : DkM} : ∀ {n : Nat}, fitTo m n → logTo m n = n
  | 0, _ => rfl
  | n + 1, h => by
    unfold logTo
    rw [if_pos ⟨logTo_all (fun j hj => h j (by omega)), h n (by omega)⟩]
theorem logTo_stop {m : DkM} {k : Nat} (hf : fitTo m k) (hn : fitB m k = false) : ∀ {n : Nat}, k ≤ n → logTo m n = k
  | 0, h => by have : k = 0 := by omega
               subst this; rfl
  | n + 1, h => by
    by_cases e : k = n + 1
    · subst e; exact logTo_all hf
    · have h1 := logTo_stop hf hn (n := n) (by omega)
      unfold logTo
      rw [if_neg ?_]
      · exact h1
      · rintro ⟨h2, h3⟩
        have : k = n := by omega
        subst this
        rw [hn] at h3
        exact Bool.noConfusion h3
theorem fitTo_succ {m : DkM} {k : Nat} (h : fitTo m k) (hk : fitB m k = true) : fitTo m (k + 1) := fun j hj => by
  by_cases e : j = k
  · subst e; exact hk
  · exact h j (by omega)
theorem fitTo_log {m : DkM} : ∀ n, fitTo m (logTo m n)
  | 0 => fun j hj => absurd hj (by simp [logTo])
  | n + 1 => by
    unfold logTo
    split
    · next h => 
      have := fitTo_log (m := m) n
      rw [h.1] at this
      exact fitTo_succ this h.2
    · exact fitTo_log n
end Go.Proofs.YtkdnddckogbgaaaGreatDoor
namespace Go.Proofs.YtkdnddckogbgaaaGreatDoor
open Go.RowKit Go.Deep
set_option linter.unusedVariables false
set_option maxRecDepth 10000

/-- A sector in memory. -/
structure Sc where
  q : Int
  e : Int
  b : Bs
def Sc.cells (x : Sc) : List Value := [.int .i64 x.q, .int .i64 x.e, x.b.v]
def Sc.seg (x : Sc) : Seg := x.b.seg
def Sc.key (x : Sc) : Int × Int × List UInt8 := (x.q, x.e, x.b.L)
def scells (l : List Sc) : List Value := l.flatMap Sc.cells
theorem infoSector : (Tryz.prog.info? 72).map (fun i => (i.zero, i.size, i.bytes)) = some (some (.agg #[.int .i64 0, .int .i64 0, .slice none 0 0]), 3, 40) := by kernel_rfl
theorem underSectors : Tryz.prog.underlying 35 = some (.slice 72) := by kernel_rfl
theorem cell_three_new (w : World) (x y z : Value) (t : TypeId) : ∀ j u, [x, y, z][j]? = some u → (w.alloc (.cells #[x, y, z] t)).cell? ((⟨w.heap.size, 0, none⟩ : Addr).add j) = some u := by
  intro j u hj
  match j, hj with
  | 0, hj => simp at hj; subst hj; simp [Addr.add]
  | 1, hj => simp at hj; subst hj; simp [Addr.add]
  | 2, hj => simp at hj; subst hj; simp [Addr.add]
  | n + 3, hj => simp at hj
theorem run_sector (w : World) (base : Nat) (v : Value) (n : Nat) (xs : List Value) (x y z : Value) (hx : x.oneCell' = true) (hy : y.oneCell' = true) (hz' : z.oneCell' = true) (ty : TypeId) (h : w.ownsRow base 72 3 v n xs) (hn : n ≤ 1048576) (hb : base ≤ w.heap.size) :
    ∃ v' w', (Builtin.append_ #[35, 35] ty #[v, .slice (some ⟨w.heap.size, 0, none⟩) 1 1]).run Tryz.prog (w.alloc (.cells #[x, y, z] 72)) = .ok v' w' ∧ w'.ownsRow base 72 3 v' (n + 1) (xs ++ [x, y, z]) ∧ (w.alloc (.cells #[x, y, z] 72)).grownBy w' v.ownBlock ∧ (v'.ownBlock = v.ownBlock ∨ v'.ownBlock = some (w.alloc (.cells #[x, y, z] 72)).heap.size) := by
  have hI := infoSector
  cases hi : Tryz.prog.info? 72 with
  | none => rw [hi] at hI; simp at hI
  | some i =>
    rw [hi] at hI
    simp at hI
    obtain ⟨hz, hsz, hby⟩ := hI
    obtain ⟨v', w', h1, h2, h3, _, h5⟩ := run_append_own_at (P := Tryz.prog) (w.alloc (.cells #[x, y, z] 72)) base 35 ty 72 i _ 3 40 underSectors hi hz hsz hby rfl (by decide) v n xs (h.alloc _) ⟨w.heap.size, 0, none⟩ 1 1 [x, y, z] rfl (cell_three_new w x y z _) (by intro u hu; simp at hu; rcases hu with rfl | rfl | rfl <;> assumption) (by simp only [maxLen]; omega) (by omega) (by simp; omega)
    exact ⟨v', w', h1, h2, h3, h5⟩
/-- The world as far as block n. -/
def cutW (w : World) (n : Nat) : World := { w with heap := w.heap.extract 0 n }
theorem cutW_size {w : World} {n : Nat} (h : n ≤ w.heap.size) : (cutW w n).heap.size = n := by simp [cutW]; omega
theorem cutW_block {w : World} {n k : Nat} (h : n ≤ w.heap.size) (hk : k < n) : (cutW w n).heap[k]? = w.heap[k]? := by
  show (w.heap.extract 0 n)[k]? = _
  rw [Array.getElem?_extract, if_pos (by omega)]
  simp
theorem cutW_keeps {w : World} {n : Nat} (h : n ≤ w.heap.size) : Keeps (cutW w n) w :=
  ⟨rfl, rfl, rfl, by rw [cutW_size h]; exact h, fun k hk => by rw [cutW_size h] at hk; exact (cutW_block h hk).symm⟩
theorem cutW_turn {w w' : World} {fs : List Nat} (h : Turn fs w w') : Turn fs w (cutW w' w.heap.size) :=
  ⟨h.os, h.tape, h.output, by rw [cutW_size h.size]; exact Nat.le_refl _, fun k hk hn => (cutW_block h.size hk).trans (h.block k hk hn)⟩
/-- A list of structs while it is made, all of it in blocks from base on. -/
def LB {α : Type} (T : TypeId) (sz : Nat) (f : α → List Value) (sg : α → Seg) (base : Nat) (w : World) (v : Value) (nb : List α) : Prop := ∃ w0, w0.heap.size = base ∧ LG T sz f sg w0 w v nb
section
variable {α : Type} {T : TypeId} {sz : Nat} {f : α → List Value} {sg : α → Seg} {base : Nat} {w w1 w2 : World} {v v' : Value} {nb : List α}
theorem owns_turn {n : Nat} {e : TypeId} {xs : List Value} {fs : List Nat} (ht : Turn fs w w1) (hf : ∀ b ∈ fs, b < base) (h : w.ownsRow base e sz v n xs) : w1.ownsRow base e sz v n xs := by
  refine ⟨h.1, ?_⟩
  rcases h.2 with h' | ⟨g, cap, cur, rfl, hb, hg, rest⟩
  · exact .inl h'
  · refine .inr ⟨g, cap, cur, rfl, hb, ?_, rest⟩
    rw [ht.block g (Array.getElem?_eq_some_iff.1 hg).1 (fun hx => by have := hf g hx; omega)]; exact hg
theorem LB.turn (h : LB T sz f sg base w v nb) {fs : List Nat} (ht : Turn fs w w1) (hf : ∀ b ∈ fs, b < base) : LB T sz f sg base w1 v nb := by
  obtain ⟨w0, hb, hL⟩ := h
  have hs : base ≤ w1.heap.size := by have := hL.keeps.size; have := ht.size; omega
  refine ⟨cutW w1 base, cutW_size hs, ?_, ⟨?_, ?_⟩, hL.apart, cutW_keeps hs⟩
  · rw [cutW_size hs]
    have hr := hL.row
    rw [hb] at hr
    exact owns_turn ht hf hr
  · exact hL.inner.toOwn.turn ht (fun x hx hy => by have := hf x hy; have := hL.inner.new x hx; omega)
  · intro x hx
    rw [cutW_size hs]
    have := hL.inner.new x hx
    omega
theorem LB.kept (h : LB T sz f sg base w v nb) (hk : Keeps w w1) : LB T sz f sg base w1 v nb := by
  obtain ⟨w0, hb, hL⟩ := h
  exact ⟨w0, hb, hL.kept hk⟩
theorem LB.nil (T : TypeId) (sz : Nat) (f : α → List Value) (sg : α → Seg) (h : base ≤ w.heap.size) : LB T sz f sg base w (.slice none 0 0) [] :=
  ⟨cutW w base, cutW_size h, LG.nil T sz f sg (World.ownsRow_nil _ _ _ _) (cutW_keeps h)⟩
theorem LB.row (h : LB T sz f sg base w v nb) : w.ownsRow base T sz v nb.length (nb.flatMap f) := by
  obtain ⟨w0, hb, hL⟩ := h
  rw [← hb]
  exact hL.row
theorem LB.size (h : LB T sz f sg base w v nb) : base ≤ w.heap.size := by
  obtain ⟨w0, hb, hL⟩ := h
  have := hL.keeps.size
  omega
/-- One more, whose own list was made behind w (w1: where it is put; of what was there at w only blocks ahead of base have turned). -/
theorem LB.snoc (h : LB T sz f sg base w v nb) {fs : List Nat} (ht : Turn fs w w1) (hf : ∀ b ∈ fs, b < base) {x : α} (hx : Own w1 [sg x]) (hn : ∀ b ∈ fp [sg x], w.heap.size ≤ b) {o : Obj} (hg : (w1.alloc o).grownBy w2 v.ownBlock)
    (hr : w2.ownsRow base T sz v' (nb.length + 1) (nb.flatMap f ++ f x)) (hv : v'.ownBlock = v.ownBlock ∨ v'.ownBlock = some (w1.alloc o).heap.size) : LB T sz f sg base w2 v' (nb ++ [x]) := by
  obtain ⟨w0, hb, hL⟩ := LB.turn h (cutW_turn ht) hf
  refine ⟨w0, hb, hL.snoc (cutW_keeps ht.size) hx ?_ hg (by rw [hb]; exact hr) hv⟩
  intro b hb'
  rw [cutW_size ht.size]
  exact hn b hb'
theorem LB.born (h : LB T sz f sg base w v nb) : ∃ (a : Option Addr) (cap : Nat), v = .slice a nb.length cap ∧ (a = none → cap = 0) ∧ Own w ((a, nb.flatMap f) :: nb.map sg) ∧ ∀ b ∈ fp ((a, nb.flatMap f) :: nb.map sg), base ≤ b := by
  obtain ⟨w0, hw, h⟩ := h
  obtain ⟨a, cap, rfl, _, _, hn, ho, hb⟩ := Own.of_owns h.row
  refine ⟨a, cap, rfl, hn, Own.append (S := [_]) ho h.inner.toOwn (fun b hb1 hb2 => ?_), ?_⟩
  · have : Value.ownBlock (.slice a nb.length cap) = some b := by
      rcases h.row.2 with ⟨e, _⟩ | ⟨g, c, _, e, _⟩
      · injection e with e1
        subst e1
        simp [fp, fpS] at hb1
      · injection e with e1
        subst e1
        by_cases h0 : nb.flatMap f = []
        · simp [fp, fpS, h0] at hb1
        · simp [fp, fpS, h0] at hb1
          subst hb1
          rfl
    exact h.apart b this hb2
  · intro b hb1
    rw [fp_cons] at hb1
    rcases List.mem_append.1 hb1 with hb1 | hb1
    · have := hb b (by rw [fp_one]; exact hb1); omega
    · have := h.inner.new b hb1; omega
end
/-- What the first k sectors say. -/
def secsTo (m : DkM) (k : Nat) : List (Int × Int × List UInt8) := (List.range k).map fun i : Nat => (srQ (readL m i), srE (readL m i), srL (readL m i))
theorem secsTo_succ (m : DkM) (k : Nat) : secsTo m (k + 1) = secsTo m k ++ [(srQ (readL m k), srE (readL m k), srL (readL m k))] := by simp [secsTo, List.range_succ]
theorem secsTo_len (m : DkM) (k : Nat) : (secsTo m k).length = k := by simp [secsTo]
def logS (m : DkM) : List (Int × Int × List UInt8) := secsTo m (logN m)
/-- What LogRead answers. -/
def LrPost (w : World) (m : DkM) (x : Ending) (w' : World) : Prop := ∃ (a : Option Addr) (c : Nat) (nb : List Sc), x = .returned (.tuple #[.slice a nb.length c, .int .i64 (logN m : Nat)]) ∧ nb.map Sc.key = logS m ∧ (a = none → c = 0) ∧ Born w w' ((a, scells nb) :: nb.map Sc.seg) ∧ Keeps w w'
end Go.Proofs.YtkdnddckogbgaaaGreatDoor
