/- A range over a function, told by the blocks that turn: one round, and the statement. -/
import Derived.Test.YtkdnddckogbgaaaDoorMem
import Derived.RangeFuncNested
import Derived.RangeFuncBound
import Derived.RangeFuncCalls
import Derived.RangeFuncLeaves
import Derived.Shelf.Abstract
import Derived.Shelf.RegionOpen
import Derived.OwnWalkIn
import Derived.TacticsInMore
import Derived.LoopNIn
import Derived.LoopIn
namespace Go.Proofs.YtkdnddckogbgaaaDoor
open Go.RowKit Go.Deep
set_option linter.unusedVariables false

/-- The record of a loop over a function. -/
def recOf (fn : FuncId) (tmps : Array Value) (ps : Array Tmp) (assign body : Code) (D : Nat) (st : LoopState) (pe : Option Code) : Loop :=
  { state := st, pending := pe, fn := fn, tmps := tmps, params := ps, assign := assign, body := body, defers := D }
/-- The record lies there in that state, and ahead of it the block of its rounds' deferred calls, with none. -/
def RL (R : LoopState → Option Code → Loop) (D : Nat) (st : LoopState) (pe : Option Code) (W : World) : Prop :=
  W.heap[D + 1]? = some (.loop (R st pe)) ∧ W.heap[D]? = some (.deferred (some []))
theorem RL.lt {R : LoopState → Option Code → Loop} {D : Nat} {st : LoopState} {pe : Option Code} {W : World} (h : RL R D st pe W) : D + 1 < W.heap.size := (Array.getElem?_eq_some_iff.1 h.1).1
theorem RL.turn {R : LoopState → Option Code → Loop} {D : Nat} {st : LoopState} {pe : Option Code} {W W' : World} {fs : List Nat} (h : RL R D st pe W) (ht : Turn fs W W') (h1 : D ∉ fs) (h2 : D + 1 ∉ fs) : RL R D st pe W' :=
  ⟨(ht.block _ h.lt h2).trans h.1, (ht.block _ (Nat.lt_of_succ_lt h.lt) h1).trans h.2⟩
theorem RL.kept {R : LoopState → Option Code → Loop} {D : Nat} {st : LoopState} {pe : Option Code} {W W' : World} (h : RL R D st pe W) (ht : Keeps W W') : RL R D st pe W' := h.turn (Turn.of_keeps ht []) (by simp) (by simp)
theorem turn_putObj (W : World) (l : Nat) (o : Obj) : Turn [l] W (W.putObj l o) :=
  ⟨rfl, rfl, rfl, by simp, fun k hk hn => World.putObj_heap_other (fun e => hn (by simp [e]))⟩
theorem RL.put {R : LoopState → Option Code → Loop} {D : Nat} {st : LoopState} {pe : Option Code} {W : World} (h : RL R D st pe W) (st' : LoopState) (pe' : Option Code) : RL R D st' pe' (W.putObj (D + 1) (.loop (R st' pe'))) :=
  ⟨World.putObj_heap_same h.lt, (World.putObj_heap_other (by omega)).trans h.2⟩

variable {F : Fence} {n : Nat} {P : Program}

/-- How a round may be left. -/
def RoundEnd (R : LoopState → Option Code → Loop) (D : Nat) (G : World → Prop) (Gx : Code → World → Prop) : Exit → Act → World → Prop
  | .normal, _, W => RL R D .busy none W ∧ ∀ W', Turn [D + 1] W W' → G W'
  | .ret, _, W => RL R D .busy none W ∧ ∀ W', Turn [D + 1] W W' → Gx .ret W'
  | .exit id, _, W => RL R D .busy none W ∧ ∀ W', Turn [D + 1] W W' → Gx (.exit id) W'
  | .goto t, _, W => RL R D .busy none W ∧ ∀ W', Turn [D + 1] W W' → Gx (.goto t) W'
  | .panic _, _, _ => False
  | .outgrown, _, _ => False

/-- What a round says to its iterator. -/
def RoundSays (R : LoopState → Option Code → Loop) (D : Nat) (G : World → Prop) (Gx : Code → World → Prop) (e : Ending) (W : World) : Prop :=
  (e = .returned (.bool true) ∧ G W ∧ RL R D .ready none W) ∨ (e = .returned (.bool false) ∧ ∃ c, Gx c W ∧ RL R D .done (some c) W)

theorem yield_round {fn : FuncId} {tmps : Array Value} {ps : Array Tmp} {assign body : Code} {D : Nat} {args : Array Value} {W : World} {G : World → Prop} {Gx : Code → World → Prop}
    (hfn : F.fn fn) (hr : RL (recOf fn tmps ps assign body D) D .ready none W) (hps : args.size = ps.size)
    (h : assign.wpIn (F.inRound (D + 1)) n P (Exit.then (fun a₁ w₁ => RL (recOf fn tmps ps assign body D) D .ready none w₁ ∧
        ∀ w₂, Turn [D + 1] w₁ w₂ → RL (recOf fn tmps ps assign body D) D .busy none w₂ → body.wpIn (F.inRound (D + 1)) n P (RoundEnd (recOf fn tmps ps assign body D) D G Gx) a₁ w₂) (fun _ _ _ => False))
      { tmps := (ps.zip args).foldl (fun t (p, v) => t.setIfInBounds p v) tmps, defers := [] } W) :
    YieldAt F n P (D + 1) args W (RoundSays (recOf fn tmps ps assign body D) D G Gx) := by
  have hy := run_yield (P := P) (args := args) hr.1 hps
  refine ⟨fn, _, assign, body, hy, roundIn_of_wpIn hfn (wpIn_mono h ?_)⟩
  intro e a₁ w₁ hq
  cases e with
  | normal =>
    obtain ⟨hl, hb⟩ := hq
    refine ⟨_, run_beginRound hl.1 rfl, wpIn_mono (hb _ (turn_putObj _ _ _) (hl.put .busy none)) ?_⟩
    intro e2 a2 w2 hp
    cases e2 with
    | normal =>
      obtain ⟨hl2, hg⟩ := hp
      exact ⟨_, _, run_endRound none hl2.1, .inl ⟨rfl, hg _ (turn_putObj _ _ _), hl2.put .ready none⟩⟩
    | ret =>
      obtain ⟨hl2, hg⟩ := hp
      exact ⟨_, _, run_endRound (some .ret) hl2.1, .inr ⟨rfl, _, hg _ (turn_putObj _ _ _), hl2.put .done (some .ret)⟩⟩
    | exit id =>
      obtain ⟨hl2, hg⟩ := hp
      exact ⟨_, _, run_endRound (some (.exit id)) hl2.1, .inr ⟨rfl, _, hg _ (turn_putObj _ _ _), hl2.put .done (some (.exit id))⟩⟩
    | goto t =>
      obtain ⟨hl2, hg⟩ := hp
      exact ⟨_, _, run_endRound (some (.goto t)) hl2.1, .inr ⟨rfl, _, hg _ (turn_putObj _ _ _), hl2.put .done (some (.goto t))⟩⟩
    | panic ch => exact hp.elim
    | outgrown => exact hp.elim
  | exit id => exact hq
  | goto t => exact hq
  | ret => exact hq
  | panic ch => exact hq
  | outgrown => exact hq

/-- The statement: the iterator's contract at this loop's record, and what follows. -/
theorem wp_range {g : Operand} {ps : Array Tmp} {assign body : Code} {Q : Exit → Act → World → Prop} {a : Act} {w : World}
    (hro : F.round = none) (h1 : 1 ≤ n) {gf : Nat} {lb : Array Value} (hg : a.eval g = .func (.func gf) #[] lb) (hFg : F.fn gf) (eg : ∀ args w, (callFunc gf args).run P w = .ok (.enter gf args) w)
    (G : World → Prop) (Gx : Code → World → Prop)
    (hit : ∀ fn, F.fn fn → ∀ W1, Keeps w W1 → W1.heap.size = w.heap.size + 2 → RL (recOf fn a.tmps ps assign body w.heap.size) w.heap.size .ready none W1 →
      CallsIn F (n - 1) P gf (#[.func (.yield (w.heap.size + 1)) #[] #[]] ++ lb) W1 (fun e W' => (∃ v, e = .returned v) ∧ ((G W' ∧ RL (recOf fn a.tmps ps assign body w.heap.size) w.heap.size .ready none W') ∨ (∃ c, Gx c W' ∧ RL (recOf fn a.tmps ps assign body w.heap.size) w.heap.size .done (some c) W'))))
    (hdone : ∀ W W', G W → Turn [w.heap.size + 1] W W' → W'.heap[w.heap.size]? = some (.deferred (some [])) → Q .normal { a with defers := { target := .collected w.heap.size, args := #[] } :: a.defers } W')
    (hstop : ∀ c W W', Gx c W → Turn [w.heap.size + 1] W W' → W'.heap[w.heap.size]? = some (.deferred (some [])) → c.wpIn F n P Q { a with defers := { target := .collected w.heap.size, args := #[] } :: a.defers } W') :
    (Code.rangeFunc g ps assign body).wpIn F n P Q a w := by
  refine wpIn_rangeFunc ?_
  intro fn hfn
  rw [hro]
  obtain ⟨W1, hW1⟩ : ∃ W1, (w.alloc (.deferred (some []))).alloc (.loop (recOf fn a.tmps ps assign body w.heap.size .ready none)) = W1 := ⟨_, rfl⟩
  have hL1 : RL (recOf fn a.tmps ps assign body w.heap.size) w.heap.size .ready none W1 := by
    refine ⟨?_, ?_⟩
    · rw [← hW1]; have := World.alloc_heap_new (w.alloc (.deferred (some []))) (.loop (recOf fn a.tmps ps assign body w.heap.size .ready none)); rwa [World.size_alloc] at this
    · rw [← hW1]; exact (Below.heap_alloc _ _ _ (by simp)).trans (World.alloc_heap_new w _)
  have hk1 : Keeps w W1 := by rw [← hW1]; exact ((Keeps.refl w).alloc _).alloc _
  have hs1 : W1.heap.size = w.heap.size + 2 := by rw [← hW1]; simp
  refine ⟨w.heap.size + 1, [{ target := .collected w.heap.size, args := #[] }], W1, { target := .fn (.func gf) lb, args := #[.func (.yield (w.heap.size + 1)) #[] #[]] }, W1, gf,
    #[.func (.yield (w.heap.size + 1)) #[] #[]] ++ lb, W1, ?_, ?_, ?_, ?_, fun _ => h1, ?_⟩
  · rw [← hW1]; exact run_enterLoop_outer _ _ _ _ _
  · simp only [resolve, hg]
    simp [go_sem]
  · intro f' hf'; simp [Target.leads] at hf'; subst hf'; exact hFg
  · simp [invoke, go_sem, eg]
  · refine (hit fn hfn W1 hk1 hs1 hL1).mono ?_
    rintro e W2 ⟨⟨v, rfl⟩, (⟨hG, hl⟩ | ⟨c, hG, hl⟩)⟩
    · exact ⟨none, _, run_endLoop hl.1 (by simp [recOf]), hdone _ _ hG (turn_putObj _ _ _) ((World.putObj_heap_other (by omega)).trans hl.2)⟩
    · exact ⟨some c, _, run_endLoop hl.1 (by simp [recOf]), hstop c _ _ hG (turn_putObj _ _ _) ((World.putObj_heap_other (by omega)).trans hl.2)⟩
end Go.Proofs.YtkdnddckogbgaaaDoor
