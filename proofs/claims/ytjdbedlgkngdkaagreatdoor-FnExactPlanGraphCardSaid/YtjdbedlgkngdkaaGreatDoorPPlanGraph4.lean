/- Texts of the verifier, joined: QT, Pg, PcG, BkF. -/
import Derived.Test.YtjdbedlgkngdkaaGreatDoorPPlanGraph3
import Derived.Test.YtjdbedlgkngdkaaGreatDoorPPlanGraph1
import Derived.Deep.Quiet
import Derived.StillTail
import Derived.OrdersHeld
namespace Go.Proofs.YtjdbedlgkngdkaaGreatDoor
open Go.RowKit Go
set_option linter.unusedVariables false

section
variable {P : Program} {ops : Array Oper} {md : Region.Mode} {C : World → Prop}

/-- Which part an operation belongs to. -/
inductive Pt where
  | h | t | u | f | b
def pkH : List Pt → List Oper → List Oper
  | .h :: m, o :: l => o :: pkH m l
  | .t :: m, _ :: l => pkH m l
  | .u :: m, _ :: l => pkH m l
  | .f :: m, _ :: l => pkH m l
  | .b :: m, _ :: l => pkH m l
  | _, _ => []
def pkT : List Pt → List Oper → List Oper
  | .t :: m, o :: l => o :: pkT m l
  | .h :: m, _ :: l => pkT m l
  | .u :: m, _ :: l => pkT m l
  | .f :: m, _ :: l => pkT m l
  | .b :: m, _ :: l => pkT m l
  | _, _ => []
def pkU : List Pt → List Oper → List Oper
  | .u :: m, o :: l => o :: pkU m l
  | .h :: m, _ :: l => pkU m l
  | .t :: m, _ :: l => pkU m l
  | .f :: m, _ :: l => pkU m l
  | .b :: m, _ :: l => pkU m l
  | _, _ => []
def pkF : List Pt → List Oper → List Oper
  | .f :: m, o :: l => o :: pkF m l
  | .h :: m, _ :: l => pkF m l
  | .t :: m, _ :: l => pkF m l
  | .u :: m, _ :: l => pkF m l
  | .b :: m, _ :: l => pkF m l
  | _, _ => []
def pkB : List Pt → List Oper → List Oper
  | .b :: m, o :: l => o :: pkB m l
  | .h :: m, _ :: l => pkB m l
  | .t :: m, _ :: l => pkB m l
  | .u :: m, _ :: l => pkB m l
  | .f :: m, _ :: l => pkB m l
  | _, _ => []
def ixH : List Pt → Nat → List Nat
  | .h :: m, k => k :: ixH m (k + 1)
  | .t :: m, k => ixH m (k + 1)
  | .u :: m, k => ixH m (k + 1)
  | .f :: m, k => ixH m (k + 1)
  | .b :: m, k => ixH m (k + 1)
  | [], _ => []
def ixT : List Pt → Nat → List Nat
  | .t :: m, k => k :: ixT m (k + 1)
  | .h :: m, k => ixT m (k + 1)
  | .u :: m, k => ixT m (k + 1)
  | .f :: m, k => ixT m (k + 1)
  | .b :: m, k => ixT m (k + 1)
  | [], _ => []
def ixU : List Pt → Nat → List Nat
  | .u :: m, k => k :: ixU m (k + 1)
  | .h :: m, k => ixU m (k + 1)
  | .t :: m, k => ixU m (k + 1)
  | .f :: m, k => ixU m (k + 1)
  | .b :: m, k => ixU m (k + 1)
  | [], _ => []
def ixF : List Pt → Nat → List Nat
  | .f :: m, k => k :: ixF m (k + 1)
  | .h :: m, k => ixF m (k + 1)
  | .t :: m, k => ixF m (k + 1)
  | .u :: m, k => ixF m (k + 1)
  | .b :: m, k => ixF m (k + 1)
  | [], _ => []
def ixB : List Pt → Nat → List Nat
  | .b :: m, k => k :: ixB m (k + 1)
  | .h :: m, k => ixB m (k + 1)
  | .t :: m, k => ixB m (k + 1)
  | .u :: m, k => ixB m (k + 1)
  | .f :: m, k => ixB m (k + 1)
  | [], _ => []

def sinkI (md : Region.Mode) (ops : Array Oper) (hs ts : List Nat) : Bool :=
  hs.all fun i => (hs.any fun j => decide (i < j) && Region.waitsFor md ops j i) || (match ts with | t :: _ => Region.waitsFor md ops t i | [] => false)
def chainI (md : Region.Mode) (ops : Array Oper) : List Nat → Bool
  | [] => true
  | [_] => true
  | a :: b :: r => Region.waitsFor md ops b a && chainI md ops (b :: r)
structure HInv (md : Region.Mode) (ops : Array Oper) (ts : List Nat) (listed : Array Bool) : Prop where
  size : listed.size = ops.size
  closed : ∀ j oj, ops[j]? = some oj → listed.getD j false = true → ∀ e ∈ oj.after, Region.binds md e = true → listed.getD e.on false = true
  tail : ∀ t ∈ ts, listed.getD t true = false
theorem HInv.set {ts : List Nat} {i : Nat} {listed : Array Bool} (inv : HInv md ops ts listed) (hi : i ∈ Region.ready md ops listed) (hin : i ∉ ts) : HInv md ops ts (listed.setIfInBounds i true) := by
  obtain ⟨_, oi, hoi, hall⟩ := mem_ready.1 hi
  refine ⟨by simp [inv.size], fun j oj hj hl e he hb => ?_, fun t ht => by
    have hne : i ≠ t := fun e => hin (by rw [e]; exact ht)
    rw [getD_set_ne true hne]; exact inv.tail t ht⟩
  by_cases hij : i = j
  · subst hij
    have : oj = oi := Option.some.inj (hj.symm.trans hoi)
    subst this
    exact getD_set_true (hall e he hb)
  · rw [getD_set_ne false hij] at hl
    exact getD_set_true (inv.closed j oj hj hl e he hb)
theorem chain_prev : ∀ (ts : List Nat), chainI md ops ts = true → ∀ t ∈ ts, ts.head? = some t ∨ ∃ t' ∈ ts, Region.waitsFor md ops t t' = true
  | [], _, t, ht => by cases ht
  | [a], _, t, ht => .inl (by rw [List.mem_singleton.1 ht]; rfl)
  | a :: b :: r, h, t, ht => by
    simp only [chainI, Bool.and_eq_true] at h
    rcases List.mem_cons.1 ht with rfl | ht
    · exact .inl rfl
    · right
      rcases chain_prev (b :: r) h.2 t ht with h' | ⟨t', ht', hw⟩
      · have e : b = t := Option.some.inj h'
        subst e
        exact ⟨a, by simp, h.1⟩
      · exact ⟨t', List.mem_cons_of_mem _ ht', hw⟩
theorem waits_not {listed : Array Bool} {i t : Nat} (hw : Region.waitsFor md ops t i = true) (hun : listed.getD i true = false) : t ∉ Region.ready md ops listed := by
  intro hr
  obtain ⟨_, ot, hot, hall⟩ := mem_ready.1 hr
  obtain ⟨oj, hoj, e, he, hb, hon⟩ := Region.waitsFor_spec hw
  have : oj = ot := Option.some.inj (hoj.symm.trans hot)
  subst this
  have h2 := hall e he hb
  rw [hon, getD_both hun] at h2
  cases h2
theorem tail_waitsI {hs ts : List Nat} {listed : Array Bool} (hB : sinkI md ops hs ts = true) (hc : chainI md ops ts = true) (inv : HInv md ops ts listed) :
    ∀ (d i : Nat), ops.size - i = d → i ∈ hs → i < ops.size → listed.getD i true = false → ∀ t ∈ ts, t ∉ Region.ready md ops listed := by
  intro d
  induction d using Nat.strongRecOn with
  | _ d ih =>
    intro i hd hi hlt hun t ht hr
    rcases chain_prev ts hc t ht with h | ⟨t', ht', hw⟩
    · have h1 := List.all_eq_true.1 hB i hi
      rw [Bool.or_eq_true] at h1
      rcases h1 with h1 | h1
      · obtain ⟨j, hj, hj2⟩ := List.any_eq_true.1 h1
        simp only [Bool.and_eq_true, decide_eq_true_eq] at hj2
        obtain ⟨oj, hoj, e, he, hb, hon⟩ := Region.waitsFor_spec hj2.2
        have hjlt : j < ops.size := (Array.getElem?_eq_some_iff.1 hoj).1
        cases hl : listed.getD j false with
        | true =>
          have h2 := inv.closed j oj hoj hl e he hb
          rw [hon, getD_both hun] at h2
          cases h2
        | false =>
          exact ih (ops.size - j) (by omega) j rfl hj hjlt (getD_in (by rw [inv.size]; exact hjlt) hl) t ht hr
      · cases ts with
        | nil => cases ht
        | cons t0 r =>
          have e : t0 = t := Option.some.inj h
          subst e
          exact waits_not h1 hun hr
    · exact waits_not hw (inv.tail t' ht') hr
def wpAnyT (P : Program) (md : Region.Mode) (ops : Array Oper) (C : World → Prop) (ts : List Nat) (L : Array Bool → Act → Prop) : Nat → Array Bool → Act → Prop
  | 0, listed, a => L listed a
  | f + 1, listed, a => Region.ready md ops listed ≠ [] ∧ ∀ i ∈ Region.ready md ops listed, i ∉ ts ∧ qOp P ops C i (wpAnyT P md ops C ts L f (listed.setIfInBounds i true)) a
theorem wpAnyT_first {hs ts : List Nat} {i : Nat} {oi : Oper} {v : Value} {L : Array Bool → Act → Prop} (hi : ops[i]? = some oi) (hsel : ∀ (j : Nat) (o : Oper) cs b, ops[j]? = some o → o.op ≠ .select cs b)
    (hB : sinkI md ops hs ts = true) (hc : chainI md ops ts = true) (hin : i ∈ hs)
    (hdone : ∀ listed a, L listed a → ∀ j ∈ Region.ready md ops listed, j ∈ ts) :
    ∀ (f : Nat) (listed : Array Bool) (a : Act), HInv md ops ts listed →
      (∀ j oj, ops[j]? = some oj → j ≠ i → listed.getD j true = false → (∀ e ∈ oj.after, Region.binds md e = true → e.on ≠ i) → oi.apart ops oj = true) →
      i ∈ Region.ready md ops listed → YieldsIn P ops C oi v a →
      wpAnyT P md ops C ts L f (listed.setIfInBounds i true) (a.put oi.dst v) → wpAnyT P md ops C ts L (f + 1) listed a := by
  intro f
  induction f with
  | zero =>
    intro listed a inv _ hr hy H
    have hun := (mem_ready.1 hr).1
    have hlt : i < ops.size := (Array.getElem?_eq_some_iff.1 hi).1
    have hnt := tail_waitsI hB hc inv _ i rfl hin hlt hun
    refine ⟨fun h => (by rw [h] at hr; cases hr), fun j hj => ?_⟩
    have hjn : j ∉ ts := fun h => hnt j h hj
    refine ⟨hjn, ?_⟩
    by_cases hji : j = i
    · subst hji; exact hy.qOp hi H
    · exact absurd (hdone _ _ H j (ready_mono hj hji)) hjn
  | succ f ih =>
    intro listed a inv hfree hr hy H
    have hun := (mem_ready.1 hr).1
    have hlt : i < ops.size := (Array.getElem?_eq_some_iff.1 hi).1
    have hnt := tail_waitsI hB hc inv _ i rfl hin hlt hun
    refine ⟨fun h => (by rw [h] at hr; cases hr), fun j hj => ?_⟩
    have hjn : j ∉ ts := fun h => hnt j h hj
    refine ⟨hjn, ?_⟩
    by_cases hji : j = i
    · subst hji; exact hy.qOp hi H
    · have h1 := (H.2 j (ready_mono hj hji)).2
      obtain ⟨hjun, oj, hoj, hall⟩ := mem_ready.1 hj
      have hnot : ∀ e ∈ oj.after, Region.binds md e = true → e.on ≠ i := fun e he hb heq => by
        have h1 := hall e he hb
        rw [heq, getD_both hun] at h1
        cases h1
      have h2 := qOp_put hoj (hfree j oj hoj hji hjun hnot) (fun cs b => hsel i oi cs b hi) (fun cs b => hsel j oj cs b hoj) hy h1
      have hfree' : ∀ k ok, ops[k]? = some ok → k ≠ i → (listed.setIfInBounds j true).getD k true = false →
          (∀ e ∈ ok.after, Region.binds md e = true → e.on ≠ i) → oi.apart ops ok = true := fun k ok hk hki hun hno => by
        refine hfree k ok hk hki ?_ hno
        by_cases hjk : j = k
        · subst hjk; exact hjun
        · rw [getD_set_ne true hjk] at hun; exact hun
      refine qOp_mono (fun a' h3 => ih (listed.setIfInBounds j true) a' (inv.set hj hjn) hfree' (ready_mono hr (Ne.symm hji)) h3.1 ?_) h2
      rw [Array.setIfInBounds_comm _ _ hji]
      exact h3.2
def seqI (md : Region.Mode) (ops : Array Oper) : List Nat → Array Bool → Bool
  | [], listed => (Region.ready md ops listed).isEmpty
  | k :: ts, listed => decide (Region.ready md ops listed = [k]) && seqI md ops ts (listed.setIfInBounds k true)
def lexI (md : Region.Mode) (ops : Array Oper) (ts : List Nat) : List Nat → Array Bool → Bool
  | [], listed => seqI md ops ts listed
  | k :: ks, listed => (Region.ready md ops listed).contains k && Region.free md ops listed k && lexI md ops ts ks (listed.setIfInBounds k true)
theorem seqI_ready {ts : List Nat} {listed : Array Bool} (h : seqI md ops ts listed = true) : ∀ j ∈ Region.ready md ops listed, j ∈ ts := by
  cases ts with
  | nil => intro j hj; simp only [seqI, List.isEmpty_iff] at h; rw [h] at hj; cases hj
  | cons k ts =>
    intro j hj
    simp only [seqI, Bool.and_eq_true, decide_eq_true_eq] at h
    rw [h.1] at hj
    rw [List.mem_singleton.1 hj]
    simp
theorem wpAnyT_lex {hs ts : List Nat} {Lq : Act → Prop} (hsel : Region.noSelect ops = true) (hB : sinkI md ops hs ts = true) (hc : chainI md ops ts = true) :
    ∀ (lh : List Oper) (ks : List Nat) (listed : Array Bool) (a : Act), (ks.map fun k => ops[k]?) = lh.map some → (∀ k ∈ ks, k ∈ hs) → HInv md ops ts listed →
    lexI md ops ts ks listed = true → wpQuiet P ops C Lq lh a → wpAnyT P md ops C ts (fun listed' a' => seqI md ops ts listed' = true ∧ Lq a') lh.length listed a
  | [], [], listed, a, _, _, _, hx, h => ⟨hx, h⟩
  | [], k :: ks, _, _, e, _, _, _, _ => by cases e
  | o :: lh, [], _, _, e, _, _, _, _ => by cases e
  | o :: lh, k :: ks, listed, a, e, hk, inv, hx, h => by
    simp only [List.map_cons, List.cons.injEq] at e
    obtain ⟨h0, e'⟩ := e
    simp only [lexI, Bool.and_eq_true] at hx
    obtain ⟨⟨hr, hf⟩, hx'⟩ := hx
    have hr' : k ∈ Region.ready md ops listed := by simpa using hr
    have hst : qOp P ops C k (wpQuiet P ops C Lq lh) a := by unfold qOp; simp only [h0]; exact h
    obtain ⟨v, hy, hK⟩ := yieldsIn_of_qOp h0 hst
    have hun := (mem_ready.1 hr').1
    have hnt : k ∉ ts := fun ht => tail_waitsI hB hc inv _ k rfl (hk k (by simp)) (Array.getElem?_eq_some_iff.1 h0).1 hun k ht hr'
    exact wpAnyT_first h0 (Region.noSelect_spec hsel) hB hc (hk k (by simp)) (fun listed' a' hL => seqI_ready hL.1) lh.length listed a inv (Region.free_spec h0 hf) hr' hy
      (wpAnyT_lex hsel hB hc lh ks _ _ e' (fun x hx => hk x (List.mem_cons_of_mem _ hx)) (inv.set hr' hnt) hx' hK)
/-- Whatever order is picked; what is not among B leaves a world of the class. -/
def wpAnyB (P : Program) (md : Region.Mode) (ops : Array Oper) (Q : Exit → Act → World → Prop) (C : World → Prop) (B : List Nat) : Nat → Array Bool → Act → World → Prop
  | 0, listed, a, w => Region.ready md ops listed = [] ∧ Q .normal a w
  | fuel + 1, listed, a, w => (Region.ready md ops listed = [] → Q .normal a w) ∧ ∀ i ∈ Region.ready md ops listed, wpOp P ops Q i (fun a' w' => (i ∈ B ∨ C w') ∧ wpAnyB P md ops Q C B fuel (listed.setIfInBounds i true) a' w') a w
theorem wpAny_of_B {Q : Exit → Act → World → Prop} {B : List Nat} : ∀ (fuel : Nat) (listed : Array Bool) (a : Act) (w : World), wpAnyB P md ops Q C B fuel listed a w → wpAny P md ops Q fuel listed a w
  | 0, _, _, _, h => h
  | fuel + 1, _, _, _, h => ⟨h.1, fun i hi => wpOp_mono (fun a' w' h' => wpAny_of_B fuel _ a' w' h'.2) (h.2 i hi)⟩
theorem wpAnyB_of_headQ {ts B : List Nat} {g : Nat} {L : Array Bool → Act → Prop} {Q' : Exit → Act → World → Prop} (hL : ∀ listed a w, C w → L listed a → wpAnyB P md ops Q' C B g listed a w) :
    ∀ (f : Nat) (listed : Array Bool) (a : Act) (w : World), C w → wpAnyT P md ops C ts L f listed a → wpAnyB P md ops Q' C B (f + g) listed a w
  | 0, listed, a, w, hw, h => by rw [Nat.zero_add]; exact hL _ _ _ hw h
  | f + 1, listed, a, w, hw, h => by
    rw [show f + 1 + g = (f + g) + 1 by omega]
    exact ⟨fun h0 => absurd h0 h.1, fun i hi => wpOp_of_qOp hw (fun a' w' hw' h' => ⟨.inr hw', wpAnyB_of_headQ hL f _ a' w' hw' h'⟩) (h.2 i hi).2⟩
theorem wpAnyB_of_seq {Q' : Exit → Act → World → Prop} {B : List Nat} : ∀ (l : List Oper) (ts : List Nat) (listed : Array Bool) (a : Act) (w : World), (∀ t ∈ ts, t ∈ B) → (ts.map fun k => ops[k]?) = l.map some →
    seqI md ops ts listed = true → wpList P ops Q' l a w → wpAnyB P md ops Q' C B l.length listed a w
  | [], [], _, _, _, _, _, hB, h => ⟨by simpa [seqI] using hB, h⟩
  | [], k :: ts, _, _, _, _, e, _, _ => by cases e
  | o :: l, [], _, _, _, _, e, _, _ => by cases e
  | o :: l, k :: ts, listed, a, w, hb, e, hB, h => by
    simp only [List.map_cons, List.cons.injEq] at e
    obtain ⟨h0, e'⟩ := e
    simp only [seqI, Bool.and_eq_true, decide_eq_true_eq] at hB
    refine ⟨fun h1 => (by rw [hB.1] at h1; cases h1), fun i hi => ?_⟩
    rw [hB.1] at hi
    have hik : i = k := by simpa using hi
    subst hik
    have hw : wpOp P ops Q' i (wpList P ops Q' l) a w := by unfold wpOp; simp only [h0]; exact h
    exact wpOp_mono (fun a' w' h' => ⟨.inl (hb i (by simp)), wpAnyB_of_seq l ts _ a' w' (fun t ht => hb t (List.mem_cons_of_mem _ ht)) e' hB.2 h'⟩) hw
/-- The build, whose address hangs on the world, then what writes. -/
def BuildThen (P : Program) (ops : Array Oper) (C : World → Prop) (Q : Exit → Act → World → Prop) (ob : Oper) (lt : List Oper) (a : Act) : Prop :=
  ob.guard = none ∧ ∀ w, C w → ∀ K : Act → World → Prop, Hid (∀ a' w', C w' → wpList P ops Q lt a' w' → K a' w') → ob.wp P a w K Q
theorem wpAnyB_tail {hs bs : List Nat} {t0 : Nat} {lh lt : List Oper} {ob : Oper} {listed : Array Bool} {a : Act} {w : World} {Q : Exit → Act → World → Prop} (hsel : Region.noSelect ops = true) (hB : sinkI md ops hs (t0 :: bs) = true) (hc : chainI md ops (t0 :: bs) = true) (inv : HInv md ops (t0 :: bs) listed)
    (hx : lexI md ops (t0 :: bs) hs listed = true) (eh : (hs.map fun k => ops[k]?) = lh.map some) (eb : ops[t0]? = some ob) (et : (bs.map fun k => ops[k]?) = lt.map some) (hC : C w)
    (h : wpQuiet P ops C (BuildThen P ops C Q ob lt) lh a) : wpAnyB P md ops Q C bs (lh.length + (lt.length + 1)) listed a w :=
  wpAnyB_of_headQ (L := fun listed' a' => seqI md ops (t0 :: bs) listed' = true ∧ BuildThen P ops C Q ob lt a') (fun listed' a' w' hw' hL => by
    obtain ⟨hsq, hg, hb⟩ := hL
    simp only [seqI, Bool.and_eq_true, decide_eq_true_eq] at hsq
    refine ⟨fun h1 => (by rw [hsq.1] at h1; cases h1), fun i hi => ?_⟩
    rw [hsq.1] at hi
    have hik : i = t0 := by simpa using hi
    subst hik
    unfold wpOp
    simp only [eb, Region.wanted, hg, if_true]
    exact .inl (hb w' hw' _ (fun a'' w'' hc'' h'' => ⟨.inr hc'', wpAnyB_of_seq lt bs _ a'' w'' (fun t ht => ht) et hsq.2 h''⟩))) _ _ _ _ hC
    (wpAnyT_lex hsel hB hc lh hs listed a eh (fun _ h => h) inv hx h)
theorem wpAnyB_first {fs bs : List Nat} {t0 i : Nat} {oi : Oper} {v : Value} {Q : Exit → Act → World → Prop} (hi : ops[i]? = some oi) (hsel : ∀ (j : Nat) (o : Oper) cs b, ops[j]? = some o → o.op ≠ .select cs b)
    (hQ : ∀ c a w, Q (.panic c) (a.put oi.dst v) w → Q (.panic c) a w) (hB : sinkI md ops fs bs = true) (hc : chainI md ops bs = true) (hin : i ∈ fs) :
    ∀ (fuel : Nat) (listed : Array Bool) (a : Act) (w : World), HInv md ops bs listed →
      (∀ j oj, ops[j]? = some oj → j ≠ i → listed.getD j true = false → (∀ e ∈ oj.after, Region.binds md e = true → e.on ≠ i) → oi.apart ops oj = true) →
      i ∈ Region.ready md ops listed → YieldsIf P ops C oi v a → C w →
      wpAnyB P md ops Q C bs fuel (listed.setIfInBounds i true) (a.put oi.dst v) w → wpAnyB P md ops Q C bs (fuel + 1) listed a w := by
  intro fuel
  induction fuel with
  | zero =>
    intro listed a w _ _ hr hy hS H
    refine ⟨fun h => (by rw [h] at hr; cases hr), fun j hj => ?_⟩
    by_cases hji : j = i
    · subst hji; exact hy.wpOp hi hS ⟨.inr hS, H⟩
    · have := ready_mono hj hji
      rw [H.1] at this
      cases this
  | succ fuel ih =>
    intro listed a w inv hfree hr hy hS H
    have hun := (mem_ready.1 hr).1
    have hlt : i < ops.size := (Array.getElem?_eq_some_iff.1 hi).1
    have hnt := tail_waitsI hB hc inv _ i rfl hin hlt hun
    refine ⟨fun h => (by rw [h] at hr; cases hr), fun j hj => ?_⟩
    by_cases hji : j = i
    · subst hji; exact hy.wpOp hi hS ⟨.inr hS, H⟩
    · have h1 := H.2 j (ready_mono hj hji)
      obtain ⟨hjun, oj, hoj, hall⟩ := mem_ready.1 hj
      have hjn : j ∉ bs := fun h => hnt j h hj
      have hnot : ∀ e ∈ oj.after, Region.binds md e = true → e.on ≠ i := fun e he hb heq => by
        have h1 := hall e he hb
        rw [heq, getD_both hun] at h1
        cases h1
      have h2 := wpOp_putIf hoj (hfree j oj hoj hji hjun hnot) (fun cs b => hsel i oi cs b hi) (fun cs b => hsel j oj cs b hoj) hQ hy h1
      have hfree' : ∀ k ok, ops[k]? = some ok → k ≠ i → (listed.setIfInBounds j true).getD k true = false →
          (∀ e ∈ ok.after, Region.binds md e = true → e.on ≠ i) → oi.apart ops ok = true := fun k ok hk hki hun hno => by
        refine hfree k ok hk hki ?_ hno
        by_cases hjk : j = k
        · subst hjk; exact hjun
        · rw [getD_set_ne true hjk] at hun; exact hun
      refine wpOp_mono (fun a' w' h3 => ?_) h2
      have hC' : C w' := h3.2.1.resolve_left hjn
      refine ⟨.inr hC', ih (listed.setIfInBounds j true) a' w' (inv.set hj hjn) hfree' (ready_mono hr (Ne.symm hji)) h3.1 hC' ?_⟩
      rw [Array.setIfInBounds_comm _ _ hji]
      exact h3.2.2
/-- What yields in every world of the class, one behind the other. -/
def wpFlo (P : Program) (ops : Array Oper) (C : World → Prop) (K : Act → Prop) : List Oper → Act → Prop
  | [], a => K a
  | o :: r, a => ∃ v, YieldsIf P ops C o v a ∧ wpFlo P ops C K r (a.put o.dst v)
theorem wpFlo_nil {K : Act → Prop} {a : Act} (h : K a) : wpFlo P ops C K [] a := h
theorem wpFlo_step {K : Act → Prop} {a : Act} {o : Oper} {r : List Oper} (v : Value) (hg : Region.wanted o (yielded ops a.tmps) = true) (hv : ∀ w, C w → (execOp a.eval o).run P w = .ok (.value v) w) (h : wpFlo P ops C K r (a.put o.dst v)) : wpFlo P ops C K (o :: r) a := ⟨v, .inl ⟨hg, hv⟩, h⟩
def floI (md : Region.Mode) (ops : Array Oper) (hs ts : List Nat) : List Nat → Array Bool → Bool
  | [], listed => lexI md ops ts hs listed
  | u :: us, listed => (Region.ready md ops listed).contains u && Region.free md ops listed u && !ts.contains u && floI md ops hs ts us (listed.setIfInBounds u true)
theorem wpAnyB_flo {fs hs bs : List Nat} {t0 : Nat} {lh lt : List Oper} {ob : Oper} {Q : Exit → Act → World → Prop} (hsel : Region.noSelect ops = true) (hB : sinkI md ops hs (t0 :: bs) = true) (hc : chainI md ops (t0 :: bs) = true) (hF : sinkI md ops fs bs = true) (hcb : chainI md ops bs = true)
    (eh : (hs.map fun k => ops[k]?) = lh.map some) (eb : ops[t0]? = some ob) (et : (bs.map fun k => ops[k]?) = lt.map some) (hQ : ∀ c (a : Act) d v w, Q (.panic c) (a.put d v) w → Q (.panic c) a w) :
    ∀ (lf : List Oper) (us : List Nat) (listed : Array Bool) (a : Act) (w : World), (∀ u ∈ us, u ∈ fs) → (us.map fun k => ops[k]?) = lf.map some → HInv md ops (t0 :: bs) listed → floI md ops hs (t0 :: bs) us listed = true → C w →
      wpFlo P ops C (fun a' => wpQuiet P ops C (BuildThen P ops C Q ob lt) lh a') lf a → wpAnyB P md ops Q C bs (lf.length + (lh.length + (lt.length + 1))) listed a w
  | [], [], listed, a, w, _, _, inv, hx, hC, h => by
    rw [List.length_nil, Nat.zero_add]
    exact wpAnyB_tail hsel hB hc inv hx eh eb et hC h
  | [], k :: us, _, _, _, _, e, _, _, _, _ => by cases e
  | o :: lu, [], _, _, _, _, e, _, _, _, _ => by cases e
  | o :: lu, u :: us, listed, a, w, hu, e, inv, hx, hC, h => by
    simp only [List.map_cons, List.cons.injEq] at e
    obtain ⟨h0, e'⟩ := e
    simp only [floI, Bool.and_eq_true, Bool.not_eq_true'] at hx
    obtain ⟨⟨⟨hr, hf⟩, hn⟩, hx'⟩ := hx
    have hr' : u ∈ Region.ready md ops listed := by simpa using hr
    have hnt : u ∉ t0 :: bs := fun ht => by rw [List.contains_iff_mem.2 ht] at hn; cases hn
    obtain ⟨v, hy, hK⟩ := h
    rw [List.length_cons, show lu.length + 1 + (lh.length + (lt.length + 1)) = (lu.length + (lh.length + (lt.length + 1))) + 1 by omega]
    exact wpAnyB_first (t0 := t0) h0 (Region.noSelect_spec hsel) (fun c a w h => hQ c a _ _ w h) hF hcb (hu u (by simp)) _ listed a w ⟨inv.size, inv.closed, fun t ht => inv.tail t (List.mem_cons_of_mem _ ht)⟩ (Region.free_spec h0 hf) hr' hy hC
      (wpAnyB_flo hsel hB hc hF hcb eh eb et hQ lu us _ _ w (fun x hx => hu x (List.mem_cons_of_mem _ hx)) e' (inv.set hr' hnt) hx' hC hK)
/-- What yields in whatever world, one behind the other. -/
def wpUni (P : Program) (ops : Array Oper) (K : Act → Prop) : List Oper → Act → Prop
  | [], a => K a
  | o :: r, a => ∃ v, Yields P ops o v a ∧ wpUni P ops K r (a.put o.dst v)
theorem wpUni_nil {K : Act → Prop} {a : Act} (h : K a) : wpUni P ops K [] a := h
theorem wpUni_step {K : Act → Prop} {a : Act} {o : Oper} {r : List Oper} (v : Value) (hg : Region.wanted o (yielded ops a.tmps) = true) (hv : ∀ w, (execOp a.eval o).run P w = .ok (.value v) w) (h : wpUni P ops K r (a.put o.dst v)) : wpUni P ops K (o :: r) a := ⟨v, .inl ⟨hg, hv⟩, h⟩
def uniI (md : Region.Mode) (ops : Array Oper) (fs hs ts : List Nat) : List Nat → Array Bool → Bool
  | [], listed => floI md ops hs ts fs listed
  | u :: us, listed => (Region.ready md ops listed).contains u && Region.free md ops listed u && !ts.contains u && uniI md ops fs hs ts us (listed.setIfInBounds u true)
theorem wpAny_uni {fs hs bs : List Nat} {t0 : Nat} {lf lh lt : List Oper} {ob : Oper} {Q : Exit → Act → World → Prop} (hsel : Region.noSelect ops = true) (hB : sinkI md ops hs (t0 :: bs) = true) (hc : chainI md ops (t0 :: bs) = true) (hF : sinkI md ops fs bs = true) (hcb : chainI md ops bs = true)
    (ef : (fs.map fun k => ops[k]?) = lf.map some) (eh : (hs.map fun k => ops[k]?) = lh.map some) (eb : ops[t0]? = some ob) (et : (bs.map fun k => ops[k]?) = lt.map some) (hQ : ∀ c (a : Act) d v w, Q (.panic c) (a.put d v) w → Q (.panic c) a w) :
    ∀ (lu : List Oper) (us : List Nat) (listed : Array Bool) (a : Act) (w : World), (us.map fun k => ops[k]?) = lu.map some → HInv md ops (t0 :: bs) listed → uniI md ops fs hs (t0 :: bs) us listed = true → C w →
      wpUni P ops (fun a' => wpFlo P ops C (fun a'' => wpQuiet P ops C (BuildThen P ops C Q ob lt) lh a'') lf a') lu a → wpAny P md ops Q (lu.length + (lf.length + (lh.length + (lt.length + 1)))) listed a w
  | [], [], listed, a, w, _, inv, hx, hC, h => by
    rw [List.length_nil, Nat.zero_add]
    exact wpAny_of_B _ _ _ _ (wpAnyB_flo hsel hB hc hF hcb eh eb et hQ lf fs listed a w (fun _ h => h) ef inv hx hC h)
  | [], k :: us, _, _, _, e, _, _, _, _ => by cases e
  | o :: lu, [], _, _, _, e, _, _, _, _ => by cases e
  | o :: lu, u :: us, listed, a, w, e, inv, hx, hC, h => by
    simp only [List.map_cons, List.cons.injEq] at e
    obtain ⟨h0, e'⟩ := e
    simp only [uniI, Bool.and_eq_true, Bool.not_eq_true'] at hx
    obtain ⟨⟨⟨hr, hf⟩, hn⟩, hx'⟩ := hx
    have hr' : u ∈ Region.ready md ops listed := by simpa using hr
    have hnt : u ∉ t0 :: bs := fun ht => by rw [List.contains_iff_mem.2 ht] at hn; cases hn
    obtain ⟨v, hy, hK⟩ := h
    rw [List.length_cons, show lu.length + 1 + (lf.length + (lh.length + (lt.length + 1))) = (lu.length + (lf.length + (lh.length + (lt.length + 1)))) + 1 by omega]
    exact wpAny_first h0 (Region.noSelect_spec hsel) (fun c a w h => hQ c a _ _ w h) _ listed a w (Region.free_spec h0 hf) hr' hy
      (wpAny_uni hsel hB hc hF hcb ef eh eb et hQ lu us _ _ w e' (inv.set hr' hnt) hx' hC hK)
def appB (md : Region.Mode) (ops : Array Oper) (m : List Pt) : Bool :=
  match ixB m 0 with
  | [t0] => Region.noSelect ops && sinkI md ops (ixH m 0) (t0 :: ixT m 0) && chainI md ops (t0 :: ixT m 0) && sinkI md ops (ixF m 0) (ixT m 0) && chainI md ops (ixT m 0) && (t0 :: ixT m 0).all (fun t => decide (t < ops.size)) && uniI md ops (ixF m 0) (ixH m 0) (t0 :: ixT m 0) (ixU m 0) (Array.replicate ops.size false)
  | _ => false
theorem wp_region_app {id : Nat} {Q : Exit → Act → World → Prop} {a : Act} {w : World} {l : List Oper} {ob : Oper} (m : List Pt) (hm : P.follows .mixedOrders = true) (hB : appB .any l.toArray m = true)
    (eu : ((ixU m 0).map fun k => l.toArray[k]?) = (pkU m l).map some) (ef : ((ixF m 0).map fun k => l.toArray[k]?) = (pkF m l).map some) (eh : ((ixH m 0).map fun k => l.toArray[k]?) = (pkH m l).map some) (eb : pkB m l = [ob]) (eb' : ((ixB m 0).map fun k => l.toArray[k]?) = (pkB m l).map some) (et : ((ixT m 0).map fun k => l.toArray[k]?) = (pkT m l).map some)
    (hn : (pkU m l).length + ((pkF m l).length + ((pkH m l).length + ((pkT m l).length + 1))) = l.toArray.size) (hQ : ∀ c (a : Act) d v w, Q (.panic c) (a.put d v) w → Q (.panic c) a w)
    (h : wpUni P l.toArray (fun a1 => wpFlo P l.toArray (fun w' => ∃ t, w' = gr w t) (fun a2 => wpQuiet P l.toArray (fun w' => ∃ t, w' = gr w t) (BuildThen P l.toArray (fun w' => ∃ t, w' = gr w t) Q ob (pkT m l)) (pkH m l) a2) (pkF m l) a1) (pkU m l) a) : (Code.region id l.toArray true).wp P Q a w := by
  unfold appB at hB
  split at hB
  · rename_i t0 ht0
    simp only [Bool.and_eq_true] at hB
    obtain ⟨⟨⟨⟨⟨⟨hsel, hs⟩, hc⟩, hF⟩, hcb⟩, hlt⟩, hx⟩ := hB
    have hob : l.toArray[t0]? = some ob := by
      rw [ht0, eb] at eb'
      simpa using eb'
    have inv0 : HInv .any l.toArray (t0 :: ixT m 0) (Array.replicate l.toArray.size false) :=
      ⟨by simp, fun j oj _ hl => (by rw [getD_replicate_false] at hl; cases hl), fun t ht => getD_in (by have := List.all_eq_true.1 hlt t ht; simpa using this) (getD_replicate_false _ _)⟩
    have := wpAny_uni (P := P) (C := fun w' => ∃ t, w' = gr w t) hsel hs hc hF hcb ef eh hob et hQ (pkU m l) (ixU m 0) _ a { w with drawn := w.drawn + 1 } eu inv0 hx ⟨gt #[] (w.drawn + 1), by simp [gr, gt_more, gt_count]⟩ h
    rw [hn] at this
    exact wp_region_any hm this
  · cases hB
end
end Go.Proofs.YtjdbedlgkngdkaaGreatDoor
namespace Go.Proofs.YtjdbedlgkngdkaaGreatDoor
open Go.RowKit Go.Deep
set_option linter.unusedVariables false
set_option linter.unusedSimpArgs false
set_option maxRecDepth 10000

theorem ownsE_turn {w w' : World} {base : Nat} {v : Value} {L : List Edg} (h : OwnsEdge w base v L) (hb : ∀ j, v.ownBlock = some j → w'.heap[j]? = w.heap[j]?) : OwnsEdge w' base v L := by
  refine ⟨h.1, ?_⟩
  rcases h.2 with h2 | ⟨g, cap, cur, e, h3, h4, h5⟩
  · exact .inl h2
  · exact .inr ⟨g, cap, cur, e, h3, by rw [hb g (by rw [e]; rfl)]; exact h4, h5⟩
theorem bornE {W w : World} {base : Nat} {ea : Option Addr} {ec : Nat} {L : List Edg} (h : OwnsEdge w base (.slice ea L.length ec) L) (hb : W.heap.size ≤ base) : Born W w [(ea, egs L)] := by
  rcases h.2 with ⟨e, hz⟩ | ⟨g, cap, cur, e, h3⟩
  · have h0 : L = [] := List.length_eq_zero_iff.1 hz
    subst h0
    injection e with e1 e2 e3
    subst e1
    exact ⟨⟨fun s hs => by rw [List.mem_singleton.1 hs]; exact Cells.nil _ _, by simp [fp, fpS, egs], fun b hb => absurd hb (by simp [fp, fpS, egs])⟩, fun b hb => absurd hb (by simp [fp, fpS, egs])⟩
  · injection e with e1 e2 e3
    subst e1 e3
    refine ⟨⟨?_, ?_, ?_⟩, ?_⟩
    · intro s hs
      rw [List.mem_singleton.1 hs]
      refine Or.inr ⟨g, 0, rfl, fun j hj => ?_⟩
      have hj' : j < (egs L).length := hj
      have hl := egs_len L
      rw [Nat.zero_add, h.cellAt j (by omega), List.getElem?_eq_getElem hj']
    · by_cases h0 : egs L = [] <;> simp [fp, fpS, h0]
    · intro b hb'
      by_cases h0 : egs L = []
      · simp [fp, fpS, h0] at hb'
      · simp [fp, fpS, h0] at hb'
        subst hb'
        exact fun o => h.frozenAt o
    · intro b hb'
      by_cases h0 : egs L = []
      · simp [fp, fpS, h0] at hb'
      · simp [fp, fpS, h0] at hb'
        subst hb'
        have := (h.lt b rfl).1
        omega
/-- While a graph is laid: the variable at G has the edges so far; the result's block is R. -/
structure PlS (w wr : World) (R G : Nat) (T : TypeId) (v0 : Value) (ea : Option Addr) (ec : Nat) (E : List Edg) : Prop where
  keep : Keeps w wr
  gr : wr.rowIs G T 2 (row2 v0 (.slice ea E.length ec))
  rs : ∃ f, wr.rowIs R 36 2 f
  ow : OwnsEdge wr (G + 1) (.slice ea E.length ec) E
  lo : w.heap.size ≤ R
  lt : R < G
theorem PlS.kept {w wr w' : World} {R G : Nat} {T : TypeId} {v0 : Value} {ea : Option Addr} {ec : Nat} {E : List Edg} (h : PlS w wr R G T v0 ea ec E) (hk : Keeps wr w') : PlS w w' R G T v0 ea ec E := by
  obtain ⟨f, hf⟩ := h.rs
  exact ⟨h.keep.trans hk, hk.rowK h.gr, ⟨f, hk.rowK hf⟩, ownsE_turn h.ow (fun j hj => hk.block j (h.ow.lt j hj).2), h.lo, h.lt⟩
theorem PlS.cell1 {w wr : World} {R G : Nat} {T : TypeId} {v0 : Value} {ea : Option Addr} {ec : Nat} {E : List Edg} (h : PlS w wr R G T v0 ea ec E) : wr.cell? ⟨G, 1, none⟩ = some (.slice ea E.length ec) := h.gr.cell (i := 1) (by decide)
theorem PlS.cell0 {w wr : World} {R G : Nat} {T : TypeId} {v0 : Value} {ea : Option Addr} {ec : Nat} {E : List Edg} (h : PlS w wr R G T v0 ea ec E) : wr.cell? ⟨G, 0, none⟩ = some v0 := h.gr.cell (i := 0) (by decide)
/-- The list has grown by one edge, and its variable is written. -/
theorem PlS.grow {w wr W5 w' : World} {R G : Nat} {T : TypeId} {v0 : Value} {ea : Option Addr} {ec : Nat} {E : List Edg} {x : Edg} {v' : Value} (h : PlS w wr R G T v0 ea ec E) (hk : Keeps wr W5) (ho : OwnsEdge w' (G + 1) v' (E ++ [x])) (hg : W5.grownBy w' (Value.ownBlock (.slice ea E.length ec))) :
    ∃ ea' ec', v' = .slice ea' (E.length + 1) ec' ∧ (ea' = none → ec' = 0) ∧ PlS w (w'.setCell ⟨G, 1, none⟩ (.slice ea' (E.length + 1) ec')) R G T v0 ea' ec' (E ++ [x]) ∧ w'.cell? ⟨G, 1, none⟩ = some (.slice ea E.length ec) ∧ w'.frozen? ⟨G, 1, none⟩ = false ∧ G < w'.heap.size := by
  have h5 := h.kept hk
  have h1 := h.lt
  have h2 := h.lo
  have hgl : ∀ j, Value.ownBlock (.slice ea E.length ec) = some j → G + 1 ≤ j := fun j hj => (h5.ow.lt j hj).1
  have hgr : w'.rowIs G T 2 (row2 v0 (.slice ea E.length ec)) := h5.gr.of_block (hg.block G h5.gr.lt (fun e => by have := hgl G e.symm; omega))
  obtain ⟨ho1, ho2⟩ := ho
  rcases ho2 with ⟨_, hz⟩ | ⟨g', cap', cur, e, ho3⟩
  · simp at hz
  subst e
  have hl1 : (E ++ [x]).length = E.length + 1 := by simp
  refine ⟨some ⟨g', 0, none⟩, cap', by rw [hl1], fun h => (nomatch h), ?_, hgr.cell (i := 1) (by decide), hgr.frozen 1, hgr.lt⟩
  rw [← hl1]
  have ht : Turn [G] w' (w'.setCell ⟨G, 1, none⟩ (.slice (some ⟨g', 0, none⟩) (E ++ [x]).length cap')) := Turn.set (by simp) _
  obtain ⟨f, hf⟩ := h5.rs
  have hf' := hf.of_block (hg.block _ hf.lt (fun e => by have := hgl _ e.symm; omega))
  have hown : OwnsEdge w' (G + 1) (.slice (some ⟨g', 0, none⟩) (E ++ [x]).length cap') (E ++ [x]) := ⟨ho1, .inr ⟨g', cap', cur, rfl, ho3⟩⟩
  have hkw : Keeps w w' := ⟨hg.os.trans h5.keep.os, hg.tape.trans h5.keep.tape, hg.output.trans h5.keep.output, Nat.le_trans h5.keep.size hg.size, fun k hk => (hg.block k (Nat.lt_of_lt_of_le hk h5.keep.size) (fun e => by have := hgl k e.symm; omega)).trans (h5.keep.block k hk)⟩
  refine ⟨ht.keeps hkw (fun b hb => by rw [List.mem_singleton.1 hb]; omega), ?_, ⟨f, hf'.of_block (ht.block _ hf'.lt (by simp; omega))⟩, ownsE_turn hown (fun j hj => ht.block j (hown.lt j hj).2 (by have := (hown.lt j hj).1; simp; omega)), h.lo, h.lt⟩
  refine (hgr.set 1 (.slice (some ⟨g', 0, none⟩) (E ++ [x]).length cap')).congr (fun i hi => ?_)
  rcases (show i = 0 ∨ i = 1 by omega) with rfl | rfl <;> rfl
theorem mem_one (W : World) (y : Edg) : Cells (W.alloc (.cells #[.int .i64 y.fr, .int .i64 y.to, .int .i64 y.cp, .int .i64 y.co] 40)) (some ⟨W.heap.size, 0, none⟩) (egs [y]) := Or.inr ⟨W.heap.size, 0, rfl, fun j hj => by
  have hj' : j < 4 := by have h4 := egs_len [y]; rw [h4] at hj; simpa using hj
  rcases (show j = 0 ∨ j = 1 ∨ j = 2 ∨ j = 3 by omega) with rfl | rfl | rfl | rfl <;> simp [egs, Edg.cells]⟩
theorem plan_no {B : Bk} {lo hi gain : Int} {L : List Prc} (h : planB B lo hi gain L = false) : planN B lo hi gain L = 0 ∧ planV B lo hi gain L = [] ∧ planB B lo hi gain L = false := ⟨by simp [planN, h], by simp [planV, h], h⟩
theorem plan_yes {B : Bk} {lo hi gain : Int} {L : List Prc} (h : planB B lo hi gain L = true) : planN B lo hi gain L = (B.C.length : Int) + 1 ∧ planV B lo hi gain L = planE B.C lo hi gain L := ⟨by simp [planN, h], by simp [planV, h]⟩
theorem book_lo {B : Bk} (h : bookB B = true) : ∀ k (hk : k < B.C.length), 0 ≤ B.C[k].lo ∧ B.C[k].lo ≤ 1125899906842624 := by
  intro k hk
  simp only [bookB, Bool.and_eq_true, List.all_eq_true] at h
  have := h.2 _ (List.getElem_mem hk)
  simp only [chanB, fieldsB, Bool.and_eq_true] at this
  exact amtB_true this.1.1.1.1.1
theorem atI_bound (C : List Chn) (ch : Int) : -1 ≤ atI C ch ∧ atI C ch ≤ (C.length : Int) := by
  cases h : atC C ch with
  | none => rw [atI_none h]; omega
  | some k =>
    obtain ⟨hk, _⟩ := atC_lt h
    rw [atI_some h]; omega
theorem capV_eq {n : Int} (h : 0 ≤ n) : max 0 (min n 1000000000) = capV n := by unfold capV; split <;> omega
theorem cap_spec (n : Int) (w : World) (h : 0 ≤ n) : Calls Tryz.prog 42 #[.int .i64 n] w fun e w' => e = .returned (.int .i64 (capV n)) ∧ Keeps w w' := by
  have HC : Hid (∀ w, Calls Tryz.prog 78 #[.int .i64 n, .int .i64 0, .int .i64 1000000000] w fun e w' => e = .returned (.int .i64 (max 0 (min n 1000000000))) ∧ Keeps w w') := by
    intro w
    clear h
    go_enter Tryz.func78, Tryz.ntmps78
    go_wp2
    all_goals go_ret
    all_goals exact ⟨ret_i (by omega), Keeps.refl _⟩
  have HV := hide (capV_eq h)
  clear h
  generalize max 0 (min n 1000000000) = v at *
  go_enter Tryz.func42, Tryz.ntmps42
  go_wp2_with fail
  refine (HC.out _).mono ?_
  rintro e w1 ⟨rfl, hk⟩
  go_wp2_with fail
  go_ret
  exact ⟨ret_i HV.out, hk⟩
end Go.Proofs.YtjdbedlgkngdkaaGreatDoor
namespace Go.Proofs.YtjdbedlgkngdkaaGreatDoor
open Go.RowKit Go.Deep
set_option linter.unusedVariables false
set_option linter.unusedSimpArgs false
set_option maxRecDepth 10000

def Prc.v (x : Prc) : Value := .agg #[.int .i64 x.fr, .int .i64 x.to, .int .i64 x.pp]
theorem toPrice_k (x : Prc) (w : World) : Calls Tryz.prog 47 #[x.v] w fun e w' => e = .returned x.v ∧ Keeps w w' := by
  obtain ⟨xfr, xto, xpp⟩ := x
  dsimp only [Prc.v]
  go_enter Tryz.func47, Tryz.ntmps47
  go_wp2_with fail
  refine bodyPost_ret (v := .agg #[.int .i64 xfr, .int .i64 xto, .int .i64 xpp]) (by simp [results, Tryz.results47, go_sem]) rfl ⟨rfl, ?_⟩
  repeat (first | exact Keeps.refl _ | refine Keeps.alloc ?_ _ | refine Keeps.setCell ?_ (by simp) _)
theorem szPriceS_k (a : Option Addr) (len cap : Nat) (left : Int) (w : World) (hl : len ≤ 9223372036854775807) (h0 : 0 ≤ left) (h1 : left ≤ 1048576) :
    Calls Tryz.prog 12 #[.slice a len cap, .int .i64 left] w fun e w' => e = .returned (.int .i64 (if (len : Int) ≤ left then left - len else -1)) ∧ w' = w := by
  by_cases h : (len : Int) ≤ left
  · rw [if_pos h]
    go_enter Tryz.func12, Tryz.ntmps12
    go_wp2_with fail
    go_ret
    exact ⟨rfl, rfl⟩
  · rw [if_neg h]
    go_enter Tryz.func12, Tryz.ntmps12
    go_wp2_with fail
    go_ret
    exact ⟨rfl, rfl⟩
theorem infoPrice : (Tryz.prog.info? 69).map (fun i => (i.zero, i.size, i.bytes)) = some (some (.agg #[.int .i64 0, .int .i64 0, .int .i64 0]), 3, 24) := by kernel_rfl
theorem underPrices : Tryz.prog.underlying 28 = some (.slice 69) := by kernel_rfl
theorem make_Prices (n : Nat) (hn : n ≤ 1048576) (w : World) : (Instr.makeSlice 28 (.int .i64 (n : Int)) (.int .i64 (n : Int))).run Tryz.prog w = .ok (.slice (some ⟨w.heap.size, 0, none⟩) n n) (w.alloc (.cells (madeCells #[.int .i64 0, .int .i64 0, .int .i64 0] (n * 3)) 69)) := by
  have hI := infoPrice
  cases hi : Tryz.prog.info? 69 with
  | none => rw [hi] at hI; simp at hI
  | some i =>
    rw [hi] at hI
    simp at hI
    obtain ⟨hz, hs, hb⟩ := hI
    have h := run_make (P := Tryz.prog) w 28 69 i _ underPrices hi hz .i64 .i64 n n (by omega) (Int.le_refl _) (by rw [hb]; omega) (by omega)
    rw [hs] at h
    simpa [Value.cells] using h
/-- The row of the new list while it is filled. -/
def rowPrice (L : List Prc) (k : Nat) : Nat → Value := fun j => if j < k * 3 then (pcs L).getD j (.int .i64 0) else (#[.int .i64 0, .int .i64 0, .int .i64 0] : Array Value)[j % 3]!
theorem made_Price (L : List Prc) (w : World) (m : Nat) (t : TypeId) : (w.alloc (.cells (madeCells #[.int .i64 0, .int .i64 0, .int .i64 0] m) t)).rowIs w.heap.size t m (rowPrice L 0) := by
  have h := World.rowIs_alloc w (madeCells #[.int .i64 0, .int .i64 0, .int .i64 0] m) t (rowPrice L 0) (by
    intro i hi
    rw [size_madeCells] at hi
    simp only [madeCells, Array.getElem?_map, Array.getElem?_range]
    rw [if_pos hi]
    simp [rowPrice])
  rw [size_madeCells] at h
  exact h
theorem rowPrice_step (L : List Prc) (k : Nat) (h : k < L.length) (j : Nat) : (if j = k * 3 + 2 then (.int .i64 L[k].pp : Value) else if j = k * 3 + 1 then (.int .i64 L[k].to : Value) else if j = k * 3 then (.int .i64 L[k].fr : Value) else rowPrice L k j) = rowPrice L (k + 1) j := by
  have hL := pcs_len L
  have hk := Nat.mul_le_mul_right 3 (show k + 1 ≤ L.length from h)
  have ha := fun r (hr : r < 3) => flatMap_at (f := Prc.cells) (sz := 3) (fun _ => rfl) L k h r hr
  unfold rowPrice
  by_cases h2 : j = k * 3 + 2
  · subst h2
    (try simp only [if_true])
    (try rw [if_pos rfl])
    rw [if_pos (by omega), List.getD_eq_getElem?_getD]
    have e := ha 2 (by decide)
    skip
    unfold pcs
    rw [e]; rfl
  rw [if_neg h2]
  by_cases h1 : j = k * 3 + 1
  · subst h1
    (try simp only [if_true])
    (try rw [if_pos rfl])
    rw [if_pos (by omega), List.getD_eq_getElem?_getD]
    have e := ha 1 (by decide)
    skip
    unfold pcs
    rw [e]; rfl
  rw [if_neg h1]
  by_cases h0 : j = k * 3
  · subst h0
    (try simp only [if_true])
    (try rw [if_pos rfl])
    rw [if_pos (by omega), List.getD_eq_getElem?_getD]
    have e := ha 0 (by decide)
    simp only [Nat.add_zero] at e
    unfold pcs
    rw [e]; rfl
  rw [if_neg h0]
  by_cases hlt : j < k * 3
  · rw [if_pos hlt, if_pos (by omega)]
  · rw [if_neg hlt, if_neg (by omega)]
theorem rowPrice_end (L : List Prc) (j : Nat) (hj : j < (pcs L).length) : rowPrice L L.length j = (pcs L)[j] := by
  have hL := pcs_len L
  unfold rowPrice
  rw [if_pos (by omega), List.getD_eq_getElem?_getD, List.getElem?_eq_getElem hj]
  rfl
set_option maxHeartbeats 2000000 in
theorem toPriceS_k (a : Option Addr) (cap : Nat) (L : List Prc) (w : World) (hc : Cells w a (pcs L)) (hl : L.length ≤ 1048576) :
    Calls Tryz.prog 15 #[.slice a L.length cap] w fun e w' => ∃ b, e = .returned (.slice (some ⟨b, 0, none⟩) L.length L.length) ∧ Born w w' [(some ⟨b, 0, none⟩, pcs L)] ∧ Keeps w w' := by
  have HC := hide hc
  clear hc
  have hmk := make_Prices L.length hl
  have HR := hide (made_Price L w (L.length * 3) 69)
  have HKA := hide (Keeps.alloc (Keeps.refl w) (.cells (madeCells #[.int .i64 0, .int .i64 0, .int .i64 0] (L.length * 3)) 69))
  go_enter Tryz.func15, Tryz.ntmps15
  go_wp2_with fail
  clear hmk
  go_loopw [4] (fun y w1 => ∃ k : Nat, k ≤ L.length ∧ y = .int .i64 (k : Int) ∧ w1.rowIs w.heap.size 69 (L.length * 3) (rowPrice L k) ∧ Keeps w w1) (fun y _ => L.length - (intOf y).toNat)
  case atStart => exact ⟨0, by omega, rfl, HR.out, HKA.out⟩
  case round =>
    obtain ⟨k, hk, rfl, hr, hkw⟩ := hrel
    clear HR HKA
    by_cases hlt : k < L.length
    · obtain ⟨b, off, ea, c0, c1, c2⟩ := pcs_at (HC.out.kept hkw) k hlt
      subst ea
      have HQ := hide (fun w1 => toPrice_k L[k] w1)
      have HS := hide (rowPrice_step L k hlt)
      have HRR := hide hr
      have HKW := hide hkw
      have hkz := Nat.mul_le_mul_right 3 (show k + 1 ≤ L.length from hlt)
      clear hr hkw
      generalize L[k] = x at *
      obtain ⟨xfr, xto, xpp⟩ := x
      dsimp only [Prc.v] at *
      go_wp2_with fail
      refine (unhide HQ _).mono ?_
      rintro e w2 ⟨rfl, hk2⟩
      have r2 := hk2.rowK HRR.out
      have d0 := r2.cell (i := k * 3) (by omega)
      have f0 := r2.frozen (k * 3)
      have d1 := r2.cell (i := k * 3 + 1) (by omega)
      have f1 := r2.frozen (k * 3 + 1)
      have d2 := r2.cell (i := k * 3 + 2) (by omega)
      have f2 := r2.frozen (k * 3 + 2)
      have HR2 := hide r2
      have HK2 := hide (HKW.out.trans hk2)
      clear r2 hk2
      go_wp2_with fail
      go_roundw
      case rel => exact ⟨k + 1, by omega, by go_num, ((((HR2.out.set (k * 3) (.int .i64 xfr)).set (k * 3 + 1) (.int .i64 xto)).set (k * 3 + 2) (.int .i64 xpp))).congr (fun j _ => HS.out j), (Keeps.setCell (Keeps.setCell (Keeps.setCell HK2.out (Nat.le_refl _) _) (Nat.le_refl _) _) (Nat.le_refl _) _)⟩
      case measure => simp [intOf]; omega
    · have e : k = L.length := by omega
      subst e
      go_wp2_with fail
      go_ret
      exact ⟨_, rfl, born_row hr (pcs L) (by rw [pcs_len]; exact Nat.le_refl _) (fun j hj => rowPrice_end L j hj) (Nat.le_refl _), hkw⟩
theorem eqPrice_same (x : Prc) (w : World) : Calls Tryz.prog 52 #[x.v, x.v] w fun e w' => e = .returned (.bool true) ∧ Keeps w w' := by
  obtain ⟨xfr, xto, xpp⟩ := x
  dsimp only [Prc.v]
  skip
  all_goals
    go_enter Tryz.func52, Tryz.ntmps52
    go_wp2_with fail
    go_ret
    exact ⟨rfl, Keeps.alloc (Keeps.alloc (Keeps.refl _) _) _⟩
set_option maxHeartbeats 4000000 in
theorem eqPriceS_k (a a' : Option Addr) (cap cap' : Nat) (xs : List Prc) (w : World) (hc : Cells w a (pcs xs)) (hc' : Cells w a' (pcs xs)) (hl : xs.length ≤ 1048576) :
    Calls Tryz.prog 18 #[.slice a xs.length cap, .slice a' xs.length cap'] w fun e w' => e = .returned (.bool true) ∧ Keeps w w' := by
  have HC := hide hc
  have HC' := hide hc'
  clear hc hc'
  go_enter Tryz.func18, Tryz.ntmps18
  go_wp2_with fail
  go_loopw [5] (fun y w1 => ∃ k : Nat, k ≤ xs.length ∧ y = .int .i64 (k : Int) ∧ Keeps w w1) (fun y _ => xs.length - (intOf y).toNat)
  case atStart => exact ⟨0, by omega, rfl, Keeps.refl _⟩
  case round =>
    obtain ⟨k, hk, rfl, hkw⟩ := hrel
    by_cases hlt : k < xs.length
    · obtain ⟨b, off, ea, c0, c1, c2⟩ := pcs_at (HC.out.kept hkw) k hlt
      obtain ⟨b', off', ea', d0, d1, d2⟩ := pcs_at (HC'.out.kept hkw) k hlt
      have HEA := hide ea
      have HEA' := hide ea'
      clear ea ea'
      obtain rfl := HEA.out
      obtain rfl := HEA'.out
      have HQ := hide (fun t => eqPrice_same xs[k] (gr wr t))
      have g0 := gr_cell c0
      have i0 := gr_cell d0
      have g1 := gr_cell c1
      have i1 := gr_cell d1
      have g2 := gr_cell c2
      have i2 := gr_cell d2
      generalize xs[k] = x at *
      obtain ⟨xfr, xto, xpp⟩ := x
      dsimp only [Prc.v] at c0 d0 g0 i0 c1 d1 g1 i1 c2 d2 g2 i2 HQ
      go_wp2_with fail
      refine region_gr (by kernel_rfl) (by kernel_rfl) ?_
      repeat (go_big_quiet_step (first | (go_at_call 52; exact gr_call (unhide HQ _))))
      refine wpQuiet_nil ?_
      intro w' hw'
      have hk' := hkw.trans (Keeps.of_gr hw')
      clear hw'
      go_wp2_with fail
      go_roundw
      case rel => exact ⟨k + 1, by omega, by go_num, hk'⟩
      case measure => simp [intOf]; omega
    · go_wp2_with fail
      go_ret
      exact ⟨rfl, hkw⟩
end Go.Proofs.YtjdbedlgkngdkaaGreatDoor
namespace Go.Proofs.YtjdbedlgkngdkaaGreatDoor
open Go.RowKit Go.Deep
set_option linter.unusedVariables false
set_option linter.unusedSimpArgs false
set_option maxRecDepth 10000

theorem small_of {B : Bk} (h1 : B.Hs.length ≤ 60) (h2 : B.R.length ≤ 20) (h3 : B.Hs.all (htB B.C) = true) (h4 : B.R.all (crB B.C) = true) : Small B := by
  refine ⟨fun h hh => ?_, fun c hc => ?_, h1, h2⟩
  · have := List.all_eq_true.1 h3 h hh
    simp only [htB, posB, amtB, Bool.and_eq_true, decide_eq_true_eq] at this
    omega
  · have := List.all_eq_true.1 h4 c hc
    simp only [crB, posB, amtB, Bool.and_eq_true, decide_eq_true_eq] at this
    omega
theorem bookB_def (B : Bk) : bookB B = (amtB B.tk && (amtB B.wa && (posB B.nx && (decide (B.C.length ≤ 20) && (decide (B.Hs.length ≤ 60) && (decide (B.R.length ≤ 20) && (keysB (keysL B) && (B.Hs.all (htB B.C) && (B.R.all (crB B.C) && (idsB B.C && B.C.all (chanB B))))))))))) := by
  unfold bookB headB underB
  cases amtB B.tk <;> cases amtB B.wa <;> cases posB B.nx <;> cases decide (B.C.length ≤ 20) <;> cases decide (B.Hs.length ≤ 60) <;> cases decide (B.R.length ≤ 20) <;> cases keysB (keysL B) <;> cases B.Hs.all (htB B.C) <;> cases B.R.all (crB B.C) <;> cases idsB B.C <;> simp
set_option maxHeartbeats 4000000 in
theorem bookok_impl (B : Bo) (w : World) (hm : Mem w B.segs) (hl : B.len) : Calls Tryz.prog 68 #[B.v] w fun e w' => e = .returned (.bool (bookB B.d)) ∧ Keeps w w' := by
  have HV := hide (bookB_def B.d)
  have H1 := hide (fun w' (hk : Keeps w w') => keys_impl B w' (hm.kept hk) hl)
  have H2 := hide (fun w' (hk : Keeps w w') => htlcs_impl B w' (hm.kept hk) hl)
  have H3 := hide (fun w' (hk : Keeps w w') => circles_impl B w' (hm.kept hk) hl)
  have H4 := hide (fun w' (hk : Keeps w w') => ids_impl B.ca B.cc B.C w' (Bo.memC (hm.kept hk)) hl.1)
  have H5 := hide (fun w' (hk : Keeps w w') => channels_impl B w' (hm.kept hk) hl)
  have H6 := hide (small_of (B := B.d))
  obtain ⟨tk, nx, wa, ca, cc, C, ha, hc, Hs, ra, rc, R⟩ := B
  have HCC := hide (fun w' (hk : Keeps w w') => Bo.memC (hm.kept hk))
  have HCH := hide (fun w' (hk : Keeps w w') => Bo.memH (hm.kept hk))
  have HCR := hide (fun w' (hk : Keeps w w') => Bo.memR (hm.kept hk))
  have HL := hide hl
  have HBA := hide (book_box ⟨tk, nx, wa, ca, cc, C, ha, hc, Hs, ra, rc, R⟩ w 27)
  have HKA := hide (Keeps.alloc (Keeps.refl w) (.cells #[.int .i64 tk, .int .i64 nx, .int .i64 wa, .slice ca C.length cc, .slice ha Hs.length hc, .slice ra R.length rc] 27))
  dsimp only [Bo.d, Bo.v] at *
  clear hm hl
  go_enter Tryz.func68, Tryz.ntmps68
  go_wp2_with fail
  obtain ⟨l1, l2, l3⟩ := HL.out
  dsimp only at l1 l2 l3
  generalize hW : w.alloc (.cells #[.int .i64 tk, .int .i64 nx, .int .i64 wa, .slice ca C.length cc, .slice ha Hs.length hc, .slice ra R.length rc] 27) = W0 at *
  clear hW
  have HKc := hide (Keeps.refl W0)
  refine (amt_impl tk _).mono ?_
  rintro e w1 ⟨rfl, hk⟩
  replace HKc := hide (HKc.out.trans hk)
  clear hk
  obtain ⟨e0, e1, e2, e3, e4, e5⟩ := HBA.out.kept HKc.out
  dsimp only at e0 e1 e2 e3 e4 e5
  cases hb0 : amtB tk
  · go_wp2_with fail
    go_ret
    exact ⟨ret_b (by rw [HV.out]; simp [hb0]), HKA.out.trans HKc.out⟩
  go_wp2_with fail
  refine (amt_impl wa _).mono ?_
  rintro e w2 ⟨rfl, hk⟩
  replace HKc := hide (HKc.out.trans hk)
  clear hk
  clear e0 e1 e2 e3 e4 e5
  obtain ⟨e0, e1, e2, e3, e4, e5⟩ := HBA.out.kept HKc.out
  dsimp only at e0 e1 e2 e3 e4 e5
  cases hb1 : amtB wa
  · go_wp2_with fail
    go_ret
    exact ⟨ret_b (by rw [HV.out]; simp [hb0, hb1]), HKA.out.trans HKc.out⟩
  go_wp2_with fail
  refine (pos_impl nx _).mono ?_
  rintro e w3 ⟨rfl, hk⟩
  replace HKc := hide (HKc.out.trans hk)
  clear hk
  clear e0 e1 e2 e3 e4 e5
  obtain ⟨e0, e1, e2, e3, e4, e5⟩ := HBA.out.kept HKc.out
  dsimp only at e0 e1 e2 e3 e4 e5
  cases hb2 : posB nx
  · go_wp2_with fail
    go_ret
    exact ⟨ret_b (by rw [HV.out]; simp [hb0, hb1, hb2]), HKA.out.trans HKc.out⟩
  by_cases hn0 : C.length ≤ 20
  rotate_left
  · have hn0d := hide hn0
    go_wp2_with fail
    go_ret
    exact ⟨ret_b (by rw [HV.out]; simp [hb0, hb1, hb2, hn0d.out]), HKA.out.trans HKc.out⟩
  have hn0d := hide hn0
  by_cases hn1 : Hs.length ≤ 60
  rotate_left
  · have hn1d := hide hn1
    go_wp2_with fail
    go_ret
    exact ⟨ret_b (by rw [HV.out]; simp [hb0, hb1, hb2, hn0d.out, hn1d.out]), HKA.out.trans HKc.out⟩
  have hn1d := hide hn1
  by_cases hn2 : R.length ≤ 20
  rotate_left
  · have hn2d := hide hn2
    go_wp2_with fail
    go_ret
    exact ⟨ret_b (by rw [HV.out]; simp [hb0, hb1, hb2, hn0d.out, hn1d.out, hn2d.out]), HKA.out.trans HKc.out⟩
  have hn2d := hide hn2
  go_wp2_with fail
  refine (unhide H1 w3 (HKA.out.trans HKc.out) hn1d.out hn2d.out).mono ?_
  rintro e w4 ⟨rfl, hk⟩
  replace HKc := hide (HKc.out.trans hk)
  clear hk e0 e1 e2 e3 e4 e5
  obtain ⟨e0, e1, e2, e3, e4, e5⟩ := HBA.out.kept HKc.out
  dsimp only at e0 e1 e2 e3 e4 e5
  cases hc0 : keysB (keysL ⟨tk, nx, wa, C, Hs, R⟩)
  · go_wp2_with fail
    go_ret
    exact ⟨ret_b (by rw [HV.out]; simp [hb0, hb1, hb2, hn0d.out, hn1d.out, hn2d.out, hc0]), HKA.out.trans HKc.out⟩
  go_wp2_with fail
  refine (unhide H2 w4 (HKA.out.trans HKc.out)).mono ?_
  rintro e w5 ⟨rfl, hk⟩
  replace HKc := hide (HKc.out.trans hk)
  clear hk e0 e1 e2 e3 e4 e5
  obtain ⟨e0, e1, e2, e3, e4, e5⟩ := HBA.out.kept HKc.out
  dsimp only at e0 e1 e2 e3 e4 e5
  cases hc1 : Hs.all (htB C)
  · go_wp2_with fail
    go_ret
    exact ⟨ret_b (by rw [HV.out]; simp [hb0, hb1, hb2, hn0d.out, hn1d.out, hn2d.out, hc0, hc1]), HKA.out.trans HKc.out⟩
  go_wp2_with fail
  refine (unhide H3 w5 (HKA.out.trans HKc.out)).mono ?_
  rintro e w6 ⟨rfl, hk⟩
  replace HKc := hide (HKc.out.trans hk)
  clear hk e0 e1 e2 e3 e4 e5
  obtain ⟨e0, e1, e2, e3, e4, e5⟩ := HBA.out.kept HKc.out
  dsimp only at e0 e1 e2 e3 e4 e5
  cases hc2 : R.all (crB C)
  · go_wp2_with fail
    go_ret
    exact ⟨ret_b (by rw [HV.out]; simp [hb0, hb1, hb2, hn0d.out, hn1d.out, hn2d.out, hc0, hc1, hc2]), HKA.out.trans HKc.out⟩
  go_wp2_with fail
  refine (unhide H4 w6 (HKA.out.trans HKc.out)).mono ?_
  rintro e w7 ⟨rfl, hk⟩
  replace HKc := hide (HKc.out.trans hk)
  clear hk e0 e1 e2 e3 e4 e5
  obtain ⟨e0, e1, e2, e3, e4, e5⟩ := HBA.out.kept HKc.out
  dsimp only at e0 e1 e2 e3 e4 e5
  cases hc3 : idsB C
  · go_wp2_with fail
    go_ret
    exact ⟨ret_b (by rw [HV.out]; simp [hb0, hb1, hb2, hn0d.out, hn1d.out, hn2d.out, hc0, hc1, hc2, hc3]), HKA.out.trans HKc.out⟩
  go_wp2_with fail
  refine (unhide H5 w7 (HKA.out.trans HKc.out) (H6.out hn1d.out hn2d.out hc1 hc2)).mono ?_
  rintro e w8 ⟨rfl, hk⟩
  replace HKc := hide (HKc.out.trans hk)
  clear hk e0 e1 e2 e3 e4 e5
  obtain ⟨e0, e1, e2, e3, e4, e5⟩ := HBA.out.kept HKc.out
  dsimp only at e0 e1 e2 e3 e4 e5
  go_wp2_with fail
  go_ret
  exact ⟨ret_b (by rw [HV.out]; simp [hb0, hb1, hb2, hn0d.out, hn1d.out, hn2d.out, hc0, hc1, hc2, hc3]), HKA.out.trans HKc.out⟩
end Go.Proofs.YtjdbedlgkngdkaaGreatDoor
