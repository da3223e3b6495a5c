/- Texts of the verifier, joined: QT, Pg, Fm, Ra. -/
import Derived.Test.YtjdbedlgkngdkaaGreatDoorPMoves3
import Derived.Test.YtjdbedlgkngdkaaGreatDoorPMoves1
import Derived.Deep.Quiet
import Derived.StillTail
import Derived.OrdersHeld
import Derived.Deep.Cut
namespace Go.Proofs.YtjdbedlgkngdkaaGreatDoor
open Go.RowKit Go
set_option linter.unusedVariables false

section
variable {P : Program} {ops : Array Oper} {md : Region.Mode} {C : World → Prop}

/-- Which part an operation belongs to. -/
inductive Pt where
  | h | t | u | f | b
def pkH : List Pt → List Oper → List Oper
  | .h :: m, o :: l => o :: pkH m l
  | .t :: m, _ :: l => pkH m l
  | .u :: m, _ :: l => pkH m l
  | .f :: m, _ :: l => pkH m l
  | .b :: m, _ :: l => pkH m l
  | _, _ => []
def pkT : List Pt → List Oper → List Oper
  | .t :: m, o :: l => o :: pkT m l
  | .h :: m, _ :: l => pkT m l
  | .u :: m, _ :: l => pkT m l
  | .f :: m, _ :: l => pkT m l
  | .b :: m, _ :: l => pkT m l
  | _, _ => []
def pkU : List Pt → List Oper → List Oper
  | .u :: m, o :: l => o :: pkU m l
  | .h :: m, _ :: l => pkU m l
  | .t :: m, _ :: l => pkU m l
  | .f :: m, _ :: l => pkU m l
  | .b :: m, _ :: l => pkU m l
  | _, _ => []
def pkF : List Pt → List Oper → List Oper
  | .f :: m, o :: l => o :: pkF m l
  | .h :: m, _ :: l => pkF m l
  | .t :: m, _ :: l => pkF m l
  | .u :: m, _ :: l => pkF m l
  | .b :: m, _ :: l => pkF m l
  | _, _ => []
def pkB : List Pt → List Oper → List Oper
  | .b :: m, o :: l => o :: pkB m l
  | .h :: m, _ :: l => pkB m l
  | .t :: m, _ :: l => pkB m l
  | .u :: m, _ :: l => pkB m l
  | .f :: m, _ :: l => pkB m l
  | _, _ => []
def ixH : List Pt → Nat → List Nat
  | .h :: m, k => k :: ixH m (k + 1)
  | .t :: m, k => ixH m (k + 1)
  | .u :: m, k => ixH m (k + 1)
  | .f :: m, k => ixH m (k + 1)
  | .b :: m, k => ixH m (k + 1)
  | [], _ => []
def ixT : List Pt → Nat → List Nat
  | .t :: m, k => k :: ixT m (k + 1)
  | .h :: m, k => ixT m (k + 1)
  | .u :: m, k => ixT m (k + 1)
  | .f :: m, k => ixT m (k + 1)
  | .b :: m, k => ixT m (k + 1)
  | [], _ => []
def ixU : List Pt → Nat → List Nat
  | .u :: m, k => k :: ixU m (k + 1)
  | .h :: m, k => ixU m (k + 1)
  | .t :: m, k => ixU m (k + 1)
  | .f :: m, k => ixU m (k + 1)
  | .b :: m, k => ixU m (k + 1)
  | [], _ => []
def ixF : List Pt → Nat → List Nat
  | .f :: m, k => k :: ixF m (k + 1)
  | .h :: m, k => ixF m (k + 1)
  | .t :: m, k => ixF m (k + 1)
  | .u :: m, k => ixF m (k + 1)
  | .b :: m, k => ixF m (k + 1)
  | [], _ => []
def ixB : List Pt → Nat → List Nat
  | .b :: m, k => k :: ixB m (k + 1)
  | .h :: m, k => ixB m (k + 1)
  | .t :: m, k => ixB m (k + 1)
  | .u :: m, k => ixB m (k + 1)
  | .f :: m, k => ixB m (k + 1)
  | [], _ => []

def sinkI (md : Region.Mode) (ops : Array Oper) (hs ts : List Nat) : Bool :=
  hs.all fun i => (hs.any fun j => decide (i < j) && Region.waitsFor md ops j i) || (match ts with | t :: _ => Region.waitsFor md ops t i | [] => false)
def chainI (md : Region.Mode) (ops : Array Oper) : List Nat → Bool
  | [] => true
  | [_] => true
  | a :: b :: r => Region.waitsFor md ops b a && chainI md ops (b :: r)
structure HInv (md : Region.Mode) (ops : Array Oper) (ts : List Nat) (listed : Array Bool) : Prop where
  size : listed.size = ops.size
  closed : ∀ j oj, ops[j]? = some oj → listed.getD j false = true → ∀ e ∈ oj.after, Region.binds md e = true → listed.getD e.on false = true
  tail : ∀ t ∈ ts, listed.getD t true = false
theorem HInv.set {ts : List Nat} {i : Nat} {listed : Array Bool} (inv : HInv md ops ts listed) (hi : i ∈ Region.ready md ops listed) (hin : i ∉ ts) : HInv md ops ts (listed.setIfInBounds i true) := by
  obtain ⟨_, oi, hoi, hall⟩ := mem_ready.1 hi
  refine ⟨by simp [inv.size], fun j oj hj hl e he hb => ?_, fun t ht => by
    have hne : i ≠ t := fun e => hin (by rw [e]; exact ht)
    rw [getD_set_ne true hne]; exact inv.tail t ht⟩
  by_cases hij : i = j
  · subst hij
    have : oj = oi := Option.some.inj (hj.symm.trans hoi)
    subst this
    exact getD_set_true (hall e he hb)
  · rw [getD_set_ne false hij] at hl
    exact getD_set_true (inv.closed j oj hj hl e he hb)
theorem chain_prev : ∀ (ts : List Nat), chainI md ops ts = true → ∀ t ∈ ts, ts.head? = some t ∨ ∃ t' ∈ ts, Region.waitsFor md ops t t' = true
  | [], _, t, ht => by cases ht
  | [a], _, t, ht => .inl (by rw [List.mem_singleton.1 ht]; rfl)
  | a :: b :: r, h, t, ht => by
    simp only [chainI, Bool.and_eq_true] at h
    rcases List.mem_cons.1 ht with rfl | ht
    · exact .inl rfl
    · right
      rcases chain_prev (b :: r) h.2 t ht with h' | ⟨t', ht', hw⟩
      · have e : b = t := Option.some.inj h'
        subst e
        exact ⟨a, by simp, h.1⟩
      · exact ⟨t', List.mem_cons_of_mem _ ht', hw⟩
theorem waits_not {listed : Array Bool} {i t : Nat} (hw : Region.waitsFor md ops t i = true) (hun : listed.getD i true = false) : t ∉ Region.ready md ops listed := by
  intro hr
  obtain ⟨_, ot, hot, hall⟩ := mem_ready.1 hr
  obtain ⟨oj, hoj, e, he, hb, hon⟩ := Region.waitsFor_spec hw
  have : oj = ot := Option.some.inj (hoj.symm.trans hot)
  subst this
  have h2 := hall e he hb
  rw [hon, getD_both hun] at h2
  cases h2
theorem tail_waitsI {hs ts : List Nat} {listed : Array Bool} (hB : sinkI md ops hs ts = true) (hc : chainI md ops ts = true) (inv : HInv md ops ts listed) :
    ∀ (d i : Nat), ops.size - i = d → i ∈ hs → i < ops.size → listed.getD i true = false → ∀ t ∈ ts, t ∉ Region.ready md ops listed := by
  intro d
  induction d using Nat.strongRecOn with
  | _ d ih =>
    intro i hd hi hlt hun t ht hr
    rcases chain_prev ts hc t ht with h | ⟨t', ht', hw⟩
    · have h1 := List.all_eq_true.1 hB i hi
      rw [Bool.or_eq_true] at h1
      rcases h1 with h1 | h1
      · obtain ⟨j, hj, hj2⟩ := List.any_eq_true.1 h1
        simp only [Bool.and_eq_true, decide_eq_true_eq] at hj2
        obtain ⟨oj, hoj, e, he, hb, hon⟩ := Region.waitsFor_spec hj2.2
        have hjlt : j < ops.size := (Array.getElem?_eq_some_iff.1 hoj).1
        cases hl : listed.getD j false with
        | true =>
          have h2 := inv.closed j oj hoj hl e he hb
          rw [hon, getD_both hun] at h2
          cases h2
        | false =>
          exact ih (ops.size - j) (by omega) j rfl hj hjlt (getD_in (by rw [inv.size]; exact hjlt) hl) t ht hr
      · cases ts with
        | nil => cases ht
        | cons t0 r =>
          have e : t0 = t := Option.some.inj h
          subst e
          exact waits_not h1 hun hr
    · exact waits_not hw (inv.tail t' ht') hr
def wpAnyT (P : Program) (md : Region.Mode) (ops : Array Oper) (C : World → Prop) (ts : List Nat) (L : Array Bool → Act → Prop) : Nat → Array Bool → Act → Prop
  | 0, listed, a => L listed a
  | f + 1, listed, a => Region.ready md ops listed ≠ [] ∧ ∀ i ∈ Region.ready md ops listed, i ∉ ts ∧ qOp P ops C i (wpAnyT P md ops C ts L f (listed.setIfInBounds i true)) a
theorem wpAnyT_first {hs ts : List Nat} {i : Nat} {oi : Oper} {v : Value} {L : Array Bool → Act → Prop} (hi : ops[i]? = some oi) (hsel : ∀ (j : Nat) (o : Oper) cs b, ops[j]? = some o → o.op ≠ .select cs b)
    (hB : sinkI md ops hs ts = true) (hc : chainI md ops ts = true) (hin : i ∈ hs)
    (hdone : ∀ listed a, L listed a → ∀ j ∈ Region.ready md ops listed, j ∈ ts) :
    ∀ (f : Nat) (listed : Array Bool) (a : Act), HInv md ops ts listed →
      (∀ j oj, ops[j]? = some oj → j ≠ i → listed.getD j true = false → (∀ e ∈ oj.after, Region.binds md e = true → e.on ≠ i) → oi.apart ops oj = true) →
      i ∈ Region.ready md ops listed → YieldsIn P ops C oi v a →
      wpAnyT P md ops C ts L f (listed.setIfInBounds i true) (a.put oi.dst v) → wpAnyT P md ops C ts L (f + 1) listed a := by
  intro f
  induction f with
  | zero =>
    intro listed a inv _ hr hy H
    have hun := (mem_ready.1 hr).1
    have hlt : i < ops.size := (Array.getElem?_eq_some_iff.1 hi).1
    have hnt := tail_waitsI hB hc inv _ i rfl hin hlt hun
    refine ⟨fun h => (by rw [h] at hr; cases hr), fun j hj => ?_⟩
    have hjn : j ∉ ts := fun h => hnt j h hj
    refine ⟨hjn, ?_⟩
    by_cases hji : j = i
    · subst hji; exact hy.qOp hi H
    · exact absurd (hdone _ _ H j (ready_mono hj hji)) hjn
  | succ f ih =>
    intro listed a inv hfree hr hy H
    have hun := (mem_ready.1 hr).1
    have hlt : i < ops.size := (Array.getElem?_eq_some_iff.1 hi).1
    have hnt := tail_waitsI hB hc inv _ i rfl hin hlt hun
    refine ⟨fun h => (by rw [h] at hr; cases hr), fun j hj => ?_⟩
    have hjn : j ∉ ts := fun h => hnt j h hj
    refine ⟨hjn, ?_⟩
    by_cases hji : j = i
    · subst hji; exact hy.qOp hi H
    · have h1 := (H.2 j (ready_mono hj hji)).2
      obtain ⟨hjun, oj, hoj, hall⟩ := mem_ready.1 hj
      have hnot : ∀ e ∈ oj.after, Region.binds md e = true → e.on ≠ i := fun e he hb heq => by
        have h1 := hall e he hb
        rw [heq, getD_both hun] at h1
        cases h1
      have h2 := qOp_put hoj (hfree j oj hoj hji hjun hnot) (fun cs b => hsel i oi cs b hi) (fun cs b => hsel j oj cs b hoj) hy h1
      have hfree' : ∀ k ok, ops[k]? = some ok → k ≠ i → (listed.setIfInBounds j true).getD k true = false →
          (∀ e ∈ ok.after, Region.binds md e = true → e.on ≠ i) → oi.apart ops ok = true := fun k ok hk hki hun hno => by
        refine hfree k ok hk hki ?_ hno
        by_cases hjk : j = k
        · subst hjk; exact hjun
        · rw [getD_set_ne true hjk] at hun; exact hun
      refine qOp_mono (fun a' h3 => ih (listed.setIfInBounds j true) a' (inv.set hj hjn) hfree' (ready_mono hr (Ne.symm hji)) h3.1 ?_) h2
      rw [Array.setIfInBounds_comm _ _ hji]
      exact h3.2
def seqI (md : Region.Mode) (ops : Array Oper) : List Nat → Array Bool → Bool
  | [], listed => (Region.ready md ops listed).isEmpty
  | k :: ts, listed => decide (Region.ready md ops listed = [k]) && seqI md ops ts (listed.setIfInBounds k true)
def lexI (md : Region.Mode) (ops : Array Oper) (ts : List Nat) : List Nat → Array Bool → Bool
  | [], listed => seqI md ops ts listed
  | k :: ks, listed => (Region.ready md ops listed).contains k && Region.free md ops listed k && lexI md ops ts ks (listed.setIfInBounds k true)
theorem seqI_ready {ts : List Nat} {listed : Array Bool} (h : seqI md ops ts listed = true) : ∀ j ∈ Region.ready md ops listed, j ∈ ts := by
  cases ts with
  | nil => intro j hj; simp only [seqI, List.isEmpty_iff] at h; rw [h] at hj; cases hj
  | cons k ts =>
    intro j hj
    simp only [seqI, Bool.and_eq_true, decide_eq_true_eq] at h
    rw [h.1] at hj
    rw [List.mem_singleton.1 hj]
    simp
theorem wpAnyT_lex {hs ts : List Nat} {Lq : Act → Prop} (hsel : Region.noSelect ops = true) (hB : sinkI md ops hs ts = true) (hc : chainI md ops ts = true) :
    ∀ (lh : List Oper) (ks : List Nat) (listed : Array Bool) (a : Act), (ks.map fun k => ops[k]?) = lh.map some → (∀ k ∈ ks, k ∈ hs) → HInv md ops ts listed →
    lexI md ops ts ks listed = true → wpQuiet P ops C Lq lh a → wpAnyT P md ops C ts (fun listed' a' => seqI md ops ts listed' = true ∧ Lq a') lh.length listed a
  | [], [], listed, a, _, _, _, hx, h => ⟨hx, h⟩
  | [], k :: ks, _, _, e, _, _, _, _ => by cases e
  | o :: lh, [], _, _, e, _, _, _, _ => by cases e
  | o :: lh, k :: ks, listed, a, e, hk, inv, hx, h => by
    simp only [List.map_cons, List.cons.injEq] at e
    obtain ⟨h0, e'⟩ := e
    simp only [lexI, Bool.and_eq_true] at hx
    obtain ⟨⟨hr, hf⟩, hx'⟩ := hx
    have hr' : k ∈ Region.ready md ops listed := by simpa using hr
    have hst : qOp P ops C k (wpQuiet P ops C Lq lh) a := by unfold qOp; simp only [h0]; exact h
    obtain ⟨v, hy, hK⟩ := yieldsIn_of_qOp h0 hst
    have hun := (mem_ready.1 hr').1
    have hnt : k ∉ ts := fun ht => tail_waitsI hB hc inv _ k rfl (hk k (by simp)) (Array.getElem?_eq_some_iff.1 h0).1 hun k ht hr'
    exact wpAnyT_first h0 (Region.noSelect_spec hsel) hB hc (hk k (by simp)) (fun listed' a' hL => seqI_ready hL.1) lh.length listed a inv (Region.free_spec h0 hf) hr' hy
      (wpAnyT_lex hsel hB hc lh ks _ _ e' (fun x hx => hk x (List.mem_cons_of_mem _ hx)) (inv.set hr' hnt) hx' hK)
/-- Whatever order is picked; what is not among B leaves a world of the class. -/
def wpAnyB (P : Program) (md : Region.Mode) (ops : Array Oper) (Q : Exit → Act → World → Prop) (C : World → Prop) (B : List Nat) : Nat → Array Bool → Act → World → Prop
  | 0, listed, a, w => Region.ready md ops listed = [] ∧ Q .normal a w
  | fuel + 1, listed, a, w => (Region.ready md ops listed = [] → Q .normal a w) ∧ ∀ i ∈ Region.ready md ops listed, wpOp P ops Q i (fun a' w' => (i ∈ B ∨ C w') ∧ wpAnyB P md ops Q C B fuel (listed.setIfInBounds i true) a' w') a w
theorem wpAny_of_B {Q : Exit → Act → World → Prop} {B : List Nat} : ∀ (fuel : Nat) (listed : Array Bool) (a : Act) (w : World), wpAnyB P md ops Q C B fuel listed a w → wpAny P md ops Q fuel listed a w
  | 0, _, _, _, h => h
  | fuel + 1, _, _, _, h => ⟨h.1, fun i hi => wpOp_mono (fun a' w' h' => wpAny_of_B fuel _ a' w' h'.2) (h.2 i hi)⟩
theorem wpAnyB_of_headQ {ts B : List Nat} {g : Nat} {L : Array Bool → Act → Prop} {Q' : Exit → Act → World → Prop} (hL : ∀ listed a w, C w → L listed a → wpAnyB P md ops Q' C B g listed a w) :
    ∀ (f : Nat) (listed : Array Bool) (a : Act) (w : World), C w → wpAnyT P md ops C ts L f listed a → wpAnyB P md ops Q' C B (f + g) listed a w
  | 0, listed, a, w, hw, h => by rw [Nat.zero_add]; exact hL _ _ _ hw h
  | f + 1, listed, a, w, hw, h => by
    rw [show f + 1 + g = (f + g) + 1 by omega]
    exact ⟨fun h0 => absurd h0 h.1, fun i hi => wpOp_of_qOp hw (fun a' w' hw' h' => ⟨.inr hw', wpAnyB_of_headQ hL f _ a' w' hw' h'⟩) (h.2 i hi).2⟩
theorem wpAnyB_of_seq {Q' : Exit → Act → World → Prop} {B : List Nat} : ∀ (l : List Oper) (ts : List Nat) (listed : Array Bool) (a : Act) (w : World), (∀ t ∈ ts, t ∈ B) → (ts.map fun k => ops[k]?) = l.map some →
    seqI md ops ts listed = true → wpList P ops Q' l a w → wpAnyB P md ops Q' C B l.length listed a w
  | [], [], _, _, _, _, _, hB, h => ⟨by simpa [seqI] using hB, h⟩
  | [], k :: ts, _, _, _, _, e, _, _ => by cases e
  | o :: l, [], _, _, _, _, e, _, _ => by cases e
  | o :: l, k :: ts, listed, a, w, hb, e, hB, h => by
    simp only [List.map_cons, List.cons.injEq] at e
    obtain ⟨h0, e'⟩ := e
    simp only [seqI, Bool.and_eq_true, decide_eq_true_eq] at hB
    refine ⟨fun h1 => (by rw [hB.1] at h1; cases h1), fun i hi => ?_⟩
    rw [hB.1] at hi
    have hik : i = k := by simpa using hi
    subst hik
    have hw : wpOp P ops Q' i (wpList P ops Q' l) a w := by unfold wpOp; simp only [h0]; exact h
    exact wpOp_mono (fun a' w' h' => ⟨.inl (hb i (by simp)), wpAnyB_of_seq l ts _ a' w' (fun t ht => hb t (List.mem_cons_of_mem _ ht)) e' hB.2 h'⟩) hw
/-- The build, whose address hangs on the world, then what writes. -/
def BuildThen (P : Program) (ops : Array Oper) (C : World → Prop) (Q : Exit → Act → World → Prop) (ob : Oper) (lt : List Oper) (a : Act) : Prop :=
  ob.guard = none ∧ ∀ w, C w → ∀ K : Act → World → Prop, Hid (∀ a' w', C w' → wpList P ops Q lt a' w' → K a' w') → ob.wp P a w K Q
theorem wpAnyB_tail {hs bs : List Nat} {t0 : Nat} {lh lt : List Oper} {ob : Oper} {listed : Array Bool} {a : Act} {w : World} {Q : Exit → Act → World → Prop} (hsel : Region.noSelect ops = true) (hB : sinkI md ops hs (t0 :: bs) = true) (hc : chainI md ops (t0 :: bs) = true) (inv : HInv md ops (t0 :: bs) listed)
    (hx : lexI md ops (t0 :: bs) hs listed = true) (eh : (hs.map fun k => ops[k]?) = lh.map some) (eb : ops[t0]? = some ob) (et : (bs.map fun k => ops[k]?) = lt.map some) (hC : C w)
    (h : wpQuiet P ops C (BuildThen P ops C Q ob lt) lh a) : wpAnyB P md ops Q C bs (lh.length + (lt.length + 1)) listed a w :=
  wpAnyB_of_headQ (L := fun listed' a' => seqI md ops (t0 :: bs) listed' = true ∧ BuildThen P ops C Q ob lt a') (fun listed' a' w' hw' hL => by
    obtain ⟨hsq, hg, hb⟩ := hL
    simp only [seqI, Bool.and_eq_true, decide_eq_true_eq] at hsq
    refine ⟨fun h1 => (by rw [hsq.1] at h1; cases h1), fun i hi => ?_⟩
    rw [hsq.1] at hi
    have hik : i = t0 := by simpa using hi
    subst hik
    unfold wpOp
    simp only [eb, Region.wanted, hg, if_true]
    exact .inl (hb w' hw' _ (fun a'' w'' hc'' h'' => ⟨.inr hc'', wpAnyB_of_seq lt bs _ a'' w'' (fun t ht => ht) et hsq.2 h''⟩))) _ _ _ _ hC
    (wpAnyT_lex hsel hB hc lh hs listed a eh (fun _ h => h) inv hx h)
theorem wpAnyB_first {fs bs : List Nat} {t0 i : Nat} {oi : Oper} {v : Value} {Q : Exit → Act → World → Prop} (hi : ops[i]? = some oi) (hsel : ∀ (j : Nat) (o : Oper) cs b, ops[j]? = some o → o.op ≠ .select cs b)
    (hQ : ∀ c a w, Q (.panic c) (a.put oi.dst v) w → Q (.panic c) a w) (hB : sinkI md ops fs bs = true) (hc : chainI md ops bs = true) (hin : i ∈ fs) :
    ∀ (fuel : Nat) (listed : Array Bool) (a : Act) (w : World), HInv md ops bs listed →
      (∀ j oj, ops[j]? = some oj → j ≠ i → listed.getD j true = false → (∀ e ∈ oj.after, Region.binds md e = true → e.on ≠ i) → oi.apart ops oj = true) →
      i ∈ Region.ready md ops listed → YieldsIf P ops C oi v a → C w →
      wpAnyB P md ops Q C bs fuel (listed.setIfInBounds i true) (a.put oi.dst v) w → wpAnyB P md ops Q C bs (fuel + 1) listed a w := by
  intro fuel
  induction fuel with
  | zero =>
    intro listed a w _ _ hr hy hS H
    refine ⟨fun h => (by rw [h] at hr; cases hr), fun j hj => ?_⟩
    by_cases hji : j = i
    · subst hji; exact hy.wpOp hi hS ⟨.inr hS, H⟩
    · have := ready_mono hj hji
      rw [H.1] at this
      cases this
  | succ fuel ih =>
    intro listed a w inv hfree hr hy hS H
    have hun := (mem_ready.1 hr).1
    have hlt : i < ops.size := (Array.getElem?_eq_some_iff.1 hi).1
    have hnt := tail_waitsI hB hc inv _ i rfl hin hlt hun
    refine ⟨fun h => (by rw [h] at hr; cases hr), fun j hj => ?_⟩
    by_cases hji : j = i
    · subst hji; exact hy.wpOp hi hS ⟨.inr hS, H⟩
    · have h1 := H.2 j (ready_mono hj hji)
      obtain ⟨hjun, oj, hoj, hall⟩ := mem_ready.1 hj
      have hjn : j ∉ bs := fun h => hnt j h hj
      have hnot : ∀ e ∈ oj.after, Region.binds md e = true → e.on ≠ i := fun e he hb heq => by
        have h1 := hall e he hb
        rw [heq, getD_both hun] at h1
        cases h1
      have h2 := wpOp_putIf hoj (hfree j oj hoj hji hjun hnot) (fun cs b => hsel i oi cs b hi) (fun cs b => hsel j oj cs b hoj) hQ hy h1
      have hfree' : ∀ k ok, ops[k]? = some ok → k ≠ i → (listed.setIfInBounds j true).getD k true = false →
          (∀ e ∈ ok.after, Region.binds md e = true → e.on ≠ i) → oi.apart ops ok = true := fun k ok hk hki hun hno => by
        refine hfree k ok hk hki ?_ hno
        by_cases hjk : j = k
        · subst hjk; exact hjun
        · rw [getD_set_ne true hjk] at hun; exact hun
      refine wpOp_mono (fun a' w' h3 => ?_) h2
      have hC' : C w' := h3.2.1.resolve_left hjn
      refine ⟨.inr hC', ih (listed.setIfInBounds j true) a' w' (inv.set hj hjn) hfree' (ready_mono hr (Ne.symm hji)) h3.1 hC' ?_⟩
      rw [Array.setIfInBounds_comm _ _ hji]
      exact h3.2.2
/-- What yields in every world of the class, one behind the other. -/
def wpFlo (P : Program) (ops : Array Oper) (C : World → Prop) (K : Act → Prop) : List Oper → Act → Prop
  | [], a => K a
  | o :: r, a => ∃ v, YieldsIf P ops C o v a ∧ wpFlo P ops C K r (a.put o.dst v)
theorem wpFlo_nil {K : Act → Prop} {a : Act} (h : K a) : wpFlo P ops C K [] a := h
theorem wpFlo_step {K : Act → Prop} {a : Act} {o : Oper} {r : List Oper} (v : Value) (hg : Region.wanted o (yielded ops a.tmps) = true) (hv : ∀ w, C w → (execOp a.eval o).run P w = .ok (.value v) w) (h : wpFlo P ops C K r (a.put o.dst v)) : wpFlo P ops C K (o :: r) a := ⟨v, .inl ⟨hg, hv⟩, h⟩
def floI (md : Region.Mode) (ops : Array Oper) (hs ts : List Nat) : List Nat → Array Bool → Bool
  | [], listed => lexI md ops ts hs listed
  | u :: us, listed => (Region.ready md ops listed).contains u && Region.free md ops listed u && !ts.contains u && floI md ops hs ts us (listed.setIfInBounds u true)
theorem wpAnyB_flo {fs hs bs : List Nat} {t0 : Nat} {lh lt : List Oper} {ob : Oper} {Q : Exit → Act → World → Prop} (hsel : Region.noSelect ops = true) (hB : sinkI md ops hs (t0 :: bs) = true) (hc : chainI md ops (t0 :: bs) = true) (hF : sinkI md ops fs bs = true) (hcb : chainI md ops bs = true)
    (eh : (hs.map fun k => ops[k]?) = lh.map some) (eb : ops[t0]? = some ob) (et : (bs.map fun k => ops[k]?) = lt.map some) (hQ : ∀ c (a : Act) d v w, Q (.panic c) (a.put d v) w → Q (.panic c) a w) :
    ∀ (lf : List Oper) (us : List Nat) (listed : Array Bool) (a : Act) (w : World), (∀ u ∈ us, u ∈ fs) → (us.map fun k => ops[k]?) = lf.map some → HInv md ops (t0 :: bs) listed → floI md ops hs (t0 :: bs) us listed = true → C w →
      wpFlo P ops C (fun a' => wpQuiet P ops C (BuildThen P ops C Q ob lt) lh a') lf a → wpAnyB P md ops Q C bs (lf.length + (lh.length + (lt.length + 1))) listed a w
  | [], [], listed, a, w, _, _, inv, hx, hC, h => by
    rw [List.length_nil, Nat.zero_add]
    exact wpAnyB_tail hsel hB hc inv hx eh eb et hC h
  | [], k :: us, _, _, _, _, e, _, _, _, _ => by cases e
  | o :: lu, [], _, _, _, _, e, _, _, _, _ => by cases e
  | o :: lu, u :: us, listed, a, w, hu, e, inv, hx, hC, h => by
    simp only [List.map_cons, List.cons.injEq] at e
    obtain ⟨h0, e'⟩ := e
    simp only [floI, Bool.and_eq_true, Bool.not_eq_true'] at hx
    obtain ⟨⟨⟨hr, hf⟩, hn⟩, hx'⟩ := hx
    have hr' : u ∈ Region.ready md ops listed := by simpa using hr
    have hnt : u ∉ t0 :: bs := fun ht => by rw [List.contains_iff_mem.2 ht] at hn; cases hn
    obtain ⟨v, hy, hK⟩ := h
    rw [List.length_cons, show lu.length + 1 + (lh.length + (lt.length + 1)) = (lu.length + (lh.length + (lt.length + 1))) + 1 by omega]
    exact wpAnyB_first (t0 := t0) h0 (Region.noSelect_spec hsel) (fun c a w h => hQ c a _ _ w h) hF hcb (hu u (by simp)) _ listed a w ⟨inv.size, inv.closed, fun t ht => inv.tail t (List.mem_cons_of_mem _ ht)⟩ (Region.free_spec h0 hf) hr' hy hC
      (wpAnyB_flo hsel hB hc hF hcb eh eb et hQ lu us _ _ w (fun x hx => hu x (List.mem_cons_of_mem _ hx)) e' (inv.set hr' hnt) hx' hC hK)
/-- What yields in whatever world, one behind the other. -/
def wpUni (P : Program) (ops : Array Oper) (K : Act → Prop) : List Oper → Act → Prop
  | [], a => K a
  | o :: r, a => ∃ v, Yields P ops o v a ∧ wpUni P ops K r (a.put o.dst v)
theorem wpUni_nil {K : Act → Prop} {a : Act} (h : K a) : wpUni P ops K [] a := h
theorem wpUni_step {K : Act → Prop} {a : Act} {o : Oper} {r : List Oper} (v : Value) (hg : Region.wanted o (yielded ops a.tmps) = true) (hv : ∀ w, (execOp a.eval o).run P w = .ok (.value v) w) (h : wpUni P ops K r (a.put o.dst v)) : wpUni P ops K (o :: r) a := ⟨v, .inl ⟨hg, hv⟩, h⟩
def uniI (md : Region.Mode) (ops : Array Oper) (fs hs ts : List Nat) : List Nat → Array Bool → Bool
  | [], listed => floI md ops hs ts fs listed
  | u :: us, listed => (Region.ready md ops listed).contains u && Region.free md ops listed u && !ts.contains u && uniI md ops fs hs ts us (listed.setIfInBounds u true)
theorem wpAny_uni {fs hs bs : List Nat} {t0 : Nat} {lf lh lt : List Oper} {ob : Oper} {Q : Exit → Act → World → Prop} (hsel : Region.noSelect ops = true) (hB : sinkI md ops hs (t0 :: bs) = true) (hc : chainI md ops (t0 :: bs) = true) (hF : sinkI md ops fs bs = true) (hcb : chainI md ops bs = true)
    (ef : (fs.map fun k => ops[k]?) = lf.map some) (eh : (hs.map fun k => ops[k]?) = lh.map some) (eb : ops[t0]? = some ob) (et : (bs.map fun k => ops[k]?) = lt.map some) (hQ : ∀ c (a : Act) d v w, Q (.panic c) (a.put d v) w → Q (.panic c) a w) :
    ∀ (lu : List Oper) (us : List Nat) (listed : Array Bool) (a : Act) (w : World), (us.map fun k => ops[k]?) = lu.map some → HInv md ops (t0 :: bs) listed → uniI md ops fs hs (t0 :: bs) us listed = true → C w →
      wpUni P ops (fun a' => wpFlo P ops C (fun a'' => wpQuiet P ops C (BuildThen P ops C Q ob lt) lh a'') lf a') lu a → wpAny P md ops Q (lu.length + (lf.length + (lh.length + (lt.length + 1)))) listed a w
  | [], [], listed, a, w, _, inv, hx, hC, h => by
    rw [List.length_nil, Nat.zero_add]
    exact wpAny_of_B _ _ _ _ (wpAnyB_flo hsel hB hc hF hcb eh eb et hQ lf fs listed a w (fun _ h => h) ef inv hx hC h)
  | [], k :: us, _, _, _, e, _, _, _, _ => by cases e
  | o :: lu, [], _, _, _, e, _, _, _, _ => by cases e
  | o :: lu, u :: us, listed, a, w, e, inv, hx, hC, h => by
    simp only [List.map_cons, List.cons.injEq] at e
    obtain ⟨h0, e'⟩ := e
    simp only [uniI, Bool.and_eq_true, Bool.not_eq_true'] at hx
    obtain ⟨⟨⟨hr, hf⟩, hn⟩, hx'⟩ := hx
    have hr' : u ∈ Region.ready md ops listed := by simpa using hr
    have hnt : u ∉ t0 :: bs := fun ht => by rw [List.contains_iff_mem.2 ht] at hn; cases hn
    obtain ⟨v, hy, hK⟩ := h
    rw [List.length_cons, show lu.length + 1 + (lf.length + (lh.length + (lt.length + 1))) = (lu.length + (lf.length + (lh.length + (lt.length + 1)))) + 1 by omega]
    exact wpAny_first h0 (Region.noSelect_spec hsel) (fun c a w h => hQ c a _ _ w h) _ listed a w (Region.free_spec h0 hf) hr' hy
      (wpAny_uni hsel hB hc hF hcb ef eh eb et hQ lu us _ _ w e' (inv.set hr' hnt) hx' hC hK)
def appB (md : Region.Mode) (ops : Array Oper) (m : List Pt) : Bool :=
  match ixB m 0 with
  | [t0] => Region.noSelect ops && sinkI md ops (ixH m 0) (t0 :: ixT m 0) && chainI md ops (t0 :: ixT m 0) && sinkI md ops (ixF m 0) (ixT m 0) && chainI md ops (ixT m 0) && (t0 :: ixT m 0).all (fun t => decide (t < ops.size)) && uniI md ops (ixF m 0) (ixH m 0) (t0 :: ixT m 0) (ixU m 0) (Array.replicate ops.size false)
  | _ => false
theorem wp_region_app {id : Nat} {Q : Exit → Act → World → Prop} {a : Act} {w : World} {l : List Oper} {ob : Oper} (m : List Pt) (hm : P.follows .mixedOrders = true) (hB : appB .any l.toArray m = true)
    (eu : ((ixU m 0).map fun k => l.toArray[k]?) = (pkU m l).map some) (ef : ((ixF m 0).map fun k => l.toArray[k]?) = (pkF m l).map some) (eh : ((ixH m 0).map fun k => l.toArray[k]?) = (pkH m l).map some) (eb : pkB m l = [ob]) (eb' : ((ixB m 0).map fun k => l.toArray[k]?) = (pkB m l).map some) (et : ((ixT m 0).map fun k => l.toArray[k]?) = (pkT m l).map some)
    (hn : (pkU m l).length + ((pkF m l).length + ((pkH m l).length + ((pkT m l).length + 1))) = l.toArray.size) (hQ : ∀ c (a : Act) d v w, Q (.panic c) (a.put d v) w → Q (.panic c) a w)
    (h : wpUni P l.toArray (fun a1 => wpFlo P l.toArray (fun w' => ∃ t, w' = gr w t) (fun a2 => wpQuiet P l.toArray (fun w' => ∃ t, w' = gr w t) (BuildThen P l.toArray (fun w' => ∃ t, w' = gr w t) Q ob (pkT m l)) (pkH m l) a2) (pkF m l) a1) (pkU m l) a) : (Code.region id l.toArray true).wp P Q a w := by
  unfold appB at hB
  split at hB
  · rename_i t0 ht0
    simp only [Bool.and_eq_true] at hB
    obtain ⟨⟨⟨⟨⟨⟨hsel, hs⟩, hc⟩, hF⟩, hcb⟩, hlt⟩, hx⟩ := hB
    have hob : l.toArray[t0]? = some ob := by
      rw [ht0, eb] at eb'
      simpa using eb'
    have inv0 : HInv .any l.toArray (t0 :: ixT m 0) (Array.replicate l.toArray.size false) :=
      ⟨by simp, fun j oj _ hl => (by rw [getD_replicate_false] at hl; cases hl), fun t ht => getD_in (by have := List.all_eq_true.1 hlt t ht; simpa using this) (getD_replicate_false _ _)⟩
    have := wpAny_uni (P := P) (C := fun w' => ∃ t, w' = gr w t) hsel hs hc hF hcb ef eh hob et hQ (pkU m l) (ixU m 0) _ a { w with drawn := w.drawn + 1 } eu inv0 hx ⟨gt #[] (w.drawn + 1), by simp [gr, gt_more, gt_count]⟩ h
    rw [hn] at this
    exact wp_region_any hm this
  · cases hB
end
end Go.Proofs.YtjdbedlgkngdkaaGreatDoor
namespace Go.Proofs.YtjdbedlgkngdkaaGreatDoor
open Go.RowKit Go.Deep
set_option linter.unusedVariables false
set_option linter.unusedSimpArgs false
set_option maxRecDepth 10000

theorem ownsE_turn {w w' : World} {base : Nat} {v : Value} {L : List Edg} (h : OwnsEdge w base v L) (hb : ∀ j, v.ownBlock = some j → w'.heap[j]? = w.heap[j]?) : OwnsEdge w' base v L := by
  refine ⟨h.1, ?_⟩
  rcases h.2 with h2 | ⟨g, cap, cur, e, h3, h4, h5⟩
  · exact .inl h2
  · exact .inr ⟨g, cap, cur, e, h3, by rw [hb g (by rw [e]; rfl)]; exact h4, h5⟩
theorem bornE {W w : World} {base : Nat} {ea : Option Addr} {ec : Nat} {L : List Edg} (h : OwnsEdge w base (.slice ea L.length ec) L) (hb : W.heap.size ≤ base) : Born W w [(ea, egs L)] := by
  rcases h.2 with ⟨e, hz⟩ | ⟨g, cap, cur, e, h3⟩
  · have h0 : L = [] := List.length_eq_zero_iff.1 hz
    subst h0
    injection e with e1 e2 e3
    subst e1
    exact ⟨⟨fun s hs => by rw [List.mem_singleton.1 hs]; exact Cells.nil _ _, by simp [fp, fpS, egs], fun b hb => absurd hb (by simp [fp, fpS, egs])⟩, fun b hb => absurd hb (by simp [fp, fpS, egs])⟩
  · injection e with e1 e2 e3
    subst e1 e3
    refine ⟨⟨?_, ?_, ?_⟩, ?_⟩
    · intro s hs
      rw [List.mem_singleton.1 hs]
      refine Or.inr ⟨g, 0, rfl, fun j hj => ?_⟩
      have hj' : j < (egs L).length := hj
      have hl := egs_len L
      rw [Nat.zero_add, h.cellAt j (by omega), List.getElem?_eq_getElem hj']
    · by_cases h0 : egs L = [] <;> simp [fp, fpS, h0]
    · intro b hb'
      by_cases h0 : egs L = []
      · simp [fp, fpS, h0] at hb'
      · simp [fp, fpS, h0] at hb'
        subst hb'
        exact fun o => h.frozenAt o
    · intro b hb'
      by_cases h0 : egs L = []
      · simp [fp, fpS, h0] at hb'
      · simp [fp, fpS, h0] at hb'
        subst hb'
        have := (h.lt b rfl).1
        omega
/-- While a graph is laid: the variable at G has the edges so far; the result's block is R. -/
structure PlS (w wr : World) (R G : Nat) (T : TypeId) (v0 : Value) (ea : Option Addr) (ec : Nat) (E : List Edg) : Prop where
  keep : Keeps w wr
  gr : wr.rowIs G T 2 (row2 v0 (.slice ea E.length ec))
  rs : ∃ f, wr.rowIs R 36 2 f
  ow : OwnsEdge wr (G + 1) (.slice ea E.length ec) E
  lo : w.heap.size ≤ R
  lt : R < G
theorem PlS.kept {w wr w' : World} {R G : Nat} {T : TypeId} {v0 : Value} {ea : Option Addr} {ec : Nat} {E : List Edg} (h : PlS w wr R G T v0 ea ec E) (hk : Keeps wr w') : PlS w w' R G T v0 ea ec E := by
  obtain ⟨f, hf⟩ := h.rs
  exact ⟨h.keep.trans hk, hk.rowK h.gr, ⟨f, hk.rowK hf⟩, ownsE_turn h.ow (fun j hj => hk.block j (h.ow.lt j hj).2), h.lo, h.lt⟩
theorem PlS.cell1 {w wr : World} {R G : Nat} {T : TypeId} {v0 : Value} {ea : Option Addr} {ec : Nat} {E : List Edg} (h : PlS w wr R G T v0 ea ec E) : wr.cell? ⟨G, 1, none⟩ = some (.slice ea E.length ec) := h.gr.cell (i := 1) (by decide)
theorem PlS.cell0 {w wr : World} {R G : Nat} {T : TypeId} {v0 : Value} {ea : Option Addr} {ec : Nat} {E : List Edg} (h : PlS w wr R G T v0 ea ec E) : wr.cell? ⟨G, 0, none⟩ = some v0 := h.gr.cell (i := 0) (by decide)
/-- The list has grown by one edge, and its variable is written. -/
theorem PlS.grow {w wr W5 w' : World} {R G : Nat} {T : TypeId} {v0 : Value} {ea : Option Addr} {ec : Nat} {E : List Edg} {x : Edg} {v' : Value} (h : PlS w wr R G T v0 ea ec E) (hk : Keeps wr W5) (ho : OwnsEdge w' (G + 1) v' (E ++ [x])) (hg : W5.grownBy w' (Value.ownBlock (.slice ea E.length ec))) :
    ∃ ea' ec', v' = .slice ea' (E.length + 1) ec' ∧ (ea' = none → ec' = 0) ∧ PlS w (w'.setCell ⟨G, 1, none⟩ (.slice ea' (E.length + 1) ec')) R G T v0 ea' ec' (E ++ [x]) ∧ w'.cell? ⟨G, 1, none⟩ = some (.slice ea E.length ec) ∧ w'.frozen? ⟨G, 1, none⟩ = false ∧ G < w'.heap.size := by
  have h5 := h.kept hk
  have h1 := h.lt
  have h2 := h.lo
  have hgl : ∀ j, Value.ownBlock (.slice ea E.length ec) = some j → G + 1 ≤ j := fun j hj => (h5.ow.lt j hj).1
  have hgr : w'.rowIs G T 2 (row2 v0 (.slice ea E.length ec)) := h5.gr.of_block (hg.block G h5.gr.lt (fun e => by have := hgl G e.symm; omega))
  obtain ⟨ho1, ho2⟩ := ho
  rcases ho2 with ⟨_, hz⟩ | ⟨g', cap', cur, e, ho3⟩
  · simp at hz
  subst e
  have hl1 : (E ++ [x]).length = E.length + 1 := by simp
  refine ⟨some ⟨g', 0, none⟩, cap', by rw [hl1], fun h => (nomatch h), ?_, hgr.cell (i := 1) (by decide), hgr.frozen 1, hgr.lt⟩
  rw [← hl1]
  have ht : Turn [G] w' (w'.setCell ⟨G, 1, none⟩ (.slice (some ⟨g', 0, none⟩) (E ++ [x]).length cap')) := Turn.set (by simp) _
  obtain ⟨f, hf⟩ := h5.rs
  have hf' := hf.of_block (hg.block _ hf.lt (fun e => by have := hgl _ e.symm; omega))
  have hown : OwnsEdge w' (G + 1) (.slice (some ⟨g', 0, none⟩) (E ++ [x]).length cap') (E ++ [x]) := ⟨ho1, .inr ⟨g', cap', cur, rfl, ho3⟩⟩
  have hkw : Keeps w w' := ⟨hg.os.trans h5.keep.os, hg.tape.trans h5.keep.tape, hg.output.trans h5.keep.output, Nat.le_trans h5.keep.size hg.size, fun k hk => (hg.block k (Nat.lt_of_lt_of_le hk h5.keep.size) (fun e => by have := hgl k e.symm; omega)).trans (h5.keep.block k hk)⟩
  refine ⟨ht.keeps hkw (fun b hb => by rw [List.mem_singleton.1 hb]; omega), ?_, ⟨f, hf'.of_block (ht.block _ hf'.lt (by simp; omega))⟩, ownsE_turn hown (fun j hj => ht.block j (hown.lt j hj).2 (by have := (hown.lt j hj).1; simp; omega)), h.lo, h.lt⟩
  refine (hgr.set 1 (.slice (some ⟨g', 0, none⟩) (E ++ [x]).length cap')).congr (fun i hi => ?_)
  rcases (show i = 0 ∨ i = 1 by omega) with rfl | rfl <;> rfl
theorem mem_one (W : World) (y : Edg) : Cells (W.alloc (.cells #[.int .i64 y.fr, .int .i64 y.to, .int .i64 y.cp, .int .i64 y.co] 40)) (some ⟨W.heap.size, 0, none⟩) (egs [y]) := Or.inr ⟨W.heap.size, 0, rfl, fun j hj => by
  have hj' : j < 4 := by have h4 := egs_len [y]; rw [h4] at hj; simpa using hj
  rcases (show j = 0 ∨ j = 1 ∨ j = 2 ∨ j = 3 by omega) with rfl | rfl | rfl | rfl <;> simp [egs, Edg.cells]⟩
theorem plan_no {B : Bk} {lo hi gain : Int} {L : List Prc} (h : planB B lo hi gain L = false) : planN B lo hi gain L = 0 ∧ planV B lo hi gain L = [] ∧ planB B lo hi gain L = false := ⟨by simp [planN, h], by simp [planV, h], h⟩
theorem plan_yes {B : Bk} {lo hi gain : Int} {L : List Prc} (h : planB B lo hi gain L = true) : planN B lo hi gain L = (B.C.length : Int) + 1 ∧ planV B lo hi gain L = planE B.C lo hi gain L := ⟨by simp [planN, h], by simp [planV, h]⟩
theorem book_lo {B : Bk} (h : bookB B = true) : ∀ k (hk : k < B.C.length), 0 ≤ B.C[k].lo ∧ B.C[k].lo ≤ 1125899906842624 := by
  intro k hk
  simp only [bookB, Bool.and_eq_true, List.all_eq_true] at h
  have := h.2 _ (List.getElem_mem hk)
  simp only [chanB, fieldsB, Bool.and_eq_true] at this
  exact amtB_true this.1.1.1.1.1
theorem atI_bound (C : List Chn) (ch : Int) : -1 ≤ atI C ch ∧ atI C ch ≤ (C.length : Int) := by
  cases h : atC C ch with
  | none => rw [atI_none h]; omega
  | some k =>
    obtain ⟨hk, _⟩ := atC_lt h
    rw [atI_some h]; omega
theorem capV_eq {n : Int} (h : 0 ≤ n) : max 0 (min n 1000000000) = capV n := by unfold capV; split <;> omega
theorem cap_spec (n : Int) (w : World) (h : 0 ≤ n) : Calls Tryz.prog 42 #[.int .i64 n] w fun e w' => e = .returned (.int .i64 (capV n)) ∧ Keeps w w' := by
  have HC : Hid (∀ w, Calls Tryz.prog 78 #[.int .i64 n, .int .i64 0, .int .i64 1000000000] w fun e w' => e = .returned (.int .i64 (max 0 (min n 1000000000))) ∧ Keeps w w') := by
    intro w
    clear h
    go_enter Tryz.func78, Tryz.ntmps78
    go_wp2
    all_goals go_ret
    all_goals exact ⟨ret_i (by omega), Keeps.refl _⟩
  have HV := hide (capV_eq h)
  clear h
  generalize max 0 (min n 1000000000) = v at *
  go_enter Tryz.func42, Tryz.ntmps42
  go_wp2_with fail
  refine (HC.out _).mono ?_
  rintro e w1 ⟨rfl, hk⟩
  go_wp2_with fail
  go_ret
  exact ⟨ret_i HV.out, hk⟩
end Go.Proofs.YtjdbedlgkngdkaaGreatDoor
namespace Go.Proofs.YtjdbedlgkngdkaaGreatDoor
open Go.RowKit Go.Deep
set_option linter.unusedVariables false
set_option linter.unusedSimpArgs false
set_option maxRecDepth 10000

/-- Is it a right edge? -/
def edgeB (N : Int) (x : Edg) : Bool := decide (0 ≤ x.fr) && decide (x.fr < N) && decide (0 ≤ x.to) && decide (x.to < N) && decide (x.fr ≠ x.to) && decide (0 ≤ x.cp) && decide (x.cp ≤ 1000000000) && decide (-1000000 ≤ x.co) && decide (x.co ≤ 1000000)
theorem edgeB_true {N : Int} {x : Edg} (h : edgeB N x = true) : 0 ≤ x.fr ∧ x.fr < N ∧ 0 ≤ x.to ∧ x.to < N ∧ x.fr ≠ x.to ∧ 0 ≤ x.cp ∧ x.cp ≤ 1000000000 ∧ -1000000 ≤ x.co ∧ x.co ≤ 1000000 := by
  simp [edgeB] at h; omega
theorem edgeB_yes {N : Int} {x : Edg} (h1 : 0 ≤ x.fr) (h2 : x.fr < N) (h3 : 0 ≤ x.to) (h4 : x.to < N) (h5 : x.fr ≠ x.to) (h6 : 0 ≤ x.cp) (h7 : x.cp ≤ 1000000000) (h8 : -1000000 ≤ x.co) (h9 : x.co ≤ 1000000) : edgeB N x = true := by
  simp [edgeB]; omega
theorem edgeB_no {N : Int} {x : Edg} (h : x.fr < 0 ∨ N ≤ x.fr ∨ x.to < 0 ∨ N ≤ x.to ∨ x.fr = x.to ∨ x.cp < 0 ∨ 1000000000 < x.cp ∨ x.co < -1000000 ∨ 1000000 < x.co) : edgeB N x = false := by
  cases hb : edgeB N x
  · rfl
  · have := edgeB_true hb; omega
def graphB (N : Int) (E : List Edg) : Bool := decide (1 ≤ N) && decide (N ≤ 24) && decide (E.length ≤ 60) && E.all (edgeB N)
theorem graphB_true {N : Int} {E : List Edg} (h : graphB N E = true) : 1 ≤ N ∧ N ≤ 24 ∧ E.length ≤ 60 ∧ ∀ j (hj : j < E.length), edgeB N E[j] = true := by
  simp only [graphB, Bool.and_eq_true, decide_eq_true_eq, List.all_eq_true] at h
  exact ⟨h.1.1.1, h.1.1.2, h.1.2, fun j hj => h.2 _ (List.getElem_mem hj)⟩
theorem graphB_yes {N : Int} {E : List Edg} (h1 : 1 ≤ N) (h2 : N ≤ 24) (h3 : E.length ≤ 60) (h4 : ∀ j (hj : j < E.length), edgeB N E[j] = true) : graphB N E = true := by
  simp only [graphB, Bool.and_eq_true, decide_eq_true_eq, List.all_eq_true]
  refine ⟨⟨⟨h1, h2⟩, h3⟩, fun x hx => ?_⟩
  obtain ⟨j, hj, rfl⟩ := List.getElem_of_mem hx
  exact h4 j hj
theorem graphB_no {N : Int} {E : List Edg} (h : N < 1 ∨ 24 < N ∨ 60 < E.length ∨ ∃ j, ∃ hj : j < E.length, edgeB N E[j] = false) : graphB N E = false := by
  cases hb : graphB N E
  · rfl
  · obtain ⟨a, b, c, d⟩ := graphB_true hb
    rcases h with h | h | h | ⟨j, hj, h⟩
    · omega
    · omega
    · omega
    · rw [d j hj] at h; cases h
theorem graph_cases (N : Int) (E : List Edg) : (N < 1 ∧ graphB N E = false) ∨ (1 ≤ N ∧ 24 < N ∧ graphB N E = false) ∨ (1 ≤ N ∧ N ≤ 24 ∧ 60 < E.length ∧ graphB N E = false) ∨ (1 ≤ N ∧ N ≤ 24 ∧ E.length ≤ 60) := by
  rcases Int.lt_or_le N 1 with h1 | h1
  · exact Or.inl ⟨h1, graphB_no (Or.inl h1)⟩
  rcases Int.lt_or_le 24 N with h2 | h2
  · exact Or.inr (Or.inl ⟨h1, h2, graphB_no (Or.inr (Or.inl h2))⟩)
  rcases Nat.lt_or_ge 60 E.length with h3 | h3
  · exact Or.inr (Or.inr (Or.inl ⟨h1, h2, h3, graphB_no (Or.inr (Or.inr (Or.inl h3)))⟩))
  · exact Or.inr (Or.inr (Or.inr ⟨h1, h2, h3⟩))

/-- What comes into node v less what goes out of it, over the first k edges. -/
def bal (E : List Edg) (f : List Int) : Nat → Nat → Int
  | 0, _ => 0
  | k + 1, v => bal E f k v - (if (E.getD k ⟨0, 0, 0, 0⟩).fr = (v : Int) then f.getD k 0 else 0) + (if (E.getD k ⟨0, 0, 0, 0⟩).to = (v : Int) then f.getD k 0 else 0)
theorem bal_step {E : List Edg} {f : List Int} {k : Nat} (hk : k < E.length) (hf : k < f.length) (v : Nat) : bal E f (k + 1) v = bal E f k v - (if E[k].fr = (v : Int) then f[k] else 0) + (if E[k].to = (v : Int) then f[k] else 0) := by
  simp [bal, List.getD_eq_getElem?_getD, hk, hf]
/-- Each number is within its edge. -/
def inCap (E : List Edg) (f : List Int) : Prop := ∀ j (hj : j < E.length) (hf : j < f.length), 0 ≤ f[j] ∧ f[j] ≤ E[j].cp
noncomputable def flowB (N : Int) (E : List Edg) (f : List Int) : Bool := graphB N E && decide (f.length = E.length) && (@decide (inCap E f ∧ ∀ v : Nat, (v : Int) < N → bal E f E.length v = 0) (Classical.propDecidable _))
theorem flowB_true {N : Int} {E : List Edg} {f : List Int} (h : flowB N E f = true) : graphB N E = true ∧ f.length = E.length ∧ inCap E f ∧ ∀ v : Nat, (v : Int) < N → bal E f E.length v = 0 := by
  simp only [flowB, Bool.and_eq_true, decide_eq_true_eq] at h
  exact ⟨h.1.1, h.1.2, h.2.1, h.2.2⟩
theorem flowB_yes {N : Int} {E : List Edg} {f : List Int} (h1 : graphB N E = true) (h2 : f.length = E.length) (h3 : inCap E f) (h4 : ∀ v : Nat, (v : Int) < N → bal E f E.length v = 0) : flowB N E f = true := by
  simp only [flowB, Bool.and_eq_true, decide_eq_true_eq]
  exact ⟨⟨h1, h2⟩, h3, h4⟩
theorem flowB_no {N : Int} {E : List Edg} {f : List Int} (h : graphB N E = false ∨ f.length ≠ E.length ∨ ¬ inCap E f ∨ ∃ v : Nat, (v : Int) < N ∧ bal E f E.length v ≠ 0) : flowB N E f = false := by
  cases hb : flowB N E f
  · rfl
  · obtain ⟨a, b, c, d⟩ := flowB_true hb
    rcases h with h | h | h | ⟨v, hv, h⟩
    · rw [a] at h; cases h
    · exact absurd b h
    · exact absurd c h
    · exact absurd (d v hv) h
theorem bal_bound {E : List Edg} {f : List Int} {B : Int} (hB : 0 ≤ B) (k : Nat) (hf : ∀ j (hj : j < f.length), j < k → 0 ≤ f[j] ∧ f[j] ≤ B) (v : Nat) : -(B * k) ≤ bal E f k v ∧ bal E f k v ≤ B * k := by
  induction k with
  | zero => simp [bal]
  | succ k ih =>
    have ih' := ih (fun j hj h => hf j hj (by omega))
    have hx : 0 ≤ f.getD k 0 ∧ f.getD k 0 ≤ B := by
      rw [List.getD_eq_getElem?_getD]
      by_cases h : k < f.length
      · rw [List.getElem?_eq_getElem h]; exact hf k h (by omega)
      · rw [List.getElem?_eq_none (by omega)]; simp; exact hB
    have e : B * ((k + 1 : Nat) : Int) = B * k + B := by rw [Int.natCast_add, Int.mul_add]; simp
    rw [e, bal]
    generalize f.getD k 0 = x at *
    split <;> split <;> omega
/-- The cost over the first k edges. -/
def costTo (E : List Edg) (f : List Int) : Nat → Int
  | 0 => 0
  | k + 1 => costTo E f k + (E.getD k ⟨0, 0, 0, 0⟩).co * f.getD k 0
noncomputable def costV (N : Int) (E : List Edg) (f : List Int) : Int := if flowB N E f = true then costTo E f E.length else 0
end Go.Proofs.YtjdbedlgkngdkaaGreatDoor
namespace Go.Proofs.YtjdbedlgkngdkaaGreatDoor
open Go.RowKit Go.Deep
set_option linter.unusedVariables false
set_option linter.unusedSimpArgs false
set_option maxRecDepth 10000

/-- A rest arc: its name, its ends, its rest, its cost. -/
structure Arc where
  nm : Int
  fr : Int
  to : Int
  rs : Int
  co : Int
def arcA (k : Nat) (e : Edg) (x : Int) : List Arc := if x < e.cp then [⟨2 * (k : Int), e.fr, e.to, e.cp - x, e.co⟩] else []
def arcZ (k : Nat) (e : Edg) (x : Int) : List Arc := if 0 < x then [⟨2 * (k : Int) + 1, e.to, e.fr, x, -e.co⟩] else []
/-- The rest arcs of the first k edges. -/
def arcsTo (E : List Edg) (f : List Int) : Nat → List Arc
  | 0 => []
  | k + 1 => arcsTo E f k ++ arcA k (E.getD k ⟨0, 0, 0, 0⟩) (f.getD k 0) ++ arcZ k (E.getD k ⟨0, 0, 0, 0⟩) (f.getD k 0)
def arcs (E : List Edg) (f : List Int) : List Arc := arcsTo E f E.length
theorem arcsTo_step {E : List Edg} {f : List Int} {k : Nat} (hk : k < E.length) (hf : k < f.length) : arcsTo E f (k + 1) = arcsTo E f k ++ arcA k E[k] f[k] ++ arcZ k E[k] f[k] := by
  simp [arcsTo, List.getD_eq_getElem?_getD, hk, hf]
theorem arcA_len (k : Nat) (e : Edg) (x : Int) : (arcA k e x).length ≤ 1 := by unfold arcA; split <;> simp
theorem arcZ_len (k : Nat) (e : Edg) (x : Int) : (arcZ k e x).length ≤ 1 := by unfold arcZ; split <;> simp
theorem arcsTo_len (E : List Edg) (f : List Int) (k : Nat) : (arcsTo E f k).length ≤ 2 * k := by
  induction k with
  | zero => simp [arcsTo]
  | succ k ih =>
    have h1 := arcA_len k (E.getD k ⟨0, 0, 0, 0⟩) (f.getD k 0)
    have h2 := arcZ_len k (E.getD k ⟨0, 0, 0, 0⟩) (f.getD k 0)
    simp only [arcsTo, List.length_append]
    omega
/-- What a right arc is: one of an edge's two. -/
def ArcOf (E : List Edg) (f : List Int) (a : Arc) : Prop := ∃ k, ∃ hk : k < E.length, ∃ hf : k < f.length,
  (f[k] < E[k].cp ∧ a = ⟨2 * (k : Int), E[k].fr, E[k].to, E[k].cp - f[k], E[k].co⟩) ∨ (0 < f[k] ∧ a = ⟨2 * (k : Int) + 1, E[k].to, E[k].fr, f[k], -E[k].co⟩)
theorem arcsTo_mem {E : List Edg} {f : List Int} {k : Nat} (hE : k ≤ E.length) (hF : k ≤ f.length) {a : Arc} (h : a ∈ arcsTo E f k) : ∃ i, i < k ∧ ∃ hi : i < E.length, ∃ hf : i < f.length,
    (f[i] < E[i].cp ∧ a = ⟨2 * (i : Int), E[i].fr, E[i].to, E[i].cp - f[i], E[i].co⟩) ∨ (0 < f[i] ∧ a = ⟨2 * (i : Int) + 1, E[i].to, E[i].fr, f[i], -E[i].co⟩) := by
  induction k with
  | zero => simp [arcsTo] at h
  | succ k ih =>
    rw [arcsTo_step (by omega) (by omega)] at h
    rcases List.mem_append.1 h with h | h
    · rcases List.mem_append.1 h with h | h
      · obtain ⟨i, hi, h⟩ := ih (by omega) (by omega) h
        exact ⟨i, by omega, h⟩
      · unfold arcA at h
        split at h
        · next hc => exact ⟨k, by omega, by omega, by omega, Or.inl ⟨hc, List.mem_singleton.1 h⟩⟩
        · simp at h
    · unfold arcZ at h
      split at h
      · next hc => exact ⟨k, by omega, by omega, by omega, Or.inr ⟨hc, List.mem_singleton.1 h⟩⟩
      · simp at h
theorem arcs_of {E : List Edg} {f : List Int} (hl : f.length = E.length) {a : Arc} (h : a ∈ arcs E f) : ArcOf E f a := by
  obtain ⟨i, _, hi, hf, h⟩ := arcsTo_mem (Nat.le_refl _) (by omega) h
  exact ⟨i, hi, hf, h⟩
theorem arcsTo_sub {E : List Edg} {f : List Int} {a : Arc} {k m : Nat} (hkm : k ≤ m) (h : a ∈ arcsTo E f k) : a ∈ arcsTo E f m := by
  induction m with
  | zero => rw [show k = 0 by omega] at h; exact h
  | succ m ih =>
    by_cases e : k = m + 1
    · rw [← e]; exact h
    · simp only [arcsTo]
      exact List.mem_append_left _ (List.mem_append_left _ (ih (by omega)))
theorem of_arcs {E : List Edg} {f : List Int} {a : Arc} (h : ArcOf E f a) : a ∈ arcs E f := by
  obtain ⟨k, hk, hf, h⟩ := h
  refine arcsTo_sub (k := k + 1) (by omega) ?_
  rw [arcsTo_step hk hf]
  rcases h with ⟨hc, rfl⟩ | ⟨hc, rfl⟩
  · exact List.mem_append_left _ (List.mem_append_right _ (by simp [arcA, hc]))
  · exact List.mem_append_right _ (by simp [arcZ, hc])
/-- A right arc of a right flow: its numbers. -/
theorem arc_ok {N : Int} {E : List Edg} {f : List Int} (h : flowB N E f = true) {a : Arc} (ha : a ∈ arcs E f) : 0 ≤ a.fr ∧ a.fr < N ∧ 0 ≤ a.to ∧ a.to < N ∧ a.fr ≠ a.to ∧ 1 ≤ a.rs ∧ a.rs ≤ 1000000000 ∧ -1000000 ≤ a.co ∧ a.co ≤ 1000000 ∧ 0 ≤ a.nm ∧ a.nm < 2 * (E.length : Int) := by
  obtain ⟨hg, hl, hc, _⟩ := flowB_true h
  obtain ⟨g1, g2, g3, g4⟩ := graphB_true hg
  obtain ⟨k, hk, hf, h⟩ := arcs_of hl ha
  have e := edgeB_true (g4 k hk)
  have c := hc k hk hf
  rcases h with ⟨h1, rfl⟩ | ⟨h1, rfl⟩
  · dsimp only; omega
  · dsimp only; omega
theorem arcs_names {E : List Edg} {f : List Int} {k : Nat} (hE : k ≤ E.length) (hF : k ≤ f.length) : (arcsTo E f k).Pairwise (fun a b => a.nm < b.nm) := by
  induction k with
  | zero => simp [arcsTo]
  | succ k ih =>
    have ih' := ih (by omega) (by omega)
    rw [arcsTo_step (by omega) (by omega)]
    have hlt : ∀ a ∈ arcsTo E f k, a.nm < 2 * (k : Int) := fun a ha => by
      obtain ⟨i, hi, _, _, h⟩ := arcsTo_mem (by omega) (by omega) ha
      rcases h with ⟨_, rfl⟩ | ⟨_, rfl⟩ <;> (dsimp only; omega)
    refine List.pairwise_append.2 ⟨List.pairwise_append.2 ⟨ih', ?_, ?_⟩, ?_, ?_⟩
    · unfold arcA; split <;> simp
    · intro a ha b hb
      have := hlt a ha
      unfold arcA at hb
      split at hb
      · rw [List.mem_singleton.1 hb]; dsimp only; omega
      · simp at hb
    · unfold arcZ; split <;> simp
    · intro a ha b hb
      unfold arcZ at hb
      split at hb
      · rw [List.mem_singleton.1 hb]; dsimp only
        rcases List.mem_append.1 ha with ha | ha
        · have := hlt a ha; omega
        · unfold arcA at ha
          split at ha
          · rw [List.mem_singleton.1 ha]; dsimp only; omega
          · simp at ha
      · simp at hb
/-- An arc is known by its name. -/
theorem name_inj {E : List Edg} {f : List Int} (hl : f.length = E.length) {a b : Arc} (ha : a ∈ arcs E f) (hb : b ∈ arcs E f) (h : a.nm = b.nm) : a = b := by
  obtain ⟨i, hi, hif, h1⟩ := arcs_of hl ha
  obtain ⟨j, hj, hjf, h2⟩ := arcs_of hl hb
  rcases h1 with ⟨_, rfl⟩ | ⟨_, rfl⟩ <;> rcases h2 with ⟨_, rfl⟩ | ⟨_, rfl⟩
  · dsimp only at h; obtain rfl : i = j := by omega
    rfl
  · dsimp only at h; omega
  · dsimp only at h; omega
  · dsimp only at h; obtain rfl : i = j := by omega
    rfl

/-- How the search stands: each node's distance, the number of its last arc, whether it has one, its last time; the end of what changed last in this time (-1: none). -/
structure Srch where
  d : Nat → Int
  k : Nat → Nat
  s : Nat → Bool
  r : Nat → Nat
  t : Nat → Nat
  e : Int
def upd {α : Type} (g : Nat → α) (v : Nat) (x : α) : Nat → α := fun i => if i = v then x else g i
theorem upd_same {α : Type} (g : Nat → α) (v : Nat) (x : α) : upd g v x v = x := by simp [upd]
theorem upd_other {α : Type} (g : Nat → α) {v i : Nat} (h : i ≠ v) (x : α) : upd g v x i = g i := by simp [upd, h]
def arc0 : Arc := ⟨0, 0, 0, 0, 0⟩
/-- One arc (number j, in time n) is looked at. -/
def relax (n j : Nat) (a : Arc) (S : Srch) : Srch := if S.d a.fr.toNat + a.co < S.d a.to.toNat then ⟨upd S.d a.to.toNat (S.d a.fr.toNat + a.co), upd S.k a.to.toNat j, upd S.s a.to.toNat true, upd S.r a.to.toNat n, upd S.t a.to.toNat (n * 1000 + j + 1), a.to⟩ else S
/-- The first j arcs, in time n. -/
def turnTo (A : List Arc) (n : Nat) (S : Srch) : Nat → Srch
  | 0 => { S with e := -1 }
  | j + 1 => relax n j (A.getD j arc0) (turnTo A n S j)
theorem turnTo_step {A : List Arc} {n : Nat} {S : Srch} {j : Nat} (hj : j < A.length) : turnTo A n S (j + 1) = relax n j A[j] (turnTo A n S j) := by
  simp [turnTo, List.getD_eq_getElem?_getD, hj]
/-- n times through all arcs. -/
def turns (A : List Arc) : Nat → Srch
  | 0 => ⟨fun _ => 0, fun _ => 0, fun _ => false, fun _ => 0, fun _ => 0, -1⟩
  | n + 1 => turnTo A (n + 1) (turns A n) A.length
end Go.Proofs.YtjdbedlgkngdkaaGreatDoor
