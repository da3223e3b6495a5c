/- Texts of the verifier, joined: QT, Qt. -/
import Derived.Test.YtccdhcempnkgaaaGreatDoorPL1
import Derived.Deep.Quiet
import Derived.StillTail
import Derived.OrdersHeld
import Derived.Test.YtccdhcempnkgaaaGreatDoorPL13
namespace Go.Proofs.YtccdhcempnkgaaaGreatDoor
open Go.RowKit Go
set_option linter.unusedVariables false
section
variable {P:Program} {ops:Array Oper} {md:Region.Mode} {C:World→Prop}
inductive Pt where
 | h | t | u | f | b
def pkH:List Pt→List Oper→List Oper
 | .h :: m,o :: l=>o :: pkH m l
 | .t :: m,_ :: l=>pkH m l
 | .u :: m,_ :: l=>pkH m l
 | .f :: m,_ :: l=>pkH m l
 | .b :: m,_ :: l=>pkH m l
 | _,_=>[]
def pkT:List Pt→List Oper→List Oper
 | .t :: m,o :: l=>o :: pkT m l
 | .h :: m,_ :: l=>pkT m l
 | .u :: m,_ :: l=>pkT m l
 | .f :: m,_ :: l=>pkT m l
 | .b :: m,_ :: l=>pkT m l
 | _,_=>[]
def pkU:List Pt→List Oper→List Oper
 | .u :: m,o :: l=>o :: pkU m l
 | .h :: m,_ :: l=>pkU m l
 | .t :: m,_ :: l=>pkU m l
 | .f :: m,_ :: l=>pkU m l
 | .b :: m,_ :: l=>pkU m l
 | _,_=>[]
def pkF:List Pt→List Oper→List Oper
 | .f :: m,o :: l=>o :: pkF m l
 | .h :: m,_ :: l=>pkF m l
 | .t :: m,_ :: l=>pkF m l
 | .u :: m,_ :: l=>pkF m l
 | .b :: m,_ :: l=>pkF m l
 | _,_=>[]
def pkB:List Pt→List Oper→List Oper
 | .b :: m,o :: l=>o :: pkB m l
 | .h :: m,_ :: l=>pkB m l
 | .t :: m,_ :: l=>pkB m l
 | .u :: m,_ :: l=>pkB m l
 | .f :: m,_ :: l=>pkB m l
 | _,_=>[]
def ixH:List Pt→Nat→List Nat
 | .h :: m,k=>k :: ixH m (k+1)
 | .t :: m,k=>ixH m (k+1)
 | .u :: m,k=>ixH m (k+1)
 | .f :: m,k=>ixH m (k+1)
 | .b :: m,k=>ixH m (k+1)
 | [],_=>[]
def ixT:List Pt→Nat→List Nat
 | .t :: m,k=>k :: ixT m (k+1)
 | .h :: m,k=>ixT m (k+1)
 | .u :: m,k=>ixT m (k+1)
 | .f :: m,k=>ixT m (k+1)
 | .b :: m,k=>ixT m (k+1)
 | [],_=>[]
def ixU:List Pt→Nat→List Nat
 | .u :: m,k=>k :: ixU m (k+1)
 | .h :: m,k=>ixU m (k+1)
 | .t :: m,k=>ixU m (k+1)
 | .f :: m,k=>ixU m (k+1)
 | .b :: m,k=>ixU m (k+1)
 | [],_=>[]
def ixF:List Pt→Nat→List Nat
 | .f :: m,k=>k :: ixF m (k+1)
 | .h :: m,k=>ixF m (k+1)
 | .t :: m,k=>ixF m (k+1)
 | .u :: m,k=>ixF m (k+1)
 | .b :: m,k=>ixF m (k+1)
 | [],_=>[]
def ixB:List Pt→Nat→List Nat
 | .b :: m,k=>k :: ixB m (k+1)
 | .h :: m,k=>ixB m (k+1)
 | .t :: m,k=>ixB m (k+1)
 | .u :: m,k=>ixB m (k+1)
 | .f :: m,k=>ixB m (k+1)
 | [],_=>[]
def sinkI (md:Region.Mode) (ops:Array Oper) (hs ts:List Nat):Bool :=
 hs.all fun i=>(hs.any fun j=>decide (i < j) && Region.waitsFor md ops j i) || (match ts with | t :: _=>Region.waitsFor md ops t i | []=>false)
def chainI (md:Region.Mode) (ops:Array Oper):List Nat→Bool
 | []=>true
 | [_]=>true
 | a :: b :: r=>Region.waitsFor md ops b a && chainI md ops (b :: r)
structure HInv (md:Region.Mode) (ops:Array Oper) (ts:List Nat) (listed:Array Bool):Prop where
 size:listed.size=ops.size
 closed:∀ j oj,ops[j]? = some oj→listed.getD j false=true→∀ e∈oj.after,Region.binds md e=true→listed.getD e.on false=true
 tail:∀ t∈ts,listed.getD t true=false
theorem HInv.set {ts:List Nat} {i:Nat} {listed:Array Bool} (inv:HInv md ops ts listed) (hi:i∈Region.ready md ops listed) (hin:i∉ts):HInv md ops ts (listed.setIfInBounds i true):=by
 obtain ⟨_,oi,hoi,hall⟩:=mem_ready.1 hi
 refine ⟨by simp [inv.size],fun j oj hj hl e he hb=>?_,fun t ht=>by
  have hne:i≠t:=fun e=>hin (by rw [e];exact ht)
  rw [getD_set_ne true hne];exact inv.tail t ht⟩
 by_cases hij:i=j
 ·subst hij
  have:oj=oi:=Option.some.inj (hj.symm.trans hoi)
  subst this
  exact getD_set_true (hall e he hb)
 ·rw [getD_set_ne false hij] at hl
  exact getD_set_true (inv.closed j oj hj hl e he hb)
theorem chain_prev:∀ (ts:List Nat),chainI md ops ts=true→∀ t∈ts,ts.head? = some t∨∃ t'∈ts,Region.waitsFor md ops t t'=true
 | [],_,t,ht=>by cases ht
 | [a],_,t,ht=>.inl (by rw [List.mem_singleton.1 ht];rfl)
 | a :: b :: r,h,t,ht=>by
   simp only [chainI,Bool.and_eq_true] at h
   rcases List.mem_cons.1 ht with rfl | ht
   ·exact .inl rfl
   ·right
    rcases chain_prev (b :: r) h.2 t ht with h' | ⟨t',ht',hw⟩
    ·have e:b=t:=Option.some.inj h'
     subst e
     exact ⟨a,by simp,h.1⟩
    ·exact ⟨t',List.mem_cons_of_mem _ ht',hw⟩
theorem waits_not {listed:Array Bool} {i t:Nat} (hw:Region.waitsFor md ops t i=true) (hun:listed.getD i true=false):t∉Region.ready md ops listed:=by
 intro hr
 obtain ⟨_,ot,hot,hall⟩:=mem_ready.1 hr
 obtain ⟨oj,hoj,e,he,hb,hon⟩:=Region.waitsFor_spec hw
 have:oj=ot:=Option.some.inj (hoj.symm.trans hot)
 subst this
 have h2:=hall e he hb
 rw [hon,getD_both hun] at h2
 cases h2
theorem tail_waitsI {hs ts:List Nat} {listed:Array Bool} (hB:sinkI md ops hs ts=true) (hc:chainI md ops ts=true) (inv:HInv md ops ts listed) :
 ∀ (d i:Nat),ops.size-i=d→i∈hs→i < ops.size→listed.getD i true=false→∀ t∈ts,t∉Region.ready md ops listed:=by
 intro d
 induction d using Nat.strongRecOn with
 | _ d ih =>
   intro i hd hi hlt hun t ht hr
   rcases chain_prev ts hc t ht with h | ⟨t',ht',hw⟩
   ·have h1:=List.all_eq_true.1 hB i hi
    rw [Bool.or_eq_true] at h1
    rcases h1 with h1 | h1
    ·obtain ⟨j,hj,hj2⟩:=List.any_eq_true.1 h1
     simp only [Bool.and_eq_true,decide_eq_true_eq] at hj2
     obtain ⟨oj,hoj,e,he,hb,hon⟩:=Region.waitsFor_spec hj2.2
     have hjlt:j < ops.size:=(Array.getElem?_eq_some_iff.1 hoj).1
     cases hl:listed.getD j false with
     | true =>
       have h2:=inv.closed j oj hoj hl e he hb
       rw [hon,getD_both hun] at h2
       cases h2
     | false =>
       exact ih (ops.size-j) (by omega) j rfl hj hjlt (getD_in (by rw [inv.size];exact hjlt) hl) t ht hr
    ·cases ts with
     | nil=>cases ht
     | cons t0 r =>
       have e:t0=t:=Option.some.inj h
       subst e
       exact waits_not h1 hun hr
   ·exact waits_not hw (inv.tail t' ht') hr
def wpAnyT (P:Program) (md:Region.Mode) (ops:Array Oper) (C:World→Prop) (ts:List Nat) (L:Array Bool→Act→Prop):Nat→Array Bool→Act→Prop
 | 0,listed,a=>L listed a
 | f+1,listed,a=>Region.ready md ops listed≠[]∧∀ i∈Region.ready md ops listed,i∉ts∧qOp P ops C i (wpAnyT P md ops C ts L f (listed.setIfInBounds i true)) a
theorem wpAny_of_headQ {ts:List Nat} {g:Nat} {L:Array Bool→Act→Prop} {Q':Exit→Act→World→Prop} (hL:∀ listed a w,C w→L listed a→wpAny P md ops Q' g listed a w) :
 ∀ (f:Nat) (listed:Array Bool) (a:Act) (w:World),C w→wpAnyT P md ops C ts L f listed a→wpAny P md ops Q' (f+g) listed a w
 | 0,listed,a,w,hw,h=>by rw [Nat.zero_add];exact hL _ _ _ hw h
 | f+1,listed,a,w,hw,h=>by
   rw [show f+1+g=(f+g)+1 by omega]
   exact ⟨fun h0=>absurd h0 h.1,fun i hi=>wpOp_of_qOp hw (fun a' w' hw' h'=>wpAny_of_headQ hL f _ a' w' hw' h') (h.2 i hi).2⟩
theorem wpAnyT_first {hs ts:List Nat} {i:Nat} {oi:Oper} {v:Value} {L:Array Bool→Act→Prop} (hi:ops[i]? = some oi) (hsel:∀ (j:Nat) (o:Oper) cs b,ops[j]? = some o→o.op≠.select cs b)
 (hB:sinkI md ops hs ts=true) (hc:chainI md ops ts=true) (hin:i∈hs)
 (hdone:∀ listed a,L listed a→∀ j∈Region.ready md ops listed,j∈ts) :
 ∀ (f:Nat) (listed:Array Bool) (a:Act),HInv md ops ts listed →
   (∀ j oj,ops[j]? = some oj→j≠i→listed.getD j true=false→(∀ e∈oj.after,Region.binds md e=true→e.on≠i)→oi.apart ops oj=true) →
   i∈Region.ready md ops listed→YieldsIn P ops C oi v a →
   wpAnyT P md ops C ts L f (listed.setIfInBounds i true) (a.put oi.dst v)→wpAnyT P md ops C ts L (f+1) listed a:=by
 intro f
 induction f with
 | zero =>
   intro listed a inv _ hr hy H
   have hun:=(mem_ready.1 hr).1
   have hlt:i < ops.size:=(Array.getElem?_eq_some_iff.1 hi).1
   have hnt:=tail_waitsI hB hc inv _ i rfl hin hlt hun
   refine ⟨fun h=>(by rw [h] at hr;cases hr),fun j hj=>?_⟩
   have hjn:j∉ts:=fun h=>hnt j h hj
   refine ⟨hjn,?_⟩
   by_cases hji:j=i
   ·subst hji;exact hy.qOp hi H
   ·exact absurd (hdone _ _ H j (ready_mono hj hji)) hjn
 | succ f ih =>
   intro listed a inv hfree hr hy H
   have hun:=(mem_ready.1 hr).1
   have hlt:i < ops.size:=(Array.getElem?_eq_some_iff.1 hi).1
   have hnt:=tail_waitsI hB hc inv _ i rfl hin hlt hun
   refine ⟨fun h=>(by rw [h] at hr;cases hr),fun j hj=>?_⟩
   have hjn:j∉ts:=fun h=>hnt j h hj
   refine ⟨hjn,?_⟩
   by_cases hji:j=i
   ·subst hji;exact hy.qOp hi H
   ·have h1:=(H.2 j (ready_mono hj hji)).2
    obtain ⟨hjun,oj,hoj,hall⟩:=mem_ready.1 hj
    have hnot:∀ e∈oj.after,Region.binds md e=true→e.on≠i:=fun e he hb heq=>by
     have h1:=hall e he hb
     rw [heq,getD_both hun] at h1
     cases h1
    have h2:=qOp_put hoj (hfree j oj hoj hji hjun hnot) (fun cs b=>hsel i oi cs b hi) (fun cs b=>hsel j oj cs b hoj) hy h1
    have hfree':∀ k ok,ops[k]? = some ok→k≠i→(listed.setIfInBounds j true).getD k true=false →
     (∀ e∈ok.after,Region.binds md e=true→e.on≠i)→oi.apart ops ok=true:=fun k ok hk hki hun hno=>by
     refine hfree k ok hk hki ?_ hno
     by_cases hjk:j=k
     ·subst hjk;exact hjun
     ·rw [getD_set_ne true hjk] at hun;exact hun
    refine qOp_mono (fun a' h3=>ih (listed.setIfInBounds j true) a' (inv.set hj hjn) hfree' (ready_mono hr (Ne.symm hji)) h3.1 ?_) h2
    rw [Array.setIfInBounds_comm _ _ hji]
    exact h3.2
def seqI (md:Region.Mode) (ops:Array Oper):List Nat→Array Bool→Bool
 | [],listed=>(Region.ready md ops listed).isEmpty
 | k :: ts,listed=>decide (Region.ready md ops listed=[k]) && seqI md ops ts (listed.setIfInBounds k true)
def lexI (md:Region.Mode) (ops:Array Oper) (ts:List Nat):List Nat→Array Bool→Bool
 | [],listed=>seqI md ops ts listed
 | k :: ks,listed=>(Region.ready md ops listed).contains k && Region.free md ops listed k && lexI md ops ts ks (listed.setIfInBounds k true)
theorem seqI_ready {ts:List Nat} {listed:Array Bool} (h:seqI md ops ts listed=true):∀ j∈Region.ready md ops listed,j∈ts:=by
 cases ts with
 | nil=>intro j hj;simp only [seqI,List.isEmpty_iff] at h;rw [h] at hj;cases hj
 | cons k ts =>
   intro j hj
   simp only [seqI,Bool.and_eq_true,decide_eq_true_eq] at h
   rw [h.1] at hj
   rw [List.mem_singleton.1 hj]
   simp
theorem wpAnyT_lex {hs ts:List Nat} {Lq:Act→Prop} (hsel:Region.noSelect ops=true) (hB:sinkI md ops hs ts=true) (hc:chainI md ops ts=true) :
 ∀ (lh:List Oper) (ks:List Nat) (listed:Array Bool) (a:Act),(ks.map fun k=>ops[k]?)=lh.map some→(∀ k∈ks,k∈hs)→HInv md ops ts listed →
 lexI md ops ts ks listed=true→wpQuiet P ops C Lq lh a→wpAnyT P md ops C ts (fun listed' a'=>seqI md ops ts listed'=true∧Lq a') lh.length listed a
 | [],[],listed,a,_,_,_,hx,h=>⟨hx,h⟩
 | [],k :: ks,_,_,e,_,_,_,_=>by cases e
 | o :: lh,[],_,_,e,_,_,_,_=>by cases e
 | o :: lh,k :: ks,listed,a,e,hk,inv,hx,h=>by
   simp only [List.map_cons,List.cons.injEq] at e
   obtain ⟨h0,e'⟩:=e
   simp only [lexI,Bool.and_eq_true] at hx
   obtain ⟨⟨hr,hf⟩,hx'⟩:=hx
   have hr':k∈Region.ready md ops listed:=by simpa using hr
   have hst:qOp P ops C k (wpQuiet P ops C Lq lh) a:=by unfold qOp;simp only [h0];exact h
   obtain ⟨v,hy,hK⟩:=yieldsIn_of_qOp h0 hst
   have hun:=(mem_ready.1 hr').1
   have hnt:k∉ts:=fun ht=>tail_waitsI hB hc inv _ k rfl (hk k (by simp)) (Array.getElem?_eq_some_iff.1 h0).1 hun k ht hr'
   exact wpAnyT_first h0 (Region.noSelect_spec hsel) hB hc (hk k (by simp)) (fun listed' a' hL=>seqI_ready hL.1) lh.length listed a inv (Region.free_spec h0 hf) hr' hy
    (wpAnyT_lex hsel hB hc lh ks _ _ e' (fun x hx=>hk x (List.mem_cons_of_mem _ hx)) (inv.set hr' hnt) hx' hK)
def wpAnyB (P:Program) (md:Region.Mode) (ops:Array Oper) (Q:Exit→Act→World→Prop) (C:World→Prop) (B:List Nat):Nat→Array Bool→Act→World→Prop
 | 0,listed,a,w=>Region.ready md ops listed=[]∧Q .normal a w
 | fuel+1,listed,a,w=>(Region.ready md ops listed=[]→Q .normal a w)∧∀ i∈Region.ready md ops listed,wpOp P ops Q i (fun a' w'=>(i∈B∨C w')∧wpAnyB P md ops Q C B fuel (listed.setIfInBounds i true) a' w') a w
theorem wpAny_of_B {Q:Exit→Act→World→Prop} {B:List Nat}:∀ (fuel:Nat) (listed:Array Bool) (a:Act) (w:World),wpAnyB P md ops Q C B fuel listed a w→wpAny P md ops Q fuel listed a w
 | 0,_,_,_,h=>h
 | fuel+1,_,_,_,h=>⟨h.1,fun i hi=>wpOp_mono (fun a' w' h'=>wpAny_of_B fuel _ a' w' h'.2) (h.2 i hi)⟩
theorem wpAnyB_of_headQ {ts B:List Nat} {g:Nat} {L:Array Bool→Act→Prop} {Q':Exit→Act→World→Prop} (hL:∀ listed a w,C w→L listed a→wpAnyB P md ops Q' C B g listed a w) :
 ∀ (f:Nat) (listed:Array Bool) (a:Act) (w:World),C w→wpAnyT P md ops C ts L f listed a→wpAnyB P md ops Q' C B (f+g) listed a w
 | 0,listed,a,w,hw,h=>by rw [Nat.zero_add];exact hL _ _ _ hw h
 | f+1,listed,a,w,hw,h=>by
   rw [show f+1+g=(f+g)+1 by omega]
   exact ⟨fun h0=>absurd h0 h.1,fun i hi=>wpOp_of_qOp hw (fun a' w' hw' h'=>⟨.inr hw',wpAnyB_of_headQ hL f _ a' w' hw' h'⟩) (h.2 i hi).2⟩
theorem wpAnyB_of_seq {Q':Exit→Act→World→Prop} {B:List Nat}:∀ (l:List Oper) (ts:List Nat) (listed:Array Bool) (a:Act) (w:World),(∀ t∈ts,t∈B)→(ts.map fun k=>ops[k]?)=l.map some →
 seqI md ops ts listed=true→wpList P ops Q' l a w→wpAnyB P md ops Q' C B l.length listed a w
 | [],[],_,_,_,_,_,hB,h=>⟨by simpa [seqI] using hB,h⟩
 | [],k :: ts,_,_,_,_,e,_,_=>by cases e
 | o :: l,[],_,_,_,_,e,_,_=>by cases e
 | o :: l,k :: ts,listed,a,w,hb,e,hB,h=>by
   simp only [List.map_cons,List.cons.injEq] at e
   obtain ⟨h0,e'⟩:=e
   simp only [seqI,Bool.and_eq_true,decide_eq_true_eq] at hB
   refine ⟨fun h1=>(by rw [hB.1] at h1;cases h1),fun i hi=>?_⟩
   rw [hB.1] at hi
   have hik:i=k:=by simpa using hi
   subst hik
   have hw:wpOp P ops Q' i (wpList P ops Q' l) a w:=by unfold wpOp;simp only [h0];exact h
   exact wpOp_mono (fun a' w' h'=>⟨.inl (hb i (by simp)),wpAnyB_of_seq l ts _ a' w' (fun t ht=>hb t (List.mem_cons_of_mem _ ht)) e' hB.2 h'⟩) hw
def BuildThen (P:Program) (ops:Array Oper) (C:World→Prop) (Q:Exit→Act→World→Prop) (ob:Oper) (lt:List Oper) (a:Act):Prop :=
 ob.guard=none∧∀ w,C w→∀ K:Act→World→Prop,Hid (∀ a' w',C w'→wpList P ops Q lt a' w'→K a' w')→ob.wp P a w K Q
theorem wpAnyB_tail {hs bs:List Nat} {t0:Nat} {lh lt:List Oper} {ob:Oper} {listed:Array Bool} {a:Act} {w:World} {Q:Exit→Act→World→Prop} (hsel:Region.noSelect ops=true) (hB:sinkI md ops hs (t0 :: bs)=true) (hc:chainI md ops (t0 :: bs)=true) (inv:HInv md ops (t0 :: bs) listed)
 (hx:lexI md ops (t0 :: bs) hs listed=true) (eh:(hs.map fun k=>ops[k]?)=lh.map some) (eb:ops[t0]? = some ob) (et:(bs.map fun k=>ops[k]?)=lt.map some) (hC:C w)
 (h:wpQuiet P ops C (BuildThen P ops C Q ob lt) lh a):wpAnyB P md ops Q C bs (lh.length+(lt.length+1)) listed a w :=
 wpAnyB_of_headQ (L:=fun listed' a'=>seqI md ops (t0 :: bs) listed'=true∧BuildThen P ops C Q ob lt a') (fun listed' a' w' hw' hL=>by
  obtain ⟨hsq,hg,hb⟩:=hL
  simp only [seqI,Bool.and_eq_true,decide_eq_true_eq] at hsq
  refine ⟨fun h1=>(by rw [hsq.1] at h1;cases h1),fun i hi=>?_⟩
  rw [hsq.1] at hi
  have hik:i=t0:=by simpa using hi
  subst hik
  unfold wpOp
  simp only [eb,Region.wanted,hg,if_true]
  exact .inl (hb w' hw' _ (fun a'' w'' hc'' h''=>⟨.inr hc'',wpAnyB_of_seq lt bs _ a'' w'' (fun t ht=>ht) et hsq.2 h''⟩))) _ _ _ _ hC
  (wpAnyT_lex hsel hB hc lh hs listed a eh (fun _ h=>h) inv hx h)
theorem wpAnyB_first {fs bs:List Nat} {t0 i:Nat} {oi:Oper} {v:Value} {Q:Exit→Act→World→Prop} (hi:ops[i]? = some oi) (hsel:∀ (j:Nat) (o:Oper) cs b,ops[j]? = some o→o.op≠.select cs b)
 (hQ:∀ c a w,Q (.panic c) (a.put oi.dst v) w→Q (.panic c) a w) (hB:sinkI md ops fs bs=true) (hc:chainI md ops bs=true) (hin:i∈fs) :
 ∀ (fuel:Nat) (listed:Array Bool) (a:Act) (w:World),HInv md ops bs listed →
   (∀ j oj,ops[j]? = some oj→j≠i→listed.getD j true=false→(∀ e∈oj.after,Region.binds md e=true→e.on≠i)→oi.apart ops oj=true) →
   i∈Region.ready md ops listed→YieldsIf P ops C oi v a→C w →
   wpAnyB P md ops Q C bs fuel (listed.setIfInBounds i true) (a.put oi.dst v) w→wpAnyB P md ops Q C bs (fuel+1) listed a w:=by
 intro fuel
 induction fuel with
 | zero =>
   intro listed a w _ _ hr hy hS H
   refine ⟨fun h=>(by rw [h] at hr;cases hr),fun j hj=>?_⟩
   by_cases hji:j=i
   ·subst hji;exact hy.wpOp hi hS ⟨.inr hS,H⟩
   ·have:=ready_mono hj hji
    rw [H.1] at this
    cases this
 | succ fuel ih =>
   intro listed a w inv hfree hr hy hS H
   have hun:=(mem_ready.1 hr).1
   have hlt:i < ops.size:=(Array.getElem?_eq_some_iff.1 hi).1
   have hnt:=tail_waitsI hB hc inv _ i rfl hin hlt hun
   refine ⟨fun h=>(by rw [h] at hr;cases hr),fun j hj=>?_⟩
   by_cases hji:j=i
   ·subst hji;exact hy.wpOp hi hS ⟨.inr hS,H⟩
   ·have h1:=H.2 j (ready_mono hj hji)
    obtain ⟨hjun,oj,hoj,hall⟩:=mem_ready.1 hj
    have hjn:j∉bs:=fun h=>hnt j h hj
    have hnot:∀ e∈oj.after,Region.binds md e=true→e.on≠i:=fun e he hb heq=>by
     have h1:=hall e he hb
     rw [heq,getD_both hun] at h1
     cases h1
    have h2:=wpOp_putIf hoj (hfree j oj hoj hji hjun hnot) (fun cs b=>hsel i oi cs b hi) (fun cs b=>hsel j oj cs b hoj) hQ hy h1
    have hfree':∀ k ok,ops[k]? = some ok→k≠i→(listed.setIfInBounds j true).getD k true=false →
     (∀ e∈ok.after,Region.binds md e=true→e.on≠i)→oi.apart ops ok=true:=fun k ok hk hki hun hno=>by
     refine hfree k ok hk hki ?_ hno
     by_cases hjk:j=k
     ·subst hjk;exact hjun
     ·rw [getD_set_ne true hjk] at hun;exact hun
    refine wpOp_mono (fun a' w' h3=>?_) h2
    have hC':C w':=h3.2.1.resolve_left hjn
    refine ⟨.inr hC',ih (listed.setIfInBounds j true) a' w' (inv.set hj hjn) hfree' (ready_mono hr (Ne.symm hji)) h3.1 hC' ?_⟩
    rw [Array.setIfInBounds_comm _ _ hji]
    exact h3.2.2
def wpFlo (P:Program) (ops:Array Oper) (C:World→Prop) (K:Act→Prop):List Oper→Act→Prop
 | [],a=>K a
 | o :: r,a=>∃ v,YieldsIf P ops C o v a∧wpFlo P ops C K r (a.put o.dst v)
theorem wpFlo_nil {K:Act→Prop} {a:Act} (h:K a):wpFlo P ops C K [] a:=h
theorem wpFlo_step {K:Act→Prop} {a:Act} {o:Oper} {r:List Oper} (v:Value) (hg:Region.wanted o (yielded ops a.tmps)=true) (hv:∀ w,C w→(execOp a.eval o).run P w=.ok (.value v) w) (h:wpFlo P ops C K r (a.put o.dst v)):wpFlo P ops C K (o :: r) a:=⟨v,.inl ⟨hg,hv⟩,h⟩
def floI (md:Region.Mode) (ops:Array Oper) (hs ts:List Nat):List Nat→Array Bool→Bool
 | [],listed=>lexI md ops ts hs listed
 | u :: us,listed=>(Region.ready md ops listed).contains u && Region.free md ops listed u && !ts.contains u && floI md ops hs ts us (listed.setIfInBounds u true)
theorem wpAnyB_flo {fs hs bs:List Nat} {t0:Nat} {lh lt:List Oper} {ob:Oper} {Q:Exit→Act→World→Prop} (hsel:Region.noSelect ops=true) (hB:sinkI md ops hs (t0 :: bs)=true) (hc:chainI md ops (t0 :: bs)=true) (hF:sinkI md ops fs bs=true) (hcb:chainI md ops bs=true)
 (eh:(hs.map fun k=>ops[k]?)=lh.map some) (eb:ops[t0]? = some ob) (et:(bs.map fun k=>ops[k]?)=lt.map some) (hQ:∀ c (a:Act) d v w,Q (.panic c) (a.put d v) w→Q (.panic c) a w) :
 ∀ (lf:List Oper) (us:List Nat) (listed:Array Bool) (a:Act) (w:World),(∀ u∈us,u∈fs)→(us.map fun k=>ops[k]?)=lf.map some→HInv md ops (t0 :: bs) listed→floI md ops hs (t0 :: bs) us listed=true→C w →
   wpFlo P ops C (fun a'=>wpQuiet P ops C (BuildThen P ops C Q ob lt) lh a') lf a→wpAnyB P md ops Q C bs (lf.length+(lh.length+(lt.length+1))) listed a w
 | [],[],listed,a,w,_,_,inv,hx,hC,h=>by
   rw [List.length_nil,Nat.zero_add]
   exact wpAnyB_tail hsel hB hc inv hx eh eb et hC h
 | [],k :: us,_,_,_,_,e,_,_,_,_=>by cases e
 | o :: lu,[],_,_,_,_,e,_,_,_,_=>by cases e
 | o :: lu,u :: us,listed,a,w,hu,e,inv,hx,hC,h=>by
   simp only [List.map_cons,List.cons.injEq] at e
   obtain ⟨h0,e'⟩:=e
   simp only [floI,Bool.and_eq_true,Bool.not_eq_true'] at hx
   obtain ⟨⟨⟨hr,hf⟩,hn⟩,hx'⟩:=hx
   have hr':u∈Region.ready md ops listed:=by simpa using hr
   have hnt:u∉t0 :: bs:=fun ht=>by rw [List.contains_iff_mem.2 ht] at hn;cases hn
   obtain ⟨v,hy,hK⟩:=h
   rw [List.length_cons,show lu.length+1+(lh.length+(lt.length+1))=(lu.length+(lh.length+(lt.length+1)))+1 by omega]
   exact wpAnyB_first (t0:=t0) h0 (Region.noSelect_spec hsel) (fun c a w h=>hQ c a _ _ w h) hF hcb (hu u (by simp)) _ listed a w ⟨inv.size,inv.closed,fun t ht=>inv.tail t (List.mem_cons_of_mem _ ht)⟩ (Region.free_spec h0 hf) hr' hy hC
    (wpAnyB_flo hsel hB hc hF hcb eh eb et hQ lu us _ _ w (fun x hx=>hu x (List.mem_cons_of_mem _ hx)) e' (inv.set hr' hnt) hx' hC hK)
def wpUni (P:Program) (ops:Array Oper) (K:Act→Prop):List Oper→Act→Prop
 | [],a=>K a
 | o :: r,a=>∃ v,Yields P ops o v a∧wpUni P ops K r (a.put o.dst v)
theorem wpUni_nil {K:Act→Prop} {a:Act} (h:K a):wpUni P ops K [] a:=h
theorem wpUni_step {K:Act→Prop} {a:Act} {o:Oper} {r:List Oper} (v:Value) (hg:Region.wanted o (yielded ops a.tmps)=true) (hv:∀ w,(execOp a.eval o).run P w=.ok (.value v) w) (h:wpUni P ops K r (a.put o.dst v)):wpUni P ops K (o :: r) a:=⟨v,.inl ⟨hg,hv⟩,h⟩
def uniI (md:Region.Mode) (ops:Array Oper) (fs hs ts:List Nat):List Nat→Array Bool→Bool
 | [],listed=>floI md ops hs ts fs listed
 | u :: us,listed=>(Region.ready md ops listed).contains u && Region.free md ops listed u && !ts.contains u && uniI md ops fs hs ts us (listed.setIfInBounds u true)
theorem wpAny_uni {fs hs bs:List Nat} {t0:Nat} {lf lh lt:List Oper} {ob:Oper} {Q:Exit→Act→World→Prop} (hsel:Region.noSelect ops=true) (hB:sinkI md ops hs (t0 :: bs)=true) (hc:chainI md ops (t0 :: bs)=true) (hF:sinkI md ops fs bs=true) (hcb:chainI md ops bs=true)
 (ef:(fs.map fun k=>ops[k]?)=lf.map some) (eh:(hs.map fun k=>ops[k]?)=lh.map some) (eb:ops[t0]? = some ob) (et:(bs.map fun k=>ops[k]?)=lt.map some) (hQ:∀ c (a:Act) d v w,Q (.panic c) (a.put d v) w→Q (.panic c) a w) :
 ∀ (lu:List Oper) (us:List Nat) (listed:Array Bool) (a:Act) (w:World),(us.map fun k=>ops[k]?)=lu.map some→HInv md ops (t0 :: bs) listed→uniI md ops fs hs (t0 :: bs) us listed=true→C w →
   wpUni P ops (fun a'=>wpFlo P ops C (fun a''=>wpQuiet P ops C (BuildThen P ops C Q ob lt) lh a'') lf a') lu a→wpAny P md ops Q (lu.length+(lf.length+(lh.length+(lt.length+1)))) listed a w
 | [],[],listed,a,w,_,inv,hx,hC,h=>by
   rw [List.length_nil,Nat.zero_add]
   exact wpAny_of_B _ _ _ _ (wpAnyB_flo hsel hB hc hF hcb eh eb et hQ lf fs listed a w (fun _ h=>h) ef inv hx hC h)
 | [],k :: us,_,_,_,e,_,_,_,_=>by cases e
 | o :: lu,[],_,_,_,e,_,_,_,_=>by cases e
 | o :: lu,u :: us,listed,a,w,e,inv,hx,hC,h=>by
   simp only [List.map_cons,List.cons.injEq] at e
   obtain ⟨h0,e'⟩:=e
   simp only [uniI,Bool.and_eq_true,Bool.not_eq_true'] at hx
   obtain ⟨⟨⟨hr,hf⟩,hn⟩,hx'⟩:=hx
   have hr':u∈Region.ready md ops listed:=by simpa using hr
   have hnt:u∉t0 :: bs:=fun ht=>by rw [List.contains_iff_mem.2 ht] at hn;cases hn
   obtain ⟨v,hy,hK⟩:=h
   rw [List.length_cons,show lu.length+1+(lf.length+(lh.length+(lt.length+1)))=(lu.length+(lf.length+(lh.length+(lt.length+1))))+1 by omega]
   exact wpAny_first h0 (Region.noSelect_spec hsel) (fun c a w h=>hQ c a _ _ w h) _ listed a w (Region.free_spec h0 hf) hr' hy
    (wpAny_uni hsel hB hc hF hcb ef eh eb et hQ lu us _ _ w e' (inv.set hr' hnt) hx' hC hK)
def appB (md:Region.Mode) (ops:Array Oper) (m:List Pt):Bool :=
 match ixB m 0 with
 | [t0]=>Region.noSelect ops && sinkI md ops (ixH m 0) (t0 :: ixT m 0) && chainI md ops (t0 :: ixT m 0) && sinkI md ops (ixF m 0) (ixT m 0) && chainI md ops (ixT m 0) && (t0 :: ixT m 0).all (fun t=>decide (t < ops.size)) && uniI md ops (ixF m 0) (ixH m 0) (t0 :: ixT m 0) (ixU m 0) (Array.replicate ops.size false)
 | _=>false
theorem wp_region_app {id:Nat} {Q:Exit→Act→World→Prop} {a:Act} {w:World} {l:List Oper} {ob:Oper} (m:List Pt) (hm:P.follows .mixedOrders=true) (hB:appB .any l.toArray m=true)
 (eu:((ixU m 0).map fun k=>l.toArray[k]?)=(pkU m l).map some) (ef:((ixF m 0).map fun k=>l.toArray[k]?)=(pkF m l).map some) (eh:((ixH m 0).map fun k=>l.toArray[k]?)=(pkH m l).map some) (eb:pkB m l=[ob]) (eb':((ixB m 0).map fun k=>l.toArray[k]?)=(pkB m l).map some) (et:((ixT m 0).map fun k=>l.toArray[k]?)=(pkT m l).map some)
 (hn:(pkU m l).length+((pkF m l).length+((pkH m l).length+((pkT m l).length+1)))=l.toArray.size) (hQ:∀ c (a:Act) d v w,Q (.panic c) (a.put d v) w→Q (.panic c) a w)
 (h:wpUni P l.toArray (fun a1=>wpFlo P l.toArray (fun w'=>∃ t,w'=gr w t) (fun a2=>wpQuiet P l.toArray (fun w'=>∃ t,w'=gr w t) (BuildThen P l.toArray (fun w'=>∃ t,w'=gr w t) Q ob (pkT m l)) (pkH m l) a2) (pkF m l) a1) (pkU m l) a):(Code.region id l.toArray true).wp P Q a w:=by
 unfold appB at hB
 split at hB
 ·rename_i t0 ht0
  simp only [Bool.and_eq_true] at hB
  obtain ⟨⟨⟨⟨⟨⟨hsel,hs⟩,hc⟩,hF⟩,hcb⟩,hlt⟩,hx⟩:=hB
  have hob:l.toArray[t0]? = some ob:=by
   rw [ht0,eb] at eb'
   simpa using eb'
  have inv0:HInv .any l.toArray (t0 :: ixT m 0) (Array.replicate l.toArray.size false) :=
   ⟨by simp,fun j oj _ hl=>(by rw [getD_replicate_false] at hl;cases hl),fun t ht=>getD_in (by have:=List.all_eq_true.1 hlt t ht;simpa using this) (getD_replicate_false _ _)⟩
  have:=wpAny_uni (P:=P) (C:=fun w'=>∃ t,w'=gr w t) hsel hs hc hF hcb ef eh hob et hQ (pkU m l) (ixU m 0) _ a { w with drawn:=w.drawn+1 } eu inv0 hx ⟨gt #[] (w.drawn+1),by simp [gr,gt_more,gt_count]⟩ h
  rw [hn] at this
  exact wp_region_any hm this
 ·cases hB
end
end Go.Proofs.YtccdhcempnkgaaaGreatDoor
namespace Go.Proofs.YtccdhcempnkgaaaGreatDoor
open Go.RowKit Go
set_option linter.unusedVariables false
inductive Pm (α:Type) where
 | fin:Pm α
 | one:Bool→α→Pm α→Pm α
 | two:α→Pm α→α→Pm α→Pm α
section
variable {P:Program} {ops:Array Oper} {Q:Exit→Act→World→Prop} {md:Region.Mode} {S:World→Prop}
def wpDo (P:Program) (ops:Array Oper) (Q:Exit→Act→World→Prop) (S:World→Prop) (o:Oper) (K0:Act→World→Prop) (a:Act) (w:World):Prop :=
 if Region.wanted o (yielded ops a.tmps) then ∀ K:Act→World→Prop,Hid (∀ a' w',S w'→K0 a' w'→K a' w')→o.wp P a w K Q else K0 (a.put o.dst undef) w
def wpPm (P:Program) (ops:Array Oper) (Q:Exit→Act→World→Prop) (S:World→Prop):Pm Oper→Act→World→Prop
 | .fin,a,w=>Q .normal a w
 | .one false o r,a,w=>∃ v,YieldsIf P ops S o v a∧wpPm P ops Q S r (a.put o.dst v) w
 | .one true o r,a,w=>wpDo P ops Q S o (wpPm P ops Q S r) a w
 | .two o r o' r',a,w=>wpDo P ops Q S o (wpPm P ops Q S r) a w∧wpDo P ops Q S o' (wpPm P ops Q S r') a w
def okPm (md:Region.Mode) (ops:Array Oper):Nat→Pm Nat→Array Bool→Bool
 | _,.fin,listed=>(Region.ready md ops listed).isEmpty
 | 0,_,_=>false
 | n+1,.one false k r,listed=>(ops[k]?).isSome && (Region.ready md ops listed).contains k && Region.free md ops listed k && okPm md ops n r (listed.setIfInBounds k true)
 | n+1,.one true k r,listed=>(ops[k]?).isSome && decide (Region.ready md ops listed=[k]) && okPm md ops n r (listed.setIfInBounds k true)
 | n+1,.two k r k' r',listed=>(ops[k]?).isSome && (ops[k']?).isSome && decide (Region.ready md ops listed=[k,k']) && okPm md ops n r (listed.setIfInBounds k true) && okPm md ops n r' (listed.setIfInBounds k' true)
def pickT:Pm Nat→List Oper→Pm Oper
 | .fin,_=>.fin
 | .one b k r,l=>match l[k]? with
   | some o=>.one b o (pickT r l)
   | none=>.fin
 | .two k r k' r',l=>match l[k]?,l[k']? with
   | some o,some o'=>.two o (pickT r l) o' (pickT r' l)
   | _,_=>.fin
theorem wpOp_do {o:Oper} {k n:Nat} {listed:Array Bool} {K0:Act→World→Prop} {a:Act} {w:World} (h0:ops[k]? = some o) (hS:S w) (hK:∀ a' w',S w'→K0 a' w'→wpAnyH P md ops Q S n (listed.setIfInBounds k true) a' w') (h:wpDo P ops Q S o K0 a w) :
 wpOp P ops Q k (fun a' w'=>S w'∧wpAnyH P md ops Q S n (listed.setIfInBounds k true) a' w') a w:=by
 unfold wpOp
 simp only [h0]
 unfold wpDo at h
 split
 ·rename_i hw
  simp only [hw,if_true] at h
  exact .inl (h _ (fun a' w' hS' h'=>⟨hS',hK a' w' hS' h'⟩))
 ·rename_i hw
  simp only [hw] at h
  exact ⟨hS,hK _ _ hS h⟩
theorem wpAnyH_pm {l:List Oper} (hsel:Region.noSelect l.toArray=true) (hQ:∀ c (a:Act) d v w,Q (.panic c) (a.put d v) w→Q (.panic c) a w) :
 ∀ (t:Pm Nat) (n:Nat) (listed:Array Bool) (a:Act) (w:World),okPm md l.toArray n t listed=true→S w→wpPm P l.toArray Q S (pickT t l) a w→wpAnyH P md l.toArray Q S n listed a w
 | .fin,n,listed,a,w,hB,hS,h=>wpAnyH_done (by cases n <;> simpa [okPm] using hB) h _
 | .one b k r,0,listed,a,w,hB,hS,h=>by cases b <;> simp [okPm] at hB
 | .two k r k' r',0,listed,a,w,hB,hS,h=>by simp [okPm] at hB
 | .one false k r,n+1,listed,a,w,hB,hS,h=>by
   simp only [okPm,Bool.and_eq_true] at hB
   obtain ⟨⟨⟨ho,hr⟩,hf⟩,hB'⟩:=hB
   obtain ⟨o,h0⟩:=Option.isSome_iff_exists.1 ho
   have h1:l[k]? = some o:=by simpa using h0
   simp only [pickT,h1] at h
   obtain ⟨v,hy,hK⟩:=h
   exact wpAnyH_first h0 (Region.noSelect_spec hsel) (fun c a w h=>hQ c a _ _ w h) n listed a w (Region.free_spec h0 hf) (by simpa using hr) hy hS (wpAnyH_pm hsel hQ r n _ _ _ hB' hS hK)
 | .one true k r,n+1,listed,a,w,hB,hS,h=>by
   simp only [okPm,Bool.and_eq_true,decide_eq_true_eq] at hB
   obtain ⟨⟨ho,hr⟩,hB'⟩:=hB
   obtain ⟨o,h0⟩:=Option.isSome_iff_exists.1 ho
   have h1:l[k]? = some o:=by simpa using h0
   simp only [pickT,h1] at h
   refine ⟨fun h2=>(by rw [hr] at h2;cases h2),fun i hi=>?_⟩
   rw [hr] at hi
   have hik:i=k:=by simpa using hi
   subst hik
   exact wpOp_do h0 hS (fun a' w' hS' h'=>wpAnyH_pm hsel hQ r n _ a' w' hB' hS' h') h
 | .two k r k' r',n+1,listed,a,w,hB,hS,h=>by
   simp only [okPm,Bool.and_eq_true,decide_eq_true_eq] at hB
   obtain ⟨⟨⟨⟨ho,ho'⟩,hr⟩,hB1⟩,hB2⟩:=hB
   obtain ⟨o,h0⟩:=Option.isSome_iff_exists.1 ho
   obtain ⟨o',h0'⟩:=Option.isSome_iff_exists.1 ho'
   have h1:l[k]? = some o:=by simpa using h0
   have h1':l[k']? = some o':=by simpa using h0'
   simp only [pickT,h1,h1'] at h
   refine ⟨fun h2=>(by rw [hr] at h2;cases h2),fun i hi=>?_⟩
   rw [hr] at hi
   rcases (show i=k∨i=k' by simpa using hi) with e | e
   ·rw [e];exact wpOp_do h0 hS (fun a' w' hS' h'=>wpAnyH_pm hsel hQ r n _ a' w' hB1 hS' h') h.1
   ·rw [e];exact wpOp_do h0' hS (fun a' w' hS' h'=>wpAnyH_pm hsel hQ r' n _ a' w' hB2 hS' h') h.2
theorem wp_region_pm {id:Nat} {a:Act} {w:World} {l:List Oper} (t:Pm Nat) (S:World→Prop) (hm:P.follows .mixedOrders=true) (hB:(Region.noSelect l.toArray && okPm .any l.toArray l.toArray.size t (Array.replicate l.toArray.size false))=true)
 (hQ:∀ c (a:Act) d v w,Q (.panic c) (a.put d v) w→Q (.panic c) a w) (hS:S w.drew)
 (h:wpPm P l.toArray Q S (pickT t l) a w.drew):(Code.region id l.toArray true).wp P Q a w:=by
 rw [Bool.and_eq_true] at hB
 exact wp_region_held hm (wpAnyH_pm (md:=.any) hB.1 hQ t _ _ a w.drew hB.2 hS h)
theorem wpPm_no {r:Pm Oper} {o:Oper} {b:Bool} {a:Act} {w:World} (hg:Region.wanted o (yielded ops a.tmps)=false) (h:wpPm P ops Q S r (a.put o.dst undef) w):wpPm P ops Q S (.one b o r) a w:=by
 cases b with
 | false=>exact ⟨undef,.inr ⟨hg,rfl⟩,h⟩
 | true=>unfold wpPm wpDo;rw [if_neg (by rw [hg];decide)];exact h
theorem wpPm_yes {r:Pm Oper} {o:Oper} {a:Act} {w:World} (v:Value) (hg:Region.wanted o (yielded ops a.tmps)=true) (hv:∀ w,S w→(execOp a.eval o).run P w=.ok (.value v) w) (h:wpPm P ops Q S r (a.put o.dst v) w):wpPm P ops Q S (.one false o r) a w:=⟨v,.inl ⟨hg,hv⟩,h⟩
theorem wpPm_do {r:Pm Oper} {o:Oper} {a:Act} {w:World} (hg:Region.wanted o (yielded ops a.tmps)=true) (h:∀ K:Act→World→Prop,Hid (∀ a' w',S w'→wpPm P ops Q S r a' w'→K a' w')→o.wp P a w K Q):wpPm P ops Q S (.one true o r) a w:=by
 unfold wpPm wpDo;rw [if_pos hg];exact h
theorem wpPm_two {r r':Pm Oper} {o o':Oper} {a:Act} {w:World} (h:wpPm P ops Q S (.one true o r) a w) (h':wpPm P ops Q S (.one true o' r') a w):wpPm P ops Q S (.two o r o' r') a w:=⟨h,h'⟩
theorem wpPm_end {a:Act} {w:World} (h:Q .normal a w):wpPm P ops Q S .fin a w:=h
end
end Go.Proofs.YtccdhcempnkgaaaGreatDoor
