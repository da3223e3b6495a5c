/- Texts of the verifier, joined: Qi, Marks, Vars, PSp, PG. -/
import Derived.Test.YtccdhcempnkgaaaGreatDoorPA1
import Derived.OrdersHeld
import Derived.Test.YtccdhcempnkgaaaGreatDoorPA2
import Derived.Deep.RegionHeld3
import Derived.Deep.DrawnRows
import Derived.Laws.AppendOwnNone
import Derived.Deep.RegionLaw
import Derived.Lib.AppendZeros
import Derived.RegionTactic
namespace Go.Proofs.YtccdhcempnkgaaaGreatDoor
open Go.RowKit Go
set_option linter.unusedVariables false
section
variable {P:Program} {Q:Exit→Act→World→Prop}
structure Walled (p:Prop):Prop where
 out:p
def putAll (a:Act):List Oper→Nat→(Nat→Value)→Act
 | [],_,_=>a
 | o :: l,k,u=>putAll (a.put o.dst (u k)) l (k+1) u
def upN {α:Type} (u:Nat→α) (i:Nat) (v:α):Nat→α:=fun j=>if j=i then v else u j
def dstOk:List Oper→Bool
 | []=>true
 | o :: l=>(l.all fun p=>match o.dst,p.dst with | some x,some y=>x != y | _,_=>true) && dstOk l
def predsOf (o:Oper):List Nat:=(o.after.toList.filter (Region.binds .any)).map (·.on)
def backOk:List Oper→Nat→Bool
 | [],_=>true
 | o :: l,k=>(predsOf o).all (fun j=>decide (j < k)) && o.guard.isNone && backOk l (k+1)
def allOps (p:Nat→Oper→Prop):List Oper→Nat→Prop
 | [],_=>True
 | o :: l,k=>p k o∧allOps p l (k+1)
theorem allOps_at {p:Nat→Oper→Prop}:∀ {l:List Oper} {k i:Nat} {o:Oper},allOps p l k→l[i]? = some o→p (k+i) o
 | [],_,_,_,_,h=>by simp at h
 | x :: l,k,0,o,h,e=>by simp at e;subst e;exact h.1
 | x :: l,k,i+1,o,h,e=>by
   have:=allOps_at h.2 (by simpa using e)
   rw [show k+(i+1)=k+1+i by omega];exact this
theorem backOk_at:∀ {l:List Oper} {k i:Nat} {o:Oper},backOk l k=true→l[i]? = some o→(∀ j∈predsOf o,j < k+i)∧o.guard=none
 | [],_,_,_,_,h=>by simp at h
 | x :: l,k,0,o,h,e=>by
   simp at e;subst e
   simp only [backOk,Bool.and_eq_true,List.all_eq_true,decide_eq_true_eq] at h
   exact ⟨fun j hj=>by have:=h.1.1 j hj;omega,by simpa using h.1.2⟩
 | x :: l,k,i+1,o,h,e=>by
   simp only [backOk,Bool.and_eq_true] at h
   have:=backOk_at h.2 (by simpa using e)
   exact ⟨fun j hj=>by have:=this.1 j hj;omega,this.2⟩
theorem put_comm2 (a:Act) {d d':Option Tmp} (v v':Value) (h:(match d,d' with | some x,some y=>x != y | _,_=>true)=true):(a.put d v).put d' v'=(a.put d' v').put d v:=by
 cases d with
 | none=>rfl
 | some x =>
   cases d' with
   | none=>rfl
   | some y =>
     have hxy:x≠y:=by simpa using h
     simp only [Act.put]
     rw [Array.setIfInBounds_comm _ _ hxy]
theorem put_over (a:Act) (d:Option Tmp) (v v':Value):(a.put d v).put d v'=a.put d v':=by
 cases d with
 | none=>rfl
 | some x=>simp [Act.put,Array.setIfInBounds_setIfInBounds]
theorem putAll_put:∀ (l:List Oper) (a:Act) (k:Nat) (u:Nat→Value) (d:Option Tmp) (v:Value),(∀ p∈l,(match d,p.dst with | some x,some y=>x != y | _,_=>true)=true)→(putAll a l k u).put d v=putAll (a.put d v) l k u
 | [],_,_,_,_,_,_=>rfl
 | o :: l,a,k,u,d,v,h=>by
   unfold putAll
   rw [putAll_put l _ _ _ _ _ (fun p hp=>h p (List.mem_cons_of_mem _ hp))]
   rw [put_comm2 a v (u k) (h o (List.mem_cons_self ..))]
theorem putAll_congr:∀ (l:List Oper) (a:Act) (k:Nat) (u u':Nat→Value),(∀ j,k≤j→u j=u' j)→putAll a l k u=putAll a l k u'
 | [],_,_,_,_,_=>rfl
 | o :: l,a,k,u,u',h=>by
   unfold putAll
   rw [h k (Nat.le_refl _)]
   exact putAll_congr l _ _ _ _ (fun j hj=>h j (by omega))
theorem putAll_up:∀ (l:List Oper) (a:Act) (k i:Nat) (o:Oper) (u:Nat→Value) (v:Value),dstOk l=true→l[i]? = some o→(putAll a l k u).put o.dst v=putAll a l k (upN u (k+i) v)
 | [],_,_,_,_,_,_,_,h=>by simp at h
 | x :: l,a,k,0,o,u,v,hd,e=>by
   simp at e;subst e
   simp only [dstOk,Bool.and_eq_true,List.all_eq_true] at hd
   unfold putAll
   rw [putAll_put l _ _ _ _ _ hd.1,put_over]
   have e1:upN u (k+0) v k=v:=by simp [upN]
   rw [e1]
   exact putAll_congr l _ _ _ _ (fun j hj=>by unfold upN;rw [if_neg (by omega)])
 | x :: l,a,k,i+1,o,u,v,hd,e=>by
   simp only [dstOk,Bool.and_eq_true] at hd
   unfold putAll
   rw [putAll_up l _ (k+1) i o u v hd.2 (by simpa using e)]
   have e1:upN u (k+(i+1)) v k=u k:=by unfold upN;rw [if_neg (by omega)]
   rw [e1,show k+1+i=k+(i+1) by omega]
theorem countP_lt {α:Type} (p q:α→Bool):∀ (l:List α),(∀ x∈l,q x=true→p x=true)→(∃ x∈l,p x=true∧q x=false)→l.countP q < l.countP p
 | [],_,h=>by obtain ⟨x,hx,_⟩:=h;cases hx
 | y :: l,h1,h2=>by
   have le:∀ (l:List α),(∀ x∈l,q x=true→p x=true)→l.countP q≤l.countP p:=fun l h=>List.countP_mono_left h
   rw [List.countP_cons,List.countP_cons]
   obtain ⟨x,hx,hp,hq⟩:=h2
   rcases List.mem_cons.1 hx with rfl | hx
   ·have:=le l (fun z hz=>h1 z (List.mem_cons_of_mem _ hz))
    simp [hp,hq];omega
   ·have:=countP_lt p q l (fun z hz=>h1 z (List.mem_cons_of_mem _ hz)) ⟨x,hx,hp,hq⟩
    have h3:=h1 y (List.mem_cons_self ..)
    cases hy:q y
    ·simp;split <;> omega
    ·simp [h3 hy];omega
def left (n:Nat) (listed:Array Bool):Nat:=(List.range n).countP fun i=>!listed.getD i true
theorem getD_any {listed:Array Bool} {i:Nat} (h:i < listed.size) (x y:Bool):listed.getD i x=listed.getD i y:=by simp [h]
theorem wpAny_inv {a0:Act} {l:List Oper} (F:(Nat→Bool)→(Nat→Value)→World→Prop) (hd:dstOk l=true) (hb:backOk l 0=true)
 (hstep:allOps (fun i o=>∀ d u w,F d u w→d i=false→(∀ j,(predsOf o).contains j=true→d j=true)→Walled (o.wp P (putAll a0 l 0 u) w (fun a' w'=>∃ v,a'=(putAll a0 l 0 u).put o.dst v∧F (upN d i true) (upN u i v) w') Q)) l 0)
 (hend:∀ d u w,F d u w→(∀ i,i < l.length→d i=true)→Q .normal (putAll a0 l 0 u) w) :
 ∀ (fuel:Nat) (listed:Array Bool) (a:Act) (w:World),listed.size=l.length→left l.length listed≤fuel→(∃ u,a=putAll a0 l 0 u∧F (fun i=>listed.getD i false) u w)→wpAny P .any l.toArray Q fuel listed a w:=by
 have hfin:∀ (listed:Array Bool) (a:Act) (w:World),listed.size=l.length→(∃ u,a=putAll a0 l 0 u∧F (fun i=>listed.getD i false) u w)→Region.ready .any l.toArray listed=[]→Q .normal a w:=by
  intro listed a w hs ⟨u,ha,hF⟩ hr
  subst ha
  refine hend _ u w hF (fun i hi=>?_)
  induction i using Nat.strongRecOn with
  | _ i ih =>
    cases hx:listed.getD i false with
    | true=>rfl
    | false =>
      exfalso
      have ho:l[i]? = some l[i]:=List.getElem?_eq_getElem hi
      have:i∈Region.ready .any l.toArray listed:=by
       rw [mem_ready]
       refine ⟨by rw [getD_any (by omega) true false];exact hx,l[i],by simp,?_⟩
       intro e he hbe
       have hj:e.on∈predsOf l[i]:=List.mem_map.2 ⟨e,List.mem_filter.2 ⟨by simpa using he,hbe⟩,rfl⟩
       have h1:=(backOk_at hb ho).1 _ hj
       rw [Nat.zero_add] at h1
       exact ih e.on h1 (by omega)
      rw [hr] at this
      cases this
 have hgo:∀ (i:Nat) (listed:Array Bool) (a:Act) (w:World),listed.size=l.length→(∃ u,a=putAll a0 l 0 u∧F (fun i=>listed.getD i false) u w)→i∈Region.ready .any l.toArray listed →
  wpOp P l.toArray Q i (fun a' w'=>∃ u,a'=putAll a0 l 0 u∧F (fun j=>(listed.setIfInBounds i true).getD j false) u w') a w:=by
  intro i listed a w hs ⟨u,ha,hF⟩ hi
  subst ha
  obtain ⟨hj,o,ho,hall⟩:=mem_ready.1 hi
  have ho':l[i]? = some o:=by simpa using ho
  have hlt:i < l.length:=(List.getElem?_eq_some_iff.1 ho').1
  unfold wpOp
  simp only [ho]
  have hw:Region.wanted o (yielded l.toArray (putAll a0 l 0 u).tmps)=true:=by
   have:=(backOk_at hb ho').2
   simp [Region.wanted,this]
  rw [if_pos hw]
  left
  have h1:=allOps_at hstep ho'
  rw [Nat.zero_add] at h1
  have h2:=h1 _ u w hF (by rw [getD_any (by omega) false true];exact hj) (fun j hj=>by
   have hm:j∈predsOf o:=by simpa using hj
   obtain ⟨e,he,rfl⟩:=List.mem_map.1 hm
   obtain ⟨h3,h4⟩:=List.mem_filter.1 he
   exact hall e (by simpa using h3) h4)
  refine Oper.wp_mono ?_ h2.out
  rintro a' w' ⟨v,rfl,hF'⟩
  refine ⟨upN u i v,?_,?_⟩
  ·have:=putAll_up l a0 0 i o u v hd ho'
   rw [Nat.zero_add] at this
   exact this
  ·have e:(fun j=>(listed.setIfInBounds i true).getD j false)=upN (fun j=>listed.getD j false) i true:=by
    funext j
    unfold upN
    by_cases hji:j=i
    ·subst hji
     rw [if_pos rfl]
     simp [hs,hlt]
    ·rw [if_neg hji,getD_set_ne false (Ne.symm hji)]
   rw [e]
   exact hF'
 intro fuel
 induction fuel with
 | zero =>
   intro listed a w hs hl h
   have hr:Region.ready .any l.toArray listed=[]:=by
    cases hx:Region.ready .any l.toArray listed with
    | nil=>rfl
    | cons i t =>
      exfalso
      have hi:i∈Region.ready .any l.toArray listed:=by rw [hx];exact List.mem_cons_self ..
      obtain ⟨hj,o,ho,-⟩:=mem_ready.1 hi
      have hlt:i < l.length:=(List.getElem?_eq_some_iff.1 (show l[i]? = some o by simpa using ho)).1
      have:0 < left l.length listed:=List.countP_pos_iff.2 ⟨i,List.mem_range.2 hlt,by simpa using hj⟩
      omega
   exact ⟨hr,hfin listed a w hs h hr⟩
 | succ fuel ih =>
   intro listed a w hs hl h
   refine ⟨fun hr=>hfin listed a w hs h hr,fun i hi=>?_⟩
   refine wpOp_mono ?_ (hgo i listed a w hs h hi)
   intro a' w' h'
   refine ih _ a' w' (by simpa using hs) ?_ h'
   obtain ⟨hj,o,ho,-⟩:=mem_ready.1 hi
   have hlt:i < l.length:=(List.getElem?_eq_some_iff.1 (show l[i]? = some o by simpa using ho)).1
   have:left l.length (listed.setIfInBounds i true) < left l.length listed:=by
    unfold left
    refine countP_lt _ _ _ (fun x hx hq=>?_) ⟨i,List.mem_range.2 hlt,by simpa using hj,by simp [hs,hlt]⟩
    by_cases hxi:x=i
    ·subst hxi;simp [hs,hlt] at hq
    ·rw [getD_set_ne true (Ne.symm hxi)] at hq;exact hq
   omega
theorem wp_region_inv {id:Nat} {a0:Act} {w0:World} {l:List Oper} (F:(Nat→Bool)→(Nat→Value)→World→Prop) (u0:Nat→Value)
 (hm:P.follows .mixedOrders=true) (hc:(dstOk l && backOk l 0)=true) (ha:putAll a0 l 0 u0=a0) (h0:F (fun _=>false) u0 w0.drew)
 (hstep:allOps (fun i o=>∀ d u w,F d u w→d i=false→(∀ j,(predsOf o).contains j=true→d j=true)→Walled (o.wp P (putAll a0 l 0 u) w (fun a' w'=>∃ v,a'=(putAll a0 l 0 u).put o.dst v∧F (upN d i true) (upN u i v) w') Q)) l 0)
 (hend:∀ d u w,F d u w→(∀ i,i < l.length→d i=true)→Q .normal (putAll a0 l 0 u) w):(Code.region id l.toArray true).wp P Q a0 w0:=by
 rw [Bool.and_eq_true] at hc
 refine wp_region_any hm (wpAny_inv F hc.1 hc.2 hstep hend l.toArray.size _ a0 _ (by simp) ?_ ⟨u0,ha.symm,?_⟩)
 ·unfold left
  refine Nat.le_trans List.countP_le_length ?_
  simp
 ·have e:(fun i=>(Array.replicate l.toArray.size false).getD i false)=fun _=>false:=by
   funext i
   rw [Array.getD_eq_getD_getElem?,Array.getElem?_replicate]
   split <;> rfl
  rw [e]
  exact h0
end
end Go.Proofs.YtccdhcempnkgaaaGreatDoor
namespace Go.Proofs.YtccdhcempnkgaaaGreatDoor
open Go.RowKit
set_option linter.unusedVariables false
set_option linter.unusedSimpArgs false
def RoomM (w:World) (a:Option Addr) (m:Nat):Prop:=m=0∨∃ g off,a=some ⟨g,off,none⟩∧∀ j,j < 3*m→(∃ u,w.cell? ⟨g,off+j,none⟩=some u)∧w.frozen? ⟨g,off+j,none⟩=false
def Marked (w:World) (a:Option Addr) (m:Nat) (n:Int):Prop:=m=0∨∃ g off,a=some ⟨g,off,none⟩∧∀ j,j < 3*m→w.cell? ⟨g,off+j,none⟩=some (.int .i64 (n+j))
def Wrote (w w':World) (a:Option Addr):Prop:=w.grownBy w' (a.map Addr.block)
theorem set3 {w:World} {g o:Nat} {u0 u1 u2 v0 v1 v2:Value} (h0:w.cell? ⟨g,o,none⟩=some u0) (h1:w.cell? ⟨g,o+1,none⟩=some u1) (h2:w.cell? ⟨g,o+2,none⟩=some u2) (W:World)
 (hW:W=((w.setCell ⟨g,o,none⟩ v0).setCell ⟨g,o+1,none⟩ v1).setCell ⟨g,o+2,none⟩ v2) :
 W.cell? ⟨g,o,none⟩=some v0∧W.cell? ⟨g,o+1,none⟩=some v1∧W.cell? ⟨g,o+2,none⟩=some v2∧(∀ j,j≠o→j≠o+1→j≠o+2→W.cell? ⟨g,j,none⟩=w.cell? ⟨g,j,none⟩)∧(∀ p,W.frozen? p=w.frozen? p)∧w.grownBy W (some g):=by
 subst hW
 have d1:(w.setCell ⟨g,o,none⟩ v0).cell? ⟨g,o+1,none⟩=some u1:=by rw [World.cell?_setCell_other _ _ _ _ (by simp)];exact h1
 have d2:((w.setCell ⟨g,o,none⟩ v0).setCell ⟨g,o+1,none⟩ v1).cell? ⟨g,o+2,none⟩=some u2:=by rw [World.cell?_setCell_other _ _ _ _ (by simp),World.cell?_setCell_other _ _ _ _ (by simp)];exact h2
 refine ⟨?_,?_,?_,fun j j0 j1 j2=>?_,fun p=>by simp,?_⟩
 ·rw [World.cell?_setCell_other _ _ _ _ (by simp),World.cell?_setCell_other _ _ _ _ (by simp)]
  exact World.cell?_setCell_same _ _ _ h0
 ·rw [World.cell?_setCell_other _ _ _ _ (by simp)]
  exact World.cell?_setCell_same _ _ _ d1
 ·exact World.cell?_setCell_same _ _ _ d2
 ·rw [World.cell?_setCell_other _ _ _ _ (by simp [j2]),World.cell?_setCell_other _ _ _ _ (by simp [j1]),World.cell?_setCell_other _ _ _ _ (by simp [j0])]
 ·refine ⟨rfl,rfl,rfl,by simp [World.setCell],fun k hk hne=>?_⟩
  have hkg:k≠g:=fun e=>hne (by rw [e])
  rw [Deep.blk_setCell_other _ _ _ _ hkg,Deep.blk_setCell_other _ _ _ _ hkg,Deep.blk_setCell_other _ _ _ _ hkg]
set_option maxHeartbeats 4000000 in
theorem markLineS_k (a:Option Addr) (m cap:Nat) (n:Int) (w:World) (hr:RoomM w a m) (hm:m≤1048576) (hn0:0≤n) (hn1:n≤1000000000) :
 Calls Tryz.prog 58 #[.slice a m cap,.int .i64 n] w fun e w'=>e=.returned (.int .i64 (n+3*m))∧Marked w' a m n∧Wrote w w' a∧(∀ p,w'.frozen? p=w.frozen? p):=by
 by_cases h0:m=0
 ·subst h0
  go_enter Tryz.func58,Tryz.ntmps58
  go_wp2_with fail
  refine wp_loop_rounds 1 ?_
  rw [rounds_succ]
  go_wp2_with fail
  go_ret
  exact ⟨by simp,Or.inl rfl,⟨rfl,rfl,rfl,Nat.le_refl _,fun _ _ _=>rfl⟩,fun _=>rfl⟩
 ·rcases hr with hr | ⟨g,off,rfl,hr⟩
  ·exact absurd hr h0
  have HR:=hide hr
  clear hr h0
  go_enter Tryz.func58,Tryz.ntmps58
  go_wp2_with fail
  go_loopw [1,5] (fun x y wr=>∃ k:Nat,k≤m∧x=.int .i64 (n+3*k)∧y=.int .i64 (k:Int)∧Hid (∀ j,j < 3*m→∃ u,wr.cell? ⟨g,off+j,none⟩=some u)∧Hid (∀ j,j < 3*k→wr.cell? ⟨g,off+j,none⟩=some (.int .i64 (n+j)))∧Hid (∀ p,wr.frozen? p=w.frozen? p)∧Hid (w.grownBy wr (some g))) (fun _ y _=>m-(intOf y).toNat)
  case atStart=>exact ⟨0,by omega,by simp,rfl,fun j hj=>(HR.out j hj).1,fun j hj=>absurd hj (by omega),fun _=>rfl,⟨rfl,rfl,rfl,Nat.le_refl _,fun _ _ _=>rfl⟩⟩
  case round =>
   obtain ⟨k,hk,rfl,rfl,HC,HM,HF,HG⟩:=hrel
   by_cases hlt:k < m
   ·obtain ⟨u0,c0⟩:=HC.out (k*3) (by omega)
    obtain ⟨u1,c1⟩:=HC.out (k*3+1) (by omega)
    obtain ⟨u2,c2⟩:=HC.out (k*3+2) (by omega)
    rw [← Nat.add_assoc] at c1 c2
    have f0:wr.frozen? ⟨g,off+k*3,none⟩=false:=by rw [HF.out];exact (HR.out (k*3) (by omega)).2
    have f1:wr.frozen? ⟨g,off+k*3+1,none⟩=false:=by rw [HF.out];exact (HR.out (k*3+1) (by omega)).2
    have f2:wr.frozen? ⟨g,off+k*3+2,none⟩=false:=by rw [HF.out];exact (HR.out (k*3+2) (by omega)).2
    have HS:=hide (fun W hW=>set3 (v0:=.int .i64 (n+3*k)) (v1:=.int .i64 (n+3*k+1)) (v2:=.int .i64 (n+3*k+1+1)) c0 c1 c2 W hW)
    go_wp2_with fail
    go_roundw
    case rel =>
     obtain ⟨s0,s1,s2,so,sf,sg⟩:=HS.out _ rfl
     refine ⟨k+1,by omega,by congr 1;omega,by go_num,?_,?_,?_,HG.out.trans sg⟩
     ·intro j hj
      by_cases e0:j=k*3
      ·subst e0;exact ⟨_,s0⟩
      ·by_cases e1:j=k*3+1
       ·subst e1;exact ⟨_,by rw [← Nat.add_assoc];exact s1⟩
       ·by_cases e2:j=k*3+2
        ·subst e2;exact ⟨_,by rw [← Nat.add_assoc];exact s2⟩
        ·rw [so (off+j) (by omega) (by omega) (by omega)]
         exact HC.out j hj
     ·intro j hj
      by_cases e0:j=k*3
      ·subst e0;rw [s0];congr 2;omega
      ·by_cases e1:j=k*3+1
       ·subst e1;rw [← Nat.add_assoc,s1];congr 2;omega
       ·by_cases e2:j=k*3+2
        ·subst e2;rw [← Nat.add_assoc,s2];congr 2;omega
        ·rw [so (off+j) (by omega) (by omega) (by omega)]
         exact HM.out j (by omega)
     ·intro p
      rw [sf];exact HF.out p
    case measure=>simp [intOf];omega
   ·have e:k=m:=by omega
    subst e
    go_wp2_with fail
    go_ret
    exact ⟨rfl,Or.inr ⟨g,off,rfl,HM.out⟩,HG.out,HF.out⟩
set_option maxHeartbeats 4000000 in
theorem heldLineS_k (a:Option Addr) (m cap:Nat) (n:Int) (w:World) (hr:Marked w a m n) (hm:m≤1048576) (hn0:0≤n) (hn1:n≤1000000000) :
 Calls Tryz.prog 62 #[.slice a m cap,.int .i64 n] w fun e w'=>e=.returned (.int .i64 (n+3*m))∧w'=w:=by
 by_cases h0:m=0
 ·subst h0
  go_enter Tryz.func62,Tryz.ntmps62
  go_wp2_with fail
  refine wp_loop_rounds 1 ?_
  rw [rounds_succ]
  go_wp2_with fail
  go_ret
  exact ⟨by simp,rfl⟩
 ·rcases hr with hr | ⟨g,off,rfl,hr⟩
  ·exact absurd hr h0
  have HR:=hide hr
  clear hr h0
  go_enter Tryz.func62,Tryz.ntmps62
  go_wp2_with fail
  go_loop [1,5] (fun x y=>∃ k:Nat,k≤m∧x=.int .i64 (n+3*k)∧y=.int .i64 (k:Int)) (fun _ y=>m-(intOf y).toNat)
  case atStart=>exact ⟨0,by omega,by simp,rfl⟩
  case round =>
   obtain ⟨k,hk,rfl,rfl⟩:=hrel
   by_cases hlt:k < m
   ·have c0:=HR.out (k*3) (by omega)
    have c1:=HR.out (k*3+1) (by omega)
    have c2:=HR.out (k*3+2) (by omega)
    rw [← Nat.add_assoc] at c1 c2
    rw [show n+((k*3:Nat):Int)=n+3*k by omega] at c0
    rw [show n+((k*3+1:Nat):Int)=n+3*k+1 by omega] at c1
    rw [show n+((k*3+2:Nat):Int)=n+3*k+1+1 by omega] at c2
    go_wp2_with fail
    go_round
    case rel=>exact ⟨k+1,by omega,by congr 1;omega,by go_num⟩
    case measure=>simp [intOf];omega
   ·have e:k=m:=by omega
    subst e
    go_wp2_with fail
    go_ret
    exact ⟨rfl,rfl⟩
end Go.Proofs.YtccdhcempnkgaaaGreatDoor
namespace Go.Proofs.YtccdhcempnkgaaaGreatDoor
open Go.RowKit Go.Deep
set_option linter.unusedVariables false
theorem born_alloc (w:World) (c:Array Value) (t:TypeId):Born w (w.alloc (.cells c t)) [(some ⟨w.heap.size,0,none⟩,c.toList)]:=by
 have hB:(w.alloc (.cells c t)).heap[w.heap.size]? = some (.cells c t (0,0)):=blk_alloc_new w _
 revert hB
 generalize w.alloc (.cells c t)=W
 intro hB
 refine ⟨⟨?_,?_,?_⟩,?_⟩
 ·intro s hs
  rw [List.mem_singleton.1 hs]
  refine Or.inr ⟨_,0,rfl,fun j hj=>?_⟩
  have hj':j < c.size:=by simpa using hj
  simp [World.cell?,hB,hj']
 ·by_cases h0:c.toList=[] <;> simp [fp,fpS,h0]
 ·intro b hb
  by_cases h0:c.toList=[]
  ·simp [fp,fpS,h0] at hb
  ·simp [fp,fpS,h0] at hb
   subst hb
   intro o
   simp [World.frozen?,hB]
 ·intro b hb
  by_cases h0:c.toList=[]
  ·simp [fp,fpS,h0] at hb
  ·simp [fp,fpS,h0] at hb
   omega
theorem cell_at {w:World} {b:Nat} {xs:List Value} (h:Mem w [(some ⟨b,0,none⟩,xs)]) (j:Nat) (hj:j < xs.length):w.cell? ⟨b,0+j,none⟩=some xs[j]:=by
 have h':=h (some ⟨b,0,none⟩,xs) (by simp)
 rcases h' with h' | ⟨g,off,e,h'⟩
 ·have:xs=[]:=h'
  subst this
  simp at hj
 ·have e':=Option.some.inj e
  injection e' with e1 e2
  subst e1 e2
  exact h' j hj
end Go.Proofs.YtccdhcempnkgaaaGreatDoor
namespace Go.Proofs.YtccdhcempnkgaaaGreatDoor
open Go.RowKit Go.Deep
set_option linter.unusedVariables false
attribute [local go_sem ↓] Go.wp_at_zero Go.wp_at_succ
theorem flat_nil {M:List Ln}:flat M=[]↔M=[]:=by
 constructor
 ·intro h
  have:=flat_length M
  rw [h] at this
  exact List.length_eq_zero_iff.1 (by simp at this;omega)
 ·rintro rfl;rfl
end Go.Proofs.YtccdhcempnkgaaaGreatDoor
namespace Go.Proofs.YtccdhcempnkgaaaGreatDoor
open Go.RowKit Go.Deep
set_option linter.unusedVariables false
def mkL (n:Int):Nat→List Ln
 | 0=>[]
 | m+1=>⟨n,n+1,n+2⟩ :: mkL (n+3) m
theorem mkL_len:∀ (m:Nat) (n:Int),(mkL n m).length=m
 | 0,_=>rfl
 | m+1,n=>by rw [mkL,List.length_cons,mkL_len m]
theorem mkL_at:∀ (m:Nat) (n:Int) (j:Nat),j < 3*m→(flat (mkL n m))[j]? = some (.int .i64 (n+j))
 | 0,_,j,h=>absurd h (by omega)
 | m+1,n,j,h=>by
   have e:flat (mkL n (m+1))=.int .i64 n :: .int .i64 (n+1) :: .int .i64 (n+2) :: flat (mkL (n+3) m):=by simp [mkL,flat,Ln.cells]
   rw [e]
   match j,h with
   | 0,_=>simp
   | 1,_=>simp
   | 2,_=>simp
   | j+3,h =>
     simp only [List.getElem?_cons_succ]
     rw [mkL_at m (n+3) j (by omega)]
     congr 2
     omega
theorem marked_cells {w:World} {a:Option Addr} {m:Nat} {n:Int} (h:Marked w a m n):Cells w a (flat (mkL n m)):=by
 rcases h with rfl | ⟨g,off,rfl,h⟩
 ·exact Or.inl rfl
 ·refine Or.inr ⟨g,off,rfl,fun j hj=>?_⟩
  have hj':j < 3*m:=by rw [flat_length,mkL_len] at hj;exact hj
  have e:=mkL_at m n j hj'
  rw [List.getElem?_eq_getElem hj] at e
  rw [h j hj']
  exact e.symm
theorem cells_marked {w:World} {a:Option Addr} {m:Nat} {n:Int} (h:Cells w a (flat (mkL n m))):Marked w a m n:=by
 rcases h with h | ⟨g,off,rfl,h⟩
 ·left
  have:=flat_nil.1 h
  have e:=mkL_len m n
  rw [this] at e
  exact e.symm
 ·refine Or.inr ⟨g,off,rfl,fun j hj=>?_⟩
  have hj':j < (flat (mkL n m)).length:=by rw [flat_length,mkL_len];exact hj
  have e:=mkL_at m n j hj
  rw [List.getElem?_eq_getElem hj'] at e
  rw [h j hj']
  exact e
theorem markLineS_o (a:Option Addr) (cap:Nat) (L:List Ln) (n:Int) (w:World) (h:Own w [(a,flat L)]) (hl:L.length≤1048576) (hn0:0≤n) (hn1:n≤1000000000) :
 Calls Tryz.prog 58 #[.slice a L.length cap,.int .i64 n] w fun e w'=>e=.returned (.int .i64 (n+3*L.length))∧Own w' [(a,flat (mkL n L.length))]∧Turn (fp [(a,flat L)]) w w':=by
 by_cases h00:L=[]
 ·subst h00
  have HO:=hide h
  clear h
  go_enter Tryz.func58,Tryz.ntmps58
  go_wp2_with fail
  refine wp_loop_rounds 1 ?_
  rw [rounds_succ]
  go_wp2_with fail
  go_ret
  exact ⟨by simp,HO.out,Turn.refl _ _⟩
 have hfp:fp [(a,flat L)]=fp [(a,flat (mkL n L.length))]:=by
  rw [fp_one,fp_one]
  exact fpS_len (by rw [flat_length,flat_length,mkL_len])
 have hroom:RoomM w a L.length:=by
  by_cases h0:L=[]
  ·left;rw [h0];rfl
  ·rcases h.one with h' | ⟨g,off,rfl,h'⟩
   ·exact absurd (flat_nil.1 h') h0
   ·refine Or.inr ⟨g,off,rfl,fun j hj=>⟨⟨_,h' j (by rw [flat_length];exact hj)⟩,h.free g ?_ _⟩⟩
    rw [fp_one,fpS_some (fun e=>h0 (flat_nil.1 e))]
    simp
 refine (markLineS_k a L.length cap n w hroom hl hn0 hn1).mono ?_
 rintro e w' ⟨he,hm,hw,hf⟩
 refine ⟨he,⟨?_,?_,?_⟩,?_⟩
 ·intro s hs
  rw [List.mem_singleton.1 hs]
  exact marked_cells hm
 ·rw [← hfp];exact h.nd
 ·rw [← hfp]
  intro b hb o
  rw [hf]
  exact h.free b hb o
 ·rcases h.one with h' | ⟨g,off,rfl,h'⟩
  ·exact absurd (flat_nil.1 h') h00
  ·exact Turn.of_grown hw (fun k hk=>by rw [fp_one,fpS_some (fun e=>h00 (flat_nil.1 e))];simp at hk;simp [hk])
theorem heldLineS_o (a:Option Addr) (cap m:Nat) (n:Int) (w:World) (h:Cells w a (flat (mkL n m))) (hl:m≤1048576) (hn0:0≤n) (hn1:n≤1000000000) :
 Calls Tryz.prog 62 #[.slice a m cap,.int .i64 n] w fun e w'=>e=.returned (.int .i64 (n+3*m))∧w'=w:=heldLineS_k a m cap n w (cells_marked h) hl hn0 hn1
theorem markPosting_o (id:Int) (a:Option Addr) (cap:Nat) (L:List Ln) (n:Int) (w:World) (h:Own w [(a,flat L)]) (hl:L.length≤1048576) (hn0:0≤n) (hn1:n≤1000000000) :
 Calls Tryz.prog 13 #[.agg #[.int .i64 id,.slice a L.length cap],.int .i64 n] w fun e w'=>e=.returned (.int .i64 (n+3*L.length))∧Own w' [(a,flat (mkL n L.length))]∧Turn (fp [(a,flat L)]) w w':=by
 have hk:Keeps w (w.alloc (.cells #[.int .i64 id,.slice a L.length cap] 37)):=Keeps.alloc (Keeps.refl _) _
 have HQ:=hide (markLineS_o a cap L n _ (h.kept hk) hl hn0 hn1)
 have HK:=hide hk
 clear hk h
 go_enter Tryz.func13,Tryz.ntmps13
 go_wp2_with fail
 refine (unhide HQ).mono ?_
 rintro e w1 ⟨rfl,ho,ht⟩
 have HO:=hide ho
 have HT:=hide ht
 clear ho ht
 go_wp2_with fail
 go_ret
 exact ⟨rfl,HO.out,((Turn.of_keeps HK.out []).trans HT.out).mono (by simp)⟩
theorem eqPosting_o (id:Int) (a a':Option Addr) (cap cap':Nat) (L:List Ln) (w:World) (hc:Cells w a (flat L)) (hc':Cells w a' (flat L)) (hl:L.length≤1048576) :
 Calls Tryz.prog 11 #[.agg #[.int .i64 id,.slice a L.length cap],.agg #[.int .i64 id,.slice a' L.length cap']] w fun e w'=>e=.returned (.bool true)∧Keeps w w':=by
 have h:=eqPosting_k id id a a' cap cap' L L w hc hc' hl hl
 have e:(decide (id=id) && lsEq L L)=true:=by rw [lsEq_self];simp
 rw [e] at h
 exact h
end Go.Proofs.YtccdhcempnkgaaaGreatDoor
