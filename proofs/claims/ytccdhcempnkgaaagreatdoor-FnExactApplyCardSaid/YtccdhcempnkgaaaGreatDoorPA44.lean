/- Texts of the verifier, joined: Ap, BgB. -/
import Derived.Test.YtccdhcempnkgaaaGreatDoorPA36
import Derived.Test.YtccdhcempnkgaaaGreatDoorPA43
import Derived.Test.YtccdhcempnkgaaaGreatDoorPA5
import Derived.Test.YtccdhcempnkgaaaGreatDoorPA6
import Derived.Test.YtccdhcempnkgaaaGreatDoorPA7
import Derived.Test.YtccdhcempnkgaaaGreatDoorPA8
import Derived.Deep.Cut
namespace Go.Proofs.YtccdhcempnkgaaaGreatDoor
open Go.RowKit Go.Deep
set_option linter.unusedVariables false
set_option linter.unusedSimpArgs false
set_option maxRecDepth 10000
structure Aw where
 B:Bo
 i:Int
 a:Option Addr
 cap:Nat
 L:List Ln
 c:Int
def Aw.v (x:Aw):Value:=.tuple #[x.B.v,.agg #[.int .i64 x.i,.slice x.a x.L.length x.cap],.int .i64 x.c]
def Aw.segs (x:Aw):List Seg:=x.B.segs++[(x.a,flat x.L)]
structure Ad where
 B:Bk
 i:Int
 L:List Ln
 c:Int
def Aw.d (x:Aw):Ad:=⟨x.B.d,x.i,x.L,x.c⟩
theorem Aw.same {x y:Aw} (hv:x.v=y.v) (hd:x.d=y.d):x=y:=by
 obtain ⟨⟨tk,nx,wa,ca,cc,C,ha,hc,Hs,ra,rc,R⟩,i,a,cap,L,c⟩:=x
 obtain ⟨⟨tk',nx',wa',ca',cc',C',ha',hc',Hs',ra',rc',R'⟩,i',a',cap',L',c'⟩:=y
 simp only [Aw.d,Bo.d,Ad.mk.injEq,Bk.mk.injEq] at hd
 simp only [Aw.v,Bo.v,Value.tuple.injEq,Array.mk.injEq,List.cons.injEq,Value.agg.injEq,Value.slice.injEq] at hv
 obtain ⟨⟨rfl,rfl,rfl,rfl,rfl,rfl⟩,rfl,rfl,rfl⟩:=hd
 obtain ⟨⟨-,-,-,⟨rfl,-,rfl⟩,⟨rfl,-,rfl⟩,⟨rfl,-,rfl⟩,-⟩,⟨-,⟨rfl,-,rfl⟩,-⟩,-⟩:=hv
 rfl
abbrev ptrV (V:Nat):Value:=.pointer (some ⟨V,0,none⟩)
theorem ptrV_inj {V V':Nat} (h:ptrV V=ptrV V'):V=V':=by
 simp only [ptrV,Value.pointer.injEq,Option.some.injEq,Addr.mk.injEq] at h
 exact h.1
def bkRow (B:Bo):Nat→Value:=row6 (.int .i64 B.tk) (.int .i64 B.nx) (.int .i64 B.wa) (.slice B.ca B.C.length B.cc) (.slice B.ha B.Hs.length B.hc) (.slice B.ra B.R.length B.rc)
theorem rowX {w:World} {b:Nat} {t:TypeId} {f:Nat→Value} (h:w.rowIs b t 6 f) (B:Bo):((((((w.setCell ⟨b,0,none⟩ (.int .i64 B.tk)).setCell ⟨b,1,none⟩ (.int .i64 B.nx)).setCell ⟨b,2,none⟩ (.int .i64 B.wa)).setCell ⟨b,3,none⟩ (.slice B.ca B.C.length B.cc)).setCell ⟨b,4,none⟩ (.slice B.ha B.Hs.length B.hc)).setCell ⟨b,5,none⟩ (.slice B.ra B.R.length B.rc)).rowIs b t 6 (bkRow B) :=
 ((((((h.set 0 _).set 1 _).set 2 _).set 3 _).set 4 _).set 5 _).congr (fun i hi=>by
 match i,hi with
 | 0,_=>rfl
 | 1,_=>rfl
 | 2,_=>rfl
 | 3,_=>rfl
 | 4,_=>rfl
 | 5,_=>rfl)
def pgRow (x:Aw):Nat→Value:=rw2 (.int .i64 x.i) (.slice x.a x.L.length x.cap)
theorem owns_seg {w:World} {base n c:Nat} {a:Option Addr} {e:TypeId} {sz:Nat} {xs:List Value} (h:w.ownsRow base e sz (.slice a n c) n xs):Own w [(a,xs)]∧(∀ b∈fp [(a,xs)],base≤b)∧(∀ b∈fp [(a,xs)],b∈lb a)∧(a=none→c=0)∧n≤c:=by
 obtain ⟨a',cap',e1,h1,_,h3,h4,h5⟩:=Own.of_owns h
 injection e1 with e2 _ e4
 subst e2 e4
 refine ⟨h4,h5,fun b hb=>?_,h3,h1⟩
 rw [fp_one] at hb
 unfold fpS at hb
 split at hb
 ·cases hb
 ·cases a with
  | none=>cases hb
  | some p=>simpa [lb] using hb
theorem ApplyR.born {w w':World} {B:Bo} {a:Option Addr} {cap:Nat} {L:List Ln} (h:ApplyR w w' B a cap L):Born w w' (B.segs++[(a,flat L)])∧B.fit:=by
 obtain ⟨c1,c2,c3,c4,c5⟩:=owns_seg h.oC
 obtain ⟨h1,h2,h3,h4,h5⟩:=owns_seg h.oH
 obtain ⟨r1,r2,r3,r4,r5⟩:=owns_seg h.oR
 obtain ⟨l1,l2,l3,-,-⟩:=owns_seg h.oL
 refine ⟨⟨?_,?_⟩,c4,h4,r4,c5,h5,r5⟩
 ·have e:B.segs++[(a,flat L)]=[(B.ca,chs B.C)]++([(B.ha,hts B.Hs)]++([(B.ra,crs B.R)]++[(a,flat L)])):=rfl
  rw [e]
  refine c1.append (h1.append (r1.append l1 ?_) ?_) ?_
  ·intro b hb hb'
   exact (h.dL b (l3 b hb')).2.2 (r3 b hb)
  ·intro b hb hb'
   rw [fp_append] at hb'
   rcases List.mem_append.1 hb' with hb' | hb'
   ·exact h.dH b (h3 b hb) (r3 b hb')
   ·exact (h.dL b (l3 b hb')).2.1 (h3 b hb)
  ·intro b hb hb'
   rw [fp_append] at hb'
   rcases List.mem_append.1 hb' with hb' | hb'
   ·exact (h.dC b (c3 b hb)).1 (h3 b hb')
   ·rw [fp_append] at hb'
    rcases List.mem_append.1 hb' with hb' | hb'
    ·exact (h.dC b (c3 b hb)).2 (r3 b hb')
    ·exact (h.dL b (l3 b hb')).1 (c3 b hb)
 ·intro b hb
  have e:B.segs++[(a,flat L)]=[(B.ca,chs B.C)]++([(B.ha,hts B.Hs)]++([(B.ra,crs B.R)]++[(a,flat L)])):=rfl
  rw [e,fp_append,fp_append,fp_append] at hb
  rcases List.mem_append.1 hb with hb | hb
  ·exact c2 b hb
  ·rcases List.mem_append.1 hb with hb | hb
   ·exact h2 b hb
   ·rcases List.mem_append.1 hb with hb | hb
    ·exact r2 b hb
    ·exact l2 b hb
theorem own_rowN {w:World} {V:Nat} {t:TypeId} {n:Nat} {f:Nat→Value} (h:w.rowIs V t n f) (cs:List Value) (hn:cs.length=n) (hf:∀ j (hj:j < cs.length),f j=cs[j]):Own w [(some ⟨V,0,none⟩,cs)]:=by
 have hx:∀ b∈fp [((some ⟨V,0,none⟩:Option Addr),cs)],b=V:=fun b hb=>by
  rw [fp_one] at hb
  unfold fpS at hb
  split at hb
  ·cases hb
  ·simpa using hb
 refine ⟨fun s hs=>?_,?_,fun b hb o=>?_⟩
 ·rw [List.mem_singleton.1 hs]
  refine Or.inr ⟨V,0,rfl,fun j hj=>?_⟩
  have hj':j < cs.length:=hj
  rw [Nat.zero_add,h.cell (by omega),hf j hj']
 ·rw [fp_one]
  unfold fpS
  split <;> simp
 ·rw [hx b hb];exact h.frozen o
theorem fp_var {V b:Nat} {cs:List Value} (hb:b∈fp [((some ⟨V,0,none⟩:Option Addr),cs)]):b=V:=by
 rw [fp_one] at hb
 unfold fpS at hb
 split at hb
 ·cases hb
 ·simpa using hb
theorem own_bk {w:World} {V:Nat} {t:TypeId} {B:Bo} (h:w.rowIs V t 6 (bkRow B)):Own w [(some ⟨V,0,none⟩,[.int .i64 B.tk,.int .i64 B.nx,.int .i64 B.wa,.slice B.ca B.C.length B.cc,.slice B.ha B.Hs.length B.hc,.slice B.ra B.R.length B.rc])] :=
 own_rowN h _ rfl (fun j hj=>by
  rcases j with _ | _ | _ | _ | _ | _ | j
  ·rfl
  ·rfl
  ·rfl
  ·rfl
  ·rfl
  ·rfl
  ·exact absurd hj (by simp))
theorem own_pg {w:World} {V:Nat} {t:TypeId} {x:Aw} (h:w.rowIs V t 2 (pgRow x)):Own w [(some ⟨V,0,none⟩,[.int .i64 x.i,.slice x.a x.L.length x.cap])] :=
 own_rowN h _ rfl (fun j hj=>by
  rcases j with _ | _ | j
  ·rfl
  ·rfl
  ·exact absurd hj (by simp))
theorem heldPosting_o (id:Int) (a:Option Addr) (cap m:Nat) (n:Int) (w:World) (h:Cells w a (flat (mkL n m))) (hl:m≤1048576) (hn0:0≤n) (hn1:n≤1000000000) :
 Calls Tryz.prog 15 #[.agg #[.int .i64 id,.slice a m cap],.int .i64 n] w fun e w'=>e=.returned (.int .i64 (n+3*m))∧Keeps w w':=by
 have hk:Keeps w (w.alloc (.cells #[.int .i64 id,.slice a m cap] 37)):=Keeps.alloc (Keeps.refl _) _
 have HQ:=hide (heldLineS_o a cap m n _ (h.kept hk) hl hn0 hn1)
 have HK:=hide hk
 have hneg:¬ (n+3*(m:Int) < 0):=by omega
 clear hk h
 go_enter Tryz.func15,Tryz.ntmps15
 go_wp2_with fail
 refine (unhide HQ).mono ?_
 rintro e w1 ⟨rfl,rfl⟩
 go_wp2_with fail
 go_ret
 exact ⟨rfl,HK.out⟩
theorem ap_old {w:World} {S T:List Seg} (h:Mem w S) (hn:∀ b∈fp T,w.heap.size≤b):∀ b∈fp S,b∉fp T:=fun b hj hb=>by have:=h.lt b hj;have:=hn b hb;omega
theorem ap_new {w:World} {S T:List Seg} (h:Mem w S) (hn:∀ b∈fp T,w.heap.size≤b):∀ b∈fp T,b∉fp S:=fun b hb hj=>ap_old h hn b hj hb
theorem apsym {S T:List Seg} (h:∀ b∈fp S,b∉fp T):∀ b∈fp T,b∉fp S:=fun b h1 h2=>h b h2 h1
theorem nnN {a c:Nat} {T:List Seg} (h0:a≤c) (h:∀ b∈fp T,c≤b):∀ b∈fp T,a≤b:=fun b hb=>Nat.le_trans h0 (h b hb)
theorem nvN {w:World} {V n:Nat} {cs:List Value} (ho:Own w [(some ⟨V,0,none⟩,cs)]) (hV:n≤V):∀ b∈fp [((some ⟨V,0,none⟩:Option Addr),cs)],n≤b:=fun b hb=>by rw [fp_var hb];exact hV
theorem nvO {w:World} {V:Nat} {cs:List Value} {S:List Seg} (ho:Own w [(some ⟨V,0,none⟩,cs)]) (h:V∉fp S):∀ b∈fp S,b∉fp [((some ⟨V,0,none⟩:Option Addr),cs)]:=fun b h1 h2=>h (by rw [← fp_var h2];exact h1)
theorem nvP {w:World} {V V':Nat} {cs cs':List Value} (ho:Own w [(some ⟨V,0,none⟩,cs)]) (ho':Own w [(some ⟨V',0,none⟩,cs')]) (h:V≠V'):∀ b∈fp [((some ⟨V,0,none⟩:Option Addr),cs)],b∉fp [((some ⟨V',0,none⟩:Option Addr),cs')]:=fun b h1 h2=>h ((fp_var h1).symm.trans (fp_var h2))
structure ApF (w0 w:World) (bd:Bk) (ad:Ad) (dB dA:Bool) (uB uA:Value) (dP dQ sP sQ:Bool) (uP uQ:Value):Prop where
 keep:Keeps w0 w
 fB:dB=true→dA=false→∃ B:Bo,uB=B.v∧B.d=bd∧B.fit∧Mem w B.segs
 fA:dA=true→∃ x:Aw,uA=x.v∧x.d=ad∧Own w x.segs∧∀ b∈fp x.segs,w0.heap.size≤b
 fP:dP=true→∃ V,uP=ptrV V∧w0.heap.size≤V∧∃ f,w.rowIs V 34 6 f∧(sP=true→∀ x:Aw,uA=x.v→x.d=ad→f=bkRow x.B)
 fQ:dQ=true→∃ V,uQ=ptrV V∧w0.heap.size≤V∧∃ f,w.rowIs V 37 2 f∧(sQ=true→∀ x:Aw,uA=x.v→x.d=ad→f=pgRow x)
 gP:dA=true→dP=true→∀ (x:Aw) (V:Nat),uA=x.v→x.d=ad→uP=ptrV V→V∉fp x.segs
 gQ:dA=true→dQ=true→∀ (x:Aw) (V:Nat),uA=x.v→x.d=ad→uQ=ptrV V→V∉fp x.segs
 gR:dP=true→dQ=true→∀ (V V':Nat),uP=ptrV V→uQ=ptrV V'→V≠V'
 sA:sP=true→dA=true
 tA:sQ=true→dA=true
 wP:sP=true→dP=true
 wQ:sQ=true→dQ=true
section
variable {w0 w w':World} {bd:Bk} {ad:Ad} {dB dA:Bool} {uB uA:Value} {dP dQ sP sQ:Bool} {uP uQ:Value}
theorem ApF.start (w0:World) (bd:Bk) (ad:Ad) (uB uA uP uQ:Value):ApF w0 w0 bd ad false false uB uA false false false false uP uQ :=
 ⟨Keeps.refl _,nofun,nofun,nofun,nofun,nofun,nofun,nofun,nofun,nofun,nofun,nofun⟩
theorem ApF.kept (h:ApF w0 w bd ad dB dA uB uA dP dQ sP sQ uP uQ) (hk:Keeps w w'):ApF w0 w' bd ad dB dA uB uA dP dQ sP sQ uP uQ :=
 ⟨h.keep.trans hk,fun a b=>(h.fB a b).imp fun B hB=>⟨hB.1,hB.2.1,hB.2.2.1,hB.2.2.2.kept hk⟩,fun a=>(h.fA a).imp fun x hx=>⟨hx.1,hx.2.1,hx.2.2.1.kept hk,hx.2.2.2⟩,fun a=>(h.fP a).imp fun V hV=>⟨hV.1,hV.2.1,hV.2.2.imp fun f hf=>⟨hk.rowK hf.1,hf.2⟩⟩,fun a=>(h.fQ a).imp fun V hV=>⟨hV.1,hV.2.1,hV.2.2.imp fun f hf=>⟨hk.rowK hf.1,hf.2⟩⟩,h.gP,h.gQ,h.gR,h.sA,h.tA,h.wP,h.wQ⟩
theorem ApF.setB (h:ApF w0 w bd ad dB dA uB uA dP dQ sP sQ uP uQ) {B:Bo} (h1:B.d=bd) (h2:B.fit) (h3:Mem w B.segs):ApF w0 w bd ad true dA B.v uA dP dQ sP sQ uP uQ :=
 ⟨h.keep,fun _ _=>⟨B,rfl,h1,h2,h3⟩,h.fA,h.fP,h.fQ,h.gP,h.gQ,h.gR,h.sA,h.tA,h.wP,h.wQ⟩
theorem ApF.setA (h:ApF w0 w bd ad dB dA uB uA dP dQ sP sQ uP uQ) (hn:dA=false) {x:Aw} (h1:x.d=ad) (h2:Born w w' x.segs) (hk:Keeps w w'):ApF w0 w' bd ad dB true uB x.v dP dQ sP sQ uP uQ:=by
 have k:=h.kept hk
 have nP:sP=true→False:=fun e=>by have:=h.sA e;rw [hn] at this;cases this
 have nQ:sQ=true→False:=fun e=>by have:=h.tA e;rw [hn] at this;cases this
 refine ⟨k.keep,(fun _ e=>nomatch e),fun _=>⟨x,rfl,h1,h2.toOwn,fun b hb=>Nat.le_trans h.keep.size (h2.new b hb)⟩,fun a=>(k.fP a).imp fun V hV=>⟨hV.1,hV.2.1,hV.2.2.imp fun f hf=>⟨hf.1,fun e=>(nP e).elim⟩⟩,fun a=>(k.fQ a).imp fun V hV=>⟨hV.1,hV.2.1,hV.2.2.imp fun f hf=>⟨hf.1,fun e=>(nQ e).elim⟩⟩,?_,?_,k.gR,fun _=>rfl,fun _=>rfl,k.wP,k.wQ⟩
 ·intro _ hp y V e1 e2 e3 hb
  obtain ⟨V',e4,_,f,hf,_⟩:=h.fP hp
  have:=hf.lt
  have e5:=ptrV_inj (e4.symm.trans e3)
  have:=h2.new V (by rw [← Aw.same e1.symm (e2.trans h1.symm)];exact hb)
  omega
 ·intro _ hp y V e1 e2 e3 hb
  obtain ⟨V',e4,_,f,hf,_⟩:=h.fQ hp
  have:=hf.lt
  have e5:=ptrV_inj (e4.symm.trans e3)
  have:=h2.new V (by rw [← Aw.same e1.symm (e2.trans h1.symm)];exact hb)
  omega
theorem ApF.newP (h:ApF w0 w bd ad dB dA uB uA dP dQ sP sQ uP uQ) (hs:sP=false):ApF w0 (w.alloc (.cells #[.int .i64 0,.int .i64 0,.int .i64 0,.slice none 0 0,.slice none 0 0,.slice none 0 0] 34)) bd ad dB dA uB uA true dQ sP sQ (ptrV w.heap.size) uQ:=by
 have k:=h.kept (Keeps.alloc (Keeps.refl w) (.cells #[.int .i64 0,.int .i64 0,.int .i64 0,.slice none 0 0,.slice none 0 0,.slice none 0 0] 34))
 refine ⟨k.keep,k.fB,k.fA,fun _=>⟨_,rfl,h.keep.size,_,row6_alloc w _ _ _ _ _ _ _,fun e=>by rw [hs] at e;cases e⟩,k.fQ,?_,k.gQ,?_,k.sA,k.tA,fun _=>rfl,k.wQ⟩
 ·intro ha _ x V e1 e2 e3 hb
  obtain ⟨y,e4,e5,ho,_⟩:=h.fA ha
  have e6:=Aw.same (e1.symm.trans e4) (e2.trans e5.symm)
  subst e6
  have:=ho.mem.lt V hb
  have:=ptrV_inj e3
  omega
 ·intro _ hq V V' e1 e2 e3
  obtain ⟨V2,e4,_,f,hf,_⟩:=h.fQ hq
  have:=hf.lt
  have:=ptrV_inj e1
  have:=ptrV_inj (e4.symm.trans e2)
  omega
theorem ApF.newQ (h:ApF w0 w bd ad dB dA uB uA dP dQ sP sQ uP uQ) (hs:sQ=false):ApF w0 (w.alloc (.cells #[.int .i64 0,.slice none 0 0] 37)) bd ad dB dA uB uA dP true sP sQ uP (ptrV w.heap.size):=by
 have k:=h.kept (Keeps.alloc (Keeps.refl w) (.cells #[.int .i64 0,.slice none 0 0] 37))
 refine ⟨k.keep,k.fB,k.fA,k.fP,fun _=>⟨_,rfl,h.keep.size,_,rw2_new w _ _ _,fun e=>by rw [hs] at e;cases e⟩,k.gP,?_,?_,k.sA,k.tA,k.wP,fun _=>rfl⟩
 ·intro ha _ x V e1 e2 e3 hb
  obtain ⟨y,e4,e5,ho,_⟩:=h.fA ha
  have e6:=Aw.same (e1.symm.trans e4) (e2.trans e5.symm)
  subst e6
  have:=ho.mem.lt V hb
  have:=ptrV_inj e3
  omega
 ·intro hp _ V V' e1 e2 e3
  obtain ⟨V2,e4,_,f,hf,_⟩:=h.fP hp
  have:=hf.lt
  have:=ptrV_inj e2
  have:=ptrV_inj (e4.symm.trans e1)
  omega
theorem ApF.turnV (h:ApF w0 w bd ad dB true uB uA dP dQ sP sQ uP uQ) {V:Nat} (hV:w0.heap.size≤V) (ht:Turn [V] w w') (hA:∀ x:Aw,uA=x.v→x.d=ad→V∉fp x.segs):Keeps w0 w'∧(∃ x:Aw,uA=x.v∧x.d=ad∧Own w' x.segs∧∀ b∈fp x.segs,w0.heap.size≤b):=by
 refine ⟨ht.keeps h.keep (fun b hb=>by rw [List.mem_singleton.1 hb];exact hV),?_⟩
 obtain ⟨x,e1,e2,ho,hn⟩:=h.fA rfl
 exact ⟨x,e1,e2,ho.turn ht (fun b hb hx=>hA x e1 e2 (by rw [← List.mem_singleton.1 hx];exact hb)),hn⟩
theorem ApF.putP (h:ApF w0 w bd ad dB dA uB uA dP dQ sP sQ uP uQ) (ha:dA=true) (hp:dP=true) {x:Aw} (e1:uA=x.v) (e2:x.d=ad) {V:Nat} (e3:uP=ptrV V) :
 ApF w0 ((((((w.setCell ⟨V,0,none⟩ (.int .i64 x.B.tk)).setCell ⟨V,1,none⟩ (.int .i64 x.B.nx)).setCell ⟨V,2,none⟩ (.int .i64 x.B.wa)).setCell ⟨V,3,none⟩ (.slice x.B.ca x.B.C.length x.B.cc)).setCell ⟨V,4,none⟩ (.slice x.B.ha x.B.Hs.length x.B.hc)).setCell ⟨V,5,none⟩ (.slice x.B.ra x.B.R.length x.B.rc)) bd ad dB dA uB uA dP dQ true sQ uP uQ:=by
 subst ha hp
 obtain ⟨V',e4,hV,f,hf,_⟩:=h.fP rfl
 obtain rfl:=ptrV_inj (e3.symm.trans e4)
 have ht:=row6_turn w V (.int .i64 x.B.tk) (.int .i64 x.B.nx) (.int .i64 x.B.wa) (.slice x.B.ca x.B.C.length x.B.cc) (.slice x.B.ha x.B.Hs.length x.B.hc) (.slice x.B.ra x.B.R.length x.B.rc)
 obtain ⟨k1,k2⟩:=h.turnV hV ht (fun y a b=>h.gP rfl rfl y V a b e3)
 refine ⟨k1,(fun _ e=>nomatch e),fun _=>k2,fun _=>⟨V,e3,hV,_,rowX hf x.B,fun _ y a b=>?_⟩,fun hq=>?_,h.gP,h.gQ,h.gR,fun _=>rfl,fun _=>rfl,fun _=>rfl,h.wQ⟩
 ·rw [Aw.same (a.symm.trans e1) (b.trans e2.symm)]
 ·obtain ⟨V2,e5,hV2,g,hg,hs⟩:=h.fQ hq
  exact ⟨V2,e5,hV2,g,row_turn hg ht (by simpa using Ne.symm (h.gR rfl hq V V2 e3 e5)),hs⟩
theorem ApF.putQ (h:ApF w0 w bd ad dB dA uB uA dP dQ sP sQ uP uQ) (ha:dA=true) (hq:dQ=true) {x:Aw} (e1:uA=x.v) (e2:x.d=ad) {V:Nat} (e3:uQ=ptrV V) :
 ApF w0 ((w.setCell ⟨V,0,none⟩ (.int .i64 x.i)).setCell ⟨V,1,none⟩ (.slice x.a x.L.length x.cap)) bd ad dB dA uB uA dP dQ sP true uP uQ:=by
 subst ha hq
 obtain ⟨V',e4,hV,f,hf,_⟩:=h.fQ rfl
 obtain rfl:=ptrV_inj (e3.symm.trans e4)
 have ht:=rw2_turn w V (.int .i64 x.i) (.slice x.a x.L.length x.cap)
 obtain ⟨k1,k2⟩:=h.turnV hV ht (fun y a b=>h.gQ rfl rfl y V a b e3)
 refine ⟨k1,(fun _ e=>nomatch e),fun _=>k2,fun hp=>?_,fun _=>⟨V,e3,hV,_,rw2_set hf _ _,fun _ y a b=>?_⟩,h.gP,h.gQ,h.gR,fun _=>rfl,fun _=>rfl,h.wP,fun _=>rfl⟩
 ·obtain ⟨V2,e5,hV2,g,hg,hs⟩:=h.fP hp
  exact ⟨V2,e5,hV2,g,row_turn hg ht (by simpa using h.gR hp rfl V2 V e5 e3),hs⟩
 ·rw [Aw.same (a.symm.trans e1) (b.trans e2.symm)];rfl
theorem ApF.fin (h:ApF w0 w bd ad dB true uB uA true true true true uP uQ):∃ (x:Aw) (V V':Nat),uA=x.v∧uP=ptrV V∧uQ=ptrV V'∧x.d=ad∧Keeps w0 w∧Own w x.segs∧(∀ b∈fp x.segs,w0.heap.size≤b)∧w0.heap.size≤V∧w0.heap.size≤V'∧w.rowIs V 34 6 (bkRow x.B)∧w.rowIs V' 37 2 (pgRow x)∧V∉fp x.segs∧V'∉fp x.segs∧V≠V':=by
 obtain ⟨x,e1,e2,ho,hn⟩:=h.fA rfl
 obtain ⟨V,e3,hV,f,hf,hs⟩:=h.fP rfl
 obtain ⟨V',e4,hV',g,hg,ht⟩:=h.fQ rfl
 have q1:=hs rfl x e1 e2
 have q2:=ht rfl x e1 e2
 subst q1 q2
 exact ⟨x,V,V',e1,e3,e4,e2,h.keep,ho,hn,hV,hV',hf,hg,h.gP rfl rfl x V e1 e2 e3,h.gQ rfl rfl x V' e1 e2 e4,h.gR rfl rfl V V' e3 e4⟩
end
end Go.Proofs.YtccdhcempnkgaaaGreatDoor
namespace Go.Proofs.YtccdhcempnkgaaaGreatDoor
open Go.RowKit Go.Deep
set_option linter.unusedVariables false
set_option linter.unusedSimpArgs false
set_option maxRecDepth 10000
def Bo.big (B:Bo):Prop:=B.C.length≤9223372036854775807∧B.Hs.length≤9223372036854775807∧B.R.length≤9223372036854775807
set_option maxHeartbeats 2000000 in
theorem szBook_k (B:Bo) (left:Int) (w:World) (hl:B.big) (h0:0≤left) (h1:left≤1048576) :
 Calls Tryz.prog 5 #[B.v,.int .i64 left] w fun e w'=>∃ r:Int,e=.returned (.int .i64 r)∧r≤1048576∧(0≤r→B.len)∧Keeps w w':=by
 obtain ⟨tk,nx,wa,ca,cc,C,ha,hc,Hs,ra,rc,R⟩:=B
 have HB:=hide (rowc6 w (.int .i64 tk) (.int .i64 nx) (.int .i64 wa) (.slice ca C.length cc) (.slice ha Hs.length hc) (.slice ra R.length rc) 26)
 have HK:=hide (Keeps.alloc (Keeps.refl w) (.cells #[.int .i64 tk,.int .i64 nx,.int .i64 wa,.slice ca C.length cc,.slice ha Hs.length hc,.slice ra R.length rc] 26))
 dsimp only [Bo.v,Bo.big,Bo.len] at *
 obtain ⟨l1,l2,l3⟩:=hl
 have H1:=hide (fun w'=>szChanS_k ca C.length cc left w' l1 h0 h1)
 go_enter Tryz.func5,Tryz.ntmps5
 go_wp2_with fail
 refine (unhide H1 _).mono ?_
 rintro e w1 ⟨rfl,rfl⟩
 generalize w.alloc (.cells #[.int .i64 tk,.int .i64 nx,.int .i64 wa,.slice ca C.length cc,.slice ha Hs.length hc,.slice ra R.length rc] 26)=W0 at *
 obtain ⟨c0,c1,c2,c3,c4,c5⟩:=unhide HB W0 (Keeps.refl _)
 by_cases q1:(C.length:Int)≤left
 rotate_left
 ·rw [if_neg q1]
  go_wp2_with fail
  go_ret
  exact ⟨-1,rfl,by decide,fun h=>absurd h (by decide),HK.out⟩
 rw [if_pos q1]
 have H2:=hide (fun w'=>szHtlcS_k ha Hs.length hc (left-C.length) w' l2 (by omega) (by omega))
 go_wp2_with fail
 refine (unhide H2 _).mono ?_
 rintro e w2 ⟨rfl,rfl⟩
 by_cases q2:(Hs.length:Int)≤left-C.length
 rotate_left
 ·rw [if_neg q2]
  go_wp2_with fail
  go_ret
  exact ⟨-1,rfl,by decide,fun h=>absurd h (by decide),HK.out⟩
 rw [if_pos q2]
 have H3:=hide (fun w'=>szCircleS_k ra R.length rc (left-C.length-Hs.length) w' l3 (by omega) (by omega))
 go_wp2_with fail
 refine (unhide H3 _).mono ?_
 rintro e w3 ⟨rfl,rfl⟩
 by_cases q3:(R.length:Int)≤left-C.length-Hs.length
 rotate_left
 ·rw [if_neg q3]
  go_wp2_with fail
  go_ret
  exact ⟨-1,rfl,by decide,fun h=>absurd h (by decide),HK.out⟩
 rw [if_pos q3]
 go_wp2_with fail
 go_ret
 exact ⟨left-C.length-Hs.length-R.length,rfl,by omega,fun _=>⟨by omega,by omega,by omega⟩,HK.out⟩
structure TB (w wi:World) (B:Bo) (T:TypeId) (f:Nat→Value) (S:List Seg):Prop where
 keep:Keeps w wi
 box:BookAt wi w.heap.size B
 res:∃ f0,wi.rowIs (w.heap.size+1) T 6 f0
 out:wi.rowIs (w.heap.size+1+1) T 6 f
 own:Own wi S
 new:∀ b∈fp S,w.heap.size+3≤b
theorem TB.call {w wi w':World} {B:Bo} {T:TypeId} {f:Nat→Value} {S S':List Seg} (h:TB w wi B T f S) (hb:Born wi w' S') (hk:Keeps wi w'):TB w w' B T f (S++S'):=by
 obtain ⟨f0,h0⟩:=h.res
 refine ⟨h.keep.trans hk,h.box.kept hk,⟨f0,hk.rowK h0⟩,hk.rowK h.out,(h.own.kept hk).append hb.toOwn (hb.apart h.own.mem),fun b hb'=>?_⟩
 rw [fp_append] at hb'
 rcases List.mem_append.1 hb' with hb' | hb'
 ·exact h.new b hb'
 ·have:=hb.new b hb'
  have:=h.out.lt
  omega
theorem TB.set {w wi:World} {B:Bo} {T:TypeId} {f:Nat→Value} {S:List Seg} (h:TB w wi B T f S) (i:Nat) (v:Value):TB w (wi.setCell ⟨w.heap.size+1+1,i,none⟩ v) B T (fun j=>if j=i then v else f j) S:=by
 obtain ⟨f0,h0⟩:=h.res
 have ht:Turn [w.heap.size+1+1] wi (wi.setCell ⟨w.heap.size+1+1,i,none⟩ v):=Turn.set (by simp) v
 refine ⟨ht.keeps h.keep (by simp;omega),?_,⟨f0,h0.setOther (by simp) v⟩,h.out.set i v,h.own.turn ht (fun b hb hx=>?_),h.new⟩
 ·obtain ⟨b0,b1,b2,b3,b4,b5⟩:=h.box
  exact ⟨ht.cell (by simp;omega) b0,ht.cell (by simp;omega) b1,ht.cell (by simp;omega) b2,ht.cell (by simp;omega) b3,ht.cell (by simp;omega) b4,ht.cell (by simp;omega) b5⟩
 ·have:=h.new b hb
  simp at hx
  omega
theorem TB.fin {w wi:World} {B:Bo} {T:TypeId} {f:Nat→Value} {S:List Seg} (h:TB w wi B T f S) (v0 v1 v2 v3 v4 v5:Value) {V:World}
 (hV:V=((((((wi.setCell ⟨w.heap.size+1,0,none⟩ v0).setCell ⟨w.heap.size+1,1,none⟩ v1).setCell ⟨w.heap.size+1,2,none⟩ v2).setCell ⟨w.heap.size+1,3,none⟩ v3).setCell ⟨w.heap.size+1,4,none⟩ v4).setCell ⟨w.heap.size+1,5,none⟩ v5)) :
 (V.cell? ⟨w.heap.size+1,0,none⟩=some v0∧V.cell? ⟨w.heap.size+1,1,none⟩=some v1∧V.cell? ⟨w.heap.size+1,2,none⟩=some v2∧V.cell? ⟨w.heap.size+1,3,none⟩=some v3∧V.cell? ⟨w.heap.size+1,4,none⟩=some v4∧V.cell? ⟨w.heap.size+1,5,none⟩=some v5)∧Keeps w V∧Own V S:=by
 obtain ⟨f0,h0⟩:=h.res
 have r:=((((((h0.set 0 v0).set 1 v1).set 2 v2).set 3 v3).set 4 v4).set 5 v5)
 have ht:Turn [w.heap.size+1] wi ((((((wi.setCell ⟨w.heap.size+1,0,none⟩ v0).setCell ⟨w.heap.size+1,1,none⟩ v1).setCell ⟨w.heap.size+1,2,none⟩ v2).setCell ⟨w.heap.size+1,3,none⟩ v3).setCell ⟨w.heap.size+1,4,none⟩ v4).setCell ⟨w.heap.size+1,5,none⟩ v5) :=
  (((((Turn.set (by simp) _).trans' (Turn.set (by simp) _)).trans' (Turn.set (by simp) _)).trans' (Turn.set (by simp) _)).trans' (Turn.set (by simp) _)).trans' (Turn.set (by simp) _)
 rw [← hV] at r ht
 have c0:=r.cell (i:=0) (by decide)
 have c1:=r.cell (i:=1) (by decide)
 have c2:=r.cell (i:=2) (by decide)
 have c3:=r.cell (i:=3) (by decide)
 have c4:=r.cell (i:=4) (by decide)
 have c5:=r.cell (i:=5) (by decide)
 simp at c0 c1 c2 c3 c4 c5
 refine ⟨⟨c0,c1,c2,c3,c4,c5⟩,ht.keeps h.keep (by simp),h.own.turn ht (fun b hb hx=>?_)⟩
 have:=h.new b hb
 simp at hx
 omega
def row6g (v0 v1 v2 v3 v4 v5:Value):Nat→Value:=fun i=>if i=0 then v0 else if i=1 then v1 else if i=2 then v2 else if i=3 then v3 else if i=4 then v4 else v5
theorem row6g_at (v0 v1 v2 v3 v4 v5:Value):∀ i,i < (#[v0,v1,v2,v3,v4,v5]:Array Value).size→(#[v0,v1,v2,v3,v4,v5]:Array Value)[i]? = some (row6g v0 v1 v2 v3 v4 v5 i)
 | 0,_=>rfl
 | 1,_=>rfl
 | 2,_=>rfl
 | 3,_=>rfl
 | 4,_=>rfl
 | 5,_=>rfl
 | n+6,h=>absurd h (by simp)
theorem TB.start (w:World) (B:Bo) (T T':TypeId) (z0 z1 z2 z3 z4 z5 v0 v1 v2 v3 v4 v5:Value) :
 TB w (((w.alloc (.cells #[.int .i64 B.tk,.int .i64 B.nx,.int .i64 B.wa,.slice B.ca B.C.length B.cc,.slice B.ha B.Hs.length B.hc,.slice B.ra B.R.length B.rc] T')).alloc (.cells #[z0,z1,z2,z3,z4,z5] T)).alloc (.cells #[v0,v1,v2,v3,v4,v5] T)) B T (row6g v0 v1 v2 v3 v4 v5) []:=by
 have hb:=book_box B w T'
 have s1:(w.alloc (.cells #[.int .i64 B.tk,.int .i64 B.nx,.int .i64 B.wa,.slice B.ca B.C.length B.cc,.slice B.ha B.Hs.length B.hc,.slice B.ra B.R.length B.rc] T')).heap.size=w.heap.size+1:=by simp
 have hk:=Keeps.alloc (Keeps.refl w) (.cells #[.int .i64 B.tk,.int .i64 B.nx,.int .i64 B.wa,.slice B.ca B.C.length B.cc,.slice B.ha B.Hs.length B.hc,.slice B.ra B.R.length B.rc] T')
 generalize w.alloc (.cells #[.int .i64 B.tk,.int .i64 B.nx,.int .i64 B.wa,.slice B.ca B.C.length B.cc,.slice B.ha B.Hs.length B.hc,.slice B.ra B.R.length B.rc] T')=W1 at *
 have r2:=World.rowIs_alloc W1 #[z0,z1,z2,z3,z4,z5] T (row6g z0 z1 z2 z3 z4 z5) (row6g_at _ _ _ _ _ _)
 have s2:(W1.alloc (.cells #[z0,z1,z2,z3,z4,z5] T)).heap.size=w.heap.size+1+1:=by simp [s1]
 have k2:=Keeps.alloc (Keeps.refl W1) (.cells #[z0,z1,z2,z3,z4,z5] T)
 generalize W1.alloc (.cells #[z0,z1,z2,z3,z4,z5] T)=W2 at *
 have r3:=World.rowIs_alloc W2 #[v0,v1,v2,v3,v4,v5] T (row6g v0 v1 v2 v3 v4 v5) (row6g_at _ _ _ _ _ _)
 have k3:=Keeps.alloc (Keeps.refl W2) (.cells #[v0,v1,v2,v3,v4,v5] T)
 generalize W2.alloc (.cells #[v0,v1,v2,v3,v4,v5] T)=W3 at *
 rw [s1] at r2
 rw [s2] at r3
 exact ⟨(hk.trans k2).trans k3,(hb.kept k2).kept k3,⟨_,k3.rowK r2⟩,r3,Own.nil _,fun b hb=>absurd hb (by simp [fp])⟩
set_option maxHeartbeats 4000000 in
theorem toBook_k (B:Bo) (w:World) (hm:Mem w B.segs) (hl:B.len) :
 Calls Tryz.prog 7 #[B.v] w fun e w'=>∃ B':Bo,e=.returned B'.v∧B'.d=B.d∧B'.fit∧Born w w' B'.segs∧Keeps w w':=by
 have HCC:=hide (fun w' (hk:Keeps w w')=>toChanS_k B.ca B.cc B.C w' (Bo.memC (hm.kept hk)) hl.1)
 have HCH:=hide (fun w' (hk:Keeps w w')=>toHtlcS_k B.ha B.hc B.Hs w' (Bo.memH (hm.kept hk)) hl.2.1)
 have HCR:=hide (fun w' (hk:Keeps w w')=>toCircleS_k B.ra B.rc B.R w' (Bo.memR (hm.kept hk)) hl.2.2)
 obtain ⟨tk,nx,wa,ca,cc,C,ha,hc,Hs,ra,rc,R⟩:=B
 dsimp only [Bo.v,Bo.d] at *
 clear hm hl
 go_enter Tryz.func7,Tryz.ntmps7
 go_upto_region 5 with fail
 have HT:=hide (TB.start w ⟨tk,nx,wa,ca,cc,C,ha,hc,Hs,ra,rc,R⟩ 34 26 (.int .i64 0) (.int .i64 0) (.int .i64 0) (.slice none 0 0) (.slice none 0 0) (.slice none 0 0) (.int .i64 tk) (.int .i64 nx) (.int .i64 wa) (.slice none 0 0) (.slice none 0 0) (.slice none 0 0))
 dsimp only at HT
 generalize ((w.alloc (.cells #[.int .i64 tk,.int .i64 nx,.int .i64 wa,.slice ca C.length cc,.slice ha Hs.length hc,.slice ra R.length rc] 26)).alloc (.cells #[.int .i64 0,.int .i64 0,.int .i64 0,.slice none 0 0,.slice none 0 0,.slice none 0 0] 34)).alloc (.cells #[.int .i64 tk,.int .i64 nx,.int .i64 wa,.slice none 0 0,.slice none 0 0,.slice none 0 0] 34)=W3 at *
 have c3:=HT.out.box.2.2.2.1
 dsimp only at c3
 have hs:=HT.out.out.lt
 go_wp2_with fail
 refine (unhide HCC W3 HT.out.keep).mono ?_
 rintro e y1 ⟨b1,rfl,hb,hk⟩
 replace HT:=hide (HT.out.call hb hk)
 have HB1:=hide hb.new
 clear hb hk c3 hs
 have d:=HT.out.out.cell (i:=3) (by decide)
 have f:=HT.out.out.frozen 3
 have hs:=HT.out.out.lt
 go_upto_region 6 with fail
 replace HT:=hide (HT.out.set 3 (.slice (some ⟨b1,0,none⟩) C.length C.length))
 clear d f hs
 generalize y1.setCell ⟨w.heap.size+1+1,3,none⟩ (.slice (some ⟨b1,0,none⟩) C.length C.length)=x1 at *
 have c4:=HT.out.box.2.2.2.2.1
 dsimp only at c4
 have hs:=HT.out.out.lt
 go_wp2_with fail
 refine (unhide HCH x1 HT.out.keep).mono ?_
 rintro e y2 ⟨b2,rfl,hb,hk⟩
 replace HT:=hide (HT.out.call hb hk)
 have HB2:=hide hb.new
 clear hb hk c4 hs
 have d:=HT.out.out.cell (i:=4) (by decide)
 have f:=HT.out.out.frozen 4
 have hs:=HT.out.out.lt
 go_upto_region 7 with fail
 replace HT:=hide (HT.out.set 4 (.slice (some ⟨b2,0,none⟩) Hs.length Hs.length))
 clear d f hs
 generalize y2.setCell ⟨w.heap.size+1+1,4,none⟩ (.slice (some ⟨b2,0,none⟩) Hs.length Hs.length)=x2 at *
 have c5:=HT.out.box.2.2.2.2.2
 dsimp only at c5
 have hs:=HT.out.out.lt
 go_wp2_with fail
 refine (unhide HCR x2 HT.out.keep).mono ?_
 rintro e y3 ⟨b3,rfl,hb,hk⟩
 replace HT:=hide (HT.out.call hb hk)
 have HB3:=hide hb.new
 clear hb hk c5 hs
 have d:=HT.out.out.cell (i:=5) (by decide)
 have f:=HT.out.out.frozen 5
 have hs:=HT.out.out.lt
 go_upto_region 8 with fail
 replace HT:=hide (HT.out.set 5 (.slice (some ⟨b3,0,none⟩) R.length R.length))
 clear d f hs
 generalize y3.setCell ⟨w.heap.size+1+1,5,none⟩ (.slice (some ⟨b3,0,none⟩) R.length R.length)=x3 at *
 have o:=HT.out.out
 have o0:=o.cell (i:=0) (by decide)
 have o1:=o.cell (i:=1) (by decide)
 have o2:=o.cell (i:=2) (by decide)
 have o3:=o.cell (i:=3) (by decide)
 have o4:=o.cell (i:=4) (by decide)
 have o5:=o.cell (i:=5) (by decide)
 simp [row6g] at o0 o1 o2 o3 o4 o5
 obtain ⟨f0,h0⟩:=HT.out.res
 have r0:=h0.cell (i:=0) (by decide)
 have r1:=h0.cell (i:=1) (by decide)
 have r2:=h0.cell (i:=2) (by decide)
 have r3:=h0.cell (i:=3) (by decide)
 have r4:=h0.cell (i:=4) (by decide)
 have r5:=h0.cell (i:=5) (by decide)
 have f0':=h0.frozen 0
 have f1':=h0.frozen 1
 have f2':=h0.frozen 2
 have f3':=h0.frozen 3
 have f4':=h0.frozen 4
 have f5':=h0.frozen 5
 have hs:=HT.out.out.lt
 clear o h0
 go_wp2_with fail
 obtain ⟨⟨p0,p1,p2,p3,p4,p5⟩,hkF,hoF⟩:=HT.out.fin (.int .i64 tk) (.int .i64 nx) (.int .i64 wa) (.slice (some ⟨b1,0,none⟩) C.length C.length) (.slice (some ⟨b2,0,none⟩) Hs.length Hs.length) (.slice (some ⟨b3,0,none⟩) R.length R.length) rfl
 have HN:=hide HT.out.new
 clear o0 o1 o2 o3 o4 o5 r0 r1 r2 r3 r4 r5 f0' f1' f2' f3' f4' f5' hs
 refine bodyPost_ret (v:=(Bo.mk tk nx wa (some ⟨b1,0,none⟩) C.length C (some ⟨b2,0,none⟩) Hs.length Hs (some ⟨b3,0,none⟩) R.length R).v) ?_ rfl ⟨_,rfl,rfl,⟨fun h=>(nomatch h),fun h=>(nomatch h),fun h=>(nomatch h),Nat.le_refl _,Nat.le_refl _,Nat.le_refl _⟩,⟨hoF,fun b hb=>by have:=HN.out b hb;omega⟩,hkF⟩
 clear hkF hoF
 revert p0 p1 p2 p3 p4 p5
 generalize World.setCell (World.setCell _ _ _) _ _=WW
 intro p0 p1 p2 p3 p4 p5
 simp [results,Tryz.results7,go_sem,p0,p1,p2,p3,p4,p5,Bo.v]
set_option maxHeartbeats 4000000 in
theorem eqBook_k (B B':Bo) (w:World) (hd:B.d=B'.d) (hm:Mem w B.segs) (hm':Mem w B'.segs) (hl:B.len) :
 Calls Tryz.prog 10 #[B.v,B'.v] w fun e w'=>e=.returned (.bool true)∧Keeps w w':=by
 obtain ⟨tk,nx,wa,ca,cc,C,ha,hc,Hs,ra,rc,R⟩:=B
 obtain ⟨tk2,nx2,wa2,ca2,cc2,C2,ha2,hc2,Hs2,ra2,rc2,R2⟩:=B'
 dsimp only [Bo.d] at hd
 injection hd with e1 e2 e3 e4 e5 e6
 subst e1 e2 e3 e4 e5 e6
 have HC:=hide (fun w' (hk:Keeps w w')=>eqChanS_k ca ca2 cc cc2 C w' (Bo.memC (hm.kept hk)) (Bo.memC (hm'.kept hk)) hl.1)
 have HH:=hide (fun w' (hk:Keeps w w')=>eqHtlcS_k ha ha2 hc hc2 Hs w' (Bo.memH (hm.kept hk)) (Bo.memH (hm'.kept hk)) hl.2.1)
 have HR:=hide (fun w' (hk:Keeps w w')=>eqCircleS_k ra ra2 rc rc2 R w' (Bo.memR (hm.kept hk)) (Bo.memR (hm'.kept hk)) hl.2.2)
 have HB1:=hide (rowc6 w (.int .i64 tk) (.int .i64 nx) (.int .i64 wa) (.slice ca C.length cc) (.slice ha Hs.length hc) (.slice ra R.length rc) 34)
 have HB2:=hide (rowc6 (w.alloc (.cells #[.int .i64 tk,.int .i64 nx,.int .i64 wa,.slice ca C.length cc,.slice ha Hs.length hc,.slice ra R.length rc] 34)) (.int .i64 tk) (.int .i64 nx) (.int .i64 wa) (.slice ca2 C.length cc2) (.slice ha2 Hs.length hc2) (.slice ra2 R.length rc2) 34)
 have hz:(w.alloc (.cells #[.int .i64 tk,.int .i64 nx,.int .i64 wa,.slice ca C.length cc,.slice ha Hs.length hc,.slice ra R.length rc] 34)).heap.size=w.heap.size+1:=by simp
 rw [hz] at HB2
 have HK1:=hide (Keeps.alloc (Keeps.refl w) (.cells #[.int .i64 tk,.int .i64 nx,.int .i64 wa,.slice ca C.length cc,.slice ha Hs.length hc,.slice ra R.length rc] 34))
 have HK2:=hide (Keeps.alloc (Keeps.refl (w.alloc (.cells #[.int .i64 tk,.int .i64 nx,.int .i64 wa,.slice ca C.length cc,.slice ha Hs.length hc,.slice ra R.length rc] 34))) (.cells #[.int .i64 tk,.int .i64 nx,.int .i64 wa,.slice ca2 C.length cc2,.slice ha2 Hs.length hc2,.slice ra2 R.length rc2] 34))
 dsimp only [Bo.v]
 clear hm hm' hl hz
 go_enter Tryz.func10,Tryz.ntmps10
 go_upto_region 7 with fail
 generalize w.alloc (.cells #[.int .i64 tk,.int .i64 nx,.int .i64 wa,.slice ca C.length cc,.slice ha Hs.length hc,.slice ra R.length rc] 34)=W1 at *
 generalize W1.alloc (.cells #[.int .i64 tk,.int .i64 nx,.int .i64 wa,.slice ca2 C.length cc2,.slice ha2 Hs.length hc2,.slice ra2 R.length rc2] 34)=W2 at *
 have HKc:=hide (Keeps.refl W2)
 have c:=(unhide HB1 W2 (HK2.out.trans HKc.out)).2.2.2.1
 have d:=(unhide HB2 W2 HKc.out).2.2.2.1
 go_wp2_with fail
 refine (unhide HC W2 ((HK1.out.trans HK2.out).trans HKc.out)).mono ?_
 rintro e z0 ⟨rfl,hk⟩
 replace HKc:=hide (HKc.out.trans hk)
 clear c d hk
 have c:=(unhide HB1 z0 (HK2.out.trans HKc.out)).2.2.2.2.1
 have d:=(unhide HB2 z0 HKc.out).2.2.2.2.1
 go_wp2_with fail
 refine (unhide HH z0 ((HK1.out.trans HK2.out).trans HKc.out)).mono ?_
 rintro e z1 ⟨rfl,hk⟩
 replace HKc:=hide (HKc.out.trans hk)
 clear c d hk
 have c:=(unhide HB1 z1 (HK2.out.trans HKc.out)).2.2.2.2.2
 have d:=(unhide HB2 z1 HKc.out).2.2.2.2.2
 go_wp2_with fail
 refine (unhide HR z1 ((HK1.out.trans HK2.out).trans HKc.out)).mono ?_
 rintro e z2 ⟨rfl,hk⟩
 replace HKc:=hide (HKc.out.trans hk)
 clear c d hk
 go_wp2_with fail
 go_ret
 exact ⟨rfl,(HK1.out.trans HK2.out).trans HKc.out⟩
end Go.Proofs.YtccdhcempnkgaaaGreatDoor
