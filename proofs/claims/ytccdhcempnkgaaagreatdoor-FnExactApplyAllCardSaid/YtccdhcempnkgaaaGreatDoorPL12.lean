/- Texts of the verifier, joined: WkC, WkD, WkE. -/
import Derived.Test.YtccdhcempnkgaaaGreatDoorPL11
import Derived.Handy
namespace Go.Proofs.YtccdhcempnkgaaaGreatDoor
open Go.RowKit Go.Deep
set_option linter.unusedVariables false
set_option linter.unusedSimpArgs false
set_option maxRecDepth 10000
theorem grown_turn {w w':World} {g:Nat} (h:w.grownBy w' (some g)):Turn [g] w w' :=
 ⟨h.os,h.tape,h.output,h.size,fun i hi hn=>h.block i hi (fun e=>hn (by rw [Option.some.inj e];simp))⟩
theorem ownsX {w w':World} {g g' n c base m:Nat} {e:TypeId} {xs:List Value} (h:w.ownsRow base e m (.slice (some ⟨g,0,none⟩) n c) n xs) (hg:w.grownBy w' (some g')) (hne:g≠g'):w'.ownsRow base e m (.slice (some ⟨g,0,none⟩) n c) n xs :=
 h.kept hg (.inr (by rw [ownBlock_sl];intro e;exact hne (Option.some.inj e)))
theorem WkAt.setC {W w w':World} {p:Nat} {k:Wk} (h:WkAt W w p k) (hg:w.grownBy w' (some k.gC)) {C':List Chn} (ho:OwnsChan w' W.heap.size (.slice (some ⟨k.gC,0,none⟩) C'.length k.cC) C') (hl:C'.length=k.C.length):WkAt W w' p { k with C:=C' }:=by
 have nd:=h.nd
 have nd':=nd
 simp only [List.nodup_cons,List.mem_cons,not_or] at nd
 obtain ⟨⟨n1,n2,n3,n4⟩,⟨n5,n6,n7⟩,⟨n8,n9⟩,n10,_⟩:=nd
 have hb:=(h.oC.lt k.gC rfl).1
 refine ⟨(grown_turn hg).keeps h.keep (fun b hb'=>by rw [List.mem_singleton.1 hb'];exact hb),h.hp,(row_grown h.row hg n1).congr (fun j hj=>?_),ho,ownsX h.oH hg (Ne.symm n5),ownsX h.oR hg (Ne.symm n6),h.oL.kept hg (ownBlock_lb n7),nd'⟩
 show k.row j=Wk.row { k with C:=C' } j
 unfold Wk.row
 simp only [hl]
theorem WkAt.setH {W w w':World} {p:Nat} {k:Wk} (h:WkAt W w p k) (hg:w.grownBy w' (some k.gH)) {H':List Htl} (ho:OwnsHtlc w' W.heap.size (.slice (some ⟨k.gH,0,none⟩) H'.length k.cH) H') (hl:H'.length=k.Hs.length):WkAt W w' p { k with Hs:=H' }:=by
 have nd:=h.nd
 have nd':=nd
 simp only [List.nodup_cons,List.mem_cons,not_or] at nd
 obtain ⟨⟨n1,n2,n3,n4⟩,⟨n5,n6,n7⟩,⟨n8,n9⟩,n10,_⟩:=nd
 have hb:=(h.oH.lt k.gH rfl).1
 refine ⟨(grown_turn hg).keeps h.keep (fun b hb'=>by rw [List.mem_singleton.1 hb'];exact hb),h.hp,(row_grown h.row hg n2).congr (fun j hj=>?_),ownsX h.oC hg n5,ho,ownsX h.oR hg (Ne.symm n8),h.oL.kept hg (ownBlock_lb n9),nd'⟩
 show k.row j=Wk.row { k with Hs:=H' } j
 unfold Wk.row
 simp only [hl]
def movC (C:List Chn) (ch lo re:Int):List Chn:=match atC C ch with | some i=>C.modify i (fun c=>⟨c.id,c.sz,c.lo+lo,c.re+re,c.ba,c.pp,c.sc⟩) | none=>C
theorem put_chan {w:World} {base g cap:Nat} {L:List Chn} (h:OwnsChan w base (.slice (some ⟨g,0,none⟩) L.length cap) L) (k:Nat) (hk:k < L.length) (x:Chn) :
 OwnsChan (((((((w.setCell ⟨g,k*7,none⟩ (.int .i64 x.id)).setCell ⟨g,k*7+1,none⟩ (.int .i64 x.sz)).setCell ⟨g,k*7+2,none⟩ (.int .i64 x.lo)).setCell ⟨g,k*7+3,none⟩ (.int .i64 x.re)).setCell ⟨g,k*7+4,none⟩ (.int .i64 x.ba)).setCell ⟨g,k*7+5,none⟩ (.int .i64 x.pp)).setCell ⟨g,k*7+6,none⟩ (.int .i64 x.sc)) base (.slice (some ⟨g,0,none⟩) (L.set k x).length cap) (L.set k x)∧w.grownBy (((((((w.setCell ⟨g,k*7,none⟩ (.int .i64 x.id)).setCell ⟨g,k*7+1,none⟩ (.int .i64 x.sz)).setCell ⟨g,k*7+2,none⟩ (.int .i64 x.lo)).setCell ⟨g,k*7+3,none⟩ (.int .i64 x.re)).setCell ⟨g,k*7+4,none⟩ (.int .i64 x.ba)).setCell ⟨g,k*7+5,none⟩ (.int .i64 x.pp)).setCell ⟨g,k*7+6,none⟩ (.int .i64 x.sc)) (some g):=by
 obtain ⟨h0,g0⟩:=h.set0 k hk x.id
 obtain ⟨h1,g1⟩:=h0.set1 k (by simpa using hk) x.sz
 obtain ⟨h2,g2⟩:=h1.set2 k (by simpa using hk) x.lo
 obtain ⟨h3,g3⟩:=h2.set3 k (by simpa using hk) x.re
 obtain ⟨h4,g4⟩:=h3.set4 k (by simpa using hk) x.ba
 obtain ⟨h5,g5⟩:=h4.set5 k (by simpa using hk) x.pp
 obtain ⟨h6,g6⟩:=h5.set6 k (by simpa using hk) x.sc
 refine ⟨?_,(((((g0.trans g1).trans g2).trans g3).trans g4).trans g5).trans g6⟩
 simpa using h6
theorem get_chan {w:World} {base g cap:Nat} {L:List Chn} (h:OwnsChan w base (.slice (some ⟨g,0,none⟩) L.length cap) L):g < w.heap.size:=(h.lt g rfl).2
theorem modify_at {α:Type} (L:List α) (i:Nat) (f:α→α) (hi:i < L.length):L.modify i f=L.set i (f L[i]):=by
 apply List.ext_getElem?
 intro j
 rw [List.getElem?_modify,List.getElem?_set]
 by_cases h:i=j
 ·subst h;simp [hi]
 ·simp [h]
set_option maxHeartbeats 4000000 in
theorem move_spec (W w:World) (p:Nat) (k:Wk) (ch lo re:Int) (i:Nat) (hi:i < k.C.length) (ha:atC k.C ch=some i) (h:WkAt W w p k) (hl:k.C.length≤1048576)
 (l0:-1152921504606846976≤k.C[i].lo+lo) (l1:k.C[i].lo+lo≤1152921504606846976) (r0:-1152921504606846976≤k.C[i].re+re) (r1:k.C[i].re+re≤1152921504606846976) :
 Calls Tryz.prog 78 #[.pointer (some ⟨p,0,none⟩),.int .i64 ch,.int .i64 lo,.int .i64 re] w fun e w'=>e=.returned (.tuple #[])∧WkAt W w' p { k with C:=movC k.C ch lo re }∧Turn [k.gC] w w':=by
 have ea:atI k.C ch=(i:Int):=atI_some ha
 have hA:=at_spec k.bo ch w h.mem hl
 rw [show k.bo.C=k.C from rfl,ea] at hA
 have HA:=hide hA
 clear hA ea
 obtain ⟨c0,c1,c2,c3,c4,c5,-,-⟩:=h.cells
 have HW:=hide h
 have HL:=hide hl
 have Ha:=hide ha
 have HB:=hide (And.intro l0 (And.intro l1 (And.intro r0 r1)))
 clear h hl ha l0 l1 r0 r1
 go_enter Tryz.func78,Tryz.ntmps78
 go_wp2_with fail
 refine (unhide HA).mono ?_
 rintro _ w1 ⟨rfl,hk1⟩
 have HW1:=hide (HW.out.kept hk1)
 have HKT:=hide hk1
 clear hk1 c0 c1 c2 c3 c4 c5 HA
 have c3:=HW1.out.cells.2.2.2.1
 obtain ⟨q0,q1,q2,q3,q4,q5,q6⟩:=HW1.out.oC.at i hi
 have HG:=hide (get_chan HW1.out.oC)
 have hz:i*7+7≤k.C.length*7:=by omega
 obtain ⟨x0,e0⟩:∃ x,k.C[i].id=x:=⟨_,rfl⟩
 obtain ⟨x1,e1⟩:∃ x,k.C[i].sz=x:=⟨_,rfl⟩
 obtain ⟨x2,e2⟩:∃ x,k.C[i].lo=x:=⟨_,rfl⟩
 obtain ⟨x3,e3⟩:∃ x,k.C[i].re=x:=⟨_,rfl⟩
 obtain ⟨x4,e4⟩:∃ x,k.C[i].ba=x:=⟨_,rfl⟩
 obtain ⟨x5,e5⟩:∃ x,k.C[i].pp=x:=⟨_,rfl⟩
 obtain ⟨x6,e6⟩:∃ x,k.C[i].sc=x:=⟨_,rfl⟩
 obtain ⟨l0,l1,r0,r1⟩:=HB.out
 rw [e0] at q0
 rw [e1] at q1
 rw [e2] at q2
 rw [e3] at q3
 rw [e4] at q4
 rw [e5] at q5
 rw [e6] at q6
 rw [e2] at l0 l1
 rw [e3] at r0 r1
 have HE:=hide (And.intro e0 (And.intro e1 (And.intro e2 (And.intro e3 (And.intro e4 (And.intro e5 e6))))))
 clear e0 e1 e2 e3 e4 e5 e6 HB
 obtain ⟨y2,ey2⟩:∃ y,x2+lo=y:=⟨_,rfl⟩
 obtain ⟨y3,ey3⟩:∃ y,x3+re=y:=⟨_,rfl⟩
 rw [ey2] at l0 l1
 rw [ey3] at r0 r1
 have wl:wrap64 y2=y2:=by unfold wrap64;omega
 have wr:wrap64 y3=y3:=by unfold wrap64;omega
 clear l0 l1 r0 r1
 have HY:=hide (And.intro ey2 ey3)
 go_upto_region 1 with fail
 go_upto_region 2 with fail
 clear ey2 ey3
 go_upto_region 3 with fail
 go_upto_region 4 with fail
 simp only [HY.out.1,HY.out.2,wl,wr]
 have HX:=hide (HW1.out.kept ((Keeps.refl w1).alloc (Obj.cells #[.int .i64 x0,.int .i64 x1,.int .i64 y2,.int .i64 y3,.int .i64 x4,.int .i64 x5,.int .i64 x6] 78)))
 have HKT2:=hide (HKT.out.trans ((Keeps.refl w1).alloc (Obj.cells #[.int .i64 x0,.int .i64 x1,.int .i64 y2,.int .i64 y3,.int .i64 x4,.int .i64 x5,.int .i64 x6] 78)))
 clear HKT
 have d0:=World.cell?_alloc_new (w:=w1) #[.int .i64 x0,.int .i64 x1,.int .i64 y2,.int .i64 y3,.int .i64 x4,.int .i64 x5,.int .i64 x6] 78 0
 have d1:=World.cell?_alloc_new (w:=w1) #[.int .i64 x0,.int .i64 x1,.int .i64 y2,.int .i64 y3,.int .i64 x4,.int .i64 x5,.int .i64 x6] 78 1
 have d2:=World.cell?_alloc_new (w:=w1) #[.int .i64 x0,.int .i64 x1,.int .i64 y2,.int .i64 y3,.int .i64 x4,.int .i64 x5,.int .i64 x6] 78 2
 have d3:=World.cell?_alloc_new (w:=w1) #[.int .i64 x0,.int .i64 x1,.int .i64 y2,.int .i64 y3,.int .i64 x4,.int .i64 x5,.int .i64 x6] 78 3
 have d4:=World.cell?_alloc_new (w:=w1) #[.int .i64 x0,.int .i64 x1,.int .i64 y2,.int .i64 y3,.int .i64 x4,.int .i64 x5,.int .i64 x6] 78 4
 have d5:=World.cell?_alloc_new (w:=w1) #[.int .i64 x0,.int .i64 x1,.int .i64 y2,.int .i64 y3,.int .i64 x4,.int .i64 x5,.int .i64 x6] 78 5
 have d6:=World.cell?_alloc_new (w:=w1) #[.int .i64 x0,.int .i64 x1,.int .i64 y2,.int .i64 y3,.int .i64 x4,.int .i64 x5,.int .i64 x6] 78 6
 have hne:k.gC≠w1.heap.size:=Nat.ne_of_lt HG.out
 clear c3 q0 q1 q2 q3 q4 q5 q6 HW1 HG wl wr
 generalize (w1.alloc (Obj.cells #[.int .i64 x0,.int .i64 x1,.int .i64 y2,.int .i64 y3,.int .i64 x4,.int .i64 x5,.int .i64 x6] 78))=w2 at *
 generalize w1.heap.size=sb at *
 simp at d0 d1 d2 d3 d4 d5 d6
 have HP:=hide (put_chan HX.out.oC i hi ⟨x0,x1,y2,y3,x4,x5,x6⟩)
 have HF:=hide (HX.out.setC HP.out.2 HP.out.1 (by simp))
 have HTT:=hide ((Turn.of_keeps HKT2.out [k.gC]).trans' (grown_turn HP.out.2))
 have HM:Hid (movC k.C ch lo re=k.C.set i ⟨x0,x1,y2,y3,x4,x5,x6⟩):=by
  show _=_
  obtain ⟨e0,e1,e2,e3,e4,e5,e6⟩:=HE.out
  obtain ⟨e7,e8⟩:=HY.out
  subst e0 e1 e2 e3 e4 e5 e6 e7 e8
  unfold movC
  rw [Ha.out]
  dsimp only
  exact modify_at _ _ _ hi
 clear HP
 have c3:=HX.out.cells.2.2.2.1
 have fz:=HX.out.oC.frz
 have f0:=fz (i*7)
 have f1:=fz (i*7+1)
 have f2:=fz (i*7+2)
 have f3:=fz (i*7+3)
 have f4:=fz (i*7+4)
 have f5:=fz (i*7+5)
 have f6:=fz (i*7+6)
 obtain ⟨q0,q1,q2,q3,q4,q5,q6⟩:=HX.out.oC.at i hi
 clear fz
 go_region_with (fail)
 all_goals go_end0
 all_goals (refine ⟨rfl,?_,HTT.out.trans' (Turn.of_keeps (Keeps.refl _).drew _)⟩;rw [HM.out];exact HF.out.kept (Keeps.refl _).drew)
end Go.Proofs.YtccdhcempnkgaaaGreatDoor
namespace Go.Proofs.YtccdhcempnkgaaaGreatDoor
open Go.RowKit Go.Deep
set_option linter.unusedVariables false
set_option linter.unusedSimpArgs false
set_option maxRecDepth 10000
def busyB (Hs:List Htl) (R:List Crc) (ch:Int):Bool:=Hs.any (fun h=>decide (h.inn=ch) || decide (h.out=ch)) || R.any (fun c=>decide (c.fr=ch) || decide (c.to=ch))
theorem any_yes {α:Type} {L:List α} {p:α→Bool} (k:Nat) (hk:k < L.length) (h:p L[k]=true):L.any p=true:=List.any_eq_true.2 ⟨_,List.getElem_mem hk,h⟩
theorem any_no {α:Type} {L:List α} {p:α→Bool} (h:∀ j (hj:j < L.length),p L[j]=false):L.any p=false:=by
 rw [List.any_eq_false]
 intro x hx
 obtain ⟨j,hj,rfl⟩:=List.getElem_of_mem hx
 simp [h j hj]
set_option maxHeartbeats 4000000 in
theorem busy_spec (B:Bo) (ch:Int) (w:World) (hm:Mem w B.segs) (hH:B.Hs.length≤60) (hR:B.R.length≤20):Calls Tryz.prog 72 #[B.v,.int .i64 ch] w fun e w'=>e=.returned (.bool (busyB B.Hs B.R ch))∧Keeps w w':=by
 obtain ⟨tk,nx,wa,ca,cc,C,ha,hc,Hs,ra,rc,R⟩:=B
 have HCH:=hide (fun w' (hk:Keeps w w')=>Bo.memH (hm.kept hk))
 have HCR:=hide (fun w' (hk:Keeps w w')=>Bo.memR (hm.kept hk))
 have HBA:=hide (book_box ⟨tk,nx,wa,ca,cc,C,ha,hc,Hs,ra,rc,R⟩ w 34)
 have HKA:=hide (Keeps.alloc (Keeps.refl w) (.cells #[.int .i64 tk,.int .i64 nx,.int .i64 wa,.slice ca C.length cc,.slice ha Hs.length hc,.slice ra R.length rc] 34))
 dsimp only [Bo.d,Bo.v] at *
 clear hm
 go_enter Tryz.func72,Tryz.ntmps72
 go_wp2_with fail
 generalize w.alloc (.cells #[.int .i64 tk,.int .i64 nx,.int .i64 wa,.slice ca C.length cc,.slice ha Hs.length hc,.slice ra R.length rc] 34)=W0 at *
 go_loopw [12] (fun z wr=>∃ k:Nat,k≤Hs.length∧z=.int .i64 (k:Int)∧Hid (∀ j (hj:j < Hs.length),j < k→(decide (Hs[j].inn=ch) || decide (Hs[j].out=ch))=false)∧Hid (Keeps W0 wr)) (fun z _=>Hs.length-(intOf z).toNat)
 case atStart=>exact ⟨0,by omega,rfl,fun j hj h=>absurd h (by omega),Keeps.refl _⟩
 case round =>
  obtain ⟨k,hk,rfl,HG,HKr⟩:=hrel
  have HB:=hide (HBA.out.kept HKr.out)
  by_cases hlt:k < Hs.length
  ·obtain ⟨b,off,ea,c0,c1,c2,c3,c4,c5,c6⟩:=hts_at (unhide HCH _ (HKA.out.trans HKr.out)) k hlt
   have HX:=hide ea
   obtain rfl:=HX.out
   have HY:Hid ((decide (Hs[k].inn=ch) || decide (Hs[k].out=ch))=true→busyB Hs R ch=true):=by
    intro h
    unfold busyB
    rw [any_yes k hlt h]
    rfl
   have HN:Hid ((decide (Hs[k].inn=ch) || decide (Hs[k].out=ch))=false→∀ j (hj:j < Hs.length),j < k+1→(decide (Hs[j].inn=ch) || decide (Hs[j].out=ch))=false):=by
    intro h j hj hjk
    by_cases e:j=k
    ·subst e;exact h
    ·exact HG.out j hj (by omega)
   generalize Hs[k]=x at *
   obtain ⟨xky,xinn,xout,xai,xao,xkp,xag⟩:=x
   dsimp only at c0 c1 c2 c3 c4 c5 c6 HY HN
   have HKe:=hide (HKr.out.trans (Keeps.alloc (Keeps.refl wr) (.cells #[.int .i64 xky,.int .i64 xinn,.int .i64 xout,.int .i64 xai,.int .i64 xao,.bool xkp,.int .i64 xag] 112)))
   clear HB HG
   by_cases h1:xinn=ch
   ·replace HY:=hide (HY.out (by simp [h1]))
    subst h1
    clear HN
    go_wp2_with fail
    go_ret
    exact ⟨ret_b HY.out.symm,HKA.out.trans HKe.out⟩
   ·by_cases h2:xout=ch
    ·replace HY:=hide (HY.out (by simp [h2]))
     subst h2
     clear HN
     go_wp2_with fail
     go_ret
     exact ⟨ret_b HY.out.symm,HKA.out.trans HKe.out⟩
    ·replace HN:=hide (HN.out (by simp [h1,h2]))
     have d1:(xinn==ch)=false:=by simpa using h1
     have d2:(xout==ch)=false:=by simpa using h2
     clear HY
     go_wp2_with fail
     go_roundw
     case rel=>exact ⟨k+1,by omega,by go_num,HN.out,HKe.out⟩
     case measure=>simp [intOf];omega
  ·have e:k=Hs.length:=by omega
   subst e
   have HA:Hid (Hs.any (fun h=>decide (h.inn=ch) || decide (h.out=ch))=false):=any_no (fun j hj=>HG.out j hj hj)
   obtain ⟨-,-,-,-,-,b5⟩:=HB.out
   dsimp only at b5
   have HKs:=hide HKr.out
   clear HB HKr HG
   go_wp2_with fail
   generalize wr=W2 at *
   go_loopw [30] (fun z wr=>∃ k:Nat,k≤R.length∧z=.int .i64 (k:Int)∧Hid (∀ j (hj:j < R.length),j < k→(decide (R[j].fr=ch) || decide (R[j].to=ch))=false)∧Hid (Keeps W2 wr)) (fun z _=>R.length-(intOf z).toNat)
   case atStart=>exact ⟨0,by omega,rfl,fun j hj h=>absurd h (by omega),Keeps.refl _⟩
   case round =>
    obtain ⟨k,hk,rfl,HG,HKr⟩:=hrel
    by_cases hlt:k < R.length
    ·obtain ⟨b,off,ea,c0,c1,c2,c3,c4⟩:=crs_at (unhide HCR _ (HKA.out.trans (HKs.out.trans HKr.out))) k hlt
     have HX:=hide ea
     obtain rfl:=HX.out
     have HY:Hid ((decide (R[k].fr=ch) || decide (R[k].to=ch))=true→busyB Hs R ch=true):=by
      intro h
      unfold busyB
      rw [any_yes k hlt h,Bool.or_true]
     have HN:Hid ((decide (R[k].fr=ch) || decide (R[k].to=ch))=false→∀ j (hj:j < R.length),j < k+1→(decide (R[j].fr=ch) || decide (R[j].to=ch))=false):=by
      intro h j hj hjk
      by_cases e:j=k
      ·subst e;exact h
      ·exact HG.out j hj (by omega)
     generalize R[k]=x at *
     obtain ⟨xky,xfr,xto,xam,xfe⟩:=x
     dsimp only at c0 c1 c2 c3 c4 HY HN
     have HKe:=hide (HKr.out.trans (Keeps.alloc (Keeps.refl wr) (.cells #[.int .i64 xky,.int .i64 xfr,.int .i64 xto,.int .i64 xam,.int .i64 xfe] 115)))
     clear HG
     by_cases h1:xfr=ch
     ·replace HY:=hide (HY.out (by simp [h1]))
      subst h1
      clear HN
      go_wp2_with fail
      go_ret
      exact ⟨ret_b HY.out.symm,(HKA.out.trans HKs.out).trans HKe.out⟩
     ·by_cases h2:xto=ch
      ·replace HY:=hide (HY.out (by simp [h2]))
       subst h2
       clear HN
       go_wp2_with fail
       go_ret
       exact ⟨ret_b HY.out.symm,(HKA.out.trans HKs.out).trans HKe.out⟩
      ·replace HN:=hide (HN.out (by simp [h1,h2]))
       have d1:(xfr==ch)=false:=by simpa using h1
       have d2:(xto==ch)=false:=by simpa using h2
       clear HY
       go_wp2_with fail
       go_roundw
       case rel=>exact ⟨k+1,by omega,by go_num,HN.out,HKe.out⟩
       case measure=>simp [intOf];omega
    ·have e:k=R.length:=by omega
     subst e
     have HA2:Hid (R.any (fun c=>decide (c.fr=ch) || decide (c.to=ch))=false):=any_no (fun j hj=>HG.out j hj hj)
     go_wp2_with fail
     go_ret
     exact ⟨ret_b (by unfold busyB;rw [HA.out,HA2.out];rfl),(HKA.out.trans HKs.out).trans HKr.out⟩
end Go.Proofs.YtccdhcempnkgaaaGreatDoor
namespace Go.Proofs.YtccdhcempnkgaaaGreatDoor
open Go.RowKit Go.Deep
set_option linter.unusedVariables false
set_option linter.unusedSimpArgs false
set_option maxRecDepth 10000
def rmF (o:Int) (h:Htl):Int:=if h.out=o then (if h.kp=true then 0 else h.ao) else 0
def rmA (o:Int) (h:Htl):Int:=if h.out=o then h.ao else 0
def rmS (o:Int) (h:Htl):Int:=if h.out=o then (if h.kp=true then 0 else 1) else 0
def rmT (o:Int) (h:Htl):Int:=if h.out=o then 1 else 0
def sumH (f:Htl→Int) (Hs:List Htl):Int:=(Hs.map f).sum
def roomV (Hs:List Htl) (ci co:Chn) (amt:Int) (yes:Bool):Int:=allowV co.sz (sumH (rmF co.id) Hs) (sumH (rmA co.id) Hs) (sumH (rmS co.id) Hs) (sumH (rmT co.id) Hs) amt (standS ci.sc yes)
theorem rm_small {o:Int} {h:Htl} (h0:0≤h.ao) (h1:h.ao≤1125899906842624):(0≤rmF o h∧rmF o h≤1125899906842624)∧(0≤rmA o h∧rmA o h≤1125899906842624)∧(0≤rmS o h∧rmS o h≤1125899906842624)∧(0≤rmT o h∧rmT o h≤1125899906842624):=by
 refine ⟨?_,?_,?_,?_⟩
 ·unfold rmF;split <;> (try split) <;> omega
 ·unfold rmA;split <;> omega
 ·unfold rmS;split <;> (try split) <;> omega
 ·unfold rmT;split <;> omega
set_option maxHeartbeats 4000000 in
theorem room_spec (B:Bo) (ci co:Chn) (amt:Int) (yes:Bool) (w:World) (hm:Mem w B.segs) (hs:Small B.d):Calls Tryz.prog 77 #[B.v,.agg #[.int .i64 ci.id,.int .i64 ci.sz,.int .i64 ci.lo,.int .i64 ci.re,.int .i64 ci.ba,.int .i64 ci.pp,.int .i64 ci.sc],.agg #[.int .i64 co.id,.int .i64 co.sz,.int .i64 co.lo,.int .i64 co.re,.int .i64 co.ba,.int .i64 co.pp,.int .i64 co.sc],.int .i64 amt,.bool yes] w fun e w'=>e=.returned (.int .i64 (roomV B.Hs ci co amt yes))∧Keeps w w':=by
 obtain ⟨tk,nx,wa,ca,cc,C,ha,hc,Hs,ra,rc,R⟩:=B
 obtain ⟨iid,isz,ilo,ire,iba,ipp,isc⟩:=ci
 obtain ⟨oid,osz,olo,ore,oba,opp,osc⟩:=co
 have HCH:=hide (fun w' (hk:Keeps w w')=>Bo.memH (hm.kept hk))
 have HKA:=hide (((((Keeps.refl w).alloc (.cells #[.int .i64 tk,.int .i64 nx,.int .i64 wa,.slice ca C.length cc,.slice ha Hs.length hc,.slice ra R.length rc] 34))).alloc (.cells #[.int .i64 iid,.int .i64 isz,.int .i64 ilo,.int .i64 ire,.int .i64 iba,.int .i64 ipp,.int .i64 isc] 78)).alloc (.cells #[.int .i64 oid,.int .i64 osz,.int .i64 olo,.int .i64 ore,.int .i64 oba,.int .i64 opp,.int .i64 osc] 78))
 have i6:=(rowc7 (w.alloc (.cells #[.int .i64 tk,.int .i64 nx,.int .i64 wa,.slice ca C.length cc,.slice ha Hs.length hc,.slice ra R.length rc] 34)) (.int .i64 iid) (.int .i64 isz) (.int .i64 ilo) (.int .i64 ire) (.int .i64 iba) (.int .i64 ipp) (.int .i64 isc) 78 (((w.alloc (.cells #[.int .i64 tk,.int .i64 nx,.int .i64 wa,.slice ca C.length cc,.slice ha Hs.length hc,.slice ra R.length rc] 34)).alloc (.cells #[.int .i64 iid,.int .i64 isz,.int .i64 ilo,.int .i64 ire,.int .i64 iba,.int .i64 ipp,.int .i64 isc] 78)).alloc (.cells #[.int .i64 oid,.int .i64 osz,.int .i64 olo,.int .i64 ore,.int .i64 oba,.int .i64 opp,.int .i64 osc] 78)) ((Keeps.refl _).alloc _)).2.2.2.2.2.2
 have o0:=(rowc7 ((w.alloc (.cells #[.int .i64 tk,.int .i64 nx,.int .i64 wa,.slice ca C.length cc,.slice ha Hs.length hc,.slice ra R.length rc] 34)).alloc (.cells #[.int .i64 iid,.int .i64 isz,.int .i64 ilo,.int .i64 ire,.int .i64 iba,.int .i64 ipp,.int .i64 isc] 78)) (.int .i64 oid) (.int .i64 osz) (.int .i64 olo) (.int .i64 ore) (.int .i64 oba) (.int .i64 opp) (.int .i64 osc) 78 (((w.alloc (.cells #[.int .i64 tk,.int .i64 nx,.int .i64 wa,.slice ca C.length cc,.slice ha Hs.length hc,.slice ra R.length rc] 34)).alloc (.cells #[.int .i64 iid,.int .i64 isz,.int .i64 ilo,.int .i64 ire,.int .i64 iba,.int .i64 ipp,.int .i64 isc] 78)).alloc (.cells #[.int .i64 oid,.int .i64 osz,.int .i64 olo,.int .i64 ore,.int .i64 oba,.int .i64 opp,.int .i64 osc] 78)) (Keeps.refl _)).1
 have o1:=(rowc7 ((w.alloc (.cells #[.int .i64 tk,.int .i64 nx,.int .i64 wa,.slice ca C.length cc,.slice ha Hs.length hc,.slice ra R.length rc] 34)).alloc (.cells #[.int .i64 iid,.int .i64 isz,.int .i64 ilo,.int .i64 ire,.int .i64 iba,.int .i64 ipp,.int .i64 isc] 78)) (.int .i64 oid) (.int .i64 osz) (.int .i64 olo) (.int .i64 ore) (.int .i64 oba) (.int .i64 opp) (.int .i64 osc) 78 (((w.alloc (.cells #[.int .i64 tk,.int .i64 nx,.int .i64 wa,.slice ca C.length cc,.slice ha Hs.length hc,.slice ra R.length rc] 34)).alloc (.cells #[.int .i64 iid,.int .i64 isz,.int .i64 ilo,.int .i64 ire,.int .i64 iba,.int .i64 ipp,.int .i64 isc] 78)).alloc (.cells #[.int .i64 oid,.int .i64 osz,.int .i64 olo,.int .i64 ore,.int .i64 oba,.int .i64 opp,.int .i64 osc] 78)) (Keeps.refl _)).2.1
 rw [size_alloc1] at i6
 rw [size_alloc1,size_alloc1] at o0 o1
 have HI6:=hide i6
 have HO0:=hide o0
 have HO1:=hide o1
 clear i6 o0 o1
 dsimp only [Bo.d,Bo.v] at *
 clear hm
 go_enter Tryz.func77,Tryz.ntmps77
 go_wp2_with fail
 obtain ⟨hsH,-,hlH,-⟩:=hs
 have HsH:=hide hsH
 clear hsH
 dsimp only at hlH HsH
 generalize (((w.alloc (.cells #[.int .i64 tk,.int .i64 nx,.int .i64 wa,.slice ca C.length cc,.slice ha Hs.length hc,.slice ra R.length rc] 34)).alloc (.cells #[.int .i64 iid,.int .i64 isz,.int .i64 ilo,.int .i64 ire,.int .i64 iba,.int .i64 ipp,.int .i64 isc] 78)).alloc (.cells #[.int .i64 oid,.int .i64 osz,.int .i64 olo,.int .i64 ore,.int .i64 oba,.int .i64 opp,.int .i64 osc] 78))=W0 at *
 go_loopw [11,12,13,14,20] (fun x1 x2 x3 x4 z wr=>∃ (k:Nat) (p1 p2 p3 p4:Int),k≤Hs.length∧x1=.int .i64 p1∧x2=.int .i64 p2∧x3=.int .i64 p3∧x4=.int .i64 p4∧z=.int .i64 (k:Int)∧Hid (p1=sumH (rmF oid) (Hs.take k)∧p2=sumH (rmA oid) (Hs.take k)∧p3=sumH (rmS oid) (Hs.take k)∧p4=sumH (rmT oid) (Hs.take k))∧Hid (Keeps W0 wr)) (fun _ _ _ _ z _=>Hs.length-(intOf z).toNat)
 case atStart=>exact ⟨0,0,0,0,0,by omega,rfl,rfl,rfl,rfl,rfl,by simp [sumH,Hid],Keeps.refl _⟩
 case round =>
  obtain ⟨k,p1,p2,p3,p4,hk,rfl,rfl,rfl,rfl,rfl,HP,HKr⟩:=hrel
  have i6:=HKr.out.cell HI6.out
  have o0:=HKr.out.cell HO0.out
  have o1:=HKr.out.cell HO1.out
  by_cases hlt:k < Hs.length
  ·have hb:=fun (f:Htl→Int) (hf:∀ x∈Hs,0≤f x∧f x≤1125899906842624)=>sum_small f 1125899906842624 Hs k 60 (by decide) (by omega) hlH hf
   have b1:=hb (rmF oid) (fun x hx=>(rm_small (HsH.out x hx).2.2.1 (HsH.out x hx).2.2.2).1)
   have b2:=hb (rmA oid) (fun x hx=>(rm_small (HsH.out x hx).2.2.1 (HsH.out x hx).2.2.2).2.1)
   have b3:=hb (rmS oid) (fun x hx=>(rm_small (HsH.out x hx).2.2.1 (HsH.out x hx).2.2.2).2.2.1)
   have b4:=hb (rmT oid) (fun x hx=>(rm_small (HsH.out x hx).2.2.1 (HsH.out x hx).2.2.2).2.2.2)
   have HN:Hid (sumH (rmF oid) (Hs.take (k+1))=p1+rmF oid Hs[k]∧sumH (rmA oid) (Hs.take (k+1))=p2+rmA oid Hs[k]∧sumH (rmS oid) (Hs.take (k+1))=p3+rmS oid Hs[k]∧sumH (rmT oid) (Hs.take (k+1))=p4+rmT oid Hs[k]):=by
    obtain ⟨e1,e2,e3,e4⟩:=HP.out
    rw [e1,e2,e3,e4]
    exact ⟨sum_take_succ _ Hs k hlt,sum_take_succ _ Hs k hlt,sum_take_succ _ Hs k hlt,sum_take_succ _ Hs k hlt⟩
   have hz:=HsH.out Hs[k] (List.getElem_mem hlt)
   obtain ⟨b,off,ea,c0,c1,c2,c3,c4,c5,c6⟩:=hts_at (unhide HCH _ (HKA.out.trans HKr.out)) k hlt
   have HX:=hide ea
   obtain rfl:=HX.out
   obtain ⟨e1,e2,e3,e4⟩:=HP.out
   change p1=((Hs.take k).map (rmF oid)).sum at e1
   change p2=((Hs.take k).map (rmA oid)).sum at e2
   change p3=((Hs.take k).map (rmS oid)).sum at e3
   change p4=((Hs.take k).map (rmT oid)).sum at e4
   rw [← e1] at b1
   rw [← e2] at b2
   rw [← e3] at b3
   rw [← e4] at b4
   clear e1 e2 e3 e4 HP hb
   generalize Hs[k]=x at *
   obtain ⟨xky,xinn,xout,xai,xao,xkp,xag⟩:=x
   dsimp only at c0 c1 c2 c3 c4 c5 c6 hz
   obtain ⟨-,-,z2,z3⟩:=hz
   obtain ⟨b10,b11⟩:=b1
   obtain ⟨b20,b21⟩:=b2
   obtain ⟨b30,b31⟩:=b3
   obtain ⟨b40,b41⟩:=b4
   have HKe:=hide (HKr.out.trans (Keeps.alloc (Keeps.refl wr) (.cells #[.int .i64 xky,.int .i64 xinn,.int .i64 xout,.int .i64 xai,.int .i64 xao,.bool xkp,.int .i64 xag] 112)))
   clear o1 i6
   have hs2:=lt_of_cell o0
   by_cases ho:xout=oid
   ·subst ho
    cases xkp with
    | true =>
      go_wp2_with fail
      go_roundw
      case rel=>exact ⟨k+1,_,_,_,_,by omega,rfl,rfl,rfl,rfl,by go_num,by rw [HN.out.1,HN.out.2.1,HN.out.2.2.1,HN.out.2.2.2];simp [Hid,rmF,rmA,rmS,rmT],HKe.out⟩
      case measure=>simp [intOf];omega
    | false =>
      go_wp2_with fail
      go_roundw
      case rel=>exact ⟨k+1,_,_,_,_,by omega,rfl,rfl,rfl,rfl,by go_num,by rw [HN.out.1,HN.out.2.1,HN.out.2.2.1,HN.out.2.2.2];simp [Hid,rmF,rmA,rmS,rmT],HKe.out⟩
      case measure=>simp [intOf];omega
   ·go_wp2_with fail
    go_roundw
    case rel=>exact ⟨k+1,_,_,_,_,by omega,rfl,rfl,rfl,rfl,by go_num,by rw [HN.out.1,HN.out.2.1,HN.out.2.2.1,HN.out.2.2.2];simp [Hid,rmF,rmA,rmS,rmT,ho],HKe.out⟩
    case measure=>simp [intOf];omega
  ·have e:k=Hs.length:=by omega
   subst e
   rw [List.take_length] at HP
   clear o0 o1 i6
   go_upto_region 15 with fail
   have i6:=fun t=>(HKr.out.trans (gr_keeps wr t)).cell HI6.out
   have o1:=fun t=>(HKr.out.trans (gr_keeps wr t)).cell HO1.out
   have HS:=hide (fun t=>stand_spec isc yes (gr wr t))
   have HA:=hide (fun t=>allow_spec osz p1 p2 p3 p4 amt (standS isc yes) (gr wr t))
   refine region_gr (by kernel_rfl) (by kernel_rfl) ?_
   repeat (go_big_quiet_step (first | (go_at_call 105;exact gr_call (unhide HS _)) | (go_at_call 104;exact gr_call (unhide HA _))))
   refine wpQuiet_nil ?_
   intro w' hw'
   have HK':=hide (HKr.out.trans (Keeps.of_gr hw'))
   clear hw' i6 o1 HS HA
   go_wp2_with fail
   go_ret
   exact ⟨ret_i (by obtain ⟨e1,e2,e3,e4⟩:=HP.out;rw [e1,e2,e3,e4];rfl),HKA.out.trans HK'.out⟩
end Go.Proofs.YtccdhcempnkgaaaGreatDoor
