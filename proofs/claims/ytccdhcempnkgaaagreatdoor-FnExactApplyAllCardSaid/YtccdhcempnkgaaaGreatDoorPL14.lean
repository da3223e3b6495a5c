/- Texts of the verifier, joined: WkP, WkQ, WkR, WkS. -/
import Derived.Test.YtccdhcempnkgaaaGreatDoorPL13
import Derived.Test.YtccdhcempnkgaaaGreatDoorPL10
import Derived.Deep.AppendLies
import Derived.Test.YtccdhcempnkgaaaGreatDoorPL2
namespace Go.Proofs.YtccdhcempnkgaaaGreatDoor
open Go.RowKit Go.Deep
set_option linter.unusedVariables false
set_option linter.unusedSimpArgs false
set_option maxRecDepth 10000
theorem code_no (W w:World) (p:Nat) (k:Wk) (c:Int) (hc:k.cd=0) (h:WkAt W w p k) :
 Calls Tryz.prog 34 #[.pointer (some ⟨p,0,none⟩),.bool false,.int .i64 c] w fun e w'=>e=.returned (.bool false)∧Keeps w w':=by
 have c7:=h.cells.2.2.2.2.2.2.2
 rw [hc] at c7
 clear h
 go_enter Tryz.func34,Tryz.ntmps34
 go_wp2_with fail
 go_ret
 exact ⟨rfl,Keeps.refl _⟩
theorem code_yes (W w:World) (p:Nat) (k:Wk) (c:Int) (hc:k.cd=0) (hn:c≠0) (h:WkAt W w p k) :
 Calls Tryz.prog 34 #[.pointer (some ⟨p,0,none⟩),.bool true,.int .i64 c] w fun e w'=>e=.returned (.bool true)∧WkAt W w' p { k with cd:=c }∧Turn [p] w w':=by
 have HS:=hide (h.setCd c)
 have c7:=h.cells.2.2.2.2.2.2.2
 have f7:=h.row.frozen 7
 have c7':=HS.out.cells.2.2.2.2.2.2.2
 have HT:Hid (Turn [p] w (w.setCell ⟨p,7,none⟩ (.int .i64 c))):=Turn.set (by simp) _
 rw [hc] at c7
 have hd:(c != 0)=true:=by simpa using hn
 clear h
 go_enter Tryz.func34,Tryz.ntmps34
 go_upto_region 3 with fail
 generalize w.setCell ⟨p,7,none⟩ (.int .i64 c)=w1 at *
 dsimp only at c7'
 go_wp2_with fail
 go_ret
 exact ⟨rfl,HS.out,HT.out⟩
theorem its_owned {w:World} {base g cap:Nat} {L:List Int} (h:OwnsI w base (.slice (some ⟨g,0,none⟩) L.length cap) L):Cells w (some ⟨g,0,none⟩) (its L):=owns_mem h
def LS (k:Wk) (p pe:Nat) (ky ch tt am fe:Int) (w':World):Prop:=w'.cell? ⟨p,0,none⟩=some (.int .i64 k.tk)∧w'.cell? ⟨p,1,none⟩=some (.int .i64 k.nx)∧w'.cell? ⟨p,2,none⟩=some (.int .i64 k.wa)∧w'.cell? ⟨p,3,none⟩=some (.slice (some ⟨k.gC,0,none⟩) k.C.length k.cC)∧w'.cell? ⟨p,4,none⟩=some (.slice (some ⟨k.gH,0,none⟩) k.Hs.length k.cH)∧w'.cell? ⟨p,5,none⟩=some (.slice (some ⟨k.gR,0,none⟩) k.R.length k.cR)∧w'.cell? ⟨pe,1,none⟩=some (.int .i64 ky)∧w'.cell? ⟨pe,2,none⟩=some (.int .i64 ch)∧w'.cell? ⟨pe,3,none⟩=some (.int .i64 tt)∧w'.cell? ⟨pe,4,none⟩=some (.int .i64 am)∧w'.cell? ⟨pe,5,none⟩=some (.int .i64 fe)
theorem LS.of {W w':World} {k:Wk} {p pe:Nat} {kd ky ch tt am fe:Int} {ys:Bool} (h:WkAt W w' p k) (e:w'.cell? ⟨pe,0,none⟩=some (.int .i64 kd)∧w'.cell? ⟨pe,1,none⟩=some (.int .i64 ky)∧w'.cell? ⟨pe,2,none⟩=some (.int .i64 ch)∧w'.cell? ⟨pe,3,none⟩=some (.int .i64 tt)∧w'.cell? ⟨pe,4,none⟩=some (.int .i64 am)∧w'.cell? ⟨pe,5,none⟩=some (.int .i64 fe)∧w'.cell? ⟨pe,6,none⟩=some (.bool ys)):LS k p pe ky ch tt am fe w':=by
 obtain ⟨q0,q1,q2,q3,q4,q5,_,_⟩:=h.cells
 obtain ⟨_,e1,e2,e3,e4,e5,_⟩:=e
 exact ⟨q0,q1,q2,q3,q4,q5,e1,e2,e3,e4,e5⟩
theorem LS.kept {w w':World} {k:Wk} {p pe:Nat} {ky ch tt am fe:Int} (h:LS k p pe ky ch tt am fe w) (hk:Keeps w w'):LS k p pe ky ch tt am fe w':=by
 obtain ⟨q0,q1,q2,q3,q4,q5,e1,e2,e3,e4,e5⟩:=h
 exact ⟨hk.cell q0,hk.cell q1,hk.cell q2,hk.cell q3,hk.cell q4,hk.cell q5,hk.cell e1,hk.cell e2,hk.cell e3,hk.cell e4,hk.cell e5⟩
theorem LS.code {W w w':World} {k:Wk} {p pe:Nat} {ky ch tt am fe c:Int} (h:LS k p pe ky ch tt am fe w) (ht:Turn [p] w w') (hw:WkAt W w' p { k with cd:=c }) (hne:pe≠p):LS k p pe ky ch tt am fe w':=by
 obtain ⟨_,_,_,_,_,_,e1,e2,e3,e4,e5⟩:=h
 obtain ⟨q0,q1,q2,q3,q4,q5,_,_⟩:=hw.cells
 have hn:∀ i,(⟨pe,i,none⟩:Addr).block∉[p]:=fun i=>by simpa using hne
 exact ⟨q0,q1,q2,q3,q4,q5,ht.cell (hn 1) e1,ht.cell (hn 2) e2,ht.cell (hn 3) e3,ht.cell (hn 4) e4,ht.cell (hn 5) e5⟩
def loC (C:List Chn) (ch:Int):Int:=match atC C ch with | some i=>(C[i]?.map (·.lo)).getD 0 | none=>0
def reC (C:List Chn) (ch:Int):Int:=match atC C ch with | some i=>(C[i]?.map (·.re)).getD 0 | none=>0
def launchC (B:Bk) (ky ch tt am fe:Int):Int:=if ky∈keysL B then 9 else if twoB B.C ch tt=false then 6 else if B.R.length=20 then 14 else if addB am fe=false then 10 else if loC B.C ch < am+fe then 12 else if reC B.C tt < am then 11 else 0
def launchB (B:Bk) (ky ch tt am fe:Int):Bk:=⟨B.tk,B.nx,B.wa,movC (movC B.C ch (-(am+fe)) 0) tt 0 (-am),B.Hs,B.R++[⟨ky,ch,tt,am,fe⟩]⟩
def launchL (L:List Ln) (ch am fe:Int):List Ln:=lineW (lineW L 6 ch (-(am+fe))) 8 ch (am+fe)
end Go.Proofs.YtccdhcempnkgaaaGreatDoor
namespace Go.Proofs.YtccdhcempnkgaaaGreatDoor
open Go.RowKit Go.Deep
set_option linter.unusedVariables false
set_option linter.unusedSimpArgs false
set_option maxRecDepth 10000
theorem appL_Circle {ops:Array Oper} {rest:List Oper} {o:Oper} {a:Act} {Q:Exit→Act→World→Prop} {wr:World} (hgd:o.guard=none) (s x:Operand)
 (ho:o.op=.call { callee:=.builtin .append,args:=#[s,x],argTypes:=#[32,32] }) (base g cap:Nat) (L:List Crc) (y:Crc) (hs:a.eval s=.slice (some ⟨g,0,none⟩) L.length cap) (xa:Addr) (c:Nat)
 (hx:a.eval x=.slice (some xa) 1 c) (hM:Cells wr (some xa) (crs [y])) (hown:OwnsCircle wr base (.slice (some ⟨g,0,none⟩) L.length cap) L) (hl:L.length≤1000000) (hbase:base≤wr.heap.size)
 (h:∀ g' c' w',OwnsCircle w' base (.slice (some ⟨g',0,none⟩) (L++[y]).length c') (L++[y])→wr.grownBy w' (some g)→(g'=g∨g'=wr.heap.size)→wpList Tryz.prog ops Q rest (a.put o.dst (.slice (some ⟨g',0,none⟩) (L.length+1) c')) w') :
 wpList Tryz.prog ops Q (o :: rest) a wr:=by
 have hI:=infoCircle
 cases hi:Tryz.prog.info? 115 with
 | none=>rw [hi] at hI;simp at hI
 | some i =>
   rw [hi] at hI
   simp at hI
   obtain ⟨hz,hsz,hby⟩:=hI
   refine wpList_append_lies _ hgd s x 32 ho base 115 i _ 5 40 underCircles hi hz hsz hby rfl (by decide) _ L.length (crs L) hs hown xa 1 c (crs [y]) hx (by rw [crs_len];rfl) ?_ (fun u hu=>cell_one_Circle hu) (by decide) (by simp only [maxLen];omega) (by omega) hbase _ rfl ?_
   ·intro j u hj
    rcases hM with hM | ⟨b,off,e,hM⟩
    ·rw [hM] at hj;simp at hj
    ·obtain rfl:=Option.some.inj e
     obtain ⟨hj',e'⟩:=List.getElem?_eq_some_iff.1 hj
     have:=hM j hj'
     rw [e'] at this
     rw [← this,addr_at]
   ·intro g' c' w' h1 h2 h3 h4
    refine h g' c' w' (by unfold OwnsCircle;rw [crs_append,List.length_append];exact h1) h2 ?_
    rcases h3 with h3 | h3
    ·left;exact (Option.some.inj h3).symm
    ·exact .inr h3
theorem appL_Htlc {ops:Array Oper} {rest:List Oper} {o:Oper} {a:Act} {Q:Exit→Act→World→Prop} {wr:World} (hgd:o.guard=none) (s x:Operand)
 (ho:o.op=.call { callee:=.builtin .append,args:=#[s,x],argTypes:=#[31,31] }) (base g cap:Nat) (L:List Htl) (y:Htl) (hs:a.eval s=.slice (some ⟨g,0,none⟩) L.length cap) (xa:Addr) (c:Nat)
 (hx:a.eval x=.slice (some xa) 1 c) (hM:Cells wr (some xa) (hts [y])) (hown:OwnsHtlc wr base (.slice (some ⟨g,0,none⟩) L.length cap) L) (hl:L.length≤1000000) (hbase:base≤wr.heap.size)
 (h:∀ g' c' w',OwnsHtlc w' base (.slice (some ⟨g',0,none⟩) (L++[y]).length c') (L++[y])→wr.grownBy w' (some g)→(g'=g∨g'=wr.heap.size)→wpList Tryz.prog ops Q rest (a.put o.dst (.slice (some ⟨g',0,none⟩) (L.length+1) c')) w') :
 wpList Tryz.prog ops Q (o :: rest) a wr:=by
 have hI:=infoHtlc
 cases hi:Tryz.prog.info? 112 with
 | none=>rw [hi] at hI;simp at hI
 | some i =>
   rw [hi] at hI
   simp at hI
   obtain ⟨hz,hsz,hby⟩:=hI
   refine wpList_append_lies _ hgd s x 31 ho base 112 i _ 7 56 underHtlcs hi hz hsz hby rfl (by decide) _ L.length (hts L) hs hown xa 1 c (hts [y]) hx (by rw [hts_len];rfl) ?_ (fun u hu=>cell_one_Htlc hu) (by decide) (by simp only [maxLen];omega) (by omega) hbase _ rfl ?_
   ·intro j u hj
    rcases hM with hM | ⟨b,off,e,hM⟩
    ·rw [hM] at hj;simp at hj
    ·obtain rfl:=Option.some.inj e
     obtain ⟨hj',e'⟩:=List.getElem?_eq_some_iff.1 hj
     have:=hM j hj'
     rw [e'] at this
     rw [← this,addr_at]
   ·intro g' c' w' h1 h2 h3 h4
    refine h g' c' w' (by unfold OwnsHtlc;rw [hts_append,List.length_append];exact h1) h2 ?_
    rcases h3 with h3 | h3
    ·left;exact (Option.some.inj h3).symm
    ·exact .inr h3
theorem row8_R (k:Wk) (g c:Nat) (M:List Crc):∀ j,j < 8→(if j=5 then (.slice (some ⟨g,0,none⟩) M.length c:Value) else k.row j)=(Wk.row { k with gR:=g,cR:=c,R:=M }) j
 | 0,_=>rfl
 | 1,_=>rfl
 | 2,_=>rfl
 | 3,_=>rfl
 | 4,_=>rfl
 | 5,_=>rfl
 | 6,_=>rfl
 | 7,_=>rfl
 | n+8,h=>absurd h (by omega)
theorem WkAt.growR {W w W5 w':World} {p:Nat} {k:Wk} {x:Crc} {g' c':Nat} (h:WkAt W w p k) (hk:Keeps w W5) (ho:OwnsCircle w' W.heap.size (.slice (some ⟨g',0,none⟩) (k.R++[x]).length c') (k.R++[x])) (hg:W5.grownBy w' (some k.gR)) (hat:g'=k.gR∨g'=W5.heap.size) :
 WkAt W (w'.setCell ⟨p,5,none⟩ (.slice (some ⟨g',0,none⟩) (k.R++[x]).length c')) p { k with gR:=g',cR:=c',R:=k.R++[x] }∧w'.cell? ⟨p,5,none⟩=some (.slice (some ⟨k.gR,0,none⟩) k.R.length k.cR)∧w'.frozen? ⟨p,5,none⟩=false∧p < w'.heap.size:=by
 have h1:=h.kept hk
 have nd:=h1.nd
 simp only [List.nodup_cons,List.mem_cons,not_or] at nd
 obtain ⟨⟨n1,n2,n3,n4⟩,⟨n5,n6,n7⟩,⟨n8,n9⟩,n10,n11⟩:=nd
 have lp:=h1.row.lt
 have lC:=(h1.oC.lt k.gC rfl).2
 have lH:=(h1.oH.lt k.gH rfl).2
 have lR:=(h1.oR.lt k.gR rfl).2
 have lL:∀ b∈lb k.la,b < W5.heap.size:=by
  intro b hb
  cases hla:k.la with
  | none=>rw [hla] at hb;simp [lb] at hb
  | some q =>
    rw [hla] at hb
    simp [lb] at hb
    subst hb
    have:=h1.oL.lt q.block (by rw [hla];rfl)
    exact this.2
 have hbF:=(h1.oR.lt k.gR rfl).1
 have hkw:Keeps W w':=(grown_turn hg).keeps h1.keep (fun b hb=>by rw [List.mem_singleton.1 hb];exact hbF)
 have hne:p≠k.gR:=n3
 have hrow:=row_grown h1.row hg hne
 have hL1:=h1.oL.kept hg (ownBlock_lb n10)
 have ht:Turn [p] w' (w'.setCell ⟨p,5,none⟩ (.slice (some ⟨g',0,none⟩) (k.R++[x]).length c')):=Turn.set (by simp) _
 have hg2:w'.grownBy (w'.setCell ⟨p,5,none⟩ (.slice (some ⟨g',0,none⟩) (k.R++[x]).length c')) (some p):=⟨ht.os,ht.tape,ht.output,ht.size,fun j hj hn=>ht.block j hj (fun hx=>hn (by rw [List.mem_singleton.1 hx]))⟩
 have np:g'≠p:=by rcases hat with e | e <;> omega
 refine ⟨⟨ht.keeps hkw (fun b hb=>by rw [List.mem_singleton.1 hb];exact h.hp),h.hp,(hrow.set 5 _).congr (fun j hj=>row8_R k g' c' (k.R++[x]) j hj),?_,?_,?_,hL1.kept hg2 (ownBlock_lb n4),?_⟩,hrow.cell (i:=5) (by decide),hrow.frozen 5,hrow.lt⟩
 ·exact ownsX (ownsX h1.oC hg n6) hg2 (Ne.symm n1)
 ·exact ownsX (ownsX h1.oH hg n8) hg2 (Ne.symm n2)
 ·exact ownsX ho hg2 np
 ·simp only [List.nodup_cons,List.mem_cons,not_or]
  rcases hat with e | e
  ·rw [e];exact ⟨⟨n1,n2,n3,n4⟩,⟨n5,n6,n7⟩,⟨n8,n9⟩,n10,n11⟩
  ·have hl:g'∉lb k.la:=fun hx=>by have:=lL _ hx;omega
   refine ⟨⟨?_,?_,?_,n4⟩,⟨?_,?_,?_⟩,⟨?_,?_⟩,?_,n11⟩ <;> first | assumption | omega
theorem row8_H (k:Wk) (g c:Nat) (M:List Htl):∀ j,j < 8→(if j=4 then (.slice (some ⟨g,0,none⟩) M.length c:Value) else k.row j)=(Wk.row { k with gH:=g,cH:=c,Hs:=M }) j
 | 0,_=>rfl
 | 1,_=>rfl
 | 2,_=>rfl
 | 3,_=>rfl
 | 4,_=>rfl
 | 5,_=>rfl
 | 6,_=>rfl
 | 7,_=>rfl
 | n+8,h=>absurd h (by omega)
theorem WkAt.growH {W w W5 w':World} {p:Nat} {k:Wk} {x:Htl} {g' c':Nat} (h:WkAt W w p k) (hk:Keeps w W5) (ho:OwnsHtlc w' W.heap.size (.slice (some ⟨g',0,none⟩) (k.Hs++[x]).length c') (k.Hs++[x])) (hg:W5.grownBy w' (some k.gH)) (hat:g'=k.gH∨g'=W5.heap.size) :
 WkAt W (w'.setCell ⟨p,4,none⟩ (.slice (some ⟨g',0,none⟩) (k.Hs++[x]).length c')) p { k with gH:=g',cH:=c',Hs:=k.Hs++[x] }∧w'.cell? ⟨p,4,none⟩=some (.slice (some ⟨k.gH,0,none⟩) k.Hs.length k.cH)∧w'.frozen? ⟨p,4,none⟩=false∧p < w'.heap.size:=by
 have h1:=h.kept hk
 have nd:=h1.nd
 simp only [List.nodup_cons,List.mem_cons,not_or] at nd
 obtain ⟨⟨n1,n2,n3,n4⟩,⟨n5,n6,n7⟩,⟨n8,n9⟩,n10,n11⟩:=nd
 have lp:=h1.row.lt
 have lC:=(h1.oC.lt k.gC rfl).2
 have lH:=(h1.oH.lt k.gH rfl).2
 have lR:=(h1.oR.lt k.gR rfl).2
 have lL:∀ b∈lb k.la,b < W5.heap.size:=by
  intro b hb
  cases hla:k.la with
  | none=>rw [hla] at hb;simp [lb] at hb
  | some q =>
    rw [hla] at hb
    simp [lb] at hb
    subst hb
    have:=h1.oL.lt q.block (by rw [hla];rfl)
    exact this.2
 have hbF:=(h1.oH.lt k.gH rfl).1
 have hkw:Keeps W w':=(grown_turn hg).keeps h1.keep (fun b hb=>by rw [List.mem_singleton.1 hb];exact hbF)
 have hne:p≠k.gH:=n2
 have hrow:=row_grown h1.row hg hne
 have hL1:=h1.oL.kept hg (ownBlock_lb n9)
 have ht:Turn [p] w' (w'.setCell ⟨p,4,none⟩ (.slice (some ⟨g',0,none⟩) (k.Hs++[x]).length c')):=Turn.set (by simp) _
 have hg2:w'.grownBy (w'.setCell ⟨p,4,none⟩ (.slice (some ⟨g',0,none⟩) (k.Hs++[x]).length c')) (some p):=⟨ht.os,ht.tape,ht.output,ht.size,fun j hj hn=>ht.block j hj (fun hx=>hn (by rw [List.mem_singleton.1 hx]))⟩
 have np:g'≠p:=by rcases hat with e | e <;> omega
 refine ⟨⟨ht.keeps hkw (fun b hb=>by rw [List.mem_singleton.1 hb];exact h.hp),h.hp,(hrow.set 4 _).congr (fun j hj=>row8_H k g' c' (k.Hs++[x]) j hj),?_,?_,?_,hL1.kept hg2 (ownBlock_lb n4),?_⟩,hrow.cell (i:=4) (by decide),hrow.frozen 4,hrow.lt⟩
 ·exact ownsX (ownsX h1.oC hg n5) hg2 (Ne.symm n1)
 ·exact ownsX ho hg2 np
 ·exact ownsX (ownsX h1.oR hg (Ne.symm n8)) hg2 (Ne.symm n3)
 ·simp only [List.nodup_cons,List.mem_cons,not_or]
  rcases hat with e | e
  ·rw [e];exact ⟨⟨n1,n2,n3,n4⟩,⟨n5,n6,n7⟩,⟨n8,n9⟩,n10,n11⟩
  ·have hl:g'∉lb k.la:=fun hx=>by have:=lL _ hx;omega
   refine ⟨⟨?_,?_,?_,n4⟩,⟨?_,?_,?_⟩,⟨?_,?_⟩,?_,n11⟩ <;> first | assumption | omega
theorem one_Circle (W:World) (y:Crc):Cells (W.alloc (.cells #[.int .i64 y.ky,.int .i64 y.fr,.int .i64 y.to,.int .i64 y.am,.int .i64 y.fe] 115)) (some ⟨W.heap.size,0,none⟩) (crs [y]):=Or.inr ⟨W.heap.size,0,rfl,fun j hj=>by
 have hj':j < 5:=by have h4:=crs_len [y];rw [h4] at hj;simpa using hj
 rcases (show j=0∨j=1∨j=2∨j=3∨j=4 by omega) with rfl | rfl | rfl | rfl | rfl <;> simp [crs,Crc.cells]⟩
theorem two_at {C:List Chn} {x y:Int} (h:twoB C x y=true):∃ i j,atC C x=some i∧atC C y=some j∧x≠y:=by
 simp only [twoB,Bool.and_eq_true,decide_eq_true_eq,hasC_at,Option.isSome_iff_exists] at h
 obtain ⟨⟨h1,i,hi⟩,j,hj⟩:=h
 exact ⟨i,j,hi,hj,h1⟩
theorem loC_at {C:List Chn} {x:Int} {i:Nat} (h:atC C x=some i) (hi:i < C.length):loC C x=C[i].lo:=by simp [loC,h,hi]
theorem reC_at {C:List Chn} {x:Int} {i:Nat} (h:atC C x=some i) (hi:i < C.length):reC C x=C[i].re:=by simp [reC,h,hi]
def LT (k:Wk) (p pe:Nat) (ky ch tt am fe:Int) (i j:Nat) (lo re:Int) (w':World):Prop:=w'.cell? ⟨k.gC,i*7+2,none⟩=some (.int .i64 lo)∧w'.cell? ⟨k.gC,j*7+3,none⟩=some (.int .i64 re)∧LS k p pe ky ch tt am fe w'
theorem LT.kept {w w':World} {k:Wk} {p pe:Nat} {ky ch tt am fe:Int} {i j:Nat} {lo re:Int} (h:LT k p pe ky ch tt am fe i j lo re w) (hk:Keeps w w'):LT k p pe ky ch tt am fe i j lo re w':=⟨hk.cell h.1,hk.cell h.2.1,h.2.2.kept hk⟩
theorem LT.code {W w w':World} {k:Wk} {p pe:Nat} {ky ch tt am fe c:Int} {i j:Nat} {lo re:Int} (h:LT k p pe ky ch tt am fe i j lo re w) (ht:Turn [p] w w') (hw:WkAt W w' p { k with cd:=c }) (hne:pe≠p) (hnc:k.gC≠p):LT k p pe ky ch tt am fe i j lo re w' :=
 ⟨ht.cell (by simpa using hnc) h.1,ht.cell (by simpa using hnc) h.2.1,h.2.2.code ht hw hne⟩
end Go.Proofs.YtccdhcempnkgaaaGreatDoor
namespace Go.Proofs.YtccdhcempnkgaaaGreatDoor
open Go.RowKit Go.Deep
set_option linter.unusedVariables false
set_option linter.unusedSimpArgs false
set_option maxRecDepth 10000
def Gentle (n:Nat) (L:List Ln):Prop:=L.length≤n∧∀ y∈L,-(4503599627370496*(n:Int))≤y.a∧y.a≤4503599627370496*(n:Int)
theorem Gentle.nil:Gentle 0 []:=⟨by simp,fun y hy=>absurd hy (by simp)⟩
theorem Gentle.mild {n:Nat} {L:List Ln} (h:Gentle n L) (hn:n≤10):Mild L:=⟨by have:=h.1;omega,fun i hi=>by have:=h.2 _ (List.getElem_mem hi);omega⟩
theorem Gentle.line {n:Nat} {L:List Ln} (h:Gentle n L) (kind ch amt:Int) (h0:-4503599627370496≤amt) (h1:amt≤4503599627370496):Gentle (n+1) (lineW L kind ch amt):=by
 unfold lineW
 split
 ·exact ⟨by have:=h.1;omega,fun y hy=>by have:=h.2 y hy;constructor <;> (simp only [Int.natCast_add];omega)⟩
 ·refine ⟨by have:=addG_len ⟨kind,ch,amt⟩ false L;have:=h.1;omega,fun y hy=>?_⟩
  have:=addG_bound ⟨kind,ch,amt⟩ (4503599627370496*(n:Int)) 4503599627370496 h0 h1 (by omega) (by omega) false L h.2 y hy
  simp only [Int.natCast_add]
  omega
theorem movC_eq {C:List Chn} {ch lo re:Int} {i:Nat} (h:atC C ch=some i) (hi:i < C.length):movC C ch lo re=C.set i ⟨C[i].id,C[i].sz,C[i].lo+lo,C[i].re+re,C[i].ba,C[i].pp,C[i].sc⟩:=by
 unfold movC
 rw [h]
 exact modify_at _ _ _ hi
theorem atC_ids (C:List Chn) (x:Int):atC C x=(C.map (·.id)).findIdx? (fun n=>decide (n=x)):=by
 unfold atC
 rw [List.findIdx?_map]
 rfl
theorem movC_ids (C:List Chn) (ch lo re:Int):(movC C ch lo re).map (·.id)=C.map (·.id):=by
 cases h:atC C ch with
 | none=>unfold movC;rw [h]
 | some i =>
   obtain ⟨hi,_⟩:=atC_lt h
   rw [movC_eq h hi,List.map_set]
   dsimp only
   have hi':i < (C.map (·.id)).length:=by simpa using hi
   have e:C[i].id=(C.map (·.id))[i]'hi':=by simp
   rw [e]
   exact List.set_getElem_self hi'
theorem movC_at (C:List Chn) (ch lo re x:Int):atC (movC C ch lo re) x=atC C x:=by rw [atC_ids,atC_ids,movC_ids]
theorem movC_len (C:List Chn) (ch lo re:Int):(movC C ch lo re).length=C.length:=by
 have:=congrArg List.length (movC_ids C ch lo re)
 simpa using this
theorem movC_get {C:List Chn} {ch lo re:Int} {i j:Nat} (h:atC C ch=some i) (hj:j < C.length) (hne:i≠j) (hj':j < (movC C ch lo re).length):(movC C ch lo re)[j]=C[j]:=by
 obtain ⟨hi,_⟩:=atC_lt h
 have e:=movC_eq (lo:=lo) (re:=re) h hi
 simp only [e]
 exact List.getElem_set_ne hne _
theorem at_ne {C:List Chn} {x y:Int} {i j:Nat} (hi:atC C x=some i) (hj:atC C y=some j) (hne:x≠y):i≠j:=by
 intro e
 subst e
 obtain ⟨h1,e1⟩:=atC_lt hi
 obtain ⟨h2,e2⟩:=atC_lt hj
 exact hne (e1.symm.trans e2)
end Go.Proofs.YtccdhcempnkgaaaGreatDoor
namespace Go.Proofs.YtccdhcempnkgaaaGreatDoor
open Go.RowKit Go.Deep
set_option linter.unusedVariables false
set_option linter.unusedSimpArgs false
set_option maxRecDepth 10000
def rw5 (v0 v1 v2 v3 v4:Value):Nat→Value:=fun i=>if i=0 then v0 else if i=1 then v1 else if i=2 then v2 else if i=3 then v3 else v4
theorem rw5_new (w:World) (v0 v1 v2 v3 v4:Value) (t:TypeId):(w.alloc (.cells #[v0,v1,v2,v3,v4] t)).rowIs w.heap.size t 5 (rw5 v0 v1 v2 v3 v4):=World.rowIs_alloc w #[v0,v1,v2,v3,v4] t _ (fun i hi=>by
 match i,hi with
 | 0,_=>rfl
 | 1,_=>rfl
 | 2,_=>rfl
 | 3,_=>rfl
 | 4,_=>rfl)
theorem rw5_set {w:World} {b:Nat} {t:TypeId} {f:Nat→Value} (h:w.rowIs b t 5 f) (v0 v1 v2 v3 v4:Value):((((((w.setCell ⟨b,0,none⟩ v0).setCell ⟨b,1,none⟩ v1).setCell ⟨b,2,none⟩ v2).setCell ⟨b,3,none⟩ v3).setCell ⟨b,4,none⟩ v4)).rowIs b t 5 (rw5 v0 v1 v2 v3 v4) :=
 (((((h.set 0 v0).set 1 v1).set 2 v2).set 3 v3).set 4 v4).congr (fun i hi=>by
 match i,hi with
 | 0,_=>rfl
 | 1,_=>rfl
 | 2,_=>rfl
 | 3,_=>rfl
 | 4,_=>rfl)
theorem rw5_turn (w:World) (b:Nat) (v0 v1 v2 v3 v4:Value):Turn [b] w ((((((w.setCell ⟨b,0,none⟩ v0).setCell ⟨b,1,none⟩ v1).setCell ⟨b,2,none⟩ v2).setCell ⟨b,3,none⟩ v3).setCell ⟨b,4,none⟩ v4)):=(((((Turn.set (by simp) _).trans' (Turn.set (by simp) _)).trans' (Turn.set (by simp) _)).trans' (Turn.set (by simp) _)).trans' (Turn.set (by simp) _))
theorem rw5_cells {w:World} {b:Nat} {t:TypeId} {v0 v1 v2 v3 v4:Value} (h:w.rowIs b t 5 (rw5 v0 v1 v2 v3 v4)):w.cell? ⟨b,0,none⟩=some v0∧w.cell? ⟨b,1,none⟩=some v1∧w.cell? ⟨b,2,none⟩=some v2∧w.cell? ⟨b,3,none⟩=some v3∧w.cell? ⟨b,4,none⟩=some v4 :=
 ⟨h.cell (i:=0) (by decide),h.cell (i:=1) (by decide),h.cell (i:=2) (by decide),h.cell (i:=3) (by decide),h.cell (i:=4) (by decide)⟩
def rw7 (v0 v1 v2 v3 v4 v5 v6:Value):Nat→Value:=fun i=>if i=0 then v0 else if i=1 then v1 else if i=2 then v2 else if i=3 then v3 else if i=4 then v4 else if i=5 then v5 else v6
theorem rw7_new (w:World) (v0 v1 v2 v3 v4 v5 v6:Value) (t:TypeId):(w.alloc (.cells #[v0,v1,v2,v3,v4,v5,v6] t)).rowIs w.heap.size t 7 (rw7 v0 v1 v2 v3 v4 v5 v6):=World.rowIs_alloc w #[v0,v1,v2,v3,v4,v5,v6] t _ (fun i hi=>by
 match i,hi with
 | 0,_=>rfl
 | 1,_=>rfl
 | 2,_=>rfl
 | 3,_=>rfl
 | 4,_=>rfl
 | 5,_=>rfl
 | 6,_=>rfl)
theorem rw7_set {w:World} {b:Nat} {t:TypeId} {f:Nat→Value} (h:w.rowIs b t 7 f) (v0 v1 v2 v3 v4 v5 v6:Value):((((((((w.setCell ⟨b,0,none⟩ v0).setCell ⟨b,1,none⟩ v1).setCell ⟨b,2,none⟩ v2).setCell ⟨b,3,none⟩ v3).setCell ⟨b,4,none⟩ v4).setCell ⟨b,5,none⟩ v5).setCell ⟨b,6,none⟩ v6)).rowIs b t 7 (rw7 v0 v1 v2 v3 v4 v5 v6) :=
 (((((((h.set 0 v0).set 1 v1).set 2 v2).set 3 v3).set 4 v4).set 5 v5).set 6 v6).congr (fun i hi=>by
 match i,hi with
 | 0,_=>rfl
 | 1,_=>rfl
 | 2,_=>rfl
 | 3,_=>rfl
 | 4,_=>rfl
 | 5,_=>rfl
 | 6,_=>rfl)
theorem rw7_turn (w:World) (b:Nat) (v0 v1 v2 v3 v4 v5 v6:Value):Turn [b] w ((((((((w.setCell ⟨b,0,none⟩ v0).setCell ⟨b,1,none⟩ v1).setCell ⟨b,2,none⟩ v2).setCell ⟨b,3,none⟩ v3).setCell ⟨b,4,none⟩ v4).setCell ⟨b,5,none⟩ v5).setCell ⟨b,6,none⟩ v6)):=(((((((Turn.set (by simp) _).trans' (Turn.set (by simp) _)).trans' (Turn.set (by simp) _)).trans' (Turn.set (by simp) _)).trans' (Turn.set (by simp) _)).trans' (Turn.set (by simp) _)).trans' (Turn.set (by simp) _))
theorem rw7_cells {w:World} {b:Nat} {t:TypeId} {v0 v1 v2 v3 v4 v5 v6:Value} (h:w.rowIs b t 7 (rw7 v0 v1 v2 v3 v4 v5 v6)):w.cell? ⟨b,0,none⟩=some v0∧w.cell? ⟨b,1,none⟩=some v1∧w.cell? ⟨b,2,none⟩=some v2∧w.cell? ⟨b,3,none⟩=some v3∧w.cell? ⟨b,4,none⟩=some v4∧w.cell? ⟨b,5,none⟩=some v5∧w.cell? ⟨b,6,none⟩=some v6 :=
 ⟨h.cell (i:=0) (by decide),h.cell (i:=1) (by decide),h.cell (i:=2) (by decide),h.cell (i:=3) (by decide),h.cell (i:=4) (by decide),h.cell (i:=5) (by decide),h.cell (i:=6) (by decide)⟩
def lastR (ky:Int) (R:List Crc):Crc:=R.foldl (fun c x=>if x.ky=ky then x else c) ⟨0,0,0,0,0⟩
def restR (ky:Int) (R:List Crc):List Crc:=R.filter (fun x=>decide (x.ky≠ky))
theorem lastR_step (ky:Int) (R:List Crc) (j:Nat) (hj:j < R.length):lastR ky (R.take (j+1))=if R[j].ky=ky then R[j] else lastR ky (R.take j):=by
 have e:R.take (j+1)=R.take j++[R[j]]:=by rw [List.take_add_one,List.getElem?_eq_getElem hj];rfl
 rw [e]
 unfold lastR
 rw [List.foldl_append]
 rfl
theorem restR_step (ky:Int) (R:List Crc) (j:Nat) (hj:j < R.length):restR ky (R.take (j+1))=if R[j].ky=ky then restR ky (R.take j) else restR ky (R.take j)++[R[j]]:=by
 have e:R.take (j+1)=R.take j++[R[j]]:=by rw [List.take_add_one,List.getElem?_eq_getElem hj];rfl
 rw [e]
 unfold restR
 rw [List.filter_append]
 by_cases h:R[j].ky=ky <;> simp [h]
theorem restR_len (ky:Int) (R:List Crc) (j:Nat):(restR ky (R.take j)).length≤R.length:=by
 have h1:=List.length_filter_le (fun x:Crc=>decide (x.ky≠ky)) (R.take j)
 have h2:(R.take j).length≤R.length:=by rw [List.length_take];omega
 exact Nat.le_trans h1 h2
theorem lastR_or (ky:Int) (R:List Crc) (c:Crc):R.foldl (fun c x=>if x.ky=ky then x else c) c=c∨R.foldl (fun c x=>if x.ky=ky then x else c) c∈R:=by
 induction R generalizing c with
 | nil=>exact .inl rfl
 | cons x R ih =>
   rw [List.foldl_cons]
   rcases ih (if x.ky=ky then x else c) with h | h
   ·rw [h]
    by_cases hx:x.ky=ky
    ·rw [if_pos hx];exact .inr (by simp)
    ·rw [if_neg hx];exact .inl rfl
   ·exact .inr (List.mem_cons_of_mem _ h)
theorem lastR_mem {ky:Int} {R:List Crc} (h:(lastR ky R).ky≠0):lastR ky R∈R:=by
 rcases lastR_or ky R ⟨0,0,0,0,0⟩ with e | e
 ·exact absurd (show (lastR ky R).ky=0 by unfold lastR;rw [e]) h
 ·exact e
def lastH (ky:Int) (R:List Htl):Htl:=R.foldl (fun c x=>if x.ky=ky then x else c) ⟨0,0,0,0,0,false,0⟩
def restH (ky:Int) (R:List Htl):List Htl:=R.filter (fun x=>decide (x.ky≠ky))
theorem lastH_step (ky:Int) (R:List Htl) (j:Nat) (hj:j < R.length):lastH ky (R.take (j+1))=if R[j].ky=ky then R[j] else lastH ky (R.take j):=by
 have e:R.take (j+1)=R.take j++[R[j]]:=by rw [List.take_add_one,List.getElem?_eq_getElem hj];rfl
 rw [e]
 unfold lastH
 rw [List.foldl_append]
 rfl
theorem restH_step (ky:Int) (R:List Htl) (j:Nat) (hj:j < R.length):restH ky (R.take (j+1))=if R[j].ky=ky then restH ky (R.take j) else restH ky (R.take j)++[R[j]]:=by
 have e:R.take (j+1)=R.take j++[R[j]]:=by rw [List.take_add_one,List.getElem?_eq_getElem hj];rfl
 rw [e]
 unfold restH
 rw [List.filter_append]
 by_cases h:R[j].ky=ky <;> simp [h]
theorem restH_len (ky:Int) (R:List Htl) (j:Nat):(restH ky (R.take j)).length≤R.length:=by
 have h1:=List.length_filter_le (fun x:Htl=>decide (x.ky≠ky)) (R.take j)
 have h2:(R.take j).length≤R.length:=by rw [List.length_take];omega
 exact Nat.le_trans h1 h2
theorem lastH_or (ky:Int) (R:List Htl) (c:Htl):R.foldl (fun c x=>if x.ky=ky then x else c) c=c∨R.foldl (fun c x=>if x.ky=ky then x else c) c∈R:=by
 induction R generalizing c with
 | nil=>exact .inl rfl
 | cons x R ih =>
   rw [List.foldl_cons]
   rcases ih (if x.ky=ky then x else c) with h | h
   ·rw [h]
    by_cases hx:x.ky=ky
    ·rw [if_pos hx];exact .inr (by simp)
    ·rw [if_neg hx];exact .inl rfl
   ·exact .inr (List.mem_cons_of_mem _ h)
theorem lastH_mem {ky:Int} {R:List Htl} (h:(lastH ky R).ky≠0):lastH ky R∈R:=by
 rcases lastH_or ky R ⟨0,0,0,0,0,false,0⟩ with e | e
 ·exact absurd (show (lastH ky R).ky=0 by unfold lastH;rw [e]) h
 ·exact e
theorem WkAt.newR {W w:World} {p:Nat} {k:Wk} {M:List Crc} {g' c':Nat} (h:WkAt W w p k) (ho:OwnsCircle w W.heap.size (.slice (some ⟨g',0,none⟩) M.length c') M) (np:g'≠p) (na:g'≠k.gC) (nb:g'≠k.gH) (nl:g'∉lb k.la) :
 WkAt W (w.setCell ⟨p,5,none⟩ (.slice (some ⟨g',0,none⟩) M.length c')) p { k with gR:=g',cR:=c',R:=M }:=by
 have nd:=h.nd
 simp only [List.nodup_cons,List.mem_cons,not_or] at nd
 obtain ⟨⟨n1,n2,n3,n4⟩,⟨n5,n6,n7⟩,⟨n8,n9⟩,n10,n11⟩:=nd
 have ht:Turn [p] w (w.setCell ⟨p,5,none⟩ (.slice (some ⟨g',0,none⟩) M.length c')):=Turn.set (by simp) _
 have hg2:w.grownBy (w.setCell ⟨p,5,none⟩ (.slice (some ⟨g',0,none⟩) M.length c')) (some p):=⟨ht.os,ht.tape,ht.output,ht.size,fun j hj hn=>ht.block j hj (fun hx=>hn (by rw [List.mem_singleton.1 hx]))⟩
 refine ⟨ht.keeps h.keep (fun b hb=>by rw [List.mem_singleton.1 hb];exact h.hp),h.hp,(h.row.set 5 _).congr (fun j hj=>row8_R k g' c' M j hj),?_,?_,?_,h.oL.kept hg2 (ownBlock_lb n4),?_⟩
 ·exact ownsX h.oC hg2 (Ne.symm n1)
 ·exact ownsX h.oH hg2 (Ne.symm n2)
 ·exact ownsX ho hg2 np
 ·simp only [List.nodup_cons,List.mem_cons,not_or]
  refine ⟨⟨?_,?_,?_,n4⟩,⟨?_,?_,?_⟩,⟨?_,?_⟩,?_,n11⟩ <;> first | assumption | omega
theorem WkAt.newH {W w:World} {p:Nat} {k:Wk} {M:List Htl} {g' c':Nat} (h:WkAt W w p k) (ho:OwnsHtlc w W.heap.size (.slice (some ⟨g',0,none⟩) M.length c') M) (np:g'≠p) (na:g'≠k.gC) (nb:g'≠k.gR) (nl:g'∉lb k.la) :
 WkAt W (w.setCell ⟨p,4,none⟩ (.slice (some ⟨g',0,none⟩) M.length c')) p { k with gH:=g',cH:=c',Hs:=M }:=by
 have nd:=h.nd
 simp only [List.nodup_cons,List.mem_cons,not_or] at nd
 obtain ⟨⟨n1,n2,n3,n4⟩,⟨n5,n6,n7⟩,⟨n8,n9⟩,n10,n11⟩:=nd
 have ht:Turn [p] w (w.setCell ⟨p,4,none⟩ (.slice (some ⟨g',0,none⟩) M.length c')):=Turn.set (by simp) _
 have hg2:w.grownBy (w.setCell ⟨p,4,none⟩ (.slice (some ⟨g',0,none⟩) M.length c')) (some p):=⟨ht.os,ht.tape,ht.output,ht.size,fun j hj hn=>ht.block j hj (fun hx=>hn (by rw [List.mem_singleton.1 hx]))⟩
 refine ⟨ht.keeps h.keep (fun b hb=>by rw [List.mem_singleton.1 hb];exact h.hp),h.hp,(h.row.set 4 _).congr (fun j hj=>row8_H k g' c' M j hj),?_,?_,?_,h.oL.kept hg2 (ownBlock_lb n4),?_⟩
 ·exact ownsX h.oC hg2 (Ne.symm n1)
 ·exact ownsX ho hg2 np
 ·exact ownsX h.oR hg2 (Ne.symm n3)
 ·simp only [List.nodup_cons,List.mem_cons,not_or]
  refine ⟨⟨?_,?_,?_,n4⟩,⟨?_,?_,?_⟩,⟨?_,?_⟩,?_,n11⟩ <;> first | assumption | omega
def Go (W w:World) (p V:Nat) (B:Bk) (L:List Ln):Prop:=∃ K,WkAt W w p K∧K.cd=0∧K.bk=B∧K.L=L∧V≠p∧V≠K.gC
theorem Go.ends {W w:World} {p V:Nat} {B:Bk} {L:List Ln} {c:Int} (h:Go W w p V B L) (hc:c=0):Ends W w p c B L:=by
 obtain ⟨K,h1,h2,h3,h4,_⟩:=h
 exact ⟨K,h1,h2.trans hc.symm,fun _=>⟨h3,h4⟩⟩
theorem move_go {W w:World} {p V:Nat} {B:Bk} {L:List Ln} (h:Go W w p V B L) (ch lo re:Int) (i:Nat) (hi:i < B.C.length) (ha:atC B.C ch=some i) (hl:B.C.length≤1048576)
 (l0:-1152921504606846976≤B.C[i].lo+lo) (l1:B.C[i].lo+lo≤1152921504606846976) (r0:-1152921504606846976≤B.C[i].re+re) (r1:B.C[i].re+re≤1152921504606846976) :
 Calls Tryz.prog 78 #[.pointer (some ⟨p,0,none⟩),.int .i64 ch,.int .i64 lo,.int .i64 re] w fun e w'=>e=.returned (.tuple #[])∧Go W w' p V ⟨B.tk,B.nx,B.wa,movC B.C ch lo re,B.Hs,B.R⟩ L∧(∀ i v,w.cell? ⟨V,i,none⟩=some v→w'.cell? ⟨V,i,none⟩=some v):=by
 obtain ⟨K,h1,h2,rfl,rfl,h5,h6⟩:=h
 refine (move_spec W w p K ch lo re i hi ha h1 hl l0 l1 r0 r1).mono ?_
 rintro e w' ⟨rfl,hw,ht⟩
 exact ⟨rfl,⟨_,hw,h2,rfl,rfl,h5,h6⟩,fun i v hv=>ht.cell (p:=⟨V,i,none⟩) (by simpa using h6) hv⟩
theorem line_go {W w:World} {p V:Nat} {B:Bk} {L:List Ln} (h:Go W w p V B L) (kind ch amt:Int) (hm:Mild L) (h0:-1152921504606846976≤amt) (h1:amt≤1152921504606846976) :
 Calls Tryz.prog 36 #[.pointer (some ⟨p,0,none⟩),.int .i64 kind,.int .i64 ch,.int .i64 amt] w fun e w'=>e=.returned (.tuple #[])∧Go W w' p V B (lineW L kind ch amt)∧(∀ i v,w.cell? ⟨V,i,none⟩=some v→w'.cell? ⟨V,i,none⟩=some v):=by
 obtain ⟨K,h2,h3,rfl,rfl,h5,h6⟩:=h
 refine (line_spec W w p K kind ch amt h2 hm h0 h1).mono ?_
 rintro e w' ⟨rfl,⟨a,c,hw⟩,ht⟩
 exact ⟨rfl,⟨_,hw,h3,rfl,rfl,h5,h6⟩,fun i v hv=>ht.cell (p:=⟨V,i,none⟩) (by simpa using h5) hv⟩
def Fit (C:List Chn) (x lo re:Int):Prop:=C.length≤1048576∧∃ i,∃ hi:i < C.length,atC C x=some i∧(-1152921504606846976≤C[i].lo+lo∧C[i].lo+lo≤1152921504606846976)∧-1152921504606846976≤C[i].re+re∧C[i].re+re≤1152921504606846976
def Narrow (C:List Chn):Prop:=C.length≤1048576∧∀ c∈C,(0≤c.lo∧c.lo≤1125899906842624)∧0≤c.re∧c.re≤1125899906842624
theorem Narrow.one {C:List Chn} (h:Narrow C) {x:Int} {i:Nat} (ha:atC C x=some i) {lo re:Int} (l:-9007199254740992≤lo∧lo≤9007199254740992) (r:-9007199254740992≤re∧re≤9007199254740992):Fit C x lo re:=by
 obtain ⟨hi,_⟩:=atC_lt ha
 have:=h.2 _ (List.getElem_mem hi)
 exact ⟨h.1,i,hi,ha,by omega,by omega⟩
theorem Narrow.two {C:List Chn} (h:Narrow C) {x y:Int} {i j:Nat} (hi:atC C x=some i) (hj:atC C y=some j) (hne:i≠j) {lo re:Int} (l:-9007199254740992≤lo∧lo≤9007199254740992) (r:-9007199254740992≤re∧re≤9007199254740992) (a b:Int):Fit (movC C x a b) y lo re:=by
 obtain ⟨hj1,_⟩:=atC_lt hj
 have hl:j < (movC C x a b).length:=by rw [movC_len];exact hj1
 have e:=movC_get (lo:=a) (re:=b) hi hj1 hne hl
 have:=h.2 _ (List.getElem_mem hj1)
 refine ⟨by rw [movC_len];exact h.1,j,hl,by rw [movC_at];exact hj,?_,?_⟩
 ·rw [e];omega
 ·rw [e];omega
theorem move_at {W w:World} {p V:Nat} {tk nx wa:Int} {C:List Chn} {Hs:List Htl} {R:List Crc} {L:List Ln} (h:Go W w p V ⟨tk,nx,wa,C,Hs,R⟩ L) (ch lo re:Int) (hf:Fit C ch lo re) :
 Calls Tryz.prog 78 #[.pointer (some ⟨p,0,none⟩),.int .i64 ch,.int .i64 lo,.int .i64 re] w fun e w'=>e=.returned (.tuple #[])∧Go W w' p V ⟨tk,nx,wa,movC C ch lo re,Hs,R⟩ L∧(∀ i v,w.cell? ⟨V,i,none⟩=some v→w'.cell? ⟨V,i,none⟩=some v):=by
 obtain ⟨hl,i,hi,ha,l,r⟩:=hf
 exact move_go h ch lo re i hi ha hl l.1 l.2 r.1 r.2
theorem line_at {W w:World} {p V:Nat} {B:Bk} {L:List Ln} (h:Go W w p V B L) (kind ch amt:Int) (n:Nat) (hm:Gentle n L) (hn:n≤10) (h0:-4503599627370496≤amt) (h1:amt≤4503599627370496) :
 Calls Tryz.prog 36 #[.pointer (some ⟨p,0,none⟩),.int .i64 kind,.int .i64 ch,.int .i64 amt] w fun e w'=>e=.returned (.tuple #[])∧Go W w' p V B (lineW L kind ch amt)∧(∀ i v,w.cell? ⟨V,i,none⟩=some v→w'.cell? ⟨V,i,none⟩=some v) :=
 line_go h kind ch amt (hm.mild hn) (by omega) (by omega)
theorem row_other {w w':World} {g b:Nat} {t:TypeId} {n:Nat} {f:Nat→Value} (h:w.rowIs b t n f) (hg:w.grownBy w' (some g)) (hne:b≠g):w'.rowIs b t n f:=row_grown h hg hne
theorem owned_low {w:World} {base n cap:Nat} {la:Option Addr} {e:TypeId} {sz:Nat} {xs:List Value} (h:w.ownsRow base e sz (.slice la n cap) n xs) {g:Nat} (hg:w.heap.size≤g):g∉lb la:=by
 intro hx
 cases la with
 | none=>simp [lb] at hx
 | some q =>
   simp [lb] at hx
   subst hx
   have:=h.lt q.block rfl
   omega
end Go.Proofs.YtccdhcempnkgaaaGreatDoor
