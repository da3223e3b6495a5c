/- Texts of the verifier, joined: Lst0, Open2, Glue3, Adds, AddMath, PostMath, ShelfS. -/
import Derived.Test.YtccdhcempnkgaaaGreatDoorPL1
import Derived.ChangeSame
import Derived.WideShapes
import Derived.Below
import Derived.Deep.Strs
import Derived.Deep.RegionHeld3
import Derived.OwnWalk
import Derived.Laws.OwnMore
import Derived.Shelf.SlGeneric
import Derived.Shelf.SlSortCmp.WholeK
import Derived.Shelf.Small.Bits
import Derived.Test.YtccdhcempnkgaaaGreatDoorProg
namespace Go.Proofs.YtccdhcempnkgaaaGreatDoor
open Go.RowKit Go.ChangeShapes Go.WideShapes Go.Deep
set_option linter.unusedVariables false
set_option maxRecDepth 100000
section
variable {α:Type} {f:α→List Value} {sz:Nat}
theorem flatMap_len (hf:∀ x,(f x).length=sz) (xs:List α):(xs.flatMap f).length=xs.length*sz:=by
 induction xs with
 | nil=>simp
 | cons x t ih=>simp [ih,hf,Nat.add_mul];omega
theorem flatMap_at (hf:∀ x,(f x).length=sz):∀ (xs:List α) (i:Nat) (hi:i < xs.length) (r:Nat),r < sz→(xs.flatMap f)[i*sz+r]? = (f xs[i])[r]?
 | [],i,h,_,_=>absurd h (Nat.not_lt_zero i)
 | x :: t,0,h,r,hr=>by
   simp only [List.flatMap_cons,Nat.zero_mul,Nat.zero_add,List.getElem_cons_zero]
   exact List.getElem?_append_left (by rw [hf];exact hr)
 | x :: t,i+1,h,r,hr=>by
   have:=flatMap_at hf t i (by simpa using h) r hr
   simp only [List.flatMap_cons,List.getElem_cons_succ]
   rw [List.getElem?_append_right (by rw [hf,Nat.add_mul];omega),hf,show (i+1)*sz+r-sz=i*sz+r by rw [Nat.add_mul];omega]
   exact this
theorem elem_at {w:World} {a:Option Addr} {xs:List α} (hf:∀ x,(f x).length=sz) (h:Cells w a (xs.flatMap f)) (i:Nat) (hi:i < xs.length) (hs:0 < sz) :
 ∃ b off,a=some ⟨b,off,none⟩∧∀ r (hr:r < (f xs[i]).length),w.cell? ⟨b,off+i*sz+r,none⟩=some ((f xs[i])[r]):=by
 have hl:=flatMap_len hf xs
 have hle:i*sz+sz≤xs.length*sz:=by
  have:=Nat.mul_le_mul_right sz (show i+1≤xs.length from hi)
  rw [Nat.add_mul] at this;omega
 rcases h with h | ⟨b,off,e,h⟩
 ·rw [h] at hl
  simp at hl
  omega
 ·refine ⟨b,off,e,fun r hr=>?_⟩
  have hr':r < sz:=by rw [hf] at hr;exact hr
  have g:=flatMap_at hf xs i hi r hr'
  rw [List.getElem?_eq_getElem hr,List.getElem?_eq_getElem (by omega)] at g
  rw [Nat.add_assoc,h (i*sz+r) (by omega)]
  exact g
end
theorem Own.upd {w w':World} {A B:List Seg} {s s':Seg} (h:Own w (A++s :: B)) (hs:Own w' [s']) (hf:fpS s'=fpS s) (ht:Turn (fp [s]) w w'):Own w' (A++s' :: B):=by
 have hA:=h.left
 have hB:Own w (s :: B):=h.right
 have hsB:Own w ([s]++B):=hB
 have e1:fp [s]=fpS s:=by simp [fp]
 have dA:∀ b∈fp A,b∉fp [s]:=fun b hb hb'=>h.apart b hb (by rw [show s :: B=[s]++B from rfl,fp_append];exact List.mem_append_left _ hb')
 have dB:∀ b∈fp B,b∉fp [s]:=fun b hb hb'=>hsB.apart b hb' hb
 have hA':=hA.turn ht dA
 have hB':=hsB.right.turn ht dB
 have e2:fp [s']=fp [s]:=by simp [fp,hf]
 have hsB':Own w' ([s']++B):=hs.append hB' (fun b hb=>by rw [e2] at hb;exact hsB.apart b hb)
 refine hA'.append hsB' (fun b hb hb'=>?_)
 refine h.apart b hb ?_
 rw [fp_cons] at hb' ⊢
 rw [← hf];exact hb'
theorem Keeps.grown {W0 wr w':World} {row:Option Nat} (hk:Keeps W0 wr) (hg:wr.grownBy w' row) (hr:∀ k,row=some k→W0.heap.size≤k):Keeps W0 w' :=
 Below.grown hk hg hk.size hr
theorem cellsInt:Tryz.prog.cellsOf 3=1:=by kernel_rfl
section
variable {H:Type} {enc:TypeId × Value→H} {W:World} {n:Nat} {cs:List Value} {y:DataW H × List MemPlace} {base:Nat} {sp:Nat→Bool} {hd:Bool}
theorem open_cells' {P:Program} {t e:TypeId} {sz fuel:Nat} {v:Value} {x:DataW H × List MemPlace} (ht:P.underlying t=some (.slice e)) (hsz:P.cellsOf e=sz) (hpos:0 < sz)
 (h:DataW.trod enc P W base sp hd fuel t [v]=some x) (Q:List Value→Prop) (hQ:∀ n cs y,DataW.trod enc P W base sp hd n e cs=some y→Q cs) :
 ∃ (a:Option Addr) (cap:Nat) (M:List (List Value)),v=.slice a M.length cap∧(∀ c∈M,c.length=sz∧Q c)∧Cells W a M.flatten∧((a=none→cap=0)∧M.length≤cap)∧M.length≤9223372036854775807:=by
 obtain ⟨a,cap,M,hv,h1,h2,h3,h4⟩:=open_cells ht hsz hpos h Q hQ
 refine ⟨a,cap,M,hv,h1,h2,⟨?_,h3⟩,Nat.le_trans h3 h4⟩
 rcases open_slice ht h with ⟨hv',_⟩ | ⟨a',len,cap',m,n,D,Pl,hv',_⟩
 ·simp at hv'
  rw [hv'] at hv
  intro _
  injection hv with _ _ e
  exact e.symm
 ·simp at hv'
  rw [hv'] at hv
  intro e
  subst e
  injection hv with e _ _
  cases e
variable {v:Value} {d:DataW H} {ps:List MemPlace}
end
end Go.Proofs.YtccdhcempnkgaaaGreatDoor
namespace Go.Proofs.YtccdhcempnkgaaaGreatDoor
open Go.RowKit Go.ChangeShapes Go.WideShapes Go.Deep
set_option linter.unusedVariables false
set_option maxRecDepth 100000
section
variable {H:Type} {enc:TypeId × Value→H} {W:World} {n:Nat} {cs:List Value} {y:DataW H × List MemPlace} {base:Nat} {sp:Nat→Bool} {hd:Bool}
variable {v:Value} {d:DataW H} {ps:List MemPlace}
end
theorem lnEq_self (x:Ln):lnEq x x=true:=by simp [lnEq]
theorem lsEq_self (L:List Ln):lsEq L L=true:=lsEq_good rfl (fun i hi=>by rw [List.getElem?_eq_getElem hi];exact lnEq_self _)
end Go.Proofs.YtccdhcempnkgaaaGreatDoor
namespace Go.Proofs.YtccdhcempnkgaaaGreatDoor
open Go.RowKit
set_option linter.unusedVariables false
theorem eqPosting_k (id id':Int) (a a':Option Addr) (cap cap':Nat) (L M:List Ln) (w:World) (hc:Cells w a (flat L)) (hc':Cells w a' (flat M)) (hl:L.length≤1048576) (hl':M.length≤1048576) :
 Calls Tryz.prog 11 #[.agg #[.int .i64 id,.slice a L.length cap],.agg #[.int .i64 id',.slice a' M.length cap']] w fun e w'=>e=.returned (.bool (decide (id=id') && lsEq L M))∧Keeps w w':=by
 have hk:Keeps w ((w.alloc (.cells #[.int .i64 id,.slice a L.length cap] 37)).alloc (.cells #[.int .i64 id',.slice a' M.length cap'] 37)):=Keeps.alloc (Keeps.alloc (Keeps.refl _) _) _
 have HK:=hide hk
 have HQ:=hide (eqLineS_k a a' cap cap' L M _ (hc.kept hk) (hc'.kept hk) hl hl')
 clear hk hc hc'
 by_cases h1:id=id'
 ·subst h1
  have HE:Hid ((decide (id=id) && lsEq L M)=lsEq L M):=by show _=_;simp
  cases hq:lsEq L M
  ·rw [hq] at HQ HE
   clear hq
   go_enter Tryz.func11,Tryz.ntmps11
   go_wp2_with fail
   refine (unhide HQ).mono ?_
   rintro e w1 ⟨rfl,hk1⟩
   have HK1:=hide (HK.out.trans hk1)
   clear hk1
   go_wp2_with fail
   go_ret
   exact ⟨ret_bool (by simp),HK1.out⟩
  ·rw [hq] at HQ HE
   clear hq
   go_enter Tryz.func11,Tryz.ntmps11
   go_wp2_with fail
   refine (unhide HQ).mono ?_
   rintro e w1 ⟨rfl,hk1⟩
   have HK1:=hide (HK.out.trans hk1)
   clear hk1
   go_wp2_with fail
   go_ret
   exact ⟨ret_bool (by simp),HK1.out⟩
 ·have h1':(id != id')=true:=by rw [bne_iff_ne];exact h1
  have H:Hid ((decide (id=id') && lsEq L M)=false):=by show _=_;simp [h1]
  clear h1
  go_enter Tryz.func11,Tryz.ntmps11
  go_wp2_with fail
  go_ret
  exact ⟨ret_bool H.out.symm,HK.out⟩
end Go.Proofs.YtccdhcempnkgaaaGreatDoor
namespace Go.Proofs.YtccdhcempnkgaaaGreatDoor
open Go.RowKit
set_option linter.unusedVariables false
theorem flat_snoc (M:List Ln) (y:Ln):flat (M++[y])=flat M++[.int .i64 y.k,.int .i64 y.c,.int .i64 y.a]:=by
 simp [flat,Ln.cells]
theorem app_line {ops:Array Oper} {rest:List Oper} {o:Oper} {a:Act} {Q:Exit→Act→World→Prop} {wr W0:World} (hgd:o.guard=none) (s x:Operand)
 (ho:o.op=.call { callee:=.builtin .append,args:=#[s,x],argTypes:=#[35,35] }) (base:Nat) (v:Value) (M:List Ln) (y:Ln) (hs:a.eval s=v)
 (hx:a.eval x=.slice (some ⟨wr.heap.size,0,none⟩) 1 1) (hown:wr.ownsRow base 104 3 v M.length (flat M)) (hM:M.length≤4194304) (hb0:W0.heap.size≤base) (hbase:base≤wr.heap.size) (hk:Keeps W0 wr)
 (h:∀ v' w',w'.ownsRow base 104 3 v' (M++[y]).length (flat (M++[y]))→Keeps W0 w'→(∀ p u,wr.cell? p=some u→(∀ k,v.ownBlock=some k→k≠p.block)→w'.cell? p=some u)→wpList Tryz.prog ops Q rest (a.put o.dst v') w') :
 wpList Tryz.prog ops Q (o :: rest) a (wr.alloc (.cells #[.int .i64 y.k,.int .i64 y.c,.int .i64 y.a] 104)):=by
 have hI:=infoLine
 cases hi:Tryz.prog.info? 104 with
 | none=>rw [hi] at hI;simp at hI
 | some i =>
   rw [hi] at hI
   simp at hI
   obtain ⟨hz,hsz,hby⟩:=hI
   refine wpList_append_own _ hgd s x 35 ho base 104 i _ 3 24 underLines hi hz hsz hby rfl (by decide) v M.length (flat M) hs (hown.alloc _) ⟨wr.heap.size,0,none⟩ 1 1 [.int .i64 y.k,.int .i64 y.c,.int .i64 y.a] hx rfl ?_ ?_ ?_ ?_ ?_ ?_
   ·intro j u hj
    match j,hj with
    | 0,hj=>simp at hj;subst hj;simp [Addr.add]
    | 1,hj=>simp at hj;subst hj;simp [Addr.add]
    | 2,hj=>simp at hj;subst hj;simp [Addr.add]
    | n+3,hj=>simp at hj
   ·intro u hu
    simp at hu
    rcases hu with rfl | rfl | rfl <;> rfl
   ·simp only [maxLen];omega
   ·omega
   ·simp;omega
   ·intro v' w' h1 h2 h3
    refine h v' w' ?_ ?_ ?_
    ·rw [flat_snoc,List.length_append];exact h1
    ·refine Below.grown (Keeps.alloc hk _) h2 ?_ ?_
     ·have:=hk.size;simp;omega
     ·intro k hk'
      have:=(hown.lt k hk').1
      omega
    ·intro p u hp hne
     refine h2.cell ((Keeps.alloc (Keeps.refl wr) _).cell hp) (fun e=>hne p.block e.symm rfl)
theorem Keeps.owns {w w':World} (hk:Keeps w w') {base n:Nat} {e:TypeId} {sz:Nat} {v:Value} {xs:List Value} (h:w.ownsRow base e sz v n xs):w'.ownsRow base e sz v n xs:=by
 refine ⟨h.1,?_⟩
 rcases h.2 with h' | ⟨g,cap,cur,rfl,hb,hg,rest⟩
 ·exact .inl h'
 ·refine .inr ⟨g,cap,cur,rfl,hb,?_,rest⟩
  rw [Below.block hk g (Array.getElem?_eq_some_iff.1 hg).1];exact hg
theorem owns_mono {w:World} {base base' n:Nat} {e:TypeId} {sz:Nat} {v:Value} {xs:List Value} (h:w.ownsRow base e sz v n xs) (hb:base'≤base):w.ownsRow base' e sz v n xs:=by
 refine ⟨h.1,?_⟩
 rcases h.2 with h' | ⟨g,cap,cur,rfl,hb',rest⟩
 ·exact .inl h'
 ·exact .inr ⟨g,cap,cur,rfl,by omega,rest⟩
def addG (x:Ln):Bool→List Ln→List Ln
 | true,L=>L
 | false,[]=>[x]
 | false,y :: L=>if lessB y.k y.c x.k x.c=true then y :: addG x false L else if y.k=x.k∧y.c=x.c then (if y.a+x.a=0 then L else ⟨y.k,y.c,y.a+x.a⟩ :: L) else x :: y :: L
theorem addG_true (x:Ln) (L:List Ln):addG x true L=L:=by cases L <;> rfl
set_option maxHeartbeats 4000000 in
theorem add_spec (a:Option Addr) (cap:Nat) (L:List Ln) (x:Ln) (w:World) (hc:Cells w a (flat L)) (hl:L.length≤1048576) (hx0:-1152921504606846976≤x.a) (hx1:x.a≤1152921504606846976)
 (hy:∀ n (h:n < L.length),-1152921504606846976≤L[n].a∧L[n].a≤1152921504606846976) :
 Calls Tryz.prog 71 #[.slice a L.length cap,lineV x] w fun e w'=>∃ v,e=.returned v∧w'.ownsRow w.heap.size 104 3 v (addG x false L).length (flat (addG x false L))∧Keeps w w':=by
 obtain ⟨xk,xc,xa⟩:=x
 dsimp only at hx0 hx1
 have HKA:=hide (Keeps.alloc (Keeps.refl w) (.cells #[.int .i64 xk,.int .i64 xc,.int .i64 xa] 104))
 have HC:=hide (hc.kept HKA.out)
 have HD:Hid (∀ w',Keeps (w.alloc (.cells #[.int .i64 xk,.int .i64 xc,.int .i64 xa] 104)) w'→w'.cell? ⟨w.heap.size,0,none⟩=some (.int .i64 xk)∧w'.cell? ⟨w.heap.size,1,none⟩=some (.int .i64 xc)∧w'.cell? ⟨w.heap.size,2,none⟩=some (.int .i64 xa)) :=
  fun w' hk=>⟨hk.cell (by simp),hk.cell (by simp),hk.cell (by simp)⟩
 have HY:=hide hy
 have HO0:=hide (World.ownsRow_made (base:=w.heap.size+1) (e:=104) (size:=3) (w.alloc (.cells #[.int .i64 xk,.int .i64 xc,.int .i64 xa] 104)) #[] 0 (by simp) (by decide) rfl)
 clear hc hy
 go_enter Tryz.func71,Tryz.ntmps71
 go_wp2_with fail
 go_loopw [5,6,12] (fun v d i wr=>∃ (n:Nat) (dn:Bool) (M:List Ln),n≤L.length∧M.length≤2*n∧i=.int .i64 (n:Int)∧d=.bool dn∧Hid (wr.ownsRow (w.heap.size+1) 104 3 v M.length (flat M))∧Hid (M++addG (Ln.mk xk xc xa) dn (L.drop n)=addG (Ln.mk xk xc xa) false L)∧Hid (Keeps (w.alloc (.cells #[.int .i64 xk,.int .i64 xc,.int .i64 xa] 104)) wr)) (fun _ _ i _=>L.length-(intOf i).toNat)
 case atStart=>exact ⟨0,false,[],by omega,by simp,rfl,rfl,by show World.ownsRow _ _ _ _ _ _ _;simpa [flat] using HO0.out,by show _=_;simp,Keeps.alloc (Keeps.refl _) _⟩
 case round =>
  obtain ⟨n,dn,M,hn,hM,rfl,rfl,HO,HE,HK⟩:=hrel
  have hz:w.heap.size+1≤wr.heap.size:=by have:=HK.out.size;simpa using this
  by_cases hlt:n < L.length
  ·obtain ⟨b,off,ea,c0,c1,c2⟩:=cells_at (HC.out.kept HK.out) n hlt
   subst ea
   obtain ⟨y0,y1⟩:=HY.out n hlt
   have HDr:Hid (L.drop n=L[n] :: L.drop (n+1)):=List.drop_eq_getElem_cons hlt
   clear HC HY HO0
   generalize L[n]=y at *
   obtain ⟨yk,yc,ya⟩:=y
   dsimp only at c0 c1 c2 y0 y1
   have HK1:=hide (Keeps.alloc HK.out (.cells #[.int .i64 yk,.int .i64 yc,.int .i64 ya] 104))
   obtain ⟨x0,x1,x2⟩:=HD.out _ HK1.out
   have HO1:=hide (HO.out.alloc (.cells #[.int .i64 yk,.int .i64 yc,.int .i64 ya] 104))
   have HQ:=hide (fun w1=>less_k yk yc xk xc w1)
   have HB:Hid (∀ k,u5.ownBlock=some k→k≠wr.heap.size):=fun k hk=>by have:=(HO.out.lt k hk).2;omega
   cases dn
   ·cases hq:lessB yk yc xk xc
    ·rw [hq] at HQ
     have HL:=hide hq
     clear hq
     go_wp2_with fail
     refine (unhide HQ _).mono ?_
     rintro e w2 ⟨rfl,hk2⟩
     have HK2:=hide (HK1.out.trans hk2)
     have HO2:=hide (hk2.owns HO1.out)
     have e0:=hk2.cell (p:=⟨wr.heap.size,0,none⟩) (v:=.int .i64 yk) (by simp)
     have e1:=hk2.cell (p:=⟨wr.heap.size,1,none⟩) (v:=.int .i64 yc) (by simp)
     have e2:=hk2.cell (p:=⟨wr.heap.size,2,none⟩) (v:=.int .i64 ya) (by simp)
     obtain ⟨z0,z1,z2⟩:=HD.out _ HK2.out
     have hz2:wr.heap.size+1≤w2.heap.size:=by have:=hk2.size;simpa using this
     clear hk2 c0 c1 c2 x0 x1 x2 HQ
     by_cases h1:yk=xk
     ·subst h1
      by_cases h2:yc=xc
      ·subst h2
       by_cases h3:ya+xa=0
       ·have HN:Hid (M++addG (Ln.mk yk yc xa) true (L.drop (n+1))=addG (Ln.mk yk yc xa) false L):=by
         show _=_
         rw [← HE.out,HDr.out,addG_true]
         simp only [addG]
         rw [if_neg (by rw [HL.out];decide),if_pos (by simp),if_pos h3]
        go_wp2_with fail
        go_roundw
        case rel=>exact ⟨n+1,true,M,by omega,by omega,by go_num,rfl,HO2,HN,HK2⟩
        case measure=>simp [intOf];omega
       ·have HN:Hid ((M++[Ln.mk yk yc (ya+xa)])++addG (Ln.mk yk yc xa) true (L.drop (n+1))=addG (Ln.mk yk yc xa) false L):=by
         show _=_
         rw [← HE.out,HDr.out,addG_true]
         simp only [addG]
         rw [if_neg (by rw [HL.out];decide),if_pos (by simp),if_neg h3];simp
        go_wp2_with (at_builtin;refine app_line (W0:=w.alloc (.cells #[.int .i64 yk,.int .i64 yc,.int .i64 xa] 104)) (wr:=w2) rfl (.tmp 41) (.tmp 50) rfl (w.heap.size+1) u5 M (Ln.mk yk yc (ya+xa)) rfl rfl HO2.out (by first | omega | (simp;omega)) (by simp) (by omega) HK2.out ?_;intro v' w' ho' hk' hce;have e0':=hce _ _ e0 HB.out;have e1':=hce _ _ e1 HB.out;have e2':=hce _ _ e2 HB.out;obtain ⟨z0',z1',z2'⟩:=HD.out _ hk';clear hce)
        go_roundw
        case rel=>exact ⟨n+1,true,M++[Ln.mk yk yc (ya+xa)],by omega,by simp;omega,by go_num,rfl,ho',HN,hk'⟩
        case measure=>simp [intOf];omega
      ·have HN:Hid (((M++[(Ln.mk yk xc xa)])++[(Ln.mk yk yc ya)])++addG (Ln.mk yk xc xa) true (L.drop (n+1))=addG (Ln.mk yk xc xa) false L):=by
        show _=_
        rw [← HE.out,HDr.out,addG_true]
        simp only [addG]
        rw [if_neg (by rw [HL.out];decide),if_neg (fun h=>h2 h.2)];simp
       go_wp2_with (first
        | (at_builtin;refine app_line (W0:=w.alloc (.cells #[.int .i64 yk,.int .i64 xc,.int .i64 xa] 104)) (wr:=w2) rfl (.tmp 31) (.tmp 33) rfl (w.heap.size+1) u5 M (Ln.mk yk xc xa) rfl rfl HO2.out (by first | omega | (simp;omega)) (by simp) (by omega) HK2.out ?_;intro v' w' ho' hk' hce;have e0':=hce _ _ e0 HB.out;have e1':=hce _ _ e1 HB.out;have e2':=hce _ _ e2 HB.out;obtain ⟨z0',z1',z2'⟩:=HD.out _ hk';clear hce)
        | (at_builtin;refine app_line (W0:=w.alloc (.cells #[.int .i64 yk,.int .i64 xc,.int .i64 xa] 104)) (wr:=w') rfl (.tmp 57) (.tmp 59) rfl (w.heap.size+1) v' (M++[(Ln.mk yk xc xa)]) (Ln.mk yk yc ya) rfl rfl ho' (by first | omega | (simp;omega)) (by simp) (by have:=hk'.size;simp at this;omega) hk' ?_;intro v3 w3 ho3 hk3 _))
       go_roundw
       case rel=>exact ⟨n+1,true,(M++[(Ln.mk yk xc xa)])++[(Ln.mk yk yc ya)],by omega,by simp;omega,by go_num,rfl,ho3,HN,hk3⟩
       case measure=>simp [intOf];omega
     ·have HN:Hid (((M++[(Ln.mk xk xc xa)])++[(Ln.mk yk yc ya)])++addG (Ln.mk xk xc xa) true (L.drop (n+1))=addG (Ln.mk xk xc xa) false L):=by
       show _=_
       rw [← HE.out,HDr.out,addG_true]
       simp only [addG]
       rw [if_neg (by rw [HL.out];decide),if_neg (fun h=>h1 h.1)];simp
      go_wp2_with (first
       | (at_builtin;refine app_line (W0:=w.alloc (.cells #[.int .i64 xk,.int .i64 xc,.int .i64 xa] 104)) (wr:=w2) rfl (.tmp 31) (.tmp 33) rfl (w.heap.size+1) u5 M (Ln.mk xk xc xa) rfl rfl HO2.out (by first | omega | (simp;omega)) (by simp) (by omega) HK2.out ?_;intro v' w' ho' hk' hce;have e0':=hce _ _ e0 HB.out;have e1':=hce _ _ e1 HB.out;have e2':=hce _ _ e2 HB.out;obtain ⟨z0',z1',z2'⟩:=HD.out _ hk';clear hce)
       | (at_builtin;refine app_line (W0:=w.alloc (.cells #[.int .i64 xk,.int .i64 xc,.int .i64 xa] 104)) (wr:=w') rfl (.tmp 57) (.tmp 59) rfl (w.heap.size+1) v' (M++[(Ln.mk xk xc xa)]) (Ln.mk yk yc ya) rfl rfl ho' (by first | omega | (simp;omega)) (by simp) (by have:=hk'.size;simp at this;omega) hk' ?_;intro v3 w3 ho3 hk3 _))
      go_roundw
      case rel=>exact ⟨n+1,true,(M++[(Ln.mk xk xc xa)])++[(Ln.mk yk yc ya)],by omega,by simp;omega,by go_num,rfl,ho3,HN,hk3⟩
      case measure=>simp [intOf];omega
    ·have HN:Hid ((M++[(Ln.mk yk yc ya)])++addG (Ln.mk xk xc xa) false (L.drop (n+1))=addG (Ln.mk xk xc xa) false L):=by
      show _=_
      rw [← HE.out,HDr.out]
      simp only [addG]
      rw [if_pos hq];simp
     rw [hq] at HQ
     clear hq
     go_wp2_with fail
     refine (unhide HQ _).mono ?_
     rintro e w2 ⟨rfl,hk2⟩
     have HK2:=hide (HK1.out.trans hk2)
     have HO2:=hide (hk2.owns HO1.out)
     have e0:=hk2.cell (p:=⟨wr.heap.size,0,none⟩) (v:=.int .i64 yk) (by simp)
     have e1:=hk2.cell (p:=⟨wr.heap.size,1,none⟩) (v:=.int .i64 yc) (by simp)
     have e2:=hk2.cell (p:=⟨wr.heap.size,2,none⟩) (v:=.int .i64 ya) (by simp)
     have hz2:wr.heap.size+1≤w2.heap.size:=by have:=hk2.size;simpa using this
     clear hk2 c0 c1 c2 x0 x1 x2 HQ
     go_wp2_with (at_builtin;refine app_line (W0:=w.alloc (.cells #[.int .i64 xk,.int .i64 xc,.int .i64 xa] 104)) (wr:=w2) rfl (.tmp 57) (.tmp 59) rfl (w.heap.size+1) u5 M (Ln.mk yk yc ya) rfl rfl HO2.out (by first | omega | (simp;omega)) (by simp) (by omega) HK2.out ?_;intro v' w' ho' hk' hce;clear hce)
     go_roundw
     case rel=>exact ⟨n+1,false,M++[(Ln.mk yk yc ya)],by omega,by simp;omega,by go_num,rfl,ho',HN,hk'⟩
     case measure=>simp [intOf];omega
   ·have HN:Hid ((M++[(Ln.mk yk yc ya)])++addG (Ln.mk xk xc xa) true (L.drop (n+1))=addG (Ln.mk xk xc xa) false L):=by
     show _=_
     rw [← HE.out,HDr.out,addG_true,addG_true];simp
    clear HQ
    go_wp2_with (at_builtin;refine app_line (W0:=w.alloc (.cells #[.int .i64 xk,.int .i64 xc,.int .i64 xa] 104)) (wr:=wr.alloc (.cells #[.int .i64 yk,.int .i64 yc,.int .i64 ya] 104)) rfl (.tmp 57) (.tmp 59) rfl (w.heap.size+1) u5 M (Ln.mk yk yc ya) rfl (by simp;rfl) HO1.out (by first | omega | (simp;omega)) (by simp) (by simp;omega) HK1.out ?_;intro v' w' ho' hk' hce;clear hce)
    go_roundw
    case rel=>exact ⟨n+1,true,M++[(Ln.mk yk yc ya)],by omega,by simp;omega,by go_num,rfl,ho',HN,hk'⟩
    case measure=>simp [intOf];omega
  ·have e:n=L.length:=by omega
   obtain ⟨x0,x1,x2⟩:=HD.out _ HK.out
   cases dn
   ·have HN:Hid (M++[(Ln.mk xk xc xa)]=addG (Ln.mk xk xc xa) false L):=by show _=_;rw [← HE.out,e,List.drop_length];rfl
    clear e
    go_wp2_with (at_builtin;refine app_line (W0:=w.alloc (.cells #[.int .i64 xk,.int .i64 xc,.int .i64 xa] 104)) (wr:=wr) rfl (.tmp 64) (.tmp 66) rfl (w.heap.size+1) u5 M (Ln.mk xk xc xa) rfl rfl HO.out (by first | omega | (simp;omega)) (by simp) (by omega) HK.out ?_;intro v' w' ho' hk' hce;clear hce)
    go_ret
    exact ⟨_,rfl,by rw [← HN.out];exact owns_mono ho' (by omega),HKA.out.trans hk'⟩
   ·have HN:Hid (M=addG (Ln.mk xk xc xa) false L):=by show _=_;rw [← HE.out,e,List.drop_length,addG_true];simp
    clear e
    go_wp2_with fail
    go_ret
    exact ⟨_,rfl,by rw [← HN.out];exact owns_mono HO.out (by omega),HKA.out.trans HK.out⟩
end Go.Proofs.YtccdhcempnkgaaaGreatDoor
namespace Go.Proofs.YtccdhcempnkgaaaGreatDoor
open Go.RowKit
set_option linter.unusedVariables false
theorem addG_len (x:Ln):∀ (d:Bool) (L:List Ln),(addG x d L).length≤L.length+1
 | true,L=>by rw [addG_true];omega
 | false,[]=>by simp [addG]
 | false,y :: L=>by
   have ih:=addG_len x false L
   simp only [addG]
   split
   ·simp;omega
   ·split
    ·split
     ·simp;omega
     ·simp
    ·simp
theorem addG_bound (x:Ln) (B C:Int) (hx0:-C≤x.a) (hx1:x.a≤C) (hB:0≤B) (hC:0≤C):∀ (d:Bool) (L:List Ln),(∀ y∈L,-B≤y.a∧y.a≤B)→∀ y∈addG x d L,-(B+C)≤y.a∧y.a≤B+C
 | true,L,h=>by
   rw [addG_true]
   intro y hy
   have:=h y hy
   omega
 | false,[],h=>by
   intro y hy
   simp [addG] at hy
   subst hy
   omega
 | false,z :: L,h=>by
   have ih:=addG_bound x B C hx0 hx1 hB hC false L (fun y hy=>h y (List.mem_cons_of_mem _ hy))
   have hz:=h z (List.mem_cons_self ..)
   have hL:∀ y∈L,-(B+C)≤y.a∧y.a≤B+C:=fun y hy=>by have:=h y (List.mem_cons_of_mem _ hy);omega
   intro y hy
   simp only [addG] at hy
   split at hy
   ·rcases List.mem_cons.1 hy with rfl | hy
    ·omega
    ·exact ih y hy
   ·split at hy
    ·split at hy
     ·exact hL y hy
     ·rcases List.mem_cons.1 hy with rfl | hy
      ·dsimp only;omega
      ·exact hL y hy
    ·rcases List.mem_cons.1 hy with rfl | hy
     ·omega
     ·rcases List.mem_cons.1 hy with rfl | hy
      ·omega
      ·exact hL y hy
end Go.Proofs.YtccdhcempnkgaaaGreatDoor
namespace Go.Proofs.YtccdhcempnkgaaaGreatDoor
set_option linter.unusedVariables false
theorem less_iff {k c k' c':Int}:lessB k c k' c'=true↔k < k'∨(k=k'∧c < c'):=by simp [lessB]
theorem less_trans {a b c d e f:Int} (h:lessB a b c d=true) (h':lessB c d e f=true):lessB a b e f=true:=by
 rw [less_iff] at *;omega
end Go.Proofs.YtccdhcempnkgaaaGreatDoor
namespace Go.Proofs
open Go.Shelf
def Tryz.sortLn_ren:Go.Shelf.Ren:=⟨fun | 6=>164 | 15=>132 | 14=>191 | 28=>162 | 29=>163 | 20=>207 | 21=>208 | 22=>209 | 23=>210 | 24=>211 | 25=>212 | 26=>213 | 27=>214 | 46=>219 | 47=>186 | 48=>187 | 49=>220 | 50=>221 | 57=>224 | n=>n,fun | 22=>35 | 24=>104 | 25=>209 | 3=>3 | 39=>155 | 0=>0 | 53=>205 | 55=>207 | 4=>4 | 46=>198 | 45=>197 | 50=>73 | 5=>5 | 9=>9 | 66=>226 | 70=>230 | 76=>244 | 77=>142 | n=>n,fun | n=>n⟩
theorem Tryz.sortLn:Go.Proofs.SlLaysF0.n6 Tryz.prog Tryz.sortLn_ren:={
 mixed:=by kernel_rfl
 f6:=⟨Tryz.f164.name,by decide,Tryz.func164.trans (congrArg some (by kernel_rfl))⟩
 f14:=⟨Tryz.f191.name,by decide,Tryz.func191.trans (congrArg some (by kernel_rfl))⟩
 f15:=Tryz.func132.trans (congrArg some (by kernel_rfl))
 f20:=⟨Tryz.f207.name,by decide,Tryz.func207.trans (congrArg some (by kernel_rfl))⟩
 f21:=⟨Tryz.f208.name,by decide,Tryz.func208.trans (congrArg some (by kernel_rfl))⟩
 f22:=⟨Tryz.f209.name,by decide,Tryz.func209.trans (congrArg some (by kernel_rfl))⟩
 f23:=⟨Tryz.f210.name,by decide,Tryz.func210.trans (congrArg some (by kernel_rfl))⟩
 f24:=⟨Tryz.f211.name,by decide,Tryz.func211.trans (congrArg some (by kernel_rfl))⟩
 f25:=⟨Tryz.f212.name,by decide,Tryz.func212.trans (congrArg some (by kernel_rfl))⟩
 f26:=⟨Tryz.f213.name,by decide,Tryz.func213.trans (congrArg some (by kernel_rfl))⟩
 f27:=⟨Tryz.f214.name,by decide,Tryz.func214.trans (congrArg some (by kernel_rfl))⟩
 f28:=Tryz.func162.trans (congrArg some (by kernel_rfl))
 f29:=Tryz.func163.trans (congrArg some (by kernel_rfl))
 f46:=⟨Tryz.f219.name,by decide,Tryz.func219.trans (congrArg some (by kernel_rfl))⟩
 f47:=Tryz.func186.trans (congrArg some (by kernel_rfl))
 f48:=Tryz.func187.trans (congrArg some (by kernel_rfl))
 f49:=⟨Tryz.f220.name,by decide,Tryz.func220.trans (congrArg some (by kernel_rfl))⟩
 f50:=⟨Tryz.f221.name,by decide,Tryz.func221.trans (congrArg some (by kernel_rfl))⟩
 f57:=⟨Tryz.f224.name,by decide,Tryz.func224.trans (congrArg some (by kernel_rfl))⟩
 t0:=Tryz.underlying0
 a0:=Tryz.isAgg0
 z0:=Tryz.sizeOf0
 v0:=Tryz.zeroValue0
 t3:=Tryz.underlying3
 a3:=Tryz.isAgg3
 z3:=Tryz.sizeOf3
 v3:=Tryz.zeroValue3
 t4:=Tryz.underlying4
 a4:=Tryz.isAgg4
 z4:=Tryz.sizeOf4
 v4:=Tryz.zeroValue4
 t5:=Tryz.underlying5
 a5:=Tryz.isAgg5
 z5:=Tryz.sizeOf5
 v5:=Tryz.zeroValue5
 t9:=Tryz.underlying9
 a9:=Tryz.isAgg9
 z9:=Tryz.sizeOf9
 v9:=Tryz.zeroValue9
 t22:=Tryz.underlying35
 a22:=Tryz.isAgg35
 z22:=Tryz.sizeOf35
 v22:=Tryz.zeroValue35
 t25:=Tryz.underlying209
 a25:=Tryz.isAgg209
 z25:=Tryz.sizeOf209
 v25:=Tryz.zeroValue209
 t39:=Tryz.underlying155
 a39:=Tryz.isAgg155
 z39:=Tryz.sizeOf155
 v39:=Tryz.zeroValue155
 t45:=Tryz.underlying197
 a45:=Tryz.isAgg197
 z45:=Tryz.sizeOf197
 v45:=Tryz.zeroValue197
 t46:=Tryz.underlying198
 a46:=Tryz.isAgg198
 z46:=Tryz.sizeOf198
 v46:=Tryz.zeroValue198
 t50:=Tryz.underlying73
 a50:=Tryz.isAgg73
 z50:=Tryz.sizeOf73
 v50:=Tryz.zeroValue73
 t53:=Tryz.underlying205
 a53:=Tryz.isAgg205
 z53:=Tryz.sizeOf205
 v53:=Tryz.zeroValue205
 t55:=Tryz.underlying207
 a55:=Tryz.isAgg207
 z55:=Tryz.sizeOf207
 v55:=Tryz.zeroValue207
 t66:=Tryz.underlying226
 a66:=Tryz.isAgg226
 z66:=Tryz.sizeOf226
 v66:=Tryz.zeroValue226
 t70:=Tryz.underlying230
 a70:=Tryz.isAgg230
 z70:=Tryz.sizeOf230
 v70:=Tryz.zeroValue230
 t76:=Tryz.underlying244
 a76:=Tryz.isAgg244
 z76:=Tryz.sizeOf244
 v76:=Tryz.zeroValue244
 t77:=Tryz.underlying142
 a77:=Tryz.isAgg142
 z77:=Tryz.sizeOf142
 v77:=Tryz.zeroValue142 }
def Tryz.sortCh_ren:Go.Shelf.Ren:=⟨fun | 6=>136 | 15=>132 | 14=>166 | 28=>162 | 29=>163 | 20=>193 | 21=>194 | 22=>195 | 23=>196 | 24=>197 | 25=>198 | 26=>199 | 27=>200 | 46=>215 | 47=>186 | 48=>187 | 49=>216 | 50=>217 | 57=>222 | n=>n,fun | 22=>30 | 24=>78 | 25=>180 | 3=>3 | 39=>155 | 0=>0 | 53=>205 | 55=>207 | 4=>4 | 46=>198 | 45=>197 | 50=>73 | 5=>5 | 9=>9 | 66=>226 | 70=>230 | 76=>244 | 77=>142 | n=>n,fun | n=>n⟩
theorem Tryz.sortCh:Go.Proofs.SlLaysF0.n6 Tryz.prog Tryz.sortCh_ren:={
 mixed:=by kernel_rfl
 f6:=⟨Tryz.f136.name,by decide,Tryz.func136.trans (congrArg some (by kernel_rfl))⟩
 f14:=⟨Tryz.f166.name,by decide,Tryz.func166.trans (congrArg some (by kernel_rfl))⟩
 f15:=Tryz.func132.trans (congrArg some (by kernel_rfl))
 f20:=⟨Tryz.f193.name,by decide,Tryz.func193.trans (congrArg some (by kernel_rfl))⟩
 f21:=⟨Tryz.f194.name,by decide,Tryz.func194.trans (congrArg some (by kernel_rfl))⟩
 f22:=⟨Tryz.f195.name,by decide,Tryz.func195.trans (congrArg some (by kernel_rfl))⟩
 f23:=⟨Tryz.f196.name,by decide,Tryz.func196.trans (congrArg some (by kernel_rfl))⟩
 f24:=⟨Tryz.f197.name,by decide,Tryz.func197.trans (congrArg some (by kernel_rfl))⟩
 f25:=⟨Tryz.f198.name,by decide,Tryz.func198.trans (congrArg some (by kernel_rfl))⟩
 f26:=⟨Tryz.f199.name,by decide,Tryz.func199.trans (congrArg some (by kernel_rfl))⟩
 f27:=⟨Tryz.f200.name,by decide,Tryz.func200.trans (congrArg some (by kernel_rfl))⟩
 f28:=Tryz.func162.trans (congrArg some (by kernel_rfl))
 f29:=Tryz.func163.trans (congrArg some (by kernel_rfl))
 f46:=⟨Tryz.f215.name,by decide,Tryz.func215.trans (congrArg some (by kernel_rfl))⟩
 f47:=Tryz.func186.trans (congrArg some (by kernel_rfl))
 f48:=Tryz.func187.trans (congrArg some (by kernel_rfl))
 f49:=⟨Tryz.f216.name,by decide,Tryz.func216.trans (congrArg some (by kernel_rfl))⟩
 f50:=⟨Tryz.f217.name,by decide,Tryz.func217.trans (congrArg some (by kernel_rfl))⟩
 f57:=⟨Tryz.f222.name,by decide,Tryz.func222.trans (congrArg some (by kernel_rfl))⟩
 t0:=Tryz.underlying0
 a0:=Tryz.isAgg0
 z0:=Tryz.sizeOf0
 v0:=Tryz.zeroValue0
 t3:=Tryz.underlying3
 a3:=Tryz.isAgg3
 z3:=Tryz.sizeOf3
 v3:=Tryz.zeroValue3
 t4:=Tryz.underlying4
 a4:=Tryz.isAgg4
 z4:=Tryz.sizeOf4
 v4:=Tryz.zeroValue4
 t5:=Tryz.underlying5
 a5:=Tryz.isAgg5
 z5:=Tryz.sizeOf5
 v5:=Tryz.zeroValue5
 t9:=Tryz.underlying9
 a9:=Tryz.isAgg9
 z9:=Tryz.sizeOf9
 v9:=Tryz.zeroValue9
 t22:=Tryz.underlying30
 a22:=Tryz.isAgg30
 z22:=Tryz.sizeOf30
 v22:=Tryz.zeroValue30
 t25:=Tryz.underlying180
 a25:=Tryz.isAgg180
 z25:=Tryz.sizeOf180
 v25:=Tryz.zeroValue180
 t39:=Tryz.underlying155
 a39:=Tryz.isAgg155
 z39:=Tryz.sizeOf155
 v39:=Tryz.zeroValue155
 t45:=Tryz.underlying197
 a45:=Tryz.isAgg197
 z45:=Tryz.sizeOf197
 v45:=Tryz.zeroValue197
 t46:=Tryz.underlying198
 a46:=Tryz.isAgg198
 z46:=Tryz.sizeOf198
 v46:=Tryz.zeroValue198
 t50:=Tryz.underlying73
 a50:=Tryz.isAgg73
 z50:=Tryz.sizeOf73
 v50:=Tryz.zeroValue73
 t53:=Tryz.underlying205
 a53:=Tryz.isAgg205
 z53:=Tryz.sizeOf205
 v53:=Tryz.zeroValue205
 t55:=Tryz.underlying207
 a55:=Tryz.isAgg207
 z55:=Tryz.sizeOf207
 v55:=Tryz.zeroValue207
 t66:=Tryz.underlying226
 a66:=Tryz.isAgg226
 z66:=Tryz.sizeOf226
 v66:=Tryz.zeroValue226
 t70:=Tryz.underlying230
 a70:=Tryz.isAgg230
 z70:=Tryz.sizeOf230
 v70:=Tryz.zeroValue230
 t76:=Tryz.underlying244
 a76:=Tryz.isAgg244
 z76:=Tryz.sizeOf244
 v76:=Tryz.zeroValue244
 t77:=Tryz.underlying142
 a77:=Tryz.isAgg142
 z77:=Tryz.sizeOf142
 v77:=Tryz.zeroValue142 }
def Tryz.lays125_ren:Go.Shelf.Ren:=⟨fun | 125=>132 | 128=>162 | 129=>163 | n=>n,fun | 46=>155 | 3=>3 | 51=>205 | 53=>207 | 4=>4 | 5=>5 | 9=>9 | n=>n,fun | n=>n⟩
theorem Tryz.lays125:Go.Proofs.Lays.n125 Tryz.prog Tryz.lays125_ren:={
 mixed:=by kernel_rfl
 f125:=Tryz.func132.trans (congrArg some (by kernel_rfl))
 f128:=Tryz.func162.trans (congrArg some (by kernel_rfl))
 f129:=Tryz.func163.trans (congrArg some (by kernel_rfl))
 t3:=Tryz.underlying3
 a3:=Tryz.isAgg3
 z3:=Tryz.sizeOf3
 v3:=Tryz.zeroValue3
 t4:=Tryz.underlying4
 a4:=Tryz.isAgg4
 z4:=Tryz.sizeOf4
 v4:=Tryz.zeroValue4
 t5:=Tryz.underlying5
 a5:=Tryz.isAgg5
 z5:=Tryz.sizeOf5
 v5:=Tryz.zeroValue5
 t9:=Tryz.underlying9
 a9:=Tryz.isAgg9
 z9:=Tryz.sizeOf9
 v9:=Tryz.zeroValue9
 t46:=Tryz.underlying155
 a46:=Tryz.isAgg155
 z46:=Tryz.sizeOf155
 v46:=Tryz.zeroValue155
 t51:=Tryz.underlying205
 a51:=Tryz.isAgg205
 z51:=Tryz.sizeOf205
 v51:=Tryz.zeroValue205
 t53:=Tryz.underlying207
 a53:=Tryz.isAgg207
 z53:=Tryz.sizeOf207
 v53:=Tryz.zeroValue207 }
theorem Tryz.bits_Len (x:Int) (w:World) (h0:0≤x) (h1:x≤18446744073709551615) :
 Calls Tryz.prog 132 #[.int .u64 x] w fun e w'=>e=.returned (.int .i64 (Lib.bitLen x.toNat))∧w'=w:=Any.bits_Len Tryz.lays125 x w h0 h1
end Go.Proofs
