/- Texts of the verifier, joined: BmR, BoR, BkA, BkB. -/
import Derived.Test.YtccdhcempnkgaaaGreatDoorPL7
import Derived.OwnWalk
import Derived.Laws.OwnMore
import Derived.Laws.AppendOwnNone
import Derived.Test.YtccdhcempnkgaaaGreatDoorPL4
namespace Go.Proofs.YtccdhcempnkgaaaGreatDoor
open Go.RowKit Go.Deep
set_option linter.unusedVariables false
set_option linter.unusedSimpArgs false
set_option maxRecDepth 10000
def markCrc (n:Nat):Crc:=⟨(n:Int),(n:Int)+1,(n:Int)+1+1,(n:Int)+1+1+1,(n:Int)+1+1+1+1⟩
def marksCrc (n k:Nat):List Crc:=(List.range k).map fun i=>markCrc (n+5*i)
theorem marksCrc_succ (n k:Nat):marksCrc n (k+1)=marksCrc n k++[markCrc (n+5*k)]:=by simp [marksCrc,List.range_succ]
theorem marksCrc_len (n k:Nat):(marksCrc n k).length=k:=by simp [marksCrc]
theorem crs_set0 (A B:List Crc) (x:Crc) (n:Int) {k:Nat} (hA:A.length=k):(crs (A++x :: B)).set (k*5) (.int .i64 n)=crs (A++⟨n,x.fr,x.to,x.am,x.fe⟩ :: B):=by
 subst hA
 have hl:=crs_len A
 rw [crs_append,crs_append,List.set_append_right _ _ (by omega),hl]
 simp [crs,Crc.cells]
theorem crs_set1 (A B:List Crc) (x:Crc) (n:Int) {k:Nat} (hA:A.length=k):(crs (A++x :: B)).set (k*5+1) (.int .i64 n)=crs (A++⟨x.ky,n,x.to,x.am,x.fe⟩ :: B):=by
 subst hA
 have hl:=crs_len A
 rw [crs_append,crs_append,List.set_append_right _ _ (by omega),hl,show A.length*5+1-A.length*5=1 by omega]
 simp [crs,Crc.cells]
theorem crs_set2 (A B:List Crc) (x:Crc) (n:Int) {k:Nat} (hA:A.length=k):(crs (A++x :: B)).set (k*5+2) (.int .i64 n)=crs (A++⟨x.ky,x.fr,n,x.am,x.fe⟩ :: B):=by
 subst hA
 have hl:=crs_len A
 rw [crs_append,crs_append,List.set_append_right _ _ (by omega),hl,show A.length*5+2-A.length*5=2 by omega]
 simp [crs,Crc.cells]
theorem crs_set3 (A B:List Crc) (x:Crc) (n:Int) {k:Nat} (hA:A.length=k):(crs (A++x :: B)).set (k*5+3) (.int .i64 n)=crs (A++⟨x.ky,x.fr,x.to,n,x.fe⟩ :: B):=by
 subst hA
 have hl:=crs_len A
 rw [crs_append,crs_append,List.set_append_right _ _ (by omega),hl,show A.length*5+3-A.length*5=3 by omega]
 simp [crs,Crc.cells]
theorem crs_set4 (A B:List Crc) (x:Crc) (n:Int) {k:Nat} (hA:A.length=k):(crs (A++x :: B)).set (k*5+4) (.int .i64 n)=crs (A++⟨x.ky,x.fr,x.to,x.am,n⟩ :: B):=by
 subst hA
 have hl:=crs_len A
 rw [crs_append,crs_append,List.set_append_right _ _ (by omega),hl,show A.length*5+4-A.length*5=4 by omega]
 simp [crs,Crc.cells]
set_option maxHeartbeats 16000000 in
theorem markCircleS_k (a:Option Addr) (cap:Nat) (ds:List Crc) (n:Nat) (w:World) (h:Own w [(a,crs ds)]) (hl:ds.length≤1048576) (hn:n≤1000000000) :
 Calls Tryz.prog 57 #[.slice a ds.length cap,.int .i64 (n:Int)] w fun e w'=>e=.returned (.int .i64 ((n+5*ds.length:Nat):Int))∧Own w' [(a,crs (marksCrc n ds.length))]∧Turn (fp [(a,crs ds)]) w w':=by
 have HO:=hide h
 clear h
 go_enter Tryz.func57,Tryz.ntmps57
 go_wp2_with fail
 go_loopw [1,5] (fun x y wr=>∃ (k z:Nat),k≤ds.length∧Hid (n+5*k=z)∧x=.int .i64 (z:Int)∧y=.int .i64 (k:Int)∧Hid (Own wr [(a,crs (marksCrc n k++ds.drop k))])∧Hid (Turn (fp [(a,crs ds)]) w wr)) (fun _ y _=>ds.length-(intOf y).toNat)
 case atStart=>exact ⟨0,n,by omega,by show _=_;simp,rfl,rfl,by show Own _ _;simpa [marksCrc] using HO.out,Turn.refl _ _⟩
 case round =>
  obtain ⟨k,z,hk,HZ,rfl,rfl,HO0,HT⟩:=hrel
  by_cases hlt:k < ds.length
  ·have hz:z≤1200000000:=by have:=HZ.out;omega
   have HDr:Hid (ds.drop k=ds[k] :: ds.drop (k+1)):=List.drop_eq_getElem_cons hlt
   have HLA:Hid ((marksCrc n k).length=k):=marksCrc_len n k
   have HTk:Hid (marksCrc n (k+1)++ds.drop (k+1)=marksCrc n k++Crc.mk ((z:Int)) ((z:Int)+1) ((z:Int)+1+1) ((z:Int)+1+1+1) ((z:Int)+1+1+1+1) :: ds.drop (k+1)):=by
    show _=_
    rw [marksCrc_succ,← HZ.out,List.append_assoc];rfl
   have HZn:Hid (n+5*(k+1)=z+5):=by show _=_;have:=HZ.out;omega
   have HFE:Hid (fp [(a,crs (marksCrc n k++ds.drop k))]=fp [(a,crs ds)]):=by
    show _=_
    rw [fp_one,fp_one]
    exact fpS_len (by rw [crs_len,crs_len,List.length_append,HLA.out,List.length_drop];congr 1;omega)
   rw [HDr.out] at HO0 HFE
   generalize ds[k]=c at *
   obtain ⟨eky,efr,eto,eam,efe⟩:=c
   generalize marksCrc n k=A at *
   generalize hB:ds.drop (k+1)=B at *
   have HBB:=hide hB
   clear hB HZ
   have hcl:Cells wr a (crs (A++Crc.mk eky efr eto eam efe :: B)):=HO0.out.mem (a,crs (A++Crc.mk eky efr eto eam efe :: B)) (by simp)
   have hkl:k < (A++Crc.mk eky efr eto eam efe :: B).length:=by have:=HLA.out;simp;omega
   obtain ⟨b,off,ea,c0,c1,c2,c3,c4⟩:=crs_at hcl k hkl
   subst ea
   have he:(A++Crc.mk eky efr eto eam efe :: B)[k]=Crc.mk eky efr eto eam efe:=by
    rw [List.getElem_append_right (by have:=HLA.out;omega)]
    simp [HLA.out]
   rw [he] at c0 c1 c2 c3 c4
   dsimp only at c0 c1 c2 c3 c4
   have hne0:crs (A++Crc.mk eky efr eto eam efe :: B)≠[]:=fun e=>by
    have:=crs_len (A++Crc.mk eky efr eto eam efe :: B)
    rw [e] at this
    simp at this
   have hfp:fp [((some (⟨b,off,none⟩:Addr)),crs (A++Crc.mk eky efr eto eam efe :: B))]=[b]:=by rw [fp_one,fpS_some hne0]
   have f0:∀ o,wr.frozen? ⟨b,o,none⟩=false:=HO0.out.free b (by rw [hfp];simp)
   have z0:=f0 (off+k*5)
   have z1:=f0 (off+k*5+1)
   have z2:=f0 (off+k*5+2)
   have z3:=f0 (off+k*5+3)
   have z4:=f0 (off+k*5+4)
   have HO1:Hid (Own (wr.setCell ⟨b,off+k*5,none⟩ (.int .i64 ((z:Int)))) [(some ⟨b,off,none⟩,crs (A++Crc.mk ((z:Int)) efr eto eam efe :: B))]):=by
    have h1:=own_set HO0.out (k*5) (.int .i64 ((z:Int))) (by rw [crs_len];have:=HLA.out;simp;omega)
    rw [crs_set0 A B _ _ HLA.out] at h1
    skip
    exact h1
   have HO2:Hid (Own ((wr.setCell ⟨b,off+k*5,none⟩ (.int .i64 ((z:Int)))).setCell ⟨b,off+k*5+1,none⟩ (.int .i64 ((z:Int)+1))) [(some ⟨b,off,none⟩,crs (A++Crc.mk ((z:Int)) ((z:Int)+1) eto eam efe :: B))]):=by
    have h1:=own_set HO1.out (k*5+1) (.int .i64 ((z:Int)+1)) (by rw [crs_len];have:=HLA.out;simp;omega)
    rw [crs_set1 A B _ _ HLA.out] at h1
    rw [← Nat.add_assoc] at h1
    exact h1
   have HO3:Hid (Own (((wr.setCell ⟨b,off+k*5,none⟩ (.int .i64 ((z:Int)))).setCell ⟨b,off+k*5+1,none⟩ (.int .i64 ((z:Int)+1))).setCell ⟨b,off+k*5+2,none⟩ (.int .i64 ((z:Int)+1+1))) [(some ⟨b,off,none⟩,crs (A++Crc.mk ((z:Int)) ((z:Int)+1) ((z:Int)+1+1) eam efe :: B))]):=by
    have h1:=own_set HO2.out (k*5+2) (.int .i64 ((z:Int)+1+1)) (by rw [crs_len];have:=HLA.out;simp;omega)
    rw [crs_set2 A B _ _ HLA.out] at h1
    rw [← Nat.add_assoc] at h1
    exact h1
   have HO4:Hid (Own ((((wr.setCell ⟨b,off+k*5,none⟩ (.int .i64 ((z:Int)))).setCell ⟨b,off+k*5+1,none⟩ (.int .i64 ((z:Int)+1))).setCell ⟨b,off+k*5+2,none⟩ (.int .i64 ((z:Int)+1+1))).setCell ⟨b,off+k*5+3,none⟩ (.int .i64 ((z:Int)+1+1+1))) [(some ⟨b,off,none⟩,crs (A++Crc.mk ((z:Int)) ((z:Int)+1) ((z:Int)+1+1) ((z:Int)+1+1+1) efe :: B))]):=by
    have h1:=own_set HO3.out (k*5+3) (.int .i64 ((z:Int)+1+1+1)) (by rw [crs_len];have:=HLA.out;simp;omega)
    rw [crs_set3 A B _ _ HLA.out] at h1
    rw [← Nat.add_assoc] at h1
    exact h1
   have HO5:Hid (Own (((((wr.setCell ⟨b,off+k*5,none⟩ (.int .i64 ((z:Int)))).setCell ⟨b,off+k*5+1,none⟩ (.int .i64 ((z:Int)+1))).setCell ⟨b,off+k*5+2,none⟩ (.int .i64 ((z:Int)+1+1))).setCell ⟨b,off+k*5+3,none⟩ (.int .i64 ((z:Int)+1+1+1))).setCell ⟨b,off+k*5+4,none⟩ (.int .i64 ((z:Int)+1+1+1+1))) [(some ⟨b,off,none⟩,crs (A++Crc.mk ((z:Int)) ((z:Int)+1) ((z:Int)+1+1) ((z:Int)+1+1+1) ((z:Int)+1+1+1+1) :: B))]):=by
    have h1:=own_set HO4.out (k*5+4) (.int .i64 ((z:Int)+1+1+1+1)) (by rw [crs_len];have:=HLA.out;simp;omega)
    rw [crs_set4 A B _ _ HLA.out] at h1
    rw [← Nat.add_assoc] at h1
    exact h1
   have d1:(wr.setCell ⟨b,off+k*5,none⟩ (.int .i64 ((z:Int)))).cell? ⟨b,off+k*5+1,none⟩=some (.int .i64 efr):=by
    rw [World.cell?_setCell_other _ _ _ _ (by simp)];exact c1
   have d2:((wr.setCell ⟨b,off+k*5,none⟩ (.int .i64 ((z:Int)))).setCell ⟨b,off+k*5+1,none⟩ (.int .i64 ((z:Int)+1))).cell? ⟨b,off+k*5+2,none⟩=some (.int .i64 eto):=by
    rw [World.cell?_setCell_other _ _ _ _ (by simp),World.cell?_setCell_other _ _ _ _ (by simp)];exact c2
   have d3:(((wr.setCell ⟨b,off+k*5,none⟩ (.int .i64 ((z:Int)))).setCell ⟨b,off+k*5+1,none⟩ (.int .i64 ((z:Int)+1))).setCell ⟨b,off+k*5+2,none⟩ (.int .i64 ((z:Int)+1+1))).cell? ⟨b,off+k*5+3,none⟩=some (.int .i64 eam):=by
    rw [World.cell?_setCell_other _ _ _ _ (by simp),World.cell?_setCell_other _ _ _ _ (by simp),World.cell?_setCell_other _ _ _ _ (by simp)];exact c3
   have d4:((((wr.setCell ⟨b,off+k*5,none⟩ (.int .i64 ((z:Int)))).setCell ⟨b,off+k*5+1,none⟩ (.int .i64 ((z:Int)+1))).setCell ⟨b,off+k*5+2,none⟩ (.int .i64 ((z:Int)+1+1))).setCell ⟨b,off+k*5+3,none⟩ (.int .i64 ((z:Int)+1+1+1))).cell? ⟨b,off+k*5+4,none⟩=some (.int .i64 efe):=by
    rw [World.cell?_setCell_other _ _ _ _ (by simp),World.cell?_setCell_other _ _ _ _ (by simp),World.cell?_setCell_other _ _ _ _ (by simp),World.cell?_setCell_other _ _ _ _ (by simp)];exact c4
   have HTw:Hid (Turn (fp [((some (⟨b,off,none⟩:Addr)),crs ds)]) w (((((wr.setCell ⟨b,off+k*5,none⟩ (.int .i64 ((z:Int)))).setCell ⟨b,off+k*5+1,none⟩ (.int .i64 ((z:Int)+1))).setCell ⟨b,off+k*5+2,none⟩ (.int .i64 ((z:Int)+1+1))).setCell ⟨b,off+k*5+3,none⟩ (.int .i64 ((z:Int)+1+1+1))).setCell ⟨b,off+k*5+4,none⟩ (.int .i64 ((z:Int)+1+1+1+1)))):=by
    have h2:Turn [b] wr (((((wr.setCell ⟨b,off+k*5,none⟩ (.int .i64 ((z:Int)))).setCell ⟨b,off+k*5+1,none⟩ (.int .i64 ((z:Int)+1))).setCell ⟨b,off+k*5+2,none⟩ (.int .i64 ((z:Int)+1+1))).setCell ⟨b,off+k*5+3,none⟩ (.int .i64 ((z:Int)+1+1+1))).setCell ⟨b,off+k*5+4,none⟩ (.int .i64 ((z:Int)+1+1+1+1))):=(((((Turn.set (by simp) _).trans' (Turn.set (by simp) _)).trans' (Turn.set (by simp) _)).trans' (Turn.set (by simp) _)).trans' (Turn.set (by simp) _))
    rw [← HFE.out,hfp] at HT ⊢
    exact HT.out.trans' h2
   clear HO0 HO1 HO2 HO3 HO4 hcl he f0 HT HFE hfp
   go_wp2_with fail
   go_roundw
   case rel=>exact ⟨k+1,z+5,by omega,HZn,congrArg (Value.int .i64) (by omega),by go_num,(by show Own _ _;rw [HBB.out,HTk.out];exact HO5.out),HTw⟩
   case measure=>simp [intOf];omega
  ·have e:k=ds.length:=by omega
   subst e
   have HZ2:=hide HZ.out
   go_wp2_with fail
   go_ret
   have h2:=HO0.out
   rw [List.drop_length,List.append_nil] at h2
   exact ⟨by rw [HZ2.out];rfl,h2,HT.out⟩
set_option maxHeartbeats 8000000 in
theorem heldCircleS_k (a:Option Addr) (cap:Nat) (len n:Nat) (w:World) (hc:Cells w a (crs (marksCrc n len))) (hl:len≤1048576) (hn:n≤1000000000) :
 Calls Tryz.prog 61 #[.slice a len cap,.int .i64 (n:Int)] w fun e w'=>e=.returned (.int .i64 ((n+5*len:Nat):Int))∧w'=w:=by
 have HC:=hide hc
 clear hc
 go_enter Tryz.func61,Tryz.ntmps61
 go_wp2_with fail
 go_loop [1,5] (fun x y=>∃ (k z:Nat),k≤len∧Hid (n+5*k=z)∧x=.int .i64 (z:Int)∧y=.int .i64 (k:Int)) (fun _ y=>len-(intOf y).toNat)
 case atStart=>exact ⟨0,n,by omega,by show _=_;simp,rfl,rfl⟩
 case round =>
  obtain ⟨k,z,hk,HZ,rfl,rfl⟩:=hrel
  by_cases hlt:k < len
  ·have hz:z≤1200000000:=by have:=HZ.out;omega
   have HZn:Hid (n+5*(k+1)=z+5):=by show _=_;have:=HZ.out;omega
   obtain ⟨b,off,ea,c0,c1,c2,c3,c4⟩:=crs_at HC.out k (by rw [marksCrc_len];exact hlt)
   have e:(marksCrc n len)[k]'(by rw [marksCrc_len];exact hlt)=markCrc z:=by simp [marksCrc,HZ.out]
   rw [e] at c0 c1 c2 c3 c4
   dsimp only [markCrc] at c0 c1 c2 c3 c4
   have HEA:=hide ea
   clear ea
   obtain rfl:=HEA.out
   clear e HZ
   skip
   all_goals
    go_wp2_with fail
    go_round
    case rel=>exact ⟨k+1,z+5,by omega,HZn,congrArg (Value.int .i64) (by omega),by go_num⟩
    case measure=>simp [intOf];omega
  ·have e:k=len:=by omega
   subst e
   have HZ2:=hide HZ.out
   go_wp2_with fail
   go_ret
   exact ⟨congrArg (fun y:Int=>Ending.returned (Value.int .i64 y)) (show ((z:Nat):Int)=_ by have:=HZ2.out;omega),rfl⟩
end Go.Proofs.YtccdhcempnkgaaaGreatDoor
namespace Go.Proofs.YtccdhcempnkgaaaGreatDoor
open Go.RowKit Go.Deep
set_option linter.unusedVariables false
set_option linter.unusedSimpArgs false
set_option maxRecDepth 10000
abbrev OwnsCircle (w:World) (base:Nat) (v:Value) (L:List Crc):Prop:=w.ownsRow base 115 5 v L.length (crs L)
theorem OwnsCircle.at {w:World} {base g cap:Nat} {L:List Crc} (h:OwnsCircle w base (.slice (some ⟨g,0,none⟩) L.length cap) L) (k:Nat) (hk:k < L.length) :
 w.cell? ⟨g,k*5,none⟩=some (.int .i64 L[k].ky)∧w.cell? ⟨g,k*5+1,none⟩=some (.int .i64 L[k].fr)∧w.cell? ⟨g,k*5+2,none⟩=some (.int .i64 L[k].to)∧w.cell? ⟨g,k*5+3,none⟩=some (.int .i64 L[k].am)∧w.cell? ⟨g,k*5+4,none⟩=some (.int .i64 L[k].fe):=by
 have hz:=Nat.mul_le_mul_right 5 (show k+1≤L.length from hk)
 have ha:=fun r (hr:r < 5)=>flatMap_at (f:=Crc.cells) (sz:=5) (fun _=>rfl) L k hk r hr
 refine ⟨?_,?_,?_,?_,?_⟩
 ·rw [h.cellAt (k*5) (by omega)]
  have e:=ha 0 (by decide)
  simp only [Nat.add_zero] at e
  unfold crs
  rw [e];rfl
 ·rw [h.cellAt (k*5+1) (by omega)]
  have e:=ha 1 (by decide)
  skip
  unfold crs
  rw [e];rfl
 ·rw [h.cellAt (k*5+2) (by omega)]
  have e:=ha 2 (by decide)
  skip
  unfold crs
  rw [e];rfl
 ·rw [h.cellAt (k*5+3) (by omega)]
  have e:=ha 3 (by decide)
  skip
  unfold crs
  rw [e];rfl
 ·rw [h.cellAt (k*5+4) (by omega)]
  have e:=ha 4 (by decide)
  skip
  unfold crs
  rw [e];rfl
theorem cells_Circle {L:List Crc}:crs L=[]↔L=[]:=by
 constructor
 ·intro h
  have:=crs_len L
  rw [h] at this
  simp only [List.length_nil] at this
  exact List.length_eq_zero_iff.1 (by omega)
 ·rintro rfl;rfl
theorem cell_one_Circle {L:List Crc} {u:Value} (h:u∈crs L):u.oneCell'=true:=by
 unfold crs at h
 obtain ⟨x,_,hx⟩:=List.mem_flatMap.1 h
 simp only [Crc.cells,List.mem_cons,List.mem_nil_iff,or_false] at hx
 rcases hx with rfl | rfl | rfl | rfl | rfl <;> rfl
theorem app_Circle {ops:Array Oper} {rest:List Oper} {o:Oper} {a:Act} {Q:Exit→Act→World→Prop} {wr:World} (hgd:o.guard=none) (s x:Operand)
 (ho:o.op=.call { callee:=.builtin .append,args:=#[s,x],argTypes:=#[32,32] }) (base:Nat) (v:Value) (L M:List Crc) (hs:a.eval s=v) (xa:Option Addr) (c:Nat)
 (hx:a.eval x=.slice xa M.length c) (hM:Cells wr xa (crs M)) (hn:xa=none→c=0) (hown:OwnsCircle wr base v L) (hl:L.length+M.length≤4194304) (hbase:base≤wr.heap.size)
 (h:∀ v' w',OwnsCircle w' base v' (L++M)→wr.grownBy w' v.ownBlock→(v≠.slice none 0 0→v'≠.slice none 0 0)→wpList Tryz.prog ops Q rest (a.put o.dst v') w') :
 wpList Tryz.prog ops Q (o :: rest) a wr:=by
 have hI:=infoCircle
 cases hi:Tryz.prog.info? 115 with
 | none=>rw [hi] at hI;simp at hI
 | some i =>
   rw [hi] at hI
   simp at hI
   obtain ⟨hz,hsz,hby⟩:=hI
   cases xa with
   | none =>
     obtain rfl:=hn rfl
     have hM0:M=[]:=by
      rcases hM with hM | ⟨_,_,e,_⟩
      ·exact cells_Circle.1 hM
      ·cases e
     subst hM0
     refine wpList_append_own_none hgd s x 32 ho base 115 i 5 underCircles hi v L.length (crs L) hs hown hx ?_
     exact h v wr (by simpa using hown) ⟨rfl,rfl,rfl,Nat.le_refl _,fun _ _ _=>rfl⟩ (fun h=>h)
   | some p =>
     refine wpList_append_own _ hgd s x 32 ho base 115 i _ 5 40 underCircles hi hz hsz hby rfl (by decide) v L.length (crs L) hs hown p M.length c (crs M) hx (by rw [crs_len]) ?_ (fun u hu=>cell_one_Circle hu) ?_ ?_ hbase ?_
     ·intro j u hj
      rcases hM with hM | ⟨b,off,e,hM⟩
      ·rw [hM] at hj;simp at hj
      ·obtain rfl:=Option.some.inj e
       obtain ⟨hj',e'⟩:=List.getElem?_eq_some_iff.1 hj
       have:=hM j hj'
       rw [e'] at this
       rw [← this,addr_at]
     ·simp only [maxLen];omega
     ·omega
     ·intro v' w' h1 h2 h3
      exact h v' w' (by unfold OwnsCircle;rw [crs_append,List.length_append];exact h1) h2 (fun hn he=>hn (h3.1 he).1)
end Go.Proofs.YtccdhcempnkgaaaGreatDoor
namespace Go.Proofs.YtccdhcempnkgaaaGreatDoor
open Go.RowKit Go.Deep
set_option linter.unusedVariables false
set_option maxRecDepth 10000
theorem pos_impl (n:Int) (w:World):Calls Tryz.prog 86 #[.int .i64 n] w fun e w'=>e=.returned (.bool (posB n))∧Keeps w w':=by
 obtain ⟨v,hv⟩:∃ v:Bool,v=posB n:=⟨_,rfl⟩
 rw [← hv]
 unfold posB at hv
 cases h:amtB n
 ·rw [h,Bool.false_and] at hv
  subst hv
  go_enter Tryz.func86,Tryz.ntmps86
  go_wp2_with fail
  refine (amt_impl n _).mono ?_
  rintro x w1 ⟨rfl,hk⟩
  rw [h]
  go_wp2_with fail
  go_ret
  exact ⟨rfl,hk⟩
 ·rw [h,Bool.true_and] at hv
  replace hv:=hide hv
  go_enter Tryz.func86,Tryz.ntmps86
  go_wp2_with fail
  refine (amt_impl n _).mono ?_
  rintro x w1 ⟨rfl,hk⟩
  rw [h]
  go_wp2_with fail
  go_ret
  exact ⟨ret_b (by rw [hv.out]),hk⟩
theorem key_impl (n:Int) (w:World):Calls Tryz.prog 108 #[.int .i64 n] w fun e w'=>e=.returned (.bool (keyB n))∧Keeps w w':=by
 by_cases h:1≤n
 ·go_enter Tryz.func108,Tryz.ntmps108
  go_wp2
  go_ret
  exact ⟨ret_b (by simp [keyB,h]),Keeps.refl _⟩
 ·go_enter Tryz.func108,Tryz.ntmps108
  go_wp2
  go_ret
  exact ⟨ret_b (by simp [keyB];omega),Keeps.refl _⟩
theorem chan_impl (n:Int) (w:World):Calls Tryz.prog 110 #[.int .i64 n] w fun e w'=>e=.returned (.bool (chB n))∧Keeps w w':=by
 by_cases h:1≤n
 ·go_enter Tryz.func110,Tryz.ntmps110
  go_wp2
  go_ret
  exact ⟨ret_b (by simp [chB,h]),Keeps.refl _⟩
 ·go_enter Tryz.func110,Tryz.ntmps110
  go_wp2
  go_ret
  exact ⟨ret_b (by simp [chB];omega),Keeps.refl _⟩
theorem ppm_impl (n:Int) (w:World):Calls Tryz.prog 111 #[.int .i64 n] w fun e w'=>e=.returned (.bool (ppmB n))∧Keeps w w':=by
 by_cases h:0≤n
 ·go_enter Tryz.func111,Tryz.ntmps111
  go_wp2
  go_ret
  exact ⟨ret_b (by simp [ppmB,h]),Keeps.refl _⟩
 ·go_enter Tryz.func111,Tryz.ntmps111
  go_wp2
  go_ret
  exact ⟨ret_b (by simp [ppmB];omega),Keeps.refl _⟩
def placeC (a:Option Addr) (k:Option Nat):Option Addr:=match a,k with
 | some p,some i=>some ⟨p.block,p.off+i*7,none⟩
 | _,_=>none
theorem placeC_none (a:Option Addr):placeC a none=none:=by cases a <;> rfl
set_option maxHeartbeats 1000000 in
theorem channel_impl (p:Nat) (ca:Option Addr) (cc:Nat) (C:List Chn) (ch:Int) (w:World) (hp:w.cell? ⟨p,3,none⟩=some (.slice ca C.length cc)) (hc:Cells w ca (chs C)) (hl:C.length≤1048576) :
 Calls Tryz.prog 116 #[.pointer (some ⟨p,0,none⟩),.int .i64 ch] w fun e w'=>e=.returned (.pointer (placeC ca (atC C ch)))∧w'=w:=by
 have HC:=hide hc
 clear hc
 go_enter Tryz.func116,Tryz.ntmps116
 go_wp2_with fail
 go_loop [11] (fun y=>∃ k:Nat,k≤C.length∧y=.int .i64 (k:Int)∧Hid (∀ j (hj:j < C.length),j < k→C[j].id≠ch)) (fun y=>C.length-(intOf y).toNat)
 case atStart=>exact ⟨0,by omega,rfl,fun j hj h=>absurd h (by omega)⟩
 case round =>
  obtain ⟨k,hk,rfl,HG⟩:=hrel
  by_cases hlt:k < C.length
  ·obtain ⟨b,off,ea,c0,-,-,-,-,-,-⟩:=chs_at HC.out k hlt
   subst ea
   by_cases he:C[k].id=ch
   ·have HR:Hid (placeC (some ⟨b,off,none⟩) (atC C ch)=some ⟨b,off+k*7,none⟩):=by
     show _=_
     rw [atC_some hlt he HG.out];rfl
    rw [he] at c0
    clear he HG
    go_wp2_with fail
    go_ret
    exact ⟨by rw [HR.out];rfl,rfl⟩
   ·have HE:=hide he
    generalize C[k].id=x at c0 he
    go_wp2_with fail
    go_round
    case rel=>exact ⟨k+1,by omega,by go_num,fun j hj h=>by
               by_cases e:j=k
               ·subst e;exact HE.out
               ·exact HG.out j hj (by omega)⟩
    case measure=>simp [intOf];omega
  ·have HR:Hid (placeC ca (atC C ch)=none):=by
    show _=_
    rw [atC_none (fun j hj=>HG.out j hj (by omega)),placeC_none]
   go_wp2_with fail
   go_ret
   exact ⟨by rw [HR.out];rfl,rfl⟩
theorem placeC_at {w:World} {ca:Option Addr} {C:List Chn} (hc:Cells w ca (chs C)) (ch:Int):(hasC C ch=false∧placeC ca (atC C ch)=none)∨∃ b off k,hasC C ch=true∧atC C ch=some k∧ca=some ⟨b,off,none⟩∧placeC ca (atC C ch)=some ⟨b,off+k*7,none⟩:=by
 rw [hasC_at]
 cases h:atC C ch with
 | none=>exact Or.inl ⟨rfl,placeC_none _⟩
 | some k =>
   obtain ⟨hk,_⟩:=atC_lt h
   obtain ⟨b,off,rfl,_⟩:=chs_at hc k hk
   exact Or.inr ⟨b,off,k,rfl,rfl,rfl,rfl⟩
theorem chanw (p:Nat) (ca:Option Addr) (cc:Nat) (C:List Chn) (ch:Int) {q:Option Addr} (w:World) (hp:w.cell? ⟨p,3,none⟩=some (.slice ca C.length cc)) (hc:Cells w ca (chs C)) (hl:C.length≤1048576) (hq:placeC ca (atC C ch)=q) :
 Calls Tryz.prog 116 #[.pointer (some ⟨p,0,none⟩),.int .i64 ch] w fun e w'=>e=.returned (.pointer q)∧Keeps w w' :=
 (channel_impl p ca cc C ch w hp hc hl).mono fun e w' ⟨h1,h2⟩=>⟨by rw [h1,hq],by rw [h2];exact Keeps.refl _⟩
set_option maxHeartbeats 1000000 in
theorem two_impl (p:Nat) (ca:Option Addr) (cc:Nat) (C:List Chn) (x y:Int) (w:World) (hp:w.cell? ⟨p,3,none⟩=some (.slice ca C.length cc)) (hc:Cells w ca (chs C)) (hl:C.length≤1048576) :
 Calls Tryz.prog 109 #[.pointer (some ⟨p,0,none⟩),.int .i64 x,.int .i64 y] w fun e w'=>e=.returned (.bool (twoB C x y))∧Keeps w w':=by
 by_cases hxy:x=y
 ·have HV:Hid (twoB C x y=false):=by show _=_;simp [twoB,hxy]
  go_enter Tryz.func109,Tryz.ntmps109
  go_wp2_with fail
  go_ret
  exact ⟨ret_b HV.out.symm,Keeps.refl _⟩
 have HC:=hide (fun z=>channel_impl p ca cc C z w hp hc hl)
 rcases placeC_at hc x with ⟨h1,q1⟩ | ⟨b,off,k,h1,_,ea,q1⟩
 ·have HV:Hid (twoB C x y=false):=by show _=_;simp [twoB,h1]
  clear hc hp h1
  go_enter Tryz.func109,Tryz.ntmps109
  go_wp2_with fail
  refine (unhide HC x).mono ?_
  rintro e w1 ⟨rfl,rfl⟩
  rw [q1]
  go_wp2_with fail
  go_ret
  exact ⟨ret_b HV.out.symm,Keeps.refl _⟩
 rcases placeC_at hc y with ⟨h2,q2⟩ | ⟨b',off',k',h2,_,ea',q2⟩
 ·have HV:Hid (twoB C x y=false):=by show _=_;simp [twoB,h2]
  clear hc hp h1 h2
  go_enter Tryz.func109,Tryz.ntmps109
  go_wp2_with fail
  refine (unhide HC x).mono ?_
  rintro e w1 ⟨rfl,rfl⟩
  rw [q1]
  go_wp2_with fail
  refine (unhide HC y).mono ?_
  rintro e w1 ⟨rfl,rfl⟩
  rw [q2]
  go_wp2_with fail
  go_ret
  exact ⟨ret_b HV.out.symm,Keeps.refl _⟩
 ·have HV:Hid (twoB C x y=true):=by show _=_;simp [twoB,h1,h2,hxy]
  clear hc hp h1 h2
  go_enter Tryz.func109,Tryz.ntmps109
  go_wp2_with fail
  refine (unhide HC x).mono ?_
  rintro e w1 ⟨rfl,rfl⟩
  rw [q1]
  go_wp2_with fail
  refine (unhide HC y).mono ?_
  rintro e w1 ⟨rfl,rfl⟩
  rw [q2]
  go_wp2_with fail
  go_ret
  exact ⟨ret_b (by rw [HV.out];simpa using hxy),Keeps.refl _⟩
end Go.Proofs.YtccdhcempnkgaaaGreatDoor
namespace Go.Proofs.YtccdhcempnkgaaaGreatDoor
open Go.RowKit Go.Deep
set_option linter.unusedVariables false
set_option linter.unusedSimpArgs false
set_option maxRecDepth 10000
def BookAt (w:World) (p:Nat) (B:Bo):Prop:=w.cell? ⟨p,0,none⟩=some (.int .i64 B.tk)∧w.cell? ⟨p,1,none⟩=some (.int .i64 B.nx)∧w.cell? ⟨p,2,none⟩=some (.int .i64 B.wa)∧w.cell? ⟨p,3,none⟩=some (.slice B.ca B.C.length B.cc)∧w.cell? ⟨p,4,none⟩=some (.slice B.ha B.Hs.length B.hc)∧w.cell? ⟨p,5,none⟩=some (.slice B.ra B.R.length B.rc)
theorem BookAt.kept {w w':World} {p:Nat} {B:Bo} (h:BookAt w p B) (hk:Keeps w w'):BookAt w' p B:=⟨hk.cell h.1,hk.cell h.2.1,hk.cell h.2.2.1,hk.cell h.2.2.2.1,hk.cell h.2.2.2.2.1,hk.cell h.2.2.2.2.2⟩
theorem rowc5 (w:World) (v0 v1 v2 v3 v4:Value) (t:TypeId):∀ w',Keeps (w.alloc (.cells #[v0,v1,v2,v3,v4] t)) w'→w'.cell? ⟨w.heap.size,0,none⟩=some v0∧w'.cell? ⟨w.heap.size,1,none⟩=some v1∧w'.cell? ⟨w.heap.size,2,none⟩=some v2∧w'.cell? ⟨w.heap.size,3,none⟩=some v3∧w'.cell? ⟨w.heap.size,4,none⟩=some v4:=by
 intro w' hk
 have hB:(w.alloc (.cells #[v0,v1,v2,v3,v4] t)).heap[w.heap.size]? = some (.cells #[v0,v1,v2,v3,v4] t (0,0)):=blk_alloc_new w _
 revert hB hk
 generalize w.alloc (.cells #[v0,v1,v2,v3,v4] t)=W
 intro hk hB
 refine ⟨?_,?_,?_,?_,?_⟩ <;> (refine hk.cell ?_;simp [World.cell?,hB])
theorem rowc6 (w:World) (v0 v1 v2 v3 v4 v5:Value) (t:TypeId):∀ w',Keeps (w.alloc (.cells #[v0,v1,v2,v3,v4,v5] t)) w'→w'.cell? ⟨w.heap.size,0,none⟩=some v0∧w'.cell? ⟨w.heap.size,1,none⟩=some v1∧w'.cell? ⟨w.heap.size,2,none⟩=some v2∧w'.cell? ⟨w.heap.size,3,none⟩=some v3∧w'.cell? ⟨w.heap.size,4,none⟩=some v4∧w'.cell? ⟨w.heap.size,5,none⟩=some v5:=by
 intro w' hk
 have hB:(w.alloc (.cells #[v0,v1,v2,v3,v4,v5] t)).heap[w.heap.size]? = some (.cells #[v0,v1,v2,v3,v4,v5] t (0,0)):=blk_alloc_new w _
 revert hB hk
 generalize w.alloc (.cells #[v0,v1,v2,v3,v4,v5] t)=W
 intro hk hB
 refine ⟨?_,?_,?_,?_,?_,?_⟩ <;> (refine hk.cell ?_;simp [World.cell?,hB])
theorem rowc7 (w:World) (v0 v1 v2 v3 v4 v5 v6:Value) (t:TypeId):∀ w',Keeps (w.alloc (.cells #[v0,v1,v2,v3,v4,v5,v6] t)) w'→w'.cell? ⟨w.heap.size,0,none⟩=some v0∧w'.cell? ⟨w.heap.size,1,none⟩=some v1∧w'.cell? ⟨w.heap.size,2,none⟩=some v2∧w'.cell? ⟨w.heap.size,3,none⟩=some v3∧w'.cell? ⟨w.heap.size,4,none⟩=some v4∧w'.cell? ⟨w.heap.size,5,none⟩=some v5∧w'.cell? ⟨w.heap.size,6,none⟩=some v6:=by
 intro w' hk
 have hB:(w.alloc (.cells #[v0,v1,v2,v3,v4,v5,v6] t)).heap[w.heap.size]? = some (.cells #[v0,v1,v2,v3,v4,v5,v6] t (0,0)):=blk_alloc_new w _
 revert hB hk
 generalize w.alloc (.cells #[v0,v1,v2,v3,v4,v5,v6] t)=W
 intro hk hB
 refine ⟨?_,?_,?_,?_,?_,?_,?_⟩ <;> (refine hk.cell ?_;simp [World.cell?,hB])
theorem book_box (B:Bo) (w:World) (t:TypeId):BookAt (w.alloc (.cells #[.int .i64 B.tk,.int .i64 B.nx,.int .i64 B.wa,.slice B.ca B.C.length B.cc,.slice B.ha B.Hs.length B.hc,.slice B.ra B.R.length B.rc] t)) w.heap.size B:=rowc6 w _ _ _ _ _ _ t _ (Keeps.refl _)
set_option maxHeartbeats 2000000 in
theorem htlcs_impl (B:Bo) (w:World) (hm:Mem w B.segs) (hl:B.len):Calls Tryz.prog 88 #[B.v] w fun e w'=>e=.returned (.bool (B.Hs.all (htB B.C)))∧Keeps w w':=by
 obtain ⟨tk,nx,wa,ca,cc,C,ha,hc,Hs,ra,rc,R⟩:=B
 have HCC:=hide (fun w' (hk:Keeps w w')=>Bo.memC (hm.kept hk))
 have HCH:=hide (fun w' (hk:Keeps w w')=>Bo.memH (hm.kept hk))
 have HCR:=hide (fun w' (hk:Keeps w w')=>Bo.memR (hm.kept hk))
 have HL:=hide hl
 have HBA:=hide (book_box ⟨tk,nx,wa,ca,cc,C,ha,hc,Hs,ra,rc,R⟩ w 34)
 have HKA:=hide (Keeps.alloc (Keeps.refl w) (.cells #[.int .i64 tk,.int .i64 nx,.int .i64 wa,.slice ca C.length cc,.slice ha Hs.length hc,.slice ra R.length rc] 34))
 dsimp only [Bo.d,Bo.v] at *
 clear hm hl
 go_enter Tryz.func88,Tryz.ntmps88
 go_wp2_with fail
 have hln:Hs.length≤1048576:=HL.out.2.1
 generalize hW:w.alloc (.cells #[.int .i64 tk,.int .i64 nx,.int .i64 wa,.slice ca C.length cc,.slice ha Hs.length hc,.slice ra R.length rc] 34)=W0 at *
 go_loopw [8] (fun y wr=>∃ k:Nat,k≤Hs.length∧y=.int .i64 (k:Int)∧Hid (∀ j (hj:j < Hs.length),j < k→htB C Hs[j]=true)∧Hid (Keeps W0 wr)) (fun y _=>Hs.length-(intOf y).toNat)
 case atStart=>exact ⟨0,by omega,rfl,fun j hj h=>absurd h (by omega),Keeps.refl _⟩
 case round =>
  obtain ⟨k,hk,rfl,HG,HKr⟩:=hrel
  have HB:=hide (HBA.out.kept HKr.out)
  by_cases hlt:k < Hs.length
  ·skip
   obtain ⟨b,off,ea,c0,c1,c2,c3,c4,c5,c6⟩:=hts_at (unhide HCH _ (HKA.out.trans HKr.out)) k hlt
   subst ea
   have HX:Hid (Hs[k]=Hs[k]):=rfl
   generalize hx:Hs[k]=x at c0 c1 c2 c3 c4 c5 c6 HX
   replace HX:=hide hx
   clear hx
   obtain ⟨xky,xinn,xout,xai,xao,xkp,xag⟩:=x
   dsimp only at c0 c1 c2 c3 c4 c5 c6
   obtain ⟨b0,b1,b2,b3,b4,b5⟩:=HB.out
   dsimp only at b0 b1 b2 b3 b4 b5
   go_wp2_with fail
   have HA:=hide (rowc7 wr (.int .i64 xky) (.int .i64 xinn) (.int .i64 xout) (.int .i64 xai) (.int .i64 xao) (.bool xkp) (.int .i64 xag) 112)
   have HKv:=hide (HKr.out.trans (Keeps.alloc (Keeps.refl wr) (.cells #[.int .i64 xky,.int .i64 xinn,.int .i64 xout,.int .i64 xai,.int .i64 xao,.bool xkp,.int .i64 xag] 112)))
   generalize wr.alloc (.cells #[.int .i64 xky,.int .i64 xinn,.int .i64 xout,.int .i64 xai,.int .i64 xao,.bool xkp,.int .i64 xag] 112)=W1 at *
   have HKc:=hide (Keeps.refl W1)
   refine (pos_impl xao _).mono ?_
   rintro e w1 ⟨rfl,hk⟩
   replace HKc:=hide (HKc.out.trans hk)
   clear hk
   obtain ⟨d0,d1,d2,d3,d4,d5,d6⟩:=unhide HA w1 HKc.out
   cases hbw1:posB xao
   ·go_wp2_with fail
    go_ret
    exact ⟨ret_b (by rw [all_no hlt (by rw [HX.out];simp [htB,hbw1];try omega)]),(HKA.out.trans HKv.out).trans HKc.out⟩
   go_wp2_with fail
   refine (amt_impl xai _).mono ?_
   rintro e w2 ⟨rfl,hk⟩
   replace HKc:=hide (HKc.out.trans hk)
   clear d0 d1 d2 d3 d4 d5 d6
   clear hk
   obtain ⟨d0,d1,d2,d3,d4,d5,d6⟩:=unhide HA w2 HKc.out
   cases hbw2:amtB xai
   ·go_wp2_with fail
    go_ret
    exact ⟨ret_b (by rw [all_no hlt (by rw [HX.out];simp [htB,hbw1,hbw2];try omega)]),(HKA.out.trans HKv.out).trans HKc.out⟩
   by_cases hpw2_2:xai < xao
   ·have hpw2_2d:=hide hpw2_2
    go_wp2_with fail
    go_ret
    exact ⟨ret_b (by rw [all_no hlt (by rw [HX.out];simp [htB,hbw1,hbw2,hpw2_2d.out];try omega)]),(HKA.out.trans HKv.out).trans HKc.out⟩
   have hpw2_2d:=hide hpw2_2
   go_wp2_with fail
   refine (amt_impl xag _).mono ?_
   rintro e w3 ⟨rfl,hk⟩
   replace HKc:=hide (HKc.out.trans hk)
   clear d0 d1 d2 d3 d4 d5 d6
   clear hk
   obtain ⟨d0,d1,d2,d3,d4,d5,d6⟩:=unhide HA w3 HKc.out
   cases hbw3:amtB xag
   ·go_wp2_with fail
    go_ret
    exact ⟨ret_b (by rw [all_no hlt (by rw [HX.out];simp [htB,hbw1,hbw2,hpw2_2d.out,hbw3];try omega)]),(HKA.out.trans HKv.out).trans HKc.out⟩
   go_wp2_with fail
   have e3:=(HBA.out.kept (HKv.out.trans HKc.out)).2.2.2.1
   dsimp only at e3
   refine (two_impl w.heap.size ca cc C xinn xout w3 e3 (unhide HCC _ (HKA.out.trans (HKv.out.trans HKc.out))) HL.out.1).mono ?_
   rintro e w4 ⟨rfl,hk⟩
   replace HKc:=hide (HKc.out.trans hk)
   clear d0 d1 d2 d3 d4 d5 d6
   clear hk
   obtain ⟨d0,d1,d2,d3,d4,d5,d6⟩:=unhide HA w4 HKc.out
   cases hbw4:twoB C xinn xout
   ·go_wp2_with fail
    go_ret
    exact ⟨ret_b (by rw [all_no hlt (by rw [HX.out];simp [htB,hbw1,hbw2,hpw2_2d.out,hbw3,hbw4];try omega)]),(HKA.out.trans HKv.out).trans HKc.out⟩
   go_wp2_with fail
   have HOK:Hid (htB C ⟨xky,xinn,xout,xai,xao,xkp,xag⟩=true):=by show _=_;simp [htB,hbw1,hbw2,hpw2_2d.out,hbw3,hbw4];try omega
   have HKe:=hide (HKv.out.trans HKc.out)
   go_roundw
   case rel=>exact ⟨k+1,by omega,by go_num,fun j hj h=>by
              by_cases e:j=k
              ·subst e;rw [HX.out];exact HOK.out
              ·exact HG.out j hj (by omega),HKe.out⟩
   case measure=>simp [intOf];omega
  ·have HR:Hid (Hs.all (htB C)=true):=all_yes (fun j hj=>HG.out j hj (by omega))
   go_wp2_with fail
   go_ret
   exact ⟨ret_b HR.out.symm,HKA.out.trans HKr.out⟩
set_option maxHeartbeats 2000000 in
theorem circles_impl (B:Bo) (w:World) (hm:Mem w B.segs) (hl:B.len):Calls Tryz.prog 89 #[B.v] w fun e w'=>e=.returned (.bool (B.R.all (crB B.C)))∧Keeps w w':=by
 obtain ⟨tk,nx,wa,ca,cc,C,ha,hc,Hs,ra,rc,R⟩:=B
 have HCC:=hide (fun w' (hk:Keeps w w')=>Bo.memC (hm.kept hk))
 have HCH:=hide (fun w' (hk:Keeps w w')=>Bo.memH (hm.kept hk))
 have HCR:=hide (fun w' (hk:Keeps w w')=>Bo.memR (hm.kept hk))
 have HL:=hide hl
 have HBA:=hide (book_box ⟨tk,nx,wa,ca,cc,C,ha,hc,Hs,ra,rc,R⟩ w 34)
 have HKA:=hide (Keeps.alloc (Keeps.refl w) (.cells #[.int .i64 tk,.int .i64 nx,.int .i64 wa,.slice ca C.length cc,.slice ha Hs.length hc,.slice ra R.length rc] 34))
 dsimp only [Bo.d,Bo.v] at *
 clear hm hl
 go_enter Tryz.func89,Tryz.ntmps89
 go_wp2_with fail
 have hln:R.length≤1048576:=HL.out.2.2
 generalize hW:w.alloc (.cells #[.int .i64 tk,.int .i64 nx,.int .i64 wa,.slice ca C.length cc,.slice ha Hs.length hc,.slice ra R.length rc] 34)=W0 at *
 go_loopw [8] (fun y wr=>∃ k:Nat,k≤R.length∧y=.int .i64 (k:Int)∧Hid (∀ j (hj:j < R.length),j < k→crB C R[j]=true)∧Hid (Keeps W0 wr)) (fun y _=>R.length-(intOf y).toNat)
 case atStart=>exact ⟨0,by omega,rfl,fun j hj h=>absurd h (by omega),Keeps.refl _⟩
 case round =>
  obtain ⟨k,hk,rfl,HG,HKr⟩:=hrel
  have HB:=hide (HBA.out.kept HKr.out)
  by_cases hlt:k < R.length
  ·skip
   obtain ⟨b,off,ea,c0,c1,c2,c3,c4⟩:=crs_at (unhide HCR _ (HKA.out.trans HKr.out)) k hlt
   subst ea
   have HX:Hid (R[k]=R[k]):=rfl
   generalize hx:R[k]=x at c0 c1 c2 c3 c4 HX
   replace HX:=hide hx
   clear hx
   obtain ⟨xky,xfr,xto,xam,xfe⟩:=x
   dsimp only at c0 c1 c2 c3 c4
   obtain ⟨b0,b1,b2,b3,b4,b5⟩:=HB.out
   dsimp only at b0 b1 b2 b3 b4 b5
   go_wp2_with fail
   have HA:=hide (rowc5 wr (.int .i64 xky) (.int .i64 xfr) (.int .i64 xto) (.int .i64 xam) (.int .i64 xfe) 115)
   have HKv:=hide (HKr.out.trans (Keeps.alloc (Keeps.refl wr) (.cells #[.int .i64 xky,.int .i64 xfr,.int .i64 xto,.int .i64 xam,.int .i64 xfe] 115)))
   generalize wr.alloc (.cells #[.int .i64 xky,.int .i64 xfr,.int .i64 xto,.int .i64 xam,.int .i64 xfe] 115)=W1 at *
   have HKc:=hide (Keeps.refl W1)
   refine (pos_impl xam _).mono ?_
   rintro e w5 ⟨rfl,hk⟩
   replace HKc:=hide (HKc.out.trans hk)
   clear hk
   obtain ⟨d0,d1,d2,d3,d4⟩:=unhide HA w5 HKc.out
   cases hbw5:posB xam
   ·go_wp2_with fail
    go_ret
    exact ⟨ret_b (by rw [all_no hlt (by rw [HX.out];simp [crB,hbw5];try omega)]),(HKA.out.trans HKv.out).trans HKc.out⟩
   go_wp2_with fail
   refine (amt_impl xfe _).mono ?_
   rintro e w6 ⟨rfl,hk⟩
   replace HKc:=hide (HKc.out.trans hk)
   clear d0 d1 d2 d3 d4
   clear hk
   obtain ⟨d0,d1,d2,d3,d4⟩:=unhide HA w6 HKc.out
   cases hbw6:amtB xfe
   ·go_wp2_with fail
    go_ret
    exact ⟨ret_b (by rw [all_no hlt (by rw [HX.out];simp [crB,hbw5,hbw6];try omega)]),(HKA.out.trans HKv.out).trans HKc.out⟩
   go_wp2_with fail
   have e3:=(HBA.out.kept (HKv.out.trans HKc.out)).2.2.2.1
   dsimp only at e3
   refine (two_impl w.heap.size ca cc C xfr xto w6 e3 (unhide HCC _ (HKA.out.trans (HKv.out.trans HKc.out))) HL.out.1).mono ?_
   rintro e w7 ⟨rfl,hk⟩
   replace HKc:=hide (HKc.out.trans hk)
   clear d0 d1 d2 d3 d4
   clear hk
   obtain ⟨d0,d1,d2,d3,d4⟩:=unhide HA w7 HKc.out
   cases hbw7:twoB C xfr xto
   ·go_wp2_with fail
    go_ret
    exact ⟨ret_b (by rw [all_no hlt (by rw [HX.out];simp [crB,hbw5,hbw6,hbw7];try omega)]),(HKA.out.trans HKv.out).trans HKc.out⟩
   go_wp2_with fail
   have HOK:Hid (crB C ⟨xky,xfr,xto,xam,xfe⟩=true):=by show _=_;simp [crB,hbw5,hbw6,hbw7];try omega
   have HKe:=hide (HKv.out.trans HKc.out)
   go_roundw
   case rel=>exact ⟨k+1,by omega,by go_num,fun j hj h=>by
              by_cases e:j=k
              ·subst e;rw [HX.out];exact HOK.out
              ·exact HG.out j hj (by omega),HKe.out⟩
   case measure=>simp [intOf];omega
  ·have HR:Hid (R.all (crB C)=true):=all_yes (fun j hj=>HG.out j hj (by omega))
   go_wp2_with fail
   go_ret
   exact ⟨ret_b HR.out.symm,HKA.out.trans HKr.out⟩
end Go.Proofs.YtccdhcempnkgaaaGreatDoor
