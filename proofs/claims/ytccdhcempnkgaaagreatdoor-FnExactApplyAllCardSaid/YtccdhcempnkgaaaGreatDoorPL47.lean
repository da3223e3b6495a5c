/- Texts of the verifier, joined: EtM, BgB. -/
import Derived.Test.YtccdhcempnkgaaaGreatDoorPL46
import Derived.Test.YtccdhcempnkgaaaGreatDoorPL5
import Derived.Test.YtccdhcempnkgaaaGreatDoorPL6
import Derived.Test.YtccdhcempnkgaaaGreatDoorPL7
import Derived.Test.YtccdhcempnkgaaaGreatDoorPL8
import Derived.Deep.Cut
namespace Go.Proofs.YtccdhcempnkgaaaGreatDoor
open Go.RowKit Go.Deep
set_option linter.unusedVariables false
set_option linter.unusedSimpArgs false
set_option maxRecDepth 10000
def markEt (n:Nat):Et:=⟨(n:Int),(n:Int)+1,(n:Int)+1+1,(n:Int)+1+1+1,(n:Int)+1+1+1+1,(n:Int)+1+1+1+1+1,decide ((n+1+1+1+1+1+1) % 3=0)⟩
def marksEt (n k:Nat):List Et:=(List.range k).map fun i=>markEt (n+7*i)
theorem marksEt_succ (n k:Nat):marksEt n (k+1)=marksEt n k++[markEt (n+7*k)]:=by simp [marksEt,List.range_succ]
theorem marksEt_len (n k:Nat):(marksEt n k).length=k:=by simp [marksEt]
theorem ets_set0 (A B:List Et) (x:Et) (n:Int) {k:Nat} (hA:A.length=k):(ets (A++x :: B)).set (k*7) (.int .i64 n)=ets (A++⟨n,x.y,x.c,x.t,x.m,x.f,x.b⟩ :: B):=by
 subst hA
 have hl:=ets_len A
 rw [ets_append,ets_append,List.set_append_right _ _ (by omega),hl]
 simp [ets,Et.cells]
theorem ets_set1 (A B:List Et) (x:Et) (n:Int) {k:Nat} (hA:A.length=k):(ets (A++x :: B)).set (k*7+1) (.int .i64 n)=ets (A++⟨x.k,n,x.c,x.t,x.m,x.f,x.b⟩ :: B):=by
 subst hA
 have hl:=ets_len A
 rw [ets_append,ets_append,List.set_append_right _ _ (by omega),hl,show A.length*7+1-A.length*7=1 by omega]
 simp [ets,Et.cells]
theorem ets_set2 (A B:List Et) (x:Et) (n:Int) {k:Nat} (hA:A.length=k):(ets (A++x :: B)).set (k*7+2) (.int .i64 n)=ets (A++⟨x.k,x.y,n,x.t,x.m,x.f,x.b⟩ :: B):=by
 subst hA
 have hl:=ets_len A
 rw [ets_append,ets_append,List.set_append_right _ _ (by omega),hl,show A.length*7+2-A.length*7=2 by omega]
 simp [ets,Et.cells]
theorem ets_set3 (A B:List Et) (x:Et) (n:Int) {k:Nat} (hA:A.length=k):(ets (A++x :: B)).set (k*7+3) (.int .i64 n)=ets (A++⟨x.k,x.y,x.c,n,x.m,x.f,x.b⟩ :: B):=by
 subst hA
 have hl:=ets_len A
 rw [ets_append,ets_append,List.set_append_right _ _ (by omega),hl,show A.length*7+3-A.length*7=3 by omega]
 simp [ets,Et.cells]
theorem ets_set4 (A B:List Et) (x:Et) (n:Int) {k:Nat} (hA:A.length=k):(ets (A++x :: B)).set (k*7+4) (.int .i64 n)=ets (A++⟨x.k,x.y,x.c,x.t,n,x.f,x.b⟩ :: B):=by
 subst hA
 have hl:=ets_len A
 rw [ets_append,ets_append,List.set_append_right _ _ (by omega),hl,show A.length*7+4-A.length*7=4 by omega]
 simp [ets,Et.cells]
theorem ets_set5 (A B:List Et) (x:Et) (n:Int) {k:Nat} (hA:A.length=k):(ets (A++x :: B)).set (k*7+5) (.int .i64 n)=ets (A++⟨x.k,x.y,x.c,x.t,x.m,n,x.b⟩ :: B):=by
 subst hA
 have hl:=ets_len A
 rw [ets_append,ets_append,List.set_append_right _ _ (by omega),hl,show A.length*7+5-A.length*7=5 by omega]
 simp [ets,Et.cells]
theorem ets_set6 (A B:List Et) (x:Et) (n:Bool) {k:Nat} (hA:A.length=k):(ets (A++x :: B)).set (k*7+6) (.bool n)=ets (A++⟨x.k,x.y,x.c,x.t,x.m,x.f,n⟩ :: B):=by
 subst hA
 have hl:=ets_len A
 rw [ets_append,ets_append,List.set_append_right _ _ (by omega),hl,show A.length*7+6-A.length*7=6 by omega]
 simp [ets,Et.cells]
set_option maxHeartbeats 16000000 in
theorem markEventS_k (a:Option Addr) (cap:Nat) (ds:List Et) (n:Nat) (w:World) (h:Own w [(a,ets ds)]) (hl:ds.length≤1048576) (hn:n≤1000000000) :
 Calls Tryz.prog 23 #[.slice a ds.length cap,.int .i64 (n:Int)] w fun e w'=>e=.returned (.int .i64 ((n+7*ds.length:Nat):Int))∧Own w' [(a,ets (marksEt n ds.length))]∧Turn (fp [(a,ets ds)]) w w':=by
 have HO:=hide h
 clear h
 go_enter Tryz.func23,Tryz.ntmps23
 go_wp2_with fail
 go_loopw [1,5] (fun x y wr=>∃ (k z:Nat),k≤ds.length∧Hid (n+7*k=z)∧x=.int .i64 (z:Int)∧y=.int .i64 (k:Int)∧Hid (Own wr [(a,ets (marksEt n k++ds.drop k))])∧Hid (Turn (fp [(a,ets ds)]) w wr)) (fun _ y _=>ds.length-(intOf y).toNat)
 case atStart=>exact ⟨0,n,by omega,by show _=_;simp,rfl,rfl,by show Own _ _;simpa [marksEt] using HO.out,Turn.refl _ _⟩
 case round =>
  obtain ⟨k,z,hk,HZ,rfl,rfl,HO0,HT⟩:=hrel
  by_cases hlt:k < ds.length
  ·have hz:z≤1200000000:=by have:=HZ.out;omega
   have HDr:Hid (ds.drop k=ds[k] :: ds.drop (k+1)):=List.drop_eq_getElem_cons hlt
   have HLA:Hid ((marksEt n k).length=k):=marksEt_len n k
   have HTk:Hid (marksEt n (k+1)++ds.drop (k+1)=marksEt n k++Et.mk ((z:Int)) ((z:Int)+1) ((z:Int)+1+1) ((z:Int)+1+1+1) ((z:Int)+1+1+1+1) ((z:Int)+1+1+1+1+1) (decide ((z+1+1+1+1+1+1) % 3=0)) :: ds.drop (k+1)):=by
    show _=_
    rw [marksEt_succ,← HZ.out,List.append_assoc];rfl
   have HZn:Hid (n+7*(k+1)=z+7):=by show _=_;have:=HZ.out;omega
   have HFE:Hid (fp [(a,ets (marksEt n k++ds.drop k))]=fp [(a,ets ds)]):=by
    show _=_
    rw [fp_one,fp_one]
    exact fpS_len (by rw [ets_len,ets_len,List.length_append,HLA.out,List.length_drop];congr 1;omega)
   rw [HDr.out] at HO0 HFE
   generalize ds[k]=c at *
   obtain ⟨ek,ey,ec,et,em,ef,eb⟩:=c
   generalize marksEt n k=A at *
   generalize hB:ds.drop (k+1)=B at *
   have HBB:=hide hB
   clear hB HZ
   have hcl:Cells wr a (ets (A++Et.mk ek ey ec et em ef eb :: B)):=HO0.out.mem (a,ets (A++Et.mk ek ey ec et em ef eb :: B)) (by simp)
   have hkl:k < (A++Et.mk ek ey ec et em ef eb :: B).length:=by have:=HLA.out;simp;omega
   obtain ⟨b,off,ea,c0,c1,c2,c3,c4,c5,c6⟩:=ets_at hcl k hkl
   subst ea
   have he:(A++Et.mk ek ey ec et em ef eb :: B)[k]=Et.mk ek ey ec et em ef eb:=by
    rw [List.getElem_append_right (by have:=HLA.out;omega)]
    simp [HLA.out]
   rw [he] at c0 c1 c2 c3 c4 c5 c6
   dsimp only at c0 c1 c2 c3 c4 c5 c6
   have hne0:ets (A++Et.mk ek ey ec et em ef eb :: B)≠[]:=fun e=>by
    have:=ets_len (A++Et.mk ek ey ec et em ef eb :: B)
    rw [e] at this
    simp at this
   have hfp:fp [((some (⟨b,off,none⟩:Addr)),ets (A++Et.mk ek ey ec et em ef eb :: B))]=[b]:=by rw [fp_one,fpS_some hne0]
   have f0:∀ o,wr.frozen? ⟨b,o,none⟩=false:=HO0.out.free b (by rw [hfp];simp)
   have z0:=f0 (off+k*7)
   have z1:=f0 (off+k*7+1)
   have z2:=f0 (off+k*7+2)
   have z3:=f0 (off+k*7+3)
   have z4:=f0 (off+k*7+4)
   have z5:=f0 (off+k*7+5)
   have z6:=f0 (off+k*7+6)
   have HO1:Hid (Own (wr.setCell ⟨b,off+k*7,none⟩ (.int .i64 ((z:Int)))) [(some ⟨b,off,none⟩,ets (A++Et.mk ((z:Int)) ey ec et em ef eb :: B))]):=by
    have h1:=own_set HO0.out (k*7) (.int .i64 ((z:Int))) (by rw [ets_len];have:=HLA.out;simp;omega)
    rw [ets_set0 A B _ _ HLA.out] at h1
    skip
    exact h1
   have HO2:Hid (Own ((wr.setCell ⟨b,off+k*7,none⟩ (.int .i64 ((z:Int)))).setCell ⟨b,off+k*7+1,none⟩ (.int .i64 ((z:Int)+1))) [(some ⟨b,off,none⟩,ets (A++Et.mk ((z:Int)) ((z:Int)+1) ec et em ef eb :: B))]):=by
    have h1:=own_set HO1.out (k*7+1) (.int .i64 ((z:Int)+1)) (by rw [ets_len];have:=HLA.out;simp;omega)
    rw [ets_set1 A B _ _ HLA.out] at h1
    rw [← Nat.add_assoc] at h1
    exact h1
   have HO3:Hid (Own (((wr.setCell ⟨b,off+k*7,none⟩ (.int .i64 ((z:Int)))).setCell ⟨b,off+k*7+1,none⟩ (.int .i64 ((z:Int)+1))).setCell ⟨b,off+k*7+2,none⟩ (.int .i64 ((z:Int)+1+1))) [(some ⟨b,off,none⟩,ets (A++Et.mk ((z:Int)) ((z:Int)+1) ((z:Int)+1+1) et em ef eb :: B))]):=by
    have h1:=own_set HO2.out (k*7+2) (.int .i64 ((z:Int)+1+1)) (by rw [ets_len];have:=HLA.out;simp;omega)
    rw [ets_set2 A B _ _ HLA.out] at h1
    rw [← Nat.add_assoc] at h1
    exact h1
   have HO4:Hid (Own ((((wr.setCell ⟨b,off+k*7,none⟩ (.int .i64 ((z:Int)))).setCell ⟨b,off+k*7+1,none⟩ (.int .i64 ((z:Int)+1))).setCell ⟨b,off+k*7+2,none⟩ (.int .i64 ((z:Int)+1+1))).setCell ⟨b,off+k*7+3,none⟩ (.int .i64 ((z:Int)+1+1+1))) [(some ⟨b,off,none⟩,ets (A++Et.mk ((z:Int)) ((z:Int)+1) ((z:Int)+1+1) ((z:Int)+1+1+1) em ef eb :: B))]):=by
    have h1:=own_set HO3.out (k*7+3) (.int .i64 ((z:Int)+1+1+1)) (by rw [ets_len];have:=HLA.out;simp;omega)
    rw [ets_set3 A B _ _ HLA.out] at h1
    rw [← Nat.add_assoc] at h1
    exact h1
   have HO5:Hid (Own (((((wr.setCell ⟨b,off+k*7,none⟩ (.int .i64 ((z:Int)))).setCell ⟨b,off+k*7+1,none⟩ (.int .i64 ((z:Int)+1))).setCell ⟨b,off+k*7+2,none⟩ (.int .i64 ((z:Int)+1+1))).setCell ⟨b,off+k*7+3,none⟩ (.int .i64 ((z:Int)+1+1+1))).setCell ⟨b,off+k*7+4,none⟩ (.int .i64 ((z:Int)+1+1+1+1))) [(some ⟨b,off,none⟩,ets (A++Et.mk ((z:Int)) ((z:Int)+1) ((z:Int)+1+1) ((z:Int)+1+1+1) ((z:Int)+1+1+1+1) ef eb :: B))]):=by
    have h1:=own_set HO4.out (k*7+4) (.int .i64 ((z:Int)+1+1+1+1)) (by rw [ets_len];have:=HLA.out;simp;omega)
    rw [ets_set4 A B _ _ HLA.out] at h1
    rw [← Nat.add_assoc] at h1
    exact h1
   have HO6:Hid (Own ((((((wr.setCell ⟨b,off+k*7,none⟩ (.int .i64 ((z:Int)))).setCell ⟨b,off+k*7+1,none⟩ (.int .i64 ((z:Int)+1))).setCell ⟨b,off+k*7+2,none⟩ (.int .i64 ((z:Int)+1+1))).setCell ⟨b,off+k*7+3,none⟩ (.int .i64 ((z:Int)+1+1+1))).setCell ⟨b,off+k*7+4,none⟩ (.int .i64 ((z:Int)+1+1+1+1))).setCell ⟨b,off+k*7+5,none⟩ (.int .i64 ((z:Int)+1+1+1+1+1))) [(some ⟨b,off,none⟩,ets (A++Et.mk ((z:Int)) ((z:Int)+1) ((z:Int)+1+1) ((z:Int)+1+1+1) ((z:Int)+1+1+1+1) ((z:Int)+1+1+1+1+1) eb :: B))]):=by
    have h1:=own_set HO5.out (k*7+5) (.int .i64 ((z:Int)+1+1+1+1+1)) (by rw [ets_len];have:=HLA.out;simp;omega)
    rw [ets_set5 A B _ _ HLA.out] at h1
    rw [← Nat.add_assoc] at h1
    exact h1
   have HO7:Hid (Own (((((((wr.setCell ⟨b,off+k*7,none⟩ (.int .i64 ((z:Int)))).setCell ⟨b,off+k*7+1,none⟩ (.int .i64 ((z:Int)+1))).setCell ⟨b,off+k*7+2,none⟩ (.int .i64 ((z:Int)+1+1))).setCell ⟨b,off+k*7+3,none⟩ (.int .i64 ((z:Int)+1+1+1))).setCell ⟨b,off+k*7+4,none⟩ (.int .i64 ((z:Int)+1+1+1+1))).setCell ⟨b,off+k*7+5,none⟩ (.int .i64 ((z:Int)+1+1+1+1+1))).setCell ⟨b,off+k*7+6,none⟩ (.bool (decide ((z+1+1+1+1+1+1) % 3=0)))) [(some ⟨b,off,none⟩,ets (A++Et.mk ((z:Int)) ((z:Int)+1) ((z:Int)+1+1) ((z:Int)+1+1+1) ((z:Int)+1+1+1+1) ((z:Int)+1+1+1+1+1) (decide ((z+1+1+1+1+1+1) % 3=0)) :: B))]):=by
    have h1:=own_set HO6.out (k*7+6) (.bool (decide ((z+1+1+1+1+1+1) % 3=0))) (by rw [ets_len];have:=HLA.out;simp;omega)
    rw [ets_set6 A B _ _ HLA.out] at h1
    rw [← Nat.add_assoc] at h1
    exact h1
   have d1:(wr.setCell ⟨b,off+k*7,none⟩ (.int .i64 ((z:Int)))).cell? ⟨b,off+k*7+1,none⟩=some (.int .i64 ey):=by
    rw [World.cell?_setCell_other _ _ _ _ (by simp)];exact c1
   have d2:((wr.setCell ⟨b,off+k*7,none⟩ (.int .i64 ((z:Int)))).setCell ⟨b,off+k*7+1,none⟩ (.int .i64 ((z:Int)+1))).cell? ⟨b,off+k*7+2,none⟩=some (.int .i64 ec):=by
    rw [World.cell?_setCell_other _ _ _ _ (by simp),World.cell?_setCell_other _ _ _ _ (by simp)];exact c2
   have d3:(((wr.setCell ⟨b,off+k*7,none⟩ (.int .i64 ((z:Int)))).setCell ⟨b,off+k*7+1,none⟩ (.int .i64 ((z:Int)+1))).setCell ⟨b,off+k*7+2,none⟩ (.int .i64 ((z:Int)+1+1))).cell? ⟨b,off+k*7+3,none⟩=some (.int .i64 et):=by
    rw [World.cell?_setCell_other _ _ _ _ (by simp),World.cell?_setCell_other _ _ _ _ (by simp),World.cell?_setCell_other _ _ _ _ (by simp)];exact c3
   have d4:((((wr.setCell ⟨b,off+k*7,none⟩ (.int .i64 ((z:Int)))).setCell ⟨b,off+k*7+1,none⟩ (.int .i64 ((z:Int)+1))).setCell ⟨b,off+k*7+2,none⟩ (.int .i64 ((z:Int)+1+1))).setCell ⟨b,off+k*7+3,none⟩ (.int .i64 ((z:Int)+1+1+1))).cell? ⟨b,off+k*7+4,none⟩=some (.int .i64 em):=by
    rw [World.cell?_setCell_other _ _ _ _ (by simp),World.cell?_setCell_other _ _ _ _ (by simp),World.cell?_setCell_other _ _ _ _ (by simp),World.cell?_setCell_other _ _ _ _ (by simp)];exact c4
   have d5:(((((wr.setCell ⟨b,off+k*7,none⟩ (.int .i64 ((z:Int)))).setCell ⟨b,off+k*7+1,none⟩ (.int .i64 ((z:Int)+1))).setCell ⟨b,off+k*7+2,none⟩ (.int .i64 ((z:Int)+1+1))).setCell ⟨b,off+k*7+3,none⟩ (.int .i64 ((z:Int)+1+1+1))).setCell ⟨b,off+k*7+4,none⟩ (.int .i64 ((z:Int)+1+1+1+1))).cell? ⟨b,off+k*7+5,none⟩=some (.int .i64 ef):=by
    rw [World.cell?_setCell_other _ _ _ _ (by simp),World.cell?_setCell_other _ _ _ _ (by simp),World.cell?_setCell_other _ _ _ _ (by simp),World.cell?_setCell_other _ _ _ _ (by simp),World.cell?_setCell_other _ _ _ _ (by simp)];exact c5
   have d6:((((((wr.setCell ⟨b,off+k*7,none⟩ (.int .i64 ((z:Int)))).setCell ⟨b,off+k*7+1,none⟩ (.int .i64 ((z:Int)+1))).setCell ⟨b,off+k*7+2,none⟩ (.int .i64 ((z:Int)+1+1))).setCell ⟨b,off+k*7+3,none⟩ (.int .i64 ((z:Int)+1+1+1))).setCell ⟨b,off+k*7+4,none⟩ (.int .i64 ((z:Int)+1+1+1+1))).setCell ⟨b,off+k*7+5,none⟩ (.int .i64 ((z:Int)+1+1+1+1+1))).cell? ⟨b,off+k*7+6,none⟩=some (.bool eb):=by
    rw [World.cell?_setCell_other _ _ _ _ (by simp),World.cell?_setCell_other _ _ _ _ (by simp),World.cell?_setCell_other _ _ _ _ (by simp),World.cell?_setCell_other _ _ _ _ (by simp),World.cell?_setCell_other _ _ _ _ (by simp),World.cell?_setCell_other _ _ _ _ (by simp)];exact c6
   have hm3_6:(((z:Int)+1+1+1+1+1+1) % 3==0)=decide ((z+1+1+1+1+1+1) % 3=0):=by
    by_cases h3:(z+1+1+1+1+1+1) % 3=0
    ·rw [decide_eq_true h3];simp;omega
    ·rw [decide_eq_false h3];simp;omega
   have HTw:Hid (Turn (fp [((some (⟨b,off,none⟩:Addr)),ets ds)]) w (((((((wr.setCell ⟨b,off+k*7,none⟩ (.int .i64 ((z:Int)))).setCell ⟨b,off+k*7+1,none⟩ (.int .i64 ((z:Int)+1))).setCell ⟨b,off+k*7+2,none⟩ (.int .i64 ((z:Int)+1+1))).setCell ⟨b,off+k*7+3,none⟩ (.int .i64 ((z:Int)+1+1+1))).setCell ⟨b,off+k*7+4,none⟩ (.int .i64 ((z:Int)+1+1+1+1))).setCell ⟨b,off+k*7+5,none⟩ (.int .i64 ((z:Int)+1+1+1+1+1))).setCell ⟨b,off+k*7+6,none⟩ (.bool (decide ((z+1+1+1+1+1+1) % 3=0))))):=by
    have h2:Turn [b] wr (((((((wr.setCell ⟨b,off+k*7,none⟩ (.int .i64 ((z:Int)))).setCell ⟨b,off+k*7+1,none⟩ (.int .i64 ((z:Int)+1))).setCell ⟨b,off+k*7+2,none⟩ (.int .i64 ((z:Int)+1+1))).setCell ⟨b,off+k*7+3,none⟩ (.int .i64 ((z:Int)+1+1+1))).setCell ⟨b,off+k*7+4,none⟩ (.int .i64 ((z:Int)+1+1+1+1))).setCell ⟨b,off+k*7+5,none⟩ (.int .i64 ((z:Int)+1+1+1+1+1))).setCell ⟨b,off+k*7+6,none⟩ (.bool (decide ((z+1+1+1+1+1+1) % 3=0)))):=(((((((Turn.set (by simp) _).trans' (Turn.set (by simp) _)).trans' (Turn.set (by simp) _)).trans' (Turn.set (by simp) _)).trans' (Turn.set (by simp) _)).trans' (Turn.set (by simp) _)).trans' (Turn.set (by simp) _))
    rw [← HFE.out,hfp] at HT ⊢
    exact HT.out.trans' h2
   clear HO0 HO1 HO2 HO3 HO4 HO5 HO6 hcl he f0 HT HFE hfp
   go_wp2_with fail
   go_roundw
   case rel=>exact ⟨k+1,z+7,by omega,HZn,congrArg (Value.int .i64) (by omega),by go_num,(by show Own _ _;rw [HBB.out,HTk.out];exact HO7.out),HTw⟩
   case measure=>simp [intOf];omega
  ·have e:k=ds.length:=by omega
   subst e
   have HZ2:=hide HZ.out
   go_wp2_with fail
   go_ret
   have h2:=HO0.out
   rw [List.drop_length,List.append_nil] at h2
   exact ⟨by rw [HZ2.out];rfl,h2,HT.out⟩
end Go.Proofs.YtccdhcempnkgaaaGreatDoor
namespace Go.Proofs.YtccdhcempnkgaaaGreatDoor
open Go.RowKit Go.Deep
set_option linter.unusedVariables false
set_option linter.unusedSimpArgs false
set_option maxRecDepth 10000
def Bo.big (B:Bo):Prop:=B.C.length≤9223372036854775807∧B.Hs.length≤9223372036854775807∧B.R.length≤9223372036854775807
set_option maxHeartbeats 2000000 in
theorem szBook_k (B:Bo) (left:Int) (w:World) (hl:B.big) (h0:0≤left) (h1:left≤1048576) :
 Calls Tryz.prog 5 #[B.v,.int .i64 left] w fun e w'=>∃ r:Int,e=.returned (.int .i64 r)∧r≤1048576∧(0≤r→B.len)∧Keeps w w':=by
 obtain ⟨tk,nx,wa,ca,cc,C,ha,hc,Hs,ra,rc,R⟩:=B
 have HB:=hide (rowc6 w (.int .i64 tk) (.int .i64 nx) (.int .i64 wa) (.slice ca C.length cc) (.slice ha Hs.length hc) (.slice ra R.length rc) 26)
 have HK:=hide (Keeps.alloc (Keeps.refl w) (.cells #[.int .i64 tk,.int .i64 nx,.int .i64 wa,.slice ca C.length cc,.slice ha Hs.length hc,.slice ra R.length rc] 26))
 dsimp only [Bo.v,Bo.big,Bo.len] at *
 obtain ⟨l1,l2,l3⟩:=hl
 have H1:=hide (fun w'=>szChanS_k ca C.length cc left w' l1 h0 h1)
 go_enter Tryz.func5,Tryz.ntmps5
 go_wp2_with fail
 refine (unhide H1 _).mono ?_
 rintro e w1 ⟨rfl,rfl⟩
 generalize w.alloc (.cells #[.int .i64 tk,.int .i64 nx,.int .i64 wa,.slice ca C.length cc,.slice ha Hs.length hc,.slice ra R.length rc] 26)=W0 at *
 obtain ⟨c0,c1,c2,c3,c4,c5⟩:=unhide HB W0 (Keeps.refl _)
 by_cases q1:(C.length:Int)≤left
 rotate_left
 ·rw [if_neg q1]
  go_wp2_with fail
  go_ret
  exact ⟨-1,rfl,by decide,fun h=>absurd h (by decide),HK.out⟩
 rw [if_pos q1]
 have H2:=hide (fun w'=>szHtlcS_k ha Hs.length hc (left-C.length) w' l2 (by omega) (by omega))
 go_wp2_with fail
 refine (unhide H2 _).mono ?_
 rintro e w2 ⟨rfl,rfl⟩
 by_cases q2:(Hs.length:Int)≤left-C.length
 rotate_left
 ·rw [if_neg q2]
  go_wp2_with fail
  go_ret
  exact ⟨-1,rfl,by decide,fun h=>absurd h (by decide),HK.out⟩
 rw [if_pos q2]
 have H3:=hide (fun w'=>szCircleS_k ra R.length rc (left-C.length-Hs.length) w' l3 (by omega) (by omega))
 go_wp2_with fail
 refine (unhide H3 _).mono ?_
 rintro e w3 ⟨rfl,rfl⟩
 by_cases q3:(R.length:Int)≤left-C.length-Hs.length
 rotate_left
 ·rw [if_neg q3]
  go_wp2_with fail
  go_ret
  exact ⟨-1,rfl,by decide,fun h=>absurd h (by decide),HK.out⟩
 rw [if_pos q3]
 go_wp2_with fail
 go_ret
 exact ⟨left-C.length-Hs.length-R.length,rfl,by omega,fun _=>⟨by omega,by omega,by omega⟩,HK.out⟩
structure TB (w wi:World) (B:Bo) (T:TypeId) (f:Nat→Value) (S:List Seg):Prop where
 keep:Keeps w wi
 box:BookAt wi w.heap.size B
 res:∃ f0,wi.rowIs (w.heap.size+1) T 6 f0
 out:wi.rowIs (w.heap.size+1+1) T 6 f
 own:Own wi S
 new:∀ b∈fp S,w.heap.size+3≤b
theorem TB.call {w wi w':World} {B:Bo} {T:TypeId} {f:Nat→Value} {S S':List Seg} (h:TB w wi B T f S) (hb:Born wi w' S') (hk:Keeps wi w'):TB w w' B T f (S++S'):=by
 obtain ⟨f0,h0⟩:=h.res
 refine ⟨h.keep.trans hk,h.box.kept hk,⟨f0,hk.rowK h0⟩,hk.rowK h.out,(h.own.kept hk).append hb.toOwn (hb.apart h.own.mem),fun b hb'=>?_⟩
 rw [fp_append] at hb'
 rcases List.mem_append.1 hb' with hb' | hb'
 ·exact h.new b hb'
 ·have:=hb.new b hb'
  have:=h.out.lt
  omega
theorem TB.set {w wi:World} {B:Bo} {T:TypeId} {f:Nat→Value} {S:List Seg} (h:TB w wi B T f S) (i:Nat) (v:Value):TB w (wi.setCell ⟨w.heap.size+1+1,i,none⟩ v) B T (fun j=>if j=i then v else f j) S:=by
 obtain ⟨f0,h0⟩:=h.res
 have ht:Turn [w.heap.size+1+1] wi (wi.setCell ⟨w.heap.size+1+1,i,none⟩ v):=Turn.set (by simp) v
 refine ⟨ht.keeps h.keep (by simp;omega),?_,⟨f0,h0.setOther (by simp) v⟩,h.out.set i v,h.own.turn ht (fun b hb hx=>?_),h.new⟩
 ·obtain ⟨b0,b1,b2,b3,b4,b5⟩:=h.box
  exact ⟨ht.cell (by simp;omega) b0,ht.cell (by simp;omega) b1,ht.cell (by simp;omega) b2,ht.cell (by simp;omega) b3,ht.cell (by simp;omega) b4,ht.cell (by simp;omega) b5⟩
 ·have:=h.new b hb
  simp at hx
  omega
theorem TB.fin {w wi:World} {B:Bo} {T:TypeId} {f:Nat→Value} {S:List Seg} (h:TB w wi B T f S) (v0 v1 v2 v3 v4 v5:Value) {V:World}
 (hV:V=((((((wi.setCell ⟨w.heap.size+1,0,none⟩ v0).setCell ⟨w.heap.size+1,1,none⟩ v1).setCell ⟨w.heap.size+1,2,none⟩ v2).setCell ⟨w.heap.size+1,3,none⟩ v3).setCell ⟨w.heap.size+1,4,none⟩ v4).setCell ⟨w.heap.size+1,5,none⟩ v5)) :
 (V.cell? ⟨w.heap.size+1,0,none⟩=some v0∧V.cell? ⟨w.heap.size+1,1,none⟩=some v1∧V.cell? ⟨w.heap.size+1,2,none⟩=some v2∧V.cell? ⟨w.heap.size+1,3,none⟩=some v3∧V.cell? ⟨w.heap.size+1,4,none⟩=some v4∧V.cell? ⟨w.heap.size+1,5,none⟩=some v5)∧Keeps w V∧Own V S:=by
 obtain ⟨f0,h0⟩:=h.res
 have r:=((((((h0.set 0 v0).set 1 v1).set 2 v2).set 3 v3).set 4 v4).set 5 v5)
 have ht:Turn [w.heap.size+1] wi ((((((wi.setCell ⟨w.heap.size+1,0,none⟩ v0).setCell ⟨w.heap.size+1,1,none⟩ v1).setCell ⟨w.heap.size+1,2,none⟩ v2).setCell ⟨w.heap.size+1,3,none⟩ v3).setCell ⟨w.heap.size+1,4,none⟩ v4).setCell ⟨w.heap.size+1,5,none⟩ v5) :=
  (((((Turn.set (by simp) _).trans' (Turn.set (by simp) _)).trans' (Turn.set (by simp) _)).trans' (Turn.set (by simp) _)).trans' (Turn.set (by simp) _)).trans' (Turn.set (by simp) _)
 rw [← hV] at r ht
 have c0:=r.cell (i:=0) (by decide)
 have c1:=r.cell (i:=1) (by decide)
 have c2:=r.cell (i:=2) (by decide)
 have c3:=r.cell (i:=3) (by decide)
 have c4:=r.cell (i:=4) (by decide)
 have c5:=r.cell (i:=5) (by decide)
 simp at c0 c1 c2 c3 c4 c5
 refine ⟨⟨c0,c1,c2,c3,c4,c5⟩,ht.keeps h.keep (by simp),h.own.turn ht (fun b hb hx=>?_)⟩
 have:=h.new b hb
 simp at hx
 omega
def row6g (v0 v1 v2 v3 v4 v5:Value):Nat→Value:=fun i=>if i=0 then v0 else if i=1 then v1 else if i=2 then v2 else if i=3 then v3 else if i=4 then v4 else v5
theorem row6g_at (v0 v1 v2 v3 v4 v5:Value):∀ i,i < (#[v0,v1,v2,v3,v4,v5]:Array Value).size→(#[v0,v1,v2,v3,v4,v5]:Array Value)[i]? = some (row6g v0 v1 v2 v3 v4 v5 i)
 | 0,_=>rfl
 | 1,_=>rfl
 | 2,_=>rfl
 | 3,_=>rfl
 | 4,_=>rfl
 | 5,_=>rfl
 | n+6,h=>absurd h (by simp)
theorem TB.start (w:World) (B:Bo) (T T':TypeId) (z0 z1 z2 z3 z4 z5 v0 v1 v2 v3 v4 v5:Value) :
 TB w (((w.alloc (.cells #[.int .i64 B.tk,.int .i64 B.nx,.int .i64 B.wa,.slice B.ca B.C.length B.cc,.slice B.ha B.Hs.length B.hc,.slice B.ra B.R.length B.rc] T')).alloc (.cells #[z0,z1,z2,z3,z4,z5] T)).alloc (.cells #[v0,v1,v2,v3,v4,v5] T)) B T (row6g v0 v1 v2 v3 v4 v5) []:=by
 have hb:=book_box B w T'
 have s1:(w.alloc (.cells #[.int .i64 B.tk,.int .i64 B.nx,.int .i64 B.wa,.slice B.ca B.C.length B.cc,.slice B.ha B.Hs.length B.hc,.slice B.ra B.R.length B.rc] T')).heap.size=w.heap.size+1:=by simp
 have hk:=Keeps.alloc (Keeps.refl w) (.cells #[.int .i64 B.tk,.int .i64 B.nx,.int .i64 B.wa,.slice B.ca B.C.length B.cc,.slice B.ha B.Hs.length B.hc,.slice B.ra B.R.length B.rc] T')
 generalize w.alloc (.cells #[.int .i64 B.tk,.int .i64 B.nx,.int .i64 B.wa,.slice B.ca B.C.length B.cc,.slice B.ha B.Hs.length B.hc,.slice B.ra B.R.length B.rc] T')=W1 at *
 have r2:=World.rowIs_alloc W1 #[z0,z1,z2,z3,z4,z5] T (row6g z0 z1 z2 z3 z4 z5) (row6g_at _ _ _ _ _ _)
 have s2:(W1.alloc (.cells #[z0,z1,z2,z3,z4,z5] T)).heap.size=w.heap.size+1+1:=by simp [s1]
 have k2:=Keeps.alloc (Keeps.refl W1) (.cells #[z0,z1,z2,z3,z4,z5] T)
 generalize W1.alloc (.cells #[z0,z1,z2,z3,z4,z5] T)=W2 at *
 have r3:=World.rowIs_alloc W2 #[v0,v1,v2,v3,v4,v5] T (row6g v0 v1 v2 v3 v4 v5) (row6g_at _ _ _ _ _ _)
 have k3:=Keeps.alloc (Keeps.refl W2) (.cells #[v0,v1,v2,v3,v4,v5] T)
 generalize W2.alloc (.cells #[v0,v1,v2,v3,v4,v5] T)=W3 at *
 rw [s1] at r2
 rw [s2] at r3
 exact ⟨(hk.trans k2).trans k3,(hb.kept k2).kept k3,⟨_,k3.rowK r2⟩,r3,Own.nil _,fun b hb=>absurd hb (by simp [fp])⟩
set_option maxHeartbeats 4000000 in
theorem toBook_k (B:Bo) (w:World) (hm:Mem w B.segs) (hl:B.len) :
 Calls Tryz.prog 7 #[B.v] w fun e w'=>∃ B':Bo,e=.returned B'.v∧B'.d=B.d∧B'.fit∧Born w w' B'.segs∧Keeps w w':=by
 have HCC:=hide (fun w' (hk:Keeps w w')=>toChanS_k B.ca B.cc B.C w' (Bo.memC (hm.kept hk)) hl.1)
 have HCH:=hide (fun w' (hk:Keeps w w')=>toHtlcS_k B.ha B.hc B.Hs w' (Bo.memH (hm.kept hk)) hl.2.1)
 have HCR:=hide (fun w' (hk:Keeps w w')=>toCircleS_k B.ra B.rc B.R w' (Bo.memR (hm.kept hk)) hl.2.2)
 obtain ⟨tk,nx,wa,ca,cc,C,ha,hc,Hs,ra,rc,R⟩:=B
 dsimp only [Bo.v,Bo.d] at *
 clear hm hl
 go_enter Tryz.func7,Tryz.ntmps7
 go_upto_region 5 with fail
 have HT:=hide (TB.start w ⟨tk,nx,wa,ca,cc,C,ha,hc,Hs,ra,rc,R⟩ 34 26 (.int .i64 0) (.int .i64 0) (.int .i64 0) (.slice none 0 0) (.slice none 0 0) (.slice none 0 0) (.int .i64 tk) (.int .i64 nx) (.int .i64 wa) (.slice none 0 0) (.slice none 0 0) (.slice none 0 0))
 dsimp only at HT
 generalize ((w.alloc (.cells #[.int .i64 tk,.int .i64 nx,.int .i64 wa,.slice ca C.length cc,.slice ha Hs.length hc,.slice ra R.length rc] 26)).alloc (.cells #[.int .i64 0,.int .i64 0,.int .i64 0,.slice none 0 0,.slice none 0 0,.slice none 0 0] 34)).alloc (.cells #[.int .i64 tk,.int .i64 nx,.int .i64 wa,.slice none 0 0,.slice none 0 0,.slice none 0 0] 34)=W3 at *
 have c3:=HT.out.box.2.2.2.1
 dsimp only at c3
 have hs:=HT.out.out.lt
 go_wp2_with fail
 refine (unhide HCC W3 HT.out.keep).mono ?_
 rintro e y1 ⟨b1,rfl,hb,hk⟩
 replace HT:=hide (HT.out.call hb hk)
 have HB1:=hide hb.new
 clear hb hk c3 hs
 have d:=HT.out.out.cell (i:=3) (by decide)
 have f:=HT.out.out.frozen 3
 have hs:=HT.out.out.lt
 go_upto_region 6 with fail
 replace HT:=hide (HT.out.set 3 (.slice (some ⟨b1,0,none⟩) C.length C.length))
 clear d f hs
 generalize y1.setCell ⟨w.heap.size+1+1,3,none⟩ (.slice (some ⟨b1,0,none⟩) C.length C.length)=x1 at *
 have c4:=HT.out.box.2.2.2.2.1
 dsimp only at c4
 have hs:=HT.out.out.lt
 go_wp2_with fail
 refine (unhide HCH x1 HT.out.keep).mono ?_
 rintro e y2 ⟨b2,rfl,hb,hk⟩
 replace HT:=hide (HT.out.call hb hk)
 have HB2:=hide hb.new
 clear hb hk c4 hs
 have d:=HT.out.out.cell (i:=4) (by decide)
 have f:=HT.out.out.frozen 4
 have hs:=HT.out.out.lt
 go_upto_region 7 with fail
 replace HT:=hide (HT.out.set 4 (.slice (some ⟨b2,0,none⟩) Hs.length Hs.length))
 clear d f hs
 generalize y2.setCell ⟨w.heap.size+1+1,4,none⟩ (.slice (some ⟨b2,0,none⟩) Hs.length Hs.length)=x2 at *
 have c5:=HT.out.box.2.2.2.2.2
 dsimp only at c5
 have hs:=HT.out.out.lt
 go_wp2_with fail
 refine (unhide HCR x2 HT.out.keep).mono ?_
 rintro e y3 ⟨b3,rfl,hb,hk⟩
 replace HT:=hide (HT.out.call hb hk)
 have HB3:=hide hb.new
 clear hb hk c5 hs
 have d:=HT.out.out.cell (i:=5) (by decide)
 have f:=HT.out.out.frozen 5
 have hs:=HT.out.out.lt
 go_upto_region 8 with fail
 replace HT:=hide (HT.out.set 5 (.slice (some ⟨b3,0,none⟩) R.length R.length))
 clear d f hs
 generalize y3.setCell ⟨w.heap.size+1+1,5,none⟩ (.slice (some ⟨b3,0,none⟩) R.length R.length)=x3 at *
 have o:=HT.out.out
 have o0:=o.cell (i:=0) (by decide)
 have o1:=o.cell (i:=1) (by decide)
 have o2:=o.cell (i:=2) (by decide)
 have o3:=o.cell (i:=3) (by decide)
 have o4:=o.cell (i:=4) (by decide)
 have o5:=o.cell (i:=5) (by decide)
 simp [row6g] at o0 o1 o2 o3 o4 o5
 obtain ⟨f0,h0⟩:=HT.out.res
 have r0:=h0.cell (i:=0) (by decide)
 have r1:=h0.cell (i:=1) (by decide)
 have r2:=h0.cell (i:=2) (by decide)
 have r3:=h0.cell (i:=3) (by decide)
 have r4:=h0.cell (i:=4) (by decide)
 have r5:=h0.cell (i:=5) (by decide)
 have f0':=h0.frozen 0
 have f1':=h0.frozen 1
 have f2':=h0.frozen 2
 have f3':=h0.frozen 3
 have f4':=h0.frozen 4
 have f5':=h0.frozen 5
 have hs:=HT.out.out.lt
 clear o h0
 go_wp2_with fail
 obtain ⟨⟨p0,p1,p2,p3,p4,p5⟩,hkF,hoF⟩:=HT.out.fin (.int .i64 tk) (.int .i64 nx) (.int .i64 wa) (.slice (some ⟨b1,0,none⟩) C.length C.length) (.slice (some ⟨b2,0,none⟩) Hs.length Hs.length) (.slice (some ⟨b3,0,none⟩) R.length R.length) rfl
 have HN:=hide HT.out.new
 clear o0 o1 o2 o3 o4 o5 r0 r1 r2 r3 r4 r5 f0' f1' f2' f3' f4' f5' hs
 refine bodyPost_ret (v:=(Bo.mk tk nx wa (some ⟨b1,0,none⟩) C.length C (some ⟨b2,0,none⟩) Hs.length Hs (some ⟨b3,0,none⟩) R.length R).v) ?_ rfl ⟨_,rfl,rfl,⟨fun h=>(nomatch h),fun h=>(nomatch h),fun h=>(nomatch h),Nat.le_refl _,Nat.le_refl _,Nat.le_refl _⟩,⟨hoF,fun b hb=>by have:=HN.out b hb;omega⟩,hkF⟩
 clear hkF hoF
 revert p0 p1 p2 p3 p4 p5
 generalize World.setCell (World.setCell _ _ _) _ _=WW
 intro p0 p1 p2 p3 p4 p5
 simp [results,Tryz.results7,go_sem,p0,p1,p2,p3,p4,p5,Bo.v]
set_option maxHeartbeats 4000000 in
theorem eqBook_k (B B':Bo) (w:World) (hd:B.d=B'.d) (hm:Mem w B.segs) (hm':Mem w B'.segs) (hl:B.len) :
 Calls Tryz.prog 10 #[B.v,B'.v] w fun e w'=>e=.returned (.bool true)∧Keeps w w':=by
 obtain ⟨tk,nx,wa,ca,cc,C,ha,hc,Hs,ra,rc,R⟩:=B
 obtain ⟨tk2,nx2,wa2,ca2,cc2,C2,ha2,hc2,Hs2,ra2,rc2,R2⟩:=B'
 dsimp only [Bo.d] at hd
 injection hd with e1 e2 e3 e4 e5 e6
 subst e1 e2 e3 e4 e5 e6
 have HC:=hide (fun w' (hk:Keeps w w')=>eqChanS_k ca ca2 cc cc2 C w' (Bo.memC (hm.kept hk)) (Bo.memC (hm'.kept hk)) hl.1)
 have HH:=hide (fun w' (hk:Keeps w w')=>eqHtlcS_k ha ha2 hc hc2 Hs w' (Bo.memH (hm.kept hk)) (Bo.memH (hm'.kept hk)) hl.2.1)
 have HR:=hide (fun w' (hk:Keeps w w')=>eqCircleS_k ra ra2 rc rc2 R w' (Bo.memR (hm.kept hk)) (Bo.memR (hm'.kept hk)) hl.2.2)
 have HB1:=hide (rowc6 w (.int .i64 tk) (.int .i64 nx) (.int .i64 wa) (.slice ca C.length cc) (.slice ha Hs.length hc) (.slice ra R.length rc) 34)
 have HB2:=hide (rowc6 (w.alloc (.cells #[.int .i64 tk,.int .i64 nx,.int .i64 wa,.slice ca C.length cc,.slice ha Hs.length hc,.slice ra R.length rc] 34)) (.int .i64 tk) (.int .i64 nx) (.int .i64 wa) (.slice ca2 C.length cc2) (.slice ha2 Hs.length hc2) (.slice ra2 R.length rc2) 34)
 have hz:(w.alloc (.cells #[.int .i64 tk,.int .i64 nx,.int .i64 wa,.slice ca C.length cc,.slice ha Hs.length hc,.slice ra R.length rc] 34)).heap.size=w.heap.size+1:=by simp
 rw [hz] at HB2
 have HK1:=hide (Keeps.alloc (Keeps.refl w) (.cells #[.int .i64 tk,.int .i64 nx,.int .i64 wa,.slice ca C.length cc,.slice ha Hs.length hc,.slice ra R.length rc] 34))
 have HK2:=hide (Keeps.alloc (Keeps.refl (w.alloc (.cells #[.int .i64 tk,.int .i64 nx,.int .i64 wa,.slice ca C.length cc,.slice ha Hs.length hc,.slice ra R.length rc] 34))) (.cells #[.int .i64 tk,.int .i64 nx,.int .i64 wa,.slice ca2 C.length cc2,.slice ha2 Hs.length hc2,.slice ra2 R.length rc2] 34))
 dsimp only [Bo.v]
 clear hm hm' hl hz
 go_enter Tryz.func10,Tryz.ntmps10
 go_upto_region 7 with fail
 generalize w.alloc (.cells #[.int .i64 tk,.int .i64 nx,.int .i64 wa,.slice ca C.length cc,.slice ha Hs.length hc,.slice ra R.length rc] 34)=W1 at *
 generalize W1.alloc (.cells #[.int .i64 tk,.int .i64 nx,.int .i64 wa,.slice ca2 C.length cc2,.slice ha2 Hs.length hc2,.slice ra2 R.length rc2] 34)=W2 at *
 have HKc:=hide (Keeps.refl W2)
 have c:=(unhide HB1 W2 (HK2.out.trans HKc.out)).2.2.2.1
 have d:=(unhide HB2 W2 HKc.out).2.2.2.1
 go_wp2_with fail
 refine (unhide HC W2 ((HK1.out.trans HK2.out).trans HKc.out)).mono ?_
 rintro e z0 ⟨rfl,hk⟩
 replace HKc:=hide (HKc.out.trans hk)
 clear c d hk
 have c:=(unhide HB1 z0 (HK2.out.trans HKc.out)).2.2.2.2.1
 have d:=(unhide HB2 z0 HKc.out).2.2.2.2.1
 go_wp2_with fail
 refine (unhide HH z0 ((HK1.out.trans HK2.out).trans HKc.out)).mono ?_
 rintro e z1 ⟨rfl,hk⟩
 replace HKc:=hide (HKc.out.trans hk)
 clear c d hk
 have c:=(unhide HB1 z1 (HK2.out.trans HKc.out)).2.2.2.2.2
 have d:=(unhide HB2 z1 HKc.out).2.2.2.2.2
 go_wp2_with fail
 refine (unhide HR z1 ((HK1.out.trans HK2.out).trans HKc.out)).mono ?_
 rintro e z2 ⟨rfl,hk⟩
 replace HKc:=hide (HKc.out.trans hk)
 clear c d hk
 go_wp2_with fail
 go_ret
 exact ⟨rfl,(HK1.out.trans HK2.out).trans HKc.out⟩
end Go.Proofs.YtccdhcempnkgaaaGreatDoor
