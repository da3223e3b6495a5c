/- Texts of the verifier, joined: BmH, BoH, BgR. -/
import Derived.Test.YtccdhcempnkgaaaGreatDoorPL6
import Derived.OwnWalk
import Derived.Laws.OwnMore
import Derived.Laws.AppendOwnNone
import Derived.Test.YtccdhcempnkgaaaGreatDoorPL4
namespace Go.Proofs.YtccdhcempnkgaaaGreatDoor
open Go.RowKit Go.Deep
set_option linter.unusedVariables false
set_option linter.unusedSimpArgs false
set_option maxRecDepth 10000
def markHtl (n:Nat):Htl:=⟨(n:Int),(n:Int)+1,(n:Int)+1+1,(n:Int)+1+1+1,(n:Int)+1+1+1+1,decide ((n+1+1+1+1+1) % 3=0),(n:Int)+1+1+1+1+1+1⟩
def marksHtl (n k:Nat):List Htl:=(List.range k).map fun i=>markHtl (n+7*i)
theorem marksHtl_succ (n k:Nat):marksHtl n (k+1)=marksHtl n k++[markHtl (n+7*k)]:=by simp [marksHtl,List.range_succ]
theorem marksHtl_len (n k:Nat):(marksHtl n k).length=k:=by simp [marksHtl]
theorem hts_set0 (A B:List Htl) (x:Htl) (n:Int) {k:Nat} (hA:A.length=k):(hts (A++x :: B)).set (k*7) (.int .i64 n)=hts (A++⟨n,x.inn,x.out,x.ai,x.ao,x.kp,x.ag⟩ :: B):=by
 subst hA
 have hl:=hts_len A
 rw [hts_append,hts_append,List.set_append_right _ _ (by omega),hl]
 simp [hts,Htl.cells]
theorem hts_set1 (A B:List Htl) (x:Htl) (n:Int) {k:Nat} (hA:A.length=k):(hts (A++x :: B)).set (k*7+1) (.int .i64 n)=hts (A++⟨x.ky,n,x.out,x.ai,x.ao,x.kp,x.ag⟩ :: B):=by
 subst hA
 have hl:=hts_len A
 rw [hts_append,hts_append,List.set_append_right _ _ (by omega),hl,show A.length*7+1-A.length*7=1 by omega]
 simp [hts,Htl.cells]
theorem hts_set2 (A B:List Htl) (x:Htl) (n:Int) {k:Nat} (hA:A.length=k):(hts (A++x :: B)).set (k*7+2) (.int .i64 n)=hts (A++⟨x.ky,x.inn,n,x.ai,x.ao,x.kp,x.ag⟩ :: B):=by
 subst hA
 have hl:=hts_len A
 rw [hts_append,hts_append,List.set_append_right _ _ (by omega),hl,show A.length*7+2-A.length*7=2 by omega]
 simp [hts,Htl.cells]
theorem hts_set3 (A B:List Htl) (x:Htl) (n:Int) {k:Nat} (hA:A.length=k):(hts (A++x :: B)).set (k*7+3) (.int .i64 n)=hts (A++⟨x.ky,x.inn,x.out,n,x.ao,x.kp,x.ag⟩ :: B):=by
 subst hA
 have hl:=hts_len A
 rw [hts_append,hts_append,List.set_append_right _ _ (by omega),hl,show A.length*7+3-A.length*7=3 by omega]
 simp [hts,Htl.cells]
theorem hts_set4 (A B:List Htl) (x:Htl) (n:Int) {k:Nat} (hA:A.length=k):(hts (A++x :: B)).set (k*7+4) (.int .i64 n)=hts (A++⟨x.ky,x.inn,x.out,x.ai,n,x.kp,x.ag⟩ :: B):=by
 subst hA
 have hl:=hts_len A
 rw [hts_append,hts_append,List.set_append_right _ _ (by omega),hl,show A.length*7+4-A.length*7=4 by omega]
 simp [hts,Htl.cells]
theorem hts_set5 (A B:List Htl) (x:Htl) (n:Bool) {k:Nat} (hA:A.length=k):(hts (A++x :: B)).set (k*7+5) (.bool n)=hts (A++⟨x.ky,x.inn,x.out,x.ai,x.ao,n,x.ag⟩ :: B):=by
 subst hA
 have hl:=hts_len A
 rw [hts_append,hts_append,List.set_append_right _ _ (by omega),hl,show A.length*7+5-A.length*7=5 by omega]
 simp [hts,Htl.cells]
theorem hts_set6 (A B:List Htl) (x:Htl) (n:Int) {k:Nat} (hA:A.length=k):(hts (A++x :: B)).set (k*7+6) (.int .i64 n)=hts (A++⟨x.ky,x.inn,x.out,x.ai,x.ao,x.kp,n⟩ :: B):=by
 subst hA
 have hl:=hts_len A
 rw [hts_append,hts_append,List.set_append_right _ _ (by omega),hl,show A.length*7+6-A.length*7=6 by omega]
 simp [hts,Htl.cells]
set_option maxHeartbeats 16000000 in
theorem markHtlcS_k (a:Option Addr) (cap:Nat) (ds:List Htl) (n:Nat) (w:World) (h:Own w [(a,hts ds)]) (hl:ds.length≤1048576) (hn:n≤1000000000) :
 Calls Tryz.prog 56 #[.slice a ds.length cap,.int .i64 (n:Int)] w fun e w'=>e=.returned (.int .i64 ((n+7*ds.length:Nat):Int))∧Own w' [(a,hts (marksHtl n ds.length))]∧Turn (fp [(a,hts ds)]) w w':=by
 have HO:=hide h
 clear h
 go_enter Tryz.func56,Tryz.ntmps56
 go_wp2_with fail
 go_loopw [1,5] (fun x y wr=>∃ (k z:Nat),k≤ds.length∧Hid (n+7*k=z)∧x=.int .i64 (z:Int)∧y=.int .i64 (k:Int)∧Hid (Own wr [(a,hts (marksHtl n k++ds.drop k))])∧Hid (Turn (fp [(a,hts ds)]) w wr)) (fun _ y _=>ds.length-(intOf y).toNat)
 case atStart=>exact ⟨0,n,by omega,by show _=_;simp,rfl,rfl,by show Own _ _;simpa [marksHtl] using HO.out,Turn.refl _ _⟩
 case round =>
  obtain ⟨k,z,hk,HZ,rfl,rfl,HO0,HT⟩:=hrel
  by_cases hlt:k < ds.length
  ·have hz:z≤1200000000:=by have:=HZ.out;omega
   have HDr:Hid (ds.drop k=ds[k] :: ds.drop (k+1)):=List.drop_eq_getElem_cons hlt
   have HLA:Hid ((marksHtl n k).length=k):=marksHtl_len n k
   have HTk:Hid (marksHtl n (k+1)++ds.drop (k+1)=marksHtl n k++Htl.mk ((z:Int)) ((z:Int)+1) ((z:Int)+1+1) ((z:Int)+1+1+1) ((z:Int)+1+1+1+1) (decide ((z+1+1+1+1+1) % 3=0)) ((z:Int)+1+1+1+1+1+1) :: ds.drop (k+1)):=by
    show _=_
    rw [marksHtl_succ,← HZ.out,List.append_assoc];rfl
   have HZn:Hid (n+7*(k+1)=z+7):=by show _=_;have:=HZ.out;omega
   have HFE:Hid (fp [(a,hts (marksHtl n k++ds.drop k))]=fp [(a,hts ds)]):=by
    show _=_
    rw [fp_one,fp_one]
    exact fpS_len (by rw [hts_len,hts_len,List.length_append,HLA.out,List.length_drop];congr 1;omega)
   rw [HDr.out] at HO0 HFE
   generalize ds[k]=c at *
   obtain ⟨eky,einn,eout,eai,eao,ekp,eag⟩:=c
   generalize marksHtl n k=A at *
   generalize hB:ds.drop (k+1)=B at *
   have HBB:=hide hB
   clear hB HZ
   have hcl:Cells wr a (hts (A++Htl.mk eky einn eout eai eao ekp eag :: B)):=HO0.out.mem (a,hts (A++Htl.mk eky einn eout eai eao ekp eag :: B)) (by simp)
   have hkl:k < (A++Htl.mk eky einn eout eai eao ekp eag :: B).length:=by have:=HLA.out;simp;omega
   obtain ⟨b,off,ea,c0,c1,c2,c3,c4,c5,c6⟩:=hts_at hcl k hkl
   subst ea
   have he:(A++Htl.mk eky einn eout eai eao ekp eag :: B)[k]=Htl.mk eky einn eout eai eao ekp eag:=by
    rw [List.getElem_append_right (by have:=HLA.out;omega)]
    simp [HLA.out]
   rw [he] at c0 c1 c2 c3 c4 c5 c6
   dsimp only at c0 c1 c2 c3 c4 c5 c6
   have hne0:hts (A++Htl.mk eky einn eout eai eao ekp eag :: B)≠[]:=fun e=>by
    have:=hts_len (A++Htl.mk eky einn eout eai eao ekp eag :: B)
    rw [e] at this
    simp at this
   have hfp:fp [((some (⟨b,off,none⟩:Addr)),hts (A++Htl.mk eky einn eout eai eao ekp eag :: B))]=[b]:=by rw [fp_one,fpS_some hne0]
   have f0:∀ o,wr.frozen? ⟨b,o,none⟩=false:=HO0.out.free b (by rw [hfp];simp)
   have z0:=f0 (off+k*7)
   have z1:=f0 (off+k*7+1)
   have z2:=f0 (off+k*7+2)
   have z3:=f0 (off+k*7+3)
   have z4:=f0 (off+k*7+4)
   have z5:=f0 (off+k*7+5)
   have z6:=f0 (off+k*7+6)
   have HO1:Hid (Own (wr.setCell ⟨b,off+k*7,none⟩ (.int .i64 ((z:Int)))) [(some ⟨b,off,none⟩,hts (A++Htl.mk ((z:Int)) einn eout eai eao ekp eag :: B))]):=by
    have h1:=own_set HO0.out (k*7) (.int .i64 ((z:Int))) (by rw [hts_len];have:=HLA.out;simp;omega)
    rw [hts_set0 A B _ _ HLA.out] at h1
    skip
    exact h1
   have HO2:Hid (Own ((wr.setCell ⟨b,off+k*7,none⟩ (.int .i64 ((z:Int)))).setCell ⟨b,off+k*7+1,none⟩ (.int .i64 ((z:Int)+1))) [(some ⟨b,off,none⟩,hts (A++Htl.mk ((z:Int)) ((z:Int)+1) eout eai eao ekp eag :: B))]):=by
    have h1:=own_set HO1.out (k*7+1) (.int .i64 ((z:Int)+1)) (by rw [hts_len];have:=HLA.out;simp;omega)
    rw [hts_set1 A B _ _ HLA.out] at h1
    rw [← Nat.add_assoc] at h1
    exact h1
   have HO3:Hid (Own (((wr.setCell ⟨b,off+k*7,none⟩ (.int .i64 ((z:Int)))).setCell ⟨b,off+k*7+1,none⟩ (.int .i64 ((z:Int)+1))).setCell ⟨b,off+k*7+2,none⟩ (.int .i64 ((z:Int)+1+1))) [(some ⟨b,off,none⟩,hts (A++Htl.mk ((z:Int)) ((z:Int)+1) ((z:Int)+1+1) eai eao ekp eag :: B))]):=by
    have h1:=own_set HO2.out (k*7+2) (.int .i64 ((z:Int)+1+1)) (by rw [hts_len];have:=HLA.out;simp;omega)
    rw [hts_set2 A B _ _ HLA.out] at h1
    rw [← Nat.add_assoc] at h1
    exact h1
   have HO4:Hid (Own ((((wr.setCell ⟨b,off+k*7,none⟩ (.int .i64 ((z:Int)))).setCell ⟨b,off+k*7+1,none⟩ (.int .i64 ((z:Int)+1))).setCell ⟨b,off+k*7+2,none⟩ (.int .i64 ((z:Int)+1+1))).setCell ⟨b,off+k*7+3,none⟩ (.int .i64 ((z:Int)+1+1+1))) [(some ⟨b,off,none⟩,hts (A++Htl.mk ((z:Int)) ((z:Int)+1) ((z:Int)+1+1) ((z:Int)+1+1+1) eao ekp eag :: B))]):=by
    have h1:=own_set HO3.out (k*7+3) (.int .i64 ((z:Int)+1+1+1)) (by rw [hts_len];have:=HLA.out;simp;omega)
    rw [hts_set3 A B _ _ HLA.out] at h1
    rw [← Nat.add_assoc] at h1
    exact h1
   have HO5:Hid (Own (((((wr.setCell ⟨b,off+k*7,none⟩ (.int .i64 ((z:Int)))).setCell ⟨b,off+k*7+1,none⟩ (.int .i64 ((z:Int)+1))).setCell ⟨b,off+k*7+2,none⟩ (.int .i64 ((z:Int)+1+1))).setCell ⟨b,off+k*7+3,none⟩ (.int .i64 ((z:Int)+1+1+1))).setCell ⟨b,off+k*7+4,none⟩ (.int .i64 ((z:Int)+1+1+1+1))) [(some ⟨b,off,none⟩,hts (A++Htl.mk ((z:Int)) ((z:Int)+1) ((z:Int)+1+1) ((z:Int)+1+1+1) ((z:Int)+1+1+1+1) ekp eag :: B))]):=by
    have h1:=own_set HO4.out (k*7+4) (.int .i64 ((z:Int)+1+1+1+1)) (by rw [hts_len];have:=HLA.out;simp;omega)
    rw [hts_set4 A B _ _ HLA.out] at h1
    rw [← Nat.add_assoc] at h1
    exact h1
   have HO6:Hid (Own ((((((wr.setCell ⟨b,off+k*7,none⟩ (.int .i64 ((z:Int)))).setCell ⟨b,off+k*7+1,none⟩ (.int .i64 ((z:Int)+1))).setCell ⟨b,off+k*7+2,none⟩ (.int .i64 ((z:Int)+1+1))).setCell ⟨b,off+k*7+3,none⟩ (.int .i64 ((z:Int)+1+1+1))).setCell ⟨b,off+k*7+4,none⟩ (.int .i64 ((z:Int)+1+1+1+1))).setCell ⟨b,off+k*7+5,none⟩ (.bool (decide ((z+1+1+1+1+1) % 3=0)))) [(some ⟨b,off,none⟩,hts (A++Htl.mk ((z:Int)) ((z:Int)+1) ((z:Int)+1+1) ((z:Int)+1+1+1) ((z:Int)+1+1+1+1) (decide ((z+1+1+1+1+1) % 3=0)) eag :: B))]):=by
    have h1:=own_set HO5.out (k*7+5) (.bool (decide ((z+1+1+1+1+1) % 3=0))) (by rw [hts_len];have:=HLA.out;simp;omega)
    rw [hts_set5 A B _ _ HLA.out] at h1
    rw [← Nat.add_assoc] at h1
    exact h1
   have HO7:Hid (Own (((((((wr.setCell ⟨b,off+k*7,none⟩ (.int .i64 ((z:Int)))).setCell ⟨b,off+k*7+1,none⟩ (.int .i64 ((z:Int)+1))).setCell ⟨b,off+k*7+2,none⟩ (.int .i64 ((z:Int)+1+1))).setCell ⟨b,off+k*7+3,none⟩ (.int .i64 ((z:Int)+1+1+1))).setCell ⟨b,off+k*7+4,none⟩ (.int .i64 ((z:Int)+1+1+1+1))).setCell ⟨b,off+k*7+5,none⟩ (.bool (decide ((z+1+1+1+1+1) % 3=0)))).setCell ⟨b,off+k*7+6,none⟩ (.int .i64 ((z:Int)+1+1+1+1+1+1))) [(some ⟨b,off,none⟩,hts (A++Htl.mk ((z:Int)) ((z:Int)+1) ((z:Int)+1+1) ((z:Int)+1+1+1) ((z:Int)+1+1+1+1) (decide ((z+1+1+1+1+1) % 3=0)) ((z:Int)+1+1+1+1+1+1) :: B))]):=by
    have h1:=own_set HO6.out (k*7+6) (.int .i64 ((z:Int)+1+1+1+1+1+1)) (by rw [hts_len];have:=HLA.out;simp;omega)
    rw [hts_set6 A B _ _ HLA.out] at h1
    rw [← Nat.add_assoc] at h1
    exact h1
   have d1:(wr.setCell ⟨b,off+k*7,none⟩ (.int .i64 ((z:Int)))).cell? ⟨b,off+k*7+1,none⟩=some (.int .i64 einn):=by
    rw [World.cell?_setCell_other _ _ _ _ (by simp)];exact c1
   have d2:((wr.setCell ⟨b,off+k*7,none⟩ (.int .i64 ((z:Int)))).setCell ⟨b,off+k*7+1,none⟩ (.int .i64 ((z:Int)+1))).cell? ⟨b,off+k*7+2,none⟩=some (.int .i64 eout):=by
    rw [World.cell?_setCell_other _ _ _ _ (by simp),World.cell?_setCell_other _ _ _ _ (by simp)];exact c2
   have d3:(((wr.setCell ⟨b,off+k*7,none⟩ (.int .i64 ((z:Int)))).setCell ⟨b,off+k*7+1,none⟩ (.int .i64 ((z:Int)+1))).setCell ⟨b,off+k*7+2,none⟩ (.int .i64 ((z:Int)+1+1))).cell? ⟨b,off+k*7+3,none⟩=some (.int .i64 eai):=by
    rw [World.cell?_setCell_other _ _ _ _ (by simp),World.cell?_setCell_other _ _ _ _ (by simp),World.cell?_setCell_other _ _ _ _ (by simp)];exact c3
   have d4:((((wr.setCell ⟨b,off+k*7,none⟩ (.int .i64 ((z:Int)))).setCell ⟨b,off+k*7+1,none⟩ (.int .i64 ((z:Int)+1))).setCell ⟨b,off+k*7+2,none⟩ (.int .i64 ((z:Int)+1+1))).setCell ⟨b,off+k*7+3,none⟩ (.int .i64 ((z:Int)+1+1+1))).cell? ⟨b,off+k*7+4,none⟩=some (.int .i64 eao):=by
    rw [World.cell?_setCell_other _ _ _ _ (by simp),World.cell?_setCell_other _ _ _ _ (by simp),World.cell?_setCell_other _ _ _ _ (by simp),World.cell?_setCell_other _ _ _ _ (by simp)];exact c4
   have d5:(((((wr.setCell ⟨b,off+k*7,none⟩ (.int .i64 ((z:Int)))).setCell ⟨b,off+k*7+1,none⟩ (.int .i64 ((z:Int)+1))).setCell ⟨b,off+k*7+2,none⟩ (.int .i64 ((z:Int)+1+1))).setCell ⟨b,off+k*7+3,none⟩ (.int .i64 ((z:Int)+1+1+1))).setCell ⟨b,off+k*7+4,none⟩ (.int .i64 ((z:Int)+1+1+1+1))).cell? ⟨b,off+k*7+5,none⟩=some (.bool ekp):=by
    rw [World.cell?_setCell_other _ _ _ _ (by simp),World.cell?_setCell_other _ _ _ _ (by simp),World.cell?_setCell_other _ _ _ _ (by simp),World.cell?_setCell_other _ _ _ _ (by simp),World.cell?_setCell_other _ _ _ _ (by simp)];exact c5
   have d6:((((((wr.setCell ⟨b,off+k*7,none⟩ (.int .i64 ((z:Int)))).setCell ⟨b,off+k*7+1,none⟩ (.int .i64 ((z:Int)+1))).setCell ⟨b,off+k*7+2,none⟩ (.int .i64 ((z:Int)+1+1))).setCell ⟨b,off+k*7+3,none⟩ (.int .i64 ((z:Int)+1+1+1))).setCell ⟨b,off+k*7+4,none⟩ (.int .i64 ((z:Int)+1+1+1+1))).setCell ⟨b,off+k*7+5,none⟩ (.bool (decide ((z+1+1+1+1+1) % 3=0)))).cell? ⟨b,off+k*7+6,none⟩=some (.int .i64 eag):=by
    rw [World.cell?_setCell_other _ _ _ _ (by simp),World.cell?_setCell_other _ _ _ _ (by simp),World.cell?_setCell_other _ _ _ _ (by simp),World.cell?_setCell_other _ _ _ _ (by simp),World.cell?_setCell_other _ _ _ _ (by simp),World.cell?_setCell_other _ _ _ _ (by simp)];exact c6
   have hm3_5:(((z:Int)+1+1+1+1+1) % 3==0)=decide ((z+1+1+1+1+1) % 3=0):=by
    by_cases h3:(z+1+1+1+1+1) % 3=0
    ·rw [decide_eq_true h3];simp;omega
    ·rw [decide_eq_false h3];simp;omega
   have HTw:Hid (Turn (fp [((some (⟨b,off,none⟩:Addr)),hts ds)]) w (((((((wr.setCell ⟨b,off+k*7,none⟩ (.int .i64 ((z:Int)))).setCell ⟨b,off+k*7+1,none⟩ (.int .i64 ((z:Int)+1))).setCell ⟨b,off+k*7+2,none⟩ (.int .i64 ((z:Int)+1+1))).setCell ⟨b,off+k*7+3,none⟩ (.int .i64 ((z:Int)+1+1+1))).setCell ⟨b,off+k*7+4,none⟩ (.int .i64 ((z:Int)+1+1+1+1))).setCell ⟨b,off+k*7+5,none⟩ (.bool (decide ((z+1+1+1+1+1) % 3=0)))).setCell ⟨b,off+k*7+6,none⟩ (.int .i64 ((z:Int)+1+1+1+1+1+1)))):=by
    have h2:Turn [b] wr (((((((wr.setCell ⟨b,off+k*7,none⟩ (.int .i64 ((z:Int)))).setCell ⟨b,off+k*7+1,none⟩ (.int .i64 ((z:Int)+1))).setCell ⟨b,off+k*7+2,none⟩ (.int .i64 ((z:Int)+1+1))).setCell ⟨b,off+k*7+3,none⟩ (.int .i64 ((z:Int)+1+1+1))).setCell ⟨b,off+k*7+4,none⟩ (.int .i64 ((z:Int)+1+1+1+1))).setCell ⟨b,off+k*7+5,none⟩ (.bool (decide ((z+1+1+1+1+1) % 3=0)))).setCell ⟨b,off+k*7+6,none⟩ (.int .i64 ((z:Int)+1+1+1+1+1+1))):=(((((((Turn.set (by simp) _).trans' (Turn.set (by simp) _)).trans' (Turn.set (by simp) _)).trans' (Turn.set (by simp) _)).trans' (Turn.set (by simp) _)).trans' (Turn.set (by simp) _)).trans' (Turn.set (by simp) _))
    rw [← HFE.out,hfp] at HT ⊢
    exact HT.out.trans' h2
   clear HO0 HO1 HO2 HO3 HO4 HO5 HO6 hcl he f0 HT HFE hfp
   go_wp2_with fail
   go_roundw
   case rel=>exact ⟨k+1,z+7,by omega,HZn,congrArg (Value.int .i64) (by omega),by go_num,(by show Own _ _;rw [HBB.out,HTk.out];exact HO7.out),HTw⟩
   case measure=>simp [intOf];omega
  ·have e:k=ds.length:=by omega
   subst e
   have HZ2:=hide HZ.out
   go_wp2_with fail
   go_ret
   have h2:=HO0.out
   rw [List.drop_length,List.append_nil] at h2
   exact ⟨by rw [HZ2.out];rfl,h2,HT.out⟩
set_option maxHeartbeats 8000000 in
theorem heldHtlcS_k (a:Option Addr) (cap:Nat) (len n:Nat) (w:World) (hc:Cells w a (hts (marksHtl n len))) (hl:len≤1048576) (hn:n≤1000000000) :
 Calls Tryz.prog 60 #[.slice a len cap,.int .i64 (n:Int)] w fun e w'=>e=.returned (.int .i64 ((n+7*len:Nat):Int))∧w'=w:=by
 have HC:=hide hc
 clear hc
 go_enter Tryz.func60,Tryz.ntmps60
 go_wp2_with fail
 go_loop [1,5] (fun x y=>∃ (k z:Nat),k≤len∧Hid (n+7*k=z)∧x=.int .i64 (z:Int)∧y=.int .i64 (k:Int)) (fun _ y=>len-(intOf y).toNat)
 case atStart=>exact ⟨0,n,by omega,by show _=_;simp,rfl,rfl⟩
 case round =>
  obtain ⟨k,z,hk,HZ,rfl,rfl⟩:=hrel
  by_cases hlt:k < len
  ·have hz:z≤1200000000:=by have:=HZ.out;omega
   have HZn:Hid (n+7*(k+1)=z+7):=by show _=_;have:=HZ.out;omega
   obtain ⟨b,off,ea,c0,c1,c2,c3,c4,c5,c6⟩:=hts_at HC.out k (by rw [marksHtl_len];exact hlt)
   have e:(marksHtl n len)[k]'(by rw [marksHtl_len];exact hlt)=markHtl z:=by simp [marksHtl,HZ.out]
   rw [e] at c0 c1 c2 c3 c4 c5 c6
   dsimp only [markHtl] at c0 c1 c2 c3 c4 c5 c6
   have HEA:=hide ea
   clear ea
   obtain rfl:=HEA.out
   clear e HZ
   have hm3_5:(((z:Int)+1+1+1+1+1) % 3==0)=decide ((z+1+1+1+1+1) % 3=0):=by
    by_cases h3:(z+1+1+1+1+1) % 3=0
    ·rw [decide_eq_true h3];simp;omega
    ·rw [decide_eq_false h3];simp;omega
   obtain ⟨q,hq⟩:∃ q,decide ((z+1+1+1+1+1) % 3=0)=q:=⟨_,rfl⟩
   rw [hq] at c5 hm3_5
   clear hq
   cases q
   all_goals
    go_wp2_with fail
    go_round
    case rel=>exact ⟨k+1,z+7,by omega,HZn,congrArg (Value.int .i64) (by omega),by go_num⟩
    case measure=>simp [intOf];omega
  ·have e:k=len:=by omega
   subst e
   have HZ2:=hide HZ.out
   go_wp2_with fail
   go_ret
   exact ⟨congrArg (fun y:Int=>Ending.returned (Value.int .i64 y)) (show ((z:Nat):Int)=_ by have:=HZ2.out;omega),rfl⟩
end Go.Proofs.YtccdhcempnkgaaaGreatDoor
namespace Go.Proofs.YtccdhcempnkgaaaGreatDoor
open Go.RowKit Go.Deep
set_option linter.unusedVariables false
set_option linter.unusedSimpArgs false
set_option maxRecDepth 10000
abbrev OwnsHtlc (w:World) (base:Nat) (v:Value) (L:List Htl):Prop:=w.ownsRow base 112 7 v L.length (hts L)
theorem OwnsHtlc.at {w:World} {base g cap:Nat} {L:List Htl} (h:OwnsHtlc w base (.slice (some ⟨g,0,none⟩) L.length cap) L) (k:Nat) (hk:k < L.length) :
 w.cell? ⟨g,k*7,none⟩=some (.int .i64 L[k].ky)∧w.cell? ⟨g,k*7+1,none⟩=some (.int .i64 L[k].inn)∧w.cell? ⟨g,k*7+2,none⟩=some (.int .i64 L[k].out)∧w.cell? ⟨g,k*7+3,none⟩=some (.int .i64 L[k].ai)∧w.cell? ⟨g,k*7+4,none⟩=some (.int .i64 L[k].ao)∧w.cell? ⟨g,k*7+5,none⟩=some (.bool L[k].kp)∧w.cell? ⟨g,k*7+6,none⟩=some (.int .i64 L[k].ag):=by
 have hz:=Nat.mul_le_mul_right 7 (show k+1≤L.length from hk)
 have ha:=fun r (hr:r < 7)=>flatMap_at (f:=Htl.cells) (sz:=7) (fun _=>rfl) L k hk r hr
 refine ⟨?_,?_,?_,?_,?_,?_,?_⟩
 ·rw [h.cellAt (k*7) (by omega)]
  have e:=ha 0 (by decide)
  simp only [Nat.add_zero] at e
  unfold hts
  rw [e];rfl
 ·rw [h.cellAt (k*7+1) (by omega)]
  have e:=ha 1 (by decide)
  skip
  unfold hts
  rw [e];rfl
 ·rw [h.cellAt (k*7+2) (by omega)]
  have e:=ha 2 (by decide)
  skip
  unfold hts
  rw [e];rfl
 ·rw [h.cellAt (k*7+3) (by omega)]
  have e:=ha 3 (by decide)
  skip
  unfold hts
  rw [e];rfl
 ·rw [h.cellAt (k*7+4) (by omega)]
  have e:=ha 4 (by decide)
  skip
  unfold hts
  rw [e];rfl
 ·rw [h.cellAt (k*7+5) (by omega)]
  have e:=ha 5 (by decide)
  skip
  unfold hts
  rw [e];rfl
 ·rw [h.cellAt (k*7+6) (by omega)]
  have e:=ha 6 (by decide)
  skip
  unfold hts
  rw [e];rfl
theorem OwnsHtlc.frz {w:World} {base g cap:Nat} {L:List Htl} (h:OwnsHtlc w base (.slice (some ⟨g,0,none⟩) L.length cap) L) (j:Nat):w.frozen? ⟨g,j,none⟩=false:=h.frozenAt j
theorem OwnsHtlc.set0 {w:World} {base g cap:Nat} {L:List Htl} (h:OwnsHtlc w base (.slice (some ⟨g,0,none⟩) L.length cap) L) (k:Nat) (hk:k < L.length) (u:Int) :
 OwnsHtlc (w.setCell ⟨g,k*7,none⟩ (.int .i64 u)) base (.slice (some ⟨g,0,none⟩) (L.set k ⟨u,L[k].inn,L[k].out,L[k].ai,L[k].ao,L[k].kp,L[k].ag⟩).length cap) (L.set k ⟨u,L[k].inn,L[k].out,L[k].ai,L[k].ao,L[k].kp,L[k].ag⟩)∧w.grownBy (w.setCell ⟨g,k*7,none⟩ (.int .i64 u)) (some g):=by
 have h1:=h.stored (k*7) (.int .i64 u)
 have e:L=L.take k++L[k] :: L.drop (k+1):=by rw [← List.drop_eq_getElem_cons hk,List.take_append_drop]
 have es:(hts L).set (k*7) (.int .i64 u)=hts (L.set k ⟨u,L[k].inn,L[k].out,L[k].ai,L[k].ao,L[k].kp,L[k].ag⟩):=by
  have hl:(L.take k).length=k:=by rw [List.length_take];omega
  have e2:L.set k ⟨u,L[k].inn,L[k].out,L[k].ai,L[k].ao,L[k].kp,L[k].ag⟩=L.take k++⟨u,L[k].inn,L[k].out,L[k].ai,L[k].ao,L[k].kp,L[k].ag⟩ :: L.drop (k+1):=by rw [List.set_eq_take_append_cons_drop,if_pos hk]
  rw [e2]
  conv=>lhs;rw [e]
  exact hts_set0 (L.take k) (L.drop (k+1)) L[k] u hl
 refine ⟨?_,h1.2⟩
 unfold OwnsHtlc
 rw [List.length_set,← es]
 exact h1.1
theorem OwnsHtlc.set6 {w:World} {base g cap:Nat} {L:List Htl} (h:OwnsHtlc w base (.slice (some ⟨g,0,none⟩) L.length cap) L) (k:Nat) (hk:k < L.length) (u:Int) :
 OwnsHtlc (w.setCell ⟨g,k*7+6,none⟩ (.int .i64 u)) base (.slice (some ⟨g,0,none⟩) (L.set k ⟨L[k].ky,L[k].inn,L[k].out,L[k].ai,L[k].ao,L[k].kp,u⟩).length cap) (L.set k ⟨L[k].ky,L[k].inn,L[k].out,L[k].ai,L[k].ao,L[k].kp,u⟩)∧w.grownBy (w.setCell ⟨g,k*7+6,none⟩ (.int .i64 u)) (some g):=by
 have h1:=h.stored (k*7+6) (.int .i64 u)
 have e:L=L.take k++L[k] :: L.drop (k+1):=by rw [← List.drop_eq_getElem_cons hk,List.take_append_drop]
 have es:(hts L).set (k*7+6) (.int .i64 u)=hts (L.set k ⟨L[k].ky,L[k].inn,L[k].out,L[k].ai,L[k].ao,L[k].kp,u⟩):=by
  have hl:(L.take k).length=k:=by rw [List.length_take];omega
  have e2:L.set k ⟨L[k].ky,L[k].inn,L[k].out,L[k].ai,L[k].ao,L[k].kp,u⟩=L.take k++⟨L[k].ky,L[k].inn,L[k].out,L[k].ai,L[k].ao,L[k].kp,u⟩ :: L.drop (k+1):=by rw [List.set_eq_take_append_cons_drop,if_pos hk]
  rw [e2]
  conv=>lhs;rw [e]
  exact hts_set6 (L.take k) (L.drop (k+1)) L[k] u hl
 refine ⟨?_,h1.2⟩
 unfold OwnsHtlc
 rw [List.length_set,← es]
 exact h1.1
theorem cells_Htlc {L:List Htl}:hts L=[]↔L=[]:=by
 constructor
 ·intro h
  have:=hts_len L
  rw [h] at this
  simp only [List.length_nil] at this
  exact List.length_eq_zero_iff.1 (by omega)
 ·rintro rfl;rfl
theorem cell_one_Htlc {L:List Htl} {u:Value} (h:u∈hts L):u.oneCell'=true:=by
 unfold hts at h
 obtain ⟨x,_,hx⟩:=List.mem_flatMap.1 h
 simp only [Htl.cells,List.mem_cons,List.mem_nil_iff,or_false] at hx
 rcases hx with rfl | rfl | rfl | rfl | rfl | rfl | rfl <;> rfl
theorem app_Htlc {ops:Array Oper} {rest:List Oper} {o:Oper} {a:Act} {Q:Exit→Act→World→Prop} {wr:World} (hgd:o.guard=none) (s x:Operand)
 (ho:o.op=.call { callee:=.builtin .append,args:=#[s,x],argTypes:=#[31,31] }) (base:Nat) (v:Value) (L M:List Htl) (hs:a.eval s=v) (xa:Option Addr) (c:Nat)
 (hx:a.eval x=.slice xa M.length c) (hM:Cells wr xa (hts M)) (hn:xa=none→c=0) (hown:OwnsHtlc wr base v L) (hl:L.length+M.length≤4194304) (hbase:base≤wr.heap.size)
 (h:∀ v' w',OwnsHtlc w' base v' (L++M)→wr.grownBy w' v.ownBlock→(v≠.slice none 0 0→v'≠.slice none 0 0)→wpList Tryz.prog ops Q rest (a.put o.dst v') w') :
 wpList Tryz.prog ops Q (o :: rest) a wr:=by
 have hI:=infoHtlc
 cases hi:Tryz.prog.info? 112 with
 | none=>rw [hi] at hI;simp at hI
 | some i =>
   rw [hi] at hI
   simp at hI
   obtain ⟨hz,hsz,hby⟩:=hI
   cases xa with
   | none =>
     obtain rfl:=hn rfl
     have hM0:M=[]:=by
      rcases hM with hM | ⟨_,_,e,_⟩
      ·exact cells_Htlc.1 hM
      ·cases e
     subst hM0
     refine wpList_append_own_none hgd s x 31 ho base 112 i 7 underHtlcs hi v L.length (hts L) hs hown hx ?_
     exact h v wr (by simpa using hown) ⟨rfl,rfl,rfl,Nat.le_refl _,fun _ _ _=>rfl⟩ (fun h=>h)
   | some p =>
     refine wpList_append_own _ hgd s x 31 ho base 112 i _ 7 56 underHtlcs hi hz hsz hby rfl (by decide) v L.length (hts L) hs hown p M.length c (hts M) hx (by rw [hts_len]) ?_ (fun u hu=>cell_one_Htlc hu) ?_ ?_ hbase ?_
     ·intro j u hj
      rcases hM with hM | ⟨b,off,e,hM⟩
      ·rw [hM] at hj;simp at hj
      ·obtain rfl:=Option.some.inj e
       obtain ⟨hj',e'⟩:=List.getElem?_eq_some_iff.1 hj
       have:=hM j hj'
       rw [e'] at this
       rw [← this,addr_at]
     ·simp only [maxLen];omega
     ·omega
     ·intro v' w' h1 h2 h3
      exact h v' w' (by unfold OwnsHtlc;rw [hts_append,List.length_append];exact h1) h2 (fun hn he=>hn (h3.1 he).1)
end Go.Proofs.YtccdhcempnkgaaaGreatDoor
namespace Go.Proofs.YtccdhcempnkgaaaGreatDoor
open Go.RowKit Go.Deep
set_option linter.unusedVariables false
set_option linter.unusedSimpArgs false
set_option maxRecDepth 10000
def Crc.v (x:Crc):Value:=.agg #[.int .i64 x.ky,.int .i64 x.fr,.int .i64 x.to,.int .i64 x.am,.int .i64 x.fe]
theorem toCircle_k (x:Crc) (w:World):Calls Tryz.prog 84 #[x.v] w fun e w'=>e=.returned x.v∧Keeps w w':=by
 obtain ⟨xky,xfr,xto,xam,xfe⟩:=x
 dsimp only [Crc.v]
 go_enter Tryz.func84,Tryz.ntmps84
 go_wp2_with fail
 refine bodyPost_ret (v:=.agg #[.int .i64 xky,.int .i64 xfr,.int .i64 xto,.int .i64 xam,.int .i64 xfe]) (by simp [results,Tryz.results84,go_sem]) rfl ⟨rfl,?_⟩
 repeat (first | exact Keeps.refl _ | refine Keeps.alloc ?_ _ | refine Keeps.setCell ?_ (by simp) _)
theorem szCircleS_k (a:Option Addr) (len cap:Nat) (left:Int) (w:World) (hl:len≤9223372036854775807) (h0:0≤left) (h1:left≤1048576) :
 Calls Tryz.prog 30 #[.slice a len cap,.int .i64 left] w fun e w'=>e=.returned (.int .i64 (if (len:Int)≤left then left-len else -1))∧w'=w:=by
 by_cases h:(len:Int)≤left
 ·rw [if_pos h]
  go_enter Tryz.func30,Tryz.ntmps30
  go_wp2_with fail
  go_ret
  exact ⟨rfl,rfl⟩
 ·rw [if_neg h]
  go_enter Tryz.func30,Tryz.ntmps30
  go_wp2_with fail
  go_ret
  exact ⟨rfl,rfl⟩
theorem infoCircle:(Tryz.prog.info? 115).map (fun i=>(i.zero,i.size,i.bytes))=some (some (.agg #[.int .i64 0,.int .i64 0,.int .i64 0,.int .i64 0,.int .i64 0]),5,40):=by kernel_rfl
theorem underCircles:Tryz.prog.underlying 32=some (.slice 115):=by kernel_rfl
theorem make_Circles (n:Nat) (hn:n≤1048576) (w:World):(Instr.makeSlice 32 (.int .i64 (n:Int)) (.int .i64 (n:Int))).run Tryz.prog w=.ok (.slice (some ⟨w.heap.size,0,none⟩) n n) (w.alloc (.cells (madeCells #[.int .i64 0,.int .i64 0,.int .i64 0,.int .i64 0,.int .i64 0] (n*5)) 115)):=by
 have hI:=infoCircle
 cases hi:Tryz.prog.info? 115 with
 | none=>rw [hi] at hI;simp at hI
 | some i =>
   rw [hi] at hI
   simp at hI
   obtain ⟨hz,hs,hb⟩:=hI
   have h:=run_make (P:=Tryz.prog) w 32 115 i _ underCircles hi hz .i64 .i64 n n (by omega) (Int.le_refl _) (by rw [hb];omega) (by omega)
   rw [hs] at h
   simpa [Value.cells] using h
def rowCircle (L:List Crc) (k:Nat):Nat→Value:=fun j=>if j < k*5 then (crs L).getD j (.int .i64 0) else (#[.int .i64 0,.int .i64 0,.int .i64 0,.int .i64 0,.int .i64 0]:Array Value)[j % 5]!
theorem made_Circle (L:List Crc) (w:World) (m:Nat) (t:TypeId):(w.alloc (.cells (madeCells #[.int .i64 0,.int .i64 0,.int .i64 0,.int .i64 0,.int .i64 0] m) t)).rowIs w.heap.size t m (rowCircle L 0):=by
 have h:=World.rowIs_alloc w (madeCells #[.int .i64 0,.int .i64 0,.int .i64 0,.int .i64 0,.int .i64 0] m) t (rowCircle L 0) (by
  intro i hi
  rw [size_madeCells] at hi
  simp only [madeCells,Array.getElem?_map,Array.getElem?_range]
  rw [if_pos hi]
  simp [rowCircle])
 rw [size_madeCells] at h
 exact h
theorem rowCircle_step (L:List Crc) (k:Nat) (h:k < L.length) (j:Nat):(if j=k*5+4 then (.int .i64 L[k].fe:Value) else if j=k*5+3 then (.int .i64 L[k].am:Value) else if j=k*5+2 then (.int .i64 L[k].to:Value) else if j=k*5+1 then (.int .i64 L[k].fr:Value) else if j=k*5 then (.int .i64 L[k].ky:Value) else rowCircle L k j)=rowCircle L (k+1) j:=by
 have hL:=crs_len L
 have hk:=Nat.mul_le_mul_right 5 (show k+1≤L.length from h)
 have ha:=fun r (hr:r < 5)=>flatMap_at (f:=Crc.cells) (sz:=5) (fun _=>rfl) L k h r hr
 unfold rowCircle
 by_cases h4:j=k*5+4
 ·subst h4
  (try simp only [if_true])
  (try rw [if_pos rfl])
  rw [if_pos (by omega),List.getD_eq_getElem?_getD]
  have e:=ha 4 (by decide)
  skip
  unfold crs
  rw [e];rfl
 rw [if_neg h4]
 by_cases h3:j=k*5+3
 ·subst h3
  (try simp only [if_true])
  (try rw [if_pos rfl])
  rw [if_pos (by omega),List.getD_eq_getElem?_getD]
  have e:=ha 3 (by decide)
  skip
  unfold crs
  rw [e];rfl
 rw [if_neg h3]
 by_cases h2:j=k*5+2
 ·subst h2
  (try simp only [if_true])
  (try rw [if_pos rfl])
  rw [if_pos (by omega),List.getD_eq_getElem?_getD]
  have e:=ha 2 (by decide)
  skip
  unfold crs
  rw [e];rfl
 rw [if_neg h2]
 by_cases h1:j=k*5+1
 ·subst h1
  (try simp only [if_true])
  (try rw [if_pos rfl])
  rw [if_pos (by omega),List.getD_eq_getElem?_getD]
  have e:=ha 1 (by decide)
  skip
  unfold crs
  rw [e];rfl
 rw [if_neg h1]
 by_cases h0:j=k*5
 ·subst h0
  (try simp only [if_true])
  (try rw [if_pos rfl])
  rw [if_pos (by omega),List.getD_eq_getElem?_getD]
  have e:=ha 0 (by decide)
  simp only [Nat.add_zero] at e
  unfold crs
  rw [e];rfl
 rw [if_neg h0]
 by_cases hlt:j < k*5
 ·rw [if_pos hlt,if_pos (by omega)]
 ·rw [if_neg hlt,if_neg (by omega)]
theorem rowCircle_end (L:List Crc) (j:Nat) (hj:j < (crs L).length):rowCircle L L.length j=(crs L)[j]:=by
 have hL:=crs_len L
 unfold rowCircle
 rw [if_pos (by omega),List.getD_eq_getElem?_getD,List.getElem?_eq_getElem hj]
 rfl
set_option maxHeartbeats 2000000 in
theorem toCircleS_k (a:Option Addr) (cap:Nat) (L:List Crc) (w:World) (hc:Cells w a (crs L)) (hl:L.length≤1048576) :
 Calls Tryz.prog 47 #[.slice a L.length cap] w fun e w'=>∃ b,e=.returned (.slice (some ⟨b,0,none⟩) L.length L.length)∧Born w w' [(some ⟨b,0,none⟩,crs L)]∧Keeps w w':=by
 have HC:=hide hc
 clear hc
 have hmk:=make_Circles L.length hl
 have HR:=hide (made_Circle L w (L.length*5) 115)
 have HKA:=hide (Keeps.alloc (Keeps.refl w) (.cells (madeCells #[.int .i64 0,.int .i64 0,.int .i64 0,.int .i64 0,.int .i64 0] (L.length*5)) 115))
 go_enter Tryz.func47,Tryz.ntmps47
 go_wp2_with fail
 clear hmk
 go_loopw [4] (fun y w1=>∃ k:Nat,k≤L.length∧y=.int .i64 (k:Int)∧w1.rowIs w.heap.size 115 (L.length*5) (rowCircle L k)∧Keeps w w1) (fun y _=>L.length-(intOf y).toNat)
 case atStart=>exact ⟨0,by omega,rfl,HR.out,HKA.out⟩
 case round =>
  obtain ⟨k,hk,rfl,hr,hkw⟩:=hrel
  clear HR HKA
  by_cases hlt:k < L.length
  ·obtain ⟨b,off,ea,c0,c1,c2,c3,c4⟩:=crs_at (HC.out.kept hkw) k hlt
   subst ea
   have HQ:=hide (fun w1=>toCircle_k L[k] w1)
   have HS:=hide (rowCircle_step L k hlt)
   have HRR:=hide hr
   have HKW:=hide hkw
   have hkz:=Nat.mul_le_mul_right 5 (show k+1≤L.length from hlt)
   clear hr hkw
   generalize L[k]=x at *
   obtain ⟨xky,xfr,xto,xam,xfe⟩:=x
   dsimp only [Crc.v] at *
   go_wp2_with fail
   refine (unhide HQ _).mono ?_
   rintro e w2 ⟨rfl,hk2⟩
   have r2:=hk2.rowK HRR.out
   have d0:=r2.cell (i:=k*5) (by omega)
   have f0:=r2.frozen (k*5)
   have d1:=r2.cell (i:=k*5+1) (by omega)
   have f1:=r2.frozen (k*5+1)
   have d2:=r2.cell (i:=k*5+2) (by omega)
   have f2:=r2.frozen (k*5+2)
   have d3:=r2.cell (i:=k*5+3) (by omega)
   have f3:=r2.frozen (k*5+3)
   have d4:=r2.cell (i:=k*5+4) (by omega)
   have f4:=r2.frozen (k*5+4)
   have HR2:=hide r2
   have HK2:=hide (HKW.out.trans hk2)
   clear r2 hk2
   go_wp2_with fail
   go_roundw
   case rel=>exact ⟨k+1,by omega,by go_num,((((((HR2.out.set (k*5) (.int .i64 xky)).set (k*5+1) (.int .i64 xfr)).set (k*5+2) (.int .i64 xto)).set (k*5+3) (.int .i64 xam)).set (k*5+4) (.int .i64 xfe))).congr (fun j _=>HS.out j),(Keeps.setCell (Keeps.setCell (Keeps.setCell (Keeps.setCell (Keeps.setCell HK2.out (Nat.le_refl _) _) (Nat.le_refl _) _) (Nat.le_refl _) _) (Nat.le_refl _) _) (Nat.le_refl _) _)⟩
   case measure=>simp [intOf];omega
  ·have e:k=L.length:=by omega
   subst e
   go_wp2_with fail
   go_ret
   exact ⟨_,rfl,born_row hr (crs L) (by rw [crs_len];exact Nat.le_refl _) (fun j hj=>rowCircle_end L j hj) (Nat.le_refl _),hkw⟩
theorem eqCircle_same (x:Crc) (w:World):Calls Tryz.prog 100 #[x.v,x.v] w fun e w'=>e=.returned (.bool true)∧Keeps w w':=by
 obtain ⟨xky,xfr,xto,xam,xfe⟩:=x
 dsimp only [Crc.v]
 skip
 all_goals
  go_enter Tryz.func100,Tryz.ntmps100
  go_wp2_with fail
  go_ret
  exact ⟨rfl,Keeps.alloc (Keeps.alloc (Keeps.refl _) _) _⟩
set_option maxHeartbeats 4000000 in
theorem eqCircleS_k (a a':Option Addr) (cap cap':Nat) (xs:List Crc) (w:World) (hc:Cells w a (crs xs)) (hc':Cells w a' (crs xs)) (hl:xs.length≤1048576) :
 Calls Tryz.prog 53 #[.slice a xs.length cap,.slice a' xs.length cap'] w fun e w'=>e=.returned (.bool true)∧Keeps w w':=by
 have HC:=hide hc
 have HC':=hide hc'
 clear hc hc'
 go_enter Tryz.func53,Tryz.ntmps53
 go_wp2_with fail
 go_loopw [5] (fun y w1=>∃ k:Nat,k≤xs.length∧y=.int .i64 (k:Int)∧Keeps w w1) (fun y _=>xs.length-(intOf y).toNat)
 case atStart=>exact ⟨0,by omega,rfl,Keeps.refl _⟩
 case round =>
  obtain ⟨k,hk,rfl,hkw⟩:=hrel
  by_cases hlt:k < xs.length
  ·obtain ⟨b,off,ea,c0,c1,c2,c3,c4⟩:=crs_at (HC.out.kept hkw) k hlt
   obtain ⟨b',off',ea',d0,d1,d2,d3,d4⟩:=crs_at (HC'.out.kept hkw) k hlt
   have HEA:=hide ea
   have HEA':=hide ea'
   clear ea ea'
   obtain rfl:=HEA.out
   obtain rfl:=HEA'.out
   have HQ:=hide (fun t=>eqCircle_same xs[k] (gr wr t))
   have g0:=gr_cell c0
   have i0:=gr_cell d0
   have g1:=gr_cell c1
   have i1:=gr_cell d1
   have g2:=gr_cell c2
   have i2:=gr_cell d2
   have g3:=gr_cell c3
   have i3:=gr_cell d3
   have g4:=gr_cell c4
   have i4:=gr_cell d4
   generalize xs[k]=x at *
   obtain ⟨xky,xfr,xto,xam,xfe⟩:=x
   dsimp only [Crc.v] at c0 d0 g0 i0 c1 d1 g1 i1 c2 d2 g2 i2 c3 d3 g3 i3 c4 d4 g4 i4 HQ
   go_wp2_with fail
   refine region_gr (by kernel_rfl) (by kernel_rfl) ?_
   repeat (go_big_quiet_step (first | (go_at_call 100;exact gr_call (unhide HQ _))))
   refine wpQuiet_nil ?_
   intro w' hw'
   have hk':=hkw.trans (Keeps.of_gr hw')
   clear hw'
   go_wp2_with fail
   go_roundw
   case rel=>exact ⟨k+1,by omega,by go_num,hk'⟩
   case measure=>simp [intOf];omega
  ·go_wp2_with fail
   go_ret
   exact ⟨rfl,hkw⟩
end Go.Proofs.YtccdhcempnkgaaaGreatDoor
