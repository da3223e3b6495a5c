/- Texts of the verifier, joined: Marks, Byt, Vars, PSp, PG, PGS, Lg, Et. -/
import Derived.Test.YtccdhcempnkgaaaGreatDoorPL2
import Derived.Test.YtccdhcempnkgaaaGreatDoorPL1
import Derived.RegionTactic
import Derived.Deep.RegionHeld3
import Derived.Deep.DrawnRows
import Derived.Laws.AppendOwnNone
import Derived.Deep.RegionLaw
import Derived.Lib.AppendZeros
import Derived.Test.YtccdhcempnkgaaaGreatDoorPL36
import Derived.Maps.AppendAt
import Derived.Test.YtccdhcempnkgaaaGreatDoorPL4
namespace Go.Proofs.YtccdhcempnkgaaaGreatDoor
open Go.RowKit
set_option linter.unusedVariables false
set_option linter.unusedSimpArgs false
def RoomM (w:World) (a:Option Addr) (m:Nat):Prop:=m=0∨∃ g off,a=some ⟨g,off,none⟩∧∀ j,j < 3*m→(∃ u,w.cell? ⟨g,off+j,none⟩=some u)∧w.frozen? ⟨g,off+j,none⟩=false
def Marked (w:World) (a:Option Addr) (m:Nat) (n:Int):Prop:=m=0∨∃ g off,a=some ⟨g,off,none⟩∧∀ j,j < 3*m→w.cell? ⟨g,off+j,none⟩=some (.int .i64 (n+j))
def Wrote (w w':World) (a:Option Addr):Prop:=w.grownBy w' (a.map Addr.block)
theorem set3 {w:World} {g o:Nat} {u0 u1 u2 v0 v1 v2:Value} (h0:w.cell? ⟨g,o,none⟩=some u0) (h1:w.cell? ⟨g,o+1,none⟩=some u1) (h2:w.cell? ⟨g,o+2,none⟩=some u2) (W:World)
 (hW:W=((w.setCell ⟨g,o,none⟩ v0).setCell ⟨g,o+1,none⟩ v1).setCell ⟨g,o+2,none⟩ v2) :
 W.cell? ⟨g,o,none⟩=some v0∧W.cell? ⟨g,o+1,none⟩=some v1∧W.cell? ⟨g,o+2,none⟩=some v2∧(∀ j,j≠o→j≠o+1→j≠o+2→W.cell? ⟨g,j,none⟩=w.cell? ⟨g,j,none⟩)∧(∀ p,W.frozen? p=w.frozen? p)∧w.grownBy W (some g):=by
 subst hW
 have d1:(w.setCell ⟨g,o,none⟩ v0).cell? ⟨g,o+1,none⟩=some u1:=by rw [World.cell?_setCell_other _ _ _ _ (by simp)];exact h1
 have d2:((w.setCell ⟨g,o,none⟩ v0).setCell ⟨g,o+1,none⟩ v1).cell? ⟨g,o+2,none⟩=some u2:=by rw [World.cell?_setCell_other _ _ _ _ (by simp),World.cell?_setCell_other _ _ _ _ (by simp)];exact h2
 refine ⟨?_,?_,?_,fun j j0 j1 j2=>?_,fun p=>by simp,?_⟩
 ·rw [World.cell?_setCell_other _ _ _ _ (by simp),World.cell?_setCell_other _ _ _ _ (by simp)]
  exact World.cell?_setCell_same _ _ _ h0
 ·rw [World.cell?_setCell_other _ _ _ _ (by simp)]
  exact World.cell?_setCell_same _ _ _ d1
 ·exact World.cell?_setCell_same _ _ _ d2
 ·rw [World.cell?_setCell_other _ _ _ _ (by simp [j2]),World.cell?_setCell_other _ _ _ _ (by simp [j1]),World.cell?_setCell_other _ _ _ _ (by simp [j0])]
 ·refine ⟨rfl,rfl,rfl,by simp [World.setCell],fun k hk hne=>?_⟩
  have hkg:k≠g:=fun e=>hne (by rw [e])
  rw [Deep.blk_setCell_other _ _ _ _ hkg,Deep.blk_setCell_other _ _ _ _ hkg,Deep.blk_setCell_other _ _ _ _ hkg]
set_option maxHeartbeats 4000000 in
theorem markLineS_k (a:Option Addr) (m cap:Nat) (n:Int) (w:World) (hr:RoomM w a m) (hm:m≤1048576) (hn0:0≤n) (hn1:n≤1000000000) :
 Calls Tryz.prog 58 #[.slice a m cap,.int .i64 n] w fun e w'=>e=.returned (.int .i64 (n+3*m))∧Marked w' a m n∧Wrote w w' a∧(∀ p,w'.frozen? p=w.frozen? p):=by
 by_cases h0:m=0
 ·subst h0
  go_enter Tryz.func58,Tryz.ntmps58
  go_wp2_with fail
  refine wp_loop_rounds 1 ?_
  rw [rounds_succ]
  go_wp2_with fail
  go_ret
  exact ⟨by simp,Or.inl rfl,⟨rfl,rfl,rfl,Nat.le_refl _,fun _ _ _=>rfl⟩,fun _=>rfl⟩
 ·rcases hr with hr | ⟨g,off,rfl,hr⟩
  ·exact absurd hr h0
  have HR:=hide hr
  clear hr h0
  go_enter Tryz.func58,Tryz.ntmps58
  go_wp2_with fail
  go_loopw [1,5] (fun x y wr=>∃ k:Nat,k≤m∧x=.int .i64 (n+3*k)∧y=.int .i64 (k:Int)∧Hid (∀ j,j < 3*m→∃ u,wr.cell? ⟨g,off+j,none⟩=some u)∧Hid (∀ j,j < 3*k→wr.cell? ⟨g,off+j,none⟩=some (.int .i64 (n+j)))∧Hid (∀ p,wr.frozen? p=w.frozen? p)∧Hid (w.grownBy wr (some g))) (fun _ y _=>m-(intOf y).toNat)
  case atStart=>exact ⟨0,by omega,by simp,rfl,fun j hj=>(HR.out j hj).1,fun j hj=>absurd hj (by omega),fun _=>rfl,⟨rfl,rfl,rfl,Nat.le_refl _,fun _ _ _=>rfl⟩⟩
  case round =>
   obtain ⟨k,hk,rfl,rfl,HC,HM,HF,HG⟩:=hrel
   by_cases hlt:k < m
   ·obtain ⟨u0,c0⟩:=HC.out (k*3) (by omega)
    obtain ⟨u1,c1⟩:=HC.out (k*3+1) (by omega)
    obtain ⟨u2,c2⟩:=HC.out (k*3+2) (by omega)
    rw [← Nat.add_assoc] at c1 c2
    have f0:wr.frozen? ⟨g,off+k*3,none⟩=false:=by rw [HF.out];exact (HR.out (k*3) (by omega)).2
    have f1:wr.frozen? ⟨g,off+k*3+1,none⟩=false:=by rw [HF.out];exact (HR.out (k*3+1) (by omega)).2
    have f2:wr.frozen? ⟨g,off+k*3+2,none⟩=false:=by rw [HF.out];exact (HR.out (k*3+2) (by omega)).2
    have HS:=hide (fun W hW=>set3 (v0:=.int .i64 (n+3*k)) (v1:=.int .i64 (n+3*k+1)) (v2:=.int .i64 (n+3*k+1+1)) c0 c1 c2 W hW)
    go_wp2_with fail
    go_roundw
    case rel =>
     obtain ⟨s0,s1,s2,so,sf,sg⟩:=HS.out _ rfl
     refine ⟨k+1,by omega,by congr 1;omega,by go_num,?_,?_,?_,HG.out.trans sg⟩
     ·intro j hj
      by_cases e0:j=k*3
      ·subst e0;exact ⟨_,s0⟩
      ·by_cases e1:j=k*3+1
       ·subst e1;exact ⟨_,by rw [← Nat.add_assoc];exact s1⟩
       ·by_cases e2:j=k*3+2
        ·subst e2;exact ⟨_,by rw [← Nat.add_assoc];exact s2⟩
        ·rw [so (off+j) (by omega) (by omega) (by omega)]
         exact HC.out j hj
     ·intro j hj
      by_cases e0:j=k*3
      ·subst e0;rw [s0];congr 2;omega
      ·by_cases e1:j=k*3+1
       ·subst e1;rw [← Nat.add_assoc,s1];congr 2;omega
       ·by_cases e2:j=k*3+2
        ·subst e2;rw [← Nat.add_assoc,s2];congr 2;omega
        ·rw [so (off+j) (by omega) (by omega) (by omega)]
         exact HM.out j (by omega)
     ·intro p
      rw [sf];exact HF.out p
    case measure=>simp [intOf];omega
   ·have e:k=m:=by omega
    subst e
    go_wp2_with fail
    go_ret
    exact ⟨rfl,Or.inr ⟨g,off,rfl,HM.out⟩,HG.out,HF.out⟩
set_option maxHeartbeats 4000000 in
theorem heldLineS_k (a:Option Addr) (m cap:Nat) (n:Int) (w:World) (hr:Marked w a m n) (hm:m≤1048576) (hn0:0≤n) (hn1:n≤1000000000) :
 Calls Tryz.prog 62 #[.slice a m cap,.int .i64 n] w fun e w'=>e=.returned (.int .i64 (n+3*m))∧w'=w:=by
 by_cases h0:m=0
 ·subst h0
  go_enter Tryz.func62,Tryz.ntmps62
  go_wp2_with fail
  refine wp_loop_rounds 1 ?_
  rw [rounds_succ]
  go_wp2_with fail
  go_ret
  exact ⟨by simp,rfl⟩
 ·rcases hr with hr | ⟨g,off,rfl,hr⟩
  ·exact absurd hr h0
  have HR:=hide hr
  clear hr h0
  go_enter Tryz.func62,Tryz.ntmps62
  go_wp2_with fail
  go_loop [1,5] (fun x y=>∃ k:Nat,k≤m∧x=.int .i64 (n+3*k)∧y=.int .i64 (k:Int)) (fun _ y=>m-(intOf y).toNat)
  case atStart=>exact ⟨0,by omega,by simp,rfl⟩
  case round =>
   obtain ⟨k,hk,rfl,rfl⟩:=hrel
   by_cases hlt:k < m
   ·have c0:=HR.out (k*3) (by omega)
    have c1:=HR.out (k*3+1) (by omega)
    have c2:=HR.out (k*3+2) (by omega)
    rw [← Nat.add_assoc] at c1 c2
    rw [show n+((k*3:Nat):Int)=n+3*k by omega] at c0
    rw [show n+((k*3+1:Nat):Int)=n+3*k+1 by omega] at c1
    rw [show n+((k*3+2:Nat):Int)=n+3*k+1+1 by omega] at c2
    go_wp2_with fail
    go_round
    case rel=>exact ⟨k+1,by omega,by congr 1;omega,by go_num⟩
    case measure=>simp [intOf];omega
   ·have e:k=m:=by omega
    subst e
    go_wp2_with fail
    go_ret
    exact ⟨rfl,rfl⟩
end Go.Proofs.YtccdhcempnkgaaaGreatDoor
namespace Go.Proofs.YtccdhcempnkgaaaGreatDoor
open Go.RowKit Go.Deep
set_option linter.unusedVariables false
theorem Own.wrote {w w':World} {a:Option Addr} {xs ys:List Value} (h:Own w [(a,xs)]) (hl:ys.length=xs.length) (hc:Cells w' a ys) (hf:∀ p,w'.frozen? p=w.frozen? p):Own w' [(a,ys)]:=by
 have e:fp [(a,ys)]=fp [(a,xs)]:=by rw [fp_one,fp_one];exact fpS_len hl
 refine ⟨?_,by rw [e];exact h.nd,?_⟩
 ·intro s hs
  rw [List.mem_singleton.1 hs];exact hc
 ·rw [e]
  intro b hb o
  rw [hf];exact h.free b hb o
end Go.Proofs.YtccdhcempnkgaaaGreatDoor
namespace Go.Proofs.YtccdhcempnkgaaaGreatDoor
open Go.RowKit Go.Deep
set_option linter.unusedVariables false
theorem born_alloc (w:World) (c:Array Value) (t:TypeId):Born w (w.alloc (.cells c t)) [(some ⟨w.heap.size,0,none⟩,c.toList)]:=by
 have hB:(w.alloc (.cells c t)).heap[w.heap.size]? = some (.cells c t (0,0)):=blk_alloc_new w _
 revert hB
 generalize w.alloc (.cells c t)=W
 intro hB
 refine ⟨⟨?_,?_,?_⟩,?_⟩
 ·intro s hs
  rw [List.mem_singleton.1 hs]
  refine Or.inr ⟨_,0,rfl,fun j hj=>?_⟩
  have hj':j < c.size:=by simpa using hj
  simp [World.cell?,hB,hj']
 ·by_cases h0:c.toList=[] <;> simp [fp,fpS,h0]
 ·intro b hb
  by_cases h0:c.toList=[]
  ·simp [fp,fpS,h0] at hb
  ·simp [fp,fpS,h0] at hb
   subst hb
   intro o
   simp [World.frozen?,hB]
 ·intro b hb
  by_cases h0:c.toList=[]
  ·simp [fp,fpS,h0] at hb
  ·simp [fp,fpS,h0] at hb
   omega
theorem cell_at {w:World} {b:Nat} {xs:List Value} (h:Mem w [(some ⟨b,0,none⟩,xs)]) (j:Nat) (hj:j < xs.length):w.cell? ⟨b,0+j,none⟩=some xs[j]:=by
 have h':=h (some ⟨b,0,none⟩,xs) (by simp)
 rcases h' with h' | ⟨g,off,e,h'⟩
 ·have:xs=[]:=h'
  subst this
  simp at hj
 ·have e':=Option.some.inj e
  injection e' with e1 e2
  subst e1 e2
  exact h' j hj
end Go.Proofs.YtccdhcempnkgaaaGreatDoor
namespace Go.Proofs.YtccdhcempnkgaaaGreatDoor
open Go.RowKit Go.Deep
set_option linter.unusedVariables false
attribute [local go_sem ↓] Go.wp_at_zero Go.wp_at_succ
theorem flat_nil {M:List Ln}:flat M=[]↔M=[]:=by
 constructor
 ·intro h
  have:=flat_length M
  rw [h] at this
  exact List.length_eq_zero_iff.1 (by simp at this;omega)
 ·rintro rfl;rfl
end Go.Proofs.YtccdhcempnkgaaaGreatDoor
namespace Go.Proofs.YtccdhcempnkgaaaGreatDoor
open Go.RowKit Go.Deep
set_option linter.unusedVariables false
def mkL (n:Int):Nat→List Ln
 | 0=>[]
 | m+1=>⟨n,n+1,n+2⟩ :: mkL (n+3) m
theorem mkL_len:∀ (m:Nat) (n:Int),(mkL n m).length=m
 | 0,_=>rfl
 | m+1,n=>by rw [mkL,List.length_cons,mkL_len m]
theorem mkL_at:∀ (m:Nat) (n:Int) (j:Nat),j < 3*m→(flat (mkL n m))[j]? = some (.int .i64 (n+j))
 | 0,_,j,h=>absurd h (by omega)
 | m+1,n,j,h=>by
   have e:flat (mkL n (m+1))=.int .i64 n :: .int .i64 (n+1) :: .int .i64 (n+2) :: flat (mkL (n+3) m):=by simp [mkL,flat,Ln.cells]
   rw [e]
   match j,h with
   | 0,_=>simp
   | 1,_=>simp
   | 2,_=>simp
   | j+3,h =>
     simp only [List.getElem?_cons_succ]
     rw [mkL_at m (n+3) j (by omega)]
     congr 2
     omega
theorem marked_cells {w:World} {a:Option Addr} {m:Nat} {n:Int} (h:Marked w a m n):Cells w a (flat (mkL n m)):=by
 rcases h with rfl | ⟨g,off,rfl,h⟩
 ·exact Or.inl rfl
 ·refine Or.inr ⟨g,off,rfl,fun j hj=>?_⟩
  have hj':j < 3*m:=by rw [flat_length,mkL_len] at hj;exact hj
  have e:=mkL_at m n j hj'
  rw [List.getElem?_eq_getElem hj] at e
  rw [h j hj']
  exact e.symm
theorem cells_marked {w:World} {a:Option Addr} {m:Nat} {n:Int} (h:Cells w a (flat (mkL n m))):Marked w a m n:=by
 rcases h with h | ⟨g,off,rfl,h⟩
 ·left
  have:=flat_nil.1 h
  have e:=mkL_len m n
  rw [this] at e
  exact e.symm
 ·refine Or.inr ⟨g,off,rfl,fun j hj=>?_⟩
  have hj':j < (flat (mkL n m)).length:=by rw [flat_length,mkL_len];exact hj
  have e:=mkL_at m n j hj
  rw [List.getElem?_eq_getElem hj'] at e
  rw [h j hj']
  exact e
theorem markLineS_o (a:Option Addr) (cap:Nat) (L:List Ln) (n:Int) (w:World) (h:Own w [(a,flat L)]) (hl:L.length≤1048576) (hn0:0≤n) (hn1:n≤1000000000) :
 Calls Tryz.prog 58 #[.slice a L.length cap,.int .i64 n] w fun e w'=>e=.returned (.int .i64 (n+3*L.length))∧Own w' [(a,flat (mkL n L.length))]∧Turn (fp [(a,flat L)]) w w':=by
 by_cases h00:L=[]
 ·subst h00
  have HO:=hide h
  clear h
  go_enter Tryz.func58,Tryz.ntmps58
  go_wp2_with fail
  refine wp_loop_rounds 1 ?_
  rw [rounds_succ]
  go_wp2_with fail
  go_ret
  exact ⟨by simp,HO.out,Turn.refl _ _⟩
 have hfp:fp [(a,flat L)]=fp [(a,flat (mkL n L.length))]:=by
  rw [fp_one,fp_one]
  exact fpS_len (by rw [flat_length,flat_length,mkL_len])
 have hroom:RoomM w a L.length:=by
  by_cases h0:L=[]
  ·left;rw [h0];rfl
  ·rcases h.one with h' | ⟨g,off,rfl,h'⟩
   ·exact absurd (flat_nil.1 h') h0
   ·refine Or.inr ⟨g,off,rfl,fun j hj=>⟨⟨_,h' j (by rw [flat_length];exact hj)⟩,h.free g ?_ _⟩⟩
    rw [fp_one,fpS_some (fun e=>h0 (flat_nil.1 e))]
    simp
 refine (markLineS_k a L.length cap n w hroom hl hn0 hn1).mono ?_
 rintro e w' ⟨he,hm,hw,hf⟩
 refine ⟨he,⟨?_,?_,?_⟩,?_⟩
 ·intro s hs
  rw [List.mem_singleton.1 hs]
  exact marked_cells hm
 ·rw [← hfp];exact h.nd
 ·rw [← hfp]
  intro b hb o
  rw [hf]
  exact h.free b hb o
 ·rcases h.one with h' | ⟨g,off,rfl,h'⟩
  ·exact absurd (flat_nil.1 h') h00
  ·exact Turn.of_grown hw (fun k hk=>by rw [fp_one,fpS_some (fun e=>h00 (flat_nil.1 e))];simp at hk;simp [hk])
theorem heldLineS_o (a:Option Addr) (cap m:Nat) (n:Int) (w:World) (h:Cells w a (flat (mkL n m))) (hl:m≤1048576) (hn0:0≤n) (hn1:n≤1000000000) :
 Calls Tryz.prog 62 #[.slice a m cap,.int .i64 n] w fun e w'=>e=.returned (.int .i64 (n+3*m))∧w'=w:=heldLineS_k a m cap n w (cells_marked h) hl hn0 hn1
theorem eqPosting_o (id:Int) (a a':Option Addr) (cap cap':Nat) (L:List Ln) (w:World) (hc:Cells w a (flat L)) (hc':Cells w a' (flat L)) (hl:L.length≤1048576) :
 Calls Tryz.prog 11 #[.agg #[.int .i64 id,.slice a L.length cap],.agg #[.int .i64 id,.slice a' L.length cap']] w fun e w'=>e=.returned (.bool true)∧Keeps w w':=by
 have h:=eqPosting_k id id a a' cap cap' L L w hc hc' hl hl
 have e:(decide (id=id) && lsEq L L)=true:=by rw [lsEq_self];simp
 rw [e] at h
 exact h
end Go.Proofs.YtccdhcempnkgaaaGreatDoor
namespace Go.Proofs.YtccdhcempnkgaaaGreatDoor
open Go.RowKit Go.Deep
set_option linter.unusedVariables false
set_option maxRecDepth 10000
structure Bl where
 a:Option Addr
 cap:Nat
 L:List Ln
def Bl.v (b:Bl):Value:=.slice b.a b.L.length b.cap
def Bl.seg (b:Bl):Seg:=(b.a,flat b.L)
structure Pg where
 i:Int
 b:Bl
def Pg.cells (x:Pg):List Value:=[.int .i64 x.i,x.b.v]
def pcells (ds:List Pg):List Value:=ds.flatMap Pg.cells
section
variable {α:Type} {f:α→List Value} {sz:Nat}
theorem flatMap_lenP (hf:∀ x,(f x).length=sz) (xs:List α):(xs.flatMap f).length=xs.length*sz:=by
 induction xs with
 | nil=>simp
 | cons x t ih=>simp [ih,hf,Nat.add_mul];omega
theorem flatMap_atP (hf:∀ x,(f x).length=sz):∀ (xs:List α) (i:Nat) (hi:i < xs.length) (r:Nat),r < sz→(xs.flatMap f)[i*sz+r]? = (f xs[i])[r]?
 | [],i,h,_,_=>absurd h (Nat.not_lt_zero i)
 | x :: t,0,h,r,hr=>by
   simp only [List.flatMap_cons,Nat.zero_mul,Nat.zero_add,List.getElem_cons_zero]
   exact List.getElem?_append_left (by rw [hf];exact hr)
 | x :: t,i+1,h,r,hr=>by
   have:=flatMap_atP hf t i (by simpa using h) r hr
   simp only [List.flatMap_cons,List.getElem_cons_succ]
   rw [List.getElem?_append_right (by rw [hf,Nat.add_mul];omega),hf,show (i+1)*sz+r-sz=i*sz+r by rw [Nat.add_mul];omega]
   exact this
theorem elem_atP {w:World} {a:Option Addr} {xs:List α} (hf:∀ x,(f x).length=sz) (h:Cells w a (xs.flatMap f)) (i:Nat) (hi:i < xs.length) (hs:0 < sz) :
 ∃ b off,a=some ⟨b,off,none⟩∧∀ r (hr:r < (f xs[i]).length),w.cell? ⟨b,off+i*sz+r,none⟩=some ((f xs[i])[r]):=by
 have hl:=flatMap_lenP hf xs
 have hle:i*sz+sz≤xs.length*sz:=by
  have:=Nat.mul_le_mul_right sz (show i+1≤xs.length from hi)
  rw [Nat.add_mul] at this;omega
 rcases h with h | ⟨b,off,e,h⟩
 ·rw [h] at hl
  simp at hl
  omega
 ·refine ⟨b,off,e,fun r hr=>?_⟩
  have hr':r < sz:=by rw [hf] at hr;exact hr
  have g:=flatMap_atP hf xs i hi r hr'
  rw [List.getElem?_eq_getElem hr,List.getElem?_eq_getElem (by omega)] at g
  rw [Nat.add_assoc,h (i*sz+r) (by omega)]
  exact g
end
theorem cell2P {w:World} {a:Option Addr} {ds:List Pg} (h:Cells w a (pcells ds)) (i:Nat) (hi:i < ds.length) :
 ∃ b off,a=some ⟨b,off,none⟩∧w.cell? ⟨b,off+i*2,none⟩=some (.int .i64 ds[i].i)∧w.cell? ⟨b,off+i*2+1,none⟩=some ds[i].b.v:=by
 obtain ⟨b,off,e,h⟩:=elem_atP (f:=Pg.cells) (sz:=2) (fun _=>rfl) h i hi (by decide)
 exact ⟨b,off,e,h 0 (by simp [Pg.cells]),h 1 (by simp [Pg.cells])⟩
theorem pcells_len (ds:List Pg):(pcells ds).length=ds.length*2:=flatMap_lenP (f:=Pg.cells) (sz:=2) (fun _=>rfl) ds
theorem Own.updP {w w':World} {A B:List Seg} {s s':Seg} (h:Own w (A++s :: B)) (hs:Own w' [s']) (hf:fpS s'=fpS s) (ht:Turn (fp [s]) w w'):Own w' (A++s' :: B):=by
 have hA:=h.left
 have hB:Own w (s :: B):=h.right
 have hsB:Own w ([s]++B):=hB
 have e1:fp [s]=fpS s:=by simp [fp]
 have dA:∀ b∈fp A,b∉fp [s]:=fun b hb hb'=>h.apart b hb (by rw [show s :: B=[s]++B from rfl,fp_append];exact List.mem_append_left _ hb')
 have dB:∀ b∈fp B,b∉fp [s]:=fun b hb hb'=>hsB.apart b hb' hb
 have hA':=hA.turn ht dA
 have hB':=hsB.right.turn ht dB
 have e2:fp [s']=fp [s]:=by simp [fp,hf]
 have hsB':Own w' ([s']++B):=hs.append hB' (fun b hb=>by rw [e2] at hb;exact hsB.apart b hb)
 refine hA'.append hsB' (fun b hb hb'=>?_)
 refine h.apart b hb ?_
 rw [fp_cons] at hb' ⊢
 rw [← hf];exact hb'
theorem fp_updP (A B:List Seg) {s s':Seg} (hf:fpS s'=fpS s):fp (A++s' :: B)=fp (A++s :: B):=by
 rw [fp_append,fp_append,fp_cons,fp_cons,hf]
def Pg.seg (x:Pg):Seg:=x.b.seg
def totP (ds:List Pg):Nat:=(ds.map fun x=>x.b.L.length).sum
theorem totP_take (ds:List Pg) (k:Nat) (h:k < ds.length):totP (ds.take (k+1))=totP (ds.take k)+ds[k].b.L.length:=by
 unfold totP
 rw [List.take_succ_eq_append_getElem h,List.map_append,List.sum_append]
 rfl
theorem totP_append (xs ys:List Pg):totP (xs++ys)=totP xs+totP ys:=by simp [totP]
theorem totP_take_le (ds:List Pg) (k:Nat):totP (ds.take k)≤totP ds:=by
 have:=totP_append (ds.take k) (ds.drop k)
 rw [List.take_append_drop] at this
 omega
theorem mem_segP {w:World} {ds:List Pg} (h:Mem w (ds.map Pg.seg)) (k:Nat) (hk:k < ds.length):Cells w ds[k].b.a (flat ds[k].b.L):=h ds[k].seg (List.mem_map.2 ⟨_,List.getElem_mem hk,rfl⟩)
theorem infoPosting:(Tryz.prog.info? 37).map (fun i=>(i.zero,i.size,i.bytes))=some (some (.agg #[.int .i64 0,.slice none 0 0]),2,32):=by kernel_rfl
theorem underPostings:Tryz.prog.underlying 50=some (.slice 37):=by kernel_rfl
def Pg.key (x:Pg):Int × List Ln:=(x.i,x.b.L)
set_option maxHeartbeats 1000000 in
theorem eqPostingS_k (a a':Option Addr) (cap cap':Nat) (xs ys:List Pg) (w:World) (he:ys.map Pg.key=xs.map Pg.key) (hc:Cells w a (pcells xs)) (hm:Mem w (xs.map Pg.seg)) (hc':Cells w a' (pcells ys)) (hm':Mem w (ys.map Pg.seg)) (hl:xs.length≤1048576) (ht:∀ x∈xs,x.b.L.length≤1048576) :
 Calls Tryz.prog 20 #[.slice a xs.length cap,.slice a' ys.length cap'] w fun e w'=>e=.returned (.bool true)∧Keeps w w':=by
 have HC:=hide hc
 have HC':=hide hc'
 have HM:=hide hm
 have HM':=hide hm'
 have hn:ys.length=xs.length:=by have:=congrArg List.length he;simpa using this
 have HE:=hide he
 have HT:=hide ht
 have hn':((xs.length:Int) != (ys.length:Int))=false:=by rw [hn];simp
 have HN:=hide hn
 clear hc hc' hm hm' he ht hn
 go_enter Tryz.func20,Tryz.ntmps20
 go_wp2_with fail
 go_loopw [5] (fun y w1=>∃ k:Nat,k≤xs.length∧y=.int .i64 (k:Int)∧Keeps w w1) (fun y _=>xs.length-(intOf y).toNat)
 case atStart=>exact ⟨0,by omega,rfl,Keeps.refl _⟩
 case round =>
  obtain ⟨k,hk,rfl,hkw⟩:=hrel
  by_cases hlt:k < xs.length
  ·have hlt':k < ys.length:=by have:=HN.out;omega
   obtain ⟨b,off,ea,c0,c1⟩:=cell2P (HC.out.kept hkw) k hlt
   obtain ⟨b',off',ea',d0,d1⟩:=cell2P (HC'.out.kept hkw) k hlt'
   subst ea ea'
   have hK:ys[k].key=xs[k].key:=by
    have h:=congrArg (fun l=>l[k]?) HE.out
    simpa [hlt,hlt'] using h
   have hL:ys[k].b.L=xs[k].b.L:=congrArg Prod.snd hK
   have hI:ys[k].i=xs[k].i:=congrArg Prod.fst hK
   clear hK
   have HQ:=hide (fun t=>eqPosting_o xs[k].i xs[k].b.a ys[k].b.a xs[k].b.cap ys[k].b.cap xs[k].b.L (gr wr t) (((mem_segP HM.out k hlt).kept hkw).kept (gr_keeps wr t)) (by rw [← hL];exact ((mem_segP HM'.out k hlt').kept hkw).kept (gr_keeps wr t)) (HT.out _ (List.getElem_mem hlt)))
   have g0:=gr_cell c0
   have g1:=gr_cell c1
   have g2:=gr_cell d0
   have g3:=gr_cell d1
   unfold Bl.v at c1 d1 g1 g3
   rw [hL] at d1 g3
   rw [hI] at d0 g2
   clear hL hI
   generalize xs[k]=x at *
   generalize ys[k]=y at *
   obtain ⟨xi,xa,xc,xL⟩:=x
   obtain ⟨yi,ya,yc,yL⟩:=y
   dsimp only at c0 c1 d0 d1 g0 g1 g2 g3 HQ
   go_wp2_with fail
   refine region_gr (by kernel_rfl) (by kernel_rfl) ?_
   repeat (go_big_quiet_step (first | (go_at_call 11;exact gr_call (unhide HQ _))))
   refine wpQuiet_nil ?_
   intro w' hw'
   have hk':=hkw.trans (Keeps.of_gr hw')
   clear hw'
   go_wp2_with fail
   go_roundw
   case rel=>exact ⟨k+1,by omega,by go_num,hk'⟩
   case measure=>simp [intOf];omega
  ·go_wp2_with fail
   go_ret
   exact ⟨rfl,hkw⟩
def mkN (n m:Nat):List Ln:=mkL (n:Int) m
theorem mkN_len (n m:Nat):(mkN n m).length=m:=mkL_len m _
theorem markLineS_n (a:Option Addr) (cap:Nat) (L:List Ln) (n:Nat) (w:World) (h:Own w [(a,flat L)]) (hl:L.length≤1048576) (hn:n≤1000000000) :
 Calls Tryz.prog 58 #[.slice a L.length cap,.int .i64 (n:Int)] w fun e w'=>e=.returned (.int .i64 ((n+3*L.length:Nat):Int))∧Own w' [(a,flat (mkN n L.length))]∧Turn (fp [(a,flat L)]) w w':=by
 refine (markLineS_o a cap L (n:Int) w h hl (by omega) (by omega)).mono ?_
 rintro e w' ⟨rfl,ho,ht⟩
 exact ⟨by congr 2,ho,ht⟩
def markP (n:Nat):List Pg→List Pg
 | []=>[]
 | x :: t=>⟨(n:Int),⟨x.b.a,x.b.cap,mkN (n+1) x.b.L.length⟩⟩ :: markP (n+1+3*x.b.L.length) t
theorem markP_len:∀ (n:Nat) (ds:List Pg),(markP n ds).length=ds.length
 | _,[]=>rfl
 | n,b :: t=>by simp [markP,markP_len]
theorem markP_append:∀ (n:Nat) (xs ys:List Pg),markP n (xs++ys)=markP n xs++markP (n+xs.length+3*totP xs) ys
 | n,[],ys=>by simp [markP,totP]
 | n,b :: t,ys=>by
   have:=markP_append (n+1+3*b.b.L.length) t ys
   simp only [List.cons_append,markP,this,totP,List.map_cons,List.sum_cons,List.length_cons]
   congr 3
   omega
theorem pcells_append (xs ys:List Pg):pcells (xs++ys)=pcells xs++pcells ys:=by simp [pcells]
theorem cells_setP {w:World} {g off:Nat} {xs:List Value} (hc:∀ j (hj:j < xs.length),w.cell? ⟨g,off+j,none⟩=some xs[j]) (i:Nat) (v:Value) (hi:i < xs.length):∀ j (hj:j < (xs.set i v).length),(w.setCell ⟨g,off+i,none⟩ v).cell? ⟨g,off+j,none⟩=some (xs.set i v)[j]:=by
 intro j hj
 have hj':j < xs.length:=by simpa using hj
 by_cases e:j=i
 ·subst e
  rw [World.cell?_setCell_same _ _ _ (hc j hj')];simp
 ·rw [World.cell?_setCell_other _ _ _ _ (by simp),hc j hj',List.getElem_set_ne (Ne.symm e)]
theorem Own.setCellP {w:World} {g off:Nat} {xs:List Value} (h:Own w [(some ⟨g,off,none⟩,xs)]) (i:Nat) (v:Value) (hi:i < xs.length):Own (w.setCell ⟨g,off+i,none⟩ v) [(some ⟨g,off,none⟩,xs.set i v)]:=by
 refine h.wrote (by simp) (Or.inr ⟨g,off,rfl,cells_setP ?_ i v hi⟩) (fun p=>frozen_set ..)
 rcases h.one with h' | ⟨g',off',e,h'⟩
 ·rw [h'] at hi;simp at hi
 ·have e':=Option.some.inj e
  injection e' with e1 e2
  subst e1 e2
  exact h'
theorem pcells_setP (A B:List Pg) (x:Pg) (n:Int):(pcells (A++x :: B)).set (A.length*2) (.int .i64 n)=pcells (A++⟨n,x.b⟩ :: B):=by
 have hl:=pcells_len A
 rw [pcells_append,pcells_append,List.set_append_right _ _ (by omega),hl]
 simp [pcells,Pg.cells]
end Go.Proofs.YtccdhcempnkgaaaGreatDoor
namespace Go.Proofs.YtccdhcempnkgaaaGreatDoor
open Go.RowKit Go.Deep
set_option linter.unusedVariables false
set_option linter.unusedSimpArgs false
set_option maxRecDepth 10000
structure LG {α:Type} (T:TypeId) (sz:Nat) (f:α→List Value) (sg:α→Seg) (w0 w:World) (v:Value) (nb:List α):Prop where
 row:w.ownsRow w0.heap.size T sz v nb.length (nb.flatMap f)
 inner:Born w0 w (nb.map sg)
 apart:∀ g,v.ownBlock=some g→g∉fp (nb.map sg)
 keeps:Keeps w0 w
section
variable {α:Type} {T:TypeId} {sz:Nat} {f:α→List Value} {sg:α→Seg} {w0 w w1 w2:World} {v v':Value} {nb:List α}
theorem LG.kept (h:LG T sz f sg w0 w v nb) (hk:Keeps w w1):LG T sz f sg w0 w1 v nb :=
 ⟨owns_kept h.row hk,h.inner.kept hk,h.apart,h.keeps.trans hk⟩
end
theorem LG.nil {α:Type} (T:TypeId) (sz:Nat) (f:α→List Value) (sg:α→Seg) {w0 w:World} {v:Value} (h:w.ownsRow w0.heap.size T sz v 0 []) (hk:Keeps w0 w):LG T sz f sg w0 w v [] :=
 ⟨h,Born.nil _ _,fun g _ hb=>by simp [fp] at hb,hk⟩
theorem LG.turned {α:Type} {T:TypeId} {sz:Nat} {f:α→List Value} {sg:α→Seg} {w0 w w1:World} {v:Value} {nb:List α} (h:LG T sz f sg w0 w v nb) {fs:List Nat} (ht:Turn fs w w1) (hv:∀ g,v.ownBlock=some g→g∉fs) (hi:∀ b∈fp (nb.map sg),b∉fs) (hn:∀ b∈fs,w0.heap.size≤b):LG T sz f sg w0 w1 v nb:=by
 refine ⟨?_,h.inner.turn ht hi,h.apart,ht.keeps h.keeps (fun b hb=>hn b hb)⟩
 refine ⟨h.row.1,?_⟩
 rcases h.row.2 with h' | ⟨g,cap,cur,e1,hb,hg,rest⟩
 ·exact .inl h'
 ·refine .inr ⟨g,cap,cur,e1,hb,?_,rest⟩
  rw [ht.block g (Array.getElem?_eq_some_iff.1 hg).1 (hv g (by rw [e1];rfl))];exact hg
theorem cell_two_new (w:World) (x y:Value) (t:TypeId):∀ j u,[x,y][j]? = some u→(w.alloc (.cells #[x,y] t)).cell? ((⟨w.heap.size,0,none⟩:Addr).add j)=some u:=by
 intro j u hj
 match j,hj with
 | 0,hj=>simp at hj;subst hj;simp [Addr.add]
 | 1,hj=>simp at hj;subst hj;simp [Addr.add]
 | n+2,hj=>simp at hj
theorem run_posting (w:World) (base:Nat) (v:Value) (n:Nat) (xs:List Value) (x y:Value) (hx:x.oneCell'=true) (hy:y.oneCell'=true) (ty:TypeId) (h:w.ownsRow base 37 2 v n xs) (hn:n≤1048576) (hb:base≤w.heap.size) :
 ∃ v' w',(Builtin.append_ #[50,50] ty #[v,.slice (some ⟨w.heap.size,0,none⟩) 1 1]).run Tryz.prog (w.alloc (.cells #[x,y] 37))=.ok v' w'∧w'.ownsRow base 37 2 v' (n+1) (xs++[x,y])∧(w.alloc (.cells #[x,y] 37)).grownBy w' v.ownBlock∧(v'.ownBlock=v.ownBlock∨v'.ownBlock=some (w.alloc (.cells #[x,y] 37)).heap.size):=by
 have hI:=infoPosting
 cases hi:Tryz.prog.info? 37 with
 | none=>rw [hi] at hI;simp at hI
 | some i =>
   rw [hi] at hI
   simp at hI
   obtain ⟨hz,hsz,hby⟩:=hI
   obtain ⟨v',w',h1,h2,h3,_,h5⟩:=run_append_own_at (P:=Tryz.prog) (w.alloc (.cells #[x,y] 37)) base 50 ty 37 i _ 2 32 underPostings hi hz hsz hby rfl (by decide) v n xs (h.alloc _) ⟨w.heap.size,0,none⟩ 1 1 [x,y] rfl (cell_two_new w x y _) (by intro u hu;simp at hu;rcases hu with rfl | rfl <;> assumption) (by simp only [maxLen];omega) (by omega) (by simp;omega)
   exact ⟨v',w',h1,h2,h3,h5⟩
end Go.Proofs.YtccdhcempnkgaaaGreatDoor
namespace Go.Proofs.YtccdhcempnkgaaaGreatDoor
open Go.RowKit Go.Deep
set_option linter.unusedVariables false
set_option linter.unusedSimpArgs false
set_option maxRecDepth 10000
structure Et where
 k:Int
 y:Int
 c:Int
 t:Int
 m:Int
 f:Int
 b:Bool
def Et.cells (x:Et):List Value:=[.int .i64 x.k,.int .i64 x.y,.int .i64 x.c,.int .i64 x.t,.int .i64 x.m,.int .i64 x.f,.bool x.b]
def ets (xs:List Et):List Value:=xs.flatMap Et.cells
theorem ets_len (xs:List Et):(ets xs).length=xs.length*7:=flatMap_len (f:=Et.cells) (sz:=7) (fun _=>rfl) xs
theorem ets_append (xs ys:List Et):ets (xs++ys)=ets xs++ets ys:=by simp [ets]
theorem ets_at {w:World} {a:Option Addr} {xs:List Et} (h:Cells w a (ets xs)) (k:Nat) (hk:k < xs.length) :
 ∃ b off,a=some ⟨b,off,none⟩∧w.cell? ⟨b,off+k*7,none⟩=some (.int .i64 xs[k].k)∧w.cell? ⟨b,off+k*7+1,none⟩=some (.int .i64 xs[k].y)∧w.cell? ⟨b,off+k*7+2,none⟩=some (.int .i64 xs[k].c)∧w.cell? ⟨b,off+k*7+3,none⟩=some (.int .i64 xs[k].t)∧w.cell? ⟨b,off+k*7+4,none⟩=some (.int .i64 xs[k].m)∧w.cell? ⟨b,off+k*7+5,none⟩=some (.int .i64 xs[k].f)∧w.cell? ⟨b,off+k*7+6,none⟩=some (.bool xs[k].b):=by
 obtain ⟨b,off,e,h⟩:=elem_at (f:=Et.cells) (sz:=7) (fun _=>rfl) h k hk (by decide)
 exact ⟨b,off,e,h 0 (by simp [Et.cells]),h 1 (by simp [Et.cells]),h 2 (by simp [Et.cells]),h 3 (by simp [Et.cells]),h 4 (by simp [Et.cells]),h 5 (by simp [Et.cells]),h 6 (by simp [Et.cells])⟩
end Go.Proofs.YtccdhcempnkgaaaGreatDoor
