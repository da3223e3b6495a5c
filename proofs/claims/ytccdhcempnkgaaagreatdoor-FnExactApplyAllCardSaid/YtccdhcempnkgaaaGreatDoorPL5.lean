/- Texts of the verifier, joined: BgC, BmC. -/
import Derived.Test.YtccdhcempnkgaaaGreatDoorPL4
namespace Go.Proofs.YtccdhcempnkgaaaGreatDoor
open Go.RowKit Go.Deep
set_option linter.unusedVariables false
set_option linter.unusedSimpArgs false
set_option maxRecDepth 10000
def Chn.v (x:Chn):Value:=.agg #[.int .i64 x.id,.int .i64 x.sz,.int .i64 x.lo,.int .i64 x.re,.int .i64 x.ba,.int .i64 x.pp,.int .i64 x.sc]
theorem toChan_k (x:Chn) (w:World):Calls Tryz.prog 82 #[x.v] w fun e w'=>e=.returned x.v∧Keeps w w':=by
 obtain ⟨xid,xsz,xlo,xre,xba,xpp,xsc⟩:=x
 dsimp only [Chn.v]
 go_enter Tryz.func82,Tryz.ntmps82
 go_wp2_with fail
 refine bodyPost_ret (v:=.agg #[.int .i64 xid,.int .i64 xsz,.int .i64 xlo,.int .i64 xre,.int .i64 xba,.int .i64 xpp,.int .i64 xsc]) (by simp [results,Tryz.results82,go_sem]) rfl ⟨rfl,?_⟩
 repeat (first | exact Keeps.refl _ | refine Keeps.alloc ?_ _ | refine Keeps.setCell ?_ (by simp) _)
theorem szChanS_k (a:Option Addr) (len cap:Nat) (left:Int) (w:World) (hl:len≤9223372036854775807) (h0:0≤left) (h1:left≤1048576) :
 Calls Tryz.prog 28 #[.slice a len cap,.int .i64 left] w fun e w'=>e=.returned (.int .i64 (if (len:Int)≤left then left-len else -1))∧w'=w:=by
 by_cases h:(len:Int)≤left
 ·rw [if_pos h]
  go_enter Tryz.func28,Tryz.ntmps28
  go_wp2_with fail
  go_ret
  exact ⟨rfl,rfl⟩
 ·rw [if_neg h]
  go_enter Tryz.func28,Tryz.ntmps28
  go_wp2_with fail
  go_ret
  exact ⟨rfl,rfl⟩
theorem infoChan:(Tryz.prog.info? 78).map (fun i=>(i.zero,i.size,i.bytes))=some (some (.agg #[.int .i64 0,.int .i64 0,.int .i64 0,.int .i64 0,.int .i64 0,.int .i64 0,.int .i64 0]),7,56):=by kernel_rfl
theorem underChans:Tryz.prog.underlying 30=some (.slice 78):=by kernel_rfl
theorem make_Chans (n:Nat) (hn:n≤1048576) (w:World):(Instr.makeSlice 30 (.int .i64 (n:Int)) (.int .i64 (n:Int))).run Tryz.prog w=.ok (.slice (some ⟨w.heap.size,0,none⟩) n n) (w.alloc (.cells (madeCells #[.int .i64 0,.int .i64 0,.int .i64 0,.int .i64 0,.int .i64 0,.int .i64 0,.int .i64 0] (n*7)) 78)):=by
 have hI:=infoChan
 cases hi:Tryz.prog.info? 78 with
 | none=>rw [hi] at hI;simp at hI
 | some i =>
   rw [hi] at hI
   simp at hI
   obtain ⟨hz,hs,hb⟩:=hI
   have h:=run_make (P:=Tryz.prog) w 30 78 i _ underChans hi hz .i64 .i64 n n (by omega) (Int.le_refl _) (by rw [hb];omega) (by omega)
   rw [hs] at h
   simpa [Value.cells] using h
def rowChan (L:List Chn) (k:Nat):Nat→Value:=fun j=>if j < k*7 then (chs L).getD j (.int .i64 0) else (#[.int .i64 0,.int .i64 0,.int .i64 0,.int .i64 0,.int .i64 0,.int .i64 0,.int .i64 0]:Array Value)[j % 7]!
theorem made_Chan (L:List Chn) (w:World) (m:Nat) (t:TypeId):(w.alloc (.cells (madeCells #[.int .i64 0,.int .i64 0,.int .i64 0,.int .i64 0,.int .i64 0,.int .i64 0,.int .i64 0] m) t)).rowIs w.heap.size t m (rowChan L 0):=by
 have h:=World.rowIs_alloc w (madeCells #[.int .i64 0,.int .i64 0,.int .i64 0,.int .i64 0,.int .i64 0,.int .i64 0,.int .i64 0] m) t (rowChan L 0) (by
  intro i hi
  rw [size_madeCells] at hi
  simp only [madeCells,Array.getElem?_map,Array.getElem?_range]
  rw [if_pos hi]
  simp [rowChan])
 rw [size_madeCells] at h
 exact h
theorem rowChan_step (L:List Chn) (k:Nat) (h:k < L.length) (j:Nat):(if j=k*7+6 then (.int .i64 L[k].sc:Value) else if j=k*7+5 then (.int .i64 L[k].pp:Value) else if j=k*7+4 then (.int .i64 L[k].ba:Value) else if j=k*7+3 then (.int .i64 L[k].re:Value) else if j=k*7+2 then (.int .i64 L[k].lo:Value) else if j=k*7+1 then (.int .i64 L[k].sz:Value) else if j=k*7 then (.int .i64 L[k].id:Value) else rowChan L k j)=rowChan L (k+1) j:=by
 have hL:=chs_len L
 have hk:=Nat.mul_le_mul_right 7 (show k+1≤L.length from h)
 have ha:=fun r (hr:r < 7)=>flatMap_at (f:=Chn.cells) (sz:=7) (fun _=>rfl) L k h r hr
 unfold rowChan
 by_cases h6:j=k*7+6
 ·subst h6
  (try simp only [if_true])
  (try rw [if_pos rfl])
  rw [if_pos (by omega),List.getD_eq_getElem?_getD]
  have e:=ha 6 (by decide)
  skip
  unfold chs
  rw [e];rfl
 rw [if_neg h6]
 by_cases h5:j=k*7+5
 ·subst h5
  (try simp only [if_true])
  (try rw [if_pos rfl])
  rw [if_pos (by omega),List.getD_eq_getElem?_getD]
  have e:=ha 5 (by decide)
  skip
  unfold chs
  rw [e];rfl
 rw [if_neg h5]
 by_cases h4:j=k*7+4
 ·subst h4
  (try simp only [if_true])
  (try rw [if_pos rfl])
  rw [if_pos (by omega),List.getD_eq_getElem?_getD]
  have e:=ha 4 (by decide)
  skip
  unfold chs
  rw [e];rfl
 rw [if_neg h4]
 by_cases h3:j=k*7+3
 ·subst h3
  (try simp only [if_true])
  (try rw [if_pos rfl])
  rw [if_pos (by omega),List.getD_eq_getElem?_getD]
  have e:=ha 3 (by decide)
  skip
  unfold chs
  rw [e];rfl
 rw [if_neg h3]
 by_cases h2:j=k*7+2
 ·subst h2
  (try simp only [if_true])
  (try rw [if_pos rfl])
  rw [if_pos (by omega),List.getD_eq_getElem?_getD]
  have e:=ha 2 (by decide)
  skip
  unfold chs
  rw [e];rfl
 rw [if_neg h2]
 by_cases h1:j=k*7+1
 ·subst h1
  (try simp only [if_true])
  (try rw [if_pos rfl])
  rw [if_pos (by omega),List.getD_eq_getElem?_getD]
  have e:=ha 1 (by decide)
  skip
  unfold chs
  rw [e];rfl
 rw [if_neg h1]
 by_cases h0:j=k*7
 ·subst h0
  (try simp only [if_true])
  (try rw [if_pos rfl])
  rw [if_pos (by omega),List.getD_eq_getElem?_getD]
  have e:=ha 0 (by decide)
  simp only [Nat.add_zero] at e
  unfold chs
  rw [e];rfl
 rw [if_neg h0]
 by_cases hlt:j < k*7
 ·rw [if_pos hlt,if_pos (by omega)]
 ·rw [if_neg hlt,if_neg (by omega)]
theorem rowChan_end (L:List Chn) (j:Nat) (hj:j < (chs L).length):rowChan L L.length j=(chs L)[j]:=by
 have hL:=chs_len L
 unfold rowChan
 rw [if_pos (by omega),List.getD_eq_getElem?_getD,List.getElem?_eq_getElem hj]
 rfl
set_option maxHeartbeats 2000000 in
theorem toChanS_k (a:Option Addr) (cap:Nat) (L:List Chn) (w:World) (hc:Cells w a (chs L)) (hl:L.length≤1048576) :
 Calls Tryz.prog 45 #[.slice a L.length cap] w fun e w'=>∃ b,e=.returned (.slice (some ⟨b,0,none⟩) L.length L.length)∧Born w w' [(some ⟨b,0,none⟩,chs L)]∧Keeps w w':=by
 have HC:=hide hc
 clear hc
 have hmk:=make_Chans L.length hl
 have HR:=hide (made_Chan L w (L.length*7) 78)
 have HKA:=hide (Keeps.alloc (Keeps.refl w) (.cells (madeCells #[.int .i64 0,.int .i64 0,.int .i64 0,.int .i64 0,.int .i64 0,.int .i64 0,.int .i64 0] (L.length*7)) 78))
 go_enter Tryz.func45,Tryz.ntmps45
 go_wp2_with fail
 clear hmk
 go_loopw [4] (fun y w1=>∃ k:Nat,k≤L.length∧y=.int .i64 (k:Int)∧w1.rowIs w.heap.size 78 (L.length*7) (rowChan L k)∧Keeps w w1) (fun y _=>L.length-(intOf y).toNat)
 case atStart=>exact ⟨0,by omega,rfl,HR.out,HKA.out⟩
 case round =>
  obtain ⟨k,hk,rfl,hr,hkw⟩:=hrel
  clear HR HKA
  by_cases hlt:k < L.length
  ·obtain ⟨b,off,ea,c0,c1,c2,c3,c4,c5,c6⟩:=chs_at (HC.out.kept hkw) k hlt
   subst ea
   have HQ:=hide (fun w1=>toChan_k L[k] w1)
   have HS:=hide (rowChan_step L k hlt)
   have HRR:=hide hr
   have HKW:=hide hkw
   have hkz:=Nat.mul_le_mul_right 7 (show k+1≤L.length from hlt)
   clear hr hkw
   generalize L[k]=x at *
   obtain ⟨xid,xsz,xlo,xre,xba,xpp,xsc⟩:=x
   dsimp only [Chn.v] at *
   go_wp2_with fail
   refine (unhide HQ _).mono ?_
   rintro e w2 ⟨rfl,hk2⟩
   have r2:=hk2.rowK HRR.out
   have d0:=r2.cell (i:=k*7) (by omega)
   have f0:=r2.frozen (k*7)
   have d1:=r2.cell (i:=k*7+1) (by omega)
   have f1:=r2.frozen (k*7+1)
   have d2:=r2.cell (i:=k*7+2) (by omega)
   have f2:=r2.frozen (k*7+2)
   have d3:=r2.cell (i:=k*7+3) (by omega)
   have f3:=r2.frozen (k*7+3)
   have d4:=r2.cell (i:=k*7+4) (by omega)
   have f4:=r2.frozen (k*7+4)
   have d5:=r2.cell (i:=k*7+5) (by omega)
   have f5:=r2.frozen (k*7+5)
   have d6:=r2.cell (i:=k*7+6) (by omega)
   have f6:=r2.frozen (k*7+6)
   have HR2:=hide r2
   have HK2:=hide (HKW.out.trans hk2)
   clear r2 hk2
   go_wp2_with fail
   go_roundw
   case rel=>exact ⟨k+1,by omega,by go_num,((((((((HR2.out.set (k*7) (.int .i64 xid)).set (k*7+1) (.int .i64 xsz)).set (k*7+2) (.int .i64 xlo)).set (k*7+3) (.int .i64 xre)).set (k*7+4) (.int .i64 xba)).set (k*7+5) (.int .i64 xpp)).set (k*7+6) (.int .i64 xsc))).congr (fun j _=>HS.out j),(Keeps.setCell (Keeps.setCell (Keeps.setCell (Keeps.setCell (Keeps.setCell (Keeps.setCell (Keeps.setCell HK2.out (Nat.le_refl _) _) (Nat.le_refl _) _) (Nat.le_refl _) _) (Nat.le_refl _) _) (Nat.le_refl _) _) (Nat.le_refl _) _) (Nat.le_refl _) _)⟩
   case measure=>simp [intOf];omega
  ·have e:k=L.length:=by omega
   subst e
   go_wp2_with fail
   go_ret
   exact ⟨_,rfl,born_row hr (chs L) (by rw [chs_len];exact Nat.le_refl _) (fun j hj=>rowChan_end L j hj) (Nat.le_refl _),hkw⟩
theorem eqChan_same (x:Chn) (w:World):Calls Tryz.prog 98 #[x.v,x.v] w fun e w'=>e=.returned (.bool true)∧Keeps w w':=by
 obtain ⟨xid,xsz,xlo,xre,xba,xpp,xsc⟩:=x
 dsimp only [Chn.v]
 skip
 all_goals
  go_enter Tryz.func98,Tryz.ntmps98
  go_wp2_with fail
  go_ret
  exact ⟨rfl,Keeps.alloc (Keeps.alloc (Keeps.refl _) _) _⟩
set_option maxHeartbeats 4000000 in
theorem eqChanS_k (a a':Option Addr) (cap cap':Nat) (xs:List Chn) (w:World) (hc:Cells w a (chs xs)) (hc':Cells w a' (chs xs)) (hl:xs.length≤1048576) :
 Calls Tryz.prog 51 #[.slice a xs.length cap,.slice a' xs.length cap'] w fun e w'=>e=.returned (.bool true)∧Keeps w w':=by
 have HC:=hide hc
 have HC':=hide hc'
 clear hc hc'
 go_enter Tryz.func51,Tryz.ntmps51
 go_wp2_with fail
 go_loopw [5] (fun y w1=>∃ k:Nat,k≤xs.length∧y=.int .i64 (k:Int)∧Keeps w w1) (fun y _=>xs.length-(intOf y).toNat)
 case atStart=>exact ⟨0,by omega,rfl,Keeps.refl _⟩
 case round =>
  obtain ⟨k,hk,rfl,hkw⟩:=hrel
  by_cases hlt:k < xs.length
  ·obtain ⟨b,off,ea,c0,c1,c2,c3,c4,c5,c6⟩:=chs_at (HC.out.kept hkw) k hlt
   obtain ⟨b',off',ea',d0,d1,d2,d3,d4,d5,d6⟩:=chs_at (HC'.out.kept hkw) k hlt
   have HEA:=hide ea
   have HEA':=hide ea'
   clear ea ea'
   obtain rfl:=HEA.out
   obtain rfl:=HEA'.out
   have HQ:=hide (fun t=>eqChan_same xs[k] (gr wr t))
   have g0:=gr_cell c0
   have i0:=gr_cell d0
   have g1:=gr_cell c1
   have i1:=gr_cell d1
   have g2:=gr_cell c2
   have i2:=gr_cell d2
   have g3:=gr_cell c3
   have i3:=gr_cell d3
   have g4:=gr_cell c4
   have i4:=gr_cell d4
   have g5:=gr_cell c5
   have i5:=gr_cell d5
   have g6:=gr_cell c6
   have i6:=gr_cell d6
   generalize xs[k]=x at *
   obtain ⟨xid,xsz,xlo,xre,xba,xpp,xsc⟩:=x
   dsimp only [Chn.v] at c0 d0 g0 i0 c1 d1 g1 i1 c2 d2 g2 i2 c3 d3 g3 i3 c4 d4 g4 i4 c5 d5 g5 i5 c6 d6 g6 i6 HQ
   go_wp2_with fail
   refine region_gr (by kernel_rfl) (by kernel_rfl) ?_
   repeat (go_big_quiet_step (first | (go_at_call 98;exact gr_call (unhide HQ _))))
   refine wpQuiet_nil ?_
   intro w' hw'
   have hk':=hkw.trans (Keeps.of_gr hw')
   clear hw'
   go_wp2_with fail
   go_roundw
   case rel=>exact ⟨k+1,by omega,by go_num,hk'⟩
   case measure=>simp [intOf];omega
  ·go_wp2_with fail
   go_ret
   exact ⟨rfl,hkw⟩
end Go.Proofs.YtccdhcempnkgaaaGreatDoor
namespace Go.Proofs.YtccdhcempnkgaaaGreatDoor
open Go.RowKit Go.Deep
set_option linter.unusedVariables false
set_option linter.unusedSimpArgs false
set_option maxRecDepth 10000
def markChn (n:Nat):Chn:=⟨(n:Int),(n:Int)+1,(n:Int)+1+1,(n:Int)+1+1+1,(n:Int)+1+1+1+1,(n:Int)+1+1+1+1+1,(n:Int)+1+1+1+1+1+1⟩
def marksChn (n k:Nat):List Chn:=(List.range k).map fun i=>markChn (n+7*i)
theorem marksChn_succ (n k:Nat):marksChn n (k+1)=marksChn n k++[markChn (n+7*k)]:=by simp [marksChn,List.range_succ]
theorem marksChn_len (n k:Nat):(marksChn n k).length=k:=by simp [marksChn]
theorem chs_set0 (A B:List Chn) (x:Chn) (n:Int) {k:Nat} (hA:A.length=k):(chs (A++x :: B)).set (k*7) (.int .i64 n)=chs (A++⟨n,x.sz,x.lo,x.re,x.ba,x.pp,x.sc⟩ :: B):=by
 subst hA
 have hl:=chs_len A
 rw [chs_append,chs_append,List.set_append_right _ _ (by omega),hl]
 simp [chs,Chn.cells]
theorem chs_set1 (A B:List Chn) (x:Chn) (n:Int) {k:Nat} (hA:A.length=k):(chs (A++x :: B)).set (k*7+1) (.int .i64 n)=chs (A++⟨x.id,n,x.lo,x.re,x.ba,x.pp,x.sc⟩ :: B):=by
 subst hA
 have hl:=chs_len A
 rw [chs_append,chs_append,List.set_append_right _ _ (by omega),hl,show A.length*7+1-A.length*7=1 by omega]
 simp [chs,Chn.cells]
theorem chs_set2 (A B:List Chn) (x:Chn) (n:Int) {k:Nat} (hA:A.length=k):(chs (A++x :: B)).set (k*7+2) (.int .i64 n)=chs (A++⟨x.id,x.sz,n,x.re,x.ba,x.pp,x.sc⟩ :: B):=by
 subst hA
 have hl:=chs_len A
 rw [chs_append,chs_append,List.set_append_right _ _ (by omega),hl,show A.length*7+2-A.length*7=2 by omega]
 simp [chs,Chn.cells]
theorem chs_set3 (A B:List Chn) (x:Chn) (n:Int) {k:Nat} (hA:A.length=k):(chs (A++x :: B)).set (k*7+3) (.int .i64 n)=chs (A++⟨x.id,x.sz,x.lo,n,x.ba,x.pp,x.sc⟩ :: B):=by
 subst hA
 have hl:=chs_len A
 rw [chs_append,chs_append,List.set_append_right _ _ (by omega),hl,show A.length*7+3-A.length*7=3 by omega]
 simp [chs,Chn.cells]
theorem chs_set4 (A B:List Chn) (x:Chn) (n:Int) {k:Nat} (hA:A.length=k):(chs (A++x :: B)).set (k*7+4) (.int .i64 n)=chs (A++⟨x.id,x.sz,x.lo,x.re,n,x.pp,x.sc⟩ :: B):=by
 subst hA
 have hl:=chs_len A
 rw [chs_append,chs_append,List.set_append_right _ _ (by omega),hl,show A.length*7+4-A.length*7=4 by omega]
 simp [chs,Chn.cells]
theorem chs_set5 (A B:List Chn) (x:Chn) (n:Int) {k:Nat} (hA:A.length=k):(chs (A++x :: B)).set (k*7+5) (.int .i64 n)=chs (A++⟨x.id,x.sz,x.lo,x.re,x.ba,n,x.sc⟩ :: B):=by
 subst hA
 have hl:=chs_len A
 rw [chs_append,chs_append,List.set_append_right _ _ (by omega),hl,show A.length*7+5-A.length*7=5 by omega]
 simp [chs,Chn.cells]
theorem chs_set6 (A B:List Chn) (x:Chn) (n:Int) {k:Nat} (hA:A.length=k):(chs (A++x :: B)).set (k*7+6) (.int .i64 n)=chs (A++⟨x.id,x.sz,x.lo,x.re,x.ba,x.pp,n⟩ :: B):=by
 subst hA
 have hl:=chs_len A
 rw [chs_append,chs_append,List.set_append_right _ _ (by omega),hl,show A.length*7+6-A.length*7=6 by omega]
 simp [chs,Chn.cells]
set_option maxHeartbeats 16000000 in
theorem markChanS_k (a:Option Addr) (cap:Nat) (ds:List Chn) (n:Nat) (w:World) (h:Own w [(a,chs ds)]) (hl:ds.length≤1048576) (hn:n≤1000000000) :
 Calls Tryz.prog 55 #[.slice a ds.length cap,.int .i64 (n:Int)] w fun e w'=>e=.returned (.int .i64 ((n+7*ds.length:Nat):Int))∧Own w' [(a,chs (marksChn n ds.length))]∧Turn (fp [(a,chs ds)]) w w':=by
 have HO:=hide h
 clear h
 go_enter Tryz.func55,Tryz.ntmps55
 go_wp2_with fail
 go_loopw [1,5] (fun x y wr=>∃ (k z:Nat),k≤ds.length∧Hid (n+7*k=z)∧x=.int .i64 (z:Int)∧y=.int .i64 (k:Int)∧Hid (Own wr [(a,chs (marksChn n k++ds.drop k))])∧Hid (Turn (fp [(a,chs ds)]) w wr)) (fun _ y _=>ds.length-(intOf y).toNat)
 case atStart=>exact ⟨0,n,by omega,by show _=_;simp,rfl,rfl,by show Own _ _;simpa [marksChn] using HO.out,Turn.refl _ _⟩
 case round =>
  obtain ⟨k,z,hk,HZ,rfl,rfl,HO0,HT⟩:=hrel
  by_cases hlt:k < ds.length
  ·have hz:z≤1200000000:=by have:=HZ.out;omega
   have HDr:Hid (ds.drop k=ds[k] :: ds.drop (k+1)):=List.drop_eq_getElem_cons hlt
   have HLA:Hid ((marksChn n k).length=k):=marksChn_len n k
   have HTk:Hid (marksChn n (k+1)++ds.drop (k+1)=marksChn n k++Chn.mk ((z:Int)) ((z:Int)+1) ((z:Int)+1+1) ((z:Int)+1+1+1) ((z:Int)+1+1+1+1) ((z:Int)+1+1+1+1+1) ((z:Int)+1+1+1+1+1+1) :: ds.drop (k+1)):=by
    show _=_
    rw [marksChn_succ,← HZ.out,List.append_assoc];rfl
   have HZn:Hid (n+7*(k+1)=z+7):=by show _=_;have:=HZ.out;omega
   have HFE:Hid (fp [(a,chs (marksChn n k++ds.drop k))]=fp [(a,chs ds)]):=by
    show _=_
    rw [fp_one,fp_one]
    exact fpS_len (by rw [chs_len,chs_len,List.length_append,HLA.out,List.length_drop];congr 1;omega)
   rw [HDr.out] at HO0 HFE
   generalize ds[k]=c at *
   obtain ⟨eid,esz,elo,ere,eba,epp,esc⟩:=c
   generalize marksChn n k=A at *
   generalize hB:ds.drop (k+1)=B at *
   have HBB:=hide hB
   clear hB HZ
   have hcl:Cells wr a (chs (A++Chn.mk eid esz elo ere eba epp esc :: B)):=HO0.out.mem (a,chs (A++Chn.mk eid esz elo ere eba epp esc :: B)) (by simp)
   have hkl:k < (A++Chn.mk eid esz elo ere eba epp esc :: B).length:=by have:=HLA.out;simp;omega
   obtain ⟨b,off,ea,c0,c1,c2,c3,c4,c5,c6⟩:=chs_at hcl k hkl
   subst ea
   have he:(A++Chn.mk eid esz elo ere eba epp esc :: B)[k]=Chn.mk eid esz elo ere eba epp esc:=by
    rw [List.getElem_append_right (by have:=HLA.out;omega)]
    simp [HLA.out]
   rw [he] at c0 c1 c2 c3 c4 c5 c6
   dsimp only at c0 c1 c2 c3 c4 c5 c6
   have hne0:chs (A++Chn.mk eid esz elo ere eba epp esc :: B)≠[]:=fun e=>by
    have:=chs_len (A++Chn.mk eid esz elo ere eba epp esc :: B)
    rw [e] at this
    simp at this
   have hfp:fp [((some (⟨b,off,none⟩:Addr)),chs (A++Chn.mk eid esz elo ere eba epp esc :: B))]=[b]:=by rw [fp_one,fpS_some hne0]
   have f0:∀ o,wr.frozen? ⟨b,o,none⟩=false:=HO0.out.free b (by rw [hfp];simp)
   have z0:=f0 (off+k*7)
   have z1:=f0 (off+k*7+1)
   have z2:=f0 (off+k*7+2)
   have z3:=f0 (off+k*7+3)
   have z4:=f0 (off+k*7+4)
   have z5:=f0 (off+k*7+5)
   have z6:=f0 (off+k*7+6)
   have HO1:Hid (Own (wr.setCell ⟨b,off+k*7,none⟩ (.int .i64 ((z:Int)))) [(some ⟨b,off,none⟩,chs (A++Chn.mk ((z:Int)) esz elo ere eba epp esc :: B))]):=by
    have h1:=own_set HO0.out (k*7) (.int .i64 ((z:Int))) (by rw [chs_len];have:=HLA.out;simp;omega)
    rw [chs_set0 A B _ _ HLA.out] at h1
    skip
    exact h1
   have HO2:Hid (Own ((wr.setCell ⟨b,off+k*7,none⟩ (.int .i64 ((z:Int)))).setCell ⟨b,off+k*7+1,none⟩ (.int .i64 ((z:Int)+1))) [(some ⟨b,off,none⟩,chs (A++Chn.mk ((z:Int)) ((z:Int)+1) elo ere eba epp esc :: B))]):=by
    have h1:=own_set HO1.out (k*7+1) (.int .i64 ((z:Int)+1)) (by rw [chs_len];have:=HLA.out;simp;omega)
    rw [chs_set1 A B _ _ HLA.out] at h1
    rw [← Nat.add_assoc] at h1
    exact h1
   have HO3:Hid (Own (((wr.setCell ⟨b,off+k*7,none⟩ (.int .i64 ((z:Int)))).setCell ⟨b,off+k*7+1,none⟩ (.int .i64 ((z:Int)+1))).setCell ⟨b,off+k*7+2,none⟩ (.int .i64 ((z:Int)+1+1))) [(some ⟨b,off,none⟩,chs (A++Chn.mk ((z:Int)) ((z:Int)+1) ((z:Int)+1+1) ere eba epp esc :: B))]):=by
    have h1:=own_set HO2.out (k*7+2) (.int .i64 ((z:Int)+1+1)) (by rw [chs_len];have:=HLA.out;simp;omega)
    rw [chs_set2 A B _ _ HLA.out] at h1
    rw [← Nat.add_assoc] at h1
    exact h1
   have HO4:Hid (Own ((((wr.setCell ⟨b,off+k*7,none⟩ (.int .i64 ((z:Int)))).setCell ⟨b,off+k*7+1,none⟩ (.int .i64 ((z:Int)+1))).setCell ⟨b,off+k*7+2,none⟩ (.int .i64 ((z:Int)+1+1))).setCell ⟨b,off+k*7+3,none⟩ (.int .i64 ((z:Int)+1+1+1))) [(some ⟨b,off,none⟩,chs (A++Chn.mk ((z:Int)) ((z:Int)+1) ((z:Int)+1+1) ((z:Int)+1+1+1) eba epp esc :: B))]):=by
    have h1:=own_set HO3.out (k*7+3) (.int .i64 ((z:Int)+1+1+1)) (by rw [chs_len];have:=HLA.out;simp;omega)
    rw [chs_set3 A B _ _ HLA.out] at h1
    rw [← Nat.add_assoc] at h1
    exact h1
   have HO5:Hid (Own (((((wr.setCell ⟨b,off+k*7,none⟩ (.int .i64 ((z:Int)))).setCell ⟨b,off+k*7+1,none⟩ (.int .i64 ((z:Int)+1))).setCell ⟨b,off+k*7+2,none⟩ (.int .i64 ((z:Int)+1+1))).setCell ⟨b,off+k*7+3,none⟩ (.int .i64 ((z:Int)+1+1+1))).setCell ⟨b,off+k*7+4,none⟩ (.int .i64 ((z:Int)+1+1+1+1))) [(some ⟨b,off,none⟩,chs (A++Chn.mk ((z:Int)) ((z:Int)+1) ((z:Int)+1+1) ((z:Int)+1+1+1) ((z:Int)+1+1+1+1) epp esc :: B))]):=by
    have h1:=own_set HO4.out (k*7+4) (.int .i64 ((z:Int)+1+1+1+1)) (by rw [chs_len];have:=HLA.out;simp;omega)
    rw [chs_set4 A B _ _ HLA.out] at h1
    rw [← Nat.add_assoc] at h1
    exact h1
   have HO6:Hid (Own ((((((wr.setCell ⟨b,off+k*7,none⟩ (.int .i64 ((z:Int)))).setCell ⟨b,off+k*7+1,none⟩ (.int .i64 ((z:Int)+1))).setCell ⟨b,off+k*7+2,none⟩ (.int .i64 ((z:Int)+1+1))).setCell ⟨b,off+k*7+3,none⟩ (.int .i64 ((z:Int)+1+1+1))).setCell ⟨b,off+k*7+4,none⟩ (.int .i64 ((z:Int)+1+1+1+1))).setCell ⟨b,off+k*7+5,none⟩ (.int .i64 ((z:Int)+1+1+1+1+1))) [(some ⟨b,off,none⟩,chs (A++Chn.mk ((z:Int)) ((z:Int)+1) ((z:Int)+1+1) ((z:Int)+1+1+1) ((z:Int)+1+1+1+1) ((z:Int)+1+1+1+1+1) esc :: B))]):=by
    have h1:=own_set HO5.out (k*7+5) (.int .i64 ((z:Int)+1+1+1+1+1)) (by rw [chs_len];have:=HLA.out;simp;omega)
    rw [chs_set5 A B _ _ HLA.out] at h1
    rw [← Nat.add_assoc] at h1
    exact h1
   have HO7:Hid (Own (((((((wr.setCell ⟨b,off+k*7,none⟩ (.int .i64 ((z:Int)))).setCell ⟨b,off+k*7+1,none⟩ (.int .i64 ((z:Int)+1))).setCell ⟨b,off+k*7+2,none⟩ (.int .i64 ((z:Int)+1+1))).setCell ⟨b,off+k*7+3,none⟩ (.int .i64 ((z:Int)+1+1+1))).setCell ⟨b,off+k*7+4,none⟩ (.int .i64 ((z:Int)+1+1+1+1))).setCell ⟨b,off+k*7+5,none⟩ (.int .i64 ((z:Int)+1+1+1+1+1))).setCell ⟨b,off+k*7+6,none⟩ (.int .i64 ((z:Int)+1+1+1+1+1+1))) [(some ⟨b,off,none⟩,chs (A++Chn.mk ((z:Int)) ((z:Int)+1) ((z:Int)+1+1) ((z:Int)+1+1+1) ((z:Int)+1+1+1+1) ((z:Int)+1+1+1+1+1) ((z:Int)+1+1+1+1+1+1) :: B))]):=by
    have h1:=own_set HO6.out (k*7+6) (.int .i64 ((z:Int)+1+1+1+1+1+1)) (by rw [chs_len];have:=HLA.out;simp;omega)
    rw [chs_set6 A B _ _ HLA.out] at h1
    rw [← Nat.add_assoc] at h1
    exact h1
   have d1:(wr.setCell ⟨b,off+k*7,none⟩ (.int .i64 ((z:Int)))).cell? ⟨b,off+k*7+1,none⟩=some (.int .i64 esz):=by
    rw [World.cell?_setCell_other _ _ _ _ (by simp)];exact c1
   have d2:((wr.setCell ⟨b,off+k*7,none⟩ (.int .i64 ((z:Int)))).setCell ⟨b,off+k*7+1,none⟩ (.int .i64 ((z:Int)+1))).cell? ⟨b,off+k*7+2,none⟩=some (.int .i64 elo):=by
    rw [World.cell?_setCell_other _ _ _ _ (by simp),World.cell?_setCell_other _ _ _ _ (by simp)];exact c2
   have d3:(((wr.setCell ⟨b,off+k*7,none⟩ (.int .i64 ((z:Int)))).setCell ⟨b,off+k*7+1,none⟩ (.int .i64 ((z:Int)+1))).setCell ⟨b,off+k*7+2,none⟩ (.int .i64 ((z:Int)+1+1))).cell? ⟨b,off+k*7+3,none⟩=some (.int .i64 ere):=by
    rw [World.cell?_setCell_other _ _ _ _ (by simp),World.cell?_setCell_other _ _ _ _ (by simp),World.cell?_setCell_other _ _ _ _ (by simp)];exact c3
   have d4:((((wr.setCell ⟨b,off+k*7,none⟩ (.int .i64 ((z:Int)))).setCell ⟨b,off+k*7+1,none⟩ (.int .i64 ((z:Int)+1))).setCell ⟨b,off+k*7+2,none⟩ (.int .i64 ((z:Int)+1+1))).setCell ⟨b,off+k*7+3,none⟩ (.int .i64 ((z:Int)+1+1+1))).cell? ⟨b,off+k*7+4,none⟩=some (.int .i64 eba):=by
    rw [World.cell?_setCell_other _ _ _ _ (by simp),World.cell?_setCell_other _ _ _ _ (by simp),World.cell?_setCell_other _ _ _ _ (by simp),World.cell?_setCell_other _ _ _ _ (by simp)];exact c4
   have d5:(((((wr.setCell ⟨b,off+k*7,none⟩ (.int .i64 ((z:Int)))).setCell ⟨b,off+k*7+1,none⟩ (.int .i64 ((z:Int)+1))).setCell ⟨b,off+k*7+2,none⟩ (.int .i64 ((z:Int)+1+1))).setCell ⟨b,off+k*7+3,none⟩ (.int .i64 ((z:Int)+1+1+1))).setCell ⟨b,off+k*7+4,none⟩ (.int .i64 ((z:Int)+1+1+1+1))).cell? ⟨b,off+k*7+5,none⟩=some (.int .i64 epp):=by
    rw [World.cell?_setCell_other _ _ _ _ (by simp),World.cell?_setCell_other _ _ _ _ (by simp),World.cell?_setCell_other _ _ _ _ (by simp),World.cell?_setCell_other _ _ _ _ (by simp),World.cell?_setCell_other _ _ _ _ (by simp)];exact c5
   have d6:((((((wr.setCell ⟨b,off+k*7,none⟩ (.int .i64 ((z:Int)))).setCell ⟨b,off+k*7+1,none⟩ (.int .i64 ((z:Int)+1))).setCell ⟨b,off+k*7+2,none⟩ (.int .i64 ((z:Int)+1+1))).setCell ⟨b,off+k*7+3,none⟩ (.int .i64 ((z:Int)+1+1+1))).setCell ⟨b,off+k*7+4,none⟩ (.int .i64 ((z:Int)+1+1+1+1))).setCell ⟨b,off+k*7+5,none⟩ (.int .i64 ((z:Int)+1+1+1+1+1))).cell? ⟨b,off+k*7+6,none⟩=some (.int .i64 esc):=by
    rw [World.cell?_setCell_other _ _ _ _ (by simp),World.cell?_setCell_other _ _ _ _ (by simp),World.cell?_setCell_other _ _ _ _ (by simp),World.cell?_setCell_other _ _ _ _ (by simp),World.cell?_setCell_other _ _ _ _ (by simp),World.cell?_setCell_other _ _ _ _ (by simp)];exact c6
   have HTw:Hid (Turn (fp [((some (⟨b,off,none⟩:Addr)),chs ds)]) w (((((((wr.setCell ⟨b,off+k*7,none⟩ (.int .i64 ((z:Int)))).setCell ⟨b,off+k*7+1,none⟩ (.int .i64 ((z:Int)+1))).setCell ⟨b,off+k*7+2,none⟩ (.int .i64 ((z:Int)+1+1))).setCell ⟨b,off+k*7+3,none⟩ (.int .i64 ((z:Int)+1+1+1))).setCell ⟨b,off+k*7+4,none⟩ (.int .i64 ((z:Int)+1+1+1+1))).setCell ⟨b,off+k*7+5,none⟩ (.int .i64 ((z:Int)+1+1+1+1+1))).setCell ⟨b,off+k*7+6,none⟩ (.int .i64 ((z:Int)+1+1+1+1+1+1)))):=by
    have h2:Turn [b] wr (((((((wr.setCell ⟨b,off+k*7,none⟩ (.int .i64 ((z:Int)))).setCell ⟨b,off+k*7+1,none⟩ (.int .i64 ((z:Int)+1))).setCell ⟨b,off+k*7+2,none⟩ (.int .i64 ((z:Int)+1+1))).setCell ⟨b,off+k*7+3,none⟩ (.int .i64 ((z:Int)+1+1+1))).setCell ⟨b,off+k*7+4,none⟩ (.int .i64 ((z:Int)+1+1+1+1))).setCell ⟨b,off+k*7+5,none⟩ (.int .i64 ((z:Int)+1+1+1+1+1))).setCell ⟨b,off+k*7+6,none⟩ (.int .i64 ((z:Int)+1+1+1+1+1+1))):=(((((((Turn.set (by simp) _).trans' (Turn.set (by simp) _)).trans' (Turn.set (by simp) _)).trans' (Turn.set (by simp) _)).trans' (Turn.set (by simp) _)).trans' (Turn.set (by simp) _)).trans' (Turn.set (by simp) _))
    rw [← HFE.out,hfp] at HT ⊢
    exact HT.out.trans' h2
   clear HO0 HO1 HO2 HO3 HO4 HO5 HO6 hcl he f0 HT HFE hfp
   go_wp2_with fail
   go_roundw
   case rel=>exact ⟨k+1,z+7,by omega,HZn,congrArg (Value.int .i64) (by omega),by go_num,(by show Own _ _;rw [HBB.out,HTk.out];exact HO7.out),HTw⟩
   case measure=>simp [intOf];omega
  ·have e:k=ds.length:=by omega
   subst e
   have HZ2:=hide HZ.out
   go_wp2_with fail
   go_ret
   have h2:=HO0.out
   rw [List.drop_length,List.append_nil] at h2
   exact ⟨by rw [HZ2.out];rfl,h2,HT.out⟩
set_option maxHeartbeats 8000000 in
theorem heldChanS_k (a:Option Addr) (cap:Nat) (len n:Nat) (w:World) (hc:Cells w a (chs (marksChn n len))) (hl:len≤1048576) (hn:n≤1000000000) :
 Calls Tryz.prog 59 #[.slice a len cap,.int .i64 (n:Int)] w fun e w'=>e=.returned (.int .i64 ((n+7*len:Nat):Int))∧w'=w:=by
 have HC:=hide hc
 clear hc
 go_enter Tryz.func59,Tryz.ntmps59
 go_wp2_with fail
 go_loop [1,5] (fun x y=>∃ (k z:Nat),k≤len∧Hid (n+7*k=z)∧x=.int .i64 (z:Int)∧y=.int .i64 (k:Int)) (fun _ y=>len-(intOf y).toNat)
 case atStart=>exact ⟨0,n,by omega,by show _=_;simp,rfl,rfl⟩
 case round =>
  obtain ⟨k,z,hk,HZ,rfl,rfl⟩:=hrel
  by_cases hlt:k < len
  ·have hz:z≤1200000000:=by have:=HZ.out;omega
   have HZn:Hid (n+7*(k+1)=z+7):=by show _=_;have:=HZ.out;omega
   obtain ⟨b,off,ea,c0,c1,c2,c3,c4,c5,c6⟩:=chs_at HC.out k (by rw [marksChn_len];exact hlt)
   have e:(marksChn n len)[k]'(by rw [marksChn_len];exact hlt)=markChn z:=by simp [marksChn,HZ.out]
   rw [e] at c0 c1 c2 c3 c4 c5 c6
   dsimp only [markChn] at c0 c1 c2 c3 c4 c5 c6
   have HEA:=hide ea
   clear ea
   obtain rfl:=HEA.out
   clear e HZ
   skip
   all_goals
    go_wp2_with fail
    go_round
    case rel=>exact ⟨k+1,z+7,by omega,HZn,congrArg (Value.int .i64) (by omega),by go_num⟩
    case measure=>simp [intOf];omega
  ·have e:k=len:=by omega
   subst e
   have HZ2:=hide HZ.out
   go_wp2_with fail
   go_ret
   exact ⟨congrArg (fun y:Int=>Ending.returned (Value.int .i64 y)) (show ((z:Nat):Int)=_ by have:=HZ2.out;omega),rfl⟩
end Go.Proofs.YtccdhcempnkgaaaGreatDoor
