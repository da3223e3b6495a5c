/- The model's Apply. -/
import Derived.Test.YtccdhcempnkgaaaGreatDoorPL39
import Derived.Test.YtccdhcempnkgaaaGreatDoorPL40
import Derived.Test.YtccdhcempnkgaaaGreatDoorPL41
import Derived.Test.YtccdhcempnkgaaaGreatDoorPL43
import Derived.Deep.Cut
namespace Go.Proofs.YtccdhcempnkgaaaGreatDoor
open Go.RowKit Go.Deep
set_option linter.unusedVariables false
set_option linter.unusedSimpArgs false
set_option maxRecDepth 10000
theorem WkAt.new {w1 w2:World} {tk nx wa:Int} {ca:Option Addr} {cc:Nat} {C:List Chn} {ha:Option Addr} {hc:Nat} {Hs:List Htl} {ra:Option Addr} {rc:Nat} {R:List Crc} {g1 c1 g2 c2 g3 c3:Nat} (h:Copied w1 w2 ⟨tk,nx,wa,ca,cc,C,ha,hc,Hs,ra,rc,R⟩ g1 c1 g2 c2 g3 c3) :
 WkAt w1 (w2.alloc (.cells #[.int .i64 tk,.int .i64 nx,.int .i64 wa,.slice (some ⟨g1,0,none⟩) C.length c1,.slice (some ⟨g2,0,none⟩) Hs.length c2,.slice (some ⟨g3,0,none⟩) R.length c3,.slice none 0 0,.int .i64 0] 71)) w2.heap.size ⟨tk,nx,wa,g1,c1,C,g2,c2,Hs,g3,c3,R,none,0,[],0⟩:=by
 have l1:=(h.oC.lt g1 rfl).2
 have l2:=(h.oH.lt g2 rfl).2
 have l3:=(h.oR.lt g3 rfl).2
 have n1:=h.n1
 have n2:=h.n2
 refine ⟨Keeps.alloc h.keep _,h.keep.size,?_,h.oC.alloc _,h.oH.alloc _,h.oR.alloc _,World.ownsRow_nil _ _ _ _,?_⟩
 ·refine World.rowIs_alloc w2 _ 71 _ (fun i hi=>?_)
  match i,hi with
  | 0,_=>rfl
  | 1,_=>rfl
  | 2,_=>rfl
  | 3,_=>rfl
  | 4,_=>rfl
  | 5,_=>rfl
  | 6,_=>rfl
  | 7,_=>rfl
 ·simp [lb]
  omega
theorem lb_of {w:World} {base n c:Nat} {a:Option Addr} {e:TypeId} {sz:Nat} {xs:List Value} (h:w.ownsRow base e sz (.slice a n c) n xs) {g:Nat} (hg:g∈lb a):base≤g:=(owns_lb h g hg).1
theorem row8_nx (k:Wk) (c:Int):∀ j,j < 8→(if j=1 then (.int .i64 c:Value) else k.row j)=(Wk.row { k with nx:=c }) j
 | 0,_=>rfl
 | 1,_=>rfl
 | 2,_=>rfl
 | 3,_=>rfl
 | 4,_=>rfl
 | 5,_=>rfl
 | 6,_=>rfl
 | 7,_=>rfl
 | n+8,h=>absurd h (by omega)
theorem WkAt.setNx {W w:World} {p:Nat} {k:Wk} (h:WkAt W w p k) (c:Int):WkAt W (w.setCell ⟨p,1,none⟩ (.int .i64 c)) p { k with nx:=c }:=h.put 1 _ (row8_nx k c) ⟨rfl,rfl,rfl⟩ ⟨rfl,rfl,rfl⟩ ⟨rfl,rfl,rfl⟩ ⟨rfl,rfl,rfl⟩
set_option maxHeartbeats 16000000 in
theorem apply_spec (tk nx wa:Int) (ca:Option Addr) (cc:Nat) (C:List Chn) (ha:Option Addr) (hc:Nat) (Hs:List Htl) (ra:Option Addr) (rc:Nat) (R:List Crc) (w:World) (hm:Mem w (Bo.segs ⟨tk,nx,wa,ca,cc,C,ha,hc,Hs,ra,rc,R⟩)) (hf:Bo.fit ⟨tk,nx,wa,ca,cc,C,ha,hc,Hs,ra,rc,R⟩) (hl:Bo.len ⟨tk,nx,wa,ca,cc,C,ha,hc,Hs,ra,rc,R⟩) (kd ky ch tt am fe:Int) (ys:Bool) :
 Calls Tryz.prog 6 #[Bo.v ⟨tk,nx,wa,ca,cc,C,ha,hc,Hs,ra,rc,R⟩,evV kd ky ch tt am fe ys] w fun e w'=>∃ B' a cap,e=.returned (.tuple #[Bo.v B',.agg #[.int .i64 (pidV (appC ⟨tk,nx,wa,C,Hs,R⟩ kd ky ch tt am fe ys) (evK ⟨tk,nx,wa,C,Hs,R⟩ kd ky ch tt am fe ys) (evL ⟨tk,nx,wa,C,Hs,R⟩ kd ky ch tt am fe ys)),.slice a (linV (appC ⟨tk,nx,wa,C,Hs,R⟩ kd ky ch tt am fe ys) (evL ⟨tk,nx,wa,C,Hs,R⟩ kd ky ch tt am fe ys)).length cap],.int .i64 (appC ⟨tk,nx,wa,C,Hs,R⟩ kd ky ch tt am fe ys)])∧B'.d=outB (appC ⟨tk,nx,wa,C,Hs,R⟩ kd ky ch tt am fe ys) (evK ⟨tk,nx,wa,C,Hs,R⟩ kd ky ch tt am fe ys) (evL ⟨tk,nx,wa,C,Hs,R⟩ kd ky ch tt am fe ys)∧ApplyR w w' B' a cap (linV (appC ⟨tk,nx,wa,C,Hs,R⟩ kd ky ch tt am fe ys) (evL ⟨tk,nx,wa,C,Hs,R⟩ kd ky ch tt am fe ys)):=by
 have HOK:=hide (fun w' (hk:Keeps w w')=>bookok_spec ⟨tk,nx,wa,ca,cc,C,ha,hc,Hs,ra,rc,R⟩ w' (hm.kept hk) hl)
 have HCP:=hide (fun w' (hk:Keeps w w')=>copy_spec ⟨tk,nx,wa,ca,cc,C,ha,hc,Hs,ra,rc,R⟩ w' (hm.kept hk) hf hl)
 have HAT:=hide (fun w' (hk:Keeps w w')=>at_spec ⟨tk,nx,wa,ca,cc,C,ha,hc,Hs,ra,rc,R⟩ ch w' (hm.kept hk) hl.1)
 have HMC:=hide (fun w' (hk:Keeps w w')=>Bo.memC (hm.kept hk))
 clear hm hf hl
 have HK:=hide (((((Keeps.refl w).alloc (.cells #[.int .i64 tk,.int .i64 nx,.int .i64 wa,.slice ca C.length cc,.slice ha Hs.length hc,.slice ra R.length rc] 34)).alloc (.cells #[.int .i64 kd,.int .i64 ky,.int .i64 ch,.int .i64 tt,.int .i64 am,.int .i64 fe,.bool ys] 41)).alloc (.cells #[.int .i64 0,.int .i64 0,.int .i64 0,.slice none 0 0,.slice none 0 0,.slice none 0 0] 34)).alloc (.cells #[.int .i64 0,.slice none 0 0] 37))
 have HRK:=hide ((((Keeps.refl _).alloc (.cells #[.int .i64 kd,.int .i64 ky,.int .i64 ch,.int .i64 tt,.int .i64 am,.int .i64 fe,.bool ys] 41)).alloc (.cells #[.int .i64 0,.int .i64 0,.int .i64 0,.slice none 0 0,.slice none 0 0,.slice none 0 0] 34)).alloc (.cells #[.int .i64 0,.slice none 0 0] 37) |>.rowK (row6_alloc w (.int .i64 tk) (.int .i64 nx) (.int .i64 wa) (.slice ca C.length cc) (.slice ha Hs.length hc) (.slice ra R.length rc) 34))
 have HRE:=hide (((Keeps.refl _).alloc (.cells #[.int .i64 0,.int .i64 0,.int .i64 0,.slice none 0 0,.slice none 0 0,.slice none 0 0] 34)).alloc (.cells #[.int .i64 0,.slice none 0 0] 37) |>.rowK (rw7_new (w.alloc (.cells #[.int .i64 tk,.int .i64 nx,.int .i64 wa,.slice ca C.length cc,.slice ha Hs.length hc,.slice ra R.length rc] 34)) (.int .i64 kd) (.int .i64 ky) (.int .i64 ch) (.int .i64 tt) (.int .i64 am) (.int .i64 fe) (.bool ys) 41))
 have HRB:=hide ((Keeps.refl _).alloc (.cells #[.int .i64 0,.slice none 0 0] 37) |>.rowK (row6_alloc ((w.alloc (.cells #[.int .i64 tk,.int .i64 nx,.int .i64 wa,.slice ca C.length cc,.slice ha Hs.length hc,.slice ra R.length rc] 34)).alloc (.cells #[.int .i64 kd,.int .i64 ky,.int .i64 ch,.int .i64 tt,.int .i64 am,.int .i64 fe,.bool ys] 41)) (.int .i64 0) (.int .i64 0) (.int .i64 0) (.slice none 0 0) (.slice none 0 0) (.slice none 0 0) 34))
 have HRP:=hide (rw2_new (((w.alloc (.cells #[.int .i64 tk,.int .i64 nx,.int .i64 wa,.slice ca C.length cc,.slice ha Hs.length hc,.slice ra R.length rc] 34)).alloc (.cells #[.int .i64 kd,.int .i64 ky,.int .i64 ch,.int .i64 tt,.int .i64 am,.int .i64 fe,.bool ys] 41)).alloc (.cells #[.int .i64 0,.int .i64 0,.int .i64 0,.slice none 0 0,.slice none 0 0,.slice none 0 0] 34)) (.int .i64 0) (.slice none 0 0) 37)
 simp only [size_alloc1] at HRE HRB HRP
 have HNE:Hid (w.heap.size+1+1≠w.heap.size+1+1+1):=by show _≠_;omega
 have HLE:Hid (w.heap.size≤w.heap.size+1+1∧w.heap.size≤w.heap.size+1+1+1):=⟨by omega,by omega⟩
 dsimp only [Bo.v,Bo.d,evV] at *
 go_enter Tryz.func6,Tryz.ntmps6
 go_upto_region 1 with fail
 try simp only [size_alloc1]
 generalize (((w.alloc (.cells #[.int .i64 tk,.int .i64 nx,.int .i64 wa,.slice ca C.length cc,.slice ha Hs.length hc,.slice ra R.length rc] 34)).alloc (.cells #[.int .i64 kd,.int .i64 ky,.int .i64 ch,.int .i64 tt,.int .i64 am,.int .i64 fe,.bool ys] 41)).alloc (.cells #[.int .i64 0,.int .i64 0,.int .i64 0,.slice none 0 0,.slice none 0 0,.slice none 0 0] 34)).alloc (.cells #[.int .i64 0,.slice none 0 0] 37)=w0 at *
 generalize w.heap.size+1+1+1=rp at *
 generalize w.heap.size+1+1=rb at *
 generalize w.heap.size+1=pe at *
 obtain ⟨pb,hpb⟩:∃ pb,pb=w.heap.size:=⟨_,rfl⟩
 rw [← hpb] at HRK
 try rw [← hpb]
 clear hpb
 obtain ⟨b0,b1,b2,b3,b4,b5⟩:=row6_cells HRK.out
 go_wp2_with fail
 refine (unhide HOK _ HK.out).mono ?_
 rintro e w1 ⟨rfl,hk⟩
 clear b0 b1 b2 b3 b4 b5 HOK
 replace HK:=hide (HK.out.trans hk)
 replace HRK:=hide (hk.rowK HRK.out)
 replace HRE:=hide (hk.rowK HRE.out)
 replace HRB:=hide (hk.rowK HRB.out)
 replace HRP:=hide (hk.rowK HRP.out)
 clear hk
 cases hb:bookB ⟨tk,nx,wa,C,Hs,R⟩ with
 | false =>
   have HC:Hid ((appC ⟨tk,nx,wa,C,Hs,R⟩ kd ky ch tt am fe ys)=1):=by show _=_;unfold appC;rw [if_pos hb]
   clear hb HCP HAT HMC
   obtain ⟨r0,r1,r2,r3,r4,r5⟩:=row6_cells HRB.out
   have f0:=HRB.out.frozen 0
   have f1:=HRB.out.frozen 1
   have f2:=HRB.out.frozen 2
   have f3:=HRB.out.frozen 3
   have f4:=HRB.out.frozen 4
   have f5:=HRB.out.frozen 5
   obtain ⟨s0,s1⟩:=rw2_cells HRP.out
   have g0:=HRP.out.frozen 0
   have g1:=HRP.out.frozen 1
   have hne1:=HNE.out
   have hne2:=Ne.symm HNE.out
   go_wp2_with fail
   have HA1:=hide (row_turn (row6_all HRB.out (.int .i64 0) (.int .i64 0) (.int .i64 0) (.slice none 0 0) (.slice none 0 0) (.slice none 0 0)) (rw2_turn _ rp (.int .i64 0) (.slice none 0 0)) (by simpa using HNE.out))
   have HA2:=hide (rw2_set (row_turn HRP.out (row6_turn w1 rb (.int .i64 0) (.int .i64 0) (.int .i64 0) (.slice none 0 0) (.slice none 0 0) (.slice none 0 0)) (by simpa using Ne.symm HNE.out)) (.int .i64 0) (.slice none 0 0))
   have HKF:=hide ((rw2_turn ((((((w1.setCell ⟨rb,0,none⟩ (.int .i64 0)).setCell ⟨rb,1,none⟩ (.int .i64 0)).setCell ⟨rb,2,none⟩ (.int .i64 0)).setCell ⟨rb,3,none⟩ (.slice none 0 0)).setCell ⟨rb,4,none⟩ (.slice none 0 0)).setCell ⟨rb,5,none⟩ (.slice none 0 0)) rp (.int .i64 0) (.slice none 0 0)).keeps ((row6_turn w1 rb (.int .i64 0) (.int .i64 0) (.int .i64 0) (.slice none 0 0) (.slice none 0 0) (.slice none 0 0)).keeps HK.out (fun q hq=>by rw [List.mem_singleton.1 hq];exact HLE.out.1)) (fun q hq=>by rw [List.mem_singleton.1 hq];exact HLE.out.2))
   clear r0 r1 r2 r3 r4 r5 f0 f1 f2 f3 f4 f5 s0 s1 g0 g1 hne1 hne2
   obtain ⟨p0,p1,p2,p3,p4,p5⟩:=row6_cells HA1.out
   obtain ⟨q0,q1⟩:=rw2_cells HA2.out
   clear HA1 HA2
   generalize ((((((((w1.setCell ⟨rb,0,none⟩ (.int .i64 0)).setCell ⟨rb,1,none⟩ (.int .i64 0)).setCell ⟨rb,2,none⟩ (.int .i64 0)).setCell ⟨rb,3,none⟩ (.slice none 0 0)).setCell ⟨rb,4,none⟩ (.slice none 0 0)).setCell ⟨rb,5,none⟩ (.slice none 0 0)).setCell ⟨rp,0,none⟩ (.int .i64 0)).setCell ⟨rp,1,none⟩ (.slice none 0 0))=wf at *
   refine bodyPost_ret (v:=.tuple #[.agg #[.int .i64 0,.int .i64 0,.int .i64 0,.slice none 0 0,.slice none 0 0,.slice none 0 0],.agg #[.int .i64 0,.slice none 0 0],.int .i64 1]) ?_ rfl ?_
   ·simp [results,Tryz.results6,go_sem,p0,p1,p2,p3,p4,p5,q0,q1]
   ·refine ⟨⟨0,0,0,none,0,[],none,0,[],none,0,[]⟩,none,0,?_,?_,?_⟩
    ·rw [HC.out];rfl
    ·rw [HC.out];rfl
    ·rw [HC.out];exact no_own HKF.out
 | true =>
   have HBB:=hide hb
   have HR:=hide (right_of hb)
   clear hb
   obtain ⟨e0,e1,e2,e3,e4,e5,e6⟩:=rw7_cells HRE.out
   go_wp2_with fail
   refine (evok_spec kd ky ch tt am fe ys w1).mono ?_
   rintro e w2 ⟨rfl,hk⟩
   clear e0 e1 e2 e3 e4 e5 e6
   replace HK:=hide (HK.out.trans hk)
   replace HRK:=hide (hk.rowK HRK.out)
   replace HRE:=hide (hk.rowK HRE.out)
   replace HRB:=hide (hk.rowK HRB.out)
   replace HRP:=hide (hk.rowK HRP.out)
   clear hk
   cases hok:evB kd ky ch tt am fe ys with
   | false =>
     have HC:Hid ((appC ⟨tk,nx,wa,C,Hs,R⟩ kd ky ch tt am fe ys)=1):=by show _=_;unfold appC;rw [HBB.out,if_neg (by decide),app_no hok]
     clear hok HCP HAT HMC HR HBB
     obtain ⟨r0,r1,r2,r3,r4,r5⟩:=row6_cells HRB.out
     have f0:=HRB.out.frozen 0
     have f1:=HRB.out.frozen 1
     have f2:=HRB.out.frozen 2
     have f3:=HRB.out.frozen 3
     have f4:=HRB.out.frozen 4
     have f5:=HRB.out.frozen 5
     obtain ⟨s0,s1⟩:=rw2_cells HRP.out
     have g0:=HRP.out.frozen 0
     have g1:=HRP.out.frozen 1
     have hne1:=HNE.out
     have hne2:=Ne.symm HNE.out
     go_wp2_with fail
     have HA1:=hide (row_turn (row6_all HRB.out (.int .i64 0) (.int .i64 0) (.int .i64 0) (.slice none 0 0) (.slice none 0 0) (.slice none 0 0)) (rw2_turn _ rp (.int .i64 0) (.slice none 0 0)) (by simpa using HNE.out))
     have HA2:=hide (rw2_set (row_turn HRP.out (row6_turn w2 rb (.int .i64 0) (.int .i64 0) (.int .i64 0) (.slice none 0 0) (.slice none 0 0) (.slice none 0 0)) (by simpa using Ne.symm HNE.out)) (.int .i64 0) (.slice none 0 0))
     have HKF:=hide ((rw2_turn ((((((w2.setCell ⟨rb,0,none⟩ (.int .i64 0)).setCell ⟨rb,1,none⟩ (.int .i64 0)).setCell ⟨rb,2,none⟩ (.int .i64 0)).setCell ⟨rb,3,none⟩ (.slice none 0 0)).setCell ⟨rb,4,none⟩ (.slice none 0 0)).setCell ⟨rb,5,none⟩ (.slice none 0 0)) rp (.int .i64 0) (.slice none 0 0)).keeps ((row6_turn w2 rb (.int .i64 0) (.int .i64 0) (.int .i64 0) (.slice none 0 0) (.slice none 0 0) (.slice none 0 0)).keeps HK.out (fun q hq=>by rw [List.mem_singleton.1 hq];exact HLE.out.1)) (fun q hq=>by rw [List.mem_singleton.1 hq];exact HLE.out.2))
     clear r0 r1 r2 r3 r4 r5 f0 f1 f2 f3 f4 f5 s0 s1 g0 g1 hne1 hne2
     obtain ⟨p0,p1,p2,p3,p4,p5⟩:=row6_cells HA1.out
     obtain ⟨q0,q1⟩:=rw2_cells HA2.out
     clear HA1 HA2
     generalize ((((((((w2.setCell ⟨rb,0,none⟩ (.int .i64 0)).setCell ⟨rb,1,none⟩ (.int .i64 0)).setCell ⟨rb,2,none⟩ (.int .i64 0)).setCell ⟨rb,3,none⟩ (.slice none 0 0)).setCell ⟨rb,4,none⟩ (.slice none 0 0)).setCell ⟨rb,5,none⟩ (.slice none 0 0)).setCell ⟨rp,0,none⟩ (.int .i64 0)).setCell ⟨rp,1,none⟩ (.slice none 0 0))=wf at *
     refine bodyPost_ret (v:=.tuple #[.agg #[.int .i64 0,.int .i64 0,.int .i64 0,.slice none 0 0,.slice none 0 0,.slice none 0 0],.agg #[.int .i64 0,.slice none 0 0],.int .i64 1]) ?_ rfl ?_
     ·simp [results,Tryz.results6,go_sem,p0,p1,p2,p3,p4,p5,q0,q1]
     ·refine ⟨⟨0,0,0,none,0,[],none,0,[],none,0,[]⟩,none,0,?_,?_,?_⟩
      ·rw [HC.out];rfl
      ·rw [HC.out];rfl
      ·rw [HC.out];exact no_own HKF.out
   | true =>
     have HC:Hid ((appC ⟨tk,nx,wa,C,Hs,R⟩ kd ky ch tt am fe ys)=applyC ⟨tk,nx,wa,C,Hs,R⟩ kd ky ch tt am fe ys):=by show _=_;unfold appC;rw [HBB.out,if_neg (by decide)]
     have HOK:=hide hok
     clear hok
     obtain ⟨b0,b1,b2,b3,b4,b5⟩:=row6_cells HRK.out
     go_wp2_with fail
     refine (unhide HCP _ HK.out).mono ?_
     rintro e w3 ⟨g1,c1,g2,c2,g3,c3,rfl,hcp⟩
     clear b0 b1 b2 b3 b4 b5 HCP
     have HW:=hide (WkAt.new hcp)
     clear hcp
     go_upto_region 4 with fail
     generalize w3.alloc (.cells #[.int .i64 tk,.int .i64 nx,.int .i64 wa,.slice (some ⟨g1,0,none⟩) C.length c1,.slice (some ⟨g2,0,none⟩) Hs.length c2,.slice (some ⟨g3,0,none⟩) R.length c3,.slice none 0 0,.int .i64 0] 71)=w4 at *
     generalize w3.heap.size=p at *
     obtain ⟨b0,b1,b2,b3,b4,b5⟩:=row6_cells (HW.out.keep.rowK HRK.out)
     go_wp2_with fail
     refine (code_spec w2 w4 p _ (nx==1125899906842624) 2 HW.out).mono ?_
     rintro e w5 ⟨rfl,hw⟩
     clear b0 b1 b2 b3 b4 b5 HW
     obtain ⟨c,hcE⟩:∃ c,c=applyC ⟨tk,nx,wa,C,Hs,R⟩ kd ky ch tt am fe ys:=⟨_,rfl⟩
     obtain ⟨K,hKE⟩:∃ K,K=evK ⟨tk,nx,wa,C,Hs,R⟩ kd ky ch tt am fe ys:=⟨_,rfl⟩
     obtain ⟨L,hLE⟩:∃ L,L=evL ⟨tk,nx,wa,C,Hs,R⟩ kd ky ch tt am fe ys:=⟨_,rfl⟩
     rw [← hcE] at HC
     have HCE:=hide hcE
     have HKE:=hide hKE
     have HLE2:=hide hLE
     clear hcE hKE hLE
     obtain ⟨k5,hk5⟩:∃ k5,k5=codeV ⟨tk,nx,wa,g1,c1,C,g2,c2,Hs,g3,c3,R,none,0,[],0⟩ (nx==1125899906842624) 2:=⟨_,rfl⟩
     rw [← hk5] at hw
     have HW:=hide hw
     have HK5:=hide hk5
     have c7:=hw.cells.2.2.2.2.2.2.2
     clear hw hk5
     obtain ⟨cd,hcd⟩:∃ cd,cd=k5.cd:=⟨_,rfl⟩
     rw [← hcd] at c7
     have HCD:=hide hcd
     clear hcd
     go_upto_if 36 with fail
     go_cut [] from 8 (fun w'=>Hid (Ends w2 w' p c K L))
     case first =>
      by_cases hnx:nx=1125899906842624
      ·have e1:cd=2:=by rw [HCD.out,HK5.out];simp [codeV,hnx]
       have hd:(cd==0)=false:=by rw [e1];rfl
       go_wp2_with fail
       go_meet
       case rel =>
        show Ends _ _ _ _ _ _
        exact ⟨k5,HW.out,by rw [← HCD.out,e1,HCE.out,app_max HOK.out hnx],fun h=>absurd h (by rw [HCE.out,app_max HOK.out hnx];decide)⟩
      ·have e1:k5=⟨tk,nx,wa,g1,c1,C,g2,c2,Hs,g3,c3,R,none,0,[],0⟩:=by rw [HK5.out];simp [codeV,hnx]
       subst e1
       have e2:cd=0:=HCD.out
       subst e2
       have HNX:=hide hnx
       clear hnx HCD HK5
       have HREC:=hide (HW.out.keep.rowK HRE.out)
       have HRKC:=hide (HW.out.keep.rowK HRK.out)
       have HKW:=hide (HK.out.trans HW.out.keep)
       have hd:((0:Int)==0)=true:=rfl
       rcases evB_kind HOK.out with rfl | rfl | rfl | rfl | rfl | rfl | rfl | rfl | rfl | rfl | rfl
       ·obtain ⟨e0,e1,e2,e3,e4,e5,e6⟩:=rw7_cells HREC.out
        obtain ⟨b0,b1,b2,b3,b4,b5⟩:=row6_cells HRKC.out
        go_wp2_with fail
        refine (addAmt_spec wa am _).mono ?_
        rintro e wz ⟨rfl,hz⟩
        obtain rfl:=Eq.symm hz
        clear hz
        cases hadd:addB wa am with
        | false =>
          have hd1:(!false)=true:=rfl
          go_wp2_with fail
          refine (code_yes w2 w5 p _ 2 rfl (by decide) HW.out).mono ?_
          rintro e w6 ⟨rfl,hw,ht⟩
          have HE:Hid (Ends w2 w6 p c K L):=by
           show Ends _ _ _ _ _ _
           rw [HCE.out,app1_no HOK.out HNX.out HR.out.wa hadd]
           exact ⟨_,hw,rfl,fun h=>absurd h (by decide)⟩
          clear hw ht
          go_wp2_with fail
          go_meet
          case rel=>exact HE
        | true =>
          have hv:addV wa am=wa+am:=by simp [addV,hadd]
          rw [hv]
          clear hv
          have HAD:=hide hadd
          clear hadd
          go_wp2_with fail
          refine (code_no w2 w5 p _ 2 rfl HW.out).mono ?_
          rintro e w6 ⟨rfl,hk⟩
          have HW6:=hide (HW.out.kept hk)
          have f2:=HW6.out.row.frozen 2
          have c2:=HW6.out.cells.2.2.1
          have HW7:=hide (HW6.out.setWa (wa+am))
          clear hk e0 e1 e2 e3 e4 e5 e6 b0 b1 b2 b3 b4 b5 c7
          go_upto_region 11 with fail
          clear c2 f2 HW6
          generalize w6.setCell ⟨p,2,none⟩ (.int .i64 (wa+am))=w7 at *
          have HG:Hid (Gp w2 w7 p ⟨tk,nx,wa+am,C,Hs,R⟩ []):=⟨_,HW7.out,rfl,rfl,rfl⟩
          have e4:=(rw7_cells (HW7.out.keep.rowK HRE.out)).2.2.2.2.1
          go_wp2_with fail
          refine (line_gp HG.out 1 0 am 0 Gentle.nil (by decide) (by have:=((evB_am HOK.out).1).1;omega) (by have:=((evB_am HOK.out).1).2;omega)).mono ?_
          rintro e w8 ⟨rfl,hg,hc8⟩
          have HG8:=hide hg
          have e4':=hc8 pe 4 _ (by have h1:=HRE.out.lt;have h2:=HW.out.hp;omega) e4
          clear hg hc8 e4
          obtain ⟨ham0,ham1⟩:=(evB_am HOK.out).1
          go_wp2_with fail
          refine (line_gp HG8.out 2 0 (-am) 1 (Gentle.nil.line 1 0 am (by have:=((evB_am HOK.out).1).1;omega) (by have:=((evB_am HOK.out).1).2;omega)) (by decide) (by have:=((evB_am HOK.out).1).2;omega) (by have:=((evB_am HOK.out).1).1;omega)).mono ?_
          rintro e w9 ⟨rfl,hg,hc9⟩
          have HE:Hid (Ends w2 w9 p c K L):=by
           show Ends _ _ _ _ _ _
           rw [HCE.out,HKE.out,HLE2.out,app1_yes HOK.out HNX.out HAD.out]
           exact hg.ends rfl
          clear hg hc9 e4'
          go_wp2_with fail
          go_meet
          case rel=>exact HE
       ·obtain ⟨e0,e1,e2,e3,e4,e5,e6⟩:=rw7_cells HREC.out
        go_wp2_with fail
        refine (open_spec w2 w5 p _ HW.out rfl 2 ky ch tt am fe ys HR.out.lC rfl HR.out.wa ((evB_am HOK.out).1) ((evB_am HOK.out).2.1)).mono ?_
        rintro e w6 ⟨rfl,hE⟩
        have HE:Hid (Ends w2 w6 p c K L):=by show Ends _ _ _ _ _ _;rw [HCE.out,HKE.out,HLE2.out,app2 HOK.out HNX.out];exact hE
        clear hE
        go_wp2_with fail
        go_meet
        case rel=>exact HE
       ·obtain ⟨e0,e1,e2,e3,e4,e5,e6⟩:=rw7_cells HREC.out
        obtain ⟨b0,b1,b2,b3,b4,b5⟩:=row6_cells HRKC.out
        go_wp2_with fail
        refine (unhide HAT _ HKW.out).mono ?_
        rintro e w6 ⟨rfl,hk⟩
        replace HW:=hide (HW.out.kept hk)
        clear hk c7
        clear e0 e1 e2 e3 e4 e5 e6 b0 b1 b2 b3 b4 b5 HREC HRKC HKW
        have HREC:=hide (HW.out.keep.rowK HRE.out)
        have HRKC:=hide (HW.out.keep.rowK HRK.out)
        have HKW:=hide (HK.out.trans HW.out.keep)
        dsimp only
        cases hat:atC C ch with
        | none =>
          rw [atI_none hat]
          have hd2:decide ((0:Int)≤-1)=false:=by decide
          have hat':=hide hat
          clear hat
          have c7:=HW.out.cells.2.2.2.2.2.2.2
          obtain ⟨e0,e1,e2,e3,e4,e5,e6⟩:=rw7_cells HREC.out
          go_wp2_with fail
          refine (close_spec w2 w6 p _ HW.out rfl 3 ky ch tt am fe ys HR.out.lC HR.out.lH HR.out.lR rfl HR.out.cA HR.out.wa ((evB_am HOK.out).2.1)).mono ?_
          rintro e wq ⟨rfl,hE⟩
          have HE:Hid (Ends w2 wq p c K L):=by show Ends _ _ _ _ _ _;rw [HCE.out,HKE.out,HLE2.out,app3 HOK.out HNX.out (.inl hat'.out)];exact hE
          clear hE
          go_wp2_with fail
          go_meet
          case rel=>exact HE
        | some i =>
          rw [atI_some hat]
          obtain ⟨hi,-⟩:=atC_lt hat
          have hlo:=loC_at hat hi
          have hbl:=(HR.out.cA _ (List.getElem_mem hi)).1
          obtain ⟨b,off,hca,q0,q1,q2,-,-,-,-⟩:=chs_at (unhide HMC _ HK.out) i hi
          subst hca
          have HBL:Hid (b < w2.heap.size):=lt_of_cell q2
          have q2:=HW.out.keep.cell q2
          have HAT2:=hide hat
          clear hat
          have hzz:i*7+7≤C.length*7:=by omega
          have hi0:(0:Int)≤(i:Int):=by omega
          have hi1:(i:Int) < (C.length:Int):=by omega
          have hd2:decide ((0:Int)≤(i:Int))=true:=by simp
          generalize C[i].lo=lo at *
          have HLO:=hide hlo
          clear hlo
          go_upto_region 18 with fail
          obtain ⟨e0,e1,e2,e3,e4,e5,e6⟩:=rw7_cells HREC.out
          obtain ⟨b0,b1,b2,b3,b4,b5⟩:=row6_cells HRKC.out
          have HSS:Hid (w6.cell? ⟨pb,2,none⟩=some (.int .i64 wa)∧w6.cell? ⟨pb,3,none⟩=some (.slice (some ⟨b,off,none⟩) C.length cc)∧w6.cell? ⟨pe,5,none⟩=some (.int .i64 fe)∧w6.cell? ⟨b,off+i*7+2,none⟩=some (.int .i64 lo)):=⟨b2,b3,e5,q2⟩
          clear e0 e1 e2 e3 e4 e5 e6 b0 b1 b2 b3 b4 b5 q0 q1 q2
          obtain ⟨hw0,hw1⟩:=HR.out.wa
          obtain ⟨hf0,hf1⟩:=(evB_am HOK.out).2.1
          obtain ⟨hb0,hb1⟩:=hbl
          dsimp only at hw0 hw1
          refine wp_region_perm [(false,0),(false,1),(false,2),(false,3),(false,4),(false,5),(false,6),(false,7),(false,8),(false,9),(false,10),(false,11),(false,12),(false,13),(true,14)] (fun w'=>w'.cell? ⟨pb,2,none⟩=some (.int .i64 wa)∧w'.cell? ⟨pb,3,none⟩=some (.slice (some ⟨b,off,none⟩) C.length cc)∧w'.cell? ⟨pe,5,none⟩=some (.int .i64 fe)∧w'.cell? ⟨b,off+i*7+2,none⟩=some (.int .i64 lo)) (by kernel_rfl) (by kernel_rfl) rfl rfl (fun _ _ d _ _ h=>by cases d <;> exact h) (by obtain ⟨h1,h2,h3,h4⟩:=HSS.out;exact ⟨h1,h2,h3,h4⟩) ?_
          replace HSS:Hid (w6.drew.cell? ⟨pb,2,none⟩=some (.int .i64 wa)∧w6.drew.cell? ⟨pb,3,none⟩=some (.slice (some ⟨b,off,none⟩) C.length cc)∧w6.drew.cell? ⟨pe,5,none⟩=some (.int .i64 fe)∧w6.drew.cell? ⟨b,off+i*7+2,none⟩=some (.int .i64 lo)):=by obtain ⟨h1,h2,h3,h4⟩:=HSS.out;exact ⟨h1,h2,h3,h4⟩
          replace HW:=hide (HW.out.kept (Keeps.refl w6).drew)
          generalize w6.drew=w6 at *
          repeat (first
           | (refine wpPerm_no (by rfl) ?_
              try simp only [Act.put,List.setIfInBounds_toArray,List.set_cons_zero,List.set_cons_succ])
           | (refine wpPerm_yes (v:=?_) (by rfl) ?_ ?_
              rotate_left
              ·intro w9 hS9
               obtain ⟨s0,s1,s2,s3⟩:=hS9
               go_simp
               with_reducible rfl
              try simp only [Act.put,List.setIfInBounds_toArray,List.set_cons_zero,List.set_cons_succ]))
          refine wpPerm_do (by rfl) ?_
          intro K9 hK9
          go_simp
          have hr1:IntKind.i64.wrap (wa+lo)=wa+lo:=by rw [IntKind.wrap_i64];omega
          have hr2:IntKind.i64.wrap (wa+lo-fe)=wa+lo-fe:=by rw [IntKind.wrap_i64];omega
          rw [hr1,hr2]
          clear hr1 hr2
          by_cases hov:1125899906842624 < wa+lo-fe
          ·rw [decide_eq_true hov]
           have HOV:Hid (1125899906842624 < wa+loC C ch-fe):=by show _ < _;rw [HLO.out];exact hov
           clear hov
           refine (code_yes w2 w6 p _ 2 rfl (by decide) HW.out).mono ?_
           rintro e w7 ⟨rfl,hw,ht⟩
           have hpp:=HW.out.hp
           have hpb:=HRK.out.lt
           have hpe:=HRE.out.lt
           have hbb:=HBL.out
           refine hK9.out _ _ (by obtain ⟨h1,h2,h3,h4⟩:=HSS.out;exact ⟨ht.cell (by simp;omega) h1,ht.cell (by simp;omega) h2,ht.cell (by simp;omega) h3,ht.cell (by simp;omega) h4⟩) ?_
           clear hK9 K9 hpp hpb hpe hbb
           try simp only [Act.put,List.setIfInBounds_toArray,List.set_cons_zero,List.set_cons_succ]
           refine wpPerm_end ?_
           have c7:=hw.cells.2.2.2.2.2.2.2
           have HE:Hid (Ends w2 w7 p c K L):=by
            show Ends _ _ _ _ _ _
            rw [HCE.out,app3_past HOK.out HNX.out (by show atC C ch≠none;rw [HAT2.out];simp) HOV.out]
            exact ⟨_,hw,rfl,fun h=>absurd h (by decide)⟩
           clear hw ht
           go_wp2_with fail
           go_meet
           case rel=>exact HE
          ·rw [decide_eq_false hov]
           have HOV:Hid (wa+loC C ch-fe≤1125899906842624):=by show _≤_;rw [HLO.out];omega
           clear hov
           refine (code_no w2 w6 p _ 2 rfl HW.out).mono ?_
           rintro e w7 ⟨rfl,hk⟩
           replace HW:=hide (HW.out.kept hk)
           refine hK9.out _ _ (by obtain ⟨h1,h2,h3,h4⟩:=HSS.out;exact ⟨hk.cell h1,hk.cell h2,hk.cell h3,hk.cell h4⟩) ?_
           clear hK9 K9 hk HREC
           try simp only [Act.put,List.setIfInBounds_toArray,List.set_cons_zero,List.set_cons_succ]
           refine wpPerm_end ?_
           have HREC:=hide (HW.out.keep.rowK HRE.out)
           have c7:=HW.out.cells.2.2.2.2.2.2.2
           obtain ⟨e0,e1,e2,e3,e4,e5,e6⟩:=rw7_cells HREC.out
           go_wp2_with fail
           refine (close_spec w2 w7 p _ HW.out rfl 3 ky ch tt am fe ys HR.out.lC HR.out.lH HR.out.lR rfl HR.out.cA HR.out.wa ((evB_am HOK.out).2.1)).mono ?_
           rintro e wq ⟨rfl,hE⟩
           have HE:Hid (Ends w2 wq p c K L):=by show Ends _ _ _ _ _ _;rw [HCE.out,HKE.out,HLE2.out,app3 HOK.out HNX.out (.inr HOV.out)];exact hE
           clear hE
           go_wp2_with fail
           go_meet
           case rel=>exact HE
       ·obtain ⟨e0,e1,e2,e3,e4,e5,e6⟩:=rw7_cells HREC.out
        obtain ⟨b0,b1,b2,b3,b4,b5⟩:=row6_cells HRKC.out
        go_wp2_with fail
        refine (unhide HAT _ HKW.out).mono ?_
        rintro e w6 ⟨rfl,hk⟩
        replace HW:=hide (HW.out.kept hk)
        clear hk c7
        clear e0 e1 e2 e3 e4 e5 e6 b0 b1 b2 b3 b4 b5 HREC HRKC HKW
        have HREC:=hide (HW.out.keep.rowK HRE.out)
        have HRKC:=hide (HW.out.keep.rowK HRK.out)
        have HKW:=hide (HK.out.trans HW.out.keep)
        dsimp only
        cases hat:atC C ch with
        | none =>
          rw [atI_none hat]
          have hd2:decide ((-1:Int) < 0)=true:=by decide
          have hat':=hide hat
          clear hat
          go_wp2_with fail
          refine (code_yes w2 w6 p _ 6 rfl (by decide) HW.out).mono ?_
          rintro e w7 ⟨rfl,hw,ht⟩
          have HE:Hid (Ends w2 w7 p c K L):=by
           show Ends _ _ _ _ _ _
           rw [HCE.out,app4 HOK.out HNX.out,show priceK ⟨tk,nx,wa,C,Hs,R⟩ ch=6 from if_pos hat'.out]
           exact ⟨_,hw,rfl,fun h=>absurd h (by decide)⟩
          clear hw ht
          go_wp2_with fail
          go_meet
          case rel=>exact HE
        | some i =>
          rw [atI_some hat]
          obtain ⟨hi,-⟩:=atC_lt hat
          have HAT2:=hide hat
          clear hat
          have hd2:decide ((i:Int) < 0)=false:=by simp
          go_wp2_with fail
          refine (code_no w2 w6 p _ 6 rfl HW.out).mono ?_
          rintro e w7 ⟨rfl,hk⟩
          replace HW:=hide (HW.out.kept hk)
          clear hk
          have k3:=HW.out.cells.2.2.2.1
          have e4:=(rw7_cells (HW.out.keep.rowK HRE.out)).2.2.2.2.1
          have q4:=(HW.out.oC.at i hi).2.2.2.2.1
          have f4:=HW.out.oC.frz (i*7+4)
          have hzz:i*7+7≤C.length*7:=by omega
          have hi0:(0:Int)≤(i:Int):=by omega
          have hi1:(i:Int) < (C.length:Int):=by omega
          go_upto_region 24 with fail
          go_region
          have hs:=HW.out.oC.set4 i hi am
          have HW8:=hide ((HW.out.setC hs.2 hs.1 (by simp)).kept (Keeps.refl _).drew)
          clear hs k3 e4 q4 f4
          generalize (w7.setCell ⟨g1,i*7+4,none⟩ (.int .i64 am)).drew=w8 at *
          have HCI:Hid (i < (C.set i ⟨C[i].id,C[i].sz,C[i].lo,C[i].re,am,C[i].pp,C[i].sc⟩).length):=by show _ < _;rw [List.length_set];exact hi
          have k3:=HW8.out.cells.2.2.2.1
          have e5:=(rw7_cells (HW8.out.keep.rowK HRE.out)).2.2.2.2.2.1
          have q5:=(HW8.out.oC.at i HCI.out).2.2.2.2.2.1
          have f5:=HW8.out.oC.frz (i*7+5)
          dsimp only at k3 q5 f5
          rw [List.length_set] at k3
          go_upto_region 25 with fail
          go_region
          have hs:=HW8.out.oC.set5 i HCI.out fe
          have HW9:=hide ((HW8.out.setC hs.2 hs.1 (by simp)).kept (Keeps.refl _).drew)
          clear hs k3 e5 q5 f5
          generalize (w8.setCell ⟨g1,i*7+5,none⟩ (.int .i64 fe)).drew=w9 at *
          have HE:Hid (Ends w2 w9 p c K L):=by
           show Ends _ _ _ _ _ _
           rw [HCE.out,HKE.out,HLE2.out,app4 HOK.out HNX.out,show priceK ⟨tk,nx,wa,C,Hs,R⟩ ch=0 from if_neg (by show ¬ atC C ch=none;rw [HAT2.out];simp)]
           refine ⟨_,HW9.out,rfl,fun _=>⟨?_,rfl⟩⟩
           show Wk.bk _=priceB ⟨tk,nx,wa,C,Hs,R⟩ ch am fe
           unfold priceB Wk.bk
           rw [HAT2.out]
           simp [modify_at _ _ _ hi]
          go_wp2_with fail
          go_meet
          case rel=>exact HE
       ·obtain ⟨e0,e1,e2,e3,e4,e5,e6⟩:=rw7_cells HREC.out
        go_wp2_with fail
        refine (admit_spec w2 w5 p _ HW.out rfl 5 ky ch tt am fe ys HR.out.lC HR.out.lH HR.out.lR rfl HR.out.small HR.out.cA ((evB_am HOK.out).1)).mono ?_
        rintro e w6 ⟨rfl,hE⟩
        have HE:Hid (Ends w2 w6 p c K L):=by show Ends _ _ _ _ _ _;rw [HCE.out,HKE.out,HLE2.out,app5 HOK.out HNX.out];exact hE
        clear hE
        go_wp2_with fail
        go_meet
        case rel=>exact HE
       ·obtain ⟨e0,e1,e2,e3,e4,e5,e6⟩:=rw7_cells HREC.out
        go_wp2_with fail
        refine (settle_spec w2 w5 p _ HW.out rfl ky true HR.out.lC HR.out.lH rfl HR.out.cA (fun x hx=>⟨(HR.out.hA x hx).1,(HR.out.hA x hx).2.1,by have:=(HR.out.hA x hx).2.2;omega⟩)).mono ?_
        rintro e w6 ⟨rfl,hE⟩
        have HE:Hid (Ends w2 w6 p c K L):=by show Ends _ _ _ _ _ _;rw [HCE.out,HKE.out,HLE2.out,app6 HOK.out HNX.out];exact hE
        clear hE
        go_wp2_with fail
        go_meet
        case rel=>exact HE
       ·obtain ⟨e0,e1,e2,e3,e4,e5,e6⟩:=rw7_cells HREC.out
        go_wp2_with fail
        refine (settle_spec w2 w5 p _ HW.out rfl ky false HR.out.lC HR.out.lH rfl HR.out.cA (fun x hx=>⟨(HR.out.hA x hx).1,(HR.out.hA x hx).2.1,by have:=(HR.out.hA x hx).2.2;omega⟩)).mono ?_
        rintro e w6 ⟨rfl,hE⟩
        have HE:Hid (Ends w2 w6 p c K L):=by show Ends _ _ _ _ _ _;rw [HCE.out,HKE.out,HLE2.out,app7 HOK.out HNX.out];exact hE
        clear hE
        go_wp2_with fail
        go_meet
        case rel=>exact HE
       ·obtain ⟨e0,e1,e2,e3,e4,e5,e6⟩:=rw7_cells HREC.out
        go_wp2_with fail
        refine (tick_spec w2 w5 p _ HW.out rfl (Nat.le_trans HR.out.lC (by decide)) (Nat.le_trans HR.out.lH (by decide)) HR.out.tk.1 HR.out.tk.2 (fun x hx=>(HR.out.hG x hx).1)).mono ?_
        rintro e w6 ⟨rfl,hE⟩
        have HE:Hid (Ends w2 w6 p c K L):=by show Ends _ _ _ _ _ _;rw [HCE.out,HKE.out,HLE2.out,app8 HOK.out HNX.out];exact hE
        clear hE
        go_wp2_with fail
        go_meet
        case rel=>exact HE
       ·obtain ⟨e0,e1,e2,e3,e4,e5,e6⟩:=rw7_cells HREC.out
        go_wp2_with fail
        refine (launch_spec w2 w5 p _ HW.out rfl 9 ky ch tt am fe ys HR.out.lC HR.out.lH HR.out.lR rfl HR.out.cA ((evB_am HOK.out).1) ((evB_am HOK.out).2.1)).mono ?_
        rintro e w6 ⟨rfl,hE⟩
        have HE:Hid (Ends w2 w6 p c K L):=by show Ends _ _ _ _ _ _;rw [HCE.out,HKE.out,HLE2.out,app9 HOK.out HNX.out];exact hE
        clear hE
        go_wp2_with fail
        go_meet
        case rel=>exact HE
       ·obtain ⟨e0,e1,e2,e3,e4,e5,e6⟩:=rw7_cells HREC.out
        go_wp2_with fail
        refine (land_spec w2 w5 p _ HW.out rfl ky true HR.out.lC HR.out.lR rfl HR.out.cA (fun x hx=>⟨(HR.out.rA x hx).1,by have:=(HR.out.rA x hx).2.1;omega,(HR.out.rA x hx).2.2⟩)).mono ?_
        rintro e w6 ⟨rfl,hE⟩
        have HE:Hid (Ends w2 w6 p c K L):=by show Ends _ _ _ _ _ _;rw [HCE.out,HKE.out,HLE2.out,app10 HOK.out HNX.out];exact hE
        clear hE
        go_wp2_with fail
        go_meet
        case rel=>exact HE
       ·obtain ⟨e0,e1,e2,e3,e4,e5,e6⟩:=rw7_cells HREC.out
        go_wp2_with fail
        refine (land_spec w2 w5 p _ HW.out rfl ky false HR.out.lC HR.out.lR rfl HR.out.cA (fun x hx=>⟨(HR.out.rA x hx).1,by have:=(HR.out.rA x hx).2.1;omega,(HR.out.rA x hx).2.2⟩)).mono ?_
        rintro e w6 ⟨rfl,hE⟩
        have HE:Hid (Ends w2 w6 p c K L):=by show Ends _ _ _ _ _ _;rw [HCE.out,HKE.out,HLE2.out,app11 HOK.out HNX.out];exact hE
        clear hE
        go_wp2_with fail
        go_meet
        case rel=>exact HE
     case rest =>
      obtain ⟨⟨tk2,nx2,wa2,gC,cC,C2,gH,cH,H2,gR,cR,R2,la,lc,L2,cd2⟩,hw,hcd,heq⟩:=hcut.out
      have hcd:=hcd.symm
      dsimp only at hcd
      subst hcd
      clear hcut HW HK5 HCD c7 HAT HMC HBB HRK HRE HOK HCE k5 cd
      have HLT:Hid (rb < w2.heap.size∧rp < w2.heap.size):=⟨HRB.out.lt,HRP.out.lt⟩
      have HWW:Hid (w.heap.size≤w2.heap.size):=HK.out.size
      have HPB:Hid (w2.heap.size≤p):=hw.hp
      have HW:=hide hw
      have HEQ:=hide heq
      replace HK:=hide (HK.out.trans hw.keep)
      replace HRB:=hide (hw.keep.rowK HRB.out)
      replace HRP:=hide (hw.keep.rowK HRP.out)
      have hp1:p≠rb:=by have h1:=HLT.out;have h2:=hw.hp;omega
      have hp2:p≠rp:=by have h1:=HLT.out;have h2:=hw.hp;omega
      obtain ⟨a0,a1,a2,a3,a4,a5,a6,a7⟩:=hw.cells
      clear hw heq
      dsimp only at a0 a1 a2 a3 a4 a5 a6 a7
      by_cases hc0:c=0
      rotate_left
      ·have HC0:=hide hc0
       have hd9:(c != 0)=true:=by simpa using hc0
       clear a0 a1 a2 a3 a4 a5 a6
       obtain ⟨r0,r1,r2,r3,r4,r5⟩:=row6_cells HRB.out
       have f0:=HRB.out.frozen 0
       have f1:=HRB.out.frozen 1
       have f2:=HRB.out.frozen 2
       have f3:=HRB.out.frozen 3
       have f4:=HRB.out.frozen 4
       have f5:=HRB.out.frozen 5
       obtain ⟨s0,s1⟩:=rw2_cells HRP.out
       have g0:=HRP.out.frozen 0
       have g1:=HRP.out.frozen 1
       have hne1:=HNE.out
       have hne2:=Ne.symm HNE.out
       go_upto_region 39 with fail
       go_region
       have HA1:=hide (row_turn (row6_all HRB.out (.int .i64 0) (.int .i64 0) (.int .i64 0) (.slice none 0 0) (.slice none 0 0) (.slice none 0 0)) (rw2_turn _ rp (.int .i64 0) (.slice none 0 0)) (by simpa using HNE.out)).drew
       have HA2:=hide (rw2_set (row_turn HRP.out (row6_turn wc rb (.int .i64 0) (.int .i64 0) (.int .i64 0) (.slice none 0 0) (.slice none 0 0) (.slice none 0 0)) (by simpa using Ne.symm HNE.out)) (.int .i64 0) (.slice none 0 0)).drew
       have HKF:=hide ((rw2_turn ((((((wc.setCell ⟨rb,0,none⟩ (.int .i64 0)).setCell ⟨rb,1,none⟩ (.int .i64 0)).setCell ⟨rb,2,none⟩ (.int .i64 0)).setCell ⟨rb,3,none⟩ (.slice none 0 0)).setCell ⟨rb,4,none⟩ (.slice none 0 0)).setCell ⟨rb,5,none⟩ (.slice none 0 0)) rp (.int .i64 0) (.slice none 0 0)).keeps ((row6_turn wc rb (.int .i64 0) (.int .i64 0) (.int .i64 0) (.slice none 0 0) (.slice none 0 0) (.slice none 0 0)).keeps HK.out (fun q hq=>by rw [List.mem_singleton.1 hq];exact HLE.out.1)) (fun q hq=>by rw [List.mem_singleton.1 hq];exact HLE.out.2)).drew
       clear r0 r1 r2 r3 r4 r5 f0 f1 f2 f3 f4 f5 s0 s1 g0 g1 hne1 hne2
       obtain ⟨p0,p1,p2,p3,p4,p5⟩:=row6_cells HA1.out
       obtain ⟨q0,q1⟩:=rw2_cells HA2.out
       clear HA1 HA2
       generalize ((((((((wc.setCell ⟨rb,0,none⟩ (.int .i64 0)).setCell ⟨rb,1,none⟩ (.int .i64 0)).setCell ⟨rb,2,none⟩ (.int .i64 0)).setCell ⟨rb,3,none⟩ (.slice none 0 0)).setCell ⟨rb,4,none⟩ (.slice none 0 0)).setCell ⟨rb,5,none⟩ (.slice none 0 0)).setCell ⟨rp,0,none⟩ (.int .i64 0)).setCell ⟨rp,1,none⟩ (.slice none 0 0)).drew=wf at *
       go_wp2_with fail
       refine bodyPost_ret (v:=.tuple #[.agg #[.int .i64 0,.int .i64 0,.int .i64 0,.slice none 0 0,.slice none 0 0,.slice none 0 0],.agg #[.int .i64 0,.slice none 0 0],.int .i64 c]) ?_ rfl ?_
       ·simp [results,Tryz.results6,go_sem,p0,p1,p2,p3,p4,p5,q0,q1]
       ·refine ⟨⟨0,0,0,none,0,[],none,0,[],none,0,[]⟩,none,0,?_,?_,?_⟩
        ·rw [HC.out];simp [pidV,linV,HC0.out,Bo.v]
        ·rw [HC.out];simp [outB,HC0.out,Bo.d]
        ·rw [HC.out];simp only [linV,if_neg HC0.out];exact no_own HKF.out
      ·subst hc0
       have HKB:=hide (HEQ.out rfl).1
       have hLB:=(HEQ.out rfl).2
       dsimp only at hLB
       subst hLB
       clear HEQ
       have hd9:((0:Int) != 0)=false:=rfl
       by_cases hl0:L2=[]
       ·subst hl0
        have hd8:((([]:List Ln).length:Int)==0)=true:=rfl
        obtain ⟨r0,r1,r2,r3,r4,r5⟩:=row6_cells HRB.out
        have f0:=HRB.out.frozen 0
        have f1:=HRB.out.frozen 1
        have f2:=HRB.out.frozen 2
        have f3:=HRB.out.frozen 3
        have f4:=HRB.out.frozen 4
        have f5:=HRB.out.frozen 5
        obtain ⟨s0,s1⟩:=rw2_cells HRP.out
        have g0:=HRP.out.frozen 0
        have g1:=HRP.out.frozen 1
        have hne1:=HNE.out
        have hne2:=Ne.symm HNE.out
        go_upto_region 41 with fail
        go_wp2_with fail
        have T1:=row6_turn wc rb (.int .i64 tk2) (.int .i64 nx2) (.int .i64 wa2) (.slice (some ⟨gC,0,none⟩) C2.length cC) (.slice (some ⟨gH,0,none⟩) H2.length cH) (.slice (some ⟨gR,0,none⟩) R2.length cR)
        have T2:=rw2_turn ((((((wc.setCell ⟨rb,0,none⟩ (.int .i64 tk2)).setCell ⟨rb,1,none⟩ (.int .i64 nx2)).setCell ⟨rb,2,none⟩ (.int .i64 wa2)).setCell ⟨rb,3,none⟩ (.slice (some ⟨gC,0,none⟩) C2.length cC)).setCell ⟨rb,4,none⟩ (.slice (some ⟨gH,0,none⟩) H2.length cH)).setCell ⟨rb,5,none⟩ (.slice (some ⟨gR,0,none⟩) R2.length cR)) rp (.int .i64 0) (.slice none 0 0)
        have HA1:=hide (row_turn (row6_all HRB.out (.int .i64 tk2) (.int .i64 nx2) (.int .i64 wa2) (.slice (some ⟨gC,0,none⟩) C2.length cC) (.slice (some ⟨gH,0,none⟩) H2.length cH) (.slice (some ⟨gR,0,none⟩) R2.length cR)) T2 (by simpa using HNE.out))
        have HA2:=hide (rw2_set (row_turn HRP.out T1 (by simpa using Ne.symm HNE.out)) (.int .i64 0) (.slice none 0 0))
        have HKF:=hide (T2.keeps (T1.keeps HK.out (fun q hq=>by rw [List.mem_singleton.1 hq];exact HLE.out.1)) (fun q hq=>by rw [List.mem_singleton.1 hq];exact HLE.out.2))
        have HNN:∀ g,w2.heap.size≤g→g∉[rb]∧g∉[rp]:=fun g hg=>by
         have h1:=HLT.out
         refine ⟨?_,?_⟩ <;> simp only [List.mem_singleton] <;> omega
        have HW2:Hid (w.heap.size≤w2.heap.size):=HWW.out
        have HFC:=hide (owns_kept (owns_older (owns_turn (owns_turn HW.out.oC T1 fun g hg=>(HNN g (lb_of HW.out.oC hg)).1) T2 fun g hg=>(HNN g (lb_of HW.out.oC hg)).2) HW2.out) (Keeps.refl _))
        have HFH:=hide (owns_kept (owns_older (owns_turn (owns_turn HW.out.oH T1 fun g hg=>(HNN g (lb_of HW.out.oH hg)).1) T2 fun g hg=>(HNN g (lb_of HW.out.oH hg)).2) HW2.out) (Keeps.refl _))
        have HFR:=hide (owns_kept (owns_older (owns_turn (owns_turn HW.out.oR T1 fun g hg=>(HNN g (lb_of HW.out.oR hg)).1) T2 fun g hg=>(HNN g (lb_of HW.out.oR hg)).2) HW2.out) (Keeps.refl _))
        have HFL:=hide (owns_kept (owns_older (owns_turn (owns_turn HW.out.oL T1 fun g hg=>(HNN g (lb_of HW.out.oL hg)).1) T2 fun g hg=>(HNN g (lb_of HW.out.oL hg)).2) HW2.out) (Keeps.refl _))
        clear T1 T2 HNN HW2
        clear r0 r1 r2 r3 r4 r5 f0 f1 f2 f3 f4 f5 s0 s1 g0 g1 hne1 hne2
        obtain ⟨p0,p1,p2,p3,p4,p5⟩:=row6_cells HA1.out
        obtain ⟨q0,q1⟩:=rw2_cells HA2.out
        clear HA1 HA2
        generalize ((((((((wc.setCell ⟨rb,0,none⟩ (.int .i64 tk2)).setCell ⟨rb,1,none⟩ (.int .i64 nx2)).setCell ⟨rb,2,none⟩ (.int .i64 wa2)).setCell ⟨rb,3,none⟩ (.slice (some ⟨gC,0,none⟩) C2.length cC)).setCell ⟨rb,4,none⟩ (.slice (some ⟨gH,0,none⟩) H2.length cH)).setCell ⟨rb,5,none⟩ (.slice (some ⟨gR,0,none⟩) R2.length cR)).setCell ⟨rp,0,none⟩ (.int .i64 0)).setCell ⟨rp,1,none⟩ (.slice none 0 0))=wf at *
        refine bodyPost_ret (v:=.tuple #[.agg #[.int .i64 tk2,.int .i64 nx2,.int .i64 wa2,.slice (some ⟨gC,0,none⟩) C2.length cC,.slice (some ⟨gH,0,none⟩) H2.length cH,.slice (some ⟨gR,0,none⟩) R2.length cR],.agg #[.int .i64 0,.slice none 0 0],.int .i64 0]) ?_ rfl ?_
        ·simp [results,Tryz.results6,go_sem,p0,p1,p2,p3,p4,p5,q0,q1]
        ·have hnd:=HW.out.nd
         simp only [List.nodup_cons,List.mem_cons,not_or] at hnd
         obtain ⟨-,⟨m1,m2,m3⟩,⟨m4,m5⟩,m6,-⟩:=hnd
         refine ⟨⟨tk2,nx2,wa2,some ⟨gC,0,none⟩,cC,C2,some ⟨gH,0,none⟩,cH,H2,some ⟨gR,0,none⟩,cR,R2⟩,none,0,?_,?_,?_⟩
         ·rw [HC.out,← HKE.out,← HLE2.out];simp [pidV,linV,Bo.v]
         ·rw [HC.out,← HKE.out,← HLE2.out];have h:=HKB.out;simp only [Wk.bk] at h;simp only [outB,if_pos,Bo.d];exact h
         ·rw [HC.out,← HLE2.out]
          refine ⟨HKF.out,HFC.out,HFH.out,HFR.out,World.ownsRow_nil _ _ _ _,fun g hg=>?_,fun g hg=>?_,fun g hg=>?_⟩
          ·have e:g=gC:=by simpa [lb] using hg
           subst e
           exact ⟨by simpa [lb] using m1,by simpa [lb] using m2⟩
          ·have e:g=gH:=by simpa [lb] using hg
           subst e
           simpa [lb] using m4
          ·simp [lb] at hg
       ·have hd8:((L2.length:Int)==0)=false:=by
         have h:L2.length≠0:=fun h=>hl0 (List.length_eq_zero_iff.1 h)
         simp only [beq_eq_false_iff_ne,ne_eq]
         omega
        have hl9:L2≠[]:=hl0
        have HL0:=hide hl9
        clear hl0 hl9
        go_upto_region 42 with fail
        refine wp_region_perm [(false,0),(false,1),(false,2),(false,3),(false,4),(false,5),(false,6),(false,7),(false,8),(false,9),(true,10),(true,11)] (fun w'=>w'.cell? ⟨p,1,none⟩=some (.int .i64 nx2)∧w'.cell? ⟨p,6,none⟩=some (.slice la L2.length lc)) (by kernel_rfl) (by kernel_rfl) rfl rfl (fun _ _ d _ _ h=>by cases d <;> exact h) ⟨a1,a6⟩ ?_
        replace HW:=hide (HW.out.kept (Keeps.refl wc).drew)
        replace HK:=hide (HK.out.trans (Keeps.refl wc).drew)
        replace HRB:=hide ((Keeps.refl wc).drew.rowK HRB.out)
        replace HRP:=hide ((Keeps.refl wc).drew.rowK HRP.out)
        clear a0 a1 a2 a3 a4 a5 a6 a7
        generalize wc.drew=wd at *
        repeat (first
         | (refine wpPerm_no (by rfl) ?_
            try simp only [Act.put,List.setIfInBounds_toArray,List.set_cons_zero,List.set_cons_succ])
         | (refine wpPerm_yes (v:=?_) (by rfl) ?_ ?_
            rotate_left
            ·intro w9 hS9
             obtain ⟨s0,s1⟩:=hS9
             go_simp
             with_reducible rfl
            try simp only [Act.put,List.setIfInBounds_toArray,List.set_cons_zero,List.set_cons_succ]))
        refine wpPerm_do (by rfl) ?_
        intro K9 hK9
        go_simp
        have HKA:=hide (Keeps.alloc (Keeps.refl wd) (.cells #[.int .i64 0,.slice none 0 0] 37))
        have HRN:=hide (rw2_new wd (.int .i64 0) (.slice none 0 0) 37)
        have a1:=HW.out.cells.2.1
        have a6:=HW.out.cells.2.2.2.2.2.2.1
        dsimp only at a1 a6
        have HPV:Hid (p < wd.heap.size):=HW.out.row.lt
        have HVB:Hid (w2.heap.size≤wd.heap.size):=HW.out.keep.size
        have HVK:Hid (wd.heap.size≤wd.heap.size):=Nat.le_refl _
        refine hK9.out _ _ ⟨HKA.out.cell a1,HKA.out.cell a6⟩ ?_
        clear hK9 K9
        try simp only [Act.put,List.setIfInBounds_toArray,List.set_cons_zero,List.set_cons_succ]
        generalize wd.alloc (.cells #[.int .i64 0,.slice none 0 0] 37)=wn at *
        obtain ⟨V,hV⟩:∃ V,V=wd.heap.size:=⟨_,rfl⟩
        rw [← hV] at HRN HPV HVB ⊢
        have HVE:=hide hV
        clear hV HVK
        have n1:=HKA.out.cell a1
        have n6:=HKA.out.cell a6
        obtain ⟨z0,z1⟩:=rw2_cells HRN.out
        have y0:=HRN.out.frozen 0
        have y1:=HRN.out.frozen 1
        clear a1 a6
        repeat (first
         | (refine wpPerm_no (by rfl) ?_
            try simp only [Act.put,List.setIfInBounds_toArray,List.set_cons_zero,List.set_cons_succ])
         | (refine wpPerm_yes (v:=?_) (by rfl) ?_ ?_
            rotate_left
            ·intro w9 hS9
             obtain ⟨s0,s1⟩:=hS9
             go_simp
             with_reducible rfl
            try simp only [Act.put,List.setIfInBounds_toArray,List.set_cons_zero,List.set_cons_succ]))
        refine wpPerm_do (by rfl) ?_
        intro K9 hK9
        go_simp
        have HT9:=hide (rw2_turn wn V (.int .i64 nx2) (.slice la L2.length lc))
        have HPN:Hid (p≠V):=Nat.ne_of_lt HPV.out
        refine hK9.out _ _ ⟨HT9.out.cell (by simpa using HPN.out) n1,HT9.out.cell (by simpa using HPN.out) n6⟩ ?_
        clear hK9 K9 n1 n6 z0 z1 y0 y1
        try simp only [Act.put,List.setIfInBounds_toArray,List.set_cons_zero,List.set_cons_succ]
        have HR9:=hide (rw2_set HRN.out (.int .i64 nx2) (.slice la L2.length lc))
        have HKM:Hid (Keeps wd ((wn.setCell ⟨V,0,none⟩ (.int .i64 nx2)).setCell ⟨V,1,none⟩ (.slice la L2.length lc))):=HT9.out.keeps HKA.out (fun q hq=>by rw [List.mem_singleton.1 hq,HVE.out];exact Nat.le_refl _)
        clear HT9 HRN HKA HVE
        generalize ((wn.setCell ⟨V,0,none⟩ (.int .i64 nx2)).setCell ⟨V,1,none⟩ (.slice la L2.length lc))=wm at *
        refine wpPerm_end ?_
        replace HW:=hide (HW.out.kept HKM.out)
        replace HK:=hide (HK.out.trans HKM.out)
        replace HRB:=hide (HKM.out.rowK HRB.out)
        replace HRP:=hide (HKM.out.rowK HRP.out)
        clear HKM
        have hnx2:nx2=nx:=by have h1:=congrArg Bk.nx HKB.out;rw [HKE.out,evK_nx] at h1;exact h1
        have hn0:1≤nx2:=by rw [hnx2];exact HR.out.nx.1
        have hn1:nx2≤1125899906842624:=by rw [hnx2];exact HR.out.nx.2
        clear hnx2
        have a1:=HW.out.cells.2.1
        have f1:=HW.out.row.frozen 1
        dsimp only at a1
        go_upto_region 44 with fail
        have HTP:Hid (Turn [p] wm (wm.setCell ⟨p,1,none⟩ (.int .i64 (nx2+1)))):=Turn.set (by simp) _
        replace HW:=hide (HW.out.setNx (nx2+1))
        replace HR9:=hide (row_turn HR9.out HTP.out (by simpa using Ne.symm HPN.out))
        replace HRB:=hide (row_turn HRB.out HTP.out (by simpa using Ne.symm hp1))
        replace HRP:=hide (row_turn HRP.out HTP.out (by simpa using Ne.symm hp2))
        replace HK:=hide (HTP.out.keeps HK.out (fun q hq=>by rw [List.mem_singleton.1 hq];exact Nat.le_trans HWW.out HPB.out))
        clear a1 f1 HTP hn0 hn1
        generalize wm.setCell ⟨p,1,none⟩ (.int .i64 (nx2+1))=wz at *
        dsimp only at HW
        obtain ⟨a0,a1,a2,a3,a4,a5,a6,a7⟩:=HW.out.cells
        obtain ⟨v0,v1⟩:=rw2_cells HR9.out
        dsimp only at a0 a1 a2 a3 a4 a5 a6 a7
        clear a6 a7
        have hv1:V≠rb:=by have h1:=HLT.out;have h2:=HVB.out;omega
        have hv2:V≠rp:=by have h1:=HLT.out;have h2:=HVB.out;omega
        obtain ⟨r0,r1,r2,r3,r4,r5⟩:=row6_cells HRB.out
        have f0:=HRB.out.frozen 0
        have f1:=HRB.out.frozen 1
        have f2:=HRB.out.frozen 2
        have f3:=HRB.out.frozen 3
        have f4:=HRB.out.frozen 4
        have f5:=HRB.out.frozen 5
        obtain ⟨s0,s1⟩:=rw2_cells HRP.out
        have g0:=HRP.out.frozen 0
        have g1:=HRP.out.frozen 1
        have hne1:=HNE.out
        have hne2:=Ne.symm HNE.out
        go_upto_region 44 with fail
        go_region
        have T1:=row6_turn wz rb (.int .i64 tk2) (.int .i64 (nx2+1)) (.int .i64 wa2) (.slice (some ⟨gC,0,none⟩) C2.length cC) (.slice (some ⟨gH,0,none⟩) H2.length cH) (.slice (some ⟨gR,0,none⟩) R2.length cR)
        have T2:=rw2_turn ((((((wz.setCell ⟨rb,0,none⟩ (.int .i64 tk2)).setCell ⟨rb,1,none⟩ (.int .i64 (nx2+1))).setCell ⟨rb,2,none⟩ (.int .i64 wa2)).setCell ⟨rb,3,none⟩ (.slice (some ⟨gC,0,none⟩) C2.length cC)).setCell ⟨rb,4,none⟩ (.slice (some ⟨gH,0,none⟩) H2.length cH)).setCell ⟨rb,5,none⟩ (.slice (some ⟨gR,0,none⟩) R2.length cR)) rp (.int .i64 nx2) (.slice la L2.length lc)
        have HA1:=hide (row_turn (row6_all HRB.out (.int .i64 tk2) (.int .i64 (nx2+1)) (.int .i64 wa2) (.slice (some ⟨gC,0,none⟩) C2.length cC) (.slice (some ⟨gH,0,none⟩) H2.length cH) (.slice (some ⟨gR,0,none⟩) R2.length cR)) T2 (by simpa using HNE.out)).drew
        have HA2:=hide (rw2_set (row_turn HRP.out T1 (by simpa using Ne.symm HNE.out)) (.int .i64 nx2) (.slice la L2.length lc)).drew
        have HKF:=hide (T2.keeps (T1.keeps HK.out (fun q hq=>by rw [List.mem_singleton.1 hq];exact HLE.out.1)) (fun q hq=>by rw [List.mem_singleton.1 hq];exact HLE.out.2)).drew
        have HNN:∀ g,w2.heap.size≤g→g∉[rb]∧g∉[rp]:=fun g hg=>by
         have h1:=HLT.out
         refine ⟨?_,?_⟩ <;> simp only [List.mem_singleton] <;> omega
        have HW2:Hid (w.heap.size≤w2.heap.size):=HWW.out
        have HFC:=hide (owns_kept (owns_older (owns_turn (owns_turn HW.out.oC T1 fun g hg=>(HNN g (lb_of HW.out.oC hg)).1) T2 fun g hg=>(HNN g (lb_of HW.out.oC hg)).2) HW2.out) (Keeps.refl _).drew)
        have HFH:=hide (owns_kept (owns_older (owns_turn (owns_turn HW.out.oH T1 fun g hg=>(HNN g (lb_of HW.out.oH hg)).1) T2 fun g hg=>(HNN g (lb_of HW.out.oH hg)).2) HW2.out) (Keeps.refl _).drew)
        have HFR:=hide (owns_kept (owns_older (owns_turn (owns_turn HW.out.oR T1 fun g hg=>(HNN g (lb_of HW.out.oR hg)).1) T2 fun g hg=>(HNN g (lb_of HW.out.oR hg)).2) HW2.out) (Keeps.refl _).drew)
        have HFL:=hide (owns_kept (owns_older (owns_turn (owns_turn HW.out.oL T1 fun g hg=>(HNN g (lb_of HW.out.oL hg)).1) T2 fun g hg=>(HNN g (lb_of HW.out.oL hg)).2) HW2.out) (Keeps.refl _).drew)
        clear T1 T2 HNN HW2
        clear r0 r1 r2 r3 r4 r5 f0 f1 f2 f3 f4 f5 s0 s1 g0 g1 hne1 hne2
        obtain ⟨p0,p1,p2,p3,p4,p5⟩:=row6_cells HA1.out
        obtain ⟨q0,q1⟩:=rw2_cells HA2.out
        clear HA1 HA2
        generalize ((((((((wz.setCell ⟨rb,0,none⟩ (.int .i64 tk2)).setCell ⟨rb,1,none⟩ (.int .i64 (nx2+1))).setCell ⟨rb,2,none⟩ (.int .i64 wa2)).setCell ⟨rb,3,none⟩ (.slice (some ⟨gC,0,none⟩) C2.length cC)).setCell ⟨rb,4,none⟩ (.slice (some ⟨gH,0,none⟩) H2.length cH)).setCell ⟨rb,5,none⟩ (.slice (some ⟨gR,0,none⟩) R2.length cR)).setCell ⟨rp,0,none⟩ (.int .i64 nx2)).setCell ⟨rp,1,none⟩ (.slice la L2.length lc)).drew=wf at *
        go_wp2_with fail
        refine bodyPost_ret (v:=.tuple #[.agg #[.int .i64 tk2,.int .i64 (nx2+1),.int .i64 wa2,.slice (some ⟨gC,0,none⟩) C2.length cC,.slice (some ⟨gH,0,none⟩) H2.length cH,.slice (some ⟨gR,0,none⟩) R2.length cR],.agg #[.int .i64 nx2,.slice la L2.length lc],.int .i64 0]) ?_ rfl ?_
        ·simp [results,Tryz.results6,go_sem,p0,p1,p2,p3,p4,p5,q0,q1]
        ·have hnd:=HW.out.nd
         simp only [List.nodup_cons,List.mem_cons,not_or] at hnd
         obtain ⟨-,⟨m1,m2,m3⟩,⟨m4,m5⟩,m6,-⟩:=hnd
         refine ⟨⟨tk2,nx2+1,wa2,some ⟨gC,0,none⟩,cC,C2,some ⟨gH,0,none⟩,cH,H2,some ⟨gR,0,none⟩,cR,R2⟩,la,lc,?_,?_,?_⟩
         ·rw [HC.out,← HKE.out,← HLE2.out];simp [pidV,linV,HL0.out,Bo.v];exact congrArg Bk.nx HKB.out
         ·rw [HC.out,← HKE.out,← HLE2.out];have h:=HKB.out;simp only [Wk.bk] at h;rw [← h];simp [outB,HL0.out,Bo.d]
         ·rw [HC.out,← HLE2.out]
          refine ⟨HKF.out,HFC.out,HFH.out,HFR.out,HFL.out,fun g hg=>?_,fun g hg=>?_,fun g hg=>?_⟩
          ·have e:g=gC:=by simpa [lb] using hg
           subst e
           exact ⟨by simpa [lb] using m1,by simpa [lb] using m2⟩
          ·have e:g=gH:=by simpa [lb] using hg
           subst e
           simpa [lb] using m4
          ·exact ⟨fun hx=>m3 (by rw [← show g=gC by simpa [lb] using hx];exact hg),fun hx=>m5 (by rw [← show g=gH by simpa [lb] using hx];exact hg),fun hx=>m6 (by rw [← show g=gR by simpa [lb] using hx];exact hg)⟩
end Go.Proofs.YtccdhcempnkgaaaGreatDoor
