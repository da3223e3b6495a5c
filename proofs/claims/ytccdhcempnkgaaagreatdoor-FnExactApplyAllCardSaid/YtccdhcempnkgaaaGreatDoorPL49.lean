/- The walk of FnExactApplyAll. -/
import Derived.Test.YtccdhcempnkgaaaGreatDoorPL46
import Derived.Test.YtccdhcempnkgaaaGreatDoorPL47
import Derived.Test.YtccdhcempnkgaaaGreatDoorPL48
import Derived.Test.YtccdhcempnkgaaaGreatDoorPL37
import Derived.Test.YtccdhcempnkgaaaGreatDoorPL13
import Derived.WalkKit
import Derived.ProofKit
import Derived.OpenShut
import Derived.ShutString
import Derived.LaidMore
import Derived.Below
namespace Go.Proofs.YtccdhcempnkgaaaGreatDoor.fnExactApplyAll
open Go.ChangeShapes Go.WideShapes Go.ChangeAt Go.RowKit
set_option linter.unusedVariables false
theorem len_d {B B':Bo} (h:B'.d=B.d) (hl:B.len):B'.len:=by
 have h1:B'.C=B.C:=congrArg Bk.C h
 have h2:B'.Hs=B.Hs:=congrArg Bk.Hs h
 have h3:B'.R=B.R:=congrArg Bk.R h
 unfold Bo.len;rw [h1,h2,h3];exact hl
theorem fp_mark (n:Nat) (B:Bo):fp (markBo n B).segs=fp B.segs:=by
 obtain ⟨tk,nx,wa,ca,cc,C,ha,hc,Hs,ra,rc,R⟩:=B
 have h1:fpS (ca,chs (marksChn n C.length))=fpS (ca,chs C):=fpS_len (by rw [chs_len,chs_len,marksChn_len])
 have h2:fpS (ha,hts (marksHtl (n+7*C.length) Hs.length))=fpS (ha,hts Hs):=fpS_len (by rw [hts_len,hts_len,marksHtl_len])
 have h3:fpS (ra,crs (marksCrc (n+7*C.length+7*Hs.length) R.length))=fpS (ra,crs R):=fpS_len (by rw [crs_len,crs_len,marksCrc_len])
 show fpS (ca,chs (marksChn n C.length))++(fpS (ha,hts (marksHtl (n+7*C.length) Hs.length))++(fpS (ra,crs (marksCrc (n+7*C.length+7*Hs.length) R.length))++[]))=fpS (ca,chs C)++(fpS (ha,hts Hs)++(fpS (ra,crs R)++[]))
 rw [h1,h2,h3]
theorem fp_segP:∀ (n:Nat) (ds:List Pg),fp ((markP n ds).map Pg.seg)=fp (ds.map Pg.seg)
 | _,[]=>rfl
 | n,x :: t=>by
   have h:fpS (x.b.a,flat (mkN (n+1) x.b.L.length))=fpS (x.b.a,flat x.b.L):=fpS_len (by rw [flat_length,flat_length,mkN_len])
   show fpS (x.b.a,flat (mkN (n+1) x.b.L.length))++fp ((markP _ t).map Pg.seg)=fpS (x.b.a,flat x.b.L)++fp (t.map Pg.seg)
   rw [h,fp_segP _ t]
theorem fp_markP (a:Option Addr) (n:Nat) (ds:List Pg):fp ((a,pcells (markP n ds)) :: (markP n ds).map Pg.seg)=fp ((a,pcells ds) :: ds.map Pg.seg):=by
 rw [fp_cons,fp_cons,fp_segP,fpS_len (show (pcells (markP n ds)).length=(pcells ds).length by rw [pcells_len,pcells_len,markP_len])]
set_option maxRecDepth 100000 in
set_option maxHeartbeats 16000000 in
theorem walk (B:Bo) (ea:Option Addr) (ec:Nat) (es:List Et) (w:World) (hm:Mem w B.segs) (hf:B.fit) (hbig:B.big) (he:Cells w ea (ets es)) (hfe:(ea=none→ec=0)∧es.length≤ec) (hel:es.length≤9223372036854775807) (u0:TypeId) (x0:Value) (hg0:w.cell? ⟨0,0,none⟩=some (.iface u0 x0)) (u3:TypeId) (x3:Value) (hg3:w.cell? ⟨2,0,none⟩=some (.iface u3 x3)) (u2:TypeId) (x2:Value) (hg2:w.cell? ⟨1,0,none⟩=some (.iface u2 x2)) :
 Calls Tryz.prog 4 #[B.v,.slice ea es.length ec] w fun e w'=>e=.returned (.bool true)∧Keeps w w':=by
 have HSz:=hide (fun w'=>szBook_k B 1048576 w' hbig (by decide) (by decide))
 have HSe:=hide (fun (r:Int) w' (h0:0≤r) (h1:r≤1048576)=>szEventS_k ea es.length ec r w' hel h0 h1)
 have HTE:=hide (fun (hle:es.length≤1048576) w' (hk:Keeps w w')=>toEventS_k ea ec es w' (he.kept hk) hle)
 obtain ⟨bd,hbd⟩:∃ bd,bd=B.d:=⟨_,rfl⟩
 have HTf:Hid (∀ w',Keeps w w'→B.len→Calls Tryz.prog 7 #[B.v] w' fun e w''=>∃ B':Bo,e=.returned B'.v∧B'.d=bd∧B'.fit∧Born w' w'' B'.segs∧Keeps w' w''):=fun w' hk hl=>(toBook_k B w' (hm.kept hk) hl).mono fun e w'' ⟨B',h1,h2,hf',h3,h4⟩=>⟨B',h1,h2.trans hbd.symm,hf',h3,h4⟩
 have HTo:Hid (∀ w',Keeps w w'→B.len→Calls Tryz.prog 7 #[B.v] w' fun e w''=>∃ B':Bo,e=.returned B'.v∧B'.d=bd∧Born w' w'' B'.segs∧Keeps w' w''):=fun w' hk hl=>(toBook_k B w' (hm.kept hk) hl).mono fun e w'' ⟨B',h1,h2,_,h3,h4⟩=>⟨B',h1,h2.trans hbd.symm,h3,h4⟩
 have HLB:Hid (B.len→∀ B':Bo,B'.d=bd→B'.len):=fun hl B' h=>len_d (h.trans hbd) hl
 obtain ⟨⟨ob,oP,oC⟩,hS⟩:∃ S,S=all3 bd es:=⟨_,rfl⟩
 have HCS:Hid (B.len→es.length≤1048576→∀ By:Bo,By.d=bd→By.fit→∀ (tb:Nat) w',Keeps w w'→Mem w' By.segs→Mem w' [(some ⟨tb,0,none⟩,ets es)]→Calls Tryz.prog 17 #[By.v,.slice (some ⟨tb,0,none⟩) es.length es.length] w' fun e w''=>∃ (B':Bo) (pa:Option Addr) (pc:Nat) (P:List Pg) (qa:Option Addr) (qc:Nat),e=.returned (.tuple #[B'.v,.slice pa P.length pc,.slice qa oC.length qc])∧B'.d=ob∧P.map Pg.key=oP∧Ans3 w' w'' B' pa P qa oC):=fun hl hle By hd hf tb w' hk hm hm2=>by
  have hl':=len_d (hd.trans hbd) hl
  subst hd
  obtain ⟨tk,nx,wa,ca,cc,C,ha,hc,Hs,ra,rc,R⟩:=By
  refine (applyall_spec tk nx wa ca cc C ha hc Hs ra rc R (some ⟨tb,0,none⟩) es.length es w' hm hf hl' (hm2 (some ⟨tb,0,none⟩,ets es) (by simp)) hle).mono ?_
  rintro e w'' ⟨B',vp,ps,vc,cs,rfl,h1,h2,h3,h4⟩
  obtain ⟨pa,pc,qa,qc,rfl,rfl,h5⟩:=h4.ans
  have e1:=congrArg All3.B hS
  have e2:=congrArg All3.P hS
  have e3:=congrArg All3.C hS
  dsimp only at e1 e2 e3
  have e4:=h3.trans e3.symm
  subst e4
  exact ⟨B',pa,pc,ps,qa,qc,rfl,h1.trans e1.symm,h2.trans e2.symm,h5⟩
 have HCI:Hid (B.len→es.length≤1048576→∀ By:Bo,By.d=bd→By.fit→∀ (tb:Nat) w',Keeps w w'→Mem w' By.segs→Mem w' [(some ⟨tb,0,none⟩,ets es)]→Calls Tryz.prog 19 #[By.v,.slice (some ⟨tb,0,none⟩) es.length es.length] w' fun e w''=>∃ (B':Bo) (pa:Option Addr) (pc:Nat) (P:List Pg) (qa:Option Addr) (qc:Nat),e=.returned (.tuple #[B'.v,.slice pa P.length pc,.slice qa oC.length qc])∧B'.d=ob∧P.map Pg.key=oP∧Ans3 w' w'' B' pa P qa oC):=fun hl hle By hd hf tb w' hk hm hm2=>by
  have hl':=len_d (hd.trans hbd) hl
  subst hd
  obtain ⟨tk,nx,wa,ca,cc,C,ha,hc,Hs,ra,rc,R⟩:=By
  refine (applyall_impl tk nx wa ca cc C ha hc Hs ra rc R (some ⟨tb,0,none⟩) es.length es w' hm hf hl' (hm2 (some ⟨tb,0,none⟩,ets es) (by simp)) hle (fun x y z w2 hk2=>feeUp_impl x y z w2 u0 u2 u3 x0 x2 x3 ((hk.trans hk2).cell hg0) ((hk.trans hk2).cell hg2) ((hk.trans hk2).cell hg3)) (fun x y w2 hk2=>addAmt_impl x y w2 u0 x0 ((hk.trans hk2).cell hg0))).mono ?_
  rintro e w'' ⟨B',vp,ps,vc,cs,rfl,h1,h2,h3,h4⟩
  obtain ⟨pa,pc,qa,qc,rfl,rfl,h5⟩:=h4.ans
  have e1:=congrArg All3.B hS
  have e2:=congrArg All3.P hS
  have e3:=congrArg All3.C hS
  dsimp only at e1 e2 e3
  have e4:=h3.trans e3.symm
  subst e4
  exact ⟨B',pa,pc,ps,qa,qc,rfl,h1.trans e1.symm,h2.trans e2.symm,h5⟩
 have HSM:Hid (es.length≤1048576→(∀ B':Bo,B'.d=ob→B'.len)∧(∀ P:List Pg,P.map Pg.key=oP→P.length≤1048576∧∀ x∈P,x.b.L.length≤3)∧oC.length≤1048576):=fun hle=>by
  have h:=all3_small bd es hle
  rw [← hS] at h
  dsimp only at h
  refine ⟨fun B' hB=>?_,fun P hP=>⟨?_,keys_small hP h.2.2.2⟩,h.2.1⟩
  ·subst hB;exact h.1
  ·have:=h.2.2.1
   rw [← hP,List.length_map] at this
   exact this
 clear hm hf hbig hg0 hg2 hg3 hbd hS he hfe hel
 obtain ⟨tk,nx,wa,ca,cc,C,ha,hc,Hs,ra,rc,R⟩:=B
 dsimp only [Bo.v] at *
 go_enter Tryz.func4,Tryz.ntmps4
 have HK:=hide (Keeps.refl w)
 have hb:=born_alloc w #[.int .i64 tk,.int .i64 nx,.int .i64 wa,.slice ca C.length cc,.slice ha Hs.length hc,.slice ra R.length rc] 26
 dsimp only at hb
 have hk:=Keeps.alloc (Keeps.refl w) (.cells #[.int .i64 tk,.int .i64 nx,.int .i64 wa,.slice ca C.length cc,.slice ha Hs.length hc,.slice ra R.length rc] 26)
 go_wp2_with fail
 generalize w.alloc (.cells #[.int .i64 tk,.int .i64 nx,.int .i64 wa,.slice ca C.length cc,.slice ha Hs.length hc,.slice ra R.length rc] 26)=w1 at *
 have HNA:=hide ((hb.old HK.out).new)
 replace HK:=hide (HK.out.trans hk)
 have HOA:=hide hb.toOwn
 clear hb hk
 refine (unhide HSz w1).mono ?_
 rintro x w2 ⟨r,rfl,hr1,hr,hk⟩
 replace HK:=hide (HK.out.trans hk)
 replace HOA:=hide (HOA.out.kept hk)
 clear hk
 have HL:=hide hr
 clear hr HSz
 by_cases hr0:r < 0
 ·go_wp2_with fail
  go_ret
  exact ⟨rfl,HK.out⟩
 have hr2:0≤r:=by omega
 go_wp2_with fail
 refine (unhide HSe r w2 hr2 hr1).mono ?_
 rintro x w3 ⟨rfl,hw⟩
 have hk:Keeps w2 w3:=by rw [hw];exact Keeps.refl _
 clear hw
 replace HK:=hide (HK.out.trans hk)
 replace HOA:=hide (HOA.out.kept hk)
 clear hk
 by_cases hle:(es.length:Int)≤r
 rotate_left
 ·rw [if_neg hle]
  go_wp2_with fail
  go_ret
  exact ⟨rfl,HK.out⟩
 rw [if_pos hle]
 have HEL:Hid (es.length≤1048576):=by show _≤_;omega
 have hr5:¬ (r-(es.length:Int) < 0):=by omega
 replace HL:=hide (HL.out hr2)
 replace HLB:=hide (HLB.out HL.out)
 replace HCS:=hide (HCS.out HL.out HEL.out)
 replace HCI:=hide (HCI.out HL.out HEL.out)
 replace HTE:=hide (HTE.out HEL.out)
 have HLO:=hide (HSM.out HEL.out).1
 have HLP:=hide (HSM.out HEL.out).2.1
 have HLC:=hide (HSM.out HEL.out).2.2
 clear HSM HSe hle
 have cA0:=cell_at HOA.out.mem 0 (by simp)
 have cA1:=cell_at HOA.out.mem 1 (by simp)
 have cA2:=cell_at HOA.out.mem 2 (by simp)
 have cA3:=cell_at HOA.out.mem 3 (by simp)
 have cA4:=cell_at HOA.out.mem 4 (by simp)
 have cA5:=cell_at HOA.out.mem 5 (by simp)
 simp only [Nat.zero_add,List.getElem_cons_zero,List.getElem_cons_succ] at cA0 cA1 cA2 cA3 cA4 cA5
 have lA:=lt_of_cell cA0
 go_wp2_with fail
 clear hr0 hr1 hr2 hr5
 clear cA0 cA1 cA2 cA3 cA4 cA5 lA
 refine (unhide HTf w3 HK.out HL.out).mono ?_
 rintro x w4 ⟨Bs,rfl,hd,hf,hb,hk⟩
 have HDs:=hide hd
 have HFs:=hide hf
 clear hd hf
 have HDA_s:=hide (hb.apart HOA.out.mem)
 have HDs_A:=hide (hb.apart' HOA.out.mem)
 have HNs:=hide ((hb.old HK.out).new)
 replace HK:=hide (HK.out.trans hk)
 replace HOA:=hide (HOA.out.kept hk)
 have HOs:=hide hb.toOwn
 clear hb hk
 go_wp2_with fail
 refine (unhide HTE w4 HK.out).mono ?_
 rintro x w5 ⟨tb,rfl,hb,hk⟩
 have HDA_t:=hide (hb.apart HOA.out.mem)
 have HDt_A:=hide (hb.apart' HOA.out.mem)
 have HDs_t:=hide (hb.apart HOs.out.mem)
 have HDt_s:=hide (hb.apart' HOs.out.mem)
 have HNt:=hide ((hb.old HK.out).new)
 replace HK:=hide (HK.out.trans hk)
 replace HOA:=hide (HOA.out.kept hk)
 replace HOs:=hide (HOs.out.kept hk)
 have HOt:=hide hb.toOwn
 clear hb hk
 go_wp2_with fail
 refine (unhide HCS Bs HDs.out HFs.out tb w5 HK.out HOs.out.mem HOt.out.mem).mono ?_
 rintro x w6 ⟨mB,mpa,mpc,mP,mqa,mqc,rfl,hd,hp,hans⟩
 have HDm:=hide hd
 have HPm:=hide hp
 clear hd hp
 have HDA_mb:=hide (hans.b.apart HOA.out.mem)
 have HDmb_A:=hide (hans.b.apart' HOA.out.mem)
 have HDs_mb:=hide (hans.b.apart HOs.out.mem)
 have HDmb_s:=hide (hans.b.apart' HOs.out.mem)
 have HDt_mb:=hide (hans.b.apart HOt.out.mem)
 have HDmb_t:=hide (hans.b.apart' HOt.out.mem)
 have HNmb:=hide ((hans.b.old HK.out).new)
 have HDA_mp:=hide (hans.p.apart HOA.out.mem)
 have HDmp_A:=hide (hans.p.apart' HOA.out.mem)
 have HDs_mp:=hide (hans.p.apart HOs.out.mem)
 have HDmp_s:=hide (hans.p.apart' HOs.out.mem)
 have HDt_mp:=hide (hans.p.apart HOt.out.mem)
 have HDmp_t:=hide (hans.p.apart' HOt.out.mem)
 have HNmp:=hide ((hans.p.old HK.out).new)
 have HDA_mq:=hide (hans.q.apart HOA.out.mem)
 have HDmq_A:=hide (hans.q.apart' HOA.out.mem)
 have HDs_mq:=hide (hans.q.apart HOs.out.mem)
 have HDmq_s:=hide (hans.q.apart' HOs.out.mem)
 have HDt_mq:=hide (hans.q.apart HOt.out.mem)
 have HDmq_t:=hide (hans.q.apart' HOt.out.mem)
 have HNmq:=hide ((hans.q.old HK.out).new)
 have HDmb_mp:=hide hans.bp
 have HDmp_mb:=hide (apsym hans.bp)
 have HDmb_mq:=hide hans.bq
 have HDmq_mb:=hide (apsym hans.bq)
 have HDmp_mq:=hide hans.pq
 have HDmq_mp:=hide (apsym hans.pq)
 replace HK:=hide (HK.out.trans hans.keep)
 replace HOA:=hide (HOA.out.kept hans.keep)
 replace HOs:=hide (HOs.out.kept hans.keep)
 replace HOt:=hide (HOt.out.kept hans.keep)
 have HOmb:=hide hans.b.toOwn
 have HOmp:=hide hans.p.toOwn
 have HOmq:=hide hans.q.toOwn
 clear hans
 clear HOs HNs HDA_s HDs_A HDt_s HDs_t HDmb_s HDs_mb HDmp_s HDs_mp HDmq_s HDs_mq
 clear HDs HFs
 clear HOt HNt HDA_t HDt_A HDmb_t HDt_mb HDmp_t HDt_mp HDmq_t HDt_mq
 go_upto_region 9 with fail
 have hb:=born_alloc w6 #[.int .i64 mB.tk,.int .i64 mB.nx,.int .i64 mB.wa,.slice mB.ca mB.C.length mB.cc,.slice mB.ha mB.Hs.length mB.hc,.slice mB.ra mB.R.length mB.rc] 34
 dsimp only at hb
 have hk:=Keeps.alloc (Keeps.refl w6) (.cells #[.int .i64 mB.tk,.int .i64 mB.nx,.int .i64 mB.wa,.slice mB.ca mB.C.length mB.cc,.slice mB.ha mB.Hs.length mB.hc,.slice mB.ra mB.R.length mB.rc] 34)
 generalize w6.alloc (.cells #[.int .i64 mB.tk,.int .i64 mB.nx,.int .i64 mB.wa,.slice mB.ca mB.C.length mB.cc,.slice mB.ha mB.Hs.length mB.hc,.slice mB.ra mB.R.length mB.rc] 34)=w7 at *
 have HDA_M:=hide (hb.apart HOA.out.mem)
 have HDM_A:=hide (hb.apart' HOA.out.mem)
 have HDmb_M:=hide (hb.apart HOmb.out.mem)
 have HDM_mb:=hide (hb.apart' HOmb.out.mem)
 have HDmp_M:=hide (hb.apart HOmp.out.mem)
 have HDM_mp:=hide (hb.apart' HOmp.out.mem)
 have HDmq_M:=hide (hb.apart HOmq.out.mem)
 have HDM_mq:=hide (hb.apart' HOmq.out.mem)
 have HNM:=hide ((hb.old HK.out).new)
 replace HK:=hide (HK.out.trans hk)
 replace HOA:=hide (HOA.out.kept hk)
 replace HOmb:=hide (HOmb.out.kept hk)
 replace HOmp:=hide (HOmp.out.kept hk)
 replace HOmq:=hide (HOmq.out.kept hk)
 have HOM:=hide hb.toOwn
 clear hb hk
 have cA0:=cell_at HOA.out.mem 0 (by simp)
 have cA1:=cell_at HOA.out.mem 1 (by simp)
 have cA2:=cell_at HOA.out.mem 2 (by simp)
 have cA3:=cell_at HOA.out.mem 3 (by simp)
 have cA4:=cell_at HOA.out.mem 4 (by simp)
 have cA5:=cell_at HOA.out.mem 5 (by simp)
 simp only [Nat.zero_add,List.getElem_cons_zero,List.getElem_cons_succ] at cA0 cA1 cA2 cA3 cA4 cA5
 have lA:=lt_of_cell cA0
 go_wp2_with fail
 clear cA0 cA1 cA2 cA3 cA4 cA5 lA
 refine (unhide HTf w7 HK.out HL.out).mono ?_
 rintro x w8 ⟨Bx,rfl,hd,hf,hb,hk⟩
 have HDx:=hide hd
 have HFx:=hide hf
 clear hd hf
 have HDA_x:=hide (hb.apart HOA.out.mem)
 have HDx_A:=hide (hb.apart' HOA.out.mem)
 have HDmb_x:=hide (hb.apart HOmb.out.mem)
 have HDx_mb:=hide (hb.apart' HOmb.out.mem)
 have HDmp_x:=hide (hb.apart HOmp.out.mem)
 have HDx_mp:=hide (hb.apart' HOmp.out.mem)
 have HDmq_x:=hide (hb.apart HOmq.out.mem)
 have HDx_mq:=hide (hb.apart' HOmq.out.mem)
 have HDM_x:=hide (hb.apart HOM.out.mem)
 have HDx_M:=hide (hb.apart' HOM.out.mem)
 have HNx:=hide ((hb.old HK.out).new)
 replace HK:=hide (HK.out.trans hk)
 replace HOA:=hide (HOA.out.kept hk)
 replace HOmb:=hide (HOmb.out.kept hk)
 replace HOmp:=hide (HOmp.out.kept hk)
 replace HOmq:=hide (HOmq.out.kept hk)
 replace HOM:=hide (HOM.out.kept hk)
 have HOx:=hide hb.toOwn
 clear hb hk
 go_upto_region 10 with fail
 have hb:=born_alloc w8 #[.int .i64 Bx.tk,.int .i64 Bx.nx,.int .i64 Bx.wa,.slice Bx.ca Bx.C.length Bx.cc,.slice Bx.ha Bx.Hs.length Bx.hc,.slice Bx.ra Bx.R.length Bx.rc] 34
 dsimp only at hb
 have hk:=Keeps.alloc (Keeps.refl w8) (.cells #[.int .i64 Bx.tk,.int .i64 Bx.nx,.int .i64 Bx.wa,.slice Bx.ca Bx.C.length Bx.cc,.slice Bx.ha Bx.Hs.length Bx.hc,.slice Bx.ra Bx.R.length Bx.rc] 34)
 generalize w8.alloc (.cells #[.int .i64 Bx.tk,.int .i64 Bx.nx,.int .i64 Bx.wa,.slice Bx.ca Bx.C.length Bx.cc,.slice Bx.ha Bx.Hs.length Bx.hc,.slice Bx.ra Bx.R.length Bx.rc] 34)=w9 at *
 have HDA_X:=hide (hb.apart HOA.out.mem)
 have HDX_A:=hide (hb.apart' HOA.out.mem)
 have HDmb_X:=hide (hb.apart HOmb.out.mem)
 have HDX_mb:=hide (hb.apart' HOmb.out.mem)
 have HDmp_X:=hide (hb.apart HOmp.out.mem)
 have HDX_mp:=hide (hb.apart' HOmp.out.mem)
 have HDmq_X:=hide (hb.apart HOmq.out.mem)
 have HDX_mq:=hide (hb.apart' HOmq.out.mem)
 have HDM_X:=hide (hb.apart HOM.out.mem)
 have HDX_M:=hide (hb.apart' HOM.out.mem)
 have HDx_X:=hide (hb.apart HOx.out.mem)
 have HDX_x:=hide (hb.apart' HOx.out.mem)
 have HNX:=hide ((hb.old HK.out).new)
 replace HK:=hide (HK.out.trans hk)
 replace HOA:=hide (HOA.out.kept hk)
 replace HOmb:=hide (HOmb.out.kept hk)
 replace HOmp:=hide (HOmp.out.kept hk)
 replace HOmq:=hide (HOmq.out.kept hk)
 replace HOM:=hide (HOM.out.kept hk)
 replace HOx:=hide (HOx.out.kept hk)
 have HOX:=hide hb.toOwn
 clear hb hk
 go_wp2_with fail
 refine (unhide HTE w9 HK.out).mono ?_
 rintro x w10 ⟨yb,rfl,hb,hk⟩
 have HDA_y:=hide (hb.apart HOA.out.mem)
 have HDy_A:=hide (hb.apart' HOA.out.mem)
 have HDmb_y:=hide (hb.apart HOmb.out.mem)
 have HDy_mb:=hide (hb.apart' HOmb.out.mem)
 have HDmp_y:=hide (hb.apart HOmp.out.mem)
 have HDy_mp:=hide (hb.apart' HOmp.out.mem)
 have HDmq_y:=hide (hb.apart HOmq.out.mem)
 have HDy_mq:=hide (hb.apart' HOmq.out.mem)
 have HDM_y:=hide (hb.apart HOM.out.mem)
 have HDy_M:=hide (hb.apart' HOM.out.mem)
 have HDx_y:=hide (hb.apart HOx.out.mem)
 have HDy_x:=hide (hb.apart' HOx.out.mem)
 have HDX_y:=hide (hb.apart HOX.out.mem)
 have HDy_X:=hide (hb.apart' HOX.out.mem)
 have HNy:=hide ((hb.old HK.out).new)
 replace HK:=hide (HK.out.trans hk)
 replace HOA:=hide (HOA.out.kept hk)
 replace HOmb:=hide (HOmb.out.kept hk)
 replace HOmp:=hide (HOmp.out.kept hk)
 replace HOmq:=hide (HOmq.out.kept hk)
 replace HOM:=hide (HOM.out.kept hk)
 replace HOx:=hide (HOx.out.kept hk)
 replace HOX:=hide (HOX.out.kept hk)
 have HOy:=hide hb.toOwn
 clear hb hk
 have cX0:=cell_at HOX.out.mem 0 (by simp)
 have cX1:=cell_at HOX.out.mem 1 (by simp)
 have cX2:=cell_at HOX.out.mem 2 (by simp)
 have cX3:=cell_at HOX.out.mem 3 (by simp)
 have cX4:=cell_at HOX.out.mem 4 (by simp)
 have cX5:=cell_at HOX.out.mem 5 (by simp)
 simp only [Nat.zero_add,List.getElem_cons_zero,List.getElem_cons_succ] at cX0 cX1 cX2 cX3 cX4 cX5
 have lX:=lt_of_cell cX0
 go_wp2_with fail
 clear cX0 cX1 cX2 cX3 cX4 cX5 lX
 refine (unhide HCI Bx HDx.out HFx.out yb w10 HK.out HOx.out.mem HOy.out.mem).mono ?_
 rintro x w11 ⟨gB,gpa,gpc,gP,gqa,gqc,rfl,hd,hp,hans⟩
 have HDg:=hide hd
 have HPg:=hide hp
 clear hd hp
 have HDA_gb:=hide (hans.b.apart HOA.out.mem)
 have HDgb_A:=hide (hans.b.apart' HOA.out.mem)
 have HDmb_gb:=hide (hans.b.apart HOmb.out.mem)
 have HDgb_mb:=hide (hans.b.apart' HOmb.out.mem)
 have HDmp_gb:=hide (hans.b.apart HOmp.out.mem)
 have HDgb_mp:=hide (hans.b.apart' HOmp.out.mem)
 have HDmq_gb:=hide (hans.b.apart HOmq.out.mem)
 have HDgb_mq:=hide (hans.b.apart' HOmq.out.mem)
 have HDM_gb:=hide (hans.b.apart HOM.out.mem)
 have HDgb_M:=hide (hans.b.apart' HOM.out.mem)
 have HDx_gb:=hide (hans.b.apart HOx.out.mem)
 have HDgb_x:=hide (hans.b.apart' HOx.out.mem)
 have HDX_gb:=hide (hans.b.apart HOX.out.mem)
 have HDgb_X:=hide (hans.b.apart' HOX.out.mem)
 have HDy_gb:=hide (hans.b.apart HOy.out.mem)
 have HDgb_y:=hide (hans.b.apart' HOy.out.mem)
 have HNgb:=hide ((hans.b.old HK.out).new)
 have HDA_gp:=hide (hans.p.apart HOA.out.mem)
 have HDgp_A:=hide (hans.p.apart' HOA.out.mem)
 have HDmb_gp:=hide (hans.p.apart HOmb.out.mem)
 have HDgp_mb:=hide (hans.p.apart' HOmb.out.mem)
 have HDmp_gp:=hide (hans.p.apart HOmp.out.mem)
 have HDgp_mp:=hide (hans.p.apart' HOmp.out.mem)
 have HDmq_gp:=hide (hans.p.apart HOmq.out.mem)
 have HDgp_mq:=hide (hans.p.apart' HOmq.out.mem)
 have HDM_gp:=hide (hans.p.apart HOM.out.mem)
 have HDgp_M:=hide (hans.p.apart' HOM.out.mem)
 have HDx_gp:=hide (hans.p.apart HOx.out.mem)
 have HDgp_x:=hide (hans.p.apart' HOx.out.mem)
 have HDX_gp:=hide (hans.p.apart HOX.out.mem)
 have HDgp_X:=hide (hans.p.apart' HOX.out.mem)
 have HDy_gp:=hide (hans.p.apart HOy.out.mem)
 have HDgp_y:=hide (hans.p.apart' HOy.out.mem)
 have HNgp:=hide ((hans.p.old HK.out).new)
 have HDA_gq:=hide (hans.q.apart HOA.out.mem)
 have HDgq_A:=hide (hans.q.apart' HOA.out.mem)
 have HDmb_gq:=hide (hans.q.apart HOmb.out.mem)
 have HDgq_mb:=hide (hans.q.apart' HOmb.out.mem)
 have HDmp_gq:=hide (hans.q.apart HOmp.out.mem)
 have HDgq_mp:=hide (hans.q.apart' HOmp.out.mem)
 have HDmq_gq:=hide (hans.q.apart HOmq.out.mem)
 have HDgq_mq:=hide (hans.q.apart' HOmq.out.mem)
 have HDM_gq:=hide (hans.q.apart HOM.out.mem)
 have HDgq_M:=hide (hans.q.apart' HOM.out.mem)
 have HDx_gq:=hide (hans.q.apart HOx.out.mem)
 have HDgq_x:=hide (hans.q.apart' HOx.out.mem)
 have HDX_gq:=hide (hans.q.apart HOX.out.mem)
 have HDgq_X:=hide (hans.q.apart' HOX.out.mem)
 have HDy_gq:=hide (hans.q.apart HOy.out.mem)
 have HDgq_y:=hide (hans.q.apart' HOy.out.mem)
 have HNgq:=hide ((hans.q.old HK.out).new)
 have HDgb_gp:=hide hans.bp
 have HDgp_gb:=hide (apsym hans.bp)
 have HDgb_gq:=hide hans.bq
 have HDgq_gb:=hide (apsym hans.bq)
 have HDgp_gq:=hide hans.pq
 have HDgq_gp:=hide (apsym hans.pq)
 replace HK:=hide (HK.out.trans hans.keep)
 replace HOA:=hide (HOA.out.kept hans.keep)
 replace HOmb:=hide (HOmb.out.kept hans.keep)
 replace HOmp:=hide (HOmp.out.kept hans.keep)
 replace HOmq:=hide (HOmq.out.kept hans.keep)
 replace HOM:=hide (HOM.out.kept hans.keep)
 replace HOx:=hide (HOx.out.kept hans.keep)
 replace HOX:=hide (HOX.out.kept hans.keep)
 replace HOy:=hide (HOy.out.kept hans.keep)
 have HOgb:=hide hans.b.toOwn
 have HOgp:=hide hans.p.toOwn
 have HOgq:=hide hans.q.toOwn
 clear hans
 go_upto_region 12 with fail
 have hb:=born_alloc w11 #[.int .i64 gB.tk,.int .i64 gB.nx,.int .i64 gB.wa,.slice gB.ca gB.C.length gB.cc,.slice gB.ha gB.Hs.length gB.hc,.slice gB.ra gB.R.length gB.rc] 34
 dsimp only at hb
 have hk:=Keeps.alloc (Keeps.refl w11) (.cells #[.int .i64 gB.tk,.int .i64 gB.nx,.int .i64 gB.wa,.slice gB.ca gB.C.length gB.cc,.slice gB.ha gB.Hs.length gB.hc,.slice gB.ra gB.R.length gB.rc] 34)
 generalize w11.alloc (.cells #[.int .i64 gB.tk,.int .i64 gB.nx,.int .i64 gB.wa,.slice gB.ca gB.C.length gB.cc,.slice gB.ha gB.Hs.length gB.hc,.slice gB.ra gB.R.length gB.rc] 34)=w12 at *
 have HDA_G:=hide (hb.apart HOA.out.mem)
 have HDG_A:=hide (hb.apart' HOA.out.mem)
 have HDmb_G:=hide (hb.apart HOmb.out.mem)
 have HDG_mb:=hide (hb.apart' HOmb.out.mem)
 have HDmp_G:=hide (hb.apart HOmp.out.mem)
 have HDG_mp:=hide (hb.apart' HOmp.out.mem)
 have HDmq_G:=hide (hb.apart HOmq.out.mem)
 have HDG_mq:=hide (hb.apart' HOmq.out.mem)
 have HDM_G:=hide (hb.apart HOM.out.mem)
 have HDG_M:=hide (hb.apart' HOM.out.mem)
 have HDx_G:=hide (hb.apart HOx.out.mem)
 have HDG_x:=hide (hb.apart' HOx.out.mem)
 have HDX_G:=hide (hb.apart HOX.out.mem)
 have HDG_X:=hide (hb.apart' HOX.out.mem)
 have HDy_G:=hide (hb.apart HOy.out.mem)
 have HDG_y:=hide (hb.apart' HOy.out.mem)
 have HDgb_G:=hide (hb.apart HOgb.out.mem)
 have HDG_gb:=hide (hb.apart' HOgb.out.mem)
 have HDgp_G:=hide (hb.apart HOgp.out.mem)
 have HDG_gp:=hide (hb.apart' HOgp.out.mem)
 have HDgq_G:=hide (hb.apart HOgq.out.mem)
 have HDG_gq:=hide (hb.apart' HOgq.out.mem)
 have HNG:=hide ((hb.old HK.out).new)
 replace HK:=hide (HK.out.trans hk)
 replace HOA:=hide (HOA.out.kept hk)
 replace HOmb:=hide (HOmb.out.kept hk)
 replace HOmp:=hide (HOmp.out.kept hk)
 replace HOmq:=hide (HOmq.out.kept hk)
 replace HOM:=hide (HOM.out.kept hk)
 replace HOx:=hide (HOx.out.kept hk)
 replace HOX:=hide (HOX.out.kept hk)
 replace HOy:=hide (HOy.out.kept hk)
 replace HOgb:=hide (HOgb.out.kept hk)
 replace HOgp:=hide (HOgp.out.kept hk)
 replace HOgq:=hide (HOgq.out.kept hk)
 have HOG:=hide hb.toOwn
 clear hb hk
 have cG0:=cell_at HOG.out.mem 0 (by simp)
 have cG1:=cell_at HOG.out.mem 1 (by simp)
 have cG2:=cell_at HOG.out.mem 2 (by simp)
 have cG3:=cell_at HOG.out.mem 3 (by simp)
 have cG4:=cell_at HOG.out.mem 4 (by simp)
 have cG5:=cell_at HOG.out.mem 5 (by simp)
 simp only [Nat.zero_add,List.getElem_cons_zero,List.getElem_cons_succ] at cG0 cG1 cG2 cG3 cG4 cG5
 have lG:=lt_of_cell cG0
 have cM0:=cell_at HOM.out.mem 0 (by simp)
 have cM1:=cell_at HOM.out.mem 1 (by simp)
 have cM2:=cell_at HOM.out.mem 2 (by simp)
 have cM3:=cell_at HOM.out.mem 3 (by simp)
 have cM4:=cell_at HOM.out.mem 4 (by simp)
 have cM5:=cell_at HOM.out.mem 5 (by simp)
 simp only [Nat.zero_add,List.getElem_cons_zero,List.getElem_cons_succ] at cM0 cM1 cM2 cM3 cM4 cM5
 have lM:=lt_of_cell cM0
 go_wp2_with fail
 clear cG0 cG1 cG2 cG3 cG4 cG5 lG cM0 cM1 cM2 cM3 cM4 cM5 lM
 refine (eqBook_k gB mB w12 (HDg.out.trans HDm.out.symm) HOgb.out.mem HOmb.out.mem (unhide HLO _ HDg.out)).mono ?_
 rintro x w13 ⟨rfl,hk⟩
 replace HK:=hide (HK.out.trans hk)
 replace HOA:=hide (HOA.out.kept hk)
 replace HOmb:=hide (HOmb.out.kept hk)
 replace HOmp:=hide (HOmp.out.kept hk)
 replace HOmq:=hide (HOmq.out.kept hk)
 replace HOM:=hide (HOM.out.kept hk)
 replace HOx:=hide (HOx.out.kept hk)
 replace HOX:=hide (HOX.out.kept hk)
 replace HOy:=hide (HOy.out.kept hk)
 replace HOgb:=hide (HOgb.out.kept hk)
 replace HOgp:=hide (HOgp.out.kept hk)
 replace HOgq:=hide (HOgq.out.kept hk)
 replace HOG:=hide (HOG.out.kept hk)
 clear hk
 go_wp2_with fail
 refine (eqPostingS_k gpa mpa gpc mpc gP mP w13 (HPm.out.trans HPg.out.symm) (HOgp.out.mem (gpa,pcells gP) (List.mem_cons_self ..)) (fun z hz=>HOgp.out.mem z (List.mem_cons_of_mem _ hz)) (HOmp.out.mem (mpa,pcells mP) (List.mem_cons_self ..)) (fun z hz=>HOmp.out.mem z (List.mem_cons_of_mem _ hz)) (unhide HLP _ HPg.out).1 (fun z hz=>Nat.le_trans ((unhide HLP _ HPg.out).2 z hz) (by decide))).mono ?_
 rintro x w14 ⟨rfl,hk⟩
 replace HK:=hide (HK.out.trans hk)
 replace HOA:=hide (HOA.out.kept hk)
 replace HOmb:=hide (HOmb.out.kept hk)
 replace HOmp:=hide (HOmp.out.kept hk)
 replace HOmq:=hide (HOmq.out.kept hk)
 replace HOM:=hide (HOM.out.kept hk)
 replace HOx:=hide (HOx.out.kept hk)
 replace HOX:=hide (HOX.out.kept hk)
 replace HOy:=hide (HOy.out.kept hk)
 replace HOgb:=hide (HOgb.out.kept hk)
 replace HOgp:=hide (HOgp.out.kept hk)
 replace HOgq:=hide (HOgq.out.kept hk)
 replace HOG:=hide (HOG.out.kept hk)
 clear hk
 go_wp2_with fail
 refine (eqInts_k gqa mqa gqc mqc oC w14 (HOgq.out.mem (gqa,its oC) (by simp)) (HOmq.out.mem (mqa,its oC) (by simp)) HLC.out).mono ?_
 rintro x w15 ⟨rfl,hk⟩
 replace HK:=hide (HK.out.trans hk)
 replace HOA:=hide (HOA.out.kept hk)
 replace HOmb:=hide (HOmb.out.kept hk)
 replace HOmp:=hide (HOmp.out.kept hk)
 replace HOmq:=hide (HOmq.out.kept hk)
 replace HOM:=hide (HOM.out.kept hk)
 replace HOx:=hide (HOx.out.kept hk)
 replace HOX:=hide (HOX.out.kept hk)
 replace HOy:=hide (HOy.out.kept hk)
 replace HOgb:=hide (HOgb.out.kept hk)
 replace HOgp:=hide (HOgp.out.kept hk)
 replace HOgq:=hide (HOgq.out.kept hk)
 replace HOG:=hide (HOG.out.kept hk)
 clear hk
 go_wp2_with fail
 have cX0:=cell_at HOX.out.mem 0 (by simp)
 have cX1:=cell_at HOX.out.mem 1 (by simp)
 have cX2:=cell_at HOX.out.mem 2 (by simp)
 have cX3:=cell_at HOX.out.mem 3 (by simp)
 have cX4:=cell_at HOX.out.mem 4 (by simp)
 have cX5:=cell_at HOX.out.mem 5 (by simp)
 simp only [Nat.zero_add,List.getElem_cons_zero,List.getElem_cons_succ] at cX0 cX1 cX2 cX3 cX4 cX5
 have lX:=lt_of_cell cX0
 have cA0:=cell_at HOA.out.mem 0 (by simp)
 have cA1:=cell_at HOA.out.mem 1 (by simp)
 have cA2:=cell_at HOA.out.mem 2 (by simp)
 have cA3:=cell_at HOA.out.mem 3 (by simp)
 have cA4:=cell_at HOA.out.mem 4 (by simp)
 have cA5:=cell_at HOA.out.mem 5 (by simp)
 simp only [Nat.zero_add,List.getElem_cons_zero,List.getElem_cons_succ] at cA0 cA1 cA2 cA3 cA4 cA5
 have lA:=lt_of_cell cA0
 go_region_held3 (fun w'=>w'.cell? ⟨w8.heap.size,0,none⟩=some (.int .i64 Bx.tk)∧w'.cell? ⟨w8.heap.size,1,none⟩=some (.int .i64 Bx.nx)∧w'.cell? ⟨w8.heap.size,2,none⟩=some (.int .i64 Bx.wa)∧w'.cell? ⟨w8.heap.size,3,none⟩=some (.slice Bx.ca Bx.C.length Bx.cc)∧w'.cell? ⟨w8.heap.size,4,none⟩=some (.slice Bx.ha Bx.Hs.length Bx.hc)∧w'.cell? ⟨w8.heap.size,5,none⟩=some (.slice Bx.ra Bx.R.length Bx.rc)∧w'.cell? ⟨w.heap.size,0,none⟩=some (.int .i64 tk)∧w'.cell? ⟨w.heap.size,1,none⟩=some (.int .i64 nx)∧w'.cell? ⟨w.heap.size,2,none⟩=some (.int .i64 wa)∧w'.cell? ⟨w.heap.size,3,none⟩=some (.slice ca C.length cc)∧w'.cell? ⟨w.heap.size,4,none⟩=some (.slice ha Hs.length hc)∧w'.cell? ⟨w.heap.size,5,none⟩=some (.slice ra R.length rc)) (go_keep)
  (first
    | (go_at_call 7
       refine (unhide HTo _ (HK.out.trans ((Keeps.refl w15).drew)) HL.out).mono ?_
       rintro x w16 ⟨Bz,rfl,hd,hb,hk⟩
       have HDz:=hide hd
       clear hd
       replace hb:=hb.old ((Keeps.refl w15).drew)
       replace hk:=((Keeps.refl w15).drew).trans hk
       clear cX0 cX1 cX2 cX3 cX4 cX5 lX cA0 cA1 cA2 cA3 cA4 cA5 lA
       have HDA_z:=hide (hb.apart HOA.out.mem)
       have HDz_A:=hide (hb.apart' HOA.out.mem)
       have HDmb_z:=hide (hb.apart HOmb.out.mem)
       have HDz_mb:=hide (hb.apart' HOmb.out.mem)
       have HDmp_z:=hide (hb.apart HOmp.out.mem)
       have HDz_mp:=hide (hb.apart' HOmp.out.mem)
       have HDmq_z:=hide (hb.apart HOmq.out.mem)
       have HDz_mq:=hide (hb.apart' HOmq.out.mem)
       have HDM_z:=hide (hb.apart HOM.out.mem)
       have HDz_M:=hide (hb.apart' HOM.out.mem)
       have HDx_z:=hide (hb.apart HOx.out.mem)
       have HDz_x:=hide (hb.apart' HOx.out.mem)
       have HDX_z:=hide (hb.apart HOX.out.mem)
       have HDz_X:=hide (hb.apart' HOX.out.mem)
       have HDy_z:=hide (hb.apart HOy.out.mem)
       have HDz_y:=hide (hb.apart' HOy.out.mem)
       have HDgb_z:=hide (hb.apart HOgb.out.mem)
       have HDz_gb:=hide (hb.apart' HOgb.out.mem)
       have HDgp_z:=hide (hb.apart HOgp.out.mem)
       have HDz_gp:=hide (hb.apart' HOgp.out.mem)
       have HDgq_z:=hide (hb.apart HOgq.out.mem)
       have HDz_gq:=hide (hb.apart' HOgq.out.mem)
       have HDG_z:=hide (hb.apart HOG.out.mem)
       have HDz_G:=hide (hb.apart' HOG.out.mem)
       have HNz:=hide ((hb.old HK.out).new)
       replace HK:=hide (HK.out.trans hk)
       replace HOA:=hide (HOA.out.kept hk)
       replace HOmb:=hide (HOmb.out.kept hk)
       replace HOmp:=hide (HOmp.out.kept hk)
       replace HOmq:=hide (HOmq.out.kept hk)
       replace HOM:=hide (HOM.out.kept hk)
       replace HOx:=hide (HOx.out.kept hk)
       replace HOX:=hide (HOX.out.kept hk)
       replace HOy:=hide (HOy.out.kept hk)
       replace HOgb:=hide (HOgb.out.kept hk)
       replace HOgp:=hide (HOgp.out.kept hk)
       replace HOgq:=hide (HOgq.out.kept hk)
       replace HOG:=hide (HOG.out.kept hk)
       have HOz:=hide hb.toOwn
       clear hb hk
       have cX0:=cell_at HOX.out.mem 0 (by simp)
       have cX1:=cell_at HOX.out.mem 1 (by simp)
       have cX2:=cell_at HOX.out.mem 2 (by simp)
       have cX3:=cell_at HOX.out.mem 3 (by simp)
       have cX4:=cell_at HOX.out.mem 4 (by simp)
       have cX5:=cell_at HOX.out.mem 5 (by simp)
       simp only [Nat.zero_add,List.getElem_cons_zero,List.getElem_cons_succ] at cX0 cX1 cX2 cX3 cX4 cX5
       have lX:=lt_of_cell cX0
       have cA0:=cell_at HOA.out.mem 0 (by simp)
       have cA1:=cell_at HOA.out.mem 1 (by simp)
       have cA2:=cell_at HOA.out.mem 2 (by simp)
       have cA3:=cell_at HOA.out.mem 3 (by simp)
       have cA4:=cell_at HOA.out.mem 4 (by simp)
       have cA5:=cell_at HOA.out.mem 5 (by simp)
       simp only [Nat.zero_add,List.getElem_cons_zero,List.getElem_cons_succ] at cA0 cA1 cA2 cA3 cA4 cA5
       have lA:=lt_of_cell cA0)
    | (go_at_call 10
       refine (eqBook_k Bx Bz w16 (HDx.out.trans HDz.out.symm) HOx.out.mem HOz.out.mem (unhide HLB _ HDx.out)).mono ?_
       rintro x w17 ⟨rfl,hk⟩
       clear cX0 cX1 cX2 cX3 cX4 cX5 lX cA0 cA1 cA2 cA3 cA4 cA5 lA
       replace HK:=hide (HK.out.trans hk)
       replace HOA:=hide (HOA.out.kept hk)
       replace HOmb:=hide (HOmb.out.kept hk)
       replace HOmp:=hide (HOmp.out.kept hk)
       replace HOmq:=hide (HOmq.out.kept hk)
       replace HOM:=hide (HOM.out.kept hk)
       replace HOx:=hide (HOx.out.kept hk)
       replace HOX:=hide (HOX.out.kept hk)
       replace HOy:=hide (HOy.out.kept hk)
       replace HOgb:=hide (HOgb.out.kept hk)
       replace HOgp:=hide (HOgp.out.kept hk)
       replace HOgq:=hide (HOgq.out.kept hk)
       replace HOG:=hide (HOG.out.kept hk)
       replace HOz:=hide (HOz.out.kept hk)
       clear hk
       have cX0:=cell_at HOX.out.mem 0 (by simp)
       have cX1:=cell_at HOX.out.mem 1 (by simp)
       have cX2:=cell_at HOX.out.mem 2 (by simp)
       have cX3:=cell_at HOX.out.mem 3 (by simp)
       have cX4:=cell_at HOX.out.mem 4 (by simp)
       have cX5:=cell_at HOX.out.mem 5 (by simp)
       simp only [Nat.zero_add,List.getElem_cons_zero,List.getElem_cons_succ] at cX0 cX1 cX2 cX3 cX4 cX5
       have lX:=lt_of_cell cX0
       have cA0:=cell_at HOA.out.mem 0 (by simp)
       have cA1:=cell_at HOA.out.mem 1 (by simp)
       have cA2:=cell_at HOA.out.mem 2 (by simp)
       have cA3:=cell_at HOA.out.mem 3 (by simp)
       have cA4:=cell_at HOA.out.mem 4 (by simp)
       have cA5:=cell_at HOA.out.mem 5 (by simp)
       simp only [Nat.zero_add,List.getElem_cons_zero,List.getElem_cons_succ] at cA0 cA1 cA2 cA3 cA4 cA5
       have lA:=lt_of_cell cA0))
 clear HOz HNz HDA_z HDz_A HDmb_z HDz_mb HDmp_z HDz_mp HDmq_z HDz_mq HDM_z HDz_M HDx_z HDz_x HDX_z HDz_X HDy_z HDz_y HDgb_z HDz_gb HDgp_z HDz_gp HDgq_z HDz_gq HDG_z HDz_G
 clear HDz
 go_wp2_with fail
 clear cX0 cX1 cX2 cX3 cX4 cX5 lX cA0 cA1 cA2 cA3 cA4 cA5 lA
 refine (unhide HTE w17 HK.out).mono ?_
 rintro x w18 ⟨zb,rfl,hb,hk⟩
 have HDA_z:=hide (hb.apart HOA.out.mem)
 have HDz_A:=hide (hb.apart' HOA.out.mem)
 have HDmb_z:=hide (hb.apart HOmb.out.mem)
 have HDz_mb:=hide (hb.apart' HOmb.out.mem)
 have HDmp_z:=hide (hb.apart HOmp.out.mem)
 have HDz_mp:=hide (hb.apart' HOmp.out.mem)
 have HDmq_z:=hide (hb.apart HOmq.out.mem)
 have HDz_mq:=hide (hb.apart' HOmq.out.mem)
 have HDM_z:=hide (hb.apart HOM.out.mem)
 have HDz_M:=hide (hb.apart' HOM.out.mem)
 have HDx_z:=hide (hb.apart HOx.out.mem)
 have HDz_x:=hide (hb.apart' HOx.out.mem)
 have HDX_z:=hide (hb.apart HOX.out.mem)
 have HDz_X:=hide (hb.apart' HOX.out.mem)
 have HDy_z:=hide (hb.apart HOy.out.mem)
 have HDz_y:=hide (hb.apart' HOy.out.mem)
 have HDgb_z:=hide (hb.apart HOgb.out.mem)
 have HDz_gb:=hide (hb.apart' HOgb.out.mem)
 have HDgp_z:=hide (hb.apart HOgp.out.mem)
 have HDz_gp:=hide (hb.apart' HOgp.out.mem)
 have HDgq_z:=hide (hb.apart HOgq.out.mem)
 have HDz_gq:=hide (hb.apart' HOgq.out.mem)
 have HDG_z:=hide (hb.apart HOG.out.mem)
 have HDz_G:=hide (hb.apart' HOG.out.mem)
 have HNz:=hide ((hb.old HK.out).new)
 replace HK:=hide (HK.out.trans hk)
 replace HOA:=hide (HOA.out.kept hk)
 replace HOmb:=hide (HOmb.out.kept hk)
 replace HOmp:=hide (HOmp.out.kept hk)
 replace HOmq:=hide (HOmq.out.kept hk)
 replace HOM:=hide (HOM.out.kept hk)
 replace HOx:=hide (HOx.out.kept hk)
 replace HOX:=hide (HOX.out.kept hk)
 replace HOy:=hide (HOy.out.kept hk)
 replace HOgb:=hide (HOgb.out.kept hk)
 replace HOgp:=hide (HOgp.out.kept hk)
 replace HOgq:=hide (HOgq.out.kept hk)
 replace HOG:=hide (HOG.out.kept hk)
 have HOz:=hide hb.toOwn
 clear hb hk
 go_wp2_with fail
 refine (eqEventS_k (some ⟨yb,0,none⟩) (some ⟨zb,0,none⟩) es.length es.length es w18 (HOy.out.mem ((some ⟨yb,0,none⟩),ets es) (by simp)) (HOz.out.mem ((some ⟨zb,0,none⟩),ets es) (by simp)) HEL.out).mono ?_
 rintro x w19 ⟨rfl,hk⟩
 replace HK:=hide (HK.out.trans hk)
 replace HOA:=hide (HOA.out.kept hk)
 replace HOmb:=hide (HOmb.out.kept hk)
 replace HOmp:=hide (HOmp.out.kept hk)
 replace HOmq:=hide (HOmq.out.kept hk)
 replace HOM:=hide (HOM.out.kept hk)
 replace HOx:=hide (HOx.out.kept hk)
 replace HOX:=hide (HOX.out.kept hk)
 replace HOy:=hide (HOy.out.kept hk)
 replace HOgb:=hide (HOgb.out.kept hk)
 replace HOgp:=hide (HOgp.out.kept hk)
 replace HOgq:=hide (HOgq.out.kept hk)
 replace HOG:=hide (HOG.out.kept hk)
 replace HOz:=hide (HOz.out.kept hk)
 clear hk
 clear HOz HNz HDA_z HDz_A HDmb_z HDz_mb HDmp_z HDz_mp HDmq_z HDz_mq HDM_z HDz_M HDx_z HDz_x HDX_z HDz_X HDy_z HDz_y HDgb_z HDz_gb HDgp_z HDz_gp HDgq_z HDz_gq HDG_z HDz_G
 have cX0:=cell_at HOX.out.mem 0 (by simp)
 have cX1:=cell_at HOX.out.mem 1 (by simp)
 have cX2:=cell_at HOX.out.mem 2 (by simp)
 have cX3:=cell_at HOX.out.mem 3 (by simp)
 have cX4:=cell_at HOX.out.mem 4 (by simp)
 have cX5:=cell_at HOX.out.mem 5 (by simp)
 simp only [Nat.zero_add,List.getElem_cons_zero,List.getElem_cons_succ] at cX0 cX1 cX2 cX3 cX4 cX5
 have lX:=lt_of_cell cX0
 go_wp2_with fail
 clear cX0 cX1 cX2 cX3 cX4 cX5 lX
 have HLX:=hide (unhide HLB Bx HDx.out)
 refine (markBook_k Bx 1 w19 HOx.out HLX.out (by decide)).mono ?_
 rintro x w20 ⟨rfl,ho,ht⟩
 replace HK:=hide (ht.keeps HK.out HNx.out)
 replace HOA:=hide (HOA.out.turn ht HDA_x.out)
 replace HOmb:=hide (HOmb.out.turn ht HDmb_x.out)
 replace HOmp:=hide (HOmp.out.turn ht HDmp_x.out)
 replace HOmq:=hide (HOmq.out.turn ht HDmq_x.out)
 replace HOM:=hide (HOM.out.turn ht HDM_x.out)
 replace HOX:=hide (HOX.out.turn ht HDX_x.out)
 replace HOy:=hide (HOy.out.turn ht HDy_x.out)
 replace HOgb:=hide (HOgb.out.turn ht HDgb_x.out)
 replace HOgp:=hide (HOgp.out.turn ht HDgp_x.out)
 replace HOgq:=hide (HOgq.out.turn ht HDgq_x.out)
 replace HOG:=hide (HOG.out.turn ht HDG_x.out)
 clear ht
 clear ho
 obtain ⟨kx,hkx⟩:∃ kx,kx=markN 1 Bx:=⟨_,rfl⟩
 have HKX9:Hid (kx≤100000000):=by show _≤_;obtain ⟨l1,l2,l3⟩:=HLX.out;rw [hkx];unfold markN;omega
 rw [← hkx]
 clear hkx HLX
 clear HOx HNx HDA_x HDx_A HDmb_x HDx_mb HDmp_x HDx_mp HDmq_x HDx_mq HDM_x HDx_M HDX_x HDx_X HDy_x HDx_y HDgb_x HDx_gb HDgp_x HDx_gp HDgq_x HDx_gq HDG_x HDx_G
 clear HDx HFx
 go_wp2_with fail
 refine (markEventS_k (some ⟨yb,0,none⟩) es.length es kx w20 HOy.out HEL.out (by have:=HKX9.out;omega)).mono ?_
 rintro x w21 ⟨rfl,ho,ht⟩
 replace HK:=hide (ht.keeps HK.out HNy.out)
 replace HOA:=hide (HOA.out.turn ht HDA_y.out)
 replace HOmb:=hide (HOmb.out.turn ht HDmb_y.out)
 replace HOmp:=hide (HOmp.out.turn ht HDmp_y.out)
 replace HOmq:=hide (HOmq.out.turn ht HDmq_y.out)
 replace HOM:=hide (HOM.out.turn ht HDM_y.out)
 replace HOX:=hide (HOX.out.turn ht HDX_y.out)
 replace HOgb:=hide (HOgb.out.turn ht HDgb_y.out)
 replace HOgp:=hide (HOgp.out.turn ht HDgp_y.out)
 replace HOgq:=hide (HOgq.out.turn ht HDgq_y.out)
 replace HOG:=hide (HOG.out.turn ht HDG_y.out)
 clear ht
 clear ho
 have hp0:¬ ((kx+7*es.length:Nat):Int) < 0:=by omega
 generalize ((kx+7*es.length:Nat):Int)=kk at *
 clear HOy HNy HDA_y HDy_A HDmb_y HDy_mb HDmp_y HDy_mp HDmq_y HDy_mq HDM_y HDy_M HDX_y HDy_X HDgb_y HDy_gb HDgp_y HDy_gp HDgq_y HDy_gq HDG_y HDy_G
 clear HKX9
 have cG0:=cell_at HOG.out.mem 0 (by simp)
 have cG1:=cell_at HOG.out.mem 1 (by simp)
 have cG2:=cell_at HOG.out.mem 2 (by simp)
 have cG3:=cell_at HOG.out.mem 3 (by simp)
 have cG4:=cell_at HOG.out.mem 4 (by simp)
 have cG5:=cell_at HOG.out.mem 5 (by simp)
 simp only [Nat.zero_add,List.getElem_cons_zero,List.getElem_cons_succ] at cG0 cG1 cG2 cG3 cG4 cG5
 have lG:=lt_of_cell cG0
 have cM0:=cell_at HOM.out.mem 0 (by simp)
 have cM1:=cell_at HOM.out.mem 1 (by simp)
 have cM2:=cell_at HOM.out.mem 2 (by simp)
 have cM3:=cell_at HOM.out.mem 3 (by simp)
 have cM4:=cell_at HOM.out.mem 4 (by simp)
 have cM5:=cell_at HOM.out.mem 5 (by simp)
 simp only [Nat.zero_add,List.getElem_cons_zero,List.getElem_cons_succ] at cM0 cM1 cM2 cM3 cM4 cM5
 have lM:=lt_of_cell cM0
 go_wp2_with fail
 clear cG0 cG1 cG2 cG3 cG4 cG5 lG cM0 cM1 cM2 cM3 cM4 cM5 lM
 refine (eqBook_k gB mB w21 (HDg.out.trans HDm.out.symm) HOgb.out.mem HOmb.out.mem (unhide HLO _ HDg.out)).mono ?_
 rintro x w22 ⟨rfl,hk⟩
 replace HK:=hide (HK.out.trans hk)
 replace HOA:=hide (HOA.out.kept hk)
 replace HOmb:=hide (HOmb.out.kept hk)
 replace HOmp:=hide (HOmp.out.kept hk)
 replace HOmq:=hide (HOmq.out.kept hk)
 replace HOM:=hide (HOM.out.kept hk)
 replace HOX:=hide (HOX.out.kept hk)
 replace HOgb:=hide (HOgb.out.kept hk)
 replace HOgp:=hide (HOgp.out.kept hk)
 replace HOgq:=hide (HOgq.out.kept hk)
 replace HOG:=hide (HOG.out.kept hk)
 clear hk
 go_wp2_with fail
 refine (eqPostingS_k gpa mpa gpc mpc gP mP w22 (HPm.out.trans HPg.out.symm) (HOgp.out.mem (gpa,pcells gP) (List.mem_cons_self ..)) (fun z hz=>HOgp.out.mem z (List.mem_cons_of_mem _ hz)) (HOmp.out.mem (mpa,pcells mP) (List.mem_cons_self ..)) (fun z hz=>HOmp.out.mem z (List.mem_cons_of_mem _ hz)) (unhide HLP _ HPg.out).1 (fun z hz=>Nat.le_trans ((unhide HLP _ HPg.out).2 z hz) (by decide))).mono ?_
 rintro x w23 ⟨rfl,hk⟩
 replace HK:=hide (HK.out.trans hk)
 replace HOA:=hide (HOA.out.kept hk)
 replace HOmb:=hide (HOmb.out.kept hk)
 replace HOmp:=hide (HOmp.out.kept hk)
 replace HOmq:=hide (HOmq.out.kept hk)
 replace HOM:=hide (HOM.out.kept hk)
 replace HOX:=hide (HOX.out.kept hk)
 replace HOgb:=hide (HOgb.out.kept hk)
 replace HOgp:=hide (HOgp.out.kept hk)
 replace HOgq:=hide (HOgq.out.kept hk)
 replace HOG:=hide (HOG.out.kept hk)
 clear hk
 go_wp2_with fail
 refine (eqInts_k gqa mqa gqc mqc oC w23 (HOgq.out.mem (gqa,its oC) (by simp)) (HOmq.out.mem (mqa,its oC) (by simp)) HLC.out).mono ?_
 rintro x w24 ⟨rfl,hk⟩
 replace HK:=hide (HK.out.trans hk)
 replace HOA:=hide (HOA.out.kept hk)
 replace HOmb:=hide (HOmb.out.kept hk)
 replace HOmp:=hide (HOmp.out.kept hk)
 replace HOmq:=hide (HOmq.out.kept hk)
 replace HOM:=hide (HOM.out.kept hk)
 replace HOX:=hide (HOX.out.kept hk)
 replace HOgb:=hide (HOgb.out.kept hk)
 replace HOgp:=hide (HOgp.out.kept hk)
 replace HOgq:=hide (HOgq.out.kept hk)
 replace HOG:=hide (HOG.out.kept hk)
 clear hk
 have cG0:=cell_at HOG.out.mem 0 (by simp)
 have cG1:=cell_at HOG.out.mem 1 (by simp)
 have cG2:=cell_at HOG.out.mem 2 (by simp)
 have cG3:=cell_at HOG.out.mem 3 (by simp)
 have cG4:=cell_at HOG.out.mem 4 (by simp)
 have cG5:=cell_at HOG.out.mem 5 (by simp)
 simp only [Nat.zero_add,List.getElem_cons_zero,List.getElem_cons_succ] at cG0 cG1 cG2 cG3 cG4 cG5
 have lG:=lt_of_cell cG0
 go_wp2_with fail
 clear cG0 cG1 cG2 cG3 cG4 cG5 lG
 have HLG:=hide (unhide HLO gB HDg.out)
 refine (markBook_k gB 1 w24 HOgb.out HLG.out (by decide)).mono ?_
 rintro x w25 ⟨rfl,ho,ht⟩
 replace HK:=hide (ht.keeps HK.out HNgb.out)
 replace HOA:=hide (HOA.out.turn ht HDA_gb.out)
 replace HOmb:=hide (HOmb.out.turn ht HDmb_gb.out)
 replace HOmp:=hide (HOmp.out.turn ht HDmp_gb.out)
 replace HOmq:=hide (HOmq.out.turn ht HDmq_gb.out)
 replace HOM:=hide (HOM.out.turn ht HDM_gb.out)
 replace HOX:=hide (HOX.out.turn ht HDX_gb.out)
 replace HOgp:=hide (HOgp.out.turn ht HDgp_gb.out)
 replace HOgq:=hide (HOgq.out.turn ht HDgq_gb.out)
 replace HOG:=hide (HOG.out.turn ht HDG_gb.out)
 clear ht
 replace HOgb:=hide ho
 clear ho
 replace HDgb_gp:Hid (∀ b∈fp ((markBo 1 gB).segs:List Seg),b∉fp (((gpa,pcells gP) :: gP.map Pg.seg):List Seg)):=by show ∀ b∈fp _,_;rw [fp_mark];exact HDgb_gp.out
 replace HDgb_gq:Hid (∀ b∈fp ((markBo 1 gB).segs:List Seg),b∉fp ([(gqa,its oC)]:List Seg)):=by show ∀ b∈fp _,_;rw [fp_mark];exact HDgb_gq.out
 obtain ⟨mk,hmk⟩:∃ mk,mk=markN 1 gB:=⟨_,rfl⟩
 have HM9:Hid (mk≤100000000):=by show _≤_;obtain ⟨l1,l2,l3⟩:=HLG.out;rw [hmk];unfold markN;omega
 have HMK:=hide hmk.symm
 clear hmk HLG
 rw [HMK.out]
 have HTP:Hid (totP gP≤4194304):=by show _≤_;have h1:=totP_three (unhide HLP _ HPg.out).2;have h2:=(unhide HLP _ HPg.out).1;omega
 go_wp2_with fail
 refine (markPostingS_w gpa gpc gP mk w25 HOgp.out (unhide HLP _ HPg.out).1 (fun z hz=>Nat.le_trans ((unhide HLP _ HPg.out).2 z hz) (by decide)) HTP.out (by have:=HM9.out;omega)).mono ?_
 rintro x w26 ⟨rfl,ho,ht⟩
 replace HK:=hide (ht.keeps HK.out HNgp.out)
 replace HOA:=hide (HOA.out.turn ht HDA_gp.out)
 replace HOmb:=hide (HOmb.out.turn ht HDmb_gp.out)
 replace HOmp:=hide (HOmp.out.turn ht HDmp_gp.out)
 replace HOmq:=hide (HOmq.out.turn ht HDmq_gp.out)
 replace HOM:=hide (HOM.out.turn ht HDM_gp.out)
 replace HOX:=hide (HOX.out.turn ht HDX_gp.out)
 replace HOgb:=hide (HOgb.out.turn ht HDgb_gp.out)
 replace HOgq:=hide (HOgq.out.turn ht HDgq_gp.out)
 replace HOG:=hide (HOG.out.turn ht HDG_gp.out)
 clear ht
 replace HOgp:=hide ho
 clear ho
 replace HDgp_gq:Hid (∀ b∈fp (((gpa,pcells (markP mk gP)) :: (markP mk gP).map Pg.seg):List Seg),b∉fp ([(gqa,its oC)]:List Seg)):=by show ∀ b∈fp _,_;rw [fp_markP];exact HDgp_gq.out
 obtain ⟨m2,hm2⟩:∃ m2,m2=mk+gP.length+3*totP gP:=⟨_,rfl⟩
 have HM3:Hid (m2≤200000000):=by show _≤_;have h1:=HTP.out;have h2:=(unhide HLP _ HPg.out).1;have h3:=HM9.out;omega
 have HM2:=hide hm2.symm
 clear hm2
 rw [HM2.out]
 go_wp2_with fail
 refine (markIntS_k gqa gqc oC m2 w26 HOgq.out HLC.out (by have:=HM3.out;omega)).mono ?_
 rintro x w27 ⟨rfl,ho,ht⟩
 replace HK:=hide (ht.keeps HK.out HNgq.out)
 replace HOA:=hide (HOA.out.turn ht HDA_gq.out)
 replace HOmb:=hide (HOmb.out.turn ht HDmb_gq.out)
 replace HOmp:=hide (HOmp.out.turn ht HDmp_gq.out)
 replace HOmq:=hide (HOmq.out.turn ht HDmq_gq.out)
 replace HOM:=hide (HOM.out.turn ht HDM_gq.out)
 replace HOX:=hide (HOX.out.turn ht HDX_gq.out)
 replace HOgb:=hide (HOgb.out.turn ht HDgb_gq.out)
 replace HOgp:=hide (HOgp.out.turn ht HDgp_gq.out)
 replace HOG:=hide (HOG.out.turn ht HDG_gq.out)
 clear ht
 replace HOgq:=hide ho
 clear ho
 have hp1:¬ ((mk:Nat):Int) < 0:=by omega
 have hp2:¬ ((m2:Nat):Int) < 0:=by omega
 have hp3:¬ ((m2+oC.length:Nat):Int) < 0:=by omega
 have hq1:(((m2+oC.length:Nat):Int) != ((m2+oC.length:Nat):Int))=false:=by simp
 have cG0:=cell_at HOG.out.mem 0 (by simp)
 have cG1:=cell_at HOG.out.mem 1 (by simp)
 have cG2:=cell_at HOG.out.mem 2 (by simp)
 have cG3:=cell_at HOG.out.mem 3 (by simp)
 have cG4:=cell_at HOG.out.mem 4 (by simp)
 have cG5:=cell_at HOG.out.mem 5 (by simp)
 simp only [Nat.zero_add,List.getElem_cons_zero,List.getElem_cons_succ] at cG0 cG1 cG2 cG3 cG4 cG5
 have lG:=lt_of_cell cG0
 go_wp2_with fail
 clear cG0 cG1 cG2 cG3 cG4 cG5 lG
 refine (heldBook_k gB 1 w27 HOgb.out.mem (unhide HLO _ HDg.out) (by decide)).mono ?_
 rintro x w28 ⟨rfl,hk⟩
 replace HK:=hide (HK.out.trans hk)
 replace HOA:=hide (HOA.out.kept hk)
 replace HOmb:=hide (HOmb.out.kept hk)
 replace HOmp:=hide (HOmp.out.kept hk)
 replace HOmq:=hide (HOmq.out.kept hk)
 replace HOM:=hide (HOM.out.kept hk)
 replace HOX:=hide (HOX.out.kept hk)
 replace HOgb:=hide (HOgb.out.kept hk)
 replace HOgp:=hide (HOgp.out.kept hk)
 replace HOgq:=hide (HOgq.out.kept hk)
 replace HOG:=hide (HOG.out.kept hk)
 clear hk
 rw [HMK.out]
 go_wp2_with fail
 refine (heldPostingS_k gpa gpc gP mk w28 HOgp.out.mem (unhide HLP _ HPg.out).1 (fun z hz=>Nat.le_trans ((unhide HLP _ HPg.out).2 z hz) (by decide)) HTP.out (by have:=HM9.out;omega)).mono ?_
 rintro x w29 ⟨rfl,hw⟩
 have hk:Keeps w28 w29:=by rw [hw];exact Keeps.refl _
 clear hw
 replace HK:=hide (HK.out.trans hk)
 replace HOA:=hide (HOA.out.kept hk)
 replace HOmb:=hide (HOmb.out.kept hk)
 replace HOmp:=hide (HOmp.out.kept hk)
 replace HOmq:=hide (HOmq.out.kept hk)
 replace HOM:=hide (HOM.out.kept hk)
 replace HOX:=hide (HOX.out.kept hk)
 replace HOgb:=hide (HOgb.out.kept hk)
 replace HOgp:=hide (HOgp.out.kept hk)
 replace HOgq:=hide (HOgq.out.kept hk)
 replace HOG:=hide (HOG.out.kept hk)
 clear hk
 rw [HM2.out]
 go_wp2_with fail
 refine (heldIntS_k gqa gqc oC.length m2 w29 (HOgq.out.mem (gqa,its (marksI m2 oC.length)) (by simp)) HLC.out (by have:=HM3.out;omega)).mono ?_
 rintro x w30 ⟨rfl,hw⟩
 have hk:Keeps w29 w30:=by rw [hw];exact Keeps.refl _
 clear hw
 replace HK:=hide (HK.out.trans hk)
 replace HOA:=hide (HOA.out.kept hk)
 replace HOmb:=hide (HOmb.out.kept hk)
 replace HOmp:=hide (HOmp.out.kept hk)
 replace HOmq:=hide (HOmq.out.kept hk)
 replace HOM:=hide (HOM.out.kept hk)
 replace HOX:=hide (HOX.out.kept hk)
 replace HOgb:=hide (HOgb.out.kept hk)
 replace HOgp:=hide (HOgp.out.kept hk)
 replace HOgq:=hide (HOgq.out.kept hk)
 replace HOG:=hide (HOG.out.kept hk)
 clear hk
 have cA0:=cell_at HOA.out.mem 0 (by simp)
 have cA1:=cell_at HOA.out.mem 1 (by simp)
 have cA2:=cell_at HOA.out.mem 2 (by simp)
 have cA3:=cell_at HOA.out.mem 3 (by simp)
 have cA4:=cell_at HOA.out.mem 4 (by simp)
 have cA5:=cell_at HOA.out.mem 5 (by simp)
 simp only [Nat.zero_add,List.getElem_cons_zero,List.getElem_cons_succ] at cA0 cA1 cA2 cA3 cA4 cA5
 have lA:=lt_of_cell cA0
 go_wp2_with fail
 clear cA0 cA1 cA2 cA3 cA4 cA5 lA
 refine (unhide HTf w30 HK.out HL.out).mono ?_
 rintro x w31 ⟨Bs,rfl,hd,hf,hb,hk⟩
 have HDs:=hide hd
 have HFs:=hide hf
 clear hd hf
 have HDA_s:=hide (hb.apart HOA.out.mem)
 have HDs_A:=hide (hb.apart' HOA.out.mem)
 have HDmb_s:=hide (hb.apart HOmb.out.mem)
 have HDs_mb:=hide (hb.apart' HOmb.out.mem)
 have HDmp_s:=hide (hb.apart HOmp.out.mem)
 have HDs_mp:=hide (hb.apart' HOmp.out.mem)
 have HDmq_s:=hide (hb.apart HOmq.out.mem)
 have HDs_mq:=hide (hb.apart' HOmq.out.mem)
 have HDM_s:=hide (hb.apart HOM.out.mem)
 have HDs_M:=hide (hb.apart' HOM.out.mem)
 have HDX_s:=hide (hb.apart HOX.out.mem)
 have HDs_X:=hide (hb.apart' HOX.out.mem)
 have HDgb_s:=hide (hb.apart HOgb.out.mem)
 have HDs_gb:=hide (hb.apart' HOgb.out.mem)
 have HDgp_s:=hide (hb.apart HOgp.out.mem)
 have HDs_gp:=hide (hb.apart' HOgp.out.mem)
 have HDgq_s:=hide (hb.apart HOgq.out.mem)
 have HDs_gq:=hide (hb.apart' HOgq.out.mem)
 have HDG_s:=hide (hb.apart HOG.out.mem)
 have HDs_G:=hide (hb.apart' HOG.out.mem)
 have HNs:=hide ((hb.old HK.out).new)
 replace HK:=hide (HK.out.trans hk)
 replace HOA:=hide (HOA.out.kept hk)
 replace HOmb:=hide (HOmb.out.kept hk)
 replace HOmp:=hide (HOmp.out.kept hk)
 replace HOmq:=hide (HOmq.out.kept hk)
 replace HOM:=hide (HOM.out.kept hk)
 replace HOX:=hide (HOX.out.kept hk)
 replace HOgb:=hide (HOgb.out.kept hk)
 replace HOgp:=hide (HOgp.out.kept hk)
 replace HOgq:=hide (HOgq.out.kept hk)
 replace HOG:=hide (HOG.out.kept hk)
 have HOs:=hide hb.toOwn
 clear hb hk
 go_wp2_with fail
 refine (unhide HTE w31 HK.out).mono ?_
 rintro x w32 ⟨tb,rfl,hb,hk⟩
 have HDA_t:=hide (hb.apart HOA.out.mem)
 have HDt_A:=hide (hb.apart' HOA.out.mem)
 have HDmb_t:=hide (hb.apart HOmb.out.mem)
 have HDt_mb:=hide (hb.apart' HOmb.out.mem)
 have HDmp_t:=hide (hb.apart HOmp.out.mem)
 have HDt_mp:=hide (hb.apart' HOmp.out.mem)
 have HDmq_t:=hide (hb.apart HOmq.out.mem)
 have HDt_mq:=hide (hb.apart' HOmq.out.mem)
 have HDM_t:=hide (hb.apart HOM.out.mem)
 have HDt_M:=hide (hb.apart' HOM.out.mem)
 have HDX_t:=hide (hb.apart HOX.out.mem)
 have HDt_X:=hide (hb.apart' HOX.out.mem)
 have HDgb_t:=hide (hb.apart HOgb.out.mem)
 have HDt_gb:=hide (hb.apart' HOgb.out.mem)
 have HDgp_t:=hide (hb.apart HOgp.out.mem)
 have HDt_gp:=hide (hb.apart' HOgp.out.mem)
 have HDgq_t:=hide (hb.apart HOgq.out.mem)
 have HDt_gq:=hide (hb.apart' HOgq.out.mem)
 have HDG_t:=hide (hb.apart HOG.out.mem)
 have HDt_G:=hide (hb.apart' HOG.out.mem)
 have HDs_t:=hide (hb.apart HOs.out.mem)
 have HDt_s:=hide (hb.apart' HOs.out.mem)
 have HNt:=hide ((hb.old HK.out).new)
 replace HK:=hide (HK.out.trans hk)
 replace HOA:=hide (HOA.out.kept hk)
 replace HOmb:=hide (HOmb.out.kept hk)
 replace HOmp:=hide (HOmp.out.kept hk)
 replace HOmq:=hide (HOmq.out.kept hk)
 replace HOM:=hide (HOM.out.kept hk)
 replace HOX:=hide (HOX.out.kept hk)
 replace HOgb:=hide (HOgb.out.kept hk)
 replace HOgp:=hide (HOgp.out.kept hk)
 replace HOgq:=hide (HOgq.out.kept hk)
 replace HOG:=hide (HOG.out.kept hk)
 replace HOs:=hide (HOs.out.kept hk)
 have HOt:=hide hb.toOwn
 clear hb hk
 go_wp2_with fail
 refine (unhide HCI Bs HDs.out HFs.out tb w32 HK.out HOs.out.mem HOt.out.mem).mono ?_
 rintro x w33 ⟨hB,hpa,hpc,hP,hqa,hqc,rfl,hd,hp,hans⟩
 have HDh:=hide hd
 have HPh:=hide hp
 clear hd hp
 have HDA_hb:=hide (hans.b.apart HOA.out.mem)
 have HDhb_A:=hide (hans.b.apart' HOA.out.mem)
 have HDmb_hb:=hide (hans.b.apart HOmb.out.mem)
 have HDhb_mb:=hide (hans.b.apart' HOmb.out.mem)
 have HDmp_hb:=hide (hans.b.apart HOmp.out.mem)
 have HDhb_mp:=hide (hans.b.apart' HOmp.out.mem)
 have HDmq_hb:=hide (hans.b.apart HOmq.out.mem)
 have HDhb_mq:=hide (hans.b.apart' HOmq.out.mem)
 have HDM_hb:=hide (hans.b.apart HOM.out.mem)
 have HDhb_M:=hide (hans.b.apart' HOM.out.mem)
 have HDX_hb:=hide (hans.b.apart HOX.out.mem)
 have HDhb_X:=hide (hans.b.apart' HOX.out.mem)
 have HDgb_hb:=hide (hans.b.apart HOgb.out.mem)
 have HDhb_gb:=hide (hans.b.apart' HOgb.out.mem)
 have HDgp_hb:=hide (hans.b.apart HOgp.out.mem)
 have HDhb_gp:=hide (hans.b.apart' HOgp.out.mem)
 have HDgq_hb:=hide (hans.b.apart HOgq.out.mem)
 have HDhb_gq:=hide (hans.b.apart' HOgq.out.mem)
 have HDG_hb:=hide (hans.b.apart HOG.out.mem)
 have HDhb_G:=hide (hans.b.apart' HOG.out.mem)
 have HDs_hb:=hide (hans.b.apart HOs.out.mem)
 have HDhb_s:=hide (hans.b.apart' HOs.out.mem)
 have HDt_hb:=hide (hans.b.apart HOt.out.mem)
 have HDhb_t:=hide (hans.b.apart' HOt.out.mem)
 have HNhb:=hide ((hans.b.old HK.out).new)
 have HDA_hp:=hide (hans.p.apart HOA.out.mem)
 have HDhp_A:=hide (hans.p.apart' HOA.out.mem)
 have HDmb_hp:=hide (hans.p.apart HOmb.out.mem)
 have HDhp_mb:=hide (hans.p.apart' HOmb.out.mem)
 have HDmp_hp:=hide (hans.p.apart HOmp.out.mem)
 have HDhp_mp:=hide (hans.p.apart' HOmp.out.mem)
 have HDmq_hp:=hide (hans.p.apart HOmq.out.mem)
 have HDhp_mq:=hide (hans.p.apart' HOmq.out.mem)
 have HDM_hp:=hide (hans.p.apart HOM.out.mem)
 have HDhp_M:=hide (hans.p.apart' HOM.out.mem)
 have HDX_hp:=hide (hans.p.apart HOX.out.mem)
 have HDhp_X:=hide (hans.p.apart' HOX.out.mem)
 have HDgb_hp:=hide (hans.p.apart HOgb.out.mem)
 have HDhp_gb:=hide (hans.p.apart' HOgb.out.mem)
 have HDgp_hp:=hide (hans.p.apart HOgp.out.mem)
 have HDhp_gp:=hide (hans.p.apart' HOgp.out.mem)
 have HDgq_hp:=hide (hans.p.apart HOgq.out.mem)
 have HDhp_gq:=hide (hans.p.apart' HOgq.out.mem)
 have HDG_hp:=hide (hans.p.apart HOG.out.mem)
 have HDhp_G:=hide (hans.p.apart' HOG.out.mem)
 have HDs_hp:=hide (hans.p.apart HOs.out.mem)
 have HDhp_s:=hide (hans.p.apart' HOs.out.mem)
 have HDt_hp:=hide (hans.p.apart HOt.out.mem)
 have HDhp_t:=hide (hans.p.apart' HOt.out.mem)
 have HNhp:=hide ((hans.p.old HK.out).new)
 have HDA_hq:=hide (hans.q.apart HOA.out.mem)
 have HDhq_A:=hide (hans.q.apart' HOA.out.mem)
 have HDmb_hq:=hide (hans.q.apart HOmb.out.mem)
 have HDhq_mb:=hide (hans.q.apart' HOmb.out.mem)
 have HDmp_hq:=hide (hans.q.apart HOmp.out.mem)
 have HDhq_mp:=hide (hans.q.apart' HOmp.out.mem)
 have HDmq_hq:=hide (hans.q.apart HOmq.out.mem)
 have HDhq_mq:=hide (hans.q.apart' HOmq.out.mem)
 have HDM_hq:=hide (hans.q.apart HOM.out.mem)
 have HDhq_M:=hide (hans.q.apart' HOM.out.mem)
 have HDX_hq:=hide (hans.q.apart HOX.out.mem)
 have HDhq_X:=hide (hans.q.apart' HOX.out.mem)
 have HDgb_hq:=hide (hans.q.apart HOgb.out.mem)
 have HDhq_gb:=hide (hans.q.apart' HOgb.out.mem)
 have HDgp_hq:=hide (hans.q.apart HOgp.out.mem)
 have HDhq_gp:=hide (hans.q.apart' HOgp.out.mem)
 have HDgq_hq:=hide (hans.q.apart HOgq.out.mem)
 have HDhq_gq:=hide (hans.q.apart' HOgq.out.mem)
 have HDG_hq:=hide (hans.q.apart HOG.out.mem)
 have HDhq_G:=hide (hans.q.apart' HOG.out.mem)
 have HDs_hq:=hide (hans.q.apart HOs.out.mem)
 have HDhq_s:=hide (hans.q.apart' HOs.out.mem)
 have HDt_hq:=hide (hans.q.apart HOt.out.mem)
 have HDhq_t:=hide (hans.q.apart' HOt.out.mem)
 have HNhq:=hide ((hans.q.old HK.out).new)
 have HDhb_hp:=hide hans.bp
 have HDhp_hb:=hide (apsym hans.bp)
 have HDhb_hq:=hide hans.bq
 have HDhq_hb:=hide (apsym hans.bq)
 have HDhp_hq:=hide hans.pq
 have HDhq_hp:=hide (apsym hans.pq)
 replace HK:=hide (HK.out.trans hans.keep)
 replace HOA:=hide (HOA.out.kept hans.keep)
 replace HOmb:=hide (HOmb.out.kept hans.keep)
 replace HOmp:=hide (HOmp.out.kept hans.keep)
 replace HOmq:=hide (HOmq.out.kept hans.keep)
 replace HOM:=hide (HOM.out.kept hans.keep)
 replace HOX:=hide (HOX.out.kept hans.keep)
 replace HOgb:=hide (HOgb.out.kept hans.keep)
 replace HOgp:=hide (HOgp.out.kept hans.keep)
 replace HOgq:=hide (HOgq.out.kept hans.keep)
 replace HOG:=hide (HOG.out.kept hans.keep)
 replace HOs:=hide (HOs.out.kept hans.keep)
 replace HOt:=hide (HOt.out.kept hans.keep)
 have HOhb:=hide hans.b.toOwn
 have HOhp:=hide hans.p.toOwn
 have HOhq:=hide hans.q.toOwn
 clear hans
 clear HOs HNs HDA_s HDs_A HDmb_s HDs_mb HDmp_s HDs_mp HDmq_s HDs_mq HDM_s HDs_M HDX_s HDs_X HDgb_s HDs_gb HDgp_s HDs_gp HDgq_s HDs_gq HDG_s HDs_G HDt_s HDs_t HDhb_s HDs_hb HDhp_s HDs_hp HDhq_s HDs_hq
 clear HDs HFs
 clear HOt HNt HDA_t HDt_A HDmb_t HDt_mb HDmp_t HDt_mp HDmq_t HDt_mq HDM_t HDt_M HDX_t HDt_X HDgb_t HDt_gb HDgp_t HDt_gp HDgq_t HDt_gq HDG_t HDt_G HDhb_t HDt_hb HDhp_t HDt_hp HDhq_t HDt_hq
 go_upto_region 40 with fail
 have hb:=born_alloc w33 #[.int .i64 hB.tk,.int .i64 hB.nx,.int .i64 hB.wa,.slice hB.ca hB.C.length hB.cc,.slice hB.ha hB.Hs.length hB.hc,.slice hB.ra hB.R.length hB.rc] 34
 dsimp only at hb
 have hk:=Keeps.alloc (Keeps.refl w33) (.cells #[.int .i64 hB.tk,.int .i64 hB.nx,.int .i64 hB.wa,.slice hB.ca hB.C.length hB.cc,.slice hB.ha hB.Hs.length hB.hc,.slice hB.ra hB.R.length hB.rc] 34)
 generalize w33.alloc (.cells #[.int .i64 hB.tk,.int .i64 hB.nx,.int .i64 hB.wa,.slice hB.ca hB.C.length hB.cc,.slice hB.ha hB.Hs.length hB.hc,.slice hB.ra hB.R.length hB.rc] 34)=w34 at *
 have HDA_V:=hide (hb.apart HOA.out.mem)
 have HDV_A:=hide (hb.apart' HOA.out.mem)
 have HDmb_V:=hide (hb.apart HOmb.out.mem)
 have HDV_mb:=hide (hb.apart' HOmb.out.mem)
 have HDmp_V:=hide (hb.apart HOmp.out.mem)
 have HDV_mp:=hide (hb.apart' HOmp.out.mem)
 have HDmq_V:=hide (hb.apart HOmq.out.mem)
 have HDV_mq:=hide (hb.apart' HOmq.out.mem)
 have HDM_V:=hide (hb.apart HOM.out.mem)
 have HDV_M:=hide (hb.apart' HOM.out.mem)
 have HDX_V:=hide (hb.apart HOX.out.mem)
 have HDV_X:=hide (hb.apart' HOX.out.mem)
 have HDgb_V:=hide (hb.apart HOgb.out.mem)
 have HDV_gb:=hide (hb.apart' HOgb.out.mem)
 have HDgp_V:=hide (hb.apart HOgp.out.mem)
 have HDV_gp:=hide (hb.apart' HOgp.out.mem)
 have HDgq_V:=hide (hb.apart HOgq.out.mem)
 have HDV_gq:=hide (hb.apart' HOgq.out.mem)
 have HDG_V:=hide (hb.apart HOG.out.mem)
 have HDV_G:=hide (hb.apart' HOG.out.mem)
 have HDhb_V:=hide (hb.apart HOhb.out.mem)
 have HDV_hb:=hide (hb.apart' HOhb.out.mem)
 have HDhp_V:=hide (hb.apart HOhp.out.mem)
 have HDV_hp:=hide (hb.apart' HOhp.out.mem)
 have HDhq_V:=hide (hb.apart HOhq.out.mem)
 have HDV_hq:=hide (hb.apart' HOhq.out.mem)
 have HNV:=hide ((hb.old HK.out).new)
 replace HK:=hide (HK.out.trans hk)
 replace HOA:=hide (HOA.out.kept hk)
 replace HOmb:=hide (HOmb.out.kept hk)
 replace HOmp:=hide (HOmp.out.kept hk)
 replace HOmq:=hide (HOmq.out.kept hk)
 replace HOM:=hide (HOM.out.kept hk)
 replace HOX:=hide (HOX.out.kept hk)
 replace HOgb:=hide (HOgb.out.kept hk)
 replace HOgp:=hide (HOgp.out.kept hk)
 replace HOgq:=hide (HOgq.out.kept hk)
 replace HOG:=hide (HOG.out.kept hk)
 replace HOhb:=hide (HOhb.out.kept hk)
 replace HOhp:=hide (HOhp.out.kept hk)
 replace HOhq:=hide (HOhq.out.kept hk)
 have HOV:=hide hb.toOwn
 clear hb hk
 have cV0:=cell_at HOV.out.mem 0 (by simp)
 have cV1:=cell_at HOV.out.mem 1 (by simp)
 have cV2:=cell_at HOV.out.mem 2 (by simp)
 have cV3:=cell_at HOV.out.mem 3 (by simp)
 have cV4:=cell_at HOV.out.mem 4 (by simp)
 have cV5:=cell_at HOV.out.mem 5 (by simp)
 simp only [Nat.zero_add,List.getElem_cons_zero,List.getElem_cons_succ] at cV0 cV1 cV2 cV3 cV4 cV5
 have lV:=lt_of_cell cV0
 have cM0:=cell_at HOM.out.mem 0 (by simp)
 have cM1:=cell_at HOM.out.mem 1 (by simp)
 have cM2:=cell_at HOM.out.mem 2 (by simp)
 have cM3:=cell_at HOM.out.mem 3 (by simp)
 have cM4:=cell_at HOM.out.mem 4 (by simp)
 have cM5:=cell_at HOM.out.mem 5 (by simp)
 simp only [Nat.zero_add,List.getElem_cons_zero,List.getElem_cons_succ] at cM0 cM1 cM2 cM3 cM4 cM5
 have lM:=lt_of_cell cM0
 go_wp2_with fail
 clear cV0 cV1 cV2 cV3 cV4 cV5 lV cM0 cM1 cM2 cM3 cM4 cM5 lM
 refine (eqBook_k hB mB w34 (HDh.out.trans HDm.out.symm) HOhb.out.mem HOmb.out.mem (unhide HLO _ HDh.out)).mono ?_
 rintro x w35 ⟨rfl,hk⟩
 replace HK:=hide (HK.out.trans hk)
 replace HOA:=hide (HOA.out.kept hk)
 replace HOmb:=hide (HOmb.out.kept hk)
 replace HOmp:=hide (HOmp.out.kept hk)
 replace HOmq:=hide (HOmq.out.kept hk)
 replace HOM:=hide (HOM.out.kept hk)
 replace HOX:=hide (HOX.out.kept hk)
 replace HOgb:=hide (HOgb.out.kept hk)
 replace HOgp:=hide (HOgp.out.kept hk)
 replace HOgq:=hide (HOgq.out.kept hk)
 replace HOG:=hide (HOG.out.kept hk)
 replace HOhb:=hide (HOhb.out.kept hk)
 replace HOhp:=hide (HOhp.out.kept hk)
 replace HOhq:=hide (HOhq.out.kept hk)
 replace HOV:=hide (HOV.out.kept hk)
 clear hk
 go_wp2_with fail
 refine (eqPostingS_k hpa mpa hpc mpc hP mP w35 (HPm.out.trans HPh.out.symm) (HOhp.out.mem (hpa,pcells hP) (List.mem_cons_self ..)) (fun z hz=>HOhp.out.mem z (List.mem_cons_of_mem _ hz)) (HOmp.out.mem (mpa,pcells mP) (List.mem_cons_self ..)) (fun z hz=>HOmp.out.mem z (List.mem_cons_of_mem _ hz)) (unhide HLP _ HPh.out).1 (fun z hz=>Nat.le_trans ((unhide HLP _ HPh.out).2 z hz) (by decide))).mono ?_
 rintro x w36 ⟨rfl,hk⟩
 replace HK:=hide (HK.out.trans hk)
 replace HOA:=hide (HOA.out.kept hk)
 replace HOmb:=hide (HOmb.out.kept hk)
 replace HOmp:=hide (HOmp.out.kept hk)
 replace HOmq:=hide (HOmq.out.kept hk)
 replace HOM:=hide (HOM.out.kept hk)
 replace HOX:=hide (HOX.out.kept hk)
 replace HOgb:=hide (HOgb.out.kept hk)
 replace HOgp:=hide (HOgp.out.kept hk)
 replace HOgq:=hide (HOgq.out.kept hk)
 replace HOG:=hide (HOG.out.kept hk)
 replace HOhb:=hide (HOhb.out.kept hk)
 replace HOhp:=hide (HOhp.out.kept hk)
 replace HOhq:=hide (HOhq.out.kept hk)
 replace HOV:=hide (HOV.out.kept hk)
 clear hk
 go_wp2_with fail
 refine (eqInts_k hqa mqa hqc mqc oC w36 (HOhq.out.mem (hqa,its oC) (by simp)) (HOmq.out.mem (mqa,its oC) (by simp)) HLC.out).mono ?_
 rintro x w37 ⟨rfl,hk⟩
 replace HK:=hide (HK.out.trans hk)
 replace HOA:=hide (HOA.out.kept hk)
 replace HOmb:=hide (HOmb.out.kept hk)
 replace HOmp:=hide (HOmp.out.kept hk)
 replace HOmq:=hide (HOmq.out.kept hk)
 replace HOM:=hide (HOM.out.kept hk)
 replace HOX:=hide (HOX.out.kept hk)
 replace HOgb:=hide (HOgb.out.kept hk)
 replace HOgp:=hide (HOgp.out.kept hk)
 replace HOgq:=hide (HOgq.out.kept hk)
 replace HOG:=hide (HOG.out.kept hk)
 replace HOhb:=hide (HOhb.out.kept hk)
 replace HOhp:=hide (HOhp.out.kept hk)
 replace HOhq:=hide (HOhq.out.kept hk)
 replace HOV:=hide (HOV.out.kept hk)
 clear hk
 have cG0:=cell_at HOG.out.mem 0 (by simp)
 have cG1:=cell_at HOG.out.mem 1 (by simp)
 have cG2:=cell_at HOG.out.mem 2 (by simp)
 have cG3:=cell_at HOG.out.mem 3 (by simp)
 have cG4:=cell_at HOG.out.mem 4 (by simp)
 have cG5:=cell_at HOG.out.mem 5 (by simp)
 simp only [Nat.zero_add,List.getElem_cons_zero,List.getElem_cons_succ] at cG0 cG1 cG2 cG3 cG4 cG5
 have lG:=lt_of_cell cG0
 go_wp2_with fail
 clear cG0 cG1 cG2 cG3 cG4 cG5 lG
 refine (heldBook_k gB 1 w37 HOgb.out.mem (unhide HLO _ HDg.out) (by decide)).mono ?_
 rintro x w38 ⟨rfl,hk⟩
 replace HK:=hide (HK.out.trans hk)
 replace HOA:=hide (HOA.out.kept hk)
 replace HOmb:=hide (HOmb.out.kept hk)
 replace HOmp:=hide (HOmp.out.kept hk)
 replace HOmq:=hide (HOmq.out.kept hk)
 replace HOM:=hide (HOM.out.kept hk)
 replace HOX:=hide (HOX.out.kept hk)
 replace HOgb:=hide (HOgb.out.kept hk)
 replace HOgp:=hide (HOgp.out.kept hk)
 replace HOgq:=hide (HOgq.out.kept hk)
 replace HOG:=hide (HOG.out.kept hk)
 replace HOhb:=hide (HOhb.out.kept hk)
 replace HOhp:=hide (HOhp.out.kept hk)
 replace HOhq:=hide (HOhq.out.kept hk)
 replace HOV:=hide (HOV.out.kept hk)
 clear hk
 rw [HMK.out]
 go_wp2_with fail
 refine (heldPostingS_k gpa gpc gP mk w38 HOgp.out.mem (unhide HLP _ HPg.out).1 (fun z hz=>Nat.le_trans ((unhide HLP _ HPg.out).2 z hz) (by decide)) HTP.out (by have:=HM9.out;omega)).mono ?_
 rintro x w39 ⟨rfl,hw⟩
 have hk:Keeps w38 w39:=by rw [hw];exact Keeps.refl _
 clear hw
 replace HK:=hide (HK.out.trans hk)
 replace HOA:=hide (HOA.out.kept hk)
 replace HOmb:=hide (HOmb.out.kept hk)
 replace HOmp:=hide (HOmp.out.kept hk)
 replace HOmq:=hide (HOmq.out.kept hk)
 replace HOM:=hide (HOM.out.kept hk)
 replace HOX:=hide (HOX.out.kept hk)
 replace HOgb:=hide (HOgb.out.kept hk)
 replace HOgp:=hide (HOgp.out.kept hk)
 replace HOgq:=hide (HOgq.out.kept hk)
 replace HOG:=hide (HOG.out.kept hk)
 replace HOhb:=hide (HOhb.out.kept hk)
 replace HOhp:=hide (HOhp.out.kept hk)
 replace HOhq:=hide (HOhq.out.kept hk)
 replace HOV:=hide (HOV.out.kept hk)
 clear hk
 rw [HM2.out]
 go_wp2_with fail
 refine (heldIntS_k gqa gqc oC.length m2 w39 (HOgq.out.mem (gqa,its (marksI m2 oC.length)) (by simp)) HLC.out (by have:=HM3.out;omega)).mono ?_
 rintro x w40 ⟨rfl,hw⟩
 have hk:Keeps w39 w40:=by rw [hw];exact Keeps.refl _
 clear hw
 replace HK:=hide (HK.out.trans hk)
 replace HOA:=hide (HOA.out.kept hk)
 replace HOmb:=hide (HOmb.out.kept hk)
 replace HOmp:=hide (HOmp.out.kept hk)
 replace HOmq:=hide (HOmq.out.kept hk)
 replace HOM:=hide (HOM.out.kept hk)
 replace HOX:=hide (HOX.out.kept hk)
 replace HOgb:=hide (HOgb.out.kept hk)
 replace HOgp:=hide (HOgp.out.kept hk)
 replace HOgq:=hide (HOgq.out.kept hk)
 replace HOG:=hide (HOG.out.kept hk)
 replace HOhb:=hide (HOhb.out.kept hk)
 replace HOhp:=hide (HOhp.out.kept hk)
 replace HOhq:=hide (HOhq.out.kept hk)
 replace HOV:=hide (HOV.out.kept hk)
 clear hk
 go_wp2_with fail
 go_ret
 exact ⟨rfl,HK.out⟩
end Go.Proofs.YtccdhcempnkgaaaGreatDoor.fnExactApplyAll
