/- The walk of FnExactApply. -/
import Derived.Test.YtccdhcempnkgaaaGreatDoorPA41
import Derived.Test.YtccdhcempnkgaaaGreatDoorPA42
import Derived.Test.YtccdhcempnkgaaaGreatDoorPA44
import Derived.Test.YtccdhcempnkgaaaGreatDoorPA45
import Derived.Test.YtccdhcempnkgaaaGreatDoorPA43
import Derived.Test.YtccdhcempnkgaaaGreatDoorPA13
import Derived.WalkKit
import Derived.ProofKit
import Derived.OpenShut
import Derived.ShutString
import Derived.LaidMore
import Derived.Below
namespace Go.Proofs.YtccdhcempnkgaaaGreatDoor.fnExactApply
open Go.ChangeShapes Go.WideShapes Go.ChangeAt Go.RowKit
set_option linter.unusedVariables false
theorem len_d {B B':Bo} (h:B'.d=B.d) (hl:B.len):B'.len:=by
 have h1:B'.C=B.C:=congrArg Bk.C h
 have h2:B'.Hs=B.Hs:=congrArg Bk.Hs h
 have h3:B'.R=B.R:=congrArg Bk.R h
 unfold Bo.len;rw [h1,h2,h3];exact hl
theorem fp_mark (n:Nat) (B:Bo):fp (markBo n B).segs=fp B.segs:=by
 obtain ⟨tk,nx,wa,ca,cc,C,ha,hc,Hs,ra,rc,R⟩:=B
 have h1:fpS (ca,chs (marksChn n C.length))=fpS (ca,chs C):=fpS_len (by rw [chs_len,chs_len,marksChn_len])
 have h2:fpS (ha,hts (marksHtl (n+7*C.length) Hs.length))=fpS (ha,hts Hs):=fpS_len (by rw [hts_len,hts_len,marksHtl_len])
 have h3:fpS (ra,crs (marksCrc (n+7*C.length+7*Hs.length) R.length))=fpS (ra,crs R):=fpS_len (by rw [crs_len,crs_len,marksCrc_len])
 show fpS (ca,chs (marksChn n C.length))++(fpS (ha,hts (marksHtl (n+7*C.length) Hs.length))++(fpS (ra,crs (marksCrc (n+7*C.length+7*Hs.length) R.length))++[]))=fpS (ca,chs C)++(fpS (ha,hts Hs)++(fpS (ra,crs R)++[]))
 rw [h1,h2,h3]
set_option maxRecDepth 100000 in
set_option maxHeartbeats 16000000 in
theorem walk (B:Bo) (kd ky ch tt am fe:Int) (ys:Bool) (w:World) (hm:Mem w B.segs) (hf:B.fit) (hbig:B.big) (wk:(Lit.int .i64 kd).wf=true) (wy:(Lit.int .i64 ky).wf=true) (wc:(Lit.int .i64 ch).wf=true) (wt:(Lit.int .i64 tt).wf=true) (wm:(Lit.int .i64 am).wf=true) (wf:(Lit.int .i64 fe).wf=true) (u0:TypeId) (x0:Value) (hg0:w.cell? ⟨0,0,none⟩=some (.iface u0 x0)) (u3:TypeId) (x3:Value) (hg3:w.cell? ⟨2,0,none⟩=some (.iface u3 x3)) (u2:TypeId) (x2:Value) (hg2:w.cell? ⟨1,0,none⟩=some (.iface u2 x2)) :
 Calls Tryz.prog 3 #[B.v,evV kd ky ch tt am fe ys] w fun e w'=>e=.returned (.bool true)∧Keeps w w':=by
 have HSz:=hide (fun w'=>szBook_k B 1048576 w' hbig (by decide) (by decide))
 obtain ⟨bd,hbd⟩:∃ bd,bd=B.d:=⟨_,rfl⟩
 have HTf:Hid (∀ w',Keeps w w'→B.len→Calls Tryz.prog 7 #[B.v] w' fun e w''=>∃ B':Bo,e=.returned B'.v∧B'.d=bd∧B'.fit∧Born w' w'' B'.segs∧Keeps w' w''):=fun w' hk hl=>(toBook_k B w' (hm.kept hk) hl).mono fun e w'' ⟨B',h1,h2,hf',h3,h4⟩=>⟨B',h1,h2.trans hbd.symm,hf',h3,h4⟩
 have HTo:Hid (∀ w',Keeps w w'→B.len→Calls Tryz.prog 7 #[B.v] w' fun e w''=>∃ B':Bo,e=.returned B'.v∧B'.d=bd∧Born w' w'' B'.segs∧Keeps w' w''):=fun w' hk hl=>(toBook_k B w' (hm.kept hk) hl).mono fun e w'' ⟨B',h1,h2,_,h3,h4⟩=>⟨B',h1,h2.trans hbd.symm,h3,h4⟩
 have HLB:Hid (B.len→∀ B':Bo,B'.d=bd→B'.len):=fun hl B' h=>len_d (h.trans hbd) hl
 obtain ⟨ob,hob⟩:∃ ob,ob=outB (appC bd kd ky ch tt am fe ys) (evK bd kd ky ch tt am fe ys) (evL bd kd ky ch tt am fe ys):=⟨_,rfl⟩
 obtain ⟨oi,hoi⟩:∃ oi,oi=pidV (appC bd kd ky ch tt am fe ys) (evK bd kd ky ch tt am fe ys) (evL bd kd ky ch tt am fe ys):=⟨_,rfl⟩
 obtain ⟨oL,hoL⟩:∃ oL,oL=linV (appC bd kd ky ch tt am fe ys) (evL bd kd ky ch tt am fe ys):=⟨_,rfl⟩
 obtain ⟨oc,hoc⟩:∃ oc,oc=appC bd kd ky ch tt am fe ys:=⟨_,rfl⟩
 have HCS:Hid (B.len→∀ By:Bo,By.d=bd→By.fit→∀ w',Keeps w w'→Mem w' By.segs→Calls Tryz.prog 6 #[By.v,evV kd ky ch tt am fe ys] w' fun e w''=>∃ x:Aw,e=.returned x.v∧x.d=⟨ob,oi,oL,oc⟩∧Born w' w'' x.segs∧Keeps w' w''):=fun hl By hd hf w' hk hm=>by
  have hl':=len_d (hd.trans hbd) hl
  subst hd
  obtain ⟨tk,nx,wa,ca,cc,C,ha,hc,Hs,ra,rc,R⟩:=By
  refine (apply_spec tk nx wa ca cc C ha hc Hs ra rc R w' hm hf hl' kd ky ch tt am fe ys).mono ?_
  rintro e w'' ⟨B',a,cap,rfl,h1,h2⟩
  exact ⟨⟨B',oi,a,cap,oL,oc⟩,by rw [hoi,hoL,hoc];rfl,by show Ad.mk _ _ _ _=_;rw [h1,hob];rfl,by rw [hoL];exact h2.born.1,h2.keep⟩
 have HCI:Hid (B.len→∀ By:Bo,By.d=bd→By.fit→∀ w',Keeps w w'→Mem w' By.segs→Calls Tryz.prog 9 #[By.v,evV kd ky ch tt am fe ys] w' fun e w''=>∃ x:Aw,e=.returned x.v∧x.d=⟨ob,oi,oL,oc⟩∧Born w' w'' x.segs∧Keeps w' w''):=fun hl By hd hf w' hk hm=>by
  have hl':=len_d (hd.trans hbd) hl
  subst hd
  obtain ⟨tk,nx,wa,ca,cc,C,ha,hc,Hs,ra,rc,R⟩:=By
  refine (apply_impl tk nx wa ca cc C ha hc Hs ra rc R w' hm hf hl' kd ky ch tt am fe ys (fun x y z w2 hk2=>feeUp_impl x y z w2 u0 u2 u3 x0 x2 x3 ((hk.trans hk2).cell hg0) ((hk.trans hk2).cell hg2) ((hk.trans hk2).cell hg3)) (fun x y w2 hk2=>addAmt_impl x y w2 u0 x0 ((hk.trans hk2).cell hg0))).mono ?_
  rintro e w'' ⟨B',a,cap,rfl,h1,h2⟩
  exact ⟨⟨B',oi,a,cap,oL,oc⟩,by rw [hoi,hoL,hoc];rfl,by show Ad.mk _ _ _ _=_;rw [h1,hob];rfl,by rw [hoL];exact h2.born.1,h2.keep⟩
 have HLO:Hid (∀ B':Bo,B'.d=ob→B'.len):=fun B' h=>by
  have h':=h.trans hob
  have:=out_small bd kd ky ch tt am fe ys
  rw [← h'] at this
  exact this
 have HLL:Hid (oL.length≤1048576):=by show _≤_;rw [hoL];exact lin_len bd kd ky ch tt am fe ys
 clear hm hf hbig hg0 hg2 hg3 hbd hob hoi hoL hoc wk wy wc wt wm wf
 obtain ⟨tk,nx,wa,ca,cc,C,ha,hc,Hs,ra,rc,R⟩:=B
 dsimp only [Bo.v,evV] at *
 go_enter Tryz.func3,Tryz.ntmps3
 have HK:=hide (Keeps.refl w)
 have hb:=born_alloc w #[.int .i64 tk,.int .i64 nx,.int .i64 wa,.slice ca C.length cc,.slice ha Hs.length hc,.slice ra R.length rc] 26
 dsimp only at hb
 have hk:=Keeps.alloc (Keeps.refl w) (.cells #[.int .i64 tk,.int .i64 nx,.int .i64 wa,.slice ca C.length cc,.slice ha Hs.length hc,.slice ra R.length rc] 26)
 have hb2:=born_alloc (w.alloc (.cells #[.int .i64 tk,.int .i64 nx,.int .i64 wa,.slice ca C.length cc,.slice ha Hs.length hc,.slice ra R.length rc] 26)) #[.int .i64 kd,.int .i64 ky,.int .i64 ch,.int .i64 tt,.int .i64 am,.int .i64 fe,.bool ys] 28
 dsimp only at hb2
 rw [size_alloc1] at hb2
 have hk2:=Keeps.alloc (Keeps.refl (w.alloc (.cells #[.int .i64 tk,.int .i64 nx,.int .i64 wa,.slice ca C.length cc,.slice ha Hs.length hc,.slice ra R.length rc] 26))) (.cells #[.int .i64 kd,.int .i64 ky,.int .i64 ch,.int .i64 tt,.int .i64 am,.int .i64 fe,.bool ys] 28)
 go_wp2_with fail
 generalize w.alloc (.cells #[.int .i64 tk,.int .i64 nx,.int .i64 wa,.slice ca C.length cc,.slice ha Hs.length hc,.slice ra R.length rc] 26)=w1 at *
 have HNA:=hide ((hb.old HK.out).new)
 replace HK:=hide (HK.out.trans hk)
 have HOA:=hide hb.toOwn
 clear hb hk
 generalize w1.alloc (.cells #[.int .i64 kd,.int .i64 ky,.int .i64 ch,.int .i64 tt,.int .i64 am,.int .i64 fe,.bool ys] 28)=w2 at *
 have HDA_E:=hide (hb2.apart HOA.out.mem)
 have HDE_A:=hide (hb2.apart' HOA.out.mem)
 have HNE:=hide ((hb2.old HK.out).new)
 replace HK:=hide (HK.out.trans hk2)
 replace HOA:=hide (HOA.out.kept hk2)
 have HOE:=hide hb2.toOwn
 clear hb2 hk2
 have cA0:=cell_at HOA.out.mem 0 (by simp)
 have cA1:=cell_at HOA.out.mem 1 (by simp)
 have cA2:=cell_at HOA.out.mem 2 (by simp)
 have cA3:=cell_at HOA.out.mem 3 (by simp)
 have cA4:=cell_at HOA.out.mem 4 (by simp)
 have cA5:=cell_at HOA.out.mem 5 (by simp)
 simp only [Nat.zero_add,List.getElem_cons_zero,List.getElem_cons_succ] at cA0 cA1 cA2 cA3 cA4 cA5
 have lA:=lt_of_cell cA0
 have cE0:=cell_at HOE.out.mem 0 (by simp)
 have cE1:=cell_at HOE.out.mem 1 (by simp)
 have cE2:=cell_at HOE.out.mem 2 (by simp)
 have cE3:=cell_at HOE.out.mem 3 (by simp)
 have cE4:=cell_at HOE.out.mem 4 (by simp)
 have cE5:=cell_at HOE.out.mem 5 (by simp)
 have cE6:=cell_at HOE.out.mem 6 (by simp)
 simp only [Nat.zero_add,List.getElem_cons_zero,List.getElem_cons_succ] at cE0 cE1 cE2 cE3 cE4 cE5 cE6
 have lE:=lt_of_cell cE0
 refine (unhide HSz w2).mono ?_
 rintro x w3 ⟨r,rfl,hr1,hr,hk⟩
 clear cA0 cA1 cA2 cA3 cA4 cA5 lA cE0 cE1 cE2 cE3 cE4 cE5 cE6 lE
 replace HK:=hide (HK.out.trans hk)
 replace HOA:=hide (HOA.out.kept hk)
 replace HOE:=hide (HOE.out.kept hk)
 clear hk
 have HL:=hide hr
 clear hr HSz
 by_cases hr0:r < 0
 ·go_wp2_with fail
  go_ret
  exact ⟨rfl,HK.out⟩
 replace HL:=hide (HL.out (by omega))
 replace HLB:=hide (HLB.out HL.out)
 replace HCS:=hide (HCS.out HL.out)
 replace HCI:=hide (HCI.out HL.out)
 have hcc:(oc != oc)=false:=by simp
 go_upto_region 5 with fail
 clear hr0 hr1
 have HRA:=hide (HOA.out.kept (Keeps.refl w3).drew)
 have HRE:=hide (HOE.out.kept (Keeps.refl w3).drew)
 obtain ⟨w4,hwr⟩:∃ w4,w4=w3.drew:=⟨_,rfl⟩
 rw [← hwr] at HRA
 rw [← hwr] at HRE
 have HWR:=hide hwr
 clear hwr
 refine wp_region_inv (fun d u w'=>ApF w4 w' bd (⟨ob,oi,oL,oc⟩:Ad) (d 1) (d 4) (u 1) (u 4) (d 9) (d 10) (d 11) (d 12) (u 9) (u 10)∧(d 0=true→u 0=.agg #[.int .i64 tk,.int .i64 nx,.int .i64 wa,.slice ca C.length cc,.slice ha Hs.length hc,.slice ra R.length rc])∧(d 2=true→u 2=.agg #[.int .i64 kd,.int .i64 ky,.int .i64 ch,.int .i64 tt,.int .i64 am,.int .i64 fe,.bool ys])∧(d 3=true→u 3=.agg #[.int .i64 kd,.int .i64 ky,.int .i64 ch,.int .i64 tt,.int .i64 am,.int .i64 fe,.bool ys])∧(d 5=true→d 4=true∧u 5=u 4)∧(d 6=true→d 4=true∧∀ x:Aw,u 4=x.v→x.d=(⟨ob,oi,oL,oc⟩:Ad)→u 6=x.B.v)∧(d 7=true→d 4=true∧∀ x:Aw,u 4=x.v→x.d=(⟨ob,oi,oL,oc⟩:Ad)→u 7=.agg #[.int .i64 x.i,.slice x.a x.L.length x.cap])∧(d 8=true→d 4=true∧∀ x:Aw,u 4=x.v→x.d=(⟨ob,oi,oL,oc⟩:Ad)→u 8=.int .i64 x.c)∧(d 13=true→d 4=true∧∀ x:Aw,u 4=x.v→x.d=(⟨ob,oi,oL,oc⟩:Ad)→u 13=.int .i64 x.c)) (fun _=>undef) (by kernel_rfl) ?_ ?_ ?_ ?_ ?_
 ·kernel_rfl
 ·simp only [putAll,Act.put,List.setIfInBounds_toArray,List.set_cons_zero,List.set_cons_succ]
 ·rw [← HWR.out];exact ⟨ApF.start _ _ _ _ _ _ _,nofun,nofun,nofun,nofun,nofun,nofun,nofun,nofun⟩
 ·refine ⟨?_,?_,?_,?_,?_,?_,?_,?_,?_,?_,?_,?_,?_,?_,trivial⟩
  ·intro d u wv hF hd hp
   obtain ⟨hA,f0,fE,ft,fm,g0,g1,g2,fz⟩:=hF
   have c0:=cell_at (HRA.out.mem.kept hA.keep) 0 (by simp)
   have c1:=cell_at (HRA.out.mem.kept hA.keep) 1 (by simp)
   have c2:=cell_at (HRA.out.mem.kept hA.keep) 2 (by simp)
   have c3:=cell_at (HRA.out.mem.kept hA.keep) 3 (by simp)
   have c4:=cell_at (HRA.out.mem.kept hA.keep) 4 (by simp)
   have c5:=cell_at (HRA.out.mem.kept hA.keep) 5 (by simp)
   simp only [Nat.zero_add,List.getElem_cons_zero,List.getElem_cons_succ] at c0 c1 c2 c3 c4 c5
   refine ⟨?_⟩
   simp only [putAll,Act.put,List.setIfInBounds_toArray,List.set_cons_zero,List.set_cons_succ]
   go_simp
   exact ⟨hA,fun _=>rfl,fE,ft,fm,g0,g1,g2,fz⟩
  ·intro d u wv hF hd hp
   obtain ⟨hA,f0,fE,ft,fm,g0,g1,g2,fz⟩:=hF
   have e0:=f0 (hp 0 (by kernel_rfl))
   refine ⟨?_⟩
   simp only [putAll,Act.put,List.setIfInBounds_toArray,List.set_cons_zero,List.set_cons_succ]
   rw [e0]
   go_simp
   refine (unhide HTf wv (HK.out.trans ((Keeps.refl w3).drew.trans (by rw [← HWR.out];exact hA.keep))) HL.out).mono ?_
   rintro x wz ⟨By,rfl,hd',hf',hb,hk⟩
   exact ⟨(hA.kept hk).setB hd' hf' hb.mem,f0,fE,ft,fm,g0,g1,g2,fz⟩
  ·intro d u wv hF hd hp
   obtain ⟨hA,f0,fE,ft,fm,g0,g1,g2,fz⟩:=hF
   have c0:=cell_at (HRE.out.mem.kept hA.keep) 0 (by simp)
   have c1:=cell_at (HRE.out.mem.kept hA.keep) 1 (by simp)
   have c2:=cell_at (HRE.out.mem.kept hA.keep) 2 (by simp)
   have c3:=cell_at (HRE.out.mem.kept hA.keep) 3 (by simp)
   have c4:=cell_at (HRE.out.mem.kept hA.keep) 4 (by simp)
   have c5:=cell_at (HRE.out.mem.kept hA.keep) 5 (by simp)
   have c6:=cell_at (HRE.out.mem.kept hA.keep) 6 (by simp)
   simp only [Nat.zero_add,List.getElem_cons_zero,List.getElem_cons_succ] at c0 c1 c2 c3 c4 c5 c6
   refine ⟨?_⟩
   simp only [putAll,Act.put,List.setIfInBounds_toArray,List.set_cons_zero,List.set_cons_succ]
   go_simp
   exact ⟨hA,f0,fun _=>rfl,ft,fm,g0,g1,g2,fz⟩
  ·intro d u wv hF hd hp
   obtain ⟨hA,f0,fE,ft,fm,g0,g1,g2,fz⟩:=hF
   have e0:=fE (hp 2 (by kernel_rfl))
   refine ⟨?_⟩
   simp only [putAll,Act.put,List.setIfInBounds_toArray,List.set_cons_zero,List.set_cons_succ]
   rw [e0]
   go_simp
   refine (toEvent_k kd ky ch tt am fe ys wv).mono ?_
   rintro x wz ⟨rfl,hk⟩
   exact ⟨hA.kept hk,f0,fE,fun _=>rfl,fm,g0,g1,g2,fz⟩
  ·intro d u wv hF hd hp
   obtain ⟨hA,f0,fE,ft,fm,g0,g1,g2,fz⟩:=hF
   have e0:=ft (hp 3 (by kernel_rfl))
   have hB1:=hp 1 (by kernel_rfl)
   obtain ⟨By,e1,h1,h2,h3⟩:=hA.fB hB1 hd
   refine ⟨?_⟩
   simp only [putAll,Act.put,List.setIfInBounds_toArray,List.set_cons_zero,List.set_cons_succ]
   rw [e0,e1]
   go_simp
   refine (unhide HCS By h1 h2 wv (HK.out.trans ((Keeps.refl w3).drew.trans (by rw [← HWR.out];exact hA.keep))) h3).mono ?_
   rintro y wz ⟨x,rfl,hx,hb,hk⟩
   exact ⟨hA.setA hd hx hb hk,f0,fE,ft,fun e=>absurd ((fm e).1.symm.trans hd) (by decide),fun e=>absurd ((g0 e).1.symm.trans hd) (by decide),fun e=>absurd ((g1 e).1.symm.trans hd) (by decide),fun e=>absurd ((g2 e).1.symm.trans hd) (by decide),fun e=>absurd ((fz e).1.symm.trans hd) (by decide)⟩
  ·intro d u wv hF hd hp
   obtain ⟨hA,f0,fE,ft,fm,g0,g1,g2,fz⟩:=hF
   refine ⟨?_⟩
   simp only [putAll,Act.put,List.setIfInBounds_toArray,List.set_cons_zero,List.set_cons_succ]
   go_simp
   exact ⟨hA,f0,fE,ft,fun _=>⟨hp 4 (by kernel_rfl),rfl⟩,g0,g1,g2,fz⟩
  ·intro d u wv hF hd hp
   obtain ⟨hA,f0,fE,ft,fm,g0,g1,g2,fz⟩:=hF
   obtain ⟨hap,e0⟩:=fm (hp 5 (by kernel_rfl))
   obtain ⟨x,e1,e2,-,-⟩:=hA.fA hap
   refine ⟨?_⟩
   simp only [putAll,Act.put,List.setIfInBounds_toArray,List.set_cons_zero,List.set_cons_succ]
   rw [e0,e1]
   dsimp only [Aw.v]
   go_simp
   exact ⟨hA,f0,fE,ft,fm,fun _=>⟨hap,fun y a b=>by rw [← Aw.same (e1.symm.trans a) (e2.trans b.symm)];rfl⟩,g1,g2,fz⟩
  ·intro d u wv hF hd hp
   obtain ⟨hA,f0,fE,ft,fm,g0,g1,g2,fz⟩:=hF
   obtain ⟨hap,e0⟩:=fm (hp 5 (by kernel_rfl))
   obtain ⟨x,e1,e2,-,-⟩:=hA.fA hap
   refine ⟨?_⟩
   simp only [putAll,Act.put,List.setIfInBounds_toArray,List.set_cons_zero,List.set_cons_succ]
   rw [e0,e1]
   dsimp only [Aw.v]
   go_simp
   exact ⟨hA,f0,fE,ft,fm,g0,fun _=>⟨hap,fun y a b=>by rw [← Aw.same (e1.symm.trans a) (e2.trans b.symm)];rfl⟩,g2,fz⟩
  ·intro d u wv hF hd hp
   obtain ⟨hA,f0,fE,ft,fm,g0,g1,g2,fz⟩:=hF
   obtain ⟨hap,e0⟩:=fm (hp 5 (by kernel_rfl))
   obtain ⟨x,e1,e2,-,-⟩:=hA.fA hap
   refine ⟨?_⟩
   simp only [putAll,Act.put,List.setIfInBounds_toArray,List.set_cons_zero,List.set_cons_succ]
   rw [e0,e1]
   dsimp only [Aw.v]
   go_simp
   exact ⟨hA,f0,fE,ft,fm,g0,g1,fun _=>⟨hap,fun y a b=>by rw [← Aw.same (e1.symm.trans a) (e2.trans b.symm)];rfl⟩,fz⟩
  ·intro d u wv hF hd hp
   obtain ⟨hA,f0,fE,ft,fm,g0,g1,g2,fz⟩:=hF
   have hs:d 11=false:=by
    cases h:d 11 with
    | false=>rfl
    | true=>exact absurd ((hA.wP h).symm.trans hd) (by decide)
   refine ⟨?_⟩
   simp only [putAll,Act.put,List.setIfInBounds_toArray,List.set_cons_zero,List.set_cons_succ]
   go_simp
   exact ⟨hA.newP hs,f0,fE,ft,fm,g0,g1,g2,fz⟩
  ·intro d u wv hF hd hp
   obtain ⟨hA,f0,fE,ft,fm,g0,g1,g2,fz⟩:=hF
   have hs:d 12=false:=by
    cases h:d 12 with
    | false=>rfl
    | true=>exact absurd ((hA.wQ h).symm.trans hd) (by decide)
   refine ⟨?_⟩
   simp only [putAll,Act.put,List.setIfInBounds_toArray,List.set_cons_zero,List.set_cons_succ]
   go_simp
   exact ⟨hA.newQ hs,f0,fE,ft,fm,g0,g1,g2,fz⟩
  ·intro d u wv hF hd hp
   obtain ⟨hA,f0,fE,ft,fm,g0,g1,g2,fz⟩:=hF
   have hv:=hp 9 (by kernel_rfl)
   obtain ⟨hap,e0⟩:=g0 (hp 6 (by kernel_rfl))
   obtain ⟨x,e1,e2,-,-⟩:=hA.fA hap
   have e3:=e0 x e1 e2
   obtain ⟨V,e4,-,f,hf,-⟩:=hA.fP hv
   have c0:=hf.cell (i:=0) (by decide)
   have z0:=hf.frozen 0
   have c1:=hf.cell (i:=1) (by decide)
   have z1:=hf.frozen 1
   have c2:=hf.cell (i:=2) (by decide)
   have z2:=hf.frozen 2
   have c3:=hf.cell (i:=3) (by decide)
   have z3:=hf.frozen 3
   have c4:=hf.cell (i:=4) (by decide)
   have z4:=hf.frozen 4
   have c5:=hf.cell (i:=5) (by decide)
   have z5:=hf.frozen 5
   refine ⟨?_⟩
   simp only [putAll,Act.put,List.setIfInBounds_toArray,List.set_cons_zero,List.set_cons_succ]
   rw [e3,e4]
   dsimp only [ptrV,Bo.v]
   go_simp
   exact ⟨undef,hA.putP hap hv e1 e2 e4,f0,fE,ft,fm,g0,g1,g2,fz⟩
  ·intro d u wv hF hd hp
   obtain ⟨hA,f0,fE,ft,fm,g0,g1,g2,fz⟩:=hF
   have hv:=hp 10 (by kernel_rfl)
   obtain ⟨hap,e0⟩:=g1 (hp 7 (by kernel_rfl))
   obtain ⟨x,e1,e2,-,-⟩:=hA.fA hap
   have e3:=e0 x e1 e2
   obtain ⟨V,e4,-,f,hf,-⟩:=hA.fQ hv
   have c0:=hf.cell (i:=0) (by decide)
   have z0:=hf.frozen 0
   have c1:=hf.cell (i:=1) (by decide)
   have z1:=hf.frozen 1
   refine ⟨?_⟩
   simp only [putAll,Act.put,List.setIfInBounds_toArray,List.set_cons_zero,List.set_cons_succ]
   rw [e3,e4]
   dsimp only [ptrV,Bo.v]
   go_simp
   exact ⟨undef,hA.putQ hap hv e1 e2 e4,f0,fE,ft,fm,g0,g1,g2,fz⟩
  ·intro d u wv hF hd hp
   obtain ⟨hA,f0,fE,ft,fm,g0,g1,g2,fz⟩:=hF
   obtain ⟨hap,e0⟩:=g2 (hp 8 (by kernel_rfl))
   obtain ⟨x,e1,e2,-,-⟩:=hA.fA hap
   refine ⟨?_⟩
   simp only [putAll,Act.put,List.setIfInBounds_toArray,List.set_cons_zero,List.set_cons_succ]
   rw [e0 x e1 e2]
   go_simp
   exact ⟨hA,f0,fE,ft,fm,g0,g1,g2,fun _=>⟨hap,fun y a b=>by rw [← Aw.same (e1.symm.trans a) (e2.trans b.symm)];rfl⟩⟩
 ·intro d u w5 hF hall
  have d0:=hall 0 (by decide)
  have d1:=hall 1 (by decide)
  have d2:=hall 2 (by decide)
  have d3:=hall 3 (by decide)
  have d4:=hall 4 (by decide)
  have d5:=hall 5 (by decide)
  have d6:=hall 6 (by decide)
  have d7:=hall 7 (by decide)
  have d8:=hall 8 (by decide)
  have d9:=hall 9 (by decide)
  have d10:=hall 10 (by decide)
  have d11:=hall 11 (by decide)
  have d12:=hall 12 (by decide)
  have d13:=hall 13 (by decide)
  obtain ⟨hA,f0,fE,ft,fm,g0,g1,g2,fz⟩:=hF
  rw [d1,d4,d9,d10,d11,d12] at hA
  obtain ⟨x,V,V2,e1,e2,e3,hx,hk,ho,hn,hV,hV2,hr,hr2,n1,n2,n3⟩:=hA.fin
  have h0:=(g0 d6).2 x e1 hx
  have h1:=(g1 d7).2 x e1 hx
  have h2:=(g2 d8).2 x e1 hx
  have h3:=(fz d13).2 x e1 hx
  have h4:=(fm d5).2
  have h5:=fE d2
  have h6:=ft d3
  simp only [putAll,Act.put,List.setIfInBounds_toArray,List.set_cons_zero,List.set_cons_succ,h0,h1,h2,h3,h4,h5,h6,e1,e2,e3,f0 d0]
  clear hall d0 d1 d2 d3 d4 d5 d6 d7 d8 d9 d10 d11 d12 d13 hA f0 fE ft fm g0 g1 g2 fz h0 h1 h2 h3 h4 h5 h6 e1 e2 e3
  obtain ⟨mB,mi,ma,mc,mL,md⟩:=x
  simp only [Aw.d,Ad.mk.injEq] at hx
  obtain ⟨hx1,hx2,hx3,hx4⟩:=hx
  have hx2:=hx2.symm
  have hx3:=hx3.symm
  have hx4:=hx4.symm
  subst hx2 hx3 hx4
  have HDm:=hide hx1
  clear hx1
  have hk0:Keeps w3 w5:=(Keeps.refl w3).drew.trans (by rw [← HWR.out];exact hk)
  have hs0:w.heap.size≤w4.heap.size:=by rw [HWR.out];exact HK.out.size
  have hob:Own w5 mB.segs:=Own.left ho
  have hop:Own w5 [(ma,flat oL)]:=Own.right ho
  have hap:∀ b∈fp mB.segs,b∉fp [(ma,flat oL)]:=Own.apart ho
  have hnb:∀ b∈fp mB.segs,w4.heap.size≤b:=fun b hb=>hn b (by show b∈fp (_++_);rw [fp_append];exact List.mem_append_left _ hb)
  have hnp:∀ b∈fp [(ma,flat oL)],w4.heap.size≤b:=fun b hb=>hn b (by show b∈fp (_++_);rw [fp_append];exact List.mem_append_right _ hb)
  have n1b:V∉fp mB.segs:=fun hb=>n1 (by show V∈fp (_++_);rw [fp_append];exact List.mem_append_left _ hb)
  have n1p:V∉fp [(ma,flat oL)]:=fun hb=>n1 (by show V∈fp (_++_);rw [fp_append];exact List.mem_append_right _ hb)
  have n2b:V2∉fp mB.segs:=fun hb=>n2 (by show V2∈fp (_++_);rw [fp_append];exact List.mem_append_left _ hb)
  have n2p:V2∉fp [(ma,flat oL)]:=fun hb=>n2 (by show V2∈fp (_++_);rw [fp_append];exact List.mem_append_right _ hb)
  have hoP:=own_bk hr
  have hoQ:=own_pg hr2
  dsimp only at hoP hoQ
  have hnP:=nvN hoP hV
  have hnQ:=nvN hoQ hV2
  have HDA_mb:=hide (ap_old HRA.out.mem hnb)
  have HDmb_A:=hide (ap_new HRA.out.mem hnb)
  have HDE_mb:=hide (ap_old HRE.out.mem hnb)
  have HDmb_E:=hide (ap_new HRE.out.mem hnb)
  have HNmb:=hide (nnN hs0 hnb)
  have HDA_mp:=hide (ap_old HRA.out.mem hnp)
  have HDmp_A:=hide (ap_new HRA.out.mem hnp)
  have HDE_mp:=hide (ap_old HRE.out.mem hnp)
  have HDmp_E:=hide (ap_new HRE.out.mem hnp)
  have HNmp:=hide (nnN hs0 hnp)
  have HDA_mP:=hide (ap_old HRA.out.mem hnP)
  have HDmP_A:=hide (ap_new HRA.out.mem hnP)
  have HDE_mP:=hide (ap_old HRE.out.mem hnP)
  have HDmP_E:=hide (ap_new HRE.out.mem hnP)
  have HNmP:=hide (nnN hs0 hnP)
  have HDA_mQ:=hide (ap_old HRA.out.mem hnQ)
  have HDmQ_A:=hide (ap_new HRA.out.mem hnQ)
  have HDE_mQ:=hide (ap_old HRE.out.mem hnQ)
  have HDmQ_E:=hide (ap_new HRE.out.mem hnQ)
  have HNmQ:=hide (nnN hs0 hnQ)
  have HDmb_mp:=hide (hap)
  have HDmp_mb:=hide (apsym HDmb_mp.out)
  have HDmb_mP:=hide (nvO hoP n1b)
  have HDmP_mb:=hide (apsym HDmb_mP.out)
  have HDmb_mQ:=hide (nvO hoQ n2b)
  have HDmQ_mb:=hide (apsym HDmb_mQ.out)
  have HDmp_mP:=hide (nvO hoP n1p)
  have HDmP_mp:=hide (apsym HDmp_mP.out)
  have HDmp_mQ:=hide (nvO hoQ n2p)
  have HDmQ_mp:=hide (apsym HDmp_mQ.out)
  have HDmP_mQ:=hide (nvP hoP hoQ n3)
  have HDmQ_mP:=hide (apsym HDmP_mQ.out)
  replace HK:=hide (HK.out.trans hk0)
  replace HOA:=hide (HOA.out.kept hk0)
  replace HOE:=hide (HOE.out.kept hk0)
  have HOmb:=hide hob
  have HOmp:=hide hop
  have HOmP:=hide hoP
  have HOmQ:=hide hoQ
  clear hk hk0 hs0 ho hn hV hV2 hr hr2 n1 n2 n3 hob hop hap hnb hnp hnP hnQ n1b n1p n2b n2p hoP hoQ HWR HRA HRE
  generalize V=mV at *
  generalize V2=mW at *
  have cA0:=cell_at HOA.out.mem 0 (by simp)
  have cA1:=cell_at HOA.out.mem 1 (by simp)
  have cA2:=cell_at HOA.out.mem 2 (by simp)
  have cA3:=cell_at HOA.out.mem 3 (by simp)
  have cA4:=cell_at HOA.out.mem 4 (by simp)
  have cA5:=cell_at HOA.out.mem 5 (by simp)
  simp only [Nat.zero_add,List.getElem_cons_zero,List.getElem_cons_succ] at cA0 cA1 cA2 cA3 cA4 cA5
  have lA:=lt_of_cell cA0
  go_wp2_with fail
  clear cA0 cA1 cA2 cA3 cA4 cA5 lA
  refine (unhide HTf w5 HK.out HL.out).mono ?_
  rintro x w6 ⟨Bx,rfl,hd,hfx,hb,hk⟩
  have HDx:=hide hd
  have HFX:=hide hfx
  clear hd hfx
  have HDA_x:=hide (hb.apart HOA.out.mem)
  have HDx_A:=hide (hb.apart' HOA.out.mem)
  have HDE_x:=hide (hb.apart HOE.out.mem)
  have HDx_E:=hide (hb.apart' HOE.out.mem)
  have HDmb_x:=hide (hb.apart HOmb.out.mem)
  have HDx_mb:=hide (hb.apart' HOmb.out.mem)
  have HDmp_x:=hide (hb.apart HOmp.out.mem)
  have HDx_mp:=hide (hb.apart' HOmp.out.mem)
  have HDmP_x:=hide (hb.apart HOmP.out.mem)
  have HDx_mP:=hide (hb.apart' HOmP.out.mem)
  have HDmQ_x:=hide (hb.apart HOmQ.out.mem)
  have HDx_mQ:=hide (hb.apart' HOmQ.out.mem)
  have HNx:=hide ((hb.old HK.out).new)
  replace HK:=hide (HK.out.trans hk)
  replace HOA:=hide (HOA.out.kept hk)
  replace HOE:=hide (HOE.out.kept hk)
  replace HOmb:=hide (HOmb.out.kept hk)
  replace HOmp:=hide (HOmp.out.kept hk)
  replace HOmP:=hide (HOmP.out.kept hk)
  replace HOmQ:=hide (HOmQ.out.kept hk)
  have HOx:=hide hb.toOwn
  clear hb hk
  go_upto_region 7 with fail
  have hb:=born_alloc w6 #[.int .i64 Bx.tk,.int .i64 Bx.nx,.int .i64 Bx.wa,.slice Bx.ca Bx.C.length Bx.cc,.slice Bx.ha Bx.Hs.length Bx.hc,.slice Bx.ra Bx.R.length Bx.rc] 34
  dsimp only at hb
  have hk:=Keeps.alloc (Keeps.refl w6) (.cells #[.int .i64 Bx.tk,.int .i64 Bx.nx,.int .i64 Bx.wa,.slice Bx.ca Bx.C.length Bx.cc,.slice Bx.ha Bx.Hs.length Bx.hc,.slice Bx.ra Bx.R.length Bx.rc] 34)
  generalize w6.alloc (.cells #[.int .i64 Bx.tk,.int .i64 Bx.nx,.int .i64 Bx.wa,.slice Bx.ca Bx.C.length Bx.cc,.slice Bx.ha Bx.Hs.length Bx.hc,.slice Bx.ra Bx.R.length Bx.rc] 34)=w7 at *
  have HDA_X:=hide (hb.apart HOA.out.mem)
  have HDX_A:=hide (hb.apart' HOA.out.mem)
  have HDE_X:=hide (hb.apart HOE.out.mem)
  have HDX_E:=hide (hb.apart' HOE.out.mem)
  have HDmb_X:=hide (hb.apart HOmb.out.mem)
  have HDX_mb:=hide (hb.apart' HOmb.out.mem)
  have HDmp_X:=hide (hb.apart HOmp.out.mem)
  have HDX_mp:=hide (hb.apart' HOmp.out.mem)
  have HDmP_X:=hide (hb.apart HOmP.out.mem)
  have HDX_mP:=hide (hb.apart' HOmP.out.mem)
  have HDmQ_X:=hide (hb.apart HOmQ.out.mem)
  have HDX_mQ:=hide (hb.apart' HOmQ.out.mem)
  have HDx_X:=hide (hb.apart HOx.out.mem)
  have HDX_x:=hide (hb.apart' HOx.out.mem)
  have HNX:=hide ((hb.old HK.out).new)
  replace HK:=hide (HK.out.trans hk)
  replace HOA:=hide (HOA.out.kept hk)
  replace HOE:=hide (HOE.out.kept hk)
  replace HOmb:=hide (HOmb.out.kept hk)
  replace HOmp:=hide (HOmp.out.kept hk)
  replace HOmP:=hide (HOmP.out.kept hk)
  replace HOmQ:=hide (HOmQ.out.kept hk)
  replace HOx:=hide (HOx.out.kept hk)
  have HOX:=hide hb.toOwn
  clear hb hk
  have HRA:=hide (HOA.out.kept (Keeps.refl w7).drew)
  have HRE:=hide (HOE.out.kept (Keeps.refl w7).drew)
  have HRmb:=hide (HOmb.out.kept (Keeps.refl w7).drew)
  have HRmp:=hide (HOmp.out.kept (Keeps.refl w7).drew)
  have HRmP:=hide (HOmP.out.kept (Keeps.refl w7).drew)
  have HRmQ:=hide (HOmQ.out.kept (Keeps.refl w7).drew)
  have HRx:=hide (HOx.out.kept (Keeps.refl w7).drew)
  have HRX:=hide (HOX.out.kept (Keeps.refl w7).drew)
  obtain ⟨w8,hwr⟩:∃ w8,w8=w7.drew:=⟨_,rfl⟩
  rw [← hwr] at HRA
  rw [← hwr] at HRE
  rw [← hwr] at HRmb
  rw [← hwr] at HRmp
  rw [← hwr] at HRmP
  rw [← hwr] at HRmQ
  rw [← hwr] at HRx
  rw [← hwr] at HRX
  have HWR:=hide hwr
  clear hwr
  refine wp_region_inv (fun d u w'=>ApF w8 w' bd (⟨ob,oi,oL,oc⟩:Ad) (d 0) (d 3) (u 0) (u 3) (d 8) (d 9) (d 10) (d 11) (u 8) (u 9)∧(d 1=true→u 1=.agg #[.int .i64 kd,.int .i64 ky,.int .i64 ch,.int .i64 tt,.int .i64 am,.int .i64 fe,.bool ys])∧(d 2=true→u 2=.agg #[.int .i64 kd,.int .i64 ky,.int .i64 ch,.int .i64 tt,.int .i64 am,.int .i64 fe,.bool ys])∧(d 4=true→d 3=true∧u 4=u 3)∧(d 5=true→d 3=true∧∀ x:Aw,u 3=x.v→x.d=(⟨ob,oi,oL,oc⟩:Ad)→u 5=x.B.v)∧(d 6=true→d 3=true∧∀ x:Aw,u 3=x.v→x.d=(⟨ob,oi,oL,oc⟩:Ad)→u 6=.agg #[.int .i64 x.i,.slice x.a x.L.length x.cap])∧(d 7=true→d 3=true∧∀ x:Aw,u 3=x.v→x.d=(⟨ob,oi,oL,oc⟩:Ad)→u 7=.int .i64 x.c)∧(d 12=true→d 3=true∧∀ x:Aw,u 3=x.v→x.d=(⟨ob,oi,oL,oc⟩:Ad)→u 12=.int .i64 x.c)) (fun _=>undef) (by kernel_rfl) ?_ ?_ ?_ ?_ ?_
  ·kernel_rfl
  ·simp only [putAll,Act.put,List.setIfInBounds_toArray,List.set_cons_zero,List.set_cons_succ]
  ·rw [← HWR.out];exact ⟨ApF.start _ _ _ _ _ _ _,nofun,nofun,nofun,nofun,nofun,nofun,nofun⟩
  ·refine ⟨?_,?_,?_,?_,?_,?_,?_,?_,?_,?_,?_,?_,?_,trivial⟩
   ·intro d u wv hF hd hp
    obtain ⟨hA,fE,ft,fm,g0,g1,g2,fz⟩:=hF
    have c0:=cell_at (HRX.out.mem.kept hA.keep) 0 (by simp)
    have c1:=cell_at (HRX.out.mem.kept hA.keep) 1 (by simp)
    have c2:=cell_at (HRX.out.mem.kept hA.keep) 2 (by simp)
    have c3:=cell_at (HRX.out.mem.kept hA.keep) 3 (by simp)
    have c4:=cell_at (HRX.out.mem.kept hA.keep) 4 (by simp)
    have c5:=cell_at (HRX.out.mem.kept hA.keep) 5 (by simp)
    simp only [Nat.zero_add,List.getElem_cons_zero,List.getElem_cons_succ] at c0 c1 c2 c3 c4 c5
    refine ⟨?_⟩
    simp only [putAll,Act.put,List.setIfInBounds_toArray,List.set_cons_zero,List.set_cons_succ]
    go_simp
    exact ⟨hA.setB (B:=Bx) HDx.out (unhide HFX) (HRx.out.mem.kept hA.keep),fE,ft,fm,g0,g1,g2,fz⟩
   ·intro d u wv hF hd hp
    obtain ⟨hA,fE,ft,fm,g0,g1,g2,fz⟩:=hF
    have c0:=cell_at (HRE.out.mem.kept hA.keep) 0 (by simp)
    have c1:=cell_at (HRE.out.mem.kept hA.keep) 1 (by simp)
    have c2:=cell_at (HRE.out.mem.kept hA.keep) 2 (by simp)
    have c3:=cell_at (HRE.out.mem.kept hA.keep) 3 (by simp)
    have c4:=cell_at (HRE.out.mem.kept hA.keep) 4 (by simp)
    have c5:=cell_at (HRE.out.mem.kept hA.keep) 5 (by simp)
    have c6:=cell_at (HRE.out.mem.kept hA.keep) 6 (by simp)
    simp only [Nat.zero_add,List.getElem_cons_zero,List.getElem_cons_succ] at c0 c1 c2 c3 c4 c5 c6
    refine ⟨?_⟩
    simp only [putAll,Act.put,List.setIfInBounds_toArray,List.set_cons_zero,List.set_cons_succ]
    go_simp
    exact ⟨hA,fun _=>rfl,ft,fm,g0,g1,g2,fz⟩
   ·intro d u wv hF hd hp
    obtain ⟨hA,fE,ft,fm,g0,g1,g2,fz⟩:=hF
    have e0:=fE (hp 1 (by kernel_rfl))
    refine ⟨?_⟩
    simp only [putAll,Act.put,List.setIfInBounds_toArray,List.set_cons_zero,List.set_cons_succ]
    rw [e0]
    go_simp
    refine (toEvent_k kd ky ch tt am fe ys wv).mono ?_
    rintro x wz ⟨rfl,hk⟩
    exact ⟨hA.kept hk,fE,fun _=>rfl,fm,g0,g1,g2,fz⟩
   ·intro d u wv hF hd hp
    obtain ⟨hA,fE,ft,fm,g0,g1,g2,fz⟩:=hF
    have e0:=ft (hp 2 (by kernel_rfl))
    have hB1:=hp 0 (by kernel_rfl)
    obtain ⟨By,e1,h1,h2,h3⟩:=hA.fB hB1 hd
    refine ⟨?_⟩
    simp only [putAll,Act.put,List.setIfInBounds_toArray,List.set_cons_zero,List.set_cons_succ]
    rw [e0,e1]
    go_simp
    refine (unhide HCI By h1 h2 wv (HK.out.trans ((Keeps.refl w7).drew.trans (by rw [← HWR.out];exact hA.keep))) h3).mono ?_
    rintro y wz ⟨x,rfl,hx,hb,hk⟩
    exact ⟨hA.setA hd hx hb hk,fE,ft,fun e=>absurd ((fm e).1.symm.trans hd) (by decide),fun e=>absurd ((g0 e).1.symm.trans hd) (by decide),fun e=>absurd ((g1 e).1.symm.trans hd) (by decide),fun e=>absurd ((g2 e).1.symm.trans hd) (by decide),fun e=>absurd ((fz e).1.symm.trans hd) (by decide)⟩
   ·intro d u wv hF hd hp
    obtain ⟨hA,fE,ft,fm,g0,g1,g2,fz⟩:=hF
    refine ⟨?_⟩
    simp only [putAll,Act.put,List.setIfInBounds_toArray,List.set_cons_zero,List.set_cons_succ]
    go_simp
    exact ⟨hA,fE,ft,fun _=>⟨hp 3 (by kernel_rfl),rfl⟩,g0,g1,g2,fz⟩
   ·intro d u wv hF hd hp
    obtain ⟨hA,fE,ft,fm,g0,g1,g2,fz⟩:=hF
    obtain ⟨hap,e0⟩:=fm (hp 4 (by kernel_rfl))
    obtain ⟨x,e1,e2,-,-⟩:=hA.fA hap
    refine ⟨?_⟩
    simp only [putAll,Act.put,List.setIfInBounds_toArray,List.set_cons_zero,List.set_cons_succ]
    rw [e0,e1]
    dsimp only [Aw.v]
    go_simp
    exact ⟨hA,fE,ft,fm,fun _=>⟨hap,fun y a b=>by rw [← Aw.same (e1.symm.trans a) (e2.trans b.symm)];rfl⟩,g1,g2,fz⟩
   ·intro d u wv hF hd hp
    obtain ⟨hA,fE,ft,fm,g0,g1,g2,fz⟩:=hF
    obtain ⟨hap,e0⟩:=fm (hp 4 (by kernel_rfl))
    obtain ⟨x,e1,e2,-,-⟩:=hA.fA hap
    refine ⟨?_⟩
    simp only [putAll,Act.put,List.setIfInBounds_toArray,List.set_cons_zero,List.set_cons_succ]
    rw [e0,e1]
    dsimp only [Aw.v]
    go_simp
    exact ⟨hA,fE,ft,fm,g0,fun _=>⟨hap,fun y a b=>by rw [← Aw.same (e1.symm.trans a) (e2.trans b.symm)];rfl⟩,g2,fz⟩
   ·intro d u wv hF hd hp
    obtain ⟨hA,fE,ft,fm,g0,g1,g2,fz⟩:=hF
    obtain ⟨hap,e0⟩:=fm (hp 4 (by kernel_rfl))
    obtain ⟨x,e1,e2,-,-⟩:=hA.fA hap
    refine ⟨?_⟩
    simp only [putAll,Act.put,List.setIfInBounds_toArray,List.set_cons_zero,List.set_cons_succ]
    rw [e0,e1]
    dsimp only [Aw.v]
    go_simp
    exact ⟨hA,fE,ft,fm,g0,g1,fun _=>⟨hap,fun y a b=>by rw [← Aw.same (e1.symm.trans a) (e2.trans b.symm)];rfl⟩,fz⟩
   ·intro d u wv hF hd hp
    obtain ⟨hA,fE,ft,fm,g0,g1,g2,fz⟩:=hF
    have hs:d 10=false:=by
     cases h:d 10 with
     | false=>rfl
     | true=>exact absurd ((hA.wP h).symm.trans hd) (by decide)
    refine ⟨?_⟩
    simp only [putAll,Act.put,List.setIfInBounds_toArray,List.set_cons_zero,List.set_cons_succ]
    go_simp
    exact ⟨hA.newP hs,fE,ft,fm,g0,g1,g2,fz⟩
   ·intro d u wv hF hd hp
    obtain ⟨hA,fE,ft,fm,g0,g1,g2,fz⟩:=hF
    have hs:d 11=false:=by
     cases h:d 11 with
     | false=>rfl
     | true=>exact absurd ((hA.wQ h).symm.trans hd) (by decide)
    refine ⟨?_⟩
    simp only [putAll,Act.put,List.setIfInBounds_toArray,List.set_cons_zero,List.set_cons_succ]
    go_simp
    exact ⟨hA.newQ hs,fE,ft,fm,g0,g1,g2,fz⟩
   ·intro d u wv hF hd hp
    obtain ⟨hA,fE,ft,fm,g0,g1,g2,fz⟩:=hF
    have hv:=hp 8 (by kernel_rfl)
    obtain ⟨hap,e0⟩:=g0 (hp 5 (by kernel_rfl))
    obtain ⟨x,e1,e2,-,-⟩:=hA.fA hap
    have e3:=e0 x e1 e2
    obtain ⟨V,e4,-,f,hf,-⟩:=hA.fP hv
    have c0:=hf.cell (i:=0) (by decide)
    have z0:=hf.frozen 0
    have c1:=hf.cell (i:=1) (by decide)
    have z1:=hf.frozen 1
    have c2:=hf.cell (i:=2) (by decide)
    have z2:=hf.frozen 2
    have c3:=hf.cell (i:=3) (by decide)
    have z3:=hf.frozen 3
    have c4:=hf.cell (i:=4) (by decide)
    have z4:=hf.frozen 4
    have c5:=hf.cell (i:=5) (by decide)
    have z5:=hf.frozen 5
    refine ⟨?_⟩
    simp only [putAll,Act.put,List.setIfInBounds_toArray,List.set_cons_zero,List.set_cons_succ]
    rw [e3,e4]
    dsimp only [ptrV,Bo.v]
    go_simp
    exact ⟨undef,hA.putP hap hv e1 e2 e4,fE,ft,fm,g0,g1,g2,fz⟩
   ·intro d u wv hF hd hp
    obtain ⟨hA,fE,ft,fm,g0,g1,g2,fz⟩:=hF
    have hv:=hp 9 (by kernel_rfl)
    obtain ⟨hap,e0⟩:=g1 (hp 6 (by kernel_rfl))
    obtain ⟨x,e1,e2,-,-⟩:=hA.fA hap
    have e3:=e0 x e1 e2
    obtain ⟨V,e4,-,f,hf,-⟩:=hA.fQ hv
    have c0:=hf.cell (i:=0) (by decide)
    have z0:=hf.frozen 0
    have c1:=hf.cell (i:=1) (by decide)
    have z1:=hf.frozen 1
    refine ⟨?_⟩
    simp only [putAll,Act.put,List.setIfInBounds_toArray,List.set_cons_zero,List.set_cons_succ]
    rw [e3,e4]
    dsimp only [ptrV,Bo.v]
    go_simp
    exact ⟨undef,hA.putQ hap hv e1 e2 e4,fE,ft,fm,g0,g1,g2,fz⟩
   ·intro d u wv hF hd hp
    obtain ⟨hA,fE,ft,fm,g0,g1,g2,fz⟩:=hF
    obtain ⟨hap,e0⟩:=g2 (hp 7 (by kernel_rfl))
    obtain ⟨x,e1,e2,-,-⟩:=hA.fA hap
    refine ⟨?_⟩
    simp only [putAll,Act.put,List.setIfInBounds_toArray,List.set_cons_zero,List.set_cons_succ]
    rw [e0 x e1 e2]
    go_simp
    exact ⟨hA,fE,ft,fm,g0,g1,g2,fun _=>⟨hap,fun y a b=>by rw [← Aw.same (e1.symm.trans a) (e2.trans b.symm)];rfl⟩⟩
  ·intro d u w9 hF hall
   have d0:=hall 0 (by decide)
   have d1:=hall 1 (by decide)
   have d2:=hall 2 (by decide)
   have d3:=hall 3 (by decide)
   have d4:=hall 4 (by decide)
   have d5:=hall 5 (by decide)
   have d6:=hall 6 (by decide)
   have d7:=hall 7 (by decide)
   have d8:=hall 8 (by decide)
   have d9:=hall 9 (by decide)
   have d10:=hall 10 (by decide)
   have d11:=hall 11 (by decide)
   have d12:=hall 12 (by decide)
   obtain ⟨hA,fE,ft,fm,g0,g1,g2,fz⟩:=hF
   rw [d0,d3,d8,d9,d10,d11] at hA
   obtain ⟨x,V,V2,e1,e2,e3,hx,hk,ho,hn,hV,hV2,hr,hr2,n1,n2,n3⟩:=hA.fin
   have h0:=(g0 d5).2 x e1 hx
   have h1:=(g1 d6).2 x e1 hx
   have h2:=(g2 d7).2 x e1 hx
   have h3:=(fz d12).2 x e1 hx
   have h4:=(fm d4).2
   have h5:=fE d1
   have h6:=ft d2
   simp only [putAll,Act.put,List.setIfInBounds_toArray,List.set_cons_zero,List.set_cons_succ,h0,h1,h2,h3,h4,h5,h6,e1,e2,e3]
   clear hall d0 d1 d2 d3 d4 d5 d6 d7 d8 d9 d10 d11 d12 hA fE ft fm g0 g1 g2 fz h0 h1 h2 h3 h4 h5 h6 e1 e2 e3
   obtain ⟨gB,gi,ga,gc,gL,gd⟩:=x
   simp only [Aw.d,Ad.mk.injEq] at hx
   obtain ⟨hx1,hx2,hx3,hx4⟩:=hx
   have hx2:=hx2.symm
   have hx3:=hx3.symm
   have hx4:=hx4.symm
   subst hx2 hx3 hx4
   have HDg:=hide hx1
   clear hx1
   have hk0:Keeps w7 w9:=(Keeps.refl w7).drew.trans (by rw [← HWR.out];exact hk)
   have hs0:w.heap.size≤w8.heap.size:=by rw [HWR.out];exact HK.out.size
   have hob:Own w9 gB.segs:=Own.left ho
   have hop:Own w9 [(ga,flat oL)]:=Own.right ho
   have hap:∀ b∈fp gB.segs,b∉fp [(ga,flat oL)]:=Own.apart ho
   have hnb:∀ b∈fp gB.segs,w8.heap.size≤b:=fun b hb=>hn b (by show b∈fp (_++_);rw [fp_append];exact List.mem_append_left _ hb)
   have hnp:∀ b∈fp [(ga,flat oL)],w8.heap.size≤b:=fun b hb=>hn b (by show b∈fp (_++_);rw [fp_append];exact List.mem_append_right _ hb)
   have n1b:V∉fp gB.segs:=fun hb=>n1 (by show V∈fp (_++_);rw [fp_append];exact List.mem_append_left _ hb)
   have n1p:V∉fp [(ga,flat oL)]:=fun hb=>n1 (by show V∈fp (_++_);rw [fp_append];exact List.mem_append_right _ hb)
   have n2b:V2∉fp gB.segs:=fun hb=>n2 (by show V2∈fp (_++_);rw [fp_append];exact List.mem_append_left _ hb)
   have n2p:V2∉fp [(ga,flat oL)]:=fun hb=>n2 (by show V2∈fp (_++_);rw [fp_append];exact List.mem_append_right _ hb)
   have hoP:=own_bk hr
   have hoQ:=own_pg hr2
   dsimp only at hoP hoQ
   have hnP:=nvN hoP hV
   have hnQ:=nvN hoQ hV2
   have HDA_gb:=hide (ap_old HRA.out.mem hnb)
   have HDgb_A:=hide (ap_new HRA.out.mem hnb)
   have HDE_gb:=hide (ap_old HRE.out.mem hnb)
   have HDgb_E:=hide (ap_new HRE.out.mem hnb)
   have HDmb_gb:=hide (ap_old HRmb.out.mem hnb)
   have HDgb_mb:=hide (ap_new HRmb.out.mem hnb)
   have HDmp_gb:=hide (ap_old HRmp.out.mem hnb)
   have HDgb_mp:=hide (ap_new HRmp.out.mem hnb)
   have HDmP_gb:=hide (ap_old HRmP.out.mem hnb)
   have HDgb_mP:=hide (ap_new HRmP.out.mem hnb)
   have HDmQ_gb:=hide (ap_old HRmQ.out.mem hnb)
   have HDgb_mQ:=hide (ap_new HRmQ.out.mem hnb)
   have HDx_gb:=hide (ap_old HRx.out.mem hnb)
   have HDgb_x:=hide (ap_new HRx.out.mem hnb)
   have HDX_gb:=hide (ap_old HRX.out.mem hnb)
   have HDgb_X:=hide (ap_new HRX.out.mem hnb)
   have HNgb:=hide (nnN hs0 hnb)
   have HDA_gp:=hide (ap_old HRA.out.mem hnp)
   have HDgp_A:=hide (ap_new HRA.out.mem hnp)
   have HDE_gp:=hide (ap_old HRE.out.mem hnp)
   have HDgp_E:=hide (ap_new HRE.out.mem hnp)
   have HDmb_gp:=hide (ap_old HRmb.out.mem hnp)
   have HDgp_mb:=hide (ap_new HRmb.out.mem hnp)
   have HDmp_gp:=hide (ap_old HRmp.out.mem hnp)
   have HDgp_mp:=hide (ap_new HRmp.out.mem hnp)
   have HDmP_gp:=hide (ap_old HRmP.out.mem hnp)
   have HDgp_mP:=hide (ap_new HRmP.out.mem hnp)
   have HDmQ_gp:=hide (ap_old HRmQ.out.mem hnp)
   have HDgp_mQ:=hide (ap_new HRmQ.out.mem hnp)
   have HDx_gp:=hide (ap_old HRx.out.mem hnp)
   have HDgp_x:=hide (ap_new HRx.out.mem hnp)
   have HDX_gp:=hide (ap_old HRX.out.mem hnp)
   have HDgp_X:=hide (ap_new HRX.out.mem hnp)
   have HNgp:=hide (nnN hs0 hnp)
   have HDA_gP:=hide (ap_old HRA.out.mem hnP)
   have HDgP_A:=hide (ap_new HRA.out.mem hnP)
   have HDE_gP:=hide (ap_old HRE.out.mem hnP)
   have HDgP_E:=hide (ap_new HRE.out.mem hnP)
   have HDmb_gP:=hide (ap_old HRmb.out.mem hnP)
   have HDgP_mb:=hide (ap_new HRmb.out.mem hnP)
   have HDmp_gP:=hide (ap_old HRmp.out.mem hnP)
   have HDgP_mp:=hide (ap_new HRmp.out.mem hnP)
   have HDmP_gP:=hide (ap_old HRmP.out.mem hnP)
   have HDgP_mP:=hide (ap_new HRmP.out.mem hnP)
   have HDmQ_gP:=hide (ap_old HRmQ.out.mem hnP)
   have HDgP_mQ:=hide (ap_new HRmQ.out.mem hnP)
   have HDx_gP:=hide (ap_old HRx.out.mem hnP)
   have HDgP_x:=hide (ap_new HRx.out.mem hnP)
   have HDX_gP:=hide (ap_old HRX.out.mem hnP)
   have HDgP_X:=hide (ap_new HRX.out.mem hnP)
   have HNgP:=hide (nnN hs0 hnP)
   have HDA_gQ:=hide (ap_old HRA.out.mem hnQ)
   have HDgQ_A:=hide (ap_new HRA.out.mem hnQ)
   have HDE_gQ:=hide (ap_old HRE.out.mem hnQ)
   have HDgQ_E:=hide (ap_new HRE.out.mem hnQ)
   have HDmb_gQ:=hide (ap_old HRmb.out.mem hnQ)
   have HDgQ_mb:=hide (ap_new HRmb.out.mem hnQ)
   have HDmp_gQ:=hide (ap_old HRmp.out.mem hnQ)
   have HDgQ_mp:=hide (ap_new HRmp.out.mem hnQ)
   have HDmP_gQ:=hide (ap_old HRmP.out.mem hnQ)
   have HDgQ_mP:=hide (ap_new HRmP.out.mem hnQ)
   have HDmQ_gQ:=hide (ap_old HRmQ.out.mem hnQ)
   have HDgQ_mQ:=hide (ap_new HRmQ.out.mem hnQ)
   have HDx_gQ:=hide (ap_old HRx.out.mem hnQ)
   have HDgQ_x:=hide (ap_new HRx.out.mem hnQ)
   have HDX_gQ:=hide (ap_old HRX.out.mem hnQ)
   have HDgQ_X:=hide (ap_new HRX.out.mem hnQ)
   have HNgQ:=hide (nnN hs0 hnQ)
   have HDgb_gp:=hide (hap)
   have HDgp_gb:=hide (apsym HDgb_gp.out)
   have HDgb_gP:=hide (nvO hoP n1b)
   have HDgP_gb:=hide (apsym HDgb_gP.out)
   have HDgb_gQ:=hide (nvO hoQ n2b)
   have HDgQ_gb:=hide (apsym HDgb_gQ.out)
   have HDgp_gP:=hide (nvO hoP n1p)
   have HDgP_gp:=hide (apsym HDgp_gP.out)
   have HDgp_gQ:=hide (nvO hoQ n2p)
   have HDgQ_gp:=hide (apsym HDgp_gQ.out)
   have HDgP_gQ:=hide (nvP hoP hoQ n3)
   have HDgQ_gP:=hide (apsym HDgP_gQ.out)
   replace HK:=hide (HK.out.trans hk0)
   replace HOA:=hide (HOA.out.kept hk0)
   replace HOE:=hide (HOE.out.kept hk0)
   replace HOmb:=hide (HOmb.out.kept hk0)
   replace HOmp:=hide (HOmp.out.kept hk0)
   replace HOmP:=hide (HOmP.out.kept hk0)
   replace HOmQ:=hide (HOmQ.out.kept hk0)
   replace HOx:=hide (HOx.out.kept hk0)
   replace HOX:=hide (HOX.out.kept hk0)
   have HOgb:=hide hob
   have HOgp:=hide hop
   have HOgP:=hide hoP
   have HOgQ:=hide hoQ
   clear hk hk0 hs0 ho hn hV hV2 hr hr2 n1 n2 n3 hob hop hap hnb hnp hnP hnQ n1b n1p n2b n2p hoP hoQ HWR HRA HRE HRmb HRmp HRmP HRmQ HRx HRX
   generalize V=gV at *
   generalize V2=gW at *
   have cgP0:=cell_at HOgP.out.mem 0 (by simp)
   have cgP1:=cell_at HOgP.out.mem 1 (by simp)
   have cgP2:=cell_at HOgP.out.mem 2 (by simp)
   have cgP3:=cell_at HOgP.out.mem 3 (by simp)
   have cgP4:=cell_at HOgP.out.mem 4 (by simp)
   have cgP5:=cell_at HOgP.out.mem 5 (by simp)
   simp only [Nat.zero_add,List.getElem_cons_zero,List.getElem_cons_succ] at cgP0 cgP1 cgP2 cgP3 cgP4 cgP5
   have lgP:=lt_of_cell cgP0
   have cmP0:=cell_at HOmP.out.mem 0 (by simp)
   have cmP1:=cell_at HOmP.out.mem 1 (by simp)
   have cmP2:=cell_at HOmP.out.mem 2 (by simp)
   have cmP3:=cell_at HOmP.out.mem 3 (by simp)
   have cmP4:=cell_at HOmP.out.mem 4 (by simp)
   have cmP5:=cell_at HOmP.out.mem 5 (by simp)
   simp only [Nat.zero_add,List.getElem_cons_zero,List.getElem_cons_succ] at cmP0 cmP1 cmP2 cmP3 cmP4 cmP5
   have lmP:=lt_of_cell cmP0
   go_wp2_with fail
   clear cgP0 cgP1 cgP2 cgP3 cgP4 cgP5 lgP cmP0 cmP1 cmP2 cmP3 cmP4 cmP5 lmP
   refine (eqBook_k gB mB w9 (HDg.out.trans HDm.out.symm) HOgb.out.mem HOmb.out.mem (unhide HLO _ HDg.out)).mono ?_
   rintro x w10 ⟨rfl,hk⟩
   replace HK:=hide (HK.out.trans hk)
   replace HOA:=hide (HOA.out.kept hk)
   replace HOE:=hide (HOE.out.kept hk)
   replace HOmb:=hide (HOmb.out.kept hk)
   replace HOmp:=hide (HOmp.out.kept hk)
   replace HOmP:=hide (HOmP.out.kept hk)
   replace HOmQ:=hide (HOmQ.out.kept hk)
   replace HOx:=hide (HOx.out.kept hk)
   replace HOX:=hide (HOX.out.kept hk)
   replace HOgb:=hide (HOgb.out.kept hk)
   replace HOgp:=hide (HOgp.out.kept hk)
   replace HOgP:=hide (HOgP.out.kept hk)
   replace HOgQ:=hide (HOgQ.out.kept hk)
   clear hk
   have cgQ0:=cell_at HOgQ.out.mem 0 (by simp)
   have cgQ1:=cell_at HOgQ.out.mem 1 (by simp)
   simp only [Nat.zero_add,List.getElem_cons_zero,List.getElem_cons_succ] at cgQ0 cgQ1
   have lgQ:=lt_of_cell cgQ0
   have cmQ0:=cell_at HOmQ.out.mem 0 (by simp)
   have cmQ1:=cell_at HOmQ.out.mem 1 (by simp)
   simp only [Nat.zero_add,List.getElem_cons_zero,List.getElem_cons_succ] at cmQ0 cmQ1
   have lmQ:=lt_of_cell cmQ0
   go_wp2_with fail
   clear cgQ0 cgQ1 lgQ cmQ0 cmQ1 lmQ
   refine (eqPosting_o oi ga ma gc mc oL w10 (HOgp.out.mem (ga,flat oL) (by simp)) (HOmp.out.mem (ma,flat oL) (by simp)) HLL.out).mono ?_
   rintro x w11 ⟨rfl,hk⟩
   replace HK:=hide (HK.out.trans hk)
   replace HOA:=hide (HOA.out.kept hk)
   replace HOE:=hide (HOE.out.kept hk)
   replace HOmb:=hide (HOmb.out.kept hk)
   replace HOmp:=hide (HOmp.out.kept hk)
   replace HOmP:=hide (HOmP.out.kept hk)
   replace HOmQ:=hide (HOmQ.out.kept hk)
   replace HOx:=hide (HOx.out.kept hk)
   replace HOX:=hide (HOX.out.kept hk)
   replace HOgb:=hide (HOgb.out.kept hk)
   replace HOgp:=hide (HOgp.out.kept hk)
   replace HOgP:=hide (HOgP.out.kept hk)
   replace HOgQ:=hide (HOgQ.out.kept hk)
   clear hk
   go_wp2_with fail
   have cX0:=cell_at HOX.out.mem 0 (by simp)
   have cX1:=cell_at HOX.out.mem 1 (by simp)
   have cX2:=cell_at HOX.out.mem 2 (by simp)
   have cX3:=cell_at HOX.out.mem 3 (by simp)
   have cX4:=cell_at HOX.out.mem 4 (by simp)
   have cX5:=cell_at HOX.out.mem 5 (by simp)
   simp only [Nat.zero_add,List.getElem_cons_zero,List.getElem_cons_succ] at cX0 cX1 cX2 cX3 cX4 cX5
   have lX:=lt_of_cell cX0
   have cA0:=cell_at HOA.out.mem 0 (by simp)
   have cA1:=cell_at HOA.out.mem 1 (by simp)
   have cA2:=cell_at HOA.out.mem 2 (by simp)
   have cA3:=cell_at HOA.out.mem 3 (by simp)
   have cA4:=cell_at HOA.out.mem 4 (by simp)
   have cA5:=cell_at HOA.out.mem 5 (by simp)
   simp only [Nat.zero_add,List.getElem_cons_zero,List.getElem_cons_succ] at cA0 cA1 cA2 cA3 cA4 cA5
   have lA:=lt_of_cell cA0
   go_region_held3 (fun w'=>w'.cell? ⟨w6.heap.size,0,none⟩=some (.int .i64 Bx.tk)∧w'.cell? ⟨w6.heap.size,1,none⟩=some (.int .i64 Bx.nx)∧w'.cell? ⟨w6.heap.size,2,none⟩=some (.int .i64 Bx.wa)∧w'.cell? ⟨w6.heap.size,3,none⟩=some (.slice Bx.ca Bx.C.length Bx.cc)∧w'.cell? ⟨w6.heap.size,4,none⟩=some (.slice Bx.ha Bx.Hs.length Bx.hc)∧w'.cell? ⟨w6.heap.size,5,none⟩=some (.slice Bx.ra Bx.R.length Bx.rc)∧w'.cell? ⟨w.heap.size,0,none⟩=some (.int .i64 tk)∧w'.cell? ⟨w.heap.size,1,none⟩=some (.int .i64 nx)∧w'.cell? ⟨w.heap.size,2,none⟩=some (.int .i64 wa)∧w'.cell? ⟨w.heap.size,3,none⟩=some (.slice ca C.length cc)∧w'.cell? ⟨w.heap.size,4,none⟩=some (.slice ha Hs.length hc)∧w'.cell? ⟨w.heap.size,5,none⟩=some (.slice ra R.length rc)) (go_keep)
    (first
      | (go_at_call 7
         refine (unhide HTo _ (HK.out.trans ((Keeps.refl w11).drew)) HL.out).mono ?_
         rintro x w12 ⟨By,rfl,hd,hb,hk⟩
         have HDy:=hide hd
         clear hd
         replace hb:=hb.old ((Keeps.refl w11).drew)
         replace hk:=((Keeps.refl w11).drew).trans hk
         clear cX0 cX1 cX2 cX3 cX4 cX5 lX cA0 cA1 cA2 cA3 cA4 cA5 lA
         have HDA_y:=hide (hb.apart HOA.out.mem)
         have HDy_A:=hide (hb.apart' HOA.out.mem)
         have HDE_y:=hide (hb.apart HOE.out.mem)
         have HDy_E:=hide (hb.apart' HOE.out.mem)
         have HDmb_y:=hide (hb.apart HOmb.out.mem)
         have HDy_mb:=hide (hb.apart' HOmb.out.mem)
         have HDmp_y:=hide (hb.apart HOmp.out.mem)
         have HDy_mp:=hide (hb.apart' HOmp.out.mem)
         have HDmP_y:=hide (hb.apart HOmP.out.mem)
         have HDy_mP:=hide (hb.apart' HOmP.out.mem)
         have HDmQ_y:=hide (hb.apart HOmQ.out.mem)
         have HDy_mQ:=hide (hb.apart' HOmQ.out.mem)
         have HDx_y:=hide (hb.apart HOx.out.mem)
         have HDy_x:=hide (hb.apart' HOx.out.mem)
         have HDX_y:=hide (hb.apart HOX.out.mem)
         have HDy_X:=hide (hb.apart' HOX.out.mem)
         have HDgb_y:=hide (hb.apart HOgb.out.mem)
         have HDy_gb:=hide (hb.apart' HOgb.out.mem)
         have HDgp_y:=hide (hb.apart HOgp.out.mem)
         have HDy_gp:=hide (hb.apart' HOgp.out.mem)
         have HDgP_y:=hide (hb.apart HOgP.out.mem)
         have HDy_gP:=hide (hb.apart' HOgP.out.mem)
         have HDgQ_y:=hide (hb.apart HOgQ.out.mem)
         have HDy_gQ:=hide (hb.apart' HOgQ.out.mem)
         have HNy:=hide ((hb.old HK.out).new)
         replace HK:=hide (HK.out.trans hk)
         replace HOA:=hide (HOA.out.kept hk)
         replace HOE:=hide (HOE.out.kept hk)
         replace HOmb:=hide (HOmb.out.kept hk)
         replace HOmp:=hide (HOmp.out.kept hk)
         replace HOmP:=hide (HOmP.out.kept hk)
         replace HOmQ:=hide (HOmQ.out.kept hk)
         replace HOx:=hide (HOx.out.kept hk)
         replace HOX:=hide (HOX.out.kept hk)
         replace HOgb:=hide (HOgb.out.kept hk)
         replace HOgp:=hide (HOgp.out.kept hk)
         replace HOgP:=hide (HOgP.out.kept hk)
         replace HOgQ:=hide (HOgQ.out.kept hk)
         have HOy:=hide hb.toOwn
         clear hb hk
         have cX0:=cell_at HOX.out.mem 0 (by simp)
         have cX1:=cell_at HOX.out.mem 1 (by simp)
         have cX2:=cell_at HOX.out.mem 2 (by simp)
         have cX3:=cell_at HOX.out.mem 3 (by simp)
         have cX4:=cell_at HOX.out.mem 4 (by simp)
         have cX5:=cell_at HOX.out.mem 5 (by simp)
         simp only [Nat.zero_add,List.getElem_cons_zero,List.getElem_cons_succ] at cX0 cX1 cX2 cX3 cX4 cX5
         have lX:=lt_of_cell cX0
         have cA0:=cell_at HOA.out.mem 0 (by simp)
         have cA1:=cell_at HOA.out.mem 1 (by simp)
         have cA2:=cell_at HOA.out.mem 2 (by simp)
         have cA3:=cell_at HOA.out.mem 3 (by simp)
         have cA4:=cell_at HOA.out.mem 4 (by simp)
         have cA5:=cell_at HOA.out.mem 5 (by simp)
         simp only [Nat.zero_add,List.getElem_cons_zero,List.getElem_cons_succ] at cA0 cA1 cA2 cA3 cA4 cA5
         have lA:=lt_of_cell cA0)
      | (go_at_call 10
         refine (eqBook_k Bx By w12 (HDx.out.trans HDy.out.symm) HOx.out.mem HOy.out.mem (unhide HLB _ HDx.out)).mono ?_
         rintro x w13 ⟨rfl,hk⟩
         clear cX0 cX1 cX2 cX3 cX4 cX5 lX cA0 cA1 cA2 cA3 cA4 cA5 lA
         replace HK:=hide (HK.out.trans hk)
         replace HOA:=hide (HOA.out.kept hk)
         replace HOE:=hide (HOE.out.kept hk)
         replace HOmb:=hide (HOmb.out.kept hk)
         replace HOmp:=hide (HOmp.out.kept hk)
         replace HOmP:=hide (HOmP.out.kept hk)
         replace HOmQ:=hide (HOmQ.out.kept hk)
         replace HOx:=hide (HOx.out.kept hk)
         replace HOX:=hide (HOX.out.kept hk)
         replace HOgb:=hide (HOgb.out.kept hk)
         replace HOgp:=hide (HOgp.out.kept hk)
         replace HOgP:=hide (HOgP.out.kept hk)
         replace HOgQ:=hide (HOgQ.out.kept hk)
         replace HOy:=hide (HOy.out.kept hk)
         clear hk
         have cX0:=cell_at HOX.out.mem 0 (by simp)
         have cX1:=cell_at HOX.out.mem 1 (by simp)
         have cX2:=cell_at HOX.out.mem 2 (by simp)
         have cX3:=cell_at HOX.out.mem 3 (by simp)
         have cX4:=cell_at HOX.out.mem 4 (by simp)
         have cX5:=cell_at HOX.out.mem 5 (by simp)
         simp only [Nat.zero_add,List.getElem_cons_zero,List.getElem_cons_succ] at cX0 cX1 cX2 cX3 cX4 cX5
         have lX:=lt_of_cell cX0
         have cA0:=cell_at HOA.out.mem 0 (by simp)
         have cA1:=cell_at HOA.out.mem 1 (by simp)
         have cA2:=cell_at HOA.out.mem 2 (by simp)
         have cA3:=cell_at HOA.out.mem 3 (by simp)
         have cA4:=cell_at HOA.out.mem 4 (by simp)
         have cA5:=cell_at HOA.out.mem 5 (by simp)
         simp only [Nat.zero_add,List.getElem_cons_zero,List.getElem_cons_succ] at cA0 cA1 cA2 cA3 cA4 cA5
         have lA:=lt_of_cell cA0))
   clear HOy HNy HDA_y HDy_A HDE_y HDy_E HDmb_y HDy_mb HDmp_y HDy_mp HDmP_y HDy_mP HDmQ_y HDy_mQ HDx_y HDy_x HDX_y HDy_X HDgb_y HDy_gb HDgp_y HDy_gp HDgP_y HDy_gP HDgQ_y HDy_gQ
   clear HDy
   go_wp2_with fail
   clear cX0 cX1 cX2 cX3 cX4 cX5 lX cA0 cA1 cA2 cA3 cA4 cA5 lA
   have HLX:=hide (unhide HLB Bx HDx.out)
   refine (markBook_k Bx 1 w13 HOx.out HLX.out (by decide)).mono ?_
   rintro x w14 ⟨rfl,ho,ht⟩
   replace HK:=hide (ht.keeps HK.out HNx.out)
   replace HOA:=hide (HOA.out.turn ht HDA_x.out)
   replace HOE:=hide (HOE.out.turn ht HDE_x.out)
   replace HOmb:=hide (HOmb.out.turn ht HDmb_x.out)
   replace HOmp:=hide (HOmp.out.turn ht HDmp_x.out)
   replace HOmP:=hide (HOmP.out.turn ht HDmP_x.out)
   replace HOmQ:=hide (HOmQ.out.turn ht HDmQ_x.out)
   replace HOX:=hide (HOX.out.turn ht HDX_x.out)
   replace HOgb:=hide (HOgb.out.turn ht HDgb_x.out)
   replace HOgp:=hide (HOgp.out.turn ht HDgp_x.out)
   replace HOgP:=hide (HOgP.out.turn ht HDgP_x.out)
   replace HOgQ:=hide (HOgQ.out.turn ht HDgQ_x.out)
   clear ht
   clear ho
   have hp0:¬ ((markN 1 Bx:Nat):Int) < 0:=by omega
   generalize ((markN 1 Bx:Nat):Int)=kk at *
   clear HOx HNx HDA_x HDx_A HDE_x HDx_E HDmb_x HDx_mb HDmp_x HDx_mp HDmP_x HDx_mP HDmQ_x HDx_mQ HDX_x HDx_X HDgb_x HDx_gb HDgp_x HDx_gp HDgP_x HDx_gP HDgQ_x HDx_gQ
   clear HDx
   have cgP0:=cell_at HOgP.out.mem 0 (by simp)
   have cgP1:=cell_at HOgP.out.mem 1 (by simp)
   have cgP2:=cell_at HOgP.out.mem 2 (by simp)
   have cgP3:=cell_at HOgP.out.mem 3 (by simp)
   have cgP4:=cell_at HOgP.out.mem 4 (by simp)
   have cgP5:=cell_at HOgP.out.mem 5 (by simp)
   simp only [Nat.zero_add,List.getElem_cons_zero,List.getElem_cons_succ] at cgP0 cgP1 cgP2 cgP3 cgP4 cgP5
   have lgP:=lt_of_cell cgP0
   have cmP0:=cell_at HOmP.out.mem 0 (by simp)
   have cmP1:=cell_at HOmP.out.mem 1 (by simp)
   have cmP2:=cell_at HOmP.out.mem 2 (by simp)
   have cmP3:=cell_at HOmP.out.mem 3 (by simp)
   have cmP4:=cell_at HOmP.out.mem 4 (by simp)
   have cmP5:=cell_at HOmP.out.mem 5 (by simp)
   simp only [Nat.zero_add,List.getElem_cons_zero,List.getElem_cons_succ] at cmP0 cmP1 cmP2 cmP3 cmP4 cmP5
   have lmP:=lt_of_cell cmP0
   go_wp2_with fail
   clear cgP0 cgP1 cgP2 cgP3 cgP4 cgP5 lgP cmP0 cmP1 cmP2 cmP3 cmP4 cmP5 lmP
   refine (eqBook_k gB mB w14 (HDg.out.trans HDm.out.symm) HOgb.out.mem HOmb.out.mem (unhide HLO _ HDg.out)).mono ?_
   rintro x w15 ⟨rfl,hk⟩
   replace HK:=hide (HK.out.trans hk)
   replace HOA:=hide (HOA.out.kept hk)
   replace HOE:=hide (HOE.out.kept hk)
   replace HOmb:=hide (HOmb.out.kept hk)
   replace HOmp:=hide (HOmp.out.kept hk)
   replace HOmP:=hide (HOmP.out.kept hk)
   replace HOmQ:=hide (HOmQ.out.kept hk)
   replace HOX:=hide (HOX.out.kept hk)
   replace HOgb:=hide (HOgb.out.kept hk)
   replace HOgp:=hide (HOgp.out.kept hk)
   replace HOgP:=hide (HOgP.out.kept hk)
   replace HOgQ:=hide (HOgQ.out.kept hk)
   clear hk
   have cgQ0:=cell_at HOgQ.out.mem 0 (by simp)
   have cgQ1:=cell_at HOgQ.out.mem 1 (by simp)
   simp only [Nat.zero_add,List.getElem_cons_zero,List.getElem_cons_succ] at cgQ0 cgQ1
   have lgQ:=lt_of_cell cgQ0
   have cmQ0:=cell_at HOmQ.out.mem 0 (by simp)
   have cmQ1:=cell_at HOmQ.out.mem 1 (by simp)
   simp only [Nat.zero_add,List.getElem_cons_zero,List.getElem_cons_succ] at cmQ0 cmQ1
   have lmQ:=lt_of_cell cmQ0
   go_wp2_with fail
   clear cgQ0 cgQ1 lgQ cmQ0 cmQ1 lmQ
   refine (eqPosting_o oi ga ma gc mc oL w15 (HOgp.out.mem (ga,flat oL) (by simp)) (HOmp.out.mem (ma,flat oL) (by simp)) HLL.out).mono ?_
   rintro x w16 ⟨rfl,hk⟩
   replace HK:=hide (HK.out.trans hk)
   replace HOA:=hide (HOA.out.kept hk)
   replace HOE:=hide (HOE.out.kept hk)
   replace HOmb:=hide (HOmb.out.kept hk)
   replace HOmp:=hide (HOmp.out.kept hk)
   replace HOmP:=hide (HOmP.out.kept hk)
   replace HOmQ:=hide (HOmQ.out.kept hk)
   replace HOX:=hide (HOX.out.kept hk)
   replace HOgb:=hide (HOgb.out.kept hk)
   replace HOgp:=hide (HOgp.out.kept hk)
   replace HOgP:=hide (HOgP.out.kept hk)
   replace HOgQ:=hide (HOgQ.out.kept hk)
   clear hk
   have cgP0:=cell_at HOgP.out.mem 0 (by simp)
   have cgP1:=cell_at HOgP.out.mem 1 (by simp)
   have cgP2:=cell_at HOgP.out.mem 2 (by simp)
   have cgP3:=cell_at HOgP.out.mem 3 (by simp)
   have cgP4:=cell_at HOgP.out.mem 4 (by simp)
   have cgP5:=cell_at HOgP.out.mem 5 (by simp)
   simp only [Nat.zero_add,List.getElem_cons_zero,List.getElem_cons_succ] at cgP0 cgP1 cgP2 cgP3 cgP4 cgP5
   have lgP:=lt_of_cell cgP0
   go_wp2_with fail
   clear cgP0 cgP1 cgP2 cgP3 cgP4 cgP5 lgP
   have HLG:=hide (unhide HLO gB HDg.out)
   refine (markBook_k gB 1 w16 HOgb.out HLG.out (by decide)).mono ?_
   rintro x w17 ⟨rfl,ho,ht⟩
   replace HK:=hide (ht.keeps HK.out HNgb.out)
   replace HOA:=hide (HOA.out.turn ht HDA_gb.out)
   replace HOE:=hide (HOE.out.turn ht HDE_gb.out)
   replace HOmb:=hide (HOmb.out.turn ht HDmb_gb.out)
   replace HOmp:=hide (HOmp.out.turn ht HDmp_gb.out)
   replace HOmP:=hide (HOmP.out.turn ht HDmP_gb.out)
   replace HOmQ:=hide (HOmQ.out.turn ht HDmQ_gb.out)
   replace HOX:=hide (HOX.out.turn ht HDX_gb.out)
   replace HOgp:=hide (HOgp.out.turn ht HDgp_gb.out)
   replace HOgP:=hide (HOgP.out.turn ht HDgP_gb.out)
   replace HOgQ:=hide (HOgQ.out.turn ht HDgQ_gb.out)
   clear ht
   replace HOgb:=hide ho
   clear ho
   replace HDgb_gp:Hid (∀ b∈fp ((markBo 1 gB).segs:List Seg),b∉fp ([(ga,flat oL)]:List Seg)):=by show ∀ b∈fp _,_;rw [fp_mark];exact HDgb_gp.out
   obtain ⟨mk,hmk⟩:∃ mk,mk=markN 1 gB:=⟨_,rfl⟩
   have HM9:Hid (mk≤100000000):=by show _≤_;obtain ⟨l1,l2,l3⟩:=HLG.out;rw [hmk];unfold markN;omega
   have HMK:=hide hmk.symm
   clear hmk HLG
   rw [HMK.out]
   have cgQ0:=cell_at HOgQ.out.mem 0 (by simp)
   have cgQ1:=cell_at HOgQ.out.mem 1 (by simp)
   simp only [Nat.zero_add,List.getElem_cons_zero,List.getElem_cons_succ] at cgQ0 cgQ1
   have lgQ:=lt_of_cell cgQ0
   go_wp2_with fail
   clear cgQ0 cgQ1 lgQ
   refine (markPosting_o oi ga gc oL ((mk:Nat):Int) w17 HOgp.out HLL.out (by omega) (by have:=HM9.out;omega)).mono ?_
   rintro x w18 ⟨rfl,ho,ht⟩
   replace HK:=hide (ht.keeps HK.out HNgp.out)
   replace HOA:=hide (HOA.out.turn ht HDA_gp.out)
   replace HOE:=hide (HOE.out.turn ht HDE_gp.out)
   replace HOmb:=hide (HOmb.out.turn ht HDmb_gp.out)
   replace HOmp:=hide (HOmp.out.turn ht HDmp_gp.out)
   replace HOmP:=hide (HOmP.out.turn ht HDmP_gp.out)
   replace HOmQ:=hide (HOmQ.out.turn ht HDmQ_gp.out)
   replace HOX:=hide (HOX.out.turn ht HDX_gp.out)
   replace HOgb:=hide (HOgb.out.turn ht HDgb_gp.out)
   replace HOgP:=hide (HOgP.out.turn ht HDgP_gp.out)
   replace HOgQ:=hide (HOgQ.out.turn ht HDgQ_gp.out)
   clear ht
   replace HOgp:=hide ho
   clear ho
   have hp1:¬ ((mk:Nat):Int) < 0:=by omega
   have hp2:¬ ((mk:Nat):Int)+3*(oL.length:Int) < 0:=by omega
   have hq1:(((mk:Nat):Int)+3*(oL.length:Int) != ((mk:Nat):Int)+3*(oL.length:Int))=false:=by simp
   have cgP0:=cell_at HOgP.out.mem 0 (by simp)
   have cgP1:=cell_at HOgP.out.mem 1 (by simp)
   have cgP2:=cell_at HOgP.out.mem 2 (by simp)
   have cgP3:=cell_at HOgP.out.mem 3 (by simp)
   have cgP4:=cell_at HOgP.out.mem 4 (by simp)
   have cgP5:=cell_at HOgP.out.mem 5 (by simp)
   simp only [Nat.zero_add,List.getElem_cons_zero,List.getElem_cons_succ] at cgP0 cgP1 cgP2 cgP3 cgP4 cgP5
   have lgP:=lt_of_cell cgP0
   go_wp2_with fail
   clear cgP0 cgP1 cgP2 cgP3 cgP4 cgP5 lgP
   refine (heldBook_k gB 1 w18 HOgb.out.mem (unhide HLO _ HDg.out) (by decide)).mono ?_
   rintro x w19 ⟨rfl,hk⟩
   replace HK:=hide (HK.out.trans hk)
   replace HOA:=hide (HOA.out.kept hk)
   replace HOE:=hide (HOE.out.kept hk)
   replace HOmb:=hide (HOmb.out.kept hk)
   replace HOmp:=hide (HOmp.out.kept hk)
   replace HOmP:=hide (HOmP.out.kept hk)
   replace HOmQ:=hide (HOmQ.out.kept hk)
   replace HOX:=hide (HOX.out.kept hk)
   replace HOgb:=hide (HOgb.out.kept hk)
   replace HOgp:=hide (HOgp.out.kept hk)
   replace HOgP:=hide (HOgP.out.kept hk)
   replace HOgQ:=hide (HOgQ.out.kept hk)
   clear hk
   rw [HMK.out]
   have cgQ0:=cell_at HOgQ.out.mem 0 (by simp)
   have cgQ1:=cell_at HOgQ.out.mem 1 (by simp)
   simp only [Nat.zero_add,List.getElem_cons_zero,List.getElem_cons_succ] at cgQ0 cgQ1
   have lgQ:=lt_of_cell cgQ0
   go_wp2_with fail
   clear cgQ0 cgQ1 lgQ
   refine (heldPosting_o oi ga gc oL.length ((mk:Nat):Int) w19 (HOgp.out.mem (ga,flat (mkL ((mk:Nat):Int) oL.length)) (by simp)) HLL.out (by omega) (by have:=HM9.out;omega)).mono ?_
   rintro x w20 ⟨rfl,hk⟩
   replace HK:=hide (HK.out.trans hk)
   replace HOA:=hide (HOA.out.kept hk)
   replace HOE:=hide (HOE.out.kept hk)
   replace HOmb:=hide (HOmb.out.kept hk)
   replace HOmp:=hide (HOmp.out.kept hk)
   replace HOmP:=hide (HOmP.out.kept hk)
   replace HOmQ:=hide (HOmQ.out.kept hk)
   replace HOX:=hide (HOX.out.kept hk)
   replace HOgb:=hide (HOgb.out.kept hk)
   replace HOgp:=hide (HOgp.out.kept hk)
   replace HOgP:=hide (HOgP.out.kept hk)
   replace HOgQ:=hide (HOgQ.out.kept hk)
   clear hk
   go_upto_region 28 with fail
   have HRA:=hide (HOA.out.kept (Keeps.refl w20).drew)
   have HRE:=hide (HOE.out.kept (Keeps.refl w20).drew)
   have HRmb:=hide (HOmb.out.kept (Keeps.refl w20).drew)
   have HRmp:=hide (HOmp.out.kept (Keeps.refl w20).drew)
   have HRmP:=hide (HOmP.out.kept (Keeps.refl w20).drew)
   have HRmQ:=hide (HOmQ.out.kept (Keeps.refl w20).drew)
   have HRX:=hide (HOX.out.kept (Keeps.refl w20).drew)
   have HRgb:=hide (HOgb.out.kept (Keeps.refl w20).drew)
   have HRgp:=hide (HOgp.out.kept (Keeps.refl w20).drew)
   have HRgP:=hide (HOgP.out.kept (Keeps.refl w20).drew)
   have HRgQ:=hide (HOgQ.out.kept (Keeps.refl w20).drew)
   obtain ⟨w21,hwr⟩:∃ w21,w21=w20.drew:=⟨_,rfl⟩
   rw [← hwr] at HRA
   rw [← hwr] at HRE
   rw [← hwr] at HRmb
   rw [← hwr] at HRmp
   rw [← hwr] at HRmP
   rw [← hwr] at HRmQ
   rw [← hwr] at HRX
   rw [← hwr] at HRgb
   rw [← hwr] at HRgp
   rw [← hwr] at HRgP
   rw [← hwr] at HRgQ
   have HWR:=hide hwr
   clear hwr
   refine wp_region_inv (fun d u w'=>ApF w21 w' bd (⟨ob,oi,oL,oc⟩:Ad) (d 1) (d 4) (u 1) (u 4) (d 9) (d 10) (d 11) (d 12) (u 9) (u 10)∧(d 0=true→u 0=.agg #[.int .i64 tk,.int .i64 nx,.int .i64 wa,.slice ca C.length cc,.slice ha Hs.length hc,.slice ra R.length rc])∧(d 2=true→u 2=.agg #[.int .i64 kd,.int .i64 ky,.int .i64 ch,.int .i64 tt,.int .i64 am,.int .i64 fe,.bool ys])∧(d 3=true→u 3=.agg #[.int .i64 kd,.int .i64 ky,.int .i64 ch,.int .i64 tt,.int .i64 am,.int .i64 fe,.bool ys])∧(d 5=true→d 4=true∧u 5=u 4)∧(d 6=true→d 4=true∧∀ x:Aw,u 4=x.v→x.d=(⟨ob,oi,oL,oc⟩:Ad)→u 6=x.B.v)∧(d 7=true→d 4=true∧∀ x:Aw,u 4=x.v→x.d=(⟨ob,oi,oL,oc⟩:Ad)→u 7=.agg #[.int .i64 x.i,.slice x.a x.L.length x.cap])∧(d 8=true→d 4=true∧∀ x:Aw,u 4=x.v→x.d=(⟨ob,oi,oL,oc⟩:Ad)→u 8=.int .i64 x.c)∧(d 13=true→d 4=true∧∀ x:Aw,u 4=x.v→x.d=(⟨ob,oi,oL,oc⟩:Ad)→u 13=.int .i64 x.c)) (fun _=>undef) (by kernel_rfl) ?_ ?_ ?_ ?_ ?_
   ·kernel_rfl
   ·simp only [putAll,Act.put,List.setIfInBounds_toArray,List.set_cons_zero,List.set_cons_succ]
   ·rw [← HWR.out];exact ⟨ApF.start _ _ _ _ _ _ _,nofun,nofun,nofun,nofun,nofun,nofun,nofun,nofun⟩
   ·refine ⟨?_,?_,?_,?_,?_,?_,?_,?_,?_,?_,?_,?_,?_,?_,trivial⟩
    ·intro d u wv hF hd hp
     obtain ⟨hA,f0,fE,ft,fm,g0,g1,g2,fz⟩:=hF
     have c0:=cell_at (HRA.out.mem.kept hA.keep) 0 (by simp)
     have c1:=cell_at (HRA.out.mem.kept hA.keep) 1 (by simp)
     have c2:=cell_at (HRA.out.mem.kept hA.keep) 2 (by simp)
     have c3:=cell_at (HRA.out.mem.kept hA.keep) 3 (by simp)
     have c4:=cell_at (HRA.out.mem.kept hA.keep) 4 (by simp)
     have c5:=cell_at (HRA.out.mem.kept hA.keep) 5 (by simp)
     simp only [Nat.zero_add,List.getElem_cons_zero,List.getElem_cons_succ] at c0 c1 c2 c3 c4 c5
     refine ⟨?_⟩
     simp only [putAll,Act.put,List.setIfInBounds_toArray,List.set_cons_zero,List.set_cons_succ]
     go_simp
     exact ⟨hA,fun _=>rfl,fE,ft,fm,g0,g1,g2,fz⟩
    ·intro d u wv hF hd hp
     obtain ⟨hA,f0,fE,ft,fm,g0,g1,g2,fz⟩:=hF
     have e0:=f0 (hp 0 (by kernel_rfl))
     refine ⟨?_⟩
     simp only [putAll,Act.put,List.setIfInBounds_toArray,List.set_cons_zero,List.set_cons_succ]
     rw [e0]
     go_simp
     refine (unhide HTf wv (HK.out.trans ((Keeps.refl w20).drew.trans (by rw [← HWR.out];exact hA.keep))) HL.out).mono ?_
     rintro x wz ⟨By,rfl,hd',hf',hb,hk⟩
     exact ⟨(hA.kept hk).setB hd' hf' hb.mem,f0,fE,ft,fm,g0,g1,g2,fz⟩
    ·intro d u wv hF hd hp
     obtain ⟨hA,f0,fE,ft,fm,g0,g1,g2,fz⟩:=hF
     have c0:=cell_at (HRE.out.mem.kept hA.keep) 0 (by simp)
     have c1:=cell_at (HRE.out.mem.kept hA.keep) 1 (by simp)
     have c2:=cell_at (HRE.out.mem.kept hA.keep) 2 (by simp)
     have c3:=cell_at (HRE.out.mem.kept hA.keep) 3 (by simp)
     have c4:=cell_at (HRE.out.mem.kept hA.keep) 4 (by simp)
     have c5:=cell_at (HRE.out.mem.kept hA.keep) 5 (by simp)
     have c6:=cell_at (HRE.out.mem.kept hA.keep) 6 (by simp)
     simp only [Nat.zero_add,List.getElem_cons_zero,List.getElem_cons_succ] at c0 c1 c2 c3 c4 c5 c6
     refine ⟨?_⟩
     simp only [putAll,Act.put,List.setIfInBounds_toArray,List.set_cons_zero,List.set_cons_succ]
     go_simp
     exact ⟨hA,f0,fun _=>rfl,ft,fm,g0,g1,g2,fz⟩
    ·intro d u wv hF hd hp
     obtain ⟨hA,f0,fE,ft,fm,g0,g1,g2,fz⟩:=hF
     have e0:=fE (hp 2 (by kernel_rfl))
     refine ⟨?_⟩
     simp only [putAll,Act.put,List.setIfInBounds_toArray,List.set_cons_zero,List.set_cons_succ]
     rw [e0]
     go_simp
     refine (toEvent_k kd ky ch tt am fe ys wv).mono ?_
     rintro x wz ⟨rfl,hk⟩
     exact ⟨hA.kept hk,f0,fE,fun _=>rfl,fm,g0,g1,g2,fz⟩
    ·intro d u wv hF hd hp
     obtain ⟨hA,f0,fE,ft,fm,g0,g1,g2,fz⟩:=hF
     have e0:=ft (hp 3 (by kernel_rfl))
     have hB1:=hp 1 (by kernel_rfl)
     obtain ⟨By,e1,h1,h2,h3⟩:=hA.fB hB1 hd
     refine ⟨?_⟩
     simp only [putAll,Act.put,List.setIfInBounds_toArray,List.set_cons_zero,List.set_cons_succ]
     rw [e0,e1]
     go_simp
     refine (unhide HCI By h1 h2 wv (HK.out.trans ((Keeps.refl w20).drew.trans (by rw [← HWR.out];exact hA.keep))) h3).mono ?_
     rintro y wz ⟨x,rfl,hx,hb,hk⟩
     exact ⟨hA.setA hd hx hb hk,f0,fE,ft,fun e=>absurd ((fm e).1.symm.trans hd) (by decide),fun e=>absurd ((g0 e).1.symm.trans hd) (by decide),fun e=>absurd ((g1 e).1.symm.trans hd) (by decide),fun e=>absurd ((g2 e).1.symm.trans hd) (by decide),fun e=>absurd ((fz e).1.symm.trans hd) (by decide)⟩
    ·intro d u wv hF hd hp
     obtain ⟨hA,f0,fE,ft,fm,g0,g1,g2,fz⟩:=hF
     refine ⟨?_⟩
     simp only [putAll,Act.put,List.setIfInBounds_toArray,List.set_cons_zero,List.set_cons_succ]
     go_simp
     exact ⟨hA,f0,fE,ft,fun _=>⟨hp 4 (by kernel_rfl),rfl⟩,g0,g1,g2,fz⟩
    ·intro d u wv hF hd hp
     obtain ⟨hA,f0,fE,ft,fm,g0,g1,g2,fz⟩:=hF
     obtain ⟨hap,e0⟩:=fm (hp 5 (by kernel_rfl))
     obtain ⟨x,e1,e2,-,-⟩:=hA.fA hap
     refine ⟨?_⟩
     simp only [putAll,Act.put,List.setIfInBounds_toArray,List.set_cons_zero,List.set_cons_succ]
     rw [e0,e1]
     dsimp only [Aw.v]
     go_simp
     exact ⟨hA,f0,fE,ft,fm,fun _=>⟨hap,fun y a b=>by rw [← Aw.same (e1.symm.trans a) (e2.trans b.symm)];rfl⟩,g1,g2,fz⟩
    ·intro d u wv hF hd hp
     obtain ⟨hA,f0,fE,ft,fm,g0,g1,g2,fz⟩:=hF
     obtain ⟨hap,e0⟩:=fm (hp 5 (by kernel_rfl))
     obtain ⟨x,e1,e2,-,-⟩:=hA.fA hap
     refine ⟨?_⟩
     simp only [putAll,Act.put,List.setIfInBounds_toArray,List.set_cons_zero,List.set_cons_succ]
     rw [e0,e1]
     dsimp only [Aw.v]
     go_simp
     exact ⟨hA,f0,fE,ft,fm,g0,fun _=>⟨hap,fun y a b=>by rw [← Aw.same (e1.symm.trans a) (e2.trans b.symm)];rfl⟩,g2,fz⟩
    ·intro d u wv hF hd hp
     obtain ⟨hA,f0,fE,ft,fm,g0,g1,g2,fz⟩:=hF
     obtain ⟨hap,e0⟩:=fm (hp 5 (by kernel_rfl))
     obtain ⟨x,e1,e2,-,-⟩:=hA.fA hap
     refine ⟨?_⟩
     simp only [putAll,Act.put,List.setIfInBounds_toArray,List.set_cons_zero,List.set_cons_succ]
     rw [e0,e1]
     dsimp only [Aw.v]
     go_simp
     exact ⟨hA,f0,fE,ft,fm,g0,g1,fun _=>⟨hap,fun y a b=>by rw [← Aw.same (e1.symm.trans a) (e2.trans b.symm)];rfl⟩,fz⟩
    ·intro d u wv hF hd hp
     obtain ⟨hA,f0,fE,ft,fm,g0,g1,g2,fz⟩:=hF
     have hs:d 11=false:=by
      cases h:d 11 with
      | false=>rfl
      | true=>exact absurd ((hA.wP h).symm.trans hd) (by decide)
     refine ⟨?_⟩
     simp only [putAll,Act.put,List.setIfInBounds_toArray,List.set_cons_zero,List.set_cons_succ]
     go_simp
     exact ⟨hA.newP hs,f0,fE,ft,fm,g0,g1,g2,fz⟩
    ·intro d u wv hF hd hp
     obtain ⟨hA,f0,fE,ft,fm,g0,g1,g2,fz⟩:=hF
     have hs:d 12=false:=by
      cases h:d 12 with
      | false=>rfl
      | true=>exact absurd ((hA.wQ h).symm.trans hd) (by decide)
     refine ⟨?_⟩
     simp only [putAll,Act.put,List.setIfInBounds_toArray,List.set_cons_zero,List.set_cons_succ]
     go_simp
     exact ⟨hA.newQ hs,f0,fE,ft,fm,g0,g1,g2,fz⟩
    ·intro d u wv hF hd hp
     obtain ⟨hA,f0,fE,ft,fm,g0,g1,g2,fz⟩:=hF
     have hv:=hp 9 (by kernel_rfl)
     obtain ⟨hap,e0⟩:=g0 (hp 6 (by kernel_rfl))
     obtain ⟨x,e1,e2,-,-⟩:=hA.fA hap
     have e3:=e0 x e1 e2
     obtain ⟨V,e4,-,f,hf,-⟩:=hA.fP hv
     have c0:=hf.cell (i:=0) (by decide)
     have z0:=hf.frozen 0
     have c1:=hf.cell (i:=1) (by decide)
     have z1:=hf.frozen 1
     have c2:=hf.cell (i:=2) (by decide)
     have z2:=hf.frozen 2
     have c3:=hf.cell (i:=3) (by decide)
     have z3:=hf.frozen 3
     have c4:=hf.cell (i:=4) (by decide)
     have z4:=hf.frozen 4
     have c5:=hf.cell (i:=5) (by decide)
     have z5:=hf.frozen 5
     refine ⟨?_⟩
     simp only [putAll,Act.put,List.setIfInBounds_toArray,List.set_cons_zero,List.set_cons_succ]
     rw [e3,e4]
     dsimp only [ptrV,Bo.v]
     go_simp
     exact ⟨undef,hA.putP hap hv e1 e2 e4,f0,fE,ft,fm,g0,g1,g2,fz⟩
    ·intro d u wv hF hd hp
     obtain ⟨hA,f0,fE,ft,fm,g0,g1,g2,fz⟩:=hF
     have hv:=hp 10 (by kernel_rfl)
     obtain ⟨hap,e0⟩:=g1 (hp 7 (by kernel_rfl))
     obtain ⟨x,e1,e2,-,-⟩:=hA.fA hap
     have e3:=e0 x e1 e2
     obtain ⟨V,e4,-,f,hf,-⟩:=hA.fQ hv
     have c0:=hf.cell (i:=0) (by decide)
     have z0:=hf.frozen 0
     have c1:=hf.cell (i:=1) (by decide)
     have z1:=hf.frozen 1
     refine ⟨?_⟩
     simp only [putAll,Act.put,List.setIfInBounds_toArray,List.set_cons_zero,List.set_cons_succ]
     rw [e3,e4]
     dsimp only [ptrV,Bo.v]
     go_simp
     exact ⟨undef,hA.putQ hap hv e1 e2 e4,f0,fE,ft,fm,g0,g1,g2,fz⟩
    ·intro d u wv hF hd hp
     obtain ⟨hA,f0,fE,ft,fm,g0,g1,g2,fz⟩:=hF
     obtain ⟨hap,e0⟩:=g2 (hp 8 (by kernel_rfl))
     obtain ⟨x,e1,e2,-,-⟩:=hA.fA hap
     refine ⟨?_⟩
     simp only [putAll,Act.put,List.setIfInBounds_toArray,List.set_cons_zero,List.set_cons_succ]
     rw [e0 x e1 e2]
     go_simp
     exact ⟨hA,f0,fE,ft,fm,g0,g1,g2,fun _=>⟨hap,fun y a b=>by rw [← Aw.same (e1.symm.trans a) (e2.trans b.symm)];rfl⟩⟩
   ·intro d u w22 hF hall
    have d0:=hall 0 (by decide)
    have d1:=hall 1 (by decide)
    have d2:=hall 2 (by decide)
    have d3:=hall 3 (by decide)
    have d4:=hall 4 (by decide)
    have d5:=hall 5 (by decide)
    have d6:=hall 6 (by decide)
    have d7:=hall 7 (by decide)
    have d8:=hall 8 (by decide)
    have d9:=hall 9 (by decide)
    have d10:=hall 10 (by decide)
    have d11:=hall 11 (by decide)
    have d12:=hall 12 (by decide)
    have d13:=hall 13 (by decide)
    obtain ⟨hA,f0,fE,ft,fm,g0,g1,g2,fz⟩:=hF
    rw [d1,d4,d9,d10,d11,d12] at hA
    obtain ⟨x,V,V2,e1,e2,e3,hx,hk,ho,hn,hV,hV2,hr,hr2,n1,n2,n3⟩:=hA.fin
    have h0:=(g0 d6).2 x e1 hx
    have h1:=(g1 d7).2 x e1 hx
    have h2:=(g2 d8).2 x e1 hx
    have h3:=(fz d13).2 x e1 hx
    have h4:=(fm d5).2
    have h5:=fE d2
    have h6:=ft d3
    simp only [putAll,Act.put,List.setIfInBounds_toArray,List.set_cons_zero,List.set_cons_succ,h0,h1,h2,h3,h4,h5,h6,e1,e2,e3,f0 d0]
    clear hall d0 d1 d2 d3 d4 d5 d6 d7 d8 d9 d10 d11 d12 d13 hA f0 fE ft fm g0 g1 g2 fz h0 h1 h2 h3 h4 h5 h6 e1 e2 e3
    obtain ⟨hB,hi,ha,hc,hL,hd⟩:=x
    simp only [Aw.d,Ad.mk.injEq] at hx
    obtain ⟨hx1,hx2,hx3,hx4⟩:=hx
    have hx2:=hx2.symm
    have hx3:=hx3.symm
    have hx4:=hx4.symm
    subst hx2 hx3 hx4
    have HDh:=hide hx1
    clear hx1
    have hk0:Keeps w20 w22:=(Keeps.refl w20).drew.trans (by rw [← HWR.out];exact hk)
    have hs0:w.heap.size≤w21.heap.size:=by rw [HWR.out];exact HK.out.size
    have hob:Own w22 hB.segs:=Own.left ho
    have hop:Own w22 [(ha,flat oL)]:=Own.right ho
    have hap:∀ b∈fp hB.segs,b∉fp [(ha,flat oL)]:=Own.apart ho
    have hnb:∀ b∈fp hB.segs,w21.heap.size≤b:=fun b hb=>hn b (by show b∈fp (_++_);rw [fp_append];exact List.mem_append_left _ hb)
    have hnp:∀ b∈fp [(ha,flat oL)],w21.heap.size≤b:=fun b hb=>hn b (by show b∈fp (_++_);rw [fp_append];exact List.mem_append_right _ hb)
    have n1b:V∉fp hB.segs:=fun hb=>n1 (by show V∈fp (_++_);rw [fp_append];exact List.mem_append_left _ hb)
    have n1p:V∉fp [(ha,flat oL)]:=fun hb=>n1 (by show V∈fp (_++_);rw [fp_append];exact List.mem_append_right _ hb)
    have n2b:V2∉fp hB.segs:=fun hb=>n2 (by show V2∈fp (_++_);rw [fp_append];exact List.mem_append_left _ hb)
    have n2p:V2∉fp [(ha,flat oL)]:=fun hb=>n2 (by show V2∈fp (_++_);rw [fp_append];exact List.mem_append_right _ hb)
    have hoP:=own_bk hr
    have hoQ:=own_pg hr2
    dsimp only at hoP hoQ
    have hnP:=nvN hoP hV
    have hnQ:=nvN hoQ hV2
    have HDA_hb:=hide (ap_old HRA.out.mem hnb)
    have HDhb_A:=hide (ap_new HRA.out.mem hnb)
    have HDE_hb:=hide (ap_old HRE.out.mem hnb)
    have HDhb_E:=hide (ap_new HRE.out.mem hnb)
    have HDmb_hb:=hide (ap_old HRmb.out.mem hnb)
    have HDhb_mb:=hide (ap_new HRmb.out.mem hnb)
    have HDmp_hb:=hide (ap_old HRmp.out.mem hnb)
    have HDhb_mp:=hide (ap_new HRmp.out.mem hnb)
    have HDmP_hb:=hide (ap_old HRmP.out.mem hnb)
    have HDhb_mP:=hide (ap_new HRmP.out.mem hnb)
    have HDmQ_hb:=hide (ap_old HRmQ.out.mem hnb)
    have HDhb_mQ:=hide (ap_new HRmQ.out.mem hnb)
    have HDX_hb:=hide (ap_old HRX.out.mem hnb)
    have HDhb_X:=hide (ap_new HRX.out.mem hnb)
    have HDgb_hb:=hide (ap_old HRgb.out.mem hnb)
    have HDhb_gb:=hide (ap_new HRgb.out.mem hnb)
    have HDgp_hb:=hide (ap_old HRgp.out.mem hnb)
    have HDhb_gp:=hide (ap_new HRgp.out.mem hnb)
    have HDgP_hb:=hide (ap_old HRgP.out.mem hnb)
    have HDhb_gP:=hide (ap_new HRgP.out.mem hnb)
    have HDgQ_hb:=hide (ap_old HRgQ.out.mem hnb)
    have HDhb_gQ:=hide (ap_new HRgQ.out.mem hnb)
    have HNhb:=hide (nnN hs0 hnb)
    have HDA_hp:=hide (ap_old HRA.out.mem hnp)
    have HDhp_A:=hide (ap_new HRA.out.mem hnp)
    have HDE_hp:=hide (ap_old HRE.out.mem hnp)
    have HDhp_E:=hide (ap_new HRE.out.mem hnp)
    have HDmb_hp:=hide (ap_old HRmb.out.mem hnp)
    have HDhp_mb:=hide (ap_new HRmb.out.mem hnp)
    have HDmp_hp:=hide (ap_old HRmp.out.mem hnp)
    have HDhp_mp:=hide (ap_new HRmp.out.mem hnp)
    have HDmP_hp:=hide (ap_old HRmP.out.mem hnp)
    have HDhp_mP:=hide (ap_new HRmP.out.mem hnp)
    have HDmQ_hp:=hide (ap_old HRmQ.out.mem hnp)
    have HDhp_mQ:=hide (ap_new HRmQ.out.mem hnp)
    have HDX_hp:=hide (ap_old HRX.out.mem hnp)
    have HDhp_X:=hide (ap_new HRX.out.mem hnp)
    have HDgb_hp:=hide (ap_old HRgb.out.mem hnp)
    have HDhp_gb:=hide (ap_new HRgb.out.mem hnp)
    have HDgp_hp:=hide (ap_old HRgp.out.mem hnp)
    have HDhp_gp:=hide (ap_new HRgp.out.mem hnp)
    have HDgP_hp:=hide (ap_old HRgP.out.mem hnp)
    have HDhp_gP:=hide (ap_new HRgP.out.mem hnp)
    have HDgQ_hp:=hide (ap_old HRgQ.out.mem hnp)
    have HDhp_gQ:=hide (ap_new HRgQ.out.mem hnp)
    have HNhp:=hide (nnN hs0 hnp)
    have HDA_hP:=hide (ap_old HRA.out.mem hnP)
    have HDhP_A:=hide (ap_new HRA.out.mem hnP)
    have HDE_hP:=hide (ap_old HRE.out.mem hnP)
    have HDhP_E:=hide (ap_new HRE.out.mem hnP)
    have HDmb_hP:=hide (ap_old HRmb.out.mem hnP)
    have HDhP_mb:=hide (ap_new HRmb.out.mem hnP)
    have HDmp_hP:=hide (ap_old HRmp.out.mem hnP)
    have HDhP_mp:=hide (ap_new HRmp.out.mem hnP)
    have HDmP_hP:=hide (ap_old HRmP.out.mem hnP)
    have HDhP_mP:=hide (ap_new HRmP.out.mem hnP)
    have HDmQ_hP:=hide (ap_old HRmQ.out.mem hnP)
    have HDhP_mQ:=hide (ap_new HRmQ.out.mem hnP)
    have HDX_hP:=hide (ap_old HRX.out.mem hnP)
    have HDhP_X:=hide (ap_new HRX.out.mem hnP)
    have HDgb_hP:=hide (ap_old HRgb.out.mem hnP)
    have HDhP_gb:=hide (ap_new HRgb.out.mem hnP)
    have HDgp_hP:=hide (ap_old HRgp.out.mem hnP)
    have HDhP_gp:=hide (ap_new HRgp.out.mem hnP)
    have HDgP_hP:=hide (ap_old HRgP.out.mem hnP)
    have HDhP_gP:=hide (ap_new HRgP.out.mem hnP)
    have HDgQ_hP:=hide (ap_old HRgQ.out.mem hnP)
    have HDhP_gQ:=hide (ap_new HRgQ.out.mem hnP)
    have HNhP:=hide (nnN hs0 hnP)
    have HDA_hQ:=hide (ap_old HRA.out.mem hnQ)
    have HDhQ_A:=hide (ap_new HRA.out.mem hnQ)
    have HDE_hQ:=hide (ap_old HRE.out.mem hnQ)
    have HDhQ_E:=hide (ap_new HRE.out.mem hnQ)
    have HDmb_hQ:=hide (ap_old HRmb.out.mem hnQ)
    have HDhQ_mb:=hide (ap_new HRmb.out.mem hnQ)
    have HDmp_hQ:=hide (ap_old HRmp.out.mem hnQ)
    have HDhQ_mp:=hide (ap_new HRmp.out.mem hnQ)
    have HDmP_hQ:=hide (ap_old HRmP.out.mem hnQ)
    have HDhQ_mP:=hide (ap_new HRmP.out.mem hnQ)
    have HDmQ_hQ:=hide (ap_old HRmQ.out.mem hnQ)
    have HDhQ_mQ:=hide (ap_new HRmQ.out.mem hnQ)
    have HDX_hQ:=hide (ap_old HRX.out.mem hnQ)
    have HDhQ_X:=hide (ap_new HRX.out.mem hnQ)
    have HDgb_hQ:=hide (ap_old HRgb.out.mem hnQ)
    have HDhQ_gb:=hide (ap_new HRgb.out.mem hnQ)
    have HDgp_hQ:=hide (ap_old HRgp.out.mem hnQ)
    have HDhQ_gp:=hide (ap_new HRgp.out.mem hnQ)
    have HDgP_hQ:=hide (ap_old HRgP.out.mem hnQ)
    have HDhQ_gP:=hide (ap_new HRgP.out.mem hnQ)
    have HDgQ_hQ:=hide (ap_old HRgQ.out.mem hnQ)
    have HDhQ_gQ:=hide (ap_new HRgQ.out.mem hnQ)
    have HNhQ:=hide (nnN hs0 hnQ)
    have HDhb_hp:=hide (hap)
    have HDhp_hb:=hide (apsym HDhb_hp.out)
    have HDhb_hP:=hide (nvO hoP n1b)
    have HDhP_hb:=hide (apsym HDhb_hP.out)
    have HDhb_hQ:=hide (nvO hoQ n2b)
    have HDhQ_hb:=hide (apsym HDhb_hQ.out)
    have HDhp_hP:=hide (nvO hoP n1p)
    have HDhP_hp:=hide (apsym HDhp_hP.out)
    have HDhp_hQ:=hide (nvO hoQ n2p)
    have HDhQ_hp:=hide (apsym HDhp_hQ.out)
    have HDhP_hQ:=hide (nvP hoP hoQ n3)
    have HDhQ_hP:=hide (apsym HDhP_hQ.out)
    replace HK:=hide (HK.out.trans hk0)
    replace HOA:=hide (HOA.out.kept hk0)
    replace HOE:=hide (HOE.out.kept hk0)
    replace HOmb:=hide (HOmb.out.kept hk0)
    replace HOmp:=hide (HOmp.out.kept hk0)
    replace HOmP:=hide (HOmP.out.kept hk0)
    replace HOmQ:=hide (HOmQ.out.kept hk0)
    replace HOX:=hide (HOX.out.kept hk0)
    replace HOgb:=hide (HOgb.out.kept hk0)
    replace HOgp:=hide (HOgp.out.kept hk0)
    replace HOgP:=hide (HOgP.out.kept hk0)
    replace HOgQ:=hide (HOgQ.out.kept hk0)
    have HOhb:=hide hob
    have HOhp:=hide hop
    have HOhP:=hide hoP
    have HOhQ:=hide hoQ
    clear hk hk0 hs0 ho hn hV hV2 hr hr2 n1 n2 n3 hob hop hap hnb hnp hnP hnQ n1b n1p n2b n2p hoP hoQ HWR HRA HRE HRmb HRmp HRmP HRmQ HRX HRgb HRgp HRgP HRgQ
    generalize V=hV at *
    generalize V2=hW at *
    have chP0:=cell_at HOhP.out.mem 0 (by simp)
    have chP1:=cell_at HOhP.out.mem 1 (by simp)
    have chP2:=cell_at HOhP.out.mem 2 (by simp)
    have chP3:=cell_at HOhP.out.mem 3 (by simp)
    have chP4:=cell_at HOhP.out.mem 4 (by simp)
    have chP5:=cell_at HOhP.out.mem 5 (by simp)
    simp only [Nat.zero_add,List.getElem_cons_zero,List.getElem_cons_succ] at chP0 chP1 chP2 chP3 chP4 chP5
    have lhP:=lt_of_cell chP0
    have cmP0:=cell_at HOmP.out.mem 0 (by simp)
    have cmP1:=cell_at HOmP.out.mem 1 (by simp)
    have cmP2:=cell_at HOmP.out.mem 2 (by simp)
    have cmP3:=cell_at HOmP.out.mem 3 (by simp)
    have cmP4:=cell_at HOmP.out.mem 4 (by simp)
    have cmP5:=cell_at HOmP.out.mem 5 (by simp)
    simp only [Nat.zero_add,List.getElem_cons_zero,List.getElem_cons_succ] at cmP0 cmP1 cmP2 cmP3 cmP4 cmP5
    have lmP:=lt_of_cell cmP0
    go_wp2_with fail
    clear chP0 chP1 chP2 chP3 chP4 chP5 lhP cmP0 cmP1 cmP2 cmP3 cmP4 cmP5 lmP
    refine (eqBook_k hB mB w22 (HDh.out.trans HDm.out.symm) HOhb.out.mem HOmb.out.mem (unhide HLO _ HDh.out)).mono ?_
    rintro x w23 ⟨rfl,hk⟩
    replace HK:=hide (HK.out.trans hk)
    replace HOA:=hide (HOA.out.kept hk)
    replace HOE:=hide (HOE.out.kept hk)
    replace HOmb:=hide (HOmb.out.kept hk)
    replace HOmp:=hide (HOmp.out.kept hk)
    replace HOmP:=hide (HOmP.out.kept hk)
    replace HOmQ:=hide (HOmQ.out.kept hk)
    replace HOX:=hide (HOX.out.kept hk)
    replace HOgb:=hide (HOgb.out.kept hk)
    replace HOgp:=hide (HOgp.out.kept hk)
    replace HOgP:=hide (HOgP.out.kept hk)
    replace HOgQ:=hide (HOgQ.out.kept hk)
    replace HOhb:=hide (HOhb.out.kept hk)
    replace HOhp:=hide (HOhp.out.kept hk)
    replace HOhP:=hide (HOhP.out.kept hk)
    replace HOhQ:=hide (HOhQ.out.kept hk)
    clear hk
    have chQ0:=cell_at HOhQ.out.mem 0 (by simp)
    have chQ1:=cell_at HOhQ.out.mem 1 (by simp)
    simp only [Nat.zero_add,List.getElem_cons_zero,List.getElem_cons_succ] at chQ0 chQ1
    have lhQ:=lt_of_cell chQ0
    have cmQ0:=cell_at HOmQ.out.mem 0 (by simp)
    have cmQ1:=cell_at HOmQ.out.mem 1 (by simp)
    simp only [Nat.zero_add,List.getElem_cons_zero,List.getElem_cons_succ] at cmQ0 cmQ1
    have lmQ:=lt_of_cell cmQ0
    go_wp2_with fail
    clear chQ0 chQ1 lhQ cmQ0 cmQ1 lmQ
    refine (eqPosting_o oi ha ma hc mc oL w23 (HOhp.out.mem (ha,flat oL) (by simp)) (HOmp.out.mem (ma,flat oL) (by simp)) HLL.out).mono ?_
    rintro x w24 ⟨rfl,hk⟩
    replace HK:=hide (HK.out.trans hk)
    replace HOA:=hide (HOA.out.kept hk)
    replace HOE:=hide (HOE.out.kept hk)
    replace HOmb:=hide (HOmb.out.kept hk)
    replace HOmp:=hide (HOmp.out.kept hk)
    replace HOmP:=hide (HOmP.out.kept hk)
    replace HOmQ:=hide (HOmQ.out.kept hk)
    replace HOX:=hide (HOX.out.kept hk)
    replace HOgb:=hide (HOgb.out.kept hk)
    replace HOgp:=hide (HOgp.out.kept hk)
    replace HOgP:=hide (HOgP.out.kept hk)
    replace HOgQ:=hide (HOgQ.out.kept hk)
    replace HOhb:=hide (HOhb.out.kept hk)
    replace HOhp:=hide (HOhp.out.kept hk)
    replace HOhP:=hide (HOhP.out.kept hk)
    replace HOhQ:=hide (HOhQ.out.kept hk)
    clear hk
    have cgP0:=cell_at HOgP.out.mem 0 (by simp)
    have cgP1:=cell_at HOgP.out.mem 1 (by simp)
    have cgP2:=cell_at HOgP.out.mem 2 (by simp)
    have cgP3:=cell_at HOgP.out.mem 3 (by simp)
    have cgP4:=cell_at HOgP.out.mem 4 (by simp)
    have cgP5:=cell_at HOgP.out.mem 5 (by simp)
    simp only [Nat.zero_add,List.getElem_cons_zero,List.getElem_cons_succ] at cgP0 cgP1 cgP2 cgP3 cgP4 cgP5
    have lgP:=lt_of_cell cgP0
    go_wp2_with fail
    clear cgP0 cgP1 cgP2 cgP3 cgP4 cgP5 lgP
    refine (heldBook_k gB 1 w24 HOgb.out.mem (unhide HLO _ HDg.out) (by decide)).mono ?_
    rintro x w25 ⟨rfl,hk⟩
    replace HK:=hide (HK.out.trans hk)
    replace HOA:=hide (HOA.out.kept hk)
    replace HOE:=hide (HOE.out.kept hk)
    replace HOmb:=hide (HOmb.out.kept hk)
    replace HOmp:=hide (HOmp.out.kept hk)
    replace HOmP:=hide (HOmP.out.kept hk)
    replace HOmQ:=hide (HOmQ.out.kept hk)
    replace HOX:=hide (HOX.out.kept hk)
    replace HOgb:=hide (HOgb.out.kept hk)
    replace HOgp:=hide (HOgp.out.kept hk)
    replace HOgP:=hide (HOgP.out.kept hk)
    replace HOgQ:=hide (HOgQ.out.kept hk)
    replace HOhb:=hide (HOhb.out.kept hk)
    replace HOhp:=hide (HOhp.out.kept hk)
    replace HOhP:=hide (HOhP.out.kept hk)
    replace HOhQ:=hide (HOhQ.out.kept hk)
    clear hk
    rw [HMK.out]
    have cgQ0:=cell_at HOgQ.out.mem 0 (by simp)
    have cgQ1:=cell_at HOgQ.out.mem 1 (by simp)
    simp only [Nat.zero_add,List.getElem_cons_zero,List.getElem_cons_succ] at cgQ0 cgQ1
    have lgQ:=lt_of_cell cgQ0
    go_wp2_with fail
    clear cgQ0 cgQ1 lgQ
    refine (heldPosting_o oi ga gc oL.length ((mk:Nat):Int) w25 (HOgp.out.mem (ga,flat (mkL ((mk:Nat):Int) oL.length)) (by simp)) HLL.out (by omega) (by have:=HM9.out;omega)).mono ?_
    rintro x w26 ⟨rfl,hk⟩
    replace HK:=hide (HK.out.trans hk)
    replace HOA:=hide (HOA.out.kept hk)
    replace HOE:=hide (HOE.out.kept hk)
    replace HOmb:=hide (HOmb.out.kept hk)
    replace HOmp:=hide (HOmp.out.kept hk)
    replace HOmP:=hide (HOmP.out.kept hk)
    replace HOmQ:=hide (HOmQ.out.kept hk)
    replace HOX:=hide (HOX.out.kept hk)
    replace HOgb:=hide (HOgb.out.kept hk)
    replace HOgp:=hide (HOgp.out.kept hk)
    replace HOgP:=hide (HOgP.out.kept hk)
    replace HOgQ:=hide (HOgQ.out.kept hk)
    replace HOhb:=hide (HOhb.out.kept hk)
    replace HOhp:=hide (HOhp.out.kept hk)
    replace HOhP:=hide (HOhP.out.kept hk)
    replace HOhQ:=hide (HOhQ.out.kept hk)
    clear hk
    go_wp2_with fail
    go_ret
    exact ⟨rfl,HK.out⟩
end Go.Proofs.YtccdhcempnkgaaaGreatDoor.fnExactApply
