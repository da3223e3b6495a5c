/- Texts of the verifier, joined: Yg, Yl. -/
import Derived.Test.YtccdhcempnkgaaaGreatDoorPA34
import Derived.Test.YtccdhcempnkgaaaGreatDoorPA35
namespace Go.Proofs.YtccdhcempnkgaaaGreatDoor
open Go.RowKit Go.Deep
set_option linter.unusedVariables false
set_option linter.unusedSimpArgs false
set_option maxRecDepth 10000
def outB (c:Int) (K:Bk) (L:List Ln):Bk:=if c=0 then (if L=[] then K else ⟨K.tk,K.nx+1,K.wa,K.C,K.Hs,K.R⟩) else ⟨0,0,0,[],[],[]⟩
def appC (B:Bk) (k ky ch tt am fe:Int) (ys:Bool):Int:=if bookB B=false then 1 else applyC B k ky ch tt am fe ys
structure ApplyR (w w':World) (B:Bo) (a:Option Addr) (cap:Nat) (L:List Ln):Prop where
 keep:Keeps w w'
 oC:OwnsChan w' w.heap.size (.slice B.ca B.C.length B.cc) B.C
 oH:OwnsHtlc w' w.heap.size (.slice B.ha B.Hs.length B.hc) B.Hs
 oR:OwnsCircle w' w.heap.size (.slice B.ra B.R.length B.rc) B.R
 oL:OwnsLn w' w.heap.size (.slice a L.length cap) L
 dC:∀ g∈lb B.ca,g∉lb B.ha∧g∉lb B.ra
 dH:∀ g∈lb B.ha,g∉lb B.ra
 dL:∀ g∈lb a,g∉lb B.ca∧g∉lb B.ha∧g∉lb B.ra
theorem owns_base {w:World} {base base' n c:Nat} {a:Option Addr} {e:TypeId} {sz:Nat} {xs:List Value} (h:w.ownsRow base e sz (.slice a n c) n xs) (hb:∀ g∈lb a,base'≤g):w.ownsRow base' e sz (.slice a n c) n xs:=by
 refine ⟨h.1,?_⟩
 rcases h.2 with h' | ⟨g,cap,cur,e1,_,rest⟩
 ·exact .inl h'
 ·injection e1 with e2 e3 e4
  subst e2 e4
  exact .inr ⟨g,c,cur,rfl,hb g (by simp [lb]),rest⟩
theorem row6_turn (w:World) (b:Nat) (v0 v1 v2 v3 v4 v5:Value):Turn [b] w ((((((w.setCell ⟨b,0,none⟩ v0).setCell ⟨b,1,none⟩ v1).setCell ⟨b,2,none⟩ v2).setCell ⟨b,3,none⟩ v3).setCell ⟨b,4,none⟩ v4).setCell ⟨b,5,none⟩ v5):=(((((Turn.set (by simp) _).trans' (Turn.set (by simp) _)).trans' (Turn.set (by simp) _)).trans' (Turn.set (by simp) _)).trans' (Turn.set (by simp) _)).trans' (Turn.set (by simp) _)
theorem row6_all {w:World} {b:Nat} {t:TypeId} {u0 u1 u2 u3 u4 u5:Value} (h:w.rowIs b t 6 (row6 u0 u1 u2 u3 u4 u5)) (v0 v1 v2 v3 v4 v5:Value):((((((w.setCell ⟨b,0,none⟩ v0).setCell ⟨b,1,none⟩ v1).setCell ⟨b,2,none⟩ v2).setCell ⟨b,3,none⟩ v3).setCell ⟨b,4,none⟩ v4).setCell ⟨b,5,none⟩ v5).rowIs b t 6 (row6 v0 v1 v2 v3 v4 v5):=row6_5 (row6_4 (row6_3 (row6_2 (row6_1 (row6_0 h v0) v1) v2) v3) v4) v5
theorem no_own {w w':World} (hk:Keeps w w'):ApplyR w w' ⟨0,0,0,none,0,[],none,0,[],none,0,[]⟩ none 0 [] :=
 ⟨hk,World.ownsRow_nil _ _ _ _,World.ownsRow_nil _ _ _ _,World.ownsRow_nil _ _ _ _,World.ownsRow_nil _ _ _ _,fun g hg=>by simp [lb] at hg,fun g hg=>by simp [lb] at hg,fun g hg=>by simp [lb] at hg⟩
set_option maxHeartbeats 16000000 in
theorem apply_impl (tk nx wa:Int) (ca:Option Addr) (cc:Nat) (C:List Chn) (ha:Option Addr) (hc:Nat) (Hs:List Htl) (ra:Option Addr) (rc:Nat) (R:List Crc) (w:World) (hm:Mem w (Bo.segs ⟨tk,nx,wa,ca,cc,C,ha,hc,Hs,ra,rc,R⟩)) (hf:Bo.fit ⟨tk,nx,wa,ca,cc,C,ha,hc,Hs,ra,rc,R⟩) (hl:Bo.len ⟨tk,nx,wa,ca,cc,C,ha,hc,Hs,ra,rc,R⟩) (kd ky ch tt am fe:Int) (ys:Bool) (hFu:∀ x y z w',Keeps w w'→Calls Tryz.prog 170 #[.int .i64 x,.int .i64 y,.int .i64 z] w' fun e w''=>e=.returned (.tuple #[.int .i64 (feeV x y z true),.bool (feeB x y z true)])∧Keeps w' w'') (hAd:∀ x y w',Keeps w w'→Calls Tryz.prog 151 #[.int .i64 x,.int .i64 y] w' fun e w''=>e=.returned (.tuple #[.int .i64 (addV x y),.bool (addB x y)])∧Keeps w' w'') :
 Calls Tryz.prog 9 #[Bo.v ⟨tk,nx,wa,ca,cc,C,ha,hc,Hs,ra,rc,R⟩,evV kd ky ch tt am fe ys] w fun e w'=>∃ B' a cap,e=.returned (.tuple #[Bo.v B',.agg #[.int .i64 (pidV (appC ⟨tk,nx,wa,C,Hs,R⟩ kd ky ch tt am fe ys) (evK ⟨tk,nx,wa,C,Hs,R⟩ kd ky ch tt am fe ys) (evL ⟨tk,nx,wa,C,Hs,R⟩ kd ky ch tt am fe ys)),.slice a (linV (appC ⟨tk,nx,wa,C,Hs,R⟩ kd ky ch tt am fe ys) (evL ⟨tk,nx,wa,C,Hs,R⟩ kd ky ch tt am fe ys)).length cap],.int .i64 (appC ⟨tk,nx,wa,C,Hs,R⟩ kd ky ch tt am fe ys)])∧B'.d=outB (appC ⟨tk,nx,wa,C,Hs,R⟩ kd ky ch tt am fe ys) (evK ⟨tk,nx,wa,C,Hs,R⟩ kd ky ch tt am fe ys) (evL ⟨tk,nx,wa,C,Hs,R⟩ kd ky ch tt am fe ys)∧ApplyR w w' B' a cap (linV (appC ⟨tk,nx,wa,C,Hs,R⟩ kd ky ch tt am fe ys) (evL ⟨tk,nx,wa,C,Hs,R⟩ kd ky ch tt am fe ys)):=by
 have HOK:=hide (fun w' (hk:Keeps w w')=>bookok_impl ⟨tk,nx,wa,ca,cc,C,ha,hc,Hs,ra,rc,R⟩ w' (hm.kept hk) hl)
 have HCP:=hide (fun w' (hk:Keeps w w')=>copy_impl ⟨tk,nx,wa,ca,cc,C,ha,hc,Hs,ra,rc,R⟩ w' (hm.kept hk) hf hl)
 have HFu:=hide hFu
 have HAd:=hide hAd
 clear hm hf hl hFu hAd
 have HK:=hide (((((Keeps.refl w).alloc (.cells #[.int .i64 tk,.int .i64 nx,.int .i64 wa,.slice ca C.length cc,.slice ha Hs.length hc,.slice ra R.length rc] 34)).alloc (.cells #[.int .i64 kd,.int .i64 ky,.int .i64 ch,.int .i64 tt,.int .i64 am,.int .i64 fe,.bool ys] 41)).alloc (.cells #[.int .i64 0,.int .i64 0,.int .i64 0,.slice none 0 0,.slice none 0 0,.slice none 0 0] 34)).alloc (.cells #[.int .i64 0,.slice none 0 0] 37))
 have HRK:=hide ((((Keeps.refl _).alloc (.cells #[.int .i64 kd,.int .i64 ky,.int .i64 ch,.int .i64 tt,.int .i64 am,.int .i64 fe,.bool ys] 41)).alloc (.cells #[.int .i64 0,.int .i64 0,.int .i64 0,.slice none 0 0,.slice none 0 0,.slice none 0 0] 34)).alloc (.cells #[.int .i64 0,.slice none 0 0] 37) |>.rowK (row6_alloc w (.int .i64 tk) (.int .i64 nx) (.int .i64 wa) (.slice ca C.length cc) (.slice ha Hs.length hc) (.slice ra R.length rc) 34))
 have HRE:=hide (((Keeps.refl _).alloc (.cells #[.int .i64 0,.int .i64 0,.int .i64 0,.slice none 0 0,.slice none 0 0,.slice none 0 0] 34)).alloc (.cells #[.int .i64 0,.slice none 0 0] 37) |>.rowK (rw7_new (w.alloc (.cells #[.int .i64 tk,.int .i64 nx,.int .i64 wa,.slice ca C.length cc,.slice ha Hs.length hc,.slice ra R.length rc] 34)) (.int .i64 kd) (.int .i64 ky) (.int .i64 ch) (.int .i64 tt) (.int .i64 am) (.int .i64 fe) (.bool ys) 41))
 have HRB:=hide ((Keeps.refl _).alloc (.cells #[.int .i64 0,.slice none 0 0] 37) |>.rowK (row6_alloc ((w.alloc (.cells #[.int .i64 tk,.int .i64 nx,.int .i64 wa,.slice ca C.length cc,.slice ha Hs.length hc,.slice ra R.length rc] 34)).alloc (.cells #[.int .i64 kd,.int .i64 ky,.int .i64 ch,.int .i64 tt,.int .i64 am,.int .i64 fe,.bool ys] 41)) (.int .i64 0) (.int .i64 0) (.int .i64 0) (.slice none 0 0) (.slice none 0 0) (.slice none 0 0) 34))
 have HRP:=hide (rw2_new (((w.alloc (.cells #[.int .i64 tk,.int .i64 nx,.int .i64 wa,.slice ca C.length cc,.slice ha Hs.length hc,.slice ra R.length rc] 34)).alloc (.cells #[.int .i64 kd,.int .i64 ky,.int .i64 ch,.int .i64 tt,.int .i64 am,.int .i64 fe,.bool ys] 41)).alloc (.cells #[.int .i64 0,.int .i64 0,.int .i64 0,.slice none 0 0,.slice none 0 0,.slice none 0 0] 34)) (.int .i64 0) (.slice none 0 0) 37)
 simp only [size_alloc1] at HRE HRB HRP
 have HNE:Hid (w.heap.size+1+1≠w.heap.size+1+1+1):=by show _≠_;omega
 have HLE:Hid (w.heap.size≤w.heap.size+1+1∧w.heap.size≤w.heap.size+1+1+1):=⟨by omega,by omega⟩
 dsimp only [Bo.v,Bo.d] at *
 go_enter Tryz.func9,Tryz.ntmps9
 go_upto_region 1 with fail
 try simp only [size_alloc1]
 generalize (((w.alloc (.cells #[.int .i64 tk,.int .i64 nx,.int .i64 wa,.slice ca C.length cc,.slice ha Hs.length hc,.slice ra R.length rc] 34)).alloc (.cells #[.int .i64 kd,.int .i64 ky,.int .i64 ch,.int .i64 tt,.int .i64 am,.int .i64 fe,.bool ys] 41)).alloc (.cells #[.int .i64 0,.int .i64 0,.int .i64 0,.slice none 0 0,.slice none 0 0,.slice none 0 0] 34)).alloc (.cells #[.int .i64 0,.slice none 0 0] 37)=w0 at *
 generalize w.heap.size+1+1+1=rp at *
 generalize w.heap.size+1+1=rb at *
 generalize w.heap.size+1=pe at *
 obtain ⟨pb,hpb⟩:∃ pb,pb=w.heap.size:=⟨_,rfl⟩
 rw [← hpb] at HRK
 try rw [← hpb]
 clear hpb
 obtain ⟨b0,b1,b2,b3,b4,b5⟩:=row6_cells HRK.out
 go_wp2_with fail
 refine (unhide HOK _ HK.out).mono ?_
 rintro e w1 ⟨rfl,hk⟩
 clear b0 b1 b2 b3 b4 b5 HOK
 replace HK:=hide (HK.out.trans hk)
 replace HRK:=hide (hk.rowK HRK.out)
 replace HRE:=hide (hk.rowK HRE.out)
 replace HRB:=hide (hk.rowK HRB.out)
 replace HRP:=hide (hk.rowK HRP.out)
 clear hk
 cases hb:bookB ⟨tk,nx,wa,C,Hs,R⟩ with
 | false =>
   have HC:Hid ((appC ⟨tk,nx,wa,C,Hs,R⟩ kd ky ch tt am fe ys)=1):=by show _=_;unfold appC;rw [if_pos hb]
   clear hb HCP HFu HAd
   obtain ⟨r0,r1,r2,r3,r4,r5⟩:=row6_cells HRB.out
   have f0:=HRB.out.frozen 0
   have f1:=HRB.out.frozen 1
   have f2:=HRB.out.frozen 2
   have f3:=HRB.out.frozen 3
   have f4:=HRB.out.frozen 4
   have f5:=HRB.out.frozen 5
   obtain ⟨s0,s1⟩:=rw2_cells HRP.out
   have g0:=HRP.out.frozen 0
   have g1:=HRP.out.frozen 1
   have hne1:=HNE.out
   have hne2:=Ne.symm HNE.out
   go_wp2_with fail
   have HA1:=hide (row_turn (row6_all HRB.out (.int .i64 0) (.int .i64 0) (.int .i64 0) (.slice none 0 0) (.slice none 0 0) (.slice none 0 0)) (rw2_turn _ rp (.int .i64 0) (.slice none 0 0)) (by simpa using HNE.out))
   have HA2:=hide (rw2_set (row_turn HRP.out (row6_turn w1 rb (.int .i64 0) (.int .i64 0) (.int .i64 0) (.slice none 0 0) (.slice none 0 0) (.slice none 0 0)) (by simpa using Ne.symm HNE.out)) (.int .i64 0) (.slice none 0 0))
   have HKF:=hide ((rw2_turn ((((((w1.setCell ⟨rb,0,none⟩ (.int .i64 0)).setCell ⟨rb,1,none⟩ (.int .i64 0)).setCell ⟨rb,2,none⟩ (.int .i64 0)).setCell ⟨rb,3,none⟩ (.slice none 0 0)).setCell ⟨rb,4,none⟩ (.slice none 0 0)).setCell ⟨rb,5,none⟩ (.slice none 0 0)) rp (.int .i64 0) (.slice none 0 0)).keeps ((row6_turn w1 rb (.int .i64 0) (.int .i64 0) (.int .i64 0) (.slice none 0 0) (.slice none 0 0) (.slice none 0 0)).keeps HK.out (fun q hq=>by rw [List.mem_singleton.1 hq];exact HLE.out.1)) (fun q hq=>by rw [List.mem_singleton.1 hq];exact HLE.out.2))
   clear r0 r1 r2 r3 r4 r5 f0 f1 f2 f3 f4 f5 s0 s1 g0 g1 hne1 hne2
   obtain ⟨p0,p1,p2,p3,p4,p5⟩:=row6_cells HA1.out
   obtain ⟨q0,q1⟩:=rw2_cells HA2.out
   clear HA1 HA2
   generalize ((((((((w1.setCell ⟨rb,0,none⟩ (.int .i64 0)).setCell ⟨rb,1,none⟩ (.int .i64 0)).setCell ⟨rb,2,none⟩ (.int .i64 0)).setCell ⟨rb,3,none⟩ (.slice none 0 0)).setCell ⟨rb,4,none⟩ (.slice none 0 0)).setCell ⟨rb,5,none⟩ (.slice none 0 0)).setCell ⟨rp,0,none⟩ (.int .i64 0)).setCell ⟨rp,1,none⟩ (.slice none 0 0))=wf at *
   refine bodyPost_ret (v:=.tuple #[.agg #[.int .i64 0,.int .i64 0,.int .i64 0,.slice none 0 0,.slice none 0 0,.slice none 0 0],.agg #[.int .i64 0,.slice none 0 0],.int .i64 1]) ?_ rfl ?_
   ·simp [results,Tryz.results9,go_sem,p0,p1,p2,p3,p4,p5,q0,q1]
   ·refine ⟨⟨0,0,0,none,0,[],none,0,[],none,0,[]⟩,none,0,?_,?_,?_⟩
    ·rw [HC.out];rfl
    ·rw [HC.out];rfl
    ·rw [HC.out];exact no_own HKF.out
 | true =>
   have HC:Hid ((appC ⟨tk,nx,wa,C,Hs,R⟩ kd ky ch tt am fe ys)=applyC ⟨tk,nx,wa,C,Hs,R⟩ kd ky ch tt am fe ys):=by show _=_;unfold appC;rw [hb,if_neg (by decide)]
   have HBB:=hide hb
   clear hb
   obtain ⟨b0,b1,b2,b3,b4,b5⟩:=row6_cells HRK.out
   go_wp2_with fail
   refine (unhide HCP _ HK.out).mono ?_
   rintro e w2 ⟨B1,rfl,hd1,hc1⟩
   clear b0 b1 b2 b3 b4 b5 HCP HRK
   obtain ⟨tk1,nx1,wa1,ca1,cc1,C1,ha1,hcc1,Hs1,ra1,rc1,R1⟩:=B1
   have hd2:=hd1.symm
   simp only [Bo.d,Bk.mk.injEq] at hd2
   obtain ⟨rfl,rfl,rfl,rfl,rfl,rfl⟩:=hd2
   clear hd1
   have HB3:Hid (BoAt ⟨[],w1⟩ (w2.alloc (.cells #[.int .i64 tk,.int .i64 nx,.int .i64 wa,.slice ca1 C.length cc1,.slice ha1 Hs.length hcc1,.slice ra1 R.length rc1] 34)) w2.heap.size ⟨tk,nx,wa,ca1,cc1,C,ha1,hcc1,Hs,ra1,rc1,R⟩):=by
    have lC:=owns_lb hc1.oC
    have lH:=owns_lb hc1.oH
    have lR:=owns_lb hc1.oR
    exact ⟨Turn.of_keeps (Keeps.alloc hc1.keep _) [],.inr hc1.keep.size,row6_alloc w2 (.int .i64 tk) (.int .i64 nx) (.int .i64 wa) (.slice ca1 C.length cc1) (.slice ha1 Hs.length hcc1) (.slice ra1 R.length rc1) 34,(owns_older hc1.oC (Nat.zero_le _)).alloc _,(owns_older hc1.oH (Nat.zero_le _)).alloc _,(owns_older hc1.oR (Nat.zero_le _)).alloc _,fun g hg=>.inr (lC g hg).1,fun g hg=>.inr (lH g hg).1,fun g hg=>.inr (lR g hg).1,⟨fun hx=>by have:=(lC _ hx).2;omega,fun hx=>by have:=(lH _ hx).2;omega,fun hx=>by have:=(lR _ hx).2;omega⟩,hc1.dC,hc1.dH⟩
   have HZ3:Hid (w1.heap.size≤(w2.alloc (.cells #[.int .i64 tk,.int .i64 nx,.int .i64 wa,.slice ca1 C.length cc1,.slice ha1 Hs.length hcc1,.slice ra1 R.length rc1] 34)).heap.size):=(Keeps.alloc hc1.keep _).size
   have HKc:=hide (Keeps.alloc hc1.keep (.cells #[.int .i64 tk,.int .i64 nx,.int .i64 wa,.slice ca1 C.length cc1,.slice ha1 Hs.length hcc1,.slice ra1 R.length rc1] 34))
   clear hc1
   dsimp only [Bo.v]
   go_upto_region 4 with fail
   replace HRE:=hide (HKc.out.rowK HRE.out)
   generalize w2.alloc (.cells #[.int .i64 tk,.int .i64 nx,.int .i64 wa,.slice ca1 C.length cc1,.slice ha1 Hs.length hcc1,.slice ra1 R.length rc1] 34)=w3 at *
   generalize w2.heap.size=pw at *
   have HK3:=hide (HK.out.trans HKc.out)
   have HPF:=hide (perform_all ⟨[],w1⟩ w3 pw tk nx wa ca1 cc1 C ha1 hcc1 Hs ra1 rc1 R HB3.out HBB.out kd ky ch tt am fe ys (fun x y z w' hk=>HFu.out x y z w' (HK3.out.trans hk)) (fun x y w' hk=>HAd.out x y w' (HK3.out.trans hk)))
   obtain ⟨c,hc⟩:∃ c,c=applyC ⟨tk,nx,wa,C,Hs,R⟩ kd ky ch tt am fe ys:=⟨_,rfl⟩
   obtain ⟨K,hK⟩:∃ K,K=evK ⟨tk,nx,wa,C,Hs,R⟩ kd ky ch tt am fe ys:=⟨_,rfl⟩
   obtain ⟨L,hL⟩:∃ L,L=evL ⟨tk,nx,wa,C,Hs,R⟩ kd ky ch tt am fe ys:=⟨_,rfl⟩
   rw [← hc,← hK,← hL] at HPF
   rw [← hc] at HC
   replace hK:=hide hK
   replace hL:=hide hL
   clear hc HFu HAd HBB HB3 HKc
   obtain ⟨e0,e1,e2,e3,e4,e5,e6⟩:=rw7_cells HRE.out
   go_wp2_with fail
   refine (unhide HPF).mono ?_
   rintro e w4 ⟨B2,v,rfl,hB2,hd2,ho2,hap2,ht2⟩
   obtain ⟨a,cap,rfl,-⟩:=Own.of_owns ho2
   clear e0 e1 e2 e3 e4 e5 e6 HRE HPF
   have HK4:=hide (hB2.keep.keeps (Keeps.refl w1) (fun q hq=>nomatch hq))
   have HLT:Hid (rb < w1.heap.size∧rp < w1.heap.size):=⟨HRB.out.lt,HRP.out.lt⟩
   have HHP:Hid (w1.heap.size≤pw):=by
    rcases hB2.hp with h | h
    ·exact absurd h (by simp)
    ·exact h
   have HRV:=hide (rw2_new w4 (.int .i64 (pidV c K L)) (.slice a (linV c L).length cap) 37)
   have HKV:=hide (Keeps.alloc (Keeps.refl w4) (.cells #[.int .i64 (pidV c K L),.slice a (linV c L).length cap] 37))
   have HB:=hide (hB2.kept HKV.out)
   have HO:=hide (owns_kept ho2 HKV.out)
   have HVL:Hid (w1.heap.size≤w4.heap.size):=HK4.out.size
   replace HRB:=hide (HKV.out.rowK (HK4.out.rowK HRB.out))
   replace HRP:=hide (HKV.out.rowK (HK4.out.rowK HRP.out))
   have HW1:Hid (w.heap.size≤w1.heap.size):=HK.out.size
   replace HK:=hide (HK.out.trans (HK4.out.trans HKV.out))
   have HOL:Hid (∀ g∈lb a,w.heap.size≤g∧w1.heap.size≤g):=fun g hg=>by
    have h1:=(owns_lb ho2 g hg).1
    have h2:=HK3.out.size
    have h3:=HZ3.out
    omega
   have HAP:Hid (∀ g∈lb a,Apart g pw B2):=fun g hg=>hap2 g (by
    cases a with
    | none=>simp [lb] at hg
    | some x=>simp only [lb,List.mem_singleton] at hg;subst hg;rfl)
   have HD:=hide hd2
   clear hB2 hd2 ho2 hap2 ht2 HK3 HK4 HKV HZ3
   go_upto_region 5 with fail
   generalize w4.alloc (.cells #[.int .i64 (pidV c K L),.slice a (linV c L).length cap] 37)=w5 at *
   generalize w4.heap.size=pv at *
   by_cases hc0:c=0
   ·subst hc0
    obtain ⟨tk2,nx2,wa2,ca2,cc2,C2,ha2,hcc2,H2,ra2,rc2,R2⟩:=B2
    have HRW:Hid (w5.rowIs pw 34 6 (row6 (.int .i64 tk2) (.int .i64 nx2) (.int .i64 wa2) (.slice ca2 C2.length cc2) (.slice ha2 H2.length hcc2) (.slice ra2 R2.length rc2))):=HB.out.row
    obtain ⟨b0,b1,b2,b3,b4,b5⟩:=row6_cells HRW.out
    obtain ⟨v0,v1⟩:=rw2_cells HRV.out
    obtain ⟨r0,r1,r2,r3,r4,r5⟩:=row6_cells HRB.out
    have f0:=HRB.out.frozen 0
    have f1:=HRB.out.frozen 1
    have f2:=HRB.out.frozen 2
    have f3:=HRB.out.frozen 3
    have f4:=HRB.out.frozen 4
    have f5:=HRB.out.frozen 5
    obtain ⟨s0,s1⟩:=rw2_cells HRP.out
    have g0:=HRP.out.frozen 0
    have g1:=HRP.out.frozen 1
    have hne1:=HNE.out
    have hne2:=Ne.symm HNE.out
    have hv1:pv≠rb:=by have:=HLT.out;have:=HVL.out;omega
    have hv2:pv≠rp:=by have:=HLT.out;have:=HVL.out;omega
    have hw1:pw≠rb:=by have:=HLT.out;have:=HHP.out;omega
    have hw2:pw≠rp:=by have:=HLT.out;have:=HHP.out;omega
    go_upto_region 7 with fail
    go_region
    have T1:=row6_turn w5 rb (.int .i64 tk2) (.int .i64 nx2) (.int .i64 wa2) (.slice ca2 C2.length cc2) (.slice ha2 H2.length hcc2) (.slice ra2 R2.length rc2)
    have T2:=rw2_turn ((((((w5.setCell ⟨rb,0,none⟩ (.int .i64 tk2)).setCell ⟨rb,1,none⟩ (.int .i64 nx2)).setCell ⟨rb,2,none⟩ (.int .i64 wa2)).setCell ⟨rb,3,none⟩ (.slice ca2 C2.length cc2)).setCell ⟨rb,4,none⟩ (.slice ha2 H2.length hcc2)).setCell ⟨rb,5,none⟩ (.slice ra2 R2.length rc2)) rp (.int .i64 (pidV 0 K L)) (.slice a (linV 0 L).length cap)
    have HA1:=hide (row_turn (row6_all HRB.out (.int .i64 tk2) (.int .i64 nx2) (.int .i64 wa2) (.slice ca2 C2.length cc2) (.slice ha2 H2.length hcc2) (.slice ra2 R2.length rc2)) T2 (by simpa using HNE.out)).drew
    have HA2:=hide (rw2_set (row_turn HRP.out T1 (by simpa using Ne.symm HNE.out)) (.int .i64 (pidV 0 K L)) (.slice a (linV 0 L).length cap)).drew
    have HKF:=hide (T2.keeps (T1.keeps HK.out (fun q hq=>by rw [List.mem_singleton.1 hq];exact HLE.out.1)) (fun q hq=>by rw [List.mem_singleton.1 hq];exact HLE.out.2)).drew
    have HNN:∀ g,w1.heap.size≤g→w.heap.size≤g∧g∉[rb]∧g∉[rp]:=fun g hg=>by
     have h1:=HLT.out
     have h2:=HW1.out
     refine ⟨by omega,?_,?_⟩ <;> simp only [List.mem_singleton] <;> omega
    have HGO:∀ {fs:List Nat} {g:Nat},(⟨[],w1⟩:Wf).ok g→w1.heap.size≤g:=fun {fs g} h=>by
     rcases h with h | h
     ·exact absurd h (by simp)
     ·exact h
    have HFC:=hide (owns_kept (owns_base (owns_turn (owns_turn HB.out.oC T1 fun g hg=>(HNN g (HGO (fs:=[]) (HB.out.bC g hg))).2.1) T2 fun g hg=>(HNN g (HGO (fs:=[]) (HB.out.bC g hg))).2.2) fun g hg=>(HNN g (HGO (fs:=[]) (HB.out.bC g hg))).1) (Keeps.refl _).drew)
    have HFH:=hide (owns_kept (owns_base (owns_turn (owns_turn HB.out.oH T1 fun g hg=>(HNN g (HGO (fs:=[]) (HB.out.bH g hg))).2.1) T2 fun g hg=>(HNN g (HGO (fs:=[]) (HB.out.bH g hg))).2.2) fun g hg=>(HNN g (HGO (fs:=[]) (HB.out.bH g hg))).1) (Keeps.refl _).drew)
    have HFR:=hide (owns_kept (owns_base (owns_turn (owns_turn HB.out.oR T1 fun g hg=>(HNN g (HGO (fs:=[]) (HB.out.bR g hg))).2.1) T2 fun g hg=>(HNN g (HGO (fs:=[]) (HB.out.bR g hg))).2.2) fun g hg=>(HNN g (HGO (fs:=[]) (HB.out.bR g hg))).1) (Keeps.refl _).drew)
    have HFL:=hide (owns_kept (owns_base (owns_turn (owns_turn HO.out T1 fun g hg=>(HNN g (HOL.out g hg).2).2.1) T2 fun g hg=>(HNN g (HOL.out g hg).2).2.2) fun g hg=>(HOL.out g hg).1) (Keeps.refl _).drew)
    clear T1 T2 HNN HGO b0 b1 b2 b3 b4 b5 v0 v1 hv1 hv2 hw1 hw2
    clear r0 r1 r2 r3 r4 r5 f0 f1 f2 f3 f4 f5 s0 s1 g0 g1 hne1 hne2
    generalize (((((((((w5.setCell ⟨rb,0,none⟩ (.int .i64 tk2)).setCell ⟨rb,1,none⟩ (.int .i64 nx2)).setCell ⟨rb,2,none⟩ (.int .i64 wa2)).setCell ⟨rb,3,none⟩ (.slice ca2 C2.length cc2)).setCell ⟨rb,4,none⟩ (.slice ha2 H2.length hcc2)).setCell ⟨rb,5,none⟩ (.slice ra2 R2.length rc2)).setCell ⟨rp,0,none⟩ (.int .i64 (pidV 0 K L))).setCell ⟨rp,1,none⟩ (.slice a (linV 0 L).length cap))).drew=wf at *
    obtain ⟨p0,p1,p2,p3,p4,p5⟩:=row6_cells HA1.out
    obtain ⟨q0,q1⟩:=rw2_cells HA2.out
    clear HA1 HA2
    go_wp2_with fail
    refine bodyPost_ret (v:=.tuple #[.agg #[.int .i64 tk2,.int .i64 nx2,.int .i64 wa2,.slice ca2 C2.length cc2,.slice ha2 H2.length hcc2,.slice ra2 R2.length rc2],.agg #[.int .i64 (pidV 0 K L),.slice a (linV 0 L).length cap],.int .i64 0]) ?_ rfl ?_
    ·simp [results,Tryz.results9,go_sem,p0,p1,p2,p3,p4,p5,q0,q1]
    ·refine ⟨⟨tk2,nx2,wa2,ca2,cc2,C2,ha2,hcc2,H2,ra2,rc2,R2⟩,a,cap,?_,?_,?_⟩
     ·rw [HC.out,← hK.out,← hL.out]
     ·rw [HC.out,← hK.out,← hL.out]
      have h:=HD.out
      simp only [bookV,if_pos] at h
      simp only [outB,if_pos]
      exact h
     ·rw [HC.out,← hL.out]
      exact ⟨HKF.out,HFC.out,HFH.out,HFR.out,HFL.out,HB.out.dC,HB.out.dH,fun g hg=>(HAP.out g hg).2⟩
   ·have HC0:=hide hc0
    obtain ⟨r0,r1,r2,r3,r4,r5⟩:=row6_cells HRB.out
    have f0:=HRB.out.frozen 0
    have f1:=HRB.out.frozen 1
    have f2:=HRB.out.frozen 2
    have f3:=HRB.out.frozen 3
    have f4:=HRB.out.frozen 4
    have f5:=HRB.out.frozen 5
    obtain ⟨s0,s1⟩:=rw2_cells HRP.out
    have g0:=HRP.out.frozen 0
    have g1:=HRP.out.frozen 1
    have hne1:=HNE.out
    have hne2:=Ne.symm HNE.out
    go_wp2_with fail
    have HA1:=hide (row_turn (row6_all HRB.out (.int .i64 0) (.int .i64 0) (.int .i64 0) (.slice none 0 0) (.slice none 0 0) (.slice none 0 0)) (rw2_turn _ rp (.int .i64 0) (.slice none 0 0)) (by simpa using HNE.out))
    have HA2:=hide (rw2_set (row_turn HRP.out (row6_turn w5 rb (.int .i64 0) (.int .i64 0) (.int .i64 0) (.slice none 0 0) (.slice none 0 0) (.slice none 0 0)) (by simpa using Ne.symm HNE.out)) (.int .i64 0) (.slice none 0 0))
    have HKF:=hide ((rw2_turn ((((((w5.setCell ⟨rb,0,none⟩ (.int .i64 0)).setCell ⟨rb,1,none⟩ (.int .i64 0)).setCell ⟨rb,2,none⟩ (.int .i64 0)).setCell ⟨rb,3,none⟩ (.slice none 0 0)).setCell ⟨rb,4,none⟩ (.slice none 0 0)).setCell ⟨rb,5,none⟩ (.slice none 0 0)) rp (.int .i64 0) (.slice none 0 0)).keeps ((row6_turn w5 rb (.int .i64 0) (.int .i64 0) (.int .i64 0) (.slice none 0 0) (.slice none 0 0) (.slice none 0 0)).keeps HK.out (fun q hq=>by rw [List.mem_singleton.1 hq];exact HLE.out.1)) (fun q hq=>by rw [List.mem_singleton.1 hq];exact HLE.out.2))
    clear r0 r1 r2 r3 r4 r5 f0 f1 f2 f3 f4 f5 s0 s1 g0 g1 hne1 hne2
    obtain ⟨p0,p1,p2,p3,p4,p5⟩:=row6_cells HA1.out
    obtain ⟨q0,q1⟩:=rw2_cells HA2.out
    clear HA1 HA2
    generalize ((((((((w5.setCell ⟨rb,0,none⟩ (.int .i64 0)).setCell ⟨rb,1,none⟩ (.int .i64 0)).setCell ⟨rb,2,none⟩ (.int .i64 0)).setCell ⟨rb,3,none⟩ (.slice none 0 0)).setCell ⟨rb,4,none⟩ (.slice none 0 0)).setCell ⟨rb,5,none⟩ (.slice none 0 0)).setCell ⟨rp,0,none⟩ (.int .i64 0)).setCell ⟨rp,1,none⟩ (.slice none 0 0))=wf at *
    refine bodyPost_ret (v:=.tuple #[.agg #[.int .i64 0,.int .i64 0,.int .i64 0,.slice none 0 0,.slice none 0 0,.slice none 0 0],.agg #[.int .i64 0,.slice none 0 0],.int .i64 c]) ?_ rfl ?_
    ·simp [results,Tryz.results9,go_sem,p0,p1,p2,p3,p4,p5,q0,q1]
    ·refine ⟨⟨0,0,0,none,0,[],none,0,[],none,0,[]⟩,none,0,?_,?_,?_⟩
     ·rw [HC.out,← hK.out,← hL.out];simp [pidV,linV,HC0.out,Bo.v]
     ·rw [HC.out,← hK.out,← hL.out];simp [outB,HC0.out,Bo.d]
     ·rw [HC.out,← hL.out];simp only [linV,if_neg HC0.out];exact no_own HKF.out
end Go.Proofs.YtccdhcempnkgaaaGreatDoor
namespace Go.Proofs.YtccdhcempnkgaaaGreatDoor
open Go.RowKit Go.Deep
set_option linter.unusedVariables false
set_option linter.unusedSimpArgs false
set_option maxRecDepth 10000
theorem past_max {B:Bk} {k ch am fe:Int} (h:B.nx=1125899906842624):pastB B k ch am fe=true:=by unfold pastB;rw [if_pos h]
theorem app_no {B:Bk} {k ky ch tt am fe:Int} {ys:Bool} (h:evB k ky ch tt am fe ys=false):applyC B k ky ch tt am fe ys=1:=by unfold applyC;rw [if_pos h]
theorem app_max {B:Bk} {k ky ch tt am fe:Int} {ys:Bool} (h:evB k ky ch tt am fe ys=true) (hn:B.nx=1125899906842624):applyC B k ky ch tt am fe ys=2:=by
 unfold applyC;rw [if_neg (by rw [h];decide),if_pos (past_max hn)]
theorem app_go {B:Bk} {k ky ch tt am fe:Int} {ys:Bool} (h:evB k ky ch tt am fe ys=true) (hp:pastB B k ch am fe=false):applyC B k ky ch tt am fe ys=evC B k ky ch tt am fe ys:=by
 unfold applyC;rw [if_neg (by rw [h];decide),if_neg (by rw [hp];decide)]
theorem app_past {B:Bk} {k ky ch tt am fe:Int} {ys:Bool} (h:evB k ky ch tt am fe ys=true) (hp:pastB B k ch am fe=true):applyC B k ky ch tt am fe ys=2:=by
 unfold applyC;rw [if_neg (by rw [h];decide),if_pos hp]
theorem amtB_over {n:Int} (h:1125899906842624 < n):amtB n=false:=by
 simp only [amtB,Bool.and_eq_false_iff,decide_eq_false_iff_not];right;omega
theorem app1_no {B:Bk} {ky ch tt am fe:Int} {ys:Bool} (h:evB 1 ky ch tt am fe ys=true) (hn:B.nx≠1125899906842624) (hw:0≤B.wa∧B.wa≤1125899906842624) (ha:addB B.wa am=false):applyC B 1 ky ch tt am fe ys=2:=by
 have h1:=(evB_am h).1
 refine app_past h ?_
 unfold pastB
 rw [if_neg hn,if_pos rfl,decide_eq_true_eq]
 rcases Int.lt_or_le 1125899906842624 (B.wa+am) with q | q
 ·exact q
 ·exfalso
  have:addB B.wa am=true:=by
   simp only [addB,Bool.and_eq_true]
   exact ⟨⟨amtB_yes hw.1 hw.2,amtB_yes h1.1 h1.2⟩,amtB_yes (by omega) q⟩
  rw [this] at ha
  cases ha
theorem app1_yes {B:Bk} {ky ch tt am fe:Int} {ys:Bool} (h:evB 1 ky ch tt am fe ys=true) (hn:B.nx≠1125899906842624) (ha:addB B.wa am=true):applyC B 1 ky ch tt am fe ys=0:=by
 have h2:pastB B 1 ch am fe=false:=by
  unfold pastB
  rw [if_neg hn,if_pos rfl,decide_eq_false_iff_not]
  simp only [addB,Bool.and_eq_true] at ha
  have:=amtB_true ha.2
  omega
 rw [app_go h h2]
 rfl
theorem app2 {B:Bk} {ky ch tt am fe:Int} {ys:Bool} (h:evB 2 ky ch tt am fe ys=true) (hn:B.nx≠1125899906842624):applyC B 2 ky ch tt am fe ys=openC B ch am fe:=by
 cases hp:pastB B 2 ch am fe with
 | true =>
   rw [app_past h hp]
   unfold pastB at hp
   rw [if_neg hn,if_neg (by decide),if_pos rfl,decide_eq_true_eq] at hp
   have:addB am fe=false:=by unfold addB;rw [amtB_over hp,Bool.and_false]
   unfold openC
   rw [if_pos this]
 | false=>rw [app_go h hp];rfl
theorem app3_past {B:Bk} {ky ch tt am fe:Int} {ys:Bool} (h:evB 3 ky ch tt am fe ys=true) (hn:B.nx≠1125899906842624) (ha:atC B.C ch≠none) (hp:1125899906842624 < B.wa+loC B.C ch-fe):applyC B 3 ky ch tt am fe ys=2:=by
 refine app_past h ?_
 unfold pastB
 rw [if_neg hn,if_neg (by decide),if_neg (by decide),if_pos rfl]
 simp only [Bool.and_eq_true,decide_eq_true_eq]
 refine ⟨?_,hp⟩
 cases q:atC B.C ch with
 | none=>exact absurd q ha
 | some _=>rfl
theorem app3 {B:Bk} {ky ch tt am fe:Int} {ys:Bool} (h:evB 3 ky ch tt am fe ys=true) (hn:B.nx≠1125899906842624) (hp:atC B.C ch=none∨B.wa+loC B.C ch-fe≤1125899906842624):applyC B 3 ky ch tt am fe ys=closeC B ch fe:=by
 have h2:pastB B 3 ch am fe=false:=by
  unfold pastB
  rw [if_neg hn,if_neg (by decide),if_neg (by decide),if_pos rfl]
  rw [Bool.and_eq_false_iff]
  rcases hp with hp | hp
  ·left;rw [hp];rfl
  ·right;rw [decide_eq_false_iff_not];omega
 rw [app_go h h2];rfl
theorem app4 {B:Bk} {ky ch tt am fe:Int} {ys:Bool} (h:evB 4 ky ch tt am fe ys=true) (hn:B.nx≠1125899906842624):applyC B 4 ky ch tt am fe ys=priceK B ch:=by
 rw [app_go h (by unfold pastB;rw [if_neg hn];rfl)];rfl
theorem app5 {B:Bk} {ky ch tt am fe:Int} {ys:Bool} (h:evB 5 ky ch tt am fe ys=true) (hn:B.nx≠1125899906842624):applyC B 5 ky ch tt am fe ys=admitC B ky ch tt am ys:=by
 rw [app_go h (by unfold pastB;rw [if_neg hn];rfl)];rfl
theorem app6 {B:Bk} {ky ch tt am fe:Int} {ys:Bool} (h:evB 6 ky ch tt am fe ys=true) (hn:B.nx≠1125899906842624):applyC B 6 ky ch tt am fe ys=settleC B ky:=by
 rw [app_go h (by unfold pastB;rw [if_neg hn];rfl)];rfl
theorem app7 {B:Bk} {ky ch tt am fe:Int} {ys:Bool} (h:evB 7 ky ch tt am fe ys=true) (hn:B.nx≠1125899906842624):applyC B 7 ky ch tt am fe ys=settleC B ky:=by
 rw [app_go h (by unfold pastB;rw [if_neg hn];rfl)];rfl
theorem app8 {B:Bk} {ky ch tt am fe:Int} {ys:Bool} (h:evB 8 ky ch tt am fe ys=true) (hn:B.nx≠1125899906842624):applyC B 8 ky ch tt am fe ys=tickC B:=by
 cases hp:pastB B 8 ch am fe with
 | true =>
   rw [app_past h hp]
   unfold pastB at hp
   rw [if_neg hn,if_neg (by decide),if_neg (by decide),if_neg (by decide),if_pos rfl] at hp
   unfold tickC
   rw [if_pos (by simpa using hp)]
 | false=>rw [app_go h hp];rfl
theorem app9 {B:Bk} {ky ch tt am fe:Int} {ys:Bool} (h:evB 9 ky ch tt am fe ys=true) (hn:B.nx≠1125899906842624):applyC B 9 ky ch tt am fe ys=launchC B ky ch tt am fe:=by
 rw [app_go h (by unfold pastB;rw [if_neg hn];rfl)];rfl
theorem app10 {B:Bk} {ky ch tt am fe:Int} {ys:Bool} (h:evB 10 ky ch tt am fe ys=true) (hn:B.nx≠1125899906842624):applyC B 10 ky ch tt am fe ys=landC B ky:=by
 rw [app_go h (by unfold pastB;rw [if_neg hn];rfl)];rfl
theorem app11 {B:Bk} {ky ch tt am fe:Int} {ys:Bool} (h:evB 11 ky ch tt am fe ys=true) (hn:B.nx≠1125899906842624):applyC B 11 ky ch tt am fe ys=landC B ky:=by
 rw [app_go h (by unfold pastB;rw [if_neg hn];rfl)];rfl
end Go.Proofs.YtccdhcempnkgaaaGreatDoor
