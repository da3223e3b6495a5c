/- The model's ApplyAll. -/
import Derived.Test.YtccdhcempnkgaaaGreatDoorPL38
import Derived.Test.YtccdhcempnkgaaaGreatDoorPL44
namespace Go.Proofs.YtccdhcempnkgaaaGreatDoor
open Go.RowKit Go.Deep
set_option linter.unusedVariables false
set_option linter.unusedSimpArgs false
set_option maxRecDepth 10000
theorem AlSt.start2 {w0 w:World} {p:Nat} {B:Bo} {vc vp:Value} (h:BoAt ⟨[],w0⟩ w p B) (hk:Keeps w0 w) (hc:OwnsI w w0.heap.size vc []) (hp:w.ownsRow w0.heap.size 37 2 vp 0 []) (hd:∀ g∈blksB p B,vc.ownBlock≠some g∧vp.ownBlock≠some g) (hcp:∀ g,vc.ownBlock=some g→vp.ownBlock≠some g):AlSt w0 w p B vc [] vp [] :=
 ⟨h,hc,LG.nil _ _ _ _ hp hk,fun g hg=>⟨(hd g hg).1,(hd g hg).2,by simp [fp]⟩,fun g hg=>⟨hcp g hg,by simp [fp]⟩⟩
theorem BoAt.fit {W:Wf} {w:World} {p:Nat} {B:Bo} (h:BoAt W w p B):B.fit :=
 ⟨(owns_seg h.oC).2.2.2.1,(owns_seg h.oH).2.2.2.1,(owns_seg h.oR).2.2.2.1,(owns_seg h.oC).2.2.2.2,(owns_seg h.oH).2.2.2.2,(owns_seg h.oR).2.2.2.2⟩
theorem ApplyR.kept {w w' w'':World} {B:Bo} {a:Option Addr} {cap:Nat} {L:List Ln} (h:ApplyR w w' B a cap L) (hk:Keeps w' w''):ApplyR w w'' B a cap L :=
 ⟨h.keep.trans hk,owns_kept h.oC hk,owns_kept h.oH hk,owns_kept h.oR hk,owns_kept h.oL hk,h.dC,h.dH,h.dL⟩
theorem AlSt.next {w0 wa w w':World} {p:Nat} {B B':Bo} {vc vp:Value} {cs:List Int} {ps:List Pg} {a:Option Addr} {cap:Nat} {L:List Ln} (h:AlSt w0 wa p B vc cs vp ps) (ha:ApplyR wa w B' a cap L) (ht:Turn [p] w w') (hr:w'.rowIs p 34 6 B'.row):AlSt w0 w' p B' vc cs vp ps:=by
 have hp:=h.blk p (by simp [blksB])
 have lC:=owns_lb ha.oC
 have lH:=owns_lb ha.oH
 have lR:=owns_lb ha.oR
 have hs:=h.keep.size
 have n1:∀ {g:Nat},wa.heap.size≤g→g∉[p]:=fun hg hx=>by rw [List.mem_singleton] at hx;omega
 have hk:=h.kept ha.keep
 have hsp:∀ g,g∈[p]→g=p:=fun g hg=>List.mem_singleton.1 hg
 have old:∀ {g:Nat},wa.heap.size≤g→vc.ownBlock≠some g∧vp.ownBlock≠some g∧g∉fp (ps.map Pg.seg):=fun hg=>⟨fun hx=>by have:=(h.codes.lt _ hx).2;omega,fun hx=>by have:=(h.posts.row.lt _ hx).2;omega,fun hx=>by have:=h.posts.inner.mem.lt _ hx;omega⟩
 have hbp:=h.bc p (by simp [blksB])
 refine ⟨⟨(Turn.of_keeps (h.keep.trans ha.keep) []).into ht (fun g hg=>by rw [hsp g hg];exact .inr hp.1),.inr hp.1,hr,owns_older (owns_turn ha.oC ht fun g hg=>n1 (lC g hg).1) (Nat.zero_le _),owns_older (owns_turn ha.oH ht fun g hg=>n1 (lH g hg).1) (Nat.zero_le _),owns_older (owns_turn ha.oR ht fun g hg=>n1 (lR g hg).1) (Nat.zero_le _),fun g hg=>.inr (by have:=(lC g hg).1;show w0.heap.size≤g;omega),fun g hg=>.inr (by have:=(lH g hg).1;show w0.heap.size≤g;omega),fun g hg=>.inr (by have:=(lR g hg).1;show w0.heap.size≤g;omega),⟨fun hx=>by have:=(lC _ hx).1;omega,fun hx=>by have:=(lH _ hx).1;omega,fun hx=>by have:=(lR _ hx).1;omega⟩,ha.dC,ha.dH⟩,
  ownsv_turn hk.codes ht (fun g hg hx=>by rw [hsp g hx] at hg;exact hbp.1 hg),hk.posts.turned ht (fun g hg hx=>by rw [hsp g hx] at hg;exact hbp.2.1 hg) (fun b hb hx=>by rw [hsp b hx] at hb;exact hbp.2.2 hb) (fun b hb=>by rw [hsp b hb];exact hp.1),fun g hg=>?_,h.cp⟩
 simp only [blksB,List.mem_cons,List.mem_append] at hg
 rcases hg with rfl | hg | hg | hg
 ·exact hbp
 ·exact old (lC g hg).1
 ·exact old (lH g hg).1
 ·exact old (lR g hg).1
set_option maxHeartbeats 16000000 in
theorem applyall_spec (tk nx wa:Int) (ca:Option Addr) (cc:Nat) (C:List Chn) (ha:Option Addr) (hc:Nat) (Hs:List Htl) (ra:Option Addr) (rc:Nat) (R:List Crc) (ea:Option Addr) (ec:Nat) (es:List Et) (w:World) (hm:Mem w (Bo.segs ⟨tk,nx,wa,ca,cc,C,ha,hc,Hs,ra,rc,R⟩)) (hf:Bo.fit ⟨tk,nx,wa,ca,cc,C,ha,hc,Hs,ra,rc,R⟩) (hl:Bo.len ⟨tk,nx,wa,ca,cc,C,ha,hc,Hs,ra,rc,R⟩) (he:Cells w ea (ets es)) (hel:es.length≤1048576) :
 Calls Tryz.prog 17 #[Bo.v ⟨tk,nx,wa,ca,cc,C,ha,hc,Hs,ra,rc,R⟩,.slice ea es.length ec] w fun e w'=>∃ B' vp ps vc cs,e=.returned (.tuple #[Bo.v B',vp,vc])∧B'.d=(all3 ⟨tk,nx,wa,C,Hs,R⟩ es).B∧ps.map Pg.key=(all3 ⟨tk,nx,wa,C,Hs,R⟩ es).P∧cs=(all3 ⟨tk,nx,wa,C,Hs,R⟩ es).C∧AllR w w' B' vc cs vp ps:=by
 have HOK:=hide (fun w' (hk:Keeps w w')=>bookok_spec ⟨tk,nx,wa,ca,cc,C,ha,hc,Hs,ra,rc,R⟩ w' (hm.kept hk) hl)
 have HCP:=hide (fun w' (hk:Keeps w w')=>copy_spec ⟨tk,nx,wa,ca,cc,C,ha,hc,Hs,ra,rc,R⟩ w' (hm.kept hk) hf hl)
 have HEV:=hide (fun w' (hk:Keeps w w')=>he.kept hk)
 clear hm hf hl he
 have HK:=hide (((Keeps.refl w).alloc (.cells #[.int .i64 tk,.int .i64 nx,.int .i64 wa,.slice ca C.length cc,.slice ha Hs.length hc,.slice ra R.length rc] 34)).alloc (.cells #[.int .i64 0,.int .i64 0,.int .i64 0,.slice none 0 0,.slice none 0 0,.slice none 0 0] 34))
 have HRK:=hide ((Keeps.refl _).alloc (.cells #[.int .i64 0,.int .i64 0,.int .i64 0,.slice none 0 0,.slice none 0 0,.slice none 0 0] 34) |>.rowK (row6_alloc w (.int .i64 tk) (.int .i64 nx) (.int .i64 wa) (.slice ca C.length cc) (.slice ha Hs.length hc) (.slice ra R.length rc) 34))
 have HRB:=hide (row6_alloc (w.alloc (.cells #[.int .i64 tk,.int .i64 nx,.int .i64 wa,.slice ca C.length cc,.slice ha Hs.length hc,.slice ra R.length rc] 34)) (.int .i64 0) (.int .i64 0) (.int .i64 0) (.slice none 0 0) (.slice none 0 0) (.slice none 0 0) 34)
 simp only [size_alloc1] at HRB
 have HLE:Hid (w.heap.size≤w.heap.size+1):=by show _≤_;omega
 dsimp only [Bo.v,Bo.d] at *
 go_enter Tryz.func17,Tryz.ntmps17
 go_upto_region 1 with fail
 try simp only [size_alloc1]
 generalize (w.alloc (.cells #[.int .i64 tk,.int .i64 nx,.int .i64 wa,.slice ca C.length cc,.slice ha Hs.length hc,.slice ra R.length rc] 34)).alloc (.cells #[.int .i64 0,.int .i64 0,.int .i64 0,.slice none 0 0,.slice none 0 0,.slice none 0 0] 34)=w0 at *
 generalize w.heap.size+1=rb at *
 obtain ⟨pb,hpb⟩:∃ pb,pb=w.heap.size:=⟨_,rfl⟩
 rw [← hpb] at HRK
 try rw [← hpb]
 clear hpb
 obtain ⟨b0,b1,b2,b3,b4,b5⟩:=row6_cells HRK.out
 go_wp2_with fail
 refine (unhide HOK _ HK.out).mono ?_
 rintro e w1 ⟨rfl,hk⟩
 clear b0 b1 b2 b3 b4 b5 HOK
 replace HK:=hide (HK.out.trans hk)
 replace HRK:=hide (hk.rowK HRK.out)
 replace HRB:=hide (hk.rowK HRB.out)
 clear hk
 cases hb:bookB ⟨tk,nx,wa,C,Hs,R⟩ with
 | false =>
   have HC:Hid (all3 ⟨tk,nx,wa,C,Hs,R⟩ es=⟨⟨0,0,0,[],[],[]⟩,[],[]⟩):=by show _=_;unfold all3;rw [if_pos hb]
   clear hb HCP
   obtain ⟨r0,r1,r2,r3,r4,r5⟩:=row6_cells HRB.out
   have f0:=HRB.out.frozen 0
   have f1:=HRB.out.frozen 1
   have f2:=HRB.out.frozen 2
   have f3:=HRB.out.frozen 3
   have f4:=HRB.out.frozen 4
   have f5:=HRB.out.frozen 5
   go_wp2_with fail
   have HA1:=hide (row6_all HRB.out (.int .i64 0) (.int .i64 0) (.int .i64 0) (.slice none 0 0) (.slice none 0 0) (.slice none 0 0))
   have HKF:=hide ((row6_turn w1 rb (.int .i64 0) (.int .i64 0) (.int .i64 0) (.slice none 0 0) (.slice none 0 0) (.slice none 0 0)).keeps HK.out (fun q hq=>by rw [List.mem_singleton.1 hq];exact HLE.out))
   clear r0 r1 r2 r3 r4 r5 f0 f1 f2 f3 f4 f5
   obtain ⟨p0,p1,p2,p3,p4,p5⟩:=row6_cells HA1.out
   clear HA1
   generalize ((((((w1.setCell ⟨rb,0,none⟩ (.int .i64 0)).setCell ⟨rb,1,none⟩ (.int .i64 0)).setCell ⟨rb,2,none⟩ (.int .i64 0)).setCell ⟨rb,3,none⟩ (.slice none 0 0)).setCell ⟨rb,4,none⟩ (.slice none 0 0)).setCell ⟨rb,5,none⟩ (.slice none 0 0))=wf at *
   refine bodyPost_ret (v:=.tuple #[.agg #[.int .i64 0,.int .i64 0,.int .i64 0,.slice none 0 0,.slice none 0 0,.slice none 0 0],.slice none 0 0,.slice none 0 0]) ?_ rfl ?_
   ·simp [results,Tryz.results17,go_sem,p0,p1,p2,p3,p4,p5]
   ·exact ⟨⟨0,0,0,none,0,[],none,0,[],none,0,[]⟩,.slice none 0 0,[],.slice none 0 0,[],rfl,by (rw [HC.out];try rfl),by (rw [HC.out];try rfl),by rw [HC.out],allr_none HKF.out⟩
 | true =>
   have HC:Hid (all3 ⟨tk,nx,wa,C,Hs,R⟩ es=run3 ⟨tk,nx,wa,C,Hs,R⟩ es):=by show _=_;unfold all3;rw [hb,if_neg (by decide)]
   have HBB:=hide (fun k (hk:k≤es.length)=>run3_book hb es k hk)
   have HST:=hide (fun k (hk:k < es.length)=>run3_take ⟨tk,nx,wa,C,Hs,R⟩ es k hk)
   have HLN:=hide (fun k (hk:k≤es.length)=>run3_len ⟨tk,nx,wa,C,Hs,R⟩ es k hk)
   have HR0:Hid (run3 ⟨tk,nx,wa,C,Hs,R⟩ (es.take 0)=⟨⟨tk,nx,wa,C,Hs,R⟩,[],[]⟩):=rfl
   have HRE:Hid (run3 ⟨tk,nx,wa,C,Hs,R⟩ (es.take es.length)=run3 ⟨tk,nx,wa,C,Hs,R⟩ es):=by show _=_;rw [List.take_length]
   clear hb
   obtain ⟨b0,b1,b2,b3,b4,b5⟩:=row6_cells HRK.out
   go_wp2_with fail
   refine (unhide HCP _ HK.out).mono ?_
   rintro e w2 ⟨g1,c1,g2,c2,g3,c3,rfl,hc1⟩
   clear b0 b1 b2 b3 b4 b5 HCP HRK
   have HB3:Hid (BoAt ⟨[],w1⟩ (w2.alloc (.cells #[.int .i64 tk,.int .i64 nx,.int .i64 wa,.slice (some ⟨g1,0,none⟩) C.length c1,.slice (some ⟨g2,0,none⟩) Hs.length c2,.slice (some ⟨g3,0,none⟩) R.length c3] 34)) w2.heap.size ⟨tk,nx,wa,some ⟨g1,0,none⟩,c1,C,some ⟨g2,0,none⟩,c2,Hs,some ⟨g3,0,none⟩,c3,R⟩):=by
    have lC:=owns_lb hc1.oC
    have lH:=owns_lb hc1.oH
    have lR:=owns_lb hc1.oR
    exact ⟨Turn.of_keeps (Keeps.alloc hc1.keep _) [],.inr hc1.keep.size,row6_alloc w2 (.int .i64 tk) (.int .i64 nx) (.int .i64 wa) (.slice (some ⟨g1,0,none⟩) C.length c1) (.slice (some ⟨g2,0,none⟩) Hs.length c2) (.slice (some ⟨g3,0,none⟩) R.length c3) 34,(owns_older hc1.oC (Nat.zero_le _)).alloc _,(owns_older hc1.oH (Nat.zero_le _)).alloc _,(owns_older hc1.oR (Nat.zero_le _)).alloc _,fun g hg=>.inr (lC g hg).1,fun g hg=>.inr (lH g hg).1,fun g hg=>.inr (lR g hg).1,⟨fun hx=>by have:=(lC _ hx).2;omega,fun hx=>by have:=(lH _ hx).2;omega,fun hx=>by have:=(lR _ hx).2;omega⟩,fun g hg=>⟨fun hx=>by have:=hc1.n1;simp [lb] at hg hx;omega,fun hx=>by have:=hc1.n1;have:=hc1.n2;simp [lb] at hg hx;omega⟩,fun g hg hx=>by have:=hc1.n2;simp [lb] at hg hx;omega⟩
   have HKc:=hide (Keeps.alloc hc1.keep (.cells #[.int .i64 tk,.int .i64 nx,.int .i64 wa,.slice (some ⟨g1,0,none⟩) C.length c1,.slice (some ⟨g2,0,none⟩) Hs.length c2,.slice (some ⟨g3,0,none⟩) R.length c3] 34))
   clear hc1
   dsimp only [Bo.v]
   go_upto_region 4 with fail
   generalize w2.alloc (.cells #[.int .i64 tk,.int .i64 nx,.int .i64 wa,.slice (some ⟨g1,0,none⟩) C.length c1,.slice (some ⟨g2,0,none⟩) Hs.length c2,.slice (some ⟨g3,0,none⟩) R.length c3] 34)=w3 at *
   generalize w2.heap.size=pw at *
   generalize hr3:run3 ⟨tk,nx,wa,C,Hs,R⟩=R3 at *
   have HLT:=hide HRB.out.lt
   clear hr3
   go_upto_region 6 with fail
   have HK4:=hide ((Keeps.alloc (Keeps.refl w3) (.cells #[] 37)).alloc (.cells #[] 3))
   have HS0:Hid (AlSt w1 ((w3.alloc (.cells #[] 37)).alloc (.cells #[] 3)) pw ⟨tk,nx,wa,some ⟨g1,0,none⟩,c1,C,some ⟨g2,0,none⟩,c2,Hs,some ⟨g3,0,none⟩,c3,R⟩ (.slice (some ⟨w3.heap.size+1,0,none⟩) 0 0) [] (.slice (some ⟨w3.heap.size,0,none⟩) 0 0) []):=by
    have hp:=World.ownsRow_lit (base:=w1.heap.size) (e:=37) (size:=2) w3 #[] 0 HKc.out.size (by decide) rfl
    have hc:=World.ownsRow_lit (base:=w1.heap.size) (e:=3) (size:=1) (w3.alloc (.cells #[] 37)) #[] 0 (by have:=HKc.out.size;rw [World.size_alloc];omega) (by decide) rfl
    rw [World.size_alloc] at hc
    refine AlSt.start2 (HB3.out.kept HK4.out) (HKc.out.trans HK4.out) hc (hp.alloc _) (fun g hg=>?_) (fun g hg hx=>?_)
    ·have:=(HB3.out.blk g hg).2
     exact ⟨fun hx=>by have:w3.heap.size+1=g:=Option.some.inj hx;omega,fun hx=>by have:w3.heap.size=g:=Option.some.inj hx;omega⟩
    ·have h1:w3.heap.size+1=g:=Option.some.inj hg
     have h2:w3.heap.size=g:=Option.some.inj hx
     omega
   generalize (w3.alloc (.cells #[] 37)).alloc (.cells #[] 3)=w4 at *
   generalize w3.heap.size+1=vcb at *
   generalize w3.heap.size=vpb at *
   clear HB3 HKc HK4
   go_wp2_with fail
   go_loopw [8,9,25] (fun vp vc y wr=>∃ (k:Nat) (B:Bo) (ps:List Pg),k≤es.length∧y=.int .i64 (k:Int)∧Hid (B.d=(R3 (es.take k)).B)∧Hid (ps.map Pg.key=(R3 (es.take k)).P)∧Hid (AlSt w1 wr pw B vc (R3 (es.take k)).C vp ps)) (fun _ _ y _=>es.length-(intOf y).toNat)
   case atStart=>exact ⟨0,⟨tk,nx,wa,some ⟨g1,0,none⟩,c1,C,some ⟨g2,0,none⟩,c2,Hs,some ⟨g3,0,none⟩,c3,R⟩,[],by omega,rfl,by rw [HR0.out];exact hide rfl,by rw [HR0.out];exact hide rfl,by rw [HR0.out];exact HS0⟩
   case round =>
    clear HS0
    obtain ⟨k,B,ps,hk,rfl,HD,HP,HS⟩:=hrel
    have HBk:=hide (HBB.out k hk)
    have HLk:=hide (HLN.out k hk)
    obtain ⟨tk2,nx2,wa2,ca2,cc2,C2,ha2,hcc2,H2,ra2,rc2,R2⟩:=B
    by_cases hlt:k < es.length
    ·have HSK:=hide (HST.out k hlt)
     obtain ⟨⟨SB,SP,SC⟩,hs3⟩:∃ S,S=R3 (es.take k):=⟨_,rfl⟩
     rw [← hs3] at HD HP HS HBk HLk HSK
     clear hs3
     have hd:=HD.out
     dsimp only [Bo.d] at hd HP HS HBk HLk
     subst hd
     obtain ⟨b,off,eb,c0,c1,c2,c3,c4,c5,c6⟩:=ets_at (unhide HEV _ (HK.out.trans HS.out.keep)) k hlt
     have HEA:=hide eb
     clear eb
     obtain rfl:=HEA.out
     generalize es[k]=x at *
     obtain ⟨xk,xy,xc,xt,xm,xf,xb⟩:=x
     dsimp only at c0 c1 c2 c3 c4 c5 c6
     have HSA:=hide (HS.out.kept (Keeps.alloc (Keeps.refl wr) (.cells #[.int .i64 xk,.int .i64 xy,.int .i64 xc,.int .i64 xt,.int .i64 xm,.int .i64 xf,.bool xb] 41)))
     have HRE7:=hide (rw7_new wr (.int .i64 xk) (.int .i64 xy) (.int .i64 xc) (.int .i64 xt) (.int .i64 xm) (.int .i64 xf) (.bool xb) 41)
     have HRW:Hid (wr.rowIs pw 34 6 (row6 (.int .i64 tk2) (.int .i64 nx2) (.int .i64 wa2) (.slice ca2 C2.length cc2) (.slice ha2 H2.length hcc2) (.slice ra2 R2.length rc2))):=HS.out.book.row
     replace HRW:=hide ((Keeps.alloc (Keeps.refl wr) (.cells #[.int .i64 xk,.int .i64 xy,.int .i64 xc,.int .i64 xt,.int .i64 xm,.int .i64 xf,.bool xb] 41)).rowK HRW.out)
     go_upto_region 9 with fail
     generalize wr.alloc (.cells #[.int .i64 xk,.int .i64 xy,.int .i64 xc,.int .i64 xt,.int .i64 xm,.int .i64 xf,.bool xb] 41)=wa0 at *
     generalize wr.heap.size=pe at *
     have hbk:=HBk.out
     have HAP:=hide (apply_spec tk2 nx2 wa2 ca2 cc2 C2 ha2 hcc2 H2 ra2 rc2 R2 wa0 HSA.out.book.mem HSA.out.book.fit ⟨Nat.le_trans (right_of hbk).lC (by decide),Nat.le_trans (right_of hbk).lH (by decide),Nat.le_trans (right_of hbk).lR (by decide)⟩ xk xy xc xt xm xf xb)
     have hac:appC ⟨tk2,nx2,wa2,C2,H2,R2⟩ xk xy xc xt xm xf xb=applyC ⟨tk2,nx2,wa2,C2,H2,R2⟩ xk xy xc xt xm xf xb:=by unfold appC;rw [if_neg (by rw [hbk];decide)]
     rw [hac] at HAP
     have HNX:Hid (1≤(evK ⟨tk2,nx2,wa2,C2,H2,R2⟩ xk xy xc xt xm xf xb).nx):=by show _≤_;rw [evK_nx];exact (right_of hbk).nx.1
     have HL3:Hid ((evL ⟨tk2,nx2,wa2,C2,H2,R2⟩ xk xy xc xt xm xf xb).length≤3):=evL_len _ _ _ _ _ _ _ _
     clear hbk hac
     obtain ⟨c,hc⟩:∃ c,c=applyC ⟨tk2,nx2,wa2,C2,H2,R2⟩ xk xy xc xt xm xf xb:=⟨_,rfl⟩
     obtain ⟨K,hK⟩:∃ K,K=evK ⟨tk2,nx2,wa2,C2,H2,R2⟩ xk xy xc xt xm xf xb:=⟨_,rfl⟩
     obtain ⟨L,hL⟩:∃ L,L=evL ⟨tk2,nx2,wa2,C2,H2,R2⟩ xk xy xc xt xm xf xb:=⟨_,rfl⟩
     rw [← hc,← hK,← hL] at HAP
     rw [← hK] at HNX
     rw [← hL] at HL3
     have HE:Hid (R3 (es.take (k+1))=⟨bookV ⟨tk2,nx2,wa2,C2,H2,R2⟩ c K L,SP++(if linV c L=[] then [] else [(pidV c K L,linV c L)]),SC++[c]⟩):=by
      show _=_
      rw [HSK.out]
      subst hc
      subst hK
      subst hL
      rfl
     clear hc hK hL HSK HBk HS c0 c1 c2 c3 c4 c5 c6
     obtain ⟨e0,e1,e2,e3,e4,e5,e6⟩:=rw7_cells HRE7.out
     obtain ⟨b0,b1,b2,b3,b4,b5⟩:=row6_cells HRW.out
     dsimp only [Bo.v] at HAP
     go_wp2_with fail
     refine (unhide HAP).mono ?_
     rintro e w5 ⟨B3,a,cap,rfl,hd3,ha3⟩
     clear e0 e1 e2 e3 e4 e5 e6 HRE7 HAP b0 b1 b2 b3 b4 b5
     obtain ⟨tk3,nx3,wa3,ca3,cc3,C3,ha4,hcc3,H3,ra3,rc3,R3'⟩:=B3
     have HKV:=hide ((Keeps.alloc (Keeps.refl w5) (.cells #[.int .i64 tk3,.int .i64 nx3,.int .i64 wa3,.slice ca3 C3.length cc3,.slice ha4 H3.length hcc3,.slice ra3 R3'.length rc3] 34)).alloc (.cells #[.int .i64 (pidV c K L),.slice a (linV c L).length cap] 37))
     have HNR:=hide ((Keeps.alloc (Keeps.refl _) (.cells #[.int .i64 (pidV c K L),.slice a (linV c L).length cap] 37)).rowK (row6_alloc w5 (.int .i64 tk3) (.int .i64 nx3) (.int .i64 wa3) (.slice ca3 C3.length cc3) (.slice ha4 H3.length hcc3) (.slice ra3 R3'.length rc3) 34))
     have HPR:=hide (rw2_new (w5.alloc (.cells #[.int .i64 tk3,.int .i64 nx3,.int .i64 wa3,.slice ca3 C3.length cc3,.slice ha4 H3.length hcc3,.slice ra3 R3'.length rc3] 34)) (.int .i64 (pidV c K L)) (.slice a (linV c L).length cap) 37)
     rw [size_alloc1] at HPR
     have HA:=hide (ha3.kept HKV.out)
     have HD3:=hide hd3
     have HSW:=hide (HSA.out.kept HA.out.keep)
     have HPB:Hid (pw < wa0.heap.size):=(HSA.out.blk pw (by simp [blksB])).2
     have HZ5:Hid (wa0.heap.size≤w5.heap.size):=ha3.keep.size
     have HZ0:Hid (w1.heap.size≤wa0.heap.size):=HSA.out.keep.size
     clear hd3 ha3 HKV
     go_upto_region 10 with fail
     generalize (w5.alloc (.cells #[.int .i64 tk3,.int .i64 nx3,.int .i64 wa3,.slice ca3 C3.length cc3,.slice ha4 H3.length hcc3,.slice ra3 R3'.length rc3] 34)).alloc (.cells #[.int .i64 (pidV c K L),.slice a (linV c L).length cap] 37)=w6 at *
     obtain ⟨pv,hpv⟩:∃ q,q=w5.heap.size+1:=⟨_,rfl⟩
     rw [← hpv] at HPR
     try rw [← hpv]
     have HPV:Hid (pw≠pv∧pw≠w5.heap.size):=by have:=HPB.out;have:=HZ5.out;exact ⟨by omega,by omega⟩
     clear hpv
     have hlc:SC.length≤1048576:=by have:=HLk.out.1;omega
     by_cases hc0:c=0
     ·subst hc0
      have HRP:Hid (w6.rowIs pw 34 6 (row6 (.int .i64 tk2) (.int .i64 nx2) (.int .i64 wa2) (.slice ca2 C2.length cc2) (.slice ha2 H2.length hcc2) (.slice ra2 R2.length rc2))):=HSW.out.book.row
      have HR7:=hide (row6_all HRP.out (.int .i64 tk3) (.int .i64 nx3) (.int .i64 wa3) (.slice ca3 C3.length cc3) (.slice ha4 H3.length hcc3) (.slice ra3 R3'.length rc3))
      have HT7:=hide (row6_turn w6 pw (.int .i64 tk3) (.int .i64 nx3) (.int .i64 wa3) (.slice ca3 C3.length cc3) (.slice ha4 H3.length hcc3) (.slice ra3 R3'.length rc3))
      have HS7:=hide (HSA.out.next HA.out HT7.out HR7.out)
      have HPR7:=hide (row_turn HPR.out HT7.out (by have:=HPV.out.1;simp only [List.mem_singleton];omega))
      have HB7:Hid (Bo.d ⟨tk3,nx3,wa3,ca3,cc3,C3,ha4,hcc3,H3,ra3,rc3,R3'⟩=bookV ⟨tk2,nx2,wa2,C2,H2,R2⟩ 0 K L):=by show _=_;rw [HD3.out];simp only [bookV,outB,if_pos]
      have HVC:Hid (∀ g,u9.ownBlock=some g→g < wa0.heap.size):=fun g hg=>(HSA.out.codes.lt g hg).2
      have HVP:Hid (∀ g,u8.ownBlock=some g→g < wa0.heap.size):=fun g hg=>(HSA.out.posts.row.lt g hg).2
      have HIN:Hid (∀ g∈fp (ps.map Pg.seg),g < wa0.heap.size):=fun g hg=>HSA.out.posts.inner.mem.lt g hg
      have HOL:=owns_seg HA.out.oL
      have HOW:=hide (HOL.1.turn HT7.out (fun g hg hx=>by have:=HOL.2.1 g hg;rw [List.mem_singleton] at hx;have:=HPB.out;omega))
      have HOB:=hide HOL.2.1
      have HLB:=hide HOL.2.2.1
      have HDL:=hide HA.out.dL
      clear HOL
      obtain ⟨r0,r1,r2,r3,r4,r5⟩:=row6_cells HRP.out
      have f0:=HRP.out.frozen 0
      have f1:=HRP.out.frozen 1
      have f2:=HRP.out.frozen 2
      have f3:=HRP.out.frozen 3
      have f4:=HRP.out.frozen 4
      have f5:=HRP.out.frozen 5
      obtain ⟨n0,n1,n2,n3,n4,n5⟩:=row6_cells HNR.out
      have hpn:=HPV.out.2
      go_upto_region 12 with fail
      clear r0 r1 r2 r3 r4 r5 f0 f1 f2 f3 f4 f5 n0 n1 n2 n3 n4 n5 HRP HNR HPR HSW HT7 HR7 HSA HD3 HA
      generalize ((((((w6.setCell ⟨pw,0,none⟩ (.int .i64 tk3)).setCell ⟨pw,1,none⟩ (.int .i64 nx3)).setCell ⟨pw,2,none⟩ (.int .i64 wa3)).setCell ⟨pw,3,none⟩ (.slice ca3 C3.length cc3)).setCell ⟨pw,4,none⟩ (.slice ha4 H3.length hcc3)).setCell ⟨pw,5,none⟩ (.slice ra3 R3'.length rc3))=w7 at *
      obtain ⟨p0,p1⟩:=rw2_cells HPR7.out
      by_cases hL:L=[]
      ·have hpid:pidV 0 K L=0:=by simp [pidV,hL]
       have HP1:Hid (R3 (es.take (k+1))=⟨bookV ⟨tk2,nx2,wa2,C2,H2,R2⟩ 0 K L,SP,SC++[0]⟩):=by show _=_;rw [HE.out,if_pos (by simp [linV,hL]),List.append_nil]
       rw [hpid] at p0
       obtain ⟨v8,w8,hr8,ho8,hg8,hv8⟩:=run_code w7 w1.heap.size u9 SC.length (its SC) 0 51 HS7.out.codes hlc HS7.out.keep.size
       have HR8:=hide hr8
       have HS8:=hide (HS7.out.code ho8 hg8 hv8)
       clear hr8 ho8 hg8 hv8 hL HE
       go_wp2_with (at_builtin;refine Lib.wpList_append_run _ rfl (.tmp 46) (.tmp 48) _ _ rfl _ _ rfl rfl v8 w8 HR8.out ?_)
       go_roundw
       case rel=>exact ⟨k+1,⟨tk3,nx3,wa3,ca3,cc3,C3,ha4,hcc3,H3,ra3,rc3,R3'⟩,ps,by omega,by go_num,by rw [HP1.out];exact HB7,by rw [HP1.out];exact HP,by rw [HP1.out];exact HS8⟩
       case measure=>simp [intOf];omega
      ·have hpid:0 < pidV 0 K L:=by have:=HNX.out;simp [pidV,hL];omega
       have hlL:¬ linV 0 L=[]:=by simpa [linV] using hL
       have HP1:Hid (R3 (es.take (k+1))=⟨bookV ⟨tk2,nx2,wa2,C2,H2,R2⟩ 0 K L,SP++[(pidV 0 K L,linV 0 L)],SC++[0]⟩):=by show _=_;rw [HE.out,if_neg hlL]
       have hlp:ps.length≤1048576:=by
        have h1:=HLk.out.2
        have h2:=congrArg List.length HP.out
        rw [List.length_map] at h2
        omega
       obtain ⟨v7,w8,hr8,ho8,hg8,hv8⟩:=run_posting w7 w1.heap.size u8 ps.length (ps.flatMap Pg.cells) (.int .i64 (pidV 0 K L)) (.slice a (linV 0 L).length cap) rfl rfl 50 HS7.out.posts.row hlp HS7.out.keep.size
       have HR8:=hide hr8
       have HS8:=hide (HS7.out.post (x:=⟨pidV 0 K L,⟨a,cap,linV 0 L⟩⟩) HOW.out (fun g hg=>⟨by have:=HOB.out g hg;have:=HZ0.out;omega,fun hx=>by
        have h1:=HLB.out g hg
        have h2:=HDL.out g h1
        simp only [blksB,List.mem_cons,List.mem_append] at hx
        rcases hx with hx | hx | hx | hx
        ·have:=HOB.out g hg;have:=HPB.out;omega
        ·exact h2.1 hx
        ·exact h2.2.1 hx
        ·exact h2.2.2 hx,fun hx=>by have:=HVC.out g hx;have:=HOB.out g hg;omega,fun hx=>by have:=HVP.out g hx;have:=HOB.out g hg;omega,fun hx=>by have:=HIN.out g hx;have:=HOB.out g hg;omega⟩) hg8 ho8 hv8)
       obtain ⟨v9,w9,hr9,ho9,hg9,hv9⟩:=run_code w8 w1.heap.size u9 SC.length (its SC) 0 51 HS8.out.codes hlc HS8.out.keep.size
       have HR9:=hide hr9
       have HS9:=hide (HS8.out.code ho9 hg9 hv9)
       clear hr8 ho8 hg8 hv8 hr9 ho9 hg9 hv9 hL hlL HE
       go_wp2_with (first
        | (at_builtin;refine Lib.wpList_append_run _ rfl (.tmp 42) (.tmp 44) _ _ rfl _ _ rfl rfl v7 w8 HR8.out ?_)
        | (at_builtin;refine Lib.wpList_append_run _ rfl (.tmp 46) (.tmp 48) _ _ rfl _ _ rfl rfl v9 w9 HR9.out ?_))
       go_roundw
       case rel=>exact ⟨k+1,⟨tk3,nx3,wa3,ca3,cc3,C3,ha4,hcc3,H3,ra3,rc3,R3'⟩,ps++[⟨pidV 0 K L,⟨a,cap,linV 0 L⟩⟩],by omega,by go_num,by rw [HP1.out];exact HB7,by rw [HP1.out];show _=_;rw [List.map_append,HP.out];rfl,by rw [HP1.out];exact HS9⟩
       case measure=>simp [intOf];omega
     ·have hce:(c==0)=false:=by simpa using hc0
      have HP1:Hid (R3 (es.take (k+1))=⟨⟨tk2,nx2,wa2,C2,H2,R2⟩,SP,SC++[c]⟩):=by show _=_;rw [HE.out,if_pos (by simp [linV,hc0]),List.append_nil];simp [bookV,hc0]
      obtain ⟨v8,w8,hr8,ho8,hg8,hv8⟩:=run_code w6 w1.heap.size u9 SC.length (its SC) c 51 HSW.out.codes hlc HSW.out.keep.size
      have HR8:=hide hr8
      have HS8:=hide (HSW.out.code ho8 hg8 hv8)
      clear hr8 ho8 hg8 hv8 hc0 HE
      go_wp2_with (at_builtin;refine Lib.wpList_append_run _ rfl (.tmp 46) (.tmp 48) _ _ rfl _ _ rfl rfl v8 w8 HR8.out ?_)
      go_roundw
      case rel=>exact ⟨k+1,⟨tk2,nx2,wa2,ca2,cc2,C2,ha2,hcc2,H2,ra2,rc2,R2⟩,ps,by omega,by go_num,by rw [HP1.out];exact hide rfl,by rw [HP1.out];exact HP,by rw [HP1.out];exact HS8⟩
      case measure=>simp [intOf];omega
    ·have hke:k=es.length:=by omega
     subst hke
     rw [HRE.out] at HD HP HS
     clear HBk HLk HST HBB HLN HR0 HRE HEV
     have HPW:Hid (w1.heap.size≤pw):=(HS.out.blk pw (by simp [blksB])).1
     have HRW:Hid (wr.rowIs pw 34 6 (row6 (.int .i64 tk2) (.int .i64 nx2) (.int .i64 wa2) (.slice ca2 C2.length cc2) (.slice ha2 H2.length hcc2) (.slice ra2 R2.length rc2))):=HS.out.book.row
     replace HRB:=hide (HS.out.keep.rowK HRB.out)
     obtain ⟨b0,b1,b2,b3,b4,b5⟩:=row6_cells HRW.out
     obtain ⟨r0,r1,r2,r3,r4,r5⟩:=row6_cells HRB.out
     have f0:=HRB.out.frozen 0
     have f1:=HRB.out.frozen 1
     have f2:=HRB.out.frozen 2
     have f3:=HRB.out.frozen 3
     have f4:=HRB.out.frozen 4
     have f5:=HRB.out.frozen 5
     have hpr:pw≠rb:=by have:=HLT.out;have:=HPW.out;omega
     go_wp2_with fail
     have T1:=row6_turn wr rb (.int .i64 tk2) (.int .i64 nx2) (.int .i64 wa2) (.slice ca2 C2.length cc2) (.slice ha2 H2.length hcc2) (.slice ra2 R2.length rc2)
     have HA1:=hide (row6_all HRB.out (.int .i64 tk2) (.int .i64 nx2) (.int .i64 wa2) (.slice ca2 C2.length cc2) (.slice ha2 H2.length hcc2) (.slice ra2 R2.length rc2))
     have HAR:=hide (HS.out.fin HK.out T1 HLT.out HLE.out)
     clear T1 r0 r1 r2 r3 r4 r5 f0 f1 f2 f3 f4 f5 b0 b1 b2 b3 b4 b5 hpr
     generalize ((((((wr.setCell ⟨rb,0,none⟩ (.int .i64 tk2)).setCell ⟨rb,1,none⟩ (.int .i64 nx2)).setCell ⟨rb,2,none⟩ (.int .i64 wa2)).setCell ⟨rb,3,none⟩ (.slice ca2 C2.length cc2)).setCell ⟨rb,4,none⟩ (.slice ha2 H2.length hcc2)).setCell ⟨rb,5,none⟩ (.slice ra2 R2.length rc2))=wf at *
     obtain ⟨p0,p1,p2,p3,p4,p5⟩:=row6_cells HA1.out
     clear HA1
     refine bodyPost_ret (v:=.tuple #[.agg #[.int .i64 tk2,.int .i64 nx2,.int .i64 wa2,.slice ca2 C2.length cc2,.slice ha2 H2.length hcc2,.slice ra2 R2.length rc2],u8,u9]) ?_ rfl ?_
     ·simp [results,Tryz.results17,go_sem,p0,p1,p2,p3,p4,p5]
     ·exact ⟨⟨tk2,nx2,wa2,ca2,cc2,C2,ha2,hcc2,H2,ra2,rc2,R2⟩,u8,ps,u9,_,rfl,by rw [HC.out];exact HD.out,by rw [HC.out];exact HP.out,by rw [HC.out],HAR.out⟩
end Go.Proofs.YtccdhcempnkgaaaGreatDoor
