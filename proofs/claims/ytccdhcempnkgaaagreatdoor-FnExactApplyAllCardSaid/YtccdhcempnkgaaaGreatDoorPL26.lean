/- Texts of the verifier, joined: Yb, Ye. -/
import Derived.Test.YtccdhcempnkgaaaGreatDoorPL24
import Derived.Test.YtccdhcempnkgaaaGreatDoorPL25
import Derived.Test.YtccdhcempnkgaaaGreatDoorPL23
import Derived.Test.YtccdhcempnkgaaaGreatDoorPL12
import Derived.Test.YtccdhcempnkgaaaGreatDoorPL9
namespace Go.Proofs.YtccdhcempnkgaaaGreatDoor
open Go.RowKit Go.Deep
set_option linter.unusedVariables false
set_option linter.unusedSimpArgs false
set_option maxRecDepth 10000
def blksB (p:Nat) (B:Bo):List Nat:=p :: (lb B.ca++(lb B.ha++lb B.ra))
theorem BoAt.self {F:Wf} {w:World} {p:Nat} {B:Bo} (h:BoAt F w p B):BoAt ⟨blksB p B,w⟩ w p B :=
 ⟨Turn.refl _ _,.inl (by simp [blksB]),h.row,h.oC,h.oH,h.oR,fun g hg=>.inl (by simp [blksB,hg]),fun g hg=>.inl (by simp [blksB,hg]),fun g hg=>.inl (by simp [blksB,hg]),h.np,h.dC,h.dH⟩
theorem BoAt.blk {F:Wf} {w:World} {p:Nat} {B:Bo} (h:BoAt F w p B):∀ g∈blksB p B,F.ok g∧g < w.heap.size:=by
 intro g hg
 simp only [blksB,List.mem_cons,List.mem_append] at hg
 rcases hg with rfl | hg | hg | hg
 ·exact ⟨h.hp,h.row.lt⟩
 ·exact ⟨h.bC g hg,(owns_lb h.oC g hg).2⟩
 ·exact ⟨h.bH g hg,(owns_lb h.oH g hg).2⟩
 ·exact ⟨h.bR g hg,(owns_lb h.oR g hg).2⟩
theorem BoAt.back {F:Wf} {w w':World} {p:Nat} {B B':Bo} (h:BoAt F w p B) (h':BoAt ⟨blksB p B,w⟩ w' p B'):BoAt F w' p B':=by
 have hs:∀ g,Wf.ok ⟨blksB p B,w⟩ g→F.ok g:=fun g hg=>by
  rcases hg with hg | hg
  ·exact (h.blk g hg).1
  ·exact .inr (Nat.le_trans h.keep.size hg)
 exact ⟨h.keep.into h'.keep (fun g hg=>(h.blk g hg).1),h.hp,h'.row,h'.oC,h'.oH,h'.oR,fun g hg=>hs g (h'.bC g hg),fun g hg=>hs g (h'.bH g hg),fun g hg=>hs g (h'.bR g hg),h'.np,h'.dC,h'.dH⟩
def bookV (B:Bk) (c:Int) (K:Bk) (L:List Ln):Bk:=if c=0 then (if L=[] then K else ⟨K.tk,K.nx+1,K.wa,K.C,K.Hs,K.R⟩) else B
def pidV (c:Int) (K:Bk) (L:List Ln):Int:=if c=0 then (if L=[] then 0 else K.nx) else 0
def linV (c:Int) (L:List Ln):List Ln:=if c=0 then L else []
def Perf (W:Wf) (w w':World) (p:Nat) (c:Int) (B0:Bo) (K:Bk) (L:List Ln) (e:Ending):Prop :=
 ∃ B v,e=.returned (.tuple #[.agg #[.int .i64 (pidV c K L),v],.int .i64 c])∧BoAt W w' p B∧B.d=bookV B0.d c K L∧OwnsLn w' w.heap.size v (linV c L)∧(∀ b,v.ownBlock=some b→Apart b p B)∧Turn (blksB p B0) w w'
def dN (k:Int):Nat:=if k=1 then 117 else if k=2 then 118 else if k=3 then 119 else if k=4 then 120 else if k=5 then 121 else if k=6 then 122 else if k=7 then 123 else if k=8 then 124 else if k=9 then 125 else if k=10 then 126 else 127
theorem deedA {kd:Int} (hkd:kd=1∨kd=2∨kd=3∨kd=4∨kd=5∨kd=6∨kd=7∨kd=8∨kd=9∨kd=10∨kd=11) (w:World):Calls Tryz.prog 97 #[.int .i64 kd] w fun e w'=>e=.returned (.func (.func (dN kd)) #[] #[])∧w'=w:=by
 rcases hkd with rfl | rfl | rfl | rfl | rfl | rfl | rfl | rfl | rfl | rfl | rfl
 ·rw [show dN 1=117 from by simp [dN]]
  exact deed1 w
 ·rw [show dN 2=118 from by simp [dN]]
  exact deed2 w
 ·rw [show dN 3=119 from by simp [dN]]
  exact deed3 w
 ·rw [show dN 4=120 from by simp [dN]]
  exact deed4 w
 ·rw [show dN 5=121 from by simp [dN]]
  exact deed5 w
 ·rw [show dN 6=122 from by simp [dN]]
  exact deed6 w
 ·rw [show dN 7=123 from by simp [dN]]
  exact deed7 w
 ·rw [show dN 8=124 from by simp [dN]]
  exact deed8 w
 ·rw [show dN 9=125 from by simp [dN]]
  exact deed9 w
 ·rw [show dN 10=126 from by simp [dN]]
  exact deed10 w
 ·rw [show dN 11=127 from by simp [dN]]
  exact deed11 w
theorem dN_call {kd:Int} (hkd:kd=1∨kd=2∨kd=3∨kd=4∨kd=5∨kd=6∨kd=7∨kd=8∨kd=9∨kd=10∨kd=11) (args:Array Value) (w:World):(callFunc (dN kd) args).run Tryz.prog w=.ok (.enter (dN kd) args) w:=by
 rcases hkd with rfl | rfl | rfl | rfl | rfl | rfl | rfl | rfl | rfl | rfl | rfl
 ·rw [show dN 1=117 from by simp [dN]]
  exact Tryz.call117 args w
 ·rw [show dN 2=118 from by simp [dN]]
  exact Tryz.call118 args w
 ·rw [show dN 3=119 from by simp [dN]]
  exact Tryz.call119 args w
 ·rw [show dN 4=120 from by simp [dN]]
  exact Tryz.call120 args w
 ·rw [show dN 5=121 from by simp [dN]]
  exact Tryz.call121 args w
 ·rw [show dN 6=122 from by simp [dN]]
  exact Tryz.call122 args w
 ·rw [show dN 7=123 from by simp [dN]]
  exact Tryz.call123 args w
 ·rw [show dN 8=124 from by simp [dN]]
  exact Tryz.call124 args w
 ·rw [show dN 9=125 from by simp [dN]]
  exact Tryz.call125 args w
 ·rw [show dN 10=126 from by simp [dN]]
  exact Tryz.call126 args w
 ·rw [show dN 11=127 from by simp [dN]]
  exact Tryz.call127 args w
set_option maxHeartbeats 80000000 in
theorem performA (W:Wf) (w:World) (p:Nat) (tk nx wa:Int) (ca:Option Addr) (cc:Nat) (C:List Chn) (ha:Option Addr) (hc:Nat) (Hs:List Htl) (ra:Option Addr) (rc:Nat) (R:List Crc) (h:BoAt W w p ⟨tk,nx,wa,ca,cc,C,ha,hc,Hs,ra,rc,R⟩) (kd ky ch tt am fe:Int) (ys:Bool) (hkd:kd=1∨kd=2∨kd=3∨kd=4∨kd=5∨kd=6∨kd=7∨kd=8∨kd=9∨kd=10∨kd=11) (ok past:Bool) (c:Int) (K:Bk) (L:List Ln) (hnx:0≤K.nx∧K.nx≤1125899906842624)
 (hE:∀ w',Calls Tryz.prog 95 #[evV kd ky ch tt am fe ys] w' fun e w''=>e=.returned (.bool ok)∧Keeps w' w'')
 (hP:ok=true→∀ w',Keeps w w'→Calls Tryz.prog 96 #[.pointer (some ⟨p,0,none⟩),evV kd ky ch tt am fe ys] w' fun e w''=>e=.returned (.bool past)∧Keeps w' w'')
 (hD:∀ g,dN kd=g→ok=true→past=false→∀ F w',BoAt F w' p ⟨tk,nx,wa,ca,cc,C,ha,hc,Hs,ra,rc,R⟩→Keeps w w'→Calls Tryz.prog g #[.pointer (some ⟨p,0,none⟩),evV kd ky ch tt am fe ys] w' fun e w''=>Out F w' w'' p c ⟨tk,nx,wa,C,Hs,R⟩ K L e) :
 Calls Tryz.prog 50 #[.pointer (some ⟨p,0,none⟩),evV kd ky ch tt am fe ys] w fun e w'=>Perf W w w' p (if ok=false then 1 else if past=true then 2 else c) ⟨tk,nx,wa,ca,cc,C,ha,hc,Hs,ra,rc,R⟩ K L e:=by
 have HKe:=hide ((Keeps.refl w).alloc (.cells #[.int .i64 kd,.int .i64 ky,.int .i64 ch,.int .i64 tt,.int .i64 am,.int .i64 fe,.bool ys] 41) |>.alloc (.cells #[.int .i64 0,.slice none 0 0] 37))
 have HRe:=hide (((Keeps.refl _).alloc (.cells #[.int .i64 0,.slice none 0 0] 37)).rowK (rw7_new w (.int .i64 kd) (.int .i64 ky) (.int .i64 ch) (.int .i64 tt) (.int .i64 am) (.int .i64 fe) (.bool ys) 41))
 have HRr:=hide (rw2_new (w.alloc (.cells #[.int .i64 kd,.int .i64 ky,.int .i64 ch,.int .i64 tt,.int .i64 am,.int .i64 fe,.bool ys] 41)) (.int .i64 0) (.slice none 0 0) 37)
 rw [size_alloc1] at HRr
 have HB:=hide (h.kept HKe.out)
 have HAR:=hide (h.apart (Nat.le_succ w.heap.size))
 have HPR:=hide (Nat.le_succ w.heap.size)
 have HPO:=hide (Nat.le_trans h.keep.size (Nat.le_succ w.heap.size))
 have HBK:=hide h.blk
 have HTW:=hide (Turn.of_keeps HKe.out (blksB p ⟨tk,nx,wa,ca,cc,C,ha,hc,Hs,ra,rc,R⟩))
 have HE:=hide hE
 have HP:=hide hP
 have HD:=hide hD
 have HNX:=hide hnx
 have HKD:=hide hkd
 clear h hE hP hD hnx hkd
 change Hid (Apart (w.heap.size+1) p _) at HAR
 change Hid (w.heap.size≤w.heap.size+1) at HPR
 change Hid (_≤w.heap.size+1) at HPO
 go_enter Tryz.func50,Tryz.ntmps50
 go_upto_region 1 with fail
 try simp only [size_alloc1]
 generalize (w.alloc (.cells #[.int .i64 kd,.int .i64 ky,.int .i64 ch,.int .i64 tt,.int .i64 am,.int .i64 fe,.bool ys] 41)).alloc (.cells #[.int .i64 0,.slice none 0 0] 37)=w0 at *
 generalize w.heap.size+1=pr at *
 obtain ⟨pe,hpe⟩:∃ pe,pe=w.heap.size:=⟨_,rfl⟩
 rw [← hpe] at HRe
 try rw [← hpe]
 have HPE:=hide hpe
 clear hpe
 obtain ⟨e0,e1,e2,e3,e4,e5,e6⟩:=rw7_cells HRe.out
 go_wp2_with fail
 refine (unhide HE _).mono ?_
 rintro e w1 ⟨rfl,hk⟩
 clear e0 e1 e2 e3 e4 e5 e6 HE
 replace HB:=hide (HB.out.kept hk)
 replace HRe:=hide (hk.rowK HRe.out)
 replace HRr:=hide (hk.rowK HRr.out)
 replace HTW:=hide (HTW.out.trans' (Turn.of_keeps hk _))
 replace HKe:=hide (HKe.out.trans hk)
 clear hk
 cases ok with
 | false =>
   obtain ⟨r0,r1⟩:=rw2_cells HRr.out
   have f0:=HRr.out.frozen 0
   have f1:=HRr.out.frozen 1
   have rl:=HRr.out.lt
   go_wp2_with fail
   have HFr:=hide (rw2_set HRr.out (.int .i64 0) (.slice none 0 0))
   have HTr:=hide (rw2_turn w1 pr (.int .i64 0) (.slice none 0 0))
   obtain ⟨p0,p1⟩:=rw2_cells HFr.out
   clear r0 r1 f0 f1 rl
   have HBF:=hide (HB.out.turn HTr.out (fun g hg=>by rw [List.mem_singleton.1 hg];exact .inr (HPO.out)) (by simpa using Ne.symm HAR.out.1) (fun g hg hx=>HAR.out.2.1 (by rw [← List.mem_singleton.1 hx];exact hg)) (fun g hg hx=>HAR.out.2.2.1 (by rw [← List.mem_singleton.1 hx];exact hg)) (fun g hg hx=>HAR.out.2.2.2 (by rw [← List.mem_singleton.1 hx];exact hg)))
   have HTF:=hide ((HTW.out.trans HTr.out).cut (fun q hq=>by rw [List.mem_singleton.1 hq];exact HPR.out))
   clear HFr HTr
   generalize (w1.setCell ⟨pr,0,none⟩ (.int .i64 0)).setCell ⟨pr,1,none⟩ (.slice none 0 0)=wf at *
   refine bodyPost_ret (v:=.tuple #[.agg #[.int .i64 0,.slice none 0 0],.int .i64 1]) ?_ rfl ?_
   ·simp [results,Tryz.results50,go_sem,p0,p1]
   ·refine ⟨⟨tk,nx,wa,ca,cc,C,ha,hc,Hs,ra,rc,R⟩,.slice none 0 0,rfl,HBF.out,?_,World.ownsRow_nil _ _ _ _,(fun b hb=>nomatch (show none=some b from hb)),HTF.out⟩
    simp [bookV]
 | true =>
   obtain ⟨e0,e1,e2,e3,e4,e5,e6⟩:=rw7_cells HRe.out
   go_wp2_with fail
   refine (unhide HP (by simp) _ HKe.out).mono ?_
   rintro e w2 ⟨rfl,hk⟩
   clear e0 e1 e2 e3 e4 e5 e6 HP
   replace HB:=hide (HB.out.kept hk)
   replace HRe:=hide (hk.rowK HRe.out)
   replace HRr:=hide (hk.rowK HRr.out)
   replace HTW:=hide (HTW.out.trans' (Turn.of_keeps hk _))
   replace HKe:=hide (HKe.out.trans hk)
   clear hk
   cases past with
   | true =>
     obtain ⟨r0,r1⟩:=rw2_cells HRr.out
     have f0:=HRr.out.frozen 0
     have f1:=HRr.out.frozen 1
     have rl:=HRr.out.lt
     go_wp2_with fail
     have HFr:=hide (rw2_set HRr.out (.int .i64 0) (.slice none 0 0))
     have HTr:=hide (rw2_turn w2 pr (.int .i64 0) (.slice none 0 0))
     obtain ⟨p0,p1⟩:=rw2_cells HFr.out
     clear r0 r1 f0 f1 rl
     have HBF:=hide (HB.out.turn HTr.out (fun g hg=>by rw [List.mem_singleton.1 hg];exact .inr (HPO.out)) (by simpa using Ne.symm HAR.out.1) (fun g hg hx=>HAR.out.2.1 (by rw [← List.mem_singleton.1 hx];exact hg)) (fun g hg hx=>HAR.out.2.2.1 (by rw [← List.mem_singleton.1 hx];exact hg)) (fun g hg hx=>HAR.out.2.2.2 (by rw [← List.mem_singleton.1 hx];exact hg)))
     have HTF:=hide ((HTW.out.trans HTr.out).cut (fun q hq=>by rw [List.mem_singleton.1 hq];exact HPR.out))
     clear HFr HTr
     generalize (w2.setCell ⟨pr,0,none⟩ (.int .i64 0)).setCell ⟨pr,1,none⟩ (.slice none 0 0)=wf at *
     refine bodyPost_ret (v:=.tuple #[.agg #[.int .i64 0,.slice none 0 0],.int .i64 2]) ?_ rfl ?_
     ·simp [results,Tryz.results50,go_sem,p0,p1]
     ·refine ⟨⟨tk,nx,wa,ca,cc,C,ha,hc,Hs,ra,rc,R⟩,.slice none 0 0,rfl,HBF.out,?_,World.ownsRow_nil _ _ _ _,(fun b hb=>nomatch (show none=some b from hb)),HTF.out⟩
      simp [bookV]
   | false =>
     obtain ⟨e0,e1,e2,e3,e4,e5,e6⟩:=rw7_cells HRe.out
     go_wp2_with fail
     refine (deedA HKD.out _).mono ?_
     rintro e w3 ⟨rfl,rfl⟩
     obtain ⟨g,hg⟩:∃ g,dN kd=g:=⟨_,rfl⟩
     have hcf:=dN_call HKD.out
     rw [hg] at hcf
     rw [hg]
     go_wp2_with fail
     refine (unhide HD g hg (by simp) (by simp) _ _ HB.out.self HKe.out).mono ?_
     rintro e w4 ⟨B',v,rfl,hB',hd',ho',hap'⟩
     clear e0 e1 e2 e3 e4 e5 e6 HD
     have hpb:pr∉blksB p ⟨tk,nx,wa,ca,cc,C,ha,hc,Hs,ra,rc,R⟩:=by simp only [blksB,List.mem_cons,List.mem_append,not_or];exact ⟨HAR.out.1,HAR.out.2.1,HAR.out.2.2.1,HAR.out.2.2.2⟩
     have hpw:pr < w3.heap.size:=HRr.out.lt
     replace HRr:=hide (row_turn HRr.out hB'.keep hpb)
     replace HTW:=hide (HTW.out.trans' hB'.keep)
     have HAX:Hid (Apart pr p B'):=⟨HAR.out.1,fun hx=>(hB'.bC pr hx).elim hpb (fun h1=>by have h2:w3.heap.size≤pr:=h1;omega),fun hx=>(hB'.bH pr hx).elim hpb (fun h1=>by have h2:w3.heap.size≤pr:=h1;omega),fun hx=>(hB'.bR pr hx).elim hpb (fun h1=>by have h2:w3.heap.size≤pr:=h1;omega)⟩
     have HKs:=hide HKe.out.size
     replace HB:=hide (HB.out.back hB')
     replace HAR:=HAX
     clear HAX hB' HRe
     by_cases hc0:c=0
     ·subst hc0
      rw [if_pos rfl] at hd' ho'
      have HD':=hide hd'
      have HAP:=hide hap'
      clear hd' hap'
      by_cases hL:L=[]
      ·subst hL
       obtain ⟨a,cap,rfl,-⟩:=Own.of_owns ho'
       clear ho'
       have hll:(([]:List Ln).length:Int)=0:=rfl
       obtain ⟨r0,r1⟩:=rw2_cells HRr.out
       have f0:=HRr.out.frozen 0
       have f1:=HRr.out.frozen 1
       have rl:=HRr.out.lt
       go_wp2_with fail
       have HFr:=hide (rw2_set HRr.out (.int .i64 0) (.slice none 0 0))
       have HTr:=hide (rw2_turn w4 pr (.int .i64 0) (.slice none 0 0))
       obtain ⟨p0,p1⟩:=rw2_cells HFr.out
       clear r0 r1 f0 f1 rl
       have HBF:=hide (HB.out.turn HTr.out (fun g hg=>by rw [List.mem_singleton.1 hg];exact .inr (HPO.out)) (by simpa using Ne.symm HAR.out.1) (fun g hg hx=>HAR.out.2.1 (by rw [← List.mem_singleton.1 hx];exact hg)) (fun g hg hx=>HAR.out.2.2.1 (by rw [← List.mem_singleton.1 hx];exact hg)) (fun g hg hx=>HAR.out.2.2.2 (by rw [← List.mem_singleton.1 hx];exact hg)))
       have HTF:=hide ((HTW.out.trans HTr.out).cut (fun q hq=>by rw [List.mem_singleton.1 hq];exact HPR.out))
       clear HFr HTr
       generalize (w4.setCell ⟨pr,0,none⟩ (.int .i64 0)).setCell ⟨pr,1,none⟩ (.slice none 0 0)=wf at *
       refine bodyPost_ret (v:=.tuple #[.agg #[.int .i64 0,.slice none 0 0],.int .i64 0]) ?_ rfl ?_
       ·simp [results,Tryz.results50,go_sem,p0,p1]
       ·refine ⟨B',.slice none 0 0,rfl,HBF.out,?_,World.ownsRow_nil _ _ _ _,(fun b hb=>nomatch (show none=some b from hb)),HTF.out⟩
        simp [bookV]
        exact HD'.out
      ·obtain ⟨a,cap,rfl,-⟩:=Own.of_owns ho'
       have HO:=hide ho'
       have hl0:((L.length:Int)==0)=false:=by
        have:L.length≠0:=fun e=>hL (List.length_eq_zero_iff.1 e)
        simpa using this
       have HL0:=hide hL
       clear hL ho'
       obtain ⟨tk',nx',wa',ca',cc',C',ha',hc',Hs',ra',rc',R'⟩:=B'
       have HNN:Hid (nx'=K.nx):=by
        have:=HD'.out
        rw [← this];rfl
       obtain ⟨b0,b1,b2,b3,b4,b5⟩:=HB.out.cells
       dsimp only at b1
       clear b0 b2 b3 b4 b5
       have hnn:0≤nx'∧nx'≤1125899906842624:=by rw [HNN.out];exact HNX.out
       have hw1:IntKind.i64.wrap (nx'+1)=nx'+1:=by rw [IntKind.wrap_i64];omega
       have HKq:=hide (Keeps.alloc (Keeps.refl w4) (.cells #[.int .i64 nx',.slice a L.length cap] 37))
       have HRq:=hide (rw2_new w4 (.int .i64 nx') (.slice a L.length cap) 37)
       have hq:w4.heap.size≠pr∧w4.heap.size≠p:=by have:=HRr.out.lt;have:=HB.out.row.lt;omega
       go_upto_region 10 with fail
       replace HB:=hide (HB.out.kept HKq.out)
       replace HRr:=hide (HKq.out.rowK HRr.out)
       replace HTW:=hide (HTW.out.trans' (Turn.of_keeps HKq.out _))
       replace HO:=hide (owns_kept HO.out HKq.out)
       generalize w4.alloc (.cells #[.int .i64 nx',.slice a L.length cap] 37)=w5 at *
       generalize w4.heap.size=bq at *
       clear HKq b1
       obtain ⟨b0,b1,b2,b3,b4,b5⟩:=HB.out.cells
       dsimp only at b1
       clear b0 b2 b3 b4 b5
       have f1:=HB.out.row.frozen 1
       have HTp:Hid (Turn [p] w5 (w5.setCell ⟨p,1,none⟩ (.int .i64 (nx'+1)))):=Turn.set (by simp) _
       have hap:∀ b∈lb a,b≠p∧b≠pr:=fun b hb=>by
        have hob:(Value.slice a L.length cap).ownBlock=some b:=by
         cases a with
         | none=>simp [lb] at hb
         | some q=>simp [lb] at hb;rw [hb];rfl
        have h1:=HAP.out b hob
        have h2:=(owns_lb HO.out b hb).1
        exact ⟨h1.1,by omega⟩
       have HPP:=hide hap
       clear hap
       replace HO:=hide (owns_turn HO.out HTp.out (fun b hb hx=>(HPP.out b hb).1 (List.mem_singleton.1 hx)))
       have HB1:=hide (HB.out.setNx (nx'+1))
       replace HRr:=hide (row_turn HRr.out HTp.out (by simpa using HAR.out.1))
       replace HRq:=hide (row_turn HRq.out HTp.out (by simpa using hq.2))
       replace HTW:=hide (HTW.out.trans' (HTp.out.mono (gs:=blksB p ⟨tk,nx,wa,ca,cc,C,ha,hc,Hs,ra,rc,R⟩) (fun x hx=>by rw [List.mem_singleton.1 hx];simp [blksB])))
       go_upto_region 11 with fail
       generalize w5.setCell ⟨p,1,none⟩ (.int .i64 (nx'+1))=w6 at *
       replace HB:Hid (BoAt W w6 p ⟨tk',nx'+1,wa',ca',cc',C',ha',hc',Hs',ra',rc',R'⟩):=HB1.out
       clear HB1 b1 f1 HTp
       obtain ⟨z0,z1⟩:=rw2_cells HRq.out
       obtain ⟨r0,r1⟩:=rw2_cells HRr.out
       have f0:=HRr.out.frozen 0
       have f1:=HRr.out.frozen 1
       have rl:=HRr.out.lt
       go_wp2_with fail
       have HFr:=hide (rw2_set HRr.out (.int .i64 nx') (.slice a L.length cap))
       have HTr:=hide (rw2_turn w6 pr (.int .i64 nx') (.slice a L.length cap))
       obtain ⟨p0,p1⟩:=rw2_cells HFr.out
       clear r0 r1 f0 f1 rl z0 z1
       have HBF:=hide (HB.out.turn HTr.out (fun g hg=>by rw [List.mem_singleton.1 hg];exact .inr (HPO.out)) (by simpa using Ne.symm HAR.out.1) (fun g hg hx=>HAR.out.2.1 (by rw [← List.mem_singleton.1 hx];exact hg)) (fun g hg hx=>HAR.out.2.2.1 (by rw [← List.mem_singleton.1 hx];exact hg)) (fun g hg hx=>HAR.out.2.2.2 (by rw [← List.mem_singleton.1 hx];exact hg)))
       have HTF:=hide ((HTW.out.trans HTr.out).cut (fun q hq=>by rw [List.mem_singleton.1 hq];exact HPR.out))
       replace HO:=hide (owns_turn HO.out HTr.out (fun b hb hx=>(HPP.out b hb).2 (List.mem_singleton.1 hx)))
       clear HFr HTr
       generalize (w6.setCell ⟨pr,0,none⟩ (.int .i64 nx')).setCell ⟨pr,1,none⟩ (.slice a L.length cap)=wf at *
       refine bodyPost_ret (v:=.tuple #[.agg #[.int .i64 nx',.slice a L.length cap],.int .i64 0]) ?_ rfl ?_
       ·simp [results,Tryz.results50,go_sem,p0,p1]
       ·refine ⟨⟨tk',nx'+1,wa',ca',cc',C',ha',hc',Hs',ra',rc',R'⟩,.slice a L.length cap,?_,HBF.out,?_,owns_older HO.out HKs.out,HAP.out,HTF.out⟩
        ·simp [pidV,HL0.out,HNN.out]
        ·simp [bookV,HL0.out,← HD'.out]
         rfl
     ·rw [if_neg hc0] at hd' ho'
      have HD':=hide hd'
      obtain ⟨a,cap,rfl,-⟩:=Own.of_owns ho'
      have HC0:=hide hc0
      have hce:(c != 0)=true:=by simpa using hc0
      clear hd' hap' ho' hc0
      obtain ⟨r0,r1⟩:=rw2_cells HRr.out
      have f0:=HRr.out.frozen 0
      have f1:=HRr.out.frozen 1
      have rl:=HRr.out.lt
      go_wp2_with fail
      have HFr:=hide (rw2_set HRr.out (.int .i64 0) (.slice none 0 0))
      have HTr:=hide (rw2_turn w4 pr (.int .i64 0) (.slice none 0 0))
      obtain ⟨p0,p1⟩:=rw2_cells HFr.out
      clear r0 r1 f0 f1 rl
      have HBF:=hide (HB.out.turn HTr.out (fun g hg=>by rw [List.mem_singleton.1 hg];exact .inr (HPO.out)) (by simpa using Ne.symm HAR.out.1) (fun g hg hx=>HAR.out.2.1 (by rw [← List.mem_singleton.1 hx];exact hg)) (fun g hg hx=>HAR.out.2.2.1 (by rw [← List.mem_singleton.1 hx];exact hg)) (fun g hg hx=>HAR.out.2.2.2 (by rw [← List.mem_singleton.1 hx];exact hg)))
      have HTF:=hide ((HTW.out.trans HTr.out).cut (fun q hq=>by rw [List.mem_singleton.1 hq];exact HPR.out))
      clear HFr HTr
      generalize (w4.setCell ⟨pr,0,none⟩ (.int .i64 0)).setCell ⟨pr,1,none⟩ (.slice none 0 0)=wf at *
      refine bodyPost_ret (v:=.tuple #[.agg #[.int .i64 0,.slice none 0 0],.int .i64 c]) ?_ rfl ?_
      ·simp [results,Tryz.results50,go_sem,p0,p1]
      ·refine ⟨B',.slice none 0 0,?_,HBF.out,?_,?_,(fun b hb=>nomatch (show none=some b from hb)),HTF.out⟩
       ·simp [pidV,HC0.out]
       ·simp [bookV,HC0.out]
        exact HD'.out
       ·simp [linV,HC0.out]
        exact World.ownsRow_nil _ _ _ _
end Go.Proofs.YtccdhcempnkgaaaGreatDoor
namespace Go.Proofs.YtccdhcempnkgaaaGreatDoor
open Go.RowKit Go.Deep
set_option linter.unusedVariables false
set_option linter.unusedSimpArgs false
set_option maxRecDepth 10000
structure Right (B:Bk):Prop where
 tk:0≤B.tk∧B.tk≤1125899906842624
 wa:0≤B.wa∧B.wa≤1125899906842624
 nx:1≤B.nx∧B.nx≤1125899906842624
 lC:B.C.length≤20
 lH:B.Hs.length≤60
 lR:B.R.length≤20
 ids:B.C.Pairwise (fun x y=>x.id < y.id)
 cA:∀ c∈B.C,(0≤c.lo∧c.lo≤1125899906842624)∧0≤c.re∧c.re≤1125899906842624
 hA:∀ x∈B.Hs,twoB B.C x.inn x.out=true∧(0≤x.ai∧x.ai≤1125899906842624)∧1≤x.ao∧x.ao≤1125899906842624
 hG:∀ x∈B.Hs,0≤x.ag∧x.ag≤1125899906842624
 hO:∀ x∈B.Hs,x.ao≤x.ai
 rA:∀ x∈B.R,twoB B.C x.fr x.to=true∧(1≤x.am∧x.am≤1125899906842624)∧0≤x.fe∧x.fe≤1125899906842624
 kH:(B.Hs.map Htl.ky).Nodup
 kR:(B.R.map Crc.ky).Nodup
 zH:∀ x∈B.Hs,x.ky≠0
 zR:∀ x∈B.R,x.ky≠0
theorem posB_true {n:Int} (h:posB n=true):1≤n∧n≤1125899906842624:=by
 simp only [posB,Bool.and_eq_true,decide_eq_true_eq] at h
 have:=amtB_true h.1
 omega
theorem keyB_true {n:Int} (h:keyB n=true):1≤n:=by
 simp only [keyB,Bool.and_eq_true,decide_eq_true_eq] at h
 exact h.1
theorem right_of {B:Bk} (h:bookB B=true):Right B:=by
 simp only [bookB,Bool.and_eq_true] at h
 obtain ⟨⟨⟨hh,hu⟩,hi⟩,hc⟩:=h
 simp only [headB,Bool.and_eq_true,decide_eq_true_eq] at hh
 obtain ⟨⟨⟨⟨⟨h1,h2⟩,h3⟩,h4⟩,h5⟩,h6⟩:=hh
 simp only [underB,Bool.and_eq_true,List.all_eq_true] at hu
 obtain ⟨⟨u1,u2⟩,u3⟩:=hu
 simp only [keysB,keysL,Bool.and_eq_true,List.all_eq_true,decide_eq_true_eq] at u3
 obtain ⟨k1,k2⟩:=u3
 have k3:=List.nodup_append.1 (of_decide_eq_true k2)
 rw [List.all_eq_true] at hc
 have uH:∀ x∈B.Hs,posB x.ao=true∧amtB x.ai=true∧x.ao≤x.ai∧amtB x.ag=true∧twoB B.C x.inn x.out=true:=fun x hx=>by
  have:=u1 x hx
  simp only [htB,Bool.and_eq_true,decide_eq_true_eq] at this
  obtain ⟨⟨⟨⟨a,b⟩,c⟩,d⟩,e⟩:=this
  exact ⟨a,b,c,d,e⟩
 have uR:∀ x∈B.R,posB x.am=true∧amtB x.fe=true∧twoB B.C x.fr x.to=true:=fun x hx=>by
  have:=u2 x hx
  simp only [crB,Bool.and_eq_true] at this
  exact ⟨this.1.1,this.1.2,this.2⟩
 have uC:∀ c∈B.C,amtB c.lo=true∧amtB c.re=true:=fun c hx=>by
  have:=hc c hx
  simp only [chanB,fieldsB,Bool.and_eq_true] at this
  exact ⟨this.1.1.1.1.1,this.1.1.1.1.2⟩
 exact ⟨amtB_true h1,amtB_true h2,posB_true h3,h4,h5,h6,ids_asc hi,fun c hx=>⟨amtB_true (uC c hx).1,amtB_true (uC c hx).2⟩,fun x hx=>⟨(uH x hx).2.2.2.2,amtB_true (uH x hx).2.1,posB_true (uH x hx).1⟩,fun x hx=>amtB_true (uH x hx).2.2.2.1,fun x hx=>(uH x hx).2.2.1,fun x hx=>⟨(uR x hx).2.2,posB_true (uR x hx).1,amtB_true (uR x hx).2.1⟩,k3.1,k3.2.1,
  fun x hx=>by have:=keyB_true (k1 _ (List.mem_append_left _ (List.mem_map_of_mem hx)));omega,fun x hx=>by have:=keyB_true (k1 _ (List.mem_append_right _ (List.mem_map_of_mem hx)));omega⟩
theorem Right.small {B:Bk} (h:Right B):Small B :=
 ⟨fun x hx=>by have:=(h.hA x hx).2;omega,fun x hx=>by have:=(h.rA x hx).2;omega,h.lH,h.lR⟩
theorem sum_nonneg {α:Type} (f:α→Int):∀ (L:List α),(∀ x∈L,0≤f x)→0≤(L.map f).sum∧(0 < (L.map f).sum↔∃ x∈L,0 < f x)
 | [],_=>by simp
 | x :: L,h=>by
   obtain ⟨h1,h2⟩:=sum_nonneg f L (fun y hy=>h y (List.mem_cons_of_mem _ hy))
   have hx:=h x (List.mem_cons_self ..)
   simp only [List.map_cons,List.sum_cons]
   refine ⟨by omega,?_⟩
   constructor
   ·intro hp
    by_cases h0:0 < f x
    ·exact ⟨x,by simp,h0⟩
    ·obtain ⟨y,hy,hp2⟩:=h2.1 (by omega)
     exact ⟨y,List.mem_cons_of_mem _ hy,hp2⟩
   ·rintro ⟨y,hy,hp⟩
    rcases List.mem_cons.1 hy with rfl | hy
    ·omega
    ·have:=h2.2 ⟨y,hy,hp⟩;omega
theorem Right.sums {B:Bk} (h:Right B) (ch:Int):(0≤outV B ch∧outV B ch≤1152921504606846976)∧(0≤inV B ch∧inV B ch≤1152921504606846976)∧decide (0 < outV B ch+inV B ch)=busyB B.Hs B.R ch:=by
 have o1:=sum_bound (fun x:Htl=>if x.out=ch then x.ao else 0) 1125899906842624 B.Hs (fun x hx=>by have:=(h.hA x hx).2;split <;> omega)
 have o2:=sum_bound (fun x:Crc=>if x.fr=ch then x.am+x.fe else 0) 2251799813685248 B.R (fun x hx=>by have:=(h.rA x hx).2;split <;> omega)
 have i1:=sum_bound (fun x:Htl=>if x.inn=ch then x.ai else 0) 1125899906842624 B.Hs (fun x hx=>by have:=(h.hA x hx).2;split <;> omega)
 have i2:=sum_bound (fun x:Crc=>if x.to=ch then x.am else 0) 1125899906842624 B.R (fun x hx=>by have:=(h.rA x hx).2;split <;> omega)
 have s1:=(sum_nonneg (fun x:Htl=>if x.out=ch then x.ao else 0) B.Hs (fun x hx=>by have:=(h.hA x hx).2;split <;> omega)).2
 have s2:=(sum_nonneg (fun x:Crc=>if x.fr=ch then x.am+x.fe else 0) B.R (fun x hx=>by have:=(h.rA x hx).2;split <;> omega)).2
 have s3:=(sum_nonneg (fun x:Htl=>if x.inn=ch then x.ai else 0) B.Hs (fun x hx=>by have:=(h.hA x hx).2;split <;> omega)).2
 have s4:=(sum_nonneg (fun x:Crc=>if x.to=ch then x.am else 0) B.R (fun x hx=>by have:=(h.rA x hx).2;split <;> omega)).2
 have lh:=h.lH
 have lr:=h.lR
 have e1:outV B ch=(B.Hs.map fun x=>if x.out=ch then x.ao else 0).sum+(B.R.map fun x=>if x.fr=ch then x.am+x.fe else 0).sum:=rfl
 have e2:inV B ch=(B.Hs.map fun x=>if x.inn=ch then x.ai else 0).sum+(B.R.map fun x=>if x.to=ch then x.am else 0).sum:=rfl
 refine ⟨by rw [e1];omega,by rw [e2];omega,?_⟩
 have hb:busyB B.Hs B.R ch=true↔(∃ x∈B.Hs,x.inn=ch∨x.out=ch)∨∃ x∈B.R,x.fr=ch∨x.to=ch:=by simp [busyB]
 rw [Bool.eq_iff_iff,hb,decide_eq_true_eq,e1,e2]
 constructor
 ·intro hp
  rcases (show 0 < (B.Hs.map fun x=>if x.out=ch then x.ao else 0).sum∨0 < (B.R.map fun x=>if x.fr=ch then x.am+x.fe else 0).sum∨0 < (B.Hs.map fun x=>if x.inn=ch then x.ai else 0).sum∨0 < (B.R.map fun x=>if x.to=ch then x.am else 0).sum by omega) with hp | hp | hp | hp
  ·obtain ⟨x,hx,hy⟩:=s1.1 hp
   exact .inl ⟨x,hx,.inr (by split at hy <;> first | assumption | omega)⟩
  ·obtain ⟨x,hx,hy⟩:=s2.1 hp
   exact .inr ⟨x,hx,.inl (by split at hy <;> first | assumption | omega)⟩
  ·obtain ⟨x,hx,hy⟩:=s3.1 hp
   exact .inl ⟨x,hx,.inl (by split at hy <;> first | assumption | omega)⟩
  ·obtain ⟨x,hx,hy⟩:=s4.1 hp
   exact .inr ⟨x,hx,.inr (by split at hy <;> first | assumption | omega)⟩
 ·rintro (⟨x,hx,hy | hy⟩ | ⟨x,hx,hy | hy⟩)
  ·have:=s3.2 ⟨x,hx,by have:=(h.hA x hx).2;have:=h.hO x hx;rw [if_pos hy];omega⟩
   omega
  ·have:=s1.2 ⟨x,hx,by have:=(h.hA x hx).2;rw [if_pos hy];omega⟩
   omega
  ·have:=s2.2 ⟨x,hx,by have:=(h.rA x hx).2;rw [if_pos hy];omega⟩
   omega
  ·have:=s4.2 ⟨x,hx,by have:=(h.rA x hx).2;rw [if_pos hy];omega⟩
   omega
set_option maxHeartbeats 8000000 in
theorem perform0 (W:Wf) (w:World) (p:Nat) (tk nx wa:Int) (ca:Option Addr) (cc:Nat) (C:List Chn) (ha:Option Addr) (hc:Nat) (Hs:List Htl) (ra:Option Addr) (rc:Nat) (R:List Crc) (h:BoAt W w p ⟨tk,nx,wa,ca,cc,C,ha,hc,Hs,ra,rc,R⟩) (kd ky ch tt am fe:Int) (ys:Bool) (K:Bk) (L:List Ln) (hnx:0≤K.nx∧K.nx≤1125899906842624)
 (hE:∀ w',Calls Tryz.prog 95 #[evV kd ky ch tt am fe ys] w' fun e w''=>e=.returned (.bool false)∧Keeps w' w'') :
 Calls Tryz.prog 50 #[.pointer (some ⟨p,0,none⟩),evV kd ky ch tt am fe ys] w fun e w'=>Perf W w w' p 1 ⟨tk,nx,wa,ca,cc,C,ha,hc,Hs,ra,rc,R⟩ K L e:=by
 have HKe:=hide ((Keeps.refl w).alloc (.cells #[.int .i64 kd,.int .i64 ky,.int .i64 ch,.int .i64 tt,.int .i64 am,.int .i64 fe,.bool ys] 41) |>.alloc (.cells #[.int .i64 0,.slice none 0 0] 37))
 have HRe:=hide (((Keeps.refl _).alloc (.cells #[.int .i64 0,.slice none 0 0] 37)).rowK (rw7_new w (.int .i64 kd) (.int .i64 ky) (.int .i64 ch) (.int .i64 tt) (.int .i64 am) (.int .i64 fe) (.bool ys) 41))
 have HRr:=hide (rw2_new (w.alloc (.cells #[.int .i64 kd,.int .i64 ky,.int .i64 ch,.int .i64 tt,.int .i64 am,.int .i64 fe,.bool ys] 41)) (.int .i64 0) (.slice none 0 0) 37)
 rw [size_alloc1] at HRr
 have HB:=hide (h.kept HKe.out)
 have HAR:=hide (h.apart (Nat.le_succ w.heap.size))
 have HPR:=hide (Nat.le_succ w.heap.size)
 have HPO:=hide (Nat.le_trans h.keep.size (Nat.le_succ w.heap.size))
 have HBK:=hide h.blk
 have HTW:=hide (Turn.of_keeps HKe.out (blksB p ⟨tk,nx,wa,ca,cc,C,ha,hc,Hs,ra,rc,R⟩))
 have HE:=hide hE
 have HNX:=hide hnx
 clear h hE hnx
 change Hid (Apart (w.heap.size+1) p _) at HAR
 change Hid (w.heap.size≤w.heap.size+1) at HPR
 change Hid (_≤w.heap.size+1) at HPO
 go_enter Tryz.func50,Tryz.ntmps50
 go_upto_region 1 with fail
 try simp only [size_alloc1]
 generalize (w.alloc (.cells #[.int .i64 kd,.int .i64 ky,.int .i64 ch,.int .i64 tt,.int .i64 am,.int .i64 fe,.bool ys] 41)).alloc (.cells #[.int .i64 0,.slice none 0 0] 37)=w0 at *
 generalize w.heap.size+1=pr at *
 obtain ⟨pe,hpe⟩:∃ pe,pe=w.heap.size:=⟨_,rfl⟩
 rw [← hpe] at HRe
 try rw [← hpe]
 have HPE:=hide hpe
 clear hpe
 obtain ⟨e0,e1,e2,e3,e4,e5,e6⟩:=rw7_cells HRe.out
 go_wp2_with fail
 refine (unhide HE _).mono ?_
 rintro e w1 ⟨rfl,hk⟩
 clear e0 e1 e2 e3 e4 e5 e6 HE
 replace HB:=hide (HB.out.kept hk)
 replace HRe:=hide (hk.rowK HRe.out)
 replace HRr:=hide (hk.rowK HRr.out)
 replace HTW:=hide (HTW.out.trans' (Turn.of_keeps hk _))
 replace HKe:=hide (HKe.out.trans hk)
 clear hk
 obtain ⟨r0,r1⟩:=rw2_cells HRr.out
 have f0:=HRr.out.frozen 0
 have f1:=HRr.out.frozen 1
 have rl:=HRr.out.lt
 go_wp2_with fail
 have HFr:=hide (rw2_set HRr.out (.int .i64 0) (.slice none 0 0))
 have HTr:=hide (rw2_turn w1 pr (.int .i64 0) (.slice none 0 0))
 obtain ⟨p0,p1⟩:=rw2_cells HFr.out
 clear r0 r1 f0 f1 rl
 have HBF:=hide (HB.out.turn HTr.out (fun g hg=>by rw [List.mem_singleton.1 hg];exact .inr (HPO.out)) (by simpa using Ne.symm HAR.out.1) (fun g hg hx=>HAR.out.2.1 (by rw [← List.mem_singleton.1 hx];exact hg)) (fun g hg hx=>HAR.out.2.2.1 (by rw [← List.mem_singleton.1 hx];exact hg)) (fun g hg hx=>HAR.out.2.2.2 (by rw [← List.mem_singleton.1 hx];exact hg)))
 have HTF:=hide ((HTW.out.trans HTr.out).cut (fun q hq=>by rw [List.mem_singleton.1 hq];exact HPR.out))
 clear HFr HTr
 generalize (w1.setCell ⟨pr,0,none⟩ (.int .i64 0)).setCell ⟨pr,1,none⟩ (.slice none 0 0)=wf at *
 refine bodyPost_ret (v:=.tuple #[.agg #[.int .i64 0,.slice none 0 0],.int .i64 1]) ?_ rfl ?_
 ·simp [results,Tryz.results50,go_sem,p0,p1]
 ·refine ⟨⟨tk,nx,wa,ca,cc,C,ha,hc,Hs,ra,rc,R⟩,.slice none 0 0,rfl,HBF.out,?_,World.ownsRow_nil _ _ _ _,(fun b hb=>nomatch (show none=some b from hb)),HTF.out⟩
  simp [bookV]
end Go.Proofs.YtccdhcempnkgaaaGreatDoor
