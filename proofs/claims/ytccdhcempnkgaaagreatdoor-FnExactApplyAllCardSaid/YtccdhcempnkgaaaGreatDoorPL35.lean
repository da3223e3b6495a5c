/- Texts of the verifier, joined: Xj, BkF, Yg. -/
import Derived.Test.YtccdhcempnkgaaaGreatDoorPL19
import Derived.Lib.SliceRun
import Derived.Test.YtccdhcempnkgaaaGreatDoorPL10
import Derived.Test.YtccdhcempnkgaaaGreatDoorPL34
namespace Go.Proofs.YtccdhcempnkgaaaGreatDoor
open Go.RowKit Go.Deep
set_option linter.unusedVariables false
set_option linter.unusedSimpArgs false
set_option maxRecDepth 10000
set_option maxHeartbeats 2000000 in
theorem cloneC_impl (a:Option Addr) (c:Nat) (L:List Chn) (w:World) (hc:Cells w a (chs L)) (hn:a=none→c=0) (hl:L.length≤1048576) :
 Calls Tryz.prog 92 #[.slice a L.length c] w fun e w'=>∃ v,e=.returned v∧OwnsChan w' w.heap.size v L∧Keeps w w':=by
 cases a with
 | none =>
   obtain rfl:=hn rfl
   have h0:L=[]:=by
    rcases hc with hc | ⟨_,_,e,_⟩
    ·exact cells_Chan.1 hc
    ·cases e
   subst h0
   clear hc hn
   have hq:∀ w,(binOp .eql 30 (.slice none 0 0) (.slice none 0 0)).run Tryz.prog w=.ok (.bool true) w:=fun w=>Lib.run_eql_slice_nil w 30 78 none 0 0 0 0 underChans
   go_enter Tryz.func92,Tryz.ntmps92
   go_wp2_with fail
   go_ret
   exact ⟨_,rfl,World.ownsRow_nil _ _ _ _,Keeps.refl _⟩
 | some p =>
   have HOX:=hide (World.ownsRow_made (base:=w.heap.size) (e:=78) (size:=7) w #[] 0 (Nat.le_refl _) (by simp only [maxLen];omega) (by simp))
   have HKX:=hide ((Keeps.refl w).alloc (.cells #[] 78))
   have HMX:=hide (hc.kept HKX.out)
   clear hc hn
   have hq:∀ w,(binOp .eql 30 (.slice (some p) L.length c) (.slice none 0 0)).run Tryz.prog w=.ok (.bool false) w:=fun w=>Lib.run_eql_slice_nil w 30 78 (some p) L.length c 0 0 underChans
   go_enter Tryz.func92,Tryz.ntmps92
   go_wp2_with (at_builtin;refine app_Chan rfl (.tmp 5) (.tmp 6) rfl w.heap.size _ [] L rfl (some p) c rfl HMX.out (fun h=>nomatch h) HOX.out (by simp;omega) HKX.out.size ?_;intro v' w' ho hg hn2;rw [List.nil_append] at ho;have HF:=hide ho;have HKF:=hide (Keeps.grown HKX.out hg (fun q hq=>by rw [← Option.some.inj (show some w.heap.size=some q from hq)];exact Nat.le_refl _));clear ho hg hn2)
   go_ret
   exact ⟨_,rfl,HF.out,HKF.out⟩
set_option maxHeartbeats 2000000 in
theorem cloneH_impl (a:Option Addr) (c:Nat) (L:List Htl) (w:World) (hc:Cells w a (hts L)) (hn:a=none→c=0) (hl:L.length≤1048576) :
 Calls Tryz.prog 93 #[.slice a L.length c] w fun e w'=>∃ v,e=.returned v∧OwnsHtlc w' w.heap.size v L∧Keeps w w':=by
 cases a with
 | none =>
   obtain rfl:=hn rfl
   have h0:L=[]:=by
    rcases hc with hc | ⟨_,_,e,_⟩
    ·exact cells_Htlc.1 hc
    ·cases e
   subst h0
   clear hc hn
   have hq:∀ w,(binOp .eql 31 (.slice none 0 0) (.slice none 0 0)).run Tryz.prog w=.ok (.bool true) w:=fun w=>Lib.run_eql_slice_nil w 31 112 none 0 0 0 0 underHtlcs
   go_enter Tryz.func93,Tryz.ntmps93
   go_wp2_with fail
   go_ret
   exact ⟨_,rfl,World.ownsRow_nil _ _ _ _,Keeps.refl _⟩
 | some p =>
   have HOX:=hide (World.ownsRow_made (base:=w.heap.size) (e:=112) (size:=7) w #[] 0 (Nat.le_refl _) (by simp only [maxLen];omega) (by simp))
   have HKX:=hide ((Keeps.refl w).alloc (.cells #[] 112))
   have HMX:=hide (hc.kept HKX.out)
   clear hc hn
   have hq:∀ w,(binOp .eql 31 (.slice (some p) L.length c) (.slice none 0 0)).run Tryz.prog w=.ok (.bool false) w:=fun w=>Lib.run_eql_slice_nil w 31 112 (some p) L.length c 0 0 underHtlcs
   go_enter Tryz.func93,Tryz.ntmps93
   go_wp2_with (at_builtin;refine app_Htlc rfl (.tmp 5) (.tmp 6) rfl w.heap.size _ [] L rfl (some p) c rfl HMX.out (fun h=>nomatch h) HOX.out (by simp;omega) HKX.out.size ?_;intro v' w' ho hg hn2;rw [List.nil_append] at ho;have HF:=hide ho;have HKF:=hide (Keeps.grown HKX.out hg (fun q hq=>by rw [← Option.some.inj (show some w.heap.size=some q from hq)];exact Nat.le_refl _));clear ho hg hn2)
   go_ret
   exact ⟨_,rfl,HF.out,HKF.out⟩
set_option maxHeartbeats 2000000 in
theorem cloneR_impl (a:Option Addr) (c:Nat) (L:List Crc) (w:World) (hc:Cells w a (crs L)) (hn:a=none→c=0) (hl:L.length≤1048576) :
 Calls Tryz.prog 94 #[.slice a L.length c] w fun e w'=>∃ v,e=.returned v∧OwnsCircle w' w.heap.size v L∧Keeps w w':=by
 cases a with
 | none =>
   obtain rfl:=hn rfl
   have h0:L=[]:=by
    rcases hc with hc | ⟨_,_,e,_⟩
    ·exact cells_Circle.1 hc
    ·cases e
   subst h0
   clear hc hn
   have hq:∀ w,(binOp .eql 32 (.slice none 0 0) (.slice none 0 0)).run Tryz.prog w=.ok (.bool true) w:=fun w=>Lib.run_eql_slice_nil w 32 115 none 0 0 0 0 underCircles
   go_enter Tryz.func94,Tryz.ntmps94
   go_wp2_with fail
   go_ret
   exact ⟨_,rfl,World.ownsRow_nil _ _ _ _,Keeps.refl _⟩
 | some p =>
   have HOX:=hide (World.ownsRow_made (base:=w.heap.size) (e:=115) (size:=5) w #[] 0 (Nat.le_refl _) (by simp only [maxLen];omega) (by simp))
   have HKX:=hide ((Keeps.refl w).alloc (.cells #[] 115))
   have HMX:=hide (hc.kept HKX.out)
   clear hc hn
   have hq:∀ w,(binOp .eql 32 (.slice (some p) L.length c) (.slice none 0 0)).run Tryz.prog w=.ok (.bool false) w:=fun w=>Lib.run_eql_slice_nil w 32 115 (some p) L.length c 0 0 underCircles
   go_enter Tryz.func94,Tryz.ntmps94
   go_wp2_with (at_builtin;refine app_Circle rfl (.tmp 5) (.tmp 6) rfl w.heap.size _ [] L rfl (some p) c rfl HMX.out (fun h=>nomatch h) HOX.out (by simp;omega) HKX.out.size ?_;intro v' w' ho hg hn2;rw [List.nil_append] at ho;have HF:=hide ho;have HKF:=hide (Keeps.grown HKX.out hg (fun q hq=>by rw [← Option.some.inj (show some w.heap.size=some q from hq)];exact Nat.le_refl _));clear ho hg hn2)
   go_ret
   exact ⟨_,rfl,HF.out,HKF.out⟩
structure CopiedP (w w':World) (B:Bo):Prop where
 keep:Keeps w w'
 oC:OwnsChan w' w.heap.size (.slice B.ca B.C.length B.cc) B.C
 oH:OwnsHtlc w' w.heap.size (.slice B.ha B.Hs.length B.hc) B.Hs
 oR:OwnsCircle w' w.heap.size (.slice B.ra B.R.length B.rc) B.R
 dC:∀ g∈lb B.ca,g∉lb B.ha∧g∉lb B.ra
 dH:∀ g∈lb B.ha,g∉lb B.ra
set_option maxHeartbeats 8000000 in
theorem copy_impl (B:Bo) (w:World) (hm:Mem w B.segs) (hf:B.fit) (hl:B.len):Calls Tryz.prog 49 #[B.v] w fun e w'=>∃ B':Bo,e=.returned B'.v∧B'.d=B.d∧CopiedP w w' B':=by
 obtain ⟨tk,nx,wa,ca,cc,C,ha,hc,Hs,ra,rc,R⟩:=B
 have HCC:=hide (fun w' (hk:Keeps w w')=>cloneC_impl ca cc C w' (Bo.memC (hm.kept hk)) hf.1 hl.1)
 have HCH:=hide (fun w' (hk:Keeps w w')=>cloneH_impl ha hc Hs w' (Bo.memH (hm.kept hk)) hf.2.1 hl.2.1)
 have HCR:=hide (fun w' (hk:Keeps w w')=>cloneR_impl ra rc R w' (Bo.memR (hm.kept hk)) hf.2.2.1 hl.2.2)
 clear hm hf hl
 dsimp only [Bo.d,Bo.v] at *
 have HRB:=hide ((((Keeps.refl _).alloc (.cells #[.int .i64 0,.int .i64 0,.int .i64 0,.slice none 0 0,.slice none 0 0,.slice none 0 0] 34)).rowK (row6_alloc w (.int .i64 tk) (.int .i64 nx) (.int .i64 wa) (.slice ca C.length cc) (.slice ha Hs.length hc) (.slice ra R.length rc) 34)))
 have HRR:=hide (row6_alloc (w.alloc (.cells #[.int .i64 tk,.int .i64 nx,.int .i64 wa,.slice ca C.length cc,.slice ha Hs.length hc,.slice ra R.length rc] 34)) (.int .i64 0) (.int .i64 0) (.int .i64 0) (.slice none 0 0) (.slice none 0 0) (.slice none 0 0) 34)
 have HK0:=hide (((Keeps.refl w).alloc (.cells #[.int .i64 tk,.int .i64 nx,.int .i64 wa,.slice ca C.length cc,.slice ha Hs.length hc,.slice ra R.length rc] 34)).alloc (.cells #[.int .i64 0,.int .i64 0,.int .i64 0,.slice none 0 0,.slice none 0 0,.slice none 0 0] 34))
 rw [size_alloc1] at HRR
 obtain ⟨pb,hpb⟩:∃ pb,pb=w.heap.size:=⟨_,rfl⟩
 obtain ⟨pr,hpr⟩:∃ pr,pr=w.heap.size+1:=⟨_,rfl⟩
 have HPE:=hide (And.intro hpb hpr)
 rw [← hpb] at HRB
 rw [← hpr] at HRR
 have hne:pb≠pr:=by omega
 clear hpb hpr
 go_enter Tryz.func49,Tryz.ntmps49
 go_upto_region 1 with fail
 try simp only [size_alloc1]
 rw [← HPE.out.2,← HPE.out.1]
 generalize (w.alloc (.cells #[.int .i64 tk,.int .i64 nx,.int .i64 wa,.slice ca C.length cc,.slice ha Hs.length hc,.slice ra R.length rc] 34)).alloc (.cells #[.int .i64 0,.int .i64 0,.int .i64 0,.slice none 0 0,.slice none 0 0,.slice none 0 0] 34)=u0 at *
 have q:=(row6_cells HRB.out).2.2.2.1
 go_wp2_with fail
 refine (unhide HCC _ HK0.out).mono ?_
 rintro e w' ⟨v,rfl,ho,hk⟩
 obtain ⟨a0,c0,rfl,-⟩:=Own.of_owns ho
 have HL0:Hid (∀ g∈lb a0,u0.heap.size≤g∧g < w'.heap.size):=owns_lb ho
 have hlp:=HRB.out.lt
 have hlr:=HRR.out.lt
 have HT:Hid (Turn [pb] w' (w'.setCell ⟨pb,3,none⟩ (.slice a0 C.length c0))):=Turn.set (by simp) _
 have HO0:Hid (OwnsChan (w'.setCell ⟨pb,3,none⟩ (.slice a0 C.length c0)) w.heap.size (.slice a0 C.length c0) C):=owns_turn (owns_older ho HK0.out.size) HT.out (fun g hg hx=>by have:=(HL0.out g hg).1;rw [List.mem_singleton.1 hx] at this;omega)
 have HPB0:Hid (pb < u0.heap.size):=hlp
 have HPR0:Hid (pr < u0.heap.size):=hlr
 have q2:=(row6_cells (hk.rowK HRB.out)).2.2.2.1
 have qf:=(hk.rowK HRB.out).frozen 3
 have ql:=(hk.rowK HRB.out).lt
 replace HRR:=hide ((hk.rowK HRR.out).setOther (a:=⟨pb,3,none⟩) (Ne.symm hne) (.slice a0 C.length c0))
 replace HRB:=hide (row6_3 (hk.rowK HRB.out) (.slice a0 C.length c0))
 replace HK0:=hide ((HK0.out.trans hk).setCell (p:=⟨pb,3,none⟩) (by rw [HPE.out.1];exact Nat.le_refl _) (.slice a0 C.length c0))
 have hsz:(w'.setCell ⟨pb,3,none⟩ (.slice a0 C.length c0)).heap.size=w'.heap.size:=by rw [nblk_setCell]
 clear hk ho q HT hlp hlr
 go_upto_region 2 with fail
 generalize w'.setCell ⟨pb,3,none⟩ (.slice a0 C.length c0)=u1 at *
 have HM0:Hid (∀ g∈lb a0,g < u1.heap.size):=fun g hg=>by rw [hsz];exact (HL0.out g hg).2
 clear hsz q2 qf ql
 have q:=(row6_cells HRB.out).2.2.2.2.1
 go_wp2_with fail
 refine (unhide HCH _ HK0.out).mono ?_
 rintro e w' ⟨v,rfl,ho,hk⟩
 obtain ⟨a1,c1,rfl,-⟩:=Own.of_owns ho
 have HL1:Hid (∀ g∈lb a1,u1.heap.size≤g∧g < w'.heap.size):=owns_lb ho
 have hlp:=HRB.out.lt
 have hlr:=HRR.out.lt
 have HT:Hid (Turn [pb] w' (w'.setCell ⟨pb,4,none⟩ (.slice a1 Hs.length c1))):=Turn.set (by simp) _
 have HO1:Hid (OwnsHtlc (w'.setCell ⟨pb,4,none⟩ (.slice a1 Hs.length c1)) w.heap.size (.slice a1 Hs.length c1) Hs):=owns_turn (owns_older ho HK0.out.size) HT.out (fun g hg hx=>by have:=(HL1.out g hg).1;rw [List.mem_singleton.1 hx] at this;omega)
 replace HO0:=hide (owns_turn (owns_kept HO0.out hk) HT.out (fun g hg hx=>by have:=(HL0.out g hg).1;have:=HPB0.out;rw [List.mem_singleton.1 hx] at *;omega))
 have HD01:Hid (∀ g∈lb a0,g∉lb a1):=fun g hg hx=>by have h1:=(HM0.out g hg);have h2:=(HL1.out g hx).1;omega
 have HPB1:Hid (pb < u1.heap.size):=hlp
 have HPR1:Hid (pr < u1.heap.size):=hlr
 have q2:=(row6_cells (hk.rowK HRB.out)).2.2.2.2.1
 have qf:=(hk.rowK HRB.out).frozen 4
 have ql:=(hk.rowK HRB.out).lt
 replace HRR:=hide ((hk.rowK HRR.out).setOther (a:=⟨pb,4,none⟩) (Ne.symm hne) (.slice a1 Hs.length c1))
 replace HRB:=hide (row6_4 (hk.rowK HRB.out) (.slice a1 Hs.length c1))
 replace HK0:=hide ((HK0.out.trans hk).setCell (p:=⟨pb,4,none⟩) (by rw [HPE.out.1];exact Nat.le_refl _) (.slice a1 Hs.length c1))
 have hsz:(w'.setCell ⟨pb,4,none⟩ (.slice a1 Hs.length c1)).heap.size=w'.heap.size:=by rw [nblk_setCell]
 clear hk ho q HT hlp hlr
 go_upto_region 3 with fail
 generalize w'.setCell ⟨pb,4,none⟩ (.slice a1 Hs.length c1)=u2 at *
 have HM1:Hid (∀ g∈lb a1,g < u2.heap.size):=fun g hg=>by rw [hsz];exact (HL1.out g hg).2
 clear hsz q2 qf ql
 replace HM0:Hid (∀ g∈lb a0,g < u2.heap.size):=fun g hg=>(owns_lb HO0.out g hg).2
 have q:=(row6_cells HRB.out).2.2.2.2.2
 go_wp2_with fail
 refine (unhide HCR _ HK0.out).mono ?_
 rintro e w' ⟨v,rfl,ho,hk⟩
 obtain ⟨a2,c2,rfl,-⟩:=Own.of_owns ho
 have HL2:Hid (∀ g∈lb a2,u2.heap.size≤g∧g < w'.heap.size):=owns_lb ho
 have hlp:=HRB.out.lt
 have hlr:=HRR.out.lt
 have HT:Hid (Turn [pb] w' (w'.setCell ⟨pb,5,none⟩ (.slice a2 R.length c2))):=Turn.set (by simp) _
 have HO2:Hid (OwnsCircle (w'.setCell ⟨pb,5,none⟩ (.slice a2 R.length c2)) w.heap.size (.slice a2 R.length c2) R):=owns_turn (owns_older ho HK0.out.size) HT.out (fun g hg hx=>by have:=(HL2.out g hg).1;rw [List.mem_singleton.1 hx] at this;omega)
 replace HO0:=hide (owns_turn (owns_kept HO0.out hk) HT.out (fun g hg hx=>by have:=(HL0.out g hg).1;have:=HPB0.out;rw [List.mem_singleton.1 hx] at *;omega))
 have HD02:Hid (∀ g∈lb a0,g∉lb a2):=fun g hg hx=>by have h1:=(HM0.out g hg);have h2:=(HL2.out g hx).1;omega
 replace HO1:=hide (owns_turn (owns_kept HO1.out hk) HT.out (fun g hg hx=>by have:=(HL1.out g hg).1;have:=HPB1.out;rw [List.mem_singleton.1 hx] at *;omega))
 have HD12:Hid (∀ g∈lb a1,g∉lb a2):=fun g hg hx=>by have h1:=(HM1.out g hg);have h2:=(HL2.out g hx).1;omega
 have HPB2:Hid (pb < u2.heap.size):=hlp
 have HPR2:Hid (pr < u2.heap.size):=hlr
 have q2:=(row6_cells (hk.rowK HRB.out)).2.2.2.2.2
 have qf:=(hk.rowK HRB.out).frozen 5
 have ql:=(hk.rowK HRB.out).lt
 replace HRR:=hide ((hk.rowK HRR.out).setOther (a:=⟨pb,5,none⟩) (Ne.symm hne) (.slice a2 R.length c2))
 replace HRB:=hide (row6_5 (hk.rowK HRB.out) (.slice a2 R.length c2))
 replace HK0:=hide ((HK0.out.trans hk).setCell (p:=⟨pb,5,none⟩) (by rw [HPE.out.1];exact Nat.le_refl _) (.slice a2 R.length c2))
 have hsz:(w'.setCell ⟨pb,5,none⟩ (.slice a2 R.length c2)).heap.size=w'.heap.size:=by rw [nblk_setCell]
 clear hk ho q HT hlp hlr
 go_upto_region 4 with fail
 generalize w'.setCell ⟨pb,5,none⟩ (.slice a2 R.length c2)=u3 at *
 have HM2:Hid (∀ g∈lb a2,g < u3.heap.size):=fun g hg=>by rw [hsz];exact (HL2.out g hg).2
 clear hsz q2 qf ql
 replace HM0:Hid (∀ g∈lb a0,g < u3.heap.size):=fun g hg=>(owns_lb HO0.out g hg).2
 replace HM1:Hid (∀ g∈lb a1,g < u3.heap.size):=fun g hg=>(owns_lb HO1.out g hg).2
 obtain ⟨e0,e1,e2,e3,e4,e5⟩:=row6_cells HRB.out
 obtain ⟨b0,b1,b2,b3,b4,b5⟩:=row6_cells HRR.out
 have k0:=HRR.out.frozen 0
 have k1:=HRR.out.frozen 1
 have k2:=HRR.out.frozen 2
 have k3:=HRR.out.frozen 3
 have k4:=HRR.out.frozen 4
 have k5:=HRR.out.frozen 5
 go_wp2_with fail
 have HTF:Hid (Turn [pr] u3 ((((((u3.setCell ⟨pr,0,none⟩ (.int .i64 tk)).setCell ⟨pr,1,none⟩ (.int .i64 nx)).setCell ⟨pr,2,none⟩ (.int .i64 wa)).setCell ⟨pr,3,none⟩ (.slice a0 C.length c0)).setCell ⟨pr,4,none⟩ (.slice a1 Hs.length c1)).setCell ⟨pr,5,none⟩ (.slice a2 R.length c2))):=((((((Turn.set (by simp) _).trans' (Turn.set (by simp) _)).trans' (Turn.set (by simp) _)).trans' (Turn.set (by simp) _)).trans' (Turn.set (by simp) _)).trans' (Turn.set (by simp) _))
 have hap:∀ (a:Option Addr) (s:Nat),(∀ g∈lb a,s≤g)→pr < s→∀ g∈lb a,g∉[pr]:=fun a s h1 h2 g hg hx=>by have:=h1 g hg;rw [List.mem_singleton.1 hx] at this;omega
 refine bodyPost_ret (v:=.agg #[.int .i64 tk,.int .i64 nx,.int .i64 wa,.slice a0 C.length c0,.slice a1 Hs.length c1,.slice a2 R.length c2]) ?_ rfl ⟨⟨tk,nx,wa,a0,c0,C,a1,c1,Hs,a2,c2,R⟩,rfl,rfl,HTF.out.keeps HK0.out (fun b hb=>by rw [List.mem_singleton.1 hb,HPE.out.2];omega),owns_turn HO0.out HTF.out (hap _ _ (fun g hg=>(HL0.out g hg).1) HPR0.out),owns_turn HO1.out HTF.out (hap _ _ (fun g hg=>(HL1.out g hg).1) HPR1.out),owns_turn HO2.out HTF.out (hap _ _ (fun g hg=>(HL2.out g hg).1) HPR2.out),fun g hg=>⟨HD01.out g hg,HD02.out g hg⟩,HD12.out⟩
 obtain ⟨p0,p1,p2,p3,p4,p5⟩:=row6_cells (row6_5 (row6_4 (row6_3 (row6_2 (row6_1 (row6_0 HRR.out (.int .i64 tk)) (.int .i64 nx)) (.int .i64 wa)) (.slice a0 C.length c0)) (.slice a1 Hs.length c1)) (.slice a2 R.length c2))
 clear HTF HRR HRB HK0 HO0 HO1 HO2 e0 e1 e2 e3 e4 e5 b0 b1 b2 b3 b4 b5 k0 k1 k2 k3 k4 k5
 revert p0 p1 p2 p3 p4 p5
 generalize World.setCell (World.setCell _ _ _) _ _=WW
 intro p0 p1 p2 p3 p4 p5
 simp [results,Tryz.results49,go_sem,p0,p1,p2,p3,p4,p5]
end Go.Proofs.YtccdhcempnkgaaaGreatDoor
namespace Go.Proofs.YtccdhcempnkgaaaGreatDoor
open Go.RowKit Go.Deep
set_option linter.unusedVariables false
set_option linter.unusedSimpArgs false
set_option maxRecDepth 10000
theorem small_of {B:Bk} (h1:B.Hs.length≤60) (h2:B.R.length≤20) (h3:B.Hs.all (htB B.C)=true) (h4:B.R.all (crB B.C)=true):Small B:=by
 refine ⟨fun h hh=>?_,fun c hc=>?_,h1,h2⟩
 ·have:=List.all_eq_true.1 h3 h hh
  simp only [htB,posB,amtB,Bool.and_eq_true,decide_eq_true_eq] at this
  omega
 ·have:=List.all_eq_true.1 h4 c hc
  simp only [crB,posB,amtB,Bool.and_eq_true,decide_eq_true_eq] at this
  omega
theorem bookB_def (B:Bk):bookB B=(amtB B.tk && (amtB B.wa && (posB B.nx && (decide (B.C.length≤20) && (decide (B.Hs.length≤60) && (decide (B.R.length≤20) && (keysB (keysL B) && (B.Hs.all (htB B.C) && (B.R.all (crB B.C) && (idsB B.C && B.C.all (chanB B))))))))))):=by
 unfold bookB headB underB
 cases amtB B.tk <;> cases amtB B.wa <;> cases posB B.nx <;> cases decide (B.C.length≤20) <;> cases decide (B.Hs.length≤60) <;> cases decide (B.R.length≤20) <;> cases keysB (keysL B) <;> cases B.Hs.all (htB B.C) <;> cases B.R.all (crB B.C) <;> cases idsB B.C <;> simp
set_option maxHeartbeats 4000000 in
theorem bookok_impl (B:Bo) (w:World) (hm:Mem w B.segs) (hl:B.len):Calls Tryz.prog 48 #[B.v] w fun e w'=>e=.returned (.bool (bookB B.d))∧Keeps w w':=by
 have HV:=hide (bookB_def B.d)
 have H1:=hide (fun w' (hk:Keeps w w')=>keys_impl B w' (hm.kept hk) hl)
 have H2:=hide (fun w' (hk:Keeps w w')=>htlcs_impl B w' (hm.kept hk) hl)
 have H3:=hide (fun w' (hk:Keeps w w')=>circles_impl B w' (hm.kept hk) hl)
 have H4:=hide (fun w' (hk:Keeps w w')=>ids_impl B.ca B.cc B.C w' (Bo.memC (hm.kept hk)) hl.1)
 have H5:=hide (fun w' (hk:Keeps w w')=>channels_impl B w' (hm.kept hk) hl)
 have H6:=hide (small_of (B:=B.d))
 obtain ⟨tk,nx,wa,ca,cc,C,ha,hc,Hs,ra,rc,R⟩:=B
 have HCC:=hide (fun w' (hk:Keeps w w')=>Bo.memC (hm.kept hk))
 have HCH:=hide (fun w' (hk:Keeps w w')=>Bo.memH (hm.kept hk))
 have HCR:=hide (fun w' (hk:Keeps w w')=>Bo.memR (hm.kept hk))
 have HL:=hide hl
 have HBA:=hide (book_box ⟨tk,nx,wa,ca,cc,C,ha,hc,Hs,ra,rc,R⟩ w 34)
 have HKA:=hide (Keeps.alloc (Keeps.refl w) (.cells #[.int .i64 tk,.int .i64 nx,.int .i64 wa,.slice ca C.length cc,.slice ha Hs.length hc,.slice ra R.length rc] 34))
 dsimp only [Bo.d,Bo.v] at *
 clear hm hl
 go_enter Tryz.func48,Tryz.ntmps48
 go_wp2_with fail
 obtain ⟨l1,l2,l3⟩:=HL.out
 dsimp only at l1 l2 l3
 generalize hW:w.alloc (.cells #[.int .i64 tk,.int .i64 nx,.int .i64 wa,.slice ca C.length cc,.slice ha Hs.length hc,.slice ra R.length rc] 34)=W0 at *
 clear hW
 have HKc:=hide (Keeps.refl W0)
 refine (amt_impl tk _).mono ?_
 rintro e w1 ⟨rfl,hk⟩
 replace HKc:=hide (HKc.out.trans hk)
 clear hk
 obtain ⟨e0,e1,e2,e3,e4,e5⟩:=HBA.out.kept HKc.out
 dsimp only at e0 e1 e2 e3 e4 e5
 cases hb0:amtB tk
 ·go_wp2_with fail
  go_ret
  exact ⟨ret_b (by rw [HV.out];simp [hb0]),HKA.out.trans HKc.out⟩
 go_wp2_with fail
 refine (amt_impl wa _).mono ?_
 rintro e w2 ⟨rfl,hk⟩
 replace HKc:=hide (HKc.out.trans hk)
 clear hk
 clear e0 e1 e2 e3 e4 e5
 obtain ⟨e0,e1,e2,e3,e4,e5⟩:=HBA.out.kept HKc.out
 dsimp only at e0 e1 e2 e3 e4 e5
 cases hb1:amtB wa
 ·go_wp2_with fail
  go_ret
  exact ⟨ret_b (by rw [HV.out];simp [hb0,hb1]),HKA.out.trans HKc.out⟩
 go_wp2_with fail
 refine (pos_impl nx _).mono ?_
 rintro e w3 ⟨rfl,hk⟩
 replace HKc:=hide (HKc.out.trans hk)
 clear hk
 clear e0 e1 e2 e3 e4 e5
 obtain ⟨e0,e1,e2,e3,e4,e5⟩:=HBA.out.kept HKc.out
 dsimp only at e0 e1 e2 e3 e4 e5
 cases hb2:posB nx
 ·go_wp2_with fail
  go_ret
  exact ⟨ret_b (by rw [HV.out];simp [hb0,hb1,hb2]),HKA.out.trans HKc.out⟩
 by_cases hn0:C.length≤20
 rotate_left
 ·have hn0d:=hide hn0
  go_wp2_with fail
  go_ret
  exact ⟨ret_b (by rw [HV.out];simp [hb0,hb1,hb2,hn0d.out]),HKA.out.trans HKc.out⟩
 have hn0d:=hide hn0
 by_cases hn1:Hs.length≤60
 rotate_left
 ·have hn1d:=hide hn1
  go_wp2_with fail
  go_ret
  exact ⟨ret_b (by rw [HV.out];simp [hb0,hb1,hb2,hn0d.out,hn1d.out]),HKA.out.trans HKc.out⟩
 have hn1d:=hide hn1
 by_cases hn2:R.length≤20
 rotate_left
 ·have hn2d:=hide hn2
  go_wp2_with fail
  go_ret
  exact ⟨ret_b (by rw [HV.out];simp [hb0,hb1,hb2,hn0d.out,hn1d.out,hn2d.out]),HKA.out.trans HKc.out⟩
 have hn2d:=hide hn2
 go_wp2_with fail
 refine (unhide H1 w3 (HKA.out.trans HKc.out) hn1d.out hn2d.out).mono ?_
 rintro e w4 ⟨rfl,hk⟩
 replace HKc:=hide (HKc.out.trans hk)
 clear hk e0 e1 e2 e3 e4 e5
 obtain ⟨e0,e1,e2,e3,e4,e5⟩:=HBA.out.kept HKc.out
 dsimp only at e0 e1 e2 e3 e4 e5
 cases hc0:keysB (keysL ⟨tk,nx,wa,C,Hs,R⟩)
 ·go_wp2_with fail
  go_ret
  exact ⟨ret_b (by rw [HV.out];simp [hb0,hb1,hb2,hn0d.out,hn1d.out,hn2d.out,hc0]),HKA.out.trans HKc.out⟩
 go_wp2_with fail
 refine (unhide H2 w4 (HKA.out.trans HKc.out)).mono ?_
 rintro e w5 ⟨rfl,hk⟩
 replace HKc:=hide (HKc.out.trans hk)
 clear hk e0 e1 e2 e3 e4 e5
 obtain ⟨e0,e1,e2,e3,e4,e5⟩:=HBA.out.kept HKc.out
 dsimp only at e0 e1 e2 e3 e4 e5
 cases hc1:Hs.all (htB C)
 ·go_wp2_with fail
  go_ret
  exact ⟨ret_b (by rw [HV.out];simp [hb0,hb1,hb2,hn0d.out,hn1d.out,hn2d.out,hc0,hc1]),HKA.out.trans HKc.out⟩
 go_wp2_with fail
 refine (unhide H3 w5 (HKA.out.trans HKc.out)).mono ?_
 rintro e w6 ⟨rfl,hk⟩
 replace HKc:=hide (HKc.out.trans hk)
 clear hk e0 e1 e2 e3 e4 e5
 obtain ⟨e0,e1,e2,e3,e4,e5⟩:=HBA.out.kept HKc.out
 dsimp only at e0 e1 e2 e3 e4 e5
 cases hc2:R.all (crB C)
 ·go_wp2_with fail
  go_ret
  exact ⟨ret_b (by rw [HV.out];simp [hb0,hb1,hb2,hn0d.out,hn1d.out,hn2d.out,hc0,hc1,hc2]),HKA.out.trans HKc.out⟩
 go_wp2_with fail
 refine (unhide H4 w6 (HKA.out.trans HKc.out)).mono ?_
 rintro e w7 ⟨rfl,hk⟩
 replace HKc:=hide (HKc.out.trans hk)
 clear hk e0 e1 e2 e3 e4 e5
 obtain ⟨e0,e1,e2,e3,e4,e5⟩:=HBA.out.kept HKc.out
 dsimp only at e0 e1 e2 e3 e4 e5
 cases hc3:idsB C
 ·go_wp2_with fail
  go_ret
  exact ⟨ret_b (by rw [HV.out];simp [hb0,hb1,hb2,hn0d.out,hn1d.out,hn2d.out,hc0,hc1,hc2,hc3]),HKA.out.trans HKc.out⟩
 go_wp2_with fail
 refine (unhide H5 w7 (HKA.out.trans HKc.out) (H6.out hn1d.out hn2d.out hc1 hc2)).mono ?_
 rintro e w8 ⟨rfl,hk⟩
 replace HKc:=hide (HKc.out.trans hk)
 clear hk e0 e1 e2 e3 e4 e5
 obtain ⟨e0,e1,e2,e3,e4,e5⟩:=HBA.out.kept HKc.out
 dsimp only at e0 e1 e2 e3 e4 e5
 go_wp2_with fail
 go_ret
 exact ⟨ret_b (by rw [HV.out];simp [hb0,hb1,hb2,hn0d.out,hn1d.out,hn2d.out,hc0,hc1,hc2,hc3]),HKA.out.trans HKc.out⟩
end Go.Proofs.YtccdhcempnkgaaaGreatDoor
namespace Go.Proofs.YtccdhcempnkgaaaGreatDoor
open Go.RowKit Go.Deep
set_option linter.unusedVariables false
set_option linter.unusedSimpArgs false
set_option maxRecDepth 10000
def outB (c:Int) (K:Bk) (L:List Ln):Bk:=if c=0 then (if L=[] then K else ⟨K.tk,K.nx+1,K.wa,K.C,K.Hs,K.R⟩) else ⟨0,0,0,[],[],[]⟩
def appC (B:Bk) (k ky ch tt am fe:Int) (ys:Bool):Int:=if bookB B=false then 1 else applyC B k ky ch tt am fe ys
structure ApplyR (w w':World) (B:Bo) (a:Option Addr) (cap:Nat) (L:List Ln):Prop where
 keep:Keeps w w'
 oC:OwnsChan w' w.heap.size (.slice B.ca B.C.length B.cc) B.C
 oH:OwnsHtlc w' w.heap.size (.slice B.ha B.Hs.length B.hc) B.Hs
 oR:OwnsCircle w' w.heap.size (.slice B.ra B.R.length B.rc) B.R
 oL:OwnsLn w' w.heap.size (.slice a L.length cap) L
 dC:∀ g∈lb B.ca,g∉lb B.ha∧g∉lb B.ra
 dH:∀ g∈lb B.ha,g∉lb B.ra
 dL:∀ g∈lb a,g∉lb B.ca∧g∉lb B.ha∧g∉lb B.ra
theorem owns_base {w:World} {base base' n c:Nat} {a:Option Addr} {e:TypeId} {sz:Nat} {xs:List Value} (h:w.ownsRow base e sz (.slice a n c) n xs) (hb:∀ g∈lb a,base'≤g):w.ownsRow base' e sz (.slice a n c) n xs:=by
 refine ⟨h.1,?_⟩
 rcases h.2 with h' | ⟨g,cap,cur,e1,_,rest⟩
 ·exact .inl h'
 ·injection e1 with e2 e3 e4
  subst e2 e4
  exact .inr ⟨g,c,cur,rfl,hb g (by simp [lb]),rest⟩
theorem row6_turn (w:World) (b:Nat) (v0 v1 v2 v3 v4 v5:Value):Turn [b] w ((((((w.setCell ⟨b,0,none⟩ v0).setCell ⟨b,1,none⟩ v1).setCell ⟨b,2,none⟩ v2).setCell ⟨b,3,none⟩ v3).setCell ⟨b,4,none⟩ v4).setCell ⟨b,5,none⟩ v5):=(((((Turn.set (by simp) _).trans' (Turn.set (by simp) _)).trans' (Turn.set (by simp) _)).trans' (Turn.set (by simp) _)).trans' (Turn.set (by simp) _)).trans' (Turn.set (by simp) _)
theorem row6_all {w:World} {b:Nat} {t:TypeId} {u0 u1 u2 u3 u4 u5:Value} (h:w.rowIs b t 6 (row6 u0 u1 u2 u3 u4 u5)) (v0 v1 v2 v3 v4 v5:Value):((((((w.setCell ⟨b,0,none⟩ v0).setCell ⟨b,1,none⟩ v1).setCell ⟨b,2,none⟩ v2).setCell ⟨b,3,none⟩ v3).setCell ⟨b,4,none⟩ v4).setCell ⟨b,5,none⟩ v5).rowIs b t 6 (row6 v0 v1 v2 v3 v4 v5):=row6_5 (row6_4 (row6_3 (row6_2 (row6_1 (row6_0 h v0) v1) v2) v3) v4) v5
theorem no_own {w w':World} (hk:Keeps w w'):ApplyR w w' ⟨0,0,0,none,0,[],none,0,[],none,0,[]⟩ none 0 [] :=
 ⟨hk,World.ownsRow_nil _ _ _ _,World.ownsRow_nil _ _ _ _,World.ownsRow_nil _ _ _ _,World.ownsRow_nil _ _ _ _,fun g hg=>by simp [lb] at hg,fun g hg=>by simp [lb] at hg,fun g hg=>by simp [lb] at hg⟩
end Go.Proofs.YtccdhcempnkgaaaGreatDoor
