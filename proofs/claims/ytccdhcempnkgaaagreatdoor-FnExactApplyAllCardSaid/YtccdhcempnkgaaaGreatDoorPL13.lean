/- Texts of the verifier, joined: WkF, WkG, Sent, BaseK, Qp. -/
import Derived.Test.YtccdhcempnkgaaaGreatDoorPL12
import Derived.Test.YtccdhcempnkgaaaGreatDoorPL4
import Derived.Test.YtccdhcempnkgaaaGreatDoorPL1
import Derived.OrdersHeld
namespace Go.Proofs.YtccdhcempnkgaaaGreatDoor
open Go.RowKit Go.Deep
set_option linter.unusedVariables false
set_option linter.unusedSimpArgs false
set_option maxRecDepth 10000
def row6 (v0 v1 v2 v3 v4 v5:Value):Nat→Value:=fun i=>if i=0 then v0 else if i=1 then v1 else if i=2 then v2 else if i=3 then v3 else if i=4 then v4 else v5
theorem row6_alloc (w:World) (v0 v1 v2 v3 v4 v5:Value) (t:TypeId):(w.alloc (.cells #[v0,v1,v2,v3,v4,v5] t)).rowIs w.heap.size t 6 (row6 v0 v1 v2 v3 v4 v5) :=
 World.rowIs_alloc w #[v0,v1,v2,v3,v4,v5] t _ (fun i hi=>by
  match i,hi with
  | 0,_=>rfl
  | 1,_=>rfl
  | 2,_=>rfl
  | 3,_=>rfl
  | 4,_=>rfl
  | 5,_=>rfl)
theorem row6_cells {w:World} {b:Nat} {t:TypeId} {v0 v1 v2 v3 v4 v5:Value} (h:w.rowIs b t 6 (row6 v0 v1 v2 v3 v4 v5)):w.cell? ⟨b,0,none⟩=some v0∧w.cell? ⟨b,1,none⟩=some v1∧w.cell? ⟨b,2,none⟩=some v2∧w.cell? ⟨b,3,none⟩=some v3∧w.cell? ⟨b,4,none⟩=some v4∧w.cell? ⟨b,5,none⟩=some v5 :=
 ⟨h.cell (i:=0) (by decide),h.cell (i:=1) (by decide),h.cell (i:=2) (by decide),h.cell (i:=3) (by decide),h.cell (i:=4) (by decide),h.cell (i:=5) (by decide)⟩
theorem row6_0 {w:World} {b:Nat} {t:TypeId} {v0 v1 v2 v3 v4 v5:Value} (h:w.rowIs b t 6 (row6 v0 v1 v2 v3 v4 v5)) (v:Value):(w.setCell ⟨b,0,none⟩ v).rowIs b t 6 (row6 v v1 v2 v3 v4 v5) :=
 (h.set 0 v).congr (fun j hj=>by match j,hj with | 0,_=>rfl | 1,_=>rfl | 2,_=>rfl | 3,_=>rfl | 4,_=>rfl | 5,_=>rfl)
theorem row6_1 {w:World} {b:Nat} {t:TypeId} {v0 v1 v2 v3 v4 v5:Value} (h:w.rowIs b t 6 (row6 v0 v1 v2 v3 v4 v5)) (v:Value):(w.setCell ⟨b,1,none⟩ v).rowIs b t 6 (row6 v0 v v2 v3 v4 v5) :=
 (h.set 1 v).congr (fun j hj=>by match j,hj with | 0,_=>rfl | 1,_=>rfl | 2,_=>rfl | 3,_=>rfl | 4,_=>rfl | 5,_=>rfl)
theorem row6_2 {w:World} {b:Nat} {t:TypeId} {v0 v1 v2 v3 v4 v5:Value} (h:w.rowIs b t 6 (row6 v0 v1 v2 v3 v4 v5)) (v:Value):(w.setCell ⟨b,2,none⟩ v).rowIs b t 6 (row6 v0 v1 v v3 v4 v5) :=
 (h.set 2 v).congr (fun j hj=>by match j,hj with | 0,_=>rfl | 1,_=>rfl | 2,_=>rfl | 3,_=>rfl | 4,_=>rfl | 5,_=>rfl)
theorem row6_3 {w:World} {b:Nat} {t:TypeId} {v0 v1 v2 v3 v4 v5:Value} (h:w.rowIs b t 6 (row6 v0 v1 v2 v3 v4 v5)) (v:Value):(w.setCell ⟨b,3,none⟩ v).rowIs b t 6 (row6 v0 v1 v2 v v4 v5) :=
 (h.set 3 v).congr (fun j hj=>by match j,hj with | 0,_=>rfl | 1,_=>rfl | 2,_=>rfl | 3,_=>rfl | 4,_=>rfl | 5,_=>rfl)
theorem row6_4 {w:World} {b:Nat} {t:TypeId} {v0 v1 v2 v3 v4 v5:Value} (h:w.rowIs b t 6 (row6 v0 v1 v2 v3 v4 v5)) (v:Value):(w.setCell ⟨b,4,none⟩ v).rowIs b t 6 (row6 v0 v1 v2 v3 v v5) :=
 (h.set 4 v).congr (fun j hj=>by match j,hj with | 0,_=>rfl | 1,_=>rfl | 2,_=>rfl | 3,_=>rfl | 4,_=>rfl | 5,_=>rfl)
theorem row6_5 {w:World} {b:Nat} {t:TypeId} {v0 v1 v2 v3 v4 v5:Value} (h:w.rowIs b t 6 (row6 v0 v1 v2 v3 v4 v5)) (v:Value):(w.setCell ⟨b,5,none⟩ v).rowIs b t 6 (row6 v0 v1 v2 v3 v4 v) :=
 (h.set 5 v).congr (fun j hj=>by match j,hj with | 0,_=>rfl | 1,_=>rfl | 2,_=>rfl | 3,_=>rfl | 4,_=>rfl | 5,_=>rfl)
theorem owns_some {w:World} {base n:Nat} {e:TypeId} {sz:Nat} {v:Value} {xs:List Value} (h:w.ownsRow base e sz v n xs) (hne:v≠.slice none 0 0):∃ g cap,v=.slice (some ⟨g,0,none⟩) n cap∧base≤g∧g < w.heap.size:=by
 rcases h.2 with ⟨e,_⟩ | ⟨g,cap,cur,rfl,hb,_⟩
 ·exact absurd e hne
 ·exact ⟨g,cap,rfl,hb,(h.lt g rfl).2⟩
theorem owns_set {w:World} {base n g cap b i:Nat} {e:TypeId} {sz:Nat} {xs:List Value} {v:Value} (h:w.ownsRow base e sz (.slice (some ⟨g,0,none⟩) n cap) n xs) (hne:g≠b):(w.setCell ⟨b,i,none⟩ v).ownsRow base e sz (.slice (some ⟨g,0,none⟩) n cap) n xs:=by
 have ht:Turn [b] w (w.setCell ⟨b,i,none⟩ v):=Turn.set (by simp) v
 have hg:w.grownBy (w.setCell ⟨b,i,none⟩ v) (some b):=⟨ht.os,ht.tape,ht.output,ht.size,fun j hj hn=>ht.block j hj (fun hx=>hn (by rw [List.mem_singleton.1 hx]))⟩
 exact ownsX h hg hne
theorem owns_keep {w w':World} {base n g cap:Nat} {e:TypeId} {sz:Nat} {xs:List Value} (h:w.ownsRow base e sz (.slice (some ⟨g,0,none⟩) n cap) n xs) (hk:Keeps w w'):w'.ownsRow base e sz (.slice (some ⟨g,0,none⟩) n cap) n xs :=
 h.kept (⟨hk.os,hk.tape,hk.output,hk.size,fun i hi _=>hk.block i hi⟩:w.grownBy w' none) (.inr (by simp [ownBlock_sl]))
structure Copied (w w':World) (B:Bo) (g1 c1 g2 c2 g3 c3:Nat):Prop where
 keep:Keeps w w'
 oC:OwnsChan w' w.heap.size (.slice (some ⟨g1,0,none⟩) B.C.length c1) B.C
 oH:OwnsHtlc w' w.heap.size (.slice (some ⟨g2,0,none⟩) B.Hs.length c2) B.Hs
 oR:OwnsCircle w' w.heap.size (.slice (some ⟨g3,0,none⟩) B.R.length c3) B.R
 n1:g1 < g2
 n2:g2 < g3
set_option maxHeartbeats 8000000 in
theorem copy_spec (B:Bo) (w:World) (hm:Mem w B.segs) (hf:B.fit) (hl:B.len):Calls Tryz.prog 33 #[B.v] w fun e w'=>∃ g1 c1 g2 c2 g3 c3,e=.returned (.agg #[.int .i64 B.tk,.int .i64 B.nx,.int .i64 B.wa,.slice (some ⟨g1,0,none⟩) B.C.length c1,.slice (some ⟨g2,0,none⟩) B.Hs.length c2,.slice (some ⟨g3,0,none⟩) B.R.length c3])∧Copied w w' B g1 c1 g2 c2 g3 c3:=by
 obtain ⟨tk,nx,wa,ca,cc,C,ha,hc,Hs,ra,rc,R⟩:=B
 have HCC:=hide (fun w' (hk:Keeps w w')=>Bo.memC (hm.kept hk))
 have HCH:=hide (fun w' (hk:Keeps w w')=>Bo.memH (hm.kept hk))
 have HCR:=hide (fun w' (hk:Keeps w w')=>Bo.memR (hm.kept hk))
 obtain ⟨f1,f2,f3,-,-,-⟩:=hf
 have HF:=hide (And.intro f1 (And.intro f2 f3))
 have HL:=hide hl
 clear hm f1 f2 f3 hl
 dsimp only [Bo.d,Bo.v] at *
 have HRB:=hide ((((Keeps.refl _).alloc (.cells #[.int .i64 0,.int .i64 0,.int .i64 0,.slice none 0 0,.slice none 0 0,.slice none 0 0] 34)).rowK (row6_alloc w (.int .i64 tk) (.int .i64 nx) (.int .i64 wa) (.slice ca C.length cc) (.slice ha Hs.length hc) (.slice ra R.length rc) 34)))
 have HRR:=hide (row6_alloc (w.alloc (.cells #[.int .i64 tk,.int .i64 nx,.int .i64 wa,.slice ca C.length cc,.slice ha Hs.length hc,.slice ra R.length rc] 34)) (.int .i64 0) (.int .i64 0) (.int .i64 0) (.slice none 0 0) (.slice none 0 0) (.slice none 0 0) 34)
 have HK0:=hide (((Keeps.refl w).alloc (.cells #[.int .i64 tk,.int .i64 nx,.int .i64 wa,.slice ca C.length cc,.slice ha Hs.length hc,.slice ra R.length rc] 34)).alloc (.cells #[.int .i64 0,.int .i64 0,.int .i64 0,.slice none 0 0,.slice none 0 0,.slice none 0 0] 34))
 rw [size_alloc1] at HRR
 have HPB:=hide (Nat.le_refl w.heap.size)
 have HPR:=hide (Nat.le_succ w.heap.size)
 have HPN:Hid (w.heap.size≠w.heap.size+1):=by show _≠_;omega
 go_enter Tryz.func33,Tryz.ntmps33
 go_upto_region 1 with fail
 generalize (w.alloc (.cells #[.int .i64 tk,.int .i64 nx,.int .i64 wa,.slice ca C.length cc,.slice ha Hs.length hc,.slice ra R.length rc] 34)).alloc (.cells #[.int .i64 0,.int .i64 0,.int .i64 0,.slice none 0 0,.slice none 0 0,.slice none 0 0] 34)=w1 at *
 have HSW:=hide HK0.out.size
 change Hid (w.heap.size≤w.heap.size+1) at HPR
 generalize hpr:w.heap.size+1=pr at *
 have HWS:Hid (∀ a b:World,Keeps w a→Keeps a b→w.heap.size≤a.heap.size):=fun a b h _=>h.size
 generalize hpb:w.heap.size=pb at HRB HPB HPR HPN ⊢
 have HPE:=hide hpb
 clear hpb hpr HWS HSW
 have HOX:=hide (World.ownsRow_made (base:=w1.heap.size) (e:=78) (size:=7) w1 #[] 0 (Nat.le_refl _) (by simp only [maxLen];omega) (by simp))
 have HMX:=hide (unhide HCC _ (HK0.out.alloc (.cells #[] 78)))
 have HKX:=hide ((Keeps.refl w1).alloc (.cells #[] 78))
 have q:=(row6_cells HRB.out).2.2.2.1
 have hlp:=HRB.out.lt
 have hlr:=HRR.out.lt
 go_upto_region 2 with (at_builtin;refine app_Chan rfl (.tmp 3) (.tmp 5) rfl w1.heap.size _ [] C rfl ca cc rfl HMX.out (HF.out.1) HOX.out (by simp;exact Nat.le_trans HL.out.1 (by decide)) HKX.out.size ?_;intro v' w' ho hg hn;rw [List.nil_append] at ho;obtain ⟨g1,c1,rfl,hb1,hs1⟩:=owns_some ho (hn (fun h=>nomatch (show Value.slice (some ⟨w1.heap.size,0,none⟩) 0 0=Value.slice none 0 0 from h)));have HO1:=hide ho;have HKY:=hide (Keeps.grown HKX.out hg (fun _ h=>Nat.le_of_eq (Option.some.inj h)));clear q;have q:=(row6_cells (HKY.out.rowK HRB.out)).2.2.2.1;have qf:=(HKY.out.rowK HRB.out).frozen 3;clear ho hg hn)
 replace HRR:=hide ((HKY.out.rowK HRR.out).setOther (a:=⟨pb,3,none⟩) (Ne.symm HPN.out) (.slice (some ⟨g1,0,none⟩) C.length c1))
 replace HRB:=hide (row6_3 (HKY.out.rowK HRB.out) (.slice (some ⟨g1,0,none⟩) C.length c1))
 replace HO1:=hide (owns_older (owns_set (b:=pb) (i:=3) (v:=.slice (some ⟨g1,0,none⟩) C.length c1) HO1.out (by omega)) HK0.out.size)
 have hp1:pb < g1:=by omega
 have hr1:pr < g1:=by omega
 replace HK0:=hide ((HK0.out.trans HKY.out).setCell (p:=⟨pb,3,none⟩) (by rw [HPE.out];exact Nat.le_refl _) (.slice (some ⟨g1,0,none⟩) C.length c1))
 clear HKY HKX HOX HMX q qf hb1 hs1 hlp hlr
 generalize w'.setCell ⟨pb,3,none⟩ (.slice (some ⟨g1,0,none⟩) C.length c1)=u1 at *
 have hs1b:g1 < u1.heap.size:=(HO1.out.lt g1 rfl).2
 have HOX:=hide (World.ownsRow_made (base:=u1.heap.size) (e:=112) (size:=7) u1 #[] 0 (Nat.le_refl _) (by simp only [maxLen];omega) (by simp))
 have HMX:=hide (unhide HCH _ (HK0.out.alloc (.cells #[] 112)))
 have HKX:=hide ((Keeps.refl u1).alloc (.cells #[] 112))
 have q:=(row6_cells HRB.out).2.2.2.2.1
 have hlp:=HRB.out.lt
 have hlr:=HRR.out.lt
 go_upto_region 3 with (at_builtin;refine app_Htlc rfl (.tmp 8) (.tmp 10) rfl u1.heap.size _ [] Hs rfl ha hc rfl HMX.out (HF.out.2.1) HOX.out (by simp;exact Nat.le_trans HL.out.2.1 (by decide)) HKX.out.size ?_;intro v' w' ho hg hn;rw [List.nil_append] at ho;obtain ⟨g2,c2,rfl,hb2,hs2⟩:=owns_some ho (hn (fun h=>nomatch (show Value.slice (some ⟨u1.heap.size,0,none⟩) 0 0=Value.slice none 0 0 from h)));have HO2:=hide ho;have HKY:=hide (Keeps.grown HKX.out hg (fun _ h=>Nat.le_of_eq (Option.some.inj h)));clear q;have q:=(row6_cells (HKY.out.rowK HRB.out)).2.2.2.2.1;have qf:=(HKY.out.rowK HRB.out).frozen 4;clear ho hg hn)
 replace HRR:=hide ((HKY.out.rowK HRR.out).setOther (a:=⟨pb,4,none⟩) (Ne.symm HPN.out) (.slice (some ⟨g2,0,none⟩) Hs.length c2))
 replace HRB:=hide (row6_4 (HKY.out.rowK HRB.out) (.slice (some ⟨g2,0,none⟩) Hs.length c2))
 replace HO2:=hide (owns_older (owns_set (b:=pb) (i:=4) (v:=.slice (some ⟨g2,0,none⟩) Hs.length c2) HO2.out (by omega)) HK0.out.size)
 replace HO1:=hide (owns_set (b:=pb) (i:=4) (v:=.slice (some ⟨g2,0,none⟩) Hs.length c2) (owns_keep HO1.out HKY.out) (by omega))
 have HN2:Hid (g1 < g2):=by show _ < _;omega
 have hp2:pb < g2:=by omega
 have hr2:pr < g2:=by omega
 replace HK0:=hide ((HK0.out.trans HKY.out).setCell (p:=⟨pb,4,none⟩) (by rw [HPE.out];exact Nat.le_refl _) (.slice (some ⟨g2,0,none⟩) Hs.length c2))
 clear HKY HKX HOX HMX q qf hb2 hs2 hlp hlr hs1b
 generalize w'.setCell ⟨pb,4,none⟩ (.slice (some ⟨g2,0,none⟩) Hs.length c2)=u2 at *
 have hs2b:g2 < u2.heap.size:=(HO2.out.lt g2 rfl).2
 have HOX:=hide (World.ownsRow_made (base:=u2.heap.size) (e:=115) (size:=5) u2 #[] 0 (Nat.le_refl _) (by simp only [maxLen];omega) (by simp))
 have HMX:=hide (unhide HCR _ (HK0.out.alloc (.cells #[] 115)))
 have HKX:=hide ((Keeps.refl u2).alloc (.cells #[] 115))
 have q:=(row6_cells HRB.out).2.2.2.2.2
 have hlp:=HRB.out.lt
 have hlr:=HRR.out.lt
 go_upto_region 4 with (at_builtin;refine app_Circle rfl (.tmp 13) (.tmp 15) rfl u2.heap.size _ [] R rfl ra rc rfl HMX.out (HF.out.2.2) HOX.out (by simp;exact Nat.le_trans HL.out.2.2 (by decide)) HKX.out.size ?_;intro v' w' ho hg hn;rw [List.nil_append] at ho;obtain ⟨g3,c3,rfl,hb3,hs3⟩:=owns_some ho (hn (fun h=>nomatch (show Value.slice (some ⟨u2.heap.size,0,none⟩) 0 0=Value.slice none 0 0 from h)));have HO3:=hide ho;have HKY:=hide (Keeps.grown HKX.out hg (fun _ h=>Nat.le_of_eq (Option.some.inj h)));clear q;have q:=(row6_cells (HKY.out.rowK HRB.out)).2.2.2.2.2;have qf:=(HKY.out.rowK HRB.out).frozen 5;clear ho hg hn)
 replace HRR:=hide ((HKY.out.rowK HRR.out).setOther (a:=⟨pb,5,none⟩) (Ne.symm HPN.out) (.slice (some ⟨g3,0,none⟩) R.length c3))
 replace HRB:=hide (row6_5 (HKY.out.rowK HRB.out) (.slice (some ⟨g3,0,none⟩) R.length c3))
 replace HO3:=hide (owns_older (owns_set (b:=pb) (i:=5) (v:=.slice (some ⟨g3,0,none⟩) R.length c3) HO3.out (by omega)) HK0.out.size)
 replace HO1:=hide (owns_set (b:=pb) (i:=5) (v:=.slice (some ⟨g3,0,none⟩) R.length c3) (owns_keep HO1.out HKY.out) (by omega))
 replace HO2:=hide (owns_set (b:=pb) (i:=5) (v:=.slice (some ⟨g3,0,none⟩) R.length c3) (owns_keep HO2.out HKY.out) (by omega))
 have HN3:Hid (g2 < g3):=by show _ < _;omega
 have hp3:pb < g3:=by omega
 have hr3:pr < g3:=by omega
 replace HK0:=hide ((HK0.out.trans HKY.out).setCell (p:=⟨pb,5,none⟩) (by rw [HPE.out];exact Nat.le_refl _) (.slice (some ⟨g3,0,none⟩) R.length c3))
 clear HKY HKX HOX HMX q qf hb3 hs3 hlp hlr hs2b
 generalize w'.setCell ⟨pb,5,none⟩ (.slice (some ⟨g3,0,none⟩) R.length c3)=u3 at *
 have hs3b:g3 < u3.heap.size:=(HO3.out.lt g3 rfl).2
 obtain ⟨a0,a1,a2,a3,a4,a5⟩:=row6_cells HRB.out
 obtain ⟨b0,b1,b2,b3,b4,b5⟩:=row6_cells HRR.out
 have k0:=HRR.out.frozen 0
 have k1:=HRR.out.frozen 1
 have k2:=HRR.out.frozen 2
 have k3:=HRR.out.frozen 3
 have k4:=HRR.out.frozen 4
 have k5:=HRR.out.frozen 5
 have hne:=HPN.out
 go_wp2_with fail
 have hle:w.heap.size≤pr:=by rw [HPE.out];exact HPR.out
 have HKF:=hide ((((((HK0.out.setCell (p:=⟨pr,0,none⟩) hle (.int .i64 tk)).setCell (p:=⟨pr,1,none⟩) hle (.int .i64 nx)).setCell (p:=⟨pr,2,none⟩) hle (.int .i64 wa)).setCell (p:=⟨pr,3,none⟩) hle (.slice (some ⟨g1,0,none⟩) C.length c1)).setCell (p:=⟨pr,4,none⟩) hle (.slice (some ⟨g2,0,none⟩) Hs.length c2)).setCell (p:=⟨pr,5,none⟩) hle (.slice (some ⟨g3,0,none⟩) R.length c3))
 refine bodyPost_ret (v:=.agg #[.int .i64 tk,.int .i64 nx,.int .i64 wa,.slice (some ⟨g1,0,none⟩) C.length c1,.slice (some ⟨g2,0,none⟩) Hs.length c2,.slice (some ⟨g3,0,none⟩) R.length c3]) ?_ rfl ⟨g1,c1,g2,c2,g3,c3,rfl,HKF.out,owns_set (owns_set (owns_set (owns_set (owns_set (owns_set HO1.out (by omega)) (by omega)) (by omega)) (by omega)) (by omega)) (by omega),owns_set (owns_set (owns_set (owns_set (owns_set (owns_set HO2.out (by omega)) (by omega)) (by omega)) (by omega)) (by omega)) (by omega),owns_set (owns_set (owns_set (owns_set (owns_set (owns_set HO3.out (by omega)) (by omega)) (by omega)) (by omega)) (by omega)) (by omega),HN2.out,HN3.out⟩
 obtain ⟨p0,p1,p2,p3,p4,p5⟩:=row6_cells (row6_5 (row6_4 (row6_3 (row6_2 (row6_1 (row6_0 HRR.out (.int .i64 tk)) (.int .i64 nx)) (.int .i64 wa)) (.slice (some ⟨g1,0,none⟩) C.length c1)) (.slice (some ⟨g2,0,none⟩) Hs.length c2)) (.slice (some ⟨g3,0,none⟩) R.length c3))
 clear HKF HRR HRB HK0 HO1 HO2 HO3 a0 a1 a2 a3 a4 a5 b0 b1 b2 b3 b4 b5 k0 k1 k2 k3 k4 k5
 revert p0 p1 p2 p3 p4 p5
 generalize World.setCell (World.setCell _ _ _) _ _=WW
 intro p0 p1 p2 p3 p4 p5
 simp [results,Tryz.results33,go_sem,p0,p1,p2,p3,p4,p5]
end Go.Proofs.YtccdhcempnkgaaaGreatDoor
namespace Go.Proofs.YtccdhcempnkgaaaGreatDoor
open Go.RowKit Go.Deep
set_option linter.unusedVariables false
set_option linter.unusedSimpArgs false
set_option maxRecDepth 10000
def Wk.bk (k:Wk):Bk:=⟨k.tk,k.nx,k.wa,k.C,k.Hs,k.R⟩
def Ends (W w:World) (p:Nat) (c:Int) (B:Bk) (L:List Ln):Prop:=∃ k,WkAt W w p k∧k.cd=c∧(c=0→k.bk=B∧k.L=L)
theorem row8_tk (k:Wk) (c:Int):∀ j,j < 8→(if j=0 then (.int .i64 c:Value) else k.row j)=(Wk.row { k with tk:=c }) j
 | 0,_=>rfl
 | 1,_=>rfl
 | 2,_=>rfl
 | 3,_=>rfl
 | 4,_=>rfl
 | 5,_=>rfl
 | 6,_=>rfl
 | 7,_=>rfl
 | n+8,h=>absurd h (by omega)
theorem WkAt.setTk {W w:World} {p:Nat} {k:Wk} (h:WkAt W w p k) (c:Int):WkAt W (w.setCell ⟨p,0,none⟩ (.int .i64 c)) p { k with tk:=c }:=h.put 0 _ (row8_tk k c) ⟨rfl,rfl,rfl⟩ ⟨rfl,rfl,rfl⟩ ⟨rfl,rfl,rfl⟩ ⟨rfl,rfl,rfl⟩
def mapTo {α:Type} (f:α→α) (L:List α) (k:Nat):List α:=(L.take k).map f++L.drop k
theorem mapTo_len {α:Type} (f:α→α) (L:List α) (k:Nat):(mapTo f L k).length=L.length:=by simp [mapTo];omega
theorem mapTo_at {α:Type} (f:α→α) (L:List α) (k:Nat) (hk:k < L.length) (hk':k < (mapTo f L k).length):(mapTo f L k)[k]=L[k]:=by
 have:(mapTo f L k)[k]? = some L[k]:=by
  unfold mapTo
  rw [List.getElem?_append_right (by simp;omega)]
  simp [List.length_take,Nat.min_eq_left (Nat.le_of_lt hk),hk]
 rw [List.getElem?_eq_getElem hk'] at this
 exact Option.some.inj this
theorem mapTo_set {α:Type} (f:α→α) (L:List α) (k:Nat) (hk:k < L.length):(mapTo f L k).set k (f L[k])=mapTo f L (k+1):=by
 unfold mapTo
 rw [List.set_append_right _ _ (by simp;omega)]
 have e:(L.take (k+1))=L.take k++[L[k]]:=by rw [List.take_add_one,List.getElem?_eq_getElem hk];rfl
 have z:k-((L.take k).map f).length=0:=by rw [List.length_map,List.length_take];omega
 rw [e,List.drop_eq_getElem_cons hk,z,List.map_append,List.append_assoc]
 rfl
theorem mapTo_zero {α:Type} (f:α→α) (L:List α):mapTo f L 0=L:=by simp [mapTo]
theorem mapTo_all {α:Type} (f:α→α) (L:List α):mapTo f L L.length=L.map f:=by simp [mapTo]
theorem mapTo_same {α:Type} (f:α→α) (L:List α) (k:Nat) (hk:k < L.length) (h:f L[k]=L[k]):mapTo f L (k+1)=mapTo f L k:=by
 rw [← mapTo_set f L k hk,h]
 have hk':k < (mapTo f L k).length:=by rw [mapTo_len];exact hk
 rw [← mapTo_at f L k hk hk']
 exact List.set_getElem_self hk'
def ageUp (h:Htl):Htl:=if h.ag < 1125899906842624 then ⟨h.ky,h.inn,h.out,h.ai,h.ao,h.kp,h.ag+1⟩ else h
def fadeC (t:Int) (c:Chn):Chn:=if t % 5=0 then ⟨c.id,c.sz,c.lo,c.re,c.ba,c.pp,fadeS c.sc⟩ else c
def tickC (B:Bk):Int:=if B.tk=1125899906842624 then 2 else 0
def tickB (B:Bk):Bk:=⟨B.tk+1,B.nx,B.wa,B.C.map (fadeC (B.tk+1)),B.Hs.map ageUp,B.R⟩
set_option maxHeartbeats 4000000 in
theorem tick_spec (W w:World) (p:Nat) (k:Wk) (h:WkAt W w p k) (hc:k.cd=0) (hC:k.C.length≤1048576) (hH:k.Hs.length≤1048576) (t0:0≤k.tk) (t1:k.tk≤1125899906842624) (hA:∀ h∈k.Hs,0≤h.ag) :
 Calls Tryz.prog 42 #[.pointer (some ⟨p,0,none⟩)] w fun e w'=>e=.returned (.tuple #[])∧Ends W w' p (tickC k.bk) (tickB k.bk) k.L:=by
 have HW:=hide h
 have c0:=h.cells.1
 by_cases ht:k.tk=1125899906842624
 ·have HD:=hide (code_spec W w p k true 2 h)
  have e1:tickC k.bk=2:=by simp [tickC,Wk.bk,ht]
  have e2:codeV k true 2={ k with cd:=2 }:=by simp [codeV,hc]
  rw [e2] at HD
  rw [e1]
  rw [ht] at c0
  clear h hc hC hH hA t0 t1 e1 e2
  go_enter Tryz.func42,Tryz.ntmps42
  go_wp2_with fail
  refine (unhide HD).mono ?_
  rintro _ w1 ⟨rfl,hk1⟩
  have HE:Hid (Ends W w1 p 2 (tickB k.bk) k.L):=⟨_,hk1,rfl,fun h=>absurd h (by decide)⟩
  clear hk1
  go_wp2_with fail
  refine bodyPost_ret (results_none rfl _ _ _) rfl ?_
  exact ⟨rfl,HE.out⟩
 ·have HD:=hide (code_spec W w p k false 2 h)
  have e1:tickC k.bk=0:=by simp [tickC,Wk.bk,ht]
  have e2:codeV k false 2=k:=by simp [codeV]
  rw [e2,hc] at HD
  rw [e1]
  have hd:(k.tk==1125899906842624)=false:=by simpa using ht
  have HA:=hide hA
  have HC0:=hide hc
  clear h hc e1 e2 hA
  go_enter Tryz.func42,Tryz.ntmps42
  go_wp2_with fail
  refine (unhide HD).mono ?_
  rintro _ w1 ⟨rfl,hk1⟩
  have HW1:=hide hk1
  clear hk1 c0 HW HD
  have c0:=HW1.out.cells.1
  have f0:=HW1.out.row.frozen 0
  have wt:wrap64 (k.tk+1)=k.tk+1:=by unfold wrap64;omega
  go_upto_region 2 with fail
  try simp only [wt]
  have HW2:=hide (HW1.out.setTk (k.tk+1))
  clear HW1 c0 f0
  generalize w1.setCell ⟨p,0,none⟩ (.int .i64 (k.tk+1))=w2 at *
  obtain ⟨tk,nx,wa,gC,cC,C,gH,cH,Hs,gR,cR,R,la,lc,L,cd⟩:=k
  dsimp only at hC hH t0 t1 ht hd wt HW2 HA HC0
  have c4:=HW2.out.cells.2.2.2.2.1
  dsimp only at c4
  go_wp2_with fail
  clear c4
  go_loopw [27] (fun z wr=>∃ j:Nat,j≤Hs.length∧z=.int .i64 (j:Int)∧Hid (WkAt W wr p ⟨tk+1,nx,wa,gC,cC,C,gH,cH,mapTo ageUp Hs j,gR,cR,R,la,lc,L,cd⟩)) (fun z _=>Hs.length-(intOf z).toNat)
  case atStart=>exact ⟨0,by omega,rfl,by rw [mapTo_zero];exact HW2.out⟩
  case round =>
   obtain ⟨j,hj,rfl,HWr⟩:=hrel
   by_cases hlt:j < Hs.length
   ·have hlt':j < (mapTo ageUp Hs j).length:=by rw [mapTo_len];exact hlt
    have c4:=HWr.out.cells.2.2.2.2.1
    dsimp only at c4
    rw [mapTo_len] at c4
    obtain ⟨q0,q1,q2,q3,q4,q5,q6⟩:=HWr.out.oH.at j hlt'
    have f6:=HWr.out.oH.frz (j*7+6)
    have HS:=hide (HWr.out.oH.set6 j hlt' (Hs[j].ag+1))
    dsimp only at q0 q1 q2 q3 q4 q5 q6 f6 HS
    rw [mapTo_at ageUp Hs j hlt hlt'] at q0 q1 q2 q3 q4 q5 q6
    have HY:Hid (Hs[j].ag < 1125899906842624→ageUp Hs[j]=⟨Hs[j].ky,Hs[j].inn,Hs[j].out,Hs[j].ai,Hs[j].ao,Hs[j].kp,Hs[j].ag+1⟩):=by intro h;unfold ageUp;rw [if_pos h]
    have HN:Hid (¬ Hs[j].ag < 1125899906842624→ageUp Hs[j]=Hs[j]):=by intro h;unfold ageUp;rw [if_neg h]
    have hz:j*7+7≤Hs.length*7:=by omega
    by_cases ha:Hs[j].ag < 1125899906842624
    ·have HE:Hid (WkAt W (wr.setCell ⟨gH,j*7+6,none⟩ (.int .i64 (Hs[j].ag+1))) p ⟨tk+1,nx,wa,gC,cC,C,gH,cH,mapTo ageUp Hs (j+1),gR,cR,R,la,lc,L,cd⟩):=by
      show WkAt _ _ _ _
      have h:=HWr.out.setH HS.out.2 HS.out.1 (by simp)
      dsimp only at h
      rw [mapTo_at ageUp Hs j hlt hlt',← HY.out ha,mapTo_set ageUp Hs j hlt] at h
      exact h
     have hd2:decide (Hs[j].ag < 1125899906842624)=true:=decide_eq_true ha
     have hw:wrap64 (Hs[j].ag+1)=Hs[j].ag+1:=by have:=HA.out Hs[j] (List.getElem_mem hlt);unfold wrap64;omega
     clear HS HY HN
     generalize Hs[j].ag=ag at *
     go_wp2_with fail
     go_roundw
     case rel=>exact ⟨j+1,by omega,by go_num,HE.out⟩
     case measure=>simp [intOf];omega
    ·have HE:Hid (WkAt W wr p ⟨tk+1,nx,wa,gC,cC,C,gH,cH,mapTo ageUp Hs (j+1),gR,cR,R,la,lc,L,cd⟩):=by
      show WkAt _ _ _ _
      rw [mapTo_same ageUp Hs j hlt (HN.out ha)]
      exact HWr.out
     have hd2:decide (Hs[j].ag < 1125899906842624)=false:=decide_eq_false ha
     clear HS HY HN
     generalize Hs[j].ag=ag at *
     go_wp2_with fail
     go_roundw
     case rel=>exact ⟨j+1,by omega,by go_num,HE.out⟩
     case measure=>simp [intOf];omega
   ·have e:j=Hs.length:=by omega
    subst e
    rw [mapTo_all] at HWr
    have c3:=HWr.out.cells.2.2.2.1
    dsimp only at c3
    go_wp2_with fail
    clear c3 HA hH wt ht hd
    go_loopw [59] (fun z wr=>∃ j:Nat,j≤C.length∧z=.int .i64 (j:Int)∧Hid (WkAt W wr p ⟨tk+1,nx,wa,gC,cC,mapTo (fadeC (tk+1)) C j,gH,cH,Hs.map ageUp,gR,cR,R,la,lc,L,cd⟩)) (fun z _=>C.length-(intOf z).toNat)
    case atStart=>exact ⟨0,by omega,rfl,by rw [mapTo_zero];exact HWr.out⟩
    case round =>
     clear HWr HW2
     obtain ⟨j,hj,rfl,HWr⟩:=hrel
     by_cases hlt:j < C.length
     ·have hlt':j < (mapTo (fadeC (tk+1)) C j).length:=by rw [mapTo_len];exact hlt
      have c0:=HWr.out.cells.1
      have c3:=HWr.out.cells.2.2.2.1
      dsimp only at c0 c3
      rw [mapTo_len] at c3
      obtain ⟨q0,q1,q2,q3,q4,q5,q6⟩:=HWr.out.oC.at j hlt'
      dsimp only at q0 q1 q2 q3 q4 q5 q6
      rw [mapTo_at (fadeC (tk+1)) C j hlt hlt'] at q0 q1 q2 q3 q4 q5 q6
      have hz:j*7+7≤C.length*7:=by omega
      by_cases h5:(tk+1) % 5=0
      ·have hd5:((tk+1) % 5==0)=true:=by simpa using h5
       go_upto_region 12 with fail
       go_region_with (go_at_call 81;refine (fade_spec C[j].sc _).mono ?_;rintro _ w5 ⟨rfl,hk5⟩;have HW5:=hide (HWr.out.kept (by first | exact hk5 | exact ((Keeps.refl wr).drew).trans hk5));have r3:=HW5.out.cells.2.2.2.1;dsimp only at r3;rw [mapTo_len] at r3;have r6:=(HW5.out.oC.at j hlt').2.2.2.2.2.2;have f6:=HW5.out.oC.frz (j*7+6);dsimp only at r6 f6;clear hk5)
       all_goals
        have HE:Hid (WkAt W (w5.setCell ⟨gC,j*7+6,none⟩ (.int .i64 (fadeS C[j].sc))) p ⟨tk+1,nx,wa,gC,cC,mapTo (fadeC (tk+1)) C (j+1),gH,cH,Hs.map ageUp,gR,cR,R,la,lc,L,cd⟩):=by
         show WkAt _ _ _ _
         have hs:=HW5.out.oC.set6 j hlt' (fadeS C[j].sc)
         have h:=HW5.out.setC hs.2 hs.1 (by simp)
         dsimp only at h
         have ef:fadeC (tk+1) C[j]=⟨C[j].id,C[j].sz,C[j].lo,C[j].re,C[j].ba,C[j].pp,fadeS C[j].sc⟩:=by unfold fadeC;rw [if_pos h5]
         rw [mapTo_at (fadeC (tk+1)) C j hlt hlt',← ef,mapTo_set (fadeC (tk+1)) C j hlt] at h
         exact h
        clear HW5 r3 r6 f6
        go_wp2_with fail
        go_roundw
        case rel=>exact ⟨j+1,by omega,by go_num,by first | exact HE.out | exact HE.out.kept (Keeps.refl _).drew⟩
        case measure=>simp [intOf];omega
      ·have HE:Hid (WkAt W wr p ⟨tk+1,nx,wa,gC,cC,mapTo (fadeC (tk+1)) C (j+1),gH,cH,Hs.map ageUp,gR,cR,R,la,lc,L,cd⟩):=by
        show WkAt _ _ _ _
        rw [mapTo_same (fadeC (tk+1)) C j hlt (by unfold fadeC;rw [if_neg h5])]
        exact HWr.out
       have hd5:((tk+1) % 5==0)=false:=by simpa using h5
       go_wp2_with fail
       go_roundw
       case rel=>exact ⟨j+1,by omega,by go_num,HE.out⟩
       case measure=>simp [intOf];omega
     ·have e:j=C.length:=by omega
      subst e
      rw [mapTo_all] at HWr
      go_wp2_with fail
      go_end0
      exact ⟨rfl,_,HWr.out,HC0.out,fun _=>⟨rfl,rfl⟩⟩
end Go.Proofs.YtccdhcempnkgaaaGreatDoor
namespace Go.Proofs.YtccdhcempnkgaaaGreatDoor
open Go.RowKit Go.ChangeShapes
theorem cells96:Tryz.prog.cellsOf 285=1:=by kernel_rfl
theorem cells9:Tryz.prog.cellsOf 9=1:=by kernel_rfl
theorem star:"*"++"errors.errorString"="*errors.errorString":=by decide
theorem row94 (u:TypeId) (h:Tryz.prog.typeName? 3 u=some "*errors.errorString"):u=268 :=
 typeName_ptr_named (nm:="errors.errorString") (by rw [star];kernel_rfl) (by kernel_rfl) (by decide) u (by rw [star];exact h)
theorem sent {n:String} {text:List UInt8} {r:List (String × DataW Unit)} {W:World} {g:Nat} (h:laidMet Tryz.prog ((n,.iface "*errors.errorString" (.ptr (.agg [.lit (.string text)]))) :: r) W)
 (hg:Tryz.prog.globalNamed n=some g) (ht:(Tryz.prog.globals[g]?).map (·.type)=some 222):∃ a:Addr,W.var? Tryz.prog n=some #[.iface 268 (.pointer (some a))]:=by
 obtain ⟨a,_,h,_⟩:=laid_sentinel h hg ht Tryz.underlying222 row94 Tryz.underlying268 Tryz.underlying285 rfl rfl Tryz.underlying9 cells96 cells9
 exact ⟨a,h⟩
theorem vars_read3 {H:Type} (enc:TypeId × Value→H) {W:World} {n0 n1 n2:String} {g0 g1 g2:Nat} {x0 x1 x2:Value}
 (hg0:Tryz.prog.globalNamed n0=some g0) (ht0:(Tryz.prog.globals[g0]?).map (·.type)=some 222) (h0:W.var? Tryz.prog n0=some #[x0]) (i0:IsIface x0)
 (hg1:Tryz.prog.globalNamed n1=some g1) (ht1:(Tryz.prog.globals[g1]?).map (·.type)=some 222) (h1:W.var? Tryz.prog n1=some #[x1]) (i1:IsIface x1)
 (hg2:Tryz.prog.globalNamed n2=some g2) (ht2:(Tryz.prog.globals[g2]?).map (·.type)=some 222) (h2:W.var? Tryz.prog n2=some #[x2]) (i2:IsIface x2) (sp:Nat→Bool) :
 DataW.TrodVars enc Tryz.prog W sp [n0,n1,n2] [tok enc x0,tok enc x1,tok enc x2] [.cell g0 0,.cell g1 0,.cell g2 0] :=
 ⟨g0,222,#[x0],1,[],[.cell g1 0,.cell g2 0],hg0,ht0,h0,trod_held Tryz.underlying222 i0 0,⟨g1,222,#[x1],1,[],[.cell g2 0],hg1,ht1,h1,trod_held Tryz.underlying222 i1 0,⟨g2,222,#[x2],1,[],[],hg2,ht2,h2,trod_held Tryz.underlying222 i2 0,rfl,rfl⟩,rfl⟩,rfl⟩
end Go.Proofs.YtccdhcempnkgaaaGreatDoor
namespace Go.Proofs.YtccdhcempnkgaaaGreatDoor
open Go.RowKit
set_option linter.unusedVariables false
theorem sum_ok (a b:Int) (w:World) (h:addB a b=true) :
 Calls Tryz.prog 182 #[.int .i64 a,.int .i64 b] w fun e w'=>e=.returned (.tuple #[.int .i64 (a+b),.nilIface])∧w'=w:=by
 simp only [addB,Bool.and_eq_true] at h
 obtain ⟨⟨ha,hb⟩,hc⟩:=h
 obtain ⟨h0,h1⟩:=amtB_true ha
 obtain ⟨h2,h3⟩:=amtB_true hb
 obtain ⟨_,h5⟩:=amtB_true hc
 clear ha hb hc
 go_enter Tryz.func182,Tryz.ntmps182
 go_wp2
 go_ret2
 exact ⟨rfl,rfl⟩
theorem sum_no (a b:Int) (w:World) (u:TypeId) (x:Value) (hg:w.cell? ⟨0,0,none⟩=some (.iface u x)) (h:addB a b=false) :
 Calls Tryz.prog 182 #[.int .i64 a,.int .i64 b] w fun e w'=>e=.returned (.tuple #[.int .i64 0,.iface u x])∧∃ n,w'=w.drewN n:=by
 have h':(a < 0∨1125899906842624 < a)∨((0≤a∧a≤1125899906842624)∧((b < 0∨1125899906842624 < b)∨((0≤b∧b≤1125899906842624)∧¬ a+b≤1125899906842624))):=by
  simp [addB,amtB] at h;omega
 clear h
 rcases h' with (h | h) | ⟨⟨h1,h2⟩,(h | h) | ⟨⟨h3,h4⟩,h⟩⟩
 all_goals
  go_enter Tryz.func182,Tryz.ntmps182
  go_wp2
  go_quiet (fail)
  go_wp2
  go_ret2
  exact ⟨rfl,_,rfl⟩
theorem told_ok (n:Int) (w:World):Calls Tryz.prog 181 #[.int .i64 n,.nilIface] w fun e w'=>e=.returned (.tuple #[.int .i64 n,.bool true])∧w'=w:=by
 go_enter Tryz.func181,Tryz.ntmps181
 go_wp2
 go_ret2
 exact ⟨rfl,rfl⟩
theorem told_no (n:Int) (u:TypeId) (x:Value) (w:World):Calls Tryz.prog 181 #[.int .i64 n,.iface u x] w fun e w'=>e=.returned (.tuple #[.int .i64 0,.bool false])∧w'=w:=by
 go_enter Tryz.func181,Tryz.ntmps181
 go_wp2
 go_ret2
 exact ⟨rfl,rfl⟩
theorem addAmt_impl (a b:Int) (w:World) (u:TypeId) (x:Value) (hg:w.cell? ⟨0,0,none⟩=some (.iface u x)) :
 Calls Tryz.prog 151 #[.int .i64 a,.int .i64 b] w fun e w'=>e=.returned (.tuple #[.int .i64 (addV a b),.bool (addB a b)])∧Keeps w w':=by
 cases h:addB a b
 ·have H:Hid (addV a b=0):=by show _=_;simp [addV,h]
  go_enter Tryz.func151,Tryz.ntmps151
  go_wp2_with (first | (go_at_call 182;refine (sum_no a b _ u x hg h).mono ?_;rintro e w' ⟨rfl,n,rfl⟩) | (go_at_call 181;refine (told_no _ _ _ _).mono ?_;rintro e w' ⟨rfl,rfl⟩))
  go_ret2
  exact ⟨ret_tup H.out.symm rfl,Keeps.drewN (Keeps.refl _) _⟩
 ·have H:Hid (addV a b=a+b):=by show _=_;simp [addV,h]
  go_enter Tryz.func151,Tryz.ntmps151
  go_wp2_with (first | (go_at_call 182;refine (sum_ok a b _ h).mono ?_;rintro e w' ⟨rfl,rfl⟩) | (go_at_call 181;refine (told_ok _ _).mono ?_;rintro e w' ⟨rfl,rfl⟩))
  go_ret2
  exact ⟨ret_tup H.out.symm rfl,Keeps.refl _⟩
theorem addAmt_spec (a b:Int) (w:World) :
 Calls Tryz.prog 35 #[.int .i64 a,.int .i64 b] w fun e w'=>e=.returned (.tuple #[.int .i64 (addV a b),.bool (addB a b)])∧w'=w:=by
 cases h:addB a b
 ·have H:Hid (addV a b=0):=by show _=_;simp [addV,h]
  have h':(a < 0∨1125899906842624 < a)∨((0≤a∧a≤1125899906842624)∧((b < 0∨1125899906842624 < b)∨((0≤b∧b≤1125899906842624)∧¬ a+b≤1125899906842624))):=by
   simp [addB,amtB] at h;omega
  clear h
  rcases h' with (h | h) | ⟨⟨h1,h2⟩,(h | h) | ⟨⟨h3,h4⟩,h⟩⟩
  all_goals
   go_enter Tryz.func35,Tryz.ntmps35
   go_wp2
   go_ret2
   exact ⟨ret_tup H.out.symm rfl,rfl⟩
 ·have H:Hid (addV a b=a+b):=by show _=_;simp [addV,h]
  simp only [addB,Bool.and_eq_true] at h
  obtain ⟨⟨ha,hb⟩,hc⟩:=h
  obtain ⟨h0,h1⟩:=amtB_true ha
  obtain ⟨h2,h3⟩:=amtB_true hb
  obtain ⟨_,h5⟩:=amtB_true hc
  clear ha hb hc
  go_enter Tryz.func35,Tryz.ntmps35
  go_wp2
  go_ret2
  exact ⟨ret_tup H.out.symm rfl,rfl⟩
end Go.Proofs.YtccdhcempnkgaaaGreatDoor
namespace Go.Proofs.YtccdhcempnkgaaaGreatDoor
open Go.RowKit Go
set_option linter.unusedVariables false
section
variable {P:Program} {ops:Array Oper} {Q:Exit→Act→World→Prop} {md:Region.Mode} {S:World→Prop}
def wpPerm (P:Program) (ops:Array Oper) (Q:Exit→Act→World→Prop) (S:World→Prop):List (Bool × Oper)→Act→World→Prop
 | [],a,w=>Q .normal a w
 | (false,o) :: r,a,w=>∃ v,YieldsIf P ops S o v a∧wpPerm P ops Q S r (a.put o.dst v) w
 | (true,o) :: r,a,w=>if Region.wanted o (yielded ops a.tmps) then ∀ K:Act→World→Prop,Hid (∀ a' w',S w'→wpPerm P ops Q S r a' w'→K a' w')→o.wp P a w K Q else wpPerm P ops Q S r (a.put o.dst undef) w
def permI (md:Region.Mode) (ops:Array Oper):List (Bool × Nat)→Array Bool→Bool
 | [],listed=>(Region.ready md ops listed).isEmpty
 | (false,k) :: r,listed=>(Region.ready md ops listed).contains k && Region.free md ops listed k && permI md ops r (listed.setIfInBounds k true)
 | (true,k) :: r,listed=>decide (Region.ready md ops listed=[k]) && permI md ops r (listed.setIfInBounds k true)
def pickP:List (Bool × Nat)→List Oper→List (Bool × Oper)
 | [],_=>[]
 | (b,k) :: ks,l=>match l[k]? with
   | some o=>(b,o) :: pickP ks l
   | none=>pickP ks l
theorem wpAnyH_perm (hsel:Region.noSelect ops=true) (hQ:∀ c (a:Act) d v w,Q (.panic c) (a.put d v) w→Q (.panic c) a w) :
 ∀ (l:List (Bool × Oper)) (ks:List (Bool × Nat)) (listed:Array Bool) (a:Act) (w:World),(ks.map fun p=>(p.1,ops[p.2]?))=(l.map fun p=>(p.1,some p.2))→permI md ops ks listed=true→S w→wpPerm P ops Q S l a w→wpAnyH P md ops Q S l.length listed a w
 | [],[],listed,a,w,_,hB,hS,h=>wpAnyH_done (by simpa [permI] using hB) h _
 | [],k :: ks,_,_,_,e,_,_,_=>by cases e
 | o :: l,[],_,_,_,e,_,_,_=>by cases e
 | (b,o) :: l,(c,k) :: ks,listed,a,w,e,hB,hS,h=>by
   simp only [List.map_cons,List.cons.injEq,Prod.mk.injEq] at e
   obtain ⟨⟨rfl,h0⟩,e'⟩:=e
   cases c with
   | false =>
     simp only [permI,Bool.and_eq_true] at hB
     obtain ⟨⟨hr,hf⟩,hB'⟩:=hB
     obtain ⟨v,hy,hK⟩:=h
     exact wpAnyH_first h0 (Region.noSelect_spec hsel) (fun c a w h=>hQ c a _ _ w h) l.length listed a w (Region.free_spec h0 hf) (by simpa using hr) hy hS (wpAnyH_perm hsel hQ l ks _ _ _ e' hB' hS hK)
   | true =>
     simp only [permI,Bool.and_eq_true,decide_eq_true_eq] at hB
     refine ⟨fun h1=>(by rw [hB.1] at h1;cases h1),fun i hi=>?_⟩
     rw [hB.1] at hi
     have hik:i=k:=by simpa using hi
     subst hik
     unfold wpOp
     simp only [h0]
     unfold wpPerm at h
     split
     ·rename_i hw
      simp only [hw,if_true] at h
      exact .inl (h _ (fun a' w' hS' h'=>⟨hS',wpAnyH_perm hsel hQ l ks _ a' w' e' hB.2 hS' h'⟩))
     ·rename_i hw
      simp only [hw] at h
      exact ⟨hS,wpAnyH_perm hsel hQ l ks _ _ _ e' hB.2 hS h⟩
theorem wp_region_perm {id:Nat} {a:Act} {w:World} {l:List Oper} (ks:List (Bool × Nat)) (S:World→Prop) (hm:P.follows .mixedOrders=true) (hB:(Region.noSelect l.toArray && permI .any l.toArray ks (Array.replicate l.toArray.size false))=true)
 (e:(ks.map fun p=>(p.1,l.toArray[p.2]?))=((pickP ks l).map fun p=>(p.1,some p.2))) (hn:(pickP ks l).length=l.toArray.size) (hQ:∀ c (a:Act) d v w,Q (.panic c) (a.put d v) w→Q (.panic c) a w) (hS:S w.drew)
 (h:wpPerm P l.toArray Q S (pickP ks l) a w.drew):(Code.region id l.toArray true).wp P Q a w:=by
 rw [Bool.and_eq_true] at hB
 have:=wpAnyH_perm (md:=.any) hB.1 hQ (pickP ks l) ks _ a w.drew e hB.2 hS h
 rw [hn] at this
 exact wp_region_held hm this
theorem wpPerm_no {r:List (Bool × Oper)} {o:Oper} {b:Bool} {a:Act} {w:World} (hg:Region.wanted o (yielded ops a.tmps)=false) (h:wpPerm P ops Q S r (a.put o.dst undef) w):wpPerm P ops Q S ((b,o) :: r) a w:=by
 cases b with
 | false=>exact ⟨undef,.inr ⟨hg,rfl⟩,h⟩
 | true=>unfold wpPerm;rw [if_neg (by rw [hg];decide)];exact h
theorem wpPerm_yes {r:List (Bool × Oper)} {o:Oper} {a:Act} {w:World} (v:Value) (hg:Region.wanted o (yielded ops a.tmps)=true) (hv:∀ w,S w→(execOp a.eval o).run P w=.ok (.value v) w) (h:wpPerm P ops Q S r (a.put o.dst v) w):wpPerm P ops Q S ((false,o) :: r) a w:=⟨v,.inl ⟨hg,hv⟩,h⟩
theorem wpPerm_do {r:List (Bool × Oper)} {o:Oper} {a:Act} {w:World} (hg:Region.wanted o (yielded ops a.tmps)=true) (h:∀ K:Act→World→Prop,Hid (∀ a' w',S w'→wpPerm P ops Q S r a' w'→K a' w')→o.wp P a w K Q):wpPerm P ops Q S ((true,o) :: r) a w:=by
 unfold wpPerm;rw [if_pos hg];exact h
theorem wpPerm_end {a:Act} {w:World} (h:Q .normal a w):wpPerm P ops Q S [] a w:=h
end
end Go.Proofs.YtccdhcempnkgaaaGreatDoor
