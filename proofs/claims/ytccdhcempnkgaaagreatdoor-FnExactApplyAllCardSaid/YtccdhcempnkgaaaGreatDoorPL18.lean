/- Texts of the verifier, joined: WkT, Xm. -/
import Derived.Test.YtccdhcempnkgaaaGreatDoorPL15
import Derived.Test.YtccdhcempnkgaaaGreatDoorPL16
import Derived.Test.YtccdhcempnkgaaaGreatDoorPL17
import Derived.Test.YtccdhcempnkgaaaGreatDoorPL2
namespace Go.Proofs.YtccdhcempnkgaaaGreatDoor
open Go.RowKit Go.Deep
set_option linter.unusedVariables false
set_option linter.unusedSimpArgs false
set_option maxRecDepth 10000
def LInvH (w wr:World) (base V:Nat) (v:Value) (M:List Htl) (c:Htl):Prop:=∃ g cap,v=.slice (some ⟨g,0,none⟩) M.length cap∧OwnsHtlc wr base (.slice (some ⟨g,0,none⟩) M.length cap) M∧w.heap.size≤g∧g≠V∧wr.rowIs V 112 7 (rw7 (.int .i64 c.ky) (.int .i64 c.inn) (.int .i64 c.out) (.int .i64 c.ai) (.int .i64 c.ao) (.bool c.kp) (.int .i64 c.ag))∧Keeps w wr∧w.heap.size≤V
theorem one_Htlc (W:World) (y:Htl):Cells (W.alloc (.cells #[.int .i64 y.ky,.int .i64 y.inn,.int .i64 y.out,.int .i64 y.ai,.int .i64 y.ao,.bool y.kp,.int .i64 y.ag] 112)) (some ⟨W.heap.size,0,none⟩) (hts [y]):=Or.inr ⟨W.heap.size,0,rfl,fun j hj=>by
 have hj':j < 7:=by have h4:=hts_len [y];rw [h4] at hj;simpa using hj
 rcases (show j=0∨j=1∨j=2∨j=3∨j=4∨j=5∨j=6 by omega) with rfl | rfl | rfl | rfl | rfl | rfl | rfl <;> simp [hts,Htl.cells]⟩
theorem Go.open {W w:World} {p V:Nat} {tk nx wa:Int} {C:List Chn} {Hs:List Htl} {R:List Crc} {L:List Ln} (h:Go W w p V ⟨tk,nx,wa,C,Hs,R⟩ L):∃ gC cC gH cH gR cR la lc,WkAt W w p ⟨tk,nx,wa,gC,cC,C,gH,cH,Hs,gR,cR,R,la,lc,L,0⟩∧V≠p∧V≠gC:=by
 obtain ⟨⟨tk,nx,wa,gC,cC,C,gH,cH,Hs,gR,cR,R,la,lc,L,cd⟩,h1,h2,h3,h4,h5,h6⟩:=h
 simp only [Wk.bk,Bk.mk.injEq] at h3
 obtain ⟨rfl,rfl,rfl,rfl,rfl,rfl⟩:=h3
 dsimp only at h2 h4 h6
 subst h2 h4
 exact ⟨gC,cC,gH,cH,gR,cR,la,lc,h1,h5,h6⟩
theorem Go.mk' {W w:World} {p V:Nat} {tk nx wa:Int} {C:List Chn} {Hs:List Htl} {R:List Crc} {L:List Ln} {gC cC gH cH gR cR:Nat} {la:Option Addr} {lc:Nat} (h:WkAt W w p ⟨tk,nx,wa,gC,cC,C,gH,cH,Hs,gR,cR,R,la,lc,L,0⟩) (h1:V≠p) (h2:V≠gC):Go W w p V ⟨tk,nx,wa,C,Hs,R⟩ L:=⟨_,h,rfl,rfl,rfl,h1,h2⟩
def scoreC (C:List Chn) (ch:Int) (f:Int→Int):List Chn:=match atC C ch with | some i=>C.modify i (fun c=>⟨c.id,c.sz,c.lo,c.re,c.ba,c.pp,f c.sc⟩) | none=>C
theorem score_at {W w:World} {p V:Nat} {tk nx wa:Int} {C:List Chn} {Hs:List Htl} {R:List Crc} {L:List Ln} {gC cC gH cH gR cR:Nat} {la:Option Addr} {lc:Nat} (h:WkAt W w p ⟨tk,nx,wa,gC,cC,C,gH,cH,Hs,gR,cR,R,la,lc,L,0⟩) (h1:V≠p) (h2:V≠gC) {ch:Int} {i:Nat} (hi:i < C.length) (ha:atC C ch=some i) (f:Int→Int) :
 Go W (w.setCell ⟨gC,i*7+6,none⟩ (.int .i64 (f C[i].sc))) p V ⟨tk,nx,wa,scoreC C ch f,Hs,R⟩ L∧(∀ i' v,w.cell? ⟨V,i',none⟩=some v→(w.setCell ⟨gC,i*7+6,none⟩ (.int .i64 (f C[i].sc))).cell? ⟨V,i',none⟩=some v):=by
 have hs:=h.oC.set6 i hi (f C[i].sc)
 have hw:=h.setC hs.2 hs.1 (by simp)
 have e:scoreC C ch f=C.set i ⟨C[i].id,C[i].sz,C[i].lo,C[i].re,C[i].ba,C[i].pp,f C[i].sc⟩:=by
  unfold scoreC
  rw [ha]
  exact modify_at _ _ _ hi
 rw [e]
 exact ⟨⟨_,hw,rfl,rfl,rfl,h1,h2⟩,fun i' v hv=>(grown_turn hs.2).cell (p:=⟨V,i',none⟩) (by simpa using h2) hv⟩
def settleC (B:Bk) (ky:Int):Int:=if (lastH ky B.Hs).ky=0 then 15 else 0
def settleM (C:List Chn) (h:Htl) (good:Bool):List Chn:=if good=true then scoreC (movC (movC C h.inn h.ai 0) h.out 0 h.ao) h.inn upS else scoreC (movC (movC C h.inn 0 h.ai) h.out h.ao 0) h.inn downS
def settleB (B:Bk) (ky:Int) (good:Bool):Bk:=⟨B.tk,B.nx,B.wa,settleM B.C (lastH ky B.Hs) good,restH ky B.Hs,B.R⟩
def settleL (h:Htl) (good:Bool) (L:List Ln):List Ln:=lineW (if good=true then lineW (lineW L 3 0 (h.ao-h.ai)) 6 h.inn h.ai else lineW L 6 h.out h.ao) 8 h.out (-h.ao)
set_option maxHeartbeats 8000000 in
theorem settle_spec (W w:World) (p:Nat) (k:Wk) (h:WkAt W w p k) (hc:k.cd=0) (ky:Int) (good:Bool) (hC:k.C.length≤20) (hH:k.Hs.length≤60) (hL:k.L=[]) (hA:∀ c∈k.C,(0≤c.lo∧c.lo≤1125899906842624)∧0≤c.re∧c.re≤1125899906842624) (hB:∀ c∈k.Hs,twoB k.C c.inn c.out=true∧(0≤c.ai∧c.ai≤1125899906842624)∧0≤c.ao∧c.ao≤1125899906842624) :
 Calls Tryz.prog 41 #[.pointer (some ⟨p,0,none⟩),.int .i64 ky,.bool good] w fun e w'=>e=.returned (.tuple #[])∧Ends W w' p (settleC k.bk ky) (settleB k.bk ky good) (settleL (lastH ky k.Hs) good k.L):=by
 have HW:=hide h
 have HH0:=hide hc
 have HLn:Hid (k.Hs.length≤1000):=Nat.le_trans hH (by decide)
 have HLC:=hide hC
 have HLL:=hide hL
 have HAA:=hide hA
 have HBB:=hide hB
 clear h hc hC hH hL hA hB
 have HOE:Hid (OwnsHtlc ((w.alloc (.cells #[] 112)).alloc (.cells #[.int .i64 0,.int .i64 0,.int .i64 0,.int .i64 0,.int .i64 0,.bool false,.int .i64 0] 112)) W.heap.size (.slice (some ⟨w.heap.size,0,none⟩) 0 0) []):=World.ownsRow.alloc (⟨by simp [hts],.inr ⟨w.heap.size,0,#[],rfl,HW.out.keep.size,blk_alloc_new w _,by simp,by simp [maxLen],by simp,by simp [hts]⟩⟩) _
 have HKE:=hide (Keeps.alloc (Keeps.alloc (Keeps.refl w) (.cells #[] 112)) (.cells #[.int .i64 0,.int .i64 0,.int .i64 0,.int .i64 0,.int .i64 0,.bool false,.int .i64 0] 112))
 have HVE:=hide (rw7_new (w.alloc (.cells #[] 112)) (.int .i64 0) (.int .i64 0) (.int .i64 0) (.int .i64 0) (.int .i64 0) (.bool false) (.int .i64 0) 112)
 have hsz:(w.alloc (.cells #[] 112)).heap.size=w.heap.size+1:=by simp
 rw [hsz] at HVE
 go_enter Tryz.func41,Tryz.ntmps41
 go_upto_region 2 with fail
 try simp only [hsz]
 clear hsz
 generalize ((w.alloc (.cells #[] 112)).alloc (.cells #[.int .i64 0,.int .i64 0,.int .i64 0,.int .i64 0,.int .i64 0,.bool false,.int .i64 0] 112))=w2 at *
 have HI0:Hid (LInvH w w2 W.heap.size (w.heap.size+1) (.slice (some ⟨w.heap.size,0,none⟩) 0 0) (restH ky (k.Hs.take 0)) (lastH ky (k.Hs.take 0))):=⟨w.heap.size,0,rfl,HOE.out,Nat.le_refl _,by omega,HVE.out,HKE.out,by omega⟩
 have c4:=(HW.out.kept HKE.out).cells.2.2.2.2.1
 clear HOE HKE HVE
 generalize w.heap.size+1=V at *
 go_wp2_with fail
 clear c4
 go_loopw [6,19] (fun v y wr=>∃ j:Nat,j≤k.Hs.length∧y=.int .i64 (j:Int)∧Hid (LInvH w wr W.heap.size V v (restH ky (k.Hs.take j)) (lastH ky (k.Hs.take j)))) (fun _ y _=>k.Hs.length-(intOf y).toNat)
 case atStart=>exact ⟨0,by omega,rfl,HI0⟩
 case round =>
  obtain ⟨j,hj,rfl,HI⟩:=hrel
  clear HI0
  by_cases hlt:j < k.Hs.length
  ·have HS1:=hide (lastH_step ky k.Hs j hlt)
   have HS2:=hide (restH_step ky k.Hs j hlt)
   have HLM:=hide (restH_len ky k.Hs j)
   have hln:=HLn.out
   generalize lastH ky (k.Hs.take j)=c at *
   generalize restH ky (k.Hs.take j)=M at *
   obtain ⟨g,cap,rfl,ho,hg0,hgV,hrV,hkr,hV⟩:=HI.out
   obtain ⟨q0,q1,q2,q3,q4,q5,q6⟩:=(HW.out.kept hkr).oH.at j hlt
   have hz:j*7+7≤k.Hs.length*7:=by omega
   generalize k.Hs[j]=x at *
   obtain ⟨x0,x1,x2,x3,x4,x5,x6⟩:=x
   dsimp only at q0 q1 q2 q3 q4 q5 q6 HS1 HS2
   have HO:=hide (ho.alloc (.cells #[.int .i64 x0,.int .i64 x1,.int .i64 x2,.int .i64 x3,.int .i64 x4,.bool x5,.int .i64 x6] 112))
   have HKA:=hide (Keeps.alloc (Keeps.refl wr) (.cells #[.int .i64 x0,.int .i64 x1,.int .i64 x2,.int .i64 x3,.int .i64 x4,.bool x5,.int .i64 x6] 112))
   have HVR:=hide (HKA.out.rowK hrV)
   have HYR:=hide (rw7_new wr (.int .i64 x0) (.int .i64 x1) (.int .i64 x2) (.int .i64 x3) (.int .i64 x4) (.bool x5) (.int .i64 x6) 112)
   have HVY:Hid (V≠wr.heap.size):=fun e=>by have:=hrV.lt;omega
   have HKR:=hide hkr
   have HB:=hide (And.intro hg0 (And.intro hgV hV))
   clear ho hrV hkr hg0 hgV hV HI
   go_upto_region 5 with fail
   generalize wr.alloc (.cells #[.int .i64 x0,.int .i64 x1,.int .i64 x2,.int .i64 x3,.int .i64 x4,.bool x5,.int .i64 x6] 112)=wp at *
   generalize wr.heap.size=Y at *
   obtain ⟨y0,y1,y2,y3,y4,y5,y6⟩:=rw7_cells HYR.out
   clear q0 q1 q2 q3 q4 q5 q6 HYR
   by_cases hx:x0=ky
   ·have hx':=hx.symm
    subst hx'
    have hd:(ky==ky)=true:=by simp
    obtain ⟨v0,v1,v2,v3,v4,v5,v6⟩:=rw7_cells HVR.out
    have hfz:=HVR.out.frozen
    have f0:=hfz 0
    have f1:=hfz 1
    have f2:=hfz 2
    have f3:=hfz 3
    have f4:=hfz 4
    have f5:=hfz 5
    have f6:=hfz 6
    have HV1:=hide (rw7_set HVR.out (.int .i64 ky) (.int .i64 x1) (.int .i64 x2) (.int .i64 x3) (.int .i64 x4) (.bool x5) (.int .i64 x6))
    have HT1:=hide (rw7_turn wp V (.int .i64 ky) (.int .i64 x1) (.int .i64 x2) (.int .i64 x3) (.int .i64 x4) (.bool x5) (.int .i64 x6))
    clear hfz HVR
    go_wp2_with fail
    go_roundw
    case rel =>
     refine ⟨j+1,by omega,by go_num,?_⟩
     show LInvH _ _ _ _ _ _ _
     rw [HS1.out,HS2.out,if_pos rfl,if_pos rfl]
     exact ⟨g,cap,rfl,HO.out.kept (turn_grown HT1.out) (.inr (by rw [ownBlock_sl];intro e;exact HB.out.2.1 (Option.some.inj e))),HB.out.1,HB.out.2.1,HV1.out,HT1.out.keeps (HKR.out.trans HKA.out) (fun b hb=>by rw [List.mem_singleton.1 hb];exact HB.out.2.2),HB.out.2.2⟩
    case measure=>simp [intOf];omega
   ·have hd:(x0==ky)=false:=by simpa using hx
    have HM2:=hide (one_Htlc wp ⟨x0,x1,x2,x3,x4,x5,x6⟩)
    have HKB:=hide (Keeps.alloc (Keeps.refl wp) (.cells #[.int .i64 x0,.int .i64 x1,.int .i64 x2,.int .i64 x3,.int .i64 x4,.bool x5,.int .i64 x6] 112))
    have HO2:=hide (HO.out.alloc (.cells #[.int .i64 x0,.int .i64 x1,.int .i64 x2,.int .i64 x3,.int .i64 x4,.bool x5,.int .i64 x6] 112))
    have HV2:=hide (HKB.out.rowK HVR.out)
    have HSZ:Hid (W.heap.size≤(wp.alloc (.cells #[.int .i64 x0,.int .i64 x1,.int .i64 x2,.int .i64 x3,.int .i64 x4,.bool x5,.int .i64 x6] 112)).heap.size):=Nat.le_trans HW.out.keep.size (Nat.le_trans HKR.out.size (Nat.le_trans HKA.out.size HKB.out.size))
    dsimp only at HM2
    clear HVR HO
    go_upto_region 8 with (at_builtin;refine appL_Htlc rfl (.tmp 28) (.tmp 30) rfl W.heap.size g cap M ⟨x0,x1,x2,x3,x4,x5,x6⟩ rfl ⟨wp.heap.size,0,none⟩ 1 rfl HM2.out HO2.out (by have:=HLM.out;have:=HLn.out;omega) HSZ.out ?_;intro g' c' w' ho hg hat)
    have HI1:Hid (LInvH w w' W.heap.size V (.slice (some ⟨g',0,none⟩) (M.length+1) c') (restH ky (k.Hs.take (j+1))) (lastH ky (k.Hs.take (j+1)))):=by
     show LInvH _ _ _ _ _ _ _
     rw [HS1.out,HS2.out,if_neg hx,if_neg hx]
     have hlV:=HV2.out.lt
     have h3:g'≠V:=by
      rcases hat with e | e
      ·rw [e];exact HB.out.2.1
      ·rw [e];exact Nat.ne_of_gt hlV
     refine ⟨g',c',by rw [List.length_append];rfl,ho,?_,h3,row_other HV2.out hg (Ne.symm HB.out.2.1),(grown_turn hg).keeps ((HKR.out.trans HKA.out).trans HKB.out) (fun b hb=>by rw [List.mem_singleton.1 hb];exact HB.out.1),HB.out.2.2⟩
     rcases hat with e | e
     ·rw [e];exact HB.out.1
     ·rw [e];exact ((HKR.out.trans HKA.out).trans HKB.out).size
    clear ho hg hat HV2 HO2 HM2 HKB HSZ
    go_wp2_with fail
    go_roundw
    case rel=>exact ⟨j+1,by omega,by go_num,HI1⟩
    case measure=>simp [intOf];omega
  ·have e:j=k.Hs.length:=by omega
   subst e
   rw [List.take_length] at HI
   clear hlt hj
   obtain ⟨g,cap,rfl,ho,hg0,hgV,hrV,hkr,hV⟩:=HI.out
   have HO:=hide ho
   have HVR:=hide hrV
   have HKR:=hide hkr
   have HB:=hide (And.intro hg0 (And.intro hgV hV))
   clear ho hg0 hgV hrV hkr hV HI
   have HC0:Hid (settleC k.bk ky=if (lastH ky k.Hs).ky=0 then 15 else 0):=rfl
   have HLB:Hid (settleB k.bk ky good=⟨k.tk,k.nx,k.wa,settleM k.C (lastH ky k.Hs) good,restH ky k.Hs,k.R⟩):=rfl
   have HBM:Hid ((lastH ky k.Hs).ky≠0→_):=fun h=>HBB.out _ (lastH_mem h)
   have HGN:Hid (Gentle 0 k.L):=by show Gentle _ _;rw [HLL.out];exact Gentle.nil
   have HSM:Hid (Narrow k.C):=⟨Nat.le_trans HLC.out (by decide),HAA.out⟩
   have HPV:Hid (V≠p∧V≠k.gC∧g≠p∧g≠k.gC∧g≠k.gR∧g∉lb k.la):=by
    have h1:=HW.out.row.lt
    have h2:=(HW.out.oC.lt k.gC rfl).2
    have h3:=(HW.out.oH.lt k.gH rfl).2
    have h4:=(HW.out.oR.lt k.gR rfl).2
    have h5:=owned_low HW.out.oL HB.out.1
    obtain ⟨h6,h7,h8⟩:=HB.out
    refine ⟨?_,?_,?_,?_,?_,h5⟩ <;> omega
   clear HB HAA HBB HLL HLC
   obtain ⟨c,hcE⟩:∃ c,c=lastH ky k.Hs:=⟨_,rfl⟩
   obtain ⟨M,hME⟩:∃ M,M=restH ky k.Hs:=⟨_,rfl⟩
   rw [← hcE] at HC0 HLB HBM HVR
   rw [← hME] at HLB HO ⊢
   have HCE:=hide hcE
   clear hcE hME
   obtain ⟨y0,y1,y2,y3,y4,y5,y6⟩:=c
   dsimp only at HVR HC0 HBM
   obtain ⟨e0,e1,e2,e3,e4,e5,e6⟩:=rw7_cells HVR.out
   by_cases hz:y0=0
   ·have hd:(y0==0)=true:=by simpa using hz
    go_wp2_with fail
    refine (code_yes W wr p k 15 HH0.out (by decide) (HW.out.kept HKR.out)).mono ?_
    rintro e w5 ⟨rfl,hw,ht⟩
    have HEX:Hid (∀ B L,Ends W w5 p (settleC k.bk ky) B L):=fun B L=>⟨_,hw,by rw [HC0.out,if_pos hz],fun h0=>absurd h0 (by rw [HC0.out,if_pos hz];decide)⟩
    clear hw ht
    go_wp2_with fail
    first | go_end0 | go_ret2 | refine bodyPost_ret (results_none rfl _ _ _) rfl ?_
    exact ⟨rfl,HEX.out _ _⟩
   have hd:(y0==0)=false:=by simpa using hz
   replace HC0:Hid (settleC k.bk ky=0):=by show _=_;rw [HC0.out,if_neg hz]
   replace HBM:=hide (HBM.out hz)
   go_wp2_with fail
   refine (code_no W wr p k 15 HH0.out (HW.out.kept HKR.out)).mono ?_
   rintro e w5 ⟨rfl,hk⟩
   have HW5:=hide (HW.out.kept (HKR.out.trans hk))
   have HO5:=hide (HO.out.kept (keeps_grown hk) (.inr (by simp [ownBlock_sl])))
   replace HVR:=hide (hk.rowK HVR.out)
   clear hk HO HW HKR hd
   clear e0 e1 e2 e3 e4 e5 e6
   have c4:=HW5.out.cells.2.2.2.2.1
   have f4:=HW5.out.row.frozen 4
   have HG:Hid (Go W (w5.setCell ⟨p,4,none⟩ (.slice (some ⟨g,0,none⟩) M.length cap)) p V ⟨k.tk,k.nx,k.wa,k.C,M,k.R⟩ k.L):=⟨_,HW5.out.newH HO5.out HPV.out.2.2.1 HPV.out.2.2.2.1 HPV.out.2.2.2.2.1 HPV.out.2.2.2.2.2,HH0.out,rfl,rfl,HPV.out.1,HPV.out.2.1⟩
   replace HVR:=hide (row_other HVR.out (turn_grown (Turn.set (fs:=[p]) (a:=⟨p,4,none⟩) (by simp) (.slice (some ⟨g,0,none⟩) M.length cap))) HPV.out.1)
   go_upto_region 11 with fail
   clear c4 f4 HW5 HO5 HPV
   generalize w5.setCell ⟨p,4,none⟩ (.slice (some ⟨g,0,none⟩) M.length cap)=w8 at *
   obtain ⟨e0,e1,e2,e3,e4,e5,e6⟩:=rw7_cells HVR.out
   clear HVR
   obtain ⟨htw,hai,hao⟩:=HBM.out
   obtain ⟨i,j,ai,aj,hxy⟩:=two_at htw
   have HIJ:=hide (And.intro ai (And.intro aj (at_ne ai aj hxy)))
   obtain ⟨hi,-⟩:=atC_lt ai
   clear htw ai aj hxy HBM e0
   have hw1:wrap64 (y4-y3)=y4-y3:=by unfold wrap64;omega
   have hw2:IntKind.i64.wrap (-y4)=-y4:=by rw [IntKind.wrap_i64];omega
   have hw3:IntKind.i64.wrap (y4-y3)=y4-y3:=by rw [IntKind.wrap_i64];omega
   have HHI:=hide hi
   obtain ⟨gC,cC,gH,cH,gR,cR,la,lc,hK,h1,h2⟩:=HG.out.open
   obtain ⟨c0,c1,c2,c3,c4,c5,-,-⟩:=hK.cells
   dsimp only at c0 c1 c2 c3 c4 c5
   have HK:=hide hK
   have HVV:=hide (And.intro h1 h2)
   have HAT:=hide (fun w' (h:Mem w' (Wk.bo ⟨k.tk,k.nx,k.wa,gC,cC,k.C,gH,cH,M,gR,cR,k.R,la,lc,k.L,0⟩).segs)=>(show Calls _ _ _ _ _ from by have:=at_spec (Wk.bo ⟨k.tk,k.nx,k.wa,gC,cC,k.C,gH,cH,M,gR,cR,k.R,la,lc,k.L,0⟩) y1 w' h HSM.out.1;rw [show atI (Wk.bo ⟨k.tk,k.nx,k.wa,gC,cC,k.C,gH,cH,M,gR,cR,k.R,la,lc,k.L,0⟩).C y1=(i:Int) from atI_some HIJ.out.1] at this;exact this))
   clear hK h1 h2 hi HG
   generalize k.tk=tk at *
   generalize k.nx=nx at *
   generalize k.wa=wa at *
   have HSS:Hid ((fun w'=>w'.cell? ⟨p,0,none⟩=some (.int .i64 tk)∧w'.cell? ⟨p,1,none⟩=some (.int .i64 nx)∧w'.cell? ⟨p,2,none⟩=some (.int .i64 wa)∧w'.cell? ⟨p,3,none⟩=some (.slice (some ⟨gC,0,none⟩) k.C.length cC)∧w'.cell? ⟨p,4,none⟩=some (.slice (some ⟨gH,0,none⟩) M.length cH)∧w'.cell? ⟨p,5,none⟩=some (.slice (some ⟨gR,0,none⟩) k.R.length cR)∧w'.cell? ⟨V,1,none⟩=some (.int .i64 y1)) w8):=⟨c0,c1,c2,c3,c4,c5,e1⟩
   refine wp_region_perm [(false,0),(false,1),(false,2),(false,3),(false,4),(false,5),(true,6),(false,7)] (fun w'=>w'.cell? ⟨p,0,none⟩=some (.int .i64 tk)∧w'.cell? ⟨p,1,none⟩=some (.int .i64 nx)∧w'.cell? ⟨p,2,none⟩=some (.int .i64 wa)∧w'.cell? ⟨p,3,none⟩=some (.slice (some ⟨gC,0,none⟩) k.C.length cC)∧w'.cell? ⟨p,4,none⟩=some (.slice (some ⟨gH,0,none⟩) M.length cH)∧w'.cell? ⟨p,5,none⟩=some (.slice (some ⟨gR,0,none⟩) k.R.length cR)∧w'.cell? ⟨V,1,none⟩=some (.int .i64 y1)) (by kernel_rfl) (by kernel_rfl) rfl rfl (fun _ _ d _ _ h=>by cases d <;> exact h) (by obtain ⟨s0,s1,s2,s3,s4,s5,s6⟩:=HSS.out;exact ⟨s0,s1,s2,s3,s4,s5,s6⟩) ?_
   have hdk:Keeps w8 w8.drew:=(Keeps.refl _).drew
   replace HK:=hide (HK.out.kept hdk)
   replace HSS:Hid ((fun w'=>w'.cell? ⟨p,0,none⟩=some (.int .i64 tk)∧w'.cell? ⟨p,1,none⟩=some (.int .i64 nx)∧w'.cell? ⟨p,2,none⟩=some (.int .i64 wa)∧w'.cell? ⟨p,3,none⟩=some (.slice (some ⟨gC,0,none⟩) k.C.length cC)∧w'.cell? ⟨p,4,none⟩=some (.slice (some ⟨gH,0,none⟩) M.length cH)∧w'.cell? ⟨p,5,none⟩=some (.slice (some ⟨gR,0,none⟩) k.R.length cR)∧w'.cell? ⟨V,1,none⟩=some (.int .i64 y1)) w8.drew):=by obtain ⟨s0,s1,s2,s3,s4,s5,s6⟩:=HSS.out;exact ⟨s0,s1,s2,s3,s4,s5,s6⟩
   replace e1:=hdk.cell e1
   replace e2:=hdk.cell e2
   replace e3:=hdk.cell e3
   replace e4:=hdk.cell e4
   clear hdk c0 c1 c2 c3 c4 c5
   generalize w8.drew=w10 at *
   repeat (first
    | (refine wpPerm_no (by rfl) ?_
       try simp only [Act.put,List.setIfInBounds_toArray,List.set_cons_zero,List.set_cons_succ])
    | (refine wpPerm_yes (v:=?_) (by rfl) ?_ ?_
       rotate_left
       ·intro w9 hS9
        obtain ⟨s0,s1,s2,s3,s4,s5,s6⟩:=hS9
        go_simp
        with_reducible rfl
       try simp only [Act.put,List.setIfInBounds_toArray,List.set_cons_zero,List.set_cons_succ]))
   refine wpPerm_do (by rfl) ?_
   intro K9 hK9
   go_simp
   refine (unhide HAT _ HK.out.mem).mono ?_
   rintro e w11 ⟨rfl,hk⟩
   refine hK9.out _ _ (by obtain ⟨s0,s1,s2,s3,s4,s5,s6⟩:=HSS.out;exact ⟨hk.cell s0,hk.cell s1,hk.cell s2,hk.cell s3,hk.cell s4,hk.cell s5,hk.cell s6⟩) ?_
   clear hK9 K9 HSS
   have HG:=hide (Go.mk' (HK.out.kept hk) HVV.out.1 HVV.out.2)
   replace e1:=hk.cell e1
   replace e2:=hk.cell e2
   replace e3:=hk.cell e3
   replace e4:=hk.cell e4
   clear hk HK HVV HAT
   try simp only [Act.put,List.setIfInBounds_toArray,List.set_cons_zero,List.set_cons_succ]
   repeat (first
    | (refine wpPerm_no (by rfl) ?_
       try simp only [Act.put,List.setIfInBounds_toArray,List.set_cons_zero,List.set_cons_succ])
    | (refine wpPerm_yes (v:=?_) (by rfl) ?_ ?_
       rotate_left
       ·intro w9 hS9
        obtain ⟨s0,s1,s2,s3,s4,s5,s6⟩:=hS9
        go_simp
        with_reducible rfl
       try simp only [Act.put,List.setIfInBounds_toArray,List.set_cons_zero,List.set_cons_succ]))
   refine wpPerm_end ?_
   generalize w11=w8 at *
   cases good
   ·skip
    go_wp2_with fail
    refine (move_at HG.out y1 0 y3 (HSM.out.one HIJ.out.1 (by omega) (by omega))).mono ?_
    rintro e w9 ⟨rfl,hg,hv⟩
    replace e1:=hv _ _ e1
    replace e2:=hv _ _ e2
    replace e3:=hv _ _ e3
    replace e4:=hv _ _ e4
    replace HG:=hide hg
    clear hg hv
    generalize w9=w8 at *
    go_wp2_with fail
    refine (move_at HG.out y2 y4 0 (HSM.out.two HIJ.out.1 HIJ.out.2.1 HIJ.out.2.2 (by omega) (by omega) _ _)).mono ?_
    rintro e w9 ⟨rfl,hg,hv⟩
    replace e1:=hv _ _ e1
    replace e2:=hv _ _ e2
    replace e3:=hv _ _ e3
    replace e4:=hv _ _ e4
    replace HG:=hide hg
    clear hg hv
    generalize w9=w8 at *
    obtain ⟨C2,hC2⟩:∃ C2,C2=movC (movC k.C y1 0 y3) y2 y4 0:=⟨_,rfl⟩
    rw [← hC2] at HG
    have HA2:Hid (atC C2 y1=some i):=by show _=_;rw [hC2,movC_at,movC_at];exact HIJ.out.1
    have hi2:i < C2.length:=by rw [hC2,movC_len,movC_len];exact HHI.out
    have HC2:=hide hC2
    clear hC2
    obtain ⟨gC,cC,gH,cH,gR,cR,la,lc,hK,h1,h2⟩:=HG.out.open
    have c3:=hK.cells.2.2.2.1
    have q6:=(hK.oC.at i hi2).2.2.2.2.2.2
    have hzz:i*7+7≤C2.length*7:=by omega
    dsimp only at c3 q6
    have HK:=hide hK
    have HVV:=hide (And.intro h1 h2)
    clear hK h1 h2 HG
    go_upto_region 20 with fail
    go_region_with (go_at_call 80;refine (down_spec C2[i].sc _).mono ?_;rintro _ w12 ⟨rfl,hk⟩;replace hk:Keeps w8 w12:=(by first | exact hk | exact ((Keeps.refl _).drew).trans hk);have HW5:=hide (HK.out.kept hk);have r3:=HW5.out.cells.2.2.2.1;have r6:=(HW5.out.oC.at i hi2).2.2.2.2.2.2;have f6:=HW5.out.oC.frz (i*7+6);dsimp only at r3 r6 f6;replace e1:=hk.cell e1;replace e2:=hk.cell e2;replace e3:=hk.cell e3;replace e4:=hk.cell e4;clear hk)
    all_goals
     have HS:=hide (score_at HW5.out HVV.out.1 HVV.out.2 hi2 HA2.out downS)
     replace e1:=HS.out.2 _ _ e1
     replace e2:=HS.out.2 _ _ e2
     replace e3:=HS.out.2 _ _ e3
     replace e4:=HS.out.2 _ _ e4
     have HG:=hide HS.out.1
     clear HS HW5 r3 r6 f6 HVV HA2 HK
     generalize w12.setCell ⟨gC,i*7+6,none⟩ (.int .i64 (downS C2[i].sc))=w13 at *
     obtain ⟨C3,hC3⟩:∃ C3,C3=scoreC C2 y1 downS:=⟨_,rfl⟩
     rw [← hC3] at HG
     have HC3:=hide hC3
     clear hC3 c3 q6 hzz
     go_wp2_with fail
     refine (line_at HG.out 6 y2 y4 0 HGN.out (by decide) (by omega) (by omega)).mono ?_
     rintro e w9 ⟨rfl,hg,hv⟩
     replace e2:=hv _ _ e2
     replace e4:=hv _ _ e4
     replace HG:=hide hg
     clear hg hv
     generalize w9=w8 at *
     replace HGN:=hide (HGN.out.line 6 y2 y4 (by omega) (by omega))
     go_wp2_with fail
     refine (line_at HG.out 8 y2 (-y4) 1 HGN.out (by decide) (by omega) (by omega)).mono ?_
     rintro e w9 ⟨rfl,hg,hv⟩
     replace HG:=hide hg
     clear hg hv
     generalize w9=w8 at *
     go_wp2_with fail
     first | go_end0 | go_ret2 | refine bodyPost_ret (results_none rfl _ _ _) rfl ?_
     refine ⟨rfl,?_⟩
     rw [HLB.out,← HCE.out]
     obtain rfl:=HC3.out
     obtain rfl:=HC2.out
     exact HG.out.ends HC0.out
   ·skip
    go_wp2_with fail
    refine (move_at HG.out y1 y3 0 (HSM.out.one HIJ.out.1 (by omega) (by omega))).mono ?_
    rintro e w9 ⟨rfl,hg,hv⟩
    replace e1:=hv _ _ e1
    replace e2:=hv _ _ e2
    replace e3:=hv _ _ e3
    replace e4:=hv _ _ e4
    replace HG:=hide hg
    clear hg hv
    generalize w9=w8 at *
    go_wp2_with fail
    refine (move_at HG.out y2 0 y4 (HSM.out.two HIJ.out.1 HIJ.out.2.1 HIJ.out.2.2 (by omega) (by omega) _ _)).mono ?_
    rintro e w9 ⟨rfl,hg,hv⟩
    replace e1:=hv _ _ e1
    replace e2:=hv _ _ e2
    replace e3:=hv _ _ e3
    replace e4:=hv _ _ e4
    replace HG:=hide hg
    clear hg hv
    generalize w9=w8 at *
    obtain ⟨C2,hC2⟩:∃ C2,C2=movC (movC k.C y1 y3 0) y2 0 y4:=⟨_,rfl⟩
    rw [← hC2] at HG
    have HA2:Hid (atC C2 y1=some i):=by show _=_;rw [hC2,movC_at,movC_at];exact HIJ.out.1
    have hi2:i < C2.length:=by rw [hC2,movC_len,movC_len];exact HHI.out
    have HC2:=hide hC2
    clear hC2
    obtain ⟨gC,cC,gH,cH,gR,cR,la,lc,hK,h1,h2⟩:=HG.out.open
    have c3:=hK.cells.2.2.2.1
    have q6:=(hK.oC.at i hi2).2.2.2.2.2.2
    have hzz:i*7+7≤C2.length*7:=by omega
    dsimp only at c3 q6
    have HK:=hide hK
    have HVV:=hide (And.intro h1 h2)
    clear hK h1 h2 HG
    go_upto_region 15 with fail
    go_region_with (go_at_call 79;refine (up_spec C2[i].sc _).mono ?_;rintro _ w12 ⟨rfl,hk⟩;replace hk:Keeps w8 w12:=(by first | exact hk | exact ((Keeps.refl _).drew).trans hk);have HW5:=hide (HK.out.kept hk);have r3:=HW5.out.cells.2.2.2.1;have r6:=(HW5.out.oC.at i hi2).2.2.2.2.2.2;have f6:=HW5.out.oC.frz (i*7+6);dsimp only at r3 r6 f6;replace e1:=hk.cell e1;replace e2:=hk.cell e2;replace e3:=hk.cell e3;replace e4:=hk.cell e4;clear hk)
    all_goals
     have HS:=hide (score_at HW5.out HVV.out.1 HVV.out.2 hi2 HA2.out upS)
     replace e1:=HS.out.2 _ _ e1
     replace e2:=HS.out.2 _ _ e2
     replace e3:=HS.out.2 _ _ e3
     replace e4:=HS.out.2 _ _ e4
     have HG:=hide HS.out.1
     clear HS HW5 r3 r6 f6 HVV HA2 HK
     generalize w12.setCell ⟨gC,i*7+6,none⟩ (.int .i64 (upS C2[i].sc))=w13 at *
     obtain ⟨C3,hC3⟩:∃ C3,C3=scoreC C2 y1 upS:=⟨_,rfl⟩
     rw [← hC3] at HG
     have HC3:=hide hC3
     clear hC3 c3 q6 hzz
     go_wp2_with fail
     refine (line_at HG.out 3 0 (y4-y3) 0 HGN.out (by decide) (by omega) (by omega)).mono ?_
     rintro e w9 ⟨rfl,hg,hv⟩
     replace e1:=hv _ _ e1
     replace e2:=hv _ _ e2
     replace e3:=hv _ _ e3
     replace e4:=hv _ _ e4
     replace HG:=hide hg
     clear hg hv
     generalize w9=w8 at *
     replace HGN:=hide (HGN.out.line 3 0 (y4-y3) (by omega) (by omega))
     go_wp2_with fail
     refine (line_at HG.out 6 y1 y3 1 HGN.out (by decide) (by omega) (by omega)).mono ?_
     rintro e w9 ⟨rfl,hg,hv⟩
     replace e2:=hv _ _ e2
     replace e4:=hv _ _ e4
     replace HG:=hide hg
     clear hg hv
     generalize w9=w8 at *
     replace HGN:=hide (HGN.out.line 6 y1 y3 (by omega) (by omega))
     go_wp2_with fail
     refine (line_at HG.out 8 y2 (-y4) 2 HGN.out (by decide) (by omega) (by omega)).mono ?_
     rintro e w9 ⟨rfl,hg,hv⟩
     replace HG:=hide hg
     clear hg hv
     generalize w9=w8 at *
     go_wp2_with fail
     first | go_end0 | go_ret2 | refine bodyPost_ret (results_none rfl _ _ _) rfl ?_
     refine ⟨rfl,?_⟩
     rw [HLB.out,← HCE.out]
     obtain rfl:=HC3.out
     obtain rfl:=HC2.out
     exact HG.out.ends HC0.out
end Go.Proofs.YtccdhcempnkgaaaGreatDoor
namespace Go.Proofs.YtccdhcempnkgaaaGreatDoor
open Go.RowKit Go.Deep
set_option linter.unusedVariables false
set_option linter.unusedSimpArgs false
def nzL (L:List Ln):List Ln:=L.filter (fun x=>decide (x.a≠0))
theorem addG_end (x:Ln):∀ (L:List Ln),(∀ y∈L,lessB y.k y.c x.k x.c=true)→addG x false L=L++[x]
 | [],_=>rfl
 | y :: L,h=>by
   simp only [addG]
   rw [if_pos (h y (by simp)),addG_end x L (fun z hz=>h z (by simp [hz]))];rfl
theorem lineW_nz (L:List Ln) (k c a:Int) (h:∀ y∈L,lessB y.k y.c k c=true):lineW (nzL L) k c a=nzL (L++[⟨k,c,a⟩]):=by
 unfold lineW nzL
 rw [List.filter_append]
 by_cases h0:a=0
 ·simp [h0]
 ·rw [if_neg h0,addG_end _ _ (fun y hy=>h y (List.mem_filter.1 hy).1)];simp [h0]
theorem lineW_one (k c a:Int):lineW [] k c a=nzL [⟨k,c,a⟩]:=lineW_nz [] k c a (by simp)
theorem lines2 {k c a k' c' a':Int} (h:k < k'):lineW (lineW [] k c a) k' c' a'=nzL [⟨k,c,a⟩,⟨k',c',a'⟩]:=by
 rw [lineW_one,lineW_nz _ _ _ _ (by simp [lessB,h])];rfl
theorem lines3 {k c a k' c' a' k2 c2 a2:Int} (h:k < k') (h':k' < k2):lineW (lineW (lineW [] k c a) k' c' a') k2 c2 a2=nzL [⟨k,c,a⟩,⟨k',c',a'⟩,⟨k2,c2,a2⟩]:=by
 have h2:k < k2:=by omega
 rw [lines2 h,lineW_nz _ _ _ _ (by simp [lessB,h',h2])];rfl
def findH (ky:Int) (L:List Htl):Option Nat:=L.findIdx? (fun h=>decide (h.ky=ky))
theorem foldH_none {ky:Int} (c:Htl):∀ (L:List Htl),(∀ x∈L,x.ky≠ky)→L.foldl (fun c x=>if x.ky=ky then x else c) c=c
 | [],_=>rfl
 | y :: L,h=>by rw [List.foldl_cons,if_neg (h y (by simp)),foldH_none c L (fun x hx=>h x (by simp [hx]))]
theorem restH_all {ky:Int} {L:List Htl} (h:∀ x∈L,x.ky≠ky):restH ky L=L:=by
 unfold restH;rw [List.filter_eq_self];intro x hx;simpa using h x hx
theorem findH_none {ky:Int} {L:List Htl} (h:findH ky L=none):(∀ x∈L,x.ky≠ky)∧(lastH ky L).ky=0∧restH ky L=L:=by
 have h1:∀ x∈L,x.ky≠ky:=by
  unfold findH at h
  rw [List.findIdx?_eq_none_iff] at h
  intro x hx;simpa using h x hx
 exact ⟨h1,by unfold lastH;rw [foldH_none _ _ h1],restH_all h1⟩
theorem findH_some {ky:Int} {L:List Htl} (hn:(L.map Htl.ky).Nodup) {i:Nat} (h:findH ky L=some i):∃ hi:i < L.length,L[i].ky=ky∧lastH ky L=L[i]∧restH ky L=L.eraseIdx i:=by
 unfold findH at h
 rw [List.findIdx?_eq_some_iff_getElem] at h
 obtain ⟨hi,he,hb⟩:=h
 have he':L[i].ky=ky:=by simpa using he
 have e:L=L.take i++L[i] :: L.drop (i+1):=by rw [← List.drop_eq_getElem_cons hi,List.take_append_drop]
 have h1:∀ x∈L.take i,x.ky≠ky:=by
  intro x hx
  obtain ⟨j,hj,rfl⟩:=List.getElem_of_mem hx
  rw [List.length_take] at hj
  have:=hb j (by omega)
  simpa using this
 have h2:∀ x∈L.drop (i+1),x.ky≠ky:=by
  intro x hx hk
  rw [e,List.map_append,List.map_cons] at hn
  have hn2:=(List.nodup_append.1 hn).2.1
  rw [List.nodup_cons] at hn2
  exact hn2.1 (by rw [he',← hk];exact List.mem_map_of_mem hx)
 refine ⟨hi,he',?_,?_⟩
 ·unfold lastH
  conv=>lhs;rw [e]
  rw [List.foldl_append,foldH_none _ _ h1,List.foldl_cons,if_pos he',foldH_none _ _ h2]
 ·rw [List.eraseIdx_eq_take_drop_succ]
  conv=>lhs;rw [e]
  unfold restH
  rw [List.filter_append,List.filter_cons,if_neg (by simpa using he')]
  exact congr (congrArg _ (restH_all h1)) (restH_all h2)
def findR (ky:Int) (L:List Crc):Option Nat:=L.findIdx? (fun h=>decide (h.ky=ky))
theorem foldR_none {ky:Int} (c:Crc):∀ (L:List Crc),(∀ x∈L,x.ky≠ky)→L.foldl (fun c x=>if x.ky=ky then x else c) c=c
 | [],_=>rfl
 | y :: L,h=>by rw [List.foldl_cons,if_neg (h y (by simp)),foldR_none c L (fun x hx=>h x (by simp [hx]))]
theorem restR_all {ky:Int} {L:List Crc} (h:∀ x∈L,x.ky≠ky):restR ky L=L:=by
 unfold restR;rw [List.filter_eq_self];intro x hx;simpa using h x hx
theorem findR_none {ky:Int} {L:List Crc} (h:findR ky L=none):(∀ x∈L,x.ky≠ky)∧(lastR ky L).ky=0∧restR ky L=L:=by
 have h1:∀ x∈L,x.ky≠ky:=by
  unfold findR at h
  rw [List.findIdx?_eq_none_iff] at h
  intro x hx;simpa using h x hx
 exact ⟨h1,by unfold lastR;rw [foldR_none _ _ h1],restR_all h1⟩
theorem findR_some {ky:Int} {L:List Crc} (hn:(L.map Crc.ky).Nodup) {i:Nat} (h:findR ky L=some i):∃ hi:i < L.length,L[i].ky=ky∧lastR ky L=L[i]∧restR ky L=L.eraseIdx i:=by
 unfold findR at h
 rw [List.findIdx?_eq_some_iff_getElem] at h
 obtain ⟨hi,he,hb⟩:=h
 have he':L[i].ky=ky:=by simpa using he
 have e:L=L.take i++L[i] :: L.drop (i+1):=by rw [← List.drop_eq_getElem_cons hi,List.take_append_drop]
 have h1:∀ x∈L.take i,x.ky≠ky:=by
  intro x hx
  obtain ⟨j,hj,rfl⟩:=List.getElem_of_mem hx
  rw [List.length_take] at hj
  have:=hb j (by omega)
  simpa using this
 have h2:∀ x∈L.drop (i+1),x.ky≠ky:=by
  intro x hx hk
  rw [e,List.map_append,List.map_cons] at hn
  have hn2:=(List.nodup_append.1 hn).2.1
  rw [List.nodup_cons] at hn2
  exact hn2.1 (by rw [he',← hk];exact List.mem_map_of_mem hx)
 refine ⟨hi,he',?_,?_⟩
 ·unfold lastR
  conv=>lhs;rw [e]
  rw [List.foldl_append,foldR_none _ _ h1,List.foldl_cons,if_pos he',foldR_none _ _ h2]
 ·rw [List.eraseIdx_eq_take_drop_succ]
  conv=>lhs;rw [e]
  unfold restR
  rw [List.filter_append,List.filter_cons,if_neg (by simpa using he')]
  exact congr (congrArg _ (restR_all h1)) (restR_all h2)
def insG (one:Chn):List Chn→List Chn
 | []=>[one]
 | c :: C=>if one.id < c.id then one :: c :: C else c :: insG one C
theorem insS_true (one:Chn):∀ (C A:List Chn),C.foldl (insS one) (A,true)=(A++C,true)
 | [],A=>by simp
 | c :: C,A=>by
   rw [List.foldl_cons]
   have e:insS one (A,true) c=(A++[c],true):=by simp [insS]
   rw [e,insS_true one C];simp
theorem insS_false (one:Chn):∀ (C A:List Chn),(if (C.foldl (insS one) (A,false)).2=true then (C.foldl (insS one) (A,false)).1 else (C.foldl (insS one) (A,false)).1++[one])=A++insG one C
 | [],A=>by simp [insG]
 | c :: C,A=>by
   rw [List.foldl_cons]
   by_cases h:one.id < c.id
   ·have e:insS one (A,false) c=(A++[one]++[c],true):=by simp [insS,h]
    rw [e,insS_true];simp [insG,h]
   ·have e:insS one (A,false) c=(A++[c],false):=by simp [insS,h]
    rw [e,insS_false one C];simp [insG,h]
theorem insC_eq (one:Chn) (C:List Chn):insC one C=insG one C:=by
 have:=insS_false one C []
 rw [List.nil_append] at this
 exact this
theorem insG_perm (one:Chn):∀ C:List Chn,(insG one C).Perm (C++[one])
 | []=>List.Perm.refl _
 | c :: C=>by
   unfold insG
   by_cases h:one.id < c.id
   ·rw [if_pos h];exact (List.perm_append_singleton one (c :: C)).symm
   ·rw [if_neg h];exact (insG_perm one C).cons c
theorem insG_asc (one:Chn):∀ C:List Chn,C.Pairwise (fun x y=>x.id < y.id)→(∀ c∈C,c.id≠one.id)→(insG one C).Pairwise (fun x y=>x.id < y.id)
 | [],_,_=>by simp [insG]
 | c :: C,hp,hn=>by
   unfold insG
   have hp':=List.pairwise_cons.1 hp
   by_cases h:one.id < c.id
   ·rw [if_pos h,List.pairwise_cons]
    refine ⟨fun y hy=>?_,hp⟩
    rcases List.mem_cons.1 hy with rfl | hy
    ·exact h
    ·have:=hp'.1 y hy;omega
   ·rw [if_neg h,List.pairwise_cons]
    refine ⟨fun y hy=>?_,insG_asc one C hp'.2 (fun d hd=>hn d (by simp [hd]))⟩
    have hy':=(insG_perm one C).mem_iff.1 hy
    rcases List.mem_append.1 hy' with hy' | hy'
    ·exact hp'.1 y hy'
    ·have e:=List.mem_singleton.1 hy'
     have:=hn c (by simp)
     rw [e];omega
theorem asc_is {C M:List Chn} (hg:M.Pairwise (fun x y=>x.id < y.id)) (hp:C.Perm M) (hs:C.Pairwise (fun x y=>decide (y.id < x.id)=false)):C=M:=by
 refine List.Perm.eq_of_pairwise (le:=fun x y=>decide (y.id < x.id)=false) ?_ hs (hg.imp ?_) hp
 ·intro x y hx hy h1 h2
  have hx':=hp.mem_iff.1 hx
  simp only [decide_eq_false_iff_not] at h1 h2
  obtain ⟨i,hi,rfl⟩:=List.getElem_of_mem hx'
  obtain ⟨j,hj,rfl⟩:=List.getElem_of_mem hy
  rw [List.pairwise_iff_getElem] at hg
  rcases Nat.lt_trichotomy i j with h | h | h
  ·have:=hg i j hi hj h;omega
  ·subst h;rfl
  ·have:=hg j i hj hi h;omega
 ·intro x y h
  simp only [decide_eq_false_iff_not]
  omega
theorem ids_asc {C:List Chn} (h:idsB C=true):C.Pairwise (fun x y=>x.id < y.id):=by
 have h1:∀ k,k < C.length→idAt C k=true:=fun k hk=>by
  unfold idsB at h
  rw [List.all_eq_true] at h
  exact h k (List.mem_range.2 hk)
 have h2:∀ i (hi:i+1 < C.length),C[i].id < C[i+1].id:=fun i hi=>by
  have:=h1 (i+1) hi
  have hi0:i < C.length:=by omega
  simp [idAt,hi,hi0] at this
  exact this.2
 rw [List.pairwise_iff_getElem]
 intro i j hi hj hij
 induction j with
 | zero=>omega
 | succ j ih =>
   rcases Nat.lt_or_ge i j with h' | h'
   ·have:=ih (by omega) h'
    have:=h2 j hj
    omega
   ·have e:i=j:=by omega
    subst e
    exact h2 i hj
end Go.Proofs.YtccdhcempnkgaaaGreatDoor
