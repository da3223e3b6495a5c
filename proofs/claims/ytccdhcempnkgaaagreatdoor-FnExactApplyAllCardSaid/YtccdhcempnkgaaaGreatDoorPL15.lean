/- Texts of the verifier, joined: WkL, WkV. -/
import Derived.Test.YtccdhcempnkgaaaGreatDoorPL14
namespace Go.Proofs.YtccdhcempnkgaaaGreatDoor
open Go.RowKit Go.Deep
set_option linter.unusedVariables false
set_option linter.unusedSimpArgs false
set_option maxRecDepth 10000
theorem turn_grown {w w':World} {V:Nat} (ht:Turn [V] w w'):w.grownBy w' (some V):=⟨ht.os,ht.tape,ht.output,ht.size,fun j hj hn=>ht.block j hj (fun hx=>hn (by rw [List.mem_singleton.1 hx]))⟩
def LInvR (w wr:World) (base V:Nat) (v:Value) (M:List Crc) (c:Crc):Prop:=∃ g cap,v=.slice (some ⟨g,0,none⟩) M.length cap∧OwnsCircle wr base (.slice (some ⟨g,0,none⟩) M.length cap) M∧w.heap.size≤g∧g≠V∧wr.rowIs V 115 5 (rw5 (.int .i64 c.ky) (.int .i64 c.fr) (.int .i64 c.to) (.int .i64 c.am) (.int .i64 c.fe))∧Keeps w wr∧w.heap.size≤V
def landC (B:Bk) (ky:Int):Int:=if (lastR ky B.R).ky=0 then 15 else 0
def landM (C:List Chn) (c:Crc) (good:Bool):List Chn:=if good=true then movC (movC C c.fr 0 (c.am+c.fe)) c.to c.am 0 else movC (movC C c.fr (c.am+c.fe) 0) c.to 0 c.am
def landB (B:Bk) (ky:Int) (good:Bool):Bk:=⟨B.tk,B.nx,B.wa,landM B.C (lastR ky B.R) good,B.Hs,restR ky B.R⟩
def landL (c:Crc) (good:Bool) (L:List Ln):List Ln:=lineW (if good=true then lineW (lineW L 4 0 c.fe) 6 c.to c.am else lineW L 6 c.fr (c.am+c.fe)) 8 c.fr (-(c.am+c.fe))
set_option maxHeartbeats 8000000 in
theorem land_spec (W w:World) (p:Nat) (k:Wk) (h:WkAt W w p k) (hc:k.cd=0) (ky:Int) (good:Bool) (hC:k.C.length≤20) (hR:k.R.length≤20) (hL:k.L=[]) (hA:∀ c∈k.C,(0≤c.lo∧c.lo≤1125899906842624)∧0≤c.re∧c.re≤1125899906842624) (hB:∀ c∈k.R,twoB k.C c.fr c.to=true∧(0≤c.am∧c.am≤1125899906842624)∧0≤c.fe∧c.fe≤1125899906842624) :
 Calls Tryz.prog 44 #[.pointer (some ⟨p,0,none⟩),.int .i64 ky,.bool good] w fun e w'=>e=.returned (.tuple #[])∧Ends W w' p (landC k.bk ky) (landB k.bk ky good) (landL (lastR ky k.R) good k.L):=by
 have HW:=hide h
 have HH0:=hide hc
 have HLn:Hid (k.R.length≤1000):=Nat.le_trans hR (by decide)
 have HLC:=hide hC
 have HLL:=hide hL
 have HAA:=hide hA
 have HBB:=hide hB
 clear h hc hC hR hL hA hB
 have HOE:Hid (OwnsCircle ((w.alloc (.cells #[] 115)).alloc (.cells #[.int .i64 0,.int .i64 0,.int .i64 0,.int .i64 0,.int .i64 0] 115)) W.heap.size (.slice (some ⟨w.heap.size,0,none⟩) 0 0) []):=World.ownsRow.alloc (⟨by simp [crs],.inr ⟨w.heap.size,0,#[],rfl,HW.out.keep.size,blk_alloc_new w _,by simp,by simp [maxLen],by simp,by simp [crs]⟩⟩) _
 have HKE:=hide (Keeps.alloc (Keeps.alloc (Keeps.refl w) (.cells #[] 115)) (.cells #[.int .i64 0,.int .i64 0,.int .i64 0,.int .i64 0,.int .i64 0] 115))
 have HVE:=hide (rw5_new (w.alloc (.cells #[] 115)) (.int .i64 0) (.int .i64 0) (.int .i64 0) (.int .i64 0) (.int .i64 0) 115)
 have hsz:(w.alloc (.cells #[] 115)).heap.size=w.heap.size+1:=by simp
 rw [hsz] at HVE
 go_enter Tryz.func44,Tryz.ntmps44
 go_upto_region 2 with fail
 try simp only [hsz]
 clear hsz
 generalize ((w.alloc (.cells #[] 115)).alloc (.cells #[.int .i64 0,.int .i64 0,.int .i64 0,.int .i64 0,.int .i64 0] 115))=w2 at *
 have HI0:Hid (LInvR w w2 W.heap.size (w.heap.size+1) (.slice (some ⟨w.heap.size,0,none⟩) 0 0) (restR ky (k.R.take 0)) (lastR ky (k.R.take 0))):=⟨w.heap.size,0,rfl,HOE.out,Nat.le_refl _,by omega,HVE.out,HKE.out,by omega⟩
 have c5:=(HW.out.kept HKE.out).cells.2.2.2.2.2.1
 clear HOE HKE HVE
 generalize w.heap.size+1=V at *
 go_wp2_with fail
 clear c5
 go_loopw [6,19] (fun v y wr=>∃ j:Nat,j≤k.R.length∧y=.int .i64 (j:Int)∧Hid (LInvR w wr W.heap.size V v (restR ky (k.R.take j)) (lastR ky (k.R.take j)))) (fun _ y _=>k.R.length-(intOf y).toNat)
 case atStart=>exact ⟨0,by omega,rfl,HI0⟩
 case round =>
  obtain ⟨j,hj,rfl,HI⟩:=hrel
  clear HI0
  by_cases hlt:j < k.R.length
  ·have HS1:=hide (lastR_step ky k.R j hlt)
   have HS2:=hide (restR_step ky k.R j hlt)
   have HLM:=hide (restR_len ky k.R j)
   have hln:=HLn.out
   generalize lastR ky (k.R.take j)=c at *
   generalize restR ky (k.R.take j)=M at *
   obtain ⟨g,cap,rfl,ho,hg0,hgV,hrV,hkr,hV⟩:=HI.out
   obtain ⟨q0,q1,q2,q3,q4⟩:=(HW.out.kept hkr).oR.at j hlt
   have hz:j*5+5≤k.R.length*5:=by omega
   generalize k.R[j]=x at *
   obtain ⟨x0,x1,x2,x3,x4⟩:=x
   dsimp only at q0 q1 q2 q3 q4 HS1 HS2
   have HO:=hide (ho.alloc (.cells #[.int .i64 x0,.int .i64 x1,.int .i64 x2,.int .i64 x3,.int .i64 x4] 115))
   have HKA:=hide (Keeps.alloc (Keeps.refl wr) (.cells #[.int .i64 x0,.int .i64 x1,.int .i64 x2,.int .i64 x3,.int .i64 x4] 115))
   have HVR:=hide (HKA.out.rowK hrV)
   have HYR:=hide (rw5_new wr (.int .i64 x0) (.int .i64 x1) (.int .i64 x2) (.int .i64 x3) (.int .i64 x4) 115)
   have HVY:Hid (V≠wr.heap.size):=fun e=>by have:=hrV.lt;omega
   have HKR:=hide hkr
   have HB:=hide (And.intro hg0 (And.intro hgV hV))
   clear ho hrV hkr hg0 hgV hV HI
   go_upto_region 5 with fail
   generalize wr.alloc (.cells #[.int .i64 x0,.int .i64 x1,.int .i64 x2,.int .i64 x3,.int .i64 x4] 115)=wp at *
   generalize wr.heap.size=Y at *
   obtain ⟨y0,y1,y2,y3,y4⟩:=rw5_cells HYR.out
   clear q0 q1 q2 q3 q4 HYR
   by_cases hx:x0=ky
   ·have hx':=hx.symm
    subst hx'
    have hd:(ky==ky)=true:=by simp
    obtain ⟨v0,v1,v2,v3,v4⟩:=rw5_cells HVR.out
    have hfz:=HVR.out.frozen
    have f0:=hfz 0
    have f1:=hfz 1
    have f2:=hfz 2
    have f3:=hfz 3
    have f4:=hfz 4
    have HV1:=hide (rw5_set HVR.out (.int .i64 ky) (.int .i64 x1) (.int .i64 x2) (.int .i64 x3) (.int .i64 x4))
    have HT1:=hide (rw5_turn wp V (.int .i64 ky) (.int .i64 x1) (.int .i64 x2) (.int .i64 x3) (.int .i64 x4))
    clear hfz HVR
    go_wp2_with fail
    go_roundw
    case rel =>
     refine ⟨j+1,by omega,by go_num,?_⟩
     show LInvR _ _ _ _ _ _ _
     rw [HS1.out,HS2.out,if_pos rfl,if_pos rfl]
     exact ⟨g,cap,rfl,HO.out.kept (turn_grown HT1.out) (.inr (by rw [ownBlock_sl];intro e;exact HB.out.2.1 (Option.some.inj e))),HB.out.1,HB.out.2.1,HV1.out,HT1.out.keeps (HKR.out.trans HKA.out) (fun b hb=>by rw [List.mem_singleton.1 hb];exact HB.out.2.2),HB.out.2.2⟩
    case measure=>simp [intOf];omega
   ·have hd:(x0==ky)=false:=by simpa using hx
    have HM2:=hide (one_Circle wp ⟨x0,x1,x2,x3,x4⟩)
    have HKB:=hide (Keeps.alloc (Keeps.refl wp) (.cells #[.int .i64 x0,.int .i64 x1,.int .i64 x2,.int .i64 x3,.int .i64 x4] 115))
    have HO2:=hide (HO.out.alloc (.cells #[.int .i64 x0,.int .i64 x1,.int .i64 x2,.int .i64 x3,.int .i64 x4] 115))
    have HV2:=hide (HKB.out.rowK HVR.out)
    have HSZ:Hid (W.heap.size≤(wp.alloc (.cells #[.int .i64 x0,.int .i64 x1,.int .i64 x2,.int .i64 x3,.int .i64 x4] 115)).heap.size):=Nat.le_trans HW.out.keep.size (Nat.le_trans HKR.out.size (Nat.le_trans HKA.out.size HKB.out.size))
    dsimp only at HM2
    clear HVR HO
    go_upto_region 8 with (at_builtin;refine appL_Circle rfl (.tmp 28) (.tmp 30) rfl W.heap.size g cap M ⟨x0,x1,x2,x3,x4⟩ rfl ⟨wp.heap.size,0,none⟩ 1 rfl HM2.out HO2.out (by have:=HLM.out;have:=HLn.out;omega) HSZ.out ?_;intro g' c' w' ho hg hat)
    have HI1:Hid (LInvR w w' W.heap.size V (.slice (some ⟨g',0,none⟩) (M.length+1) c') (restR ky (k.R.take (j+1))) (lastR ky (k.R.take (j+1)))):=by
     show LInvR _ _ _ _ _ _ _
     rw [HS1.out,HS2.out,if_neg hx,if_neg hx]
     have hlV:=HV2.out.lt
     have h3:g'≠V:=by
      rcases hat with e | e
      ·rw [e];exact HB.out.2.1
      ·rw [e];exact Nat.ne_of_gt hlV
     refine ⟨g',c',by rw [List.length_append];rfl,ho,?_,h3,row_other HV2.out hg (Ne.symm HB.out.2.1),(grown_turn hg).keeps ((HKR.out.trans HKA.out).trans HKB.out) (fun b hb=>by rw [List.mem_singleton.1 hb];exact HB.out.1),HB.out.2.2⟩
     rcases hat with e | e
     ·rw [e];exact HB.out.1
     ·rw [e];exact ((HKR.out.trans HKA.out).trans HKB.out).size
    clear ho hg hat HV2 HO2 HM2 HKB HSZ
    go_wp2_with fail
    go_roundw
    case rel=>exact ⟨j+1,by omega,by go_num,HI1⟩
    case measure=>simp [intOf];omega
  ·have e:j=k.R.length:=by omega
   subst e
   rw [List.take_length] at HI
   clear hlt hj
   obtain ⟨g,cap,rfl,ho,hg0,hgV,hrV,hkr,hV⟩:=HI.out
   have HO:=hide ho
   have HVR:=hide hrV
   have HKR:=hide hkr
   have HB:=hide (And.intro hg0 (And.intro hgV hV))
   clear ho hg0 hgV hrV hkr hV HI
   have HC0:Hid (landC k.bk ky=if (lastR ky k.R).ky=0 then 15 else 0):=rfl
   have HLB:Hid (landB k.bk ky good=⟨k.tk,k.nx,k.wa,landM k.C (lastR ky k.R) good,k.Hs,restR ky k.R⟩):=rfl
   have HBM:Hid ((lastR ky k.R).ky≠0→_):=fun h=>HBB.out _ (lastR_mem h)
   have HGN:Hid (Gentle 0 k.L):=by show Gentle _ _;rw [HLL.out];exact Gentle.nil
   have HSM:Hid (Narrow k.C):=⟨Nat.le_trans HLC.out (by decide),HAA.out⟩
   have HPV:Hid (V≠p∧V≠k.gC∧g≠p∧g≠k.gC∧g≠k.gH∧g∉lb k.la):=by
    have h1:=HW.out.row.lt
    have h2:=(HW.out.oC.lt k.gC rfl).2
    have h3:=(HW.out.oH.lt k.gH rfl).2
    have h4:=(HW.out.oR.lt k.gR rfl).2
    have h5:=owned_low HW.out.oL HB.out.1
    obtain ⟨h6,h7,h8⟩:=HB.out
    refine ⟨?_,?_,?_,?_,?_,h5⟩ <;> omega
   clear HB HAA HBB HLL HLC
   obtain ⟨c,hcE⟩:∃ c,c=lastR ky k.R:=⟨_,rfl⟩
   obtain ⟨M,hME⟩:∃ M,M=restR ky k.R:=⟨_,rfl⟩
   rw [← hcE] at HC0 HLB HBM HVR
   rw [← hME] at HLB HO ⊢
   have HCE:=hide hcE
   clear hcE hME
   obtain ⟨y0,y1,y2,y3,y4⟩:=c
   dsimp only at HVR HC0 HBM
   obtain ⟨e0,e1,e2,e3,e4⟩:=rw5_cells HVR.out
   by_cases hz:y0=0
   ·have hd:(y0==0)=true:=by simpa using hz
    go_wp2_with fail
    refine (code_yes W wr p k 15 HH0.out (by decide) (HW.out.kept HKR.out)).mono ?_
    rintro e w5 ⟨rfl,hw,ht⟩
    have HEX:Hid (∀ B L,Ends W w5 p (landC k.bk ky) B L):=fun B L=>⟨_,hw,by rw [HC0.out,if_pos hz],fun h0=>absurd h0 (by rw [HC0.out,if_pos hz];decide)⟩
    clear hw ht
    go_wp2_with fail
    first | go_end0 | go_ret2 | refine bodyPost_ret (results_none rfl _ _ _) rfl ?_
    exact ⟨rfl,HEX.out _ _⟩
   have hd:(y0==0)=false:=by simpa using hz
   replace HC0:Hid (landC k.bk ky=0):=by show _=_;rw [HC0.out,if_neg hz]
   replace HBM:=hide (HBM.out hz)
   go_wp2_with fail
   refine (code_no W wr p k 15 HH0.out (HW.out.kept HKR.out)).mono ?_
   rintro e w5 ⟨rfl,hk⟩
   have HW5:=hide (HW.out.kept (HKR.out.trans hk))
   have HO5:=hide (HO.out.kept (keeps_grown hk) (.inr (by simp [ownBlock_sl])))
   replace HVR:=hide (hk.rowK HVR.out)
   clear hk HO HW HKR hd
   clear e0 e1 e2 e3 e4
   have c5:=HW5.out.cells.2.2.2.2.2.1
   have f5:=HW5.out.row.frozen 5
   have HG:Hid (Go W (w5.setCell ⟨p,5,none⟩ (.slice (some ⟨g,0,none⟩) M.length cap)) p V ⟨k.tk,k.nx,k.wa,k.C,k.Hs,M⟩ k.L):=⟨_,HW5.out.newR HO5.out HPV.out.2.2.1 HPV.out.2.2.2.1 HPV.out.2.2.2.2.1 HPV.out.2.2.2.2.2,HH0.out,rfl,rfl,HPV.out.1,HPV.out.2.1⟩
   replace HVR:=hide (row_other HVR.out (turn_grown (Turn.set (fs:=[p]) (a:=⟨p,5,none⟩) (by simp) (.slice (some ⟨g,0,none⟩) M.length cap))) HPV.out.1)
   go_upto_region 11 with fail
   clear c5 f5 HW5 HO5 HPV
   generalize w5.setCell ⟨p,5,none⟩ (.slice (some ⟨g,0,none⟩) M.length cap)=w8 at *
   obtain ⟨e0,e1,e2,e3,e4⟩:=rw5_cells HVR.out
   clear HVR
   obtain ⟨htw,ham,hfe⟩:=HBM.out
   obtain ⟨i,j,ai,aj,hxy⟩:=two_at htw
   have HIJ:=hide (And.intro ai (And.intro aj (at_ne ai aj hxy)))
   clear htw ai aj hxy HBM e0
   have hw1:wrap64 (y3+y4)=y3+y4:=by unfold wrap64;omega
   have hw2:IntKind.i64.wrap (-(y3+y4))=-(y3+y4):=by rw [IntKind.wrap_i64];omega
   have hw3:IntKind.i64.wrap (y3+y4)=y3+y4:=by rw [IntKind.wrap_i64];omega
   cases good
   ·skip
    go_wp2_with fail
    refine (move_at HG.out y1 (y3+y4) 0 (HSM.out.one HIJ.out.1 (by omega) (by omega))).mono ?_
    rintro e w9 ⟨rfl,hg,hv⟩
    replace e1:=hv _ _ e1
    replace e2:=hv _ _ e2
    replace e3:=hv _ _ e3
    replace e4:=hv _ _ e4
    replace HG:=hide hg
    clear hg hv
    generalize w9=w8 at *
    go_wp2_with fail
    refine (move_at HG.out y2 0 y3 (HSM.out.two HIJ.out.1 HIJ.out.2.1 HIJ.out.2.2 (by omega) (by omega) _ _)).mono ?_
    rintro e w9 ⟨rfl,hg,hv⟩
    replace e1:=hv _ _ e1
    replace e2:=hv _ _ e2
    replace e3:=hv _ _ e3
    replace e4:=hv _ _ e4
    replace HG:=hide hg
    clear hg hv
    generalize w9=w8 at *
    go_wp2_with fail
    refine (line_at HG.out 6 y1 (y3+y4) 0 HGN.out (by decide) (by omega) (by omega)).mono ?_
    rintro e w9 ⟨rfl,hg,hv⟩
    replace e1:=hv _ _ e1
    replace e2:=hv _ _ e2
    replace e3:=hv _ _ e3
    replace e4:=hv _ _ e4
    replace HG:=hide hg
    clear hg hv
    generalize w9=w8 at *
    replace HGN:=hide (HGN.out.line 6 y1 (y3+y4) (by omega) (by omega))
    go_wp2_with fail
    refine (line_at HG.out 8 y1 (-(y3+y4)) 1 HGN.out (by decide) (by omega) (by omega)).mono ?_
    rintro e w9 ⟨rfl,hg,hv⟩
    replace e1:=hv _ _ e1
    replace HG:=hide hg
    clear hg hv
    generalize w9=w8 at *
    go_wp2_with fail
    first | go_end0 | go_ret2 | refine bodyPost_ret (results_none rfl _ _ _) rfl ?_
    refine ⟨rfl,?_⟩
    rw [HLB.out,← HCE.out]
    exact HG.out.ends HC0.out
   ·skip
    go_wp2_with fail
    refine (move_at HG.out y1 0 (y3+y4) (HSM.out.one HIJ.out.1 (by omega) (by omega))).mono ?_
    rintro e w9 ⟨rfl,hg,hv⟩
    replace e1:=hv _ _ e1
    replace e2:=hv _ _ e2
    replace e3:=hv _ _ e3
    replace e4:=hv _ _ e4
    replace HG:=hide hg
    clear hg hv
    generalize w9=w8 at *
    go_wp2_with fail
    refine (move_at HG.out y2 y3 0 (HSM.out.two HIJ.out.1 HIJ.out.2.1 HIJ.out.2.2 (by omega) (by omega) _ _)).mono ?_
    rintro e w9 ⟨rfl,hg,hv⟩
    replace e1:=hv _ _ e1
    replace e2:=hv _ _ e2
    replace e3:=hv _ _ e3
    replace e4:=hv _ _ e4
    replace HG:=hide hg
    clear hg hv
    generalize w9=w8 at *
    go_wp2_with fail
    refine (line_at HG.out 4 0 y4 0 HGN.out (by decide) (by omega) (by omega)).mono ?_
    rintro e w9 ⟨rfl,hg,hv⟩
    replace e1:=hv _ _ e1
    replace e2:=hv _ _ e2
    replace e3:=hv _ _ e3
    replace e4:=hv _ _ e4
    replace HG:=hide hg
    clear hg hv
    generalize w9=w8 at *
    replace HGN:=hide (HGN.out.line 4 0 y4 (by omega) (by omega))
    go_wp2_with fail
    refine (line_at HG.out 6 y2 y3 1 HGN.out (by decide) (by omega) (by omega)).mono ?_
    rintro e w9 ⟨rfl,hg,hv⟩
    replace e1:=hv _ _ e1
    replace e2:=hv _ _ e2
    replace e3:=hv _ _ e3
    replace e4:=hv _ _ e4
    replace HG:=hide hg
    clear hg hv
    generalize w9=w8 at *
    replace HGN:=hide (HGN.out.line 6 y2 y3 (by omega) (by omega))
    go_wp2_with fail
    refine (line_at HG.out 8 y1 (-(y3+y4)) 2 HGN.out (by decide) (by omega) (by omega)).mono ?_
    rintro e w9 ⟨rfl,hg,hv⟩
    replace e1:=hv _ _ e1
    replace HG:=hide hg
    clear hg hv
    generalize w9=w8 at *
    go_wp2_with fail
    first | go_end0 | go_ret2 | refine bodyPost_ret (results_none rfl _ _ _) rfl ?_
    refine ⟨rfl,?_⟩
    rw [HLB.out,← HCE.out]
    exact HG.out.ends HC0.out
end Go.Proofs.YtccdhcempnkgaaaGreatDoor
namespace Go.Proofs.YtccdhcempnkgaaaGreatDoor
open Go.RowKit Go.Deep
set_option linter.unusedVariables false
set_option linter.unusedSimpArgs false
set_option maxRecDepth 10000
theorem appL_Chan {ops:Array Oper} {rest:List Oper} {o:Oper} {a:Act} {Q:Exit→Act→World→Prop} {wr:World} (hgd:o.guard=none) (s x:Operand)
 (ho:o.op=.call { callee:=.builtin .append,args:=#[s,x],argTypes:=#[30,30] }) (base g cap:Nat) (L:List Chn) (y:Chn) (hs:a.eval s=.slice (some ⟨g,0,none⟩) L.length cap) (xa:Addr) (c:Nat)
 (hx:a.eval x=.slice (some xa) 1 c) (hM:Cells wr (some xa) (chs [y])) (hown:OwnsChan wr base (.slice (some ⟨g,0,none⟩) L.length cap) L) (hl:L.length≤1000000) (hbase:base≤wr.heap.size)
 (h:∀ g' c' w',OwnsChan w' base (.slice (some ⟨g',0,none⟩) (L++[y]).length c') (L++[y])→wr.grownBy w' (some g)→(g'=g∨g'=wr.heap.size)→wpList Tryz.prog ops Q rest (a.put o.dst (.slice (some ⟨g',0,none⟩) (L.length+1) c')) w') :
 wpList Tryz.prog ops Q (o :: rest) a wr:=by
 have hI:=infoChan
 cases hi:Tryz.prog.info? 78 with
 | none=>rw [hi] at hI;simp at hI
 | some i =>
   rw [hi] at hI
   simp at hI
   obtain ⟨hz,hsz,hby⟩:=hI
   refine wpList_append_lies _ hgd s x 30 ho base 78 i _ 7 56 underChans hi hz hsz hby rfl (by decide) _ L.length (chs L) hs hown xa 1 c (chs [y]) hx (by rw [chs_len];rfl) ?_ (fun u hu=>cell_one_Chan hu) (by decide) (by simp only [maxLen];omega) (by omega) hbase _ rfl ?_
   ·intro j u hj
    rcases hM with hM | ⟨b,off,e,hM⟩
    ·rw [hM] at hj;simp at hj
    ·obtain rfl:=Option.some.inj e
     obtain ⟨hj',e'⟩:=List.getElem?_eq_some_iff.1 hj
     have:=hM j hj'
     rw [e'] at this
     rw [← this,addr_at]
   ·intro g' c' w' h1 h2 h3 h4
    refine h g' c' w' (by unfold OwnsChan;rw [chs_append,List.length_append];exact h1) h2 ?_
    rcases h3 with h3 | h3
    ·left;exact (Option.some.inj h3).symm
    ·exact .inr h3
theorem one_Chan (W:World) (y:Chn):Cells (W.alloc (.cells #[.int .i64 y.id,.int .i64 y.sz,.int .i64 y.lo,.int .i64 y.re,.int .i64 y.ba,.int .i64 y.pp,.int .i64 y.sc] 78)) (some ⟨W.heap.size,0,none⟩) (chs [y]):=Or.inr ⟨W.heap.size,0,rfl,fun j hj=>by
 have hj':j < 7:=by have h4:=chs_len [y];rw [h4] at hj;simpa using hj
 rcases (show j=0∨j=1∨j=2∨j=3∨j=4∨j=5∨j=6 by omega) with rfl | rfl | rfl | rfl | rfl | rfl | rfl <;> simp [chs,Chn.cells]⟩
theorem row8_C (k:Wk) (g c:Nat) (M:List Chn):∀ j,j < 8→(if j=3 then (.slice (some ⟨g,0,none⟩) M.length c:Value) else k.row j)=(Wk.row { k with gC:=g,cC:=c,C:=M }) j
 | 0,_=>rfl
 | 1,_=>rfl
 | 2,_=>rfl
 | 3,_=>rfl
 | 4,_=>rfl
 | 5,_=>rfl
 | 6,_=>rfl
 | 7,_=>rfl
 | n+8,h=>absurd h (by omega)
theorem WkAt.newC {W w:World} {p:Nat} {k:Wk} {M:List Chn} {g' c':Nat} (h:WkAt W w p k) (ho:OwnsChan w W.heap.size (.slice (some ⟨g',0,none⟩) M.length c') M) (np:g'≠p) (na:g'≠k.gH) (nb:g'≠k.gR) (nl:g'∉lb k.la) :
 WkAt W (w.setCell ⟨p,3,none⟩ (.slice (some ⟨g',0,none⟩) M.length c')) p { k with gC:=g',cC:=c',C:=M }:=by
 have nd:=h.nd
 simp only [List.nodup_cons,List.mem_cons,not_or] at nd
 obtain ⟨⟨n1,n2,n3,n4⟩,⟨n5,n6,n7⟩,⟨n8,n9⟩,n10,n11⟩:=nd
 have ht:Turn [p] w (w.setCell ⟨p,3,none⟩ (.slice (some ⟨g',0,none⟩) M.length c')):=Turn.set (by simp) _
 have hg2:w.grownBy (w.setCell ⟨p,3,none⟩ (.slice (some ⟨g',0,none⟩) M.length c')) (some p):=⟨ht.os,ht.tape,ht.output,ht.size,fun j hj hn=>ht.block j hj (fun hx=>hn (by rw [List.mem_singleton.1 hx]))⟩
 refine ⟨ht.keeps h.keep (fun b hb=>by rw [List.mem_singleton.1 hb];exact h.hp),h.hp,(h.row.set 3 _).congr (fun j hj=>row8_C k g' c' M j hj),?_,?_,?_,h.oL.kept hg2 (ownBlock_lb n4),?_⟩
 ·exact ownsX ho hg2 np
 ·exact ownsX h.oH hg2 (Ne.symm n2)
 ·exact ownsX h.oR hg2 (Ne.symm n3)
 ·simp only [List.nodup_cons,List.mem_cons,not_or]
  refine ⟨⟨?_,?_,?_,n4⟩,⟨?_,?_,?_⟩,⟨?_,?_⟩,?_,n11⟩ <;> first | assumption | omega
def Gp (W w:World) (p:Nat) (B:Bk) (L:List Ln):Prop:=∃ K,WkAt W w p K∧K.cd=0∧K.bk=B∧K.L=L
theorem Gp.ends {W w:World} {p:Nat} {B:Bk} {L:List Ln} {c:Int} (h:Gp W w p B L) (hc:c=0):Ends W w p c B L:=by
 obtain ⟨K,h1,h2,h3,h4⟩:=h
 exact ⟨K,h1,h2.trans hc.symm,fun _=>⟨h3,h4⟩⟩
theorem line_gp {W w:World} {p:Nat} {B:Bk} {L:List Ln} (h:Gp W w p B L) (kind ch amt:Int) (n:Nat) (hm:Gentle n L) (hn:n≤10) (h0:-4503599627370496≤amt) (h1:amt≤4503599627370496) :
 Calls Tryz.prog 36 #[.pointer (some ⟨p,0,none⟩),.int .i64 kind,.int .i64 ch,.int .i64 amt] w fun e w'=>e=.returned (.tuple #[])∧Gp W w' p B (lineW L kind ch amt)∧(∀ V i v,V≠p→w.cell? ⟨V,i,none⟩=some v→w'.cell? ⟨V,i,none⟩=some v):=by
 obtain ⟨K,h2,h3,rfl,rfl⟩:=h
 refine (line_spec W w p K kind ch amt h2 (hm.mild hn) (by omega) (by omega)).mono ?_
 rintro e w' ⟨rfl,⟨a,c,hw⟩,ht⟩
 exact ⟨rfl,⟨_,hw,h3,rfl,rfl⟩,fun V i v hp hv=>ht.cell (p:=⟨V,i,none⟩) (by simpa using hp) hv⟩
def LInvC (w wr:World) (base:Nat) (v:Value) (M:List Chn):Prop:=∃ g cap,v=.slice (some ⟨g,0,none⟩) M.length cap∧OwnsChan wr base (.slice (some ⟨g,0,none⟩) M.length cap) M∧w.heap.size≤g∧Keeps w wr
end Go.Proofs.YtccdhcempnkgaaaGreatDoor
