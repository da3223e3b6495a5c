/- The program's deeds: a circle is launched. -/
import Derived.Test.YtccdhcempnkgaaaGreatDoorPL29
import Derived.Test.YtccdhcempnkgaaaGreatDoorPL28
import Derived.Test.YtccdhcempnkgaaaGreatDoorPL23
namespace Go.Proofs.YtccdhcempnkgaaaGreatDoor
open Go.RowKit Go.Deep
set_option linter.unusedVariables false
set_option linter.unusedSimpArgs false
set_option maxRecDepth 10000
theorem ends_zero {B:Bk} {ky ch tt:Int} {full:Bool} (h:endsC B ky ch tt full=0):hasC B.C ch=true∧hasC B.C tt=true:=by
 unfold endsC at h
 by_cases h1:ky∈keysL B
 ·rw [if_pos h1] at h;omega
 ·rw [if_neg h1] at h
  by_cases h2:hasC B.C ch=false∨hasC B.C tt=false
  ·rw [if_pos h2] at h;omega
  ·cases ha:hasC B.C ch <;> cases hb:hasC B.C tt <;> simp [ha,hb] at h2 ⊢
theorem launch_ends (tk nx wa:Int) (C:List Chn) (Hs:List Htl) (R:List Crc) (ky ch tt am fe:Int) (ys:Bool) (hct:ch≠tt) (hlr:R.length≤20) (full:Bool) (hfull:decide ((20:Int)≤(R.length:Int))=full) :
 launchC ⟨tk,nx,wa,C,Hs,R⟩ ky ch tt am fe=if endsC ⟨tk,nx,wa,C,Hs,R⟩ ky ch tt full≠0 then endsC ⟨tk,nx,wa,C,Hs,R⟩ ky ch tt full else if addB am fe=false then 10 else if loC C ch < am+fe then 12 else if reC C tt < am then 11 else 0:=by
 unfold launchC endsC
 dsimp only
 by_cases h1:ky∈keysL ⟨tk,nx,wa,C,Hs,R⟩
 ·simp [h1]
 ·by_cases h2:hasC C ch=false∨hasC C tt=false
  ·have h3:twoB C ch tt=false:=by rcases h2 with h2 | h2 <;> simp [twoB,h2]
   simp [h1,h2,h3]
  ·have h3:twoB C ch tt=true:=by cases ha:hasC C ch <;> cases hb:hasC C tt <;> simp [ha,hb,twoB,hct] at h2 ⊢
   by_cases h4:R.length=20
   ·have:full=true:=by rw [← hfull,h4];rfl
    simp [h1,h2,h3,h4,this]
   ·have:full=false:=by rw [← hfull];simp;omega
    simp [h1,h2,h3,h4,this]
theorem admit_ends (tk nx wa:Int) (C:List Chn) (Hs:List Htl) (R:List Crc) (ky ch tt am fe:Int) (ys:Bool) (hct:ch≠tt) (hlr:Hs.length≤60) (full:Bool) (hfull:decide ((60:Int)≤(Hs.length:Int))=full) :
 admitC ⟨tk,nx,wa,C,Hs,R⟩ ky ch tt am ys=if endsC ⟨tk,nx,wa,C,Hs,R⟩ ky ch tt full≠0 then endsC ⟨tk,nx,wa,C,Hs,R⟩ ky ch tt full else if admB (chC C tt) am=false then 10 else if (chC C ch).re < admV (chC C tt) am then 11 else if (chC C tt).lo < am then 12 else if roomV Hs (chC C ch) (chC C tt) am ys=0 then 13 else 0:=by
 unfold admitC endsC
 dsimp only
 by_cases h1:ky∈keysL ⟨tk,nx,wa,C,Hs,R⟩
 ·simp [h1]
 ·by_cases h2:hasC C ch=false∨hasC C tt=false
  ·have h3:twoB C ch tt=false:=by rcases h2 with h2 | h2 <;> simp [twoB,h2]
   simp [h1,h2,h3]
  ·have h3:twoB C ch tt=true:=by cases ha:hasC C ch <;> cases hb:hasC C tt <;> simp [ha,hb,twoB,hct] at h2 ⊢
   by_cases h4:Hs.length=60
   ·have:full=true:=by rw [← hfull,h4];rfl
    simp [h1,h2,h3,h4,this]
   ·have:full=false:=by rw [← hfull];simp;omega
    simp [h1,h2,h3,h4,this]
set_option maxHeartbeats 8000000 in
theorem launch_impl (W:Wf) (w:World) (p:Nat) (tk nx wa:Int) (ca:Option Addr) (cc:Nat) (C:List Chn) (ha:Option Addr) (hc:Nat) (Hs:List Htl) (ra:Option Addr) (rc:Nat) (R:List Crc) (h:BoAt W w p ⟨tk,nx,wa,ca,cc,C,ha,hc,Hs,ra,rc,R⟩) (kd ky ch tt am fe:Int) (ys:Bool) (hlr:R.length≤20) (hlc:C.length≤20) (hl:Bo.len ⟨tk,nx,wa,ca,cc,C,ha,hc,Hs,ra,rc,R⟩) (hct:ch≠tt) (ham:0≤am∧am≤1125899906842624) (hfe:0≤fe∧fe≤1125899906842624) (hA:∀ c∈C,(0≤c.lo∧c.lo≤1125899906842624)∧0≤c.re∧c.re≤1125899906842624) (hAd:∀ x y w',Keeps w w'→Calls Tryz.prog 151 #[.int .i64 x,.int .i64 y] w' fun e w''=>e=.returned (.tuple #[.int .i64 (addV x y),.bool (addB x y)])∧Keeps w' w'') :
 Calls Tryz.prog 125 #[.pointer (some ⟨p,0,none⟩),evV kd ky ch tt am fe ys] w fun e w'=>Out W w w' p (launchC ⟨tk,nx,wa,C,Hs,R⟩ ky ch tt am fe) ⟨tk,nx,wa,C,Hs,R⟩ (launchB ⟨tk,nx,wa,C,Hs,R⟩ ky ch tt am fe) (launchL [] ch am fe) e:=by
 obtain ⟨full,hfull⟩:∃ full,decide ((20:Int)≤(R.length:Int))=full:=⟨_,rfl⟩
 have HLC:=hide (launch_ends tk nx wa C Hs R ky ch tt am fe ys hct hlr full hfull)
 by_cases hE:endsC ⟨tk,nx,wa,C,Hs,R⟩ ky ch tt full=0
 case neg =>
  obtain ⟨c,hcc⟩:∃ c,endsC ⟨tk,nx,wa,C,Hs,R⟩ ky ch tt full=c:=⟨_,rfl⟩
  have hP:∀ x,endsP ⟨tk,nx,wa,C,Hs,R⟩ ca ky ch tt full x=none:=fun x=>by unfold endsP;rw [if_neg hE]
  rw [hcc] at hE HLC
  have HC:Hid (launchC ⟨tk,nx,wa,C,Hs,R⟩ ky ch tt am fe=c):=by show _=_;rw [HLC.out,if_pos hE]
  have hce:(c != 0)=true:=by simpa using hE
  clear HLC
  have HKe:=hide (Keeps.alloc (Keeps.refl w) (.cells (evCells kd ky ch tt am fe ys) 41))
  have HRe:=hide (rw7_new w (.int .i64 kd) (.int .i64 ky) (.int .i64 ch) (.int .i64 tt) (.int .i64 am) (.int .i64 fe) (.bool ys) 41)
  have HB:=hide (h.kept HKe.out)
  have HPS:=hide h.row.lt
  have HAE:=hide (h.apart (Nat.le_refl w.heap.size))
  have HE:=hide (fun w' (hk:Keeps (w.alloc (.cells (evCells kd ky ch tt am fe ys) 41)) w')=>ends_impl p ⟨tk,nx,wa,ca,cc,C,ha,hc,Hs,ra,rc,R⟩ kd ky ch tt am fe ys full w' (HB.out.cells.kept hk) (HB.out.mem.kept hk) hl)
  simp only [show Bo.d ⟨tk,nx,wa,ca,cc,C,ha,hc,Hs,ra,rc,R⟩=⟨tk,nx,wa,C,Hs,R⟩ from rfl,hP,hcc] at HE
  clear h hA hAd hP hcc
  have HNZ:=hide hE
  clear hE
  go_enter Tryz.func125,Tryz.ntmps125
  go_upto_region 1 with fail
  obtain ⟨pe,hpe⟩:∃ pe,pe=w.heap.size:=⟨_,rfl⟩
  rw [← hpe] at HRe HAE
  try rw [← hpe]
  have HPE:=hide hpe
  clear hpe
  generalize (w.alloc (.cells #[.int .i64 kd,.int .i64 ky,.int .i64 ch,.int .i64 tt,.int .i64 am,.int .i64 fe,.bool ys] 41))=w0 at *
  have HZ:=hide HKe.out.size
  obtain ⟨e0,e1,e2,e3,e4,e5,e6⟩:=rw7_cells HRe.out
  have bl:=HB.out.cells.2.2.2.2.2
  dsimp only at bl
  have D0:=gr_cell e0
  have D1:=gr_cell e1
  have D2:=gr_cell e2
  have D3:=gr_cell e3
  have D4:=gr_cell e4
  have D5:=gr_cell e5
  have D6:=gr_cell e6
  have D7:=gr_cell bl
  clear e0 e1 e2 e3 e4 e5 e6 bl
  refine region_gr (by kernel_rfl) (by kernel_rfl) ?_
  repeat (go_big_quiet_step (fail))
  go_big_quiet_step (first | (go_at_call 142;exact gr_call (unhide HE _ (gr_keeps _ _))))
  repeat (go_big_quiet_step (fail))
  refine wpQuiet_nil ?_
  intro w1 hw'
  have hk:=Keeps.of_gr hw'
  replace HB:=hide (HB.out.kept hk)
  replace HRe:=hide (hk.rowK HRe.out)
  replace HZ:=hide (Nat.le_trans HZ.out hk.size)
  clear hk hw' D0 D1 D2 D3 D4 D5 D6 D7 HE
  go_wp2_with fail
  go_ret2
  exact Out.no HC.out HNZ.out HB.out
 obtain ⟨hh1,hh2⟩:=ends_zero hE
 have htw:twoB C ch tt=true:=by simp only [twoB,Bool.and_eq_true,decide_eq_true_eq];exact ⟨⟨hct,hh1⟩,hh2⟩
 obtain ⟨i,j,hi,hj,hai,haj,hij⟩:=two_ix htw
 obtain ⟨bi1,bi2⟩:=hA _ (List.getElem_mem hi)
 obtain ⟨bj1,bj2⟩:=hA _ (List.getElem_mem hj)
 have HMM:=hide (fun p q r s=>mov_two hi hj hai haj hij p q r s)
 obtain ⟨g,rfl⟩:∃ g,ca=some ⟨g,0,none⟩:=by
  obtain ⟨g,cap,e,-⟩:=h.oC.form (show 0 < C.length by omega)
  injection e with e _ _
  exact ⟨g,e⟩
 have hP1:endsP ⟨tk,nx,wa,C,Hs,R⟩ (some ⟨g,0,none⟩) ky ch tt full ch=some ⟨g,i*7,none⟩:=by unfold endsP;rw [if_pos hE];show placeC _ (atC C ch)=_;rw [hai];simp [placeC]
 have hP2:endsP ⟨tk,nx,wa,C,Hs,R⟩ (some ⟨g,0,none⟩) ky ch tt full tt=some ⟨g,j*7,none⟩:=by unfold endsP;rw [if_pos hE];show placeC _ (atC C tt)=_;rw [haj];simp [placeC]
 rw [if_neg (by rw [hE];decide)] at HLC
 have HLO:=hide (loC_at hai hi)
 have HRO:=hide (reC_at haj hj)
 rw [HLO.out,HRO.out] at HLC
 clear HLO HRO
 obtain ⟨ci,hci⟩:∃ ci,C[i]=ci:=⟨_,rfl⟩
 obtain ⟨cj,hcj⟩:∃ cj,C[j]=cj:=⟨_,rfl⟩
 rw [hci] at bi1 bi2
 rw [hcj] at bj1 bj2
 have HCI:=hide hci
 have HCJ:=hide hcj
 simp only [hci,hcj] at HLC
 clear hci hcj hh1 hh2 htw hA
 obtain ⟨a0,a1,a2,a3,a4,a5,a6⟩:=ci
 obtain ⟨b0,b1,b2,b3,b4,b5,b6⟩:=cj
 dsimp only at bi1 bi2 bj1 bj2 HLC
 simp only [HCI.out,HCJ.out] at HMM
 have HGP:Hid (g < w.heap.size∧g≠p):=⟨(owns_lb h.oC g (by simp [lb])).2,fun e=>h.np.1 (by simp [lb,e])⟩
 have HKe:=hide (Keeps.alloc (Keeps.refl w) (.cells (evCells kd ky ch tt am fe ys) 41))
 have HRe:=hide (rw7_new w (.int .i64 kd) (.int .i64 ky) (.int .i64 ch) (.int .i64 tt) (.int .i64 am) (.int .i64 fe) (.bool ys) 41)
 have HB:=hide (h.kept HKe.out)
 have HPS:=hide h.row.lt
 have HAE:=hide (h.apart (Nat.le_refl w.heap.size))
 have HE:=hide (fun w' (hk:Keeps (w.alloc (.cells (evCells kd ky ch tt am fe ys) 41)) w')=>ends_impl p ⟨tk,nx,wa,some ⟨g,0,none⟩,cc,C,ha,hc,Hs,ra,rc,R⟩ kd ky ch tt am fe ys full w' (HB.out.cells.kept hk) (HB.out.mem.kept hk) hl)
 simp only [show Bo.d ⟨tk,nx,wa,some ⟨g,0,none⟩,cc,C,ha,hc,Hs,ra,rc,R⟩=⟨tk,nx,wa,C,Hs,R⟩ from rfl,hP1,hP2,hE] at HE
 have HAd:=hide hAd
 clear h hP1 hP2 hE hAd hai haj
 go_enter Tryz.func125,Tryz.ntmps125
 go_upto_region 1 with fail
 obtain ⟨pe,hpe⟩:∃ pe,pe=w.heap.size:=⟨_,rfl⟩
 rw [← hpe] at HRe HAE
 try rw [← hpe]
 have HPE:=hide hpe
 clear hpe
 generalize (w.alloc (.cells #[.int .i64 kd,.int .i64 ky,.int .i64 ch,.int .i64 tt,.int .i64 am,.int .i64 fe,.bool ys] 41))=w0 at *
 have HZ:=hide HKe.out.size
 obtain ⟨e0,e1,e2,e3,e4,e5,e6⟩:=rw7_cells HRe.out
 have bl:=HB.out.cells.2.2.2.2.2
 dsimp only at bl
 have D0:=gr_cell e0
 have D1:=gr_cell e1
 have D2:=gr_cell e2
 have D3:=gr_cell e3
 have D4:=gr_cell e4
 have D5:=gr_cell e5
 have D6:=gr_cell e6
 have D7:=gr_cell bl
 clear e0 e1 e2 e3 e4 e5 e6 bl
 refine region_gr (by kernel_rfl) (by kernel_rfl) ?_
 repeat (go_big_quiet_step (fail))
 go_big_quiet_step (first | (go_at_call 142;exact gr_call (unhide HE _ (gr_keeps _ _))))
 repeat (go_big_quiet_step (fail))
 refine wpQuiet_nil ?_
 intro w1 hw'
 have hk:=Keeps.of_gr hw'
 replace HB:=hide (HB.out.kept hk)
 replace HRe:=hide (hk.rowK HRe.out)
 replace HZ:=hide (Nat.le_trans HZ.out hk.size)
 replace HKe:=hide (HKe.out.trans hk)
 clear hk hw' D0 D1 D2 D3 D4 D5 D6 D7 HE
 have hpp:pe≠p:=HAE.out.1
 have hpg:pe≠g:=fun e=>HAE.out.2.1 (by simp [lb,e])
 obtain ⟨e0,e1,e2,e3,e4,e5,e6⟩:=rw7_cells HRe.out
 go_wp2_with fail
 refine (unhide HAd am fe _ HKe.out).mono ?_
 rintro e w2 ⟨rfl,hk⟩
 replace HB:=hide (HB.out.kept hk)
 replace HRe:=hide (hk.rowK HRe.out)
 replace HZ:=hide (Nat.le_trans HZ.out hk.size)
 replace HKe:=hide (HKe.out.trans hk)
 clear hk
 clear e0 e1 e2 e3 e4 e5 e6
 cases hab:addB am fe with
 | false =>
   have HC:Hid (launchC ⟨tk,nx,wa,C,Hs,R⟩ ky ch tt am fe=10):=by show _=_;rw [HLC.out,if_pos hab]
   clear hab
   go_wp2_with fail
   go_ret2
   exact Out.no HC.out (by decide) HB.out
 | true =>
   rw [hab,if_neg (by decide)] at HLC
   have hav:addV am fe=am+fe:=by unfold addV;rw [if_pos hab]
   have HAB:=hide (amtB_true (n:=am+fe) (by simp [addB] at hab;exact hab.2))
   have hab2:=HAB.out
   rw [hav]
   clear hab hav
   obtain ⟨y0,y1,y2,y3,y4,y5,y6⟩:=HB.out.oC.at i hi
   simp only [HCI.out] at y0 y1 y2 y3 y4 y5 y6
   by_cases h12:a2 < am+fe
   ·have HC:Hid (launchC ⟨tk,nx,wa,C,Hs,R⟩ ky ch tt am fe=12):=by show _=_;rw [HLC.out,if_pos h12]
    have hd:decide (a2 < am+fe)=true:=decide_eq_true h12
    go_wp2_with fail
    go_ret2
    exact Out.no HC.out (by decide) HB.out
   rw [if_neg h12] at HLC
   have hd:decide (a2 < am+fe)=false:=decide_eq_false h12
   go_upto_region 9 with fail
   clear hd y0 y1 y2 y3 y4 y5 y6
   obtain ⟨y0,y1,y2,y3,y4,y5,y6⟩:=HB.out.oC.at j hj
   simp only [HCJ.out] at y0 y1 y2 y3 y4 y5 y6
   obtain ⟨e0,e1,e2,e3,e4,e5,e6⟩:=rw7_cells HRe.out
   by_cases h11:b3 < am
   ·have HC:Hid (launchC ⟨tk,nx,wa,C,Hs,R⟩ ky ch tt am fe=11):=by show _=_;rw [HLC.out,if_pos h11]
    have hd:decide (b3 < am)=true:=decide_eq_true h11
    go_region
    replace HB:=hide (HB.out.kept (Keeps.refl _).drew)
    generalize World.drew _=w3 at *
    go_wp2_with fail
    go_ret2
    exact Out.no HC.out (by decide) HB.out
   have HC:Hid (launchC ⟨tk,nx,wa,C,Hs,R⟩ ky ch tt am fe=0):=by show _=_;rw [HLC.out,if_neg h11]
   have hd:decide (b3 < am)=false:=decide_eq_false h11
   go_region
   replace HB:=hide (HB.out.kept (Keeps.refl _).drew)
   replace HRe:=hide (HRe.out.drew)
   replace HZ:Hid (w.heap.size≤(w2.drew).heap.size):=HZ.out
   replace HKe:=hide (HKe.out.drew)
   generalize World.drew _=w3 at *
   clear hd y0 y1 y2 y3 y4 y5 y6 e0 e1 e2 e3 e4 e5 e6 HLC
   have hw1:IntKind.i64.wrap (a2-(am+fe))=a2-(am+fe):=by rw [IntKind.wrap_i64];omega
   have hw2:IntKind.i64.wrap (b3-am)=b3-am:=by rw [IntKind.wrap_i64];omega
   have hw3:IntKind.i64.wrap (-(am+fe))=-(am+fe):=by rw [IntKind.wrap_i64];omega
   obtain ⟨e0,e1,e2,e3,e4,e5,e6⟩:=rw7_cells HRe.out
   obtain ⟨y0,y1,y2,y3,y4,y5,y6⟩:=HB.out.oC.at i hi
   simp only [HCI.out] at y0 y1 y2 y3 y4 y5 y6
   have fz:=HB.out.oC.frz (i*7+2)
   have HB1:=hide ((HB.out.put2 i hi (a2-(am+fe))))
   have HV1:=hide ((row_turn HRe.out (Turn.set (fs:=[g]) (a:=⟨g,i*7+2,none⟩) (by simp) (.int .i64 (a2-(am+fe)))) (by simpa using hpg)))
   have HZ1:Hid (w.heap.size≤((w3.setCell ⟨g,i*7+2,none⟩ (.int .i64 (a2-(am+fe))))).heap.size):=by show _≤_;have:=HZ.out;simpa using this
   simp only [HCI.out,List.set_set] at HB1
   go_upto_region 12 with fail
   generalize ((w3.setCell ⟨g,i*7+2,none⟩ (.int .i64 (a2-(am+fe)))))=w4 at *
   replace HB:=HB1
   replace HRe:=HV1
   replace HZ:=HZ1
   clear HB1 HV1 HZ1 fz y0 y1 y2 y3 y4 y5 y6 e0 e1 e2 e3 e4 e5 e6
   have hj1:j < (C.set i (⟨a0,a1,a2-(am+fe),a3,a4,a5,a6⟩:Chn)).length:=by simpa using hj
   obtain ⟨e0,e1,e2,e3,e4,e5,e6⟩:=rw7_cells HRe.out
   obtain ⟨y0,y1,y2,y3,y4,y5,y6⟩:=HB.out.oC.at j hj1
   simp only [List.getElem_set_ne hij,HCJ.out] at y0 y1 y2 y3 y4 y5 y6
   have fz:=HB.out.oC.frz (j*7+3)
   have HB1:=hide ((HB.out.put3 j hj1 (b3-am)).kept (Keeps.refl _).drew)
   have HV1:=hide ((row_turn HRe.out (Turn.set (fs:=[g]) (a:=⟨g,j*7+3,none⟩) (by simp) (.int .i64 (b3-am))) (by simpa using hpg)).drew)
   have HZ1:Hid (w.heap.size≤((w4.setCell ⟨g,j*7+3,none⟩ (.int .i64 (b3-am))).drew).heap.size):=by show _≤_;have:=HZ.out;simpa using this
   simp only [List.getElem_set_ne hij,HCJ.out,List.set_set] at HB1
   go_upto_region 12 with fail
   go_region
   generalize ((w4.setCell ⟨g,j*7+3,none⟩ (.int .i64 (b3-am))).drew)=w7 at *
   replace HB:=HB1
   replace HRe:=HV1
   replace HZ:=HZ1
   clear HB1 HV1 HZ1 fz y0 y1 y2 y3 y4 y5 y6 e0 e1 e2 e3 e4 e5 e6
   obtain ⟨C2,hC2⟩:∃ C2,C2=(C.set i (⟨a0,a1,a2-(am+fe),a3,a4,a5,a6⟩:Chn)).set j ⟨b0,b1,b2,b3-am,b4,b5,b6⟩:=⟨_,rfl⟩
   rw [← hC2] at HB
   have HC2:=hide hC2
   clear hC2
   obtain ⟨e0,e1,e2,e3,e4,e5,e6⟩:=rw7_cells HRe.out
   have bl:=HB.out.cells.2.2.2.2.2
   dsimp only at bl
   clear e0 e6
   go_upto_region 13 with fail
   have G0:=gr_cell e1
   have G1:=gr_cell e2
   have G2:=gr_cell e3
   have G3:=gr_cell e4
   have G4:=gr_cell e5
   have G5:=gr_cell bl
   clear e1 e2 e3 e4 e5 bl
   refine wp_region_app [.u,.f,.f,.f,.f,.h,.h,.h,.h,.h,.h,.h,.h,.h,.h,.h,.b,.t,.t,.t,.t] (by kernel_rfl) (by kernel_rfl) rfl rfl rfl rfl rfl rfl rfl (fun _ _ d _ _ h=>by cases d <;> exact h) ?_
   simp only [pkU,pkF,pkH,pkT,pkB]
   refine wpUni_step ?v0 (by rfl) ?f0 ?_
   case f0 =>
    intro w9
    go_simp
    with_reducible rfl
   try simp only [Act.put,List.setIfInBounds_toArray,List.set_cons_zero,List.set_cons_succ]
   refine wpUni_nil ?_
   refine wpFlo_step ?v1 (by rfl) ?f1 ?_
   case f1 =>
    rintro w9 ⟨t9,rfl⟩
    go_simp
    with_reducible rfl
   try simp only [Act.put,List.setIfInBounds_toArray,List.set_cons_zero,List.set_cons_succ]
   refine wpFlo_step ?v2 (by rfl) ?f2 ?_
   case f2 =>
    rintro w9 ⟨t9,rfl⟩
    go_simp
    with_reducible rfl
   try simp only [Act.put,List.setIfInBounds_toArray,List.set_cons_zero,List.set_cons_succ]
   refine wpFlo_step ?v3 (by rfl) ?f3 ?_
   case f3 =>
    rintro w9 ⟨t9,rfl⟩
    go_simp
    with_reducible rfl
   try simp only [Act.put,List.setIfInBounds_toArray,List.set_cons_zero,List.set_cons_succ]
   refine wpFlo_step ?v4 (by rfl) ?f4 ?_
   case f4 =>
    rintro w9 ⟨t9,rfl⟩
    go_simp
    with_reducible rfl
   try simp only [Act.put,List.setIfInBounds_toArray,List.set_cons_zero,List.set_cons_succ]
   refine wpFlo_nil ?_
   repeat (go_big_quiet_step (fail))
   refine wpQuiet_nil ?_
   refine ⟨rfl,?_⟩
   rintro w9 ⟨t9,rfl⟩ K9 hK9
   go_simp
   refine hK9.out _ _ (gr_gr (Keeps.alloc (Keeps.refl _) _)) ?_
   clear hK9 K9
   have HB9:=hide (HB.out.kept (gr_keeps w7 t9))
   have HKC:=hide (gr_keeps w7 t9)
   generalize gr w7 t9=W9 at *
   have HK9:=hide (Keeps.alloc (Keeps.refl W9) (.cells #[.int .i64 ky,.int .i64 ch,.int .i64 tt,.int .i64 am,.int .i64 fe] 115))
   have HM9:=hide (one_Circle W9 ⟨ky,ch,tt,am,fe⟩)
   replace HB9:=hide (HB9.out.kept HK9.out)
   have HR9:=hide ((HKC.out.trans HK9.out).rowK HRe.out)
   have HZ9:=hide (Nat.le_trans HZ.out (HKC.out.trans HK9.out).size)
   dsimp only at HM9
   clear G0 G1 G2 G3 G4 G5
   go_upto_region 14 with (at_builtin;refine app2_Circle rfl (.tmp 71) (.tmp 83) rfl 0 _ _ R ⟨ky,ch,tt,am,fe⟩ rfl ⟨W9.heap.size,0,none⟩ 1 rfl HM9.out HB9.out.oR (by omega) (Nat.zero_le _) ?_;intro g' c' w' ho ht hat;have HN:=hide (HB9.out.newR ht ho (fun q hq=>by simp [lb] at hq;subst hq;exact hat));have HTE:=hide ht;clear ho ht;have d0:=HN.out.2.cell (i:=5) (by decide);have d1:=HN.out.2.frozen 5;have d2:=HN.out.2.lt)
   have hlen:(R++[(⟨ky,ch,tt,am,fe⟩:Crc)]).length=R.length+1:=by simp
   rw [hlen] at HN
   have HTF:=hide (HTE.out.trans (Turn.set (fs:=[p]) (w:=w') (a:=⟨p,5,none⟩) (by simp) (.slice (some ⟨g',0,none⟩) (R.length+1) c')))
   replace HRe:=hide (row_turn HR9.out HTF.out (by simp only [List.mem_append,List.mem_singleton,not_or];exact ⟨HAE.out.2.2.2,hpp⟩))
   have HPG:Hid (pe≠g'):=by
    show _≠_
    intro e
    rcases hat with h1 | h1
    ·exact HAE.out.2.2.2 (by rw [e];exact h1)
    ·have:=HR9.out.lt;omega
   replace HZ:=hide (Nat.le_trans HZ9.out HTF.out.size)
   replace HB:Hid (BoAt W (w'.setCell ⟨p,5,none⟩ (.slice (some ⟨g',0,none⟩) (R.length+1) c')) p ⟨tk,nx,wa,some ⟨g,0,none⟩,cc,C2,ha,hc,Hs,some ⟨g',0,none⟩,c',R++[⟨ky,ch,tt,am,fe⟩]⟩):=HN.out.1
   clear HN HTF HTE HR9 HZ9 HB9 HM9 HK9 HKC d0 d1 d2 hlen
   generalize w'.setCell ⟨p,5,none⟩ (.slice (some ⟨g',0,none⟩) (R.length+1) c')=w5 at *
   obtain ⟨-,-,e2,-,-,-,-⟩:=rw7_cells HRe.out
   go_upto_region 14 with fail
   have G0:=gr_cell e2
   clear e2
   refine wp_region_app [.h,.h,.h,.h,.h,.h,.h,.h,.h,.b,.t,.t,.t] (by kernel_rfl) (by kernel_rfl) rfl rfl rfl rfl rfl rfl rfl (fun _ _ d _ _ h=>by cases d <;> exact h) ?_
   simp only [pkU,pkF,pkH,pkT,pkB]
   refine wpUni_nil ?_
   refine wpFlo_nil ?_
   repeat (go_big_quiet_step (first | (go_at_call 135;exact gr_call (hubLine_impl _ _ _)) | (go_at_call 138;exact gr_call (chanLine_impl _ _ _ _))))
   refine wpQuiet_nil ?_
   refine ⟨rfl,?_⟩
   rintro w9 ⟨t9,rfl⟩ K9 hK9
   go_simp
   refine hK9.out _ _ (gr_gr (Keeps.alloc (Keeps.refl _) _)) ?_
   clear hK9 K9
   have HB9:=hide (HB.out.kept (gr_keeps w5 t9))
   have HZ9:=hide (gr_keeps w5 t9).size
   have HZ8:=hide HB.out.row.lt
   generalize gr w5 t9=W9 at *
   have HKa:=hide (Keeps.alloc (Keeps.refl W9) (.cells #[.int .i64 6,.int .i64 ch,.int .i64 (-(am+fe)),.int .i64 8,.int .i64 ch,.int .i64 (am+fe)] 104))
   have HG:=hide (gath_impl (some ⟨W9.heap.size,0,none⟩) 2 [⟨6,ch,-(am+fe)⟩,⟨8,ch,am+fe⟩] _ (lines_new2 W9 ⟨6,ch,-(am+fe)⟩ ⟨8,ch,am+fe⟩) (by simp) (by simp [lessB]))
   clear G0 HRe
   go_wp2_with fail
   refine (unhide HG).mono ?_
   rintro e w' ⟨v,rfl,ho,hk⟩
   have HF:=hide (HB9.out.kept (HKa.out.trans hk))
   have HO:=hide ho
   clear ho hk HG HB
   go_wp2_with fail
   go_ret2
   have HK2:Hid (launchB ⟨tk,nx,wa,C,Hs,R⟩ ky ch tt am fe=⟨tk,nx,wa,C2,Hs,R++[⟨ky,ch,tt,am,fe⟩]⟩):=by
    show _=_
    simp only [launchB,HC2.out]
    congr 1
    rw [HMM.out]
    simp only [Int.add_zero,Int.sub_eq_add_neg]
   have HL2:Hid (launchL [] ch am fe=nzL [⟨6,ch,-(am+fe)⟩,⟨8,ch,am+fe⟩]):=lines2 (by decide)
   refine Out.yes HC.out ?_
   rw [HK2.out,HL2.out]
   exact Done.mk2 HF.out HO.out HB9.out HKa.out.size (Nat.le_trans HZ.out HZ9.out)
end Go.Proofs.YtccdhcempnkgaaaGreatDoor
