/- Texts of the verifier, joined: Xx, Xy. -/
import Derived.Test.YtccdhcempnkgaaaGreatDoorPL31
import Derived.Test.YtccdhcempnkgaaaGreatDoorPL23
import Derived.Test.YtccdhcempnkgaaaGreatDoorPL24
import Derived.Test.YtccdhcempnkgaaaGreatDoorPL13
import Derived.Test.YtccdhcempnkgaaaGreatDoorPL22
namespace Go.Proofs.YtccdhcempnkgaaaGreatDoor
open Go.RowKit Go.Deep
set_option linter.unusedVariables false
set_option linter.unusedSimpArgs false
set_option maxRecDepth 10000
set_option maxHeartbeats 8000000 in
theorem admit_impl (W:Wf) (w:World) (p:Nat) (tk nx wa:Int) (ca:Option Addr) (cc:Nat) (C:List Chn) (ha:Option Addr) (hc:Nat) (Hs:List Htl) (ra:Option Addr) (rc:Nat) (R:List Crc) (h:BoAt W w p ⟨tk,nx,wa,ca,cc,C,ha,hc,Hs,ra,rc,R⟩) (kd ky ch tt am fe:Int) (ys:Bool) (hlr:Hs.length≤60) (hsm:∀ x∈Hs,0≤x.ao∧x.ao≤1125899906842624) (hFu:∀ x y z w',Keeps w w'→Calls Tryz.prog 170 #[.int .i64 x,.int .i64 y,.int .i64 z] w' fun e w''=>e=.returned (.tuple #[.int .i64 (feeV x y z true),.bool (feeB x y z true)])∧Keeps w' w'') (hlc:C.length≤20) (hl:Bo.len ⟨tk,nx,wa,ca,cc,C,ha,hc,Hs,ra,rc,R⟩) (hct:ch≠tt) (ham:0≤am∧am≤1125899906842624) (hfe:0≤fe∧fe≤1125899906842624) (hA:∀ c∈C,(0≤c.lo∧c.lo≤1125899906842624)∧0≤c.re∧c.re≤1125899906842624) (hAd:∀ x y w',Keeps w w'→Calls Tryz.prog 151 #[.int .i64 x,.int .i64 y] w' fun e w''=>e=.returned (.tuple #[.int .i64 (addV x y),.bool (addB x y)])∧Keeps w' w'') :
 Calls Tryz.prog 121 #[.pointer (some ⟨p,0,none⟩),evV kd ky ch tt am fe ys] w fun e w'=>Out W w w' p (admitC ⟨tk,nx,wa,C,Hs,R⟩ ky ch tt am ys) ⟨tk,nx,wa,C,Hs,R⟩ (admitB ⟨tk,nx,wa,C,Hs,R⟩ ky ch tt am ys) (admitL [] tt am) e:=by
 obtain ⟨full,hfull⟩:∃ full,decide ((60:Int)≤(Hs.length:Int))=full:=⟨_,rfl⟩
 have HLC:=hide (admit_ends tk nx wa C Hs R ky ch tt am fe ys hct hlr full hfull)
 by_cases hE:endsC ⟨tk,nx,wa,C,Hs,R⟩ ky ch tt full=0
 case neg =>
  obtain ⟨c,hcc⟩:∃ c,endsC ⟨tk,nx,wa,C,Hs,R⟩ ky ch tt full=c:=⟨_,rfl⟩
  have hP:∀ x,endsP ⟨tk,nx,wa,C,Hs,R⟩ ca ky ch tt full x=none:=fun x=>by unfold endsP;rw [if_neg hE]
  rw [hcc] at hE HLC
  have HC:Hid (admitC ⟨tk,nx,wa,C,Hs,R⟩ ky ch tt am ys=c):=by show _=_;rw [HLC.out,if_pos hE]
  have hce:(c != 0)=true:=by simpa using hE
  clear HLC
  have HKe:=hide (Keeps.alloc (Keeps.refl w) (.cells (evCells kd ky ch tt am fe ys) 41))
  have HRe:=hide (rw7_new w (.int .i64 kd) (.int .i64 ky) (.int .i64 ch) (.int .i64 tt) (.int .i64 am) (.int .i64 fe) (.bool ys) 41)
  have HB:=hide (h.kept HKe.out)
  have HPS:=hide h.row.lt
  have HAE:=hide (h.apart (Nat.le_refl w.heap.size))
  have HE:=hide (fun w' (hk:Keeps (w.alloc (.cells (evCells kd ky ch tt am fe ys) 41)) w')=>ends_impl p ⟨tk,nx,wa,ca,cc,C,ha,hc,Hs,ra,rc,R⟩ kd ky ch tt am fe ys full w' (HB.out.cells.kept hk) (HB.out.mem.kept hk) hl)
  simp only [show Bo.d ⟨tk,nx,wa,ca,cc,C,ha,hc,Hs,ra,rc,R⟩=⟨tk,nx,wa,C,Hs,R⟩ from rfl,hP,hcc] at HE
  clear h hA hAd hFu hsm hP hcc
  have HNZ:=hide hE
  clear hE
  go_enter Tryz.func121,Tryz.ntmps121
  go_upto_region 1 with fail
  obtain ⟨pe,hpe⟩:∃ pe,pe=w.heap.size:=⟨_,rfl⟩
  rw [← hpe] at HRe HAE
  try rw [← hpe]
  have HPE:=hide hpe
  clear hpe
  generalize (w.alloc (.cells #[.int .i64 kd,.int .i64 ky,.int .i64 ch,.int .i64 tt,.int .i64 am,.int .i64 fe,.bool ys] 41))=w0 at *
  have HZ:=hide HKe.out.size
  obtain ⟨e0,e1,e2,e3,e4,e5,e6⟩:=rw7_cells HRe.out
  have bl:=HB.out.cells.2.2.2.2.1
  dsimp only at bl
  have D0:=gr_cell e0
  have D1:=gr_cell e1
  have D2:=gr_cell e2
  have D3:=gr_cell e3
  have D4:=gr_cell e4
  have D5:=gr_cell e5
  have D6:=gr_cell e6
  have D7:=gr_cell bl
  clear e0 e1 e2 e3 e4 e5 e6 bl
  refine region_gr (by kernel_rfl) (by kernel_rfl) ?_
  repeat (go_big_quiet_step (fail))
  go_big_quiet_step (first | (go_at_call 142;exact gr_call (unhide HE _ (gr_keeps _ _))))
  repeat (go_big_quiet_step (fail))
  refine wpQuiet_nil ?_
  intro w1 hw'
  have hk:=Keeps.of_gr hw'
  replace HB:=hide (HB.out.kept hk)
  replace HRe:=hide (hk.rowK HRe.out)
  replace HZ:=hide (Nat.le_trans HZ.out hk.size)
  clear hk hw' D0 D1 D2 D3 D4 D5 D6 D7 HE
  go_wp2_with fail
  go_ret2
  exact Out.no HC.out HNZ.out HB.out
 obtain ⟨hh1,hh2⟩:=ends_zero hE
 have htw:twoB C ch tt=true:=by simp only [twoB,Bool.and_eq_true,decide_eq_true_eq];exact ⟨⟨hct,hh1⟩,hh2⟩
 obtain ⟨i,j,hi,hj,hai,haj,hij⟩:=two_ix htw
 obtain ⟨bi1,bi2⟩:=hA _ (List.getElem_mem hi)
 obtain ⟨bj1,bj2⟩:=hA _ (List.getElem_mem hj)
 have HMM:=hide (fun p q r s=>mov_two hi hj hai haj hij p q r s)
 obtain ⟨g,rfl⟩:∃ g,ca=some ⟨g,0,none⟩:=by
  obtain ⟨g,cap,e,-⟩:=h.oC.form (show 0 < C.length by omega)
  injection e with e _ _
  exact ⟨g,e⟩
 have hP1:endsP ⟨tk,nx,wa,C,Hs,R⟩ (some ⟨g,0,none⟩) ky ch tt full ch=some ⟨g,i*7,none⟩:=by unfold endsP;rw [if_pos hE];show placeC _ (atC C ch)=_;rw [hai];simp [placeC]
 have hP2:endsP ⟨tk,nx,wa,C,Hs,R⟩ (some ⟨g,0,none⟩) ky ch tt full tt=some ⟨g,j*7,none⟩:=by unfold endsP;rw [if_pos hE];show placeC _ (atC C tt)=_;rw [haj];simp [placeC]
 rw [if_neg (by rw [hE];decide)] at HLC
 have HH1:=hide (chC_at hai hi)
 have HH2:=hide (chC_at haj hj)
 have hjd:tt=C[j].id:=(atC_lt haj).2.symm
 rw [HH1.out,HH2.out] at HLC
 obtain ⟨ci,hci⟩:∃ ci,C[i]=ci:=⟨_,rfl⟩
 obtain ⟨cj,hcj⟩:∃ cj,C[j]=cj:=⟨_,rfl⟩
 rw [hci] at bi1 bi2
 rw [hcj] at bj1 bj2
 have HCI:=hide hci
 have HCJ:=hide hcj
 simp only [hci,hcj] at HLC HH1 HH2
 rw [hcj] at hjd
 clear hci hcj hh1 hh2 htw hA
 obtain ⟨a0,a1,a2,a3,a4,a5,a6⟩:=ci
 obtain ⟨b0,b1,b2,b3,b4,b5,b6⟩:=cj
 dsimp only at hjd
 subst hjd
 dsimp only at bi1 bi2 bj1 bj2 HLC
 simp only [HCI.out,HCJ.out] at HMM
 have HGP:Hid (g < w.heap.size∧g≠p):=⟨(owns_lb h.oC g (by simp [lb])).2,fun e=>h.np.1 (by simp [lb,e])⟩
 have HKe:=hide (Keeps.alloc (Keeps.refl w) (.cells (evCells kd ky ch tt am fe ys) 41))
 have HRe:=hide (rw7_new w (.int .i64 kd) (.int .i64 ky) (.int .i64 ch) (.int .i64 tt) (.int .i64 am) (.int .i64 fe) (.bool ys) 41)
 have HB:=hide (h.kept HKe.out)
 have HPS:=hide h.row.lt
 have HAE:=hide (h.apart (Nat.le_refl w.heap.size))
 have HE:=hide (fun w' (hk:Keeps (w.alloc (.cells (evCells kd ky ch tt am fe ys) 41)) w')=>ends_impl p ⟨tk,nx,wa,some ⟨g,0,none⟩,cc,C,ha,hc,Hs,ra,rc,R⟩ kd ky ch tt am fe ys full w' (HB.out.cells.kept hk) (HB.out.mem.kept hk) hl)
 simp only [show Bo.d ⟨tk,nx,wa,some ⟨g,0,none⟩,cc,C,ha,hc,Hs,ra,rc,R⟩=⟨tk,nx,wa,C,Hs,R⟩ from rfl,hP1,hP2,hE] at HE
 have HWF:=hide (fun w' (hk:Keeps w w')=>withFee_impl ⟨tt,b1,b2,b3,b4,b5,b6⟩ am w' (fun w'' hk'=>hFu b4 b5 am w'' (hk.trans hk')) (fun b w'' hk'=>hAd am b w'' (hk.trans hk')))
 have HSM:=hide hsm
 clear h hP1 hP2 hE hAd hFu hsm hai haj
 go_enter Tryz.func121,Tryz.ntmps121
 go_upto_region 1 with fail
 obtain ⟨pe,hpe⟩:∃ pe,pe=w.heap.size:=⟨_,rfl⟩
 rw [← hpe] at HRe HAE
 try rw [← hpe]
 have HPE:=hide hpe
 clear hpe
 generalize (w.alloc (.cells #[.int .i64 kd,.int .i64 ky,.int .i64 ch,.int .i64 tt,.int .i64 am,.int .i64 fe,.bool ys] 41))=w0 at *
 have HZ:=hide HKe.out.size
 obtain ⟨e0,e1,e2,e3,e4,e5,e6⟩:=rw7_cells HRe.out
 have bl:=HB.out.cells.2.2.2.2.1
 dsimp only at bl
 have D0:=gr_cell e0
 have D1:=gr_cell e1
 have D2:=gr_cell e2
 have D3:=gr_cell e3
 have D4:=gr_cell e4
 have D5:=gr_cell e5
 have D6:=gr_cell e6
 have D7:=gr_cell bl
 clear e0 e1 e2 e3 e4 e5 e6 bl
 refine region_gr (by kernel_rfl) (by kernel_rfl) ?_
 repeat (go_big_quiet_step (fail))
 go_big_quiet_step (first | (go_at_call 142;exact gr_call (unhide HE _ (gr_keeps _ _))))
 repeat (go_big_quiet_step (fail))
 refine wpQuiet_nil ?_
 intro w1 hw'
 have hk:=Keeps.of_gr hw'
 replace HB:=hide (HB.out.kept hk)
 replace HRe:=hide (hk.rowK HRe.out)
 replace HZ:=hide (Nat.le_trans HZ.out hk.size)
 replace HKe:=hide (HKe.out.trans hk)
 clear hk hw' D0 D1 D2 D3 D4 D5 D6 D7 HE
 have hpp:pe≠p:=HAE.out.1
 have hpg:pe≠g:=fun e=>HAE.out.2.1 (by simp [lb,e])
 obtain ⟨e0,e1,e2,e3,e4,e5,e6⟩:=rw7_cells HRe.out
 obtain ⟨y0,y1,y2,y3,y4,y5,y6⟩:=HB.out.oC.at j hj
 simp only [HCJ.out] at y0 y1 y2 y3 y4 y5 y6
 go_upto_region 4 with fail
 have D0:=gr_cell y0
 have D1:=gr_cell y1
 have D2:=gr_cell y2
 have D3:=gr_cell y3
 have D4:=gr_cell y4
 have D5:=gr_cell y5
 have D6:=gr_cell y6
 have D7:=gr_cell e4
 clear y0 y1 y2 y3 y4 y5 y6 e0 e1 e2 e3 e4 e5 e6
 obtain ⟨cm,hcm⟩:∃ cm,wfV ⟨tt,b1,b2,b3,b4,b5,b6⟩ am=cm:=⟨_,rfl⟩
 obtain ⟨okm,hok⟩:∃ okm,admB ⟨tt,b1,b2,b3,b4,b5,b6⟩ am=okm:=⟨_,rfl⟩
 rw [hcm,hok] at HWF
 have HWV:=hide (And.intro hcm hok)
 clear hcm hok
 refine region_gr (by kernel_rfl) (by kernel_rfl) ?_
 repeat (go_big_quiet_step (fail))
 go_big_quiet_step (first | (go_at_call 143;exact gr_call (unhide HWF _ (HKe.out.trans (gr_keeps _ _)))))
 repeat (go_big_quiet_step (fail))
 refine wpQuiet_nil ?_
 intro w2 hw'
 have hk:=Keeps.of_gr hw'
 replace HB:=hide (HB.out.kept hk)
 replace HRe:=hide (hk.rowK HRe.out)
 replace HZ:=hide (Nat.le_trans HZ.out hk.size)
 replace HKe:=hide (HKe.out.trans hk)
 clear hk hw' D0 D1 D2 D3 D4 D5 D6 D7 HWF
 cases okm with
 | false =>
   have HC:Hid (admitC ⟨tk,nx,wa,C,Hs,R⟩ ky ch tt am ys=10):=by show _=_;rw [HLC.out,if_pos HWV.out.2]
   go_wp2_with fail
   go_ret2
   exact Out.no HC.out (by decide) HB.out
 | true =>
   have HAV:Hid (admV ⟨tt,b1,b2,b3,b4,b5,b6⟩ am=cm∧0≤cm∧cm≤1125899906842624):=by
    have h1:=HWV.out.2
    have h2:=HWV.out.1
    unfold admB at h1
    rw [Bool.and_eq_true] at h1
    unfold wfV at h2
    rw [if_pos h1.1] at h2
    have h3:=amtB_true (n:=am+feeV b4 b5 am true) (by have:=h1.2;simp [addB] at this;exact this.2)
    have h4:admV ⟨tt,b1,b2,b3,b4,b5,b6⟩ am=am+feeV b4 b5 am true:=by unfold admV addV;rw [if_pos h1.2]
    exact ⟨h2,by rw [← h2,h4];exact h3.1,by rw [← h2,h4];exact h3.2⟩
   rw [if_neg (by rw [HWV.out.2];decide),HAV.out.1] at HLC
   have hcb:=HAV.out.2
   obtain ⟨y0,y1,y2,y3,y4,y5,y6⟩:=HB.out.oC.at i hi
   simp only [HCI.out] at y0 y1 y2 y3 y4 y5 y6
   by_cases h11:a3 < cm
   ·have HC:Hid (admitC ⟨tk,nx,wa,C,Hs,R⟩ ky ch tt am ys=11):=by show _=_;rw [HLC.out,if_pos h11]
    have hd:decide (a3 < cm)=true:=decide_eq_true h11
    go_wp2_with fail
    go_ret2
    exact Out.no HC.out (by decide) HB.out
   rw [if_neg h11] at HLC
   have hd:decide (a3 < cm)=false:=decide_eq_false h11
   go_upto_region 9 with fail
   clear hd y0 y1 y2 y3 y4 y5 y6
   obtain ⟨y0,y1,y2,y3,y4,y5,y6⟩:=HB.out.oC.at j hj
   simp only [HCJ.out] at y0 y1 y2 y3 y4 y5 y6
   obtain ⟨e0,e1,e2,e3,e4,e5,e6⟩:=rw7_cells HRe.out
   by_cases h12:b2 < am
   ·have HC:Hid (admitC ⟨tk,nx,wa,C,Hs,R⟩ ky ch tt am ys=12):=by show _=_;rw [HLC.out,if_pos h12]
    have hd:decide (b2 < am)=true:=decide_eq_true h12
    go_region
    replace HB:=hide (HB.out.kept (Keeps.refl _).drew)
    generalize World.drew _=w3 at *
    go_wp2_with fail
    go_ret2
    exact Out.no HC.out (by decide) HB.out
   rw [if_neg h12] at HLC
   have hd:decide (b2 < am)=false:=decide_eq_false h12
   go_region
   replace HB:=hide (HB.out.kept (Keeps.refl _).drew)
   replace HRe:=hide (HRe.out.drew)
   replace HZ:Hid (w.heap.size≤(w2.drew).heap.size):=HZ.out
   replace HKe:=hide (HKe.out.drew)
   generalize World.drew _=w3 at *
   clear hd y0 y1 y2 y3 y4 y5 y6 e0 e1 e2 e3 e4 e5 e6
   obtain ⟨e0,e1,e2,e3,e4,e5,e6⟩:=rw7_cells HRe.out
   have HUS:=hide (uses_impl p ha hc Hs tt w3 HB.out.cells.2.2.2.2.1 (Bo.memH HB.out.mem) hlr HSM.out)
   have HRV:Hid (roomV Hs ⟨a0,a1,a2,a3,a4,a5,a6⟩ ⟨tt,b1,b2,b3,b4,b5,b6⟩ am ys=allowV b1 (sumH (rmF tt) Hs) (sumH (rmA tt) Hs) (sumH (rmS tt) Hs) (sumH (rmT tt) Hs) am (standS a6 ys)):=rfl
   generalize sumH (rmF tt) Hs=sF at *
   generalize sumH (rmA tt) Hs=sA at *
   generalize sumH (rmS tt) Hs=sS at *
   generalize sumH (rmT tt) Hs=sT at *
   go_wp2_with fail
   refine (unhide HUS).mono ?_
   rintro e w4 ⟨rfl,hk⟩
   replace HB:=hide (HB.out.kept hk)
   replace HRe:=hide (hk.rowK HRe.out)
   replace HZ:=hide (Nat.le_trans HZ.out hk.size)
   clear hk HUS e0 e1 e2 e3 e4 e5 e6
   have HKu:=hide (Keeps.alloc (Keeps.alloc (Keeps.refl w4) (.cells #[.int .i64 sF,.int .i64 sS] 189)) (.cells #[.int .i64 sA,.int .i64 sT] 189))
   have HU1:=hide ((Keeps.alloc (Keeps.refl _) (.cells #[.int .i64 sA,.int .i64 sT] 189)).rowK (rw2_new w4 (.int .i64 sF) (.int .i64 sS) 189))
   have HU2:=hide (rw2_new (w4.alloc (.cells #[.int .i64 sF,.int .i64 sS] 189)) (.int .i64 sA) (.int .i64 sT) 189)
   simp only [size_alloc1] at HU2
   go_upto_region 12 with fail
   try simp only [size_alloc1]
   replace HB:=hide (HB.out.kept HKu.out)
   replace HRe:=hide (HKu.out.rowK HRe.out)
   replace HZ:=hide (Nat.le_trans HZ.out HKu.out.size)
   generalize ((w4.alloc (.cells #[.int .i64 sF,.int .i64 sS] 189)).alloc (.cells #[.int .i64 sA,.int .i64 sT] 189))=w5 at *
   generalize w4.heap.size+1=u2 at *
   generalize w4.heap.size=u1 at *
   clear HKu
   obtain ⟨e0,e1,e2,e3,e4,e5,e6⟩:=rw7_cells HRe.out
   obtain ⟨y0,y1,y2,y3,y4,y5,y6⟩:=HB.out.oC.at j hj
   obtain ⟨z0,z1,z2,z3,z4,z5,z6⟩:=HB.out.oC.at i hi
   simp only [HCJ.out] at y0 y1 y2 y3 y4 y5 y6
   simp only [HCI.out] at z0 z1 z2 z3 z4 z5 z6
   obtain ⟨k0,k1⟩:=rw2_cells HU1.out
   obtain ⟨k2,k3⟩:=rw2_cells HU2.out
   have D0:=gr_cell y1
   have D1:=gr_cell k0
   have D2:=gr_cell k1
   have D3:=gr_cell k2
   have D4:=gr_cell k3
   have D5:=gr_cell e4
   have D6:=gr_cell z6
   have D7:=gr_cell e6
   clear y0 y1 y2 y3 y4 y5 y6 z0 z1 z2 z3 z4 z5 z6 e0 e1 e2 e3 e4 e5 e6 k0 k1 k2 k3 HU1 HU2
   have HST:=hide (fun w'=>stand_impl a6 ys w')
   have HAL:=hide (fun w'=>allow_impl b1 sF sA sS sT am (standS a6 ys) w')
   rw [HRV.out] at HLC
   generalize allowV b1 sF sA sS sT am (standS a6 ys)=rm at *
   generalize standS a6 ys=sd at *
   refine region_gr (by kernel_rfl) (by kernel_rfl) ?_
   repeat (go_big_quiet_step (fail))
   go_big_quiet_step (first | (go_at_call 146;exact gr_call (unhide HST _)))
   repeat (go_big_quiet_step (fail))
   go_big_quiet_step (first | (go_at_call 145;exact gr_call (unhide HAL _)))
   repeat (go_big_quiet_step (fail))
   refine wpQuiet_nil ?_
   intro w6 hw'
   have hk:=Keeps.of_gr hw'
   replace HB:=hide (HB.out.kept hk)
   replace HRe:=hide (hk.rowK HRe.out)
   replace HZ:=hide (Nat.le_trans HZ.out hk.size)
   clear hk hw' D0 D1 D2 D3 D4 D5 D6 D7 HST HAL
   by_cases h13:rm=0
   ·have HC:Hid (admitC ⟨tk,nx,wa,C,Hs,R⟩ ky ch tt am ys=13):=by show _=_;rw [HLC.out,if_pos h13]
    have hd:(rm==0)=true:=by simpa using h13
    clear h13
    go_wp2_with fail
    go_ret2
    exact Out.no HC.out (by decide) HB.out
   have HC:Hid (admitC ⟨tk,nx,wa,C,Hs,R⟩ ky ch tt am ys=0):=by show _=_;rw [HLC.out,if_neg h13]
   have hd:(rm==0)=false:=by simpa using h13
   clear HLC h13
   go_upto_region 15 with fail
   clear hd
   have hw1:IntKind.i64.wrap (a3-cm)=a3-cm:=by rw [IntKind.wrap_i64];omega
   have hw2:IntKind.i64.wrap (b2-am)=b2-am:=by rw [IntKind.wrap_i64];omega
   have hw3:IntKind.i64.wrap (-am)=-am:=by rw [IntKind.wrap_i64];omega
   obtain ⟨e0,e1,e2,e3,e4,e5,e6⟩:=rw7_cells HRe.out
   obtain ⟨y0,y1,y2,y3,y4,y5,y6⟩:=HB.out.oC.at i hi
   simp only [HCI.out] at y0 y1 y2 y3 y4 y5 y6
   have fz:=HB.out.oC.frz (i*7+3)
   have HB1:=hide ((HB.out.put3 i hi (a3-cm)))
   have HV1:=hide ((row_turn HRe.out (Turn.set (fs:=[g]) (a:=⟨g,i*7+3,none⟩) (by simp) (.int .i64 (a3-cm))) (by simpa using hpg)))
   have HZ1:Hid (w.heap.size≤((w6.setCell ⟨g,i*7+3,none⟩ (.int .i64 (a3-cm)))).heap.size):=by show _≤_;have:=HZ.out;simpa using this
   simp only [HCI.out,List.set_set] at HB1
   go_upto_region 16 with fail
   generalize ((w6.setCell ⟨g,i*7+3,none⟩ (.int .i64 (a3-cm))))=w7 at *
   replace HB:=HB1
   replace HRe:=HV1
   replace HZ:=HZ1
   clear HB1 HV1 HZ1 fz y0 y1 y2 y3 y4 y5 y6 e0 e1 e2 e3 e4 e5 e6
   have hj1:j < (C.set i (⟨a0,a1,a2,a3-cm,a4,a5,a6⟩:Chn)).length:=by simpa using hj
   obtain ⟨e0,e1,e2,e3,e4,e5,e6⟩:=rw7_cells HRe.out
   obtain ⟨y0,y1,y2,y3,y4,y5,y6⟩:=HB.out.oC.at j hj1
   simp only [List.getElem_set_ne hij,HCJ.out] at y0 y1 y2 y3 y4 y5 y6
   have fz:=HB.out.oC.frz (j*7+2)
   have HB1:=hide ((HB.out.put2 j hj1 (b2-am)).kept (Keeps.refl _).drew)
   have HV1:=hide ((row_turn HRe.out (Turn.set (fs:=[g]) (a:=⟨g,j*7+2,none⟩) (by simp) (.int .i64 (b2-am))) (by simpa using hpg)).drew)
   have HZ1:Hid (w.heap.size≤((w7.setCell ⟨g,j*7+2,none⟩ (.int .i64 (b2-am))).drew).heap.size):=by show _≤_;have:=HZ.out;simpa using this
   simp only [List.getElem_set_ne hij,HCJ.out,List.set_set] at HB1
   go_upto_region 16 with fail
   go_region
   generalize ((w7.setCell ⟨g,j*7+2,none⟩ (.int .i64 (b2-am))).drew)=w8 at *
   replace HB:=HB1
   replace HRe:=HV1
   replace HZ:=HZ1
   clear HB1 HV1 HZ1 fz y0 y1 y2 y3 y4 y5 y6 e0 e1 e2 e3 e4 e5 e6
   obtain ⟨C2,hC2⟩:∃ C2,C2=(C.set i (⟨a0,a1,a2,a3-cm,a4,a5,a6⟩:Chn)).set j ⟨tt,b1,b2-am,b3,b4,b5,b6⟩:=⟨_,rfl⟩
   rw [← hC2] at HB
   have HC2:=hide hC2
   clear hC2
   obtain ⟨kp,hkp⟩:∃ kp:Bool,(rm==2)=kp:=⟨_,rfl⟩
   have HKP:=hide hkp
   obtain ⟨e0,e1,e2,e3,e4,e5,e6⟩:=rw7_cells HRe.out
   have bl:=HB.out.cells.2.2.2.2.1
   dsimp only at bl
   clear e0 e5 e6
   go_upto_region 17 with fail
   have G0:=gr_cell e1
   have G1:=gr_cell e2
   have G2:=gr_cell e3
   have G3:=gr_cell e4
   have G4:=gr_cell bl
   clear e1 e2 e3 e4 bl
   refine wp_region_app [.u,.f,.f,.f,.f,.h,.h,.h,.h,.h,.h,.h,.h,.h,.h,.h,.h,.b,.t,.t,.t,.t] (by kernel_rfl) (by kernel_rfl) rfl rfl rfl rfl rfl rfl rfl (fun _ _ d _ _ h=>by cases d <;> exact h) ?_
   simp only [pkU,pkF,pkH,pkT,pkB]
   refine wpUni_step ?v0 (by rfl) ?f0 ?_
   case f0 =>
    intro w9
    go_simp
    with_reducible rfl
   try simp only [Act.put,List.setIfInBounds_toArray,List.set_cons_zero,List.set_cons_succ]
   refine wpUni_nil ?_
   refine wpFlo_step ?v1 (by rfl) ?f1 ?_
   case f1 =>
    rintro w12 ⟨t9,rfl⟩
    go_simp
    with_reducible rfl
   try simp only [Act.put,List.setIfInBounds_toArray,List.set_cons_zero,List.set_cons_succ]
   refine wpFlo_step ?v2 (by rfl) ?f2 ?_
   case f2 =>
    rintro w12 ⟨t9,rfl⟩
    go_simp
    with_reducible rfl
   try simp only [Act.put,List.setIfInBounds_toArray,List.set_cons_zero,List.set_cons_succ]
   refine wpFlo_step ?v3 (by rfl) ?f3 ?_
   case f3 =>
    rintro w12 ⟨t9,rfl⟩
    go_simp
    with_reducible rfl
   try simp only [Act.put,List.setIfInBounds_toArray,List.set_cons_zero,List.set_cons_succ]
   refine wpFlo_step ?v4 (by rfl) ?f4 ?_
   case f4 =>
    rintro w12 ⟨t9,rfl⟩
    go_simp
    with_reducible rfl
   try simp only [Act.put,List.setIfInBounds_toArray,List.set_cons_zero,List.set_cons_succ]
   refine wpFlo_nil ?_
   repeat (go_big_quiet_step (fail))
   refine wpQuiet_nil ?_
   refine ⟨rfl,?_⟩
   rintro w12 ⟨t9,rfl⟩ K9 hK9
   go_simp
   refine hK9.out _ _ (gr_gr (Keeps.alloc (Keeps.refl _) _)) ?_
   clear hK9 K9
   have HB9:=hide (HB.out.kept (gr_keeps w8 t9))
   have HKC:=hide (gr_keeps w8 t9)
   generalize gr w8 t9=W9 at *
   have HK9:=hide (Keeps.alloc (Keeps.refl W9) (.cells #[.int .i64 ky,.int .i64 ch,.int .i64 tt,.int .i64 cm,.int .i64 am,.bool kp,.int .i64 0] 112))
   have HM9:=hide (one_Htlc W9 ⟨ky,ch,tt,cm,am,kp,0⟩)
   replace HB9:=hide (HB9.out.kept HK9.out)
   have HR9:=hide ((HKC.out.trans HK9.out).rowK HRe.out)
   have HZ9:=hide (Nat.le_trans HZ.out (HKC.out.trans HK9.out).size)
   dsimp only at HM9
   clear G0 G1 G2 G3 G4
   go_upto_region 18 with (at_builtin;refine app2_Htlc rfl (.tmp 106) (.tmp 119) rfl 0 _ _ Hs ⟨ky,ch,tt,cm,am,kp,0⟩ rfl ⟨W9.heap.size,0,none⟩ 1 rfl HM9.out HB9.out.oH (by omega) (Nat.zero_le _) ?_;intro g' c' w' ho ht hat;have HN:=hide (HB9.out.newH ht ho (fun q hq=>by simp [lb] at hq;subst hq;exact hat));have HTE:=hide ht;clear ho ht;have d0:=HN.out.2.cell (i:=4) (by decide);have d1:=HN.out.2.frozen 4;have d2:=HN.out.2.lt)
   have hlen:(Hs++[(⟨ky,ch,tt,cm,am,kp,0⟩:Htl)]).length=Hs.length+1:=by simp
   rw [hlen] at HN
   have HTF:=hide (HTE.out.trans (Turn.set (fs:=[p]) (w:=w') (a:=⟨p,4,none⟩) (by simp) (.slice (some ⟨g',0,none⟩) (Hs.length+1) c')))
   replace HRe:=hide (row_turn HR9.out HTF.out (by simp only [List.mem_append,List.mem_singleton,not_or];exact ⟨HAE.out.2.2.1,hpp⟩))
   have HPG:Hid (pe≠g'):=by
    show _≠_
    intro e
    rcases hat with h1 | h1
    ·exact HAE.out.2.2.1 (by rw [e];exact h1)
    ·have:=HR9.out.lt;omega
   replace HZ:=hide (Nat.le_trans HZ9.out HTF.out.size)
   replace HB:Hid (BoAt W (w'.setCell ⟨p,4,none⟩ (.slice (some ⟨g',0,none⟩) (Hs.length+1) c')) p ⟨tk,nx,wa,some ⟨g,0,none⟩,cc,C2,some ⟨g',0,none⟩,c',Hs++[⟨ky,ch,tt,cm,am,kp,0⟩],ra,rc,R⟩):=HN.out.1
   clear HN HTF HTE HR9 HZ9 HB9 HM9 HK9 HKC d0 d1 d2 hlen
   generalize w'.setCell ⟨p,4,none⟩ (.slice (some ⟨g',0,none⟩) (Hs.length+1) c')=w9 at *
   obtain ⟨-,-,-,e3,e4,-,-⟩:=rw7_cells HRe.out
   clear hkp
   go_upto_region 18 with fail
   have G0:=gr_cell e3
   have G1:=gr_cell e4
   clear e3 e4
   refine wp_region_app [.h,.h,.h,.h,.h,.h,.h,.h,.h,.h,.h,.b,.t,.t,.t] (by kernel_rfl) (by kernel_rfl) rfl rfl rfl rfl rfl rfl rfl (fun _ _ d _ _ h=>by cases d <;> exact h) ?_
   simp only [pkU,pkF,pkH,pkT,pkB]
   refine wpUni_nil ?_
   refine wpFlo_nil ?_
   repeat (go_big_quiet_step (first | (go_at_call 135;exact gr_call (hubLine_impl _ _ _)) | (go_at_call 138;exact gr_call (chanLine_impl _ _ _ _))))
   refine wpQuiet_nil ?_
   refine ⟨rfl,?_⟩
   rintro w13 ⟨t9,rfl⟩ K9 hK9
   go_simp
   refine hK9.out _ _ (gr_gr (Keeps.alloc (Keeps.refl _) _)) ?_
   clear hK9 K9
   have HB9:=hide (HB.out.kept (gr_keeps w9 t9))
   have HZ9:=hide (gr_keeps w9 t9).size
   have HZ8:=hide HB.out.row.lt
   generalize gr w9 t9=W9 at *
   have HKa:=hide (Keeps.alloc (Keeps.refl W9) (.cells #[.int .i64 6,.int .i64 tt,.int .i64 (-am),.int .i64 8,.int .i64 tt,.int .i64 am] 104))
   have HG:=hide (gath_impl (some ⟨W9.heap.size,0,none⟩) 2 [⟨6,tt,-am⟩,⟨8,tt,am⟩] _ (lines_new2 W9 ⟨6,tt,-am⟩ ⟨8,tt,am⟩) (by simp) (by simp [lessB]))
   clear G0 G1 HRe
   go_wp2_with fail
   refine (unhide HG).mono ?_
   rintro e w' ⟨v,rfl,ho,hk⟩
   have HF:=hide (HB9.out.kept (HKa.out.trans hk))
   have HO:=hide ho
   clear ho hk HG HB
   go_wp2_with fail
   go_ret2
   have HK2:Hid (admitB ⟨tk,nx,wa,C,Hs,R⟩ ky ch tt am ys=⟨tk,nx,wa,C2,Hs++[⟨ky,ch,tt,cm,am,kp,0⟩],R⟩):=by
    show _=_
    simp only [admitB,HH1.out,HH2.out,HAV.out.1,HC2.out]
    rw [HMM.out,HRV.out,HKP.out]
    simp only [Int.add_zero,Int.sub_eq_add_neg]
   have HL2:Hid (admitL [] tt am=nzL [⟨6,tt,-am⟩,⟨8,tt,am⟩]):=lines2 (by decide)
   refine Out.yes HC.out ?_
   rw [HK2.out,HL2.out]
   exact Done.mk2 HF.out HO.out HB9.out HKa.out.size (Nat.le_trans HZ.out HZ9.out)
end Go.Proofs.YtccdhcempnkgaaaGreatDoor
namespace Go.Proofs.YtccdhcempnkgaaaGreatDoor
open Go.RowKit Go.Deep
set_option linter.unusedVariables false
set_option linter.unusedSimpArgs false
set_option maxRecDepth 10000
set_option maxHeartbeats 8000000 in
theorem tick_impl (W:Wf) (w:World) (p:Nat) (tk nx wa:Int) (ca:Option Addr) (cc:Nat) (C:List Chn) (ha:Option Addr) (hc:Nat) (Hs:List Htl) (ra:Option Addr) (rc:Nat) (R:List Crc) (h:BoAt W w p ⟨tk,nx,wa,ca,cc,C,ha,hc,Hs,ra,rc,R⟩) (kd ky ch tt am fe:Int) (ys:Bool) (hlc:C.length≤20) (hlh:Hs.length≤60) (ht0:0≤tk) (ht1:tk < 1125899906842624) (hA:∀ x∈Hs,0≤x.ag∧x.ag≤1125899906842624) :
 Calls Tryz.prog 124 #[.pointer (some ⟨p,0,none⟩),evV kd ky ch tt am fe ys] w fun e w'=>Out W w w' p (tickC ⟨tk,nx,wa,C,Hs,R⟩) ⟨tk,nx,wa,C,Hs,R⟩ (tickB ⟨tk,nx,wa,C,Hs,R⟩) ([]) e:=by
 have HC:Hid (tickC ⟨tk,nx,wa,C,Hs,R⟩=0):=by show _=_;simp [tickC];omega
 have HA:=hide hA
 have HKe:=hide (Keeps.alloc (Keeps.refl w) (.cells (evCells kd ky ch tt am fe ys) 41))
 have HRe:=hide (rw7_new w (.int .i64 kd) (.int .i64 ky) (.int .i64 ch) (.int .i64 tt) (.int .i64 am) (.int .i64 fe) (.bool ys) 41)
 have HB:=hide (h.kept HKe.out)
 have HSZ:=hide (Nat.le_refl w.heap.size)
 have HPS:=hide h.row.lt
 have HAE:=hide (h.apart (Nat.le_refl w.heap.size))
 clear h hA
 go_enter Tryz.func124,Tryz.ntmps124
 go_upto_region 1 with fail
 obtain ⟨pe,hpe⟩:∃ pe,pe=w.heap.size:=⟨_,rfl⟩
 rw [← hpe] at HRe HAE
 try rw [← hpe]
 have HPE:=hide hpe
 clear hpe
 generalize (w.alloc (.cells #[.int .i64 kd,.int .i64 ky,.int .i64 ch,.int .i64 tt,.int .i64 am,.int .i64 fe,.bool ys] 41))=w0 at *
 clear HRe HAE HKe HPS HSZ
 have b0:=HB.out.cells.1
 have f0:=HB.out.row.frozen 0
 dsimp only at b0
 have hw1:IntKind.i64.wrap (tk+1)=tk+1:=by rw [IntKind.wrap_i64];omega
 have HB1:=hide (HB.out.setTk (tk+1))
 go_upto_region 2 with fail
 generalize w0.setCell ⟨p,0,none⟩ (.int .i64 (tk+1))=w1 at *
 replace HB:Hid (BoAt W w1 p ⟨tk+1,nx,wa,ca,cc,C,ha,hc,Hs,ra,rc,R⟩):=HB1.out
 clear HB1 b0 f0
 have b4:=HB.out.cells.2.2.2.2.1
 dsimp only at b4
 go_wp2_with fail
 clear b4
 go_loopw [20] (fun z wr=>∃ j:Nat,j≤Hs.length∧z=.int .i64 (j:Int)∧Hid (BoAt W wr p ⟨tk+1,nx,wa,ca,cc,C,ha,hc,mapTo ageUp Hs j,ra,rc,R⟩)) (fun z _=>Hs.length-(intOf z).toNat)
 case atStart=>exact ⟨0,by omega,rfl,by rw [mapTo_zero];exact HB.out⟩
 case round =>
  obtain ⟨j,hj,rfl,HWr⟩:=hrel
  by_cases hlt:j < Hs.length
  ·have hlt':j < (mapTo ageUp Hs j).length:=by rw [mapTo_len];exact hlt
   clear HB
   obtain ⟨g,rfl⟩:∃ g,ha=some ⟨g,0,none⟩:=by
    obtain ⟨g,cap,e,-⟩:=HWr.out.oH.form (show 0 < (mapTo ageUp Hs j).length by omega)
    injection e with e _ _
    exact ⟨g,e⟩
   have b4:=HWr.out.cells.2.2.2.2.1
   dsimp only at b4
   rw [mapTo_len] at b4
   obtain ⟨q0,q1,q2,q3,q4,q5,q6⟩:=HWr.out.oH.at j hlt'
   dsimp only at q0 q1 q2 q3 q4 q5 q6
   rw [mapTo_at ageUp Hs j hlt hlt'] at q0 q1 q2 q3 q4 q5 q6
   have f6:=HWr.out.oH.frz (j*7+6)
   have hz:j*7+7≤Hs.length*7:=by omega
   have hag:=HA.out Hs[j] (List.getElem_mem hlt)
   obtain ⟨na,hna⟩:∃ na,na=(ageUp Hs[j]).ag:=⟨_,rfl⟩
   have HU:Hid (ageUp Hs[j]=⟨Hs[j].ky,Hs[j].inn,Hs[j].out,Hs[j].ai,Hs[j].ao,Hs[j].kp,na⟩):=by
    show _=_
    rw [hna]
    unfold ageUp
    split <;> rfl
   have hmin:(if Hs[j].ag+1≤1125899906842624 then Hs[j].ag+1 else 1125899906842624)=na:=by
    rw [hna]
    unfold ageUp
    by_cases h1:Hs[j].ag < 1125899906842624
    ·rw [if_pos h1,if_pos (by omega)]
    ·rw [if_neg h1,if_neg (by omega)];omega
   have hmin2:min (Hs[j].ag+1) 1125899906842624=na:=by rw [← hmin];omega
   have HE:Hid (BoAt W (wr.setCell ⟨g,j*7+6,none⟩ (.int .i64 na)) p ⟨tk+1,nx,wa,ca,cc,C,some ⟨g,0,none⟩,hc,mapTo ageUp Hs (j+1),ra,rc,R⟩):=by
    show BoAt _ _ _ _
    have hs:=HWr.out.oH.set6 j hlt' na
    have h:=HWr.out.setH (grown_turn hs.2) hs.1 (by simp)
    dsimp only at h
    rw [mapTo_at ageUp Hs j hlt hlt',← HU.out,mapTo_set ageUp Hs j hlt] at h
    exact h
   have hw2:IntKind.i64.wrap (Hs[j].ag+1)=Hs[j].ag+1:=by rw [IntKind.wrap_i64];omega
   clear hna HU q0 q1 q2 q3 q4 q5
   generalize Hs[j].ag=ag at *
   go_upto_region 5 with fail
   go_region
   replace HE:=hide (HE.out.kept (Keeps.refl _).drew)
   generalize World.drew _=w3 at *
   clear f6 q6 b4
   go_wp2_with fail
   go_roundw
   case rel=>exact ⟨j+1,by omega,by go_num,HE.out⟩
   case measure=>simp [intOf];omega
  ·have e:j=Hs.length:=by omega
   subst e
   rw [mapTo_all] at HWr
   have b0:=HWr.out.cells.1
   dsimp only at b0
   by_cases h5:(tk+1) % 5=0
   ·have hd5:((tk+1) % 5==0)=true:=by simpa using h5
    have H5:=hide h5
    clear h5
    have b3:=HWr.out.cells.2.2.2.1
    dsimp only at b3
    go_wp2_with fail
    clear b3 b0 HA hlh hd5 HB
    go_loopw [7,52] (fun _ z wr=>∃ j:Nat,j≤C.length∧z=.int .i64 (j:Int)∧Hid (BoAt W wr p ⟨tk+1,nx,wa,ca,cc,mapTo (fadeC (tk+1)) C j,ha,hc,Hs.map ageUp,ra,rc,R⟩)) (fun _ z _=>C.length-(intOf z).toNat)
    case atStart=>exact ⟨0,by omega,rfl,by rw [mapTo_zero];exact HWr.out⟩
    case round =>
     clear HWr
     obtain ⟨j,hj,rfl,HWr⟩:=hrel
     by_cases hlt:j < C.length
     ·have hlt':j < (mapTo (fadeC (tk+1)) C j).length:=by rw [mapTo_len];exact hlt
      obtain ⟨g,rfl⟩:∃ g,ca=some ⟨g,0,none⟩:=by
       obtain ⟨g,cap,e,-⟩:=HWr.out.oC.form (show 0 < (mapTo (fadeC (tk+1)) C j).length by omega)
       injection e with e _ _
       exact ⟨g,e⟩
      have b3:=HWr.out.cells.2.2.2.1
      dsimp only at b3
      rw [mapTo_len] at b3
      obtain ⟨q0,q1,q2,q3,q4,q5,q6⟩:=HWr.out.oC.at j hlt'
      dsimp only at q0 q1 q2 q3 q4 q5 q6
      rw [mapTo_at (fadeC (tk+1)) C j hlt hlt'] at q0 q1 q2 q3 q4 q5 q6
      have hz:j*7+7≤C.length*7:=by omega
      clear q0 q1 q2 q3 q4 q5
      go_upto_region 11 with fail
      obtain ⟨sc,hsc⟩:∃ sc,C[j].sc=sc:=⟨_,rfl⟩
      rw [hsc] at q6
      have HSC:=hide hsc
      clear hsc
      have D3:=gr_cell b3
      have D6:=gr_cell q6
      refine wp_region_app [.f,.f,.f,.f,.f,.h,.h,.h,.h,.h,.h,.h,.h,.b,.t,.t,.t] (by kernel_rfl) (by kernel_rfl) rfl rfl rfl rfl rfl rfl rfl (fun _ _ d _ _ h=>by cases d <;> exact h) ?_
      simp only [pkU,pkF,pkH,pkT,pkB]
      refine wpUni_nil ?_
      refine wpFlo_step ?v0 (by rfl) ?f0 ?_
      case f0 =>
       rintro w9 ⟨t9,rfl⟩
       go_simp
       with_reducible rfl
      try simp only [Act.put,List.setIfInBounds_toArray,List.set_cons_zero,List.set_cons_succ]
      refine wpFlo_step ?v1 (by rfl) ?f1 ?_
      case f1 =>
       rintro w9 ⟨t9,rfl⟩
       go_simp
       with_reducible rfl
      try simp only [Act.put,List.setIfInBounds_toArray,List.set_cons_zero,List.set_cons_succ]
      refine wpFlo_step ?v2 (by rfl) ?f2 ?_
      case f2 =>
       rintro w9 ⟨t9,rfl⟩
       go_simp
       with_reducible rfl
      try simp only [Act.put,List.setIfInBounds_toArray,List.set_cons_zero,List.set_cons_succ]
      refine wpFlo_step ?v3 (by rfl) ?f3 ?_
      case f3 =>
       rintro w9 ⟨t9,rfl⟩
       go_simp
       with_reducible rfl
      try simp only [Act.put,List.setIfInBounds_toArray,List.set_cons_zero,List.set_cons_succ]
      refine wpFlo_step ?v4 (by rfl) ?f4 ?_
      case f4 =>
       rintro w9 ⟨t9,rfl⟩
       go_simp
       with_reducible rfl
      try simp only [Act.put,List.setIfInBounds_toArray,List.set_cons_zero,List.set_cons_succ]
      refine wpFlo_nil ?_
      repeat (go_big_quiet_step (fail))
      refine wpQuiet_nil ?_
      refine ⟨rfl,?_⟩
      rintro w9 ⟨t9,rfl⟩ K9 hK9
      go_simp
      refine (fade_impl sc _).mono ?_
      rintro e w5 ⟨rfl,hk5⟩
      refine hK9.out _ _ (gr_gr hk5) ?_
      clear hK9 K9 D3 D6
      have hkk:=(gr_keeps wr t9).trans hk5
      have HW5:=hide (HWr.out.kept hkk)
      replace b3:=hkk.cell b3
      replace q6:=hkk.cell q6
      clear hk5 hkk
      have f6:=HW5.out.oC.frz (j*7+6)
      have HE:Hid (BoAt W (w5.setCell ⟨g,j*7+6,none⟩ (.int .i64 (fadeS sc))) p ⟨tk+1,nx,wa,some ⟨g,0,none⟩,cc,mapTo (fadeC (tk+1)) C (j+1),ha,hc,Hs.map ageUp,ra,rc,R⟩):=by
       show BoAt _ _ _ _
       have hs:=HW5.out.oC.set6 j hlt' (fadeS sc)
       have h:=HW5.out.setC (grown_turn hs.2) hs.1 (by simp)
       dsimp only at h
       have ef:fadeC (tk+1) C[j]=⟨C[j].id,C[j].sz,C[j].lo,C[j].re,C[j].ba,C[j].pp,fadeS sc⟩:=by unfold fadeC;rw [if_pos H5.out,HSC.out]
       rw [mapTo_at (fadeC (tk+1)) C j hlt hlt',← ef,mapTo_set (fadeC (tk+1)) C j hlt] at h
       exact h
      go_upto_region 12 with fail
      generalize w5.setCell ⟨g,j*7+6,none⟩ (.int .i64 (fadeS sc))=w6 at *
      clear b3 q6 f6
      go_wp2_with fail
      go_roundw
      case rel=>exact ⟨j+1,by omega,by go_num,HE.out⟩
      case measure=>simp [intOf];omega
     ·have e:j=C.length:=by omega
      subst e
      rw [mapTo_all] at HWr
      go_wp2_with fail
      go_ret2
      refine Out.yes HC.out ?_
      exact Done.no HWr.out
   ·have hd5:((tk+1) % 5==0)=false:=by simpa using h5
    have HN:Hid (tickB ⟨tk,nx,wa,C,Hs,R⟩=⟨tk+1,nx,wa,C,Hs.map ageUp,R⟩):=by
     show _=_
     have e:C.map (fadeC (tk+1))=C:=by
      rw [List.map_congr_left (g:=id)]
      ·simp
      ·intro c _
       unfold fadeC
       rw [if_neg h5];rfl
     simp only [tickB,e]
    go_wp2_with fail
    go_ret2
    refine Out.yes HC.out ?_
    rw [HN.out]
    exact Done.no HWr.out
end Go.Proofs.YtccdhcempnkgaaaGreatDoor
