/- The program's deeds: a payment is fulfilled, or fails. -/
import Derived.Test.YtccdhcempnkgaaaGreatDoorPL24
import Derived.Test.YtccdhcempnkgaaaGreatDoorPL25
import Derived.Test.YtccdhcempnkgaaaGreatDoorPL18
import Derived.Test.YtccdhcempnkgaaaGreatDoorPL15
namespace Go.Proofs.YtccdhcempnkgaaaGreatDoor
open Go.RowKit Go.Deep
set_option linter.unusedVariables false
set_option linter.unusedSimpArgs false
set_option maxRecDepth 10000
theorem mov_set {C:List Chn} {x:Int} {i:Nat} (hi:i < C.length) (hx:atC C x=some i) (p q:Int):movC C x p q=C.set i ⟨C[i].id,C[i].sz,C[i].lo+p,C[i].re+q,C[i].ba,C[i].pp,C[i].sc⟩:=by
 unfold movC
 rw [hx]
 exact modify_at _ _ _ hi
theorem mov_two {C:List Chn} {x y:Int} {i j:Nat} (hi:i < C.length) (hj:j < C.length) (hx:atC C x=some i) (hy:atC C y=some j) (hij:i≠j) (p q r s:Int):movC (movC C x p q) y r s=(C.set i ⟨C[i].id,C[i].sz,C[i].lo+p,C[i].re+q,C[i].ba,C[i].pp,C[i].sc⟩).set j ⟨C[j].id,C[j].sz,C[j].lo+r,C[j].re+s,C[j].ba,C[j].pp,C[j].sc⟩:=by
 have h2:atC (movC C x p q) y=some j:=by rw [movC_at];exact hy
 rw [mov_set (by rw [movC_len];exact hj) h2]
 simp only [mov_set hi hx,List.getElem_set_ne hij]
theorem mov_score {C:List Chn} {x y:Int} {i j:Nat} (hi:i < C.length) (hj:j < C.length) (hx:atC C x=some i) (hy:atC C y=some j) (hij:i≠j) (p q r s:Int) (f:Int→Int):scoreC (movC (movC C x p q) y r s) x f=(C.set i ⟨C[i].id,C[i].sz,C[i].lo+p,C[i].re+q,C[i].ba,C[i].pp,f C[i].sc⟩).set j ⟨C[j].id,C[j].sz,C[j].lo+r,C[j].re+s,C[j].ba,C[j].pp,C[j].sc⟩:=by
 have h2:atC (movC (movC C x p q) y r s) x=some i:=by rw [movC_at,movC_at];exact hx
 have hi2:i < (movC (movC C x p q) y r s).length:=by rw [movC_len,movC_len];exact hi
 unfold scoreC
 rw [h2]
 show List.modify _ _ _=_
 rw [modify_at _ _ _ hi2]
 simp only [mov_two hi hj hx hy hij,List.getElem_set_ne (Ne.symm hij),List.getElem_set_self]
 rw [List.set_comm _ _ hij,List.set_set,List.set_comm _ _ (Ne.symm hij)]
theorem two_ix {C:List Chn} {x y:Int} (h:twoB C x y=true):∃ i j,∃ (hi:i < C.length) (hj:j < C.length),atC C x=some i∧atC C y=some j∧i≠j:=by
 obtain ⟨i,j,hi,hj,hne⟩:=two_at h
 obtain ⟨hi1,ei⟩:=atC_lt hi
 obtain ⟨hj1,ej⟩:=atC_lt hj
 exact ⟨i,j,hi1,hj1,hi,hj,fun e=>hne (by subst e;rw [← ei,← ej])⟩
set_option maxHeartbeats 8000000 in
theorem fulfill_impl (W:Wf) (w:World) (p:Nat) (tk nx wa:Int) (ca:Option Addr) (cc:Nat) (C:List Chn) (ha:Option Addr) (hc:Nat) (Hs:List Htl) (ra:Option Addr) (rc:Nat) (R:List Crc) (h:BoAt W w p ⟨tk,nx,wa,ca,cc,C,ha,hc,Hs,ra,rc,R⟩) (kd ky ch tt am fe:Int) (ys:Bool) (hlc:C.length≤20) (hll:Hs.length≤60) (hl:Bo.len ⟨tk,nx,wa,ca,cc,C,ha,hc,Hs,ra,rc,R⟩) (hkn:(Hs.map Htl.ky).Nodup) (hkz:∀ x∈Hs,x.ky≠0) (hA:∀ c∈C,(0≤c.lo∧c.lo≤1125899906842624)∧0≤c.re∧c.re≤1125899906842624) (hB:∀ c∈Hs,twoB C c.inn c.out=true∧(0≤c.ai∧c.ai≤1125899906842624)∧0≤c.ao∧c.ao≤1125899906842624) :
 Calls Tryz.prog 122 #[.pointer (some ⟨p,0,none⟩),evV kd ky ch tt am fe ys] w fun e w'=>Out W w w' p (settleC ⟨tk,nx,wa,C,Hs,R⟩ ky) ⟨tk,nx,wa,C,Hs,R⟩ (settleB ⟨tk,nx,wa,C,Hs,R⟩ ky true) (settleL (lastH ky Hs) true []) e:=by
 cases hf:findH ky Hs with
 | none =>
   obtain ⟨-,hz,-⟩:=findH_none hf
   have HC:Hid (settleC ⟨tk,nx,wa,C,Hs,R⟩ ky=15):=by show _=_;simp [settleC,hz]
   clear hkn hkz hA hB hz
   have HKe:=hide (Keeps.alloc (Keeps.refl w) (.cells (evCells kd ky ch tt am fe ys) 41))
   have HRe:=hide (rw7_new w (.int .i64 kd) (.int .i64 ky) (.int .i64 ch) (.int .i64 tt) (.int .i64 am) (.int .i64 fe) (.bool ys) 41)
   have HB:=hide (h.kept HKe.out)
   have HSZ:=hide (Nat.le_refl w.heap.size)
   have HPS:=hide h.row.lt
   have HAE:=hide (h.apart (Nat.le_refl w.heap.size))
   clear h
   go_enter Tryz.func122,Tryz.ntmps122
   go_upto_region 1 with fail
   obtain ⟨pe,hpe⟩:∃ pe,pe=w.heap.size:=⟨_,rfl⟩
   rw [← hpe] at HRe HAE
   try rw [← hpe]
   have HPE:=hide hpe
   clear hpe
   generalize (w.alloc (.cells #[.int .i64 kd,.int .i64 ky,.int .i64 ch,.int .i64 tt,.int .i64 am,.int .i64 fe,.bool ys] 41))=w0 at *
   have HZ:=hide HKe.out.size
   clear HKe
   obtain ⟨-,e1,-,-,-,-,-⟩:=rw7_cells HRe.out
   go_wp2_with fail
   refine (takeHtlc_none p ⟨tk,nx,wa,ca,cc,C,ha,hc,Hs,ra,rc,R⟩ ky w0 HB.out.cells HB.out.mem hl hf).mono ?_
   rintro e w1 ⟨rfl,hk⟩
   replace HB:=hide (HB.out.kept hk)
   clear hk
   go_wp2_with fail
   go_ret2
   exact Out.no HC.out (by decide) (HB.out.kept (Keeps.alloc (Keeps.refl _) _))
 | some q =>
   obtain ⟨hq,hqk,hlast,hrest⟩:=findH_some hkn hf
   obtain ⟨htw,hm1,hm2⟩:=hB _ (List.getElem_mem hq)
   have hz:=hkz _ (List.getElem_mem hq)
   obtain ⟨x,hx⟩:∃ x,x=Hs[q]:=⟨_,rfl⟩
   rw [← hx] at htw hm1 hm2 hz hqk hlast
   have HT:=hide (fun w' (hb:BoAt W w' p ⟨tk,nx,wa,ca,cc,C,ha,hc,Hs,ra,rc,R⟩)=>takeHtlc_some W w' p tk nx wa ca cc C ha hc Hs ra rc R hb ky q hf hq (Nat.le_trans hll (by decide)))
   rw [← hx] at HT
   have HC:Hid (settleC ⟨tk,nx,wa,C,Hs,R⟩ ky=0):=by show _=_;simp [settleC,hlast,hz]
   have HLS:=hide hlast
   have HRS:=hide hrest
   clear hx hkn hkz hB hf hqk hz hlast hrest hl
   obtain ⟨x0,x1,x2,x3,x4,x5,x6⟩:=x
   dsimp only at htw hm1 hm2 HT
   obtain ⟨i,j,hi,hj,hai,haj,hij⟩:=two_ix htw
   clear htw
   obtain ⟨bi1,bi2⟩:=hA _ (List.getElem_mem hi)
   obtain ⟨bj1,bj2⟩:=hA _ (List.getElem_mem hj)
   clear hA
   have HMM:=hide (And.intro (fun p q r s=>mov_two hi hj hai haj hij p q r s) (fun p q r s f=>mov_score hi hj hai haj hij p q r s f))
   obtain ⟨g,rfl⟩:∃ g,ca=some ⟨g,0,none⟩:=by
    obtain ⟨g,cap,e,-⟩:=h.oC.form (show 0 < C.length by omega)
    injection e with e _ _
    exact ⟨g,e⟩
   have hpl1:placeC (some ⟨g,0,none⟩) (atC C x1)=some ⟨g,i*7,none⟩:=by rw [hai];simp [placeC]
   have hpl2:placeC (some ⟨g,0,none⟩) (atC C x2)=some ⟨g,j*7,none⟩:=by rw [haj];simp [placeC]
   obtain ⟨ci,hci⟩:∃ ci,C[i]=ci:=⟨_,rfl⟩
   obtain ⟨cj,hcj⟩:∃ cj,C[j]=cj:=⟨_,rfl⟩
   rw [hci] at bi1 bi2
   rw [hcj] at bj1 bj2
   have HCI:=hide hci
   have HCJ:=hide hcj
   clear hci hcj hai haj
   obtain ⟨a0,a1,a2,a3,a4,a5,a6⟩:=ci
   obtain ⟨b0,b1,b2,b3,b4,b5,b6⟩:=cj
   dsimp only at bi1 bi2 bj1 bj2
   simp only [HCI.out,HCJ.out] at HMM
   have hcl:C.length≤1048576:=Nat.le_trans hlc (by decide)
   have HGP:Hid (g < w.heap.size∧g≠p):=⟨(owns_lb h.oC g (by simp [lb])).2,fun e=>h.np.1 (by simp [lb,e])⟩
   have HKe:=hide (Keeps.alloc (Keeps.refl w) (.cells (evCells kd ky ch tt am fe ys) 41))
   have HRe:=hide (rw7_new w (.int .i64 kd) (.int .i64 ky) (.int .i64 ch) (.int .i64 tt) (.int .i64 am) (.int .i64 fe) (.bool ys) 41)
   have HB:=hide (h.kept HKe.out)
   have HSZ:=hide (Nat.le_refl w.heap.size)
   have HPS:=hide h.row.lt
   have HAE:=hide (h.apart (Nat.le_refl w.heap.size))
   clear h
   go_enter Tryz.func122,Tryz.ntmps122
   go_upto_region 1 with fail
   obtain ⟨pe,hpe⟩:∃ pe,pe=w.heap.size:=⟨_,rfl⟩
   rw [← hpe] at HRe HAE
   try rw [← hpe]
   have HPE:=hide hpe
   clear hpe
   generalize (w.alloc (.cells #[.int .i64 kd,.int .i64 ky,.int .i64 ch,.int .i64 tt,.int .i64 am,.int .i64 fe,.bool ys] 41))=w0 at *
   have HZ:=hide HKe.out.size
   clear HKe
   obtain ⟨-,e1,-,-,-,-,-⟩:=rw7_cells HRe.out
   have HSZ0:=hide HZ.out
   go_wp2_with fail
   refine (unhide HT _ HB.out).mono ?_
   rintro e w1 ⟨rfl,hb1,ht1⟩
   replace HB:=hide hb1
   replace HZ:=hide (Nat.le_trans HZ.out ht1.size)
   clear hb1 ht1 e1 HT HSZ0
   have HKv:=hide (Keeps.alloc (Keeps.refl w1) (.cells #[.int .i64 x0,.int .i64 x1,.int .i64 x2,.int .i64 x3,.int .i64 x4,.bool x5,.int .i64 x6] 112))
   have HV:=hide (rw7_new w1 (.int .i64 x0) (.int .i64 x1) (.int .i64 x2) (.int .i64 x3) (.int .i64 x4) (.bool x5) (.int .i64 x6) 112)
   have hbg:w1.heap.size≠g∧w1.heap.size≠p:=by have:=HGP.out;have:=HZ.out;have:=HB.out.row.lt;exact ⟨by omega,by omega⟩
   go_upto_region 4 with fail
   replace HB:=hide (HB.out.kept HKv.out)
   replace HZ:=hide (Nat.le_trans HZ.out HKv.out.size)
   generalize (w1.alloc (.cells #[.int .i64 x0,.int .i64 x1,.int .i64 x2,.int .i64 x3,.int .i64 x4,.bool x5,.int .i64 x6] 112))=w2 at *
   generalize w1.heap.size=bh at *
   clear HKv
   obtain ⟨v0,v1,v2,v3,v4,v5,v6⟩:=rw7_cells HV.out
   have D1:=gr_cell v1
   have D2:=gr_cell v2
   clear v0 v1 v2 v3 v4 v5 v6
   refine region_gr (by kernel_rfl) (by kernel_rfl) ?_
   repeat (go_big_quiet_step (fail))
   go_big_quiet_step (first | (go_at_call 116;exact gr_call (chanw p _ cc C x1 _ (HB.out.kept (gr_keeps _ _)).cells.2.2.2.1 (Bo.memC (HB.out.kept (gr_keeps _ _)).mem) hcl hpl1)))
   repeat (go_big_quiet_step (fail))
   go_big_quiet_step (first | (go_at_call 116;exact gr_call (chanw p _ cc C x2 _ (HB.out.kept (gr_keeps _ _)).cells.2.2.2.1 (Bo.memC (HB.out.kept (gr_keeps _ _)).mem) hcl hpl2)))
   repeat (go_big_quiet_step (fail))
   refine wpQuiet_nil ?_
   intro w3 hw'
   have hk:=Keeps.of_gr hw'
   replace HB:=hide (HB.out.kept hk)
   replace HV:=hide (hk.rowK HV.out)
   replace HZ:=hide (Nat.le_trans HZ.out hk.size)
   clear hk hw' D1 D2 hpl1 hpl2
   have hw1:IntKind.i64.wrap (a2+x3)=a2+x3:=by rw [IntKind.wrap_i64];omega
   have hw2:IntKind.i64.wrap (b3+x4)=b3+x4:=by rw [IntKind.wrap_i64];omega
   obtain ⟨v0,v1,v2,v3,v4,v5,v6⟩:=rw7_cells HV.out
   obtain ⟨y0,y1,y2,y3,y4,y5,y6⟩:=HB.out.oC.at i hi
   simp only [HCI.out] at y0 y1 y2 y3 y4 y5 y6
   have fz:=HB.out.oC.frz (i*7+2)
   have HB1:=hide ((HB.out.put2 i hi (a2+x3)).kept (Keeps.refl _).drew)
   have HV1:=hide ((row_turn HV.out (Turn.set (fs:=[g]) (a:=⟨g,i*7+2,none⟩) (by simp) (.int .i64 (a2+x3))) (by simpa using hbg.1)).drew)
   have HZ1:Hid (w.heap.size≤((w3.setCell ⟨g,i*7+2,none⟩ (.int .i64 (a2+x3))).drew).heap.size):=by show _≤_;have:=HZ.out;simpa using this
   simp only [HCI.out,List.set_set] at HB1
   go_upto_region 5 with fail
   go_region
   generalize ((w3.setCell ⟨g,i*7+2,none⟩ (.int .i64 (a2+x3))).drew)=w4 at *
   replace HB:=HB1
   replace HV:=HV1
   replace HZ:=HZ1
   clear HB1 HV1 HZ1 fz y0 y1 y2 y3 y4 y5 y6 v0 v1 v2 v3 v4 v5 v6
   have hi1:i < (C.set i (⟨a0,a1,a2+x3,a3,a4,a5,a6⟩:Chn)).length:=by simpa using hi
   obtain ⟨y0,y1,y2,y3,y4,y5,y6⟩:=HB.out.oC.at i hi1
   simp only [List.getElem_set_self] at y0 y1 y2 y3 y4 y5 y6
   go_wp2_with fail
   refine (up_impl a6 _).mono ?_
   rintro e w5 ⟨rfl,hk⟩
   replace HB:=hide (HB.out.kept hk)
   replace HV:=hide (hk.rowK HV.out)
   replace HZ:=hide (Nat.le_trans HZ.out hk.size)
   clear hk y0 y1 y2 y3 y4 y5 y6
   obtain ⟨v0,v1,v2,v3,v4,v5,v6⟩:=rw7_cells HV.out
   obtain ⟨y0,y1,y2,y3,y4,y5,y6⟩:=HB.out.oC.at i hi1
   simp only [List.getElem_set_self] at y0 y1 y2 y3 y4 y5 y6
   have fz:=HB.out.oC.frz (i*7+6)
   have HB1:=hide ((HB.out.put6 i hi1 (upS a6)))
   have HV1:=hide ((row_turn HV.out (Turn.set (fs:=[g]) (a:=⟨g,i*7+6,none⟩) (by simp) (.int .i64 (upS a6))) (by simpa using hbg.1)))
   have HZ1:Hid (w.heap.size≤((w5.setCell ⟨g,i*7+6,none⟩ (.int .i64 (upS a6)))).heap.size):=by show _≤_;have:=HZ.out;simpa using this
   simp only [List.getElem_set_self,List.set_set] at HB1
   go_upto_region 7 with fail
   generalize ((w5.setCell ⟨g,i*7+6,none⟩ (.int .i64 (upS a6))))=w6 at *
   replace HB:=HB1
   replace HV:=HV1
   replace HZ:=HZ1
   clear HB1 HV1 HZ1 fz y0 y1 y2 y3 y4 y5 y6 v0 v1 v2 v3 v4 v5 v6
   have hj1:j < (C.set i (⟨a0,a1,a2+x3,a3,a4,a5,upS a6⟩:Chn)).length:=by simpa using hj
   obtain ⟨v0,v1,v2,v3,v4,v5,v6⟩:=rw7_cells HV.out
   obtain ⟨y0,y1,y2,y3,y4,y5,y6⟩:=HB.out.oC.at j hj1
   simp only [List.getElem_set_ne hij,HCJ.out] at y0 y1 y2 y3 y4 y5 y6
   have fz:=HB.out.oC.frz (j*7+3)
   have HB1:=hide ((HB.out.put3 j hj1 (b3+x4)).kept (Keeps.refl _).drew)
   have HV1:=hide ((row_turn HV.out (Turn.set (fs:=[g]) (a:=⟨g,j*7+3,none⟩) (by simp) (.int .i64 (b3+x4))) (by simpa using hbg.1)).drew)
   have HZ1:Hid (w.heap.size≤((w6.setCell ⟨g,j*7+3,none⟩ (.int .i64 (b3+x4))).drew).heap.size):=by show _≤_;have:=HZ.out;simpa using this
   simp only [List.getElem_set_ne hij,HCJ.out,List.set_set] at HB1
   go_upto_region 7 with fail
   go_region
   generalize ((w6.setCell ⟨g,j*7+3,none⟩ (.int .i64 (b3+x4))).drew)=w7 at *
   replace HB:=HB1
   replace HV:=HV1
   replace HZ:=HZ1
   clear HB1 HV1 HZ1 fz y0 y1 y2 y3 y4 y5 y6 v0 v1 v2 v3 v4 v5 v6
   have hwe:IntKind.i64.wrap (x3-x4)=x3-x4:=by rw [IntKind.wrap_i64];omega
   have hwn:IntKind.i64.wrap (-(x3-x4))=-(x3-x4):=by rw [IntKind.wrap_i64];omega
   have hwm:IntKind.i64.wrap (-x4)=-x4:=by rw [IntKind.wrap_i64];omega
   obtain ⟨v0,v1,v2,v3,v4,v5,v6⟩:=rw7_cells HV.out
   go_upto_region 9 with fail
   have G0:=gr_cell v1
   have G1:=gr_cell v2
   have G2:=gr_cell v3
   have G3:=gr_cell v4
   clear v0 v1 v2 v3 v4 v5 v6
   refine wp_region_app [.h,.h,.h,.h,.h,.h,.h,.h,.h,.h,.h,.h,.h,.h,.b,.t,.t,.t] (by kernel_rfl) (by kernel_rfl) rfl rfl rfl rfl rfl rfl rfl (fun _ _ d _ _ h=>by cases d <;> exact h) ?_
   simp only [pkU,pkF,pkH,pkT,pkB]
   refine wpUni_nil ?_
   refine wpFlo_nil ?_
   repeat (go_big_quiet_step (first | (go_at_call 135;exact gr_call (hubLine_impl _ _ _)) | (go_at_call 138;exact gr_call (chanLine_impl _ _ _ _))))
   refine wpQuiet_nil ?_
   refine ⟨rfl,?_⟩
   rintro w9 ⟨t9,rfl⟩ K9 hK9
   go_simp
   refine hK9.out _ _ (gr_gr (Keeps.alloc (Keeps.refl _) _)) ?_
   clear hK9 K9
   have HB9:=hide (HB.out.kept (gr_keeps w7 t9))
   have HZ9:=hide (gr_keeps w7 t9).size
   have HZ8:=hide HB.out.row.lt
   generalize gr w7 t9=W9 at *
   have HKa:=hide (Keeps.alloc (Keeps.refl W9) (.cells #[.int .i64 3,.int .i64 0,.int .i64 (-(x3-x4)),.int .i64 6,.int .i64 x1,.int .i64 x3,.int .i64 8,.int .i64 x2,.int .i64 (-x4)] 104))
   have HG:=hide (gath_impl (some ⟨W9.heap.size,0,none⟩) 3 [⟨3,0,-(x3-x4)⟩,⟨6,x1,x3⟩,⟨8,x2,-x4⟩] _ (lines_new3 W9 ⟨3,0,-(x3-x4)⟩ ⟨6,x1,x3⟩ ⟨8,x2,-x4⟩) (by simp) (by simp [lessB]))
   clear G0 G1 G2 G3 HRe
   go_wp2_with fail
   refine (unhide HG).mono ?_
   rintro e w' ⟨v,rfl,ho,hk⟩
   have HF:=hide (HB9.out.kept (HKa.out.trans hk))
   have HO:=hide ho
   clear ho hk HG HB
   go_wp2_with fail
   go_ret2
   have HK2:Hid (settleB ⟨tk,nx,wa,C,Hs,R⟩ ky true=⟨tk,nx,wa,(C.set i ⟨a0,a1,a2+x3,a3,a4,a5,upS a6⟩).set j ⟨b0,b1,b2,b3+x4,b4,b5,b6⟩,Hs.eraseIdx q,R⟩):=by
    show _=_
    simp only [settleB,HLS.out,HRS.out,settleM,if_true]
    congr 1
    simp only [HMM.out.2,Int.add_zero]
   have HL2:Hid (settleL (lastH ky Hs) true []=nzL [⟨3,0,-(x3-x4)⟩,⟨6,x1,x3⟩,⟨8,x2,-x4⟩]):=by
    show _=_
    simp only [settleL,HLS.out,if_true]
    rw [show x4-x3=-(x3-x4) by omega];exact lines3 (by decide) (by decide)
   refine Out.yes HC.out ?_
   rw [HK2.out,HL2.out]
   exact Done.mk2 HF.out HO.out HB9.out HKa.out.size (Nat.le_trans HZ.out HZ9.out)
set_option maxHeartbeats 8000000 in
theorem fail_impl (W:Wf) (w:World) (p:Nat) (tk nx wa:Int) (ca:Option Addr) (cc:Nat) (C:List Chn) (ha:Option Addr) (hc:Nat) (Hs:List Htl) (ra:Option Addr) (rc:Nat) (R:List Crc) (h:BoAt W w p ⟨tk,nx,wa,ca,cc,C,ha,hc,Hs,ra,rc,R⟩) (kd ky ch tt am fe:Int) (ys:Bool) (hlc:C.length≤20) (hll:Hs.length≤60) (hl:Bo.len ⟨tk,nx,wa,ca,cc,C,ha,hc,Hs,ra,rc,R⟩) (hkn:(Hs.map Htl.ky).Nodup) (hkz:∀ x∈Hs,x.ky≠0) (hA:∀ c∈C,(0≤c.lo∧c.lo≤1125899906842624)∧0≤c.re∧c.re≤1125899906842624) (hB:∀ c∈Hs,twoB C c.inn c.out=true∧(0≤c.ai∧c.ai≤1125899906842624)∧0≤c.ao∧c.ao≤1125899906842624) :
 Calls Tryz.prog 123 #[.pointer (some ⟨p,0,none⟩),evV kd ky ch tt am fe ys] w fun e w'=>Out W w w' p (settleC ⟨tk,nx,wa,C,Hs,R⟩ ky) ⟨tk,nx,wa,C,Hs,R⟩ (settleB ⟨tk,nx,wa,C,Hs,R⟩ ky false) (settleL (lastH ky Hs) false []) e:=by
 cases hf:findH ky Hs with
 | none =>
   obtain ⟨-,hz,-⟩:=findH_none hf
   have HC:Hid (settleC ⟨tk,nx,wa,C,Hs,R⟩ ky=15):=by show _=_;simp [settleC,hz]
   clear hkn hkz hA hB hz
   have HKe:=hide (Keeps.alloc (Keeps.refl w) (.cells (evCells kd ky ch tt am fe ys) 41))
   have HRe:=hide (rw7_new w (.int .i64 kd) (.int .i64 ky) (.int .i64 ch) (.int .i64 tt) (.int .i64 am) (.int .i64 fe) (.bool ys) 41)
   have HB:=hide (h.kept HKe.out)
   have HSZ:=hide (Nat.le_refl w.heap.size)
   have HPS:=hide h.row.lt
   have HAE:=hide (h.apart (Nat.le_refl w.heap.size))
   clear h
   go_enter Tryz.func123,Tryz.ntmps123
   go_upto_region 1 with fail
   obtain ⟨pe,hpe⟩:∃ pe,pe=w.heap.size:=⟨_,rfl⟩
   rw [← hpe] at HRe HAE
   try rw [← hpe]
   have HPE:=hide hpe
   clear hpe
   generalize (w.alloc (.cells #[.int .i64 kd,.int .i64 ky,.int .i64 ch,.int .i64 tt,.int .i64 am,.int .i64 fe,.bool ys] 41))=w0 at *
   have HZ:=hide HKe.out.size
   clear HKe
   obtain ⟨-,e1,-,-,-,-,-⟩:=rw7_cells HRe.out
   go_wp2_with fail
   refine (takeHtlc_none p ⟨tk,nx,wa,ca,cc,C,ha,hc,Hs,ra,rc,R⟩ ky w0 HB.out.cells HB.out.mem hl hf).mono ?_
   rintro e w1 ⟨rfl,hk⟩
   replace HB:=hide (HB.out.kept hk)
   clear hk
   go_wp2_with fail
   go_ret2
   exact Out.no HC.out (by decide) (HB.out.kept (Keeps.alloc (Keeps.refl _) _))
 | some q =>
   obtain ⟨hq,hqk,hlast,hrest⟩:=findH_some hkn hf
   obtain ⟨htw,hm1,hm2⟩:=hB _ (List.getElem_mem hq)
   have hz:=hkz _ (List.getElem_mem hq)
   obtain ⟨x,hx⟩:∃ x,x=Hs[q]:=⟨_,rfl⟩
   rw [← hx] at htw hm1 hm2 hz hqk hlast
   have HT:=hide (fun w' (hb:BoAt W w' p ⟨tk,nx,wa,ca,cc,C,ha,hc,Hs,ra,rc,R⟩)=>takeHtlc_some W w' p tk nx wa ca cc C ha hc Hs ra rc R hb ky q hf hq (Nat.le_trans hll (by decide)))
   rw [← hx] at HT
   have HC:Hid (settleC ⟨tk,nx,wa,C,Hs,R⟩ ky=0):=by show _=_;simp [settleC,hlast,hz]
   have HLS:=hide hlast
   have HRS:=hide hrest
   clear hx hkn hkz hB hf hqk hz hlast hrest hl
   obtain ⟨x0,x1,x2,x3,x4,x5,x6⟩:=x
   dsimp only at htw hm1 hm2 HT
   obtain ⟨i,j,hi,hj,hai,haj,hij⟩:=two_ix htw
   clear htw
   obtain ⟨bi1,bi2⟩:=hA _ (List.getElem_mem hi)
   obtain ⟨bj1,bj2⟩:=hA _ (List.getElem_mem hj)
   clear hA
   have HMM:=hide (And.intro (fun p q r s=>mov_two hi hj hai haj hij p q r s) (fun p q r s f=>mov_score hi hj hai haj hij p q r s f))
   obtain ⟨g,rfl⟩:∃ g,ca=some ⟨g,0,none⟩:=by
    obtain ⟨g,cap,e,-⟩:=h.oC.form (show 0 < C.length by omega)
    injection e with e _ _
    exact ⟨g,e⟩
   have hpl1:placeC (some ⟨g,0,none⟩) (atC C x1)=some ⟨g,i*7,none⟩:=by rw [hai];simp [placeC]
   have hpl2:placeC (some ⟨g,0,none⟩) (atC C x2)=some ⟨g,j*7,none⟩:=by rw [haj];simp [placeC]
   obtain ⟨ci,hci⟩:∃ ci,C[i]=ci:=⟨_,rfl⟩
   obtain ⟨cj,hcj⟩:∃ cj,C[j]=cj:=⟨_,rfl⟩
   rw [hci] at bi1 bi2
   rw [hcj] at bj1 bj2
   have HCI:=hide hci
   have HCJ:=hide hcj
   clear hci hcj hai haj
   obtain ⟨a0,a1,a2,a3,a4,a5,a6⟩:=ci
   obtain ⟨b0,b1,b2,b3,b4,b5,b6⟩:=cj
   dsimp only at bi1 bi2 bj1 bj2
   simp only [HCI.out,HCJ.out] at HMM
   have hcl:C.length≤1048576:=Nat.le_trans hlc (by decide)
   have HGP:Hid (g < w.heap.size∧g≠p):=⟨(owns_lb h.oC g (by simp [lb])).2,fun e=>h.np.1 (by simp [lb,e])⟩
   have HKe:=hide (Keeps.alloc (Keeps.refl w) (.cells (evCells kd ky ch tt am fe ys) 41))
   have HRe:=hide (rw7_new w (.int .i64 kd) (.int .i64 ky) (.int .i64 ch) (.int .i64 tt) (.int .i64 am) (.int .i64 fe) (.bool ys) 41)
   have HB:=hide (h.kept HKe.out)
   have HSZ:=hide (Nat.le_refl w.heap.size)
   have HPS:=hide h.row.lt
   have HAE:=hide (h.apart (Nat.le_refl w.heap.size))
   clear h
   go_enter Tryz.func123,Tryz.ntmps123
   go_upto_region 1 with fail
   obtain ⟨pe,hpe⟩:∃ pe,pe=w.heap.size:=⟨_,rfl⟩
   rw [← hpe] at HRe HAE
   try rw [← hpe]
   have HPE:=hide hpe
   clear hpe
   generalize (w.alloc (.cells #[.int .i64 kd,.int .i64 ky,.int .i64 ch,.int .i64 tt,.int .i64 am,.int .i64 fe,.bool ys] 41))=w0 at *
   have HZ:=hide HKe.out.size
   clear HKe
   obtain ⟨-,e1,-,-,-,-,-⟩:=rw7_cells HRe.out
   have HSZ0:=hide HZ.out
   go_wp2_with fail
   refine (unhide HT _ HB.out).mono ?_
   rintro e w1 ⟨rfl,hb1,ht1⟩
   replace HB:=hide hb1
   replace HZ:=hide (Nat.le_trans HZ.out ht1.size)
   clear hb1 ht1 e1 HT HSZ0
   have HKv:=hide (Keeps.alloc (Keeps.refl w1) (.cells #[.int .i64 x0,.int .i64 x1,.int .i64 x2,.int .i64 x3,.int .i64 x4,.bool x5,.int .i64 x6] 112))
   have HV:=hide (rw7_new w1 (.int .i64 x0) (.int .i64 x1) (.int .i64 x2) (.int .i64 x3) (.int .i64 x4) (.bool x5) (.int .i64 x6) 112)
   have hbg:w1.heap.size≠g∧w1.heap.size≠p:=by have:=HGP.out;have:=HZ.out;have:=HB.out.row.lt;exact ⟨by omega,by omega⟩
   go_upto_region 4 with fail
   replace HB:=hide (HB.out.kept HKv.out)
   replace HZ:=hide (Nat.le_trans HZ.out HKv.out.size)
   generalize (w1.alloc (.cells #[.int .i64 x0,.int .i64 x1,.int .i64 x2,.int .i64 x3,.int .i64 x4,.bool x5,.int .i64 x6] 112))=w2 at *
   generalize w1.heap.size=bh at *
   clear HKv
   obtain ⟨v0,v1,v2,v3,v4,v5,v6⟩:=rw7_cells HV.out
   have D1:=gr_cell v1
   have D2:=gr_cell v2
   clear v0 v1 v2 v3 v4 v5 v6
   refine region_gr (by kernel_rfl) (by kernel_rfl) ?_
   repeat (go_big_quiet_step (fail))
   go_big_quiet_step (first | (go_at_call 116;exact gr_call (chanw p _ cc C x1 _ (HB.out.kept (gr_keeps _ _)).cells.2.2.2.1 (Bo.memC (HB.out.kept (gr_keeps _ _)).mem) hcl hpl1)))
   repeat (go_big_quiet_step (fail))
   go_big_quiet_step (first | (go_at_call 116;exact gr_call (chanw p _ cc C x2 _ (HB.out.kept (gr_keeps _ _)).cells.2.2.2.1 (Bo.memC (HB.out.kept (gr_keeps _ _)).mem) hcl hpl2)))
   repeat (go_big_quiet_step (fail))
   refine wpQuiet_nil ?_
   intro w3 hw'
   have hk:=Keeps.of_gr hw'
   replace HB:=hide (HB.out.kept hk)
   replace HV:=hide (hk.rowK HV.out)
   replace HZ:=hide (Nat.le_trans HZ.out hk.size)
   clear hk hw' D1 D2 hpl1 hpl2
   have hw1:IntKind.i64.wrap (a3+x3)=a3+x3:=by rw [IntKind.wrap_i64];omega
   have hw2:IntKind.i64.wrap (b2+x4)=b2+x4:=by rw [IntKind.wrap_i64];omega
   obtain ⟨v0,v1,v2,v3,v4,v5,v6⟩:=rw7_cells HV.out
   obtain ⟨y0,y1,y2,y3,y4,y5,y6⟩:=HB.out.oC.at i hi
   simp only [HCI.out] at y0 y1 y2 y3 y4 y5 y6
   have fz:=HB.out.oC.frz (i*7+3)
   have HB1:=hide ((HB.out.put3 i hi (a3+x3)).kept (Keeps.refl _).drew)
   have HV1:=hide ((row_turn HV.out (Turn.set (fs:=[g]) (a:=⟨g,i*7+3,none⟩) (by simp) (.int .i64 (a3+x3))) (by simpa using hbg.1)).drew)
   have HZ1:Hid (w.heap.size≤((w3.setCell ⟨g,i*7+3,none⟩ (.int .i64 (a3+x3))).drew).heap.size):=by show _≤_;have:=HZ.out;simpa using this
   simp only [HCI.out,List.set_set] at HB1
   go_upto_region 5 with fail
   go_region
   generalize ((w3.setCell ⟨g,i*7+3,none⟩ (.int .i64 (a3+x3))).drew)=w4 at *
   replace HB:=HB1
   replace HV:=HV1
   replace HZ:=HZ1
   clear HB1 HV1 HZ1 fz y0 y1 y2 y3 y4 y5 y6 v0 v1 v2 v3 v4 v5 v6
   have hi1:i < (C.set i (⟨a0,a1,a2,a3+x3,a4,a5,a6⟩:Chn)).length:=by simpa using hi
   obtain ⟨y0,y1,y2,y3,y4,y5,y6⟩:=HB.out.oC.at i hi1
   simp only [List.getElem_set_self] at y0 y1 y2 y3 y4 y5 y6
   go_wp2_with fail
   refine (down_impl a6 _).mono ?_
   rintro e w5 ⟨rfl,hk⟩
   replace HB:=hide (HB.out.kept hk)
   replace HV:=hide (hk.rowK HV.out)
   replace HZ:=hide (Nat.le_trans HZ.out hk.size)
   clear hk y0 y1 y2 y3 y4 y5 y6
   obtain ⟨v0,v1,v2,v3,v4,v5,v6⟩:=rw7_cells HV.out
   obtain ⟨y0,y1,y2,y3,y4,y5,y6⟩:=HB.out.oC.at i hi1
   simp only [List.getElem_set_self] at y0 y1 y2 y3 y4 y5 y6
   have fz:=HB.out.oC.frz (i*7+6)
   have HB1:=hide ((HB.out.put6 i hi1 (downS a6)))
   have HV1:=hide ((row_turn HV.out (Turn.set (fs:=[g]) (a:=⟨g,i*7+6,none⟩) (by simp) (.int .i64 (downS a6))) (by simpa using hbg.1)))
   have HZ1:Hid (w.heap.size≤((w5.setCell ⟨g,i*7+6,none⟩ (.int .i64 (downS a6)))).heap.size):=by show _≤_;have:=HZ.out;simpa using this
   simp only [List.getElem_set_self,List.set_set] at HB1
   go_upto_region 7 with fail
   generalize ((w5.setCell ⟨g,i*7+6,none⟩ (.int .i64 (downS a6))))=w6 at *
   replace HB:=HB1
   replace HV:=HV1
   replace HZ:=HZ1
   clear HB1 HV1 HZ1 fz y0 y1 y2 y3 y4 y5 y6 v0 v1 v2 v3 v4 v5 v6
   have hj1:j < (C.set i (⟨a0,a1,a2,a3+x3,a4,a5,downS a6⟩:Chn)).length:=by simpa using hj
   obtain ⟨v0,v1,v2,v3,v4,v5,v6⟩:=rw7_cells HV.out
   obtain ⟨y0,y1,y2,y3,y4,y5,y6⟩:=HB.out.oC.at j hj1
   simp only [List.getElem_set_ne hij,HCJ.out] at y0 y1 y2 y3 y4 y5 y6
   have fz:=HB.out.oC.frz (j*7+2)
   have HB1:=hide ((HB.out.put2 j hj1 (b2+x4)).kept (Keeps.refl _).drew)
   have HV1:=hide ((row_turn HV.out (Turn.set (fs:=[g]) (a:=⟨g,j*7+2,none⟩) (by simp) (.int .i64 (b2+x4))) (by simpa using hbg.1)).drew)
   have HZ1:Hid (w.heap.size≤((w6.setCell ⟨g,j*7+2,none⟩ (.int .i64 (b2+x4))).drew).heap.size):=by show _≤_;have:=HZ.out;simpa using this
   simp only [List.getElem_set_ne hij,HCJ.out,List.set_set] at HB1
   go_upto_region 7 with fail
   go_region
   generalize ((w6.setCell ⟨g,j*7+2,none⟩ (.int .i64 (b2+x4))).drew)=w7 at *
   replace HB:=HB1
   replace HV:=HV1
   replace HZ:=HZ1
   clear HB1 HV1 HZ1 fz y0 y1 y2 y3 y4 y5 y6 v0 v1 v2 v3 v4 v5 v6
   have hwm:IntKind.i64.wrap (-x4)=-x4:=by rw [IntKind.wrap_i64];omega
   obtain ⟨v0,v1,v2,v3,v4,v5,v6⟩:=rw7_cells HV.out
   go_upto_region 8 with fail
   have G0:=gr_cell v2
   have G1:=gr_cell v4
   clear v0 v1 v2 v3 v4 v5 v6
   refine wp_region_app [.h,.h,.h,.h,.h,.h,.h,.h,.h,.h,.h,.b,.t,.t,.t] (by kernel_rfl) (by kernel_rfl) rfl rfl rfl rfl rfl rfl rfl (fun _ _ d _ _ h=>by cases d <;> exact h) ?_
   simp only [pkU,pkF,pkH,pkT,pkB]
   refine wpUni_nil ?_
   refine wpFlo_nil ?_
   repeat (go_big_quiet_step (first | (go_at_call 135;exact gr_call (hubLine_impl _ _ _)) | (go_at_call 138;exact gr_call (chanLine_impl _ _ _ _))))
   refine wpQuiet_nil ?_
   refine ⟨rfl,?_⟩
   rintro w9 ⟨t9,rfl⟩ K9 hK9
   go_simp
   refine hK9.out _ _ (gr_gr (Keeps.alloc (Keeps.refl _) _)) ?_
   clear hK9 K9
   have HB9:=hide (HB.out.kept (gr_keeps w7 t9))
   have HZ9:=hide (gr_keeps w7 t9).size
   have HZ8:=hide HB.out.row.lt
   generalize gr w7 t9=W9 at *
   have HKa:=hide (Keeps.alloc (Keeps.refl W9) (.cells #[.int .i64 6,.int .i64 x2,.int .i64 x4,.int .i64 8,.int .i64 x2,.int .i64 (-x4)] 104))
   have HG:=hide (gath_impl (some ⟨W9.heap.size,0,none⟩) 2 [⟨6,x2,x4⟩,⟨8,x2,-x4⟩] _ (lines_new2 W9 ⟨6,x2,x4⟩ ⟨8,x2,-x4⟩) (by simp) (by simp [lessB]))
   clear G0 G1 HRe
   go_wp2_with fail
   refine (unhide HG).mono ?_
   rintro e w' ⟨v,rfl,ho,hk⟩
   have HF:=hide (HB9.out.kept (HKa.out.trans hk))
   have HO:=hide ho
   clear ho hk HG HB
   go_wp2_with fail
   go_ret2
   have HK2:Hid (settleB ⟨tk,nx,wa,C,Hs,R⟩ ky false=⟨tk,nx,wa,(C.set i ⟨a0,a1,a2,a3+x3,a4,a5,downS a6⟩).set j ⟨b0,b1,b2+x4,b3,b4,b5,b6⟩,Hs.eraseIdx q,R⟩):=by
    show _=_
    simp only [settleB,HLS.out,HRS.out,settleM,Bool.false_eq_true,if_false]
    congr 1
    simp only [HMM.out.2,Int.add_zero]
   have HL2:Hid (settleL (lastH ky Hs) false []=nzL [⟨6,x2,x4⟩,⟨8,x2,-x4⟩]):=by
    show _=_
    simp only [settleL,HLS.out,Bool.false_eq_true,if_false]
    exact lines2 (by decide)
   refine Out.yes HC.out ?_
   rw [HK2.out,HL2.out]
   exact Done.mk2 HF.out HO.out HB9.out HKa.out.size (Nat.le_trans HZ.out HZ9.out)
end Go.Proofs.YtccdhcempnkgaaaGreatDoor
