/- Texts of the verifier, joined: Xl, Xp, Xt. -/
import Derived.Test.YtccdhcempnkgaaaGreatDoorPL25
import Derived.Test.YtccdhcempnkgaaaGreatDoorPL19
import Derived.Test.YtccdhcempnkgaaaGreatDoorPL24
import Derived.Test.YtccdhcempnkgaaaGreatDoorPL1
import Derived.Test.YtccdhcempnkgaaaGreatDoorPL4
import Derived.Test.YtccdhcempnkgaaaGreatDoorPL2
namespace Go.Proofs.YtccdhcempnkgaaaGreatDoor
open Go.RowKit Go.Deep
set_option linter.unusedVariables false
set_option linter.unusedSimpArgs false
set_option maxRecDepth 10000
theorem takeC (L:List Chn) (i:Nat) (h:i≤L.length):(chs L).take (i*7)=chs (L.take i):=by
 have e:chs L=chs (L.take i)++chs (L.drop i):=by rw [← chs_append,List.take_append_drop]
 have hl:(chs (L.take i)).length=i*7:=by rw [chs_len,List.length_take,Nat.min_eq_left h]
 rw [e,← hl,List.take_left]
def delTo (C:List Chn) (i j:Nat):List Chn:=C.take i++((C.take j).drop (i+1)++C.drop (j-1))
theorem delTo_get (C:List Chn) (i j m:Nat) (hi:i < j) (hj:j≤C.length):(delTo C i j)[m]? = if m < i then C[m]? else if m+1 < j then C[m+1]? else C[m]?:=by
 unfold delTo
 by_cases h1:m < i
 ·rw [if_pos h1,List.getElem?_append_left (by rw [List.length_take];omega),List.getElem?_take,if_pos h1]
 ·rw [if_neg h1,List.getElem?_append_right (by rw [List.length_take];omega),List.length_take,Nat.min_eq_left (by omega)]
  by_cases h2:m+1 < j
  ·rw [if_pos h2,List.getElem?_append_left (by rw [List.length_drop,List.length_take];omega),List.getElem?_drop,List.getElem?_take,if_pos (by omega)]
   congr 1
   omega
  ·rw [if_neg h2,List.getElem?_append_right (by rw [List.length_drop,List.length_take];omega),List.length_drop,List.length_take,Nat.min_eq_left hj,List.getElem?_drop]
   congr 1
   omega
theorem delTo_len (C:List Chn) (i j:Nat) (hi:i < j) (hj:j≤C.length):(delTo C i j).length=C.length:=by
 unfold delTo
 simp only [List.length_append,List.length_take,List.length_drop]
 omega
theorem delTo_first (C:List Chn) (i:Nat) (hi:i < C.length):delTo C i (i+1)=C:=by
 apply List.ext_getElem?
 intro m
 rw [delTo_get C i (i+1) m (by omega) (by omega)]
 by_cases h1:m < i
 ·rw [if_pos h1]
 ·rw [if_neg h1,if_neg (by omega)]
theorem delTo_next (C:List Chn) (i j:Nat) (hi:i < j) (hj:j < C.length):(delTo C i j).set (j-1) C[j]=delTo C i (j+1):=by
 apply List.ext_getElem?
 intro m
 rw [List.getElem?_set,delTo_get C i j m hi (by omega),delTo_get C i (j+1) m (by omega) (by omega),delTo_len C i j hi (by omega)]
 by_cases h1:j-1=m
 ·rw [if_pos h1,if_pos (by omega),if_neg (by omega),if_pos (by omega),List.getElem?_eq_getElem (by omega)]
  congr 2
  omega
 ·rw [if_neg h1]
  by_cases h2:m < i
  ·rw [if_pos h2,if_pos h2]
  ·rw [if_neg h2,if_neg h2]
   by_cases h3:m+1 < j
   ·rw [if_pos h3,if_pos (by omega)]
   ·rw [if_neg h3,if_neg (by omega)]
theorem delTo_end (C:List Chn) (i:Nat) (hi:i < C.length):(delTo C i C.length).take (C.length-1)=C.eraseIdx i:=by
 unfold delTo
 rw [List.take_length,List.eraseIdx_eq_take_drop_succ,← List.append_assoc,List.take_append_of_le_length (by simp only [List.length_append,List.length_take,List.length_drop];omega),List.take_of_length_le (by simp only [List.length_append,List.length_take,List.length_drop];omega)]
theorem delTo_at (C:List Chn) (i j:Nat) (hi:i < j) (hj:j < C.length) (h':j < (delTo C i j).length):(delTo C i j)[j]=C[j]:=by
 have:=delTo_get C i j j hi (by omega)
 rw [if_neg (by omega),if_neg (by omega),List.getElem?_eq_getElem h',List.getElem?_eq_getElem hj] at this
 exact Option.some.inj this
set_option maxHeartbeats 8000000 in
theorem delf_impl (base g cap:Nat) (C:List Chn) (q:Nat) (ch:Int) (i:Nat) (hi:atC C ch=some i) (hu:∀ j (hj:j < C.length),i < j→C[j].id≠ch) (hl:C.length≤1048576) (w:World) (h:OwnsChan w base (.slice (some ⟨g,0,none⟩) C.length cap) C) (hq:w.cell? ⟨q,2,none⟩=some (.int .i64 ch)) (hqg:q≠g) (hbase:base≤w.heap.size) :
 Calls Tryz.prog 140 #[.slice (some ⟨g,0,none⟩) C.length cap,.func (.func 141) #[] #[.pointer (some ⟨q,0,none⟩)]] w fun e w'=>e=.returned (.slice (some ⟨g,0,none⟩) (C.eraseIdx i).length cap)∧OwnsChan w' base (.slice (some ⟨g,0,none⟩) (C.eraseIdx i).length cap) (C.eraseIdx i)∧w.grownBy w' (some g):=by
 obtain ⟨hil,hie⟩:=atC_lt hi
 have HI:=hide (idxC_impl (some ⟨g,0,none⟩) cap C q ch w (owns_any h) hl hq)
 rw [hi] at HI
 obtain ⟨hcap,hm⟩:=owns_cap h
 have HM:=hide hm
 have HU:=hide hu
 have HO:=hide h
 have HQ:=hide hq
 have HBs:=hide hbase
 have el:(C.eraseIdx i).length=C.length-1:=by rw [List.length_eraseIdx,if_pos hil]
 rw [el]
 have HEL:=hide el
 clear h hq hu hm hi hie el hbase
 have hneg:((i:Int)==-1)=false:=by simp
 go_enter Tryz.func140,Tryz.ntmps140
 go_wp2_with fail
 refine (unhide HI).mono ?_
 rintro e w1 ⟨rfl,hk1⟩
 simp only [idxI]
 have HS:Hid (OwnsChan w1 base (.slice (some ⟨g,0,none⟩) (delTo C i (i+1)).length cap) (delTo C i (i+1))∧w.grownBy w1 (some g)∧w1.cell? ⟨q,2,none⟩=some (.int .i64 ch)):=⟨by rw [delTo_first C i hil];exact owns_kept HO.out hk1,grown_keep hk1 _,hk1.cell HQ.out⟩
 clear hk1 HI HQ
 go_wp2_with fail
 go_loopw [5,6] (fun x y wr=>∃ m:Nat,i≤m∧m+1≤C.length∧x=.int .i64 (m:Int)∧y=.int .i64 ((m+1:Nat):Int)∧Hid (OwnsChan wr base (.slice (some ⟨g,0,none⟩) (delTo C i (m+1)).length cap) (delTo C i (m+1))∧w.grownBy wr (some g)∧wr.cell? ⟨q,2,none⟩=some (.int .i64 ch))) (fun _ y _=>C.length-(intOf y).toNat)
 case atStart=>exact ⟨i,by omega,by omega,by go_num,by go_num,HS⟩
 case round =>
  obtain ⟨m,him,hmn,rfl,rfl,HR⟩:=hrel
  have HDL:=hide (delTo_len C i (m+1) (by omega) hmn)
  by_cases hlt:m+1 < C.length
  ·have hj2:m+1 < (delTo C i (m+1)).length:=by rw [HDL.out];exact hlt
   have hm2:m < (delTo C i (m+1)).length:=by rw [HDL.out];omega
   obtain ⟨c0,c1,c2,c3,c4,c5,c6⟩:=HR.out.1.at (m+1) hj2
   rw [delTo_at C i (m+1) (by omega) hlt hj2] at c0 c1 c2 c3 c4 c5 c6
   have HX:=hide (HU.out (m+1) hlt (by omega))
   have HNX:=hide (delTo_next C i (m+1) (by omega) hlt)
   generalize C[m+1]=x at *
   obtain ⟨x0,x1,x2,x3,x4,x5,x6⟩:=x
   dsimp only at c0 c1 c2 c3 c4 c5 c6 HX
   have HKv:=hide (Keeps.alloc (Keeps.refl wr) (.cells #[.int .i64 x0,.int .i64 x1,.int .i64 x2,.int .i64 x3,.int .i64 x4,.int .i64 x5,.int .i64 x6] 78))
   have HV:=hide (rw7_new wr (.int .i64 x0) (.int .i64 x1) (.int .i64 x2) (.int .i64 x3) (.int .i64 x4) (.int .i64 x5) (.int .i64 x6) 78)
   have HVG:Hid (wr.heap.size≠g):=by have:=(HR.out.1.lt g rfl).2;show _≠_;omega
   obtain ⟨n,hn⟩:∃ n,n=C.length:=⟨_,rfl⟩
   have hbd:(m+1)*7+7≤C.length*7:=by omega
   go_upto_region 8 with fail
   generalize (wr.alloc (.cells #[.int .i64 x0,.int .i64 x1,.int .i64 x2,.int .i64 x3,.int .i64 x4,.int .i64 x5,.int .i64 x6] 78))=w2 at *
   replace HR:Hid (OwnsChan w2 base (.slice (some ⟨g,0,none⟩) (delTo C i (m+1)).length cap) (delTo C i (m+1))∧w.grownBy w2 (some g)∧w2.cell? ⟨q,2,none⟩=some (.int .i64 ch)):=⟨owns_kept HR.out.1 HKv.out,HR.out.2.1.trans (grown_keep HKv.out _),HKv.out.cell HR.out.2.2⟩
   generalize wr.heap.size=bv at *
   clear c0 c1 c2 c3 c4 c5 c6 HKv
   obtain ⟨v0,v1,v2,v3,v4,v5,v6⟩:=rw7_cells HV.out
   go_wp2_with fail
   refine (idC_impl ⟨x0,x1,x2,x3,x4,x5,x6⟩ q ch _ HR.out.2.2).mono ?_
   rintro e w3 ⟨rfl,hk3⟩
   have hd:decide (x0=ch)=false:=decide_eq_false HX.out
   dsimp only
   rw [hd]
   replace HR:Hid (OwnsChan w3 base (.slice (some ⟨g,0,none⟩) (delTo C i (m+1)).length cap) (delTo C i (m+1))∧w.grownBy w3 (some g)∧w3.cell? ⟨q,2,none⟩=some (.int .i64 ch)):=⟨owns_kept HR.out.1 hk3,HR.out.2.1.trans (grown_keep hk3 _),hk3.cell HR.out.2.2⟩
   replace HV:=hide (hk3.rowK HV.out)
   clear hk3 v0 v1 v2 v3 v4 v5 v6 hd
   obtain ⟨v0,v1,v2,v3,v4,v5,v6⟩:=rw7_cells HV.out
   obtain ⟨y0,y1,y2,y3,y4,y5,y6⟩:=HR.out.1.at m hm2
   have HPC:=hide (put_chan HR.out.1 m hm2 ⟨x0,x1,x2,x3,x4,x5,x6⟩)
   have hfz:=HR.out.1.frz
   have f0:=hfz (m*7)
   have f1:=hfz (m*7+1)
   have f2:=hfz (m*7+2)
   have f3:=hfz (m*7+3)
   have f4:=hfz (m*7+4)
   have f5:=hfz (m*7+5)
   have f6:=hfz (m*7+6)
   clear hfz
   have hbv:=HVG.out
   have HNW:=hide (fun wx (hg:w3.grownBy wx (some g))=>World.grownBy.cell hg HR.out.2.2 (fun e=>hqg (Option.some.inj e)))
   go_upto_region 10 with fail
   dsimp only at HPC
   generalize World.setCell _ ⟨g,m*7+6,none⟩ _=w4 at *
   clear y0 y1 y2 y3 y4 y5 y6 v0 v1 v2 v3 v4 v5 v6 f0 f1 f2 f3 f4 f5 f6
   go_wp2_with fail
   go_roundw
   case rel =>
    refine ⟨m+1,by omega,by omega,by go_num,by go_num,⟨?_,HR.out.2.1.trans HPC.out.2,HNW.out w4 HPC.out.2⟩⟩
    have e:(delTo C i (m+1)).set m ⟨x0,x1,x2,x3,x4,x5,x6⟩=delTo C i (m+1+1):=HNX.out
    rw [← e]
    exact HPC.out.1
   case measure=>simp [intOf];omega
  ·have HMC:Hid (C.length=m+1):=by show _=_;omega
   have hcm:C.length-m=1:=by omega
   have hle:m≤C.length:=by omega
   have hmcap:m < cap:=by omega
   have hne:¬ cap=m:=by omega
   have hle2:m≤cap:=by omega
   have h2:=owns_cells HR.out.1 [.int .i64 0,.int .i64 0,.int .i64 0,.int .i64 0,.int .i64 0,.int .i64 0,.int .i64 0] (m*7)
   have hcl:∀ ty,(Builtin.clear_ #[30] ty #[.slice (some ⟨g,m*7,none⟩) 1 (cap-m)]).run Tryz.prog wr=.ok (.tuple #[]) (wr.setCells g (m*7) [.int .i64 0,.int .i64 0,.int .i64 0,.int .i64 0,.int .i64 0,.int .i64 0,.int .i64 0]):=fun ty =>
    run_clear_one wr _ _ ty _ underChans Tryz.zeroValue78 [.int .i64 0,.int .i64 0,.int .i64 0,.int .i64 0,.int .i64 0,.int .i64 0,.int .i64 0] rfl (by intro v hv;simp at hv;subst hv;rfl) g (m*7) (cap-m)
     (fun j hj=>by
       have hj':j < 7:=by simpa using hj
       have:=HR.out.1.cellAt (m*7+j) (by rw [HDL.out,HMC.out];omega)
       rw [this,List.getElem?_eq_getElem (by rw [chs_len,HDL.out,HMC.out];omega)];rfl) (fun j hj=>HR.out.1.frozenAt _)
   have HF:Hid (OwnsChan (wr.setCells g (m*7) [.int .i64 0,.int .i64 0,.int .i64 0,.int .i64 0,.int .i64 0,.int .i64 0,.int .i64 0]) base (.slice (some ⟨g,0,none⟩) (C.length-1) cap) (C.eraseIdx i)):=by
    have h3:=owns_cut h2.1 (m:=(C.eraseIdx i).length) (by rw [HEL.out,HDL.out];omega)
    have em:(C.eraseIdx i).length=m:=by rw [HEL.out,HMC.out];rfl
    have e:(setL (chs (delTo C i (m+1))) (m*7) [.int .i64 0,.int .i64 0,.int .i64 0,.int .i64 0,.int .i64 0,.int .i64 0,.int .i64 0]).take ((C.eraseIdx i).length*7)=chs (C.eraseIdx i):=by
     have hd:=delTo_end C i hil
     rw [HMC.out] at hd
     rw [em,setL_take _ _ _ _ (Nat.le_refl _),takeC _ m (by rw [HDL.out];omega)]
     exact congrArg chs hd
    rw [e,HEL.out] at h3
    show World.ownsRow _ _ _ _ _ _ _
    rw [HEL.out]
    exact h3
   have HG:Hid (w.grownBy (wr.setCells g (m*7) [.int .i64 0,.int .i64 0,.int .i64 0,.int .i64 0,.int .i64 0,.int .i64 0,.int .i64 0]) (some g)):=HR.out.2.1.trans h2.2
   clear h2 HR HS HO hlt hcm
   have hcm:C.length-m=1:=by have:=HMC.out;omega
   have hnlt:decide (((m+1:Nat):Int) < (C.length:Int))=false:=by have:=HMC.out;simp;omega
   go_wp2_with fail
   go_ret
   exact ⟨by rw [HMC.out];rfl,HF.out,HG.out⟩
end Go.Proofs.YtccdhcempnkgaaaGreatDoor
namespace Go.Proofs.YtccdhcempnkgaaaGreatDoor
open Go.RowKit Go.Deep
set_option linter.unusedVariables false
set_option linter.unusedSimpArgs false
set_option maxRecDepth 10000
theorem cutC_erase {C:List Chn} {ch:Int} {i:Nat} (hids:C.Pairwise (fun x y=>x.id < y.id)) (hat:atC C ch=some i) (hi:i < C.length):cutC C ch=C.eraseIdx i:=by
 obtain ⟨_,hid⟩:=atC_lt hat
 have e:C=C.take i++C[i] :: C.drop (i+1):=by rw [← List.drop_eq_getElem_cons hi,List.take_append_drop]
 have hp:=List.pairwise_iff_getElem.1 hids
 have h1:∀ x∈C.take i,decide (x.id≠ch)=true:=by
  intro x hx
  obtain ⟨j,hj,rfl⟩:=List.getElem_of_mem hx
  rw [List.length_take] at hj
  have:=hp j i (by omega) hi (by omega)
  simp only [List.getElem_take,decide_eq_true_eq]
  omega
 have h2:∀ x∈C.drop (i+1),decide (x.id≠ch)=true:=by
  intro x hx
  obtain ⟨j,hj,rfl⟩:=List.getElem_of_mem hx
  rw [List.length_drop] at hj
  have:=hp i (i+1+j) hi (by omega) (by omega)
  simp only [List.getElem_drop,decide_eq_true_eq]
  omega
 unfold cutC
 conv=>lhs;rw [e]
 rw [List.filter_append,List.filter_cons,if_neg (by simpa using hid),List.filter_eq_self.2 h1,List.filter_eq_self.2 h2,List.eraseIdx_eq_take_drop_succ]
set_option maxHeartbeats 8000000 in
theorem close_impl (W:Wf) (w:World) (p:Nat) (tk nx wa:Int) (ca:Option Addr) (cc:Nat) (C:List Chn) (ha:Option Addr) (hc:Nat) (Hs:List Htl) (ra:Option Addr) (rc:Nat) (R:List Crc) (h:BoAt W w p ⟨tk,nx,wa,ca,cc,C,ha,hc,Hs,ra,rc,R⟩) (kd ky ch tt am fe:Int) (ys:Bool) (hlc:C.length≤20) (hids:C.Pairwise (fun x y=>x.id < y.id)) (hl:Bo.len ⟨tk,nx,wa,ca,cc,C,ha,hc,Hs,ra,rc,R⟩) (hsm:Small ⟨tk,nx,wa,C,Hs,R⟩) (hin:0≤outV ⟨tk,nx,wa,C,Hs,R⟩ ch∧outV ⟨tk,nx,wa,C,Hs,R⟩ ch≤1152921504606846976) (hin2:0≤inV ⟨tk,nx,wa,C,Hs,R⟩ ch∧inV ⟨tk,nx,wa,C,Hs,R⟩ ch≤1152921504606846976) (hbz:decide (0 < outV ⟨tk,nx,wa,C,Hs,R⟩ ch+inV ⟨tk,nx,wa,C,Hs,R⟩ ch)=busyB Hs R ch) (hwa:0≤wa∧wa≤1125899906842624) (hfe:0≤fe∧fe≤1125899906842624) (hlo:∀ c∈C,0≤c.lo∧c.lo≤1125899906842624) :
 Calls Tryz.prog 119 #[.pointer (some ⟨p,0,none⟩),evV kd ky ch tt am fe ys] w fun e w'=>Out W w w' p (closeC ⟨tk,nx,wa,C,Hs,R⟩ ch fe) ⟨tk,nx,wa,C,Hs,R⟩ (closeB ⟨tk,nx,wa,C,Hs,R⟩ ch fe) (closeL ⟨tk,nx,wa,C,Hs,R⟩ ch fe []) e:=by
 cases hat:atC C ch with
 | none =>
   have hpl:placeC ca (atC C ch)=none:=by rw [hat,placeC_none]
   have HC:Hid (closeC ⟨tk,nx,wa,C,Hs,R⟩ ch fe=6):=by show _=_;simp [closeC,hat]
   clear hids hl hsm hin hin2 hbz hlo
   have HKe:=hide (Keeps.alloc (Keeps.refl w) (.cells (evCells kd ky ch tt am fe ys) 41))
   have HRe:=hide (rw7_new w (.int .i64 kd) (.int .i64 ky) (.int .i64 ch) (.int .i64 tt) (.int .i64 am) (.int .i64 fe) (.bool ys) 41)
   have HB:=hide (h.kept HKe.out)
   have HSZ:=hide (Nat.le_refl w.heap.size)
   have HPS:=hide h.row.lt
   have HAE:=hide (h.apart (Nat.le_refl w.heap.size))
   clear h hat
   go_enter Tryz.func119,Tryz.ntmps119
   go_upto_region 1 with fail
   obtain ⟨pe,hpe⟩:∃ pe,pe=w.heap.size:=⟨_,rfl⟩
   rw [← hpe] at HRe HAE
   try rw [← hpe]
   have HPE:=hide hpe
   clear hpe
   generalize (w.alloc (.cells #[.int .i64 kd,.int .i64 ky,.int .i64 ch,.int .i64 tt,.int .i64 am,.int .i64 fe,.bool ys] 41))=w0 at *
   have HZ:=hide HKe.out.size
   clear HKe
   obtain ⟨-,-,e2,-,-,-,-⟩:=rw7_cells HRe.out
   go_wp2_with fail
   refine (chanw p ca cc C ch w0 HB.out.cells.2.2.2.1 (Bo.memC HB.out.mem) (Nat.le_trans hlc (by decide)) hpl).mono ?_
   rintro e w1 ⟨rfl,hk⟩
   replace HB:=hide (HB.out.kept hk)
   replace HRe:=hide (hk.rowK HRe.out)
   replace HZ:=hide (Nat.le_trans HZ.out hk.size)
   clear hk
   go_wp2_with fail
   go_ret2
   exact Out.no HC.out (by decide) HB.out
 | some i =>
   obtain ⟨hi,hid⟩:=atC_lt hat
   obtain ⟨g,rfl⟩:∃ g,ca=some ⟨g,0,none⟩:=by
    obtain ⟨g,cap,e,-⟩:=h.oC.form (show 0 < C.length by omega)
    injection e with e _ _
    exact ⟨g,e⟩
   have HU:=hide (fun w' (hb:BookAt w' p ⟨tk,nx,wa,some ⟨g,0,none⟩,cc,C,ha,hc,Hs,ra,rc,R⟩) (hm:Mem w' (Bo.segs ⟨tk,nx,wa,some ⟨g,0,none⟩,cc,C,ha,hc,Hs,ra,rc,R⟩))=>inUse_impl p ⟨tk,nx,wa,some ⟨g,0,none⟩,cc,C,ha,hc,Hs,ra,rc,R⟩ ch w' hb hm hl hsm hin hin2)
   rw [show Bo.d ⟨tk,nx,wa,some ⟨g,0,none⟩,cc,C,ha,hc,Hs,ra,rc,R⟩=⟨tk,nx,wa,C,Hs,R⟩ from rfl,hbz] at HU
   clear hl hsm hin hin2 hbz
   have hpl:placeC (some ⟨g,0,none⟩) (atC C ch)=some ⟨g,i*7,none⟩:=by rw [hat];simp [placeC]
   have HLO:Hid (loC C ch=C[i].lo):=loC_at hat hi
   have HL:=hide (hlo _ (List.getElem_mem hi))
   have HUN:Hid (∀ j (hj:j < C.length),i < j→C[j].id≠ch):=fun j hj hij=>by
    have:=(List.pairwise_iff_getElem.1 hids) i j hi hj hij
    rw [hid] at this
    omega
   have HCT:Hid (cutC C ch=C.eraseIdx i):=cutC_erase hids hat hi
   have HAT:=hide hat
   obtain ⟨lo,hlo1⟩:∃ lo,lo=C[i].lo:=⟨_,rfl⟩
   rw [← hlo1] at HLO HL
   have HLE:=hide hlo1
   clear hlo1 hlo hids hid
   have HC:Hid (closeC ⟨tk,nx,wa,C,Hs,R⟩ ch fe=if busyB Hs R ch=true then 7 else if lo < fe then 8 else 0):=by show _=_;simp [closeC,hat,HLO.out]
   clear hat
   have HKe:=hide (Keeps.alloc (Keeps.refl w) (.cells (evCells kd ky ch tt am fe ys) 41))
   have HRe:=hide (rw7_new w (.int .i64 kd) (.int .i64 ky) (.int .i64 ch) (.int .i64 tt) (.int .i64 am) (.int .i64 fe) (.bool ys) 41)
   have HB:=hide (h.kept HKe.out)
   have HSZ:=hide (Nat.le_refl w.heap.size)
   have HPS:=hide h.row.lt
   have HAE:=hide (h.apart (Nat.le_refl w.heap.size))
   clear h
   go_enter Tryz.func119,Tryz.ntmps119
   go_upto_region 1 with fail
   obtain ⟨pe,hpe⟩:∃ pe,pe=w.heap.size:=⟨_,rfl⟩
   rw [← hpe] at HRe HAE
   try rw [← hpe]
   have HPE:=hide hpe
   clear hpe
   generalize (w.alloc (.cells #[.int .i64 kd,.int .i64 ky,.int .i64 ch,.int .i64 tt,.int .i64 am,.int .i64 fe,.bool ys] 41))=w0 at *
   have HZ:=hide HKe.out.size
   clear HKe
   obtain ⟨-,-,e2,-,-,-,-⟩:=rw7_cells HRe.out
   go_wp2_with fail
   refine (chanw p _ cc C ch w0 HB.out.cells.2.2.2.1 (Bo.memC HB.out.mem) (Nat.le_trans hlc (by decide)) hpl).mono ?_
   rintro e w1 ⟨rfl,hk⟩
   replace HB:=hide (HB.out.kept hk)
   replace HRe:=hide (hk.rowK HRe.out)
   replace HZ:=hide (Nat.le_trans HZ.out hk.size)
   clear hk
   clear e2 hpl
   obtain ⟨-,-,e2,-,-,-,-⟩:=rw7_cells HRe.out
   go_wp2_with fail
   refine (unhide HU _ HB.out.cells HB.out.mem).mono ?_
   rintro e w2 ⟨rfl,hk⟩
   replace HB:=hide (HB.out.kept hk)
   replace HRe:=hide (hk.rowK HRe.out)
   replace HZ:=hide (Nat.le_trans HZ.out hk.size)
   clear hk
   clear HU e2
   cases hbs:busyB Hs R ch with
   | true =>
     replace HC:Hid (closeC ⟨tk,nx,wa,C,Hs,R⟩ ch fe=7):=by show _=_;rw [HC.out,hbs];rfl
     clear hbs
     go_wp2_with fail
     go_ret2
     exact Out.no HC.out (by decide) HB.out
   | false =>
     rw [hbs] at HC
     clear hbs
     obtain ⟨-,-,e2,-,-,e5,-⟩:=rw7_cells HRe.out
     obtain ⟨-,-,y2,-,-,-,-⟩:=HB.out.oC.at i hi
     rw [← HLE.out] at y2
     go_upto_region 6 with fail
     by_cases hf:lo < fe
     ·replace HC:Hid (closeC ⟨tk,nx,wa,C,Hs,R⟩ ch fe=8):=by show _=_;rw [HC.out,if_neg (by decide),if_pos hf]
      have hd:decide (lo < fe)=true:=decide_eq_true hf
      go_region
      replace HB:=hide (HB.out.kept (Keeps.refl _).drew)
      generalize World.drew _=w3 at *
      go_wp2_with fail
      go_ret2
      exact Out.no HC.out (by decide) HB.out
     replace HC:Hid (closeC ⟨tk,nx,wa,C,Hs,R⟩ ch fe=0):=by show _=_;rw [HC.out,if_neg (by decide),if_neg hf]
     have hd:decide (lo < fe)=false:=decide_eq_false hf
     go_region
     replace HB:=hide (HB.out.kept (Keeps.refl _).drew)
     replace HRe:=hide (HRe.out.drew)
     replace HZ:Hid (w.heap.size≤(w2.drew).heap.size):=HZ.out
     generalize World.drew _=w3 at *
     clear e2 e5 y2 hd
     obtain ⟨-,-,e2,-,-,e5,-⟩:=rw7_cells HRe.out
     obtain ⟨-,-,y2,-,-,-,-⟩:=HB.out.oC.at i hi
     rw [← HLE.out] at y2
     have b2:=HB.out.cells.2.2.1
     have f2:=HB.out.row.frozen 2
     dsimp only at b2
     have hll:=HL.out
     have hw1:IntKind.i64.wrap (lo-fe)=lo-fe:=by rw [IntKind.wrap_i64];omega
     have hw2:IntKind.i64.wrap (wa+(lo-fe))=wa+(lo-fe):=by rw [IntKind.wrap_i64];omega
     have hw3:IntKind.i64.wrap (-lo)=-lo:=by rw [IntKind.wrap_i64];omega
     have hpp:pe≠p:=HAE.out.1
     have hpg:pe≠g:=fun e=>HAE.out.2.1 (by simp [lb,e])
     go_upto_region 9 with fail
     have HB1:=hide (((HB.out.setWa (wa+(lo-fe))).kept (Keeps.refl _).drew))
     have HR1:=hide ((row_turn HRe.out (Turn.set (fs:=[p]) (a:=⟨p,2,none⟩) (by simp) (.int .i64 (wa+(lo-fe)))) (by simpa using hpp)).drew)
     have HZ1:Hid (w.heap.size≤((w3.setCell ⟨p,2,none⟩ (.int .i64 (wa+(lo-fe)))).drew).heap.size):=by show _≤_;have:=HZ.out;simpa using this
     go_region
     generalize (w3.setCell ⟨p,2,none⟩ (.int .i64 (wa+(lo-fe)))).drew=w4 at *
     replace HB:=HB1
     replace HRe:=HR1
     replace HZ:=HZ1
     clear HB1 HR1 HZ1 e2 e5 y2 b2 f2
     obtain ⟨-,-,e2,-,-,e5,-⟩:=rw7_cells HRe.out
     have b3:=HB.out.cells.2.2.2.1
     dsimp only at b3
     go_wp2_with fail
     refine (delf_impl 0 g cc C pe ch i HAT.out HUN.out (Nat.le_trans hlc (by decide)) w4 HB.out.oC e2 hpg (Nat.zero_le _)).mono ?_
     rintro e w5 ⟨rfl,ho,hgr⟩
     have HN:=hide (HB.out.newC (grown_turn hgr) ho (fun q hq=>Or.inl hq))
     have HT5:Hid (Turn [p,g] w4 (w5.setCell ⟨p,3,none⟩ (.slice (some ⟨g,0,none⟩) (C.eraseIdx i).length cc))):=((grown_turn hgr).mono (by simp)).trans' (Turn.set (by simp) _)
     replace HRe:=hide (row_turn HRe.out HT5.out (by simp;exact ⟨hpp,hpg⟩))
     replace HZ:=hide (Nat.le_trans HZ.out HT5.out.size)
     have d3:=HN.out.2.cell (i:=3) (by decide)
     have g3:=HN.out.2.frozen 3
     have l3:=HN.out.2.lt
     replace HB:=hide HN.out.1
     clear HN ho hgr b3 e2 e5 HT5
     generalize hne:(C.eraseIdx i).length=n1 at d3 g3 HRe HZ HB ⊢
     go_upto_region 11 with fail
     generalize w5.setCell ⟨p,3,none⟩ (.slice (some ⟨g,0,none⟩) n1 cc)=w6 at *
     clear d3 g3 l3
     obtain ⟨-,-,e2,-,-,e5,-⟩:=rw7_cells HRe.out
     have G0:=gr_cell e2
     have G1:=gr_cell e5
     clear e2 e5
     refine wp_region_app [.h,.h,.h,.h,.h,.h,.h,.h,.h,.h,.h,.h,.h,.b,.t,.t,.t] (by kernel_rfl) (by kernel_rfl) rfl rfl rfl rfl rfl rfl rfl (fun _ _ d _ _ h=>by cases d <;> exact h) ?_
     simp only [pkU,pkF,pkH,pkT,pkB]
     refine wpUni_nil ?_
     refine wpFlo_nil ?_
     repeat (go_big_quiet_step (first | (go_at_call 135;exact gr_call (hubLine_impl _ _ _)) | (go_at_call 138;exact gr_call (chanLine_impl _ _ _ _))))
     refine wpQuiet_nil ?_
     refine ⟨rfl,?_⟩
     rintro w9 ⟨t9,rfl⟩ K9 hK9
     go_simp
     refine hK9.out _ _ (gr_gr (Keeps.alloc (Keeps.refl _) _)) ?_
     clear hK9 K9
     have HB9:=hide (HB.out.kept (gr_keeps w6 t9))
     have HZ9:=hide (gr_keeps w6 t9).size
     have HZ8:=hide HB.out.row.lt
     generalize gr w6 t9=W9 at *
     have HKa:=hide (Keeps.alloc (Keeps.refl W9) (.cells #[.int .i64 1,.int .i64 0,.int .i64 (lo-fe),.int .i64 5,.int .i64 0,.int .i64 fe,.int .i64 6,.int .i64 ch,.int .i64 (-lo)] 104))
     have HG:=hide (gath_impl (some ⟨W9.heap.size,0,none⟩) 3 [⟨1,0,lo-fe⟩,⟨5,0,fe⟩,⟨6,ch,-lo⟩] _ (lines_new3 W9 ⟨1,0,lo-fe⟩ ⟨5,0,fe⟩ ⟨6,ch,-lo⟩) (by simp) (by simp [lessB]))
     clear G0 G1 HRe
     go_wp2_with fail
     refine (unhide HG).mono ?_
     rintro e w' ⟨v,rfl,ho,hk⟩
     have HF:=hide (HB9.out.kept (HKa.out.trans hk))
     have HO:=hide ho
     clear ho hk HG HB
     go_wp2_with fail
     go_ret2
     have HK2:Hid (closeB ⟨tk,nx,wa,C,Hs,R⟩ ch fe=⟨tk,nx,wa+(lo-fe),C.eraseIdx i,Hs,R⟩):=by show _=_;simp only [closeB,HLO.out,HCT.out];congr 1;omega
     have HL2:Hid (closeL ⟨tk,nx,wa,C,Hs,R⟩ ch fe []=nzL [⟨1,0,lo-fe⟩,⟨5,0,fe⟩,⟨6,ch,-lo⟩]):=by show _=_;simp only [closeL,HLO.out];exact lines3 (by decide) (by decide)
     refine Out.yes HC.out ?_
     rw [HK2.out,HL2.out]
     exact Done.mk2 HF.out HO.out HB9.out HKa.out.size (Nat.le_trans HZ.out HZ9.out)
end Go.Proofs.YtccdhcempnkgaaaGreatDoor
namespace Go.Proofs.YtccdhcempnkgaaaGreatDoor
open Go.RowKit Go.Shelf Go.Lib Go.Sort
set_option linter.unusedVariables false
instance:Inhabited Chn:=⟨⟨0,0,0,0,0,0,0⟩⟩
def cfC (x y:Chn):Int:=cmpI x.id y.id
theorem ltC (x y:Chn):ltOf cfC x y=decide (x.id < y.id):=by
 unfold ltOf cfC cmpI
 by_cases h:x.id < y.id
 ·simp [h]
 ·by_cases h2:y.id < x.id <;> simp [h,h2]
theorem swoC:SWO (ltOf cfC) where
 irrefl x:=by rw [ltC];simp
 trans x y z h1 h2:=by rw [ltC] at *;simp at *;omega
 ntrans x y z h1 h2:=by rw [ltC] at *;simp at *;omega
set_option maxHeartbeats 1000000 in
theorem cmpc_impl (x y:Chn) (W:World):Calls Tryz.prog 137 #[chV x,chV y] W fun e w'=>e=.returned (.int .i64 (cfC x y))∧∃ q os',w'=grow (W.drewN q) os':=by
 obtain ⟨x0,x1,x2,x3,x4,x5,x6⟩:=x
 obtain ⟨y0,y1,y2,y3,y4,y5,y6⟩:=y
 have HC:=hide (fun w1=>cmp_lib x0 y0 w1)
 have HV:Hid (cfC ⟨x0,x1,x2,x3,x4,x5,x6⟩ ⟨y0,y1,y2,y3,y4,y5,y6⟩=cmpI x0 y0):=rfl
 generalize cmpI x0 y0=r at *
 go_enter Tryz.func137,Tryz.ntmps137
 go_wp2_with fail
 refine (unhide HC _).mono ?_
 rintro e w1 ⟨rfl,rfl⟩
 go_wp2_with fail
 go_ret
 exact ⟨by rw [HV.out];rfl,0,_,by rw [alloc_eq_grow,alloc_eq_grow,grow_grow];rfl⟩
theorem flatK_atC (C:List Chn) (t:Nat) (h:t < C.length*7):(flatK Chn.cells 7 C.toArray)[t]! = (chs C)[t]'(by rw [chs_len];omega):=by
 rw [get_flatK _ _ _ _ (by simpa using h)]
 have hi:t / 7 < C.length:=by omega
 have e:C.toArray[t / 7]! = C[t / 7]:=by simp [hi]
 rw [e]
 have g:=flatMap_at (f:=Chn.cells) (sz:=7) (fun _=>rfl) C (t / 7) hi (t % 7) (by omega)
 have et:t / 7*7+t % 7=t:=by omega
 rw [et] at g
 have hl:t < (chs C).length:=by rw [chs_len];omega
 have g2:(chs C)[t]? = (Chn.cells C[t / 7])[t % 7]?:=g
 rw [List.getElem?_eq_getElem hl] at g2
 rw [List.getElem!_eq_getElem?_getD,← g2];rfl
def SortedC (g:Nat) (C:List Chn) (w w':World):Prop:=∃ C':List Chn,C'.Perm C∧C'.Pairwise (fun x y=>decide (y.id < x.id)=false)∧(∀ j (h:j < (chs C').length),w'.cell? ⟨g,j,none⟩=some (chs C')[j])∧(∀ j,w'.frozen? ⟨g,j,none⟩=w.frozen? ⟨g,j,none⟩)∧w.grownBy w' (some g)∧(∀ cur e fr,w.heap[g]? = some (.cells cur e fr)→∃ cur',w'.heap[g]? = some (.cells cur' e fr)∧cur'.size=cur.size)
theorem grown_sortC (w:World) (g m:Nat) (d:Array Chn) (os:Array Obj):w.grownBy (sortWorldK Chn.cells 7 w g 0 m d os) (some g):=by
 refine ⟨rfl,rfl,rfl,size_sortWorldK_c _ _ _ _ _ _ _ _,fun k hk hne=>?_⟩
 have hkg:g≠k:=fun e=>hne (by rw [e])
 show ((w.heap.modify g _)++os)[k]? = _
 rw [Array.getElem?_append_left (by simpa using hk),Array.getElem?_modify,if_neg hkg]
theorem frozen_sortC (w:World) (g m:Nat) (d:Array Chn) (os:Array Obj) (hlt:g < w.heap.size) (j:Nat):(sortWorldK Chn.cells 7 w g 0 m d os).frozen? ⟨g,j,none⟩=w.frozen? ⟨g,j,none⟩:=by
 have e:(sortWorldK Chn.cells 7 w g 0 m d os).heap=w.heap.modify g _++os:=rfl
 unfold World.frozen?
 rw [e]
 rw [Array.getElem?_append_left (by simpa using hlt),Array.getElem?_modify,if_pos rfl]
 cases h:w.heap[g]? with
 | none=>simp
 | some o=>cases o <;> simp [onCells]
theorem block_sortC (w:World) (g m:Nat) (d:Array Chn) (os:Array Obj) (cur:Array Value) (e:TypeId) (fr:Nat × Nat) (h:w.heap[g]? = some (.cells cur e fr)):∃ cur',(sortWorldK Chn.cells 7 w g 0 m d os).heap[g]? = some (.cells cur' e fr)∧cur'.size=cur.size:=by
 have hlt:=(Array.getElem?_eq_some_iff.1 h).1
 have e1:(sortWorldK Chn.cells 7 w g 0 m d os).heap=w.heap.modify g _++os:=rfl
 rw [e1,Array.getElem?_append_left (by simpa using hlt),Array.getElem?_modify,if_pos rfl,h]
 exact ⟨_,rfl,by simp [putCells]⟩
set_option maxHeartbeats 1000000 in
theorem sort_chans (g cap:Nat) (C:List Chn) (w:World) (hc:∀ j (h:j < (chs C).length),w.cell? ⟨g,j,none⟩=some (chs C)[j]) (hf:∀ j,w.frozen? ⟨g,j,none⟩=false) (hlt:g < w.heap.size) (hn:C.length≤1048576) :
 Calls Tryz.prog 136 #[.slice (some ⟨g,0,none⟩) C.length cap,.func (.func 137) #[] #[]] w fun e w'=>e=.returned (.tuple #[])∧SortedC g C w w':=by
 have eg:∀ args w,(callFunc 137 args).run Tryz.prog w=.ok (.enter 137 args) w:=enters_of Tryz.func137 (by kernel_rfl) rfl
 have hH:HoldsK Chn.cells 7 w g 0 C.toArray:=by
  intro j hj
  rw [size_flatK] at hj
  have hj':j < C.length*7:=by simpa using hj
  rw [Nat.zero_add]
  refine ⟨?_,hf j⟩
  rw [hc j (by rw [chs_len];omega),flatK_atC C j hj'];rfl
 have hcmp:CmpLays Tryz.prog 137 #[] Chn.cells 7 cfC g 0 C.toArray.size w:=fun m os dk _ x y=>cmpc_impl x y _
 have hcon:=AnyQ.slices_SortFunc Tryz.sortCh 7 Tryz.isAgg78 Tryz.sizeOf78 Chn.cells (fun _=>rfl) (fun x v hv=>by simp [Chn.cells] at hv;rcases hv with rfl | rfl | rfl | rfl | rfl | rfl | rfl <;> rfl) cfC swoC 137 #[] g 0 cap C.toArray w eg hcmp hH hlt (by simp;omega)
 change Calls Tryz.prog 136 _ _ _ at hcon
 have es:C.toArray.size=C.length:=by simp
 rw [es] at hcon
 refine hcon.mono ?_
 rintro e w' ⟨rfl,d',n,os,hp,hs,rfl⟩
 obtain ⟨hp1,_,hp3⟩:=hp
 have hsz:d'.size=C.length:=by simpa using hp1
 have hperm:d'.toList.Perm C:=by
  have h1:d'.extract 0 C.length=d':=by rw [← hsz];simp
  have h2:C.toArray.extract 0 C.length=C.toArray:=by simp
  rw [h1,h2] at hp3
  simpa using hp3
 refine ⟨rfl,d'.toList,hperm,?_,?_,fun j=>frozen_sortC _ _ _ _ _ hlt j,grown_sortC _ _ _ _ _,fun cur e fr h=>block_sortC _ _ _ _ _ cur e fr h⟩
 ·rw [List.pairwise_iff_getElem]
  intro i j hi hj hij
  have:=hs i j (Nat.zero_le _) hij (by simp at hj ⊢;omega)
  rw [ltC] at this
  simp at hi hj
  simpa [hi,hj] using this
 ·intro j hj
  have hH2:=holdsK_sortWorldK_c Chn.cells 7 w g 0 C.toArray d' n os hH hlt (by simpa using hsz)
  have hj3:j < d'.toList.length*7:=by rw [chs_len] at hj;omega
  have:=(hH2 j (by rw [size_flatK];simpa using hj3)).1
  rw [Nat.zero_add] at this
  rw [this]
  have:=flatK_atC d'.toList j hj3
  simp only [Array.toArray_toList] at this
  rw [this];rfl
theorem owns_sortedC {base g cap:Nat} {C C':List Chn} {w w':World} (h:w.ownsRow base 78 7 (.slice (some ⟨g,0,none⟩) C.length cap) C.length (chs C)) (hl:C'.length=C.length) (hc:∀ j (h:j < (chs C').length),w'.cell? ⟨g,j,none⟩=some (chs C')[j]) (hb:∀ cur e fr,w.heap[g]? = some (.cells cur e fr)→∃ cur',w'.heap[g]? = some (.cells cur' e fr)∧cur'.size=cur.size) :
 w'.ownsRow base 78 7 (.slice (some ⟨g,0,none⟩) C'.length cap) C'.length (chs C'):=by
 refine ⟨by first | (rw [chs_len];done) | (rw [chs_len];omega),?_⟩
 rcases h.2 with ⟨h',_⟩ | ⟨g',cap',cur,h',b1,b2,b3,b4,b5,b6⟩
 ·simp at h'
 ·injection h' with e1 _ e3
  injection e1 with e1
  injection e1 with e1
  subst e1 e3
  obtain ⟨cur',k1,k2⟩:=hb _ _ _ b2
  refine .inr ⟨g,cap,cur',rfl,b1,k1,by omega,b4,by omega,?_⟩
  apply List.ext_getElem?
  intro j
  by_cases hj:j < (chs C').length
  ·have hj2:=hj
   rw [chs_len] at hj2
   rw [List.getElem?_take,if_pos (by omega),List.getElem?_eq_getElem hj,← hc j hj]
   simp [World.cell?,k1]
  ·have hj2:=hj
   rw [chs_len] at hj2
   rw [List.getElem?_eq_none (by rw [List.length_take];omega),List.getElem?_eq_none (by omega)]
end Go.Proofs.YtccdhcempnkgaaaGreatDoor
