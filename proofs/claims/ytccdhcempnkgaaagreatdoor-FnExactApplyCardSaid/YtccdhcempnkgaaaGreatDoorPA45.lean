/- Texts of the verifier, joined: BgO, BmB, EvR. -/
import Derived.Test.YtccdhcempnkgaaaGreatDoorPA44
import Derived.Deep.RegionHeld3
import Derived.ChangeSame
import Derived.WideShapes
import Derived.Below
import Derived.Test.YtccdhcempnkgaaaGreatDoorPA5
import Derived.Test.YtccdhcempnkgaaaGreatDoorPA7
import Derived.Test.YtccdhcempnkgaaaGreatDoorPA8
import Derived.Deep.Cut
import Derived.Test.YtccdhcempnkgaaaGreatDoorPA23
namespace Go.Proofs.YtccdhcempnkgaaaGreatDoor
open Go.RowKit Go.ChangeShapes Go.WideShapes Go.Deep
set_option linter.unusedVariables false
set_option maxRecDepth 100000
section
variable {H:Type} {enc:TypeId × Value→H} {W:World} {n:Nat} {cs:List Value} {y:DataW H × List MemPlace} {base:Nat} {sp:Nat→Bool} {hd:Bool}
theorem cellsBoolF:Tryz.prog.cellsOf 4=1:=by kernel_rfl
theorem cellsChan:Tryz.prog.cellsOf 117=7:=by kernel_rfl
theorem open_Chan (h:DataW.trod enc Tryz.prog W base sp hd n 117 cs=some y):∃ x:Chn,cs=x.cells:=by
 obtain ⟨xs,n,_,_,hl,hlen,hf⟩:=DataW.trod_struct Tryz.underlying117 h
 rw [cellsChan] at hl
 match xs,hlen with
 | [x0,x1,x2,x3,x4,x5,x6],_ =>
   match cs,hl with
   | [v0,v1,v2,v3,v4,v5,v6],_ =>
     have h0:=hf 0 _ rfl
     have h1:=hf 1 _ rfl
     have h2:=hf 2 _ rfl
     have h3:=hf 3 _ rfl
     have h4:=hf 4 _ rfl
     have h5:=hf 5 _ rfl
     have h6:=hf 6 _ rfl
     simp [cellsInt] at h0 h1 h2 h3 h4 h5 h6
     obtain ⟨y0,e0,_,_⟩:=DataW.trod_int Tryz.underlying3 h0
     obtain ⟨y1,e1,_,_⟩:=DataW.trod_int Tryz.underlying3 h1
     obtain ⟨y2,e2,_,_⟩:=DataW.trod_int Tryz.underlying3 h2
     obtain ⟨y3,e3,_,_⟩:=DataW.trod_int Tryz.underlying3 h3
     obtain ⟨y4,e4,_,_⟩:=DataW.trod_int Tryz.underlying3 h4
     obtain ⟨y5,e5,_,_⟩:=DataW.trod_int Tryz.underlying3 h5
     obtain ⟨y6,e6,_,_⟩:=DataW.trod_int Tryz.underlying3 h6
     simp at e0 e1 e2 e3 e4 e5 e6
     exact ⟨⟨y0,y1,y2,y3,y4,y5,y6⟩,by rw [e0,e1,e2,e3,e4,e5,e6];rfl⟩
theorem chs_of:∀ M:List (List Value),(∀ c∈M,c.length=7∧∃ x:Chn,c=x.cells)→∃ L:List Chn,L.length=M.length∧M.flatten=chs L
 | [],_=>⟨[],rfl,rfl⟩
 | c :: M,h=>by
   obtain ⟨L,hl,hf⟩:=chs_of M (fun c hc=>h c (List.mem_cons_of_mem _ hc))
   obtain ⟨_,x,rfl⟩:=h c (List.mem_cons_self ..)
   exact ⟨x :: L,by simp [hl],by simp [chs,hf]⟩
theorem open_Chans {v:Value} (h:DataW.trod enc Tryz.prog W base sp hd n 22 [v]=some y) :
 ∃ (a:Option Addr) (cap:Nat) (L:List Chn),v=.slice a L.length cap∧Cells W a (chs L)∧((a=none→cap=0)∧L.length≤cap)∧L.length≤9223372036854775807:=by
 obtain ⟨a,cap,M,hv,hq,hc,hn,hl⟩:=open_cells' Tryz.underlying22 cellsChan (by decide) h (fun c=>∃ x:Chn,c=x.cells) (fun _ _ _ h=>open_Chan h)
 obtain ⟨L,e,ef⟩:=chs_of M hq
 exact ⟨a,cap,L,by rw [hv,e],by rw [← ef];exact hc,⟨hn.1,by rw [e];exact hn.2⟩,by rw [e];exact hl⟩
theorem cellsHtlc:Tryz.prog.cellsOf 119=7:=by kernel_rfl
theorem open_Htlc (h:DataW.trod enc Tryz.prog W base sp hd n 119 cs=some y):∃ x:Htl,cs=x.cells:=by
 obtain ⟨xs,n,_,_,hl,hlen,hf⟩:=DataW.trod_struct Tryz.underlying119 h
 rw [cellsHtlc] at hl
 match xs,hlen with
 | [x0,x1,x2,x3,x4,x5,x6],_ =>
   match cs,hl with
   | [v0,v1,v2,v3,v4,v5,v6],_ =>
     have h0:=hf 0 _ rfl
     have h1:=hf 1 _ rfl
     have h2:=hf 2 _ rfl
     have h3:=hf 3 _ rfl
     have h4:=hf 4 _ rfl
     have h5:=hf 5 _ rfl
     have h6:=hf 6 _ rfl
     simp [cellsInt,cellsBoolF] at h0 h1 h2 h3 h4 h5 h6
     obtain ⟨y0,e0,_,_⟩:=DataW.trod_int Tryz.underlying3 h0
     obtain ⟨y1,e1,_,_⟩:=DataW.trod_int Tryz.underlying3 h1
     obtain ⟨y2,e2,_,_⟩:=DataW.trod_int Tryz.underlying3 h2
     obtain ⟨y3,e3,_,_⟩:=DataW.trod_int Tryz.underlying3 h3
     obtain ⟨y4,e4,_,_⟩:=DataW.trod_int Tryz.underlying3 h4
     obtain ⟨y5,e5,_⟩:=DataW.trod_bool Tryz.underlying4 h5
     obtain ⟨y6,e6,_,_⟩:=DataW.trod_int Tryz.underlying3 h6
     simp at e0 e1 e2 e3 e4 e5 e6
     exact ⟨⟨y0,y1,y2,y3,y4,y5,y6⟩,by rw [e0,e1,e2,e3,e4,e5,e6];rfl⟩
theorem hts_of:∀ M:List (List Value),(∀ c∈M,c.length=7∧∃ x:Htl,c=x.cells)→∃ L:List Htl,L.length=M.length∧M.flatten=hts L
 | [],_=>⟨[],rfl,rfl⟩
 | c :: M,h=>by
   obtain ⟨L,hl,hf⟩:=hts_of M (fun c hc=>h c (List.mem_cons_of_mem _ hc))
   obtain ⟨_,x,rfl⟩:=h c (List.mem_cons_self ..)
   exact ⟨x :: L,by simp [hl],by simp [hts,hf]⟩
theorem open_Htlcs {v:Value} (h:DataW.trod enc Tryz.prog W base sp hd n 23 [v]=some y) :
 ∃ (a:Option Addr) (cap:Nat) (L:List Htl),v=.slice a L.length cap∧Cells W a (hts L)∧((a=none→cap=0)∧L.length≤cap)∧L.length≤9223372036854775807:=by
 obtain ⟨a,cap,M,hv,hq,hc,hn,hl⟩:=open_cells' Tryz.underlying23 cellsHtlc (by decide) h (fun c=>∃ x:Htl,c=x.cells) (fun _ _ _ h=>open_Htlc h)
 obtain ⟨L,e,ef⟩:=hts_of M hq
 exact ⟨a,cap,L,by rw [hv,e],by rw [← ef];exact hc,⟨hn.1,by rw [e];exact hn.2⟩,by rw [e];exact hl⟩
theorem cellsCircle:Tryz.prog.cellsOf 121=5:=by kernel_rfl
theorem open_Circle (h:DataW.trod enc Tryz.prog W base sp hd n 121 cs=some y):∃ x:Crc,cs=x.cells:=by
 obtain ⟨xs,n,_,_,hl,hlen,hf⟩:=DataW.trod_struct Tryz.underlying121 h
 rw [cellsCircle] at hl
 match xs,hlen with
 | [x0,x1,x2,x3,x4],_ =>
   match cs,hl with
   | [v0,v1,v2,v3,v4],_ =>
     have h0:=hf 0 _ rfl
     have h1:=hf 1 _ rfl
     have h2:=hf 2 _ rfl
     have h3:=hf 3 _ rfl
     have h4:=hf 4 _ rfl
     simp [cellsInt] at h0 h1 h2 h3 h4
     obtain ⟨y0,e0,_,_⟩:=DataW.trod_int Tryz.underlying3 h0
     obtain ⟨y1,e1,_,_⟩:=DataW.trod_int Tryz.underlying3 h1
     obtain ⟨y2,e2,_,_⟩:=DataW.trod_int Tryz.underlying3 h2
     obtain ⟨y3,e3,_,_⟩:=DataW.trod_int Tryz.underlying3 h3
     obtain ⟨y4,e4,_,_⟩:=DataW.trod_int Tryz.underlying3 h4
     simp at e0 e1 e2 e3 e4
     exact ⟨⟨y0,y1,y2,y3,y4⟩,by rw [e0,e1,e2,e3,e4];rfl⟩
theorem crs_of:∀ M:List (List Value),(∀ c∈M,c.length=5∧∃ x:Crc,c=x.cells)→∃ L:List Crc,L.length=M.length∧M.flatten=crs L
 | [],_=>⟨[],rfl,rfl⟩
 | c :: M,h=>by
   obtain ⟨L,hl,hf⟩:=crs_of M (fun c hc=>h c (List.mem_cons_of_mem _ hc))
   obtain ⟨_,x,rfl⟩:=h c (List.mem_cons_self ..)
   exact ⟨x :: L,by simp [hl],by simp [crs,hf]⟩
theorem open_Circles {v:Value} (h:DataW.trod enc Tryz.prog W base sp hd n 24 [v]=some y) :
 ∃ (a:Option Addr) (cap:Nat) (L:List Crc),v=.slice a L.length cap∧Cells W a (crs L)∧((a=none→cap=0)∧L.length≤cap)∧L.length≤9223372036854775807:=by
 obtain ⟨a,cap,M,hv,hq,hc,hn,hl⟩:=open_cells' Tryz.underlying24 cellsCircle (by decide) h (fun c=>∃ x:Crc,c=x.cells) (fun _ _ _ h=>open_Circle h)
 obtain ⟨L,e,ef⟩:=crs_of M hq
 exact ⟨a,cap,L,by rw [hv,e],by rw [← ef];exact hc,⟨hn.1,by rw [e];exact hn.2⟩,by rw [e];exact hl⟩
theorem cellsBook:Tryz.prog.cellsOf 26=6:=by kernel_rfl
theorem cellsChans:Tryz.prog.cellsOf 22=1:=by kernel_rfl
theorem cellsHtlcs:Tryz.prog.cellsOf 23=1:=by kernel_rfl
theorem cellsCircles:Tryz.prog.cellsOf 24=1:=by kernel_rfl
variable {v:Value} {d:DataW H} {ps:List MemPlace}
theorem book_row {b0:Nat} (hv:Value.okWide Tryz.prog W .any b0 26 v) (h:DataW.Trod enc Tryz.prog W base sp hd 26 v d ps) :
 ∃ B:Bo,v=B.v∧Mem W B.segs∧B.fit∧B.big:=by
 obtain ⟨cs,rfl,hz⟩:=okWide_struct Tryz.underlying26 hv
 obtain ⟨m,h⟩:=h
 obtain ⟨xs,n,_,_,hl,hlen,hf⟩:=DataW.trod_struct Tryz.underlying26 h
 rw [cellsBook] at hz
 match xs,hlen with
 | [x0,x1,x2,x3,x4,x5],_ =>
   match cs,hz with
   | ⟨[v0,v1,v2,v3,v4,v5]⟩,_ =>
     have h0:=hf 0 _ rfl
     have h1:=hf 1 _ rfl
     have h2:=hf 2 _ rfl
     have h3:=hf 3 _ rfl
     have h4:=hf 4 _ rfl
     have h5:=hf 5 _ rfl
     simp [Value.cells,cellsInt,cellsChans,cellsHtlcs,cellsCircles] at h0 h1 h2 h3 h4 h5
     obtain ⟨tk,e0,_,_⟩:=DataW.trod_int Tryz.underlying3 h0
     obtain ⟨nx,e1,_,_⟩:=DataW.trod_int Tryz.underlying3 h1
     obtain ⟨wa,e2,_,_⟩:=DataW.trod_int Tryz.underlying3 h2
     obtain ⟨ca,cc,C,e3,c3,f3,l3⟩:=open_Chans h3
     obtain ⟨ha,hc,Hs,e4,c4,f4,l4⟩:=open_Htlcs h4
     obtain ⟨ra,rc,R,e5,c5,f5,l5⟩:=open_Circles h5
     simp at e0 e1 e2
     exact ⟨⟨tk,nx,wa,ca,cc,C,ha,hc,Hs,ra,rc,R⟩,by rw [e0,e1,e2,e3,e4,e5];rfl,mem_cons.2 ⟨c3,mem_cons.2 ⟨c4,mem_cons.2 ⟨c5,Mem.nil _⟩⟩⟩,⟨f3.1,f4.1,f5.1,f3.2,f4.2,f5.2⟩,l3,l4,l5⟩
end
end Go.Proofs.YtccdhcempnkgaaaGreatDoor
namespace Go.Proofs.YtccdhcempnkgaaaGreatDoor
open Go.RowKit Go.Deep
set_option linter.unusedVariables false
set_option linter.unusedSimpArgs false
set_option maxRecDepth 10000
def markBo (n:Nat) (B:Bo):Bo:=⟨B.tk,B.nx,B.wa,B.ca,B.cc,marksChn n B.C.length,B.ha,B.hc,marksHtl (n+7*B.C.length) B.Hs.length,B.ra,B.rc,marksCrc (n+7*B.C.length+7*B.Hs.length) B.R.length⟩
def markN (n:Nat) (B:Bo):Nat:=n+7*B.C.length+7*B.Hs.length+5*B.R.length
theorem own3 {w:World} {s1 s2 s3:Seg} (h:Own w [s1,s2,s3]):Own w [s1]∧Own w [s2]∧Own w [s3] :=
 ⟨Own.left (S:=[s1]) (T:=[s2,s3]) h,Own.left (S:=[s2]) (T:=[s3]) (Own.right (S:=[s1]) (T:=[s2,s3]) h),Own.right (S:=[s2]) (T:=[s3]) (Own.right (S:=[s1]) (T:=[s2,s3]) h)⟩
theorem fp_in3 {s1 s2 s3:Seg}:(∀ b∈fp [s1],b∈fp [s1,s2,s3])∧(∀ b∈fp [s2],b∈fp [s1,s2,s3])∧(∀ b∈fp [s3],b∈fp [s1,s2,s3]):=by
 refine ⟨fun b hb=>?_,fun b hb=>?_,fun b hb=>?_⟩ <;> simp [fp] at hb ⊢ <;> simp [hb]
set_option maxHeartbeats 4000000 in
theorem markBook_k (B:Bo) (n:Nat) (w:World) (h:Own w B.segs) (hl:B.len) (hn:n≤900000000) :
 Calls Tryz.prog 12 #[B.v,.int .i64 (n:Int)] w fun e w'=>e=.returned (.int .i64 (markN n B:Int))∧Own w' (markBo n B).segs∧Turn (fp B.segs) w w':=by
 obtain ⟨tk,nx,wa,ca,cc,C,ha,hc,Hs,ra,rc,R⟩:=B
 have HB:=hide (rowc6 w (.int .i64 tk) (.int .i64 nx) (.int .i64 wa) (.slice ca C.length cc) (.slice ha Hs.length hc) (.slice ra R.length rc) 34)
 have HK:=hide (Keeps.alloc (Keeps.refl w) (.cells #[.int .i64 tk,.int .i64 nx,.int .i64 wa,.slice ca C.length cc,.slice ha Hs.length hc,.slice ra R.length rc] 34))
 obtain ⟨l1,l2,l3⟩:=hl
 dsimp only [Bo.v,Bo.segs,markBo] at *
 have HO0:=hide (h.kept HK.out)
 have HT0:=hide (Turn.of_keeps HK.out (fp [(ca,chs C),(ha,hts Hs),(ra,crs R)]))
 have HLT:=hide h.mem.lt
 clear h
 go_enter Tryz.func12,Tryz.ntmps12
 go_upto_region 1 with fail
 generalize w.alloc (.cells #[.int .i64 tk,.int .i64 nx,.int .i64 wa,.slice ca C.length cc,.slice ha Hs.length hc,.slice ra R.length rc] 34)=W0 at *
 have HKW:=hide (Keeps.refl W0)
 have HNB:Hid (∀ b∈fp [(ca,chs C),(ha,hts Hs),(ra,crs R)],b≠w.heap.size):=fun b hb e=>by have:=HLT.out b hb;omega
 obtain ⟨c0,c1,c2,c3,c4,c5⟩:=unhide HB W0 (Keeps.refl _)
 have HCs:Hid (∀ w',Turn (fp [(ca,chs C),(ha,hts Hs),(ra,crs R)]) W0 w'→w'.cell? ⟨w.heap.size,3,none⟩=some (.slice ca C.length cc)∧w'.cell? ⟨w.heap.size,4,none⟩=some (.slice ha Hs.length hc)∧w'.cell? ⟨w.heap.size,5,none⟩=some (.slice ra R.length rc)) :=
  fun w' ht=>⟨ht.cell (fun hx=>HNB.out _ hx rfl) c3,ht.cell (fun hx=>HNB.out _ hx rfl) c4,ht.cell (fun hx=>HNB.out _ hx rfl) c5⟩
 have HTW:=hide (Turn.refl (fp [(ca,chs C),(ha,hts Hs),(ra,crs R)]) W0)
 clear c0 c1 c2 c4 c5
 go_wp2_with fail
 refine (markChanS_k ca cc C n W0 (own3 HO0.out).1 l1 (by omega)).mono ?_
 rintro e w1 ⟨rfl,ho,ht⟩
 have HO1:Hid (Own w1 [(ca,chs (marksChn n C.length)),(ha,hts Hs),(ra,crs R)]):=Own.upd (A:=[]) (B:=[(ha,hts Hs),(ra,crs R)]) HO0.out ho (fpS_len (by rw [chs_len,chs_len,marksChn_len])) ht
 replace HTW:=hide (HTW.out.trans' (ht.mono fp_in3.1))
 clear ho ht c3 HO0
 obtain ⟨-,c4,-⟩:=HCs.out w1 HTW.out
 go_wp2_with fail
 have e7:((n+7*C.length:Nat):Int)=((n+7*C.length:Nat):Int):=rfl
 refine (markHtlcS_k ha hc Hs (n+7*C.length) w1 (own3 HO1.out).2.1 l2 (by omega)).mono ?_
 rintro e w2 ⟨rfl,ho,ht⟩
 have HO2:Hid (Own w2 [(ca,chs (marksChn n C.length)),(ha,hts (marksHtl (n+7*C.length) Hs.length)),(ra,crs R)]):=Own.upd (A:=[(ca,chs (marksChn n C.length))]) (B:=[(ra,crs R)]) HO1.out ho (fpS_len (by rw [hts_len,hts_len,marksHtl_len])) ht
 replace HTW:=hide (HTW.out.trans' (ht.mono fp_in3.2.1))
 clear ho ht c4 HO1
 obtain ⟨-,-,c5⟩:=HCs.out w2 HTW.out
 go_wp2_with fail
 refine (markCircleS_k ra rc R (n+7*C.length+7*Hs.length) w2 (own3 HO2.out).2.2 l3 (by omega)).mono ?_
 rintro e w3 ⟨rfl,ho,ht⟩
 have HO3:Hid (Own w3 [(ca,chs (marksChn n C.length)),(ha,hts (marksHtl (n+7*C.length) Hs.length)),(ra,crs (marksCrc (n+7*C.length+7*Hs.length) R.length))]):=Own.upd (A:=[(ca,chs (marksChn n C.length)),(ha,hts (marksHtl (n+7*C.length) Hs.length))]) (B:=[]) HO2.out ho (fpS_len (by rw [crs_len,crs_len,marksCrc_len])) ht
 replace HTW:=hide (HTW.out.trans' (ht.mono fp_in3.2.2))
 clear ho ht c5 HO2
 go_wp2_with fail
 go_ret
 exact ⟨rfl,HO3.out,HT0.out.trans' HTW.out⟩
set_option maxHeartbeats 4000000 in
theorem heldBook_k (B:Bo) (n:Nat) (w:World) (h:Mem w (markBo n B).segs) (hl:B.len) (hn:n≤900000000) :
 Calls Tryz.prog 14 #[B.v,.int .i64 (n:Int)] w fun e w'=>e=.returned (.int .i64 (markN n B:Int))∧Keeps w w':=by
 obtain ⟨tk,nx,wa,ca,cc,C,ha,hc,Hs,ra,rc,R⟩:=B
 have HB:=hide (rowc6 w (.int .i64 tk) (.int .i64 nx) (.int .i64 wa) (.slice ca C.length cc) (.slice ha Hs.length hc) (.slice ra R.length rc) 34)
 have HK:=hide (Keeps.alloc (Keeps.refl w) (.cells #[.int .i64 tk,.int .i64 nx,.int .i64 wa,.slice ca C.length cc,.slice ha Hs.length hc,.slice ra R.length rc] 34))
 obtain ⟨l1,l2,l3⟩:=hl
 dsimp only [Bo.v,Bo.segs,markBo] at *
 have HM:=hide (h.kept HK.out)
 clear h
 go_enter Tryz.func14,Tryz.ntmps14
 go_wp2_with fail
 generalize w.alloc (.cells #[.int .i64 tk,.int .i64 nx,.int .i64 wa,.slice ca C.length cc,.slice ha Hs.length hc,.slice ra R.length rc] 34)=W0 at *
 obtain ⟨c0,c1,c2,c3,c4,c5⟩:=unhide HB W0 (Keeps.refl _)
 refine (heldChanS_k ca cc C.length n W0 (HM.out (ca,chs (marksChn n C.length)) (by simp)) l1 (by omega)).mono ?_
 rintro e w1 ⟨rfl,hw⟩
 obtain rfl:=Eq.symm hw
 clear hw
 have p1:¬ ((n+7*C.length:Nat):Int) < 0:=by omega
 go_wp2_with fail
 refine (heldHtlcS_k ha hc Hs.length (n+7*C.length) W0 (HM.out (ha,hts (marksHtl (n+7*C.length) Hs.length)) (by simp)) l2 (by omega)).mono ?_
 rintro e w1 ⟨rfl,hw⟩
 obtain rfl:=Eq.symm hw
 clear hw
 have p2:¬ ((n+7*C.length+7*Hs.length:Nat):Int) < 0:=by omega
 go_wp2_with fail
 refine (heldCircleS_k ra rc R.length (n+7*C.length+7*Hs.length) W0 (HM.out (ra,crs (marksCrc (n+7*C.length+7*Hs.length) R.length)) (by simp)) l3 (by omega)).mono ?_
 rintro e w1 ⟨rfl,hw⟩
 obtain rfl:=Eq.symm hw
 clear hw
 have p3:¬ ((n+7*C.length+7*Hs.length+5*R.length:Nat):Int) < 0:=by omega
 go_wp2_with fail
 go_ret
 exact ⟨rfl,HK.out⟩
end Go.Proofs.YtccdhcempnkgaaaGreatDoor
namespace Go.Proofs.YtccdhcempnkgaaaGreatDoor
open Go.RowKit Go.ChangeShapes Go.WideShapes
set_option linter.unusedVariables false
set_option maxRecDepth 100000
section
variable {H:Type} {enc:TypeId × Value→H} {W:World} {n:Nat} {cs:List Value} {y:DataW H × List MemPlace} {base:Nat} {sp:Nat→Bool} {hd:Bool}
variable {v:Value} {d:DataW H} {ps:List MemPlace}
theorem event_row {b0:Nat} (hv:Value.okWide Tryz.prog W .any b0 28 v) (h:DataW.Trod enc Tryz.prog W base sp hd 28 v d ps) :
 ∃ (k y c t m f:Int) (b:Bool),v=evV k y c t m f b∧(Lit.int .i64 k).wf=true∧(Lit.int .i64 y).wf=true∧(Lit.int .i64 c).wf=true∧(Lit.int .i64 t).wf=true∧(Lit.int .i64 m).wf=true∧(Lit.int .i64 f).wf=true:=by
 have hs:Tryz.prog.cellsOf 28=7:=by kernel_rfl
 have hi:Tryz.prog.cellsOf 3=1:=by kernel_rfl
 have hb:Tryz.prog.cellsOf 4=1:=by kernel_rfl
 obtain ⟨cs,rfl,hz⟩:=okWide_struct Tryz.underlying28 hv
 obtain ⟨m,h⟩:=h
 obtain ⟨xs,n,_,_,hl,hlen,hf⟩:=DataW.trod_struct Tryz.underlying28 h
 rw [hs] at hz
 match xs,hlen with
 | [x0,x1,x2,x3,x4,x5,x6],_ =>
   match cs,hz with
   | ⟨[v0,v1,v2,v3,v4,v5,v6]⟩,_ =>
     have h0:=hf 0 _ rfl
     have h1:=hf 1 _ rfl
     have h2:=hf 2 _ rfl
     have h3:=hf 3 _ rfl
     have h4:=hf 4 _ rfl
     have h5:=hf 5 _ rfl
     have h6:=hf 6 _ rfl
     simp [Value.cells,hi,hb] at h0 h1 h2 h3 h4 h5 h6
     obtain ⟨k,e0,_,w0⟩:=DataW.trod_int Tryz.underlying3 h0
     obtain ⟨y,e1,_,w1⟩:=DataW.trod_int Tryz.underlying3 h1
     obtain ⟨c,e2,_,w2⟩:=DataW.trod_int Tryz.underlying3 h2
     obtain ⟨t,e3,_,w3⟩:=DataW.trod_int Tryz.underlying3 h3
     obtain ⟨m',e4,_,w4⟩:=DataW.trod_int Tryz.underlying3 h4
     obtain ⟨f,e5,_,w5⟩:=DataW.trod_int Tryz.underlying3 h5
     obtain ⟨b,e6,_⟩:=DataW.trod_bool Tryz.underlying4 h6
     simp at e0 e1 e2 e3 e4 e5 e6
     exact ⟨k,y,c,t,m',f,b,by rw [e0,e1,e2,e3,e4,e5,e6],w0,w1,w2,w3,w4,w5⟩
end
theorem toEvent_k (k y c t m f:Int) (b:Bool) (w:World):Calls Tryz.prog 8 #[evV k y c t m f b] w fun e w'=>e=.returned (evV k y c t m f b)∧Keeps w w':=by
 go_enter Tryz.func8,Tryz.ntmps8
 go_wp2_with fail
 refine bodyPost_ret (v:=evV k y c t m f b) (by simp [results,Tryz.results8,go_sem]) rfl ⟨rfl,?_⟩
 repeat (first | exact Keeps.refl _ | refine Keeps.alloc ?_ _ | refine Keeps.setCell ?_ (by simp) _)
end Go.Proofs.YtccdhcempnkgaaaGreatDoor
