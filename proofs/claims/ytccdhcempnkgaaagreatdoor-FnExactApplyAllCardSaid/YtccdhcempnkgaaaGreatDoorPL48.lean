/- Texts of the verifier, joined: BgO, EtO, IntL, BmB. -/
import Derived.Test.YtccdhcempnkgaaaGreatDoorPL47
import Derived.Deep.RegionHeld3
import Derived.ChangeSame
import Derived.WideShapes
import Derived.Below
import Derived.Test.YtccdhcempnkgaaaGreatDoorPL46
import Derived.Test.YtccdhcempnkgaaaGreatDoorPL3
import Derived.Test.YtccdhcempnkgaaaGreatDoorPL4
import Derived.Test.YtccdhcempnkgaaaGreatDoorPL5
import Derived.Test.YtccdhcempnkgaaaGreatDoorPL7
import Derived.Test.YtccdhcempnkgaaaGreatDoorPL8
import Derived.Deep.Cut
namespace Go.Proofs.YtccdhcempnkgaaaGreatDoor
open Go.RowKit Go.ChangeShapes Go.WideShapes Go.Deep
set_option linter.unusedVariables false
set_option maxRecDepth 100000
section
variable {H:Type} {enc:TypeId × Value→H} {W:World} {n:Nat} {cs:List Value} {y:DataW H × List MemPlace} {base:Nat} {sp:Nat→Bool} {hd:Bool}
theorem cellsBoolF:Tryz.prog.cellsOf 4=1:=by kernel_rfl
theorem cellsChan:Tryz.prog.cellsOf 117=7:=by kernel_rfl
theorem open_Chan (h:DataW.trod enc Tryz.prog W base sp hd n 117 cs=some y):∃ x:Chn,cs=x.cells:=by
 obtain ⟨xs,n,_,_,hl,hlen,hf⟩:=DataW.trod_struct Tryz.underlying117 h
 rw [cellsChan] at hl
 match xs,hlen with
 | [x0,x1,x2,x3,x4,x5,x6],_ =>
   match cs,hl with
   | [v0,v1,v2,v3,v4,v5,v6],_ =>
     have h0:=hf 0 _ rfl
     have h1:=hf 1 _ rfl
     have h2:=hf 2 _ rfl
     have h3:=hf 3 _ rfl
     have h4:=hf 4 _ rfl
     have h5:=hf 5 _ rfl
     have h6:=hf 6 _ rfl
     simp [cellsInt] at h0 h1 h2 h3 h4 h5 h6
     obtain ⟨y0,e0,_,_⟩:=DataW.trod_int Tryz.underlying3 h0
     obtain ⟨y1,e1,_,_⟩:=DataW.trod_int Tryz.underlying3 h1
     obtain ⟨y2,e2,_,_⟩:=DataW.trod_int Tryz.underlying3 h2
     obtain ⟨y3,e3,_,_⟩:=DataW.trod_int Tryz.underlying3 h3
     obtain ⟨y4,e4,_,_⟩:=DataW.trod_int Tryz.underlying3 h4
     obtain ⟨y5,e5,_,_⟩:=DataW.trod_int Tryz.underlying3 h5
     obtain ⟨y6,e6,_,_⟩:=DataW.trod_int Tryz.underlying3 h6
     simp at e0 e1 e2 e3 e4 e5 e6
     exact ⟨⟨y0,y1,y2,y3,y4,y5,y6⟩,by rw [e0,e1,e2,e3,e4,e5,e6];rfl⟩
theorem chs_of:∀ M:List (List Value),(∀ c∈M,c.length=7∧∃ x:Chn,c=x.cells)→∃ L:List Chn,L.length=M.length∧M.flatten=chs L
 | [],_=>⟨[],rfl,rfl⟩
 | c :: M,h=>by
   obtain ⟨L,hl,hf⟩:=chs_of M (fun c hc=>h c (List.mem_cons_of_mem _ hc))
   obtain ⟨_,x,rfl⟩:=h c (List.mem_cons_self ..)
   exact ⟨x :: L,by simp [hl],by simp [chs,hf]⟩
theorem open_Chans {v:Value} (h:DataW.trod enc Tryz.prog W base sp hd n 22 [v]=some y) :
 ∃ (a:Option Addr) (cap:Nat) (L:List Chn),v=.slice a L.length cap∧Cells W a (chs L)∧((a=none→cap=0)∧L.length≤cap)∧L.length≤9223372036854775807:=by
 obtain ⟨a,cap,M,hv,hq,hc,hn,hl⟩:=open_cells' Tryz.underlying22 cellsChan (by decide) h (fun c=>∃ x:Chn,c=x.cells) (fun _ _ _ h=>open_Chan h)
 obtain ⟨L,e,ef⟩:=chs_of M hq
 exact ⟨a,cap,L,by rw [hv,e],by rw [← ef];exact hc,⟨hn.1,by rw [e];exact hn.2⟩,by rw [e];exact hl⟩
theorem cellsHtlc:Tryz.prog.cellsOf 119=7:=by kernel_rfl
theorem open_Htlc (h:DataW.trod enc Tryz.prog W base sp hd n 119 cs=some y):∃ x:Htl,cs=x.cells:=by
 obtain ⟨xs,n,_,_,hl,hlen,hf⟩:=DataW.trod_struct Tryz.underlying119 h
 rw [cellsHtlc] at hl
 match xs,hlen with
 | [x0,x1,x2,x3,x4,x5,x6],_ =>
   match cs,hl with
   | [v0,v1,v2,v3,v4,v5,v6],_ =>
     have h0:=hf 0 _ rfl
     have h1:=hf 1 _ rfl
     have h2:=hf 2 _ rfl
     have h3:=hf 3 _ rfl
     have h4:=hf 4 _ rfl
     have h5:=hf 5 _ rfl
     have h6:=hf 6 _ rfl
     simp [cellsInt,cellsBoolF] at h0 h1 h2 h3 h4 h5 h6
     obtain ⟨y0,e0,_,_⟩:=DataW.trod_int Tryz.underlying3 h0
     obtain ⟨y1,e1,_,_⟩:=DataW.trod_int Tryz.underlying3 h1
     obtain ⟨y2,e2,_,_⟩:=DataW.trod_int Tryz.underlying3 h2
     obtain ⟨y3,e3,_,_⟩:=DataW.trod_int Tryz.underlying3 h3
     obtain ⟨y4,e4,_,_⟩:=DataW.trod_int Tryz.underlying3 h4
     obtain ⟨y5,e5,_⟩:=DataW.trod_bool Tryz.underlying4 h5
     obtain ⟨y6,e6,_,_⟩:=DataW.trod_int Tryz.underlying3 h6
     simp at e0 e1 e2 e3 e4 e5 e6
     exact ⟨⟨y0,y1,y2,y3,y4,y5,y6⟩,by rw [e0,e1,e2,e3,e4,e5,e6];rfl⟩
theorem hts_of:∀ M:List (List Value),(∀ c∈M,c.length=7∧∃ x:Htl,c=x.cells)→∃ L:List Htl,L.length=M.length∧M.flatten=hts L
 | [],_=>⟨[],rfl,rfl⟩
 | c :: M,h=>by
   obtain ⟨L,hl,hf⟩:=hts_of M (fun c hc=>h c (List.mem_cons_of_mem _ hc))
   obtain ⟨_,x,rfl⟩:=h c (List.mem_cons_self ..)
   exact ⟨x :: L,by simp [hl],by simp [hts,hf]⟩
theorem open_Htlcs {v:Value} (h:DataW.trod enc Tryz.prog W base sp hd n 23 [v]=some y) :
 ∃ (a:Option Addr) (cap:Nat) (L:List Htl),v=.slice a L.length cap∧Cells W a (hts L)∧((a=none→cap=0)∧L.length≤cap)∧L.length≤9223372036854775807:=by
 obtain ⟨a,cap,M,hv,hq,hc,hn,hl⟩:=open_cells' Tryz.underlying23 cellsHtlc (by decide) h (fun c=>∃ x:Htl,c=x.cells) (fun _ _ _ h=>open_Htlc h)
 obtain ⟨L,e,ef⟩:=hts_of M hq
 exact ⟨a,cap,L,by rw [hv,e],by rw [← ef];exact hc,⟨hn.1,by rw [e];exact hn.2⟩,by rw [e];exact hl⟩
theorem cellsCircle:Tryz.prog.cellsOf 121=5:=by kernel_rfl
theorem open_Circle (h:DataW.trod enc Tryz.prog W base sp hd n 121 cs=some y):∃ x:Crc,cs=x.cells:=by
 obtain ⟨xs,n,_,_,hl,hlen,hf⟩:=DataW.trod_struct Tryz.underlying121 h
 rw [cellsCircle] at hl
 match xs,hlen with
 | [x0,x1,x2,x3,x4],_ =>
   match cs,hl with
   | [v0,v1,v2,v3,v4],_ =>
     have h0:=hf 0 _ rfl
     have h1:=hf 1 _ rfl
     have h2:=hf 2 _ rfl
     have h3:=hf 3 _ rfl
     have h4:=hf 4 _ rfl
     simp [cellsInt] at h0 h1 h2 h3 h4
     obtain ⟨y0,e0,_,_⟩:=DataW.trod_int Tryz.underlying3 h0
     obtain ⟨y1,e1,_,_⟩:=DataW.trod_int Tryz.underlying3 h1
     obtain ⟨y2,e2,_,_⟩:=DataW.trod_int Tryz.underlying3 h2
     obtain ⟨y3,e3,_,_⟩:=DataW.trod_int Tryz.underlying3 h3
     obtain ⟨y4,e4,_,_⟩:=DataW.trod_int Tryz.underlying3 h4
     simp at e0 e1 e2 e3 e4
     exact ⟨⟨y0,y1,y2,y3,y4⟩,by rw [e0,e1,e2,e3,e4];rfl⟩
theorem crs_of:∀ M:List (List Value),(∀ c∈M,c.length=5∧∃ x:Crc,c=x.cells)→∃ L:List Crc,L.length=M.length∧M.flatten=crs L
 | [],_=>⟨[],rfl,rfl⟩
 | c :: M,h=>by
   obtain ⟨L,hl,hf⟩:=crs_of M (fun c hc=>h c (List.mem_cons_of_mem _ hc))
   obtain ⟨_,x,rfl⟩:=h c (List.mem_cons_self ..)
   exact ⟨x :: L,by simp [hl],by simp [crs,hf]⟩
theorem open_Circles {v:Value} (h:DataW.trod enc Tryz.prog W base sp hd n 24 [v]=some y) :
 ∃ (a:Option Addr) (cap:Nat) (L:List Crc),v=.slice a L.length cap∧Cells W a (crs L)∧((a=none→cap=0)∧L.length≤cap)∧L.length≤9223372036854775807:=by
 obtain ⟨a,cap,M,hv,hq,hc,hn,hl⟩:=open_cells' Tryz.underlying24 cellsCircle (by decide) h (fun c=>∃ x:Crc,c=x.cells) (fun _ _ _ h=>open_Circle h)
 obtain ⟨L,e,ef⟩:=crs_of M hq
 exact ⟨a,cap,L,by rw [hv,e],by rw [← ef];exact hc,⟨hn.1,by rw [e];exact hn.2⟩,by rw [e];exact hl⟩
theorem cellsBook:Tryz.prog.cellsOf 26=6:=by kernel_rfl
theorem cellsChans:Tryz.prog.cellsOf 22=1:=by kernel_rfl
theorem cellsHtlcs:Tryz.prog.cellsOf 23=1:=by kernel_rfl
theorem cellsCircles:Tryz.prog.cellsOf 24=1:=by kernel_rfl
variable {v:Value} {d:DataW H} {ps:List MemPlace}
theorem book_row {b0:Nat} (hv:Value.okWide Tryz.prog W .any b0 26 v) (h:DataW.Trod enc Tryz.prog W base sp hd 26 v d ps) :
 ∃ B:Bo,v=B.v∧Mem W B.segs∧B.fit∧B.big:=by
 obtain ⟨cs,rfl,hz⟩:=okWide_struct Tryz.underlying26 hv
 obtain ⟨m,h⟩:=h
 obtain ⟨xs,n,_,_,hl,hlen,hf⟩:=DataW.trod_struct Tryz.underlying26 h
 rw [cellsBook] at hz
 match xs,hlen with
 | [x0,x1,x2,x3,x4,x5],_ =>
   match cs,hz with
   | ⟨[v0,v1,v2,v3,v4,v5]⟩,_ =>
     have h0:=hf 0 _ rfl
     have h1:=hf 1 _ rfl
     have h2:=hf 2 _ rfl
     have h3:=hf 3 _ rfl
     have h4:=hf 4 _ rfl
     have h5:=hf 5 _ rfl
     simp [Value.cells,cellsInt,cellsChans,cellsHtlcs,cellsCircles] at h0 h1 h2 h3 h4 h5
     obtain ⟨tk,e0,_,_⟩:=DataW.trod_int Tryz.underlying3 h0
     obtain ⟨nx,e1,_,_⟩:=DataW.trod_int Tryz.underlying3 h1
     obtain ⟨wa,e2,_,_⟩:=DataW.trod_int Tryz.underlying3 h2
     obtain ⟨ca,cc,C,e3,c3,f3,l3⟩:=open_Chans h3
     obtain ⟨ha,hc,Hs,e4,c4,f4,l4⟩:=open_Htlcs h4
     obtain ⟨ra,rc,R,e5,c5,f5,l5⟩:=open_Circles h5
     simp at e0 e1 e2
     exact ⟨⟨tk,nx,wa,ca,cc,C,ha,hc,Hs,ra,rc,R⟩,by rw [e0,e1,e2,e3,e4,e5];rfl,mem_cons.2 ⟨c3,mem_cons.2 ⟨c4,mem_cons.2 ⟨c5,Mem.nil _⟩⟩⟩,⟨f3.1,f4.1,f5.1,f3.2,f4.2,f5.2⟩,l3,l4,l5⟩
end
end Go.Proofs.YtccdhcempnkgaaaGreatDoor
namespace Go.Proofs.YtccdhcempnkgaaaGreatDoor
open Go.RowKit Go.ChangeShapes Go.WideShapes Go.Deep
set_option linter.unusedVariables false
set_option maxRecDepth 100000
section
variable {H:Type} {enc:TypeId × Value→H} {W:World} {n:Nat} {cs:List Value} {y:DataW H × List MemPlace} {base:Nat} {sp:Nat→Bool} {hd:Bool}
theorem cellsEvent:Tryz.prog.cellsOf 28=7:=by kernel_rfl
theorem open_Event (h:DataW.trod enc Tryz.prog W base sp hd n 28 cs=some y):∃ x:Et,cs=x.cells:=by
 obtain ⟨xs,n,_,_,hl,hlen,hf⟩:=DataW.trod_struct Tryz.underlying28 h
 rw [cellsEvent] at hl
 match xs,hlen with
 | [x0,x1,x2,x3,x4,x5,x6],_ =>
   match cs,hl with
   | [v0,v1,v2,v3,v4,v5,v6],_ =>
     have h0:=hf 0 _ rfl
     have h1:=hf 1 _ rfl
     have h2:=hf 2 _ rfl
     have h3:=hf 3 _ rfl
     have h4:=hf 4 _ rfl
     have h5:=hf 5 _ rfl
     have h6:=hf 6 _ rfl
     simp [cellsInt,cellsBoolF] at h0 h1 h2 h3 h4 h5 h6
     obtain ⟨y0,e0,_,_⟩:=DataW.trod_int Tryz.underlying3 h0
     obtain ⟨y1,e1,_,_⟩:=DataW.trod_int Tryz.underlying3 h1
     obtain ⟨y2,e2,_,_⟩:=DataW.trod_int Tryz.underlying3 h2
     obtain ⟨y3,e3,_,_⟩:=DataW.trod_int Tryz.underlying3 h3
     obtain ⟨y4,e4,_,_⟩:=DataW.trod_int Tryz.underlying3 h4
     obtain ⟨y5,e5,_,_⟩:=DataW.trod_int Tryz.underlying3 h5
     obtain ⟨y6,e6,_⟩:=DataW.trod_bool Tryz.underlying4 h6
     simp at e0 e1 e2 e3 e4 e5 e6
     exact ⟨⟨y0,y1,y2,y3,y4,y5,y6⟩,by rw [e0,e1,e2,e3,e4,e5,e6];rfl⟩
theorem ets_of:∀ M:List (List Value),(∀ c∈M,c.length=7∧∃ x:Et,c=x.cells)→∃ L:List Et,L.length=M.length∧M.flatten=ets L
 | [],_=>⟨[],rfl,rfl⟩
 | c :: M,h=>by
   obtain ⟨L,hl,hf⟩:=ets_of M (fun c hc=>h c (List.mem_cons_of_mem _ hc))
   obtain ⟨_,x,rfl⟩:=h c (List.mem_cons_self ..)
   exact ⟨x :: L,by simp [hl],by simp [ets,hf]⟩
theorem open_Events {v:Value} (h:DataW.trod enc Tryz.prog W base sp hd n 48 [v]=some y) :
 ∃ (a:Option Addr) (cap:Nat) (L:List Et),v=.slice a L.length cap∧Cells W a (ets L)∧((a=none→cap=0)∧L.length≤cap)∧L.length≤9223372036854775807:=by
 obtain ⟨a,cap,M,hv,hq,hc,hn,hl⟩:=open_cells' Tryz.underlying48 cellsEvent (by decide) h (fun c=>∃ x:Et,c=x.cells) (fun _ _ _ h=>open_Event h)
 obtain ⟨L,e,ef⟩:=ets_of M hq
 exact ⟨a,cap,L,by rw [hv,e],by rw [← ef];exact hc,⟨hn.1,by rw [e];exact hn.2⟩,by rw [e];exact hl⟩
variable {v:Value} {d:DataW H} {ps:List MemPlace}
theorem events_row {b0:Nat} (hv:Value.okWide Tryz.prog W .any b0 48 v) (h:DataW.Trod enc Tryz.prog W base sp hd 48 v d ps) :
 ∃ (a:Option Addr) (cap:Nat) (L:List Et),v=.slice a L.length cap∧Cells W a (ets L)∧((a=none→cap=0)∧L.length≤cap)∧L.length≤9223372036854775807:=by
 obtain ⟨a,len,cap,rfl⟩:=okWide_slice Tryz.underlying48 hv
 obtain ⟨m,h⟩:=h
 exact open_Events (n:=m) (v:=.slice a len cap) (by simpa [Value.cells] using h)
end
end Go.Proofs.YtccdhcempnkgaaaGreatDoor
namespace Go.Proofs.YtccdhcempnkgaaaGreatDoor
open Go.RowKit Go.Deep
set_option linter.unusedVariables false
set_option linter.unusedSimpArgs false
set_option maxRecDepth 10000
theorem eqInts_k (a a':Option Addr) (cap cap':Nat) (L:List Int) (w:World) (hc:Cells w a (its L)) (hc':Cells w a' (its L)) (hl:L.length≤1048576) :
 Calls Tryz.prog 21 #[.slice a L.length cap,.slice a' L.length cap'] w fun e w'=>e=.returned (.bool true)∧Keeps w w':=by
 have HC:=hide hc
 have HC':=hide hc'
 clear hc hc'
 go_enter Tryz.func21,Tryz.ntmps21
 go_wp2_with fail
 go_loopw [5] (fun y w1=>∃ k:Nat,k≤L.length∧y=.int .i64 (k:Int)∧Keeps w w1) (fun y _=>L.length-(intOf y).toNat)
 case atStart=>exact ⟨0,by omega,rfl,Keeps.refl _⟩
 case round =>
  obtain ⟨k,hk,rfl,hkw⟩:=hrel
  by_cases hlt:k < L.length
  ·obtain ⟨b,off,ea,c0⟩:=its_at (HC.out.kept hkw) k hlt
   obtain ⟨b',off',ea',d0⟩:=its_at (HC'.out.kept hkw) k hlt
   subst ea ea'
   generalize L[k]=x at *
   go_wp2_with fail
   go_quiet (fail)
   go_wp2_with fail
   go_roundw
   case rel=>exact ⟨k+1,by omega,by go_num,hkw.drewN _⟩
   case measure=>simp [intOf];omega
  ·go_wp2_with fail
   go_ret
   exact ⟨rfl,hkw⟩
def marksI (n k:Nat):List Int:=(List.range k).map fun i=>((n+i:Nat):Int)
theorem marksI_len (n k:Nat):(marksI n k).length=k:=by simp [marksI]
set_option maxHeartbeats 2000000 in
theorem markIntS_k (a:Option Addr) (cap:Nat) (L:List Int) (n:Nat) (w:World) (h:Own w [(a,its L)]) (hl:L.length≤1048576) (hn:n≤1000000000000) :
 Calls Tryz.prog 25 #[.slice a L.length cap,.int .i64 (n:Int)] w fun e w'=>e=.returned (.int .i64 ((n+L.length:Nat):Int))∧Own w' [(a,its (marksI n L.length))]∧Turn (fp [(a,its L)]) w w':=by
 by_cases h0:L=[]
 ·subst h0
  go_enter Tryz.func25,Tryz.ntmps25
  go_wp2_with fail
  refine wp_loop_rounds 1 ?_
  rw [rounds_succ]
  go_wp2_with fail
  go_ret
  exact ⟨by simp,h,Turn.refl _ _⟩
 ·have hc:Cells w a (its L):=h.mem (a,its L) (by simp)
  rcases hc with hc | ⟨g,off,rfl,hc⟩
  ·exact absurd (its_nil.1 hc) h0
  have hfp:fp [(some (⟨g,off,none⟩:Addr),its L)]=[g]:=by rw [fp_one];exact fpS_some (fun e=>h0 (its_nil.1 e))
  have HF:Hid (∀ o,w.frozen? ⟨g,o,none⟩=false):=fun o=>h.free g (by rw [hfp];simp) o
  have HW:Hid (∀ w',Cells w' (some (⟨g,off,none⟩:Addr)) (its (marksI n L.length))→(∀ p,w'.frozen? p=w.frozen? p)→Own w' [(some (⟨g,off,none⟩:Addr),its (marksI n L.length))]):=fun w' hc hf=>own_wrote h (by rw [its_length,its_length,marksI_len]) hc hf
  rw [hfp]
  have HC:=hide hc
  clear hc h h0 hfp
  go_enter Tryz.func25,Tryz.ntmps25
  go_wp2_with fail
  go_loopw [1,5] (fun x y wr=>∃ k:Nat,k≤L.length∧x=.int .i64 ((n+k:Nat):Int)∧y=.int .i64 (k:Int)∧Hid (∀ j,j < L.length→∃ u,wr.cell? ⟨g,off+j,none⟩=some u)∧Hid (∀ j,j < k→wr.cell? ⟨g,off+j,none⟩=some (.int .i64 ((n+j:Nat):Int)))∧Hid (∀ p,wr.frozen? p=w.frozen? p)∧Hid (Turn [g] w wr)) (fun _ y _=>L.length-(intOf y).toNat)
  case atStart=>exact ⟨0,by omega,by simp,rfl,fun j hj=>⟨_,HC.out j (by rw [its_length];exact hj)⟩,fun j hj=>absurd hj (by omega),fun _=>rfl,Turn.refl _ _⟩
  case round =>
   obtain ⟨k,hk,rfl,rfl,HE,HM,HFr,HG⟩:=hrel
   by_cases hlt:k < L.length
   ·obtain ⟨u0,c0⟩:=HE.out k hlt
    have f0:wr.frozen? ⟨g,off+k,none⟩=false:=by rw [HFr.out];exact HF.out _
    go_wp2_with fail
    go_roundw
    case rel =>
     refine ⟨k+1,by omega,by go_num,by go_num,?_,?_,?_,HG.out.trans' (Turn.set (by simp) _)⟩
     ·intro j hj
      by_cases e:j=k
      ·subst e;exact ⟨_,World.cell?_setCell_same _ _ _ c0⟩
      ·rw [World.cell?_setCell_other _ _ _ _ (by simp)];exact HE.out j hj
     ·intro j hj
      by_cases e:j=k
      ·subst e;rw [World.cell?_setCell_same _ _ _ c0];simp
      ·rw [World.cell?_setCell_other _ _ _ _ (by simp)];exact HM.out j (by omega)
     ·intro p
      rw [frozen_set];exact HFr.out p
    case measure=>simp [intOf];omega
   ·have e:k=L.length:=by omega
    subst e
    go_wp2_with fail
    go_ret
    exact ⟨rfl,HW.out wr (Or.inr ⟨g,off,rfl,fun j hj=>by
     rw [its_length,marksI_len] at hj
     rw [HM.out j hj]
     simp [its,marksI]⟩) HFr.out,HG.out⟩
theorem heldIntS_k (a:Option Addr) (cap:Nat) (len n:Nat) (w:World) (h:Cells w a (its (marksI n len))) (hl:len≤1048576) (hn:n≤1000000000000) :
 Calls Tryz.prog 27 #[.slice a len cap,.int .i64 (n:Int)] w fun e w'=>e=.returned (.int .i64 ((n+len:Nat):Int))∧w'=w:=by
 have HC:=hide h
 clear h
 go_enter Tryz.func27,Tryz.ntmps27
 go_wp2_with fail
 go_loop [1,5] (fun x y=>∃ k:Nat,k≤len∧x=.int .i64 ((n+k:Nat):Int)∧y=.int .i64 (k:Int)) (fun _ y=>len-(intOf y).toNat)
 case atStart=>exact ⟨0,by omega,by simp,rfl⟩
 case round =>
  obtain ⟨k,hk,rfl,rfl⟩:=hrel
  by_cases hlt:k < len
  ·obtain ⟨b,off,ea,c0⟩:=its_at HC.out k (by rw [marksI_len];exact hlt)
   subst ea
   have e0:(marksI n len)[k]'(by rw [marksI_len];exact hlt)=((n+k:Nat):Int):=by simp [marksI]
   rw [e0] at c0
   clear e0
   go_wp2_with fail
   go_round
   case rel=>exact ⟨k+1,by omega,by go_num,by go_num⟩
   case measure=>simp [intOf];omega
  ·have e:k=len:=by omega
   subst e
   go_wp2_with fail
   go_ret
   exact ⟨rfl,rfl⟩
end Go.Proofs.YtccdhcempnkgaaaGreatDoor
namespace Go.Proofs.YtccdhcempnkgaaaGreatDoor
open Go.RowKit Go.Deep
set_option linter.unusedVariables false
set_option linter.unusedSimpArgs false
set_option maxRecDepth 10000
def markBo (n:Nat) (B:Bo):Bo:=⟨B.tk,B.nx,B.wa,B.ca,B.cc,marksChn n B.C.length,B.ha,B.hc,marksHtl (n+7*B.C.length) B.Hs.length,B.ra,B.rc,marksCrc (n+7*B.C.length+7*B.Hs.length) B.R.length⟩
def markN (n:Nat) (B:Bo):Nat:=n+7*B.C.length+7*B.Hs.length+5*B.R.length
theorem own3 {w:World} {s1 s2 s3:Seg} (h:Own w [s1,s2,s3]):Own w [s1]∧Own w [s2]∧Own w [s3] :=
 ⟨Own.left (S:=[s1]) (T:=[s2,s3]) h,Own.left (S:=[s2]) (T:=[s3]) (Own.right (S:=[s1]) (T:=[s2,s3]) h),Own.right (S:=[s2]) (T:=[s3]) (Own.right (S:=[s1]) (T:=[s2,s3]) h)⟩
theorem fp_in3 {s1 s2 s3:Seg}:(∀ b∈fp [s1],b∈fp [s1,s2,s3])∧(∀ b∈fp [s2],b∈fp [s1,s2,s3])∧(∀ b∈fp [s3],b∈fp [s1,s2,s3]):=by
 refine ⟨fun b hb=>?_,fun b hb=>?_,fun b hb=>?_⟩ <;> simp [fp] at hb ⊢ <;> simp [hb]
set_option maxHeartbeats 4000000 in
theorem markBook_k (B:Bo) (n:Nat) (w:World) (h:Own w B.segs) (hl:B.len) (hn:n≤900000000) :
 Calls Tryz.prog 12 #[B.v,.int .i64 (n:Int)] w fun e w'=>e=.returned (.int .i64 (markN n B:Int))∧Own w' (markBo n B).segs∧Turn (fp B.segs) w w':=by
 obtain ⟨tk,nx,wa,ca,cc,C,ha,hc,Hs,ra,rc,R⟩:=B
 have HB:=hide (rowc6 w (.int .i64 tk) (.int .i64 nx) (.int .i64 wa) (.slice ca C.length cc) (.slice ha Hs.length hc) (.slice ra R.length rc) 34)
 have HK:=hide (Keeps.alloc (Keeps.refl w) (.cells #[.int .i64 tk,.int .i64 nx,.int .i64 wa,.slice ca C.length cc,.slice ha Hs.length hc,.slice ra R.length rc] 34))
 obtain ⟨l1,l2,l3⟩:=hl
 dsimp only [Bo.v,Bo.segs,markBo] at *
 have HO0:=hide (h.kept HK.out)
 have HT0:=hide (Turn.of_keeps HK.out (fp [(ca,chs C),(ha,hts Hs),(ra,crs R)]))
 have HLT:=hide h.mem.lt
 clear h
 go_enter Tryz.func12,Tryz.ntmps12
 go_upto_region 1 with fail
 generalize w.alloc (.cells #[.int .i64 tk,.int .i64 nx,.int .i64 wa,.slice ca C.length cc,.slice ha Hs.length hc,.slice ra R.length rc] 34)=W0 at *
 have HKW:=hide (Keeps.refl W0)
 have HNB:Hid (∀ b∈fp [(ca,chs C),(ha,hts Hs),(ra,crs R)],b≠w.heap.size):=fun b hb e=>by have:=HLT.out b hb;omega
 obtain ⟨c0,c1,c2,c3,c4,c5⟩:=unhide HB W0 (Keeps.refl _)
 have HCs:Hid (∀ w',Turn (fp [(ca,chs C),(ha,hts Hs),(ra,crs R)]) W0 w'→w'.cell? ⟨w.heap.size,3,none⟩=some (.slice ca C.length cc)∧w'.cell? ⟨w.heap.size,4,none⟩=some (.slice ha Hs.length hc)∧w'.cell? ⟨w.heap.size,5,none⟩=some (.slice ra R.length rc)) :=
  fun w' ht=>⟨ht.cell (fun hx=>HNB.out _ hx rfl) c3,ht.cell (fun hx=>HNB.out _ hx rfl) c4,ht.cell (fun hx=>HNB.out _ hx rfl) c5⟩
 have HTW:=hide (Turn.refl (fp [(ca,chs C),(ha,hts Hs),(ra,crs R)]) W0)
 clear c0 c1 c2 c4 c5
 go_wp2_with fail
 refine (markChanS_k ca cc C n W0 (own3 HO0.out).1 l1 (by omega)).mono ?_
 rintro e w1 ⟨rfl,ho,ht⟩
 have HO1:Hid (Own w1 [(ca,chs (marksChn n C.length)),(ha,hts Hs),(ra,crs R)]):=Own.upd (A:=[]) (B:=[(ha,hts Hs),(ra,crs R)]) HO0.out ho (fpS_len (by rw [chs_len,chs_len,marksChn_len])) ht
 replace HTW:=hide (HTW.out.trans' (ht.mono fp_in3.1))
 clear ho ht c3 HO0
 obtain ⟨-,c4,-⟩:=HCs.out w1 HTW.out
 go_wp2_with fail
 have e7:((n+7*C.length:Nat):Int)=((n+7*C.length:Nat):Int):=rfl
 refine (markHtlcS_k ha hc Hs (n+7*C.length) w1 (own3 HO1.out).2.1 l2 (by omega)).mono ?_
 rintro e w2 ⟨rfl,ho,ht⟩
 have HO2:Hid (Own w2 [(ca,chs (marksChn n C.length)),(ha,hts (marksHtl (n+7*C.length) Hs.length)),(ra,crs R)]):=Own.upd (A:=[(ca,chs (marksChn n C.length))]) (B:=[(ra,crs R)]) HO1.out ho (fpS_len (by rw [hts_len,hts_len,marksHtl_len])) ht
 replace HTW:=hide (HTW.out.trans' (ht.mono fp_in3.2.1))
 clear ho ht c4 HO1
 obtain ⟨-,-,c5⟩:=HCs.out w2 HTW.out
 go_wp2_with fail
 refine (markCircleS_k ra rc R (n+7*C.length+7*Hs.length) w2 (own3 HO2.out).2.2 l3 (by omega)).mono ?_
 rintro e w3 ⟨rfl,ho,ht⟩
 have HO3:Hid (Own w3 [(ca,chs (marksChn n C.length)),(ha,hts (marksHtl (n+7*C.length) Hs.length)),(ra,crs (marksCrc (n+7*C.length+7*Hs.length) R.length))]):=Own.upd (A:=[(ca,chs (marksChn n C.length)),(ha,hts (marksHtl (n+7*C.length) Hs.length))]) (B:=[]) HO2.out ho (fpS_len (by rw [crs_len,crs_len,marksCrc_len])) ht
 replace HTW:=hide (HTW.out.trans' (ht.mono fp_in3.2.2))
 clear ho ht c5 HO2
 go_wp2_with fail
 go_ret
 exact ⟨rfl,HO3.out,HT0.out.trans' HTW.out⟩
set_option maxHeartbeats 4000000 in
theorem heldBook_k (B:Bo) (n:Nat) (w:World) (h:Mem w (markBo n B).segs) (hl:B.len) (hn:n≤900000000) :
 Calls Tryz.prog 14 #[B.v,.int .i64 (n:Int)] w fun e w'=>e=.returned (.int .i64 (markN n B:Int))∧Keeps w w':=by
 obtain ⟨tk,nx,wa,ca,cc,C,ha,hc,Hs,ra,rc,R⟩:=B
 have HB:=hide (rowc6 w (.int .i64 tk) (.int .i64 nx) (.int .i64 wa) (.slice ca C.length cc) (.slice ha Hs.length hc) (.slice ra R.length rc) 34)
 have HK:=hide (Keeps.alloc (Keeps.refl w) (.cells #[.int .i64 tk,.int .i64 nx,.int .i64 wa,.slice ca C.length cc,.slice ha Hs.length hc,.slice ra R.length rc] 34))
 obtain ⟨l1,l2,l3⟩:=hl
 dsimp only [Bo.v,Bo.segs,markBo] at *
 have HM:=hide (h.kept HK.out)
 clear h
 go_enter Tryz.func14,Tryz.ntmps14
 go_wp2_with fail
 generalize w.alloc (.cells #[.int .i64 tk,.int .i64 nx,.int .i64 wa,.slice ca C.length cc,.slice ha Hs.length hc,.slice ra R.length rc] 34)=W0 at *
 obtain ⟨c0,c1,c2,c3,c4,c5⟩:=unhide HB W0 (Keeps.refl _)
 refine (heldChanS_k ca cc C.length n W0 (HM.out (ca,chs (marksChn n C.length)) (by simp)) l1 (by omega)).mono ?_
 rintro e w1 ⟨rfl,hw⟩
 obtain rfl:=Eq.symm hw
 clear hw
 have p1:¬ ((n+7*C.length:Nat):Int) < 0:=by omega
 go_wp2_with fail
 refine (heldHtlcS_k ha hc Hs.length (n+7*C.length) W0 (HM.out (ha,hts (marksHtl (n+7*C.length) Hs.length)) (by simp)) l2 (by omega)).mono ?_
 rintro e w1 ⟨rfl,hw⟩
 obtain rfl:=Eq.symm hw
 clear hw
 have p2:¬ ((n+7*C.length+7*Hs.length:Nat):Int) < 0:=by omega
 go_wp2_with fail
 refine (heldCircleS_k ra rc R.length (n+7*C.length+7*Hs.length) W0 (HM.out (ra,crs (marksCrc (n+7*C.length+7*Hs.length) R.length)) (by simp)) l3 (by omega)).mono ?_
 rintro e w1 ⟨rfl,hw⟩
 obtain rfl:=Eq.symm hw
 clear hw
 have p3:¬ ((n+7*C.length+7*Hs.length+5*R.length:Nat):Int) < 0:=by omega
 go_wp2_with fail
 go_ret
 exact ⟨rfl,HK.out⟩
end Go.Proofs.YtccdhcempnkgaaaGreatDoor
