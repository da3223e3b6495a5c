/- Texts of the verifier, joined: Xn, Xo, Ya, Xd. -/
import Derived.Test.YtccdhcempnkgaaaGreatDoorPL19
import Derived.Test.YtccdhcempnkgaaaGreatDoorPL23
import Derived.Test.YtccdhcempnkgaaaGreatDoorPL22
import Derived.Test.YtccdhcempnkgaaaGreatDoorPL13
import Derived.Test.YtccdhcempnkgaaaGreatDoorPL14
import Derived.Deep.RegionLaw
import Derived.Lib.SliceRun
namespace Go.Proofs.YtccdhcempnkgaaaGreatDoor
open Go.RowKit Go.Deep
set_option linter.unusedVariables false
set_option linter.unusedSimpArgs false
set_option maxRecDepth 10000
theorem Done.mk2 {W:Wf} {w W9 w':World} {p:Nat} {B:Bo} {v:Value} {L:List Ln} {base:Nat} (hF:BoAt W w' p B) (hO:w'.ownsRow base 104 3 v L.length (flat L)) (h9:BoAt W W9 p B) (hb:W9.heap.size≤base) (hz:w.heap.size≤W9.heap.size):Done W w w' p 0 B.d L (.returned (.tuple #[v,.int .i64 0])) :=
 ⟨B,v,rfl,hF,rfl,owns_older hO (Nat.le_trans hz hb),fun b hb'=>h9.apart (Nat.le_trans hb (hO.lt b hb').1)⟩
theorem Done.no {W:Wf} {w w':World} {p:Nat} {B:Bo} {c:Int} (hF:BoAt W w' p B):Done W w w' p c B.d [] (.returned (.tuple #[.slice none 0 0,.int .i64 c])) :=
 ⟨B,_,rfl,hF,rfl,World.ownsRow_nil _ _ _ _,fun b hb=>by cases hb⟩
theorem lines_new2 (W:World) (x0 x1:Ln):Cells (W.alloc (.cells #[.int .i64 x0.k,.int .i64 x0.c,.int .i64 x0.a,.int .i64 x1.k,.int .i64 x1.c,.int .i64 x1.a] 104)) (some ⟨W.heap.size,0,none⟩) (flat [x0,x1]):=Or.inr ⟨W.heap.size,0,rfl,fun j hj=>by
 have hj':j < 6:=by simpa [flat,Ln.cells] using hj
 rcases (show j=0∨j=1∨j=2∨j=3∨j=4∨j=5 by omega) with rfl | rfl | rfl | rfl | rfl | rfl <;> simp [flat,Ln.cells]⟩
theorem lines_new3 (W:World) (x0 x1 x2:Ln):Cells (W.alloc (.cells #[.int .i64 x0.k,.int .i64 x0.c,.int .i64 x0.a,.int .i64 x1.k,.int .i64 x1.c,.int .i64 x1.a,.int .i64 x2.k,.int .i64 x2.c,.int .i64 x2.a] 104)) (some ⟨W.heap.size,0,none⟩) (flat [x0,x1,x2]):=Or.inr ⟨W.heap.size,0,rfl,fun j hj=>by
 have hj':j < 9:=by simpa [flat,Ln.cells] using hj
 rcases (show j=0∨j=1∨j=2∨j=3∨j=4∨j=5∨j=6∨j=7∨j=8 by omega) with rfl | rfl | rfl | rfl | rfl | rfl | rfl | rfl | rfl <;> simp [flat,Ln.cells]⟩
set_option maxHeartbeats 8000000 in
theorem deposit_impl (W:Wf) (w:World) (p:Nat) (tk nx wa:Int) (ca:Option Addr) (cc:Nat) (C:List Chn) (ha:Option Addr) (hc:Nat) (Hs:List Htl) (ra:Option Addr) (rc:Nat) (R:List Crc) (h:BoAt W w p ⟨tk,nx,wa,ca,cc,C,ha,hc,Hs,ra,rc,R⟩) (kd ky ch tt am fe:Int) (ys:Bool) (ha0:0≤wa∧wa≤1125899906842624) (hm0:0≤am∧am≤1125899906842624) :
 Calls Tryz.prog 117 #[.pointer (some ⟨p,0,none⟩),evV kd ky ch tt am fe ys] w fun e w'=>Done W w w' p 0 ⟨tk,nx,wa+am,C,Hs,R⟩ (nzL [⟨1,0,am⟩,⟨2,0,-am⟩]) e:=by
 have HKe:=hide (Keeps.alloc (Keeps.refl w) (.cells (evCells kd ky ch tt am fe ys) 41))
 have HRe:=hide (rw7_new w (.int .i64 kd) (.int .i64 ky) (.int .i64 ch) (.int .i64 tt) (.int .i64 am) (.int .i64 fe) (.bool ys) 41)
 have HB:=hide (h.kept HKe.out)
 have HSZ:=hide (Nat.le_refl w.heap.size)
 have HPS:=hide h.row.lt
 have HAE:=hide (h.apart (Nat.le_refl w.heap.size))
 clear h
 have hw1:IntKind.i64.wrap (wa+am)=wa+am:=by rw [IntKind.wrap_i64];omega
 have hw2:IntKind.i64.wrap (-am)=-am:=by rw [IntKind.wrap_i64];omega
 go_enter Tryz.func117,Tryz.ntmps117
 go_upto_region 1 with fail
 obtain ⟨pe,hpe⟩:∃ pe,pe=w.heap.size:=⟨_,rfl⟩
 rw [← hpe] at HRe HAE
 try rw [← hpe]
 have HPE:=hide hpe
 clear hpe
 generalize (w.alloc (.cells #[.int .i64 kd,.int .i64 ky,.int .i64 ch,.int .i64 tt,.int .i64 am,.int .i64 fe,.bool ys] 41))=w0 at *
 obtain ⟨-,-,-,-,e4,-,-⟩:=rw7_cells HRe.out
 have b2:=HB.out.cells.2.2.1
 have f2:=HB.out.row.frozen 2
 dsimp only at b2
 have hpp:pe≠p:=HAE.out.1
 have HB1:=hide (((HB.out.setWa (wa+am)).kept (Keeps.refl _).drew))
 have HR1:=hide ((row_turn HRe.out (Turn.set (fs:=[p]) (a:=⟨p,2,none⟩) (by simp) (.int .i64 (wa+am))) (by simpa using hpp)).drew)
 have HZ:Hid (w.heap.size≤((w0.setCell ⟨p,2,none⟩ (.int .i64 (wa+am))).drew).heap.size):=by show _≤_;have:=HKe.out.size;simpa using this
 go_region
 generalize (w0.setCell ⟨p,2,none⟩ (.int .i64 (wa+am))).drew=w1 at *
 replace HB:=HB1
 replace HRe:=HR1
 clear HB1 HR1 e4 b2 f2 HKe
 obtain ⟨-,-,-,-,e4,-,-⟩:=rw7_cells HRe.out
 go_upto_region 2 with fail
 have G0:=gr_cell e4
 clear e4
 refine wp_region_app [.h,.h,.h,.h,.h,.h,.h,.b,.t,.t,.t] (by kernel_rfl) (by kernel_rfl) rfl rfl rfl rfl rfl rfl rfl (fun _ _ d _ _ h=>by cases d <;> exact h) ?_
 simp only [pkU,pkF,pkH,pkT,pkB]
 refine wpUni_nil ?_
 refine wpFlo_nil ?_
 repeat (go_big_quiet_step (first | (go_at_call 135;exact gr_call (hubLine_impl _ _ _)) | (go_at_call 138;exact gr_call (chanLine_impl _ _ _ _))))
 refine wpQuiet_nil ?_
 refine ⟨rfl,?_⟩
 rintro w9 ⟨t9,rfl⟩ K9 hK9
 go_simp
 refine hK9.out _ _ (gr_gr (Keeps.alloc (Keeps.refl _) _)) ?_
 clear hK9 K9
 have HB9:=hide (HB.out.kept (gr_keeps w1 t9))
 have HZ9:=hide (gr_keeps w1 t9).size
 have HZ8:=hide HB.out.row.lt
 generalize gr w1 t9=W9 at *
 have HKa:=hide (Keeps.alloc (Keeps.refl W9) (.cells #[.int .i64 1,.int .i64 0,.int .i64 am,.int .i64 2,.int .i64 0,.int .i64 (-am)] 104))
 have HG:=hide (gath_impl (some ⟨W9.heap.size,0,none⟩) 2 [⟨1,0,am⟩,⟨2,0,-am⟩] _ (lines_new2 W9 ⟨1,0,am⟩ ⟨2,0,-am⟩) (by simp) (by simp [lessB]))
 clear G0 HRe
 go_wp2_with fail
 refine (unhide HG).mono ?_
 rintro e w' ⟨v,rfl,ho,hk⟩
 have HF:=hide (HB9.out.kept (HKa.out.trans hk))
 have HO:=hide ho
 clear ho hk HG HB
 go_wp2_with fail
 go_ret2
 exact Done.mk2 HF.out HO.out HB9.out HKa.out.size (Nat.le_trans HZ.out HZ9.out)
end Go.Proofs.YtccdhcempnkgaaaGreatDoor
namespace Go.Proofs.YtccdhcempnkgaaaGreatDoor
open Go.RowKit Go.Deep
set_option linter.unusedVariables false
set_option linter.unusedSimpArgs false
set_option maxRecDepth 10000
theorem BoAt.put2 {W:Wf} {w:World} {p:Nat} {tk nx wa:Int} {g cc:Nat} {C:List Chn} {ha:Option Addr} {hc:Nat} {Hs:List Htl} {ra:Option Addr} {rc:Nat} {R:List Crc} (h:BoAt W w p ⟨tk,nx,wa,some ⟨g,0,none⟩,cc,C,ha,hc,Hs,ra,rc,R⟩) (i:Nat) (hi:i < C.length) (u:Int) :
 BoAt W (w.setCell ⟨g,i*7+2,none⟩ (.int .i64 u)) p ⟨tk,nx,wa,some ⟨g,0,none⟩,cc,C.set i ⟨C[i].id,C[i].sz,u,C[i].re,C[i].ba,C[i].pp,C[i].sc⟩,ha,hc,Hs,ra,rc,R⟩ :=
 h.setC (grown_turn (h.oC.set2 i hi u).2) (h.oC.set2 i hi u).1 (by simp)
theorem BoAt.put3 {W:Wf} {w:World} {p:Nat} {tk nx wa:Int} {g cc:Nat} {C:List Chn} {ha:Option Addr} {hc:Nat} {Hs:List Htl} {ra:Option Addr} {rc:Nat} {R:List Crc} (h:BoAt W w p ⟨tk,nx,wa,some ⟨g,0,none⟩,cc,C,ha,hc,Hs,ra,rc,R⟩) (i:Nat) (hi:i < C.length) (u:Int) :
 BoAt W (w.setCell ⟨g,i*7+3,none⟩ (.int .i64 u)) p ⟨tk,nx,wa,some ⟨g,0,none⟩,cc,C.set i ⟨C[i].id,C[i].sz,C[i].lo,u,C[i].ba,C[i].pp,C[i].sc⟩,ha,hc,Hs,ra,rc,R⟩ :=
 h.setC (grown_turn (h.oC.set3 i hi u).2) (h.oC.set3 i hi u).1 (by simp)
theorem BoAt.put4 {W:Wf} {w:World} {p:Nat} {tk nx wa:Int} {g cc:Nat} {C:List Chn} {ha:Option Addr} {hc:Nat} {Hs:List Htl} {ra:Option Addr} {rc:Nat} {R:List Crc} (h:BoAt W w p ⟨tk,nx,wa,some ⟨g,0,none⟩,cc,C,ha,hc,Hs,ra,rc,R⟩) (i:Nat) (hi:i < C.length) (u:Int) :
 BoAt W (w.setCell ⟨g,i*7+4,none⟩ (.int .i64 u)) p ⟨tk,nx,wa,some ⟨g,0,none⟩,cc,C.set i ⟨C[i].id,C[i].sz,C[i].lo,C[i].re,u,C[i].pp,C[i].sc⟩,ha,hc,Hs,ra,rc,R⟩ :=
 h.setC (grown_turn (h.oC.set4 i hi u).2) (h.oC.set4 i hi u).1 (by simp)
theorem BoAt.put5 {W:Wf} {w:World} {p:Nat} {tk nx wa:Int} {g cc:Nat} {C:List Chn} {ha:Option Addr} {hc:Nat} {Hs:List Htl} {ra:Option Addr} {rc:Nat} {R:List Crc} (h:BoAt W w p ⟨tk,nx,wa,some ⟨g,0,none⟩,cc,C,ha,hc,Hs,ra,rc,R⟩) (i:Nat) (hi:i < C.length) (u:Int) :
 BoAt W (w.setCell ⟨g,i*7+5,none⟩ (.int .i64 u)) p ⟨tk,nx,wa,some ⟨g,0,none⟩,cc,C.set i ⟨C[i].id,C[i].sz,C[i].lo,C[i].re,C[i].ba,u,C[i].sc⟩,ha,hc,Hs,ra,rc,R⟩ :=
 h.setC (grown_turn (h.oC.set5 i hi u).2) (h.oC.set5 i hi u).1 (by simp)
theorem BoAt.put6 {W:Wf} {w:World} {p:Nat} {tk nx wa:Int} {g cc:Nat} {C:List Chn} {ha:Option Addr} {hc:Nat} {Hs:List Htl} {ra:Option Addr} {rc:Nat} {R:List Crc} (h:BoAt W w p ⟨tk,nx,wa,some ⟨g,0,none⟩,cc,C,ha,hc,Hs,ra,rc,R⟩) (i:Nat) (hi:i < C.length) (u:Int) :
 BoAt W (w.setCell ⟨g,i*7+6,none⟩ (.int .i64 u)) p ⟨tk,nx,wa,some ⟨g,0,none⟩,cc,C.set i ⟨C[i].id,C[i].sz,C[i].lo,C[i].re,C[i].ba,C[i].pp,u⟩,ha,hc,Hs,ra,rc,R⟩ :=
 h.setC (grown_turn (h.oC.set6 i hi u).2) (h.oC.set6 i hi u).1 (by simp)
def Out (W:Wf) (w w':World) (p:Nat) (c:Int) (K0 K:Bk) (L:List Ln) (e:Ending):Prop:=Done W w w' p c (if c=0 then K else K0) (if c=0 then L else []) e
theorem Out.no {W:Wf} {w w':World} {p:Nat} {B:Bo} {c d:Int} {K:Bk} {L:List Ln} (hc:c=d) (hd:d≠0) (hF:BoAt W w' p B):Out W w w' p c B.d K L (.returned (.tuple #[.slice none 0 0,.int .i64 d])):=by
 subst hc
 unfold Out
 rw [if_neg hd,if_neg hd]
 exact Done.no hF
theorem Out.yes {W:Wf} {w w':World} {p:Nat} {c:Int} {K0 K:Bk} {L:List Ln} {e:Ending} (hc:c=0) (h:Done W w w' p 0 K L e):Out W w w' p c K0 K L e:=by
 subst hc
 unfold Out
 rw [if_pos rfl,if_pos rfl]
 exact h
def priceK (B:Bk) (ch:Int):Int:=if atC B.C ch=none then 6 else 0
def priceB (B:Bk) (ch am fe:Int):Bk:=⟨B.tk,B.nx,B.wa,(match atC B.C ch with | some i=>B.C.modify i (fun c=>⟨c.id,c.sz,c.lo,c.re,am,fe,c.sc⟩) | none=>B.C),B.Hs,B.R⟩
set_option maxHeartbeats 8000000 in
theorem price_impl (W:Wf) (w:World) (p:Nat) (tk nx wa:Int) (ca:Option Addr) (cc:Nat) (C:List Chn) (ha:Option Addr) (hc:Nat) (Hs:List Htl) (ra:Option Addr) (rc:Nat) (R:List Crc) (h:BoAt W w p ⟨tk,nx,wa,ca,cc,C,ha,hc,Hs,ra,rc,R⟩) (kd ky ch tt am fe:Int) (ys:Bool) (hlc:C.length≤20) :
 Calls Tryz.prog 120 #[.pointer (some ⟨p,0,none⟩),evV kd ky ch tt am fe ys] w fun e w'=>Out W w w' p (priceK ⟨tk,nx,wa,C,Hs,R⟩ ch) ⟨tk,nx,wa,C,Hs,R⟩ (priceB ⟨tk,nx,wa,C,Hs,R⟩ ch am fe) ([]) e:=by
 cases hat:atC C ch with
 | none =>
   have hpl:placeC ca (atC C ch)=none:=by rw [hat,placeC_none]
   have HC:Hid (priceK ⟨tk,nx,wa,C,Hs,R⟩ ch=6):=by show _=_;simp [priceK,hat]
   have HKe:=hide (Keeps.alloc (Keeps.refl w) (.cells (evCells kd ky ch tt am fe ys) 41))
   have HRe:=hide (rw7_new w (.int .i64 kd) (.int .i64 ky) (.int .i64 ch) (.int .i64 tt) (.int .i64 am) (.int .i64 fe) (.bool ys) 41)
   have HB:=hide (h.kept HKe.out)
   have HSZ:=hide (Nat.le_refl w.heap.size)
   have HPS:=hide h.row.lt
   have HAE:=hide (h.apart (Nat.le_refl w.heap.size))
   clear h hat
   go_enter Tryz.func120,Tryz.ntmps120
   go_upto_region 1 with fail
   obtain ⟨pe,hpe⟩:∃ pe,pe=w.heap.size:=⟨_,rfl⟩
   rw [← hpe] at HRe HAE
   try rw [← hpe]
   have HPE:=hide hpe
   clear hpe
   generalize (w.alloc (.cells #[.int .i64 kd,.int .i64 ky,.int .i64 ch,.int .i64 tt,.int .i64 am,.int .i64 fe,.bool ys] 41))=w0 at *
   have HZ:=hide HKe.out.size
   clear HKe
   obtain ⟨-,-,e2,-,-,-,-⟩:=rw7_cells HRe.out
   go_wp2_with fail
   refine (chanw p ca cc C ch w0 HB.out.cells.2.2.2.1 (Bo.memC HB.out.mem) (Nat.le_trans hlc (by decide)) hpl).mono ?_
   rintro e w1 ⟨rfl,hk⟩
   replace HB:=hide (HB.out.kept hk)
   replace HRe:=hide (hk.rowK HRe.out)
   replace HZ:=hide (Nat.le_trans HZ.out hk.size)
   clear hk
   go_wp2_with fail
   go_ret2
   exact Out.no HC.out (by decide) HB.out
 | some i =>
   obtain ⟨hi,hid⟩:=atC_lt hat
   obtain ⟨g,rfl⟩:∃ g,ca=some ⟨g,0,none⟩:=by
    obtain ⟨g,cap,e,-⟩:=h.oC.form (show 0 < C.length by omega)
    injection e with e _ _
    exact ⟨g,e⟩
   have hpl:placeC (some ⟨g,0,none⟩) (atC C ch)=some ⟨g,i*7,none⟩:=by rw [hat];simp [placeC]
   have HC:Hid (priceK ⟨tk,nx,wa,C,Hs,R⟩ ch=0):=by show _=_;simp [priceK,hat]
   have HP:Hid (priceB ⟨tk,nx,wa,C,Hs,R⟩ ch am fe=⟨tk,nx,wa,C.set i ⟨C[i].id,C[i].sz,C[i].lo,C[i].re,am,fe,C[i].sc⟩,Hs,R⟩):=by show _=_;simp only [priceB,hat];rw [modify_at _ _ _ hi]
   have HKe:=hide (Keeps.alloc (Keeps.refl w) (.cells (evCells kd ky ch tt am fe ys) 41))
   have HRe:=hide (rw7_new w (.int .i64 kd) (.int .i64 ky) (.int .i64 ch) (.int .i64 tt) (.int .i64 am) (.int .i64 fe) (.bool ys) 41)
   have HB:=hide (h.kept HKe.out)
   have HSZ:=hide (Nat.le_refl w.heap.size)
   have HPS:=hide h.row.lt
   have HAE:=hide (h.apart (Nat.le_refl w.heap.size))
   clear h hat hid
   go_enter Tryz.func120,Tryz.ntmps120
   go_upto_region 1 with fail
   obtain ⟨pe,hpe⟩:∃ pe,pe=w.heap.size:=⟨_,rfl⟩
   rw [← hpe] at HRe HAE
   try rw [← hpe]
   have HPE:=hide hpe
   clear hpe
   generalize (w.alloc (.cells #[.int .i64 kd,.int .i64 ky,.int .i64 ch,.int .i64 tt,.int .i64 am,.int .i64 fe,.bool ys] 41))=w0 at *
   have HZ:=hide HKe.out.size
   clear HKe
   obtain ⟨-,-,e2,-,-,-,-⟩:=rw7_cells HRe.out
   go_wp2_with fail
   refine (chanw p _ cc C ch w0 HB.out.cells.2.2.2.1 (Bo.memC HB.out.mem) (Nat.le_trans hlc (by decide)) hpl).mono ?_
   rintro e w1 ⟨rfl,hk⟩
   replace HB:=hide (HB.out.kept hk)
   replace HRe:=hide (hk.rowK HRe.out)
   replace HZ:=hide (Nat.le_trans HZ.out hk.size)
   clear hk
   clear e2 hpl
   obtain ⟨-,-,-,-,e4,e5,-⟩:=rw7_cells HRe.out
   obtain ⟨-,-,-,-,y4,y5,-⟩:=HB.out.oC.at i hi
   have f4:=HB.out.oC.frz (i*7+4)
   have f5:=HB.out.oC.frz (i*7+5)
   have hgp:pe≠g:=fun e=>HAE.out.2.1 (by simp [lb,e])
   have HB1:=hide ((HB.out.put4 i hi am).put5 i (by simpa using hi) fe)
   go_upto_region 4 with fail
   go_region
   replace HB:=hide (HB1.out.kept (Keeps.refl _).drew)
   generalize World.drew _=w2 at *
   simp only [List.getElem_set_self,List.set_set] at HB
   go_wp2_with fail
   go_ret2
   refine Out.yes HC.out ?_
   rw [HP.out]
   exact Done.no HB.out
end Go.Proofs.YtccdhcempnkgaaaGreatDoor
namespace Go.Proofs.YtccdhcempnkgaaaGreatDoor
open Go.RowKit Go.Deep
set_option linter.unusedVariables false
set_option linter.unusedSimpArgs false
set_option maxRecDepth 10000
def pastB (B:Bk) (k ch am fe:Int):Bool :=
 if B.nx=1125899906842624 then true
 else if k=1 then decide (1125899906842624 < B.wa+am)
 else if k=2 then decide (1125899906842624 < am+fe)
 else if k=3 then (atC B.C ch).isSome && decide (1125899906842624 < B.wa+loC B.C ch-fe)
 else if k=8 then B.tk==1125899906842624
 else false
theorem deed1 (w:World):Calls Tryz.prog 97 #[.int .i64 1] w fun e w'=>e=.returned (.func (.func 117) #[] #[])∧w'=w:=by
 go_enter Tryz.func97,Tryz.ntmps97
 go_wp2_with fail
 go_ret
 exact ⟨rfl,rfl⟩
theorem deed2 (w:World):Calls Tryz.prog 97 #[.int .i64 2] w fun e w'=>e=.returned (.func (.func 118) #[] #[])∧w'=w:=by
 go_enter Tryz.func97,Tryz.ntmps97
 go_wp2_with fail
 go_ret
 exact ⟨rfl,rfl⟩
theorem deed3 (w:World):Calls Tryz.prog 97 #[.int .i64 3] w fun e w'=>e=.returned (.func (.func 119) #[] #[])∧w'=w:=by
 go_enter Tryz.func97,Tryz.ntmps97
 go_wp2_with fail
 go_ret
 exact ⟨rfl,rfl⟩
theorem deed4 (w:World):Calls Tryz.prog 97 #[.int .i64 4] w fun e w'=>e=.returned (.func (.func 120) #[] #[])∧w'=w:=by
 go_enter Tryz.func97,Tryz.ntmps97
 go_wp2_with fail
 go_ret
 exact ⟨rfl,rfl⟩
theorem deed5 (w:World):Calls Tryz.prog 97 #[.int .i64 5] w fun e w'=>e=.returned (.func (.func 121) #[] #[])∧w'=w:=by
 go_enter Tryz.func97,Tryz.ntmps97
 go_wp2_with fail
 go_ret
 exact ⟨rfl,rfl⟩
theorem deed6 (w:World):Calls Tryz.prog 97 #[.int .i64 6] w fun e w'=>e=.returned (.func (.func 122) #[] #[])∧w'=w:=by
 go_enter Tryz.func97,Tryz.ntmps97
 go_wp2_with fail
 go_ret
 exact ⟨rfl,rfl⟩
theorem deed7 (w:World):Calls Tryz.prog 97 #[.int .i64 7] w fun e w'=>e=.returned (.func (.func 123) #[] #[])∧w'=w:=by
 go_enter Tryz.func97,Tryz.ntmps97
 go_wp2_with fail
 go_ret
 exact ⟨rfl,rfl⟩
theorem deed8 (w:World):Calls Tryz.prog 97 #[.int .i64 8] w fun e w'=>e=.returned (.func (.func 124) #[] #[])∧w'=w:=by
 go_enter Tryz.func97,Tryz.ntmps97
 go_wp2_with fail
 go_ret
 exact ⟨rfl,rfl⟩
theorem deed9 (w:World):Calls Tryz.prog 97 #[.int .i64 9] w fun e w'=>e=.returned (.func (.func 125) #[] #[])∧w'=w:=by
 go_enter Tryz.func97,Tryz.ntmps97
 go_wp2_with fail
 go_ret
 exact ⟨rfl,rfl⟩
theorem deed10 (w:World):Calls Tryz.prog 97 #[.int .i64 10] w fun e w'=>e=.returned (.func (.func 126) #[] #[])∧w'=w:=by
 go_enter Tryz.func97,Tryz.ntmps97
 go_wp2_with fail
 go_ret
 exact ⟨rfl,rfl⟩
theorem deed11 (w:World):Calls Tryz.prog 97 #[.int .i64 11] w fun e w'=>e=.returned (.func (.func 127) #[] #[])∧w'=w:=by
 go_enter Tryz.func97,Tryz.ntmps97
 go_wp2_with fail
 go_ret
 exact ⟨rfl,rfl⟩
set_option maxHeartbeats 4000000 in
theorem past1 (p:Nat) (tk nx wa:Int) (ca:Option Addr) (cc:Nat) (C:List Chn) (ha:Option Addr) (hc:Nat) (Hs:List Htl) (ra:Option Addr) (rc:Nat) (R:List Crc) (w:World) (hb:BookAt w p ⟨tk,nx,wa,ca,cc,C,ha,hc,Hs,ra,rc,R⟩) (hm:Mem w (Bo.segs ⟨tk,nx,wa,ca,cc,C,ha,hc,Hs,ra,rc,R⟩)) (ky ch tt am fe:Int) (ys:Bool) (hlc:C.length≤20) (hwa:0≤wa∧wa≤1125899906842624) (ham:0≤am∧am≤1125899906842624) (hfe:0≤fe∧fe≤1125899906842624) (hlo:∀ c∈C,0≤c.lo∧c.lo≤1125899906842624) :
 Calls Tryz.prog 96 #[.pointer (some ⟨p,0,none⟩),evV 1 ky ch tt am fe ys] w fun e w'=>e=.returned (.bool (pastB ⟨tk,nx,wa,C,Hs,R⟩ 1 ch am fe))∧Keeps w w':=by
 have HK:=hide (Keeps.alloc (Keeps.refl w) (.cells #[.int .i64 1,.int .i64 ky,.int .i64 ch,.int .i64 tt,.int .i64 am,.int .i64 fe,.bool ys] 41))
 have HB:=hide (hb.kept HK.out)
 have HM:=hide (hm.kept HK.out)
 have HR:=hide (rw7_new w (.int .i64 1) (.int .i64 ky) (.int .i64 ch) (.int .i64 tt) (.int .i64 am) (.int .i64 fe) (.bool ys) 41)
 clear hb hm
 by_cases hn:nx=1125899906842624
 ·have HV:Hid (pastB ⟨tk,nx,wa,C,Hs,R⟩ 1 ch am fe=true):=by show _=_;simp [pastB,hn]
  have hd:(nx==1125899906842624)=true:=by simpa using hn
  clear hn
  go_enter Tryz.func96,Tryz.ntmps96
  go_upto_region 1 with fail
  generalize (w.alloc (.cells #[.int .i64 1,.int .i64 ky,.int .i64 ch,.int .i64 tt,.int .i64 am,.int .i64 fe,.bool ys] 41))=w0 at *
  have b1:=HB.out.2.1
  dsimp only at b1
  go_wp2_with fail
  go_ret
  exact ⟨ret_b HV.out.symm,HK.out⟩
 have hd:(nx==1125899906842624)=false:=by simpa using hn
 have HV:Hid (pastB ⟨tk,nx,wa,C,Hs,R⟩ 1 ch am fe=decide (1125899906842624 < wa+am)):=by show _=_;simp [pastB,hn]
 have hw:IntKind.i64.wrap (wa+am)=wa+am:=by rw [IntKind.wrap_i64];omega
 clear hn
 go_enter Tryz.func96,Tryz.ntmps96
 go_upto_region 1 with fail
 obtain ⟨pe,hpe⟩:∃ pe,pe=w.heap.size:=⟨_,rfl⟩
 rw [← hpe] at HR
 try rw [← hpe]
 clear hpe
 generalize (w.alloc (.cells #[.int .i64 1,.int .i64 ky,.int .i64 ch,.int .i64 tt,.int .i64 am,.int .i64 fe,.bool ys] 41))=w0 at *
 obtain ⟨b0,b1,b2,b3,b4,b5⟩:=HB.out
 dsimp only at b0 b1 b2 b3 b4 b5
 obtain ⟨e0,e1,e2,e3,e4,e5,e6⟩:=rw7_cells HR.out
 go_upto_region 5 with fail
 go_region
 go_wp2_with fail
 go_ret
 exact ⟨ret_b HV.out.symm,HK.out.drew⟩
set_option maxHeartbeats 4000000 in
theorem past2 (p:Nat) (tk nx wa:Int) (ca:Option Addr) (cc:Nat) (C:List Chn) (ha:Option Addr) (hc:Nat) (Hs:List Htl) (ra:Option Addr) (rc:Nat) (R:List Crc) (w:World) (hb:BookAt w p ⟨tk,nx,wa,ca,cc,C,ha,hc,Hs,ra,rc,R⟩) (hm:Mem w (Bo.segs ⟨tk,nx,wa,ca,cc,C,ha,hc,Hs,ra,rc,R⟩)) (ky ch tt am fe:Int) (ys:Bool) (hlc:C.length≤20) (hwa:0≤wa∧wa≤1125899906842624) (ham:0≤am∧am≤1125899906842624) (hfe:0≤fe∧fe≤1125899906842624) (hlo:∀ c∈C,0≤c.lo∧c.lo≤1125899906842624) :
 Calls Tryz.prog 96 #[.pointer (some ⟨p,0,none⟩),evV 2 ky ch tt am fe ys] w fun e w'=>e=.returned (.bool (pastB ⟨tk,nx,wa,C,Hs,R⟩ 2 ch am fe))∧Keeps w w':=by
 have HK:=hide (Keeps.alloc (Keeps.refl w) (.cells #[.int .i64 2,.int .i64 ky,.int .i64 ch,.int .i64 tt,.int .i64 am,.int .i64 fe,.bool ys] 41))
 have HB:=hide (hb.kept HK.out)
 have HM:=hide (hm.kept HK.out)
 have HR:=hide (rw7_new w (.int .i64 2) (.int .i64 ky) (.int .i64 ch) (.int .i64 tt) (.int .i64 am) (.int .i64 fe) (.bool ys) 41)
 clear hb hm
 by_cases hn:nx=1125899906842624
 ·have HV:Hid (pastB ⟨tk,nx,wa,C,Hs,R⟩ 2 ch am fe=true):=by show _=_;simp [pastB,hn]
  have hd:(nx==1125899906842624)=true:=by simpa using hn
  clear hn
  go_enter Tryz.func96,Tryz.ntmps96
  go_upto_region 1 with fail
  generalize (w.alloc (.cells #[.int .i64 2,.int .i64 ky,.int .i64 ch,.int .i64 tt,.int .i64 am,.int .i64 fe,.bool ys] 41))=w0 at *
  have b1:=HB.out.2.1
  dsimp only at b1
  go_wp2_with fail
  go_ret
  exact ⟨ret_b HV.out.symm,HK.out⟩
 have hd:(nx==1125899906842624)=false:=by simpa using hn
 have HV:Hid (pastB ⟨tk,nx,wa,C,Hs,R⟩ 2 ch am fe=decide (1125899906842624 < am+fe)):=by show _=_;simp [pastB,hn]
 have hw:IntKind.i64.wrap (am+fe)=am+fe:=by rw [IntKind.wrap_i64];omega
 clear hn
 go_enter Tryz.func96,Tryz.ntmps96
 go_upto_region 1 with fail
 obtain ⟨pe,hpe⟩:∃ pe,pe=w.heap.size:=⟨_,rfl⟩
 rw [← hpe] at HR
 try rw [← hpe]
 clear hpe
 generalize (w.alloc (.cells #[.int .i64 2,.int .i64 ky,.int .i64 ch,.int .i64 tt,.int .i64 am,.int .i64 fe,.bool ys] 41))=w0 at *
 obtain ⟨b0,b1,b2,b3,b4,b5⟩:=HB.out
 dsimp only at b0 b1 b2 b3 b4 b5
 obtain ⟨e0,e1,e2,e3,e4,e5,e6⟩:=rw7_cells HR.out
 go_wp2_with fail
 go_ret
 exact ⟨ret_b HV.out.symm,HK.out⟩
set_option maxHeartbeats 4000000 in
theorem past3 (p:Nat) (tk nx wa:Int) (ca:Option Addr) (cc:Nat) (C:List Chn) (ha:Option Addr) (hc:Nat) (Hs:List Htl) (ra:Option Addr) (rc:Nat) (R:List Crc) (w:World) (hb:BookAt w p ⟨tk,nx,wa,ca,cc,C,ha,hc,Hs,ra,rc,R⟩) (hm:Mem w (Bo.segs ⟨tk,nx,wa,ca,cc,C,ha,hc,Hs,ra,rc,R⟩)) (ky ch tt am fe:Int) (ys:Bool) (hlc:C.length≤20) (hwa:0≤wa∧wa≤1125899906842624) (ham:0≤am∧am≤1125899906842624) (hfe:0≤fe∧fe≤1125899906842624) (hlo:∀ c∈C,0≤c.lo∧c.lo≤1125899906842624) :
 Calls Tryz.prog 96 #[.pointer (some ⟨p,0,none⟩),evV 3 ky ch tt am fe ys] w fun e w'=>e=.returned (.bool (pastB ⟨tk,nx,wa,C,Hs,R⟩ 3 ch am fe))∧Keeps w w':=by
 have HK:=hide (Keeps.alloc (Keeps.refl w) (.cells #[.int .i64 3,.int .i64 ky,.int .i64 ch,.int .i64 tt,.int .i64 am,.int .i64 fe,.bool ys] 41))
 have HB:=hide (hb.kept HK.out)
 have HM:=hide (hm.kept HK.out)
 have HR:=hide (rw7_new w (.int .i64 3) (.int .i64 ky) (.int .i64 ch) (.int .i64 tt) (.int .i64 am) (.int .i64 fe) (.bool ys) 41)
 clear hb hm
 by_cases hn:nx=1125899906842624
 ·have HV:Hid (pastB ⟨tk,nx,wa,C,Hs,R⟩ 3 ch am fe=true):=by show _=_;simp [pastB,hn]
  have hd:(nx==1125899906842624)=true:=by simpa using hn
  clear hn
  go_enter Tryz.func96,Tryz.ntmps96
  go_upto_region 1 with fail
  generalize (w.alloc (.cells #[.int .i64 3,.int .i64 ky,.int .i64 ch,.int .i64 tt,.int .i64 am,.int .i64 fe,.bool ys] 41))=w0 at *
  have b1:=HB.out.2.1
  dsimp only at b1
  go_wp2_with fail
  go_ret
  exact ⟨ret_b HV.out.symm,HK.out⟩
 have hd:(nx==1125899906842624)=false:=by simpa using hn
 cases hat:atC C ch with
 | none =>
   have HV:Hid (pastB ⟨tk,nx,wa,C,Hs,R⟩ 3 ch am fe=false):=by show _=_;simp [pastB,hn,hat]
   have hpl:placeC ca (atC C ch)=none:=by rw [hat,placeC_none]
   clear hn hat
   go_enter Tryz.func96,Tryz.ntmps96
   go_upto_region 1 with fail
   obtain ⟨pe,hpe⟩:∃ pe,pe=w.heap.size:=⟨_,rfl⟩
   rw [← hpe] at HR
   try rw [← hpe]
   clear hpe
   generalize (w.alloc (.cells #[.int .i64 3,.int .i64 ky,.int .i64 ch,.int .i64 tt,.int .i64 am,.int .i64 fe,.bool ys] 41))=w0 at *
   obtain ⟨b0,b1,b2,b3,b4,b5⟩:=HB.out
   dsimp only at b0 b1 b2 b3 b4 b5
   obtain ⟨e0,e1,e2,e3,e4,e5,e6⟩:=rw7_cells HR.out
   go_wp2_with fail
   refine (chanw p ca cc C ch w0 b3 (Bo.memC HM.out) (Nat.le_trans hlc (by decide)) hpl).mono ?_
   rintro e w1 ⟨rfl,hk⟩
   have HK1:=hide (HK.out.trans hk)
   replace b2:=hk.cell b2
   replace e5:=hk.cell e5
   clear hk b0 b1 b3 b4 b5 e0 e1 e2 e3 e4 e6
   go_upto_region 10 with fail
   have D2:=gr_cell b2
   have D5:=gr_cell e5
   refine region_gr (by kernel_rfl) (by kernel_rfl) ?_
   repeat (go_big_quiet_step (fail))
   refine wpQuiet_nil ?_
   intro w2 hw'
   have HK2:=hide (HK1.out.trans (Keeps.of_gr hw'))
   clear hw' D2 D5
   go_wp2_with fail
   go_ret
   exact ⟨ret_b HV.out.symm,HK2.out⟩
 | some i =>
   obtain ⟨hi,-⟩:=atC_lt hat
   obtain ⟨g,off,ea,-,-,y2,-,-,-,-⟩:=chs_at (Bo.memC HM.out) i hi
   subst ea
   have HLO:=hide (hlo _ (List.getElem_mem hi))
   have HV:Hid (pastB ⟨tk,nx,wa,C,Hs,R⟩ 3 ch am fe=decide (1125899906842624 < wa+C[i].lo-fe)):=by show _=_;simp [pastB,hn,hat,loC_at hat hi]
   have hpl:placeC (some ⟨g,off,none⟩) (atC C ch)=some ⟨g,off+i*7,none⟩:=by rw [hat];rfl
   generalize C[i].lo=lo at *
   have hll:=HLO.out
   have hw1:IntKind.i64.wrap (wa+lo)=wa+lo:=by rw [IntKind.wrap_i64];omega
   have hw2:IntKind.i64.wrap (wa+lo-fe)=wa+lo-fe:=by rw [IntKind.wrap_i64];omega
   clear hn hat
   go_enter Tryz.func96,Tryz.ntmps96
   go_upto_region 1 with fail
   obtain ⟨pe,hpe⟩:∃ pe,pe=w.heap.size:=⟨_,rfl⟩
   rw [← hpe] at HR
   try rw [← hpe]
   clear hpe
   generalize (w.alloc (.cells #[.int .i64 3,.int .i64 ky,.int .i64 ch,.int .i64 tt,.int .i64 am,.int .i64 fe,.bool ys] 41))=w0 at *
   obtain ⟨b0,b1,b2,b3,b4,b5⟩:=HB.out
   dsimp only at b0 b1 b2 b3 b4 b5
   obtain ⟨e0,e1,e2,e3,e4,e5,e6⟩:=rw7_cells HR.out
   go_wp2_with fail
   refine (chanw p _ cc C ch w0 b3 (Bo.memC HM.out) (Nat.le_trans hlc (by decide)) hpl).mono ?_
   rintro e w1 ⟨rfl,hk⟩
   have HK1:=hide (HK.out.trans hk)
   replace b2:=hk.cell b2
   replace e5:=hk.cell e5
   replace y2:=hk.cell y2
   clear hk b0 b1 b3 b4 b5 e0 e1 e2 e3 e4 e6
   go_upto_region 10 with fail
   have D2:=gr_cell b2
   have D5:=gr_cell e5
   have D6:=gr_cell y2
   refine region_gr (by kernel_rfl) (by kernel_rfl) ?_
   repeat (go_big_quiet_step (fail))
   refine wpQuiet_nil ?_
   intro w2 hw'
   have HK2:=hide (HK1.out.trans (Keeps.of_gr hw'))
   clear hw' D2 D5 D6
   go_wp2_with fail
   go_ret
   exact ⟨ret_b HV.out.symm,HK2.out⟩
set_option maxHeartbeats 4000000 in
theorem pastO (kd:Int) (hkd:kd=4∨kd=5∨kd=6∨kd=7∨kd=9∨kd=10∨kd=11) (p:Nat) (tk nx wa:Int) (ca:Option Addr) (cc:Nat) (C:List Chn) (ha:Option Addr) (hc:Nat) (Hs:List Htl) (ra:Option Addr) (rc:Nat) (R:List Crc) (w:World) (hb:BookAt w p ⟨tk,nx,wa,ca,cc,C,ha,hc,Hs,ra,rc,R⟩) (hm:Mem w (Bo.segs ⟨tk,nx,wa,ca,cc,C,ha,hc,Hs,ra,rc,R⟩)) (ky ch tt am fe:Int) (ys:Bool) (hlc:C.length≤20) (hwa:0≤wa∧wa≤1125899906842624) (ham:0≤am∧am≤1125899906842624) (hfe:0≤fe∧fe≤1125899906842624) (hlo:∀ c∈C,0≤c.lo∧c.lo≤1125899906842624) :
 Calls Tryz.prog 96 #[.pointer (some ⟨p,0,none⟩),evV kd ky ch tt am fe ys] w fun e w'=>e=.returned (.bool (pastB ⟨tk,nx,wa,C,Hs,R⟩ kd ch am fe))∧Keeps w w':=by
 have HK:=hide (Keeps.alloc (Keeps.refl w) (.cells #[.int .i64 kd,.int .i64 ky,.int .i64 ch,.int .i64 tt,.int .i64 am,.int .i64 fe,.bool ys] 41))
 have HB:=hide (hb.kept HK.out)
 have HM:=hide (hm.kept HK.out)
 have HR:=hide (rw7_new w (.int .i64 kd) (.int .i64 ky) (.int .i64 ch) (.int .i64 tt) (.int .i64 am) (.int .i64 fe) (.bool ys) 41)
 clear hb hm
 have HKD:=hide hkd
 clear hkd
 by_cases hn:nx=1125899906842624
 ·have HV:Hid (pastB ⟨tk,nx,wa,C,Hs,R⟩ kd ch am fe=true):=by show _=_;simp [pastB,hn]
  have hd:(nx==1125899906842624)=true:=by simpa using hn
  clear hn
  go_enter Tryz.func96,Tryz.ntmps96
  go_upto_region 1 with fail
  generalize (w.alloc (.cells #[.int .i64 kd,.int .i64 ky,.int .i64 ch,.int .i64 tt,.int .i64 am,.int .i64 fe,.bool ys] 41))=w0 at *
  have b1:=HB.out.2.1
  dsimp only at b1
  go_wp2_with fail
  go_ret
  exact ⟨ret_b HV.out.symm,HK.out⟩
 have hd:(nx==1125899906842624)=false:=by simpa using hn
 have HV:Hid (pastB ⟨tk,nx,wa,C,Hs,R⟩ kd ch am fe=false):=by
  show _=_
  rcases HKD.out with rfl | rfl | rfl | rfl | rfl | rfl | rfl <;> simp [pastB,hn]
 clear hn
 go_enter Tryz.func96,Tryz.ntmps96
 go_upto_region 1 with fail
 obtain ⟨pe,hpe⟩:∃ pe,pe=w.heap.size:=⟨_,rfl⟩
 rw [← hpe] at HR
 try rw [← hpe]
 clear hpe
 generalize (w.alloc (.cells #[.int .i64 kd,.int .i64 ky,.int .i64 ch,.int .i64 tt,.int .i64 am,.int .i64 fe,.bool ys] 41))=w0 at *
 rcases HKD.out with rfl | rfl | rfl | rfl | rfl | rfl | rfl
 all_goals (
  obtain ⟨b0,b1,b2,b3,b4,b5⟩:=HB.out
  dsimp only at b0 b1 b2 b3 b4 b5
  obtain ⟨e0,e1,e2,e3,e4,e5,e6⟩:=rw7_cells HR.out
  go_wp2_with fail
  go_ret
  exact ⟨ret_b HV.out.symm,HK.out⟩)
set_option maxHeartbeats 4000000 in
theorem past8 (p:Nat) (tk nx wa:Int) (ca:Option Addr) (cc:Nat) (C:List Chn) (ha:Option Addr) (hc:Nat) (Hs:List Htl) (ra:Option Addr) (rc:Nat) (R:List Crc) (w:World) (hb:BookAt w p ⟨tk,nx,wa,ca,cc,C,ha,hc,Hs,ra,rc,R⟩) (hm:Mem w (Bo.segs ⟨tk,nx,wa,ca,cc,C,ha,hc,Hs,ra,rc,R⟩)) (ky ch tt am fe:Int) (ys:Bool) (hlc:C.length≤20) (hwa:0≤wa∧wa≤1125899906842624) (ham:0≤am∧am≤1125899906842624) (hfe:0≤fe∧fe≤1125899906842624) (hlo:∀ c∈C,0≤c.lo∧c.lo≤1125899906842624) :
 Calls Tryz.prog 96 #[.pointer (some ⟨p,0,none⟩),evV 8 ky ch tt am fe ys] w fun e w'=>e=.returned (.bool (pastB ⟨tk,nx,wa,C,Hs,R⟩ 8 ch am fe))∧Keeps w w':=by
 have HK:=hide (Keeps.alloc (Keeps.refl w) (.cells #[.int .i64 8,.int .i64 ky,.int .i64 ch,.int .i64 tt,.int .i64 am,.int .i64 fe,.bool ys] 41))
 have HB:=hide (hb.kept HK.out)
 have HM:=hide (hm.kept HK.out)
 have HR:=hide (rw7_new w (.int .i64 8) (.int .i64 ky) (.int .i64 ch) (.int .i64 tt) (.int .i64 am) (.int .i64 fe) (.bool ys) 41)
 clear hb hm
 by_cases hn:nx=1125899906842624
 ·have HV:Hid (pastB ⟨tk,nx,wa,C,Hs,R⟩ 8 ch am fe=true):=by show _=_;simp [pastB,hn]
  have hd:(nx==1125899906842624)=true:=by simpa using hn
  clear hn
  go_enter Tryz.func96,Tryz.ntmps96
  go_upto_region 1 with fail
  generalize (w.alloc (.cells #[.int .i64 8,.int .i64 ky,.int .i64 ch,.int .i64 tt,.int .i64 am,.int .i64 fe,.bool ys] 41))=w0 at *
  have b1:=HB.out.2.1
  dsimp only at b1
  go_wp2_with fail
  go_ret
  exact ⟨ret_b HV.out.symm,HK.out⟩
 have hd:(nx==1125899906842624)=false:=by simpa using hn
 have HV:Hid (pastB ⟨tk,nx,wa,C,Hs,R⟩ 8 ch am fe=(tk==1125899906842624)):=by show _=_;simp [pastB,hn]
 clear hn
 go_enter Tryz.func96,Tryz.ntmps96
 go_upto_region 1 with fail
 obtain ⟨pe,hpe⟩:∃ pe,pe=w.heap.size:=⟨_,rfl⟩
 rw [← hpe] at HR
 try rw [← hpe]
 clear hpe
 generalize (w.alloc (.cells #[.int .i64 8,.int .i64 ky,.int .i64 ch,.int .i64 tt,.int .i64 am,.int .i64 fe,.bool ys] 41))=w0 at *
 obtain ⟨b0,b1,b2,b3,b4,b5⟩:=HB.out
 dsimp only at b0 b1 b2 b3 b4 b5
 obtain ⟨e0,e1,e2,e3,e4,e5,e6⟩:=rw7_cells HR.out
 go_wp2_with fail
 go_ret
 exact ⟨ret_b HV.out.symm,HK.out⟩
end Go.Proofs.YtccdhcempnkgaaaGreatDoor
namespace Go.Proofs.YtccdhcempnkgaaaGreatDoor
open Go.RowKit Go.Deep
set_option linter.unusedVariables false
set_option linter.unusedSimpArgs false
set_option maxRecDepth 10000
def setL (xs:List Value):Nat→List Value→List Value
 | _,[]=>xs
 | o,v :: r=>setL (xs.set o v) (o+1) r
theorem setL_len:∀ (vs xs:List Value) (o:Nat),(setL xs o vs).length=xs.length
 | [],xs,o=>rfl
 | v :: r,xs,o=>by rw [setL,setL_len r];simp
theorem setL_take:∀ (vs xs:List Value) (o m:Nat),m≤o→(setL xs o vs).take m=xs.take m
 | [],xs,o,m,h=>rfl
 | v :: r,xs,o,m,h=>by
   rw [setL,setL_take r _ (o+1) m (by omega),List.take_set,List.set_eq_of_length_le (by rw [List.length_take];omega)]
theorem setL_eq:∀ (vs xs:List Value) (o:Nat),o+vs.length≤xs.length→setL xs o vs=xs.take o++vs++xs.drop (o+vs.length)
 | [],xs,o,h=>by simp [setL]
 | v :: r,xs,o,h=>by
   simp only [List.length_cons] at h ⊢
   rw [setL,setL_eq r _ (o+1) (by simp;omega)]
   have e1:(xs.set o v).take (o+1)=xs.take o++[v]:=by
    rw [List.take_set,List.set_eq_take_append_cons_drop,if_pos (by rw [List.length_take];omega),List.take_take,Nat.min_eq_left (by omega),List.drop_of_length_le (by rw [List.length_take];omega)]
   have e2:(xs.set o v).drop (o+1+r.length)=xs.drop (o+(r.length+1)):=by
    rw [List.drop_set,if_pos (by omega)]
    congr 1
    omega
   rw [e1,e2];simp
theorem owns_cap {w:World} {base g cap n:Nat} {e:TypeId} {sz:Nat} {xs:List Value} (h:w.ownsRow base e sz (.slice (some ⟨g,0,none⟩) n cap) n xs):n≤cap∧cap≤maxLen:=by
 rcases h.2 with ⟨h',_⟩ | ⟨g',cap',cur,h',_,_,h1,h2,_⟩
 ·simp at h'
 ·injection h' with _ _ e3
  rw [e3];exact ⟨h1,h2⟩
theorem owns_cells {base g cap n:Nat} {e:TypeId} {sz:Nat}:∀ {w:World} {xs:List Value},w.ownsRow base e sz (.slice (some ⟨g,0,none⟩) n cap) n xs→∀ (vs:List Value) (o:Nat),(w.setCells g o vs).ownsRow base e sz (.slice (some ⟨g,0,none⟩) n cap) n (setL xs o vs)∧w.grownBy (w.setCells g o vs) (some g)
 | w,xs,h,[],o=>⟨h,World.grownBy.refl _ _⟩
 | w,xs,h,v :: r,o=>by
   obtain ⟨h1,h2⟩:=h.stored o v
   obtain ⟨h3,h4⟩:=owns_cells h1 r (o+1)
   exact ⟨h3,h2.trans h4⟩
theorem owns_cut {w:World} {base g cap n:Nat} {e:TypeId} {sz:Nat} {xs:List Value} (h:w.ownsRow base e sz (.slice (some ⟨g,0,none⟩) n cap) n xs) {m:Nat} (hm:m≤n):w.ownsRow base e sz (.slice (some ⟨g,0,none⟩) m cap) m (xs.take (m*sz)):=by
 have hms:m*sz≤n*sz:=Nat.mul_le_mul_right sz hm
 refine ⟨by rw [List.length_take,h.1,Nat.min_eq_left hms],?_⟩
 rcases h.2 with ⟨h',_⟩ | ⟨g',cap',cur,h',hb,hg,h1,h2,h3,h4⟩
 ·simp at h'
 ·injection h' with e1 _ e3
  injection e1 with e1
  injection e1 with e1
  subst e1 e3
  exact .inr ⟨g,cap,cur,rfl,hb,hg,by omega,h2,h3,by rw [← h4,List.take_take,Nat.min_eq_left hms]⟩
theorem run_clear_one {P:Program} (w:World) (t e ty:TypeId) (z:Value) (ht:P.underlying t=some (.slice e)) (hv:∀ w,(zeroValue e).run P w=.ok z w) (zs:List Value) (hz:z.cells.toList=zs) (h1:∀ v∈zs,v.oneCell'=true) (b o c:Nat)
 (hc:∀ j,j < zs.length→(w.cell? ⟨b,o+j,none⟩).isSome=true) (hf:∀ j,j < zs.length→w.frozen? ⟨b,o+j,none⟩=false) :
 (Builtin.clear_ #[t] ty #[.slice (some ⟨b,o,none⟩) 1 c]).run P w=.ok (.tuple #[]) (w.setCells b o zs):=by
 have hzc:(Builtin.zeroCells z.cells 1).toList=zs:=by
  rw [← hz]
  unfold Builtin.zeroCells
  apply List.ext_getElem
  ·simp
  ·intro i h1 h2
   have h3:i < z.cells.size:=by simpa using h2
   simp [Nat.mod_eq_of_lt h3]
   exact getElem!_pos z.cells i h3
 have hst:=run_storeCells_cells (P:=P) b o zs 0 w (by simpa using hc) (by simpa using hf) h1
 simp only [Nat.add_zero] at hst
 simp [Builtin.clear_,run_underlying ht,hv,hzc,hst]
end Go.Proofs.YtccdhcempnkgaaaGreatDoor
