/- Texts of the verifier, joined: WkX, Xf, Ev, Xg, Xk. -/
import Derived.Test.YtccdhcempnkgaaaGreatDoorPL18
import Derived.Test.YtccdhcempnkgaaaGreatDoorPL22
import Derived.Test.YtccdhcempnkgaaaGreatDoorPL21
import Derived.Test.YtccdhcempnkgaaaGreatDoorPL19
import Derived.Test.YtccdhcempnkgaaaGreatDoorPL9
import Derived.Test.YtccdhcempnkgaaaGreatDoorPL1
import Derived.Test.YtccdhcempnkgaaaGreatDoorPL12
import Derived.Test.YtccdhcempnkgaaaGreatDoorPL13
namespace Go.Proofs.YtccdhcempnkgaaaGreatDoor
open Go.RowKit Go.Deep
set_option linter.unusedVariables false
set_option linter.unusedSimpArgs false
set_option maxRecDepth 10000
theorem onceV {P:Program} {c:Code} {Q:Exit→Act→World→Prop} {a:Act} {w:World} {α0:Type} (F:α0→World→Prop) (A:α0→Act)
 (h1:c.wp P (Exit.then (fun a' w'=>∃ x0,a'=A x0∧F x0 w') (fun _ _ _=>False)) a w) (h2:∀ x0 w',F x0 w'→Q .normal (A x0) w'):c.wp P Q a w :=
 wp_mono h1 (fun e a' w' h=>by
  cases e with
  | normal=>obtain ⟨x0,rfl,hF⟩:=h;exact h2 x0 w' hF
  | _=>exact False.elim h)
def zeroC:Chn:=⟨0,0,0,0,0,0,0⟩
def chC (C:List Chn) (ch:Int):Chn:=match atC C ch with | some i=>(C[i]?).getD zeroC | none=>zeroC
theorem chC_at {C:List Chn} {x:Int} {i:Nat} (h:atC C x=some i) (hi:i < C.length):chC C x=C[i]:=by simp [chC,h,hi]
def admV (co:Chn) (am:Int):Int:=addV am (feeV co.ba co.pp am true)
def admB (co:Chn) (am:Int):Bool:=feeB co.ba co.pp am true && addB am (feeV co.ba co.pp am true)
def admitC (B:Bk) (ky ch tt am:Int) (ys:Bool):Int:=if ky∈keysL B then 9 else if twoB B.C ch tt=false then 6 else if B.Hs.length=60 then 14 else if admB (chC B.C tt) am=false then 10 else if (chC B.C ch).re < admV (chC B.C tt) am then 11 else if (chC B.C tt).lo < am then 12 else if roomV B.Hs (chC B.C ch) (chC B.C tt) am ys=0 then 13 else 0
def admitB (B:Bk) (ky ch tt am:Int) (ys:Bool):Bk:=⟨B.tk,B.nx,B.wa,movC (movC B.C ch 0 (-(admV (chC B.C tt) am))) tt (-am) 0,B.Hs++[⟨ky,ch,tt,admV (chC B.C tt) am,am,roomV B.Hs (chC B.C ch) (chC B.C tt) am ys==2,0⟩],B.R⟩
def LU (k:Wk) (p pe:Nat) (ky ch tt am fe:Int) (i:Nat) (i0 i1 i2 i3 i4 i5 i6:Int) (w':World):Prop:=LS k p pe ky ch tt am fe w'∧w'.cell? ⟨k.gC,i*7,none⟩=some (.int .i64 i0)∧w'.cell? ⟨k.gC,i*7+1,none⟩=some (.int .i64 i1)∧w'.cell? ⟨k.gC,i*7+2,none⟩=some (.int .i64 i2)∧w'.cell? ⟨k.gC,i*7+3,none⟩=some (.int .i64 i3)∧w'.cell? ⟨k.gC,i*7+4,none⟩=some (.int .i64 i4)∧w'.cell? ⟨k.gC,i*7+5,none⟩=some (.int .i64 i5)∧w'.cell? ⟨k.gC,i*7+6,none⟩=some (.int .i64 i6)
theorem LU.kept {k:Wk} {p pe:Nat} {ky ch tt am fe:Int} {i:Nat} {i0 i1 i2 i3 i4 i5 i6:Int} {w w':World} (h:LU k p pe ky ch tt am fe i i0 i1 i2 i3 i4 i5 i6 w) (hk:Keeps w w'):LU k p pe ky ch tt am fe i i0 i1 i2 i3 i4 i5 i6 w':=by
 obtain ⟨h,q0,q1,q2,q3,q4,q5,q6⟩:=h
 exact ⟨h.kept hk,hk.cell q0,hk.cell q1,hk.cell q2,hk.cell q3,hk.cell q4,hk.cell q5,hk.cell q6⟩
def LV (k:Wk) (p pe:Nat) (ky ch tt am fe:Int) (ys:Bool) (Vi Vj:Nat) (i0 i1 i2 i3 i4 i5 i6 j0 j1 j2 j3 j4 j5 j6:Int) (w':World):Prop:=LS k p pe ky ch tt am fe w'∧w'.cell? ⟨pe,6,none⟩=some (.bool ys)∧(w'.cell? ⟨Vi,0,none⟩=some (.int .i64 i0)∧w'.cell? ⟨Vi,1,none⟩=some (.int .i64 i1)∧w'.cell? ⟨Vi,2,none⟩=some (.int .i64 i2)∧w'.cell? ⟨Vi,3,none⟩=some (.int .i64 i3)∧w'.cell? ⟨Vi,4,none⟩=some (.int .i64 i4)∧w'.cell? ⟨Vi,5,none⟩=some (.int .i64 i5)∧w'.cell? ⟨Vi,6,none⟩=some (.int .i64 i6))∧(w'.cell? ⟨Vj,0,none⟩=some (.int .i64 j0)∧w'.cell? ⟨Vj,1,none⟩=some (.int .i64 j1)∧w'.cell? ⟨Vj,2,none⟩=some (.int .i64 j2)∧w'.cell? ⟨Vj,3,none⟩=some (.int .i64 j3)∧w'.cell? ⟨Vj,4,none⟩=some (.int .i64 j4)∧w'.cell? ⟨Vj,5,none⟩=some (.int .i64 j5)∧w'.cell? ⟨Vj,6,none⟩=some (.int .i64 j6))
theorem LV.kept {k:Wk} {p pe:Nat} {ky ch tt am fe:Int} {ys:Bool} {Vi Vj:Nat} {i0 i1 i2 i3 i4 i5 i6 j0 j1 j2 j3 j4 j5 j6:Int} {w w':World} (h:LV k p pe ky ch tt am fe ys Vi Vj i0 i1 i2 i3 i4 i5 i6 j0 j1 j2 j3 j4 j5 j6 w) (hk:Keeps w w'):LV k p pe ky ch tt am fe ys Vi Vj i0 i1 i2 i3 i4 i5 i6 j0 j1 j2 j3 j4 j5 j6 w':=by
 obtain ⟨h,h6,⟨p0,p1,p2,p3,p4,p5,p6⟩,q0,q1,q2,q3,q4,q5,q6⟩:=h
 exact ⟨h.kept hk,hk.cell h6,⟨hk.cell p0,hk.cell p1,hk.cell p2,hk.cell p3,hk.cell p4,hk.cell p5,hk.cell p6⟩,hk.cell q0,hk.cell q1,hk.cell q2,hk.cell q3,hk.cell q4,hk.cell q5,hk.cell q6⟩
def admitL (L:List Ln) (tt am:Int):List Ln:=lineW (lineW L 6 tt (-am)) 8 tt am
end Go.Proofs.YtccdhcempnkgaaaGreatDoor
namespace Go.Proofs.YtccdhcempnkgaaaGreatDoor
open Go.RowKit Go.Deep
set_option linter.unusedVariables false
set_option linter.unusedSimpArgs false
set_option maxRecDepth 10000
theorem keys_some {B:Bk} {ky:Int} {i:Nat} (h:findH ky B.Hs=some i):ky∈keysL B:=by
 unfold findH at h
 rw [List.findIdx?_eq_some_iff_getElem] at h
 obtain ⟨hi,he,_⟩:=h
 have he':B.Hs[i].ky=ky:=by simpa using he
 exact List.mem_append_left _ (by rw [← he'];exact List.mem_map_of_mem (List.getElem_mem hi))
theorem keys_some2 {B:Bk} {ky:Int} {i:Nat} (h:findR ky B.R=some i):ky∈keysL B:=by
 unfold findR at h
 rw [List.findIdx?_eq_some_iff_getElem] at h
 obtain ⟨hi,he,_⟩:=h
 have he':B.R[i].ky=ky:=by simpa using he
 exact List.mem_append_right _ (by rw [← he'];exact List.mem_map_of_mem (List.getElem_mem hi))
theorem keys_none {B:Bk} {ky:Int} (h:findH ky B.Hs=none) (h':findR ky B.R=none):ky∉keysL B:=by
 intro hm
 rcases List.mem_append.1 hm with hm | hm
 ·obtain ⟨x,hx,e⟩:=List.mem_map.1 hm
  exact (findH_none h).1 x hx e
 ·obtain ⟨x,hx,e⟩:=List.mem_map.1 hm
  exact (findR_none h').1 x hx e
set_option maxHeartbeats 1000000 in
theorem taken_impl (p:Nat) (B:Bo) (ky:Int) (w:World) (hb:BookAt w p B) (hm:Mem w B.segs) (hl:B.len) :
 Calls Tryz.prog 169 #[.pointer (some ⟨p,0,none⟩),.int .i64 ky] w fun e w'=>e=.returned (.bool (decide (ky∈keysL B.d)))∧Keeps w w':=by
 have H1:=hide (htlcAt_impl p B.ha B.hc B.Hs ky w hb.2.2.2.2.1 (Bo.memH hm) hl.2.1)
 have H2:=hide (fun w' (hk:Keeps w w')=>circleAt_impl p B.ra B.rc B.R ky w' (hb.kept hk).2.2.2.2.2 (Bo.memR (hm.kept hk)) hl.2.2)
 clear hb hm hl
 cases h1:findH ky B.Hs with
 | some i =>
   have HV:Hid (decide (ky∈keysL B.d)=true):=decide_eq_true (keys_some (B:=B.d) h1)
   rw [h1] at H1
   have hi:decide ((0:Int)≤(i:Int))=true:=by simp
   clear h1 H2
   go_enter Tryz.func169,Tryz.ntmps169
   go_wp2_with fail
   refine (unhide H1).mono ?_
   rintro e w1 ⟨rfl,hk1⟩
   simp only [idxI]
   go_wp2_with fail
   go_ret
   exact ⟨ret_b HV.out.symm,hk1⟩
 | none =>
   rw [h1] at H1
   cases h2:findR ky B.R with
   | some i =>
     have HV:Hid (decide (ky∈keysL B.d)=true):=decide_eq_true (keys_some2 (B:=B.d) h2)
     rw [h2] at H2
     have hi:decide ((0:Int)≤(i:Int))=true:=by simp
     clear h1 h2
     go_enter Tryz.func169,Tryz.ntmps169
     go_wp2_with fail
     refine (unhide H1).mono ?_
     rintro e w1 ⟨rfl,hk1⟩
     simp only [idxI]
     go_wp2_with fail
     refine (unhide H2 _ hk1).mono ?_
     rintro e w2 ⟨rfl,hk2⟩
     simp only [idxI]
     have HK:=hide (hk1.trans hk2)
     clear hk1 hk2
     go_wp2_with fail
     go_ret
     exact ⟨ret_b (by rw [HV.out]),HK.out⟩
   | none =>
     have HV:Hid (decide (ky∈keysL B.d)=false):=decide_eq_false (keys_none (B:=B.d) h1 h2)
     rw [h2] at H2
     clear h1 h2
     go_enter Tryz.func169,Tryz.ntmps169
     go_wp2_with fail
     refine (unhide H1).mono ?_
     rintro e w1 ⟨rfl,hk1⟩
     simp only [idxI]
     go_wp2_with fail
     refine (unhide H2 _ hk1).mono ?_
     rintro e w2 ⟨rfl,hk2⟩
     simp only [idxI]
     have HK:=hide (hk1.trans hk2)
     clear hk1 hk2
     go_wp2_with fail
     go_ret
     exact ⟨ret_b (by rw [HV.out]),HK.out⟩
set_option maxHeartbeats 1000000 in
theorem inUse_impl (p:Nat) (B:Bo) (ch:Int) (w:World) (hb:BookAt w p B) (hm:Mem w B.segs) (hl:B.len) (hs:Small B.d) (h0:0≤outV B.d ch∧outV B.d ch≤1152921504606846976) (h1:0≤inV B.d ch∧inV B.d ch≤1152921504606846976) :
 Calls Tryz.prog 139 #[.pointer (some ⟨p,0,none⟩),.int .i64 ch] w fun e w'=>e=.returned (.bool (decide (0 < outV B.d ch+inV B.d ch)))∧Keeps w w':=by
 have HU:=hide (under_impl B ch w hm hl hs)
 obtain ⟨b0,b1,b2,b3,b4,b5⟩:=hb
 unfold Bo.v at HU
 clear hm hl hs
 generalize outV B.d ch=o at *
 generalize inV B.d ch=i at *
 generalize B.C.length=n3 at *
 generalize B.Hs.length=n4 at *
 generalize B.R.length=n5 at *
 have hw:IntKind.i64.wrap (o+i)=o+i:=by rw [IntKind.wrap_i64];omega
 go_enter Tryz.func139,Tryz.ntmps139
 go_wp2_with fail
 refine (unhide HU).mono ?_
 rintro e w1 ⟨rfl,hk1⟩
 go_wp2_with fail
 go_ret
 exact ⟨ret_b rfl,hk1⟩
def wfV (co:Chn) (am:Int):Int:=if feeB co.ba co.pp am true=true then admV co am else 0
theorem withFee_impl (co:Chn) (am:Int) (w:World) (hF:∀ w',Keeps w w'→Calls Tryz.prog 170 #[.int .i64 co.ba,.int .i64 co.pp,.int .i64 am] w' fun e w''=>e=.returned (.tuple #[.int .i64 (feeV co.ba co.pp am true),.bool (feeB co.ba co.pp am true)])∧Keeps w' w'')
 (hA:∀ b w',Keeps w w'→Calls Tryz.prog 151 #[.int .i64 am,.int .i64 b] w' fun e w''=>e=.returned (.tuple #[.int .i64 (addV am b),.bool (addB am b)])∧Keeps w' w'') :
 Calls Tryz.prog 143 #[chV co,.int .i64 am] w fun e w'=>e=.returned (.tuple #[.int .i64 (wfV co am),.bool (admB co am)])∧Keeps w w':=by
 obtain ⟨c0,c1,c2,c3,c4,c5,c6⟩:=co
 have HF:=hide hF
 have HA:=hide hA
 have HK:=hide (Keeps.alloc (Keeps.refl w) (.cells #[.int .i64 c0,.int .i64 c1,.int .i64 c2,.int .i64 c3,.int .i64 c4,.int .i64 c5,.int .i64 c6] 78))
 clear hF hA
 have HV:Hid (admB ⟨c0,c1,c2,c3,c4,c5,c6⟩ am=(feeB c4 c5 am true && addB am (feeV c4 c5 am true))∧wfV ⟨c0,c1,c2,c3,c4,c5,c6⟩ am=if feeB c4 c5 am true=true then addV am (feeV c4 c5 am true) else 0):=⟨rfl,rfl⟩
 dsimp only at HF
 generalize feeV c4 c5 am true=fv at *
 cases hfb:feeB c4 c5 am true with
 | false =>
   rw [hfb] at HF HV
   clear hfb
   go_enter Tryz.func143,Tryz.ntmps143
   go_wp2_with fail
   refine (unhide HF _ HK.out).mono ?_
   rintro e w1 ⟨rfl,hk1⟩
   have HK1:=hide (HK.out.trans hk1)
   clear hk1
   go_wp2_with fail
   go_ret2
   exact ⟨by rw [HV.out.1,HV.out.2];rfl,HK1.out⟩
 | true =>
   rw [hfb] at HF HV
   clear hfb
   go_enter Tryz.func143,Tryz.ntmps143
   go_wp2_with fail
   refine (unhide HF _ HK.out).mono ?_
   rintro e w1 ⟨rfl,hk1⟩
   have HK1:=hide (HK.out.trans hk1)
   clear hk1
   go_wp2_with fail
   refine (unhide HA fv _ HK1.out).mono ?_
   rintro e w2 ⟨rfl,hk2⟩
   have HK2:=hide (HK1.out.trans hk2)
   clear hk2
   go_wp2_with fail
   go_ret2
   exact ⟨by rw [HV.out.1,HV.out.2];rfl,HK2.out⟩
end Go.Proofs.YtccdhcempnkgaaaGreatDoor
namespace Go.Proofs.YtccdhcempnkgaaaGreatDoor
open Go.RowKit
set_option linter.unusedVariables false
abbrev evV (k y c t m f:Int) (b:Bool):Value:=.agg #[.int .i64 k,.int .i64 y,.int .i64 c,.int .i64 t,.int .i64 m,.int .i64 f,.bool b]
abbrev evCells (k y c t m f:Int) (b:Bool):Array Value:=#[.int .i64 k,.int .i64 y,.int .i64 c,.int .i64 t,.int .i64 m,.int .i64 f,.bool b]
def fieldB (h:Bool) (n lo hi:Int):Bool:=if h then decide (lo≤n) && decide (n≤hi) else decide (n=0)
def evB (k y c t m f:Int) (b:Bool):Bool :=
 if k=1 then fieldB false y 1 1000000 && fieldB false c 1 99 && fieldB false t 1 99 && fieldB true m 1 1125899906842624 && fieldB false f 0 1125899906842624 && !b
 else if k=2 then fieldB false y 1 1000000 && fieldB true c 1 99 && fieldB false t 1 99 && fieldB true m 1 1125899906842624 && fieldB true f 0 1125899906842624 && !b
 else if k=3 then fieldB false y 1 1000000 && fieldB true c 1 99 && fieldB false t 1 99 && fieldB false m 1 1125899906842624 && fieldB true f 0 1125899906842624 && !b
 else if k=4 then fieldB false y 1 1000000 && fieldB true c 1 99 && fieldB false t 1 99 && fieldB true m 0 1125899906842624 && fieldB true f 0 1000000 && !b
 else if k=5 then fieldB true y 1 1000000 && fieldB true c 1 99 && fieldB true t 1 99 && !decide (c=t) && fieldB true m 1 1125899906842624 && fieldB false f 0 1125899906842624
 else if k=8 then fieldB false y 1 1000000 && fieldB false c 1 99 && fieldB false t 1 99 && fieldB false m 1 1125899906842624 && fieldB false f 0 1125899906842624 && !b
 else if k=9 then fieldB true y 1 1000000 && fieldB true c 1 99 && fieldB true t 1 99 && !decide (c=t) && fieldB true m 1 1125899906842624 && fieldB true f 0 1125899906842624 && !b
 else if k=6∨k=7∨k=10∨k=11 then fieldB true y 1 1000000 && fieldB false c 1 99 && fieldB false t 1 99 && fieldB false m 1 1125899906842624 && fieldB false f 0 1125899906842624 && !b
 else false
end Go.Proofs.YtccdhcempnkgaaaGreatDoor
namespace Go.Proofs.YtccdhcempnkgaaaGreatDoor
open Go.RowKit Go.Deep
set_option linter.unusedVariables false
set_option linter.unusedSimpArgs false
set_option maxRecDepth 10000
def endsC (B:Bk) (ky ch tt:Int) (full:Bool):Int:=if ky∈keysL B then 9 else if hasC B.C ch=false∨hasC B.C tt=false then 6 else if full=true then 14 else 0
def endsP (B:Bk) (ca:Option Addr) (ky ch tt:Int) (full:Bool) (x:Int):Option Addr:=if endsC B ky ch tt full=0 then placeC ca (atC B.C x) else none
set_option maxHeartbeats 4000000 in
theorem ends_impl (p:Nat) (B:Bo) (kd ky ch tt am fe:Int) (ys full:Bool) (w:World) (hb:BookAt w p B) (hm:Mem w B.segs) (hl:B.len) :
 Calls Tryz.prog 142 #[.pointer (some ⟨p,0,none⟩),evV kd ky ch tt am fe ys,.bool full] w fun e w'=>e=.returned (.tuple #[.pointer (endsP B.d B.ca ky ch tt full ch),.pointer (endsP B.d B.ca ky ch tt full tt),.int .i64 (endsC B.d ky ch tt full)])∧Keeps w w':=by
 have HK:=hide (Keeps.alloc (Keeps.refl w) (.cells (evCells kd ky ch tt am fe ys) 41))
 have HT:=hide (fun w' (hk:Keeps w w')=>taken_impl p B ky w' (hb.kept hk) (hm.kept hk) hl)
 have HC:=hide (fun x q (hq:placeC B.ca (atC B.C x)=q) w' (hk:Keeps w w')=>chanw p B.ca B.cc B.C x w' (hb.kept hk).2.2.2.1 (Bo.memC (hm.kept hk)) hl.1 hq)
 have HR:=hide (rowc7 w (.int .i64 kd) (.int .i64 ky) (.int .i64 ch) (.int .i64 tt) (.int .i64 am) (.int .i64 fe) (.bool ys) 41)
 have HP:=hide (fun x=>placeC_at (Bo.memC hm) x)
 clear hb hm hl
 by_cases h1:ky∈keysL B.d
 ·have HV:Hid (endsC B.d ky ch tt full=9):=by show _=_;unfold endsC;rw [if_pos h1]
  have HQ:Hid (∀ x,endsP B.d B.ca ky ch tt full x=none):=fun x=>by unfold endsP;rw [HV.out];rfl
  rw [decide_eq_true h1] at HT
  clear h1 HC HP
  go_enter Tryz.func142,Tryz.ntmps142
  go_wp2_with fail
  refine (unhide HT _ HK.out).mono ?_
  rintro e w1 ⟨rfl,hk1⟩
  have HK1:=hide (HK.out.trans hk1)
  clear hk1
  go_wp2_with fail
  refine bodyPost_ret (v:=.tuple #[.pointer none,.pointer none,.int .i64 9]) (by simp [results,Tryz.results142,go_sem]) rfl ?_
  exact ⟨by rw [HV.out,HQ.out,HQ.out],HK1.out⟩
 rw [decide_eq_false h1] at HT
 have HH:=hide h1
 clear h1
 have hbd:B.d.C=B.C:=rfl
 rcases HP.out ch with ⟨a1,q1⟩ | ⟨g,off,i,a1,at1,ea,q1⟩
 ·have HV:Hid (endsC B.d ky ch tt full=6):=by show _=_;unfold endsC;rw [if_neg HH.out,if_pos (Or.inl (by rw [hbd];exact a1))]
  have HQ:Hid (∀ x,endsP B.d B.ca ky ch tt full x=none):=fun x=>by unfold endsP;rw [HV.out];rfl
  obtain ⟨x2,q2⟩:∃ x2,placeC B.ca (atC B.C tt)=x2:=⟨_,rfl⟩
  clear a1
  have HC1:=hide (HC.out ch _ q1)
  have HC2:=hide (HC.out tt _ q2)
  clear HC HP HH q1 q2 hbd
  go_enter Tryz.func142,Tryz.ntmps142
  go_wp2_with fail
  refine (unhide HT _ HK.out).mono ?_
  rintro e w1 ⟨rfl,hk1⟩
  have HK1:=hide (HK.out.trans hk1)
  obtain ⟨-,-,c2,c3,-,-,-⟩:=unhide HR _ hk1
  clear hk1
  go_upto_region 3 with fail
  have D2:=gr_cell c2
  have D3:=gr_cell c3
  clear c2 c3
  refine region_gr (by kernel_rfl) (by kernel_rfl) ?_
  repeat (go_big_quiet_step (fail))
  go_big_quiet_step (first | (go_at_call 116;exact gr_call (unhide HC1 _ (HK1.out.trans (gr_keeps _ _)))))
  repeat (go_big_quiet_step (fail))
  go_big_quiet_step (first | (go_at_call 116;exact gr_call (unhide HC2 _ (HK1.out.trans (gr_keeps _ _)))))
  repeat (go_big_quiet_step (fail))
  refine wpQuiet_nil ?_
  intro w' hw'
  have HK2:=hide (HK1.out.trans (Keeps.of_gr hw'))
  clear hw' D2 D3 HC1 HC2
  go_wp2_with fail
  refine bodyPost_ret (v:=.tuple #[.pointer none,.pointer none,.int .i64 6]) (by simp [results,Tryz.results142,go_sem]) rfl ?_
  exact ⟨by rw [HV.out,HQ.out,HQ.out],HK2.out⟩
 rcases HP.out tt with ⟨a2,q2⟩ | ⟨g',off',j,a2,at2,ea',q2⟩
 ·have HV:Hid (endsC B.d ky ch tt full=6):=by show _=_;unfold endsC;rw [if_neg HH.out,if_pos (Or.inr (by rw [hbd];exact a2))]
  have HQ:Hid (∀ x,endsP B.d B.ca ky ch tt full x=none):=fun x=>by unfold endsP;rw [HV.out];rfl
  clear a1 a2 at1 ea
  have HC1:=hide (HC.out ch _ q1)
  have HC2:=hide (HC.out tt _ q2)
  clear HC HP HH q1 q2 hbd
  go_enter Tryz.func142,Tryz.ntmps142
  go_wp2_with fail
  refine (unhide HT _ HK.out).mono ?_
  rintro e w1 ⟨rfl,hk1⟩
  have HK1:=hide (HK.out.trans hk1)
  obtain ⟨-,-,c2,c3,-,-,-⟩:=unhide HR _ hk1
  clear hk1
  go_upto_region 3 with fail
  have D2:=gr_cell c2
  have D3:=gr_cell c3
  clear c2 c3
  refine region_gr (by kernel_rfl) (by kernel_rfl) ?_
  repeat (go_big_quiet_step (fail))
  go_big_quiet_step (first | (go_at_call 116;exact gr_call (unhide HC1 _ (HK1.out.trans (gr_keeps _ _)))))
  repeat (go_big_quiet_step (fail))
  go_big_quiet_step (first | (go_at_call 116;exact gr_call (unhide HC2 _ (HK1.out.trans (gr_keeps _ _)))))
  repeat (go_big_quiet_step (fail))
  refine wpQuiet_nil ?_
  intro w' hw'
  have HK2:=hide (HK1.out.trans (Keeps.of_gr hw'))
  clear hw' D2 D3 HC1 HC2
  go_wp2_with fail
  refine bodyPost_ret (v:=.tuple #[.pointer none,.pointer none,.int .i64 6]) (by simp [results,Tryz.results142,go_sem]) rfl ?_
  exact ⟨by rw [HV.out,HQ.out,HQ.out],HK2.out⟩
 have hno:¬ (hasC B.d.C ch=false∨hasC B.d.C tt=false):=by rw [hbd,a1,a2];simp
 cases full with
 | true =>
   have HV:Hid (endsC B.d ky ch tt true=14):=by show _=_;unfold endsC;rw [if_neg HH.out,if_neg hno,if_pos rfl]
   have HQ:Hid (∀ x,endsP B.d B.ca ky ch tt true x=none):=fun x=>by unfold endsP;rw [HV.out];rfl
   clear a1 a2 at1 at2 ea ea' hno
   have HC1:=hide (HC.out ch _ q1)
   have HC2:=hide (HC.out tt _ q2)
   clear HC HP HH q1 q2 hbd
   go_enter Tryz.func142,Tryz.ntmps142
   go_wp2_with fail
   refine (unhide HT _ HK.out).mono ?_
   rintro e w1 ⟨rfl,hk1⟩
   have HK1:=hide (HK.out.trans hk1)
   obtain ⟨-,-,c2,c3,-,-,-⟩:=unhide HR _ hk1
   clear hk1
   go_upto_region 3 with fail
   have D2:=gr_cell c2
   have D3:=gr_cell c3
   clear c2 c3
   refine region_gr (by kernel_rfl) (by kernel_rfl) ?_
   repeat (go_big_quiet_step (fail))
   go_big_quiet_step (first | (go_at_call 116;exact gr_call (unhide HC1 _ (HK1.out.trans (gr_keeps _ _)))))
   repeat (go_big_quiet_step (fail))
   go_big_quiet_step (first | (go_at_call 116;exact gr_call (unhide HC2 _ (HK1.out.trans (gr_keeps _ _)))))
   repeat (go_big_quiet_step (fail))
   refine wpQuiet_nil ?_
   intro w' hw'
   have HK2:=hide (HK1.out.trans (Keeps.of_gr hw'))
   clear hw' D2 D3 HC1 HC2
   go_wp2_with fail
   refine bodyPost_ret (v:=.tuple #[.pointer none,.pointer none,.int .i64 14]) (by simp [results,Tryz.results142,go_sem]) rfl ?_
   exact ⟨by rw [HV.out,HQ.out,HQ.out],HK2.out⟩
 | false =>
   have HV:Hid (endsC B.d ky ch tt false=0):=by show _=_;unfold endsC;rw [if_neg HH.out,if_neg hno,if_neg (by decide)]
   have HQ1:Hid (endsP B.d B.ca ky ch tt false ch=some ⟨g,off+i*7,none⟩):=by show _=_;unfold endsP;rw [if_pos HV.out,hbd];exact q1
   have HQ2:Hid (endsP B.d B.ca ky ch tt false tt=some ⟨g',off'+j*7,none⟩):=by show _=_;unfold endsP;rw [if_pos HV.out,hbd];exact q2
   clear a1 a2 at1 at2 ea ea' hno
   have HC1:=hide (HC.out ch _ q1)
   have HC2:=hide (HC.out tt _ q2)
   clear HC HP HH q1 q2 hbd
   go_enter Tryz.func142,Tryz.ntmps142
   go_wp2_with fail
   refine (unhide HT _ HK.out).mono ?_
   rintro e w1 ⟨rfl,hk1⟩
   have HK1:=hide (HK.out.trans hk1)
   obtain ⟨-,-,c2,c3,-,-,-⟩:=unhide HR _ hk1
   clear hk1
   go_upto_region 3 with fail
   have D2:=gr_cell c2
   have D3:=gr_cell c3
   clear c2 c3
   refine region_gr (by kernel_rfl) (by kernel_rfl) ?_
   repeat (go_big_quiet_step (fail))
   go_big_quiet_step (first | (go_at_call 116;exact gr_call (unhide HC1 _ (HK1.out.trans (gr_keeps _ _)))))
   repeat (go_big_quiet_step (fail))
   go_big_quiet_step (first | (go_at_call 116;exact gr_call (unhide HC2 _ (HK1.out.trans (gr_keeps _ _)))))
   repeat (go_big_quiet_step (fail))
   refine wpQuiet_nil ?_
   intro w' hw'
   have HK2:=hide (HK1.out.trans (Keeps.of_gr hw'))
   clear hw' D2 D3 HC1 HC2
   go_wp2_with fail
   refine bodyPost_ret (v:=.tuple #[.pointer (some ⟨g,off+i*7,none⟩),.pointer (some ⟨g',off'+j*7,none⟩),.int .i64 0]) (by simp [results,Tryz.results142,go_sem]) rfl ?_
   exact ⟨by rw [HV.out,HQ1.out,HQ2.out],HK2.out⟩
end Go.Proofs.YtccdhcempnkgaaaGreatDoor
namespace Go.Proofs.YtccdhcempnkgaaaGreatDoor
open Go.RowKit Go.Deep
set_option linter.unusedVariables false
set_option linter.unusedSimpArgs false
set_option maxRecDepth 10000
def rw2 (v0 v1:Value):Nat→Value:=fun i=>if i=0 then v0 else v1
theorem rw2_new (w:World) (v0 v1:Value) (t:TypeId):(w.alloc (.cells #[v0,v1] t)).rowIs w.heap.size t 2 (rw2 v0 v1):=World.rowIs_alloc w #[v0,v1] t _ (fun i hi=>by
 match i,hi with
 | 0,_=>rfl
 | 1,_=>rfl)
theorem rw2_set {w:World} {b:Nat} {t:TypeId} {f:Nat→Value} (h:w.rowIs b t 2 f) (v0 v1:Value):((w.setCell ⟨b,0,none⟩ v0).setCell ⟨b,1,none⟩ v1).rowIs b t 2 (rw2 v0 v1) :=
 ((h.set 0 v0).set 1 v1).congr (fun i hi=>by
 match i,hi with
 | 0,_=>rfl
 | 1,_=>rfl)
theorem rw2_turn (w:World) (b:Nat) (v0 v1:Value):Turn [b] w ((w.setCell ⟨b,0,none⟩ v0).setCell ⟨b,1,none⟩ v1):=(Turn.set (by simp) _).trans' (Turn.set (by simp) _)
theorem rw2_cells {w:World} {b:Nat} {t:TypeId} {v0 v1:Value} (h:w.rowIs b t 2 (rw2 v0 v1)):w.cell? ⟨b,0,none⟩=some v0∧w.cell? ⟨b,1,none⟩=some v1 :=
 ⟨h.cell (i:=0) (by decide),h.cell (i:=1) (by decide)⟩
theorem and_impl (a k n:Int) (w:World) (h0:0≤a∧a≤1152921504606846976) (h1:0≤n∧n≤1152921504606846976) (h2:0≤k∧k≤1152921504606846976):Calls Tryz.prog 171 #[.agg #[.int .i64 a,.int .i64 k],.int .i64 n] w fun e w'=>e=.returned (.agg #[.int .i64 (a+n),.int .i64 (k+1)])∧Keeps w w':=by
 have hw1:IntKind.i64.wrap (a+n)=a+n:=by rw [IntKind.wrap_i64];omega
 have hw2:IntKind.i64.wrap (k+1)=k+1:=by rw [IntKind.wrap_i64];omega
 go_enter Tryz.func171,Tryz.ntmps171
 go_wp2_with fail
 refine bodyPost_ret (v:=.agg #[.int .i64 (a+n),.int .i64 (k+1)]) (by simp [results,Tryz.results171,go_sem]) rfl ⟨rfl,?_⟩
 exact Keeps.alloc (Keeps.alloc (Keeps.refl _) _) _
def Us (w wr:World) (b6 b7:Nat) (Hs:List Htl) (ch:Int):Prop:=wr.rowIs b6 189 2 (rw2 (.int .i64 (sumH (rmF ch) Hs)) (.int .i64 (sumH (rmS ch) Hs)))∧wr.rowIs b7 189 2 (rw2 (.int .i64 (sumH (rmA ch) Hs)) (.int .i64 (sumH (rmT ch) Hs)))∧Keeps w wr
theorem sumH_step (f:Htl→Int) (Hs:List Htl) (k:Nat) (hk:k < Hs.length):sumH f (Hs.take (k+1))=sumH f (Hs.take k)+f Hs[k]:=sum_take_succ f Hs k hk
theorem sumH_small (o:Int) (Hs:List Htl) (k:Nat) (hl:Hs.length≤60) (h:∀ x∈Hs,0≤x.ao∧x.ao≤1125899906842624):(0≤sumH (rmF o) (Hs.take k)∧sumH (rmF o) (Hs.take k)≤1152921504606846976)∧(0≤sumH (rmA o) (Hs.take k)∧sumH (rmA o) (Hs.take k)≤1152921504606846976)∧(0≤sumH (rmS o) (Hs.take k)∧sumH (rmS o) (Hs.take k)≤1152921504606846976)∧(0≤sumH (rmT o) (Hs.take k)∧sumH (rmT o) (Hs.take k)≤1152921504606846976):=by
 have hk:∀ f:Htl→Int,(∀ x∈Hs,0≤f x∧f x≤1125899906842624)→0≤sumH f (Hs.take k)∧sumH f (Hs.take k)≤1152921504606846976:=fun f hf=>by
  have h1:=sum_bound f 1125899906842624 (Hs.take k) (fun x hx=>hf x (List.mem_of_mem_take hx))
  have h2:(Hs.take k).length≤60:=by rw [List.length_take];omega
  refine ⟨h1.1,Int.le_trans h1.2 ?_⟩
  omega
 exact ⟨hk _ (fun x hx=>(rm_small (h x hx).1 (h x hx).2).1),hk _ (fun x hx=>(rm_small (h x hx).1 (h x hx).2).2.1),hk _ (fun x hx=>(rm_small (h x hx).1 (h x hx).2).2.2.1),hk _ (fun x hx=>(rm_small (h x hx).1 (h x hx).2).2.2.2)⟩
set_option maxHeartbeats 8000000 in
theorem uses_impl (p:Nat) (a:Option Addr) (c:Nat) (Hs:List Htl) (ch:Int) (w:World) (hp:w.cell? ⟨p,4,none⟩=some (.slice a Hs.length c)) (hc:Cells w a (hts Hs)) (hl:Hs.length≤60) (hs:∀ x∈Hs,0≤x.ao∧x.ao≤1125899906842624) :
 Calls Tryz.prog 144 #[.pointer (some ⟨p,0,none⟩),.int .i64 ch] w fun e w'=>e=.returned (.tuple #[.agg #[.int .i64 (sumH (rmF ch) Hs),.int .i64 (sumH (rmS ch) Hs)],.agg #[.int .i64 (sumH (rmA ch) Hs),.int .i64 (sumH (rmT ch) Hs)]])∧Keeps w w':=by
 have HC:=hide hc
 have HS:=hide (sumH_small ch Hs · hl hs)
 have HSX:=hide hs
 have HT:=hide (List.take_of_length_le (Nat.le_refl Hs.length))
 have HP:=hide hp
 have HK0:=hide (((((Keeps.refl w).alloc (.cells #[.int .i64 0,.int .i64 0] 189)).alloc (.cells #[.int .i64 0,.int .i64 0] 189)).alloc (.cells #[.int .i64 0,.int .i64 0] 189)).alloc (.cells #[.int .i64 0,.int .i64 0] 189))
 have HR4:=hide (((((Keeps.refl _).alloc (.cells #[.int .i64 0,.int .i64 0] 189)).alloc (.cells #[.int .i64 0,.int .i64 0] 189)).alloc (.cells #[.int .i64 0,.int .i64 0] 189)).rowK (rw2_new w (.int .i64 0) (.int .i64 0) 189))
 have HR5:=hide ((((Keeps.refl _).alloc (.cells #[.int .i64 0,.int .i64 0] 189)).alloc (.cells #[.int .i64 0,.int .i64 0] 189)).rowK (rw2_new (w.alloc (.cells #[.int .i64 0,.int .i64 0] 189)) (.int .i64 0) (.int .i64 0) 189))
 have HR6:=hide (((Keeps.refl _).alloc (.cells #[.int .i64 0,.int .i64 0] 189)).rowK (rw2_new ((w.alloc (.cells #[.int .i64 0,.int .i64 0] 189)).alloc (.cells #[.int .i64 0,.int .i64 0] 189)) (.int .i64 0) (.int .i64 0) 189))
 have HR7:=hide ((Keeps.refl _).rowK (rw2_new (((w.alloc (.cells #[.int .i64 0,.int .i64 0] 189)).alloc (.cells #[.int .i64 0,.int .i64 0] 189)).alloc (.cells #[.int .i64 0,.int .i64 0] 189)) (.int .i64 0) (.int .i64 0) 189))
 simp only [size_alloc1] at HR4 HR5 HR6 HR7
 have hbb:w.heap.size≠w.heap.size+1+1∧w.heap.size≠w.heap.size+1+1+1∧w.heap.size+1≠w.heap.size+1+1∧w.heap.size+1≠w.heap.size+1+1+1∧w.heap.size+1+1≠w.heap.size+1+1+1∧w.heap.size≠w.heap.size+1:=by omega
 have hbl:w.heap.size≤w.heap.size+1∧w.heap.size≤w.heap.size+1+1∧w.heap.size≤w.heap.size+1+1+1:=by omega
 have HBL:=hide hbl
 have HBB:=hide hbb
 clear hbb hbl
 clear hc hp hs
 go_enter Tryz.func144,Tryz.ntmps144
 go_upto_region 2 with fail
 try simp only [size_alloc1]
 generalize ((((w.alloc (.cells #[.int .i64 0,.int .i64 0] 189)).alloc (.cells #[.int .i64 0,.int .i64 0] 189)).alloc (.cells #[.int .i64 0,.int .i64 0] 189)).alloc (.cells #[.int .i64 0,.int .i64 0] 189))=w1 at *
 generalize w.heap.size+1+1+1=b7 at *
 generalize w.heap.size+1+1=b6 at *
 generalize w.heap.size+1=b5 at *
 obtain ⟨b4,hb4⟩:∃ b4,b4=w.heap.size:=⟨_,rfl⟩
 rw [← hb4] at HBL HBB HR4
 try rw [← hb4]
 have HB4:=hide hb4
 clear hb4
 have q4:=HK0.out.cell HP.out
 go_upto_region 3 with fail
 go_wp2_with fail
 have HI0:Hid (Us w w1 b6 b7 (Hs.take 0) ch∧w1.rowIs b4 189 2 (rw2 (.int .i64 0) (.int .i64 0))∧w1.rowIs b5 189 2 (rw2 (.int .i64 0) (.int .i64 0))):=⟨⟨HR6.out,HR7.out,HK0.out⟩,HR4.out,HR5.out⟩
 clear HR4 HR5 HR6 HR7 q4
 go_loopw [17] (fun y wr=>∃ k:Nat,k≤Hs.length∧y=.int .i64 (k:Int)∧Hid (Us w wr b6 b7 (Hs.take k) ch∧wr.rowIs b4 189 2 (rw2 (.int .i64 0) (.int .i64 0))∧wr.rowIs b5 189 2 (rw2 (.int .i64 0) (.int .i64 0)))) (fun y _=>Hs.length-(intOf y).toNat)
 case atStart=>exact ⟨0,by omega,rfl,HI0⟩
 case round =>
  obtain ⟨k,hk,rfl,HI⟩:=hrel
  by_cases hlt:k < Hs.length
  ·obtain ⟨b,off,ea,c0,c1,c2,c3,c4,c5,c6⟩:=hts_at (HC.out.kept HI.out.1.2.2) k hlt
   subst ea
   have HN:=hide (And.intro (sumH_step (rmF ch) Hs k hlt) (And.intro (sumH_step (rmS ch) Hs k hlt) (And.intro (sumH_step (rmA ch) Hs k hlt) (sumH_step (rmT ch) Hs k hlt))))
   have HXS:=hide (HSX.out _ (List.getElem_mem hlt))
   have HSS:=hide (HS.out k)
   generalize Hs[k]=x at *
   obtain ⟨x0,x1,x2,x3,x4,x5,x6⟩:=x
   dsimp only at c0 c1 c2 c3 c4 c5 c6 HXS
   have HKv:=hide (Keeps.alloc (Keeps.refl wr) (.cells #[.int .i64 x0,.int .i64 x1,.int .i64 x2,.int .i64 x3,.int .i64 x4,.bool x5,.int .i64 x6] 112))
   have HV:=hide (rw7_new wr (.int .i64 x0) (.int .i64 x1) (.int .i64 x2) (.int .i64 x3) (.int .i64 x4) (.bool x5) (.int .i64 x6) 112)
   have HVN:Hid (wr.heap.size≠b6∧wr.heap.size≠b7):=by have:=HI.out.1.1.lt;have:=HI.out.1.2.1.lt;exact ⟨by omega,by omega⟩
   go_upto_region 5 with fail
   generalize (wr.alloc (.cells #[.int .i64 x0,.int .i64 x1,.int .i64 x2,.int .i64 x3,.int .i64 x4,.bool x5,.int .i64 x6] 112))=w2 at *
   replace HI:Hid (Us w w2 b6 b7 (Hs.take k) ch∧w2.rowIs b4 189 2 (rw2 (.int .i64 0) (.int .i64 0))∧w2.rowIs b5 189 2 (rw2 (.int .i64 0) (.int .i64 0))):=⟨⟨HKv.out.rowK HI.out.1.1,HKv.out.rowK HI.out.1.2.1,HI.out.1.2.2.trans HKv.out⟩,HKv.out.rowK HI.out.2.1,HKv.out.rowK HI.out.2.2⟩
   generalize wr.heap.size=bv at *
   clear HKv c0 c1 c2 c3 c4 c5 c6
   by_cases hx:x2=ch
   ·subst hx
    have hd:(x2 != x2)=false:=by simp
    obtain ⟨-,-,v2,-,v4,v5,-⟩:=rw7_cells HV.out
    obtain ⟨⟨r6,r7,hkk⟩,r4,r5⟩:=HI.out
    have HR6:=hide r6
    have HR7:=hide r7
    have HR4:=hide r4
    have HR5:=hide r5
    have HKw:=hide hkk
    clear r6 r7 r4 r5 hkk HI
    obtain ⟨sF,hsF⟩:∃ s,s=sumH (rmF x2) (Hs.take k):=⟨_,rfl⟩
    obtain ⟨sS,hsS⟩:∃ s,s=sumH (rmS x2) (Hs.take k):=⟨_,rfl⟩
    obtain ⟨sA,hsA⟩:∃ s,s=sumH (rmA x2) (Hs.take k):=⟨_,rfl⟩
    obtain ⟨sT,hsT⟩:∃ s,s=sumH (rmT x2) (Hs.take k):=⟨_,rfl⟩
    rw [← hsF,← hsS] at HR6
    rw [← hsA,← hsT] at HR7
    rw [← hsF,← hsS,← hsA,← hsT] at HN
    rw [← hsF,← hsS,← hsA,← hsT] at HSS
    clear hsF hsS hsA hsT
    have HA:Hid (rmA x2 ⟨x0,x1,x2,x3,x4,x5,x6⟩=x4∧rmT x2 ⟨x0,x1,x2,x3,x4,x5,x6⟩=1):=by simp [Hid,rmA,rmT]
    have HF:Hid (rmF x2 ⟨x0,x1,x2,x3,x4,x5,x6⟩=(if x5=true then 0 else x4)∧rmS x2 ⟨x0,x1,x2,x3,x4,x5,x6⟩=(if x5=true then 0 else 1)):=by simp [Hid,rmF,rmS]
    obtain ⟨e0,e1⟩:=rw2_cells HR7.out
    go_wp2_with fail
    refine (and_impl sA sT x4 _ HSS.out.2.1 ⟨HXS.out.1,Int.le_trans HXS.out.2 (by decide)⟩ HSS.out.2.2.2).mono ?_
    rintro e w3 ⟨rfl,hk3⟩
    replace HR4:=hide (row_turn (hk3.rowK HR4.out) (rw2_turn w3 b7 (.int .i64 (sA+x4)) (.int .i64 (sT+1))) (by simpa using HBB.out.2.1))
    replace HR5:=hide (row_turn (hk3.rowK HR5.out) (rw2_turn w3 b7 (.int .i64 (sA+x4)) (.int .i64 (sT+1))) (by simpa using HBB.out.2.2.2.1))
    replace HR6:=hide (row_turn (hk3.rowK HR6.out) (rw2_turn w3 b7 (.int .i64 (sA+x4)) (.int .i64 (sT+1))) (by simpa using HBB.out.2.2.2.2.1))
    replace HV:=hide (row_turn (hk3.rowK HV.out) (rw2_turn w3 b7 (.int .i64 (sA+x4)) (.int .i64 (sT+1))) (by simpa using HVN.out.2))
    replace HKw:=hide ((rw2_turn w3 b7 (.int .i64 (sA+x4)) (.int .i64 (sT+1))).keeps (HKw.out.trans hk3) (fun q hq=>by rw [List.mem_singleton.1 hq,← HB4.out];exact HBL.out.2.2))
    have f0:=(hk3.rowK HR7.out).frozen 0
    have f1:=(hk3.rowK HR7.out).frozen 1
    obtain ⟨e2,e3⟩:=rw2_cells (hk3.rowK HR7.out)
    replace HR7:=hide (rw2_set (hk3.rowK HR7.out) (.int .i64 (sA+x4)) (.int .i64 (sT+1)))
    clear hk3 e0 e1 v2 v4 v5
    go_upto_region 7 with fail
    generalize (w3.setCell ⟨b7,0,none⟩ (.int .i64 (sA+x4))).setCell ⟨b7,1,none⟩ (.int .i64 (sT+1))=w4 at *
    clear e2 e3 f0 f1
    obtain ⟨-,-,v2,-,v4,v5,-⟩:=rw7_cells HV.out
    cases x5 with
    | true =>
      go_wp2_with fail
      go_roundw
      case rel =>
       refine ⟨k+1,by omega,by go_num,⟨⟨?_,?_,HKw.out⟩,HR4.out,HR5.out⟩⟩
       ·have n1:=HN.out.1
        have n2:=HN.out.2.1
        rw [HF.out.1,if_pos rfl,Int.add_zero] at n1
        rw [HF.out.2,if_pos rfl,Int.add_zero] at n2
        rw [n1,n2];exact HR6.out
       ·rw [HN.out.2.2.1,HN.out.2.2.2,HA.out.1,HA.out.2];exact HR7.out
      case measure=>simp [intOf];omega
    | false =>
      obtain ⟨e0,e1⟩:=rw2_cells HR6.out
      go_wp2_with fail
      refine (and_impl sF sS x4 _ HSS.out.1 ⟨HXS.out.1,Int.le_trans HXS.out.2 (by decide)⟩ HSS.out.2.2.1).mono ?_
      rintro e w5 ⟨rfl,hk5⟩
      replace HR4:=hide (row_turn (hk5.rowK HR4.out) (rw2_turn w5 b6 (.int .i64 (sF+x4)) (.int .i64 (sS+1))) (by simpa using HBB.out.1))
      replace HR5:=hide (row_turn (hk5.rowK HR5.out) (rw2_turn w5 b6 (.int .i64 (sF+x4)) (.int .i64 (sS+1))) (by simpa using HBB.out.2.2.1))
      replace HR7:=hide (row_turn (hk5.rowK HR7.out) (rw2_turn w5 b6 (.int .i64 (sF+x4)) (.int .i64 (sS+1))) (by simpa using Ne.symm HBB.out.2.2.2.2.1))
      replace HKw:=hide ((rw2_turn w5 b6 (.int .i64 (sF+x4)) (.int .i64 (sS+1))).keeps (HKw.out.trans hk5) (fun q hq=>by rw [List.mem_singleton.1 hq,← HB4.out];exact HBL.out.2.1))
      have f0:=(hk5.rowK HR6.out).frozen 0
      have f1:=(hk5.rowK HR6.out).frozen 1
      obtain ⟨e2,e3⟩:=rw2_cells (hk5.rowK HR6.out)
      replace HR6:=hide (rw2_set (hk5.rowK HR6.out) (.int .i64 (sF+x4)) (.int .i64 (sS+1)))
      clear hk5 e0 e1 v2 v4 v5
      go_wp2_with fail
      go_roundw
      case rel =>
       refine ⟨k+1,by omega,by go_num,⟨⟨?_,?_,HKw.out⟩,HR4.out,HR5.out⟩⟩
       ·have n1:=HN.out.1
        have n2:=HN.out.2.1
        rw [HF.out.1,if_neg (by decide)] at n1
        rw [HF.out.2,if_neg (by decide)] at n2
        rw [n1,n2];exact HR6.out
       ·rw [HN.out.2.2.1,HN.out.2.2.2,HA.out.1,HA.out.2];exact HR7.out
      case measure=>simp [intOf];omega
   ·have hd:(x2 != ch)=true:=by simpa using hx
    have HE:Hid (rmF ch ⟨x0,x1,x2,x3,x4,x5,x6⟩=0∧rmS ch ⟨x0,x1,x2,x3,x4,x5,x6⟩=0∧rmA ch ⟨x0,x1,x2,x3,x4,x5,x6⟩=0∧rmT ch ⟨x0,x1,x2,x3,x4,x5,x6⟩=0):=by simp [Hid,rmF,rmS,rmA,rmT,hx]
    clear hx
    obtain ⟨-,-,v2,-⟩:=rw7_cells HV.out
    go_wp2_with fail
    go_roundw
    case rel =>
     refine ⟨k+1,by omega,by go_num,?_⟩
     obtain ⟨n1,n2,n3,n4⟩:=HN.out
     obtain ⟨z1,z2,z3,z4⟩:=HE.out
     rw [z1,Int.add_zero] at n1
     rw [z2,Int.add_zero] at n2
     rw [z3,Int.add_zero] at n3
     rw [z4,Int.add_zero] at n4
     show _∧_
     unfold Us
     rw [n1,n2,n3,n4]
     exact HI.out
    case measure=>simp [intOf];omega
  ·have HE:Hid (Hs.take k=Hs):=List.take_of_length_le (by omega)
   rw [HE.out] at HI
   obtain ⟨⟨r6,r7,hkk⟩,r4,r5⟩:=HI.out
   have HKw:=hide hkk
   have HR4:=hide r4
   have HR5:=hide r5
   clear HI HI0 HS HSX HC HP
   obtain ⟨g0,g1⟩:=rw2_cells r6
   obtain ⟨g2,g3⟩:=rw2_cells r7
   obtain ⟨y0,y1⟩:=rw2_cells r4
   obtain ⟨y2,y3⟩:=rw2_cells r5
   have f0:=r4.frozen 0
   have f1:=r4.frozen 1
   have f2:=r5.frozen 0
   have f3:=r5.frozen 1
   have hb:=HBB.out
   clear r4 r5 r6 r7 hkk
   obtain ⟨sF,hsF⟩:∃ s,s=sumH (rmF ch) Hs:=⟨_,rfl⟩
   obtain ⟨sS,hsS⟩:∃ s,s=sumH (rmS ch) Hs:=⟨_,rfl⟩
   obtain ⟨sA,hsA⟩:∃ s,s=sumH (rmA ch) Hs:=⟨_,rfl⟩
   obtain ⟨sT,hsT⟩:∃ s,s=sumH (rmT ch) Hs:=⟨_,rfl⟩
   rw [← hsF] at g0
   rw [← hsS] at g1
   rw [← hsA] at g2
   rw [← hsT] at g3
   have HEQ:=hide (And.intro hsF (And.intro hsS (And.intro hsA hsT)))
   clear hsF hsS hsA hsT
   go_upto_region 10 with fail
   go_region
   have z4:=row_turn (rw2_set HR4.out (.int .i64 sF) (.int .i64 sS)) (rw2_turn _ b5 (.int .i64 sA) (.int .i64 sT)) (by simpa using HBB.out.2.2.2.2.2)
   have z5:=rw2_set (row_turn HR5.out (rw2_turn wr b4 (.int .i64 sF) (.int .i64 sS)) (by simpa using Ne.symm HBB.out.2.2.2.2.2)) (.int .i64 sA) (.int .i64 sT)
   have zk:=hide (((rw2_turn _ b5 (.int .i64 sA) (.int .i64 sT)).keeps ((rw2_turn wr b4 (.int .i64 sF) (.int .i64 sS)).keeps HKw.out (fun q hq=>by rw [List.mem_singleton.1 hq,← HB4.out];exact Nat.le_refl _)) (fun q hq=>by rw [List.mem_singleton.1 hq,← HB4.out];exact HBL.out.1)).drew)
   obtain ⟨p0,p1⟩:=rw2_cells z4.drew
   obtain ⟨p2,p3⟩:=rw2_cells z5.drew
   clear z4 z5 g0 g1 g2 g3 y0 y1 y2 y3 f0 f1 f2 f3 hb HR4 HR5 HKw
   generalize World.drew _=WW at *
   go_wp2_with fail
   refine bodyPost_ret (v:=.tuple #[.agg #[.int .i64 sF,.int .i64 sS],.agg #[.int .i64 sA,.int .i64 sT]]) ?_ rfl ?_
   ·simp [results,Tryz.results144,go_sem,p0,p1,p2,p3]
   ·obtain ⟨e1,e2,e3,e4⟩:=HEQ.out
    rw [e1,e2,e3,e4]
    exact ⟨rfl,zk.out⟩
end Go.Proofs.YtccdhcempnkgaaaGreatDoor
