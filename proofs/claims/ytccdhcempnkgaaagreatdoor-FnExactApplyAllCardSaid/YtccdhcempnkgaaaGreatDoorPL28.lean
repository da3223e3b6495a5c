/- The program's deeds: a channel is opened. -/
import Derived.Test.YtccdhcempnkgaaaGreatDoorPL24
import Derived.Test.YtccdhcempnkgaaaGreatDoorPL27
import Derived.Test.YtccdhcempnkgaaaGreatDoorPL15
import Derived.Test.YtccdhcempnkgaaaGreatDoorPL16
namespace Go.Proofs.YtccdhcempnkgaaaGreatDoor
open Go.RowKit Go.Deep
set_option linter.unusedVariables false
set_option linter.unusedSimpArgs false
set_option maxRecDepth 10000
theorem app2_Chan {ops:Array Oper} {rest:List Oper} {o:Oper} {a:Act} {Q:Exit→Act→World→Prop} {wr:World} (hgd:o.guard=none) (s x:Operand)
 (ho:o.op=.call { callee:=.builtin .append,args:=#[s,x],argTypes:=#[30,30] }) (base:Nat) (ca:Option Addr) (cc:Nat) (L:List Chn) (y:Chn) (hs:a.eval s=.slice ca L.length cc) (xa:Addr) (c:Nat)
 (hx:a.eval x=.slice (some xa) 1 c) (hM:Cells wr (some xa) (chs [y])) (hown:OwnsChan wr base (.slice ca L.length cc) L) (hl:L.length≤1000000) (hbase:base≤wr.heap.size)
 (h:∀ g' c' w',OwnsChan w' base (.slice (some ⟨g',0,none⟩) (L++[y]).length c') (L++[y])→Turn (lb ca) wr w'→(g'∈lb ca∨wr.heap.size≤g')→wpList Tryz.prog ops Q rest (a.put o.dst (.slice (some ⟨g',0,none⟩) (L.length+1) c')) w') :
 wpList Tryz.prog ops Q (o :: rest) a wr:=by
 rcases hown.2 with ⟨e,h0⟩ | ⟨g,cap,cur,e,_⟩
 ·injection e with e1 e2 e3
  subst e1 e3
  have hL:L=[]:=List.length_eq_zero_iff.1 h0
  subst hL
  refine app_Chan hgd s x ho wr.heap.size (.slice none 0 0) [] [y] hs (some xa) c hx hM (fun e=>nomatch e) (World.ownsRow_nil _ _ _ _) (by simp) (Nat.le_refl _) ?_
  intro v' w' ho' hg' _
  obtain ⟨g',c',e',hb',_⟩:=ho'.form (show 0 < ([]++[y]:List Chn).length by simp)
  subst e'
  refine h g' c' w' (owns_older ho' hbase) ⟨hg'.os,hg'.tape,hg'.output,hg'.size,fun k hk _=>hg'.block k hk (fun e=>nomatch e)⟩ (.inr hb')
 ·injection e with e1 e2 e3
  subst e1 e3
  refine appL_Chan hgd s x ho base g cc L y hs xa c hx hM hown hl hbase ?_
  intro g' c' w' ho' hg' hat
  refine h g' c' w' ho' (grown_turn hg') ?_
  rcases hat with e | e
  ·exact .inl (by simp [lb,e])
  ·exact .inr (by omega)
theorem app2_Htlc {ops:Array Oper} {rest:List Oper} {o:Oper} {a:Act} {Q:Exit→Act→World→Prop} {wr:World} (hgd:o.guard=none) (s x:Operand)
 (ho:o.op=.call { callee:=.builtin .append,args:=#[s,x],argTypes:=#[31,31] }) (base:Nat) (ca:Option Addr) (cc:Nat) (L:List Htl) (y:Htl) (hs:a.eval s=.slice ca L.length cc) (xa:Addr) (c:Nat)
 (hx:a.eval x=.slice (some xa) 1 c) (hM:Cells wr (some xa) (hts [y])) (hown:OwnsHtlc wr base (.slice ca L.length cc) L) (hl:L.length≤1000000) (hbase:base≤wr.heap.size)
 (h:∀ g' c' w',OwnsHtlc w' base (.slice (some ⟨g',0,none⟩) (L++[y]).length c') (L++[y])→Turn (lb ca) wr w'→(g'∈lb ca∨wr.heap.size≤g')→wpList Tryz.prog ops Q rest (a.put o.dst (.slice (some ⟨g',0,none⟩) (L.length+1) c')) w') :
 wpList Tryz.prog ops Q (o :: rest) a wr:=by
 rcases hown.2 with ⟨e,h0⟩ | ⟨g,cap,cur,e,_⟩
 ·injection e with e1 e2 e3
  subst e1 e3
  have hL:L=[]:=List.length_eq_zero_iff.1 h0
  subst hL
  refine app_Htlc hgd s x ho wr.heap.size (.slice none 0 0) [] [y] hs (some xa) c hx hM (fun e=>nomatch e) (World.ownsRow_nil _ _ _ _) (by simp) (Nat.le_refl _) ?_
  intro v' w' ho' hg' _
  obtain ⟨g',c',e',hb',_⟩:=ho'.form (show 0 < ([]++[y]:List Htl).length by simp)
  subst e'
  refine h g' c' w' (owns_older ho' hbase) ⟨hg'.os,hg'.tape,hg'.output,hg'.size,fun k hk _=>hg'.block k hk (fun e=>nomatch e)⟩ (.inr hb')
 ·injection e with e1 e2 e3
  subst e1 e3
  refine appL_Htlc hgd s x ho base g cc L y hs xa c hx hM hown hl hbase ?_
  intro g' c' w' ho' hg' hat
  refine h g' c' w' ho' (grown_turn hg') ?_
  rcases hat with e | e
  ·exact .inl (by simp [lb,e])
  ·exact .inr (by omega)
theorem app2_Circle {ops:Array Oper} {rest:List Oper} {o:Oper} {a:Act} {Q:Exit→Act→World→Prop} {wr:World} (hgd:o.guard=none) (s x:Operand)
 (ho:o.op=.call { callee:=.builtin .append,args:=#[s,x],argTypes:=#[32,32] }) (base:Nat) (ca:Option Addr) (cc:Nat) (L:List Crc) (y:Crc) (hs:a.eval s=.slice ca L.length cc) (xa:Addr) (c:Nat)
 (hx:a.eval x=.slice (some xa) 1 c) (hM:Cells wr (some xa) (crs [y])) (hown:OwnsCircle wr base (.slice ca L.length cc) L) (hl:L.length≤1000000) (hbase:base≤wr.heap.size)
 (h:∀ g' c' w',OwnsCircle w' base (.slice (some ⟨g',0,none⟩) (L++[y]).length c') (L++[y])→Turn (lb ca) wr w'→(g'∈lb ca∨wr.heap.size≤g')→wpList Tryz.prog ops Q rest (a.put o.dst (.slice (some ⟨g',0,none⟩) (L.length+1) c')) w') :
 wpList Tryz.prog ops Q (o :: rest) a wr:=by
 rcases hown.2 with ⟨e,h0⟩ | ⟨g,cap,cur,e,_⟩
 ·injection e with e1 e2 e3
  subst e1 e3
  have hL:L=[]:=List.length_eq_zero_iff.1 h0
  subst hL
  refine app_Circle hgd s x ho wr.heap.size (.slice none 0 0) [] [y] hs (some xa) c hx hM (fun e=>nomatch e) (World.ownsRow_nil _ _ _ _) (by simp) (Nat.le_refl _) ?_
  intro v' w' ho' hg' _
  obtain ⟨g',c',e',hb',_⟩:=ho'.form (show 0 < ([]++[y]:List Crc).length by simp)
  subst e'
  refine h g' c' w' (owns_older ho' hbase) ⟨hg'.os,hg'.tape,hg'.output,hg'.size,fun k hk _=>hg'.block k hk (fun e=>nomatch e)⟩ (.inr hb')
 ·injection e with e1 e2 e3
  subst e1 e3
  refine appL_Circle hgd s x ho base g cc L y hs xa c hx hM hown hl hbase ?_
  intro g' c' w' ho' hg' hat
  refine h g' c' w' ho' (grown_turn hg') ?_
  rcases hat with e | e
  ·exact .inl (by simp [lb,e])
  ·exact .inr (by omega)
set_option maxHeartbeats 8000000 in
theorem open_impl (W:Wf) (w:World) (p:Nat) (tk nx wa:Int) (ca:Option Addr) (cc:Nat) (C:List Chn) (ha:Option Addr) (hc:Nat) (Hs:List Htl) (ra:Option Addr) (rc:Nat) (R:List Crc) (h:BoAt W w p ⟨tk,nx,wa,ca,cc,C,ha,hc,Hs,ra,rc,R⟩) (kd ky ch tt am fe:Int) (ys:Bool) (hlc:C.length≤20) (hids:C.Pairwise (fun x y=>x.id < y.id)) (hadd:addB am fe=true) (hwa:0≤wa∧wa≤1125899906842624) (ham:0≤am∧am≤1125899906842624) (hfe:0≤fe∧fe≤1125899906842624) :
 Calls Tryz.prog 118 #[.pointer (some ⟨p,0,none⟩),evV kd ky ch tt am fe ys] w fun e w'=>Out W w w' p (openC ⟨tk,nx,wa,C,Hs,R⟩ ch am fe) ⟨tk,nx,wa,C,Hs,R⟩ (openB ⟨tk,nx,wa,C,Hs,R⟩ ch am fe) (openL ch am []) e:=by
 cases hat:atC C ch with
 | some i =>
   obtain ⟨hi,hid⟩:=atC_lt hat
   obtain ⟨g,rfl⟩:∃ g,ca=some ⟨g,0,none⟩:=by
    obtain ⟨g,cap,e,-⟩:=h.oC.form (show 0 < C.length by omega)
    injection e with e _ _
    exact ⟨g,e⟩
   have hpl:placeC (some ⟨g,0,none⟩) (atC C ch)=some ⟨g,i*7,none⟩:=by rw [hat];simp [placeC]
   have HC:Hid (openC ⟨tk,nx,wa,C,Hs,R⟩ ch am fe=3):=by show _=_;simp [openC,hat,hadd]
   clear hids hadd
   have HKe:=hide (Keeps.alloc (Keeps.refl w) (.cells (evCells kd ky ch tt am fe ys) 41))
   have HRe:=hide (rw7_new w (.int .i64 kd) (.int .i64 ky) (.int .i64 ch) (.int .i64 tt) (.int .i64 am) (.int .i64 fe) (.bool ys) 41)
   have HB:=hide (h.kept HKe.out)
   have HSZ:=hide (Nat.le_refl w.heap.size)
   have HPS:=hide h.row.lt
   have HAE:=hide (h.apart (Nat.le_refl w.heap.size))
   clear h hat hid
   go_enter Tryz.func118,Tryz.ntmps118
   go_upto_region 1 with fail
   obtain ⟨pe,hpe⟩:∃ pe,pe=w.heap.size:=⟨_,rfl⟩
   rw [← hpe] at HRe HAE
   try rw [← hpe]
   have HPE:=hide hpe
   clear hpe
   generalize (w.alloc (.cells #[.int .i64 kd,.int .i64 ky,.int .i64 ch,.int .i64 tt,.int .i64 am,.int .i64 fe,.bool ys] 41))=w0 at *
   have HZ:=hide HKe.out.size
   clear HKe
   obtain ⟨-,-,e2,-,-,-,-⟩:=rw7_cells HRe.out
   go_wp2_with fail
   refine (chanw p _ cc C ch w0 HB.out.cells.2.2.2.1 (Bo.memC HB.out.mem) (Nat.le_trans hlc (by decide)) hpl).mono ?_
   rintro e w1 ⟨rfl,hk⟩
   replace HB:=hide (HB.out.kept hk)
   replace HRe:=hide (hk.rowK HRe.out)
   replace HZ:=hide (Nat.le_trans HZ.out hk.size)
   clear hk
   go_wp2_with fail
   go_ret2
   exact Out.no HC.out (by decide) HB.out
 | none =>
   have hpl:placeC ca (atC C ch)=none:=by rw [hat,placeC_none]
   have HAT:=hide hat
   have HIDS:=hide hids
   have HADD:=hide hadd
   have HC:Hid (openC ⟨tk,nx,wa,C,Hs,R⟩ ch am fe=if C.length=20 then 3 else if wa < am then 4 else 0):=by show _=_;simp [openC,hat,hadd]
   have HAB:=hide (amtB_true (n:=am+fe) (by simp [addB] at hadd;exact hadd.2))
   clear hids hadd
   have HKe:=hide (Keeps.alloc (Keeps.refl w) (.cells (evCells kd ky ch tt am fe ys) 41))
   have HRe:=hide (rw7_new w (.int .i64 kd) (.int .i64 ky) (.int .i64 ch) (.int .i64 tt) (.int .i64 am) (.int .i64 fe) (.bool ys) 41)
   have HB:=hide (h.kept HKe.out)
   have HSZ:=hide (Nat.le_refl w.heap.size)
   have HPS:=hide h.row.lt
   have HAE:=hide (h.apart (Nat.le_refl w.heap.size))
   clear h hat
   go_enter Tryz.func118,Tryz.ntmps118
   go_upto_region 1 with fail
   obtain ⟨pe,hpe⟩:∃ pe,pe=w.heap.size:=⟨_,rfl⟩
   rw [← hpe] at HRe HAE
   try rw [← hpe]
   have HPE:=hide hpe
   clear hpe
   generalize (w.alloc (.cells #[.int .i64 kd,.int .i64 ky,.int .i64 ch,.int .i64 tt,.int .i64 am,.int .i64 fe,.bool ys] 41))=w0 at *
   have HZ:=hide HKe.out.size
   clear HKe
   obtain ⟨-,-,e2,-,-,-,-⟩:=rw7_cells HRe.out
   go_wp2_with fail
   refine (chanw p ca cc C ch w0 HB.out.cells.2.2.2.1 (Bo.memC HB.out.mem) (Nat.le_trans hlc (by decide)) hpl).mono ?_
   rintro e w1 ⟨rfl,hk⟩
   replace HB:=hide (HB.out.kept hk)
   replace HRe:=hide (hk.rowK HRe.out)
   replace HZ:=hide (Nat.le_trans HZ.out hk.size)
   clear hk
   have b3:=HB.out.cells.2.2.2.1
   dsimp only at b3
   by_cases h20:C.length=20
   ·replace HC:Hid (openC ⟨tk,nx,wa,C,Hs,R⟩ ch am fe=3):=by show _=_;rw [HC.out,if_pos h20]
    have hd:decide ((20:Int)≤(C.length:Int))=true:=by rw [h20];rfl
    clear h20
    go_wp2_with fail
    go_ret2
    exact Out.no HC.out (by decide) HB.out
   have hd:decide ((20:Int)≤(C.length:Int))=false:=by simp;omega
   have h19:C.length≤19:=by omega
   rw [if_neg h20] at HC
   clear h20
   go_upto_region 3 with fail
   clear hd b3 e2
   obtain ⟨-,-,-,-,e4,-,-⟩:=rw7_cells HRe.out
   have b2:=HB.out.cells.2.2.1
   dsimp only at b2
   by_cases hwm:wa < am
   ·replace HC:Hid (openC ⟨tk,nx,wa,C,Hs,R⟩ ch am fe=4):=by show _=_;rw [HC.out,if_pos hwm]
    have hd:decide (wa < am)=true:=decide_eq_true hwm
    go_region
    replace HB:=hide (HB.out.kept (Keeps.refl _).drew)
    generalize World.drew _=w3 at *
    go_wp2_with fail
    go_ret2
    exact Out.no HC.out (by decide) HB.out
   replace HC:Hid (openC ⟨tk,nx,wa,C,Hs,R⟩ ch am fe=0):=by show _=_;rw [HC.out,if_neg hwm]
   have hd:decide (wa < am)=false:=decide_eq_false hwm
   go_region
   replace HB:=hide (HB.out.kept (Keeps.refl _).drew)
   replace HRe:=hide (HRe.out.drew)
   replace HZ:Hid (w.heap.size≤(w1.drew).heap.size):=HZ.out
   generalize World.drew _=w3 at *
   clear e4 b2 hd
   obtain ⟨-,-,-,-,e4,-,-⟩:=rw7_cells HRe.out
   have b2:=HB.out.cells.2.2.1
   have f2:=HB.out.row.frozen 2
   dsimp only at b2
   have hw1:IntKind.i64.wrap (wa-am)=wa-am:=by rw [IntKind.wrap_i64];omega
   have hw2:IntKind.i64.wrap (-am)=-am:=by rw [IntKind.wrap_i64];omega
   have hw3:IntKind.i64.wrap (am+fe)=am+fe:=by rw [IntKind.wrap_i64];have:=HAB.out;omega
   have hpp:pe≠p:=HAE.out.1
   go_upto_region 5 with fail
   have HB1:=hide (((HB.out.setWa (wa-am)).kept (Keeps.refl _).drew))
   have HR1:=hide ((row_turn HRe.out (Turn.set (fs:=[p]) (a:=⟨p,2,none⟩) (by simp) (.int .i64 (wa-am))) (by simpa using hpp)).drew)
   have HZ1:Hid (w.heap.size≤((w3.setCell ⟨p,2,none⟩ (.int .i64 (wa-am))).drew).heap.size):=by show _≤_;have:=HZ.out;simpa using this
   go_region
   generalize (w3.setCell ⟨p,2,none⟩ (.int .i64 (wa-am))).drew=w4 at *
   replace HB:=HB1
   replace HRe:=HR1
   replace HZ:=HZ1
   clear HB1 HR1 HZ1 e4 b2 f2
   obtain ⟨-,-,e2,-,e4,e5,-⟩:=rw7_cells HRe.out
   have b3:=HB.out.cells.2.2.2.1
   dsimp only at b3
   go_upto_region 6 with fail
   have G0:=gr_cell e2
   have G1:=gr_cell e4
   have G2:=gr_cell e5
   have G3:=gr_cell b3
   clear e2 e4 e5 b3
   refine wp_region_app [.u,.f,.f,.f,.f,.h,.h,.h,.h,.h,.h,.h,.h,.h,.h,.h,.h,.b,.t,.t,.t,.t] (by kernel_rfl) (by kernel_rfl) rfl rfl rfl rfl rfl rfl rfl (fun _ _ d _ _ h=>by cases d <;> exact h) ?_
   simp only [pkU,pkF,pkH,pkT,pkB]
   refine wpUni_step ?v0 (by rfl) ?f0 ?_
   case f0 =>
    intro w9
    go_simp
    with_reducible rfl
   try simp only [Act.put,List.setIfInBounds_toArray,List.set_cons_zero,List.set_cons_succ]
   refine wpUni_nil ?_
   refine wpFlo_step ?v1 (by rfl) ?f1 ?_
   case f1 =>
    rintro w9 ⟨t9,rfl⟩
    go_simp
    with_reducible rfl
   try simp only [Act.put,List.setIfInBounds_toArray,List.set_cons_zero,List.set_cons_succ]
   refine wpFlo_step ?v2 (by rfl) ?f2 ?_
   case f2 =>
    rintro w9 ⟨t9,rfl⟩
    go_simp
    with_reducible rfl
   try simp only [Act.put,List.setIfInBounds_toArray,List.set_cons_zero,List.set_cons_succ]
   refine wpFlo_step ?v3 (by rfl) ?f3 ?_
   case f3 =>
    rintro w9 ⟨t9,rfl⟩
    go_simp
    with_reducible rfl
   try simp only [Act.put,List.setIfInBounds_toArray,List.set_cons_zero,List.set_cons_succ]
   refine wpFlo_step ?v4 (by rfl) ?f4 ?_
   case f4 =>
    rintro w9 ⟨t9,rfl⟩
    go_simp
    with_reducible rfl
   try simp only [Act.put,List.setIfInBounds_toArray,List.set_cons_zero,List.set_cons_succ]
   refine wpFlo_nil ?_
   repeat (go_big_quiet_step (fail))
   refine wpQuiet_nil ?_
   refine ⟨rfl,?_⟩
   rintro w9 ⟨t9,rfl⟩ K9 hK9
   go_simp
   refine hK9.out _ _ (gr_gr (Keeps.alloc (Keeps.refl _) _)) ?_
   clear hK9 K9
   have HB9:=hide (HB.out.kept (gr_keeps w4 t9))
   have HKC:=hide (gr_keeps w4 t9)
   generalize gr w4 t9=W9 at *
   have HK9:=hide (Keeps.alloc (Keeps.refl W9) (.cells #[.int .i64 ch,.int .i64 (am+fe),.int .i64 am,.int .i64 fe,.int .i64 0,.int .i64 0,.int .i64 0] 78))
   have HM9:=hide (one_Chan W9 ⟨ch,am+fe,am,fe,0,0,0⟩)
   replace HB9:=hide (HB9.out.kept HK9.out)
   have HR9:=hide ((HKC.out.trans HK9.out).rowK HRe.out)
   have HZ9:=hide (Nat.le_trans HZ.out (HKC.out.trans HK9.out).size)
   dsimp only at HM9
   clear G0 G1 G2 G3
   go_upto_region 7 with (at_builtin;refine app2_Chan rfl (.tmp 39) (.tmp 52) rfl 0 _ _ C ⟨ch,am+fe,am,fe,0,0,0⟩ rfl ⟨W9.heap.size,0,none⟩ 1 rfl HM9.out HB9.out.oC (by omega) (Nat.zero_le _) ?_;intro g' c' w' ho ht hat;have HN:=hide (HB9.out.newC ht ho (fun q hq=>by simp [lb] at hq;subst hq;exact hat));have HTE:=hide ht;clear ho ht;have d0:=HN.out.2.cell (i:=3) (by decide);have d1:=HN.out.2.frozen 3;have d2:=HN.out.2.lt)
   have hlen:(C++[(⟨ch,am+fe,am,fe,0,0,0⟩:Chn)]).length=C.length+1:=by simp
   rw [hlen] at HN
   have HTF:=hide (HTE.out.trans (Turn.set (fs:=[p]) (w:=w') (a:=⟨p,3,none⟩) (by simp) (.slice (some ⟨g',0,none⟩) (C.length+1) c')))
   replace HRe:=hide (row_turn HR9.out HTF.out (by simp only [List.mem_append,List.mem_singleton,not_or];exact ⟨HAE.out.2.1,hpp⟩))
   have HPG:Hid (pe≠g'):=by
    show _≠_
    intro e
    rcases hat with h1 | h1
    ·exact HAE.out.2.1 (by rw [e];exact h1)
    ·have:=HR9.out.lt;omega
   replace HZ:=hide (Nat.le_trans HZ9.out HTF.out.size)
   replace HB:Hid (BoAt W (w'.setCell ⟨p,3,none⟩ (.slice (some ⟨g',0,none⟩) (C.length+1) c')) p ⟨tk,nx,wa-am,some ⟨g',0,none⟩,c',C++[⟨ch,am+fe,am,fe,0,0,0⟩],ha,hc,Hs,ra,rc,R⟩):=HN.out.1
   clear HN HTF HTE HR9 HZ9 HB9 HM9 HK9 HKC d0 d1 d2 hlen
   generalize w'.setCell ⟨p,3,none⟩ (.slice (some ⟨g',0,none⟩) (C.length+1) c')=w5 at *
   obtain ⟨M,hM⟩:∃ M,M=C++[(⟨ch,am+fe,am,fe,0,0,0⟩:Chn)]:=⟨_,rfl⟩
   rw [← hM] at HB
   have HM:=hide hM
   have hml:M.length≤1048576:=by rw [hM];simp;omega
   clear hM
   have b3:=HB.out.cells.2.2.2.1
   dsimp only at b3
   have HSo:=hide (sort_chans g' c' M w5 (fun j hj=>by
    have:=HB.out.oC.cellAt j (by rw [chs_len] at hj;exact hj)
    rw [this,List.getElem?_eq_getElem hj]) (fun j=>HB.out.oC.frz j) (get_chan HB.out.oC) hml)
   go_wp2_with fail
   refine (unhide HSo).mono ?_
   rintro e w6 ⟨rfl,C',hp,hs,hc6,hf6,hg6,hb6⟩
   have eM:C'=insC (oneC ch am fe) C:=by
    rw [insC_eq]
    refine asc_is (insG_asc _ _ HIDS.out (fun c hc e=>?_)) (hp.trans (by rw [HM.out];exact (insG_perm _ _).symm)) hs
    have h1:=HAT.out
    unfold atC at h1
    rw [List.findIdx?_eq_none_iff] at h1
    have:=h1 c hc
    simp [oneC] at e
    simp [e] at this
   have HB6:=hide (HB.out.setC (grown_turn hg6) (owns_sortedC HB.out.oC hp.length_eq hc6 hb6) hp.length_eq)
   have hpg:pe≠g':=by
    have h1:=(get_chan HB.out.oC)
    exact fun e=>HPG.out (by rw [e])
   replace HRe:=hide (row_turn HRe.out (grown_turn hg6) (by simpa using hpg))
   replace HZ:=hide (Nat.le_trans HZ.out hg6.size)
   subst eM
   replace HB:Hid (BoAt W w6 p ⟨tk,nx,wa-am,some ⟨g',0,none⟩,c',insC (oneC ch am fe) C,ha,hc,Hs,ra,rc,R⟩):=HB6.out
   clear HB6 hp hs hc6 hf6 hg6 hb6 b3 HSo hpl
   obtain ⟨-,-,e2,-,e4,-,-⟩:=rw7_cells HRe.out
   go_upto_region 8 with fail
   have G0:=gr_cell e2
   have G1:=gr_cell e4
   clear e2 e4
   refine wp_region_app [.h,.h,.h,.h,.h,.h,.h,.h,.h,.b,.t,.t,.t] (by kernel_rfl) (by kernel_rfl) rfl rfl rfl rfl rfl rfl rfl (fun _ _ d _ _ h=>by cases d <;> exact h) ?_
   simp only [pkU,pkF,pkH,pkT,pkB]
   refine wpUni_nil ?_
   refine wpFlo_nil ?_
   repeat (go_big_quiet_step (first | (go_at_call 135;exact gr_call (hubLine_impl _ _ _)) | (go_at_call 138;exact gr_call (chanLine_impl _ _ _ _))))
   refine wpQuiet_nil ?_
   refine ⟨rfl,?_⟩
   rintro w9 ⟨t9,rfl⟩ K9 hK9
   go_simp
   refine hK9.out _ _ (gr_gr (Keeps.alloc (Keeps.refl _) _)) ?_
   clear hK9 K9
   have HB9:=hide (HB.out.kept (gr_keeps w6 t9))
   have HZ9:=hide (gr_keeps w6 t9).size
   have HZ8:=hide HB.out.row.lt
   generalize gr w6 t9=W9 at *
   have HKa:=hide (Keeps.alloc (Keeps.refl W9) (.cells #[.int .i64 1,.int .i64 0,.int .i64 (-am),.int .i64 6,.int .i64 ch,.int .i64 am] 104))
   have HG:=hide (gath_impl (some ⟨W9.heap.size,0,none⟩) 2 [⟨1,0,-am⟩,⟨6,ch,am⟩] _ (lines_new2 W9 ⟨1,0,-am⟩ ⟨6,ch,am⟩) (by simp) (by simp [lessB]))
   clear G0 G1 HRe
   go_wp2_with fail
   refine (unhide HG).mono ?_
   rintro e w' ⟨v,rfl,ho,hk⟩
   have HF:=hide (HB9.out.kept (HKa.out.trans hk))
   have HO:=hide ho
   clear ho hk HG HB
   go_wp2_with fail
   go_ret2
   have HL2:Hid (openL ch am []=nzL [⟨1,0,-am⟩,⟨6,ch,am⟩]):=lines2 (by decide)
   refine Out.yes HC.out ?_
   rw [HL2.out]
   exact Done.mk2 (B:=⟨tk,nx,wa-am,some ⟨g',0,none⟩,c',insC (oneC ch am fe) C,ha,hc,Hs,ra,rc,R⟩) HF.out HO.out HB9.out HKa.out.size (Nat.le_trans HZ.out HZ9.out)
end Go.Proofs.YtccdhcempnkgaaaGreatDoor
