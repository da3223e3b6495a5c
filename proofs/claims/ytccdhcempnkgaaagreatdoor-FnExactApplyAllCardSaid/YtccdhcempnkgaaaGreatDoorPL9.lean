/- Texts of the verifier, joined: BkC, BkD, ShelfI, Srt. -/
import Derived.Test.YtccdhcempnkgaaaGreatDoorPL8
import Derived.Shelf.Sort.Plain
import Derived.Test.YtccdhcempnkgaaaGreatDoorProg
import Derived.Test.YtccdhcempnkgaaaGreatDoorPL3
import Derived.Lib.OwnBridge
namespace Go.Proofs.YtccdhcempnkgaaaGreatDoor
open Go.RowKit Go.Deep
set_option linter.unusedVariables false
set_option linter.unusedSimpArgs false
set_option maxRecDepth 10000
theorem idAt_zero {C:List Chn} (h:0 < C.length):idAt C 0=chB C[0].id:=by simp [idAt,List.getElem?_eq_getElem h]
theorem idAt_succ {C:List Chn} {m:Nat} (h:m+1 < C.length):idAt C (m+1)=(chB C[m+1].id && decide (C[m].id < C[m+1].id)):=by
 simp [idAt,List.getElem?_eq_getElem h,List.getElem?_eq_getElem (show m < C.length by omega)]
theorem idsB_no {C:List Chn} {k:Nat} (hk:k < C.length) (h:idAt C k=false):idsB C=false:=by
 unfold idsB;rw [List.all_eq_false];exact ⟨k,List.mem_range.2 hk,by simp [h]⟩
theorem idsB_yes {C:List Chn} (h:∀ k,k < C.length→idAt C k=true):idsB C=true:=by
 unfold idsB;rw [List.all_eq_true];intro k hk;exact h k (List.mem_range.1 hk)
set_option maxHeartbeats 4000000 in
theorem ids_impl (ca:Option Addr) (cc:Nat) (C:List Chn) (w:World) (hc:Cells w ca (chs C)) (hl:C.length≤1048576) :
 Calls Tryz.prog 90 #[.slice ca C.length cc] w fun e w'=>e=.returned (.bool (idsB C))∧Keeps w w':=by
 have HC:=hide hc
 clear hc
 go_enter Tryz.func90,Tryz.ntmps90
 go_wp2_with fail
 go_loopw [7] (fun y wr=>∃ k:Nat,k≤C.length∧y=.int .i64 (k:Int)∧Hid (∀ j,j < k→idAt C j=true)∧Hid (Keeps w wr)) (fun y _=>C.length-(intOf y).toNat)
 case atStart=>exact ⟨0,by omega,rfl,fun j h=>absurd h (by omega),Keeps.refl _⟩
 case round =>
  obtain ⟨k,hk,rfl,HG,HKr⟩:=hrel
  by_cases hlt:k < C.length
  ·obtain ⟨b,off,ea,c0,c1,c2,c3,c4,c5,c6⟩:=chs_at (HC.out.kept HKr.out) k hlt
   subst ea
   have HA:=hide (fun x:Chn=>rowc7 wr (.int .i64 x.id) (.int .i64 x.sz) (.int .i64 x.lo) (.int .i64 x.re) (.int .i64 x.ba) (.int .i64 x.pp) (.int .i64 x.sc) 78)
   by_cases hk0:k=0
   ·have h0:decide (0 < k)=false:=by simp;omega
    have HV:Hid (idAt C k=chB C[k].id):=by show _=_;subst hk0;exact idAt_zero hlt
    clear hk0
    generalize C[k]=x at *
    obtain ⟨xid,xsz,xlo,xre,xba,xpp,xsc⟩:=x
    dsimp only at c0 c1 c2 c3 c4 c5 c6 HV
    go_wp2_with fail
    replace HA:=hide (unhide HA ⟨xid,xsz,xlo,xre,xba,xpp,xsc⟩)
    dsimp only at HA
    have HKv:=hide (HKr.out.trans (Keeps.alloc (Keeps.refl wr) (.cells #[.int .i64 xid,.int .i64 xsz,.int .i64 xlo,.int .i64 xre,.int .i64 xba,.int .i64 xpp,.int .i64 xsc] 78)))
    generalize wr.alloc (.cells #[.int .i64 xid,.int .i64 xsz,.int .i64 xlo,.int .i64 xre,.int .i64 xba,.int .i64 xpp,.int .i64 xsc] 78)=W1 at *
    have g0:∀ t,(gr W1 t).cell? ⟨wr.heap.size,0,none⟩=some (.int .i64 xid):=fun t=>(unhide HA _ (gr_keeps W1 t)).1
    cases hb:chB xid
    ·skip
     have HQ1:=hide (fun t=>chan_impl xid (gr W1 t))
     rw [hb] at HQ1
     refine region_gr (by kernel_rfl) (by kernel_rfl) ?_
     repeat (go_big_quiet_step (first | (go_at_call 110;exact gr_call (unhide HQ1 _))))
     refine wpQuiet_nil ?_
     intro w' hw'
     have hk':=HKv.out.trans (Keeps.of_gr hw')
     clear hw'
     go_wp2_with fail
     go_ret
     exact ⟨ret_b (idsB_no hlt (by rw [HV.out,hb])).symm,hk'⟩
    ·skip
     have HQ1:=hide (fun t=>chan_impl xid (gr W1 t))
     rw [hb] at HQ1
     refine region_gr (by kernel_rfl) (by kernel_rfl) ?_
     repeat (go_big_quiet_step (first | (go_at_call 110;exact gr_call (unhide HQ1 _))))
     refine wpQuiet_nil ?_
     intro w' hw'
     have hk':=HKv.out.trans (Keeps.of_gr hw')
     clear hw'
     go_wp2_with fail
     go_roundw
     case rel=>exact ⟨k+1,by omega,by go_num,fun j h=>by
                by_cases e:j=k
                ·subst e;rw [HV.out];exact hb
                ·exact HG.out j (by omega),hk'⟩
     case measure=>simp [intOf];omega
   ·have h0:decide (0 < k)=true:=by simp;omega
    obtain ⟨m,hm⟩:∃ m,k=m+1:=⟨k-1,by omega⟩
    have hml:m < C.length:=by omega
    obtain ⟨b',off',ea',p0,-,-,-,-,-,-⟩:=chs_at (HC.out.kept HKr.out) m hml
    have ea2:=Option.some.inj ea'
    injection ea2 with e1 e2
    subst e1 e2
    clear ea'
    have HV:Hid (idAt C k=(chB C[k].id && decide (C[m].id < C[k].id))):=by
     show _=_
     subst hm;exact idAt_succ hlt
    have hi1:(k:Int)-1=(m:Int):=by omega
    have hi2:IntKind.i64.wrap (m:Int)=(m:Int):=by rw [IntKind.wrap_i64];omega
    have hi3:IntKind.i64.wrap ((k:Int)-1)=(m:Int):=by rw [hi1];exact hi2
    clear hk0 hm
    generalize C[k]=x at *
    generalize C[m].id=y at *
    obtain ⟨xid,xsz,xlo,xre,xba,xpp,xsc⟩:=x
    dsimp only at c0 c1 c2 c3 c4 c5 c6 HV
    go_wp2_with fail
    replace HA:=hide (unhide HA ⟨xid,xsz,xlo,xre,xba,xpp,xsc⟩)
    dsimp only at HA
    have HKv:=hide (HKr.out.trans (Keeps.alloc (Keeps.refl wr) (.cells #[.int .i64 xid,.int .i64 xsz,.int .i64 xlo,.int .i64 xre,.int .i64 xba,.int .i64 xpp,.int .i64 xsc] 78)))
    replace p0:=(Keeps.alloc (Keeps.refl wr) (.cells #[.int .i64 xid,.int .i64 xsz,.int .i64 xlo,.int .i64 xre,.int .i64 xba,.int .i64 xpp,.int .i64 xsc] 78)).cell p0
    generalize wr.alloc (.cells #[.int .i64 xid,.int .i64 xsz,.int .i64 xlo,.int .i64 xre,.int .i64 xba,.int .i64 xpp,.int .i64 xsc] 78)=W1 at *
    have g0:∀ t,(gr W1 t).cell? ⟨wr.heap.size,0,none⟩=some (.int .i64 xid):=fun t=>(unhide HA _ (gr_keeps W1 t)).1
    have g1:=gr_cell p0
    cases hb:chB xid
    ·skip
     have HQ1:=hide (fun t=>chan_impl xid (gr W1 t))
     rw [hb] at HQ1
     refine region_gr (by kernel_rfl) (by kernel_rfl) ?_
     repeat (go_big_quiet_step (first | (go_at_call 110;exact gr_call (unhide HQ1 _))))
     refine wpQuiet_nil ?_
     intro w' hw'
     have hk':=HKv.out.trans (Keeps.of_gr hw')
     clear hw'
     go_wp2_with fail
     go_ret
     exact ⟨ret_b (idsB_no hlt (by rw [HV.out,hb];rfl)).symm,hk'⟩
    by_cases hy:y < xid
    ·have HY:=hide hy
     have HQ1:=hide (fun t=>chan_impl xid (gr W1 t))
     rw [hb] at HQ1
     refine region_gr (by kernel_rfl) (by kernel_rfl) ?_
     repeat (go_big_quiet_step (first | (go_at_call 110;exact gr_call (unhide HQ1 _))))
     refine wpQuiet_nil ?_
     intro w' hw'
     have hk':=HKv.out.trans (Keeps.of_gr hw')
     clear hw'
     go_wp2_with fail
     go_roundw
     case rel=>exact ⟨k+1,by omega,by go_num,fun j h=>by
                by_cases e:j=k
                ·subst e;rw [HV.out,hb];simpa using HY.out
                ·exact HG.out j (by omega),hk'⟩
     case measure=>simp [intOf];omega
    ·have HY:=hide hy
     have HQ1:=hide (fun t=>chan_impl xid (gr W1 t))
     rw [hb] at HQ1
     refine region_gr (by kernel_rfl) (by kernel_rfl) ?_
     repeat (go_big_quiet_step (first | (go_at_call 110;exact gr_call (unhide HQ1 _))))
     refine wpQuiet_nil ?_
     intro w' hw'
     have hk':=HKv.out.trans (Keeps.of_gr hw')
     clear hw'
     go_wp2_with fail
     go_ret
     exact ⟨ret_b (idsB_no hlt (by rw [HV.out,hb];simpa using HY.out)).symm,hk'⟩
  ·have HR:Hid (idsB C=true):=idsB_yes (fun k hk'=>HG.out k (by omega))
   go_wp2_with fail
   go_ret
   exact ⟨ret_b HR.out.symm,HKr.out⟩
end Go.Proofs.YtccdhcempnkgaaaGreatDoor
namespace Go.Proofs.YtccdhcempnkgaaaGreatDoor
open Go.RowKit Go.Deep
set_option linter.unusedVariables false
set_option linter.unusedSimpArgs false
set_option maxRecDepth 10000
def Small (B:Bk):Prop:=(∀ h∈B.Hs,0≤h.ai∧h.ai≤1125899906842624∧0≤h.ao∧h.ao≤1125899906842624)∧(∀ c∈B.R,0≤c.am∧c.am≤1125899906842624∧0≤c.fe∧c.fe≤1125899906842624)∧B.Hs.length≤60∧B.R.length≤20
theorem sum_small {α:Type} (f:α→Int) (M:Int) (xs:List α) (k n:Nat) (hM:0≤M) (hk:k≤n) (hn:xs.length≤n) (h:∀ x∈xs,0≤f x∧f x≤M):0≤((xs.take k).map f).sum∧((xs.take k).map f).sum≤M*n:=by
 have h1:=sum_bound f M (xs.take k) (fun x hx=>h x (List.mem_of_mem_take hx))
 refine ⟨h1.1,Int.le_trans h1.2 (Int.mul_le_mul_of_nonneg_left ?_ hM)⟩
 have:(xs.take k).length≤n:=by rw [List.length_take];omega
 omega
theorem under_bound (B:Bk) (ch:Int) (hs:Small B):0≤outV B ch∧outV B ch≤112589990684262400∧0≤inV B ch∧inV B ch≤90071992547409920:=by
 obtain ⟨hsH,hsR,hlH,hlR⟩:=hs
 have h1:=sum_bound (fun h:Htl=>if h.out=ch then h.ao else 0) 1125899906842624 B.Hs (fun x hx=>by have:=hsH x hx;split <;> omega)
 have h2:=sum_bound (fun h:Htl=>if h.inn=ch then h.ai else 0) 1125899906842624 B.Hs (fun x hx=>by have:=hsH x hx;split <;> omega)
 have h3:=sum_bound (fun c:Crc=>if c.fr=ch then c.am+c.fe else 0) 2251799813685248 B.R (fun x hx=>by have:=hsR x hx;split <;> omega)
 have h4:=sum_bound (fun c:Crc=>if c.to=ch then c.am else 0) 1125899906842624 B.R (fun x hx=>by have:=hsR x hx;split <;> omega)
 unfold outV inV outH outR inH inR
 omega
theorem ret_two {a a' b b':Int} (h:a=a') (h':b=b'):Ending.returned (.tuple #[.int .i64 a,.int .i64 b])=.returned (.tuple #[.int .i64 a',.int .i64 b']):=by rw [h,h']
set_option maxHeartbeats 4000000 in
theorem under_impl (B:Bo) (ch:Int) (w:World) (hm:Mem w B.segs) (hl:B.len) (hs:Small B.d):Calls Tryz.prog 113 #[B.v,.int .i64 ch] w fun e w'=>e=.returned (.tuple #[.int .i64 (outV B.d ch),.int .i64 (inV B.d ch)])∧Keeps w w':=by
 obtain ⟨tk,nx,wa,ca,cc,C,ha,hc,Hs,ra,rc,R⟩:=B
 have HCC:=hide (fun w' (hk:Keeps w w')=>Bo.memC (hm.kept hk))
 have HCH:=hide (fun w' (hk:Keeps w w')=>Bo.memH (hm.kept hk))
 have HCR:=hide (fun w' (hk:Keeps w w')=>Bo.memR (hm.kept hk))
 have HL:=hide hl
 have HBA:=hide (book_box ⟨tk,nx,wa,ca,cc,C,ha,hc,Hs,ra,rc,R⟩ w 34)
 have HKA:=hide (Keeps.alloc (Keeps.refl w) (.cells #[.int .i64 tk,.int .i64 nx,.int .i64 wa,.slice ca C.length cc,.slice ha Hs.length hc,.slice ra R.length rc] 34))
 dsimp only [Bo.d,Bo.v] at *
 clear hm hl
 go_enter Tryz.func113,Tryz.ntmps113
 go_wp2_with fail
 have HS:=hide hs
 obtain ⟨hsH,hsR,hlH,hlR⟩:=hs
 have HsH:=hide hsH
 have HsR:=hide hsR
 clear hsH hsR
 generalize hW:w.alloc (.cells #[.int .i64 tk,.int .i64 nx,.int .i64 wa,.slice ca C.length cc,.slice ha Hs.length hc,.slice ra R.length rc] 34)=W0 at *
 dsimp only at hlH hlR
 go_loopw [6,7,15] (fun x y z wr=>∃ (k:Nat) (p q:Int),k≤Hs.length∧x=.int .i64 p∧y=.int .i64 q∧z=.int .i64 (k:Int)∧Hid (p=outH (Hs.take k) ch)∧Hid (q=inH (Hs.take k) ch)∧Hid (Keeps W0 wr)) (fun _ _ z _=>Hs.length-(intOf z).toNat)
 case atStart=>exact ⟨0,0,0,by omega,rfl,rfl,rfl,by show _=_;simp [outH],by show _=_;simp [inH],Keeps.refl _⟩
 case round =>
  obtain ⟨k,p,q,hk,rfl,rfl,rfl,HP,HQ,HKr⟩:=hrel
  have HB:=hide (HBA.out.kept HKr.out)
  by_cases hlt:k < Hs.length
  ·skip
   have hp:0≤p∧p≤1125899906842624*60:=by rw [HP.out];exact sum_small _ 1125899906842624 Hs k 60 (by decide) (by omega) hlH (fun x hx=>by have:=HsH.out x hx;split <;> omega)
   have hq:0≤q∧q≤1125899906842624*60:=by rw [HQ.out];exact sum_small _ 1125899906842624 Hs k 60 (by decide) (by omega) hlH (fun x hx=>by have:=HsH.out x hx;split <;> omega)
   have HPn:Hid (outH (Hs.take (k+1)) ch=p+if Hs[k].out=ch then Hs[k].ao else 0):=by show _=_;rw [HP.out];exact sum_take_succ _ Hs k hlt
   have HQn:Hid (inH (Hs.take (k+1)) ch=q+if Hs[k].inn=ch then Hs[k].ai else 0):=by show _=_;rw [HQ.out];exact sum_take_succ _ Hs k hlt
   have hz:=HsH.out Hs[k] (List.getElem_mem hlt)
   obtain ⟨b,off,ea,c0,c1,c2,c3,c4,c5,c6⟩:=hts_at (unhide HCH _ (HKA.out.trans HKr.out)) k hlt
   subst ea
   generalize Hs[k]=x at *
   obtain ⟨xky,xinn,xout,xai,xao,xkp,xag⟩:=x
   dsimp only at c0 c1 c2 c3 c4 c5 c6 HPn HQn hz
   obtain ⟨z0,z1,z2,z3⟩:=hz
   obtain ⟨hp0,hp1⟩:=hp
   obtain ⟨hq0,hq1⟩:=hq
   have HKe:=hide (HKr.out.trans (Keeps.alloc (Keeps.refl wr) (.cells #[.int .i64 xky,.int .i64 xinn,.int .i64 xout,.int .i64 xai,.int .i64 xao,.bool xkp,.int .i64 xag] 112)))
   clear HP HQ HB
   by_cases ho:xout=ch
   all_goals by_cases hi:xinn=ch
   all_goals
    have HO:=hide ho
    have HI:=hide hi
    (try simp only [if_pos ho] at HPn);(try simp only [if_neg ho] at HPn);(try simp only [if_pos hi] at HQn);(try simp only [if_neg hi] at HQn)
    (try subst ho);(try subst hi)
    go_wp2_with fail
    go_roundw
    case rel=>exact ⟨k+1,_,_,by omega,rfl,rfl,by go_num,by show _=_;rw [HPn.out];(try omega),by show _=_;rw [HQn.out];(try omega),HKe.out⟩
    case measure=>simp [intOf];omega
  ·skip
   have e:k=Hs.length:=by omega
   subst e
   rw [List.take_length] at HP HQ
   have hp:0≤p∧p≤1125899906842624*60:=by rw [HP.out];have:=sum_small (fun h:Htl=>if h.out=ch then h.ao else 0) 1125899906842624 Hs Hs.length 60 (by decide) hlH hlH (fun x hx=>by have:=HsH.out x hx;split <;> omega);rw [List.take_length] at this;exact this
   have hq:0≤q∧q≤1125899906842624*60:=by rw [HQ.out];have:=sum_small (fun h:Htl=>if h.inn=ch then h.ai else 0) 1125899906842624 Hs Hs.length 60 (by decide) hlH hlH (fun x hx=>by have:=HsH.out x hx;split <;> omega);rw [List.take_length] at this;exact this
   obtain ⟨hp0,hp1⟩:=hp
   obtain ⟨hq0,hq1⟩:=hq
   obtain ⟨-,-,-,-,-,b5⟩:=HB.out
   dsimp only at b5
   have HKs:=hide HKr.out
   clear HB HKr
   go_wp2_with fail
   generalize wr=W2 at *
   go_loopw [6,7,39] (fun x y z wr=>∃ (k:Nat) (p' q':Int),k≤R.length∧x=.int .i64 p'∧y=.int .i64 q'∧z=.int .i64 (k:Int)∧Hid (p'=p+outR (R.take k) ch)∧Hid (q'=q+inR (R.take k) ch)∧Hid (Keeps W2 wr)) (fun _ _ z _=>R.length-(intOf z).toNat)
   case atStart=>exact ⟨0,p,q,by omega,rfl,rfl,rfl,by show _=_;simp [outR],by show _=_;simp [inR],Keeps.refl _⟩
   case round =>
    obtain ⟨k,p',q',hk,rfl,rfl,rfl,HP2,HQ2,HKr⟩:=hrel
    by_cases hlt:k < R.length
    ·skip
     have hp:0≤p'∧p'≤1125899906842624*60+2251799813685248*20:=by rw [HP2.out];have:0≤outR (R.take k) ch∧outR (R.take k) ch≤2251799813685248*20:=sum_small _ 2251799813685248 R k 20 (by decide) (by omega) hlR (fun x hx=>by have:=HsR.out x hx;split <;> omega);omega
     have hq:0≤q'∧q'≤1125899906842624*60+1125899906842624*20:=by rw [HQ2.out];have:0≤inR (R.take k) ch∧inR (R.take k) ch≤1125899906842624*20:=sum_small _ 1125899906842624 R k 20 (by decide) (by omega) hlR (fun x hx=>by have:=HsR.out x hx;split <;> omega);omega
     have HPn:Hid (p+outR (R.take (k+1)) ch=p'+if R[k].fr=ch then R[k].am+R[k].fe else 0):=by show _=_;rw [HP2.out,Int.add_assoc];congr 1;exact sum_take_succ _ R k hlt
     have HQn:Hid (q+inR (R.take (k+1)) ch=q'+if R[k].to=ch then R[k].am else 0):=by show _=_;rw [HQ2.out,Int.add_assoc];congr 1;exact sum_take_succ _ R k hlt
     have hz:=HsR.out R[k] (List.getElem_mem hlt)
     obtain ⟨b,off,ea,c0,c1,c2,c3,c4⟩:=crs_at (unhide HCR _ (HKA.out.trans (HKs.out.trans HKr.out))) k hlt
     subst ea
     generalize R[k]=x at *
     obtain ⟨xky,xfr,xto,xam,xfe⟩:=x
     dsimp only at c0 c1 c2 c3 c4 HPn HQn hz
     obtain ⟨z0,z1,z2,z3⟩:=hz
     clear hp0 hp1 hq0 hq1
     obtain ⟨hp0,hp1⟩:=hp
     obtain ⟨hq0,hq1⟩:=hq
     have HKe:=hide (HKr.out.trans (Keeps.alloc (Keeps.refl wr) (.cells #[.int .i64 xky,.int .i64 xfr,.int .i64 xto,.int .i64 xam,.int .i64 xfe] 115)))
     clear HP HQ HP2 HQ2
     by_cases ho:xfr=ch
     all_goals by_cases hi:xto=ch
     all_goals
      (try simp only [if_pos ho] at HPn);(try simp only [if_neg ho] at HPn);(try simp only [if_pos hi] at HQn);(try simp only [if_neg hi] at HQn)
      (try subst ho);(try subst hi)
      go_wp2_with fail
      go_roundw
      case rel=>exact ⟨k+1,_,_,by omega,rfl,rfl,by go_num,by show _=_;rw [HPn.out];(try omega),by show _=_;rw [HQn.out];(try omega),HKe.out⟩
      case measure=>simp [intOf];omega
    ·have e:k=R.length:=by omega
     subst e
     rw [List.take_length] at HP2 HQ2
     go_wp2_with fail
     go_ret2
     exact ⟨ret_two (by rw [HP2.out,HP.out];rfl) (by rw [HQ2.out,HQ.out];rfl),(HKA.out.trans HKs.out).trans HKr.out⟩
set_option maxHeartbeats 4000000 in
theorem channels_impl (B:Bo) (w:World) (hm:Mem w B.segs) (hl:B.len) (hs:Small B.d):Calls Tryz.prog 91 #[B.v] w fun e w'=>e=.returned (.bool (B.C.all (chanB B.d)))∧Keeps w w':=by
 have HU:=hide (fun ch w' (hk:Keeps w w')=>under_impl B ch w' (hm.kept hk) hl hs)
 have HUB:=hide (fun ch=>under_bound B.d ch hs)
 obtain ⟨tk,nx,wa,ca,cc,C,ha,hc,Hs,ra,rc,R⟩:=B
 have HCC:=hide (fun w' (hk:Keeps w w')=>Bo.memC (hm.kept hk))
 have HCH:=hide (fun w' (hk:Keeps w w')=>Bo.memH (hm.kept hk))
 have HCR:=hide (fun w' (hk:Keeps w w')=>Bo.memR (hm.kept hk))
 have HL:=hide hl
 have HBA:=hide (book_box ⟨tk,nx,wa,ca,cc,C,ha,hc,Hs,ra,rc,R⟩ w 34)
 have HKA:=hide (Keeps.alloc (Keeps.refl w) (.cells #[.int .i64 tk,.int .i64 nx,.int .i64 wa,.slice ca C.length cc,.slice ha Hs.length hc,.slice ra R.length rc] 34))
 dsimp only [Bo.d,Bo.v] at *
 clear hm hl
 go_enter Tryz.func91,Tryz.ntmps91
 go_wp2_with fail
 have hs2:=hs
 clear hs hs2
 have hln:C.length≤1048576:=HL.out.1
 generalize hW:w.alloc (.cells #[.int .i64 tk,.int .i64 nx,.int .i64 wa,.slice ca C.length cc,.slice ha Hs.length hc,.slice ra R.length rc] 34)=W0 at *
 go_loopw [10] (fun y wr=>∃ k:Nat,k≤C.length∧y=.int .i64 (k:Int)∧Hid (∀ j (hj:j < C.length),j < k→chanB (⟨tk,nx,wa,C,Hs,R⟩:Bk) C[j]=true)∧Hid (Keeps W0 wr)) (fun y _=>C.length-(intOf y).toNat)
 case atStart=>exact ⟨0,by omega,rfl,fun j hj h=>absurd h (by omega),Keeps.refl _⟩
 case round =>
  obtain ⟨k,hk,rfl,HG,HKr⟩:=hrel
  have HB:=hide (HBA.out.kept HKr.out)
  by_cases hlt:k < C.length
  ·skip
   obtain ⟨b,off,ea,c0,c1,c2,c3,c4,c5,c6⟩:=chs_at (unhide HCC _ (HKA.out.trans HKr.out)) k hlt
   subst ea
   have HX:Hid (C[k]=C[k]):=rfl
   generalize hx:C[k]=x at c0 c1 c2 c3 c4 c5 c6 HX
   replace HX:=hide hx
   clear hx
   obtain ⟨xid,xsz,xlo,xre,xba,xpp,xsc⟩:=x
   dsimp only at c0 c1 c2 c3 c4 c5 c6
   obtain ⟨b0,b1,b2,b3,b4,b5⟩:=HB.out
   dsimp only at b0 b1 b2 b3 b4 b5
   go_wp2_with fail
   have HA:=hide (rowc7 wr (.int .i64 xid) (.int .i64 xsz) (.int .i64 xlo) (.int .i64 xre) (.int .i64 xba) (.int .i64 xpp) (.int .i64 xsc) 78)
   have HKv:=hide (HKr.out.trans (Keeps.alloc (Keeps.refl wr) (.cells #[.int .i64 xid,.int .i64 xsz,.int .i64 xlo,.int .i64 xre,.int .i64 xba,.int .i64 xpp,.int .i64 xsc] 78)))
   generalize wr.alloc (.cells #[.int .i64 xid,.int .i64 xsz,.int .i64 xlo,.int .i64 xre,.int .i64 xba,.int .i64 xpp,.int .i64 xsc] 78)=W1 at *
   have HKc:=hide (Keeps.refl W1)
   refine (amt_impl xlo _).mono ?_
   rintro e w1 ⟨rfl,hk⟩
   replace HKc:=hide (HKc.out.trans hk)
   clear hk
   obtain ⟨d0,d1,d2,d3,d4,d5,d6⟩:=unhide HA w1 HKc.out
   cases hbw1:amtB xlo
   ·go_wp2_with fail
    go_ret
    exact ⟨ret_b (by rw [all_no hlt (by rw [HX.out];simp [chanB,fieldsB,sizeB,hbw1];try omega)]),(HKA.out.trans HKv.out).trans HKc.out⟩
   go_wp2_with fail
   refine (amt_impl xre _).mono ?_
   rintro e w2 ⟨rfl,hk⟩
   replace HKc:=hide (HKc.out.trans hk)
   clear d0 d1 d2 d3 d4 d5 d6
   clear hk
   obtain ⟨d0,d1,d2,d3,d4,d5,d6⟩:=unhide HA w2 HKc.out
   cases hbw2:amtB xre
   ·go_wp2_with fail
    go_ret
    exact ⟨ret_b (by rw [all_no hlt (by rw [HX.out];simp [chanB,fieldsB,sizeB,hbw1,hbw2];try omega)]),(HKA.out.trans HKv.out).trans HKc.out⟩
   go_wp2_with fail
   refine (amt_impl xba _).mono ?_
   rintro e w3 ⟨rfl,hk⟩
   replace HKc:=hide (HKc.out.trans hk)
   clear d0 d1 d2 d3 d4 d5 d6
   clear hk
   obtain ⟨d0,d1,d2,d3,d4,d5,d6⟩:=unhide HA w3 HKc.out
   cases hbw3:amtB xba
   ·go_wp2_with fail
    go_ret
    exact ⟨ret_b (by rw [all_no hlt (by rw [HX.out];simp [chanB,fieldsB,sizeB,hbw1,hbw2,hbw3];try omega)]),(HKA.out.trans HKv.out).trans HKc.out⟩
   go_wp2_with fail
   refine (ppm_impl xpp _).mono ?_
   rintro e w4 ⟨rfl,hk⟩
   replace HKc:=hide (HKc.out.trans hk)
   clear d0 d1 d2 d3 d4 d5 d6
   clear hk
   obtain ⟨d0,d1,d2,d3,d4,d5,d6⟩:=unhide HA w4 HKc.out
   cases hbw4:ppmB xpp
   ·go_wp2_with fail
    go_ret
    exact ⟨ret_b (by rw [all_no hlt (by rw [HX.out];simp [chanB,fieldsB,sizeB,hbw1,hbw2,hbw3,hbw4];try omega)]),(HKA.out.trans HKv.out).trans HKc.out⟩
   go_wp2_with fail
   refine (sok_impl xsc _).mono ?_
   rintro e w5 ⟨rfl,hk⟩
   replace HKc:=hide (HKc.out.trans hk)
   clear d0 d1 d2 d3 d4 d5 d6
   clear hk
   obtain ⟨d0,d1,d2,d3,d4,d5,d6⟩:=unhide HA w5 HKc.out
   cases hbw5:okS xsc
   ·go_wp2_with fail
    go_ret
    exact ⟨ret_b (by rw [all_no hlt (by rw [HX.out];simp [chanB,fieldsB,sizeB,hbw1,hbw2,hbw3,hbw4,hbw5];try omega)]),(HKA.out.trans HKv.out).trans HKc.out⟩
   obtain ⟨e0,e1,e2,e3,e4,e5⟩:=HBA.out.kept (HKv.out.trans HKc.out)
   dsimp only at e0 e1 e2 e3 e4 e5
   have hu:=HUB.out xid
   generalize ho:outV (⟨tk,nx,wa,C,Hs,R⟩:Bk) xid=ov at *
   generalize hi:inV (⟨tk,nx,wa,C,Hs,R⟩:Bk) xid=iv at *
   have HO:=hide ho
   have HI:=hide hi
   obtain ⟨o0,o1,i0,i1⟩:=hu
   have hz:=amtB_true hbw1
   have hz':=amtB_true hbw2
   clear ho hi
   go_wp2_with fail
   refine (unhide HU xid w5 (HKA.out.trans (HKv.out.trans HKc.out))).mono ?_
   rintro e w6 ⟨rfl,hk⟩
   replace HKc:=hide (HKc.out.trans hk)
   rw [HO.out,HI.out]
   clear e0 e1 e2 e3 e4 e5 d0 d1 d2 d3 d4 d5 d6 hk
   obtain ⟨d0,d1,d2,d3,d4,d5,d6⟩:=unhide HA w6 HKc.out
   go_wp2_with fail
   refine (amt_impl xsz w6).mono ?_
   rintro e w7 ⟨rfl,hk⟩
   replace HKc:=hide (HKc.out.trans hk)
   clear d0 d1 d2 d3 d4 d5 d6 hk
   obtain ⟨d0,d1,d2,d3,d4,d5,d6⟩:=unhide HA w7 HKc.out
   cases hbz:amtB xsz
   ·go_wp2_with fail
    go_ret
    exact ⟨ret_b (by rw [all_no hlt (by rw [HX.out];simp [chanB,fieldsB,sizeB,hbw1,hbw2,hbw3,hbw4,hbw5,hbz])]),(HKA.out.trans HKv.out).trans HKc.out⟩
   by_cases hsz:xsz=xlo+xre+ov+iv
   ·have HSZ:=hide hsz
    have hsz':(xsz != xlo+xre+ov+iv)=false:=by simpa using hsz
    clear hsz
    go_wp2_with fail
    have HOK:Hid (chanB (⟨tk,nx,wa,C,Hs,R⟩:Bk) ⟨xid,xsz,xlo,xre,xba,xpp,xsc⟩=true):=by show _=_;simp [chanB,fieldsB,sizeB,hbw1,hbw2,hbw3,hbw4,hbw5,hbz,HO.out,HI.out];exact HSZ.out
    have HKe:=hide (HKv.out.trans HKc.out)
    go_roundw
    case rel=>exact ⟨k+1,by omega,by go_num,fun j hj h=>by
               by_cases e:j=k
               ·subst e;rw [HX.out];exact HOK.out
               ·exact HG.out j hj (by omega),HKe.out⟩
    case measure=>simp [intOf];omega
   ·have HSZ:=hide hsz
    have hsz':(xsz != xlo+xre+ov+iv)=true:=by simpa using hsz
    clear hsz
    go_wp2_with fail
    go_ret
    exact ⟨ret_b (by rw [all_no hlt (by rw [HX.out];simp [chanB,fieldsB,sizeB,hbw1,hbw2,hbw3,hbw4,hbw5,hbz,HO.out,HI.out];exact HSZ.out)]),(HKA.out.trans HKv.out).trans HKc.out⟩
  ·have HR:Hid (C.all (chanB (⟨tk,nx,wa,C,Hs,R⟩:Bk))=true):=all_yes (fun j hj=>HG.out j hj (by omega))
   go_wp2_with fail
   go_ret
   exact ⟨ret_b HR.out.symm,HKA.out.trans HKr.out⟩
end Go.Proofs.YtccdhcempnkgaaaGreatDoor
namespace Go.Proofs
open Go.Shelf
def Tryz.lays189_ren:Go.Shelf.Ren:=⟨fun | 189=>107 | 125=>132 | 257=>131 | 128=>162 | 129=>163 | 294=>153 | 295=>154 | 296=>155 | 297=>156 | 298=>157 | 299=>158 | 216=>159 | 300=>160 | 301=>161 | 328=>185 | 329=>186 | 330=>187 | 331=>188 | 332=>189 | 215=>190 | 343=>206 | n=>n,fun | 28=>51 | 3=>3 | 46=>155 | 0=>0 | 51=>205 | 53=>207 | 4=>4 | 183=>198 | 182=>197 | 131=>73 | 5=>5 | 9=>9 | 218=>226 | 222=>230 | 228=>244 | 229=>142 | n=>n,fun | n=>n⟩
theorem Tryz.lays189:Go.Proofs.Lays.n189 Tryz.prog Tryz.lays189_ren:={
 mixed:=by kernel_rfl
 f125:=Tryz.func132.trans (congrArg some (by kernel_rfl))
 f128:=Tryz.func162.trans (congrArg some (by kernel_rfl))
 f129:=Tryz.func163.trans (congrArg some (by kernel_rfl))
 f189:=Tryz.func107.trans (congrArg some (by kernel_rfl))
 f215:=Tryz.func190.trans (congrArg some (by kernel_rfl))
 f216:=Tryz.func159.trans (congrArg some (by kernel_rfl))
 f257:=Tryz.func131.trans (congrArg some (by kernel_rfl))
 f294:=Tryz.func153.trans (congrArg some (by kernel_rfl))
 f295:=Tryz.func154.trans (congrArg some (by kernel_rfl))
 f296:=Tryz.func155.trans (congrArg some (by kernel_rfl))
 f297:=Tryz.func156.trans (congrArg some (by kernel_rfl))
 f298:=Tryz.func157.trans (congrArg some (by kernel_rfl))
 f299:=Tryz.func158.trans (congrArg some (by kernel_rfl))
 f300:=Tryz.func160.trans (congrArg some (by kernel_rfl))
 f301:=Tryz.func161.trans (congrArg some (by kernel_rfl))
 f328:=Tryz.func185.trans (congrArg some (by kernel_rfl))
 f329:=Tryz.func186.trans (congrArg some (by kernel_rfl))
 f330:=Tryz.func187.trans (congrArg some (by kernel_rfl))
 f331:=Tryz.func188.trans (congrArg some (by kernel_rfl))
 f332:=Tryz.func189.trans (congrArg some (by kernel_rfl))
 f343:=Tryz.func206.trans (congrArg some (by kernel_rfl))
 t0:=Tryz.underlying0
 a0:=Tryz.isAgg0
 z0:=Tryz.sizeOf0
 v0:=Tryz.zeroValue0
 t3:=Tryz.underlying3
 a3:=Tryz.isAgg3
 z3:=Tryz.sizeOf3
 v3:=Tryz.zeroValue3
 t4:=Tryz.underlying4
 a4:=Tryz.isAgg4
 z4:=Tryz.sizeOf4
 v4:=Tryz.zeroValue4
 t5:=Tryz.underlying5
 a5:=Tryz.isAgg5
 z5:=Tryz.sizeOf5
 v5:=Tryz.zeroValue5
 t9:=Tryz.underlying9
 a9:=Tryz.isAgg9
 z9:=Tryz.sizeOf9
 v9:=Tryz.zeroValue9
 t28:=Tryz.underlying51
 a28:=Tryz.isAgg51
 z28:=Tryz.sizeOf51
 v28:=Tryz.zeroValue51
 t46:=Tryz.underlying155
 a46:=Tryz.isAgg155
 z46:=Tryz.sizeOf155
 v46:=Tryz.zeroValue155
 t51:=Tryz.underlying205
 a51:=Tryz.isAgg205
 z51:=Tryz.sizeOf205
 v51:=Tryz.zeroValue205
 t53:=Tryz.underlying207
 a53:=Tryz.isAgg207
 z53:=Tryz.sizeOf207
 v53:=Tryz.zeroValue207
 t131:=Tryz.underlying73
 a131:=Tryz.isAgg73
 z131:=Tryz.sizeOf73
 v131:=Tryz.zeroValue73
 t182:=Tryz.underlying197
 a182:=Tryz.isAgg197
 z182:=Tryz.sizeOf197
 v182:=Tryz.zeroValue197
 t183:=Tryz.underlying198
 a183:=Tryz.isAgg198
 z183:=Tryz.sizeOf198
 v183:=Tryz.zeroValue198
 t218:=Tryz.underlying226
 a218:=Tryz.isAgg226
 z218:=Tryz.sizeOf226
 v218:=Tryz.zeroValue226
 t222:=Tryz.underlying230
 a222:=Tryz.isAgg230
 z222:=Tryz.sizeOf230
 v222:=Tryz.zeroValue230
 t228:=Tryz.underlying244
 a228:=Tryz.isAgg244
 z228:=Tryz.sizeOf244
 v228:=Tryz.zeroValue244
 t229:=Tryz.underlying142
 a229:=Tryz.isAgg142
 z229:=Tryz.sizeOf142
 v229:=Tryz.zeroValue142 }
open Go.Sort Go.RowKit in
theorem Tryz.slices_Sort_int (blk off cap:Nat) (zs:List Int) (w:World) (hH:Holds (Value.int .i64) w blk off zs.toArray) (hblk:blk < w.heap.size) (hsz:zs.length < 4611686018427387904) :
 Calls Tryz.prog 107 #[.slice (some ⟨blk,off,none⟩) zs.length cap] w fun e w' =>
  e=.returned (.tuple #[])∧∃ n os,w'=grow (putRow (Value.int .i64) (Sort.ahead w n) blk off (zs.mergeSort fun x y=>decide (x≤y)).toArray) os:=Any.slices_Sort_int Tryz.lays189 blk off cap zs w hH hblk hsz
end Go.Proofs
namespace Go.Proofs.YtccdhcempnkgaaaGreatDoor
open Go.RowKit Go.Deep Go.Shelf Go.Lib Go.Sort
set_option linter.unusedVariables false
set_option maxRecDepth 10000
theorem keeps_grow (w:World) (os:Array Obj):Keeps w (grow w os) :=
 ⟨rfl,rfl,rfl,by simp [grow],fun i hi=>by
  show (w.heap++os)[i]? = _
  rw [Array.getElem?_append_left hi]⟩
theorem keeps_grown {w w':World} (h:Keeps w w'):w.grownBy w' none:=⟨h.os,h.tape,h.output,h.size,fun k hk _=>h.block k hk⟩
def sortI (L:List Int):List Int:=L.mergeSort fun x y=>decide (x≤y)
theorem sort_ints (g cap base:Nat) (L:List Int) (w:World) (ho:OwnsI w base (.slice (some ⟨g,0,none⟩) L.length cap) L) (hl:L.length≤1048576) (W0:World) (hb0:W0.heap.size≤base) (hk0:Keeps W0 w) :
 Calls Tryz.prog 107 #[.slice (some ⟨g,0,none⟩) L.length cap] w fun e w'=>e=.returned (.tuple #[])∧OwnsI w' base (.slice (some ⟨g,0,none⟩) L.length cap) (sortI L)∧Keeps W0 w':=by
 obtain ⟨g',cap',e1,hb,hlt,h1,h2,h3,hH⟩:=holds_of_ownsRow (enc:=Value.int .i64) (zs:=L) ho (by simp)
 injection e1 with e1 _ e3
 injection e1 with e1
 injection e1 with e1
 subst e1 e3
 refine (Tryz.slices_Sort_int g 0 cap L w hH hlt (by omega)).mono ?_
 rintro e w' ⟨rfl,n,os,rfl⟩
 have hlen:(sortI L).length=L.length:=by simp [sortI]
 have hk:=keeps_grow (putRow (Value.int .i64) (Sort.ahead w n) g 0 (sortI L).toArray) os
 refine ⟨rfl,?_,?_⟩
 ·have h:=ownsRow_putRow (enc:=Value.int .i64) (q:=n) (k:=L.length) (ys:=sortI L) ho hlen (Nat.le_refl _)
  rw [List.take_of_length_le (by omega)] at h
  have h':=h.kept (keeps_grown hk) (.inr (by simp [Value.ownBlock]))
  unfold OwnsI
  rw [hlen]
  exact h'
 ·exact Keeps.trans (show Keeps W0 _ from below_putRow (enc:=Value.int .i64) hk0 (by omega)) hk
end Go.Proofs.YtccdhcempnkgaaaGreatDoor
