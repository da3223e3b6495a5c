/- Texts of the verifier, joined: BsB, WkA, WkB. -/
import Derived.Test.YtccdhcempnkgaaaGreatDoorPL10
import Derived.Test.YtccdhcempnkgaaaGreatDoorPL6
import Derived.Test.YtccdhcempnkgaaaGreatDoorPL7
import Derived.Test.YtccdhcempnkgaaaGreatDoorPL8
import Derived.Test.YtccdhcempnkgaaaGreatDoorPL2
import Derived.Deep.Cut
namespace Go.Proofs.YtccdhcempnkgaaaGreatDoor
open Go.RowKit Go.Deep
set_option linter.unusedVariables false
set_option linter.unusedSimpArgs false
set_option maxRecDepth 10000
theorem OwnsI.older {w:World} {base base':Nat} {v:Value} {L:List Int} (h:OwnsI w base v L) (hb:base'≤base):OwnsI w base' v L:=by
 refine ⟨h.1,?_⟩
 rcases h.2 with h' | ⟨g,cap,cur,rfl,hb',rest⟩
 ·exact .inl h'
 ·exact .inr ⟨g,cap,cur,rfl,by omega,rest⟩
set_option maxHeartbeats 4000000 in
theorem keys_spec (B:Bo) (w:World) (hm:Mem w B.segs) (hH:B.Hs.length≤60) (hR:B.R.length≤20):Calls Tryz.prog 74 #[B.v] w fun e w'=>∃ g cap,e=.returned (.slice (some ⟨g,0,none⟩) (keysL B.d).length cap)∧OwnsI w' w.heap.size (.slice (some ⟨g,0,none⟩) (keysL B.d).length cap) (keysL B.d)∧Keeps w w':=by
 have hl:B.Hs.length≤60:=hH
 obtain ⟨tk,nx,wa,ca,cc,C,ha,hc,Hs,ra,rc,R⟩:=B
 have HCC:=hide (fun w' (hk:Keeps w w')=>Bo.memC (hm.kept hk))
 have HCH:=hide (fun w' (hk:Keeps w w')=>Bo.memH (hm.kept hk))
 have HCR:=hide (fun w' (hk:Keeps w w')=>Bo.memR (hm.kept hk))
 have HL:=hide hl
 have HBA:=hide (book_box ⟨tk,nx,wa,ca,cc,C,ha,hc,Hs,ra,rc,R⟩ w 34)
 have HKA:=hide (Keeps.alloc (Keeps.refl w) (.cells #[.int .i64 tk,.int .i64 nx,.int .i64 wa,.slice ca C.length cc,.slice ha Hs.length hc,.slice ra R.length rc] 34))
 dsimp only [Bo.d,Bo.v] at *
 clear hm hl
 go_enter Tryz.func74,Tryz.ntmps74
 go_wp2_with fail
 have HO0:Hid (OwnsI ((w.alloc (.cells #[.int .i64 tk,.int .i64 nx,.int .i64 wa,.slice ca C.length cc,.slice ha Hs.length hc,.slice ra R.length rc] 34)).alloc (.cells #[] 3)) (w.alloc (.cells #[.int .i64 tk,.int .i64 nx,.int .i64 wa,.slice ca C.length cc,.slice ha Hs.length hc,.slice ra R.length rc] 34)).heap.size (.slice (some ⟨(w.alloc (.cells #[.int .i64 tk,.int .i64 nx,.int .i64 wa,.slice ca C.length cc,.slice ha Hs.length hc,.slice ra R.length rc] 34)).heap.size,0,none⟩) 0 0) []) :=
  World.ownsRow_made (base:=(w.alloc (.cells #[.int .i64 tk,.int .i64 nx,.int .i64 wa,.slice ca C.length cc,.slice ha Hs.length hc,.slice ra R.length rc] 34)).heap.size) (e:=3) (size:=1) _ #[] 0 (Nat.le_refl _) (by simp only [maxLen];omega) (by simp)
 have HK0:=hide (Keeps.alloc (Keeps.refl (w.alloc (.cells #[.int .i64 tk,.int .i64 nx,.int .i64 wa,.slice ca C.length cc,.slice ha Hs.length hc,.slice ra R.length rc] 34))) (.cells #[] 3))
 have hsz:(w.alloc (.cells #[.int .i64 tk,.int .i64 nx,.int .i64 wa,.slice ca C.length cc,.slice ha Hs.length hc,.slice ra R.length rc] 34)).heap.size=w.heap.size+1:=by simp
 have HSZ:=hide hsz
 clear hsz
 generalize w.alloc (.cells #[.int .i64 tk,.int .i64 nx,.int .i64 wa,.slice ca C.length cc,.slice ha Hs.length hc,.slice ra R.length rc] 34)=W0 at *
 go_loopw [3,12] (fun v y wr=>∃ k:Nat,k≤Hs.length∧y=.int .i64 (k:Int)∧Hid (OwnsI wr W0.heap.size v (keysTo (Hs.take k) []))∧Hid (v≠.slice none 0 0)∧Hid (Keeps W0 wr)) (fun _ y _=>Hs.length-(intOf y).toNat)
 case atStart=>exact ⟨0,by omega,rfl,by show OwnsI _ _ _ _;rw [HSZ.out] at HO0 ⊢;simpa [keysTo] using HO0.out,fun h=>by simp at h,HK0.out⟩
 case round =>
  obtain ⟨k,hk,rfl,HO,HN,HKr⟩:=hrel
  clear HO0 HK0
  by_cases hlt:k < Hs.length
  ·skip
   obtain ⟨b,off,ea,c0,c1,c2,c3,c4,c5,c6⟩:=hts_at (unhide HCH _ (HKA.out.trans HKr.out)) k hlt
   have HX:=hide ea
   clear ea
   have HS:Hid (Hs.take (k+1)=Hs.take k++[Hs[k]]):=by show _=_;rw [List.take_add_one,List.getElem?_eq_getElem hlt];rfl
   generalize Hs[k]=x at *
   obtain ⟨xky,xinn,xout,xai,xao,xkp,xag⟩:=x
   dsimp only at c0 c1 c2 c3 c4 c5 c6 HS
   have HO2:=hide ((HO.out.alloc (.cells #[.int .i64 xky,.int .i64 xinn,.int .i64 xout,.int .i64 xai,.int .i64 xao,.bool xkp,.int .i64 xag] 112)).alloc (.cells #[.int .i64 xky] 3))
   have HK2:=hide (Keeps.alloc (Keeps.alloc HKr.out (.cells #[.int .i64 xky,.int .i64 xinn,.int .i64 xout,.int .i64 xai,.int .i64 xao,.bool xkp,.int .i64 xag] 112)) (.cells #[.int .i64 xky] 3))
   have HM2:=hide (its_one (wr.alloc (.cells #[.int .i64 xky,.int .i64 xinn,.int .i64 xout,.int .i64 xai,.int .i64 xao,.bool xkp,.int .i64 xag] 112)) xky 3)
   have hz:(wr.alloc (.cells #[.int .i64 xky,.int .i64 xinn,.int .i64 xout,.int .i64 xai,.int .i64 xao,.bool xkp,.int .i64 xag] 112)).heap.size=wr.heap.size+1:=by simp
   rw [hz] at HM2
   have hb2:W0.heap.size≤((wr.alloc (.cells #[.int .i64 xky,.int .i64 xinn,.int .i64 xout,.int .i64 xai,.int .i64 xao,.bool xkp,.int .i64 xag] 112)).alloc (.cells #[.int .i64 xky] 3)).heap.size:=HK2.out.size
   have HB2:=hide hb2
   clear hb2 hz
   obtain rfl:=HX.out
   go_wp2_with (at_builtin;refine app_its rfl (.tmp 16) (.tmp 19) rfl W0.heap.size _ (keysTo (Hs.take k) []) [xky] rfl ⟨wr.heap.size+1,0,none⟩ 1 rfl HM2.out HO2.out (by simp [keysTo];omega) HB2.out ?_;intro v' w' ho hg hn)
   go_roundw
   case rel =>
    refine ⟨k+1,by omega,by go_num,?_,hn HN.out,Keeps.grown HK2.out hg (fun j hj=>(HO2.out.lt j hj).1)⟩
    show OwnsI _ _ _ _
    rw [HS.out]
    simpa [keysTo] using ho
   case measure=>simp [intOf];omega
  ·have e:k=Hs.length:=by omega
   subst e
   rw [List.take_length] at HO
   obtain ⟨-,-,-,-,-,b5⟩:=HBA.out.kept HKr.out
   dsimp only at b5
   go_wp2_with fail
   clear b5
   have HO1:=hide HO.out
   have HN1:=hide HN.out
   have HK1:=hide HKr.out
   clear HO HN HKr
   go_loopw [3,25] (fun v y wr=>∃ k:Nat,k≤R.length∧y=.int .i64 (k:Int)∧Hid (OwnsI wr W0.heap.size v (keysTo Hs (R.take k)))∧Hid (v≠.slice none 0 0)∧Hid (Keeps W0 wr)) (fun _ y _=>R.length-(intOf y).toNat)
   case atStart=>exact ⟨0,by omega,rfl,by show OwnsI _ _ _ _;simpa using HO1.out,HN1,HK1⟩
   case round =>
    obtain ⟨k,hk,rfl,HO,HN,HKr⟩:=hrel
    clear HO1 HN1 HK1
    by_cases hlt:k < R.length
    ·skip
     obtain ⟨b,off,ea,c0,c1,c2,c3,c4⟩:=crs_at (unhide HCR _ (HKA.out.trans HKr.out)) k hlt
     have HX:=hide ea
     clear ea
     have HS:Hid (R.take (k+1)=R.take k++[R[k]]):=by show _=_;rw [List.take_add_one,List.getElem?_eq_getElem hlt];rfl
     generalize R[k]=x at *
     obtain ⟨xky,xfr,xto,xam,xfe⟩:=x
     dsimp only at c0 c1 c2 c3 c4 HS
     have HO2:=hide ((HO.out.alloc (.cells #[.int .i64 xky,.int .i64 xfr,.int .i64 xto,.int .i64 xam,.int .i64 xfe] 115)).alloc (.cells #[.int .i64 xky] 3))
     have HK2:=hide (Keeps.alloc (Keeps.alloc HKr.out (.cells #[.int .i64 xky,.int .i64 xfr,.int .i64 xto,.int .i64 xam,.int .i64 xfe] 115)) (.cells #[.int .i64 xky] 3))
     have HM2:=hide (its_one (wr.alloc (.cells #[.int .i64 xky,.int .i64 xfr,.int .i64 xto,.int .i64 xam,.int .i64 xfe] 115)) xky 3)
     have hz:(wr.alloc (.cells #[.int .i64 xky,.int .i64 xfr,.int .i64 xto,.int .i64 xam,.int .i64 xfe] 115)).heap.size=wr.heap.size+1:=by simp
     rw [hz] at HM2
     have hb2:W0.heap.size≤((wr.alloc (.cells #[.int .i64 xky,.int .i64 xfr,.int .i64 xto,.int .i64 xam,.int .i64 xfe] 115)).alloc (.cells #[.int .i64 xky] 3)).heap.size:=HK2.out.size
     have HB2:=hide hb2
     clear hb2 hz
     obtain rfl:=HX.out
     go_wp2_with (at_builtin;refine app_its rfl (.tmp 29) (.tmp 32) rfl W0.heap.size _ (keysTo Hs (R.take k)) [xky] rfl ⟨wr.heap.size+1,0,none⟩ 1 rfl HM2.out HO2.out (by simp [keysTo];omega) HB2.out ?_;intro v' w' ho hg hn)
     go_roundw
     case rel =>
      refine ⟨k+1,by omega,by go_num,?_,hn HN.out,Keeps.grown HK2.out hg (fun j hj=>(HO2.out.lt j hj).1)⟩
      show OwnsI _ _ _ _
      rw [HS.out]
      simpa [keysTo] using ho
     case measure=>simp [intOf];omega
    ·have e:k=R.length:=by omega
     subst e
     rw [List.take_length] at HO
     obtain ⟨g,cap,e1,hb,hlt',h1,h2,h3,-⟩:=Go.Lib.holds_of_ownsRow (enc:=Value.int .i64) (zs:=keysTo Hs R) HO.out HN.out
     have HVE:=hide e1
     obtain rfl:=HVE.out
     clear e1
     go_wp2_with fail
     go_ret
     refine ⟨g,cap,rfl,?_,HKA.out.trans HKr.out⟩
     exact OwnsI.older HO.out (by have:=HSZ.out;omega)
set_option maxHeartbeats 2000000 in
theorem out_spec (B:Bo) (ch:Int) (w:World) (hm:Mem w B.segs) (hs:Small B.d):Calls Tryz.prog 67 #[B.v,.int .i64 ch] w fun e w'=>e=.returned (.int .i64 (outV B.d ch))∧Keeps w w':=by
 have hl:=hs.2.2.1
 obtain ⟨tk,nx,wa,ca,cc,C,ha,hc,Hs,ra,rc,R⟩:=B
 have HCC:=hide (fun w' (hk:Keeps w w')=>Bo.memC (hm.kept hk))
 have HCH:=hide (fun w' (hk:Keeps w w')=>Bo.memH (hm.kept hk))
 have HCR:=hide (fun w' (hk:Keeps w w')=>Bo.memR (hm.kept hk))
 have HL:=hide hl
 have HBA:=hide (book_box ⟨tk,nx,wa,ca,cc,C,ha,hc,Hs,ra,rc,R⟩ w 34)
 have HKA:=hide (Keeps.alloc (Keeps.refl w) (.cells #[.int .i64 tk,.int .i64 nx,.int .i64 wa,.slice ca C.length cc,.slice ha Hs.length hc,.slice ra R.length rc] 34))
 dsimp only [Bo.d,Bo.v] at *
 clear hm hl
 go_enter Tryz.func67,Tryz.ntmps67
 go_wp2_with fail
 obtain ⟨hsH,hsR,hlH,hlR⟩:=hs
 have HsH:=hide hsH
 have HsR:=hide hsR
 clear hsH hsR
 generalize w.alloc (.cells #[.int .i64 tk,.int .i64 nx,.int .i64 wa,.slice ca C.length cc,.slice ha Hs.length hc,.slice ra R.length rc] 34)=W0 at *
 dsimp only at hlH hlR
 go_loopw [5,13] (fun x z wr=>∃ (k:Nat) (p:Int),k≤Hs.length∧x=.int .i64 p∧z=.int .i64 (k:Int)∧Hid (p=outH (Hs.take k) ch)∧Hid (Keeps W0 wr)) (fun _ z _=>Hs.length-(intOf z).toNat)
 case atStart=>exact ⟨0,0,by omega,rfl,rfl,by show _=_;simp [outH],Keeps.refl _⟩
 case round =>
  obtain ⟨k,p,hk,rfl,rfl,HP,HKr⟩:=hrel
  have HB:=hide (HBA.out.kept HKr.out)
  by_cases hlt:k < Hs.length
  ·have hp:0≤p∧p≤1125899906842624*60:=by rw [HP.out];exact sum_small _ 1125899906842624 Hs k 60 (by decide) (by omega) hlH (fun x hx=>by have:=HsH.out x hx;split <;> omega)
   have HPn:Hid (outH (Hs.take (k+1)) ch=p+if Hs[k].out=ch then Hs[k].ao else 0):=by show _=_;rw [HP.out];exact sum_take_succ _ Hs k hlt
   have hz:=HsH.out Hs[k] (List.getElem_mem hlt)
   obtain ⟨b,off,ea,c0,c1,c2,c3,c4,c5,c6⟩:=hts_at (unhide HCH _ (HKA.out.trans HKr.out)) k hlt
   have HX:=hide ea
   obtain rfl:=HX.out
   generalize Hs[k]=x at *
   obtain ⟨xky,xinn,xout,xai,xao,xkp,xag⟩:=x
   dsimp only at c0 c1 c2 c3 c4 c5 c6 HPn hz
   obtain ⟨z0,z1,z2,z3⟩:=hz
   obtain ⟨hp0,hp1⟩:=hp
   have HKe:=hide (HKr.out.trans (Keeps.alloc (Keeps.refl wr) (.cells #[.int .i64 xky,.int .i64 xinn,.int .i64 xout,.int .i64 xai,.int .i64 xao,.bool xkp,.int .i64 xag] 112)))
   clear HP HB
   by_cases ho:xout=ch
   all_goals
    (try simp only [if_pos ho] at HPn);(try simp only [if_neg ho] at HPn)
    (try subst ho)
    go_wp2_with fail
    go_roundw
    case rel=>exact ⟨k+1,_,by omega,rfl,by go_num,by show _=_;rw [HPn.out];(try omega),HKe.out⟩
    case measure=>simp [intOf];omega
  ·have e:k=Hs.length:=by omega
   subst e
   rw [List.take_length] at HP
   have hp:0≤p∧p≤1125899906842624*60:=by rw [HP.out];have:=sum_small (fun h:Htl=>if h.out=ch then h.ao else 0) 1125899906842624 Hs Hs.length 60 (by decide) hlH hlH (fun x hx=>by have:=HsH.out x hx;split <;> omega);rw [List.take_length] at this;exact this
   obtain ⟨hp0,hp1⟩:=hp
   obtain ⟨-,-,-,-,-,b5⟩:=HB.out
   dsimp only at b5
   have HKs:=hide HKr.out
   clear HB HKr
   go_wp2_with fail
   generalize wr=W2 at *
   go_loopw [5,29] (fun x z wr=>∃ (k:Nat) (p':Int),k≤R.length∧x=.int .i64 p'∧z=.int .i64 (k:Int)∧Hid (p'=p+outR (R.take k) ch)∧Hid (Keeps W2 wr)) (fun _ z _=>R.length-(intOf z).toNat)
   case atStart=>exact ⟨0,p,by omega,rfl,rfl,by show _=_;simp [outR],Keeps.refl _⟩
   case round =>
    obtain ⟨k,p',hk,rfl,rfl,HP2,HKr⟩:=hrel
    by_cases hlt:k < R.length
    ·have hp:0≤p'∧p'≤1125899906842624*60+2251799813685248*20:=by rw [HP2.out];have:0≤outR (R.take k) ch∧outR (R.take k) ch≤2251799813685248*20:=sum_small _ 2251799813685248 R k 20 (by decide) (by omega) hlR (fun x hx=>by have:=HsR.out x hx;split <;> omega);omega
     have HPn:Hid (p+outR (R.take (k+1)) ch=p'+if R[k].fr=ch then R[k].am+R[k].fe else 0):=by show _=_;rw [HP2.out,Int.add_assoc];congr 1;exact sum_take_succ _ R k hlt
     have hz:=HsR.out R[k] (List.getElem_mem hlt)
     obtain ⟨b,off,ea,c0,c1,c2,c3,c4⟩:=crs_at (unhide HCR _ (HKA.out.trans (HKs.out.trans HKr.out))) k hlt
     have HX:=hide ea
     obtain rfl:=HX.out
     generalize R[k]=x at *
     obtain ⟨xky,xfr,xto,xam,xfe⟩:=x
     dsimp only at c0 c1 c2 c3 c4 HPn hz
     obtain ⟨z0,z1,z2,z3⟩:=hz
     clear hp0 hp1
     obtain ⟨hp0,hp1⟩:=hp
     have HKe:=hide (HKr.out.trans (Keeps.alloc (Keeps.refl wr) (.cells #[.int .i64 xky,.int .i64 xfr,.int .i64 xto,.int .i64 xam,.int .i64 xfe] 115)))
     clear HP HP2
     by_cases ho:xfr=ch
     all_goals
      (try simp only [if_pos ho] at HPn);(try simp only [if_neg ho] at HPn)
      (try subst ho)
      go_wp2_with fail
      go_roundw
      case rel=>exact ⟨k+1,_,by omega,rfl,by go_num,by show _=_;rw [HPn.out];(try omega),HKe.out⟩
      case measure=>simp [intOf];omega
    ·have e:k=R.length:=by omega
     subst e
     rw [List.take_length] at HP2
     go_wp2_with fail
     go_ret
     exact ⟨ret_i (by rw [HP2.out,HP.out];rfl),(HKA.out.trans HKs.out).trans HKr.out⟩
set_option maxHeartbeats 2000000 in
theorem in_spec (B:Bo) (ch:Int) (w:World) (hm:Mem w B.segs) (hs:Small B.d):Calls Tryz.prog 68 #[B.v,.int .i64 ch] w fun e w'=>e=.returned (.int .i64 (inV B.d ch))∧Keeps w w':=by
 have hl:=hs.2.2.1
 obtain ⟨tk,nx,wa,ca,cc,C,ha,hc,Hs,ra,rc,R⟩:=B
 have HCC:=hide (fun w' (hk:Keeps w w')=>Bo.memC (hm.kept hk))
 have HCH:=hide (fun w' (hk:Keeps w w')=>Bo.memH (hm.kept hk))
 have HCR:=hide (fun w' (hk:Keeps w w')=>Bo.memR (hm.kept hk))
 have HL:=hide hl
 have HBA:=hide (book_box ⟨tk,nx,wa,ca,cc,C,ha,hc,Hs,ra,rc,R⟩ w 34)
 have HKA:=hide (Keeps.alloc (Keeps.refl w) (.cells #[.int .i64 tk,.int .i64 nx,.int .i64 wa,.slice ca C.length cc,.slice ha Hs.length hc,.slice ra R.length rc] 34))
 dsimp only [Bo.d,Bo.v] at *
 clear hm hl
 go_enter Tryz.func68,Tryz.ntmps68
 go_wp2_with fail
 obtain ⟨hsH,hsR,hlH,hlR⟩:=hs
 have HsH:=hide hsH
 have HsR:=hide hsR
 clear hsH hsR
 generalize w.alloc (.cells #[.int .i64 tk,.int .i64 nx,.int .i64 wa,.slice ca C.length cc,.slice ha Hs.length hc,.slice ra R.length rc] 34)=W0 at *
 dsimp only at hlH hlR
 go_loopw [5,13] (fun x z wr=>∃ (k:Nat) (p:Int),k≤Hs.length∧x=.int .i64 p∧z=.int .i64 (k:Int)∧Hid (p=inH (Hs.take k) ch)∧Hid (Keeps W0 wr)) (fun _ z _=>Hs.length-(intOf z).toNat)
 case atStart=>exact ⟨0,0,by omega,rfl,rfl,by show _=_;simp [inH],Keeps.refl _⟩
 case round =>
  obtain ⟨k,p,hk,rfl,rfl,HP,HKr⟩:=hrel
  have HB:=hide (HBA.out.kept HKr.out)
  by_cases hlt:k < Hs.length
  ·have hp:0≤p∧p≤1125899906842624*60:=by rw [HP.out];exact sum_small _ 1125899906842624 Hs k 60 (by decide) (by omega) hlH (fun x hx=>by have:=HsH.out x hx;split <;> omega)
   have HPn:Hid (inH (Hs.take (k+1)) ch=p+if Hs[k].inn=ch then Hs[k].ai else 0):=by show _=_;rw [HP.out];exact sum_take_succ _ Hs k hlt
   have hz:=HsH.out Hs[k] (List.getElem_mem hlt)
   obtain ⟨b,off,ea,c0,c1,c2,c3,c4,c5,c6⟩:=hts_at (unhide HCH _ (HKA.out.trans HKr.out)) k hlt
   have HX:=hide ea
   obtain rfl:=HX.out
   generalize Hs[k]=x at *
   obtain ⟨xky,xinn,xout,xai,xao,xkp,xag⟩:=x
   dsimp only at c0 c1 c2 c3 c4 c5 c6 HPn hz
   obtain ⟨z0,z1,z2,z3⟩:=hz
   obtain ⟨hp0,hp1⟩:=hp
   have HKe:=hide (HKr.out.trans (Keeps.alloc (Keeps.refl wr) (.cells #[.int .i64 xky,.int .i64 xinn,.int .i64 xout,.int .i64 xai,.int .i64 xao,.bool xkp,.int .i64 xag] 112)))
   clear HP HB
   by_cases ho:xinn=ch
   all_goals
    (try simp only [if_pos ho] at HPn);(try simp only [if_neg ho] at HPn)
    (try subst ho)
    go_wp2_with fail
    go_roundw
    case rel=>exact ⟨k+1,_,by omega,rfl,by go_num,by show _=_;rw [HPn.out];(try omega),HKe.out⟩
    case measure=>simp [intOf];omega
  ·have e:k=Hs.length:=by omega
   subst e
   rw [List.take_length] at HP
   have hp:0≤p∧p≤1125899906842624*60:=by rw [HP.out];have:=sum_small (fun h:Htl=>if h.inn=ch then h.ai else 0) 1125899906842624 Hs Hs.length 60 (by decide) hlH hlH (fun x hx=>by have:=HsH.out x hx;split <;> omega);rw [List.take_length] at this;exact this
   obtain ⟨hp0,hp1⟩:=hp
   obtain ⟨-,-,-,-,-,b5⟩:=HB.out
   dsimp only at b5
   have HKs:=hide HKr.out
   clear HB HKr
   go_wp2_with fail
   generalize wr=W2 at *
   go_loopw [5,29] (fun x z wr=>∃ (k:Nat) (p':Int),k≤R.length∧x=.int .i64 p'∧z=.int .i64 (k:Int)∧Hid (p'=p+inR (R.take k) ch)∧Hid (Keeps W2 wr)) (fun _ z _=>R.length-(intOf z).toNat)
   case atStart=>exact ⟨0,p,by omega,rfl,rfl,by show _=_;simp [inR],Keeps.refl _⟩
   case round =>
    obtain ⟨k,p',hk,rfl,rfl,HP2,HKr⟩:=hrel
    by_cases hlt:k < R.length
    ·have hp:0≤p'∧p'≤1125899906842624*60+1125899906842624*20:=by rw [HP2.out];have:0≤inR (R.take k) ch∧inR (R.take k) ch≤1125899906842624*20:=sum_small _ 1125899906842624 R k 20 (by decide) (by omega) hlR (fun x hx=>by have:=HsR.out x hx;split <;> omega);omega
     have HPn:Hid (p+inR (R.take (k+1)) ch=p'+if R[k].to=ch then R[k].am else 0):=by show _=_;rw [HP2.out,Int.add_assoc];congr 1;exact sum_take_succ _ R k hlt
     have hz:=HsR.out R[k] (List.getElem_mem hlt)
     obtain ⟨b,off,ea,c0,c1,c2,c3,c4⟩:=crs_at (unhide HCR _ (HKA.out.trans (HKs.out.trans HKr.out))) k hlt
     have HX:=hide ea
     obtain rfl:=HX.out
     generalize R[k]=x at *
     obtain ⟨xky,xfr,xto,xam,xfe⟩:=x
     dsimp only at c0 c1 c2 c3 c4 HPn hz
     obtain ⟨z0,z1,z2,z3⟩:=hz
     clear hp0 hp1
     obtain ⟨hp0,hp1⟩:=hp
     have HKe:=hide (HKr.out.trans (Keeps.alloc (Keeps.refl wr) (.cells #[.int .i64 xky,.int .i64 xfr,.int .i64 xto,.int .i64 xam,.int .i64 xfe] 115)))
     clear HP HP2
     by_cases ho:xto=ch
     all_goals
      (try simp only [if_pos ho] at HPn);(try simp only [if_neg ho] at HPn)
      (try subst ho)
      go_wp2_with fail
      go_roundw
      case rel=>exact ⟨k+1,_,by omega,rfl,by go_num,by show _=_;rw [HPn.out];(try omega),HKe.out⟩
      case measure=>simp [intOf];omega
    ·have e:k=R.length:=by omega
     subst e
     rw [List.take_length] at HP2
     go_wp2_with fail
     go_ret
     exact ⟨ret_i (by rw [HP2.out,HP.out];rfl),(HKA.out.trans HKs.out).trans HKr.out⟩
end Go.Proofs.YtccdhcempnkgaaaGreatDoor
namespace Go.Proofs.YtccdhcempnkgaaaGreatDoor
open Go.RowKit Go.Deep
set_option linter.unusedVariables false
set_option linter.unusedSimpArgs false
set_option maxRecDepth 10000
structure Wk where
 tk:Int
 nx:Int
 wa:Int
 gC:Nat
 cC:Nat
 C:List Chn
 gH:Nat
 cH:Nat
 Hs:List Htl
 gR:Nat
 cR:Nat
 R:List Crc
 la:Option Addr
 lc:Nat
 L:List Ln
 cd:Int
def lb (a:Option Addr):List Nat:=match a with | some p=>[p.block] | none=>[]
def row8 (v0 v1 v2 v3 v4 v5 v6 v7:Value):Nat→Value:=fun i=>if i=0 then v0 else if i=1 then v1 else if i=2 then v2 else if i=3 then v3 else if i=4 then v4 else if i=5 then v5 else if i=6 then v6 else v7
def Wk.row (k:Wk):Nat→Value:=row8 (.int .i64 k.tk) (.int .i64 k.nx) (.int .i64 k.wa) (.slice (some ⟨k.gC,0,none⟩) k.C.length k.cC) (.slice (some ⟨k.gH,0,none⟩) k.Hs.length k.cH) (.slice (some ⟨k.gR,0,none⟩) k.R.length k.cR) (.slice k.la k.L.length k.lc) (.int .i64 k.cd)
def Wk.bo (k:Wk):Bo:=⟨k.tk,k.nx,k.wa,some ⟨k.gC,0,none⟩,k.cC,k.C,some ⟨k.gH,0,none⟩,k.cH,k.Hs,some ⟨k.gR,0,none⟩,k.cR,k.R⟩
abbrev OwnsLn (w:World) (base:Nat) (v:Value) (M:List Ln):Prop:=w.ownsRow base 104 3 v M.length (flat M)
structure WkAt (W w:World) (p:Nat) (k:Wk):Prop where
 keep:Keeps W w
 hp:W.heap.size≤p
 row:w.rowIs p 71 8 k.row
 oC:OwnsChan w W.heap.size (.slice (some ⟨k.gC,0,none⟩) k.C.length k.cC) k.C
 oH:OwnsHtlc w W.heap.size (.slice (some ⟨k.gH,0,none⟩) k.Hs.length k.cH) k.Hs
 oR:OwnsCircle w W.heap.size (.slice (some ⟨k.gR,0,none⟩) k.R.length k.cR) k.R
 oL:OwnsLn w W.heap.size (.slice k.la k.L.length k.lc) k.L
 nd:(p :: k.gC :: k.gH :: k.gR :: lb k.la).Nodup
theorem row_grown {w w':World} {g b:Nat} {t:TypeId} {n:Nat} {f:Nat→Value} (h:w.rowIs b t n f) (hg:w.grownBy w' (some g)) (hne:b≠g):w'.rowIs b t n f :=
 h.of_block (hg.block b h.lt (fun e=>hne (Option.some.inj e)))
theorem ownBlock_sl (g n c:Nat):(Value.slice (some ⟨g,0,none⟩) n c).ownBlock=some g:=rfl
theorem ownBlock_lb {a:Option Addr} {n c g:Nat} (h:g∉lb a):(Value.slice a n c).ownBlock=none∨(Value.slice a n c).ownBlock≠some g:=by
 cases a with
 | none=>exact .inl rfl
 | some p =>
   refine .inr (fun e=>h ?_)
   have e':some p.block=some g:=e
   have:=Option.some.inj e'
   simp [lb,this]
theorem WkAt.kept {W w w':World} {p:Nat} {k:Wk} (h:WkAt W w p k) (hk:Keeps w w'):WkAt W w' p k:=by
 have hg:w.grownBy w' none:=⟨hk.os,hk.tape,hk.output,hk.size,fun i hi _=>hk.block i hi⟩
 exact ⟨h.keep.trans hk,h.hp,hk.rowK h.row,h.oC.kept hg (.inr (by simp [ownBlock_sl])),h.oH.kept hg (.inr (by simp [ownBlock_sl])),h.oR.kept hg (.inr (by simp [ownBlock_sl])),h.oL.kept hg (by cases k.la <;> simp [Value.ownBlock]),h.nd⟩
theorem WkAt.cells {W w:World} {p:Nat} {k:Wk} (h:WkAt W w p k) :
 w.cell? ⟨p,0,none⟩=some (.int .i64 k.tk)∧w.cell? ⟨p,1,none⟩=some (.int .i64 k.nx)∧w.cell? ⟨p,2,none⟩=some (.int .i64 k.wa)∧w.cell? ⟨p,3,none⟩=some (.slice (some ⟨k.gC,0,none⟩) k.C.length k.cC)∧w.cell? ⟨p,4,none⟩=some (.slice (some ⟨k.gH,0,none⟩) k.Hs.length k.cH)∧w.cell? ⟨p,5,none⟩=some (.slice (some ⟨k.gR,0,none⟩) k.R.length k.cR)∧w.cell? ⟨p,6,none⟩=some (.slice k.la k.L.length k.lc)∧w.cell? ⟨p,7,none⟩=some (.int .i64 k.cd) :=
 ⟨h.row.cell (i:=0) (by decide),h.row.cell (i:=1) (by decide),h.row.cell (i:=2) (by decide),h.row.cell (i:=3) (by decide),h.row.cell (i:=4) (by decide),h.row.cell (i:=5) (by decide),h.row.cell (i:=6) (by decide),h.row.cell (i:=7) (by decide)⟩
theorem owns_mem {w:World} {base g cap n:Nat} {e:TypeId} {sz:Nat} {xs:List Value} (h:w.ownsRow base e sz (.slice (some ⟨g,0,none⟩) n cap) n xs):Cells w (some ⟨g,0,none⟩) xs:=by
 by_cases h0:xs=[]
 ·exact Or.inl h0
 ·refine Or.inr ⟨g,0,rfl,fun j hj=>?_⟩
  have:=h.cellAt j (by rw [← h.1];exact hj)
  rw [Nat.zero_add,this,List.getElem?_eq_getElem hj]
theorem WkAt.mem {W w:World} {p:Nat} {k:Wk} (h:WkAt W w p k):Mem w k.bo.segs :=
 mem_cons.2 ⟨owns_mem h.oC,mem_cons.2 ⟨owns_mem h.oH,mem_cons.2 ⟨owns_mem h.oR,Mem.nil _⟩⟩⟩
theorem owns_any {w:World} {base n:Nat} {a:Option Addr} {cap:Nat} {e:TypeId} {sz:Nat} {xs:List Value} (h:w.ownsRow base e sz (.slice a n cap) n xs):Cells w a xs:=by
 obtain ⟨a',cap',e1,_,_,_,e5,_⟩:=Own.of_owns h
 injection e1 with e6 _ _
 rw [e6]
 exact e5.one
theorem WkAt.put {W w:World} {p:Nat} {k:Wk} (h:WkAt W w p k) (i:Nat) (v:Value) {k':Wk} (hr:∀ j,j < 8→(if j=i then v else k.row j)=k'.row j) (hC:k'.gC=k.gC∧k'.cC=k.cC∧k'.C=k.C) (hH:k'.gH=k.gH∧k'.cH=k.cH∧k'.Hs=k.Hs) (hR:k'.gR=k.gR∧k'.cR=k.cR∧k'.R=k.R) (hL:k'.la=k.la∧k'.lc=k.lc∧k'.L=k.L):WkAt W (w.setCell ⟨p,i,none⟩ v) p k':=by
 have ht:Turn [p] w (w.setCell ⟨p,i,none⟩ v):=Turn.set (by simp) v
 have hg:w.grownBy (w.setCell ⟨p,i,none⟩ v) (some p):=⟨ht.os,ht.tape,ht.output,ht.size,fun j hj hn=>ht.block j hj (fun hx=>hn (by rw [List.mem_singleton.1 hx]))⟩
 have nd:=h.nd
 simp only [List.nodup_cons,List.mem_cons,not_or] at nd
 obtain ⟨⟨n1,n2,n3,n4⟩,_⟩:=nd
 refine ⟨ht.keeps h.keep (fun b hb=>by rw [List.mem_singleton.1 hb];exact h.hp),h.hp,(h.row.set i v).congr (fun j hj=>hr j hj),?_,?_,?_,?_,?_⟩
 ·rw [hC.1,hC.2.1,hC.2.2];exact h.oC.kept hg (.inr (by rw [ownBlock_sl];intro e;exact n1 (Option.some.inj e).symm))
 ·rw [hH.1,hH.2.1,hH.2.2];exact h.oH.kept hg (.inr (by rw [ownBlock_sl];intro e;exact n2 (Option.some.inj e).symm))
 ·rw [hR.1,hR.2.1,hR.2.2];exact h.oR.kept hg (.inr (by rw [ownBlock_sl];intro e;exact n3 (Option.some.inj e).symm))
 ·rw [hL.1,hL.2.1,hL.2.2];exact h.oL.kept hg (ownBlock_lb n4)
 ·rw [hC.1,hH.1,hR.1,hL.1];exact h.nd
theorem row8_cd (k:Wk) (c:Int):∀ j,j < 8→(if j=7 then (.int .i64 c:Value) else k.row j)=(Wk.row { k with cd:=c }) j
 | 0,_=>rfl
 | 1,_=>rfl
 | 2,_=>rfl
 | 3,_=>rfl
 | 4,_=>rfl
 | 5,_=>rfl
 | 6,_=>rfl
 | 7,_=>rfl
 | n+8,h=>absurd h (by omega)
theorem row8_wa (k:Wk) (c:Int):∀ j,j < 8→(if j=2 then (.int .i64 c:Value) else k.row j)=(Wk.row { k with wa:=c }) j
 | 0,_=>rfl
 | 1,_=>rfl
 | 2,_=>rfl
 | 3,_=>rfl
 | 4,_=>rfl
 | 5,_=>rfl
 | 6,_=>rfl
 | 7,_=>rfl
 | n+8,h=>absurd h (by omega)
theorem WkAt.setCd {W w:World} {p:Nat} {k:Wk} (h:WkAt W w p k) (c:Int):WkAt W (w.setCell ⟨p,7,none⟩ (.int .i64 c)) p { k with cd:=c }:=h.put 7 _ (row8_cd k c) ⟨rfl,rfl,rfl⟩ ⟨rfl,rfl,rfl⟩ ⟨rfl,rfl,rfl⟩ ⟨rfl,rfl,rfl⟩
theorem WkAt.setWa {W w:World} {p:Nat} {k:Wk} (h:WkAt W w p k) (c:Int):WkAt W (w.setCell ⟨p,2,none⟩ (.int .i64 c)) p { k with wa:=c }:=h.put 2 _ (row8_wa k c) ⟨rfl,rfl,rfl⟩ ⟨rfl,rfl,rfl⟩ ⟨rfl,rfl,rfl⟩ ⟨rfl,rfl,rfl⟩
def codeV (k:Wk) (bad:Bool) (c:Int):Wk:=if bad=true∧k.cd=0 then { k with cd:=c } else k
theorem code_spec (W w:World) (p:Nat) (k:Wk) (bad:Bool) (c:Int) (h:WkAt W w p k) :
 Calls Tryz.prog 34 #[.pointer (some ⟨p,0,none⟩),.bool bad,.int .i64 c] w fun e w'=>e=.returned (.bool (decide ((codeV k bad c).cd≠0)))∧WkAt W w' p (codeV k bad c):=by
 have HW:=hide h
 have c7:=h.cells.2.2.2.2.2.2.2
 have f7:=h.row.frozen 7
 cases bad with
 | false =>
   have e:codeV k false c=k:=by simp [codeV]
   rw [e]
   clear h
   generalize hcd:k.cd=cd at *
   go_enter Tryz.func34,Tryz.ntmps34
   go_wp2_with fail
   go_ret
   exact ⟨ret_b (by simp [bne];rfl),HW.out⟩
 | true =>
   by_cases hz:k.cd=0
   ·have e:codeV k true c={ k with cd:=c }:=by simp [codeV,hz]
    rw [e]
    have HS:=hide (h.setCd c)
    have c7':=HS.out.cells.2.2.2.2.2.2.2
    rw [hz] at c7
    clear h hz
    go_enter Tryz.func34,Tryz.ntmps34
    go_upto_region 3 with fail
    generalize w.setCell ⟨p,7,none⟩ (.int .i64 c)=w1 at *
    dsimp only at c7'
    go_wp2_with fail
    go_ret
    exact ⟨ret_b (by simp [bne];rfl),HS.out⟩
   ·have e:codeV k true c=k:=by simp [codeV,hz]
    rw [e]
    have hz':(k.cd==0)=false:=by simpa using hz
    clear h
    generalize hcd:k.cd=cd at *
    go_enter Tryz.func34,Tryz.ntmps34
    go_wp2_with fail
    go_ret
    exact ⟨ret_b (by simp [bne];rfl),HW.out⟩
end Go.Proofs.YtccdhcempnkgaaaGreatDoor
namespace Go.Proofs.YtccdhcempnkgaaaGreatDoor
open Go.RowKit Go.Deep
set_option linter.unusedVariables false
set_option linter.unusedSimpArgs false
set_option maxRecDepth 10000
theorem owns_older {w:World} {base base':Nat} {e:TypeId} {sz n:Nat} {v:Value} {xs:List Value} (h:w.ownsRow base e sz v n xs) (hb:base'≤base):w.ownsRow base' e sz v n xs:=by
 refine ⟨h.1,?_⟩
 rcases h.2 with h' | ⟨g,cap,cur,rfl,hb',rest⟩
 ·exact .inl h'
 ·exact .inr ⟨g,cap,cur,rfl,by omega,rest⟩
theorem row8_L (k:Wk) (a:Option Addr) (c:Nat) (M:List Ln):∀ j,j < 8→(if j=6 then (.slice a M.length c:Value) else k.row j)=(Wk.row { k with la:=a,lc:=c,L:=M }) j
 | 0,_=>rfl
 | 1,_=>rfl
 | 2,_=>rfl
 | 3,_=>rfl
 | 4,_=>rfl
 | 5,_=>rfl
 | 6,_=>rfl
 | 7,_=>rfl
 | n+8,h=>absurd h (by omega)
theorem WkAt.setL {W w w1:World} {p:Nat} {k:Wk} (h:WkAt W w p k) (hk:Keeps w w1) {a:Option Addr} {c:Nat} {M:List Ln} (ho:OwnsLn w1 w.heap.size (.slice a M.length c) M) :
 WkAt W (w1.setCell ⟨p,6,none⟩ (.slice a M.length c)) p { k with la:=a,lc:=c,L:=M }:=by
 have h1:=h.kept hk
 have ht:Turn [p] w1 (w1.setCell ⟨p,6,none⟩ (.slice a M.length c)):=Turn.set (by simp) _
 have hg:w1.grownBy (w1.setCell ⟨p,6,none⟩ (.slice a M.length c)) (some p):=⟨ht.os,ht.tape,ht.output,ht.size,fun j hj hn=>ht.block j hj (fun hx=>hn (by rw [List.mem_singleton.1 hx]))⟩
 have nd:=h.nd
 simp only [List.nodup_cons,List.mem_cons,not_or] at nd
 obtain ⟨⟨n1,n2,n3,n4⟩,⟨n5,n6,n7⟩,⟨n8,n9⟩,n10,_⟩:=nd
 have lp:=h.row.lt
 have lC:=(h.oC.lt k.gC rfl).2
 have lH:=(h.oH.lt k.gH rfl).2
 have lR:=(h.oR.lt k.gR rfl).2
 have lL:∀ b∈lb a,w.heap.size≤b:=by
  intro b hb
  cases a with
  | none=>simp [lb] at hb
  | some q =>
    simp [lb] at hb
    subst hb
    rcases ho.2 with ⟨e,_⟩ | ⟨g,cap,cur,e,hb',_⟩
    ·cases e
    ·injection e with e1 _ _
     injection e1 with e1
     subst e1
     exact hb'
 have np:p∉lb a:=fun hx=>by have:=lL _ hx;omega
 refine ⟨ht.keeps h1.keep (fun b hb=>by rw [List.mem_singleton.1 hb];exact h.hp),h.hp,(h1.row.set 6 _).congr (fun j hj=>row8_L k a c M j hj),?_,?_,?_,?_,?_⟩
 ·exact h1.oC.kept hg (.inr (by rw [ownBlock_sl];intro e;exact n1 (Option.some.inj e).symm))
 ·exact h1.oH.kept hg (.inr (by rw [ownBlock_sl];intro e;exact n2 (Option.some.inj e).symm))
 ·exact h1.oR.kept hg (.inr (by rw [ownBlock_sl];intro e;exact n3 (Option.some.inj e).symm))
 ·exact (owns_older ho h.keep.size).kept hg (ownBlock_lb np)
 ·simp only [List.nodup_cons,List.mem_cons,not_or]
  refine ⟨⟨n1,n2,n3,np⟩,⟨n5,n6,fun hx=>by have:=lL _ hx;omega⟩,⟨n8,fun hx=>by have:=lL _ hx;omega⟩,fun hx=>by have:=lL _ hx;omega,?_⟩
  cases a <;> simp [lb]
def lineW (L:List Ln) (kind ch amt:Int):List Ln:=if amt=0 then L else addG ⟨kind,ch,amt⟩ false L
def Mild (L:List Ln):Prop:=L.length≤1000∧∀ n (h:n < L.length),-1152921504606846976≤L[n].a∧L[n].a≤1152921504606846976
set_option maxHeartbeats 2000000 in
theorem line_spec (W w:World) (p:Nat) (k:Wk) (kind ch amt:Int) (h:WkAt W w p k) (hm:Mild k.L) (h0:-1152921504606846976≤amt) (h1:amt≤1152921504606846976) :
 Calls Tryz.prog 36 #[.pointer (some ⟨p,0,none⟩),.int .i64 kind,.int .i64 ch,.int .i64 amt] w fun e w'=>e=.returned (.tuple #[])∧(∃ a c,WkAt W w' p { k with la:=a,lc:=c,L:=lineW k.L kind ch amt })∧Turn [p] w w':=by
 by_cases hz:amt=0
 ·have e:lineW k.L kind ch amt=k.L:=by simp [lineW,hz]
  rw [e]
  have hz':(amt != 0)=false:=by simpa using hz
  have HW:=hide h
  clear h hz e
  go_enter Tryz.func36,Tryz.ntmps36
  go_wp2_with fail
  go_end0
  exact ⟨rfl,⟨k.la,k.lc,HW.out⟩,Turn.refl _ _⟩
 ·have e:lineW k.L kind ch amt=addG ⟨kind,ch,amt⟩ false k.L:=by simp [lineW,hz]
  rw [e]
  have hz':(amt != 0)=true:=by simpa using hz
  have HA:=hide (add_spec k.la k.lc k.L ⟨kind,ch,amt⟩ w (owns_any h.oL) (Nat.le_trans hm.1 (by decide)) h0 h1 hm.2)
  have c6:=h.cells.2.2.2.2.2.2.1
  have HW:=hide h
  clear h hz e hm
  generalize k.L.length=n at c6 HA
  generalize k.la=la at c6 HA
  generalize k.lc=lc at c6 HA
  go_enter Tryz.func36,Tryz.ntmps36
  go_wp2_with fail
  refine (unhide HA).mono ?_
  rintro x w1 ⟨v,rfl,ho,hk⟩
  obtain ⟨a,c,rfl,_⟩:=Own.of_owns ho
  have HN:=hide (HW.out.setL hk ho)
  have HTN:Hid (Turn [p] w (w1.setCell ⟨p,6,none⟩ (.slice a (addG ⟨kind,ch,amt⟩ false k.L).length c))):=(Turn.of_keeps hk _).trans' (Turn.set (by simp) _)
  have r1:=(HW.out.kept hk).cells.2.2.2.2.2.2.1
  have f1:=(HW.out.kept hk).row.frozen 6
  clear hk ho c6
  generalize (addG ⟨kind,ch,amt⟩ false k.L).length=m at *
  go_wp2_with fail
  go_end0
  exact ⟨rfl,⟨a,c,HN.out⟩,HTN.out⟩
end Go.Proofs.YtccdhcempnkgaaaGreatDoor
