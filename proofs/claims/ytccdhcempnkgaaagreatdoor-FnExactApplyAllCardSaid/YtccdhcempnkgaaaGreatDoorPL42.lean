/- The model's words on books: what is under way is right. -/
import Derived.Test.YtccdhcempnkgaaaGreatDoorPL11
namespace Go.Proofs.YtccdhcempnkgaaaGreatDoor
open Go.RowKit Go.Deep
set_option linter.unusedVariables false
set_option linter.unusedSimpArgs false
set_option maxRecDepth 10000
theorem htB_def (C:List Chn) (h:Htl):htB C h=(twoB C h.inn h.out && (amtB h.ai && (amtB h.ao && (decide (1≤h.ao) && (decide (h.ao≤h.ai) && amtB h.ag))))):=by
 have e:decide (0 < h.ao)=decide (1≤h.ao):=by apply decide_eq_decide.2;omega
 unfold htB posB
 rw [e]
 cases twoB C h.inn h.out <;> cases amtB h.ai <;> cases amtB h.ao <;> cases decide (1≤h.ao) <;> cases decide (h.ao≤h.ai) <;> cases amtB h.ag <;> rfl
theorem crB_def (C:List Chn) (c:Crc):crB C c=(twoB C c.fr c.to && (amtB c.am && (decide (1≤c.am) && amtB c.fe))):=by
 have e:decide (0 < c.am)=decide (1≤c.am):=by apply decide_eq_decide.2;omega
 unfold crB posB
 rw [e]
 cases twoB C c.fr c.to <;> cases amtB c.am <;> cases decide (1≤c.am) <;> cases amtB c.fe <;> rfl
theorem keysB_no1 {L:List Int} {k:Nat} (hk:k < L.length) (h:keyB L[k]=false):keysB L=false:=by
 simp [keysB,all_no hk h]
theorem keysB_no2 {L:List Int} {k:Nat} (hk:k < L.length) (h:L[k]∈L.take k):keysB L=false:=by
 have:¬ L.Nodup:=fun hn=>by
  obtain ⟨j,hj,e⟩:=List.getElem_of_mem h
  rw [List.length_take] at hj
  rw [List.getElem_take] at e
  exact (List.pairwise_iff_getElem.1 hn j k (by omega) hk (by omega)) e
 simp [keysB,this]
theorem keysB_yes {L:List Int} (h1:∀ k (hk:k < L.length),keyB L[k]=true) (h2:∀ k (hk:k < L.length),L[k]∉L.take k):keysB L=true:=by
 have hn:L.Nodup:=List.pairwise_iff_getElem.2 (fun i j hi hj hij e=>h2 j hj (by
  rw [← e]
  exact List.mem_take_iff_getElem.2 ⟨i,by omega,rfl⟩))
 simp [keysB,all_yes h1,hn]
set_option maxHeartbeats 8000000 in
theorem under_spec (B:Bo) (w:World) (hm:Mem w B.segs) (hl:B.C.length≤1048576) (hH:B.Hs.length≤60) (hR:B.R.length≤20):Calls Tryz.prog 65 #[B.v] w fun e w'=>e=.returned (.bool (underB B.d))∧Keeps w w':=by
 have H1:=hide (fun x y w' (hk:Keeps w w')=>two_spec B x y w' (hm.kept hk) hl)
 have H2:=hide (fun w' (hk:Keeps w w')=>keys_spec B w' (hm.kept hk) hH hR)
 obtain ⟨tk,nx,wa,ca,cc,C,ha,hc,Hs,ra,rc,R⟩:=B
 have HCC:=hide (fun w' (hk:Keeps w w')=>Bo.memC (hm.kept hk))
 have HCH:=hide (fun w' (hk:Keeps w w')=>Bo.memH (hm.kept hk))
 have HCR:=hide (fun w' (hk:Keeps w w')=>Bo.memR (hm.kept hk))
 have HL:=hide hl
 have HBA:=hide (book_box ⟨tk,nx,wa,ca,cc,C,ha,hc,Hs,ra,rc,R⟩ w 34)
 have HKA:=hide (Keeps.alloc (Keeps.refl w) (.cells #[.int .i64 tk,.int .i64 nx,.int .i64 wa,.slice ca C.length cc,.slice ha Hs.length hc,.slice ra R.length rc] 34))
 dsimp only [Bo.d,Bo.v] at *
 clear hm hl
 go_enter Tryz.func65,Tryz.ntmps65
 go_wp2_with fail
 generalize w.alloc (.cells #[.int .i64 tk,.int .i64 nx,.int .i64 wa,.slice ca C.length cc,.slice ha Hs.length hc,.slice ra R.length rc] 34)=W0 at *
 have HKS:=hide (Keeps.refl W0)
 go_loopw [13] (fun y wr=>∃ k:Nat,k≤Hs.length∧y=.int .i64 (k:Int)∧Hid (∀ j (hj:j < Hs.length),j < k→htB C Hs[j]=true)∧Hid (Keeps W0 wr)) (fun y _=>Hs.length-(intOf y).toNat)
 case atStart=>exact ⟨0,by omega,rfl,fun j hj h=>absurd h (by omega),HKS.out⟩
 case round =>
  obtain ⟨k,hk,rfl,HG,HKr⟩:=hrel
  clear HKS
  by_cases hlt:k < Hs.length
  ·skip
   obtain ⟨b,off,ea,c0,c1,c2,c3,c4,c5,c6⟩:=hts_at (unhide HCH _ (HKA.out.trans HKr.out)) k hlt
   subst ea
   have HX:Hid (Hs[k]=Hs[k]):=rfl
   generalize hx:Hs[k]=x at c0 c1 c2 c3 c4 c5 c6 HX
   replace HX:=hide hx
   clear hx
   obtain ⟨xky,xinn,xout,xai,xao,xkp,xag⟩:=x
   dsimp only at c0 c1 c2 c3 c4 c5 c6
   have HA:=hide (rowc7 wr (.int .i64 xky) (.int .i64 xinn) (.int .i64 xout) (.int .i64 xai) (.int .i64 xao) (.bool xkp) (.int .i64 xag) 112)
   have HKv:=hide (HKr.out.trans (Keeps.alloc (Keeps.refl wr) (.cells #[.int .i64 xky,.int .i64 xinn,.int .i64 xout,.int .i64 xai,.int .i64 xao,.bool xkp,.int .i64 xag] 112)))
   obtain ⟨b0,b1,b2,b3,b4,b5⟩:=HBA.out.kept HKv.out
   dsimp only at b0 b1 b2 b3 b4 b5
   go_wp2_with fail
   clear b0 b1 b2 b3 b4 b5
   generalize wr.alloc (.cells #[.int .i64 xky,.int .i64 xinn,.int .i64 xout,.int .i64 xai,.int .i64 xao,.bool xkp,.int .i64 xag] 112)=W1 at *
   have HKc:=hide (Keeps.refl W1)
   refine (unhide H1 xinn xout _ (HKA.out.trans HKv.out)).mono ?_
   rintro e w1 ⟨rfl,hk⟩
   replace HKc:=hide (HKc.out.trans hk)
   clear hk
   obtain ⟨d0,d1,d2,d3,d4,d5,d6⟩:=unhide HA w1 HKc.out
   cases hbw1:twoB C xinn xout
   ·go_wp2_with fail
    go_ret
    exact ⟨ret_b (by unfold underB;rw [show Hs.all (htB C)=false from all_no hlt (by rw [HX.out,htB_def];simp [hbw1];try omega)];rfl),(HKA.out.trans HKv.out).trans HKc.out⟩
   go_wp2_with fail
   refine (amt_spec xai _).mono ?_
   rintro e w2 ⟨rfl,hk⟩
   replace HKc:=hide (HKc.out.trans hk)
   clear d0 d1 d2 d3 d4 d5 d6
   clear hk
   obtain ⟨d0,d1,d2,d3,d4,d5,d6⟩:=unhide HA w2 HKc.out
   cases hbw2:amtB xai
   ·go_wp2_with fail
    go_ret
    exact ⟨ret_b (by unfold underB;rw [show Hs.all (htB C)=false from all_no hlt (by rw [HX.out,htB_def];simp [hbw1,hbw2];try omega)];rfl),(HKA.out.trans HKv.out).trans HKc.out⟩
   go_wp2_with fail
   refine (amt_spec xao _).mono ?_
   rintro e w3 ⟨rfl,hk⟩
   replace HKc:=hide (HKc.out.trans hk)
   clear d0 d1 d2 d3 d4 d5 d6
   clear hk
   obtain ⟨d0,d1,d2,d3,d4,d5,d6⟩:=unhide HA w3 HKc.out
   cases hbw3:amtB xao
   ·go_wp2_with fail
    go_ret
    exact ⟨ret_b (by unfold underB;rw [show Hs.all (htB C)=false from all_no hlt (by rw [HX.out,htB_def];simp [hbw1,hbw2,hbw3];try omega)];rfl),(HKA.out.trans HKv.out).trans HKc.out⟩
   by_cases hpw3_3:xao < 1
   ·have hpw3_3d:=hide hpw3_3
    go_wp2_with fail
    go_ret
    exact ⟨ret_b (by unfold underB;rw [show Hs.all (htB C)=false from all_no hlt (by rw [HX.out,htB_def];simp [hbw1,hbw2,hbw3,hpw3_3d.out];try omega)];rfl),(HKA.out.trans HKv.out).trans HKc.out⟩
   have hpw3_3d:=hide hpw3_3
   by_cases hpw3_4:xai < xao
   ·have hpw3_4d:=hide hpw3_4
    go_wp2_with fail
    go_ret
    exact ⟨ret_b (by unfold underB;rw [show Hs.all (htB C)=false from all_no hlt (by rw [HX.out,htB_def];simp [hbw1,hbw2,hbw3,hpw3_3d.out,hpw3_4d.out];try omega)];rfl),(HKA.out.trans HKv.out).trans HKc.out⟩
   have hpw3_4d:=hide hpw3_4
   go_wp2_with fail
   refine (amt_spec xag _).mono ?_
   rintro e w4 ⟨rfl,hk⟩
   replace HKc:=hide (HKc.out.trans hk)
   clear d0 d1 d2 d3 d4 d5 d6
   clear hk
   obtain ⟨d0,d1,d2,d3,d4,d5,d6⟩:=unhide HA w4 HKc.out
   cases hbw4:amtB xag
   ·go_wp2_with fail
    go_ret
    exact ⟨ret_b (by unfold underB;rw [show Hs.all (htB C)=false from all_no hlt (by rw [HX.out,htB_def];simp [hbw1,hbw2,hbw3,hpw3_3d.out,hpw3_4d.out,hbw4];try omega)];rfl),(HKA.out.trans HKv.out).trans HKc.out⟩
   go_wp2_with fail
   have HOK:Hid (htB C ⟨xky,xinn,xout,xai,xao,xkp,xag⟩=true):=by show _=_;rw [htB_def];simp [hbw1,hbw2,hbw3,hpw3_3d.out,hpw3_4d.out,hbw4];try omega
   have HKe:=hide (HKv.out.trans HKc.out)
   go_roundw
   case rel=>exact ⟨k+1,by omega,by go_num,fun j hj h=>by
              by_cases e:j=k
              ·subst e;rw [HX.out];exact HOK.out
              ·exact HG.out j hj (by omega),HKe.out⟩
   case measure=>simp [intOf];omega
  ·have HAHs:Hid (Hs.all (htB C)=true):=all_yes (fun j hj=>HG.out j hj (by omega))
   have HKS:=hide HKr.out
   clear HG
   obtain ⟨-,-,-,-,-,b5⟩:=HBA.out.kept HKr.out
   dsimp only at b5
   go_wp2_with fail
   clear b5 HKr
   go_loopw [58] (fun y wr=>∃ k:Nat,k≤R.length∧y=.int .i64 (k:Int)∧Hid (∀ j (hj:j < R.length),j < k→crB C R[j]=true)∧Hid (Keeps W0 wr)) (fun y _=>R.length-(intOf y).toNat)
   case atStart=>exact ⟨0,by omega,rfl,fun j hj h=>absurd h (by omega),HKS.out⟩
   case round =>
    obtain ⟨k,hk,rfl,HG,HKr⟩:=hrel
    clear HKS
    by_cases hlt:k < R.length
    ·skip
     obtain ⟨b,off,ea,c0,c1,c2,c3,c4⟩:=crs_at (unhide HCR _ (HKA.out.trans HKr.out)) k hlt
     subst ea
     have HX:Hid (R[k]=R[k]):=rfl
     generalize hx:R[k]=x at c0 c1 c2 c3 c4 HX
     replace HX:=hide hx
     clear hx
     obtain ⟨xky,xfr,xto,xam,xfe⟩:=x
     dsimp only at c0 c1 c2 c3 c4
     have HA:=hide (rowc5 wr (.int .i64 xky) (.int .i64 xfr) (.int .i64 xto) (.int .i64 xam) (.int .i64 xfe) 115)
     have HKv:=hide (HKr.out.trans (Keeps.alloc (Keeps.refl wr) (.cells #[.int .i64 xky,.int .i64 xfr,.int .i64 xto,.int .i64 xam,.int .i64 xfe] 115)))
     obtain ⟨b0,b1,b2,b3,b4,b5⟩:=HBA.out.kept HKv.out
     dsimp only at b0 b1 b2 b3 b4 b5
     go_wp2_with fail
     clear b0 b1 b2 b3 b4 b5
     generalize wr.alloc (.cells #[.int .i64 xky,.int .i64 xfr,.int .i64 xto,.int .i64 xam,.int .i64 xfe] 115)=W1 at *
     have HKc:=hide (Keeps.refl W1)
     refine (unhide H1 xfr xto _ (HKA.out.trans HKv.out)).mono ?_
     rintro e w5 ⟨rfl,hk⟩
     replace HKc:=hide (HKc.out.trans hk)
     clear hk
     obtain ⟨d0,d1,d2,d3,d4⟩:=unhide HA w5 HKc.out
     cases hbw5:twoB C xfr xto
     ·go_wp2_with fail
      go_ret
      exact ⟨ret_b (by unfold underB;rw [show R.all (crB C)=false from all_no hlt (by rw [HX.out,crB_def];simp [hbw5];try omega)];simp),(HKA.out.trans HKv.out).trans HKc.out⟩
     go_wp2_with fail
     refine (amt_spec xam _).mono ?_
     rintro e w6 ⟨rfl,hk⟩
     replace HKc:=hide (HKc.out.trans hk)
     clear d0 d1 d2 d3 d4
     clear hk
     obtain ⟨d0,d1,d2,d3,d4⟩:=unhide HA w6 HKc.out
     cases hbw6:amtB xam
     ·go_wp2_with fail
      go_ret
      exact ⟨ret_b (by unfold underB;rw [show R.all (crB C)=false from all_no hlt (by rw [HX.out,crB_def];simp [hbw5,hbw6];try omega)];simp),(HKA.out.trans HKv.out).trans HKc.out⟩
     by_cases hpw6_2:xam < 1
     ·have hpw6_2d:=hide hpw6_2
      go_wp2_with fail
      go_ret
      exact ⟨ret_b (by unfold underB;rw [show R.all (crB C)=false from all_no hlt (by rw [HX.out,crB_def];simp [hbw5,hbw6,hpw6_2d.out];try omega)];simp),(HKA.out.trans HKv.out).trans HKc.out⟩
     have hpw6_2d:=hide hpw6_2
     go_wp2_with fail
     refine (amt_spec xfe _).mono ?_
     rintro e w7 ⟨rfl,hk⟩
     replace HKc:=hide (HKc.out.trans hk)
     clear d0 d1 d2 d3 d4
     clear hk
     obtain ⟨d0,d1,d2,d3,d4⟩:=unhide HA w7 HKc.out
     cases hbw7:amtB xfe
     ·go_wp2_with fail
      go_ret
      exact ⟨ret_b (by unfold underB;rw [show R.all (crB C)=false from all_no hlt (by rw [HX.out,crB_def];simp [hbw5,hbw6,hpw6_2d.out,hbw7];try omega)];simp),(HKA.out.trans HKv.out).trans HKc.out⟩
     go_wp2_with fail
     have HOK:Hid (crB C ⟨xky,xfr,xto,xam,xfe⟩=true):=by show _=_;rw [crB_def];simp [hbw5,hbw6,hpw6_2d.out,hbw7];try omega
     have HKe:=hide (HKv.out.trans HKc.out)
     go_roundw
     case rel=>exact ⟨k+1,by omega,by go_num,fun j hj h=>by
                by_cases e:j=k
                ·subst e;rw [HX.out];exact HOK.out
                ·exact HG.out j hj (by omega),HKe.out⟩
     case measure=>simp [intOf];omega
    ·have HAR:Hid (R.all (crB C)=true):=all_yes (fun j hj=>HG.out j hj (by omega))
     have HKS:=hide HKr.out
     clear HG
     obtain ⟨b0,b1,b2,b3,b4,b5⟩:=HBA.out.kept HKr.out
     dsimp only at b0 b1 b2 b3 b4 b5
     go_wp2_with fail
     clear b0 b1 b2 b3 b4 b5
     refine (unhide H2 _ (HKA.out.trans HKr.out)).mono ?_
     rintro e w3 ⟨g,cap,rfl,ho3,hk3⟩
     have HU:Hid (underB ⟨tk,nx,wa,C,Hs,R⟩=keysB (keysL ⟨tk,nx,wa,C,Hs,R⟩)):=by show _=_;unfold underB;rw [HAHs.out,HAR.out];rfl
     have hll:(keysL ⟨tk,nx,wa,C,Hs,R⟩).length≤80:=by simp [keysL];omega
     generalize keysL ⟨tk,nx,wa,C,Hs,R⟩=L at *
     have HK3:=hide ((HKA.out.trans HKr.out).trans hk3)
     have HCM:Hid (∀ w'',Keeps w3 w''→∀ j (hj:j < L.length),w''.cell? ⟨g,j,none⟩=some (.int .i64 L[j])):=fun w'' hk j hj=>by
      refine hk.cell ?_
      have h:=ho3.cells rfl j (.int .i64 L[j]) (by simp [its,hj])
      have ea:(⟨g,0,none⟩:Addr).add j=⟨g,j,none⟩:=by simp [Addr.add];intro h;exact h.symm
      rw [ea] at h;exact h
     have HCT:Hid (∀ w'',Keeps w3 w''→∀ k,k≤L.length→Cells w'' (some ⟨g,0,none⟩) (its (L.take k))):=fun w'' hk k hkl=>by
      refine Or.inr ⟨g,0,rfl,fun j hj=>?_⟩
      have hj':j < L.length:=by simp [its] at hj;omega
      rw [Nat.zero_add,HCM.out w'' hk j hj']
      simp [its]
     have hcap:L.length≤cap:=by
      rcases ho3.2 with ⟨e0,_⟩ | ⟨g',cap',cur,e0,_,_,hn,_⟩
      ·cases e0
      ·injection e0 with _ _ e3
       omega
     have hcm:cap≤maxLen:=by
      rcases ho3.2 with ⟨e0,_⟩ | ⟨g',cap',cur,e0,_,_,hn,hm,_⟩
      ·cases e0
      ·injection e0 with _ _ e3
       omega
     simp only [maxLen] at hcm
     clear ho3 hk3 HKr HKS
     go_wp2_with fail
     go_loopw [91] (fun y wr=>∃ k:Nat,k≤L.length∧y=.int .i64 (k:Int)∧Hid (∀ j (hj:j < L.length),j < k→keyB L[j]=true)∧Hid (∀ j (hj:j < L.length),j < k→L[j]∉L.take j)∧Hid (Keeps w3 wr)) (fun y _=>L.length-(intOf y).toNat)
     case atStart=>exact ⟨0,by omega,rfl,fun j hj h=>absurd h (by omega),fun m hm h=>absurd h (by omega),Keeps.refl _⟩
     case round =>
      obtain ⟨k,hk,rfl,HG,HG2,HKr⟩:=hrel
      by_cases hlt:k < L.length
      ·have c0:=HCM.out _ HKr.out k hlt
       have HT:=hide (fun x=>hasint_spec (some ⟨g,0,none⟩) cap (L.take k) x wr (HCT.out _ HKr.out k hk) (by rw [List.length_take];omega))
       have hlk:(L.take k).length=k:=by rw [List.length_take];omega
       rw [hlk] at HT
       have HX:Hid (L[k]=L[k]):=rfl
       generalize hx:L[k]=x at c0 HX
       replace HX:=hide hx
       clear hx hlk
       by_cases h1:x < 1
       ·have HB:Hid (keyB x=false):=by show _=_;simp [keyB];omega
        go_wp2_with fail
        go_ret
        exact ⟨ret_b (by rw [HU.out,keysB_no1 hlt (by rw [HX.out];exact HB.out)]),HK3.out.trans HKr.out⟩
       by_cases h2:1000000 < x
       ·have HB:Hid (keyB x=false):=by show _=_;simp [keyB];omega
        go_wp2_with fail
        go_ret
        exact ⟨ret_b (by rw [HU.out,keysB_no1 hlt (by rw [HX.out];exact HB.out)]),HK3.out.trans HKr.out⟩
       have HB:Hid (keyB x=true):=by show _=_;simp [keyB];omega
       go_wp2_with fail
       refine (unhide HT x).mono ?_
       rintro e w4 ⟨rfl,hw⟩
       obtain rfl:=Eq.symm hw
       clear hw
       by_cases hin:x∈L.take k
       ·have HIN:=hide hin
        rw [decide_eq_true hin]
        clear hin HT
        go_wp2_with fail
        go_ret
        exact ⟨ret_b (by rw [HU.out,keysB_no2 hlt (by rw [HX.out];exact HIN.out)]),HK3.out.trans HKr.out⟩
       ·have HIN:=hide hin
        rw [decide_eq_false hin]
        clear hin HT
        go_wp2_with fail
        go_roundw
        case rel=>exact ⟨k+1,by omega,by go_num,fun j hj h=>by
                   by_cases e:j=k
                   ·subst e;rw [HX.out];exact HB.out
                   ·exact HG.out j hj (by omega),fun j hj h=>by
                   by_cases e:j=k
                   ·subst e;rw [HX.out];exact HIN.out
                   ·exact HG2.out j hj (by omega),HKr.out⟩
        case measure=>simp [intOf];omega
      ·have HR:Hid (keysB L=true):=keysB_yes (fun j hj=>HG.out j hj (by omega)) (fun j hj=>HG2.out j hj (by omega))
       go_wp2_with fail
       go_ret
       exact ⟨ret_b (by rw [HU.out,HR.out]),HK3.out.trans HKr.out⟩
end Go.Proofs.YtccdhcempnkgaaaGreatDoor
