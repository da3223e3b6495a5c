/- Texts of the verifier, joined: BkE, BsA. -/
import Derived.Test.YtccdhcempnkgaaaGreatDoorPL9
namespace Go.Proofs.YtccdhcempnkgaaaGreatDoor
open Go.RowKit Go.Deep
set_option linter.unusedVariables false
set_option linter.unusedSimpArgs false
set_option maxRecDepth 10000
theorem sortI_perm (L:List Int):(sortI L).Perm L:=List.mergeSort_perm L _
theorem sortI_le (L:List Int):(sortI L).Pairwise (·≤·):=by
 have h:=List.pairwise_mergeSort (le:=fun x y:Int=>decide (x≤y)) (fun a b c h1 h2=>by simp at *;omega) (fun a b=>by simp;omega) L
 exact h.imp (fun h=>by simpa using h)
theorem sortI_len (L:List Int):(sortI L).length=L.length:=(sortI_perm L).length_eq
theorem keys_no1 {L:List Int} {k:Nat} (hk:k < (sortI L).length) (h:keyB (sortI L)[k]=false):keysB L=false:=by
 have:L.all keyB=false:=by
  rw [List.all_eq_false]
  exact ⟨_,(sortI_perm L).mem_iff.1 (List.getElem_mem hk),by simp [h]⟩
 simp [keysB,this]
theorem keys_no2 {L:List Int} {m:Nat} (hk:m+1 < (sortI L).length) (h:(sortI L)[m]=(sortI L)[m+1]):keysB L=false:=by
 have:¬ L.Nodup:=fun hn=>by
  have h2:=(sortI_perm L).nodup_iff.2 hn
  exact (List.pairwise_iff_getElem.1 h2 m (m+1) (by omega) hk (by omega)) h
 simp [keysB,this]
theorem keys_yes {L:List Int} (h1:∀ k (hk:k < (sortI L).length),keyB (sortI L)[k]=true) (h2:∀ m (hk:m+1 < (sortI L).length),(sortI L)[m]≠(sortI L)[m+1]):keysB L=true:=by
 have hall:L.all keyB=true:=by
  rw [List.all_eq_true]
  intro x hx
  obtain ⟨k,hk,rfl⟩:=List.getElem_of_mem ((sortI_perm L).mem_iff.2 hx)
  exact h1 k hk
 have hs:=List.pairwise_iff_getElem.1 (sortI_le L)
 have hn:(sortI L).Nodup:=by
  refine List.pairwise_iff_getElem.2 (fun i j hi hj hij=>?_)
  have a1:=h2 i (by omega)
  have a2:=hs i (i+1) (by omega) (by omega) (by omega)
  rcases Nat.lt_or_ge (i+1) j with h | h
  ·have a3:=hs (i+1) j (by omega) hj h
   omega
  ·have e:j=i+1:=by omega
   subst e;exact a1
 simp [keysB,hall,(sortI_perm L).nodup_iff.1 hn]
def keysTo (H:List Htl) (R:List Crc):List Int:=H.map Htl.ky++R.map Crc.ky
theorem make_ints0 (n:Nat) (hn:n≤1048576) (w:World):(Instr.makeSlice 51 (.int .i64 0) (.int .i64 (n:Int))).run Tryz.prog w=.ok (.slice (some ⟨w.heap.size,0,none⟩) 0 n) (w.alloc (.cells (madeCells #[.int .i64 0] n) 3)):=by
 have hI:=infoInt
 cases hi:Tryz.prog.info? 3 with
 | none=>rw [hi] at hI;simp at hI
 | some i =>
   rw [hi] at hI
   simp at hI
   obtain ⟨hz,hs,hb⟩:=hI
   have h:=run_make (P:=Tryz.prog) w 51 3 i _ underInts hi hz .i64 .i64 0 n (by omega) (by omega) (by rw [hb];omega) (by omega)
   rw [hs] at h
   simpa [Value.cells] using h
theorem its_one (w:World) (x:Int) (t:TypeId):∀ j u,(its [x])[j]? = some u→(w.alloc (.cells #[.int .i64 x] t)).cell? ((⟨w.heap.size,0,none⟩:Addr).add j)=some u:=by
 intro j u h
 have hj:j=0:=by
  rcases Nat.lt_or_ge j 1 with h' | h'
  ·omega
  ·rw [List.getElem?_eq_none (by simp [its];omega)] at h;cases h
 subst hj
 simp [its] at h
 subst h
 simp [Addr.add]
set_option maxHeartbeats 4000000 in
theorem keys_impl (B:Bo) (w:World) (hm:Mem w B.segs) (hl:B.len) (hH:B.Hs.length≤60) (hR:B.R.length≤20):Calls Tryz.prog 87 #[B.v] w fun e w'=>e=.returned (.bool (keysB (keysL B.d)))∧Keeps w w':=by
 obtain ⟨tk,nx,wa,ca,cc,C,ha,hc,Hs,ra,rc,R⟩:=B
 have HCH:=hide (fun w' (hk:Keeps w w')=>Bo.memH (hm.kept hk))
 have HCR:=hide (fun w' (hk:Keeps w w')=>Bo.memR (hm.kept hk))
 have HBA:=hide (book_box ⟨tk,nx,wa,ca,cc,C,ha,hc,Hs,ra,rc,R⟩ w 34)
 have HKA:=hide (Keeps.alloc (Keeps.refl w) (.cells #[.int .i64 tk,.int .i64 nx,.int .i64 wa,.slice ca C.length cc,.slice ha Hs.length hc,.slice ra R.length rc] 34))
 dsimp only [Bo.d,Bo.v] at *
 clear hm hl
 have hmk:=make_ints0 (Hs.length+R.length) (by omega)
 simp only [Int.natCast_add] at hmk
 go_enter Tryz.func87,Tryz.ntmps87
 go_wp2_with fail
 have HO0:Hid (OwnsI ((w.alloc (.cells #[.int .i64 tk,.int .i64 nx,.int .i64 wa,.slice ca C.length cc,.slice ha Hs.length hc,.slice ra R.length rc] 34)).alloc (.cells (madeCells #[.int .i64 0] (Hs.length+R.length)) 3)) (w.alloc (.cells #[.int .i64 tk,.int .i64 nx,.int .i64 wa,.slice ca C.length cc,.slice ha Hs.length hc,.slice ra R.length rc] 34)).heap.size (.slice (some ⟨(w.alloc (.cells #[.int .i64 tk,.int .i64 nx,.int .i64 wa,.slice ca C.length cc,.slice ha Hs.length hc,.slice ra R.length rc] 34)).heap.size,0,none⟩) 0 (Hs.length+R.length)) []) :=
  World.ownsRow_made (base:=(w.alloc (.cells #[.int .i64 tk,.int .i64 nx,.int .i64 wa,.slice ca C.length cc,.slice ha Hs.length hc,.slice ra R.length rc] 34)).heap.size) (e:=3) (size:=1) _ _ (Hs.length+R.length) (Nat.le_refl _) (by simp only [maxLen];omega) (by simp [madeCells])
 have HK0:=hide (Keeps.alloc (Keeps.refl (w.alloc (.cells #[.int .i64 tk,.int .i64 nx,.int .i64 wa,.slice ca C.length cc,.slice ha Hs.length hc,.slice ra R.length rc] 34))) (.cells (madeCells #[.int .i64 0] (Hs.length+R.length)) 3))
 have hsz:(w.alloc (.cells #[.int .i64 tk,.int .i64 nx,.int .i64 wa,.slice ca C.length cc,.slice ha Hs.length hc,.slice ra R.length rc] 34)).heap.size=w.heap.size+1:=by simp
 have HSZ:=hide hsz
 clear hsz hmk
 generalize hW:w.alloc (.cells #[.int .i64 tk,.int .i64 nx,.int .i64 wa,.slice ca C.length cc,.slice ha Hs.length hc,.slice ra R.length rc] 34)=W0 at *
 clear hW
 go_loopw [3,21] (fun v y wr=>∃ k:Nat,k≤Hs.length∧y=.int .i64 (k:Int)∧Hid (OwnsI wr W0.heap.size v (keysTo (Hs.take k) []))∧Hid (v≠.slice none 0 0)∧Hid (Keeps W0 wr)) (fun _ y _=>Hs.length-(intOf y).toNat)
 case atStart=>exact ⟨0,by omega,rfl,by show OwnsI _ _ _ _;rw [HSZ.out] at HO0 ⊢;simpa [keysTo] using HO0.out,fun h=>by simp at h,HK0.out⟩
 case round =>
  obtain ⟨k,hk,rfl,HO,HN,HKr⟩:=hrel
  clear HO0 HK0
  by_cases hlt:k < Hs.length
  ·skip
   obtain ⟨b,off,ea,c0,c1,c2,c3,c4,c5,c6⟩:=hts_at (unhide HCH _ (HKA.out.trans HKr.out)) k hlt
   have HX:=hide ea
   clear ea
   have HS:Hid (Hs.take (k+1)=Hs.take k++[Hs[k]]):=by show _=_;rw [List.take_add_one,List.getElem?_eq_getElem hlt];rfl
   generalize Hs[k]=x at *
   obtain ⟨xky,xinn,xout,xai,xao,xkp,xag⟩:=x
   dsimp only at c0 c1 c2 c3 c4 c5 c6 HS
   have HO2:=hide ((HO.out.alloc (.cells #[.int .i64 xky,.int .i64 xinn,.int .i64 xout,.int .i64 xai,.int .i64 xao,.bool xkp,.int .i64 xag] 112)).alloc (.cells #[.int .i64 xky] 3))
   have HK2:=hide (Keeps.alloc (Keeps.alloc HKr.out (.cells #[.int .i64 xky,.int .i64 xinn,.int .i64 xout,.int .i64 xai,.int .i64 xao,.bool xkp,.int .i64 xag] 112)) (.cells #[.int .i64 xky] 3))
   have HM2:=hide (its_one (wr.alloc (.cells #[.int .i64 xky,.int .i64 xinn,.int .i64 xout,.int .i64 xai,.int .i64 xao,.bool xkp,.int .i64 xag] 112)) xky 3)
   have hz:(wr.alloc (.cells #[.int .i64 xky,.int .i64 xinn,.int .i64 xout,.int .i64 xai,.int .i64 xao,.bool xkp,.int .i64 xag] 112)).heap.size=wr.heap.size+1:=by simp
   rw [hz] at HM2
   have hb2:W0.heap.size≤((wr.alloc (.cells #[.int .i64 xky,.int .i64 xinn,.int .i64 xout,.int .i64 xai,.int .i64 xao,.bool xkp,.int .i64 xag] 112)).alloc (.cells #[.int .i64 xky] 3)).heap.size:=HK2.out.size
   have HB2:=hide hb2
   clear hb2 hz
   obtain rfl:=HX.out
   go_wp2_with (at_builtin;refine app_its rfl (.tmp 25) (.tmp 28) rfl W0.heap.size _ (keysTo (Hs.take k) []) [xky] rfl ⟨wr.heap.size+1,0,none⟩ 1 rfl HM2.out HO2.out (by simp [keysTo];omega) HB2.out ?_;intro v' w' ho hg hn)
   go_roundw
   case rel =>
    refine ⟨k+1,by omega,by go_num,?_,hn HN.out,Keeps.grown HK2.out hg (fun j hj=>(HO2.out.lt j hj).1)⟩
    show OwnsI _ _ _ _
    rw [HS.out]
    simpa [keysTo] using ho
   case measure=>simp [intOf];omega
  ·have e:k=Hs.length:=by omega
   subst e
   rw [List.take_length] at HO
   obtain ⟨-,-,-,-,-,b5⟩:=HBA.out.kept HKr.out
   dsimp only at b5
   go_wp2_with fail
   clear b5
   have HO1:=hide HO.out
   have HN1:=hide HN.out
   have HK1:=hide HKr.out
   clear HO HN HKr
   go_loopw [3,34] (fun v y wr=>∃ k:Nat,k≤R.length∧y=.int .i64 (k:Int)∧Hid (OwnsI wr W0.heap.size v (keysTo Hs (R.take k)))∧Hid (v≠.slice none 0 0)∧Hid (Keeps W0 wr)) (fun _ y _=>R.length-(intOf y).toNat)
   case atStart=>exact ⟨0,by omega,rfl,by show OwnsI _ _ _ _;simpa using HO1.out,HN1,HK1⟩
   case round =>
    obtain ⟨k,hk,rfl,HO,HN,HKr⟩:=hrel
    clear HO1 HN1 HK1
    by_cases hlt:k < R.length
    ·skip
     obtain ⟨b,off,ea,c0,c1,c2,c3,c4⟩:=crs_at (unhide HCR _ (HKA.out.trans HKr.out)) k hlt
     have HX:=hide ea
     clear ea
     have HS:Hid (R.take (k+1)=R.take k++[R[k]]):=by show _=_;rw [List.take_add_one,List.getElem?_eq_getElem hlt];rfl
     generalize R[k]=x at *
     obtain ⟨xky,xfr,xto,xam,xfe⟩:=x
     dsimp only at c0 c1 c2 c3 c4 HS
     have HO2:=hide ((HO.out.alloc (.cells #[.int .i64 xky,.int .i64 xfr,.int .i64 xto,.int .i64 xam,.int .i64 xfe] 115)).alloc (.cells #[.int .i64 xky] 3))
     have HK2:=hide (Keeps.alloc (Keeps.alloc HKr.out (.cells #[.int .i64 xky,.int .i64 xfr,.int .i64 xto,.int .i64 xam,.int .i64 xfe] 115)) (.cells #[.int .i64 xky] 3))
     have HM2:=hide (its_one (wr.alloc (.cells #[.int .i64 xky,.int .i64 xfr,.int .i64 xto,.int .i64 xam,.int .i64 xfe] 115)) xky 3)
     have hz:(wr.alloc (.cells #[.int .i64 xky,.int .i64 xfr,.int .i64 xto,.int .i64 xam,.int .i64 xfe] 115)).heap.size=wr.heap.size+1:=by simp
     rw [hz] at HM2
     have hb2:W0.heap.size≤((wr.alloc (.cells #[.int .i64 xky,.int .i64 xfr,.int .i64 xto,.int .i64 xam,.int .i64 xfe] 115)).alloc (.cells #[.int .i64 xky] 3)).heap.size:=HK2.out.size
     have HB2:=hide hb2
     clear hb2 hz
     obtain rfl:=HX.out
     go_wp2_with (at_builtin;refine app_its rfl (.tmp 38) (.tmp 41) rfl W0.heap.size _ (keysTo Hs (R.take k)) [xky] rfl ⟨wr.heap.size+1,0,none⟩ 1 rfl HM2.out HO2.out (by simp [keysTo];omega) HB2.out ?_;intro v' w' ho hg hn)
     go_roundw
     case rel =>
      refine ⟨k+1,by omega,by go_num,?_,hn HN.out,Keeps.grown HK2.out hg (fun j hj=>(HO2.out.lt j hj).1)⟩
      show OwnsI _ _ _ _
      rw [HS.out]
      simpa [keysTo] using ho
     case measure=>simp [intOf];omega
    ·have e:k=R.length:=by omega
     subst e
     rw [List.take_length] at HO
     have hll:(keysTo Hs R).length≤80:=by simp [keysTo];omega
     obtain ⟨g,cap,e1,hb,hlt',h1,h2,h3,-⟩:=Go.Lib.holds_of_ownsRow (enc:=Value.int .i64) (zs:=keysTo Hs R) HO.out HN.out
     have HVE:=hide e1
     obtain rfl:=HVE.out
     have HKL:Hid (keysB (keysL ⟨tk,nx,wa,C,Hs,R⟩)=keysB (keysTo Hs R)):=rfl
     generalize keysTo Hs R=L at *
     have HST:=hide (fun w'=>sort_ints g cap W0.heap.size L w')
     clear e1 hb h1 h2 h3 HN
     go_wp2_with fail
     refine (unhide HST _ HO.out (by omega) W0 (Nat.le_refl _) HKr.out).mono ?_
     rintro e w3 ⟨rfl,ho3,hk3⟩
     have HK3:=hide hk3
     obtain ⟨M,hM⟩:∃ M,M=sortI L:=⟨_,rfl⟩
     rw [← hM] at ho3
     have HLM:Hid (M.length=L.length):=by show _=_;rw [hM];exact sortI_len L
     have HCM:Hid (∀ w'',Keeps w3 w''→∀ j (hj:j < M.length),w''.cell? ⟨g,j,none⟩=some (.int .i64 M[j])):=fun w'' hk j hj=>by
      refine hk.cell ?_
      have h:=ho3.cells rfl j (.int .i64 M[j]) (by simp [its,hj])
      have ea:(⟨g,0,none⟩:Addr).add j=⟨g,j,none⟩:=by simp [Addr.add];intro h;exact h.symm
      rw [ea] at h;exact h
     have HN1:Hid (∀ k (hk:k < M.length),keyB M[k]=false→keysB L=false):=by subst hM;exact fun k hk h=>keys_no1 hk h
     have HN2:Hid (∀ m (hk:m+1 < M.length),M[m]=M[m+1]→keysB L=false):=by subst hM;exact fun m hk h=>keys_no2 hk h
     have HY:Hid ((∀ k (hk:k < M.length),keyB M[k]=true)→(∀ m (hk:m+1 < M.length),M[m]≠M[m+1])→keysB L=true):=by subst hM;exact fun h1 h2=>keys_yes h1 h2
     clear hM
     clear ho3 hk3 HST
     go_wp2_with fail
     go_loopw [48] (fun y wr=>∃ k:Nat,k≤L.length∧y=.int .i64 (k:Int)∧Hid (∀ j (hj:j < M.length),j < k→keyB M[j]=true)∧Hid (∀ m (hm:m+1 < M.length),m+1 < k→M[m]≠M[m+1])∧Hid (Keeps w3 wr)) (fun y _=>L.length-(intOf y).toNat)
     case atStart=>exact ⟨0,by omega,rfl,fun j hj h=>absurd h (by omega),fun m hm h=>absurd h (by omega),Keeps.refl _⟩
     case round =>
      obtain ⟨k,hk,rfl,HG,HG2,HKr⟩:=hrel
      have hlm:=HLM.out
      by_cases hlt:k < L.length
      ·have c0:=HCM.out _ HKr.out k (by omega)
       have HX:Hid (M[k]'(by omega)=M[k]'(by omega)):=rfl
       generalize hx:M[k]'(by omega)=x at c0 HX
       replace HX:=hide hx
       clear hx
       have HQ:=hide (fun w'=>key_impl x w')
       cases hb:keyB x
       ·rw [hb] at HQ
        go_wp2_with fail
        refine (unhide HQ _).mono ?_
        rintro e w4 ⟨rfl,hk4⟩
        go_wp2_with fail
        go_ret
        exact ⟨ret_b (by rw [HKL.out,HN1.out k (by omega) (by rw [HX.out];exact hb)]),(HKA.out.trans HK3.out).trans (HKr.out.trans hk4)⟩
       rw [hb] at HQ
       by_cases hk0:k=0
       ·have h0:¬ 0 < k:=by omega
        have HK0:=hide hk0
        clear hk0
        go_wp2_with fail
        refine (unhide HQ _).mono ?_
        rintro e w4 ⟨rfl,hk4⟩
        have HK4:=hide (HKr.out.trans hk4)
        clear hk4
        go_wp2_with fail
        go_roundw
        case rel=>exact ⟨k+1,by omega,by go_num,fun j hj h=>by
                   by_cases e:j=k
                   ·subst e;rw [HX.out];exact hb
                   ·exact HG.out j hj (by omega),fun m hm h=>absurd h (by have:=HK0.out;omega),HK4.out⟩
        case measure=>simp [intOf];omega
       ·have h0:0 < k:=by omega
        obtain ⟨m,hm⟩:∃ m,k=m+1:=⟨k-1,by omega⟩
        have hml:m < M.length:=by omega
        have hi1:(k:Int)-1=(m:Int):=by omega
        have c1:=fun w'' hk=>HCM.out w'' hk m hml
        have HY0:Hid (M[m]'hml=M[m]'hml):=rfl
        generalize hy:M[m]'hml=y at c1 HY0
        replace HY0:=hide hy
        replace c1:=hide c1
        have HMK:=hide hm
        clear hy hk0 hm
        by_cases hxy:y=x
        ·have HXY:=hide hxy
         have hxy':(y==x)=true:=by simpa using hxy
         clear hxy
         go_wp2_with fail
         refine (unhide HQ _).mono ?_
         rintro e w4 ⟨rfl,hk4⟩
         have d1:=c1.out w4 (HKr.out.trans hk4)
         have HK4:=hide (HKr.out.trans hk4)
         clear hk4
         go_wp2_with fail
         go_ret
         exact ⟨ret_b (by rw [HKL.out,HN2.out m (by have:=HMK.out;omega) (by rw [HY0.out,HXY.out,← HX.out];congr 1 <;> exact HMK.out)]),(HKA.out.trans HK3.out).trans HK4.out⟩
        ·have HXY:=hide hxy
         have hxy':(y==x)=false:=by simpa using hxy
         clear hxy
         go_wp2_with fail
         refine (unhide HQ _).mono ?_
         rintro e w4 ⟨rfl,hk4⟩
         have d1:=c1.out w4 (HKr.out.trans hk4)
         have HK4:=hide (HKr.out.trans hk4)
         clear hk4
         go_wp2_with fail
         go_roundw
         case rel=>exact ⟨k+1,by omega,by go_num,fun j hj h=>by
                    by_cases e:j=k
                    ·subst e;rw [HX.out];exact hb
                    ·exact HG.out j hj (by omega),fun m' hm' h=>by
                    by_cases e:m'=m
                    ·subst e
                     rw [HY0.out]
                     intro e2
                     apply HXY.out
                     rw [e2,← HX.out]
                     congr 1;exact HMK.out.symm
                    ·exact HG2.out m' hm' (by have:=HMK.out;omega),HK4.out⟩
         case measure=>simp [intOf];omega
      ·have HR:Hid (keysB L=true):=HY.out (fun j hj=>HG.out j hj (by omega)) (fun m hm=>HG2.out m hm (by omega))
       go_wp2_with fail
       go_ret
       exact ⟨ret_b (by rw [HKL.out,HR.out]),(HKA.out.trans HK3.out).trans HKr.out⟩
end Go.Proofs.YtccdhcempnkgaaaGreatDoor
namespace Go.Proofs.YtccdhcempnkgaaaGreatDoor
open Go.RowKit Go.Deep
set_option linter.unusedVariables false
set_option linter.unusedSimpArgs false
set_option maxRecDepth 10000
def atI (C:List Chn) (ch:Int):Int:=match atC C ch with | some k=>(k:Int) | none=>-1
theorem atI_none {C:List Chn} {ch:Int} (h:atC C ch=none):atI C ch=-1:=by unfold atI;rw [h]
theorem atI_some {C:List Chn} {ch:Int} {k:Nat} (h:atC C ch=some k):atI C ch=(k:Int):=by unfold atI;rw [h]
theorem atI_has (C:List Chn) (ch:Int):hasC C ch=decide (0≤atI C ch):=by
 rw [hasC_at];unfold atI
 cases atC C ch <;> simp
set_option maxHeartbeats 1000000 in
theorem at_spec (B:Bo) (ch:Int) (w:World) (hm:Mem w B.segs) (hl:B.C.length≤1048576):Calls Tryz.prog 38 #[B.v,.int .i64 ch] w fun e w'=>e=.returned (.int .i64 (atI B.C ch))∧Keeps w w':=by
 obtain ⟨tk,nx,wa,ca,cc,C,ha,hc,Hs,ra,rc,R⟩:=B
 have HCC:=hide (fun w' (hk:Keeps w w')=>Bo.memC (hm.kept hk))
 have HCH:=hide (fun w' (hk:Keeps w w')=>Bo.memH (hm.kept hk))
 have HCR:=hide (fun w' (hk:Keeps w w')=>Bo.memR (hm.kept hk))
 have HL:=hide hl
 have HBA:=hide (book_box ⟨tk,nx,wa,ca,cc,C,ha,hc,Hs,ra,rc,R⟩ w 34)
 have HKA:=hide (Keeps.alloc (Keeps.refl w) (.cells #[.int .i64 tk,.int .i64 nx,.int .i64 wa,.slice ca C.length cc,.slice ha Hs.length hc,.slice ra R.length rc] 34))
 dsimp only [Bo.d,Bo.v] at *
 clear hm hl
 go_enter Tryz.func38,Tryz.ntmps38
 go_wp2_with fail
 generalize w.alloc (.cells #[.int .i64 tk,.int .i64 nx,.int .i64 wa,.slice ca C.length cc,.slice ha Hs.length hc,.slice ra R.length rc] 34)=W0 at *
 obtain ⟨-,-,-,b3,-,-⟩:=HBA.out
 dsimp only at b3
 have HC:=hide (unhide HCC _ HKA.out)
 have hl:=HL.out
 go_loop [9] (fun y=>∃ k:Nat,k≤C.length∧y=.int .i64 (k:Int)∧Hid (∀ j (hj:j < C.length),j < k→C[j].id≠ch)) (fun y=>C.length-(intOf y).toNat)
 case atStart=>exact ⟨0,by omega,rfl,fun j hj h=>absurd h (by omega)⟩
 case round =>
  obtain ⟨k,hk,rfl,HG⟩:=hrel
  by_cases hlt:k < C.length
  ·obtain ⟨b,off,ea,c0,-,-,-,-,-,-⟩:=chs_at HC.out k hlt
   have HX:=hide ea
   obtain rfl:=HX.out
   by_cases he:C[k].id=ch
   ·have HR:Hid (atI C ch=(k:Int)):=atI_some (atC_some hlt he HG.out)
    rw [he] at c0
    clear he HG
    go_wp2_with fail
    go_ret
    exact ⟨ret_i HR.out.symm,HKA.out⟩
   ·have HE:=hide he
    generalize C[k].id=x at c0 he
    go_wp2_with fail
    go_round
    case rel=>exact ⟨k+1,by omega,by go_num,fun j hj h=>by
               by_cases e:j=k
               ·subst e;exact HE.out
               ·exact HG.out j hj (by omega)⟩
    case measure=>simp [intOf];omega
  ·have HR:Hid (atI C ch=-1):=atI_none (atC_none (fun j hj=>HG.out j hj (by omega)))
   go_wp2_with fail
   go_ret
   exact ⟨ret_i HR.out.symm,HKA.out⟩
set_option maxHeartbeats 1000000 in
theorem two_spec (B:Bo) (x y:Int) (w:World) (hm:Mem w B.segs) (hl:B.C.length≤1048576):Calls Tryz.prog 75 #[B.v,.int .i64 x,.int .i64 y] w fun e w'=>e=.returned (.bool (twoB B.C x y))∧Keeps w w':=by
 have HC:=hide (fun ch w' (hk:Keeps w w')=>at_spec B ch w' (hm.kept hk) hl)
 obtain ⟨tk,nx,wa,ca,cc,C,ha,hc,Hs,ra,rc,R⟩:=B
 have HCC:=hide (fun w' (hk:Keeps w w')=>Bo.memC (hm.kept hk))
 have HCH:=hide (fun w' (hk:Keeps w w')=>Bo.memH (hm.kept hk))
 have HCR:=hide (fun w' (hk:Keeps w w')=>Bo.memR (hm.kept hk))
 have HL:=hide hl
 have HBA:=hide (book_box ⟨tk,nx,wa,ca,cc,C,ha,hc,Hs,ra,rc,R⟩ w 34)
 have HKA:=hide (Keeps.alloc (Keeps.refl w) (.cells #[.int .i64 tk,.int .i64 nx,.int .i64 wa,.slice ca C.length cc,.slice ha Hs.length hc,.slice ra R.length rc] 34))
 dsimp only [Bo.d,Bo.v] at *
 clear hm hl
 go_enter Tryz.func75,Tryz.ntmps75
 by_cases hxy:x=y
 ·have HV:Hid (twoB C x y=false):=by show _=_;simp [twoB,hxy]
  go_wp2_with fail
  go_ret
  exact ⟨ret_b HV.out.symm,HKA.out⟩
 go_wp2_with fail
 generalize w.alloc (.cells #[.int .i64 tk,.int .i64 nx,.int .i64 wa,.slice ca C.length cc,.slice ha Hs.length hc,.slice ra R.length rc] 34)=W0 at *
 obtain ⟨b0,b1,b2,b3,b4,b5⟩:=HBA.out
 dsimp only at b0 b1 b2 b3 b4 b5
 have hx:=atI_has C x
 have hy:=atI_has C y
 go_wp2_with fail
 refine (unhide HC x _ HKA.out).mono ?_
 rintro e w1 ⟨rfl,hk⟩
 have HK1:=hide (HKA.out.trans hk)
 obtain ⟨e0,e1,e2,e3,e4,e5⟩:=HBA.out.kept hk
 dsimp only at e0 e1 e2 e3 e4 e5
 clear hk b0 b1 b2 b3 b4 b5
 generalize hp:atI C x=p at *
 by_cases h1:0≤p
 rotate_left
 ·have HV:Hid (twoB C x y=false):=by show _=_;simp [twoB,hx,h1]
  go_wp2_with fail
  go_ret
  exact ⟨ret_b HV.out.symm,HK1.out⟩
 have HV1:Hid (hasC C x=true):=by show _=_;rw [hx];simpa using h1
 go_wp2_with fail
 refine (unhide HC y _ HK1.out).mono ?_
 rintro e w2 ⟨rfl,hk⟩
 have HK2:=hide (HK1.out.trans hk)
 clear hk
 have HV:Hid (decide (0≤atI C y)=twoB C x y):=by show _=_;simp [twoB,HV1.out,hxy,← hy]
 clear hx hy
 generalize atI C y=q at *
 go_wp2_with fail
 go_ret
 exact ⟨ret_b (by rw [← HV.out];(first | rfl | simp_all)),HK2.out⟩
set_option maxHeartbeats 1000000 in
theorem hasint_spec (a:Option Addr) (cap:Nat) (L:List Int) (x:Int) (w:World) (hc:Cells w a (its L)) (hl:L.length≤1048576):Calls Tryz.prog 73 #[.slice a L.length cap,.int .i64 x] w fun e w'=>e=.returned (.bool (decide (x∈L)))∧w'=w:=by
 have HC:=hide hc
 clear hc
 go_enter Tryz.func73,Tryz.ntmps73
 go_wp2_with fail
 go_loop [9] (fun y=>∃ k:Nat,k≤L.length∧y=.int .i64 (k:Int)∧Hid (∀ j (hj:j < L.length),j < k→L[j]≠x)) (fun y=>L.length-(intOf y).toNat)
 case atStart=>exact ⟨0,by omega,rfl,fun j hj h=>absurd h (by omega)⟩
 case round =>
  obtain ⟨k,hk,rfl,HG⟩:=hrel
  by_cases hlt:k < L.length
  ·obtain ⟨b,off,ea,c0⟩:=its_at HC.out k hlt
   have HX:=hide ea
   obtain rfl:=HX.out
   by_cases he:L[k]=x
   ·have HR:Hid (decide (x∈L)=true):=decide_eq_true (he ▸ List.getElem_mem hlt)
    rw [he] at c0
    clear he HG
    go_wp2_with fail
    go_ret
    exact ⟨ret_b HR.out.symm,rfl⟩
   ·have HE:=hide he
    generalize L[k]=z at c0 he
    go_wp2_with fail
    go_round
    case rel=>exact ⟨k+1,by omega,by go_num,fun j hj h=>by
               by_cases e:j=k
               ·subst e;exact HE.out
               ·exact HG.out j hj (by omega)⟩
    case measure=>simp [intOf];omega
  ·have HR:Hid (decide (x∈L)=false):=decide_eq_false (fun hx=>by
    obtain ⟨j,hj,e⟩:=List.getElem_of_mem hx
    exact HG.out j hj (by omega) e)
   go_wp2_with fail
   go_ret
   exact ⟨ret_b HR.out.symm,rfl⟩
end Go.Proofs.YtccdhcempnkgaaaGreatDoor
