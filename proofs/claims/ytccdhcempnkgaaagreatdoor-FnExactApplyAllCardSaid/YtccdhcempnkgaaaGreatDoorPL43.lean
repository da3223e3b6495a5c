/- The model's BookOk. -/
import Derived.Test.YtccdhcempnkgaaaGreatDoorPL42
import Derived.Test.YtccdhcempnkgaaaGreatDoorPL35
namespace Go.Proofs.YtccdhcempnkgaaaGreatDoor
open Go.RowKit Go.Deep
set_option linter.unusedVariables false
set_option linter.unusedSimpArgs false
set_option maxRecDepth 10000
theorem bookB_def2 (B:Bk):bookB B=(amtB B.tk && (amtB B.wa && (decide (1≤B.nx) && (decide (B.nx≤1125899906842624) && (decide (B.C.length≤20) && (decide (B.Hs.length≤60) && (decide (B.R.length≤20) && (underB B && (idsB B.C && B.C.all (chanB B)))))))))):=by
 have e:posB B.nx=(decide (1≤B.nx) && decide (B.nx≤1125899906842624)):=by
  unfold posB amtB
  by_cases h1:1≤B.nx <;> by_cases h2:B.nx≤1125899906842624 <;> simp [h1,h2] <;> omega
 unfold bookB headB
 rw [e]
 cases amtB B.tk <;> cases amtB B.wa <;> cases decide (1≤B.nx) <;> cases decide (B.nx≤1125899906842624) <;> cases decide (B.C.length≤20) <;> cases decide (B.Hs.length≤60) <;> cases decide (B.R.length≤20) <;> cases underB B <;> cases idsB B.C <;> simp
theorem under_small {B:Bk} (h1:B.Hs.length≤60) (h2:B.R.length≤20) (h:underB B=true):Small B:=by
 unfold underB at h
 simp only [Bool.and_eq_true] at h
 exact small_of h1 h2 h.1.1 h.1.2
theorem both_no1 {B:Bk} {k:Nat} (hk:k < B.C.length) (h:idAt B.C k=false):(idsB B.C && B.C.all (chanB B))=false:=by rw [idsB_no hk h];rfl
theorem both_no2 {B:Bk} {k:Nat} (hk:k < B.C.length) (h:chanB B B.C[k]=false):(idsB B.C && B.C.all (chanB B))=false:=by rw [all_no hk h];simp
set_option maxHeartbeats 16000000 in
theorem bookok_spec (B:Bo) (w:World) (hm:Mem w B.segs) (hl:B.len):Calls Tryz.prog 31 #[B.v] w fun e w'=>e=.returned (.bool (bookB B.d))∧Keeps w w':=by
 have H1:=hide (fun w' (hk:Keeps w w')=>under_spec B w' (hm.kept hk) hl.1)
 have H2:=hide (fun ch w' (hk:Keeps w w')=>out_spec B ch w' (hm.kept hk))
 have H3:=hide (fun ch w' (hk:Keeps w w')=>in_spec B ch w' (hm.kept hk))
 have HUB:=hide (fun ch=>under_bound B.d ch)
 have HSM:=hide (under_small (B:=B.d))
 have HN1:=hide (fun k=>both_no1 (B:=B.d) (k:=k))
 have HN2:=hide (fun k=>both_no2 (B:=B.d) (k:=k))
 obtain ⟨tk,nx,wa,ca,cc,C,ha,hc,Hs,ra,rc,R⟩:=B
 have HCC:=hide (fun w' (hk:Keeps w w')=>Bo.memC (hm.kept hk))
 have HCH:=hide (fun w' (hk:Keeps w w')=>Bo.memH (hm.kept hk))
 have HCR:=hide (fun w' (hk:Keeps w w')=>Bo.memR (hm.kept hk))
 have HL:=hide hl
 have HBA:=hide (book_box ⟨tk,nx,wa,ca,cc,C,ha,hc,Hs,ra,rc,R⟩ w 34)
 have HKA:=hide (Keeps.alloc (Keeps.refl w) (.cells #[.int .i64 tk,.int .i64 nx,.int .i64 wa,.slice ca C.length cc,.slice ha Hs.length hc,.slice ra R.length rc] 34))
 dsimp only [Bo.d,Bo.v] at *
 clear hm hl
 go_enter Tryz.func31,Tryz.ntmps31
 go_wp2_with fail
 have HV:Hid (bookB (⟨tk,nx,wa,C,Hs,R⟩:Bk)=(amtB tk && (amtB wa && (decide (1≤nx) && (decide (nx≤1125899906842624) && (decide (C.length≤20) && (decide (Hs.length≤60) && (decide (R.length≤20) && (underB (⟨tk,nx,wa,C,Hs,R⟩:Bk) && (idsB C && C.all (chanB (⟨tk,nx,wa,C,Hs,R⟩:Bk)))))))))))):=bookB_def2 (⟨tk,nx,wa,C,Hs,R⟩:Bk)
 obtain ⟨l1,l2,l3⟩:=HL.out
 dsimp only at l1 l2 l3
 generalize w.alloc (.cells #[.int .i64 tk,.int .i64 nx,.int .i64 wa,.slice ca C.length cc,.slice ha Hs.length hc,.slice ra R.length rc] 34)=W0 at *
 have HKc:=hide (Keeps.refl W0)
 refine (amt_spec tk _).mono ?_
 rintro e w1 ⟨rfl,hk⟩
 replace HKc:=hide (HKc.out.trans hk)
 clear hk
 obtain ⟨e0,e1,e2,e3,e4,e5⟩:=HBA.out.kept HKc.out
 dsimp only at e0 e1 e2 e3 e4 e5
 cases hb0:amtB tk
 ·go_wp2_with fail
  go_ret
  exact ⟨ret_b (by rw [HV.out,hb0];simp only [Bool.true_and,Bool.false_and]),HKA.out.trans HKc.out⟩
 go_wp2_with fail
 refine (amt_spec wa _).mono ?_
 rintro e w2 ⟨rfl,hk⟩
 replace HKc:=hide (HKc.out.trans hk)
 clear hk
 clear e0 e1 e2 e3 e4 e5
 obtain ⟨e0,e1,e2,e3,e4,e5⟩:=HBA.out.kept HKc.out
 dsimp only at e0 e1 e2 e3 e4 e5
 cases hb1:amtB wa
 ·go_wp2_with fail
  go_ret
  exact ⟨ret_b (by rw [HV.out,hb0,hb1];simp only [Bool.true_and,Bool.false_and]),HKA.out.trans HKc.out⟩
 by_cases hn0:1≤nx
 rotate_left
 ·have hn0d:=hide (decide_eq_false hn0)
  go_wp2_with fail
  go_ret
  exact ⟨ret_b (by rw [HV.out,hb0,hb1,hn0d.out];simp only [Bool.true_and,Bool.false_and]),HKA.out.trans HKc.out⟩
 have hn0d:=hide (decide_eq_true hn0)
 by_cases hn1:nx≤1125899906842624
 rotate_left
 ·have hn1d:=hide (decide_eq_false hn1)
  go_wp2_with fail
  go_ret
  exact ⟨ret_b (by rw [HV.out,hb0,hb1,hn0d.out,hn1d.out];simp only [Bool.true_and,Bool.false_and]),HKA.out.trans HKc.out⟩
 have hn1d:=hide (decide_eq_true hn1)
 by_cases hn2:C.length≤20
 rotate_left
 ·have hn2d:=hide (decide_eq_false hn2)
  go_wp2_with fail
  go_ret
  exact ⟨ret_b (by rw [HV.out,hb0,hb1,hn0d.out,hn1d.out,hn2d.out];simp only [Bool.true_and,Bool.false_and]),HKA.out.trans HKc.out⟩
 have hn2d:=hide (decide_eq_true hn2)
 by_cases hn3:Hs.length≤60
 rotate_left
 ·have hn3d:=hide (decide_eq_false hn3)
  go_wp2_with fail
  go_ret
  exact ⟨ret_b (by rw [HV.out,hb0,hb1,hn0d.out,hn1d.out,hn2d.out,hn3d.out];simp only [Bool.true_and,Bool.false_and]),HKA.out.trans HKc.out⟩
 have hn3d:=hide (decide_eq_true hn3)
 by_cases hn4:R.length≤20
 rotate_left
 ·have hn4d:=hide (decide_eq_false hn4)
  go_wp2_with fail
  go_ret
  exact ⟨ret_b (by rw [HV.out,hb0,hb1,hn0d.out,hn1d.out,hn2d.out,hn3d.out,hn4d.out];simp only [Bool.true_and,Bool.false_and]),HKA.out.trans HKc.out⟩
 have hn4d:=hide (decide_eq_true hn4)
 go_wp2_with fail
 refine (unhide H1 w2 (HKA.out.trans HKc.out) (of_decide_eq_true hn3d.out) (of_decide_eq_true hn4d.out)).mono ?_
 rintro e w3 ⟨rfl,hk⟩
 replace HKc:=hide (HKc.out.trans hk)
 clear hk e0 e1 e2 e3 e4 e5
 obtain ⟨e0,e1,e2,e3,e4,e5⟩:=HBA.out.kept HKc.out
 dsimp only at e0 e1 e2 e3 e4 e5
 cases hun:underB (⟨tk,nx,wa,C,Hs,R⟩:Bk)
 ·go_wp2_with fail
  go_ret
  exact ⟨ret_b (by rw [HV.out,hb0,hb1,hn0d.out,hn1d.out,hn2d.out,hn3d.out,hn4d.out,hun];simp only [Bool.true_and,Bool.false_and]),HKA.out.trans HKc.out⟩
 replace HSM:=hide (HSM.out (of_decide_eq_true hn3d.out) (of_decide_eq_true hn4d.out) hun)
 replace HUB:=hide (fun ch=>HUB.out ch HSM.out)
 go_wp2_with fail
 have HVV:Hid (bookB (⟨tk,nx,wa,C,Hs,R⟩:Bk)=(idsB C && C.all (chanB (⟨tk,nx,wa,C,Hs,R⟩:Bk)))):=by show _=_;rw [HV.out,hb0,hb1,hn0d.out,hn1d.out,hn2d.out,hn3d.out,hn4d.out,hun];simp only [Bool.true_and]
 have HKS:=hide HKc.out
 clear HKc e0 e1 e2 e3 e4 e5
 go_loopw [51] (fun y wr=>∃ k:Nat,k≤C.length∧y=.int .i64 (k:Int)∧Hid (∀ j,j < k→idAt C j=true)∧Hid (∀ j (hj:j < C.length),j < k→chanB (⟨tk,nx,wa,C,Hs,R⟩:Bk) C[j]=true)∧Hid (Keeps W0 wr)) (fun y _=>C.length-(intOf y).toNat)
 case atStart=>exact ⟨0,by omega,rfl,fun j h=>absurd h (by omega),fun j hj h=>absurd h (by omega),HKS.out⟩
 case round =>
  obtain ⟨k,hk,rfl,HG,HG2,HKr⟩:=hrel
  clear HKS
  by_cases hlt:k < C.length
  rotate_left
  ·have HR:Hid ((idsB C && C.all (chanB (⟨tk,nx,wa,C,Hs,R⟩:Bk)))=true):=by show _=_;rw [idsB_yes (fun j hj=>HG.out j (by omega)),all_yes (fun j hj=>HG2.out j hj (by omega))];rfl
   go_wp2_with fail
   go_ret
   exact ⟨ret_b (by rw [HVV.out,HR.out]),HKA.out.trans HKr.out⟩
  obtain ⟨b,off,ea,c0,c1,c2,c3,c4,c5,c6⟩:=chs_at (unhide HCC _ (HKA.out.trans HKr.out)) k hlt
  have HEA:=hide ea
  have HZ:Hid (k=0→idAt C k=chB C[k].id):=fun e=>by subst e;exact idAt_zero hlt
  have HZ2:Hid (∀ m (hm:m < C.length),k=m+1→idAt C k=(chB C[k].id && decide (C[m].id < C[k].id))):=fun m hm e=>by subst e;exact idAt_succ hlt
  have HPR:Hid (∀ m (hm:m < C.length) w',Keeps W0 w'→w'.cell? ⟨b,off+m*7,none⟩=some (.int .i64 C[m].id)):=fun m hm w' hk=>by
   obtain ⟨b',off',ea',p0,-⟩:=chs_at (unhide HCC _ (HKA.out.trans hk)) m hm
   rw [ea] at ea'
   have ea2:=Option.some.inj ea'
   injection ea2 with e1 e2
   subst e1 e2
   exact p0
  clear ea
  obtain rfl:=HEA.out
  have HX:Hid (C[k]=C[k]):=rfl
  generalize hx:C[k]=x at c0 c1 c2 c3 c4 c5 c6 HX HZ HZ2
  replace HX:=hide hx
  clear hx
  obtain ⟨xid,xsz,xlo,xre,xba,xpp,xsc⟩:=x
  dsimp only at c0 c1 c2 c3 c4 c5 c6 HZ HZ2
  have HA:=hide (rowc7 wr (.int .i64 xid) (.int .i64 xsz) (.int .i64 xlo) (.int .i64 xre) (.int .i64 xba) (.int .i64 xpp) (.int .i64 xsc) 78)
  have HKv:=hide (HKr.out.trans (Keeps.alloc (Keeps.refl wr) (.cells #[.int .i64 xid,.int .i64 xsz,.int .i64 xlo,.int .i64 xre,.int .i64 xba,.int .i64 xpp,.int .i64 xsc] 78)))
  go_wp2_with fail
  generalize wr.alloc (.cells #[.int .i64 xid,.int .i64 xsz,.int .i64 xlo,.int .i64 xre,.int .i64 xba,.int .i64 xpp,.int .i64 xsc] 78)=W1 at *
  have g0:=fun t=>(unhide HA _ (gr_keeps W1 t)).1
  have g1:=fun t=>(unhide HA _ (gr_keeps W1 t)).2.1
  have g2:=fun t=>(unhide HA _ (gr_keeps W1 t)).2.2.1
  have g3:=fun t=>(unhide HA _ (gr_keeps W1 t)).2.2.2.1
  have g4:=fun t=>(unhide HA _ (gr_keeps W1 t)).2.2.2.2.1
  have g5:=fun t=>(unhide HA _ (gr_keeps W1 t)).2.2.2.2.2.1
  have g6:=fun t=>(unhide HA _ (gr_keeps W1 t)).2.2.2.2.2.2
  have q0:=fun t=>(HBA.out.kept (HKv.out.trans (gr_keeps W1 t))).1
  have q1:=fun t=>(HBA.out.kept (HKv.out.trans (gr_keeps W1 t))).2.1
  have q2:=fun t=>(HBA.out.kept (HKv.out.trans (gr_keeps W1 t))).2.2.1
  have q3:=fun t=>(HBA.out.kept (HKv.out.trans (gr_keeps W1 t))).2.2.2.1
  have q4:=fun t=>(HBA.out.kept (HKv.out.trans (gr_keeps W1 t))).2.2.2.2.1
  have q5:=fun t=>(HBA.out.kept (HKv.out.trans (gr_keeps W1 t))).2.2.2.2.2
  dsimp only at q0 q1 q2 q3 q4 q5
  clear c0 c1 c2 c3 c4 c5 c6
  by_cases hk0:k=0
  ·have h0:decide (0 < k)=false:=by simp;omega
   have HIA:Hid (idAt C k=chB xid):=HZ.out hk0
   clear hk0 HZ HZ2
   have HQ3:=hide (fun t=>amt_spec xlo (gr W1 t))
   have HQ4:=hide (fun t=>amt_spec xre (gr W1 t))
   have HQ5:=hide (fun t=>amt_spec xba (gr W1 t))
   have HQ8:=hide (fun t=>sok_spec xsc (gr W1 t))
   refine region_gr (by kernel_rfl) (by kernel_rfl) ?_
   repeat (go_big_quiet_step (first | (go_at_call 64;first | exact gr_call (unhide HQ3 _) | exact gr_call (unhide HQ4 _) | exact gr_call (unhide HQ5 _)) | (go_at_call 66;exact gr_call (unhide HQ8 _))))
   by_cases hq0:xid < 1
   ·have HD0:=hide hq0
    have hd0:decide (xid < 1)=true:=decide_eq_true hq0
    clear hq0
    simp only [hd0]
    repeat (go_big_quiet_step (first | (go_at_call 64;first | exact gr_call (unhide HQ3 _) | exact gr_call (unhide HQ4 _) | exact gr_call (unhide HQ5 _)) | (go_at_call 66;exact gr_call (unhide HQ8 _))))
    refine wpQuiet_nil ?_
    intro w' hw'
    have HKG:=hide (Keeps.of_gr hw');have hk':=HKv.out.trans HKG.out
    clear hw'
    go_wp2_with fail
    go_ret
    exact ⟨ret_b (by rw [HVV.out,HN1.out k hlt (by rw [HIA.out];simp [chB];have:=HD0.out;omega)]),HKA.out.trans hk'⟩
   have HD0:=hide hq0
   have hd0:decide (xid < 1)=false:=decide_eq_false hq0
   clear hq0
   simp only [hd0]
   repeat (go_big_quiet_step (first | (go_at_call 64;first | exact gr_call (unhide HQ3 _) | exact gr_call (unhide HQ4 _) | exact gr_call (unhide HQ5 _)) | (go_at_call 66;exact gr_call (unhide HQ8 _))))
   by_cases hq1:99 < xid
   ·have HD1:=hide hq1
    have hd1:decide (99 < xid)=true:=decide_eq_true hq1
    clear hq1
    simp only [hd1]
    repeat (go_big_quiet_step (first | (go_at_call 64;first | exact gr_call (unhide HQ3 _) | exact gr_call (unhide HQ4 _) | exact gr_call (unhide HQ5 _)) | (go_at_call 66;exact gr_call (unhide HQ8 _))))
    refine wpQuiet_nil ?_
    intro w' hw'
    have HKG:=hide (Keeps.of_gr hw');have hk':=HKv.out.trans HKG.out
    clear hw'
    go_wp2_with fail
    go_ret
    exact ⟨ret_b (by rw [HVV.out,HN1.out k hlt (by rw [HIA.out];simp [chB];have:=HD1.out;omega)]),HKA.out.trans hk'⟩
   have HD1:=hide hq1
   have hd1:decide (99 < xid)=false:=decide_eq_false hq1
   clear hq1
   simp only [hd1]
   repeat (go_big_quiet_step (first | (go_at_call 64;first | exact gr_call (unhide HQ3 _) | exact gr_call (unhide HQ4 _) | exact gr_call (unhide HQ5 _)) | (go_at_call 66;exact gr_call (unhide HQ8 _))))
   cases hb3:amtB xlo
   ·simp only [Bool.not_true,Bool.not_false]
    repeat (go_big_quiet_step (first | (go_at_call 64;first | exact gr_call (unhide HQ3 _) | exact gr_call (unhide HQ4 _) | exact gr_call (unhide HQ5 _)) | (go_at_call 66;exact gr_call (unhide HQ8 _))))
    refine wpQuiet_nil ?_
    intro w' hw'
    have HKG:=hide (Keeps.of_gr hw');have hk':=HKv.out.trans HKG.out
    clear hw'
    go_wp2_with fail
    go_ret
    exact ⟨ret_b (by rw [HVV.out,HN2.out k hlt (by show chanB _ C[k]=false;rw [HX.out];simp [chanB,fieldsB,hb3])]),HKA.out.trans hk'⟩
   simp only [Bool.not_true,Bool.not_false]
   repeat (go_big_quiet_step (first | (go_at_call 64;first | exact gr_call (unhide HQ3 _) | exact gr_call (unhide HQ4 _) | exact gr_call (unhide HQ5 _)) | (go_at_call 66;exact gr_call (unhide HQ8 _))))
   cases hb4:amtB xre
   ·simp only [Bool.not_true,Bool.not_false]
    repeat (go_big_quiet_step (first | (go_at_call 64;first | exact gr_call (unhide HQ3 _) | exact gr_call (unhide HQ4 _) | exact gr_call (unhide HQ5 _)) | (go_at_call 66;exact gr_call (unhide HQ8 _))))
    refine wpQuiet_nil ?_
    intro w' hw'
    have HKG:=hide (Keeps.of_gr hw');have hk':=HKv.out.trans HKG.out
    clear hw'
    go_wp2_with fail
    go_ret
    exact ⟨ret_b (by rw [HVV.out,HN2.out k hlt (by show chanB _ C[k]=false;rw [HX.out];simp [chanB,fieldsB,hb4])]),HKA.out.trans hk'⟩
   simp only [Bool.not_true,Bool.not_false]
   repeat (go_big_quiet_step (first | (go_at_call 64;first | exact gr_call (unhide HQ3 _) | exact gr_call (unhide HQ4 _) | exact gr_call (unhide HQ5 _)) | (go_at_call 66;exact gr_call (unhide HQ8 _))))
   cases hb5:amtB xba
   ·simp only [Bool.not_true,Bool.not_false]
    repeat (go_big_quiet_step (first | (go_at_call 64;first | exact gr_call (unhide HQ3 _) | exact gr_call (unhide HQ4 _) | exact gr_call (unhide HQ5 _)) | (go_at_call 66;exact gr_call (unhide HQ8 _))))
    refine wpQuiet_nil ?_
    intro w' hw'
    have HKG:=hide (Keeps.of_gr hw');have hk':=HKv.out.trans HKG.out
    clear hw'
    go_wp2_with fail
    go_ret
    exact ⟨ret_b (by rw [HVV.out,HN2.out k hlt (by show chanB _ C[k]=false;rw [HX.out];simp [chanB,fieldsB,hb5])]),HKA.out.trans hk'⟩
   simp only [Bool.not_true,Bool.not_false]
   repeat (go_big_quiet_step (first | (go_at_call 64;first | exact gr_call (unhide HQ3 _) | exact gr_call (unhide HQ4 _) | exact gr_call (unhide HQ5 _)) | (go_at_call 66;exact gr_call (unhide HQ8 _))))
   by_cases hq6:xpp < 0
   ·have HD6:=hide hq6
    have hd6:decide (xpp < 0)=true:=decide_eq_true hq6
    clear hq6
    simp only [hd6]
    repeat (go_big_quiet_step (first | (go_at_call 64;first | exact gr_call (unhide HQ3 _) | exact gr_call (unhide HQ4 _) | exact gr_call (unhide HQ5 _)) | (go_at_call 66;exact gr_call (unhide HQ8 _))))
    refine wpQuiet_nil ?_
    intro w' hw'
    have HKG:=hide (Keeps.of_gr hw');have hk':=HKv.out.trans HKG.out
    clear hw'
    go_wp2_with fail
    go_ret
    exact ⟨ret_b (by rw [HVV.out,HN2.out k hlt (by show chanB _ C[k]=false;rw [HX.out];simp [chanB,fieldsB,ppmB];have:=HD6.out;omega)]),HKA.out.trans hk'⟩
   have HD6:=hide hq6
   have hd6:decide (xpp < 0)=false:=decide_eq_false hq6
   clear hq6
   simp only [hd6]
   repeat (go_big_quiet_step (first | (go_at_call 64;first | exact gr_call (unhide HQ3 _) | exact gr_call (unhide HQ4 _) | exact gr_call (unhide HQ5 _)) | (go_at_call 66;exact gr_call (unhide HQ8 _))))
   by_cases hq7:1000000 < xpp
   ·have HD7:=hide hq7
    have hd7:decide (1000000 < xpp)=true:=decide_eq_true hq7
    clear hq7
    simp only [hd7]
    repeat (go_big_quiet_step (first | (go_at_call 64;first | exact gr_call (unhide HQ3 _) | exact gr_call (unhide HQ4 _) | exact gr_call (unhide HQ5 _)) | (go_at_call 66;exact gr_call (unhide HQ8 _))))
    refine wpQuiet_nil ?_
    intro w' hw'
    have HKG:=hide (Keeps.of_gr hw');have hk':=HKv.out.trans HKG.out
    clear hw'
    go_wp2_with fail
    go_ret
    exact ⟨ret_b (by rw [HVV.out,HN2.out k hlt (by show chanB _ C[k]=false;rw [HX.out];simp [chanB,fieldsB,ppmB];have:=HD7.out;omega)]),HKA.out.trans hk'⟩
   have HD7:=hide hq7
   have hd7:decide (1000000 < xpp)=false:=decide_eq_false hq7
   clear hq7
   simp only [hd7]
   repeat (go_big_quiet_step (first | (go_at_call 64;first | exact gr_call (unhide HQ3 _) | exact gr_call (unhide HQ4 _) | exact gr_call (unhide HQ5 _)) | (go_at_call 66;exact gr_call (unhide HQ8 _))))
   refine wpQuiet_nil ?_
   intro w' hw'
   have HKG:=hide (Keeps.of_gr hw');have hk':=HKv.out.trans HKG.out
   clear hw'
   cases hb8:okS xsc
   ·go_wp2_with fail
    go_ret
    exact ⟨ret_b (by rw [HVV.out,HN2.out k hlt (by show chanB _ C[k]=false;rw [HX.out];simp [chanB,fieldsB,hb8])]),HKA.out.trans hk'⟩
   go_wp2_with fail
   have HID:Hid (idAt C k=true):=by show _=_;rw [HIA.out];have:=HD0.out;have:=HD1.out;simp [chB];omega
   have HFB:Hid (fieldsB ⟨xid,xsz,xlo,xre,xba,xpp,xsc⟩=true):=by show _=_;have:=HD6.out;have:=HD7.out;simp [fieldsB,ppmB,hb3,hb4,hb5,hb8];omega
   have z1:=amtB_true hb3
   have z2:=amtB_true hb4
   clear g0 g1 g2 g3 g4 g5 g6 q0 q1 q2 q3 q4 q5 HQ3 HQ4 HQ5 HQ8 hd0 hd1 hd6 hd7
   generalize w'=W2 at *
   have HKw:=hide hk'
   clear hk'
   have HK12:Hid (Keeps W1 W2):=HKG.out
   obtain ⟨o0,o1,i0,i1⟩:=HUB.out xid
   have HO:=hide (fun t=>unhide H2 xid (gr W2 t) (HKA.out.trans (HKw.out.trans (gr_keeps W2 t))) HSM.out)
   have HI:=hide (fun t=>unhide H3 xid (gr W2 t) (HKA.out.trans (HKw.out.trans (gr_keeps W2 t))) HSM.out)
   have HSV:Hid (sizeB (⟨tk,nx,wa,C,Hs,R⟩:Bk) ⟨xid,xsz,xlo,xre,xba,xpp,xsc⟩=(amtB xsz && decide (xsz=xlo+xre+outV (⟨tk,nx,wa,C,Hs,R⟩:Bk) xid+inV (⟨tk,nx,wa,C,Hs,R⟩:Bk) xid))):=rfl
   generalize outV (⟨tk,nx,wa,C,Hs,R⟩:Bk) xid=ov at *
   generalize inV (⟨tk,nx,wa,C,Hs,R⟩:Bk) xid=iv at *
   have hw1:IntKind.i64.wrap (xlo+xre)=xlo+xre:=by rw [IntKind.wrap_i64];omega
   have hw2:IntKind.i64.wrap (xlo+xre+ov)=xlo+xre+ov:=by rw [IntKind.wrap_i64];omega
   have hw3:IntKind.i64.wrap (xlo+xre+ov+iv)=xlo+xre+ov+iv:=by rw [IntKind.wrap_i64];omega
   have g0:=fun t=>(unhide HA _ (HK12.out.trans (gr_keeps W2 t))).1
   have g1:=fun t=>(unhide HA _ (HK12.out.trans (gr_keeps W2 t))).2.1
   have g2:=fun t=>(unhide HA _ (HK12.out.trans (gr_keeps W2 t))).2.2.1
   have g3:=fun t=>(unhide HA _ (HK12.out.trans (gr_keeps W2 t))).2.2.2.1
   have g4:=fun t=>(unhide HA _ (HK12.out.trans (gr_keeps W2 t))).2.2.2.2.1
   have g5:=fun t=>(unhide HA _ (HK12.out.trans (gr_keeps W2 t))).2.2.2.2.2.1
   have g6:=fun t=>(unhide HA _ (HK12.out.trans (gr_keeps W2 t))).2.2.2.2.2.2
   have q0:=fun t=>(HBA.out.kept (HKw.out.trans (gr_keeps W2 t))).1
   have q1:=fun t=>(HBA.out.kept (HKw.out.trans (gr_keeps W2 t))).2.1
   have q2:=fun t=>(HBA.out.kept (HKw.out.trans (gr_keeps W2 t))).2.2.1
   have q3:=fun t=>(HBA.out.kept (HKw.out.trans (gr_keeps W2 t))).2.2.2.1
   have q4:=fun t=>(HBA.out.kept (HKw.out.trans (gr_keeps W2 t))).2.2.2.2.1
   have q5:=fun t=>(HBA.out.kept (HKw.out.trans (gr_keeps W2 t))).2.2.2.2.2
   dsimp only at q0 q1 q2 q3 q4 q5
   have HQz:=hide (fun t=>amt_spec xsz (gr W2 t))
   cases hbz:amtB xsz
   ·rw [hbz] at HQz
    refine region_gr (by kernel_rfl) (by kernel_rfl) ?_
    repeat (go_big_quiet_step (first | (go_at_call 64;exact gr_call (unhide HQz _))))
    refine wpQuiet_nil ?_
    intro w' hw'
    have hk':=HKw.out.trans (Keeps.of_gr hw')
    clear hw'
    go_wp2_with fail
    go_ret
    exact ⟨ret_b (by rw [HVV.out,HN2.out k hlt (by show chanB _ C[k]=false;rw [HX.out];simp [chanB,HSV.out,hbz])]),HKA.out.trans hk'⟩
   rw [hbz] at HQz
   by_cases hsz:xsz=xlo+xre+ov+iv
   ·have HSZ:=hide hsz
    have hsz':(xlo+xre+ov+iv != xsz)=false:=by simp [hsz]
    clear hsz
    refine region_gr (by kernel_rfl) (by kernel_rfl) ?_
    repeat (go_big_quiet_step (first | (go_at_call 64;exact gr_call (unhide HQz _)) | (go_at_call 67;exact gr_call (unhide HO _)) | (go_at_call 68;exact gr_call (unhide HI _))))
    refine wpQuiet_nil ?_
    intro w' hw'
    have hk':=HKw.out.trans (Keeps.of_gr hw')
    clear hw'
    go_wp2_with fail
    have HOK:Hid (chanB (⟨tk,nx,wa,C,Hs,R⟩:Bk) ⟨xid,xsz,xlo,xre,xba,xpp,xsc⟩=true):=by show _=_;unfold chanB;rw [HFB.out,HSV.out,hbz];simpa using HSZ.out
    have HKe:=hide hk'
    clear hk'
    go_roundw
    case rel=>exact ⟨k+1,by omega,by go_num,fun j h=>by
               by_cases e:j=k
               ·subst e;exact HID.out
               ·exact HG.out j (by omega),fun j hj h=>by
               by_cases e:j=k
               ·subst e;rw [HX.out];exact HOK.out
               ·exact HG2.out j hj (by omega),HKe.out⟩
    case measure=>simp [intOf];omega
   ·have HSZ:=hide hsz
    have hsz':(xlo+xre+ov+iv != xsz)=true:=by simp;exact fun e=>hsz e.symm
    clear hsz
    refine region_gr (by kernel_rfl) (by kernel_rfl) ?_
    repeat (go_big_quiet_step (first | (go_at_call 64;exact gr_call (unhide HQz _)) | (go_at_call 67;exact gr_call (unhide HO _)) | (go_at_call 68;exact gr_call (unhide HI _))))
    refine wpQuiet_nil ?_
    intro w' hw'
    have hk':=HKw.out.trans (Keeps.of_gr hw')
    clear hw'
    go_wp2_with fail
    go_ret
    exact ⟨ret_b (by rw [HVV.out,HN2.out k hlt (by show chanB _ C[k]=false;rw [HX.out];unfold chanB;rw [HFB.out,HSV.out,hbz];simpa using HSZ.out)]),HKA.out.trans hk'⟩
  ·have h0:decide (0 < k)=true:=by simp;omega
   obtain ⟨m,hm⟩:∃ m,k=m+1:=⟨k-1,by omega⟩
   have hml:m < C.length:=by omega
   have HIA:Hid (idAt C k=(chB xid && decide (C[m].id < xid))):=HZ2.out m hml hm
   have p0:=fun t=>HPR.out m hml _ (HKv.out.trans (gr_keeps W1 t))
   generalize C[m].id=y at *
   have hi1:(k:Int)-1=(m:Int):=by omega
   have hi2:IntKind.i64.wrap (m:Int)=(m:Int):=by rw [IntKind.wrap_i64];omega
   have hi3:IntKind.i64.wrap ((k:Int)-1)=(m:Int):=by rw [hi1];exact hi2
   clear hk0 HZ HZ2 hm
   have HQ3:=hide (fun t=>amt_spec xlo (gr W1 t))
   have HQ4:=hide (fun t=>amt_spec xre (gr W1 t))
   have HQ5:=hide (fun t=>amt_spec xba (gr W1 t))
   have HQ8:=hide (fun t=>sok_spec xsc (gr W1 t))
   refine region_gr (by kernel_rfl) (by kernel_rfl) ?_
   repeat (go_big_quiet_step (first | (go_at_call 64;first | exact gr_call (unhide HQ3 _) | exact gr_call (unhide HQ4 _) | exact gr_call (unhide HQ5 _)) | (go_at_call 66;exact gr_call (unhide HQ8 _))))
   by_cases hq0:xid < 1
   ·have HD0:=hide hq0
    have hd0:decide (xid < 1)=true:=decide_eq_true hq0
    clear hq0
    simp only [hd0]
    repeat (go_big_quiet_step (first | (go_at_call 64;first | exact gr_call (unhide HQ3 _) | exact gr_call (unhide HQ4 _) | exact gr_call (unhide HQ5 _)) | (go_at_call 66;exact gr_call (unhide HQ8 _))))
    refine wpQuiet_nil ?_
    intro w' hw'
    have HKG:=hide (Keeps.of_gr hw');have hk':=HKv.out.trans HKG.out
    clear hw'
    go_wp2_with fail
    go_ret
    exact ⟨ret_b (by rw [HVV.out,HN1.out k hlt (by rw [HIA.out];simp [chB];have:=HD0.out;omega)]),HKA.out.trans hk'⟩
   have HD0:=hide hq0
   have hd0:decide (xid < 1)=false:=decide_eq_false hq0
   clear hq0
   simp only [hd0]
   repeat (go_big_quiet_step (first | (go_at_call 64;first | exact gr_call (unhide HQ3 _) | exact gr_call (unhide HQ4 _) | exact gr_call (unhide HQ5 _)) | (go_at_call 66;exact gr_call (unhide HQ8 _))))
   by_cases hq1:99 < xid
   ·have HD1:=hide hq1
    have hd1:decide (99 < xid)=true:=decide_eq_true hq1
    clear hq1
    simp only [hd1]
    repeat (go_big_quiet_step (first | (go_at_call 64;first | exact gr_call (unhide HQ3 _) | exact gr_call (unhide HQ4 _) | exact gr_call (unhide HQ5 _)) | (go_at_call 66;exact gr_call (unhide HQ8 _))))
    refine wpQuiet_nil ?_
    intro w' hw'
    have HKG:=hide (Keeps.of_gr hw');have hk':=HKv.out.trans HKG.out
    clear hw'
    go_wp2_with fail
    go_ret
    exact ⟨ret_b (by rw [HVV.out,HN1.out k hlt (by rw [HIA.out];simp [chB];have:=HD1.out;omega)]),HKA.out.trans hk'⟩
   have HD1:=hide hq1
   have hd1:decide (99 < xid)=false:=decide_eq_false hq1
   clear hq1
   simp only [hd1]
   repeat (go_big_quiet_step (first | (go_at_call 64;first | exact gr_call (unhide HQ3 _) | exact gr_call (unhide HQ4 _) | exact gr_call (unhide HQ5 _)) | (go_at_call 66;exact gr_call (unhide HQ8 _))))
   by_cases hq2:xid≤y
   ·have HD2:=hide hq2
    have hd2:decide (xid≤y)=true:=decide_eq_true hq2
    clear hq2
    simp only [hd2]
    repeat (go_big_quiet_step (first | (go_at_call 64;first | exact gr_call (unhide HQ3 _) | exact gr_call (unhide HQ4 _) | exact gr_call (unhide HQ5 _)) | (go_at_call 66;exact gr_call (unhide HQ8 _))))
    refine wpQuiet_nil ?_
    intro w' hw'
    have HKG:=hide (Keeps.of_gr hw');have hk':=HKv.out.trans HKG.out
    clear hw'
    go_wp2_with fail
    go_ret
    exact ⟨ret_b (by rw [HVV.out,HN1.out k hlt (by rw [HIA.out];simp;have:=HD2.out;omega)]),HKA.out.trans hk'⟩
   have HD2:=hide hq2
   have hd2:decide (xid≤y)=false:=decide_eq_false hq2
   clear hq2
   simp only [hd2]
   repeat (go_big_quiet_step (first | (go_at_call 64;first | exact gr_call (unhide HQ3 _) | exact gr_call (unhide HQ4 _) | exact gr_call (unhide HQ5 _)) | (go_at_call 66;exact gr_call (unhide HQ8 _))))
   cases hb3:amtB xlo
   ·simp only [Bool.not_true,Bool.not_false]
    repeat (go_big_quiet_step (first | (go_at_call 64;first | exact gr_call (unhide HQ3 _) | exact gr_call (unhide HQ4 _) | exact gr_call (unhide HQ5 _)) | (go_at_call 66;exact gr_call (unhide HQ8 _))))
    refine wpQuiet_nil ?_
    intro w' hw'
    have HKG:=hide (Keeps.of_gr hw');have hk':=HKv.out.trans HKG.out
    clear hw'
    go_wp2_with fail
    go_ret
    exact ⟨ret_b (by rw [HVV.out,HN2.out k hlt (by show chanB _ C[k]=false;rw [HX.out];simp [chanB,fieldsB,hb3])]),HKA.out.trans hk'⟩
   simp only [Bool.not_true,Bool.not_false]
   repeat (go_big_quiet_step (first | (go_at_call 64;first | exact gr_call (unhide HQ3 _) | exact gr_call (unhide HQ4 _) | exact gr_call (unhide HQ5 _)) | (go_at_call 66;exact gr_call (unhide HQ8 _))))
   cases hb4:amtB xre
   ·simp only [Bool.not_true,Bool.not_false]
    repeat (go_big_quiet_step (first | (go_at_call 64;first | exact gr_call (unhide HQ3 _) | exact gr_call (unhide HQ4 _) | exact gr_call (unhide HQ5 _)) | (go_at_call 66;exact gr_call (unhide HQ8 _))))
    refine wpQuiet_nil ?_
    intro w' hw'
    have HKG:=hide (Keeps.of_gr hw');have hk':=HKv.out.trans HKG.out
    clear hw'
    go_wp2_with fail
    go_ret
    exact ⟨ret_b (by rw [HVV.out,HN2.out k hlt (by show chanB _ C[k]=false;rw [HX.out];simp [chanB,fieldsB,hb4])]),HKA.out.trans hk'⟩
   simp only [Bool.not_true,Bool.not_false]
   repeat (go_big_quiet_step (first | (go_at_call 64;first | exact gr_call (unhide HQ3 _) | exact gr_call (unhide HQ4 _) | exact gr_call (unhide HQ5 _)) | (go_at_call 66;exact gr_call (unhide HQ8 _))))
   cases hb5:amtB xba
   ·simp only [Bool.not_true,Bool.not_false]
    repeat (go_big_quiet_step (first | (go_at_call 64;first | exact gr_call (unhide HQ3 _) | exact gr_call (unhide HQ4 _) | exact gr_call (unhide HQ5 _)) | (go_at_call 66;exact gr_call (unhide HQ8 _))))
    refine wpQuiet_nil ?_
    intro w' hw'
    have HKG:=hide (Keeps.of_gr hw');have hk':=HKv.out.trans HKG.out
    clear hw'
    go_wp2_with fail
    go_ret
    exact ⟨ret_b (by rw [HVV.out,HN2.out k hlt (by show chanB _ C[k]=false;rw [HX.out];simp [chanB,fieldsB,hb5])]),HKA.out.trans hk'⟩
   simp only [Bool.not_true,Bool.not_false]
   repeat (go_big_quiet_step (first | (go_at_call 64;first | exact gr_call (unhide HQ3 _) | exact gr_call (unhide HQ4 _) | exact gr_call (unhide HQ5 _)) | (go_at_call 66;exact gr_call (unhide HQ8 _))))
   by_cases hq6:xpp < 0
   ·have HD6:=hide hq6
    have hd6:decide (xpp < 0)=true:=decide_eq_true hq6
    clear hq6
    simp only [hd6]
    repeat (go_big_quiet_step (first | (go_at_call 64;first | exact gr_call (unhide HQ3 _) | exact gr_call (unhide HQ4 _) | exact gr_call (unhide HQ5 _)) | (go_at_call 66;exact gr_call (unhide HQ8 _))))
    refine wpQuiet_nil ?_
    intro w' hw'
    have HKG:=hide (Keeps.of_gr hw');have hk':=HKv.out.trans HKG.out
    clear hw'
    go_wp2_with fail
    go_ret
    exact ⟨ret_b (by rw [HVV.out,HN2.out k hlt (by show chanB _ C[k]=false;rw [HX.out];simp [chanB,fieldsB,ppmB];have:=HD6.out;omega)]),HKA.out.trans hk'⟩
   have HD6:=hide hq6
   have hd6:decide (xpp < 0)=false:=decide_eq_false hq6
   clear hq6
   simp only [hd6]
   repeat (go_big_quiet_step (first | (go_at_call 64;first | exact gr_call (unhide HQ3 _) | exact gr_call (unhide HQ4 _) | exact gr_call (unhide HQ5 _)) | (go_at_call 66;exact gr_call (unhide HQ8 _))))
   by_cases hq7:1000000 < xpp
   ·have HD7:=hide hq7
    have hd7:decide (1000000 < xpp)=true:=decide_eq_true hq7
    clear hq7
    simp only [hd7]
    repeat (go_big_quiet_step (first | (go_at_call 64;first | exact gr_call (unhide HQ3 _) | exact gr_call (unhide HQ4 _) | exact gr_call (unhide HQ5 _)) | (go_at_call 66;exact gr_call (unhide HQ8 _))))
    refine wpQuiet_nil ?_
    intro w' hw'
    have HKG:=hide (Keeps.of_gr hw');have hk':=HKv.out.trans HKG.out
    clear hw'
    go_wp2_with fail
    go_ret
    exact ⟨ret_b (by rw [HVV.out,HN2.out k hlt (by show chanB _ C[k]=false;rw [HX.out];simp [chanB,fieldsB,ppmB];have:=HD7.out;omega)]),HKA.out.trans hk'⟩
   have HD7:=hide hq7
   have hd7:decide (1000000 < xpp)=false:=decide_eq_false hq7
   clear hq7
   simp only [hd7]
   repeat (go_big_quiet_step (first | (go_at_call 64;first | exact gr_call (unhide HQ3 _) | exact gr_call (unhide HQ4 _) | exact gr_call (unhide HQ5 _)) | (go_at_call 66;exact gr_call (unhide HQ8 _))))
   refine wpQuiet_nil ?_
   intro w' hw'
   have HKG:=hide (Keeps.of_gr hw');have hk':=HKv.out.trans HKG.out
   clear hw'
   cases hb8:okS xsc
   ·go_wp2_with fail
    go_ret
    exact ⟨ret_b (by rw [HVV.out,HN2.out k hlt (by show chanB _ C[k]=false;rw [HX.out];simp [chanB,fieldsB,hb8])]),HKA.out.trans hk'⟩
   go_wp2_with fail
   have HID:Hid (idAt C k=true):=by show _=_;rw [HIA.out];have:=HD0.out;have:=HD1.out;have:=HD2.out;simp [chB];omega
   have HFB:Hid (fieldsB ⟨xid,xsz,xlo,xre,xba,xpp,xsc⟩=true):=by show _=_;have:=HD6.out;have:=HD7.out;simp [fieldsB,ppmB,hb3,hb4,hb5,hb8];omega
   have z1:=amtB_true hb3
   have z2:=amtB_true hb4
   clear g0 g1 g2 g3 g4 g5 g6 q0 q1 q2 q3 q4 q5 HQ3 HQ4 HQ5 HQ8 hd0 hd1 hd2 hd6 hd7
   generalize w'=W2 at *
   have HKw:=hide hk'
   clear hk'
   have HK12:Hid (Keeps W1 W2):=HKG.out
   obtain ⟨o0,o1,i0,i1⟩:=HUB.out xid
   have HO:=hide (fun t=>unhide H2 xid (gr W2 t) (HKA.out.trans (HKw.out.trans (gr_keeps W2 t))) HSM.out)
   have HI:=hide (fun t=>unhide H3 xid (gr W2 t) (HKA.out.trans (HKw.out.trans (gr_keeps W2 t))) HSM.out)
   have HSV:Hid (sizeB (⟨tk,nx,wa,C,Hs,R⟩:Bk) ⟨xid,xsz,xlo,xre,xba,xpp,xsc⟩=(amtB xsz && decide (xsz=xlo+xre+outV (⟨tk,nx,wa,C,Hs,R⟩:Bk) xid+inV (⟨tk,nx,wa,C,Hs,R⟩:Bk) xid))):=rfl
   generalize outV (⟨tk,nx,wa,C,Hs,R⟩:Bk) xid=ov at *
   generalize inV (⟨tk,nx,wa,C,Hs,R⟩:Bk) xid=iv at *
   have hw1:IntKind.i64.wrap (xlo+xre)=xlo+xre:=by rw [IntKind.wrap_i64];omega
   have hw2:IntKind.i64.wrap (xlo+xre+ov)=xlo+xre+ov:=by rw [IntKind.wrap_i64];omega
   have hw3:IntKind.i64.wrap (xlo+xre+ov+iv)=xlo+xre+ov+iv:=by rw [IntKind.wrap_i64];omega
   have g0:=fun t=>(unhide HA _ (HK12.out.trans (gr_keeps W2 t))).1
   have g1:=fun t=>(unhide HA _ (HK12.out.trans (gr_keeps W2 t))).2.1
   have g2:=fun t=>(unhide HA _ (HK12.out.trans (gr_keeps W2 t))).2.2.1
   have g3:=fun t=>(unhide HA _ (HK12.out.trans (gr_keeps W2 t))).2.2.2.1
   have g4:=fun t=>(unhide HA _ (HK12.out.trans (gr_keeps W2 t))).2.2.2.2.1
   have g5:=fun t=>(unhide HA _ (HK12.out.trans (gr_keeps W2 t))).2.2.2.2.2.1
   have g6:=fun t=>(unhide HA _ (HK12.out.trans (gr_keeps W2 t))).2.2.2.2.2.2
   have q0:=fun t=>(HBA.out.kept (HKw.out.trans (gr_keeps W2 t))).1
   have q1:=fun t=>(HBA.out.kept (HKw.out.trans (gr_keeps W2 t))).2.1
   have q2:=fun t=>(HBA.out.kept (HKw.out.trans (gr_keeps W2 t))).2.2.1
   have q3:=fun t=>(HBA.out.kept (HKw.out.trans (gr_keeps W2 t))).2.2.2.1
   have q4:=fun t=>(HBA.out.kept (HKw.out.trans (gr_keeps W2 t))).2.2.2.2.1
   have q5:=fun t=>(HBA.out.kept (HKw.out.trans (gr_keeps W2 t))).2.2.2.2.2
   dsimp only at q0 q1 q2 q3 q4 q5
   have HQz:=hide (fun t=>amt_spec xsz (gr W2 t))
   cases hbz:amtB xsz
   ·rw [hbz] at HQz
    refine region_gr (by kernel_rfl) (by kernel_rfl) ?_
    repeat (go_big_quiet_step (first | (go_at_call 64;exact gr_call (unhide HQz _))))
    refine wpQuiet_nil ?_
    intro w' hw'
    have hk':=HKw.out.trans (Keeps.of_gr hw')
    clear hw'
    go_wp2_with fail
    go_ret
    exact ⟨ret_b (by rw [HVV.out,HN2.out k hlt (by show chanB _ C[k]=false;rw [HX.out];simp [chanB,HSV.out,hbz])]),HKA.out.trans hk'⟩
   rw [hbz] at HQz
   by_cases hsz:xsz=xlo+xre+ov+iv
   ·have HSZ:=hide hsz
    have hsz':(xlo+xre+ov+iv != xsz)=false:=by simp [hsz]
    clear hsz
    refine region_gr (by kernel_rfl) (by kernel_rfl) ?_
    repeat (go_big_quiet_step (first | (go_at_call 64;exact gr_call (unhide HQz _)) | (go_at_call 67;exact gr_call (unhide HO _)) | (go_at_call 68;exact gr_call (unhide HI _))))
    refine wpQuiet_nil ?_
    intro w' hw'
    have hk':=HKw.out.trans (Keeps.of_gr hw')
    clear hw'
    go_wp2_with fail
    have HOK:Hid (chanB (⟨tk,nx,wa,C,Hs,R⟩:Bk) ⟨xid,xsz,xlo,xre,xba,xpp,xsc⟩=true):=by show _=_;unfold chanB;rw [HFB.out,HSV.out,hbz];simpa using HSZ.out
    have HKe:=hide hk'
    clear hk'
    go_roundw
    case rel=>exact ⟨k+1,by omega,by go_num,fun j h=>by
               by_cases e:j=k
               ·subst e;exact HID.out
               ·exact HG.out j (by omega),fun j hj h=>by
               by_cases e:j=k
               ·subst e;rw [HX.out];exact HOK.out
               ·exact HG2.out j hj (by omega),HKe.out⟩
    case measure=>simp [intOf];omega
   ·have HSZ:=hide hsz
    have hsz':(xlo+xre+ov+iv != xsz)=true:=by simp;exact fun e=>hsz e.symm
    clear hsz
    refine region_gr (by kernel_rfl) (by kernel_rfl) ?_
    repeat (go_big_quiet_step (first | (go_at_call 64;exact gr_call (unhide HQz _)) | (go_at_call 67;exact gr_call (unhide HO _)) | (go_at_call 68;exact gr_call (unhide HI _))))
    refine wpQuiet_nil ?_
    intro w' hw'
    have hk':=HKw.out.trans (Keeps.of_gr hw')
    clear hw'
    go_wp2_with fail
    go_ret
    exact ⟨ret_b (by rw [HVV.out,HN2.out k hlt (by show chanB _ C[k]=false;rw [HX.out];unfold chanB;rw [HFB.out,HSV.out,hbz];simpa using HSZ.out)]),HKA.out.trans hk'⟩
end Go.Proofs.YtccdhcempnkgaaaGreatDoor
