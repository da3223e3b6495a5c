/- The model: a payment in a circle is sent. -/
import Derived.Test.YtccdhcempnkgaaaGreatDoorPL14
import Derived.Test.YtccdhcempnkgaaaGreatDoorPL22
namespace Go.Proofs.YtccdhcempnkgaaaGreatDoor
open Go.RowKit Go.Deep
set_option linter.unusedVariables false
set_option linter.unusedSimpArgs false
set_option maxRecDepth 10000
set_option maxHeartbeats 8000000 in
theorem launch_spec (W w:World) (p:Nat) (k:Wk) (h:WkAt W w p k) (hc:k.cd=0) (kd ky ch tt am fe:Int) (ys:Bool) (hC:k.C.length≤20) (hH:k.Hs.length≤60) (hR:k.R.length≤20) (hL:k.L=[]) (hA:∀ c∈k.C,(0≤c.lo∧c.lo≤1125899906842624)∧0≤c.re∧c.re≤1125899906842624) (ha:0≤am∧am≤1125899906842624) (hf:0≤fe∧fe≤1125899906842624) :
 Calls Tryz.prog 43 #[.pointer (some ⟨p,0,none⟩),.agg #[.int .i64 kd,.int .i64 ky,.int .i64 ch,.int .i64 tt,.int .i64 am,.int .i64 fe,.bool ys]] w fun e w'=>e=.returned (.tuple #[])∧Ends W w' p (launchC k.bk ky ch tt am fe) (launchB k.bk ky ch tt am fe) (launchL k.L ch am fe):=by
 have HW:=hide (h.kept ((Keeps.refl w).alloc (.cells #[.int .i64 kd,.int .i64 ky,.int .i64 ch,.int .i64 tt,.int .i64 am,.int .i64 fe,.bool ys] 41)))
 have HE1:=hide (rowc7 w (.int .i64 kd) (.int .i64 ky) (.int .i64 ch) (.int .i64 tt) (.int .i64 am) (.int .i64 fe) (.bool ys) 41)
 have HLS:Hid (LS k p w.heap.size ky ch tt am fe (w.alloc (.cells #[.int .i64 kd,.int .i64 ky,.int .i64 ch,.int .i64 tt,.int .i64 am,.int .i64 fe,.bool ys] 41)).drew):=(LS.of HW.out (unhide HE1 _ (Keeps.refl _))).kept (Keeps.refl _).drew
 have HNE:Hid (w.heap.size≠p):=fun e=>by have:=h.row.lt;omega
 have HPB:=hide (And.intro (h.oR.lt k.gR rfl).2 (And.intro (h.oC.lt k.gC rfl).2 h.row.lt))
 have HH0:=hide hc
 have HLn:=hide (And.intro hH (And.intro hR (And.intro hC (show (keysL k.bk).length≤1048576 by simp [keysL,Wk.bk];omega))))
 have HCD:Hid (launchC k.bk ky ch tt am fe=if ky∈keysL k.bk then 9 else if twoB k.C ch tt=false then 6 else if k.R.length=20 then 14 else if addB am fe=false then 10 else if loC k.C ch < am+fe then 12 else if reC k.C tt < am then 11 else 0):=rfl
 have HAA:=hide hA
 have HA1:=hide ha
 have HF1:=hide hf
 have HLL:=hide hL
 clear h hc hC hH hR hA ha hf hL
 go_enter Tryz.func43,Tryz.ntmps43
 go_upto_region 1 with fail
 generalize (w.alloc (.cells #[.int .i64 kd,.int .i64 ky,.int .i64 ch,.int .i64 tt,.int .i64 am,.int .i64 fe,.bool ys] 41))=w1 at *
 generalize w.heap.size=pe at *
 replace HW:=hide (HW.out.kept (Keeps.refl _).drew)
 refine wp_region_perm [(false,0),(false,1),(false,2),(false,3),(false,4),(false,6),(false,7),(true,5),(true,8),(true,9),(false,10),(false,11),(false,12),(false,13),(false,14),(false,15),(false,16),(false,17),(false,18),(false,19),(true,20),(false,21),(true,22),(false,23),(false,24),(false,25),(false,26),(false,27),(false,28),(false,29),(false,30),(false,31),(false,32),(true,33),(false,34)] (LS k p pe ky ch tt am fe) (by kernel_rfl) (by kernel_rfl) rfl rfl (fun _ _ d _ _ h=>by cases d <;> exact h) HLS.out ?_
 generalize w1.drew=w2 at *
 repeat (first
  | (refine wpPerm_no (by rfl) ?_
     try simp only [Act.put,List.setIfInBounds_toArray,List.set_cons_zero,List.set_cons_succ])
  | (refine wpPerm_yes (v:=?_) (by rfl) ?_ ?_
     rotate_left
     ·intro w9 hS9
      obtain ⟨s0,s1,s2,s3,s4,s5,s6,s7,s8,s9,s10⟩:=hS9
      go_simp
      with_reducible rfl
     try simp only [Act.put,List.setIfInBounds_toArray,List.set_cons_zero,List.set_cons_succ]))
 refine wpPerm_do (by rfl) ?_
 intro K9 hK9
 go_simp
 refine (keys_spec k.bo _ HW.out.mem HLn.out.1 HLn.out.2.1).mono ?_
 rintro e w3 ⟨g,cap,rfl,ho,hk⟩
 have HO:=hide (its_owned ho)
 clear ho
 refine hK9.out _ _ (HLS.out.kept hk) ?_
 clear hK9 K9
 try simp only [Act.put,List.setIfInBounds_toArray,List.set_cons_zero,List.set_cons_succ]
 replace HW:=hide (HW.out.kept hk)
 replace HLS:=hide (HLS.out.kept hk)
 clear hk
 refine wpPerm_do (by rfl) ?_
 intro K9 hK9
 go_simp
 refine (hasint_spec _ _ (keysL k.bk) ky _ HO.out HLn.out.2.2.2).mono ?_
 rintro e w9 ⟨rfl,hw⟩
 refine hK9.out _ _ (by rw [hw];exact HLS.out) ?_
 clear hK9 K9
 obtain rfl:=Eq.symm hw
 clear hw
 try simp only [Act.put,List.setIfInBounds_toArray,List.set_cons_zero,List.set_cons_succ]
 by_cases h1:ky∈keysL k.bk
 ·rw [show decide (ky∈keysL k.bk)=true from decide_eq_true h1]
  have HEC:Hid (launchC k.bk ky ch tt am fe=9):=by show _=_;rw [HCD.out,if_pos h1]
  refine wpPerm_do (by rfl) ?_
  intro K9 hK9
  go_simp
  refine (code_yes W _ p k 9 HH0.out (by decide) HW.out).mono ?_
  rintro e w3x ⟨rfl,hw9,ht9⟩
  have HEX:Hid (∀ B L,Ends W w3x p (launchC k.bk ky ch tt am fe) B L):=fun B L=>⟨_,hw9,HEC.out.symm,fun h0=>absurd h0 (by rw [HEC.out];decide)⟩
  refine hK9.out _ _ (HLS.out.code ht9 hw9 HNE.out) ?_
  clear hK9 K9
  try simp only [Act.put,List.setIfInBounds_toArray,List.set_cons_zero,List.set_cons_succ]
  clear hw9 ht9 HLS HW
  repeat (first
   | (refine wpPerm_no (by rfl) ?_
      try simp only [Act.put,List.setIfInBounds_toArray,List.set_cons_zero,List.set_cons_succ])
   | (refine wpPerm_yes (v:=?_) (by rfl) ?_ ?_
      rotate_left
      ·intro w9 hS9
       obtain ⟨s0,s1,s2,s3,s4,s5,s6,s7,s8,s9,s10⟩:=hS9
       go_simp
       with_reducible rfl
      try simp only [Act.put,List.setIfInBounds_toArray,List.set_cons_zero,List.set_cons_succ]))
  refine wpPerm_end ?_
  go_wp2_with fail
  refine bodyPost_ret (results_none rfl _ _ _) rfl ?_
  exact ⟨rfl,HEX.out _ _⟩
 rw [show decide (ky∈keysL k.bk)=false from decide_eq_false h1]
 refine wpPerm_do (by rfl) ?_
 intro K9 hK9
 go_simp
 refine (code_no W _ p k 9 HH0.out HW.out).mono ?_
 rintro e w4 ⟨rfl,hk⟩
 refine hK9.out _ _ (HLS.out.kept hk) ?_
 clear hK9 K9
 try simp only [Act.put,List.setIfInBounds_toArray,List.set_cons_zero,List.set_cons_succ]
 replace HW:=hide (HW.out.kept hk)
 replace HLS:=hide (HLS.out.kept hk)
 clear hk
 repeat (first
  | (refine wpPerm_no (by rfl) ?_
     try simp only [Act.put,List.setIfInBounds_toArray,List.set_cons_zero,List.set_cons_succ])
  | (refine wpPerm_yes (v:=?_) (by rfl) ?_ ?_
     rotate_left
     ·intro w9 hS9
      obtain ⟨s0,s1,s2,s3,s4,s5,s6,s7,s8,s9,s10⟩:=hS9
      go_simp
      with_reducible rfl
     try simp only [Act.put,List.setIfInBounds_toArray,List.set_cons_zero,List.set_cons_succ]))
 refine wpPerm_do (by rfl) ?_
 intro K9 hK9
 go_simp
 refine (two_spec k.bo ch tt _ HW.out.mem (by have:=HLn.out.2.2.1;exact Nat.le_trans this (by decide))).mono ?_
 rintro e w5 ⟨rfl,hk⟩
 refine hK9.out _ _ (HLS.out.kept hk) ?_
 clear hK9 K9
 try simp only [Act.put,List.setIfInBounds_toArray,List.set_cons_zero,List.set_cons_succ]
 replace HW:=hide (HW.out.kept hk)
 replace HLS:=hide (HLS.out.kept hk)
 clear hk
 rw [show twoB k.bo.C ch tt=twoB k.C ch tt from rfl]
 cases h2:twoB k.C ch tt
 ·skip
  repeat (first
   | (refine wpPerm_no (by rfl) ?_
      try simp only [Act.put,List.setIfInBounds_toArray,List.set_cons_zero,List.set_cons_succ])
   | (refine wpPerm_yes (v:=?_) (by rfl) ?_ ?_
      rotate_left
      ·intro w9 hS9
       obtain ⟨s0,s1,s2,s3,s4,s5,s6,s7,s8,s9,s10⟩:=hS9
       go_simp
       with_reducible rfl
      try simp only [Act.put,List.setIfInBounds_toArray,List.set_cons_zero,List.set_cons_succ]))
  have HEC:Hid (launchC k.bk ky ch tt am fe=6):=by show _=_;rw [HCD.out,if_neg h1,if_pos h2]
  refine wpPerm_do (by rfl) ?_
  intro K9 hK9
  go_simp
  refine (code_yes W _ p k 6 HH0.out (by decide) HW.out).mono ?_
  rintro e w5x ⟨rfl,hw9,ht9⟩
  have HEX:Hid (∀ B L,Ends W w5x p (launchC k.bk ky ch tt am fe) B L):=fun B L=>⟨_,hw9,HEC.out.symm,fun h0=>absurd h0 (by rw [HEC.out];decide)⟩
  refine hK9.out _ _ (HLS.out.code ht9 hw9 HNE.out) ?_
  clear hK9 K9
  try simp only [Act.put,List.setIfInBounds_toArray,List.set_cons_zero,List.set_cons_succ]
  clear hw9 ht9 HLS HW
  repeat (first
   | (refine wpPerm_no (by rfl) ?_
      try simp only [Act.put,List.setIfInBounds_toArray,List.set_cons_zero,List.set_cons_succ])
   | (refine wpPerm_yes (v:=?_) (by rfl) ?_ ?_
      rotate_left
      ·intro w9 hS9
       obtain ⟨s0,s1,s2,s3,s4,s5,s6,s7,s8,s9,s10⟩:=hS9
       go_simp
       with_reducible rfl
      try simp only [Act.put,List.setIfInBounds_toArray,List.set_cons_zero,List.set_cons_succ]))
  refine wpPerm_end ?_
  go_wp2_with fail
  refine bodyPost_ret (results_none rfl _ _ _) rfl ?_
  exact ⟨rfl,HEX.out _ _⟩
 repeat (first
  | (refine wpPerm_no (by rfl) ?_
     try simp only [Act.put,List.setIfInBounds_toArray,List.set_cons_zero,List.set_cons_succ])
  | (refine wpPerm_yes (v:=?_) (by rfl) ?_ ?_
     rotate_left
     ·intro w9 hS9
      obtain ⟨s0,s1,s2,s3,s4,s5,s6,s7,s8,s9,s10⟩:=hS9
      go_simp
      with_reducible rfl
     try simp only [Act.put,List.setIfInBounds_toArray,List.set_cons_zero,List.set_cons_succ]))
 refine wpPerm_do (by rfl) ?_
 intro K9 hK9
 go_simp
 refine (code_no W _ p k 6 HH0.out HW.out).mono ?_
 rintro e w6 ⟨rfl,hk⟩
 refine hK9.out _ _ (HLS.out.kept hk) ?_
 clear hK9 K9
 try simp only [Act.put,List.setIfInBounds_toArray,List.set_cons_zero,List.set_cons_succ]
 replace HW:=hide (HW.out.kept hk)
 replace HLS:=hide (HLS.out.kept hk)
 clear hk
 by_cases h3:k.R.length=20
 ·have hd3:((k.R.length:Int)==20)=true:=by simp;omega
  repeat (first
   | (refine wpPerm_no (by rfl) ?_
      try simp only [Act.put,List.setIfInBounds_toArray,List.set_cons_zero,List.set_cons_succ])
   | (refine wpPerm_yes (v:=?_) (by rfl) ?_ ?_
      rotate_left
      ·intro w9 hS9
       obtain ⟨s0,s1,s2,s3,s4,s5,s6,s7,s8,s9,s10⟩:=hS9
       go_simp
       with_reducible rfl
      try simp only [Act.put,List.setIfInBounds_toArray,List.set_cons_zero,List.set_cons_succ]))
  have HEC:Hid (launchC k.bk ky ch tt am fe=14):=by show _=_;rw [HCD.out,if_neg h1,if_neg (by rw [h2];decide),if_pos h3]
  refine wpPerm_do (by rfl) ?_
  intro K9 hK9
  go_simp
  refine (code_yes W _ p k 14 HH0.out (by decide) HW.out).mono ?_
  rintro e w6x ⟨rfl,hw9,ht9⟩
  have HEX:Hid (∀ B L,Ends W w6x p (launchC k.bk ky ch tt am fe) B L):=fun B L=>⟨_,hw9,HEC.out.symm,fun h0=>absurd h0 (by rw [HEC.out];decide)⟩
  refine hK9.out _ _ (HLS.out.code ht9 hw9 HNE.out) ?_
  clear hK9 K9
  try simp only [Act.put,List.setIfInBounds_toArray,List.set_cons_zero,List.set_cons_succ]
  clear hw9 ht9 HLS HW
  repeat (first
   | (refine wpPerm_no (by rfl) ?_
      try simp only [Act.put,List.setIfInBounds_toArray,List.set_cons_zero,List.set_cons_succ])
   | (refine wpPerm_yes (v:=?_) (by rfl) ?_ ?_
      rotate_left
      ·intro w9 hS9
       obtain ⟨s0,s1,s2,s3,s4,s5,s6,s7,s8,s9,s10⟩:=hS9
       go_simp
       with_reducible rfl
      try simp only [Act.put,List.setIfInBounds_toArray,List.set_cons_zero,List.set_cons_succ]))
  refine wpPerm_end ?_
  go_wp2_with fail
  refine bodyPost_ret (results_none rfl _ _ _) rfl ?_
  exact ⟨rfl,HEX.out _ _⟩
 have hd3:((k.R.length:Int)==20)=false:=by simp;omega
 repeat (first
  | (refine wpPerm_no (by rfl) ?_
     try simp only [Act.put,List.setIfInBounds_toArray,List.set_cons_zero,List.set_cons_succ])
  | (refine wpPerm_yes (v:=?_) (by rfl) ?_ ?_
     rotate_left
     ·intro w9 hS9
      obtain ⟨s0,s1,s2,s3,s4,s5,s6,s7,s8,s9,s10⟩:=hS9
      go_simp
      with_reducible rfl
     try simp only [Act.put,List.setIfInBounds_toArray,List.set_cons_zero,List.set_cons_succ]))
 refine wpPerm_do (by rfl) ?_
 intro K9 hK9
 go_simp
 refine (code_no W _ p k 14 HH0.out HW.out).mono ?_
 rintro e w7 ⟨rfl,hk⟩
 refine hK9.out _ _ (HLS.out.kept hk) ?_
 clear hK9 K9
 try simp only [Act.put,List.setIfInBounds_toArray,List.set_cons_zero,List.set_cons_succ]
 replace HW:=hide (HW.out.kept hk)
 replace HLS:=hide (HLS.out.kept hk)
 clear hk
 repeat (first
  | (refine wpPerm_no (by rfl) ?_
     try simp only [Act.put,List.setIfInBounds_toArray,List.set_cons_zero,List.set_cons_succ])
  | (refine wpPerm_yes (v:=?_) (by rfl) ?_ ?_
     rotate_left
     ·intro w9 hS9
      obtain ⟨s0,s1,s2,s3,s4,s5,s6,s7,s8,s9,s10⟩:=hS9
      go_simp
      with_reducible rfl
     try simp only [Act.put,List.setIfInBounds_toArray,List.set_cons_zero,List.set_cons_succ]))
 refine wpPerm_end ?_
 clear hd3
 obtain ⟨-,-,-,-,-,-,-,-,-,e4,e5⟩:=HLS.out
 go_wp2_with fail
 refine (addAmt_spec am fe _).mono ?_
 rintro _ w9 ⟨rfl,hw⟩
 obtain rfl:=Eq.symm hw
 clear hw e4 e5
 obtain ⟨i,j,ai,aj,hxy⟩:=two_at h2
 obtain ⟨hi,-⟩:=atC_lt ai
 obtain ⟨hj,-⟩:=atC_lt aj
 have HIJ:=hide (And.intro ai (And.intro aj (at_ne ai aj hxy)))
 have HLOe:=hide (loC_at ai hi)
 have HREe:=hide (reC_at aj hj)
 have HBI:=hide (HAA.out _ (List.getElem_mem hi)).1
 have HBJ:=hide (HAA.out _ (List.getElem_mem hj)).2
 have HAI:=hide (fun w' (h:Mem w' k.bo.segs)=>(show Calls _ _ _ _ _ from by have:=at_spec k.bo ch w' h (Nat.le_trans HLn.out.2.2.1 (by decide));rw [show atI k.bo.C ch=(i:Int) from atI_some ai] at this;exact this))
 have HAJ:=hide (fun w' (h:Mem w' k.bo.segs)=>(show Calls _ _ _ _ _ from by have:=at_spec k.bo tt w' h (Nat.le_trans HLn.out.2.2.1 (by decide));rw [show atI k.bo.C tt=(j:Int) from atI_some aj] at this;exact this))
 have HNC:Hid (k.gC≠p):=by
  have nd:=HW.out.nd
  simp only [List.nodup_cons,List.mem_cons,not_or] at nd
  exact Ne.symm nd.1.1
 have hi0:(0:Int)≤(i:Int):=by omega
 have hi1:(i:Int) < (k.C.length:Int):=by omega
 have hj0:(0:Int)≤(j:Int):=by omega
 have hj1:(j:Int) < (k.C.length:Int):=by omega
 clear ai aj hxy
 replace HLS:Hid (LT k p pe ky ch tt am fe i j k.C[i].lo k.C[j].re w7):=⟨(HW.out.oC.at i hi).2.2.1,(HW.out.oC.at j hj).2.2.2.1,HLS.out⟩
 have HMV:Hid (∀ (k':Wk),k'.C=k.C→k'.C=k.C):=fun _ h=>h
 have HZ:=hide (And.intro hi hj)
 generalize hlo:k.C[i].lo=lo at *
 generalize hre:k.C[j].re=re at *
 have HLR:Hid (∀ (hi:i < k.C.length) (hj:j < k.C.length),k.C[i].lo=lo∧k.C[j].re=re):=fun _ _=>⟨hlo,hre⟩
 clear hlo hre hi hj
 cases h4:addB am fe
 ·go_upto_region 3 with fail
  refine wp_region_perm [(false,0),(false,1),(false,2),(true,3),(false,4),(false,5),(false,6),(false,7),(false,8),(false,9),(false,10),(false,11),(false,12),(false,13),(false,14),(false,15),(false,16),(false,21),(true,17),(false,18),(false,19),(false,20),(false,22),(true,23),(false,24),(false,25),(false,26),(false,27),(false,28),(false,29),(false,30),(false,31),(false,32),(false,33),(false,34),(false,35),(false,36),(false,37),(false,42),(false,43),(true,38),(false,39),(false,40),(false,41),(false,44),(true,45),(false,46)] (LT k p pe ky ch tt am fe i j lo re) (by kernel_rfl) (by kernel_rfl) rfl rfl (fun _ _ d _ _ h=>by cases d <;> exact h) (HLS.out.kept (Keeps.refl _).drew) ?_
  generalize hdr:w7.drew=w27 at *
  replace HW:Hid (WkAt W w27 p k):=by rw [← hdr];exact HW.out.kept (Keeps.refl _).drew
  replace HLS:Hid (LT k p pe ky ch tt am fe i j lo re w27):=by rw [← hdr];exact HLS.out.kept (Keeps.refl _).drew
  clear hdr
  repeat (first
   | (refine wpPerm_no (by rfl) ?_
      try simp only [Act.put,List.setIfInBounds_toArray,List.set_cons_zero,List.set_cons_succ])
   | (refine wpPerm_yes (v:=?_) (by rfl) ?_ ?_
      rotate_left
      ·intro w9 hS9
       obtain ⟨s0,s1,s2,s3,s4,s5,s6,s7,s8,s9,s10,s11,s12⟩:=hS9
       go_simp
       with_reducible rfl
      try simp only [Act.put,List.setIfInBounds_toArray,List.set_cons_zero,List.set_cons_succ]))
  have HEC:Hid (launchC k.bk ky ch tt am fe=10):=by show _=_;rw [HCD.out,if_neg h1,if_neg (by rw [h2];decide),if_neg h3,if_pos h4]
  refine wpPerm_do (by rfl) ?_
  intro K9 hK9
  go_simp
  refine (code_yes W _ p k 10 HH0.out (by decide) HW.out).mono ?_
  rintro e w27x ⟨rfl,hw9,ht9⟩
  have HEX:Hid (∀ B L,Ends W w27x p (launchC k.bk ky ch tt am fe) B L):=fun B L=>⟨_,hw9,HEC.out.symm,fun h0=>absurd h0 (by rw [HEC.out];decide)⟩
  refine hK9.out _ _ (LT.code HLS.out ht9 hw9 HNE.out HNC.out) ?_
  clear hK9 K9
  try simp only [Act.put,List.setIfInBounds_toArray,List.set_cons_zero,List.set_cons_succ]
  clear hw9 ht9 HLS HW
  repeat (first
   | (refine wpPerm_no (by rfl) ?_
      try simp only [Act.put,List.setIfInBounds_toArray,List.set_cons_zero,List.set_cons_succ])
   | (refine wpPerm_yes (v:=?_) (by rfl) ?_ ?_
      rotate_left
      ·intro w9 hS9
       obtain ⟨s0,s1,s2,s3,s4,s5,s6,s7,s8,s9,s10,s11,s12⟩:=hS9
       go_simp
       with_reducible rfl
      try simp only [Act.put,List.setIfInBounds_toArray,List.set_cons_zero,List.set_cons_succ]))
  refine wpPerm_end ?_
  go_wp2_with fail
  refine bodyPost_ret (results_none rfl _ _ _) rfl ?_
  exact ⟨rfl,HEX.out _ _⟩
 have HV4:Hid (addV am fe=am+fe):=by show _=_;unfold addV;rw [if_pos h4]
 rw [HV4.out]
 go_upto_region 3 with fail
 refine wp_region_perm [(false,0),(false,1),(false,2),(true,3),(false,4),(false,5),(false,6),(false,7),(false,8),(false,9),(false,10),(false,11),(false,12),(false,13),(false,14),(false,15),(false,16),(false,21),(true,17),(false,18),(false,19),(false,20),(false,22),(true,23),(false,24),(false,25),(false,26),(false,27),(false,28),(false,29),(false,30),(false,31),(false,32),(false,33),(false,34),(false,35),(false,36),(false,37),(false,42),(false,43),(true,38),(false,39),(false,40),(false,41),(false,44),(true,45),(false,46)] (LT k p pe ky ch tt am fe i j lo re) (by kernel_rfl) (by kernel_rfl) rfl rfl (fun _ _ d _ _ h=>by cases d <;> exact h) (HLS.out.kept (Keeps.refl _).drew) ?_
 generalize hdr:w7.drew=w8 at *
 replace HW:Hid (WkAt W w8 p k):=by rw [← hdr];exact HW.out.kept (Keeps.refl _).drew
 replace HLS:Hid (LT k p pe ky ch tt am fe i j lo re w8):=by rw [← hdr];exact HLS.out.kept (Keeps.refl _).drew
 clear hdr
 repeat (first
  | (refine wpPerm_no (by rfl) ?_
     try simp only [Act.put,List.setIfInBounds_toArray,List.set_cons_zero,List.set_cons_succ])
  | (refine wpPerm_yes (v:=?_) (by rfl) ?_ ?_
     rotate_left
     ·intro w9 hS9
      obtain ⟨s0,s1,s2,s3,s4,s5,s6,s7,s8,s9,s10,s11,s12⟩:=hS9
      go_simp
      with_reducible rfl
     try simp only [Act.put,List.setIfInBounds_toArray,List.set_cons_zero,List.set_cons_succ]))
 refine wpPerm_do (by rfl) ?_
 intro K9 hK9
 go_simp
 refine (code_no W _ p k 10 HH0.out HW.out).mono ?_
 rintro e w9 ⟨rfl,hk⟩
 refine hK9.out _ _ (HLS.out.kept hk) ?_
 clear hK9 K9
 try simp only [Act.put,List.setIfInBounds_toArray,List.set_cons_zero,List.set_cons_succ]
 replace HW:=hide (HW.out.kept hk)
 replace HLS:=hide (HLS.out.kept hk)
 clear hk
 repeat (first
  | (refine wpPerm_no (by rfl) ?_
     try simp only [Act.put,List.setIfInBounds_toArray,List.set_cons_zero,List.set_cons_succ])
  | (refine wpPerm_yes (v:=?_) (by rfl) ?_ ?_
     rotate_left
     ·intro w9 hS9
      obtain ⟨s0,s1,s2,s3,s4,s5,s6,s7,s8,s9,s10,s11,s12⟩:=hS9
      go_simp
      with_reducible rfl
     try simp only [Act.put,List.setIfInBounds_toArray,List.set_cons_zero,List.set_cons_succ]))
 refine wpPerm_do (by rfl) ?_
 intro K9 hK9
 go_simp
 refine (unhide HAI _ HW.out.mem).mono ?_
 rintro e w10 ⟨rfl,hk⟩
 refine hK9.out _ _ (HLS.out.kept hk) ?_
 clear hK9 K9
 try simp only [Act.put,List.setIfInBounds_toArray,List.set_cons_zero,List.set_cons_succ]
 replace HW:=hide (HW.out.kept hk)
 replace HLS:=hide (HLS.out.kept hk)
 clear hk
 by_cases h5:lo < am+fe
 ·have hd5:decide (lo < am+fe)=true:=decide_eq_true h5
  repeat (first
   | (refine wpPerm_no (by rfl) ?_
      try simp only [Act.put,List.setIfInBounds_toArray,List.set_cons_zero,List.set_cons_succ])
   | (refine wpPerm_yes (v:=?_) (by rfl) ?_ ?_
      rotate_left
      ·intro w9 hS9
       obtain ⟨s0,s1,s2,s3,s4,s5,s6,s7,s8,s9,s10,s11,s12⟩:=hS9
       go_simp
       with_reducible rfl
      try simp only [Act.put,List.setIfInBounds_toArray,List.set_cons_zero,List.set_cons_succ]))
  have HEC:Hid (launchC k.bk ky ch tt am fe=12):=by show _=_;rw [HCD.out,if_neg h1,if_neg (by rw [h2];decide),if_neg h3,if_neg (by rw [h4];decide),HLOe.out,if_pos h5]
  refine wpPerm_do (by rfl) ?_
  intro K9 hK9
  go_simp
  refine (code_yes W _ p k 12 HH0.out (by decide) HW.out).mono ?_
  rintro e w10x ⟨rfl,hw9,ht9⟩
  have HEX:Hid (∀ B L,Ends W w10x p (launchC k.bk ky ch tt am fe) B L):=fun B L=>⟨_,hw9,HEC.out.symm,fun h0=>absurd h0 (by rw [HEC.out];decide)⟩
  refine hK9.out _ _ (LT.code HLS.out ht9 hw9 HNE.out HNC.out) ?_
  clear hK9 K9
  try simp only [Act.put,List.setIfInBounds_toArray,List.set_cons_zero,List.set_cons_succ]
  clear hw9 ht9 HLS HW
  repeat (first
   | (refine wpPerm_no (by rfl) ?_
      try simp only [Act.put,List.setIfInBounds_toArray,List.set_cons_zero,List.set_cons_succ])
   | (refine wpPerm_yes (v:=?_) (by rfl) ?_ ?_
      rotate_left
      ·intro w9 hS9
       obtain ⟨s0,s1,s2,s3,s4,s5,s6,s7,s8,s9,s10,s11,s12⟩:=hS9
       go_simp
       with_reducible rfl
      try simp only [Act.put,List.setIfInBounds_toArray,List.set_cons_zero,List.set_cons_succ]))
  refine wpPerm_end ?_
  go_wp2_with fail
  refine bodyPost_ret (results_none rfl _ _ _) rfl ?_
  exact ⟨rfl,HEX.out _ _⟩
 have hd5:decide (lo < am+fe)=false:=decide_eq_false h5
 repeat (first
  | (refine wpPerm_no (by rfl) ?_
     try simp only [Act.put,List.setIfInBounds_toArray,List.set_cons_zero,List.set_cons_succ])
  | (refine wpPerm_yes (v:=?_) (by rfl) ?_ ?_
     rotate_left
     ·intro w9 hS9
      obtain ⟨s0,s1,s2,s3,s4,s5,s6,s7,s8,s9,s10,s11,s12⟩:=hS9
      go_simp
      with_reducible rfl
     try simp only [Act.put,List.setIfInBounds_toArray,List.set_cons_zero,List.set_cons_succ]))
 refine wpPerm_do (by rfl) ?_
 intro K9 hK9
 go_simp
 refine (code_no W _ p k 12 HH0.out HW.out).mono ?_
 rintro e w11 ⟨rfl,hk⟩
 refine hK9.out _ _ (HLS.out.kept hk) ?_
 clear hK9 K9
 try simp only [Act.put,List.setIfInBounds_toArray,List.set_cons_zero,List.set_cons_succ]
 replace HW:=hide (HW.out.kept hk)
 replace HLS:=hide (HLS.out.kept hk)
 clear hk
 repeat (first
  | (refine wpPerm_no (by rfl) ?_
     try simp only [Act.put,List.setIfInBounds_toArray,List.set_cons_zero,List.set_cons_succ])
  | (refine wpPerm_yes (v:=?_) (by rfl) ?_ ?_
     rotate_left
     ·intro w9 hS9
      obtain ⟨s0,s1,s2,s3,s4,s5,s6,s7,s8,s9,s10,s11,s12⟩:=hS9
      go_simp
      with_reducible rfl
     try simp only [Act.put,List.setIfInBounds_toArray,List.set_cons_zero,List.set_cons_succ]))
 refine wpPerm_do (by rfl) ?_
 intro K9 hK9
 go_simp
 refine (unhide HAJ _ HW.out.mem).mono ?_
 rintro e w12 ⟨rfl,hk⟩
 refine hK9.out _ _ (HLS.out.kept hk) ?_
 clear hK9 K9
 try simp only [Act.put,List.setIfInBounds_toArray,List.set_cons_zero,List.set_cons_succ]
 replace HW:=hide (HW.out.kept hk)
 replace HLS:=hide (HLS.out.kept hk)
 clear hk
 by_cases h6:re < am
 ·have hd6:decide (re < am)=true:=decide_eq_true h6
  repeat (first
   | (refine wpPerm_no (by rfl) ?_
      try simp only [Act.put,List.setIfInBounds_toArray,List.set_cons_zero,List.set_cons_succ])
   | (refine wpPerm_yes (v:=?_) (by rfl) ?_ ?_
      rotate_left
      ·intro w9 hS9
       obtain ⟨s0,s1,s2,s3,s4,s5,s6,s7,s8,s9,s10,s11,s12⟩:=hS9
       go_simp
       with_reducible rfl
      try simp only [Act.put,List.setIfInBounds_toArray,List.set_cons_zero,List.set_cons_succ]))
  have HEC:Hid (launchC k.bk ky ch tt am fe=11):=by show _=_;rw [HCD.out,if_neg h1,if_neg (by rw [h2];decide),if_neg h3,if_neg (by rw [h4];decide),HLOe.out,if_neg h5,HREe.out,if_pos h6]
  refine wpPerm_do (by rfl) ?_
  intro K9 hK9
  go_simp
  refine (code_yes W _ p k 11 HH0.out (by decide) HW.out).mono ?_
  rintro e w12x ⟨rfl,hw9,ht9⟩
  have HEX:Hid (∀ B L,Ends W w12x p (launchC k.bk ky ch tt am fe) B L):=fun B L=>⟨_,hw9,HEC.out.symm,fun h0=>absurd h0 (by rw [HEC.out];decide)⟩
  refine hK9.out _ _ (LT.code HLS.out ht9 hw9 HNE.out HNC.out) ?_
  clear hK9 K9
  try simp only [Act.put,List.setIfInBounds_toArray,List.set_cons_zero,List.set_cons_succ]
  clear hw9 ht9 HLS HW
  repeat (first
   | (refine wpPerm_no (by rfl) ?_
      try simp only [Act.put,List.setIfInBounds_toArray,List.set_cons_zero,List.set_cons_succ])
   | (refine wpPerm_yes (v:=?_) (by rfl) ?_ ?_
      rotate_left
      ·intro w9 hS9
       obtain ⟨s0,s1,s2,s3,s4,s5,s6,s7,s8,s9,s10,s11,s12⟩:=hS9
       go_simp
       with_reducible rfl
      try simp only [Act.put,List.setIfInBounds_toArray,List.set_cons_zero,List.set_cons_succ]))
  refine wpPerm_end ?_
  go_wp2_with fail
  refine bodyPost_ret (results_none rfl _ _ _) rfl ?_
  exact ⟨rfl,HEX.out _ _⟩
 have hd6:decide (re < am)=false:=decide_eq_false h6
 repeat (first
  | (refine wpPerm_no (by rfl) ?_
     try simp only [Act.put,List.setIfInBounds_toArray,List.set_cons_zero,List.set_cons_succ])
  | (refine wpPerm_yes (v:=?_) (by rfl) ?_ ?_
     rotate_left
     ·intro w9 hS9
      obtain ⟨s0,s1,s2,s3,s4,s5,s6,s7,s8,s9,s10,s11,s12⟩:=hS9
      go_simp
      with_reducible rfl
     try simp only [Act.put,List.setIfInBounds_toArray,List.set_cons_zero,List.set_cons_succ]))
 refine wpPerm_do (by rfl) ?_
 intro K9 hK9
 go_simp
 refine (code_no W _ p k 11 HH0.out HW.out).mono ?_
 rintro e w13 ⟨rfl,hk⟩
 refine hK9.out _ _ (HLS.out.kept hk) ?_
 clear hK9 K9
 try simp only [Act.put,List.setIfInBounds_toArray,List.set_cons_zero,List.set_cons_succ]
 replace HW:=hide (HW.out.kept hk)
 replace HLS:=hide (HLS.out.kept hk)
 clear hk
 repeat (first
  | (refine wpPerm_no (by rfl) ?_
     try simp only [Act.put,List.setIfInBounds_toArray,List.set_cons_zero,List.set_cons_succ])
  | (refine wpPerm_yes (v:=?_) (by rfl) ?_ ?_
     rotate_left
     ·intro w9 hS9
      obtain ⟨s0,s1,s2,s3,s4,s5,s6,s7,s8,s9,s10,s11,s12⟩:=hS9
      go_simp
      with_reducible rfl
     try simp only [Act.put,List.setIfInBounds_toArray,List.set_cons_zero,List.set_cons_succ]))
 refine wpPerm_end ?_
 have HC0:Hid (launchC k.bk ky ch tt am fe=0):=by show _=_;rw [HCD.out,if_neg h1,if_neg (by rw [h2];decide),if_neg h3,if_neg (by rw [h4];decide),HLOe.out,if_neg h5,HREe.out,if_neg h6]
 clear hd5 hd6 hi0 hi1 hj0 hj1
 obtain ⟨-,-,s0,s1,s2,s3,s4,s5,e1,e2,e3,e4,e5⟩:=HLS.out
 go_upto_region 4 with fail
 have G5:=gr_cell s5
 have D1:=gr_cell e1
 have D2:=gr_cell e2
 have D3:=gr_cell e3
 have D4:=gr_cell e4
 have D5:=gr_cell e5
 clear s0 s1 s2 s3 s4 s5 HLS
 refine wp_region_app [.u,.f,.f,.f,.f,.f,.h,.h,.h,.h,.h,.h,.h,.h,.h,.h,.h,.b,.t,.t,.t,.t,.t] (by kernel_rfl) (by kernel_rfl) rfl rfl rfl rfl rfl rfl rfl (fun _ _ d _ _ h=>by cases d <;> exact h) ?_
 simp only [pkU,pkF,pkH,pkT,pkB]
 refine wpUni_step ?v0 (by rfl) ?f0 ?_
 case f0 =>
  intro w9
  go_simp
  with_reducible rfl
 try simp only [Act.put,List.setIfInBounds_toArray,List.set_cons_zero,List.set_cons_succ]
 refine wpUni_nil ?_
 refine wpFlo_step ?v1 (by rfl) ?f1 ?_
 case f1 =>
  rintro w9 ⟨t9,rfl⟩
  go_simp
  with_reducible rfl
 try simp only [Act.put,List.setIfInBounds_toArray,List.set_cons_zero,List.set_cons_succ]
 refine wpFlo_step ?v2 (by rfl) ?f2 ?_
 case f2 =>
  rintro w9 ⟨t9,rfl⟩
  go_simp
  with_reducible rfl
 try simp only [Act.put,List.setIfInBounds_toArray,List.set_cons_zero,List.set_cons_succ]
 refine wpFlo_step ?v3 (by rfl) ?f3 ?_
 case f3 =>
  rintro w9 ⟨t9,rfl⟩
  go_simp
  with_reducible rfl
 try simp only [Act.put,List.setIfInBounds_toArray,List.set_cons_zero,List.set_cons_succ]
 refine wpFlo_step ?v4 (by rfl) ?f4 ?_
 case f4 =>
  rintro w9 ⟨t9,rfl⟩
  go_simp
  with_reducible rfl
 try simp only [Act.put,List.setIfInBounds_toArray,List.set_cons_zero,List.set_cons_succ]
 refine wpFlo_step ?v5 (by rfl) ?f5 ?_
 case f5 =>
  rintro w9 ⟨t9,rfl⟩
  go_simp
  with_reducible rfl
 try simp only [Act.put,List.setIfInBounds_toArray,List.set_cons_zero,List.set_cons_succ]
 refine wpFlo_nil ?_
 repeat (go_big_quiet_step (fail))
 refine wpQuiet_nil ?_
 refine ⟨rfl,?_⟩
 rintro w9 ⟨t9,rfl⟩ K9 hK9
 go_simp
 refine hK9.out _ _ (gr_gr (Keeps.alloc (Keeps.refl _) _)) ?_
 clear hK9 K9
 have HW9:=hide (HW.out.kept (gr_keeps w13 t9))
 have HKC:=hide (gr_keeps w13 t9)
 generalize gr w13 t9=W9 at *
 have HK9:=hide (Keeps.alloc (Keeps.refl W9) (.cells #[.int .i64 ky,.int .i64 ch,.int .i64 tt,.int .i64 am,.int .i64 fe] 115))
 have HM9:=hide (one_Circle W9 ⟨ky,ch,tt,am,fe⟩)
 have HO9:=hide ((HW9.out.kept HK9.out).oR)
 have HB9:=hide ((HW9.out.kept HK9.out).keep.size)
 dsimp only at HM9
 clear G5 D1 D2 D3 D4 D5
 go_upto_region 5 with (at_builtin;refine appL_Circle rfl (.tmp 101) (.tmp 113) rfl W.heap.size k.gR k.cR k.R ⟨ky,ch,tt,am,fe⟩ rfl ⟨W9.heap.size,0,none⟩ 1 rfl HM9.out HO9.out (by have:=HLn.out.2.1;omega) HB9.out ?_;intro g' c' w' ho hg hat;obtain ⟨hWn,q1,q2,q3⟩:=HW9.out.growR HK9.out ho hg hat;have HG:=hide hWn;have HTR:=hide (((Turn.of_keeps (HKC.out.trans HK9.out) [k.gR]).trans' (grown_turn hg)));clear hWn ho hg hat)
 have hlen:(k.R++[(⟨ky,ch,tt,am,fe⟩:Crc)]).length=k.R.length+1:=by simp
 rw [hlen] at HG
 replace HTR:=hide ((HTR.out.mono (gs:=[k.gR,p]) (by simp)).trans' (Turn.set (a:=⟨p,5,none⟩) (by simp) (.slice (some ⟨g',0,none⟩) (k.R.length+1) c')))
 clear hlen q1 q2 q3 HM9 HO9 HB9 HK9 HW9 HKC
 generalize w'.setCell ⟨p,5,none⟩ (.slice (some ⟨g',0,none⟩) (k.R.length+1) c')=w50 at *
 have hpe:pe≠k.gR∧pe≠p∧pe≠k.gC:=by have:=HPB.out;omega
 replace e2:=HTR.out.cell (p:=⟨pe,2,none⟩) (by simp;omega) e2
 replace e3:=HTR.out.cell (p:=⟨pe,3,none⟩) (by simp;omega) e3
 replace e4:=HTR.out.cell (p:=⟨pe,4,none⟩) (by simp;omega) e4
 clear HTR e1 e5 HW
 obtain ⟨K1,hK1⟩:∃ K1:Wk,K1={ k with gR:=g',cR:=c',R:=k.R++[⟨ky,ch,tt,am,fe⟩] }:=⟨_,rfl⟩
 rw [← hK1] at HG
 have HK1:=hide hK1
 have HC1:Hid (K1.C=k.C∧K1.gC=k.gC∧K1.L=k.L∧K1.cd=k.cd∧K1.bk=⟨k.tk,k.nx,k.wa,k.C,k.Hs,k.R++[⟨ky,ch,tt,am,fe⟩]⟩):=by rw [hK1];exact ⟨rfl,rfl,rfl,rfl,rfl⟩
 clear hK1
 have hb1:=HA1.out
 have hb2:=HF1.out
 have hng:IntKind.i64.wrap (-(am+fe))=-(am+fe):=by rw [IntKind.wrap_i64];omega
 have hng2:IntKind.i64.wrap (-am)=-am:=by rw [IntKind.wrap_i64];omega
 have HMV1:=hide (move_spec W w50 p K1 ch (-(am+fe)) 0 i (by rw [HC1.out.1];exact HZ.out.1) (by rw [HC1.out.1];exact HIJ.out.1) HG.out (by rw [HC1.out.1];exact Nat.le_trans HLn.out.2.2.1 (by decide))
  (by simp only [HC1.out.1];rw [(HLR.out HZ.out.1 HZ.out.2).1];have:=HBI.out;omega) (by simp only [HC1.out.1];rw [(HLR.out HZ.out.1 HZ.out.2).1];have:=HBI.out;omega)
  (by simp only [HC1.out.1];have:=(HAA.out _ (List.getElem_mem HZ.out.1)).2;omega) (by simp only [HC1.out.1];have:=(HAA.out _ (List.getElem_mem HZ.out.1)).2;omega))
 rw [HC1.out.1] at HMV1
 go_wp2_with fail
 refine (unhide HMV1).mono ?_
 rintro e w51 ⟨rfl,hw,ht⟩
 have HG1:=hide hw
 rw [HC1.out.2.1] at ht
 replace e2:=ht.cell (p:=⟨pe,2,none⟩) (by simp;omega) e2
 replace e3:=ht.cell (p:=⟨pe,3,none⟩) (by simp;omega) e3
 replace e4:=ht.cell (p:=⟨pe,4,none⟩) (by simp;omega) e4
 clear hw ht HMV1 HG
 obtain ⟨K2,hK2⟩:∃ K2:Wk,K2={ K1 with C:=movC k.C ch (-(am+fe)) 0 }:=⟨_,rfl⟩
 rw [← hK2] at HG1
 have HC2:Hid (K2.C=movC k.C ch (-(am+fe)) 0∧K2.gC=k.gC∧K2.L=k.L∧K2.cd=k.cd∧K2.bk=⟨k.tk,k.nx,k.wa,movC k.C ch (-(am+fe)) 0,k.Hs,k.R++[⟨ky,ch,tt,am,fe⟩]⟩):=by
  obtain ⟨-,c2,c3,c4,c5⟩:=HC1.out
  rw [hK2]
  refine ⟨rfl,c2,c3,c4,?_⟩
  have h1:=congrArg Bk.tk c5;have h2:=congrArg Bk.nx c5;have h3:=congrArg Bk.wa c5;have h4:=congrArg Bk.Hs c5;have h5:=congrArg Bk.R c5
  simp only [Wk.bk] at h1 h2 h3 h4 h5 ⊢
  rw [h1,h2,h3,h4,h5]
 have HJ2:Hid (∃ hj:j < (movC k.C ch (-(am+fe)) 0).length,(movC k.C ch (-(am+fe)) 0)[j]=k.C[j]'HZ.out.2):=⟨by rw [movC_len];exact HZ.out.2,movC_get HIJ.out.1 HZ.out.2 HIJ.out.2.2 _⟩
 clear hK2
 have HMV2:Hid (Calls Tryz.prog 78 #[.pointer (some ⟨p,0,none⟩),.int .i64 tt,.int .i64 0,.int .i64 (-am)] w51 fun e w'=>e=.returned (.tuple #[])∧WkAt W w' p { K2 with C:=movC K2.C tt 0 (-am) }∧Turn [K2.gC] w51 w'):=by
  obtain ⟨hj,ej⟩:=HJ2.out
  refine move_spec W w51 p K2 tt 0 (-am) j (by rw [HC2.out.1];exact hj) (by rw [HC2.out.1,movC_at];exact HIJ.out.2.1) HG1.out (by rw [HC2.out.1,movC_len];exact Nat.le_trans HLn.out.2.2.1 (by decide)) ?_ ?_ ?_ ?_
  ·simp only [HC2.out.1];rw [ej];have:=(HAA.out _ (List.getElem_mem HZ.out.2)).1;omega
  ·simp only [HC2.out.1];rw [ej];have:=(HAA.out _ (List.getElem_mem HZ.out.2)).1;omega
  ·simp only [HC2.out.1];rw [ej,(HLR.out HZ.out.1 HZ.out.2).2];have:=HBJ.out;omega
  ·simp only [HC2.out.1];rw [ej,(HLR.out HZ.out.1 HZ.out.2).2];have:=HBJ.out;omega
 rw [HC2.out.1] at HMV2
 go_wp2_with fail
 refine (unhide HMV2).mono ?_
 rintro e w52 ⟨rfl,hw,ht⟩
 have HG2:=hide hw
 rw [HC2.out.2.1] at ht
 replace e2:=ht.cell (p:=⟨pe,2,none⟩) (by simp;omega) e2
 clear hw ht HMV2 HG1 e3 e4
 obtain ⟨K3,hK3⟩:∃ K3:Wk,K3={ K2 with C:=movC (movC k.C ch (-(am+fe)) 0) tt 0 (-am) }:=⟨_,rfl⟩
 rw [← hK3] at HG2
 have HC3:Hid (K3.L=k.L∧K3.cd=k.cd∧K3.bk=launchB k.bk ky ch tt am fe):=by
  obtain ⟨-,-,c3,c4,c5⟩:=HC2.out
  rw [hK3]
  refine ⟨c3,c4,?_⟩
  have h1:=congrArg Bk.tk c5;have h2:=congrArg Bk.nx c5;have h3:=congrArg Bk.wa c5;have h4:=congrArg Bk.Hs c5;have h5:=congrArg Bk.R c5
  simp only [Wk.bk,launchB] at h1 h2 h3 h4 h5 ⊢
  rw [h1,h2,h3,h4,h5]
 clear hK3
 have HM0:Hid (Gentle 0 K3.L):=by show Gentle _ _;rw [HC3.out.1,HLL.out];exact Gentle.nil
 go_wp2_with fail
 refine (line_spec W w52 p K3 6 ch (-(am+fe)) HG2.out (HM0.out.mild (by decide)) (by omega) (by omega)).mono ?_
 rintro e w53 ⟨rfl,⟨la1,lc1,hw⟩,ht⟩
 have HG3:=hide hw
 replace e2:=ht.cell (p:=⟨pe,2,none⟩) (by simp;omega) e2
 clear hw ht
 obtain ⟨K4,hK4⟩:∃ K4:Wk,K4={ K3 with la:=la1,lc:=lc1,L:=lineW K3.L 6 ch (-(am+fe)) }:=⟨_,rfl⟩
 rw [← hK4] at HG3
 have HC4:Hid (K4.L=lineW k.L 6 ch (-(am+fe))∧K4.cd=k.cd∧K4.bk=launchB k.bk ky ch tt am fe):=by
  rw [hK4]
  exact ⟨by rw [← HC3.out.1],HC3.out.2.1,HC3.out.2.2⟩
 clear hK4
 have HM1:Hid (Gentle 1 K4.L):=by show Gentle _ _;rw [HC4.out.1,← HC3.out.1];exact HM0.out.line 6 ch _ (by omega) (by omega)
 go_wp2_with fail
 refine (line_spec W w53 p K4 8 ch (am+fe) HG3.out (HM1.out.mild (by decide)) (by omega) (by omega)).mono ?_
 rintro e w54 ⟨rfl,⟨la2,lc2,hw⟩,ht⟩
 have HEND:Hid (Ends W w54 p (launchC k.bk ky ch tt am fe) (launchB k.bk ky ch tt am fe) (launchL k.L ch am fe)):=⟨_,hw,HC4.out.2.1.trans (HH0.out.trans HC0.out.symm),fun _=>⟨HC4.out.2.2,by rw [HC4.out.1];rfl⟩⟩
 clear hw ht e2
 go_wp2_with fail
 go_end0
 exact ⟨rfl,HEND.out⟩
end Go.Proofs.YtccdhcempnkgaaaGreatDoor
