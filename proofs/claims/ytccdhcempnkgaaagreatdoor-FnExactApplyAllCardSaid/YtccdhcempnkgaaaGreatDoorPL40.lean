/- The model: a payment is let through. -/
import Derived.Test.YtccdhcempnkgaaaGreatDoorPL23
namespace Go.Proofs.YtccdhcempnkgaaaGreatDoor
open Go.RowKit Go.Deep
set_option linter.unusedVariables false
set_option linter.unusedSimpArgs false
set_option maxRecDepth 10000
set_option maxHeartbeats 20000000 in
theorem admit_spec (W w:World) (p:Nat) (k:Wk) (h:WkAt W w p k) (hc:k.cd=0) (kd ky ch tt am fe:Int) (ys:Bool) (hC:k.C.length≤20) (hH:k.Hs.length≤60) (hR:k.R.length≤20) (hL:k.L=[]) (hS:Small k.bo.d) (hA:∀ c∈k.C,(0≤c.lo∧c.lo≤1125899906842624)∧0≤c.re∧c.re≤1125899906842624) (ha:0≤am∧am≤1125899906842624) :
 Calls Tryz.prog 40 #[.pointer (some ⟨p,0,none⟩),.agg #[.int .i64 kd,.int .i64 ky,.int .i64 ch,.int .i64 tt,.int .i64 am,.int .i64 fe,.bool ys]] w fun e w'=>e=.returned (.tuple #[])∧Ends W w' p (admitC k.bk ky ch tt am ys) (admitB k.bk ky ch tt am ys) (admitL k.L tt am):=by
 have HW:=hide (h.kept ((Keeps.refl w).alloc (.cells #[.int .i64 kd,.int .i64 ky,.int .i64 ch,.int .i64 tt,.int .i64 am,.int .i64 fe,.bool ys] 41)))
 have HE1:=hide (rowc7 w (.int .i64 kd) (.int .i64 ky) (.int .i64 ch) (.int .i64 tt) (.int .i64 am) (.int .i64 fe) (.bool ys) 41)
 have HLS:Hid (LS k p w.heap.size ky ch tt am fe (w.alloc (.cells #[.int .i64 kd,.int .i64 ky,.int .i64 ch,.int .i64 tt,.int .i64 am,.int .i64 fe,.bool ys] 41)).drew):=(LS.of HW.out (unhide HE1 _ (Keeps.refl _))).kept (Keeps.refl _).drew
 have HE6:=hide ((Keeps.refl _).drew.cell (unhide HE1 _ (Keeps.refl _)).2.2.2.2.2.2)
 have HNE:Hid (w.heap.size≠p):=fun e=>by have:=h.row.lt;omega
 have HPB:=hide (And.intro (h.oH.lt k.gH rfl).2 (And.intro (h.oC.lt k.gC rfl).2 h.row.lt))
 have HH0:=hide hc
 have HLn:=hide (And.intro hH (And.intro hR (And.intro hC (show (keysL k.bk).length≤1048576 by simp [keysL,Wk.bk];omega))))
 have HCD:Hid (admitC k.bk ky ch tt am ys=if ky∈keysL k.bk then 9 else if twoB k.C ch tt=false then 6 else if k.Hs.length=60 then 14 else if admB (chC k.C tt) am=false then 10 else if (chC k.C ch).re < admV (chC k.C tt) am then 11 else if (chC k.C tt).lo < am then 12 else if roomV k.Hs (chC k.C ch) (chC k.C tt) am ys=0 then 13 else 0):=rfl
 have HAA:=hide hA
 have HA1:=hide ha
 have HLL:=hide hL
 have HSM:=hide hS
 clear h hc hC hH hR hA ha hL hS HE1
 go_enter Tryz.func40,Tryz.ntmps40
 go_upto_region 1 with fail
 generalize (w.alloc (.cells #[.int .i64 kd,.int .i64 ky,.int .i64 ch,.int .i64 tt,.int .i64 am,.int .i64 fe,.bool ys] 41))=w1 at *
 generalize w.heap.size=pe at *
 replace HW:=hide (HW.out.kept (Keeps.refl _).drew)
 refine wp_region_perm [(false,0),(false,1),(false,2),(false,3),(false,4),(false,6),(false,7),(true,5),(true,8),(true,9),(false,10),(false,11),(false,12),(false,13),(false,14),(false,15),(false,16),(false,17),(false,18),(false,19),(true,20),(false,21),(true,22),(false,23),(false,24),(false,25),(false,26),(false,27),(false,28),(false,29),(false,30),(false,31),(false,32),(true,33),(false,34)] (LS k p pe ky ch tt am fe) (by kernel_rfl) (by kernel_rfl) rfl rfl (fun _ _ d _ _ h=>by cases d <;> exact h) HLS.out ?_
 generalize w1.drew=w2 at *
 repeat (first
  | (refine wpPerm_no (by rfl) ?_
     try simp only [Act.put,List.setIfInBounds_toArray,List.set_cons_zero,List.set_cons_succ])
  | (refine wpPerm_yes (v:=?_) (by rfl) ?_ ?_
     rotate_left
     ·intro w9 hS9
      obtain ⟨s0,s1,s2,s3,s4,s5,s6,s7,s8,s9,s10⟩:=hS9
      go_simp
      with_reducible rfl
     try simp only [Act.put,List.setIfInBounds_toArray,List.set_cons_zero,List.set_cons_succ]))
 refine wpPerm_do (by rfl) ?_
 intro K9 hK9
 go_simp
 refine (keys_spec k.bo _ HW.out.mem HLn.out.1 HLn.out.2.1).mono ?_
 rintro e w3 ⟨g,cap,rfl,ho,hk⟩
 have HO:=hide (its_owned ho)
 clear ho
 refine hK9.out _ _ (HLS.out.kept hk) ?_
 clear hK9 K9
 try simp only [Act.put,List.setIfInBounds_toArray,List.set_cons_zero,List.set_cons_succ]
 replace HW:=hide (HW.out.kept hk)
 replace HLS:=hide (HLS.out.kept hk)
 replace HE6:=hide (hk.cell HE6.out)
 clear hk
 refine wpPerm_do (by rfl) ?_
 intro K9 hK9
 go_simp
 refine (hasint_spec _ _ (keysL k.bk) ky _ HO.out HLn.out.2.2.2).mono ?_
 rintro e w9 ⟨rfl,hw⟩
 refine hK9.out _ _ (by rw [hw];exact HLS.out) ?_
 clear hK9 K9
 obtain rfl:=Eq.symm hw
 clear hw
 try simp only [Act.put,List.setIfInBounds_toArray,List.set_cons_zero,List.set_cons_succ]
 by_cases h1:ky∈keysL k.bk
 ·rw [show decide (ky∈keysL k.bk)=true from decide_eq_true h1]
  have HEC:Hid (admitC k.bk ky ch tt am ys=9):=by show _=_;rw [HCD.out,if_pos h1]
  refine wpPerm_do (by rfl) ?_
  intro K9 hK9
  go_simp
  refine (code_yes W _ p k 9 HH0.out (by decide) HW.out).mono ?_
  rintro e w3x ⟨rfl,hw9,ht9⟩
  have HEX:Hid (∀ B L,Ends W w3x p (admitC k.bk ky ch tt am ys) B L):=fun B L=>⟨_,hw9,HEC.out.symm,fun h0=>absurd h0 (by rw [HEC.out];decide)⟩
  refine hK9.out _ _ (HLS.out.code ht9 hw9 HNE.out) ?_
  clear hK9 K9
  try simp only [Act.put,List.setIfInBounds_toArray,List.set_cons_zero,List.set_cons_succ]
  clear hw9 ht9 HLS HW
  repeat (first
   | (refine wpPerm_no (by rfl) ?_
      try simp only [Act.put,List.setIfInBounds_toArray,List.set_cons_zero,List.set_cons_succ])
   | (refine wpPerm_yes (v:=?_) (by rfl) ?_ ?_
      rotate_left
      ·intro w9 hS9
       obtain ⟨s0,s1,s2,s3,s4,s5,s6,s7,s8,s9,s10⟩:=hS9
       go_simp
       with_reducible rfl
      try simp only [Act.put,List.setIfInBounds_toArray,List.set_cons_zero,List.set_cons_succ]))
  refine wpPerm_end ?_
  go_wp2_with fail
  first | go_end0 | go_ret2 | refine bodyPost_ret (results_none rfl _ _ _) rfl ?_
  exact ⟨rfl,HEX.out _ _⟩
 rw [show decide (ky∈keysL k.bk)=false from decide_eq_false h1]
 refine wpPerm_do (by rfl) ?_
 intro K9 hK9
 go_simp
 refine (code_no W _ p k 9 HH0.out HW.out).mono ?_
 rintro e w4 ⟨rfl,hk⟩
 refine hK9.out _ _ (HLS.out.kept hk) ?_
 clear hK9 K9
 try simp only [Act.put,List.setIfInBounds_toArray,List.set_cons_zero,List.set_cons_succ]
 replace HW:=hide (HW.out.kept hk)
 replace HLS:=hide (HLS.out.kept hk)
 replace HE6:=hide (hk.cell HE6.out)
 clear hk
 repeat (first
  | (refine wpPerm_no (by rfl) ?_
     try simp only [Act.put,List.setIfInBounds_toArray,List.set_cons_zero,List.set_cons_succ])
  | (refine wpPerm_yes (v:=?_) (by rfl) ?_ ?_
     rotate_left
     ·intro w9 hS9
      obtain ⟨s0,s1,s2,s3,s4,s5,s6,s7,s8,s9,s10⟩:=hS9
      go_simp
      with_reducible rfl
     try simp only [Act.put,List.setIfInBounds_toArray,List.set_cons_zero,List.set_cons_succ]))
 refine wpPerm_do (by rfl) ?_
 intro K9 hK9
 go_simp
 refine (two_spec k.bo ch tt _ HW.out.mem (by have:=HLn.out.2.2.1;exact Nat.le_trans this (by decide))).mono ?_
 rintro e w5 ⟨rfl,hk⟩
 refine hK9.out _ _ (HLS.out.kept hk) ?_
 clear hK9 K9
 try simp only [Act.put,List.setIfInBounds_toArray,List.set_cons_zero,List.set_cons_succ]
 replace HW:=hide (HW.out.kept hk)
 replace HLS:=hide (HLS.out.kept hk)
 replace HE6:=hide (hk.cell HE6.out)
 clear hk
 rw [show twoB k.bo.C ch tt=twoB k.C ch tt from rfl]
 cases h2:twoB k.C ch tt
 ·skip
  repeat (first
   | (refine wpPerm_no (by rfl) ?_
      try simp only [Act.put,List.setIfInBounds_toArray,List.set_cons_zero,List.set_cons_succ])
   | (refine wpPerm_yes (v:=?_) (by rfl) ?_ ?_
      rotate_left
      ·intro w9 hS9
       obtain ⟨s0,s1,s2,s3,s4,s5,s6,s7,s8,s9,s10⟩:=hS9
       go_simp
       with_reducible rfl
      try simp only [Act.put,List.setIfInBounds_toArray,List.set_cons_zero,List.set_cons_succ]))
  have HEC:Hid (admitC k.bk ky ch tt am ys=6):=by show _=_;rw [HCD.out,if_neg h1,if_pos h2]
  refine wpPerm_do (by rfl) ?_
  intro K9 hK9
  go_simp
  refine (code_yes W _ p k 6 HH0.out (by decide) HW.out).mono ?_
  rintro e w5x ⟨rfl,hw9,ht9⟩
  have HEX:Hid (∀ B L,Ends W w5x p (admitC k.bk ky ch tt am ys) B L):=fun B L=>⟨_,hw9,HEC.out.symm,fun h0=>absurd h0 (by rw [HEC.out];decide)⟩
  refine hK9.out _ _ (HLS.out.code ht9 hw9 HNE.out) ?_
  clear hK9 K9
  try simp only [Act.put,List.setIfInBounds_toArray,List.set_cons_zero,List.set_cons_succ]
  clear hw9 ht9 HLS HW
  repeat (first
   | (refine wpPerm_no (by rfl) ?_
      try simp only [Act.put,List.setIfInBounds_toArray,List.set_cons_zero,List.set_cons_succ])
   | (refine wpPerm_yes (v:=?_) (by rfl) ?_ ?_
      rotate_left
      ·intro w9 hS9
       obtain ⟨s0,s1,s2,s3,s4,s5,s6,s7,s8,s9,s10⟩:=hS9
       go_simp
       with_reducible rfl
      try simp only [Act.put,List.setIfInBounds_toArray,List.set_cons_zero,List.set_cons_succ]))
  refine wpPerm_end ?_
  go_wp2_with fail
  first | go_end0 | go_ret2 | refine bodyPost_ret (results_none rfl _ _ _) rfl ?_
  exact ⟨rfl,HEX.out _ _⟩
 repeat (first
  | (refine wpPerm_no (by rfl) ?_
     try simp only [Act.put,List.setIfInBounds_toArray,List.set_cons_zero,List.set_cons_succ])
  | (refine wpPerm_yes (v:=?_) (by rfl) ?_ ?_
     rotate_left
     ·intro w9 hS9
      obtain ⟨s0,s1,s2,s3,s4,s5,s6,s7,s8,s9,s10⟩:=hS9
      go_simp
      with_reducible rfl
     try simp only [Act.put,List.setIfInBounds_toArray,List.set_cons_zero,List.set_cons_succ]))
 refine wpPerm_do (by rfl) ?_
 intro K9 hK9
 go_simp
 refine (code_no W _ p k 6 HH0.out HW.out).mono ?_
 rintro e w6 ⟨rfl,hk⟩
 refine hK9.out _ _ (HLS.out.kept hk) ?_
 clear hK9 K9
 try simp only [Act.put,List.setIfInBounds_toArray,List.set_cons_zero,List.set_cons_succ]
 replace HW:=hide (HW.out.kept hk)
 replace HLS:=hide (HLS.out.kept hk)
 replace HE6:=hide (hk.cell HE6.out)
 clear hk
 by_cases h3:k.Hs.length=60
 ·have hd3:((k.Hs.length:Int)==60)=true:=by simp;omega
  repeat (first
   | (refine wpPerm_no (by rfl) ?_
      try simp only [Act.put,List.setIfInBounds_toArray,List.set_cons_zero,List.set_cons_succ])
   | (refine wpPerm_yes (v:=?_) (by rfl) ?_ ?_
      rotate_left
      ·intro w9 hS9
       obtain ⟨s0,s1,s2,s3,s4,s5,s6,s7,s8,s9,s10⟩:=hS9
       go_simp
       with_reducible rfl
      try simp only [Act.put,List.setIfInBounds_toArray,List.set_cons_zero,List.set_cons_succ]))
  have HEC:Hid (admitC k.bk ky ch tt am ys=14):=by show _=_;rw [HCD.out,if_neg h1,if_neg (by rw [h2];decide),if_pos h3]
  refine wpPerm_do (by rfl) ?_
  intro K9 hK9
  go_simp
  refine (code_yes W _ p k 14 HH0.out (by decide) HW.out).mono ?_
  rintro e w6x ⟨rfl,hw9,ht9⟩
  have HEX:Hid (∀ B L,Ends W w6x p (admitC k.bk ky ch tt am ys) B L):=fun B L=>⟨_,hw9,HEC.out.symm,fun h0=>absurd h0 (by rw [HEC.out];decide)⟩
  refine hK9.out _ _ (HLS.out.code ht9 hw9 HNE.out) ?_
  clear hK9 K9
  try simp only [Act.put,List.setIfInBounds_toArray,List.set_cons_zero,List.set_cons_succ]
  clear hw9 ht9 HLS HW
  repeat (first
   | (refine wpPerm_no (by rfl) ?_
      try simp only [Act.put,List.setIfInBounds_toArray,List.set_cons_zero,List.set_cons_succ])
   | (refine wpPerm_yes (v:=?_) (by rfl) ?_ ?_
      rotate_left
      ·intro w9 hS9
       obtain ⟨s0,s1,s2,s3,s4,s5,s6,s7,s8,s9,s10⟩:=hS9
       go_simp
       with_reducible rfl
      try simp only [Act.put,List.setIfInBounds_toArray,List.set_cons_zero,List.set_cons_succ]))
  refine wpPerm_end ?_
  go_wp2_with fail
  first | go_end0 | go_ret2 | refine bodyPost_ret (results_none rfl _ _ _) rfl ?_
  exact ⟨rfl,HEX.out _ _⟩
 have hd3:((k.Hs.length:Int)==60)=false:=by simp;omega
 repeat (first
  | (refine wpPerm_no (by rfl) ?_
     try simp only [Act.put,List.setIfInBounds_toArray,List.set_cons_zero,List.set_cons_succ])
  | (refine wpPerm_yes (v:=?_) (by rfl) ?_ ?_
     rotate_left
     ·intro w9 hS9
      obtain ⟨s0,s1,s2,s3,s4,s5,s6,s7,s8,s9,s10⟩:=hS9
      go_simp
      with_reducible rfl
     try simp only [Act.put,List.setIfInBounds_toArray,List.set_cons_zero,List.set_cons_succ]))
 refine wpPerm_do (by rfl) ?_
 intro K9 hK9
 go_simp
 refine (code_no W _ p k 14 HH0.out HW.out).mono ?_
 rintro e w7 ⟨rfl,hk⟩
 refine hK9.out _ _ (HLS.out.kept hk) ?_
 clear hK9 K9
 try simp only [Act.put,List.setIfInBounds_toArray,List.set_cons_zero,List.set_cons_succ]
 replace HW:=hide (HW.out.kept hk)
 replace HLS:=hide (HLS.out.kept hk)
 replace HE6:=hide (hk.cell HE6.out)
 clear hk
 repeat (first
  | (refine wpPerm_no (by rfl) ?_
     try simp only [Act.put,List.setIfInBounds_toArray,List.set_cons_zero,List.set_cons_succ])
  | (refine wpPerm_yes (v:=?_) (by rfl) ?_ ?_
     rotate_left
     ·intro w9 hS9
      obtain ⟨s0,s1,s2,s3,s4,s5,s6,s7,s8,s9,s10⟩:=hS9
      go_simp
      with_reducible rfl
     try simp only [Act.put,List.setIfInBounds_toArray,List.set_cons_zero,List.set_cons_succ]))
 refine wpPerm_end ?_
 clear hd3 HO
 obtain ⟨i,j,ai,aj,hxy⟩:=two_at h2
 obtain ⟨hi,-⟩:=atC_lt ai
 obtain ⟨hj,-⟩:=atC_lt aj
 have HIJ:=hide (And.intro ai (And.intro aj (at_ne ai aj hxy)))
 have HCI:=hide (chC_at ai hi)
 have HCJ:=hide (chC_at aj hj)
 have HBI:=hide (HAA.out _ (List.getElem_mem hi))
 have HBJ:=hide (HAA.out _ (List.getElem_mem hj))
 have HAI:=hide (fun w' (h:Mem w' k.bo.segs)=>(show Calls _ _ _ _ _ from by have:=at_spec k.bo ch w' h (Nat.le_trans HLn.out.2.2.1 (by decide));rw [show atI k.bo.C ch=(i:Int) from atI_some ai] at this;exact this))
 have HAJ:=hide (fun w' (h:Mem w' k.bo.segs)=>(show Calls _ _ _ _ _ from by have:=at_spec k.bo tt w' h (Nat.le_trans HLn.out.2.2.1 (by decide));rw [show atI k.bo.C tt=(j:Int) from atI_some aj] at this;exact this))
 clear ai aj hxy
 have HQI:Hid (∀ w',WkAt W w' p k→_):=fun w' (h:WkAt W w' p k)=>h.oC.at i hi
 have HQJ:Hid (∀ w',WkAt W w' p k→_):=fun w' (h:WkAt W w' p k)=>h.oC.at j hj
 generalize hci:k.C[i]=ci at HQI HCI HBI
 generalize hcj:k.C[j]=cj at HQJ HCJ HBJ
 clear hci hcj
 obtain ⟨i0,i1,i2,i3,i4,i5,i6⟩:=ci
 obtain ⟨j0,j1,j2,j3,j4,j5,j6⟩:=cj
 dsimp only at HQI HQJ HBI HBJ
 have hzi:i*7+7≤k.C.length*7:=by omega
 have hzj:j*7+7≤k.C.length*7:=by omega
 have hi0:(0:Int)≤(i:Int):=by omega
 have hi1:(i:Int) < (k.C.length:Int):=by omega
 have hj0:(0:Int)≤(j:Int):=by omega
 have hj1:(j:Int) < (k.C.length:Int):=by omega
 go_upto_region 2 with fail
 have HU:Hid (LU k p pe ky ch tt am fe i i0 i1 i2 i3 i4 i5 i6 w7):=⟨HLS.out,unhide HQI _ HW.out⟩
 apply onceV (F:=fun V w'=>Keeps w7 w'∧w7.heap.size≤V∧w'.rowIs V 78 7 (rw7 (.int .i64 i0) (.int .i64 i1) (.int .i64 i2) (.int .i64 i3) (.int .i64 i4) (.int .i64 i5) (.int .i64 i6)))
 ·refine wp_region_pm (.one false 0 (.one false 1 (.one false 2 (.one false 3 (.one false 4 (.one false 5 (.one false 6 (.one false 7 (.one false 8 (.one false 9 (.one false 10 (.two 11 (.one false 12 (.one false 13 (.one true 14 (.one true 15 .fin)))) 14 (.one true 11 (.one false 12 (.one false 13 (.one true 15 .fin)))))))))))))))) (LU k p pe ky ch tt am fe i i0 i1 i2 i3 i4 i5 i6) (by kernel_rfl) (by kernel_rfl) (fun _ _ d _ _ h=>by cases d <;> exact h) (HU.out.kept (Keeps.refl _).drew) ?_
  have HKd:Hid (Keeps w7 w7.drew):=(Keeps.refl _).drew
  have HUd:=hide (HU.out.kept HKd.out)
  have HWd:=hide (HW.out.kept HKd.out)
  generalize w7.drew=wd at *
  repeat (first
   | (refine wpPm_no (by rfl) ?_
      try simp only [Act.put,List.setIfInBounds_toArray,List.set_cons_zero,List.set_cons_succ])
   | (refine wpPm_yes (v:=?_) (by rfl) ?_ ?_
      rotate_left
      ·intro w9 hS9
       obtain ⟨⟨s0,s1,s2,s3,s4,s5,s6,s7,s8,s9,s10⟩,q0,q1,q2,q3,q4,q5,q6⟩:=hS9
       go_simp
       with_reducible rfl
      try simp only [Act.put,List.setIfInBounds_toArray,List.set_cons_zero,List.set_cons_succ]))
  refine wpPm_two ?_ ?_
  ·skip
   refine wpPm_do (by rfl) ?_
   intro K9 hK9
   go_simp
   refine (unhide HAI _ HWd.out.mem).mono ?_
   rintro e wq ⟨rfl,hk⟩
   refine hK9.out _ _ (HUd.out.kept hk) ?_
   clear hK9 K9
   try simp only [Act.put,List.setIfInBounds_toArray,List.set_cons_zero,List.set_cons_succ]
   replace HUd:=hide (HUd.out.kept hk)
   replace HKd:=hide (HKd.out.trans hk)
   clear hk HWd
   repeat (first
    | (refine wpPm_no (by rfl) ?_
       try simp only [Act.put,List.setIfInBounds_toArray,List.set_cons_zero,List.set_cons_succ])
    | (refine wpPm_yes (v:=?_) (by rfl) ?_ ?_
       rotate_left
       ·intro w9 hS9
        obtain ⟨⟨s0,s1,s2,s3,s4,s5,s6,s7,s8,s9,s10⟩,q0,q1,q2,q3,q4,q5,q6⟩:=hS9
        go_simp
        with_reducible rfl
       try simp only [Act.put,List.setIfInBounds_toArray,List.set_cons_zero,List.set_cons_succ]))
   refine wpPm_do (by rfl) ?_
   intro K9 hK9
   go_simp
   refine hK9.out _ _ (HUd.out.kept (Keeps.alloc (Keeps.refl wq) (.cells #[.int .i64 0,.int .i64 0,.int .i64 0,.int .i64 0,.int .i64 0,.int .i64 0,.int .i64 0] 78))) ?_
   clear hK9 K9
   try simp only [Act.put,List.setIfInBounds_toArray,List.set_cons_zero,List.set_cons_succ]
   have HZ1:Hid ((wq.alloc (.cells #[.int .i64 0,.int .i64 0,.int .i64 0,.int .i64 0,.int .i64 0,.int .i64 0,.int .i64 0] 78)).rowIs wq.heap.size 78 7 (rw7 (.int .i64 0) (.int .i64 0) (.int .i64 0) (.int .i64 0) (.int .i64 0) (.int .i64 0) (.int .i64 0))):=rw7_new wq (.int .i64 0) (.int .i64 0) (.int .i64 0) (.int .i64 0) (.int .i64 0) (.int .i64 0) (.int .i64 0) 78
   have HVs:Hid (w7.heap.size≤wq.heap.size):=HKd.out.size
   replace HUd:=hide (HUd.out.kept (Keeps.alloc (Keeps.refl wq) (.cells #[.int .i64 0,.int .i64 0,.int .i64 0,.int .i64 0,.int .i64 0,.int .i64 0,.int .i64 0] 78)))
   replace HKd:=hide (HKd.out.alloc (.cells #[.int .i64 0,.int .i64 0,.int .i64 0,.int .i64 0,.int .i64 0,.int .i64 0,.int .i64 0] 78))
   generalize wq.alloc (.cells #[.int .i64 0,.int .i64 0,.int .i64 0,.int .i64 0,.int .i64 0,.int .i64 0,.int .i64 0] 78)=wz at *
   generalize wq.heap.size=V at *
   obtain ⟨z0,z1,z2,z3,z4,z5,z6⟩:=rw7_cells HZ1.out
   have f0:=HZ1.out.frozen 0
   have f1:=HZ1.out.frozen 1
   have f2:=HZ1.out.frozen 2
   have f3:=HZ1.out.frozen 3
   have f4:=HZ1.out.frozen 4
   have f5:=HZ1.out.frozen 5
   have f6:=HZ1.out.frozen 6
   have HF:Hid (LU k p pe ky ch tt am fe i i0 i1 i2 i3 i4 i5 i6 _):=HU.out.kept ((rw7_turn wz V (.int .i64 i0) (.int .i64 i1) (.int .i64 i2) (.int .i64 i3) (.int .i64 i4) (.int .i64 i5) (.int .i64 i6)).keeps HKd.out (fun b hb=>by rw [List.mem_singleton.1 hb];exact HVs.out))
   refine wpPm_do (by rfl) ?_
   intro K9 hK9
   go_simp
   refine hK9.out _ _ (HF.out) ?_
   clear hK9 K9
   try simp only [Act.put,List.setIfInBounds_toArray,List.set_cons_zero,List.set_cons_succ]
   refine wpPm_end ?_
   exact ⟨V,rfl,(rw7_turn wz V (.int .i64 i0) (.int .i64 i1) (.int .i64 i2) (.int .i64 i3) (.int .i64 i4) (.int .i64 i5) (.int .i64 i6)).keeps HKd.out (fun b hb=>by rw [List.mem_singleton.1 hb];exact HVs.out),HVs.out,rw7_set HZ1.out (.int .i64 i0) (.int .i64 i1) (.int .i64 i2) (.int .i64 i3) (.int .i64 i4) (.int .i64 i5) (.int .i64 i6)⟩
  ·skip
   refine wpPm_do (by rfl) ?_
   intro K9 hK9
   go_simp
   refine hK9.out _ _ (HUd.out.kept (Keeps.alloc (Keeps.refl wd) (.cells #[.int .i64 0,.int .i64 0,.int .i64 0,.int .i64 0,.int .i64 0,.int .i64 0,.int .i64 0] 78))) ?_
   clear hK9 K9
   try simp only [Act.put,List.setIfInBounds_toArray,List.set_cons_zero,List.set_cons_succ]
   have HZ1:Hid ((wd.alloc (.cells #[.int .i64 0,.int .i64 0,.int .i64 0,.int .i64 0,.int .i64 0,.int .i64 0,.int .i64 0] 78)).rowIs wd.heap.size 78 7 (rw7 (.int .i64 0) (.int .i64 0) (.int .i64 0) (.int .i64 0) (.int .i64 0) (.int .i64 0) (.int .i64 0))):=rw7_new wd (.int .i64 0) (.int .i64 0) (.int .i64 0) (.int .i64 0) (.int .i64 0) (.int .i64 0) (.int .i64 0) 78
   have HVs:Hid (w7.heap.size≤wd.heap.size):=HKd.out.size
   replace HUd:=hide (HUd.out.kept (Keeps.alloc (Keeps.refl wd) (.cells #[.int .i64 0,.int .i64 0,.int .i64 0,.int .i64 0,.int .i64 0,.int .i64 0,.int .i64 0] 78)))
   replace HKd:=hide (HKd.out.alloc (.cells #[.int .i64 0,.int .i64 0,.int .i64 0,.int .i64 0,.int .i64 0,.int .i64 0,.int .i64 0] 78))
   replace HWd:=hide (HW.out.kept HKd.out)
   generalize wd.alloc (.cells #[.int .i64 0,.int .i64 0,.int .i64 0,.int .i64 0,.int .i64 0,.int .i64 0,.int .i64 0] 78)=we at *
   generalize wd.heap.size=V at *
   refine wpPm_do (by rfl) ?_
   intro K9 hK9
   go_simp
   refine (unhide HAI _ HWd.out.mem).mono ?_
   rintro e wz ⟨rfl,hk⟩
   refine hK9.out _ _ (HUd.out.kept hk) ?_
   clear hK9 K9
   try simp only [Act.put,List.setIfInBounds_toArray,List.set_cons_zero,List.set_cons_succ]
   replace HUd:=hide (HUd.out.kept hk)
   replace HKd:=hide (HKd.out.trans hk)
   replace HZ1:=hide (hk.rowK HZ1.out)
   clear hk HWd
   repeat (first
    | (refine wpPm_no (by rfl) ?_
       try simp only [Act.put,List.setIfInBounds_toArray,List.set_cons_zero,List.set_cons_succ])
    | (refine wpPm_yes (v:=?_) (by rfl) ?_ ?_
       rotate_left
       ·intro w9 hS9
        obtain ⟨⟨s0,s1,s2,s3,s4,s5,s6,s7,s8,s9,s10⟩,q0,q1,q2,q3,q4,q5,q6⟩:=hS9
        go_simp
        with_reducible rfl
       try simp only [Act.put,List.setIfInBounds_toArray,List.set_cons_zero,List.set_cons_succ]))
   obtain ⟨z0,z1,z2,z3,z4,z5,z6⟩:=rw7_cells HZ1.out
   have f0:=HZ1.out.frozen 0
   have f1:=HZ1.out.frozen 1
   have f2:=HZ1.out.frozen 2
   have f3:=HZ1.out.frozen 3
   have f4:=HZ1.out.frozen 4
   have f5:=HZ1.out.frozen 5
   have f6:=HZ1.out.frozen 6
   have HF:Hid (LU k p pe ky ch tt am fe i i0 i1 i2 i3 i4 i5 i6 _):=HU.out.kept ((rw7_turn wz V (.int .i64 i0) (.int .i64 i1) (.int .i64 i2) (.int .i64 i3) (.int .i64 i4) (.int .i64 i5) (.int .i64 i6)).keeps HKd.out (fun b hb=>by rw [List.mem_singleton.1 hb];exact HVs.out))
   refine wpPm_do (by rfl) ?_
   intro K9 hK9
   go_simp
   refine hK9.out _ _ (HF.out) ?_
   clear hK9 K9
   try simp only [Act.put,List.setIfInBounds_toArray,List.set_cons_zero,List.set_cons_succ]
   refine wpPm_end ?_
   exact ⟨V,rfl,(rw7_turn wz V (.int .i64 i0) (.int .i64 i1) (.int .i64 i2) (.int .i64 i3) (.int .i64 i4) (.int .i64 i5) (.int .i64 i6)).keeps HKd.out (fun b hb=>by rw [List.mem_singleton.1 hb];exact HVs.out),HVs.out,rw7_set HZ1.out (.int .i64 i0) (.int .i64 i1) (.int .i64 i2) (.int .i64 i3) (.int .i64 i4) (.int .i64 i5) (.int .i64 i6)⟩
 rintro Vi w8 ⟨hk,hVi,hRi⟩
 replace HW:=hide (HW.out.kept hk)
 replace HLS:=hide (HLS.out.kept hk)
 replace HE6:=hide (hk.cell HE6.out)
 have HRI:=hide hRi
 have HVI :=hide hVi
 clear hk hRi hVi HU
 go_upto_region 3 with fail
 have HU:Hid (LU k p pe ky ch tt am fe j j0 j1 j2 j3 j4 j5 j6 w8):=⟨HLS.out,unhide HQJ _ HW.out⟩
 apply onceV (F:=fun V w'=>Keeps w8 w'∧w8.heap.size≤V∧w'.rowIs V 78 7 (rw7 (.int .i64 j0) (.int .i64 j1) (.int .i64 j2) (.int .i64 j3) (.int .i64 j4) (.int .i64 j5) (.int .i64 j6)))
 ·refine wp_region_pm (.one false 0 (.one false 1 (.one false 2 (.one false 3 (.one false 4 (.one false 5 (.one false 6 (.one false 7 (.one false 8 (.one false 9 (.one false 10 (.two 11 (.one false 12 (.one false 13 (.one true 14 (.one true 15 .fin)))) 14 (.one true 11 (.one false 12 (.one false 13 (.one true 15 .fin)))))))))))))))) (LU k p pe ky ch tt am fe j j0 j1 j2 j3 j4 j5 j6) (by kernel_rfl) (by kernel_rfl) (fun _ _ d _ _ h=>by cases d <;> exact h) (HU.out.kept (Keeps.refl _).drew) ?_
  have HKd:Hid (Keeps w8 w8.drew):=(Keeps.refl _).drew
  have HUd:=hide (HU.out.kept HKd.out)
  have HWd:=hide (HW.out.kept HKd.out)
  generalize w8.drew=wd at *
  repeat (first
   | (refine wpPm_no (by rfl) ?_
      try simp only [Act.put,List.setIfInBounds_toArray,List.set_cons_zero,List.set_cons_succ])
   | (refine wpPm_yes (v:=?_) (by rfl) ?_ ?_
      rotate_left
      ·intro w9 hS9
       obtain ⟨⟨s0,s1,s2,s3,s4,s5,s6,s7,s8,s9,s10⟩,q0,q1,q2,q3,q4,q5,q6⟩:=hS9
       go_simp
       with_reducible rfl
      try simp only [Act.put,List.setIfInBounds_toArray,List.set_cons_zero,List.set_cons_succ]))
  refine wpPm_two ?_ ?_
  ·skip
   refine wpPm_do (by rfl) ?_
   intro K9 hK9
   go_simp
   refine (unhide HAJ _ HWd.out.mem).mono ?_
   rintro e wq ⟨rfl,hk⟩
   refine hK9.out _ _ (HUd.out.kept hk) ?_
   clear hK9 K9
   try simp only [Act.put,List.setIfInBounds_toArray,List.set_cons_zero,List.set_cons_succ]
   replace HUd:=hide (HUd.out.kept hk)
   replace HKd:=hide (HKd.out.trans hk)
   clear hk HWd
   repeat (first
    | (refine wpPm_no (by rfl) ?_
       try simp only [Act.put,List.setIfInBounds_toArray,List.set_cons_zero,List.set_cons_succ])
    | (refine wpPm_yes (v:=?_) (by rfl) ?_ ?_
       rotate_left
       ·intro w9 hS9
        obtain ⟨⟨s0,s1,s2,s3,s4,s5,s6,s7,s8,s9,s10⟩,q0,q1,q2,q3,q4,q5,q6⟩:=hS9
        go_simp
        with_reducible rfl
       try simp only [Act.put,List.setIfInBounds_toArray,List.set_cons_zero,List.set_cons_succ]))
   refine wpPm_do (by rfl) ?_
   intro K9 hK9
   go_simp
   refine hK9.out _ _ (HUd.out.kept (Keeps.alloc (Keeps.refl wq) (.cells #[.int .i64 0,.int .i64 0,.int .i64 0,.int .i64 0,.int .i64 0,.int .i64 0,.int .i64 0] 78))) ?_
   clear hK9 K9
   try simp only [Act.put,List.setIfInBounds_toArray,List.set_cons_zero,List.set_cons_succ]
   have HZ1:Hid ((wq.alloc (.cells #[.int .i64 0,.int .i64 0,.int .i64 0,.int .i64 0,.int .i64 0,.int .i64 0,.int .i64 0] 78)).rowIs wq.heap.size 78 7 (rw7 (.int .i64 0) (.int .i64 0) (.int .i64 0) (.int .i64 0) (.int .i64 0) (.int .i64 0) (.int .i64 0))):=rw7_new wq (.int .i64 0) (.int .i64 0) (.int .i64 0) (.int .i64 0) (.int .i64 0) (.int .i64 0) (.int .i64 0) 78
   have HVs:Hid (w8.heap.size≤wq.heap.size):=HKd.out.size
   replace HUd:=hide (HUd.out.kept (Keeps.alloc (Keeps.refl wq) (.cells #[.int .i64 0,.int .i64 0,.int .i64 0,.int .i64 0,.int .i64 0,.int .i64 0,.int .i64 0] 78)))
   replace HKd:=hide (HKd.out.alloc (.cells #[.int .i64 0,.int .i64 0,.int .i64 0,.int .i64 0,.int .i64 0,.int .i64 0,.int .i64 0] 78))
   generalize wq.alloc (.cells #[.int .i64 0,.int .i64 0,.int .i64 0,.int .i64 0,.int .i64 0,.int .i64 0,.int .i64 0] 78)=wz at *
   generalize wq.heap.size=V at *
   obtain ⟨z0,z1,z2,z3,z4,z5,z6⟩:=rw7_cells HZ1.out
   have f0:=HZ1.out.frozen 0
   have f1:=HZ1.out.frozen 1
   have f2:=HZ1.out.frozen 2
   have f3:=HZ1.out.frozen 3
   have f4:=HZ1.out.frozen 4
   have f5:=HZ1.out.frozen 5
   have f6:=HZ1.out.frozen 6
   have HF:Hid (LU k p pe ky ch tt am fe j j0 j1 j2 j3 j4 j5 j6 _):=HU.out.kept ((rw7_turn wz V (.int .i64 j0) (.int .i64 j1) (.int .i64 j2) (.int .i64 j3) (.int .i64 j4) (.int .i64 j5) (.int .i64 j6)).keeps HKd.out (fun b hb=>by rw [List.mem_singleton.1 hb];exact HVs.out))
   refine wpPm_do (by rfl) ?_
   intro K9 hK9
   go_simp
   refine hK9.out _ _ (HF.out) ?_
   clear hK9 K9
   try simp only [Act.put,List.setIfInBounds_toArray,List.set_cons_zero,List.set_cons_succ]
   refine wpPm_end ?_
   exact ⟨V,rfl,(rw7_turn wz V (.int .i64 j0) (.int .i64 j1) (.int .i64 j2) (.int .i64 j3) (.int .i64 j4) (.int .i64 j5) (.int .i64 j6)).keeps HKd.out (fun b hb=>by rw [List.mem_singleton.1 hb];exact HVs.out),HVs.out,rw7_set HZ1.out (.int .i64 j0) (.int .i64 j1) (.int .i64 j2) (.int .i64 j3) (.int .i64 j4) (.int .i64 j5) (.int .i64 j6)⟩
  ·skip
   refine wpPm_do (by rfl) ?_
   intro K9 hK9
   go_simp
   refine hK9.out _ _ (HUd.out.kept (Keeps.alloc (Keeps.refl wd) (.cells #[.int .i64 0,.int .i64 0,.int .i64 0,.int .i64 0,.int .i64 0,.int .i64 0,.int .i64 0] 78))) ?_
   clear hK9 K9
   try simp only [Act.put,List.setIfInBounds_toArray,List.set_cons_zero,List.set_cons_succ]
   have HZ1:Hid ((wd.alloc (.cells #[.int .i64 0,.int .i64 0,.int .i64 0,.int .i64 0,.int .i64 0,.int .i64 0,.int .i64 0] 78)).rowIs wd.heap.size 78 7 (rw7 (.int .i64 0) (.int .i64 0) (.int .i64 0) (.int .i64 0) (.int .i64 0) (.int .i64 0) (.int .i64 0))):=rw7_new wd (.int .i64 0) (.int .i64 0) (.int .i64 0) (.int .i64 0) (.int .i64 0) (.int .i64 0) (.int .i64 0) 78
   have HVs:Hid (w8.heap.size≤wd.heap.size):=HKd.out.size
   replace HUd:=hide (HUd.out.kept (Keeps.alloc (Keeps.refl wd) (.cells #[.int .i64 0,.int .i64 0,.int .i64 0,.int .i64 0,.int .i64 0,.int .i64 0,.int .i64 0] 78)))
   replace HKd:=hide (HKd.out.alloc (.cells #[.int .i64 0,.int .i64 0,.int .i64 0,.int .i64 0,.int .i64 0,.int .i64 0,.int .i64 0] 78))
   replace HWd:=hide (HW.out.kept HKd.out)
   generalize wd.alloc (.cells #[.int .i64 0,.int .i64 0,.int .i64 0,.int .i64 0,.int .i64 0,.int .i64 0,.int .i64 0] 78)=we at *
   generalize wd.heap.size=V at *
   refine wpPm_do (by rfl) ?_
   intro K9 hK9
   go_simp
   refine (unhide HAJ _ HWd.out.mem).mono ?_
   rintro e wz ⟨rfl,hk⟩
   refine hK9.out _ _ (HUd.out.kept hk) ?_
   clear hK9 K9
   try simp only [Act.put,List.setIfInBounds_toArray,List.set_cons_zero,List.set_cons_succ]
   replace HUd:=hide (HUd.out.kept hk)
   replace HKd:=hide (HKd.out.trans hk)
   replace HZ1:=hide (hk.rowK HZ1.out)
   clear hk HWd
   repeat (first
    | (refine wpPm_no (by rfl) ?_
       try simp only [Act.put,List.setIfInBounds_toArray,List.set_cons_zero,List.set_cons_succ])
    | (refine wpPm_yes (v:=?_) (by rfl) ?_ ?_
       rotate_left
       ·intro w9 hS9
        obtain ⟨⟨s0,s1,s2,s3,s4,s5,s6,s7,s8,s9,s10⟩,q0,q1,q2,q3,q4,q5,q6⟩:=hS9
        go_simp
        with_reducible rfl
       try simp only [Act.put,List.setIfInBounds_toArray,List.set_cons_zero,List.set_cons_succ]))
   obtain ⟨z0,z1,z2,z3,z4,z5,z6⟩:=rw7_cells HZ1.out
   have f0:=HZ1.out.frozen 0
   have f1:=HZ1.out.frozen 1
   have f2:=HZ1.out.frozen 2
   have f3:=HZ1.out.frozen 3
   have f4:=HZ1.out.frozen 4
   have f5:=HZ1.out.frozen 5
   have f6:=HZ1.out.frozen 6
   have HF:Hid (LU k p pe ky ch tt am fe j j0 j1 j2 j3 j4 j5 j6 _):=HU.out.kept ((rw7_turn wz V (.int .i64 j0) (.int .i64 j1) (.int .i64 j2) (.int .i64 j3) (.int .i64 j4) (.int .i64 j5) (.int .i64 j6)).keeps HKd.out (fun b hb=>by rw [List.mem_singleton.1 hb];exact HVs.out))
   refine wpPm_do (by rfl) ?_
   intro K9 hK9
   go_simp
   refine hK9.out _ _ (HF.out) ?_
   clear hK9 K9
   try simp only [Act.put,List.setIfInBounds_toArray,List.set_cons_zero,List.set_cons_succ]
   refine wpPm_end ?_
   exact ⟨V,rfl,(rw7_turn wz V (.int .i64 j0) (.int .i64 j1) (.int .i64 j2) (.int .i64 j3) (.int .i64 j4) (.int .i64 j5) (.int .i64 j6)).keeps HKd.out (fun b hb=>by rw [List.mem_singleton.1 hb];exact HVs.out),HVs.out,rw7_set HZ1.out (.int .i64 j0) (.int .i64 j1) (.int .i64 j2) (.int .i64 j3) (.int .i64 j4) (.int .i64 j5) (.int .i64 j6)⟩
 rintro Vj w9 ⟨hk,hVj,hRj⟩
 replace HW:=hide (HW.out.kept hk)
 replace HLS:=hide (HLS.out.kept hk)
 replace HE6:=hide (hk.cell HE6.out)
 have HRJ:=hide hRj
 have HVJ :=hide hVj
 replace HRI:=hide (hk.rowK HRI.out)
 clear hk hRj hVj HU
 have HLV:Hid (LV k p pe ky ch tt am fe ys Vi Vj i0 i1 i2 i3 i4 i5 i6 j0 j1 j2 j3 j4 j5 j6 w9):=⟨HLS.out,HE6.out,rw7_cells HRI.out,rw7_cells HRJ.out⟩
 clear HLS HE6 HRI HRJ HVI HVJ HQI HQJ HAI HAJ hzi hzj hi0 hi1 hj0 hj1
 have HRC:=hide (fun w' (h:Mem w' k.bo.segs)=>room_spec k.bo ⟨i0,i1,i2,i3,i4,i5,i6⟩ ⟨j0,j1,j2,j3,j4,j5,j6⟩ am ys w' h HSM.out)
 replace HCD:Hid (admitC k.bk ky ch tt am ys=if ky∈keysL k.bk then 9 else if twoB k.C ch tt=false then 6 else if k.Hs.length=60 then 14 else if (feeB j4 j5 am true && addB am (feeV j4 j5 am true))=false then 10 else if i3 < addV am (feeV j4 j5 am true) then 11 else if j2 < am then 12 else if roomV k.Hs ⟨i0,i1,i2,i3,i4,i5,i6⟩ ⟨j0,j1,j2,j3,j4,j5,j6⟩ am ys=0 then 13 else 0):=by
  have h9:=HCD.out
  rw [HCI.out,HCJ.out] at h9
  exact h9
 have HFB:Hid (admitB k.bk ky ch tt am ys=⟨k.tk,k.nx,k.wa,movC (movC k.C ch 0 (-(addV am (feeV j4 j5 am true)))) tt (-am) 0,k.Hs++[⟨ky,ch,tt,addV am (feeV j4 j5 am true),am,roomV k.Hs ⟨i0,i1,i2,i3,i4,i5,i6⟩ ⟨j0,j1,j2,j3,j4,j5,j6⟩ am ys==2,0⟩],k.R⟩):=by
  show _=_
  unfold admitB
  rw [show k.bk.C=k.C from rfl,HCI.out,HCJ.out]
  rfl
 obtain ⟨⟨-,-,-,-,-,-,-,-,-,e4,-⟩,-,-,-,-,-,-,y4,y5,-⟩:=HLV.out
 go_wp2_with fail
 refine (feeUp_spec j4 j5 am _).mono ?_
 rintro _ w9 ⟨rfl,hw⟩
 obtain rfl:=Eq.symm hw
 clear hw
 generalize feeV j4 j5 am true=fee at *
 generalize feeB j4 j5 am true=okf at *
 go_wp2_with fail
 refine (addAmt_spec am fee _).mono ?_
 rintro _ w9 ⟨rfl,hw⟩
 obtain rfl:=Eq.symm hw
 clear hw e4 y4 y5
 have HCM:Hid (addB am fee=true→addV am fee=am+fee∧0≤am+fee∧am+fee≤1125899906842624):=fun h=>⟨by simp [addV,h],by simp [addB,amtB] at h;omega⟩
 generalize addV am fee=cm at *
 generalize addB am fee=oka at *
 go_upto_region 6 with fail
 refine wp_region_perm [(false,0),(false,1),(false,2),(false,3),(false,4),(false,5),(false,6),(false,7),(false,8),(false,9),(true,10),(false,11)] (LV k p pe ky ch tt am fe ys Vi Vj i0 i1 i2 i3 i4 i5 i6 j0 j1 j2 j3 j4 j5 j6) (by kernel_rfl) (by kernel_rfl) rfl rfl (fun _ _ d _ _ h=>by cases d <;> exact h) (HLV.out.kept (Keeps.refl _).drew) ?_
 replace HW:=hide (HW.out.kept (Keeps.refl w9).drew)
 replace HLV:=hide (HLV.out.kept (Keeps.refl w9).drew)
 generalize w9.drew=w10 at *
 repeat (first
  | (refine wpPerm_no (by rfl) ?_
     try simp only [Act.put,List.setIfInBounds_toArray,List.set_cons_zero,List.set_cons_succ])
  | (refine wpPerm_yes (v:=?_) (by rfl) ?_ ?_
     rotate_left
     ·intro w9 hS9
      obtain ⟨⟨s0,s1,s2,s3,s4,s5,s6,s7,s8,s9,s10⟩,s11,⟨p0,p1,p2,p3,p4,p5,p6⟩,q0,q1,q2,q3,q4,q5,q6⟩:=hS9
      go_simp
      with_reducible rfl
     try simp only [Act.put,List.setIfInBounds_toArray,List.set_cons_zero,List.set_cons_succ]))
 refine wpPerm_do (by rfl) ?_
 intro K9 hK9
 go_simp
 refine (unhide HRC _ HW.out.mem).mono ?_
 rintro e w11 ⟨rfl,hk⟩
 refine hK9.out _ _ (HLV.out.kept hk) ?_
 clear hK9 K9
 try simp only [Act.put,List.setIfInBounds_toArray,List.set_cons_zero,List.set_cons_succ]
 replace HW:=hide (HW.out.kept hk)
 replace HLV:=hide (HLV.out.kept hk)
 clear hk HRC
 repeat (first
  | (refine wpPerm_no (by rfl) ?_
     try simp only [Act.put,List.setIfInBounds_toArray,List.set_cons_zero,List.set_cons_succ])
  | (refine wpPerm_yes (v:=?_) (by rfl) ?_ ?_
     rotate_left
     ·intro w9 hS9
      obtain ⟨⟨s0,s1,s2,s3,s4,s5,s6,s7,s8,s9,s10⟩,s11,⟨p0,p1,p2,p3,p4,p5,p6⟩,q0,q1,q2,q3,q4,q5,q6⟩:=hS9
      go_simp
      with_reducible rfl
     try simp only [Act.put,List.setIfInBounds_toArray,List.set_cons_zero,List.set_cons_succ]))
 refine wpPerm_end ?_
 rw [show k.bo.Hs=k.Hs from rfl]
 generalize roomV k.Hs ⟨i0,i1,i2,i3,i4,i5,i6⟩ ⟨j0,j1,j2,j3,j4,j5,j6⟩ am ys=rm at *
 clear HCI HCJ HSM
 obtain ⟨⟨-,-,-,-,-,-,e1,e2,e3,e4,-⟩,-,⟨-,-,-,x3,-,-,-⟩,-,-,y2,-,-,-,-⟩:=HLV.out
 by_cases h4:(okf && oka)=false
 ·have HEC:Hid (admitC k.bk ky ch tt am ys=10):=by show _=_;rw [HCD.out,if_neg h1,if_neg (by rw [h2];decide),if_neg h3,if_pos h4]
  cases okf <;> cases oka <;> (try simp at h4)
  all_goals
   go_wp2_with fail
   refine (code_yes W _ p k 10 HH0.out (by decide) HW.out).mono ?_
   rintro e wx ⟨rfl,hw,ht⟩
   have HEX:Hid (∀ B L,Ends W wx p (admitC k.bk ky ch tt am ys) B L):=fun B L=>⟨_,hw,HEC.out.symm,fun h0=>absurd h0 (by rw [HEC.out];decide)⟩
   clear hw ht
   go_wp2_with fail
   first | go_end0 | go_ret2 | refine bodyPost_ret (results_none rfl _ _ _) rfl ?_
   exact ⟨rfl,HEX.out _ _⟩
 obtain ⟨rfl,rfl⟩:okf=true∧oka=true:=by cases okf <;> cases oka <;> simp_all
 replace HCM:=hide (HCM.out rfl)
 by_cases h5:i3 < cm
 ·have HEC:Hid (admitC k.bk ky ch tt am ys=11):=by show _=_;rw [HCD.out,if_neg h1,if_neg (by rw [h2];decide),if_neg h3,if_neg h4,if_pos h5]
  have hd:decide (i3 < cm)=true:=by first | exact decide_eq_true h5 | simpa using h5
  go_wp2_with fail
  refine (code_no W _ p k 10 HH0.out HW.out).mono ?_
  rintro e w12 ⟨rfl,hk⟩
  replace HW:=hide (HW.out.kept hk)
  replace e1:=hk.cell e1
  replace e2:=hk.cell e2
  replace e3:=hk.cell e3
  replace e4:=hk.cell e4
  replace x3:=hk.cell x3
  replace y2:=hk.cell y2
  replace HLV:=hide (HLV.out.kept hk)
  clear hk
  go_wp2_with fail
  refine (code_yes W _ p k 11 HH0.out (by decide) HW.out).mono ?_
  rintro e wx ⟨rfl,hw,ht⟩
  have HEX:Hid (∀ B L,Ends W wx p (admitC k.bk ky ch tt am ys) B L):=fun B L=>⟨_,hw,HEC.out.symm,fun h0=>absurd h0 (by rw [HEC.out];decide)⟩
  clear hw ht
  go_wp2_with fail
  first | go_end0 | go_ret2 | refine bodyPost_ret (results_none rfl _ _ _) rfl ?_
  exact ⟨rfl,HEX.out _ _⟩
 have dh5:decide (i3 < cm)=false:=by first | exact decide_eq_false h5 | simpa using h5
 have Nh5:Hid (¬ (i3 < cm)):=h5
 clear h5
 go_wp2_with fail
 refine (code_no W _ p k 10 HH0.out HW.out).mono ?_
 rintro e w12 ⟨rfl,hk⟩
 replace HW:=hide (HW.out.kept hk)
 replace e1:=hk.cell e1
 replace e2:=hk.cell e2
 replace e3:=hk.cell e3
 replace e4:=hk.cell e4
 replace x3:=hk.cell x3
 replace y2:=hk.cell y2
 replace HLV:=hide (HLV.out.kept hk)
 clear hk
 by_cases h6:j2 < am
 ·have HEC:Hid (admitC k.bk ky ch tt am ys=12):=by show _=_;rw [HCD.out,if_neg h1,if_neg (by rw [h2];decide),if_neg h3,if_neg h4,if_neg (show ¬ (i3 < cm) by have:=Nh5.out;omega),if_pos h6]
  have hd:decide (j2 < am)=true:=by first | exact decide_eq_true h6 | simpa using h6
  go_wp2_with fail
  refine (code_no W _ p k 11 HH0.out HW.out).mono ?_
  rintro e w13 ⟨rfl,hk⟩
  replace HW:=hide (HW.out.kept hk)
  replace e1:=hk.cell e1
  replace e2:=hk.cell e2
  replace e3:=hk.cell e3
  replace e4:=hk.cell e4
  replace x3:=hk.cell x3
  replace y2:=hk.cell y2
  replace HLV:=hide (HLV.out.kept hk)
  clear hk
  go_wp2_with fail
  refine (code_yes W _ p k 12 HH0.out (by decide) HW.out).mono ?_
  rintro e wx ⟨rfl,hw,ht⟩
  have HEX:Hid (∀ B L,Ends W wx p (admitC k.bk ky ch tt am ys) B L):=fun B L=>⟨_,hw,HEC.out.symm,fun h0=>absurd h0 (by rw [HEC.out];decide)⟩
  clear hw ht
  go_wp2_with fail
  first | go_end0 | go_ret2 | refine bodyPost_ret (results_none rfl _ _ _) rfl ?_
  exact ⟨rfl,HEX.out _ _⟩
 have dh6:decide (j2 < am)=false:=by first | exact decide_eq_false h6 | simpa using h6
 have Nh6:Hid (¬ (j2 < am)):=h6
 clear h6
 go_wp2_with fail
 refine (code_no W _ p k 11 HH0.out HW.out).mono ?_
 rintro e w13 ⟨rfl,hk⟩
 replace HW:=hide (HW.out.kept hk)
 replace e1:=hk.cell e1
 replace e2:=hk.cell e2
 replace e3:=hk.cell e3
 replace e4:=hk.cell e4
 replace x3:=hk.cell x3
 replace y2:=hk.cell y2
 replace HLV:=hide (HLV.out.kept hk)
 clear hk
 by_cases h7:rm=0
 ·have HEC:Hid (admitC k.bk ky ch tt am ys=13):=by show _=_;rw [HCD.out,if_neg h1,if_neg (by rw [h2];decide),if_neg h3,if_neg h4,if_neg (show ¬ (i3 < cm) by have:=Nh5.out;omega),if_neg (show ¬ (j2 < am) by have:=Nh6.out;omega),if_pos h7]
  have hd:(rm==0)=true:=by first | exact decide_eq_true h7 | simpa using h7
  go_wp2_with fail
  refine (code_no W _ p k 12 HH0.out HW.out).mono ?_
  rintro e w14 ⟨rfl,hk⟩
  replace HW:=hide (HW.out.kept hk)
  replace e1:=hk.cell e1
  replace e2:=hk.cell e2
  replace e3:=hk.cell e3
  replace e4:=hk.cell e4
  replace x3:=hk.cell x3
  replace y2:=hk.cell y2
  replace HLV:=hide (HLV.out.kept hk)
  clear hk
  go_wp2_with fail
  refine (code_yes W _ p k 13 HH0.out (by decide) HW.out).mono ?_
  rintro e wx ⟨rfl,hw,ht⟩
  have HEX:Hid (∀ B L,Ends W wx p (admitC k.bk ky ch tt am ys) B L):=fun B L=>⟨_,hw,HEC.out.symm,fun h0=>absurd h0 (by rw [HEC.out];decide)⟩
  clear hw ht
  go_wp2_with fail
  first | go_end0 | go_ret2 | refine bodyPost_ret (results_none rfl _ _ _) rfl ?_
  exact ⟨rfl,HEX.out _ _⟩
 have dh7:(rm==0)=false:=by first | exact decide_eq_false h7 | simpa using h7
 have Nh7:Hid (¬ (rm=0)):=h7
 clear h7
 go_wp2_with fail
 refine (code_no W _ p k 12 HH0.out HW.out).mono ?_
 rintro e w14 ⟨rfl,hk⟩
 replace HW:=hide (HW.out.kept hk)
 replace e1:=hk.cell e1
 replace e2:=hk.cell e2
 replace e3:=hk.cell e3
 replace e4:=hk.cell e4
 replace x3:=hk.cell x3
 replace y2:=hk.cell y2
 replace HLV:=hide (HLV.out.kept hk)
 clear hk
 go_wp2_with fail
 refine (code_no W _ p k 13 HH0.out HW.out).mono ?_
 rintro e w15 ⟨rfl,hk⟩
 replace HW:=hide (HW.out.kept hk)
 replace e1:=hk.cell e1
 replace e2:=hk.cell e2
 replace e3:=hk.cell e3
 replace e4:=hk.cell e4
 replace x3:=hk.cell x3
 replace y2:=hk.cell y2
 replace HLV:=hide (HLV.out.kept hk)
 clear hk
 have HC0:Hid (admitC k.bk ky ch tt am ys=0):=by show _=_;rw [HCD.out,if_neg h1,if_neg (by rw [h2];decide),if_neg h3,if_neg h4,if_neg (show ¬ (i3 < cm) by have:=Nh5.out;omega),if_neg (show ¬ (j2 < am) by have:=Nh6.out;omega),if_neg (show ¬ (rm=0) by have:=Nh7.out;omega)]
 clear dh5 dh6 dh7 HCD x3 y2
 obtain ⟨⟨-,-,-,-,s4,-,-,-,-,-,-⟩,-⟩:=HLV.out
 go_upto_region 8 with fail
 have G4:=gr_cell s4
 have D1:=gr_cell e1
 have D2:=gr_cell e2
 have D3:=gr_cell e3
 have D4:=gr_cell e4
 clear s4 HLV
 obtain ⟨kp,hkp⟩:∃ kp:Bool,kp=(rm==2):=⟨_,rfl⟩
 have HKP:=hide hkp
 replace hkp:=hkp.symm
 refine wp_region_app [.u,.f,.f,.f,.f,.f,.h,.h,.h,.h,.h,.h,.h,.h,.h,.h,.h,.h,.b,.t,.t,.t,.t,.t] (by kernel_rfl) (by kernel_rfl) rfl rfl rfl rfl rfl rfl rfl (fun _ _ d _ _ h=>by cases d <;> exact h) ?_
 simp only [pkU,pkF,pkH,pkT,pkB]
 refine wpUni_step ?v0 (by rfl) ?f0 ?_
 case f0 =>
  intro w9
  go_simp
  with_reducible rfl
 try simp only [Act.put,List.setIfInBounds_toArray,List.set_cons_zero,List.set_cons_succ]
 refine wpUni_nil ?_
 refine wpFlo_step ?v1 (by rfl) ?f1 ?_
 case f1 =>
  rintro w9 ⟨t9,rfl⟩
  go_simp
  with_reducible rfl
 try simp only [Act.put,List.setIfInBounds_toArray,List.set_cons_zero,List.set_cons_succ]
 refine wpFlo_step ?v2 (by rfl) ?f2 ?_
 case f2 =>
  rintro w9 ⟨t9,rfl⟩
  go_simp
  with_reducible rfl
 try simp only [Act.put,List.setIfInBounds_toArray,List.set_cons_zero,List.set_cons_succ]
 refine wpFlo_step ?v3 (by rfl) ?f3 ?_
 case f3 =>
  rintro w9 ⟨t9,rfl⟩
  go_simp
  with_reducible rfl
 try simp only [Act.put,List.setIfInBounds_toArray,List.set_cons_zero,List.set_cons_succ]
 refine wpFlo_step ?v4 (by rfl) ?f4 ?_
 case f4 =>
  rintro w9 ⟨t9,rfl⟩
  go_simp
  with_reducible rfl
 try simp only [Act.put,List.setIfInBounds_toArray,List.set_cons_zero,List.set_cons_succ]
 refine wpFlo_step ?v5 (by rfl) ?f5 ?_
 case f5 =>
  rintro w9 ⟨t9,rfl⟩
  go_simp
  with_reducible rfl
 try simp only [Act.put,List.setIfInBounds_toArray,List.set_cons_zero,List.set_cons_succ]
 refine wpFlo_nil ?_
 repeat (go_big_quiet_step (fail))
 refine wpQuiet_nil ?_
 refine ⟨rfl,?_⟩
 rintro w9 ⟨t9,rfl⟩ K9 hK9
 go_simp
 refine hK9.out _ _ (gr_gr (Keeps.alloc (Keeps.refl _) _)) ?_
 clear hK9 K9
 have HW9:=hide (HW.out.kept (gr_keeps w15 t9))
 have HKC:=hide (gr_keeps w15 t9)
 generalize gr w15 t9=W9 at *
 have HK9:=hide (Keeps.alloc (Keeps.refl W9) (.cells #[.int .i64 ky,.int .i64 ch,.int .i64 tt,.int .i64 cm,.int .i64 am,.bool kp,.int .i64 0] 112))
 have HM9:=hide (one_Htlc W9 ⟨ky,ch,tt,cm,am,kp,0⟩)
 have HO9:=hide ((HW9.out.kept HK9.out).oH)
 have HB9:=hide ((HW9.out.kept HK9.out).keep.size)
 dsimp only at HM9
 clear G4 D1 D2 D3 D4
 go_upto_region 9 with (at_builtin;refine appL_Htlc rfl (.tmp 138) (.tmp 151) rfl W.heap.size k.gH k.cH k.Hs ⟨ky,ch,tt,cm,am,kp,0⟩ rfl ⟨W9.heap.size,0,none⟩ 1 rfl HM9.out HO9.out (by have:=HLn.out.1;omega) HB9.out ?_;intro g' c' w' ho hg hat;obtain ⟨hWn,q1,q2,q3⟩:=HW9.out.growH HK9.out ho hg hat;have HG:=hide hWn;have HTR:=hide (((Turn.of_keeps (HKC.out.trans HK9.out) [k.gH]).trans' (grown_turn hg)));clear hWn ho hg hat)
 have hlen:(k.Hs++[(⟨ky,ch,tt,cm,am,kp,0⟩:Htl)]).length=k.Hs.length+1:=by simp
 rw [hlen] at HG
 replace HTR:=hide ((HTR.out.mono (gs:=[k.gH,p]) (by simp)).trans' (Turn.set (a:=⟨p,4,none⟩) (by simp) (.slice (some ⟨g',0,none⟩) (k.Hs.length+1) c')))
 clear hlen q1 q2 q3 HM9 HO9 HB9 HK9 HW9 HKC
 generalize w'.setCell ⟨p,4,none⟩ (.slice (some ⟨g',0,none⟩) (k.Hs.length+1) c')=w50 at *
 have hpe:pe≠k.gH∧pe≠p∧pe≠k.gC:=by have:=HPB.out;omega
 replace e2:=HTR.out.cell (p:=⟨pe,2,none⟩) (by simp;omega) e2
 replace e3:=HTR.out.cell (p:=⟨pe,3,none⟩) (by simp;omega) e3
 replace e4:=HTR.out.cell (p:=⟨pe,4,none⟩) (by simp;omega) e4
 clear HTR e1 HW
 have HG2:Hid (Go W w50 p pe ⟨k.tk,k.nx,k.wa,k.C,k.Hs++[⟨ky,ch,tt,cm,am,kp,0⟩],k.R⟩ k.L):=⟨_,HG.out,HH0.out,rfl,rfl,hpe.2.1,hpe.2.2⟩
 replace HG:=HG2
 clear HG2 hpe
 generalize w50=w8 at *
 have HNA:Hid (Narrow k.C):=⟨Nat.le_trans HLn.out.2.2.1 (by decide),HAA.out⟩
 have hb1:=HA1.out
 have hb2:0≤cm∧cm≤1125899906842624:=by have:=HCM.out;omega
 have hw1:IntKind.i64.wrap (-cm)=-cm:=by rw [IntKind.wrap_i64];omega
 have hw2:IntKind.i64.wrap (-am)=-am:=by rw [IntKind.wrap_i64];omega
 have HGN:Hid (Gentle 0 k.L):=by show Gentle _ _;rw [HLL.out];exact Gentle.nil
 go_wp2_with fail
 refine (move_at HG.out ch 0 (-cm) (HNA.out.one HIJ.out.1 (by omega) (by omega))).mono ?_
 rintro e w9 ⟨rfl,hg,hv⟩
 replace e2:=hv _ _ e2
 replace e3:=hv _ _ e3
 replace e4:=hv _ _ e4
 replace HG:=hide hg
 clear hg hv
 generalize w9=w8 at *
 go_wp2_with fail
 refine (move_at HG.out tt (-am) 0 (HNA.out.two HIJ.out.1 HIJ.out.2.1 HIJ.out.2.2 (by omega) (by omega) _ _)).mono ?_
 rintro e w9 ⟨rfl,hg,hv⟩
 replace e3:=hv _ _ e3
 replace e4:=hv _ _ e4
 replace HG:=hide hg
 clear hg hv
 generalize w9=w8 at *
 go_wp2_with fail
 refine (line_at HG.out 6 tt (-am) 0 HGN.out (by decide) (by omega) (by omega)).mono ?_
 rintro e w9 ⟨rfl,hg,hv⟩
 replace e3:=hv _ _ e3
 replace e4:=hv _ _ e4
 replace HG:=hide hg
 clear hg hv
 generalize w9=w8 at *
 replace HGN:=hide (HGN.out.line 6 tt (-am) (by omega) (by omega))
 go_wp2_with fail
 refine (line_at HG.out 8 tt am 1 HGN.out (by decide) (by omega) (by omega)).mono ?_
 rintro e w9 ⟨rfl,hg,hv⟩
 replace HG:=hide hg
 clear hg hv
 generalize w9=w8 at *
 go_wp2_with fail
 first | go_end0 | go_ret2 | refine bodyPost_ret (results_none rfl _ _ _) rfl ?_
 refine ⟨rfl,?_⟩
 rw [HFB.out,← HKP.out]
 exact HG.out.ends HC0.out
end Go.Proofs.YtccdhcempnkgaaaGreatDoor
