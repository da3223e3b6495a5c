/- The model: a channel is closed. -/
import Derived.Test.YtccdhcempnkgaaaGreatDoorPL15
namespace Go.Proofs.YtccdhcempnkgaaaGreatDoor
open Go.RowKit Go.Deep
set_option linter.unusedVariables false
set_option linter.unusedSimpArgs false
set_option maxRecDepth 10000
def CS (k:Wk) (p pe:Nat) (ch fe:Int) (w':World):Prop:=w'.cell? ⟨p,0,none⟩=some (.int .i64 k.tk)∧w'.cell? ⟨p,1,none⟩=some (.int .i64 k.nx)∧w'.cell? ⟨p,2,none⟩=some (.int .i64 k.wa)∧w'.cell? ⟨p,3,none⟩=some (.slice (some ⟨k.gC,0,none⟩) k.C.length k.cC)∧w'.cell? ⟨p,4,none⟩=some (.slice (some ⟨k.gH,0,none⟩) k.Hs.length k.cH)∧w'.cell? ⟨p,5,none⟩=some (.slice (some ⟨k.gR,0,none⟩) k.R.length k.cR)∧w'.cell? ⟨pe,2,none⟩=some (.int .i64 ch)∧w'.cell? ⟨pe,5,none⟩=some (.int .i64 fe)
theorem CS.kept {k:Wk} {p pe:Nat} {ch fe:Int} {w w':World} (h:CS k p pe ch fe w) (hk:Keeps w w'):CS k p pe ch fe w':=by
 obtain ⟨s0,s1,s2,s3,s4,s5,s6,s7⟩:=h
 exact ⟨hk.cell s0,hk.cell s1,hk.cell s2,hk.cell s3,hk.cell s4,hk.cell s5,hk.cell s6,hk.cell s7⟩
theorem CS.code {W w w':World} {k:Wk} {p pe:Nat} {ch fe c:Int} (h:CS k p pe ch fe w) (ht:Turn [p] w w') (hw:WkAt W w' p { k with cd:=c }) (hne:pe≠p):CS k p pe ch fe w':=by
 obtain ⟨_,_,_,_,_,_,e1,e2⟩:=h
 obtain ⟨q0,q1,q2,q3,q4,q5,_,_⟩:=hw.cells
 have hn:∀ i,(⟨pe,i,none⟩:Addr).block∉[p]:=fun i=>by simpa using hne
 exact ⟨q0,q1,q2,q3,q4,q5,ht.cell (hn 2) e1,ht.cell (hn 5) e2⟩
def CT (k:Wk) (p pe V:Nat) (ch fe lo:Int) (w':World):Prop:=CS k p pe ch fe w'∧w'.cell? ⟨V,2,none⟩=some (.int .i64 lo)
theorem CT.kept {k:Wk} {p pe V:Nat} {ch fe lo:Int} {w w':World} (h:CT k p pe V ch fe lo w) (hk:Keeps w w'):CT k p pe V ch fe lo w':=⟨h.1.kept hk,hk.cell h.2⟩
theorem CT.code {W w w':World} {k:Wk} {p pe V:Nat} {ch fe lo c:Int} (h:CT k p pe V ch fe lo w) (ht:Turn [p] w w') (hw:WkAt W w' p { k with cd:=c }) (hne:pe≠p) (hv:V≠p):CT k p pe V ch fe lo w':=⟨h.1.code ht hw hne,ht.cell (p:=⟨V,2,none⟩) (by simpa using hv) h.2⟩
def closeC (B:Bk) (ch fe:Int):Int:=if atC B.C ch=none then 6 else if busyB B.Hs B.R ch=true then 7 else if loC B.C ch < fe then 8 else 0
def cutC (C:List Chn) (ch:Int):List Chn:=C.filter (fun c=>decide (c.id≠ch))
def closeB (B:Bk) (ch fe:Int):Bk:=⟨B.tk,B.nx,B.wa+loC B.C ch-fe,cutC B.C ch,B.Hs,B.R⟩
def closeL (B:Bk) (ch fe:Int) (L:List Ln):List Ln:=lineW (lineW (lineW L 1 0 (loC B.C ch-fe)) 5 0 fe) 6 ch (-loC B.C ch)
theorem cutC_step (ch:Int) (C:List Chn) (j:Nat) (hj:j < C.length):cutC (C.take (j+1)) ch=if C[j].id=ch then cutC (C.take j) ch else cutC (C.take j) ch++[C[j]]:=by
 have e:C.take (j+1)=C.take j++[C[j]]:=by rw [List.take_add_one,List.getElem?_eq_getElem hj];rfl
 rw [e]
 unfold cutC
 rw [List.filter_append]
 by_cases h:C[j].id=ch <;> simp [h]
theorem cutC_len (ch:Int) (C:List Chn) (j:Nat):(cutC (C.take j) ch).length≤C.length:=by
 have h1:=List.length_filter_le (fun x:Chn=>decide (x.id≠ch)) (C.take j)
 have h2:(C.take j).length≤C.length:=by rw [List.length_take];omega
 exact Nat.le_trans h1 h2
set_option maxHeartbeats 8000000 in
theorem close_spec (W w:World) (p:Nat) (k:Wk) (h:WkAt W w p k) (hc:k.cd=0) (kd ky ch tt am fe:Int) (ys:Bool) (hC:k.C.length≤20) (hH:k.Hs.length≤60) (hR:k.R.length≤20) (hL:k.L=[]) (hA:∀ c∈k.C,(0≤c.lo∧c.lo≤1125899906842624)∧0≤c.re∧c.re≤1125899906842624) (hw:0≤k.wa∧k.wa≤1125899906842624) (hf:0≤fe∧fe≤1125899906842624) :
 Calls Tryz.prog 39 #[.pointer (some ⟨p,0,none⟩),.agg #[.int .i64 kd,.int .i64 ky,.int .i64 ch,.int .i64 tt,.int .i64 am,.int .i64 fe,.bool ys]] w fun e w'=>e=.returned (.tuple #[])∧Ends W w' p (closeC k.bk ch fe) (closeB k.bk ch fe) (closeL k.bk ch fe k.L):=by
 have HW:=hide (h.kept ((Keeps.refl w).alloc (.cells #[.int .i64 kd,.int .i64 ky,.int .i64 ch,.int .i64 tt,.int .i64 am,.int .i64 fe,.bool ys] 41)))
 have HE1:=hide (rowc7 w (.int .i64 kd) (.int .i64 ky) (.int .i64 ch) (.int .i64 tt) (.int .i64 am) (.int .i64 fe) (.bool ys) 41)
 have HLS:Hid (CS k p w.heap.size ch fe (w.alloc (.cells #[.int .i64 kd,.int .i64 ky,.int .i64 ch,.int .i64 tt,.int .i64 am,.int .i64 fe,.bool ys] 41))):=by
  obtain ⟨q0,q1,q2,q3,q4,q5,_,_⟩:=HW.out.cells
  obtain ⟨_,_,e2,_,_,e5,_⟩:=unhide HE1 _ (Keeps.refl _)
  exact ⟨q0,q1,q2,q3,q4,q5,e2,e5⟩
 have HNE:Hid (w.heap.size≠p):=fun e=>by have:=h.row.lt;omega
 have HH0:=hide hc
 have HLn:=hide (And.intro hC (And.intro hH hR))
 have HCD:Hid (closeC k.bk ch fe=if atC k.C ch=none then 6 else if busyB k.Hs k.R ch=true then 7 else if loC k.C ch < fe then 8 else 0):=rfl
 have HAA:=hide hA
 have HWA:=hide hw
 have HF1:=hide hf
 have HLL:=hide hL
 clear h hc hC hH hR hA hw hf hL HE1
 go_enter Tryz.func39,Tryz.ntmps39
 go_upto_region 1 with fail
 generalize (w.alloc (.cells #[.int .i64 kd,.int .i64 ky,.int .i64 ch,.int .i64 tt,.int .i64 am,.int .i64 fe,.bool ys] 41))=w1 at *
 generalize w.heap.size=pe at *
 refine wp_region_perm [(false,0),(false,1),(false,2),(false,3),(false,4),(false,5),(true,6),(false,7)] (CS k p pe ch fe) (by kernel_rfl) (by kernel_rfl) rfl rfl (fun _ _ d _ _ h=>by cases d <;> exact h) (HLS.out.kept (Keeps.refl _).drew) ?_
 replace HW:=hide (HW.out.kept (Keeps.refl w1).drew)
 replace HLS:=hide (HLS.out.kept (Keeps.refl w1).drew)
 generalize w1.drew=w2 at *
 repeat (first
  | (refine wpPerm_no (by rfl) ?_
     try simp only [Act.put,List.setIfInBounds_toArray,List.set_cons_zero,List.set_cons_succ])
  | (refine wpPerm_yes (v:=?_) (by rfl) ?_ ?_
     rotate_left
     ·intro w9 hS9
      obtain ⟨s0,s1,s2,s3,s4,s5,s6,s7⟩:=hS9
      go_simp
      with_reducible rfl
     try simp only [Act.put,List.setIfInBounds_toArray,List.set_cons_zero,List.set_cons_succ]))
 refine wpPerm_do (by rfl) ?_
 intro K9 hK9
 go_simp
 refine (at_spec k.bo ch _ HW.out.mem (Nat.le_trans HLn.out.1 (by decide))).mono ?_
 rintro e w3 ⟨rfl,hk⟩
 refine hK9.out _ _ (HLS.out.kept hk) ?_
 clear hK9 K9
 try simp only [Act.put,List.setIfInBounds_toArray,List.set_cons_zero,List.set_cons_succ]
 replace HW:=hide (HW.out.kept hk)
 replace HLS:=hide (HLS.out.kept hk)
 clear hk
 repeat (first
  | (refine wpPerm_no (by rfl) ?_
     try simp only [Act.put,List.setIfInBounds_toArray,List.set_cons_zero,List.set_cons_succ])
  | (refine wpPerm_yes (v:=?_) (by rfl) ?_ ?_
     rotate_left
     ·intro w9 hS9
      obtain ⟨s0,s1,s2,s3,s4,s5,s6,s7⟩:=hS9
      go_simp
      with_reducible rfl
     try simp only [Act.put,List.setIfInBounds_toArray,List.set_cons_zero,List.set_cons_succ]))
 refine wpPerm_end ?_
 rw [show atI k.bo.C ch=atI k.C ch from rfl]
 cases hat:atC k.C ch with
 | none =>
   have ha:atI k.C ch=-1:=by simp [atI,hat]
   rw [ha]
   have hd:decide ((-1:Int) < 0)=true:=by decide
   go_wp2_with fail
   refine (code_yes W w3 p k 6 HH0.out (by decide) HW.out).mono ?_
   rintro e w4 ⟨rfl,hw,ht⟩
   have HEX:Hid (∀ B L,Ends W w4 p (closeC k.bk ch fe) B L):=fun B L=>⟨_,hw,by rw [HCD.out,if_pos hat],fun h0=>absurd h0 (by rw [HCD.out,if_pos hat];decide)⟩
   clear hw ht
   go_wp2_with fail
   first | go_end0 | go_ret2 | refine bodyPost_ret (results_none rfl _ _ _) rfl ?_
   exact ⟨rfl,HEX.out _ _⟩
 | some i =>
   rw [atI_some hat]
   obtain ⟨hi,-⟩:=atC_lt hat
   have HAT:=hide hat
   have hd:decide ((i:Int) < 0)=false:=by simp
   go_wp2_with fail
   refine (code_no W w3 p k 6 HH0.out HW.out).mono ?_
   rintro e w4 ⟨rfl,hk⟩
   replace HW:=hide (HW.out.kept hk)
   replace HLS:=hide (HLS.out.kept hk)
   clear hk
   have c3:=HW.out.cells.2.2.2.1
   obtain ⟨q0,q1,q2,q3,q4,q5,q6⟩:=HW.out.oC.at i hi
   have hzz:i*7+7≤k.C.length*7:=by omega
   have HLO:=hide (loC_at hat hi)
   have HBI:=hide (HAA.out _ (List.getElem_mem hi)).1
   have HN6:Hid (¬ atC k.C ch=none):=by show ¬ _;rw [hat];simp
   generalize k.C[i]=x at *
   obtain ⟨x0,x1,lo,x3,x4,x5,x6⟩:=x
   dsimp only at q0 q1 q2 q3 q4 q5 q6 HLO HBI
   have HKV:=hide (Keeps.alloc (Keeps.refl w4) (.cells #[.int .i64 x0,.int .i64 x1,.int .i64 lo,.int .i64 x3,.int .i64 x4,.int .i64 x5,.int .i64 x6] 78))
   have HVV:=hide (rw7_new w4 (.int .i64 x0) (.int .i64 x1) (.int .i64 lo) (.int .i64 x3) (.int .i64 x4) (.int .i64 x5) (.int .i64 x6) 78)
   have HVP:Hid (w4.heap.size≠p):=fun e=>by have:=HW.out.row.lt;omega
   go_upto_region 4 with fail
   replace HW:=hide (HW.out.kept HKV.out)
   replace HLS:Hid (CT k p pe w4.heap.size ch fe lo (w4.alloc (.cells #[.int .i64 x0,.int .i64 x1,.int .i64 lo,.int .i64 x3,.int .i64 x4,.int .i64 x5,.int .i64 x6] 78))):=⟨HLS.out.kept HKV.out,(rw7_cells HVV.out).2.2.1⟩
   clear HKV HVV c3 q0 q1 q2 q3 q4 q5 q6 hat
   generalize (w4.alloc (.cells #[.int .i64 x0,.int .i64 x1,.int .i64 lo,.int .i64 x3,.int .i64 x4,.int .i64 x5,.int .i64 x6] 78))=w5 at *
   generalize w4.heap.size=V at *
   refine wp_region_perm [(false,0),(false,1),(false,2),(false,3),(false,4),(false,5),(false,6),(true,7),(true,8),(false,9),(false,10),(false,11),(false,12),(false,13),(false,14),(false,15),(true,16),(false,17)] (CT k p pe V ch fe lo) (by kernel_rfl) (by kernel_rfl) rfl rfl (fun _ _ d _ _ h=>by cases d <;> exact h) (HLS.out.kept (Keeps.refl _).drew) ?_
   replace HW:=hide (HW.out.kept (Keeps.refl w5).drew)
   replace HLS:=hide (HLS.out.kept (Keeps.refl w5).drew)
   generalize w5.drew=w6 at *
   repeat (first
    | (refine wpPerm_no (by rfl) ?_
       try simp only [Act.put,List.setIfInBounds_toArray,List.set_cons_zero,List.set_cons_succ])
    | (refine wpPerm_yes (v:=?_) (by rfl) ?_ ?_
       rotate_left
       ·intro w9 hS9
        obtain ⟨⟨s0,s1,s2,s3,s4,s5,s6,s7⟩,s8⟩:=hS9
        go_simp
        with_reducible rfl
       try simp only [Act.put,List.setIfInBounds_toArray,List.set_cons_zero,List.set_cons_succ]))
   refine wpPerm_do (by rfl) ?_
   intro K9 hK9
   go_simp
   refine (busy_spec k.bo ch _ HW.out.mem HLn.out.2.1 HLn.out.2.2).mono ?_
   rintro e w7 ⟨rfl,hk⟩
   refine hK9.out _ _ (HLS.out.kept hk) ?_
   clear hK9 K9
   try simp only [Act.put,List.setIfInBounds_toArray,List.set_cons_zero,List.set_cons_succ]
   replace HW:=hide (HW.out.kept hk)
   replace HLS:=hide (HLS.out.kept hk)
   clear hk
   rw [show busyB k.bo.Hs k.bo.R ch=busyB k.Hs k.R ch from rfl]
   cases hb:busyB k.Hs k.R ch
   rotate_left
   ·skip
    repeat (first
     | (refine wpPerm_no (by rfl) ?_
        try simp only [Act.put,List.setIfInBounds_toArray,List.set_cons_zero,List.set_cons_succ])
     | (refine wpPerm_yes (v:=?_) (by rfl) ?_ ?_
        rotate_left
        ·intro w9 hS9
         obtain ⟨⟨s0,s1,s2,s3,s4,s5,s6,s7⟩,s8⟩:=hS9
         go_simp
         with_reducible rfl
        try simp only [Act.put,List.setIfInBounds_toArray,List.set_cons_zero,List.set_cons_succ]))
    refine wpPerm_do (by rfl) ?_
    intro K9 hK9
    go_simp
    refine (code_yes W _ p k 7 HH0.out (by decide) HW.out).mono ?_
    rintro e w8 ⟨rfl,hw,ht⟩
    have HEX:Hid (∀ B L,Ends W w8 p (closeC k.bk ch fe) B L):=fun B L=>⟨_,hw,by rw [HCD.out,if_neg HN6.out,if_pos hb],fun h0=>absurd h0 (by rw [HCD.out,if_neg HN6.out,if_pos hb];decide)⟩
    refine hK9.out _ _ (CT.code HLS.out ht hw HNE.out HVP.out) ?_
    clear hK9 K9
    try simp only [Act.put,List.setIfInBounds_toArray,List.set_cons_zero,List.set_cons_succ]
    clear hw ht HLS HW
    repeat (first
     | (refine wpPerm_no (by rfl) ?_
        try simp only [Act.put,List.setIfInBounds_toArray,List.set_cons_zero,List.set_cons_succ])
     | (refine wpPerm_yes (v:=?_) (by rfl) ?_ ?_
        rotate_left
        ·intro w9 hS9
         obtain ⟨⟨s0,s1,s2,s3,s4,s5,s6,s7⟩,s8⟩:=hS9
         go_simp
         with_reducible rfl
        try simp only [Act.put,List.setIfInBounds_toArray,List.set_cons_zero,List.set_cons_succ]))
    refine wpPerm_end ?_
    go_wp2_with fail
    first | go_end0 | go_ret2 | refine bodyPost_ret (results_none rfl _ _ _) rfl ?_
    exact ⟨rfl,HEX.out _ _⟩
   repeat (first
    | (refine wpPerm_no (by rfl) ?_
       try simp only [Act.put,List.setIfInBounds_toArray,List.set_cons_zero,List.set_cons_succ])
    | (refine wpPerm_yes (v:=?_) (by rfl) ?_ ?_
       rotate_left
       ·intro w9 hS9
        obtain ⟨⟨s0,s1,s2,s3,s4,s5,s6,s7⟩,s8⟩:=hS9
        go_simp
        with_reducible rfl
       try simp only [Act.put,List.setIfInBounds_toArray,List.set_cons_zero,List.set_cons_succ]))
   refine wpPerm_do (by rfl) ?_
   intro K9 hK9
   go_simp
   refine (code_no W _ p k 7 HH0.out HW.out).mono ?_
   rintro e w8 ⟨rfl,hk⟩
   refine hK9.out _ _ (HLS.out.kept hk) ?_
   clear hK9 K9
   try simp only [Act.put,List.setIfInBounds_toArray,List.set_cons_zero,List.set_cons_succ]
   replace HW:=hide (HW.out.kept hk)
   replace HLS:=hide (HLS.out.kept hk)
   clear hk
   by_cases hf:lo < fe
   ·have hdf:decide (lo < fe)=true:=decide_eq_true hf
    have hdg:decide (fe > lo)=true:=decide_eq_true hf
    repeat (first
     | (refine wpPerm_no (by rfl) ?_
        try simp only [Act.put,List.setIfInBounds_toArray,List.set_cons_zero,List.set_cons_succ])
     | (refine wpPerm_yes (v:=?_) (by rfl) ?_ ?_
        rotate_left
        ·intro w9 hS9
         obtain ⟨⟨s0,s1,s2,s3,s4,s5,s6,s7⟩,s8⟩:=hS9
         go_simp
         with_reducible rfl
        try simp only [Act.put,List.setIfInBounds_toArray,List.set_cons_zero,List.set_cons_succ]))
    refine wpPerm_do (by rfl) ?_
    intro K9 hK9
    go_simp
    refine (code_yes W _ p k 8 HH0.out (by decide) HW.out).mono ?_
    rintro e w9 ⟨rfl,hw,ht⟩
    have HEX:Hid (∀ B L,Ends W w9 p (closeC k.bk ch fe) B L):=fun B L=>⟨_,hw,by rw [HCD.out,if_neg HN6.out,if_neg (by rw [hb];decide),HLO.out,if_pos hf],fun h0=>absurd h0 (by rw [HCD.out,if_neg HN6.out,if_neg (by rw [hb];decide),HLO.out,if_pos hf];decide)⟩
    refine hK9.out _ _ (CT.code HLS.out ht hw HNE.out HVP.out) ?_
    clear hK9 K9
    try simp only [Act.put,List.setIfInBounds_toArray,List.set_cons_zero,List.set_cons_succ]
    clear hw ht HLS HW
    repeat (first
     | (refine wpPerm_no (by rfl) ?_
        try simp only [Act.put,List.setIfInBounds_toArray,List.set_cons_zero,List.set_cons_succ])
     | (refine wpPerm_yes (v:=?_) (by rfl) ?_ ?_
        rotate_left
        ·intro w9 hS9
         obtain ⟨⟨s0,s1,s2,s3,s4,s5,s6,s7⟩,s8⟩:=hS9
         go_simp
         with_reducible rfl
        try simp only [Act.put,List.setIfInBounds_toArray,List.set_cons_zero,List.set_cons_succ]))
    refine wpPerm_end ?_
    go_wp2_with fail
    first | go_end0 | go_ret2 | refine bodyPost_ret (results_none rfl _ _ _) rfl ?_
    exact ⟨rfl,HEX.out _ _⟩
   have hdf:decide (lo < fe)=false:=decide_eq_false hf
   have hdg:decide (fe > lo)=false:=decide_eq_false hf
   repeat (first
    | (refine wpPerm_no (by rfl) ?_
       try simp only [Act.put,List.setIfInBounds_toArray,List.set_cons_zero,List.set_cons_succ])
    | (refine wpPerm_yes (v:=?_) (by rfl) ?_ ?_
       rotate_left
       ·intro w9 hS9
        obtain ⟨⟨s0,s1,s2,s3,s4,s5,s6,s7⟩,s8⟩:=hS9
        go_simp
        with_reducible rfl
       try simp only [Act.put,List.setIfInBounds_toArray,List.set_cons_zero,List.set_cons_succ]))
   refine wpPerm_do (by rfl) ?_
   intro K9 hK9
   go_simp
   refine (code_no W _ p k 8 HH0.out HW.out).mono ?_
   rintro e w9 ⟨rfl,hk⟩
   refine hK9.out _ _ (HLS.out.kept hk) ?_
   clear hK9 K9
   try simp only [Act.put,List.setIfInBounds_toArray,List.set_cons_zero,List.set_cons_succ]
   replace HW:=hide (HW.out.kept hk)
   replace HLS:=hide (HLS.out.kept hk)
   clear hk
   repeat (first
    | (refine wpPerm_no (by rfl) ?_
       try simp only [Act.put,List.setIfInBounds_toArray,List.set_cons_zero,List.set_cons_succ])
    | (refine wpPerm_yes (v:=?_) (by rfl) ?_ ?_
       rotate_left
       ·intro w9 hS9
        obtain ⟨⟨s0,s1,s2,s3,s4,s5,s6,s7⟩,s8⟩:=hS9
        go_simp
        with_reducible rfl
       try simp only [Act.put,List.setIfInBounds_toArray,List.set_cons_zero,List.set_cons_succ]))
   refine wpPerm_end ?_
   have HC0:Hid (closeC k.bk ch fe=0):=by show _=_;rw [HCD.out,if_neg HN6.out,if_neg (by rw [hb];decide),HLO.out,if_neg hf]
   clear hdf hdg hd HCD HN6
   have HOE:Hid (OwnsChan (w9.alloc (.cells #[] 78)) W.heap.size (.slice (some ⟨w9.heap.size,0,none⟩) 0 0) []):=⟨by simp [chs],.inr ⟨w9.heap.size,0,#[],rfl,HW.out.keep.size,blk_alloc_new w9 _,by simp,by simp [maxLen],by simp,by simp [chs]⟩⟩
   have HKE:=hide (Keeps.alloc (Keeps.refl w9) (.cells #[] 78))
   obtain ⟨⟨-,-,-,s3,-,-,-,-⟩,-⟩:=HLS.out.kept HKE.out
   go_upto_region 6 with fail
   generalize w9.alloc (.cells #[] 78)=w10 at *
   have HI0:Hid (LInvC w9 w10 W.heap.size (.slice (some ⟨w9.heap.size,0,none⟩) 0 0) (cutC (k.C.take 0) ch)):=⟨w9.heap.size,0,rfl,HOE.out,Nat.le_refl _,HKE.out⟩
   clear HOE HKE
   go_wp2_with fail
   clear s3
   go_loopw [6,53] (fun v y wr=>∃ j:Nat,j≤k.C.length∧y=.int .i64 (j:Int)∧Hid (LInvC w9 wr W.heap.size v (cutC (k.C.take j) ch))) (fun _ y _=>k.C.length-(intOf y).toNat)
   case atStart=>exact ⟨0,by omega,rfl,HI0⟩
   case round =>
    obtain ⟨j,hj,rfl,HI⟩:=hrel
    clear HI0
    have hln:=HLn.out.1
    by_cases hlt:j < k.C.length
    ·have HS2:=hide (cutC_step ch k.C j hlt)
     have HLM:=hide (cutC_len ch k.C j)
     generalize cutC (k.C.take j) ch=M at *
     obtain ⟨g,cap,rfl,ho,hg0,hkr⟩:=HI.out
     obtain ⟨q0,q1,q2,q3,q4,q5,q6⟩:=(HW.out.kept hkr).oC.at j hlt
     have hz:j*7+7≤k.C.length*7:=by omega
     generalize k.C[j]=x at *
     obtain ⟨x0,x1,x2,x3,x4,x5,x6⟩:=x
     dsimp only at q0 q1 q2 q3 q4 q5 q6 HS2
     have HO:=hide (ho.alloc (.cells #[.int .i64 x0,.int .i64 x1,.int .i64 x2,.int .i64 x3,.int .i64 x4,.int .i64 x5,.int .i64 x6] 78))
     have HKA:=hide (Keeps.alloc (Keeps.refl wr) (.cells #[.int .i64 x0,.int .i64 x1,.int .i64 x2,.int .i64 x3,.int .i64 x4,.int .i64 x5,.int .i64 x6] 78))
     have HYR:=hide (rw7_new wr (.int .i64 x0) (.int .i64 x1) (.int .i64 x2) (.int .i64 x3) (.int .i64 x4) (.int .i64 x5) (.int .i64 x6) 78)
     have HKR:=hide hkr
     have HB:=hide hg0
     clear ho hkr hg0 HI
     go_upto_region 9 with fail
     generalize wr.alloc (.cells #[.int .i64 x0,.int .i64 x1,.int .i64 x2,.int .i64 x3,.int .i64 x4,.int .i64 x5,.int .i64 x6] 78)=wp at *
     generalize wr.heap.size=Y at *
     obtain ⟨y0,y1,y2,y3,y4,y5,y6⟩:=rw7_cells HYR.out
     obtain ⟨⟨-,-,-,-,-,-,s6,-⟩,-⟩:=HLS.out.kept (HKR.out.trans HKA.out)
     clear q0 q1 q2 q3 q4 q5 q6 HYR
     by_cases hx:x0=ch
     ·have hd1:(x0 != ch)=false:=by simpa using hx
      have hd2:(x0==ch)=true:=by simpa using hx
      have HI1:Hid (LInvC w9 wp W.heap.size (.slice (some ⟨g,0,none⟩) M.length cap) (cutC (k.C.take (j+1)) ch)):=by
       show LInvC _ _ _ _ _
       rw [HS2.out,if_pos hx]
       exact ⟨g,cap,rfl,HO.out,HB.out,HKR.out.trans HKA.out⟩
      go_wp2_with fail
      go_roundw
      case rel=>exact ⟨j+1,by omega,by go_num,HI1⟩
      case measure=>simp [intOf];omega
     ·have hd1:(x0 != ch)=true:=by simpa using hx
      have hd2:(x0==ch)=false:=by simpa using hx
      have HM2:=hide (one_Chan wp ⟨x0,x1,x2,x3,x4,x5,x6⟩)
      have HKB:=hide (Keeps.alloc (Keeps.refl wp) (.cells #[.int .i64 x0,.int .i64 x1,.int .i64 x2,.int .i64 x3,.int .i64 x4,.int .i64 x5,.int .i64 x6] 78))
      have HO2:=hide (HO.out.alloc (.cells #[.int .i64 x0,.int .i64 x1,.int .i64 x2,.int .i64 x3,.int .i64 x4,.int .i64 x5,.int .i64 x6] 78))
      have HSZ:Hid (W.heap.size≤(wp.alloc (.cells #[.int .i64 x0,.int .i64 x1,.int .i64 x2,.int .i64 x3,.int .i64 x4,.int .i64 x5,.int .i64 x6] 78)).heap.size):=Nat.le_trans HW.out.keep.size (Nat.le_trans HKR.out.size (Nat.le_trans HKA.out.size HKB.out.size))
      dsimp only at HM2
      clear HO
      go_upto_region 11 with (at_builtin;refine appL_Chan rfl (.tmp 62) (.tmp 64) rfl W.heap.size g cap M ⟨x0,x1,x2,x3,x4,x5,x6⟩ rfl ⟨wp.heap.size,0,none⟩ 1 rfl HM2.out HO2.out (by have:=HLM.out;have:=HLn.out.1;omega) HSZ.out ?_;intro g' c' w' ho hg hat)
      have HI1:Hid (LInvC w9 w' W.heap.size (.slice (some ⟨g',0,none⟩) (M.length+1) c') (cutC (k.C.take (j+1)) ch)):=by
       show LInvC _ _ _ _ _
       rw [HS2.out,if_neg hx]
       refine ⟨g',c',by rw [List.length_append];rfl,ho,?_,(grown_turn hg).keeps ((HKR.out.trans HKA.out).trans HKB.out) (fun b hb=>by rw [List.mem_singleton.1 hb];exact HB.out)⟩
       rcases hat with e | e
       ·rw [e];exact HB.out
       ·rw [e];exact ((HKR.out.trans HKA.out).trans HKB.out).size
      clear ho hg hat HO2 HM2 HKB HSZ
      go_wp2_with fail
      go_roundw
      case rel=>exact ⟨j+1,by omega,by go_num,HI1⟩
      case measure=>simp [intOf];omega
    ·have e:j=k.C.length:=by omega
     subst e
     rw [List.take_length] at HI
     clear hlt hj
     obtain ⟨g,cap,rfl,ho,hg0,hkr⟩:=HI.out
     have HPG:Hid (g≠p∧g≠k.gH∧g≠k.gR∧g∉lb k.la):=by
      have h1:=HW.out.row.lt
      have h3:=(HW.out.oH.lt k.gH rfl).2
      have h4:=(HW.out.oR.lt k.gR rfl).2
      have h5:=owned_low HW.out.oL hg0
      refine ⟨?_,?_,?_,h5⟩ <;> omega
     obtain ⟨M,hME⟩:∃ M,M=cutC k.C ch:=⟨_,rfl⟩
     rw [← hME] at ho ⊢
     have HME:=hide hME
     replace HW:=hide (HW.out.kept hkr)
     replace HLS:=hide (HLS.out.kept hkr)
     have HO:=hide ho
     clear hME ho hg0 hkr HI
     have c3:=HW.out.cells.2.2.2.1
     have f3:=HW.out.row.frozen 3
     have HN:=hide (HW.out.newC HO.out HPG.out.1 HPG.out.2.1 HPG.out.2.2.1 HPG.out.2.2.2)
     have ht:Turn [p] wr (wr.setCell ⟨p,3,none⟩ (.slice (some ⟨g,0,none⟩) M.length cap)):=Turn.set (by simp) _
     obtain ⟨⟨-,-,-,-,-,-,e2,e5⟩,v2⟩:=HLS.out
     replace e2:=ht.cell (p:=⟨pe,2,none⟩) (by simpa using HNE.out) e2
     replace e5:=ht.cell (p:=⟨pe,5,none⟩) (by simpa using HNE.out) e5
     replace v2:=ht.cell (p:=⟨V,2,none⟩) (by simpa using HVP.out) v2
     clear ht HLS HO HPG HW
     go_upto_region 13 with fail
     clear c3 f3
     generalize wr.setCell ⟨p,3,none⟩ (.slice (some ⟨g,0,none⟩) M.length cap)=w12 at *
     have c2:=HN.out.cells.2.2.1
     have f2:=HN.out.row.frozen 2
     dsimp only at c2
     have hb1:=HWA.out
     have hb2:=HF1.out
     have hb3:=HBI.out
     have hw1:wrap64 (k.wa+lo)=k.wa+lo:=by unfold wrap64;omega
     have hw2:wrap64 (k.wa+lo-fe)=k.wa+lo-fe:=by unfold wrap64;omega
     have hw3:wrap64 (lo-fe)=lo-fe:=by unfold wrap64;omega
     have hw4:IntKind.i64.wrap (-lo)=-lo:=by rw [IntKind.wrap_i64];omega
     have HW2:=hide (HN.out.setWa (k.wa+lo-fe))
     have ht:Turn [p] w12 (w12.setCell ⟨p,2,none⟩ (.int .i64 (k.wa+lo-fe))):=Turn.set (by simp) _
     have HTT:=hide ht
     clear ht HN
     have HCB:Hid (closeB k.bk ch fe=⟨k.tk,k.nx,k.wa+lo-fe,M,k.Hs,k.R⟩):=by show _=_;unfold closeB;simp only [Wk.bk];rw [HLO.out,HME.out]
     have HCL:Hid (closeL k.bk ch fe k.L=lineW (lineW (lineW k.L 1 0 (lo-fe)) 5 0 fe) 6 ch (-lo)):=by show _=_;unfold closeL;simp only [Wk.bk];rw [HLO.out]
     have HGN:Hid (Gentle 0 k.L):=by show Gentle _ _;rw [HLL.out];exact Gentle.nil
     have hwA:IntKind.i64.wrap (k.wa+lo)=k.wa+lo:=by rw [IntKind.wrap_i64];omega
     have hwB:IntKind.i64.wrap (k.wa+lo-fe)=k.wa+lo-fe:=by rw [IntKind.wrap_i64];omega
     have hwC:IntKind.i64.wrap (lo-fe)=lo-fe:=by rw [IntKind.wrap_i64];omega
     go_region_with (fail)
     all_goals
      try simp only [hwA,hwB]
      replace e2:=HTT.out.cell (p:=⟨pe,2,none⟩) (by simpa using HNE.out) e2
      replace e5:=HTT.out.cell (p:=⟨pe,5,none⟩) (by simpa using HNE.out) e5
      replace v2:=HTT.out.cell (p:=⟨V,2,none⟩) (by simpa using HVP.out) v2
      have hdk:Keeps (w12.setCell ⟨p,2,none⟩ (.int .i64 (k.wa+lo-fe))) (w12.setCell ⟨p,2,none⟩ (.int .i64 (k.wa+lo-fe))).drew:=(Keeps.refl _).drew
      replace e2:=hdk.cell e2
      replace e5:=hdk.cell e5
      replace v2:=hdk.cell v2
      have HG:Hid (Gp W (w12.setCell ⟨p,2,none⟩ (.int .i64 (k.wa+lo-fe))).drew p ⟨k.tk,k.nx,k.wa+lo-fe,M,k.Hs,k.R⟩ k.L):=⟨_,HW2.out.kept hdk,HH0.out,rfl,rfl⟩
      clear hdk HW2 HTT c2 f2
      generalize (w12.setCell ⟨p,2,none⟩ (.int .i64 (k.wa+lo-fe))).drew=w14 at *
      go_wp2_with fail
      refine (line_gp HG.out 1 0 (lo-fe) 0 HGN.out (by decide) (by omega) (by omega)).mono ?_
      rintro e w15 ⟨rfl,hg,hv⟩
      replace e2:=hv _ _ _ HNE.out e2
      replace e5:=hv _ _ _ HNE.out e5
      replace v2:=hv _ _ _ HVP.out v2
      replace HG:=hide hg
      clear hg hv
      replace HGN:=hide (HGN.out.line 1 0 (lo-fe) (by omega) (by omega))
      go_wp2_with fail
      refine (line_gp HG.out 5 0 fe 1 HGN.out (by decide) (by omega) (by omega)).mono ?_
      rintro e w16 ⟨rfl,hg,hv⟩
      replace e2:=hv _ _ _ HNE.out e2
      replace v2:=hv _ _ _ HVP.out v2
      replace HG:=hide hg
      clear hg hv
      replace HGN:=hide (HGN.out.line 5 0 fe (by omega) (by omega))
      go_wp2_with fail
      refine (line_gp HG.out 6 ch (-lo) 2 HGN.out (by decide) (by omega) (by omega)).mono ?_
      rintro e w17 ⟨rfl,hg,hv⟩
      replace HG:=hide hg
      clear hg hv
      go_wp2_with fail
      first | go_end0 | go_ret2 | refine bodyPost_ret (results_none rfl _ _ _) rfl ?_
      refine ⟨rfl,?_⟩
      rw [HCB.out,HCL.out]
      exact HG.out.ends HC0.out
end Go.Proofs.YtccdhcempnkgaaaGreatDoor
