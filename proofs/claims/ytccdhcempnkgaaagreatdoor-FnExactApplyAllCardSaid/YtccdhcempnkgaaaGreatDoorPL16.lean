/- The model: a channel is opened. -/
import Derived.Test.YtccdhcempnkgaaaGreatDoorPL15
namespace Go.Proofs.YtccdhcempnkgaaaGreatDoor
open Go.RowKit Go.Deep
set_option linter.unusedVariables false
set_option linter.unusedSimpArgs false
set_option maxRecDepth 10000
def OS (k:Wk) (p pe:Nat) (ch am fe:Int) (w':World):Prop:=w'.cell? ⟨p,0,none⟩=some (.int .i64 k.tk)∧w'.cell? ⟨p,1,none⟩=some (.int .i64 k.nx)∧w'.cell? ⟨p,2,none⟩=some (.int .i64 k.wa)∧w'.cell? ⟨p,3,none⟩=some (.slice (some ⟨k.gC,0,none⟩) k.C.length k.cC)∧w'.cell? ⟨p,4,none⟩=some (.slice (some ⟨k.gH,0,none⟩) k.Hs.length k.cH)∧w'.cell? ⟨p,5,none⟩=some (.slice (some ⟨k.gR,0,none⟩) k.R.length k.cR)∧w'.cell? ⟨pe,2,none⟩=some (.int .i64 ch)∧w'.cell? ⟨pe,4,none⟩=some (.int .i64 am)∧w'.cell? ⟨pe,5,none⟩=some (.int .i64 fe)
theorem OS.kept {k:Wk} {p pe:Nat} {ch am fe:Int} {w w':World} (h:OS k p pe ch am fe w) (hk:Keeps w w'):OS k p pe ch am fe w':=by
 obtain ⟨s0,s1,s2,s3,s4,s5,s6,s7,s8⟩:=h
 exact ⟨hk.cell s0,hk.cell s1,hk.cell s2,hk.cell s3,hk.cell s4,hk.cell s5,hk.cell s6,hk.cell s7,hk.cell s8⟩
theorem OS.code {W w w':World} {k:Wk} {p pe:Nat} {ch am fe c:Int} (h:OS k p pe ch am fe w) (ht:Turn [p] w w') (hw:WkAt W w' p { k with cd:=c }) (hne:pe≠p):OS k p pe ch am fe w':=by
 obtain ⟨_,_,_,_,_,_,e1,e2,e3⟩:=h
 obtain ⟨q0,q1,q2,q3,q4,q5,_,_⟩:=hw.cells
 have hn:∀ i,(⟨pe,i,none⟩:Addr).block∉[p]:=fun i=>by simpa using hne
 exact ⟨q0,q1,q2,q3,q4,q5,ht.cell (hn 2) e1,ht.cell (hn 4) e2,ht.cell (hn 5) e3⟩
def openC (B:Bk) (ch am fe:Int):Int:=if addB am fe=false then 2 else if atC B.C ch≠none∨B.C.length=20 then 3 else if B.wa < am then 4 else 0
def insS (one:Chn) (s:List Chn × Bool) (c:Chn):List Chn × Bool:=if s.2=false∧one.id < c.id then (s.1++[one]++[c],true) else (s.1++[c],s.2)
def insTo (one:Chn) (C:List Chn):List Chn × Bool:=C.foldl (insS one) ([],false)
def insC (one:Chn) (C:List Chn):List Chn:=if (insTo one C).2=true then (insTo one C).1 else (insTo one C).1++[one]
def oneC (ch am fe:Int):Chn:=⟨ch,am+fe,am,fe,0,0,0⟩
def openB (B:Bk) (ch am fe:Int):Bk:=⟨B.tk,B.nx,B.wa-am,insC (oneC ch am fe) B.C,B.Hs,B.R⟩
def openL (ch am:Int) (L:List Ln):List Ln:=lineW (lineW L 1 0 (-am)) 6 ch am
theorem insTo_step (one:Chn) (C:List Chn) (j:Nat) (hj:j < C.length):insTo one (C.take (j+1))=insS one (insTo one (C.take j)) C[j]:=by
 have e:C.take (j+1)=C.take j++[C[j]]:=by rw [List.take_add_one,List.getElem?_eq_getElem hj];rfl
 rw [e]
 unfold insTo
 rw [List.foldl_append]
 rfl
theorem insTo_len (one:Chn) (C:List Chn):∀ s:List Chn × Bool,(C.foldl (insS one) s).1.length≤s.1.length+2*C.length:=by
 induction C with
 | nil=>intro s;simp
 | cons c C ih =>
   intro s
   rw [List.foldl_cons]
   have h1:=ih (insS one s c)
   have h2:(insS one s c).1.length≤s.1.length+2:=by unfold insS;split <;> simp
   simp only [List.length_cons]
   omega
theorem insTo_len2 (one:Chn) (C:List Chn) (j:Nat):(insTo one (C.take j)).1.length≤2*C.length:=by
 have h1:=insTo_len one (C.take j) ([],false)
 have h2:(C.take j).length≤C.length:=by rw [List.length_take];omega
 unfold insTo
 simp only [List.length_nil] at h1
 omega
def LInvO (w wr:World) (base V:Nat) (one:Chn) (v b:Value) (s:List Chn × Bool):Prop:=∃ g cap,v=.slice (some ⟨g,0,none⟩) s.1.length cap∧b=.bool s.2∧OwnsChan wr base (.slice (some ⟨g,0,none⟩) s.1.length cap) s.1∧w.heap.size≤g∧g≠V∧wr.rowIs V 78 7 (rw7 (.int .i64 one.id) (.int .i64 one.sz) (.int .i64 one.lo) (.int .i64 one.re) (.int .i64 one.ba) (.int .i64 one.pp) (.int .i64 one.sc))∧Keeps w wr∧w.heap.size≤V
theorem LInvO.app {w wx w':World} {base V g g' c':Nat} {one x:Chn} {M:List Chn} (hv:wx.rowIs V 78 7 (rw7 (.int .i64 one.id) (.int .i64 one.sz) (.int .i64 one.lo) (.int .i64 one.re) (.int .i64 one.ba) (.int .i64 one.pp) (.int .i64 one.sc))) (hk:Keeps w wx) (hg0:w.heap.size≤g) (hgV:g≠V) (hV:w.heap.size≤V) (ho:OwnsChan w' base (.slice (some ⟨g',0,none⟩) (M++[x]).length c') (M++[x])) (hg:wx.grownBy w' (some g)) (hat:g'=g∨g'=wx.heap.size) (d:Bool):LInvO w w' base V one (.slice (some ⟨g',0,none⟩) (M.length+1) c') (.bool d) (M++[x],d):=by
 have hlV:=hv.lt
 have h3:g'≠V:=by
  rcases hat with e | e
  ·rw [e];exact hgV
  ·rw [e];exact Nat.ne_of_gt hlV
 refine ⟨g',c',by rw [List.length_append];rfl,rfl,ho,?_,h3,row_other hv hg (Ne.symm hgV),(grown_turn hg).keeps hk (fun b hb=>by rw [List.mem_singleton.1 hb];exact hg0),hV⟩
 rcases hat with e | e
 ·rw [e];exact hg0
 ·rw [e];exact hk.size
set_option maxHeartbeats 8000000 in
theorem open_spec (W w:World) (p:Nat) (k:Wk) (h:WkAt W w p k) (hc:k.cd=0) (kd ky ch tt am fe:Int) (ys:Bool) (hC:k.C.length≤20) (hL:k.L=[]) (hw:0≤k.wa∧k.wa≤1125899906842624) (ha:0≤am∧am≤1125899906842624) (hf:0≤fe∧fe≤1125899906842624) :
 Calls Tryz.prog 37 #[.pointer (some ⟨p,0,none⟩),.agg #[.int .i64 kd,.int .i64 ky,.int .i64 ch,.int .i64 tt,.int .i64 am,.int .i64 fe,.bool ys]] w fun e w'=>e=.returned (.tuple #[])∧Ends W w' p (openC k.bk ch am fe) (openB k.bk ch am fe) (openL ch am k.L):=by
 have HW:=hide (h.kept ((Keeps.refl w).alloc (.cells #[.int .i64 kd,.int .i64 ky,.int .i64 ch,.int .i64 tt,.int .i64 am,.int .i64 fe,.bool ys] 41)))
 have HE1:=hide (rowc7 w (.int .i64 kd) (.int .i64 ky) (.int .i64 ch) (.int .i64 tt) (.int .i64 am) (.int .i64 fe) (.bool ys) 41)
 have HLS:Hid (OS k p w.heap.size ch am fe (w.alloc (.cells #[.int .i64 kd,.int .i64 ky,.int .i64 ch,.int .i64 tt,.int .i64 am,.int .i64 fe,.bool ys] 41))):=by
  obtain ⟨q0,q1,q2,q3,q4,q5,_,_⟩:=HW.out.cells
  obtain ⟨_,_,e2,_,e4,e5,_⟩:=unhide HE1 _ (Keeps.refl _)
  exact ⟨q0,q1,q2,q3,q4,q5,e2,e4,e5⟩
 have HNE:Hid (w.heap.size≠p):=fun e=>by have:=h.row.lt;omega
 have HH0:=hide hc
 have HLn:=hide hC
 have HCD:Hid (openC k.bk ch am fe=if addB am fe=false then 2 else if atC k.C ch≠none∨k.C.length=20 then 3 else if k.wa < am then 4 else 0):=rfl
 have HWA:=hide hw
 have HA1:=hide ha
 have HF1:=hide hf
 have HLL:=hide hL
 clear h hc hC hw ha hf hL HE1
 go_enter Tryz.func37,Tryz.ntmps37
 go_upto_region 1 with fail
 generalize (w.alloc (.cells #[.int .i64 kd,.int .i64 ky,.int .i64 ch,.int .i64 tt,.int .i64 am,.int .i64 fe,.bool ys] 41))=w1 at *
 generalize w.heap.size=pe at *
 obtain ⟨-,-,-,-,-,-,-,e4,e5⟩:=HLS.out
 go_wp2_with fail
 refine (addAmt_spec am fe _).mono ?_
 rintro _ w9 ⟨rfl,hw⟩
 obtain rfl:=Eq.symm hw
 clear hw e4 e5
 cases h4:addB am fe
 ·go_upto_region 2 with fail
  refine wp_region_perm [(false,0),(false,1),(false,2),(true,3),(false,4),(false,5),(false,6),(false,7),(false,8),(false,9),(false,10),(false,11),(true,12),(false,13),(false,14),(false,15),(false,16),(false,17),(false,18),(false,19),(false,20),(false,21),(false,22),(true,23),(false,24),(false,25),(false,26),(false,27),(false,28),(false,29),(false,30),(false,31),(false,32),(false,33),(false,34),(true,35),(false,36)] (OS k p pe ch am fe) (by kernel_rfl) (by kernel_rfl) rfl rfl (fun _ _ d _ _ h=>by cases d <;> exact h) (HLS.out.kept (Keeps.refl _).drew) ?_
  replace HW:=hide (HW.out.kept (Keeps.refl w1).drew)
  replace HLS:=hide (HLS.out.kept (Keeps.refl w1).drew)
  generalize w1.drew=w2 at *
  repeat (first
   | (refine wpPerm_no (by rfl) ?_
      try simp only [Act.put,List.setIfInBounds_toArray,List.set_cons_zero,List.set_cons_succ])
   | (refine wpPerm_yes (v:=?_) (by rfl) ?_ ?_
      rotate_left
      ·intro w9 hS9
       obtain ⟨s0,s1,s2,s3,s4,s5,s6,s7,s8⟩:=hS9
       go_simp
       with_reducible rfl
      try simp only [Act.put,List.setIfInBounds_toArray,List.set_cons_zero,List.set_cons_succ]))
  refine wpPerm_do (by rfl) ?_
  intro K9 hK9
  go_simp
  refine (code_yes W _ p k 2 HH0.out (by decide) HW.out).mono ?_
  rintro e w3 ⟨rfl,hw,ht⟩
  have HEX:Hid (∀ B L,Ends W w3 p (openC k.bk ch am fe) B L):=fun B L=>⟨_,hw,by rw [HCD.out,if_pos h4],fun h0=>absurd h0 (by rw [HCD.out,if_pos h4];decide)⟩
  refine hK9.out _ _ (HLS.out.code ht hw HNE.out) ?_
  clear hK9 K9
  try simp only [Act.put,List.setIfInBounds_toArray,List.set_cons_zero,List.set_cons_succ]
  clear hw ht HLS HW
  repeat (first
   | (refine wpPerm_no (by rfl) ?_
      try simp only [Act.put,List.setIfInBounds_toArray,List.set_cons_zero,List.set_cons_succ])
   | (refine wpPerm_yes (v:=?_) (by rfl) ?_ ?_
      rotate_left
      ·intro w9 hS9
       obtain ⟨s0,s1,s2,s3,s4,s5,s6,s7,s8⟩:=hS9
       go_simp
       with_reducible rfl
      try simp only [Act.put,List.setIfInBounds_toArray,List.set_cons_zero,List.set_cons_succ]))
  refine wpPerm_end ?_
  go_wp2_with fail
  first | go_end0 | go_ret2 | refine bodyPost_ret (results_none rfl _ _ _) rfl ?_
  exact ⟨rfl,HEX.out _ _⟩
 have HV4:Hid (addV am fe=am+fe):=by show _=_;unfold addV;rw [if_pos h4]
 rw [HV4.out]
 go_upto_region 2 with fail
 refine wp_region_perm [(false,0),(false,1),(false,2),(true,3),(false,4),(false,5),(false,6),(false,7),(false,8),(false,9),(false,10),(false,11),(true,12),(false,13),(false,14),(false,15),(false,16),(false,17),(false,18),(false,19),(false,20),(false,21),(false,22),(true,23),(false,24),(false,25),(false,26),(false,27),(false,28),(false,29),(false,30),(false,31),(false,32),(false,33),(false,34),(true,35),(false,36)] (OS k p pe ch am fe) (by kernel_rfl) (by kernel_rfl) rfl rfl (fun _ _ d _ _ h=>by cases d <;> exact h) (HLS.out.kept (Keeps.refl _).drew) ?_
 replace HW:=hide (HW.out.kept (Keeps.refl w1).drew)
 replace HLS:=hide (HLS.out.kept (Keeps.refl w1).drew)
 generalize w1.drew=w2 at *
 repeat (first
  | (refine wpPerm_no (by rfl) ?_
     try simp only [Act.put,List.setIfInBounds_toArray,List.set_cons_zero,List.set_cons_succ])
  | (refine wpPerm_yes (v:=?_) (by rfl) ?_ ?_
     rotate_left
     ·intro w9 hS9
      obtain ⟨s0,s1,s2,s3,s4,s5,s6,s7,s8⟩:=hS9
      go_simp
      with_reducible rfl
     try simp only [Act.put,List.setIfInBounds_toArray,List.set_cons_zero,List.set_cons_succ]))
 refine wpPerm_do (by rfl) ?_
 intro K9 hK9
 go_simp
 refine (code_no W _ p k 2 HH0.out HW.out).mono ?_
 rintro e w3 ⟨rfl,hk⟩
 refine hK9.out _ _ (HLS.out.kept hk) ?_
 clear hK9 K9
 try simp only [Act.put,List.setIfInBounds_toArray,List.set_cons_zero,List.set_cons_succ]
 replace HW:=hide (HW.out.kept hk)
 replace HLS:=hide (HLS.out.kept hk)
 clear hk
 repeat (first
  | (refine wpPerm_no (by rfl) ?_
     try simp only [Act.put,List.setIfInBounds_toArray,List.set_cons_zero,List.set_cons_succ])
  | (refine wpPerm_yes (v:=?_) (by rfl) ?_ ?_
     rotate_left
     ·intro w9 hS9
      obtain ⟨s0,s1,s2,s3,s4,s5,s6,s7,s8⟩:=hS9
      go_simp
      with_reducible rfl
     try simp only [Act.put,List.setIfInBounds_toArray,List.set_cons_zero,List.set_cons_succ]))
 refine wpPerm_do (by rfl) ?_
 intro K9 hK9
 go_simp
 refine (at_spec k.bo ch _ HW.out.mem (Nat.le_trans HLn.out (by decide))).mono ?_
 rintro e w4 ⟨rfl,hk⟩
 refine hK9.out _ _ (HLS.out.kept hk) ?_
 clear hK9 K9
 try simp only [Act.put,List.setIfInBounds_toArray,List.set_cons_zero,List.set_cons_succ]
 replace HW:=hide (HW.out.kept hk)
 replace HLS:=hide (HLS.out.kept hk)
 clear hk
 rw [show atI k.bo.C ch=atI k.C ch from rfl]
 cases hat:atC k.C ch with
 | some i =>
   rw [atI_some hat]
   have hd1:decide ((i:Int) ≥ 0)=true:=by simp
   have hd2:decide (0≤(i:Int))=true:=by simp
   repeat (first
    | (refine wpPerm_no (by rfl) ?_
       try simp only [Act.put,List.setIfInBounds_toArray,List.set_cons_zero,List.set_cons_succ])
    | (refine wpPerm_yes (v:=?_) (by rfl) ?_ ?_
       rotate_left
       ·intro w9 hS9
        obtain ⟨s0,s1,s2,s3,s4,s5,s6,s7,s8⟩:=hS9
        go_simp
        with_reducible rfl
       try simp only [Act.put,List.setIfInBounds_toArray,List.set_cons_zero,List.set_cons_succ]))
   refine wpPerm_do (by rfl) ?_
   intro K9 hK9
   go_simp
   refine (code_yes W _ p k 3 HH0.out (by decide) HW.out).mono ?_
   rintro e w5 ⟨rfl,hw,ht⟩
   have HEX:Hid (∀ B L,Ends W w5 p (openC k.bk ch am fe) B L):=fun B L=>⟨_,hw,by rw [HCD.out,if_neg (by rw [h4];decide),if_pos (Or.inl (by rw [hat];simp))],fun h0=>absurd h0 (by rw [HCD.out,if_neg (by rw [h4];decide),if_pos (Or.inl (by rw [hat];simp))];decide)⟩
   refine hK9.out _ _ (HLS.out.code ht hw HNE.out) ?_
   clear hK9 K9
   try simp only [Act.put,List.setIfInBounds_toArray,List.set_cons_zero,List.set_cons_succ]
   clear hw ht HLS HW
   repeat (first
    | (refine wpPerm_no (by rfl) ?_
       try simp only [Act.put,List.setIfInBounds_toArray,List.set_cons_zero,List.set_cons_succ])
    | (refine wpPerm_yes (v:=?_) (by rfl) ?_ ?_
       rotate_left
       ·intro w9 hS9
        obtain ⟨s0,s1,s2,s3,s4,s5,s6,s7,s8⟩:=hS9
        go_simp
        with_reducible rfl
       try simp only [Act.put,List.setIfInBounds_toArray,List.set_cons_zero,List.set_cons_succ]))
   refine wpPerm_end ?_
   go_wp2_with fail
   first | go_end0 | go_ret2 | refine bodyPost_ret (results_none rfl _ _ _) rfl ?_
   exact ⟨rfl,HEX.out _ _⟩
 | none =>
   rw [show atI k.C ch=-1 by simp [atI,hat]]
   have hd1:decide ((-1:Int) ≥ 0)=false:=by decide
   have hd2:decide (0≤(-1:Int))=false:=by decide
   by_cases h20:k.C.length=20
   ·have hd3:((k.C.length:Int)==20)=true:=by simp;omega
    repeat (first
     | (refine wpPerm_no (by rfl) ?_
        try simp only [Act.put,List.setIfInBounds_toArray,List.set_cons_zero,List.set_cons_succ])
     | (refine wpPerm_yes (v:=?_) (by rfl) ?_ ?_
        rotate_left
        ·intro w9 hS9
         obtain ⟨s0,s1,s2,s3,s4,s5,s6,s7,s8⟩:=hS9
         go_simp
         with_reducible rfl
        try simp only [Act.put,List.setIfInBounds_toArray,List.set_cons_zero,List.set_cons_succ]))
    refine wpPerm_do (by rfl) ?_
    intro K9 hK9
    go_simp
    refine (code_yes W _ p k 3 HH0.out (by decide) HW.out).mono ?_
    rintro e w5 ⟨rfl,hw,ht⟩
    have HEX:Hid (∀ B L,Ends W w5 p (openC k.bk ch am fe) B L):=fun B L=>⟨_,hw,by rw [HCD.out,if_neg (by rw [h4];decide),if_pos (Or.inr h20)],fun h0=>absurd h0 (by rw [HCD.out,if_neg (by rw [h4];decide),if_pos (Or.inr h20)];decide)⟩
    refine hK9.out _ _ (HLS.out.code ht hw HNE.out) ?_
    clear hK9 K9
    try simp only [Act.put,List.setIfInBounds_toArray,List.set_cons_zero,List.set_cons_succ]
    clear hw ht HLS HW
    repeat (first
     | (refine wpPerm_no (by rfl) ?_
        try simp only [Act.put,List.setIfInBounds_toArray,List.set_cons_zero,List.set_cons_succ])
     | (refine wpPerm_yes (v:=?_) (by rfl) ?_ ?_
        rotate_left
        ·intro w9 hS9
         obtain ⟨s0,s1,s2,s3,s4,s5,s6,s7,s8⟩:=hS9
         go_simp
         with_reducible rfl
        try simp only [Act.put,List.setIfInBounds_toArray,List.set_cons_zero,List.set_cons_succ]))
    refine wpPerm_end ?_
    go_wp2_with fail
    first | go_end0 | go_ret2 | refine bodyPost_ret (results_none rfl _ _ _) rfl ?_
    exact ⟨rfl,HEX.out _ _⟩
   have hd3:((k.C.length:Int)==20)=false:=by simp;omega
   repeat (first
    | (refine wpPerm_no (by rfl) ?_
       try simp only [Act.put,List.setIfInBounds_toArray,List.set_cons_zero,List.set_cons_succ])
    | (refine wpPerm_yes (v:=?_) (by rfl) ?_ ?_
       rotate_left
       ·intro w9 hS9
        obtain ⟨s0,s1,s2,s3,s4,s5,s6,s7,s8⟩:=hS9
        go_simp
        with_reducible rfl
       try simp only [Act.put,List.setIfInBounds_toArray,List.set_cons_zero,List.set_cons_succ]))
   refine wpPerm_do (by rfl) ?_
   intro K9 hK9
   go_simp
   refine (code_no W _ p k 3 HH0.out HW.out).mono ?_
   rintro e w5 ⟨rfl,hk⟩
   refine hK9.out _ _ (HLS.out.kept hk) ?_
   clear hK9 K9
   try simp only [Act.put,List.setIfInBounds_toArray,List.set_cons_zero,List.set_cons_succ]
   replace HW:=hide (HW.out.kept hk)
   replace HLS:=hide (HLS.out.kept hk)
   clear hk
   by_cases hwl:k.wa < am
   ·have hd5:decide (k.wa < am)=true:=decide_eq_true hwl
    repeat (first
     | (refine wpPerm_no (by rfl) ?_
        try simp only [Act.put,List.setIfInBounds_toArray,List.set_cons_zero,List.set_cons_succ])
     | (refine wpPerm_yes (v:=?_) (by rfl) ?_ ?_
        rotate_left
        ·intro w9 hS9
         obtain ⟨s0,s1,s2,s3,s4,s5,s6,s7,s8⟩:=hS9
         go_simp
         with_reducible rfl
        try simp only [Act.put,List.setIfInBounds_toArray,List.set_cons_zero,List.set_cons_succ]))
    refine wpPerm_do (by rfl) ?_
    intro K9 hK9
    go_simp
    refine (code_yes W _ p k 4 HH0.out (by decide) HW.out).mono ?_
    rintro e w6 ⟨rfl,hw,ht⟩
    have HEX:Hid (∀ B L,Ends W w6 p (openC k.bk ch am fe) B L):=fun B L=>⟨_,hw,by rw [HCD.out,if_neg (by rw [h4];decide),if_neg (by rw [hat];simp [h20]),if_pos hwl],fun h0=>absurd h0 (by rw [HCD.out,if_neg (by rw [h4];decide),if_neg (by rw [hat];simp [h20]),if_pos hwl];decide)⟩
    refine hK9.out _ _ (HLS.out.code ht hw HNE.out) ?_
    clear hK9 K9
    try simp only [Act.put,List.setIfInBounds_toArray,List.set_cons_zero,List.set_cons_succ]
    clear hw ht HLS HW
    repeat (first
     | (refine wpPerm_no (by rfl) ?_
        try simp only [Act.put,List.setIfInBounds_toArray,List.set_cons_zero,List.set_cons_succ])
     | (refine wpPerm_yes (v:=?_) (by rfl) ?_ ?_
        rotate_left
        ·intro w9 hS9
         obtain ⟨s0,s1,s2,s3,s4,s5,s6,s7,s8⟩:=hS9
         go_simp
         with_reducible rfl
        try simp only [Act.put,List.setIfInBounds_toArray,List.set_cons_zero,List.set_cons_succ]))
    refine wpPerm_end ?_
    go_wp2_with fail
    first | go_end0 | go_ret2 | refine bodyPost_ret (results_none rfl _ _ _) rfl ?_
    exact ⟨rfl,HEX.out _ _⟩
   have hd5:decide (k.wa < am)=false:=decide_eq_false hwl
   repeat (first
    | (refine wpPerm_no (by rfl) ?_
       try simp only [Act.put,List.setIfInBounds_toArray,List.set_cons_zero,List.set_cons_succ])
    | (refine wpPerm_yes (v:=?_) (by rfl) ?_ ?_
       rotate_left
       ·intro w9 hS9
        obtain ⟨s0,s1,s2,s3,s4,s5,s6,s7,s8⟩:=hS9
        go_simp
        with_reducible rfl
       try simp only [Act.put,List.setIfInBounds_toArray,List.set_cons_zero,List.set_cons_succ]))
   refine wpPerm_do (by rfl) ?_
   intro K9 hK9
   go_simp
   refine (code_no W _ p k 4 HH0.out HW.out).mono ?_
   rintro e w6 ⟨rfl,hk⟩
   refine hK9.out _ _ (HLS.out.kept hk) ?_
   clear hK9 K9
   try simp only [Act.put,List.setIfInBounds_toArray,List.set_cons_zero,List.set_cons_succ]
   replace HW:=hide (HW.out.kept hk)
   replace HLS:=hide (HLS.out.kept hk)
   clear hk
   repeat (first
    | (refine wpPerm_no (by rfl) ?_
       try simp only [Act.put,List.setIfInBounds_toArray,List.set_cons_zero,List.set_cons_succ])
    | (refine wpPerm_yes (v:=?_) (by rfl) ?_ ?_
       rotate_left
       ·intro w9 hS9
        obtain ⟨s0,s1,s2,s3,s4,s5,s6,s7,s8⟩:=hS9
        go_simp
        with_reducible rfl
       try simp only [Act.put,List.setIfInBounds_toArray,List.set_cons_zero,List.set_cons_succ]))
   refine wpPerm_end ?_
   have HC0:Hid (openC k.bk ch am fe=0):=by show _=_;rw [HCD.out,if_neg (by rw [h4];decide),if_neg (by rw [hat];simp [h20]),if_neg hwl]
   clear hd1 hd2 hd3 hd5 HCD
   have HOE:Hid (OwnsChan (w6.alloc (.cells #[] 78)) W.heap.size (.slice (some ⟨w6.heap.size,0,none⟩) 0 0) []):=⟨by simp [chs],.inr ⟨w6.heap.size,0,#[],rfl,HW.out.keep.size,blk_alloc_new w6 _,by simp,by simp [maxLen],by simp,by simp [chs]⟩⟩
   have HKE:=hide (Keeps.alloc (Keeps.refl w6) (.cells #[] 78))
   have HSZ6:Hid ((w6.alloc (.cells #[] 78)).heap.size=w6.heap.size+1):=by show _=_;simp
   go_upto_region 5 with fail
   generalize w6.alloc (.cells #[] 78)=w7 at *
   obtain ⟨-,-,-,-,-,-,e2,e4,e5⟩:=HLS.out.kept HKE.out
   have HKF:=hide (Keeps.alloc (Keeps.refl w7) (.cells #[.int .i64 ch,.int .i64 (am+fe),.int .i64 am,.int .i64 fe,.int .i64 0,.int .i64 0,.int .i64 0] 78))
   have HVE:=hide (rw7_new w7 (.int .i64 ch) (.int .i64 (am+fe)) (.int .i64 am) (.int .i64 fe) (.int .i64 0) (.int .i64 0) (.int .i64 0) 78)
   replace HOE:=hide (HOE.out.alloc (.cells #[.int .i64 ch,.int .i64 (am+fe),.int .i64 am,.int .i64 fe,.int .i64 0,.int .i64 0,.int .i64 0] 78))
   replace HKE:=hide (HKE.out.trans HKF.out)
   go_upto_region 6 with fail
   generalize w7.alloc (.cells #[.int .i64 ch,.int .i64 (am+fe),.int .i64 am,.int .i64 fe,.int .i64 0,.int .i64 0,.int .i64 0] 78)=w8 at *
   have HI0:Hid (LInvO w6 w8 W.heap.size w7.heap.size (oneC ch am fe) (.slice (some ⟨w6.heap.size,0,none⟩) 0 0) (.bool false) (insTo (oneC ch am fe) (k.C.take 0))):=⟨w6.heap.size,0,rfl,rfl,HOE.out,Nat.le_refl _,by rw [HSZ6.out];omega,HVE.out,HKE.out,by rw [HSZ6.out];omega⟩
   obtain ⟨-,-,-,s3,-,-,-,-,-⟩:=HLS.out.kept HKE.out
   clear HOE HKE HKF HVE HSZ6 e2 e4 e5
   generalize w7.heap.size=V at *
   go_wp2_with fail
   clear s3
   go_loopw [6,7,71] (fun v b y wr=>∃ j:Nat,j≤k.C.length∧y=.int .i64 (j:Int)∧Hid (LInvO w6 wr W.heap.size V (oneC ch am fe) v b (insTo (oneC ch am fe) (k.C.take j)))) (fun _ _ y _=>k.C.length-(intOf y).toNat)
   case atStart=>exact ⟨0,by omega,rfl,HI0⟩
   case round =>
    obtain ⟨j,hj,rfl,HI⟩:=hrel
    clear HI0
    have hln:=HLn.out
    by_cases hlt:j < k.C.length
    ·have HS:=hide (insTo_step (oneC ch am fe) k.C j hlt)
     have HLM:=hide (insTo_len2 (oneC ch am fe) k.C j)
     generalize insTo (oneC ch am fe) (k.C.take j)=s at *
     obtain ⟨M,d⟩:=s
     dsimp only at HLM
     obtain ⟨g,cap,rfl,rfl,ho,hg0,hgV,hrV,hkr,hV⟩:=HI.out
     dsimp only at ho
     obtain ⟨q0,q1,q2,q3,q4,q5,q6⟩:=(HW.out.kept hkr).oC.at j hlt
     have hz:j*7+7≤k.C.length*7:=by omega
     generalize k.C[j]=x at *
     obtain ⟨x0,x1,x2,x3,x4,x5,x6⟩:=x
     dsimp only at q0 q1 q2 q3 q4 q5 q6
     have HYg:Hid (wr.heap.size≠g):=Nat.ne_of_gt (ho.lt g rfl).2
     have HO:=hide (ho.alloc (.cells #[.int .i64 x0,.int .i64 x1,.int .i64 x2,.int .i64 x3,.int .i64 x4,.int .i64 x5,.int .i64 x6] 78))
     have HKA:=hide (Keeps.alloc (Keeps.refl wr) (.cells #[.int .i64 x0,.int .i64 x1,.int .i64 x2,.int .i64 x3,.int .i64 x4,.int .i64 x5,.int .i64 x6] 78))
     have HVR:=hide (HKA.out.rowK hrV)
     have HYR:=hide (rw7_new wr (.int .i64 x0) (.int .i64 x1) (.int .i64 x2) (.int .i64 x3) (.int .i64 x4) (.int .i64 x5) (.int .i64 x6) 78)
     have HKR:=hide (hkr.trans HKA.out)
     have HB:=hide (And.intro hg0 (And.intro hgV hV))
     clear ho hkr hg0 hgV hrV hV HI HKA
     dsimp only
     go_upto_region 9 with fail
     generalize wr.alloc (.cells #[.int .i64 x0,.int .i64 x1,.int .i64 x2,.int .i64 x3,.int .i64 x4,.int .i64 x5,.int .i64 x6] 78)=wp at *
     generalize wr.heap.size=Y at *
     obtain ⟨y0,y1,y2,y3,y4,y5,y6⟩:=rw7_cells HYR.out
     obtain ⟨v0,v1,v2,v3,v4,v5,v6⟩:=rw7_cells HVR.out
     dsimp only [oneC] at v0 v1 v2 v3 v4 v5 v6
     obtain ⟨-,-,-,-,-,-,s6,-,-⟩:=HLS.out.kept HKR.out
     clear q0 q1 q2 q3 q4 q5 q6 HYR
     cases d
     ·by_cases hx:ch < x0
      ·have hd1:decide (x0 > ch)=true:=decide_eq_true hx
       have hd2:decide (ch < x0)=true:=decide_eq_true hx
       have HM2:=hide (one_Chan wp (oneC ch am fe))
       have HKB:=hide (Keeps.alloc (Keeps.refl wp) (.cells #[.int .i64 ch,.int .i64 (am+fe),.int .i64 am,.int .i64 fe,.int .i64 0,.int .i64 0,.int .i64 0] 78))
       have HO2:=hide (HO.out.alloc (.cells #[.int .i64 ch,.int .i64 (am+fe),.int .i64 am,.int .i64 fe,.int .i64 0,.int .i64 0,.int .i64 0] 78))
       have HV2:=hide (HKB.out.rowK HVR.out)
       have HK2:=hide (HKR.out.trans HKB.out)
       have HSZ:Hid (W.heap.size≤(wp.alloc (.cells #[.int .i64 ch,.int .i64 (am+fe),.int .i64 am,.int .i64 fe,.int .i64 0,.int .i64 0,.int .i64 0] 78)).heap.size):=Nat.le_trans HW.out.keep.size HK2.out.size
       dsimp only [oneC] at HM2
       clear HO HVR HKR
       go_upto_region 11 with (at_builtin;refine appL_Chan rfl (.tmp 84) (.tmp 86) rfl W.heap.size g cap M (oneC ch am fe) rfl ⟨wp.heap.size,0,none⟩ 1 rfl HM2.out HO2.out (by have:=HLM.out;have:=HLn.out;omega) HSZ.out ?_;intro gA cA wA ho hg hat)
       have HI1:=hide (LInvO.app HV2.out HK2.out HB.out.1 HB.out.2.1 HB.out.2.2 ho hg hat true)
       have HTG:=hide ((Turn.of_keeps HKB.out [g]).trans' (grown_turn hg))
       clear ho hg hat HO2 HM2 HKB HSZ HV2 HK2 HB
       replace y0:=HTG.out.cell (p:=⟨Y,0,none⟩) (by simpa using HYg.out) y0
       replace y1:=HTG.out.cell (p:=⟨Y,1,none⟩) (by simpa using HYg.out) y1
       replace y2:=HTG.out.cell (p:=⟨Y,2,none⟩) (by simpa using HYg.out) y2
       replace y3:=HTG.out.cell (p:=⟨Y,3,none⟩) (by simpa using HYg.out) y3
       replace y4:=HTG.out.cell (p:=⟨Y,4,none⟩) (by simpa using HYg.out) y4
       replace y5:=HTG.out.cell (p:=⟨Y,5,none⟩) (by simpa using HYg.out) y5
       replace y6:=HTG.out.cell (p:=⟨Y,6,none⟩) (by simpa using HYg.out) y6
       clear v0 v1 v2 v3 v4 v5 v6 s6 HTG
       obtain ⟨M1,hM1⟩:∃ M1,M1=M++[(oneC ch am fe)]:=⟨_,rfl⟩
       have hl1:M.length+1=M1.length:=by rw [hM1,List.length_append];rfl
       rw [← hM1,hl1] at HI1
       rw [hl1]
       have HM1:=hide hM1
       have HL1:=hide hl1
       clear hM1 hl1
       obtain ⟨g,cap,he,-,ho,hg0,hgV,hrV,hkr,hV⟩:=HI1.out
       injection he with he1 _ he2
       injection he1 with he1
       injection he1 with he1
       subst he1 he2
       have HO:=hide ho
       have HVR:=hide hrV
       have HKR:=hide hkr
       have HB:=hide (And.intro hg0 (And.intro hgV hV))
       clear ho hg0 hgV hrV hkr hV HI1
       dsimp only at HO
       have HM2:=hide (one_Chan wA ⟨x0,x1,x2,x3,x4,x5,x6⟩)
       have HKB:=hide (Keeps.alloc (Keeps.refl wA) (.cells #[.int .i64 x0,.int .i64 x1,.int .i64 x2,.int .i64 x3,.int .i64 x4,.int .i64 x5,.int .i64 x6] 78))
       have HO2:=hide (HO.out.alloc (.cells #[.int .i64 x0,.int .i64 x1,.int .i64 x2,.int .i64 x3,.int .i64 x4,.int .i64 x5,.int .i64 x6] 78))
       have HV2:=hide (HKB.out.rowK HVR.out)
       have HK2:=hide (HKR.out.trans HKB.out)
       have HSZ:Hid (W.heap.size≤(wA.alloc (.cells #[.int .i64 x0,.int .i64 x1,.int .i64 x2,.int .i64 x3,.int .i64 x4,.int .i64 x5,.int .i64 x6] 78)).heap.size):=Nat.le_trans HW.out.keep.size HK2.out.size
       dsimp only [oneC] at HM2
       clear HO HVR HKR
       go_upto_region 13 with (at_builtin;refine appL_Chan rfl (.tmp 88) (.tmp 90) rfl W.heap.size gA cA M1 ⟨x0,x1,x2,x3,x4,x5,x6⟩ rfl ⟨wA.heap.size,0,none⟩ 1 rfl HM2.out HO2.out (by have:=HLM.out;have:=HLn.out;have:=HL1.out;omega) HSZ.out ?_;intro gB cB wB ho hg hat)
       have HI1:=hide (LInvO.app HV2.out HK2.out HB.out.1 HB.out.2.1 HB.out.2.2 ho hg hat true)
       have HTG:=hide ((Turn.of_keeps HKB.out [gA]).trans' (grown_turn hg))
       clear ho hg hat HO2 HM2 HKB HSZ HV2 HK2 HB
       have HI2:Hid (LInvO w6 wB W.heap.size V (oneC ch am fe) (.slice (some ⟨gB,0,none⟩) (M1.length+1) cB) (.bool true) (insTo (oneC ch am fe) (k.C.take (j+1)))):=by
        show LInvO _ _ _ _ _ _ _ _
        rw [HS.out,insS,if_pos ⟨rfl,hx⟩,← HM1.out]
        exact HI1.out
       clear HI1 HTG
       go_wp2_with fail
       go_roundw
       case rel=>exact ⟨j+1,by omega,by go_num,HI2⟩
       case measure=>simp [intOf];omega
      ·have hd1:decide (x0 > ch)=false:=decide_eq_false hx
       have hd2:decide (ch < x0)=false:=decide_eq_false hx
       have HM2:=hide (one_Chan wp ⟨x0,x1,x2,x3,x4,x5,x6⟩)
       have HKB:=hide (Keeps.alloc (Keeps.refl wp) (.cells #[.int .i64 x0,.int .i64 x1,.int .i64 x2,.int .i64 x3,.int .i64 x4,.int .i64 x5,.int .i64 x6] 78))
       have HO2:=hide (HO.out.alloc (.cells #[.int .i64 x0,.int .i64 x1,.int .i64 x2,.int .i64 x3,.int .i64 x4,.int .i64 x5,.int .i64 x6] 78))
       have HV2:=hide (HKB.out.rowK HVR.out)
       have HK2:=hide (HKR.out.trans HKB.out)
       have HSZ:Hid (W.heap.size≤(wp.alloc (.cells #[.int .i64 x0,.int .i64 x1,.int .i64 x2,.int .i64 x3,.int .i64 x4,.int .i64 x5,.int .i64 x6] 78)).heap.size):=Nat.le_trans HW.out.keep.size HK2.out.size
       dsimp only [oneC] at HM2
       clear HO HVR HKR
       go_upto_region 13 with (at_builtin;refine appL_Chan rfl (.tmp 88) (.tmp 90) rfl W.heap.size g cap M ⟨x0,x1,x2,x3,x4,x5,x6⟩ rfl ⟨wp.heap.size,0,none⟩ 1 rfl HM2.out HO2.out (by have:=HLM.out;have:=HLn.out;omega) HSZ.out ?_;intro gA cA wA ho hg hat)
       have HI1:=hide (LInvO.app HV2.out HK2.out HB.out.1 HB.out.2.1 HB.out.2.2 ho hg hat false)
       have HTG:=hide ((Turn.of_keeps HKB.out [g]).trans' (grown_turn hg))
       clear ho hg hat HO2 HM2 HKB HSZ HV2 HK2 HB
       have HI2:Hid (LInvO w6 wA W.heap.size V (oneC ch am fe) (.slice (some ⟨gA,0,none⟩) (M.length+1) cA) (.bool false) (insTo (oneC ch am fe) (k.C.take (j+1)))):=by
        show LInvO _ _ _ _ _ _ _ _
        rw [HS.out,insS,if_neg (fun h=>hx h.2)]
        exact HI1.out
       clear HI1 HTG
       go_wp2_with fail
       go_roundw
       case rel=>exact ⟨j+1,by omega,by go_num,HI2⟩
       case measure=>simp [intOf];omega
     ·skip
      have HM2:=hide (one_Chan wp ⟨x0,x1,x2,x3,x4,x5,x6⟩)
      have HKB:=hide (Keeps.alloc (Keeps.refl wp) (.cells #[.int .i64 x0,.int .i64 x1,.int .i64 x2,.int .i64 x3,.int .i64 x4,.int .i64 x5,.int .i64 x6] 78))
      have HO2:=hide (HO.out.alloc (.cells #[.int .i64 x0,.int .i64 x1,.int .i64 x2,.int .i64 x3,.int .i64 x4,.int .i64 x5,.int .i64 x6] 78))
      have HV2:=hide (HKB.out.rowK HVR.out)
      have HK2:=hide (HKR.out.trans HKB.out)
      have HSZ:Hid (W.heap.size≤(wp.alloc (.cells #[.int .i64 x0,.int .i64 x1,.int .i64 x2,.int .i64 x3,.int .i64 x4,.int .i64 x5,.int .i64 x6] 78)).heap.size):=Nat.le_trans HW.out.keep.size HK2.out.size
      dsimp only [oneC] at HM2
      clear HO HVR HKR
      go_upto_region 13 with (at_builtin;refine appL_Chan rfl (.tmp 88) (.tmp 90) rfl W.heap.size g cap M ⟨x0,x1,x2,x3,x4,x5,x6⟩ rfl ⟨wp.heap.size,0,none⟩ 1 rfl HM2.out HO2.out (by have:=HLM.out;have:=HLn.out;omega) HSZ.out ?_;intro gA cA wA ho hg hat)
      have HI1:=hide (LInvO.app HV2.out HK2.out HB.out.1 HB.out.2.1 HB.out.2.2 ho hg hat true)
      have HTG:=hide ((Turn.of_keeps HKB.out [g]).trans' (grown_turn hg))
      clear ho hg hat HO2 HM2 HKB HSZ HV2 HK2 HB
      have HI2:Hid (LInvO w6 wA W.heap.size V (oneC ch am fe) (.slice (some ⟨gA,0,none⟩) (M.length+1) cA) (.bool true) (insTo (oneC ch am fe) (k.C.take (j+1)))):=by
       show LInvO _ _ _ _ _ _ _ _
       rw [HS.out,insS,if_neg (fun h=>Bool.noConfusion h.1)]
       exact HI1.out
      clear HI1 HTG
      go_wp2_with fail
      go_roundw
      case rel=>exact ⟨j+1,by omega,by go_num,HI2⟩
      case measure=>simp [intOf];omega
    ·have e:j=k.C.length:=by omega
     subst e
     rw [List.take_length] at HI
     clear hlt hj
     have HCB:Hid (openB k.bk ch am fe=⟨k.tk,k.nx,k.wa-am,if (insTo (oneC ch am fe) k.C).2=true then (insTo (oneC ch am fe) k.C).1 else (insTo (oneC ch am fe) k.C).1++[(oneC ch am fe)],k.Hs,k.R⟩):=rfl
     have HLM:Hid ((insTo (oneC ch am fe) k.C).1.length≤2*k.C.length):=by have:=insTo_len2 (oneC ch am fe) k.C k.C.length;rw [List.take_length] at this;exact this
     generalize insTo (oneC ch am fe) k.C=s at *
     obtain ⟨M,d⟩:=s
     dsimp only at HCB HLM
     obtain ⟨g,cap,rfl,rfl,ho,hg0,hgV,hrV,hkr,hV⟩:=HI.out
     dsimp only at ho
     have HO:=hide ho
     have HVR:=hide hrV
     have HKR:=hide hkr
     have HB:=hide (And.intro hg0 (And.intro hgV hV))
     clear ho hg0 hgV hrV hkr hV HI
     dsimp only
     cases d
     ·replace HCB:Hid (openB k.bk ch am fe=⟨k.tk,k.nx,k.wa-am,M++[(oneC ch am fe)],k.Hs,k.R⟩):=HCB.out
      obtain ⟨v0,v1,v2,v3,v4,v5,v6⟩:=rw7_cells HVR.out
      dsimp only [oneC] at v0 v1 v2 v3 v4 v5 v6
      have HM2:=hide (one_Chan wr (oneC ch am fe))
      have HKB:=hide (Keeps.alloc (Keeps.refl wr) (.cells #[.int .i64 ch,.int .i64 (am+fe),.int .i64 am,.int .i64 fe,.int .i64 0,.int .i64 0,.int .i64 0] 78))
      have HO2:=hide (HO.out.alloc (.cells #[.int .i64 ch,.int .i64 (am+fe),.int .i64 am,.int .i64 fe,.int .i64 0,.int .i64 0,.int .i64 0] 78))
      have HV2:=hide (HKB.out.rowK HVR.out)
      have HK2:=hide (HKR.out.trans HKB.out)
      have HSZ:Hid (W.heap.size≤(wr.alloc (.cells #[.int .i64 ch,.int .i64 (am+fe),.int .i64 am,.int .i64 fe,.int .i64 0,.int .i64 0,.int .i64 0] 78)).heap.size):=Nat.le_trans HW.out.keep.size HK2.out.size
      dsimp only [oneC] at HM2
      clear HO HVR HKR
      go_upto_region 16 with (at_builtin;refine appL_Chan rfl (.tmp 95) (.tmp 97) rfl W.heap.size g cap M (oneC ch am fe) rfl ⟨wr.heap.size,0,none⟩ 1 rfl HM2.out HO2.out (by have:=HLM.out;have:=HLn.out;omega) HSZ.out ?_;intro gA cA wA ho hg hat)
      have HI1:=hide (LInvO.app HV2.out HK2.out HB.out.1 HB.out.2.1 HB.out.2.2 ho hg hat true)
      have HTG:=hide ((Turn.of_keeps HKB.out [g]).trans' (grown_turn hg))
      clear ho hg hat HO2 HM2 HKB HSZ HV2 HK2 HB
      clear v0 v1 v2 v3 v4 v5 v6 HTG
      obtain ⟨M1,hM1⟩:∃ M1,M1=M++[(oneC ch am fe)]:=⟨_,rfl⟩
      have hl1:M.length+1=M1.length:=by rw [hM1,List.length_append];rfl
      rw [← hM1,hl1] at HI1
      rw [← hM1] at HCB
      rw [hl1]
      clear hM1 hl1
      obtain ⟨g,cap,he,-,ho,hg0,hgV,hrV,hkr,hV⟩:=HI1.out
      injection he with he1 _ he2
      injection he1 with he1
      injection he1 with he1
      subst he1 he2
      have HO:=hide ho
      have HVR:=hide hrV
      have HKR:=hide hkr
      have HB:=hide (And.intro hg0 (And.intro hgV hV))
      clear ho hg0 hgV hrV hkr hV HI1
      dsimp only at HO
      have HPG:Hid (gA≠p∧gA≠k.gH∧gA≠k.gR∧gA∉lb k.la):=by
       have h1:=HW.out.row.lt
       have h3:=(HW.out.oH.lt k.gH rfl).2
       have h4:=(HW.out.oR.lt k.gR rfl).2
       have h5:=owned_low HW.out.oL HB.out.1
       have h6:=HB.out.1
       refine ⟨?_,?_,?_,h5⟩ <;> omega
      replace HW:=hide (HW.out.kept HKR.out)
      replace HLS:=hide (HLS.out.kept HKR.out)
      have c3:=HW.out.cells.2.2.2.1
      have f3:=HW.out.row.frozen 3
      have HN:=hide (HW.out.newC HO.out HPG.out.1 HPG.out.2.1 HPG.out.2.2.1 HPG.out.2.2.2)
      have ht:Turn [p] wA (wA.setCell ⟨p,3,none⟩ (.slice (some ⟨gA,0,none⟩) M1.length cA)):=Turn.set (by simp) _
      obtain ⟨-,-,-,-,-,-,e2,e4,-⟩:=HLS.out
      replace e2:=ht.cell (p:=⟨pe,2,none⟩) (by simpa using HNE.out) e2
      replace e4:=ht.cell (p:=⟨pe,4,none⟩) (by simpa using HNE.out) e4
      clear ht HLS HO HPG HW HKR HVR HB
      go_upto_region 17 with fail
      clear c3 f3
      generalize wA.setCell ⟨p,3,none⟩ (.slice (some ⟨gA,0,none⟩) M1.length cA)=w12 at *
      have c2:=HN.out.cells.2.2.1
      have f2:=HN.out.row.frozen 2
      dsimp only at c2
      have hb1:=HWA.out
      have hb2:=HA1.out
      have hwA:IntKind.i64.wrap (k.wa-am)=k.wa-am:=by rw [IntKind.wrap_i64];omega
      have hwB:IntKind.i64.wrap (-am)=-am:=by rw [IntKind.wrap_i64];omega
      have hwC:wrap64 (k.wa-am)=k.wa-am:=by unfold wrap64;omega
      have HW2:=hide (HN.out.setWa (k.wa-am))
      have ht:Turn [p] w12 (w12.setCell ⟨p,2,none⟩ (.int .i64 (k.wa-am))):=Turn.set (by simp) _
      have HTT:=hide ht
      clear ht HN
      have HGN:Hid (Gentle 0 k.L):=by show Gentle _ _;rw [HLL.out];exact Gentle.nil
      go_region_with (fail)
      all_goals
       try simp only [hwA]
       replace e2:=HTT.out.cell (p:=⟨pe,2,none⟩) (by simpa using HNE.out) e2
       replace e4:=HTT.out.cell (p:=⟨pe,4,none⟩) (by simpa using HNE.out) e4
       have hdk:Keeps (w12.setCell ⟨p,2,none⟩ (.int .i64 (k.wa-am))) (w12.setCell ⟨p,2,none⟩ (.int .i64 (k.wa-am))).drew:=(Keeps.refl _).drew
       replace e2:=hdk.cell e2
       replace e4:=hdk.cell e4
       have HG:Hid (Gp W (w12.setCell ⟨p,2,none⟩ (.int .i64 (k.wa-am))).drew p ⟨k.tk,k.nx,k.wa-am,M1,k.Hs,k.R⟩ k.L):=⟨_,HW2.out.kept hdk,HH0.out,rfl,rfl⟩
       clear hdk HW2 HTT c2 f2
       generalize (w12.setCell ⟨p,2,none⟩ (.int .i64 (k.wa-am))).drew=w14 at *
       go_wp2_with fail
       refine (line_gp HG.out 1 0 (-am) 0 HGN.out (by decide) (by omega) (by omega)).mono ?_
       rintro e w15 ⟨rfl,hg,hv⟩
       replace e2:=hv _ _ _ HNE.out e2
       replace e4:=hv _ _ _ HNE.out e4
       replace HG:=hide hg
       clear hg hv
       replace HGN:=hide (HGN.out.line 1 0 (-am) (by omega) (by omega))
       go_wp2_with fail
       refine (line_gp HG.out 6 ch am 1 HGN.out (by decide) (by omega) (by omega)).mono ?_
       rintro e w16 ⟨rfl,hg,hv⟩
       replace HG:=hide hg
       clear hg hv
       go_wp2_with fail
       first | go_end0 | go_ret2 | refine bodyPost_ret (results_none rfl _ _ _) rfl ?_
       refine ⟨rfl,?_⟩
       rw [HCB.out]
       exact HG.out.ends HC0.out
     ·replace HCB:Hid (openB k.bk ch am fe=⟨k.tk,k.nx,k.wa-am,M,k.Hs,k.R⟩):=HCB.out
      have HPG:Hid (g≠p∧g≠k.gH∧g≠k.gR∧g∉lb k.la):=by
       have h1:=HW.out.row.lt
       have h3:=(HW.out.oH.lt k.gH rfl).2
       have h4:=(HW.out.oR.lt k.gR rfl).2
       have h5:=owned_low HW.out.oL HB.out.1
       have h6:=HB.out.1
       refine ⟨?_,?_,?_,h5⟩ <;> omega
      replace HW:=hide (HW.out.kept HKR.out)
      replace HLS:=hide (HLS.out.kept HKR.out)
      have c3:=HW.out.cells.2.2.2.1
      have f3:=HW.out.row.frozen 3
      have HN:=hide (HW.out.newC HO.out HPG.out.1 HPG.out.2.1 HPG.out.2.2.1 HPG.out.2.2.2)
      have ht:Turn [p] wr (wr.setCell ⟨p,3,none⟩ (.slice (some ⟨g,0,none⟩) M.length cap)):=Turn.set (by simp) _
      obtain ⟨-,-,-,-,-,-,e2,e4,-⟩:=HLS.out
      replace e2:=ht.cell (p:=⟨pe,2,none⟩) (by simpa using HNE.out) e2
      replace e4:=ht.cell (p:=⟨pe,4,none⟩) (by simpa using HNE.out) e4
      clear ht HLS HO HPG HW HKR HVR HB
      go_upto_region 17 with fail
      clear c3 f3
      generalize wr.setCell ⟨p,3,none⟩ (.slice (some ⟨g,0,none⟩) M.length cap)=w12 at *
      have c2:=HN.out.cells.2.2.1
      have f2:=HN.out.row.frozen 2
      dsimp only at c2
      have hb1:=HWA.out
      have hb2:=HA1.out
      have hwA:IntKind.i64.wrap (k.wa-am)=k.wa-am:=by rw [IntKind.wrap_i64];omega
      have hwB:IntKind.i64.wrap (-am)=-am:=by rw [IntKind.wrap_i64];omega
      have hwC:wrap64 (k.wa-am)=k.wa-am:=by unfold wrap64;omega
      have HW2:=hide (HN.out.setWa (k.wa-am))
      have ht:Turn [p] w12 (w12.setCell ⟨p,2,none⟩ (.int .i64 (k.wa-am))):=Turn.set (by simp) _
      have HTT:=hide ht
      clear ht HN
      have HGN:Hid (Gentle 0 k.L):=by show Gentle _ _;rw [HLL.out];exact Gentle.nil
      go_region_with (fail)
      all_goals
       try simp only [hwA]
       replace e2:=HTT.out.cell (p:=⟨pe,2,none⟩) (by simpa using HNE.out) e2
       replace e4:=HTT.out.cell (p:=⟨pe,4,none⟩) (by simpa using HNE.out) e4
       have hdk:Keeps (w12.setCell ⟨p,2,none⟩ (.int .i64 (k.wa-am))) (w12.setCell ⟨p,2,none⟩ (.int .i64 (k.wa-am))).drew:=(Keeps.refl _).drew
       replace e2:=hdk.cell e2
       replace e4:=hdk.cell e4
       have HG:Hid (Gp W (w12.setCell ⟨p,2,none⟩ (.int .i64 (k.wa-am))).drew p ⟨k.tk,k.nx,k.wa-am,M,k.Hs,k.R⟩ k.L):=⟨_,HW2.out.kept hdk,HH0.out,rfl,rfl⟩
       clear hdk HW2 HTT c2 f2
       generalize (w12.setCell ⟨p,2,none⟩ (.int .i64 (k.wa-am))).drew=w14 at *
       go_wp2_with fail
       refine (line_gp HG.out 1 0 (-am) 0 HGN.out (by decide) (by omega) (by omega)).mono ?_
       rintro e w15 ⟨rfl,hg,hv⟩
       replace e2:=hv _ _ _ HNE.out e2
       replace e4:=hv _ _ _ HNE.out e4
       replace HG:=hide hg
       clear hg hv
       replace HGN:=hide (HGN.out.line 1 0 (-am) (by omega) (by omega))
       go_wp2_with fail
       refine (line_gp HG.out 6 ch am 1 HGN.out (by decide) (by omega) (by omega)).mono ?_
       rintro e w16 ⟨rfl,hg,hv⟩
       replace HG:=hide hg
       clear hg hv
       go_wp2_with fail
       first | go_end0 | go_ret2 | refine bodyPost_ret (results_none rfl _ _ _) rfl ?_
       refine ⟨rfl,?_⟩
       rw [HCB.out]
       exact HG.out.ends HC0.out
end Go.Proofs.YtccdhcempnkgaaaGreatDoor
