/- Texts of the verifier, joined: Xs, Int0, Jam. -/
import Derived.Test.YtccdhcempnkgaaaGreatDoorPL1
import Derived.Test.YtccdhcempnkgaaaGreatDoorPL2
import Derived.Deep.DrawnRows
namespace Go.Proofs.YtccdhcempnkgaaaGreatDoor
open Go.RowKit Go.Shelf Go.Lib Go.Sort
set_option linter.unusedVariables false
instance:Inhabited Ln:=⟨⟨0,0,0⟩⟩
def cfL (x y:Ln):Int:=cmpA x.k x.c y.k y.c
theorem ltL (x y:Ln):ltOf cfL x y=lessB x.k x.c y.k y.c:=by
 have:=cmpA_less (k:=x.k) (c:=x.c) (k':=y.k) (c':=y.c)
 unfold ltOf cfL
 cases h:lessB x.k x.c y.k y.c
 ·rw [h] at this
  simp at this ⊢
  exact this
 ·rw [h] at this
  simp at this ⊢
  exact this
theorem swoL:SWO (ltOf cfL) where
 irrefl x:=by rw [ltL];simp [lessB]
 trans x y z h1 h2:=by rw [ltL] at *;exact less_trans h1 h2
 ntrans x y z h1 h2:=by
  rw [ltL] at *
  rw [Bool.eq_false_iff] at *
  intro h
  rw [Ne,less_iff] at h1 h2
  rw [less_iff] at h
  omega
set_option maxHeartbeats 1000000 in
theorem cmpl_impl (x y:Ln) (W:World):Calls Tryz.prog 165 #[lineV x,lineV y] W fun e w'=>e=.returned (.int .i64 (cfL x y))∧∃ q os',w'=grow (W.drewN q) os':=by
 obtain ⟨k,c,a⟩:=x
 obtain ⟨k',c',a'⟩:=y
 have HC:=hide (fun w1=>cmp_impl k c k' c' w1)
 have HV:Hid (cfL ⟨k,c,a⟩ ⟨k',c',a'⟩=cmpA k c k' c'):=rfl
 generalize cmpA k c k' c'=r at *
 go_enter Tryz.func165,Tryz.ntmps165
 go_wp2_with fail
 refine (unhide HC _).mono ?_
 rintro e w1 ⟨rfl,rfl⟩
 go_wp2_with fail
 go_ret
 exact ⟨by rw [HV.out];rfl,0,_,by rw [alloc_eq_grow,alloc_eq_grow,alloc_eq_grow,alloc_eq_grow,grow_grow,grow_grow,grow_grow];rfl⟩
theorem flatK_at (C:List Ln) (t:Nat) (h:t < C.length*3):(flatK Ln.cells 3 C.toArray)[t]! = (flat C)[t]'(by rw [flat_length];omega):=by
 rw [get_flatK _ _ _ _ (by simpa using h)]
 have hi:t / 3 < C.length:=by omega
 have e:C.toArray[t / 3]! = C[t / 3]:=by simp [hi]
 rw [e]
 obtain ⟨f0,f1,f2⟩:=flat_at C (t / 3) hi
 have h3:t % 3=0∨t % 3=1∨t % 3=2:=by omega
 have hl:t < (flat C).length:=by rw [flat_length];omega
 rcases h3 with h | h | h
 ·have et:3*(t / 3)=t:=by omega
  rw [et,List.getElem?_eq_getElem hl] at f0
  rw [h,Option.some.inj f0];rfl
 ·have et:3*(t / 3)+1=t:=by omega
  rw [et,List.getElem?_eq_getElem hl] at f1
  rw [h,Option.some.inj f1];rfl
 ·have et:3*(t / 3)+2=t:=by omega
  rw [et,List.getElem?_eq_getElem hl] at f2
  rw [h,Option.some.inj f2];rfl
def SortedOut (g:Nat) (C:List Ln) (w w':World):Prop:=∃ C':List Ln,C'.Perm C∧C'.Pairwise (fun x y=>lessB y.k y.c x.k x.c=false)∧(∀ j (h:j < (flat C').length),w'.cell? ⟨g,j,none⟩=some (flat C')[j])∧(∀ j,w'.frozen? ⟨g,j,none⟩=w.frozen? ⟨g,j,none⟩)∧w.grownBy w' (some g)∧(∀ cur e fr,w.heap[g]? = some (.cells cur e fr)→∃ cur',w'.heap[g]? = some (.cells cur' e fr)∧cur'.size=cur.size)
theorem grown_sortWorld (w:World) (g m:Nat) (d:Array Ln) (os:Array Obj):w.grownBy (sortWorldK Ln.cells 3 w g 0 m d os) (some g):=by
 refine ⟨rfl,rfl,rfl,size_sortWorldK_c _ _ _ _ _ _ _ _,fun k hk hne=>?_⟩
 have hkg:g≠k:=fun e=>hne (by rw [e])
 show ((w.heap.modify g _)++os)[k]? = _
 rw [Array.getElem?_append_left (by simpa using hk),Array.getElem?_modify,if_neg hkg]
theorem frozen_sortWorld (w:World) (g m:Nat) (d:Array Ln) (os:Array Obj) (hlt:g < w.heap.size) (j:Nat):(sortWorldK Ln.cells 3 w g 0 m d os).frozen? ⟨g,j,none⟩=w.frozen? ⟨g,j,none⟩:=by
 have e:(sortWorldK Ln.cells 3 w g 0 m d os).heap=w.heap.modify g _++os:=rfl
 unfold World.frozen?
 rw [e]
 rw [Array.getElem?_append_left (by simpa using hlt),Array.getElem?_modify,if_pos rfl]
 cases h:w.heap[g]? with
 | none=>simp
 | some o=>cases o <;> simp [onCells]
theorem block_sortWorld (w:World) (g m:Nat) (d:Array Ln) (os:Array Obj) (cur:Array Value) (e:TypeId) (fr:Nat × Nat) (h:w.heap[g]? = some (.cells cur e fr)):∃ cur',(sortWorldK Ln.cells 3 w g 0 m d os).heap[g]? = some (.cells cur' e fr)∧cur'.size=cur.size:=by
 have hlt:=(Array.getElem?_eq_some_iff.1 h).1
 have e1:(sortWorldK Ln.cells 3 w g 0 m d os).heap=w.heap.modify g _++os:=rfl
 rw [e1,Array.getElem?_append_left (by simpa using hlt),Array.getElem?_modify,if_pos rfl,h]
 exact ⟨_,rfl,by simp [putCells]⟩
set_option maxHeartbeats 1000000 in
theorem sort_lines (g cap:Nat) (C:List Ln) (w:World) (hc:∀ j (h:j < (flat C).length),w.cell? ⟨g,j,none⟩=some (flat C)[j]) (hf:∀ j,w.frozen? ⟨g,j,none⟩=false) (hlt:g < w.heap.size) (hn:C.length≤1048576) :
 Calls Tryz.prog 164 #[.slice (some ⟨g,0,none⟩) C.length cap,.func (.func 165) #[] #[]] w fun e w'=>e=.returned (.tuple #[])∧SortedOut g C w w':=by
 have eg:∀ args w,(callFunc 165 args).run Tryz.prog w=.ok (.enter 165 args) w:=enters_of Tryz.func165 (by kernel_rfl) rfl
 have hH:HoldsK Ln.cells 3 w g 0 C.toArray:=by
  intro j hj
  rw [size_flatK] at hj
  have hj':j < C.length*3:=by simpa using hj
  rw [Nat.zero_add]
  refine ⟨?_,hf j⟩
  rw [hc j (by rw [flat_length];omega),flatK_at C j hj'];rfl
 have hcmp:CmpLays Tryz.prog 165 #[] Ln.cells 3 cfL g 0 C.toArray.size w:=fun m os dk _ x y=>cmpl_impl x y _
 have hcon:=AnyQ.slices_SortFunc Tryz.sortLn 3 Tryz.isAgg104 Tryz.sizeOf104 Ln.cells (fun _=>rfl) (fun x v hv=>by simp [Ln.cells] at hv;rcases hv with rfl | rfl | rfl <;> rfl) cfL swoL 165 #[] g 0 cap C.toArray w eg hcmp hH hlt (by simp;omega)
 change Calls Tryz.prog 164 _ _ _ at hcon
 have es:C.toArray.size=C.length:=by simp
 rw [es] at hcon
 refine hcon.mono ?_
 rintro e w' ⟨rfl,d',n,os,hp,hs,rfl⟩
 obtain ⟨hp1,_,hp3⟩:=hp
 have hsz:d'.size=C.length:=by simpa using hp1
 have hperm:d'.toList.Perm C:=by
  have h1:d'.extract 0 C.length=d':=by rw [← hsz];simp
  have h2:C.toArray.extract 0 C.length=C.toArray:=by simp
  rw [h1,h2] at hp3
  simpa using hp3
 refine ⟨rfl,d'.toList,hperm,?_,?_,fun j=>frozen_sortWorld _ _ _ _ _ hlt j,grown_sortWorld _ _ _ _ _,fun cur e fr h=>block_sortWorld _ _ _ _ _ cur e fr h⟩
 ·rw [List.pairwise_iff_getElem]
  intro i j hi hj hij
  have:=hs i j (Nat.zero_le _) hij (by simp at hj ⊢;omega)
  rw [ltL] at this
  simp at hi hj
  simpa [hi,hj] using this
 ·intro j hj
  have hH2:=holdsK_sortWorldK_c Ln.cells 3 w g 0 C.toArray d' n os hH hlt (by simpa using hsz)
  have hj3:j < d'.toList.length*3:=by rw [flat_length] at hj;omega
  have:=(hH2 j (by rw [size_flatK];simpa using hj3)).1
  rw [Nat.zero_add] at this
  rw [this]
  have:=flatK_at d'.toList j hj3
  simp only [Array.toArray_toList] at this
  rw [this];rfl
theorem owns_sorted {base g cap:Nat} {C C':List Ln} {w w':World} (h:w.ownsRow base 104 3 (.slice (some ⟨g,0,none⟩) C.length cap) C.length (flat C)) (hl:C'.length=C.length) (hc:∀ j (h:j < (flat C').length),w'.cell? ⟨g,j,none⟩=some (flat C')[j]) (hb:∀ cur e fr,w.heap[g]? = some (.cells cur e fr)→∃ cur',w'.heap[g]? = some (.cells cur' e fr)∧cur'.size=cur.size) :
 w'.ownsRow base 104 3 (.slice (some ⟨g,0,none⟩) C'.length cap) C'.length (flat C'):=by
 refine ⟨by first | (rw [flat_length];done) | (rw [flat_length];omega),?_⟩
 rcases h.2 with ⟨h',_⟩ | ⟨g',cap',cur,h',b1,b2,b3,b4,b5,b6⟩
 ·simp at h'
 ·injection h' with e1 _ e3
  injection e1 with e1
  injection e1 with e1
  subst e1 e3
  obtain ⟨cur',k1,k2⟩:=hb _ _ _ b2
  refine .inr ⟨g,cap,cur',rfl,b1,k1,by omega,b4,by omega,?_⟩
  apply List.ext_getElem?
  intro j
  by_cases hj:j < (flat C').length
  ·have hj2:=hj
   rw [flat_length] at hj2
   rw [List.getElem?_take,if_pos (by omega),List.getElem?_eq_getElem hj,← hc j hj]
   simp [World.cell?,k1]
  ·have hj2:=hj
   rw [flat_length] at hj2
   rw [List.getElem?_eq_none (by rw [List.length_take];omega),List.getElem?_eq_none (by omega)]
theorem sorted_only {M C':List Ln} (hg:M.Pairwise (fun x y=>lessB x.k x.c y.k y.c=true)) (hp:C'.Perm M) (hs:C'.Pairwise (fun x y=>lessB y.k y.c x.k x.c=false)):C'=M:=by
 refine List.Perm.eq_of_pairwise (le:=fun x y=>lessB y.k y.c x.k x.c=false) ?_ hs (hg.imp ?_) hp
 ·intro x y hx hy h1 h2
  have hx':=hp.mem_iff.1 hx
  rw [Bool.eq_false_iff,Ne,less_iff] at h1 h2
  obtain ⟨i,hi,rfl⟩:=List.getElem_of_mem hx'
  obtain ⟨j,hj,rfl⟩:=List.getElem_of_mem hy
  rw [List.pairwise_iff_getElem] at hg
  rcases Nat.lt_trichotomy i j with h | h | h
  ·have:=less_iff.1 (hg i j hi hj h);omega
  ·subst h;rfl
  ·have:=less_iff.1 (hg j i hj hi h);omega
 ·intro x y h
  rw [less_iff] at h
  rw [Bool.eq_false_iff,Ne,less_iff]
  omega
set_option maxHeartbeats 1000000 in
theorem ins_nil (g:Fn) (w:World):Calls Tryz.prog 207 #[.slice none 0 0,.int .i64 0,.int .i64 0,.func g #[] #[]] w fun e w'=>e=.returned (.tuple #[])∧w'=w:=by
 go_enter Tryz.func207,Tryz.ntmps207
 go_wp2_with fail
 refine wp_loop_rounds 1 ?_
 rw [rounds_succ]
 go_wp2_with fail
 go_end0
 exact ⟨rfl,rfl⟩
set_option maxHeartbeats 1000000 in
theorem pdq_nil (g:Fn) (w:World):Calls Tryz.prog 191 #[.slice none 0 0,.int .i64 0,.int .i64 0,.int .i64 0,.func g #[] #[]] w fun e w'=>e=.returned (.tuple #[])∧w'=w:=by
 go_enter Tryz.func191,Tryz.ntmps191
 go_wp2_with fail
 refine wp_loop_rounds 1 ?_
 rw [rounds_succ]
 go_wp2_with fail
 refine (ins_nil g _).mono ?_
 rintro e w1 ⟨rfl,rfl⟩
 go_wp2_with fail
 (try simp only [Exit.inBlock,Exit.then]);refine bodyPost_ret (results_none rfl _ _ _) rfl ?_
 exact ⟨rfl,rfl⟩
set_option maxHeartbeats 1000000 in
theorem sort_nil (g:Fn) (w:World):Calls Tryz.prog 164 #[.slice none 0 0,.func g #[] #[]] w fun e w'=>e=.returned (.tuple #[])∧w'=w:=by
 go_enter Tryz.func164,Tryz.ntmps164
 go_wp2_with fail
 refine (Tryz.bits_Len 0 _ (by decide) (by decide)).mono ?_
 rintro e w1 ⟨rfl,rfl⟩
 go_wp2_with fail
 refine (pdq_nil g _).mono ?_
 rintro e w1 ⟨rfl,rfl⟩
 go_wp2_with fail
 go_end0
 exact ⟨rfl,rfl⟩
end Go.Proofs.YtccdhcempnkgaaaGreatDoor
namespace Go.Proofs.YtccdhcempnkgaaaGreatDoor
open Go.RowKit Go.Deep
set_option linter.unusedVariables false
set_option maxRecDepth 10000
def its (K:List Int):List Value:=K.map fun k=>.int .i64 k
theorem its_length (K:List Int):(its K).length=K.length:=by simp [its]
theorem its_at {w:World} {a:Option Addr} {K:List Int} (h:Cells w a (its K)) (i:Nat) (hi:i < K.length):∃ b off,a=some ⟨b,off,none⟩∧w.cell? ⟨b,off+i,none⟩=some (.int .i64 K[i]):=by
 rcases h with h | ⟨b,off,e,h⟩
 ·have:K=[]:=by simpa [its] using h
  subst this;simp at hi
 ·refine ⟨b,off,e,?_⟩
  rw [h i (by rw [its_length];exact hi)]
  simp [its]
theorem its_nil {K:List Int}:its K=[]↔K=[]:=by simp [its]
theorem its_append (K M:List Int):its (K++M)=its K++its M:=by simp [its]
theorem infoInt:(Tryz.prog.info? 3).map (fun i=>(i.zero,i.size,i.bytes))=some (some (.int .i64 0),1,8):=by kernel_rfl
theorem underInts:Tryz.prog.underlying 51=some (.slice 3):=by kernel_rfl
abbrev OwnsI (w:World) (base:Nat) (v:Value) (L:List Int):Prop:=w.ownsRow base 3 1 v L.length (its L)
theorem app_its {ops:Array Oper} {rest:List Oper} {o:Oper} {a:Act} {Q:Exit→Act→World→Prop} {wr:World} (hgd:o.guard=none) (s x:Operand)
 (ho:o.op=.call { callee:=.builtin .append,args:=#[s,x],argTypes:=#[51,51] }) (base:Nat) (v:Value) (L M:List Int) (hs:a.eval s=v) (p:Addr) (c:Nat)
 (hx:a.eval x=.slice (some p) M.length c) (hM:∀ j u,(its M)[j]? = some u→wr.cell? (p.add j)=some u) (hown:OwnsI wr base v L) (hl:L.length+M.length≤1048576) (hbase:base≤wr.heap.size)
 (h:∀ v' w',OwnsI w' base v' (L++M)→wr.grownBy w' v.ownBlock→(v≠.slice none 0 0→v'≠.slice none 0 0)→wpList Tryz.prog ops Q rest (a.put o.dst v') w') :
 wpList Tryz.prog ops Q (o :: rest) a wr:=by
 have hI:=infoInt
 cases hi:Tryz.prog.info? 3 with
 | none=>rw [hi] at hI;simp at hI
 | some i =>
   rw [hi] at hI
   simp at hI
   obtain ⟨hz,hsz,hby⟩:=hI
   refine wpList_append_own _ hgd s x 51 ho base 3 i _ 1 8 underInts hi hz hsz hby rfl (by decide) v L.length (its L) hs hown p M.length c (its M) hx (by simp [its_length]) hM (fun u hu=>?_) ?_ ?_ hbase ?_
   ·unfold its at hu
    obtain ⟨k,_,rfl⟩:=List.mem_map.1 hu
    rfl
   ·simp only [maxLen];omega
   ·omega
   ·intro v' w' h1 h2 h3
    exact h v' w' (by unfold OwnsI;rw [its_append,List.length_append];exact h1) h2 (fun hn he=>hn (h3.1 he).1)
end Go.Proofs.YtccdhcempnkgaaaGreatDoor
namespace Go.Proofs.YtccdhcempnkgaaaGreatDoor
open Go.RowKit
set_option linter.unusedVariables false
def okS (n:Int):Bool:=decide (-100≤n) && decide (n≤100)
def upS (n:Int):Int:=if okS n=true then min (n+10) 100 else 0
def downS (n:Int):Int:=if okS n=true then max (n-15) (-100) else 0
def fadeS (n:Int):Int:=if okS n=true then (if 0 < n then n-1 else if n < 0 then n+1 else 0) else 0
theorem okS_yes {n:Int} (h:-100≤n) (h':n≤100):okS n=true:=by simp [okS];omega
theorem okS_lo {n:Int} (h:n < -100):okS n=false:=by simp [okS];omega
theorem okS_hi {n:Int} (h:100 < n):okS n=false:=by simp [okS];omega
theorem sok_spec (n:Int) (w:World):Calls Tryz.prog 66 #[.int .i64 n] w fun e w'=>e=.returned (.bool (okS n))∧Keeps w w':=by
 by_cases h1:-100≤n
 ·by_cases h2:n≤100
  ·go_enter Tryz.func66,Tryz.ntmps66
   go_wp2
   go_ret
   exact ⟨ret_b (okS_yes h1 h2).symm,Keeps.refl _⟩
  ·go_enter Tryz.func66,Tryz.ntmps66
   go_wp2
   go_ret
   exact ⟨ret_b (okS_hi (by omega)).symm,Keeps.refl _⟩
 ·go_enter Tryz.func66,Tryz.ntmps66
  go_wp2
  go_ret
  exact ⟨ret_b (okS_lo (by omega)).symm,Keeps.refl _⟩
theorem right_impl (n:Int) (w:World):Calls Tryz.prog 133 #[.int .i64 n] w fun e w'=>e=.returned (.bool (okS n))∧Keeps w w':=by
 by_cases h1:-100≤n
 ·by_cases h2:n≤100
  ·go_enter Tryz.func133,Tryz.ntmps133
   go_wp2
   go_ret
   exact ⟨ret_b (okS_yes h1 h2).symm,Keeps.refl _⟩
  ·go_enter Tryz.func133,Tryz.ntmps133
   go_wp2
   go_ret
   exact ⟨ret_b (okS_hi (by omega)).symm,Keeps.refl _⟩
 ·go_enter Tryz.func133,Tryz.ntmps133
  go_wp2
  go_ret
  exact ⟨ret_b (okS_lo (by omega)).symm,Keeps.refl _⟩
theorem sok_impl (n:Int) (w:World):Calls Tryz.prog 112 #[.int .i64 n] w fun e w'=>e=.returned (.bool (okS n))∧Keeps w w':=by
 go_enter Tryz.func112,Tryz.ntmps112
 go_wp2_with fail
 refine (right_impl n _).mono ?_
 rintro x w1 ⟨rfl,hk⟩
 go_wp2_with fail
 go_ret
 exact ⟨rfl,hk⟩
theorem up_m (n:Int) (h1:-100≤n) (h2:n≤100) (w:World):Calls Tryz.prog 178 #[.int .i64 n] w fun e w'=>e=.returned (.int .i64 (min (n+10) 100))∧Keeps w w':=by
 go_enter Tryz.func178,Tryz.ntmps178
 go_wp2
 all_goals go_ret
 all_goals exact ⟨ret_i (by omega),Keeps.refl _⟩
theorem down_m (n:Int) (h1:-100≤n) (h2:n≤100) (w:World):Calls Tryz.prog 179 #[.int .i64 n] w fun e w'=>e=.returned (.int .i64 (max (n-15) (-100)))∧Keeps w w':=by
 go_enter Tryz.func179,Tryz.ntmps179
 go_wp2
 all_goals go_ret
 all_goals exact ⟨ret_i (by omega),Keeps.refl _⟩
theorem fade_m (n:Int) (h1:-100≤n) (h2:n≤100) (w:World):Calls Tryz.prog 180 #[.int .i64 n] w fun e w'=>e=.returned (.int .i64 (if 0 < n then n-1 else if n < 0 then n+1 else 0))∧Keeps w w':=by
 go_enter Tryz.func180,Tryz.ntmps180
 go_wp2
 all_goals go_ret
 all_goals exact ⟨rfl,Keeps.refl _⟩
theorem okS_true {n:Int} (h:okS n=true):-100≤n∧n≤100:=by simpa [okS] using h
theorem moved_no (n:Int) (h:okS n=false) (w:World) (F:Value):Calls Tryz.prog 177 #[.int .i64 n,F] w fun e w'=>e=.returned (.int .i64 0)∧Keeps w w':=by
 go_enter Tryz.func177,Tryz.ntmps177
 go_wp2_with fail
 refine (right_impl n _).mono ?_
 rintro x w1 ⟨rfl,hk⟩
 rw [h]
 go_wp2_with fail
 go_ret
 exact ⟨rfl,hk⟩
theorem moved_up (n:Int) (h:okS n=true) (w:World):Calls Tryz.prog 177 #[.int .i64 n,.func (Fn.func 178) #[.int .i64 n] #[]] w fun e w'=>e=.returned (.int .i64 (min (n+10) 100))∧Keeps w w':=by
 obtain ⟨h1,h2⟩:=okS_true h
 obtain ⟨v,hv⟩:∃ v:Int,v=(min (n+10) 100):=⟨_,rfl⟩
 have HF:=up_m n h1 h2
 rw [← hv] at HF ⊢
 clear hv
 have HFh:=hide HF
 clear HF
 go_enter Tryz.func177,Tryz.ntmps177
 go_wp2_with fail
 refine (right_impl n _).mono ?_
 rintro x w1 ⟨rfl,hk⟩
 rw [h]
 go_wp2_with fail
 refine (HFh.out _).mono ?_
 rintro x w2 ⟨rfl,hk2⟩
 go_wp2_with fail
 go_ret
 exact ⟨rfl,hk.trans hk2⟩
theorem up_impl (n:Int) (w:World):Calls Tryz.prog 148 #[.int .i64 n] w fun e w'=>e=.returned (.int .i64 (upS n))∧Keeps w w':=by
 cases h:okS n
 ·obtain ⟨v,hv⟩:∃ v:Int,v=upS n:=⟨_,rfl⟩
  have h0:v=0:=by rw [hv];simp [upS,h]
  rw [← hv];subst h0;clear hv
  go_enter Tryz.func148,Tryz.ntmps148
  go_wp2_with fail
  refine (moved_no n h _ _).mono ?_
  rintro x w1 ⟨rfl,hk⟩
  go_wp2_with fail
  go_ret
  exact ⟨rfl,hk⟩
 ·obtain ⟨v,hv⟩:∃ v:Int,v=upS n:=⟨_,rfl⟩
  have h0:v=(min (n+10) 100):=by rw [hv];simp [upS,h]
  rw [← hv]
  have HF:=hide (moved_up n h)
  rw [← h0] at HF
  clear hv h0
  go_enter Tryz.func148,Tryz.ntmps148
  go_wp2_with fail
  refine (HF.out _).mono ?_
  rintro x w1 ⟨rfl,hk⟩
  go_wp2_with fail
  go_ret
  exact ⟨rfl,hk⟩
theorem moved_down (n:Int) (h:okS n=true) (w:World):Calls Tryz.prog 177 #[.int .i64 n,.func (Fn.func 179) #[.int .i64 n] #[]] w fun e w'=>e=.returned (.int .i64 (max (n-15) (-100)))∧Keeps w w':=by
 obtain ⟨h1,h2⟩:=okS_true h
 obtain ⟨v,hv⟩:∃ v:Int,v=(max (n-15) (-100)):=⟨_,rfl⟩
 have HF:=down_m n h1 h2
 rw [← hv] at HF ⊢
 clear hv
 have HFh:=hide HF
 clear HF
 go_enter Tryz.func177,Tryz.ntmps177
 go_wp2_with fail
 refine (right_impl n _).mono ?_
 rintro x w1 ⟨rfl,hk⟩
 rw [h]
 go_wp2_with fail
 refine (HFh.out _).mono ?_
 rintro x w2 ⟨rfl,hk2⟩
 go_wp2_with fail
 go_ret
 exact ⟨rfl,hk.trans hk2⟩
theorem down_impl (n:Int) (w:World):Calls Tryz.prog 149 #[.int .i64 n] w fun e w'=>e=.returned (.int .i64 (downS n))∧Keeps w w':=by
 cases h:okS n
 ·obtain ⟨v,hv⟩:∃ v:Int,v=downS n:=⟨_,rfl⟩
  have h0:v=0:=by rw [hv];simp [downS,h]
  rw [← hv];subst h0;clear hv
  go_enter Tryz.func149,Tryz.ntmps149
  go_wp2_with fail
  refine (moved_no n h _ _).mono ?_
  rintro x w1 ⟨rfl,hk⟩
  go_wp2_with fail
  go_ret
  exact ⟨rfl,hk⟩
 ·obtain ⟨v,hv⟩:∃ v:Int,v=downS n:=⟨_,rfl⟩
  have h0:v=(max (n-15) (-100)):=by rw [hv];simp [downS,h]
  rw [← hv]
  have HF:=hide (moved_down n h)
  rw [← h0] at HF
  clear hv h0
  go_enter Tryz.func149,Tryz.ntmps149
  go_wp2_with fail
  refine (HF.out _).mono ?_
  rintro x w1 ⟨rfl,hk⟩
  go_wp2_with fail
  go_ret
  exact ⟨rfl,hk⟩
theorem moved_fade (n:Int) (h:okS n=true) (w:World):Calls Tryz.prog 177 #[.int .i64 n,.func (Fn.func 180) #[.int .i64 n] #[]] w fun e w'=>e=.returned (.int .i64 (if 0 < n then n-1 else if n < 0 then n+1 else 0))∧Keeps w w':=by
 obtain ⟨h1,h2⟩:=okS_true h
 obtain ⟨v,hv⟩:∃ v:Int,v=(if 0 < n then n-1 else if n < 0 then n+1 else 0):=⟨_,rfl⟩
 have HF:=fade_m n h1 h2
 rw [← hv] at HF ⊢
 clear hv
 have HFh:=hide HF
 clear HF
 go_enter Tryz.func177,Tryz.ntmps177
 go_wp2_with fail
 refine (right_impl n _).mono ?_
 rintro x w1 ⟨rfl,hk⟩
 rw [h]
 go_wp2_with fail
 refine (HFh.out _).mono ?_
 rintro x w2 ⟨rfl,hk2⟩
 go_wp2_with fail
 go_ret
 exact ⟨rfl,hk.trans hk2⟩
theorem fade_impl (n:Int) (w:World):Calls Tryz.prog 150 #[.int .i64 n] w fun e w'=>e=.returned (.int .i64 (fadeS n))∧Keeps w w':=by
 cases h:okS n
 ·obtain ⟨v,hv⟩:∃ v:Int,v=fadeS n:=⟨_,rfl⟩
  have h0:v=0:=by rw [hv];simp [fadeS,h]
  rw [← hv];subst h0;clear hv
  go_enter Tryz.func150,Tryz.ntmps150
  go_wp2_with fail
  refine (moved_no n h _ _).mono ?_
  rintro x w1 ⟨rfl,hk⟩
  go_wp2_with fail
  go_ret
  exact ⟨rfl,hk⟩
 ·obtain ⟨v,hv⟩:∃ v:Int,v=fadeS n:=⟨_,rfl⟩
  have h0:v=(if 0 < n then n-1 else if n < 0 then n+1 else 0):=by rw [hv];simp [fadeS,h]
  rw [← hv]
  have HF:=hide (moved_fade n h)
  rw [← h0] at HF
  clear hv h0
  go_enter Tryz.func150,Tryz.ntmps150
  go_wp2_with fail
  refine (HF.out _).mono ?_
  rintro x w1 ⟨rfl,hk⟩
  go_wp2_with fail
  go_ret
  exact ⟨rfl,hk⟩
theorem clamp_spec (n:Int) (w:World):Calls Tryz.prog 106 #[.int .i64 n,.int .i64 (-100),.int .i64 100] w fun e w'=>e=.returned (.int .i64 (max (-100) (min n 100)))∧Keeps w w':=by
 go_enter Tryz.func106,Tryz.ntmps106
 go_wp2
 all_goals go_ret
 all_goals exact ⟨ret_i (by omega),Keeps.refl _⟩
theorem up_spec (n:Int) (w:World):Calls Tryz.prog 79 #[.int .i64 n] w fun e w'=>e=.returned (.int .i64 (upS n))∧Keeps w w':=by
 obtain ⟨v,hv⟩:∃ v:Int,v=upS n:=⟨_,rfl⟩
 rw [← hv]
 cases h:okS n
 ·have h0:v=0:=by rw [hv];simp [upS,h]
  subst h0;clear hv
  go_enter Tryz.func79,Tryz.ntmps79
  go_wp2_with fail
  refine (sok_spec n _).mono ?_
  rintro x w1 ⟨rfl,hk⟩
  rw [h]
  go_wp2_with fail
  go_ret
  exact ⟨rfl,hk⟩
 ·obtain ⟨h1,h2⟩:=okS_true h
  have h0:v=max (-100) (min (n+10) 100):=by rw [hv];simp only [upS,h,if_true];omega
  have HF:=hide (clamp_spec (n+10))
  rw [← h0] at HF
  clear hv h0
  go_enter Tryz.func79,Tryz.ntmps79
  go_wp2_with fail
  refine (sok_spec n _).mono ?_
  rintro x w1 ⟨rfl,hk⟩
  rw [h]
  go_wp2_with fail
  refine (HF.out _).mono ?_
  rintro x w2 ⟨rfl,hk2⟩
  go_wp2_with fail
  go_ret
  exact ⟨rfl,hk.trans hk2⟩
theorem down_spec (n:Int) (w:World):Calls Tryz.prog 80 #[.int .i64 n] w fun e w'=>e=.returned (.int .i64 (downS n))∧Keeps w w':=by
 obtain ⟨v,hv⟩:∃ v:Int,v=downS n:=⟨_,rfl⟩
 rw [← hv]
 cases h:okS n
 ·have h0:v=0:=by rw [hv];simp [downS,h]
  subst h0;clear hv
  go_enter Tryz.func80,Tryz.ntmps80
  go_wp2_with fail
  refine (sok_spec n _).mono ?_
  rintro x w1 ⟨rfl,hk⟩
  rw [h]
  go_wp2_with fail
  go_ret
  exact ⟨rfl,hk⟩
 ·obtain ⟨h1,h2⟩:=okS_true h
  have h0:v=max (-100) (min (n-15) 100):=by rw [hv];simp only [downS,h,if_true];omega
  have HF:=hide (clamp_spec (n-15))
  rw [← h0] at HF
  clear hv h0
  go_enter Tryz.func80,Tryz.ntmps80
  go_wp2_with fail
  refine (sok_spec n _).mono ?_
  rintro x w1 ⟨rfl,hk⟩
  rw [h]
  go_wp2_with fail
  refine (HF.out _).mono ?_
  rintro x w2 ⟨rfl,hk2⟩
  go_wp2_with fail
  go_ret
  exact ⟨rfl,hk.trans hk2⟩
theorem fade_spec (n:Int) (w:World):Calls Tryz.prog 81 #[.int .i64 n] w fun e w'=>e=.returned (.int .i64 (fadeS n))∧Keeps w w':=by
 obtain ⟨v,hv⟩:∃ v:Int,v=fadeS n:=⟨_,rfl⟩
 rw [← hv]
 cases h:okS n
 ·have h0:v=0:=by rw [hv];simp [fadeS,h]
  subst h0;clear hv
  go_enter Tryz.func81,Tryz.ntmps81
  go_wp2_with fail
  refine (sok_spec n _).mono ?_
  rintro x w1 ⟨rfl,hk⟩
  rw [h]
  go_wp2_with fail
  go_ret
  exact ⟨rfl,hk⟩
 ·obtain ⟨h1,h2⟩:=okS_true h
  simp only [fadeS,h,if_true] at hv
  go_enter Tryz.func81,Tryz.ntmps81
  go_wp2_with fail
  refine (sok_spec n _).mono ?_
  rintro x w1 ⟨rfl,hk⟩
  rw [h]
  go_wp2
  all_goals go_ret
  all_goals exact ⟨ret_i (by split at hv <;> (try split at hv) <;> simp_all <;> omega),hk⟩
end Go.Proofs.YtccdhcempnkgaaaGreatDoor
