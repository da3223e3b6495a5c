/- Texts of the verifier, joined: Keep, Acc, Open, Lines, ImplA, Glue, Glue2, Mem. -/
import Derived.Test.YtccdhcempnkgaaaGreatDoorProg
import GoSem.Claim
import GoSem.ClaimJoined
import GoSem.ClaimMapViews
import Derived.JoinedTies
import Derived.KernelRfl
import Derived.WalkKit
import Derived.WalkSpells
import Derived.WalkSmall
import Derived.Deep.QuietTactic
import Derived.BigQuiet
import Derived.RowKit3
import Derived.Stop.LaidErr
import Derived.MakeChecks
import Derived.Deep.RegionHeld3
import Derived.RegionTactic
import Derived.Deep.Slices
import Derived.Laws.MakeOwn
import Derived.Deep.OwnRows
import Derived.Laws.OwnMore
import Derived.OpenShut
namespace Go.Proofs.YtccdhcempnkgaaaGreatDoor
open Go.RowKit Go.ChangeShapes
def Keeps (w w':World):Prop:=Below w.heap.size w w'
theorem Keeps.refl (w:World):Keeps w w:=Below.refl _ _
theorem Keeps.trans {a b c:World} (h:Keeps a b) (k:Keeps b c):Keeps a c:=Below.trans h (Below.mono k h.size)
theorem Keeps.drewN {a b:World} (h:Keeps a b) (n:Nat):Keeps a (b.drewN n):=below_drewN h n
theorem Keeps.cell {w w':World} (h:Keeps w w') {p:Addr} {v:Value} (hc:w.cell? p=some v):w'.cell? p=some v:=by
 have hlt:p.block < w.heap.size:=by
  rcases Nat.lt_or_ge p.block w.heap.size with h' | h'
  ·exact h'
  ·simp [World.cell?,Array.getElem?_eq_none h'] at hc
 rw [← hc];exact Below.cell h hlt
theorem cell_of_var {W:World} {n:String} {g:Nat} {v:Value} (hg:Tryz.prog.globalNamed n=some g) (h:W.var? Tryz.prog n=some #[v]):W.cell? ⟨g,0,none⟩=some v:=by
 simpa using World.var?_cell hg h 0
theorem var_kept {W W':World} (h:Keeps W W') {n:String} {cs:Array Value} (hv:W.var? Tryz.prog n=some cs):W'.var? Tryz.prog n=some cs:=by
 unfold World.var? at hv ⊢
 cases hg:Tryz.prog.globalNamed n with
 | none=>simp [hg] at hv
 | some g =>
   simp only [hg,Option.bind_some] at hv ⊢
   have hlt:g < W.heap.size:=by
    rcases Nat.lt_or_ge g W.heap.size with h' | h'
    ·exact h'
    ·simp [Array.getElem?_eq_none h'] at hv
   rw [Below.block h g hlt];exact hv
theorem hide {p:Prop} (h:p):Hid p:=h
theorem unhide {p:Prop} (h:Hid p):p:=h
theorem Keeps.alloc {a b:World} (h:Keeps a b) (o:Obj):Keeps a (b.alloc o):=Below.alloc h h.size o
theorem Keeps.setCell {a b:World} (h:Keeps a b) {p:Addr} (hp:a.heap.size≤p.block) (u:Value):Keeps a (b.setCell p u):=Below.setCell h hp u
theorem Keeps.drew {a b:World} (h:Keeps a b):Keeps a b.drew:=Below.drew h
theorem Keeps.old {W w1:World} (hb:Keeps W w1):∀ b o,b < W.heap.size→w1.cell? ⟨b,o,none⟩=W.cell? ⟨b,o,none⟩:=fun b o h=>Below.cell (p:=⟨b,o,none⟩) hb h
theorem lt_of_cell {w:World} {g o:Nat} {v:Value} (hg:w.cell? ⟨g,o,none⟩=some v):g < w.heap.size:=by
 rcases Nat.lt_or_ge g w.heap.size with h' | h'
 ·exact h'
 ·simp [World.cell?,Array.getElem?_eq_none h'] at hg
abbrev Gt:Type:=List (Option Obj)
def Gt.more (t:Gt):Array Obj:=(t.filterMap id).toArray
def Gt.count (t:Gt):Nat:=(t.filter Option.isNone).length
def gt (m:Array Obj) (d:Nat):Gt:=m.toList.map some++List.replicate d none
theorem gt_more (m:Array Obj) (d:Nat):Gt.more (gt m d)=m:=by
 simp [Gt.more,gt,List.filterMap_append,List.filterMap_map]
theorem gt_count (m:Array Obj) (d:Nat):Gt.count (gt m d)=d:=by
 simp [Gt.count,gt,List.filter_append,List.filter_map]
def gr (W:World) (t:Gt):World:={ W with heap:=W.heap++Gt.more t,drawn:=Gt.count t }
theorem gr_keeps (W:World) (t:Gt):Keeps W (gr W t) :=
 ⟨rfl,rfl,rfl,by simp [gr],fun i hi=>by
  show (W.heap++Gt.more t)[i]? = W.heap[i]?
  rw [Array.getElem?_append_left hi]⟩
theorem keeps_gr {W w':World} (h:Keeps W w'):∃ t,w'=gr W t:=by
 refine ⟨gt (w'.heap.extract W.heap.size w'.heap.size) w'.drawn,?_⟩
 have e:w'.heap=W.heap++w'.heap.extract W.heap.size w'.heap.size:=by
  apply Array.ext_getElem?
  intro i
  by_cases hi:i < W.heap.size
  ·rw [Array.getElem?_append_left hi];exact h.block i hi
  ·rw [Array.getElem?_append_right (by omega),Array.getElem?_extract]
   by_cases hj:i < w'.heap.size
   ·rw [if_pos (by omega)];congr 1;omega
   ·rw [if_neg (by omega),Array.getElem?_eq_none (by omega)]
 have h1:=h.os;have h2:=h.tape;have h3:=h.output
 cases w' with
 | mk heap tape drawn os output =>
   simp only at e h1 h2 h3
   unfold gr
   simp only [gt_more,gt_count,← h1,← h2,← h3,← e]
theorem gr_gr {W w':World} {t:Gt} (h:Keeps (gr W t) w'):∃ t,w'=gr W t:=keeps_gr ((gr_keeps W t).trans h)
theorem gr_cell {W:World} {p:Addr} {v:Value} (h:W.cell? p=some v) (t:Gt):(gr W t).cell? p=some v:=(gr_keeps W t).cell h
theorem Keeps.of_gr {W w':World} (h:∃ t,w'=gr W t):Keeps W w':=by
 obtain ⟨t,rfl⟩:=h
 exact gr_keeps W t
theorem gr_call {P:Program} {f:FuncId} {args:Array Value} {W:World} {t:Gt} {v:Value}
 (h:Calls P f args (gr W t) fun e w'=>e=.returned v∧Keeps (gr W t) w'):Calls P f args (gr W t) fun e w''=>e=.returned v∧∃ t,w''=gr W t :=
 h.mono fun _ _ ⟨he,hk⟩=>⟨he,gr_gr hk⟩
theorem region_gr {P:Program} {id:Nat} {Q:Exit→Act→World→Prop} {a:Act} {w:World} {l:List Oper} (hm:P.follows .mixedOrders=true) (hB:Region.lexB .any l.toArray=true)
 (h:wpQuiet P l.toArray (fun w'=>∃ t,w'=gr w t) (fun a'=>∀ w',(∃ t,w'=gr w t)→Q .normal a' w') l a):(Code.region id l.toArray true).wp P Q a w :=
 wp_region_quiet (C:=fun w'=>∃ t,w'=gr w t) hm hB ⟨gt #[] (w.drawn+1),by simp [gr,gt_more,gt_count]⟩ (by simpa using h)
def amtB (n:Int):Bool:=decide (0≤n) && decide (n≤1125899906842624)
theorem amtB_true {n:Int} (h:amtB n=true):0≤n∧n≤1125899906842624:=by simpa [amtB] using h
theorem amtB_false {n:Int} (h:amtB n=false):n < 0∨1125899906842624 < n:=by simp [amtB] at h;omega
theorem amtB_yes {n:Int} (h:0≤n) (h':n≤1125899906842624):amtB n=true:=by simp [amtB];omega
theorem amtB_no {n:Int} (h:n < 0∨1125899906842624 < n):amtB n=false:=by simp [amtB];omega
def addB (a b:Int):Bool:=amtB a && amtB b && amtB (a+b)
def addV (a b:Int):Int:=if addB a b=true then a+b else 0
theorem ret_tup {a a':Int} {b b':Bool} (h:a=a') (h':b=b'):Ending.returned (.tuple #[.int .i64 a,.bool b])=.returned (.tuple #[.int .i64 a',.bool b']):=by rw [h,h']
theorem ret_b {b b':Bool} (h:b=b'):Ending.returned (.bool b)=.returned (.bool b'):=by rw [h]
theorem ret_i {a a':Int} (h:a=a'):Ending.returned (.int .i64 a)=.returned (.int .i64 a'):=by rw [h]
end Go.Proofs.YtccdhcempnkgaaaGreatDoor
namespace Go.Proofs.YtccdhcempnkgaaaGreatDoor
open Go.RowKit
set_option linter.unusedVariables false
structure Ln where
 k:Int
 c:Int
 a:Int
def Ln.cells (x:Ln):List Value:=[.int .i64 x.k,.int .i64 x.c,.int .i64 x.a]
abbrev accV (k c:Int):Value:=.agg #[.int .i64 k,.int .i64 c]
def lessB (k c k' c':Int):Bool:=decide (k < k') || (decide (k=k') && decide (c < c'))
theorem ret_bool {a b:Bool} (h:a=b):Ending.returned (.bool a)=.returned (.bool b):=by rw [h]
theorem less_spec (k c k' c':Int) (w:World):Calls Tryz.prog 102 #[accV k c,accV k' c'] w fun e w'=>e=.returned (.bool (lessB k c k' c')) ∧
 w'=(w.alloc (.cells #[.int .i64 k,.int .i64 c] 102)).alloc (.cells #[.int .i64 k',.int .i64 c'] 102):=by
 by_cases h1:k < k'
 ·have H:Hid (lessB k c k' c'=true):=by show _=_;simp [lessB,h1]
  go_enter Tryz.func102,Tryz.ntmps102
  go_wp2
  go_ret
  exact ⟨ret_bool H.out.symm,rfl⟩
 ·by_cases h2:k=k'
  ·subst h2
   by_cases h3:c < c'
   ·have H:Hid (lessB k c k c'=true):=by show _=_;simp [lessB,h3]
    go_enter Tryz.func102,Tryz.ntmps102
    go_wp2
    go_ret
    exact ⟨ret_bool (by rw [H.out]),rfl⟩
   ·have H:Hid (lessB k c k c'=false):=by show _=_;simp [lessB];omega
    go_enter Tryz.func102,Tryz.ntmps102
    go_wp2
    go_ret
    exact ⟨ret_bool (by rw [H.out]),rfl⟩
  ·have H:Hid (lessB k c k' c'=false):=by show _=_;simp [lessB];omega
   have h2':(k==k')=false:=beq_eq_false_iff_ne.2 h2
   clear h2
   go_enter Tryz.func102,Tryz.ntmps102
   go_wp2
   go_ret
   exact ⟨ret_bool (by rw [H.out]),rfl⟩
theorem less_k (k c k' c':Int) (w:World):Calls Tryz.prog 102 #[accV k c,accV k' c'] w fun e w'=>e=.returned (.bool (lessB k c k' c'))∧Keeps w w' :=
 (less_spec k c k' c' w).mono fun _ _ ⟨h,e⟩=>⟨h,by rw [e];exact Keeps.alloc (Keeps.alloc (Keeps.refl _) _) _⟩
end Go.Proofs.YtccdhcempnkgaaaGreatDoor
namespace Go.Proofs.YtccdhcempnkgaaaGreatDoor
open Go.RowKit Go.Deep
set_option linter.unusedVariables false
def Cells (w:World) (a:Option Addr) (xs:List Value):Prop:=xs=[]∨∃ b off,a=some ⟨b,off,none⟩∧∀ j (h:j < xs.length),w.cell? ⟨b,off+j,none⟩=some xs[j]
theorem Cells.kept {w w':World} {a:Option Addr} {xs:List Value} (h:Cells w a xs) (hk:Keeps w w'):Cells w' a xs:=by
 rcases h with h | ⟨b,off,e,h⟩
 ·exact Or.inl h
 ·exact Or.inr ⟨b,off,e,fun j hj=>hk.cell (h j hj)⟩
theorem Cells.nil (w:World) (a:Option Addr):Cells w a []:=Or.inl rfl
theorem cells_add {w:World} {b off:Nat} {xs ys:List Value} (h:∀ j (hj:j < xs.length),w.cell? ⟨b,off+j,none⟩=some xs[j]) (h':∀ j (hj:j < ys.length),w.cell? ⟨b,off+xs.length+j,none⟩=some ys[j]) :
 ∀ j (hj:j < (xs++ys).length),w.cell? ⟨b,off+j,none⟩=some (xs++ys)[j]:=by
 intro j hj
 by_cases hx:j < xs.length
 ·rw [List.getElem_append_left hx];exact h j hx
 ·rw [List.getElem_append_right (by omega)]
  have:=h' (j-xs.length) (by simp at hj;omega)
  rw [show off+xs.length+(j-xs.length)=off+j by omega] at this
  exact this
section
variable {H:Type} {enc:TypeId × Value→H} {P:Program} {w:World} {base:Nat} {spare:Nat→Bool} {held:Bool}
theorem open_cells {t e:TypeId} {sz fuel:Nat} {v:Value} {x:DataW H × List MemPlace} (ht:P.underlying t=some (.slice e)) (hsz:P.cellsOf e=sz) (hpos:0 < sz)
 (h:DataW.trod enc P w base spare held fuel t [v]=some x) (Q:List Value→Prop) (hQ:∀ n cs y,DataW.trod enc P w base spare held n e cs=some y→Q cs) :
 ∃ (a:Option Addr) (cap:Nat) (M:List (List Value)),v=.slice a M.length cap∧(∀ c∈M,c.length=sz∧Q c)∧Cells w a M.flatten∧M.length≤cap∧cap≤maxLen:=by
 rcases open_slice ht h with ⟨hv,_⟩ | ⟨a,len,cap,m,n,D,Pl,hv,hb,hl,hm,hmm,hx,he⟩
 ·simp at hv
  exact ⟨none,0,[],hv,fun c hc=>absurd hc (by simp),Cells.nil _ _,Nat.le_refl _,Nat.zero_le _⟩
 ·simp at hv
  subst hv
  have hlm:len≤m:=by rw [hmm];split <;> omega
  by_cases h0:len=0
  ·subst h0
   exact ⟨some a,cap,[],rfl,fun c hc=>absurd hc (by simp),Cells.nil _ _,Nat.zero_le _,hm⟩
  ·obtain ⟨b,off,spot⟩:=a
   have hspot:spot=none:=by
    obtain ⟨cs',h1,_⟩:=he 0 (by omega)
    rw [hsz] at h1
    obtain ⟨_,_,hcell⟩:=World.cells?_some h1
    have:=hcell 0 (by omega)
    have h2:=World.cell?_spot (w:=w) (a:=_) (v:=_) (by rw [this];exact List.getElem?_eq_getElem (by have:=(World.cells?_some h1).2.1;omega))
    simpa [Addr.add] using h2
   subst hspot
   have build:∀ k,k≤len→∃ M:List (List Value),M.length=k∧(∀ c∈M,c.length=sz∧Q c)∧M.flatten.length=k*sz∧∀ j (hj:j < M.flatten.length),w.cell? ⟨b,off+j,none⟩=some M.flatten[j]:=by
    intro k
    induction k with
    | zero=>exact fun _=>⟨[],rfl,fun c hc=>absurd hc (by simp),by simp,fun j hj=>absurd hj (by simp)⟩
    | succ k ih =>
      intro hk
      obtain ⟨M,hM,hq,hlen,hc⟩:=ih (by omega)
      obtain ⟨cs',h1,h2⟩:=he k (by omega)
      rw [hsz] at h1
      obtain ⟨_,hl',hcell⟩:=World.cells?_some h1
      refine ⟨M++[cs'],by simp [hM],?_,?_,?_⟩
      ·intro c hc'
       rcases List.mem_append.1 hc' with h | h
       ·exact hq c h
       ·rw [List.mem_singleton.1 h];exact ⟨hl',hQ _ _ _ h2⟩
      ·simp [hlen,hl',Nat.add_mul]
      ·have e:(M++[cs']).flatten=M.flatten++cs':=by simp
       intro j hj
       have hfin:=cells_add hc (ys:=cs') (fun j hj=>by
        have g:=hcell j (by omega)
        rw [List.getElem?_eq_getElem hj] at g
        rw [← g,hlen]
        congr 1
        unfold Addr.add
        by_cases hk0:k*sz=0
        ·by_cases hj0:j=0
         ·simp [hk0,hj0]
         ·simp [hk0,hj0]
        ·by_cases hj0:j=0
         ·simp [hk0,hj0]
         ·simp [hk0,hj0])
       have:=hfin j (by rw [← e];exact hj)
       rw [this]
       simp only [e]
   obtain ⟨M,hM,hq,hlen,hc⟩:=build len (Nat.le_refl _)
   exact ⟨some ⟨b,off,none⟩,cap,M,by rw [hM],hq,Or.inr ⟨b,off,rfl,hc⟩,by omega,hm⟩
end
end Go.Proofs.YtccdhcempnkgaaaGreatDoor
namespace Go.Proofs.YtccdhcempnkgaaaGreatDoor
open Go.RowKit
set_option linter.unusedVariables false
def flat (L:List Ln):List Value:=L.flatMap Ln.cells
theorem flat_length (L:List Ln):(flat L).length=3*L.length:=by
 induction L with
 | nil=>rfl
 | cons x t ih=>simp [flat,Ln.cells] at ih ⊢;omega
theorem flat_at:∀ (L:List Ln) (i:Nat) (h:i < L.length),(flat L)[3*i]? = some (.int .i64 L[i].k)∧(flat L)[3*i+1]? = some (.int .i64 L[i].c)∧(flat L)[3*i+2]? = some (.int .i64 L[i].a)
 | [],i,h=>absurd h (Nat.not_lt_zero i)
 | x :: t,0,h=>⟨rfl,rfl,rfl⟩
 | x :: t,i+1,h=>by
   have:=flat_at t i (by simpa using h)
   have e:flat (x :: t)=x.cells++flat t:=rfl
   have l:x.cells.length=3:=rfl
   simp only [List.getElem_cons_succ]
   refine ⟨?_,?_,?_⟩
   ·rw [e,List.getElem?_append_right (by omega),l,show 3*(i+1)-3=3*i by omega];exact this.1
   ·rw [e,List.getElem?_append_right (by omega),l,show 3*(i+1)+1-3=3*i+1 by omega];exact this.2.1
   ·rw [e,List.getElem?_append_right (by omega),l,show 3*(i+1)+2-3=3*i+2 by omega];exact this.2.2
theorem cells_at {w:World} {a:Option Addr} {L:List Ln} (h:Cells w a (flat L)) (i:Nat) (hi:i < L.length) :
 ∃ b off,a=some ⟨b,off,none⟩∧w.cell? ⟨b,off+i*3,none⟩=some (.int .i64 L[i].k)∧w.cell? ⟨b,off+i*3+1,none⟩=some (.int .i64 L[i].c)∧w.cell? ⟨b,off+i*3+2,none⟩=some (.int .i64 L[i].a):=by
 have hl:=flat_length L
 rcases h with h | ⟨b,off,e,h⟩
 ·rw [h] at hl;simp at hl;omega
 ·obtain ⟨f0,f1,f2⟩:=flat_at L i hi
  refine ⟨b,off,e,?_,?_,?_⟩
  ·rw [show off+i*3=off+3*i by omega,h (3*i) (by omega)];rw [List.getElem?_eq_getElem (by omega)] at f0;exact f0
  ·rw [show off+i*3+1=off+(3*i+1) by omega,h (3*i+1) (by omega)];rw [List.getElem?_eq_getElem (by omega)] at f1;exact f1
  ·rw [show off+i*3+2=off+(3*i+2) by omega,h (3*i+2) (by omega)];rw [List.getElem?_eq_getElem (by omega)] at f2;exact f2
end Go.Proofs.YtccdhcempnkgaaaGreatDoor
namespace Go.Proofs.YtccdhcempnkgaaaGreatDoor
open Go.RowKit
set_option linter.unusedVariables false
theorem amtA_impl (n:Int) (w:World):Calls Tryz.prog 85 #[.int .i64 n] w fun e w'=>e=.returned (.bool (amtB n))∧w'=w:=by
 by_cases h1:0≤n
 ·by_cases h2:n≤1125899906842624
  ·have H:Hid (amtB n=true):=by show _=_;simp [amtB,h1,h2]
   go_enter Tryz.func85,Tryz.ntmps85
   go_wp2
   go_ret
   exact ⟨ret_bool H.out.symm,rfl⟩
  ·have H:Hid (amtB n=false):=by show _=_;simp [amtB];omega
   go_enter Tryz.func85,Tryz.ntmps85
   go_wp2
   go_ret
   exact ⟨ret_bool (by rw [H.out]),rfl⟩
 ·have H:Hid (amtB n=false):=by show _=_;simp [amtB];omega
  go_enter Tryz.func85,Tryz.ntmps85
  go_wp2
  go_ret
  exact ⟨ret_bool (by rw [H.out]),rfl⟩
def cmpI (x y:Int):Int:=if x < y then -1 else if y < x then 1 else 0
theorem cmp_lib (x y:Int) (w:World):Calls Tryz.prog 167 #[.int .i64 x,.int .i64 y] w fun e w'=>e=.returned (.int .i64 (cmpI x y))∧w'=w:=by
 go_enter Tryz.func167,Tryz.ntmps167
 go_wp2
 all_goals (go_ret;refine ⟨?_,rfl⟩;unfold cmpI;(repeat' split) <;> first | rfl | (exfalso;omega))
def cmpA (k c k' c':Int):Int:=if k=k' then cmpI c c' else cmpI k k'
theorem cmpA_less {k c k' c':Int}:decide (0≤cmpA k c k' c')=!lessB k c k' c':=by
 unfold cmpA cmpI lessB
 by_cases h:k=k'
 ·subst h
  by_cases h1:c < c'
  ·simp [h1]
  ·by_cases h2:c' < c
   ·simp [h1,h2]
   ·simp [h1,h2]
 ·by_cases h1:k < k'
  ·simp [h,h1]
  ·simp [h,h1,show k' < k by omega]
theorem cmp_impl (k c k' c':Int) (w:World):Calls Tryz.prog 192 #[accV k c,accV k' c'] w fun e w'=>e=.returned (.int .i64 (cmpA k c k' c')) ∧
 w'=(w.alloc (.cells #[.int .i64 k,.int .i64 c] 102)).alloc (.cells #[.int .i64 k',.int .i64 c'] 102):=by
 by_cases h:k=k'
 ·subst h
  have HC:=hide (fun w1=>cmp_lib c c' w1)
  have HV:Hid (cmpA k c k c'=cmpI c c'):=by show _=_;simp [cmpA]
  generalize cmpI c c'=r at *
  go_enter Tryz.func192,Tryz.ntmps192
  go_wp2_with fail
  refine (unhide HC _).mono ?_
  rintro e w1 ⟨rfl,rfl⟩
  go_wp2_with fail
  go_ret
  exact ⟨by rw [HV.out];rfl,rfl⟩
 ·have HC:=hide (fun w1=>cmp_lib k k' w1)
  have HV:Hid (cmpA k c k' c'=cmpI k k'):=by show _=_;simp [cmpA,h]
  have h':(k != k')=true:=by rw [bne_iff_ne];exact h
  clear h
  generalize cmpI k k'=r at *
  go_enter Tryz.func192,Tryz.ntmps192
  go_wp2_with fail
  refine (unhide HC _).mono ?_
  rintro e w1 ⟨rfl,rfl⟩
  go_wp2_with fail
  go_ret
  exact ⟨by rw [HV.out];rfl,rfl⟩
end Go.Proofs.YtccdhcempnkgaaaGreatDoor
namespace Go.Proofs.YtccdhcempnkgaaaGreatDoor
open Go.RowKit
set_option linter.unusedVariables false
abbrev lineV (x:Ln):Value:=.agg #[.int .i64 x.k,.int .i64 x.c,.int .i64 x.a]
theorem eqAcc_k (k c k' c':Int) (w:World):Calls Tryz.prog 129 #[accV k c,accV k' c'] w fun e w'=>e=.returned (.bool (decide (k=k') && decide (c=c')))∧Keeps w w':=by
 have hk:Keeps w ((w.alloc (.cells #[.int .i64 k,.int .i64 c] 102)).alloc (.cells #[.int .i64 k',.int .i64 c'] 102)):=Keeps.alloc (Keeps.alloc (Keeps.refl _) _) _
 have HK:=hide hk
 clear hk
 by_cases h1:k=k'
 ·subst h1
  by_cases h2:c=c'
  ·subst h2
   go_enter Tryz.func129,Tryz.ntmps129
   go_wp2_with fail
   go_ret
   exact ⟨ret_bool (by simp),HK.out⟩
  ·have h2':(c != c')=true:=by rw [bne_iff_ne];exact h2
   have H:=hide h2
   clear h2
   go_enter Tryz.func129,Tryz.ntmps129
   go_wp2_with fail
   go_ret
   exact ⟨ret_bool (by simp [H.out]),HK.out⟩
 ·have h1':(k != k')=true:=by rw [bne_iff_ne];exact h1
  have H:=hide h1
  clear h1
  go_enter Tryz.func129,Tryz.ntmps129
  go_wp2_with fail
  go_ret
  exact ⟨ret_bool (by simp [H.out]),HK.out⟩
def lnEq (x y:Ln):Bool:=decide (x.k=y.k) && decide (x.c=y.c) && decide (x.a=y.a)
theorem eqLine_k (x y:Ln) (w:World):Calls Tryz.prog 101 #[lineV x,lineV y] w fun e w'=>e=.returned (.bool (lnEq x y))∧Keeps w w':=by
 obtain ⟨k,c,a⟩:=x
 obtain ⟨k',c',a'⟩:=y
 have HA:=hide (fun w1=>eqAcc_k k c k' c' w1)
 cases he:decide (k=k') && decide (c=c')
 ·rw [he] at HA
  have H:Hid (lnEq ⟨k,c,a⟩ ⟨k',c',a'⟩=false):=by show _=_;simp only [lnEq,he];rfl
  clear he
  go_enter Tryz.func101,Tryz.ntmps101
  go_wp2_with fail
  refine (unhide HA _).mono ?_
  rintro e w1 ⟨rfl,hk⟩
  go_wp2_with fail
  go_ret
  exact ⟨ret_bool H.out.symm,Keeps.trans (Keeps.alloc (Keeps.alloc (Keeps.refl w) _) _) hk⟩
 ·rw [he] at HA
  have H:Hid (lnEq ⟨k,c,a⟩ ⟨k',c',a'⟩=decide (a=a')):=by show _=_;simp only [lnEq,he];rfl
  clear he
  by_cases h:a=a'
  ·subst h
   go_enter Tryz.func101,Tryz.ntmps101
   go_wp2_with fail
   refine (unhide HA _).mono ?_
   rintro e w1 ⟨rfl,hk⟩
   have ho:=hk.old
   go_wp2_with fail
   go_ret
   exact ⟨ret_bool (by rw [H.out];simp),Keeps.trans (Keeps.alloc (Keeps.alloc (Keeps.refl w) _) _) hk⟩
  ·have h':(a != a')=true:=by rw [bne_iff_ne];exact h
   have HH:=hide h
   clear h
   go_enter Tryz.func101,Tryz.ntmps101
   go_wp2_with fail
   refine (unhide HA _).mono ?_
   rintro e w1 ⟨rfl,hk⟩
   have ho:=hk.old
   go_wp2_with fail
   go_ret
   exact ⟨ret_bool (by rw [H.out];simp [HH.out]),Keeps.trans (Keeps.alloc (Keeps.alloc (Keeps.refl w) _) _) hk⟩
def lsEq (L M:List Ln):Bool:=decide (L.length=M.length) && (List.range L.length).all fun i=>match L[i]?,M[i]? with | some x,some y=>lnEq x y | _,_=>false
theorem lsEq_bad {L M:List Ln} {k:Nat} (h:k < L.length) (hb:(match L[k]?,M[k]? with | some x,some y=>lnEq x y | _,_=>false)=false):lsEq L M=false:=by
 unfold lsEq
 have:((List.range L.length).all fun i=>match L[i]?,M[i]? with | some x,some y=>lnEq x y | _,_=>false)=false:=by
  rw [List.all_eq_false]
  exact ⟨k,List.mem_range.2 h,by rw [hb];simp⟩
 rw [this,Bool.and_false]
theorem lsEq_good {L M:List Ln} (hn:L.length=M.length) (h:∀ i,i < L.length→(match L[i]?,M[i]? with | some x,some y=>lnEq x y | _,_=>false)=true):lsEq L M=true:=by
 unfold lsEq
 have:((List.range L.length).all fun i=>match L[i]?,M[i]? with | some x,some y=>lnEq x y | _,_=>false)=true:=by
  rw [List.all_eq_true]
  exact fun i hi=>h i (List.mem_range.1 hi)
 rw [this,Bool.and_true]
 exact decide_eq_true hn
set_option maxHeartbeats 2000000 in
theorem eqLineS_k (a a':Option Addr) (cap cap':Nat) (L M:List Ln) (w:World) (hc:Cells w a (flat L)) (hc':Cells w a' (flat M)) (hl:L.length≤1048576) (hl':M.length≤1048576) :
 Calls Tryz.prog 54 #[.slice a L.length cap,.slice a' M.length cap'] w fun e w'=>e=.returned (.bool (lsEq L M))∧Keeps w w':=by
 have HC:=hide hc
 have HC':=hide hc'
 clear hc hc'
 by_cases hn:L.length=M.length
 ·have hn':((L.length:Int) != (M.length:Int))=false:=by rw [hn];simp
  have HN:=hide hn
  clear hn
  go_enter Tryz.func54,Tryz.ntmps54
  go_wp2_with fail
  go_loopw [5] (fun y w1=>∃ k:Nat,k≤L.length∧Hid (∀ i,i < k→(match L[i]?,M[i]? with | some x,some y=>lnEq x y | _,_=>false)=true)∧y=.int .i64 (k:Int)∧Keeps w w1) (fun y _=>L.length-(intOf y).toNat)
  case atStart=>exact ⟨0,by omega,fun i hi=>absurd hi (Nat.not_lt_zero i),rfl,Keeps.refl _⟩
  case round =>
   obtain ⟨k,hk,HO,rfl,hkw⟩:=hrel
   by_cases hlt:k < L.length
   ·have hlt':k < M.length:=by have:=HN.out;omega
    obtain ⟨b,off,ea,c0,c1,c2⟩:=cells_at (HC.out.kept hkw) k hlt
    obtain ⟨b',off',ea',d0,d1,d2⟩:=cells_at (HC'.out.kept hkw) k hlt'
    subst ea ea'
    have HE:Hid ((match L[k]?,M[k]? with | some x,some y=>lnEq x y | _,_=>false)=lnEq L[k] M[k]):=by
     show _=_
     rw [List.getElem?_eq_getElem hlt,List.getElem?_eq_getElem hlt']
    have HQ:=hide (fun w1=>eqLine_k L[k] M[k] w1)
    have g0:=gr_cell c0
    have g1:=gr_cell c1
    have g2:=gr_cell c2
    have g3:=gr_cell d0
    have g4:=gr_cell d1
    have g5:=gr_cell d2
    generalize L[k]=x at *
    generalize M[k]=y at *
    cases hq:lnEq x y
    ·rw [hq] at HQ HE
     clear hq
     go_wp2_with fail
     refine region_gr (by kernel_rfl) (by kernel_rfl) ?_
     repeat (go_big_quiet_step (first | (go_at_call 101;exact gr_call (unhide HQ _))))
     refine wpQuiet_nil ?_
     intro w' hw'
     have hk':=hkw.trans (Keeps.of_gr hw')
     clear hw'
     go_wp2_with fail
     go_ret
     exact ⟨ret_bool (lsEq_bad hlt HE.out).symm,hk'⟩
    ·rw [hq] at HQ HE
     clear hq
     go_wp2_with fail
     refine region_gr (by kernel_rfl) (by kernel_rfl) ?_
     repeat (go_big_quiet_step (first | (go_at_call 101;exact gr_call (unhide HQ _))))
     refine wpQuiet_nil ?_
     intro w' hw'
     have hk':=hkw.trans (Keeps.of_gr hw')
     clear hw'
     go_wp2_with fail
     go_roundw
     case rel=>exact ⟨k+1,by omega,fun i hi=>by
                by_cases h:i=k
                ·subst h;exact HE.out
                ·exact HO.out i (by omega),by go_num,hk'⟩
     case measure=>simp [intOf];omega
   ·go_wp2_with fail
    go_ret
    exact ⟨ret_bool (lsEq_good HN.out (fun i hi=>HO.out i (by omega))).symm,hkw⟩
 ·have hn':((L.length:Int) != (M.length:Int))=true:=by rw [bne_iff_ne];omega
  have H:Hid (lsEq L M=false):=by show _=_;simp [lsEq,hn]
  clear hn
  go_enter Tryz.func54,Tryz.ntmps54
  go_wp2_with fail
  go_ret
  exact ⟨ret_bool H.out.symm,Keeps.refl _⟩
end Go.Proofs.YtccdhcempnkgaaaGreatDoor
namespace Go.Proofs.YtccdhcempnkgaaaGreatDoor
open Go.RowKit
set_option linter.unusedVariables false
theorem infoLine:(Tryz.prog.info? 104).map (fun i=>(i.zero,i.size,i.bytes))=some (some (.agg #[.int .i64 0,.int .i64 0,.int .i64 0]),3,24):=by kernel_rfl
theorem underLines:Tryz.prog.underlying 35=some (.slice 104):=by kernel_rfl
end Go.Proofs.YtccdhcempnkgaaaGreatDoor
namespace Go.Proofs.YtccdhcempnkgaaaGreatDoor
open Go.RowKit Go.Deep
set_option linter.unusedVariables false
structure Turn (fs:List Nat) (w w':World):Prop where
 os:w'.os=w.os
 tape:w'.tape=w.tape
 output:w'.output=w.output
 size:w.heap.size≤w'.heap.size
 block:∀ k,k < w.heap.size→k∉fs→w'.heap[k]? = w.heap[k]?
theorem Turn.refl (fs:List Nat) (w:World):Turn fs w w:=⟨rfl,rfl,rfl,Nat.le_refl _,fun _ _ _=>rfl⟩
theorem Turn.of_keeps {w w':World} (h:Keeps w w') (fs:List Nat):Turn fs w w':=⟨h.os,h.tape,h.output,h.size,fun k hk _=>h.block k hk⟩
theorem Turn.trans {fs gs:List Nat} {a b c:World} (h:Turn fs a b) (k:Turn gs b c):Turn (fs++gs) a c :=
 ⟨k.os.trans h.os,k.tape.trans h.tape,k.output.trans h.output,Nat.le_trans h.size k.size,fun i hi hn=>by
  simp only [List.mem_append,not_or] at hn
  exact (k.block i (Nat.lt_of_lt_of_le hi h.size) hn.2).trans (h.block i hi hn.1)⟩
theorem Turn.mono {fs gs:List Nat} {a b:World} (h:Turn fs a b) (hs:∀ x∈fs,x∈gs):Turn gs a b :=
 ⟨h.os,h.tape,h.output,h.size,fun i hi hn=>h.block i hi (fun hx=>hn (hs i hx))⟩
theorem Turn.trans' {fs:List Nat} {a b c:World} (h:Turn fs a b) (k:Turn fs b c):Turn fs a c:=(h.trans k).mono (by simp)
theorem Turn.keeps {fs:List Nat} {W w w':World} (h:Turn fs w w') (hk:Keeps W w) (hf:∀ b∈fs,W.heap.size≤b):Keeps W w' :=
 ⟨h.os.trans hk.os,h.tape.trans hk.tape,h.output.trans hk.output,Nat.le_trans hk.size h.size,fun i hi =>
  (h.block i (Nat.lt_of_lt_of_le hi hk.size) (fun hx=>by have:=hf i hx;omega)).trans (hk.block i hi)⟩
theorem Turn.set {fs:List Nat} {w:World} {a:Addr} (ha:a.block∈fs) (v:Value):Turn fs w (w.setCell a v) :=
 ⟨rfl,rfl,rfl,by rw [nblk_setCell];exact Nat.le_refl _,fun k hk hn=>blk_setCell_other _ _ _ _ (fun e=>hn (e ▸ ha))⟩
theorem Turn.of_grown {w w':World} {row:Option Nat} (h:w.grownBy w' row) {fs:List Nat} (hr:∀ k,row=some k→k∈fs):Turn fs w w' :=
 ⟨h.os,h.tape,h.output,h.size,fun k hk hn=>h.block k hk (fun e=>hn (hr k e.symm))⟩
theorem Turn.cell {fs:List Nat} {w w':World} (h:Turn fs w w') {p:Addr} (hp:p.block∉fs) {v:Value} (hc:w.cell? p=some v):w'.cell? p=some v:=by
 rw [← hc]
 refine World.cell?_of_block (w:=w) (h.block p.block ?_ hp)
 rcases Nat.lt_or_ge p.block w.heap.size with h' | h'
 ·exact h'
 ·simp [World.cell?,Array.getElem?_eq_none h'] at hc
abbrev Seg:=Option Addr × List Value
def fpS (s:Seg):List Nat:=if s.2=[] then [] else match s.1 with | some p=>[p.block] | none=>[]
def fp (S:List Seg):List Nat:=S.flatMap fpS
theorem fp_cons (s:Seg) (S:List Seg):fp (s :: S)=fpS s++fp S:=rfl
theorem fp_append (S T:List Seg):fp (S++T)=fp S++fp T:=by simp [fp]
def Mem (w:World) (S:List Seg):Prop:=∀ s∈S,Cells w s.1 s.2
theorem Mem.nil (w:World):Mem w []:=fun s h=>absurd h (by simp)
theorem mem_cons {w:World} {s:Seg} {S:List Seg}:Mem w (s :: S)↔Cells w s.1 s.2∧Mem w S:=by simp [Mem]
theorem mem_append {w:World} {S T:List Seg}:Mem w (S++T)↔Mem w S∧Mem w T:=by
 simp only [Mem,List.mem_append]
 exact ⟨fun h=>⟨fun s hs=>h s (Or.inl hs),fun s hs=>h s (Or.inr hs)⟩,fun h s hs=>hs.elim (h.1 s) (h.2 s)⟩
theorem Cells.turn {w w':World} {s:Seg} (h:Cells w s.1 s.2) {fs:List Nat} (hk:Turn fs w w') (hd:∀ b∈fpS s,b∉fs):Cells w' s.1 s.2:=by
 rcases h with h | ⟨b,off,e,h⟩
 ·exact Or.inl h
 ·by_cases h0:s.2=[]
  ·exact Or.inl h0
  ·refine Or.inr ⟨b,off,e,fun j hj=>hk.cell (hd b ?_) (h j hj)⟩
   simp [fpS,h0,e]
theorem Mem.turn {w w':World} {S:List Seg} (h:Mem w S) {fs:List Nat} (hk:Turn fs w w') (hd:∀ b∈fp S,b∉fs):Mem w' S :=
 fun s hs=>(h s hs).turn hk (fun b hb=>hd b (List.mem_flatMap.2 ⟨s,hs,hb⟩))
theorem Mem.kept {w w':World} {S:List Seg} (h:Mem w S) (hk:Keeps w w'):Mem w' S:=fun s hs=>(h s hs).kept hk
theorem Cells.lt {w:World} {s:Seg} (h:Cells w s.1 s.2):∀ b∈fpS s,b < w.heap.size:=by
 intro b hb
 rcases h with h | ⟨g,off,e,h⟩
 ·simp [fpS,h] at hb
 ·by_cases h0:s.2=[]
  ·simp [fpS,h0] at hb
  ·simp [fpS,h0,e] at hb
   subst hb
   exact lt_of_cell (h 0 (List.length_pos_iff.2 h0))
theorem Mem.lt {w:World} {S:List Seg} (h:Mem w S):∀ b∈fp S,b < w.heap.size:=by
 intro b hb
 obtain ⟨s,hs,hb⟩:=List.mem_flatMap.1 hb
 exact (h s hs).lt b hb
def Free (w:World) (fs:List Nat):Prop:=∀ b∈fs,∀ o,w.frozen? ⟨b,o,none⟩=false
theorem Free.turn {w w':World} {fs gs:List Nat} (h:Free w fs) (hk:Turn gs w w') (hd:∀ b∈fs,b∉gs) (hl:∀ b∈fs,b < w.heap.size):Free w' fs:=fun b hb o=>by
 rw [← h b hb o]
 exact World.frozen?_of_block (w:=w) (hk.block b (hl b hb) (hd b hb))
theorem frozen_set (w:World) (a p:Addr) (v:Value):(w.setCell a v).frozen? p=w.frozen? p:=by simp
structure Own (w:World) (S:List Seg):Prop where
 mem:Mem w S
 nd:(fp S).Nodup
 free:Free w (fp S)
theorem Own.nil (w:World):Own w []:=⟨Mem.nil w,by simp [fp],fun b hb=>absurd hb (by simp [fp])⟩
theorem Own.turn {w w':World} {S:List Seg} (h:Own w S) {fs:List Nat} (hk:Turn fs w w') (hd:∀ b∈fp S,b∉fs):Own w' S :=
 ⟨h.mem.turn hk hd,h.nd,h.free.turn hk hd h.mem.lt⟩
theorem Own.kept {w w':World} {S:List Seg} (h:Own w S) (hk:Keeps w w'):Own w' S:=h.turn (Turn.of_keeps hk []) (by simp)
theorem Own.left {w:World} {S T:List Seg} (h:Own w (S++T)):Own w S :=
 ⟨(mem_append.1 h.mem).1,by have:=h.nd;rw [fp_append] at this;exact (List.nodup_append.1 this).1,fun b hb=>h.free b (by rw [fp_append];exact List.mem_append_left _ hb)⟩
theorem Own.right {w:World} {S T:List Seg} (h:Own w (S++T)):Own w T :=
 ⟨(mem_append.1 h.mem).2,by have:=h.nd;rw [fp_append] at this;exact (List.nodup_append.1 this).2.1,fun b hb=>h.free b (by rw [fp_append];exact List.mem_append_right _ hb)⟩
theorem Own.apart {w:World} {S T:List Seg} (h:Own w (S++T)):∀ b∈fp S,b∉fp T:=by
 have:=h.nd
 rw [fp_append] at this
 exact fun b hb hb'=>(List.nodup_append.1 this).2.2 b hb b hb' rfl
theorem Own.append {w:World} {S T:List Seg} (h:Own w S) (k:Own w T) (hd:∀ b∈fp S,b∉fp T):Own w (S++T) :=
 ⟨mem_append.2 ⟨h.mem,k.mem⟩,by rw [fp_append];exact List.nodup_append.2 ⟨h.nd,k.nd,fun a ha b hb e=>hd a ha (e ▸ hb)⟩,fun b hb=>by
  rw [fp_append] at hb
  rcases List.mem_append.1 hb with hb | hb
  ·exact h.free b hb
  ·exact k.free b hb⟩
structure Born (w w':World) (S:List Seg):Prop extends Own w' S where
 new:∀ b∈fp S,w.heap.size≤b
theorem Born.nil (w w':World):Born w w' []:=⟨Own.nil w',fun b hb=>absurd hb (by simp [fp])⟩
theorem Born.old {w0 w w':World} {S:List Seg} (h:Born w w' S) (hk:Keeps w0 w):Born w0 w' S:=⟨h.toOwn,fun b hb=>Nat.le_trans hk.size (h.new b hb)⟩
theorem Born.kept {w w' w'':World} {S:List Seg} (h:Born w w' S) (hk:Keeps w' w''):Born w w'' S:=⟨h.toOwn.kept hk,h.new⟩
theorem Born.turn {w w' w'':World} {S:List Seg} (h:Born w w' S) {fs:List Nat} (hk:Turn fs w' w'') (hd:∀ b∈fp S,b∉fs):Born w w'' S:=⟨h.toOwn.turn hk hd,h.new⟩
theorem Born.apart {w w':World} {S T:List Seg} (h:Born w w' S) (k:Mem w T):∀ b∈fp T,b∉fp S:=fun b hb hb'=>by
 have:=h.new b hb'
 have:=k.lt b hb
 omega
theorem Born.apart' {w w':World} {S T:List Seg} (h:Born w w' S) (k:Mem w T):∀ b∈fp S,b∉fp T:=fun b hb hb'=>h.apart k b hb' hb
theorem fp_one (a:Option Addr) (xs:List Value):fp [(a,xs)]=fpS (a,xs):=by simp [fp]
theorem fpS_some {b off:Nat} {xs:List Value} (h:xs≠[]):fpS (some ⟨b,off,none⟩,xs)=[b]:=by simp [fpS,h]
theorem fpS_len {a:Option Addr} {xs ys:List Value} (h:xs.length=ys.length):fpS (a,xs)=fpS (a,ys):=by
 unfold fpS
 by_cases h0:xs=[]
 ·have:ys=[]:=List.length_eq_zero_iff.1 (by rw [← h,h0];rfl)
  simp [h0,this]
 ·have:ys≠[]:=fun e=>h0 (List.length_eq_zero_iff.1 (by rw [h,e];rfl))
  simp [h0,this]
theorem Own.of_owns {w:World} {base n:Nat} {e:TypeId} {sz:Nat} {v:Value} {xs:List Value} (h:w.ownsRow base e sz v n xs) :
 ∃ (a:Option Addr) (cap:Nat),v=.slice a n cap∧n≤cap∧cap≤maxLen∧(a=none→cap=0)∧Own w [(a,xs)]∧∀ b∈fp [(a,xs)],base≤b:=by
 rcases h.2 with ⟨rfl,h'⟩ | ⟨g,cap,cur,rfl,hb,hg,hn,hm,hsz,ht⟩
 ·have hx:xs=[]:=List.length_eq_zero_iff.1 (by rw [h.1,h'];simp)
  subst hx h'
  refine ⟨none,0,rfl,Nat.le_refl _,Nat.zero_le _,fun _=>rfl,⟨?_,by simp [fp,fpS],fun b hb=>absurd hb (by simp [fp,fpS])⟩,fun b hb=>absurd hb (by simp [fp,fpS])⟩
  intro s hs
  rw [List.mem_singleton.1 hs]
  exact Cells.nil _ _
 ·have hfz:∀ o,w.frozen? ⟨g,o,none⟩=false:=fun o=>by simp [World.frozen?,hg]
  refine ⟨_,cap,rfl,hn,hm,fun e=>(nomatch e),⟨?_,?_,?_⟩,?_⟩
  ·intro s hs
   rw [List.mem_singleton.1 hs]
   refine Or.inr ⟨g,0,rfl,fun j hj=>?_⟩
   rw [Nat.zero_add]
   have h1:w.cell? ⟨g,j,none⟩=cur[j]?:=by simp [World.cell?,hg]
   have hj':j < xs.length:=hj
   rw [h1,← List.getElem?_eq_getElem hj]
   show _=xs[j]?
   rw [← ht,List.getElem?_take]
   rw [h.1] at hj'
   rw [if_pos hj']
   simp
  ·by_cases h0:xs=[] <;> simp [fp,fpS,h0]
  ·intro b hb'
   by_cases h0:xs=[]
   ·simp [fp,fpS,h0] at hb'
   ·simp [fp,fpS,h0] at hb'
    subst hb'
    exact hfz
  ·intro b hb'
   by_cases h0:xs=[]
   ·simp [fp,fpS,h0] at hb'
   ·simp [fp,fpS,h0] at hb'
    subst hb'
    exact hb
theorem Own.one {w:World} {a:Option Addr} {xs:List Value} (h:Own w [(a,xs)]):Cells w a xs:=h.mem (a,xs) (by simp)
end Go.Proofs.YtccdhcempnkgaaaGreatDoor
