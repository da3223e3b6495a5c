/- Texts of the verifier, joined: Jam2, Bk, Flt. -/
import Derived.Test.YtccdhcempnkgaaaGreatDoorPL3
import Derived.Deep.DrawnRows
import Derived.Deep.Heap
import Derived.Test.YtccdhcempnkgaaaGreatDoorPL2
import Derived.Deep.OwnRows
import Derived.Laws.MakeOwn
namespace Go.Proofs.YtccdhcempnkgaaaGreatDoor
open Go.RowKit Go.Deep
set_option linter.unusedVariables false
theorem amt_impl (n:Int) (w:World):Calls Tryz.prog 85 #[.int .i64 n] w fun e w'=>e=.returned (.bool (amtB n))∧Keeps w w':=by
 by_cases h1:0≤n
 ·by_cases h2:n≤1125899906842624
  ·go_enter Tryz.func85,Tryz.ntmps85
   go_wp2
   go_ret
   exact ⟨ret_b (amtB_yes h1 h2).symm,Keeps.refl _⟩
  ·go_enter Tryz.func85,Tryz.ntmps85
   go_wp2
   go_ret
   exact ⟨ret_b (amtB_no (by omega)).symm,Keeps.refl _⟩
 ·go_enter Tryz.func85,Tryz.ntmps85
  go_wp2
  go_ret
  exact ⟨ret_b (amtB_no (by omega)).symm,Keeps.refl _⟩
theorem amt_spec (n:Int) (w:World):Calls Tryz.prog 64 #[.int .i64 n] w fun e w'=>e=.returned (.bool (amtB n))∧Keeps w w':=by
 by_cases h1:0≤n
 ·by_cases h2:n≤1125899906842624
  ·go_enter Tryz.func64,Tryz.ntmps64
   go_wp2
   go_ret
   exact ⟨ret_b (amtB_yes h1 h2).symm,Keeps.refl _⟩
  ·go_enter Tryz.func64,Tryz.ntmps64
   go_wp2
   go_ret
   exact ⟨ret_b (amtB_no (by omega)).symm,Keeps.refl _⟩
 ·go_enter Tryz.func64,Tryz.ntmps64
  go_wp2
  go_ret
  exact ⟨ret_b (amtB_no (by omega)).symm,Keeps.refl _⟩
def standS (n:Int) (b:Bool):Bool:=okS n && decide (20≤n) && b
theorem stand_impl (n:Int) (b:Bool) (w:World):Calls Tryz.prog 146 #[.int .i64 n,.bool b] w fun e w'=>e=.returned (.bool (standS n b))∧Keeps w w':=by
 obtain ⟨v,hv⟩:∃ v:Bool,v=standS n b:=⟨_,rfl⟩
 rw [← hv]
 cases h:okS n
 ·have h0:v=false:=by rw [hv];simp [standS,h]
  subst h0;clear hv
  go_enter Tryz.func146,Tryz.ntmps146
  go_wp2_with fail
  refine (sok_impl n _).mono ?_
  rintro x w1 ⟨rfl,hk⟩
  rw [h]
  go_wp2_with fail
  go_ret
  exact ⟨rfl,hk⟩
 ·simp only [standS,h,Bool.true_and] at hv
  go_enter Tryz.func146,Tryz.ntmps146
  go_wp2_with fail
  refine (sok_impl n _).mono ?_
  rintro x w1 ⟨rfl,hk⟩
  rw [h]
  go_wp2
  all_goals go_ret
  all_goals exact ⟨ret_b (by by_cases hn:20≤n <;> (try omega) <;> simp [hn,hv]),hk⟩
theorem stand_spec (n:Int) (b:Bool) (w:World):Calls Tryz.prog 105 #[.int .i64 n,.bool b] w fun e w'=>e=.returned (.bool (standS n b))∧Keeps w w':=by
 obtain ⟨v,hv⟩:∃ v:Bool,v=standS n b:=⟨_,rfl⟩
 rw [← hv]
 cases h:okS n
 ·have h0:v=false:=by rw [hv];simp [standS,h]
  subst h0;clear hv
  go_enter Tryz.func105,Tryz.ntmps105
  go_wp2_with fail
  refine (sok_spec n _).mono ?_
  rintro x w1 ⟨rfl,hk⟩
  rw [h]
  go_wp2_with fail
  go_ret
  exact ⟨rfl,hk⟩
 ·simp only [standS,h,Bool.true_and] at hv
  go_enter Tryz.func105,Tryz.ntmps105
  go_wp2_with fail
  refine (sok_spec n _).mono ?_
  rintro x w1 ⟨rfl,hk⟩
  rw [h]
  go_wp2
  all_goals go_ret
  all_goals exact ⟨ret_b (by by_cases hn:20≤n <;> (try omega) <;> simp [hn,hv]),hk⟩
def useB (a k:Int):Bool:=amtB a && decide (0≤k)
def withinB (uf sf ua sa:Int):Bool:=decide (uf≤ua) && decide (sf≤sa)
def placeB (u k n s m:Int):Bool:=decide (k < m) && decide (u+n≤s)
def allowV (s uf ua sf sa n:Int) (g:Bool):Int :=
 if (amtB s && amtB n && useB uf sf && useB ua sa && withinB uf sf ua sa)=true then
  (if placeB ua sa n s 10=true then (if placeB uf sf n (s / 2) 5=true then 1 else if g=true then 2 else 0) else 0) else 0
theorem cellA (w:World) (x y:Value) (t:TypeId):(w.alloc (.cells #[x,y] t)).cell? ⟨w.heap.size,0,none⟩=some x∧(w.alloc (.cells #[x,y] t)).cell? ⟨w.heap.size,1,none⟩=some y:=by
 have hB:(w.alloc (.cells #[x,y] t)).heap[w.heap.size]? = some (.cells #[x,y] t (0,0)):=blk_alloc_new w _
 revert hB
 generalize w.alloc (.cells #[x,y] t)=W
 intro hB
 constructor <;> simp [World.cell?,hB]
theorem size_alloc1 (w:World) (o:Obj):(w.alloc o).heap.size=w.heap.size+1:=by simp
theorem keepsA (w:World) (o:Obj):Keeps w (w.alloc o):=Keeps.alloc (Keeps.refl w) o
theorem uright_impl (a k:Int) (w:World):Calls Tryz.prog 172 #[.agg #[.int .i64 a,.int .i64 k]] w fun e w'=>e=.returned (.bool (useB a k))∧Keeps w w':=by
 obtain ⟨v,hv⟩:∃ v:Bool,v=useB a k:=⟨_,rfl⟩
 rw [← hv]
 go_enter Tryz.func172,Tryz.ntmps172
 go_wp2_with fail
 have hcA:=cellA w (.int .i64 a) (.int .i64 k) 189
 have hkA:=keepsA w (.cells #[.int .i64 a,.int .i64 k] 189)
 refine (amt_impl a _).mono ?_
 rintro x w1 ⟨rfl,hk⟩
 have c1:=hk.cell hcA.2
 have hk1:=hkA.trans hk
 clear hcA hkA hk
 cases h:amtB a
 ·simp only [useB,h,Bool.false_and] at hv
  subst hv
  go_wp2_with fail
  go_ret
  exact ⟨rfl,hk1⟩
 ·simp only [useB,h,Bool.true_and] at hv
  go_wp2_with fail
  go_ret
  exact ⟨ret_b hv.symm,hk1⟩
theorem within_impl (a k b l:Int) (w:World):Calls Tryz.prog 173 #[.agg #[.int .i64 a,.int .i64 k],.agg #[.int .i64 b,.int .i64 l]] w fun e w'=>e=.returned (.bool (withinB a k b l))∧Keeps w w':=by
 go_enter Tryz.func173,Tryz.ntmps173
 go_wp2
 all_goals go_ret
 ·exact ⟨ret_b (by simp [withinB, *]),(keepsA _ _).trans (keepsA _ _)⟩
 ·rename_i h
  have h':¬ a≤b:=by omega
  exact ⟨ret_b (by simp [withinB,h']),(keepsA _ _).trans (keepsA _ _)⟩
theorem place_impl (u k n s m:Int) (u0:0≤u) (u1:u≤1125899906842624) (n0:0≤n) (n1:n≤1125899906842624) (w:World):Calls Tryz.prog 174 #[.agg #[.int .i64 u,.int .i64 k],.int .i64 n,.int .i64 s,.int .i64 m] w fun e w'=>e=.returned (.bool (placeB u k n s m))∧Keeps w w':=by
 go_enter Tryz.func174,Tryz.ntmps174
 go_wp2
 all_goals go_ret
 ·exact ⟨ret_b (by simp [placeB, *]),keepsA _ _⟩
 ·rename_i h
  have h':¬ k < m:=by omega
  exact ⟨ret_b (by simp [placeB,h']),keepsA _ _⟩
theorem useB_true {a k:Int} (h:useB a k=true):0≤a∧a≤1125899906842624:=by
 unfold useB at h
 cases h2:amtB a
 ·simp [h2] at h
 ·exact amtB_true h2
set_option maxHeartbeats 2000000 in
theorem allow_impl (s uf ua sf sa n:Int) (g:Bool) (w:World):Calls Tryz.prog 145 #[.int .i64 s,.int .i64 uf,.int .i64 ua,.int .i64 sf,.int .i64 sa,.int .i64 n,.bool g] w fun e w'=>e=.returned (.int .i64 (allowV s uf ua sf sa n g))∧Keeps w w':=by
 obtain ⟨v,hv⟩:∃ v:Int,v=allowV s uf ua sf sa n g:=⟨_,rfl⟩
 rw [← hv]
 unfold allowV at hv
 replace hv:=hide hv
 go_enter Tryz.func145,Tryz.ntmps145
 go_wp2_with fail
 have hA:=cellA w (.int .i64 uf) (.int .i64 sf) 189
 have hkA:=keepsA w (.cells #[.int .i64 uf,.int .i64 sf] 189)
 have hz:=size_alloc1 w (.cells #[.int .i64 uf,.int .i64 sf] 189)
 have hB:=cellA (w.alloc (.cells #[.int .i64 uf,.int .i64 sf] 189)) (.int .i64 ua) (.int .i64 sa) 189
 have hkB:=keepsA (w.alloc (.cells #[.int .i64 uf,.int .i64 sf] 189)) (.cells #[.int .i64 ua,.int .i64 sa] 189)
 rw [hz] at hB
 have f0:=hkB.cell hA.1
 have f1:=hkB.cell hA.2
 have f2:=hB.1
 have f3:=hB.2
 have hK:=hide (hkA.trans hkB)
 clear hA hkA hz hB hkB
 refine (amt_impl s _).mono ?_
 rintro x w1 ⟨rfl,hk⟩
 replace f0:=hk.cell f0
 replace f1:=hk.cell f1
 replace f2:=hk.cell f2
 replace f3:=hk.cell f3
 replace hK:=hide (hK.out.trans hk)
 clear hk
 cases h1:amtB s
 ·have h0:=hv.out
  simp [h1] at h0
  subst h0;clear hv
  go_wp2_with fail
  go_ret
  exact ⟨rfl,hK.out⟩
 ·skip
  go_wp2_with fail
  refine (amt_impl n _).mono ?_
  rintro x w2 ⟨rfl,hk⟩
  replace f0:=hk.cell f0
  replace f1:=hk.cell f1
  replace f2:=hk.cell f2
  replace f3:=hk.cell f3
  replace hK:=hide (hK.out.trans hk)
  clear hk
  cases h2:amtB n
  ·have h0:=hv.out
   simp [h1,h2] at h0
   subst h0;clear hv
   go_wp2_with fail
   go_ret
   exact ⟨rfl,hK.out⟩
  ·skip
   go_wp2_with fail
   refine (uright_impl uf sf _).mono ?_
   rintro x w3 ⟨rfl,hk⟩
   replace f0:=hk.cell f0
   replace f1:=hk.cell f1
   replace f2:=hk.cell f2
   replace f3:=hk.cell f3
   replace hK:=hide (hK.out.trans hk)
   clear hk
   cases h3:useB uf sf
   ·have h0:=hv.out
    simp [h1,h2,h3] at h0
    subst h0;clear hv
    go_wp2_with fail
    go_ret
    exact ⟨rfl,hK.out⟩
   ·skip
    go_wp2_with fail
    refine (uright_impl ua sa _).mono ?_
    rintro x w4 ⟨rfl,hk⟩
    replace f0:=hk.cell f0
    replace f1:=hk.cell f1
    replace f2:=hk.cell f2
    replace f3:=hk.cell f3
    replace hK:=hide (hK.out.trans hk)
    clear hk
    cases h4:useB ua sa
    ·have h0:=hv.out
     simp [h1,h2,h3,h4] at h0
     subst h0;clear hv
     go_wp2_with fail
     go_ret
     exact ⟨rfl,hK.out⟩
    ·skip
     go_wp2_with fail
     refine (within_impl uf sf ua sa _).mono ?_
     rintro x w5 ⟨rfl,hk⟩
     replace f0:=hk.cell f0
     replace f1:=hk.cell f1
     replace f2:=hk.cell f2
     replace f3:=hk.cell f3
     replace hK:=hide (hK.out.trans hk)
     clear hk
     cases h5:withinB uf sf ua sa
     ·have h0:=hv.out
      simp [h1,h2,h3,h4,h5] at h0
      subst h0;clear hv
      go_wp2_with fail
      go_ret
      exact ⟨rfl,hK.out⟩
     ·skip
      obtain ⟨s0,s1⟩:=amtB_true h1
      obtain ⟨n0,n1⟩:=amtB_true h2
      obtain ⟨u0,u1⟩:=useB_true h3
      obtain ⟨v0,v1⟩:=useB_true h4
      go_wp2_with fail
      refine (place_impl ua sa n s 10 v0 v1 n0 n1 _).mono ?_
      rintro x w6 ⟨rfl,hk⟩
      replace f0:=hk.cell f0
      replace f1:=hk.cell f1
      replace f2:=hk.cell f2
      replace f3:=hk.cell f3
      replace hK:=hide (hK.out.trans hk)
      clear hk
      cases h6:placeB ua sa n s 10
      ·have h0:=hv.out
       simp [h1,h2,h3,h4,h5,h6] at h0
       subst h0;clear hv
       go_wp2_with fail
       go_ret
       exact ⟨rfl,hK.out⟩
      ·skip
       go_wp2_with fail
       refine (place_impl uf sf n (s / 2) 5 u0 u1 n0 n1 _).mono ?_
       rintro x w7 ⟨rfl,hk⟩
       replace f0:=hk.cell f0
       replace f1:=hk.cell f1
       replace f2:=hk.cell f2
       replace f3:=hk.cell f3
       replace hK:=hide (hK.out.trans hk)
       clear hk
       have h0:=hv.out
       simp only [h1,h2,h3,h4,h5,h6,Bool.and_self,if_true] at h0
       clear hv
       cases h7:placeB uf sf n (s / 2) 5
       ·cases g
        ·simp [h7] at h0
         subst h0
         go_wp2_with fail
         go_ret
         exact ⟨rfl,hK.out⟩
        ·simp [h7] at h0
         subst h0
         go_wp2_with fail
         go_ret
         exact ⟨rfl,hK.out⟩
       ·simp [h7] at h0
        subst h0
        go_wp2_with fail
        go_ret
        exact ⟨rfl,hK.out⟩
theorem allowV_no {s uf ua sf sa n:Int} {g:Bool} (h:¬ (0≤s∧s≤1125899906842624∧0≤uf∧uf≤1125899906842624∧0≤ua∧ua≤1125899906842624∧0≤n∧n≤1125899906842624∧0≤sf∧0≤sa∧uf≤ua∧sf≤sa)):allowV s uf ua sf sa n g=0:=by
 unfold allowV
 rw [if_neg]
 intro hh
 simp [useB,withinB,amtB] at hh
 omega
theorem allowV_full {s uf ua sf sa n:Int} {g:Bool} (h:¬ (sa < 10∧ua+n≤s)):allowV s uf ua sf sa n g=0:=by
 unfold allowV
 split
 ·rw [if_neg]
  intro hh
  simp [placeB] at hh
  omega
 ·rfl
theorem allowV_yes {s uf ua sf sa n:Int} {g:Bool} (h:0≤s∧s≤1125899906842624∧0≤uf∧uf≤1125899906842624∧0≤ua∧ua≤1125899906842624∧0≤n∧n≤1125899906842624∧0≤sf∧0≤sa∧uf≤ua∧sf≤sa) (h2:sa < 10∧ua+n≤s):allowV s uf ua sf sa n g=(if sf < 5∧uf+n≤s / 2 then 1 else if g=true then 2 else 0):=by
 unfold allowV
 rw [if_pos (by simp [useB,withinB,amtB];omega),if_pos (by simp [placeB];omega)]
 simp [placeB]
set_option maxHeartbeats 2000000 in
theorem allow_spec (s uf ua sf sa n:Int) (g:Bool) (w:World):Calls Tryz.prog 104 #[.int .i64 s,.int .i64 uf,.int .i64 ua,.int .i64 sf,.int .i64 sa,.int .i64 n,.bool g] w fun e w'=>e=.returned (.int .i64 (allowV s uf ua sf sa n g))∧Keeps w w':=by
 obtain ⟨v,hv⟩:∃ v:Int,v=allowV s uf ua sf sa n g:=⟨_,rfl⟩
 rw [← hv]
 replace hv:=hide hv
 go_enter Tryz.func104,Tryz.ntmps104
 go_wp2_with fail
 have hK:=hide (Keeps.refl w)
 refine (amt_spec s _).mono ?_
 rintro x w1 ⟨rfl,hk⟩
 replace hK:=hide (hK.out.trans hk)
 clear hk
 cases h1:amtB s
 ·have h0:=hv.out
  rw [allowV_no (by have:=amtB_false h1;omega)] at h0
  subst h0;clear hv
  go_wp2_with fail
  go_ret
  exact ⟨rfl,hK.out⟩
 ·skip
  go_wp2_with fail
  refine (amt_spec uf _).mono ?_
  rintro x w2 ⟨rfl,hk⟩
  replace hK:=hide (hK.out.trans hk)
  clear hk
  cases h2:amtB uf
  ·have h0:=hv.out
   rw [allowV_no (by have:=amtB_false h2;omega)] at h0
   subst h0;clear hv
   go_wp2_with fail
   go_ret
   exact ⟨rfl,hK.out⟩
  ·skip
   go_wp2_with fail
   refine (amt_spec ua _).mono ?_
   rintro x w3 ⟨rfl,hk⟩
   replace hK:=hide (hK.out.trans hk)
   clear hk
   cases h3:amtB ua
   ·have h0:=hv.out
    rw [allowV_no (by have:=amtB_false h3;omega)] at h0
    subst h0;clear hv
    go_wp2_with fail
    go_ret
    exact ⟨rfl,hK.out⟩
   ·skip
    go_wp2_with fail
    refine (amt_spec n _).mono ?_
    rintro x w4 ⟨rfl,hk⟩
    replace hK:=hide (hK.out.trans hk)
    clear hk
    cases h4:amtB n
    ·have h0:=hv.out
     rw [allowV_no (by have:=amtB_false h4;omega)] at h0
     subst h0;clear hv
     go_wp2_with fail
     go_ret
     exact ⟨rfl,hK.out⟩
    ·skip
     obtain ⟨s0,s1⟩:=amtB_true h1
     obtain ⟨uf0,uf1⟩:=amtB_true h2
     obtain ⟨ua0,ua1⟩:=amtB_true h3
     obtain ⟨n0,n1⟩:=amtB_true h4
     by_cases c0:0≤sf
     rotate_left
     ·have h0:=hv.out
      rw [allowV_no (by omega)] at h0
      subst h0;clear hv
      go_wp2
      all_goals go_ret
      all_goals exact ⟨rfl,hK.out⟩
     by_cases c1:0≤sa
     rotate_left
     ·have h0:=hv.out
      rw [allowV_no (by omega)] at h0
      subst h0;clear hv
      go_wp2
      all_goals go_ret
      all_goals exact ⟨rfl,hK.out⟩
     by_cases c2:uf≤ua
     rotate_left
     ·have h0:=hv.out
      rw [allowV_no (by omega)] at h0
      subst h0;clear hv
      go_wp2
      all_goals go_ret
      all_goals exact ⟨rfl,hK.out⟩
     by_cases c3:sf≤sa
     rotate_left
     ·have h0:=hv.out
      rw [allowV_no (by omega)] at h0
      subst h0;clear hv
      go_wp2
      all_goals go_ret
      all_goals exact ⟨rfl,hK.out⟩
     by_cases c4:sa < 10
     rotate_left
     ·have h0:=hv.out
      rw [allowV_full (by omega)] at h0
      subst h0;clear hv
      go_wp2
      all_goals go_ret
      all_goals exact ⟨rfl,hK.out⟩
     by_cases c5:ua+n≤s
     rotate_left
     ·have h0:=hv.out
      rw [allowV_full (by omega)] at h0
      subst h0;clear hv
      go_wp2
      all_goals go_ret
      all_goals exact ⟨rfl,hK.out⟩
     have h0:=hv.out
     rw [allowV_yes (by omega) (by omega)] at h0
     clear hv
     cases g
     ·go_wp2
      all_goals go_ret
      all_goals exact ⟨ret_i (by split at h0 <;> simp_all <;> omega),hK.out⟩
     ·go_wp2
      all_goals go_ret
      all_goals exact ⟨ret_i (by split at h0 <;> simp_all <;> omega),hK.out⟩
end Go.Proofs.YtccdhcempnkgaaaGreatDoor
namespace Go.Proofs.YtccdhcempnkgaaaGreatDoor
open Go.RowKit Go.Deep
set_option linter.unusedVariables false
set_option maxRecDepth 10000
structure Chn where
 id:Int
 sz:Int
 lo:Int
 re:Int
 ba:Int
 pp:Int
 sc:Int
def Chn.cells (x:Chn):List Value:=[.int .i64 x.id,.int .i64 x.sz,.int .i64 x.lo,.int .i64 x.re,.int .i64 x.ba,.int .i64 x.pp,.int .i64 x.sc]
def chs (xs:List Chn):List Value:=xs.flatMap Chn.cells
theorem chs_len (xs:List Chn):(chs xs).length=xs.length*7:=flatMap_len (f:=Chn.cells) (sz:=7) (fun _=>rfl) xs
theorem chs_append (xs ys:List Chn):chs (xs++ys)=chs xs++chs ys:=by simp [chs]
theorem chs_at {w:World} {a:Option Addr} {xs:List Chn} (h:Cells w a (chs xs)) (k:Nat) (hk:k < xs.length) :
 ∃ b off,a=some ⟨b,off,none⟩∧w.cell? ⟨b,off+k*7,none⟩=some (.int .i64 xs[k].id)∧w.cell? ⟨b,off+k*7+1,none⟩=some (.int .i64 xs[k].sz)∧w.cell? ⟨b,off+k*7+2,none⟩=some (.int .i64 xs[k].lo)∧w.cell? ⟨b,off+k*7+3,none⟩=some (.int .i64 xs[k].re)∧w.cell? ⟨b,off+k*7+4,none⟩=some (.int .i64 xs[k].ba)∧w.cell? ⟨b,off+k*7+5,none⟩=some (.int .i64 xs[k].pp)∧w.cell? ⟨b,off+k*7+6,none⟩=some (.int .i64 xs[k].sc):=by
 obtain ⟨b,off,e,h⟩:=elem_at (f:=Chn.cells) (sz:=7) (fun _=>rfl) h k hk (by decide)
 exact ⟨b,off,e,h 0 (by simp [Chn.cells]),h 1 (by simp [Chn.cells]),h 2 (by simp [Chn.cells]),h 3 (by simp [Chn.cells]),h 4 (by simp [Chn.cells]),h 5 (by simp [Chn.cells]),h 6 (by simp [Chn.cells])⟩
structure Htl where
 ky:Int
 inn:Int
 out:Int
 ai:Int
 ao:Int
 kp:Bool
 ag:Int
def Htl.cells (x:Htl):List Value:=[.int .i64 x.ky,.int .i64 x.inn,.int .i64 x.out,.int .i64 x.ai,.int .i64 x.ao,.bool x.kp,.int .i64 x.ag]
def hts (xs:List Htl):List Value:=xs.flatMap Htl.cells
theorem hts_len (xs:List Htl):(hts xs).length=xs.length*7:=flatMap_len (f:=Htl.cells) (sz:=7) (fun _=>rfl) xs
theorem hts_append (xs ys:List Htl):hts (xs++ys)=hts xs++hts ys:=by simp [hts]
theorem hts_at {w:World} {a:Option Addr} {xs:List Htl} (h:Cells w a (hts xs)) (k:Nat) (hk:k < xs.length) :
 ∃ b off,a=some ⟨b,off,none⟩∧w.cell? ⟨b,off+k*7,none⟩=some (.int .i64 xs[k].ky)∧w.cell? ⟨b,off+k*7+1,none⟩=some (.int .i64 xs[k].inn)∧w.cell? ⟨b,off+k*7+2,none⟩=some (.int .i64 xs[k].out)∧w.cell? ⟨b,off+k*7+3,none⟩=some (.int .i64 xs[k].ai)∧w.cell? ⟨b,off+k*7+4,none⟩=some (.int .i64 xs[k].ao)∧w.cell? ⟨b,off+k*7+5,none⟩=some (.bool xs[k].kp)∧w.cell? ⟨b,off+k*7+6,none⟩=some (.int .i64 xs[k].ag):=by
 obtain ⟨b,off,e,h⟩:=elem_at (f:=Htl.cells) (sz:=7) (fun _=>rfl) h k hk (by decide)
 exact ⟨b,off,e,h 0 (by simp [Htl.cells]),h 1 (by simp [Htl.cells]),h 2 (by simp [Htl.cells]),h 3 (by simp [Htl.cells]),h 4 (by simp [Htl.cells]),h 5 (by simp [Htl.cells]),h 6 (by simp [Htl.cells])⟩
structure Crc where
 ky:Int
 fr:Int
 to:Int
 am:Int
 fe:Int
def Crc.cells (x:Crc):List Value:=[.int .i64 x.ky,.int .i64 x.fr,.int .i64 x.to,.int .i64 x.am,.int .i64 x.fe]
def crs (xs:List Crc):List Value:=xs.flatMap Crc.cells
theorem crs_len (xs:List Crc):(crs xs).length=xs.length*5:=flatMap_len (f:=Crc.cells) (sz:=5) (fun _=>rfl) xs
theorem crs_append (xs ys:List Crc):crs (xs++ys)=crs xs++crs ys:=by simp [crs]
theorem crs_at {w:World} {a:Option Addr} {xs:List Crc} (h:Cells w a (crs xs)) (k:Nat) (hk:k < xs.length) :
 ∃ b off,a=some ⟨b,off,none⟩∧w.cell? ⟨b,off+k*5,none⟩=some (.int .i64 xs[k].ky)∧w.cell? ⟨b,off+k*5+1,none⟩=some (.int .i64 xs[k].fr)∧w.cell? ⟨b,off+k*5+2,none⟩=some (.int .i64 xs[k].to)∧w.cell? ⟨b,off+k*5+3,none⟩=some (.int .i64 xs[k].am)∧w.cell? ⟨b,off+k*5+4,none⟩=some (.int .i64 xs[k].fe):=by
 obtain ⟨b,off,e,h⟩:=elem_at (f:=Crc.cells) (sz:=5) (fun _=>rfl) h k hk (by decide)
 exact ⟨b,off,e,h 0 (by simp [Crc.cells]),h 1 (by simp [Crc.cells]),h 2 (by simp [Crc.cells]),h 3 (by simp [Crc.cells]),h 4 (by simp [Crc.cells])⟩
structure Bk where
 tk:Int
 nx:Int
 wa:Int
 C:List Chn
 Hs:List Htl
 R:List Crc
structure Bo where
 tk:Int
 nx:Int
 wa:Int
 ca:Option Addr
 cc:Nat
 C:List Chn
 ha:Option Addr
 hc:Nat
 Hs:List Htl
 ra:Option Addr
 rc:Nat
 R:List Crc
def Bo.v (B:Bo):Value:=.agg #[.int .i64 B.tk,.int .i64 B.nx,.int .i64 B.wa,.slice B.ca B.C.length B.cc,.slice B.ha B.Hs.length B.hc,.slice B.ra B.R.length B.rc]
def Bo.segs (B:Bo):List Seg:=[(B.ca,chs B.C),(B.ha,hts B.Hs),(B.ra,crs B.R)]
def Bo.d (B:Bo):Bk:=⟨B.tk,B.nx,B.wa,B.C,B.Hs,B.R⟩
def Bo.fit (B:Bo):Prop:=(B.ca=none→B.cc=0)∧(B.ha=none→B.hc=0)∧(B.ra=none→B.rc=0)∧B.C.length≤B.cc∧B.Hs.length≤B.hc∧B.R.length≤B.rc
def Bo.len (B:Bo):Prop:=B.C.length≤1048576∧B.Hs.length≤1048576∧B.R.length≤1048576
theorem Bo.memC {B:Bo} {w:World} (h:Mem w B.segs):Cells w B.ca (chs B.C):=h (B.ca,chs B.C) (by simp [Bo.segs])
theorem Bo.memH {B:Bo} {w:World} (h:Mem w B.segs):Cells w B.ha (hts B.Hs):=h (B.ha,hts B.Hs) (by simp [Bo.segs])
theorem Bo.memR {B:Bo} {w:World} (h:Mem w B.segs):Cells w B.ra (crs B.R):=h (B.ra,crs B.R) (by simp [Bo.segs])
def hasC (C:List Chn) (ch:Int):Bool:=C.any fun c=>decide (c.id=ch)
def atC (C:List Chn) (ch:Int):Option Nat:=C.findIdx? fun c=>decide (c.id=ch)
theorem atC_none {C:List Chn} {ch:Int} (h:∀ j (hj:j < C.length),C[j].id≠ch):atC C ch=none:=by
 unfold atC
 rw [List.findIdx?_eq_none_iff]
 intro c hc
 obtain ⟨j,hj,rfl⟩:=List.getElem_of_mem hc
 simpa using h j hj
theorem atC_some {C:List Chn} {ch:Int} {k:Nat} (hk:k < C.length) (he:C[k].id=ch) (h:∀ j (hj:j < C.length),j < k→C[j].id≠ch):atC C ch=some k:=by
 unfold atC
 rw [List.findIdx?_eq_some_iff_getElem]
 exact ⟨hk,by simpa using he,fun j hj=>by simpa using h j (by omega) hj⟩
theorem atC_lt {C:List Chn} {ch:Int} {k:Nat} (h:atC C ch=some k):∃ hk:k < C.length,C[k].id=ch:=by
 unfold atC at h
 rw [List.findIdx?_eq_some_iff_getElem] at h
 obtain ⟨hk,he,_⟩:=h
 exact ⟨hk,by simpa using he⟩
theorem hasC_at (C:List Chn) (ch:Int):hasC C ch=(atC C ch).isSome:=by
 unfold hasC atC
 rw [List.findIdx?_isSome]
theorem hasC_iff {C:List Chn} {ch:Int}:hasC C ch=true↔∃ c∈C,c.id=ch:=by simp [hasC]
def twoB (C:List Chn) (x y:Int):Bool:=decide (x≠y) && hasC C x && hasC C y
def outH (H:List Htl) (ch:Int):Int:=(H.map fun h=>if h.out=ch then h.ao else 0).sum
def outR (R:List Crc) (ch:Int):Int:=(R.map fun c=>if c.fr=ch then c.am+c.fe else 0).sum
def inH (H:List Htl) (ch:Int):Int:=(H.map fun h=>if h.inn=ch then h.ai else 0).sum
def inR (R:List Crc) (ch:Int):Int:=(R.map fun c=>if c.to=ch then c.am else 0).sum
def outV (B:Bk) (ch:Int):Int:=outH B.Hs ch+outR B.R ch
def inV (B:Bk) (ch:Int):Int:=inH B.Hs ch+inR B.R ch
def keyB (k:Int):Bool:=decide (1≤k) && decide (k≤1000000)
def chB (k:Int):Bool:=decide (1≤k) && decide (k≤99)
def ppmB (k:Int):Bool:=decide (0≤k) && decide (k≤1000000)
def posB (n:Int):Bool:=amtB n && decide (0 < n)
def htB (C:List Chn) (h:Htl):Bool:=posB h.ao && amtB h.ai && decide (h.ao≤h.ai) && amtB h.ag && twoB C h.inn h.out
def crB (C:List Chn) (c:Crc):Bool:=posB c.am && amtB c.fe && twoB C c.fr c.to
def keysL (B:Bk):List Int:=B.Hs.map Htl.ky++B.R.map Crc.ky
def keysB (L:List Int):Bool:=L.all keyB && decide L.Nodup
def idAt (C:List Chn) (k:Nat):Bool:=match C[k]? with
 | none=>true
 | some c=>chB c.id && (decide (k=0) || match C[k-1]? with | none=>true | some p=>decide (p.id < c.id))
def idsB (C:List Chn):Bool:=(List.range C.length).all (idAt C)
def fieldsB (c:Chn):Bool:=amtB c.lo && amtB c.re && amtB c.ba && ppmB c.pp && okS c.sc
def sizeB (B:Bk) (c:Chn):Bool:=amtB c.sz && decide (c.sz=c.lo+c.re+outV B c.id+inV B c.id)
def chanB (B:Bk) (c:Chn):Bool:=fieldsB c && sizeB B c
def headB (B:Bk):Bool:=amtB B.tk && amtB B.wa && posB B.nx && decide (B.C.length≤20) && decide (B.Hs.length≤60) && decide (B.R.length≤20)
def underB (B:Bk):Bool:=B.Hs.all (htB B.C) && B.R.all (crB B.C) && keysB (keysL B)
def bookB (B:Bk):Bool:=headB B && underB B && idsB B.C && B.C.all (chanB B)
theorem all_no {α:Type} {p:α→Bool} {xs:List α} {k:Nat} (hk:k < xs.length) (h:p xs[k]=false):xs.all p=false:=by
 rw [List.all_eq_false];exact ⟨_,List.getElem_mem hk,by simp [h]⟩
theorem all_yes {α:Type} {p:α→Bool} {xs:List α} (h:∀ j (hj:j < xs.length),p xs[j]=true):xs.all p=true:=by
 rw [List.all_eq_true];intro x hx
 obtain ⟨j,hj,rfl⟩:=List.getElem_of_mem hx
 exact h j hj
theorem sum_take_succ {α:Type} (f:α→Int) (xs:List α) (k:Nat) (hk:k < xs.length):((xs.take (k+1)).map f).sum=((xs.take k).map f).sum+f xs[k]:=by
 rw [List.take_add_one,List.getElem?_eq_getElem hk,Option.toList_some,List.map_append,List.sum_append];simp
theorem sum_bound {α:Type} (f:α→Int) (M:Int):∀ (xs:List α),(∀ x∈xs,0≤f x∧f x≤M)→0≤(xs.map f).sum∧(xs.map f).sum≤M*xs.length
 | [],_=>by simp
 | x :: t,h=>by
   have h1:=sum_bound f M t (fun y hy=>h y (List.mem_cons_of_mem _ hy))
   have h2:=h x (List.mem_cons_self ..)
   simp only [List.map_cons,List.sum_cons,List.length_cons]
   have e:M*((t.length+1:Nat):Int)=M*t.length+M:=by rw [Int.natCast_add,Int.mul_add];simp
   rw [e]
   omega
end Go.Proofs.YtccdhcempnkgaaaGreatDoor
namespace Go.Proofs.YtccdhcempnkgaaaGreatDoor
open Go.RowKit Go.Deep
set_option linter.unusedVariables false
theorem Keeps.rowK {w w':World} (hk:Keeps w w') {b:Nat} {t:TypeId} {n:Nat} {f:Nat→Value} (h:w.rowIs b t n f):w'.rowIs b t n f:=h.of_block (Below.block hk b h.lt)
theorem own_row {w:World} {b:Nat} {t:TypeId} {n:Nat} {f:Nat→Value} (h:w.rowIs b t n f) (xs:List Value) (hx:xs.length≤n) (hf:∀ j (hj:j < xs.length),f j=xs[j]):Own w [(some ⟨b,0,none⟩,xs)]:=by
 refine ⟨?_,?_,?_⟩
 ·intro s hs
  rw [List.mem_singleton.1 hs]
  refine Or.inr ⟨b,0,rfl,fun j hj=>?_⟩
  have hj':j < xs.length:=hj
  rw [Nat.zero_add,h.cell (by omega),hf j hj']
 ·by_cases h0:xs=[] <;> simp [fp,fpS,h0]
 ·intro g hg
  by_cases h0:xs=[]
  ·simp [fp,fpS,h0] at hg
  ·simp [fp,fpS,h0] at hg
   subst hg
   exact h.frozen
theorem born_row {W w:World} {b:Nat} {t:TypeId} {n:Nat} {f:Nat→Value} (h:w.rowIs b t n f) (xs:List Value) (hx:xs.length≤n) (hf:∀ j (hj:j < xs.length),f j=xs[j]) (hb:W.heap.size≤b):Born W w [(some ⟨b,0,none⟩,xs)] :=
 ⟨own_row h xs hx hf,fun g hg=>by
  by_cases h0:xs=[]
  ·simp [fp,fpS,h0] at hg
  ·simp [fp,fpS,h0] at hg
   omega⟩
theorem addr_at (b off j:Nat):(⟨b,off,none⟩:Addr).add j=⟨b,off+j,none⟩:=by
 unfold Addr.add
 by_cases h:j=0
 ·simp [h]
 ·simp [h]
theorem own_wrote {w w':World} {a:Option Addr} {xs ys:List Value} (h:Own w [(a,xs)]) (hl:ys.length=xs.length) (hc:Cells w' a ys) (hf:∀ p,w'.frozen? p=w.frozen? p):Own w' [(a,ys)]:=by
 have e:fp [(a,ys)]=fp [(a,xs)]:=by rw [fp_one,fp_one];exact fpS_len hl
 refine ⟨?_,by rw [e];exact h.nd,?_⟩
 ·intro s hs
  rw [List.mem_singleton.1 hs];exact hc
 ·rw [e]
  intro b hb o
  rw [hf];exact h.free b hb o
theorem cells_setF {w:World} {g off:Nat} {xs:List Value} (hc:∀ j (hj:j < xs.length),w.cell? ⟨g,off+j,none⟩=some xs[j]) (i:Nat) (v:Value) (hi:i < xs.length):∀ j (hj:j < (xs.set i v).length),(w.setCell ⟨g,off+i,none⟩ v).cell? ⟨g,off+j,none⟩=some (xs.set i v)[j]:=by
 intro j hj
 have hj':j < xs.length:=by simpa using hj
 by_cases e:j=i
 ·subst e
  rw [World.cell?_setCell_same _ _ _ (hc j hj')];simp
 ·rw [World.cell?_setCell_other _ _ _ _ (by simp),hc j hj',List.getElem_set_ne (Ne.symm e)]
theorem own_set {w:World} {g off:Nat} {xs:List Value} (h:Own w [(some ⟨g,off,none⟩,xs)]) (i:Nat) (v:Value) (hi:i < xs.length):Own (w.setCell ⟨g,off+i,none⟩ v) [(some ⟨g,off,none⟩,xs.set i v)]:=by
 refine own_wrote h (by simp) (Or.inr ⟨g,off,rfl,cells_setF ?_ i v hi⟩) (fun p=>frozen_set ..)
 rcases h.one with h' | ⟨g',off',e,h'⟩
 ·rw [h'] at hi;simp at hi
 ·have e':=Option.some.inj e
  injection e' with e1 e2
  subst e1 e2
  exact h'
end Go.Proofs.YtccdhcempnkgaaaGreatDoor
