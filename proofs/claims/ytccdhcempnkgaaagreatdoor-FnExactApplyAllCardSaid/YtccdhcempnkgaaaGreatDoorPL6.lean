/- Texts of the verifier, joined: BoC, BgH. -/
import Derived.Test.YtccdhcempnkgaaaGreatDoorPL5
import Derived.OwnWalk
import Derived.Laws.OwnMore
import Derived.Laws.AppendOwnNone
import Derived.Test.YtccdhcempnkgaaaGreatDoorPL4
namespace Go.Proofs.YtccdhcempnkgaaaGreatDoor
open Go.RowKit Go.Deep
set_option linter.unusedVariables false
set_option linter.unusedSimpArgs false
set_option maxRecDepth 10000
abbrev OwnsChan (w:World) (base:Nat) (v:Value) (L:List Chn):Prop:=w.ownsRow base 78 7 v L.length (chs L)
theorem OwnsChan.at {w:World} {base g cap:Nat} {L:List Chn} (h:OwnsChan w base (.slice (some ⟨g,0,none⟩) L.length cap) L) (k:Nat) (hk:k < L.length) :
 w.cell? ⟨g,k*7,none⟩=some (.int .i64 L[k].id)∧w.cell? ⟨g,k*7+1,none⟩=some (.int .i64 L[k].sz)∧w.cell? ⟨g,k*7+2,none⟩=some (.int .i64 L[k].lo)∧w.cell? ⟨g,k*7+3,none⟩=some (.int .i64 L[k].re)∧w.cell? ⟨g,k*7+4,none⟩=some (.int .i64 L[k].ba)∧w.cell? ⟨g,k*7+5,none⟩=some (.int .i64 L[k].pp)∧w.cell? ⟨g,k*7+6,none⟩=some (.int .i64 L[k].sc):=by
 have hz:=Nat.mul_le_mul_right 7 (show k+1≤L.length from hk)
 have ha:=fun r (hr:r < 7)=>flatMap_at (f:=Chn.cells) (sz:=7) (fun _=>rfl) L k hk r hr
 refine ⟨?_,?_,?_,?_,?_,?_,?_⟩
 ·rw [h.cellAt (k*7) (by omega)]
  have e:=ha 0 (by decide)
  simp only [Nat.add_zero] at e
  unfold chs
  rw [e];rfl
 ·rw [h.cellAt (k*7+1) (by omega)]
  have e:=ha 1 (by decide)
  skip
  unfold chs
  rw [e];rfl
 ·rw [h.cellAt (k*7+2) (by omega)]
  have e:=ha 2 (by decide)
  skip
  unfold chs
  rw [e];rfl
 ·rw [h.cellAt (k*7+3) (by omega)]
  have e:=ha 3 (by decide)
  skip
  unfold chs
  rw [e];rfl
 ·rw [h.cellAt (k*7+4) (by omega)]
  have e:=ha 4 (by decide)
  skip
  unfold chs
  rw [e];rfl
 ·rw [h.cellAt (k*7+5) (by omega)]
  have e:=ha 5 (by decide)
  skip
  unfold chs
  rw [e];rfl
 ·rw [h.cellAt (k*7+6) (by omega)]
  have e:=ha 6 (by decide)
  skip
  unfold chs
  rw [e];rfl
theorem OwnsChan.frz {w:World} {base g cap:Nat} {L:List Chn} (h:OwnsChan w base (.slice (some ⟨g,0,none⟩) L.length cap) L) (j:Nat):w.frozen? ⟨g,j,none⟩=false:=h.frozenAt j
theorem OwnsChan.set0 {w:World} {base g cap:Nat} {L:List Chn} (h:OwnsChan w base (.slice (some ⟨g,0,none⟩) L.length cap) L) (k:Nat) (hk:k < L.length) (u:Int) :
 OwnsChan (w.setCell ⟨g,k*7,none⟩ (.int .i64 u)) base (.slice (some ⟨g,0,none⟩) (L.set k ⟨u,L[k].sz,L[k].lo,L[k].re,L[k].ba,L[k].pp,L[k].sc⟩).length cap) (L.set k ⟨u,L[k].sz,L[k].lo,L[k].re,L[k].ba,L[k].pp,L[k].sc⟩)∧w.grownBy (w.setCell ⟨g,k*7,none⟩ (.int .i64 u)) (some g):=by
 have h1:=h.stored (k*7) (.int .i64 u)
 have e:L=L.take k++L[k] :: L.drop (k+1):=by rw [← List.drop_eq_getElem_cons hk,List.take_append_drop]
 have es:(chs L).set (k*7) (.int .i64 u)=chs (L.set k ⟨u,L[k].sz,L[k].lo,L[k].re,L[k].ba,L[k].pp,L[k].sc⟩):=by
  have hl:(L.take k).length=k:=by rw [List.length_take];omega
  have e2:L.set k ⟨u,L[k].sz,L[k].lo,L[k].re,L[k].ba,L[k].pp,L[k].sc⟩=L.take k++⟨u,L[k].sz,L[k].lo,L[k].re,L[k].ba,L[k].pp,L[k].sc⟩ :: L.drop (k+1):=by rw [List.set_eq_take_append_cons_drop,if_pos hk]
  rw [e2]
  conv=>lhs;rw [e]
  exact chs_set0 (L.take k) (L.drop (k+1)) L[k] u hl
 refine ⟨?_,h1.2⟩
 unfold OwnsChan
 rw [List.length_set,← es]
 exact h1.1
theorem OwnsChan.set1 {w:World} {base g cap:Nat} {L:List Chn} (h:OwnsChan w base (.slice (some ⟨g,0,none⟩) L.length cap) L) (k:Nat) (hk:k < L.length) (u:Int) :
 OwnsChan (w.setCell ⟨g,k*7+1,none⟩ (.int .i64 u)) base (.slice (some ⟨g,0,none⟩) (L.set k ⟨L[k].id,u,L[k].lo,L[k].re,L[k].ba,L[k].pp,L[k].sc⟩).length cap) (L.set k ⟨L[k].id,u,L[k].lo,L[k].re,L[k].ba,L[k].pp,L[k].sc⟩)∧w.grownBy (w.setCell ⟨g,k*7+1,none⟩ (.int .i64 u)) (some g):=by
 have h1:=h.stored (k*7+1) (.int .i64 u)
 have e:L=L.take k++L[k] :: L.drop (k+1):=by rw [← List.drop_eq_getElem_cons hk,List.take_append_drop]
 have es:(chs L).set (k*7+1) (.int .i64 u)=chs (L.set k ⟨L[k].id,u,L[k].lo,L[k].re,L[k].ba,L[k].pp,L[k].sc⟩):=by
  have hl:(L.take k).length=k:=by rw [List.length_take];omega
  have e2:L.set k ⟨L[k].id,u,L[k].lo,L[k].re,L[k].ba,L[k].pp,L[k].sc⟩=L.take k++⟨L[k].id,u,L[k].lo,L[k].re,L[k].ba,L[k].pp,L[k].sc⟩ :: L.drop (k+1):=by rw [List.set_eq_take_append_cons_drop,if_pos hk]
  rw [e2]
  conv=>lhs;rw [e]
  exact chs_set1 (L.take k) (L.drop (k+1)) L[k] u hl
 refine ⟨?_,h1.2⟩
 unfold OwnsChan
 rw [List.length_set,← es]
 exact h1.1
theorem OwnsChan.set2 {w:World} {base g cap:Nat} {L:List Chn} (h:OwnsChan w base (.slice (some ⟨g,0,none⟩) L.length cap) L) (k:Nat) (hk:k < L.length) (u:Int) :
 OwnsChan (w.setCell ⟨g,k*7+2,none⟩ (.int .i64 u)) base (.slice (some ⟨g,0,none⟩) (L.set k ⟨L[k].id,L[k].sz,u,L[k].re,L[k].ba,L[k].pp,L[k].sc⟩).length cap) (L.set k ⟨L[k].id,L[k].sz,u,L[k].re,L[k].ba,L[k].pp,L[k].sc⟩)∧w.grownBy (w.setCell ⟨g,k*7+2,none⟩ (.int .i64 u)) (some g):=by
 have h1:=h.stored (k*7+2) (.int .i64 u)
 have e:L=L.take k++L[k] :: L.drop (k+1):=by rw [← List.drop_eq_getElem_cons hk,List.take_append_drop]
 have es:(chs L).set (k*7+2) (.int .i64 u)=chs (L.set k ⟨L[k].id,L[k].sz,u,L[k].re,L[k].ba,L[k].pp,L[k].sc⟩):=by
  have hl:(L.take k).length=k:=by rw [List.length_take];omega
  have e2:L.set k ⟨L[k].id,L[k].sz,u,L[k].re,L[k].ba,L[k].pp,L[k].sc⟩=L.take k++⟨L[k].id,L[k].sz,u,L[k].re,L[k].ba,L[k].pp,L[k].sc⟩ :: L.drop (k+1):=by rw [List.set_eq_take_append_cons_drop,if_pos hk]
  rw [e2]
  conv=>lhs;rw [e]
  exact chs_set2 (L.take k) (L.drop (k+1)) L[k] u hl
 refine ⟨?_,h1.2⟩
 unfold OwnsChan
 rw [List.length_set,← es]
 exact h1.1
theorem OwnsChan.set3 {w:World} {base g cap:Nat} {L:List Chn} (h:OwnsChan w base (.slice (some ⟨g,0,none⟩) L.length cap) L) (k:Nat) (hk:k < L.length) (u:Int) :
 OwnsChan (w.setCell ⟨g,k*7+3,none⟩ (.int .i64 u)) base (.slice (some ⟨g,0,none⟩) (L.set k ⟨L[k].id,L[k].sz,L[k].lo,u,L[k].ba,L[k].pp,L[k].sc⟩).length cap) (L.set k ⟨L[k].id,L[k].sz,L[k].lo,u,L[k].ba,L[k].pp,L[k].sc⟩)∧w.grownBy (w.setCell ⟨g,k*7+3,none⟩ (.int .i64 u)) (some g):=by
 have h1:=h.stored (k*7+3) (.int .i64 u)
 have e:L=L.take k++L[k] :: L.drop (k+1):=by rw [← List.drop_eq_getElem_cons hk,List.take_append_drop]
 have es:(chs L).set (k*7+3) (.int .i64 u)=chs (L.set k ⟨L[k].id,L[k].sz,L[k].lo,u,L[k].ba,L[k].pp,L[k].sc⟩):=by
  have hl:(L.take k).length=k:=by rw [List.length_take];omega
  have e2:L.set k ⟨L[k].id,L[k].sz,L[k].lo,u,L[k].ba,L[k].pp,L[k].sc⟩=L.take k++⟨L[k].id,L[k].sz,L[k].lo,u,L[k].ba,L[k].pp,L[k].sc⟩ :: L.drop (k+1):=by rw [List.set_eq_take_append_cons_drop,if_pos hk]
  rw [e2]
  conv=>lhs;rw [e]
  exact chs_set3 (L.take k) (L.drop (k+1)) L[k] u hl
 refine ⟨?_,h1.2⟩
 unfold OwnsChan
 rw [List.length_set,← es]
 exact h1.1
theorem OwnsChan.set4 {w:World} {base g cap:Nat} {L:List Chn} (h:OwnsChan w base (.slice (some ⟨g,0,none⟩) L.length cap) L) (k:Nat) (hk:k < L.length) (u:Int) :
 OwnsChan (w.setCell ⟨g,k*7+4,none⟩ (.int .i64 u)) base (.slice (some ⟨g,0,none⟩) (L.set k ⟨L[k].id,L[k].sz,L[k].lo,L[k].re,u,L[k].pp,L[k].sc⟩).length cap) (L.set k ⟨L[k].id,L[k].sz,L[k].lo,L[k].re,u,L[k].pp,L[k].sc⟩)∧w.grownBy (w.setCell ⟨g,k*7+4,none⟩ (.int .i64 u)) (some g):=by
 have h1:=h.stored (k*7+4) (.int .i64 u)
 have e:L=L.take k++L[k] :: L.drop (k+1):=by rw [← List.drop_eq_getElem_cons hk,List.take_append_drop]
 have es:(chs L).set (k*7+4) (.int .i64 u)=chs (L.set k ⟨L[k].id,L[k].sz,L[k].lo,L[k].re,u,L[k].pp,L[k].sc⟩):=by
  have hl:(L.take k).length=k:=by rw [List.length_take];omega
  have e2:L.set k ⟨L[k].id,L[k].sz,L[k].lo,L[k].re,u,L[k].pp,L[k].sc⟩=L.take k++⟨L[k].id,L[k].sz,L[k].lo,L[k].re,u,L[k].pp,L[k].sc⟩ :: L.drop (k+1):=by rw [List.set_eq_take_append_cons_drop,if_pos hk]
  rw [e2]
  conv=>lhs;rw [e]
  exact chs_set4 (L.take k) (L.drop (k+1)) L[k] u hl
 refine ⟨?_,h1.2⟩
 unfold OwnsChan
 rw [List.length_set,← es]
 exact h1.1
theorem OwnsChan.set5 {w:World} {base g cap:Nat} {L:List Chn} (h:OwnsChan w base (.slice (some ⟨g,0,none⟩) L.length cap) L) (k:Nat) (hk:k < L.length) (u:Int) :
 OwnsChan (w.setCell ⟨g,k*7+5,none⟩ (.int .i64 u)) base (.slice (some ⟨g,0,none⟩) (L.set k ⟨L[k].id,L[k].sz,L[k].lo,L[k].re,L[k].ba,u,L[k].sc⟩).length cap) (L.set k ⟨L[k].id,L[k].sz,L[k].lo,L[k].re,L[k].ba,u,L[k].sc⟩)∧w.grownBy (w.setCell ⟨g,k*7+5,none⟩ (.int .i64 u)) (some g):=by
 have h1:=h.stored (k*7+5) (.int .i64 u)
 have e:L=L.take k++L[k] :: L.drop (k+1):=by rw [← List.drop_eq_getElem_cons hk,List.take_append_drop]
 have es:(chs L).set (k*7+5) (.int .i64 u)=chs (L.set k ⟨L[k].id,L[k].sz,L[k].lo,L[k].re,L[k].ba,u,L[k].sc⟩):=by
  have hl:(L.take k).length=k:=by rw [List.length_take];omega
  have e2:L.set k ⟨L[k].id,L[k].sz,L[k].lo,L[k].re,L[k].ba,u,L[k].sc⟩=L.take k++⟨L[k].id,L[k].sz,L[k].lo,L[k].re,L[k].ba,u,L[k].sc⟩ :: L.drop (k+1):=by rw [List.set_eq_take_append_cons_drop,if_pos hk]
  rw [e2]
  conv=>lhs;rw [e]
  exact chs_set5 (L.take k) (L.drop (k+1)) L[k] u hl
 refine ⟨?_,h1.2⟩
 unfold OwnsChan
 rw [List.length_set,← es]
 exact h1.1
theorem OwnsChan.set6 {w:World} {base g cap:Nat} {L:List Chn} (h:OwnsChan w base (.slice (some ⟨g,0,none⟩) L.length cap) L) (k:Nat) (hk:k < L.length) (u:Int) :
 OwnsChan (w.setCell ⟨g,k*7+6,none⟩ (.int .i64 u)) base (.slice (some ⟨g,0,none⟩) (L.set k ⟨L[k].id,L[k].sz,L[k].lo,L[k].re,L[k].ba,L[k].pp,u⟩).length cap) (L.set k ⟨L[k].id,L[k].sz,L[k].lo,L[k].re,L[k].ba,L[k].pp,u⟩)∧w.grownBy (w.setCell ⟨g,k*7+6,none⟩ (.int .i64 u)) (some g):=by
 have h1:=h.stored (k*7+6) (.int .i64 u)
 have e:L=L.take k++L[k] :: L.drop (k+1):=by rw [← List.drop_eq_getElem_cons hk,List.take_append_drop]
 have es:(chs L).set (k*7+6) (.int .i64 u)=chs (L.set k ⟨L[k].id,L[k].sz,L[k].lo,L[k].re,L[k].ba,L[k].pp,u⟩):=by
  have hl:(L.take k).length=k:=by rw [List.length_take];omega
  have e2:L.set k ⟨L[k].id,L[k].sz,L[k].lo,L[k].re,L[k].ba,L[k].pp,u⟩=L.take k++⟨L[k].id,L[k].sz,L[k].lo,L[k].re,L[k].ba,L[k].pp,u⟩ :: L.drop (k+1):=by rw [List.set_eq_take_append_cons_drop,if_pos hk]
  rw [e2]
  conv=>lhs;rw [e]
  exact chs_set6 (L.take k) (L.drop (k+1)) L[k] u hl
 refine ⟨?_,h1.2⟩
 unfold OwnsChan
 rw [List.length_set,← es]
 exact h1.1
theorem cells_Chan {L:List Chn}:chs L=[]↔L=[]:=by
 constructor
 ·intro h
  have:=chs_len L
  rw [h] at this
  simp only [List.length_nil] at this
  exact List.length_eq_zero_iff.1 (by omega)
 ·rintro rfl;rfl
theorem cell_one_Chan {L:List Chn} {u:Value} (h:u∈chs L):u.oneCell'=true:=by
 unfold chs at h
 obtain ⟨x,_,hx⟩:=List.mem_flatMap.1 h
 simp only [Chn.cells,List.mem_cons,List.mem_nil_iff,or_false] at hx
 rcases hx with rfl | rfl | rfl | rfl | rfl | rfl | rfl <;> rfl
theorem app_Chan {ops:Array Oper} {rest:List Oper} {o:Oper} {a:Act} {Q:Exit→Act→World→Prop} {wr:World} (hgd:o.guard=none) (s x:Operand)
 (ho:o.op=.call { callee:=.builtin .append,args:=#[s,x],argTypes:=#[30,30] }) (base:Nat) (v:Value) (L M:List Chn) (hs:a.eval s=v) (xa:Option Addr) (c:Nat)
 (hx:a.eval x=.slice xa M.length c) (hM:Cells wr xa (chs M)) (hn:xa=none→c=0) (hown:OwnsChan wr base v L) (hl:L.length+M.length≤4194304) (hbase:base≤wr.heap.size)
 (h:∀ v' w',OwnsChan w' base v' (L++M)→wr.grownBy w' v.ownBlock→(v≠.slice none 0 0→v'≠.slice none 0 0)→wpList Tryz.prog ops Q rest (a.put o.dst v') w') :
 wpList Tryz.prog ops Q (o :: rest) a wr:=by
 have hI:=infoChan
 cases hi:Tryz.prog.info? 78 with
 | none=>rw [hi] at hI;simp at hI
 | some i =>
   rw [hi] at hI
   simp at hI
   obtain ⟨hz,hsz,hby⟩:=hI
   cases xa with
   | none =>
     obtain rfl:=hn rfl
     have hM0:M=[]:=by
      rcases hM with hM | ⟨_,_,e,_⟩
      ·exact cells_Chan.1 hM
      ·cases e
     subst hM0
     refine wpList_append_own_none hgd s x 30 ho base 78 i 7 underChans hi v L.length (chs L) hs hown hx ?_
     exact h v wr (by simpa using hown) ⟨rfl,rfl,rfl,Nat.le_refl _,fun _ _ _=>rfl⟩ (fun h=>h)
   | some p =>
     refine wpList_append_own _ hgd s x 30 ho base 78 i _ 7 56 underChans hi hz hsz hby rfl (by decide) v L.length (chs L) hs hown p M.length c (chs M) hx (by rw [chs_len]) ?_ (fun u hu=>cell_one_Chan hu) ?_ ?_ hbase ?_
     ·intro j u hj
      rcases hM with hM | ⟨b,off,e,hM⟩
      ·rw [hM] at hj;simp at hj
      ·obtain rfl:=Option.some.inj e
       obtain ⟨hj',e'⟩:=List.getElem?_eq_some_iff.1 hj
       have:=hM j hj'
       rw [e'] at this
       rw [← this,addr_at]
     ·simp only [maxLen];omega
     ·omega
     ·intro v' w' h1 h2 h3
      exact h v' w' (by unfold OwnsChan;rw [chs_append,List.length_append];exact h1) h2 (fun hn he=>hn (h3.1 he).1)
end Go.Proofs.YtccdhcempnkgaaaGreatDoor
namespace Go.Proofs.YtccdhcempnkgaaaGreatDoor
open Go.RowKit Go.Deep
set_option linter.unusedVariables false
set_option linter.unusedSimpArgs false
set_option maxRecDepth 10000
def Htl.v (x:Htl):Value:=.agg #[.int .i64 x.ky,.int .i64 x.inn,.int .i64 x.out,.int .i64 x.ai,.int .i64 x.ao,.bool x.kp,.int .i64 x.ag]
theorem toHtlc_k (x:Htl) (w:World):Calls Tryz.prog 83 #[x.v] w fun e w'=>e=.returned x.v∧Keeps w w':=by
 obtain ⟨xky,xinn,xout,xai,xao,xkp,xag⟩:=x
 dsimp only [Htl.v]
 go_enter Tryz.func83,Tryz.ntmps83
 go_wp2_with fail
 refine bodyPost_ret (v:=.agg #[.int .i64 xky,.int .i64 xinn,.int .i64 xout,.int .i64 xai,.int .i64 xao,.bool xkp,.int .i64 xag]) (by simp [results,Tryz.results83,go_sem]) rfl ⟨rfl,?_⟩
 repeat (first | exact Keeps.refl _ | refine Keeps.alloc ?_ _ | refine Keeps.setCell ?_ (by simp) _)
theorem szHtlcS_k (a:Option Addr) (len cap:Nat) (left:Int) (w:World) (hl:len≤9223372036854775807) (h0:0≤left) (h1:left≤1048576) :
 Calls Tryz.prog 29 #[.slice a len cap,.int .i64 left] w fun e w'=>e=.returned (.int .i64 (if (len:Int)≤left then left-len else -1))∧w'=w:=by
 by_cases h:(len:Int)≤left
 ·rw [if_pos h]
  go_enter Tryz.func29,Tryz.ntmps29
  go_wp2_with fail
  go_ret
  exact ⟨rfl,rfl⟩
 ·rw [if_neg h]
  go_enter Tryz.func29,Tryz.ntmps29
  go_wp2_with fail
  go_ret
  exact ⟨rfl,rfl⟩
theorem infoHtlc:(Tryz.prog.info? 112).map (fun i=>(i.zero,i.size,i.bytes))=some (some (.agg #[.int .i64 0,.int .i64 0,.int .i64 0,.int .i64 0,.int .i64 0,.bool false,.int .i64 0]),7,56):=by kernel_rfl
theorem underHtlcs:Tryz.prog.underlying 31=some (.slice 112):=by kernel_rfl
theorem make_Htlcs (n:Nat) (hn:n≤1048576) (w:World):(Instr.makeSlice 31 (.int .i64 (n:Int)) (.int .i64 (n:Int))).run Tryz.prog w=.ok (.slice (some ⟨w.heap.size,0,none⟩) n n) (w.alloc (.cells (madeCells #[.int .i64 0,.int .i64 0,.int .i64 0,.int .i64 0,.int .i64 0,.bool false,.int .i64 0] (n*7)) 112)):=by
 have hI:=infoHtlc
 cases hi:Tryz.prog.info? 112 with
 | none=>rw [hi] at hI;simp at hI
 | some i =>
   rw [hi] at hI
   simp at hI
   obtain ⟨hz,hs,hb⟩:=hI
   have h:=run_make (P:=Tryz.prog) w 31 112 i _ underHtlcs hi hz .i64 .i64 n n (by omega) (Int.le_refl _) (by rw [hb];omega) (by omega)
   rw [hs] at h
   simpa [Value.cells] using h
def rowHtlc (L:List Htl) (k:Nat):Nat→Value:=fun j=>if j < k*7 then (hts L).getD j (.int .i64 0) else (#[.int .i64 0,.int .i64 0,.int .i64 0,.int .i64 0,.int .i64 0,.bool false,.int .i64 0]:Array Value)[j % 7]!
theorem made_Htlc (L:List Htl) (w:World) (m:Nat) (t:TypeId):(w.alloc (.cells (madeCells #[.int .i64 0,.int .i64 0,.int .i64 0,.int .i64 0,.int .i64 0,.bool false,.int .i64 0] m) t)).rowIs w.heap.size t m (rowHtlc L 0):=by
 have h:=World.rowIs_alloc w (madeCells #[.int .i64 0,.int .i64 0,.int .i64 0,.int .i64 0,.int .i64 0,.bool false,.int .i64 0] m) t (rowHtlc L 0) (by
  intro i hi
  rw [size_madeCells] at hi
  simp only [madeCells,Array.getElem?_map,Array.getElem?_range]
  rw [if_pos hi]
  simp [rowHtlc])
 rw [size_madeCells] at h
 exact h
theorem rowHtlc_step (L:List Htl) (k:Nat) (h:k < L.length) (j:Nat):(if j=k*7+6 then (.int .i64 L[k].ag:Value) else if j=k*7+5 then (.bool L[k].kp:Value) else if j=k*7+4 then (.int .i64 L[k].ao:Value) else if j=k*7+3 then (.int .i64 L[k].ai:Value) else if j=k*7+2 then (.int .i64 L[k].out:Value) else if j=k*7+1 then (.int .i64 L[k].inn:Value) else if j=k*7 then (.int .i64 L[k].ky:Value) else rowHtlc L k j)=rowHtlc L (k+1) j:=by
 have hL:=hts_len L
 have hk:=Nat.mul_le_mul_right 7 (show k+1≤L.length from h)
 have ha:=fun r (hr:r < 7)=>flatMap_at (f:=Htl.cells) (sz:=7) (fun _=>rfl) L k h r hr
 unfold rowHtlc
 by_cases h6:j=k*7+6
 ·subst h6
  (try simp only [if_true])
  (try rw [if_pos rfl])
  rw [if_pos (by omega),List.getD_eq_getElem?_getD]
  have e:=ha 6 (by decide)
  skip
  unfold hts
  rw [e];rfl
 rw [if_neg h6]
 by_cases h5:j=k*7+5
 ·subst h5
  (try simp only [if_true])
  (try rw [if_pos rfl])
  rw [if_pos (by omega),List.getD_eq_getElem?_getD]
  have e:=ha 5 (by decide)
  skip
  unfold hts
  rw [e];rfl
 rw [if_neg h5]
 by_cases h4:j=k*7+4
 ·subst h4
  (try simp only [if_true])
  (try rw [if_pos rfl])
  rw [if_pos (by omega),List.getD_eq_getElem?_getD]
  have e:=ha 4 (by decide)
  skip
  unfold hts
  rw [e];rfl
 rw [if_neg h4]
 by_cases h3:j=k*7+3
 ·subst h3
  (try simp only [if_true])
  (try rw [if_pos rfl])
  rw [if_pos (by omega),List.getD_eq_getElem?_getD]
  have e:=ha 3 (by decide)
  skip
  unfold hts
  rw [e];rfl
 rw [if_neg h3]
 by_cases h2:j=k*7+2
 ·subst h2
  (try simp only [if_true])
  (try rw [if_pos rfl])
  rw [if_pos (by omega),List.getD_eq_getElem?_getD]
  have e:=ha 2 (by decide)
  skip
  unfold hts
  rw [e];rfl
 rw [if_neg h2]
 by_cases h1:j=k*7+1
 ·subst h1
  (try simp only [if_true])
  (try rw [if_pos rfl])
  rw [if_pos (by omega),List.getD_eq_getElem?_getD]
  have e:=ha 1 (by decide)
  skip
  unfold hts
  rw [e];rfl
 rw [if_neg h1]
 by_cases h0:j=k*7
 ·subst h0
  (try simp only [if_true])
  (try rw [if_pos rfl])
  rw [if_pos (by omega),List.getD_eq_getElem?_getD]
  have e:=ha 0 (by decide)
  simp only [Nat.add_zero] at e
  unfold hts
  rw [e];rfl
 rw [if_neg h0]
 by_cases hlt:j < k*7
 ·rw [if_pos hlt,if_pos (by omega)]
 ·rw [if_neg hlt,if_neg (by omega)]
theorem rowHtlc_end (L:List Htl) (j:Nat) (hj:j < (hts L).length):rowHtlc L L.length j=(hts L)[j]:=by
 have hL:=hts_len L
 unfold rowHtlc
 rw [if_pos (by omega),List.getD_eq_getElem?_getD,List.getElem?_eq_getElem hj]
 rfl
set_option maxHeartbeats 2000000 in
theorem toHtlcS_k (a:Option Addr) (cap:Nat) (L:List Htl) (w:World) (hc:Cells w a (hts L)) (hl:L.length≤1048576) :
 Calls Tryz.prog 46 #[.slice a L.length cap] w fun e w'=>∃ b,e=.returned (.slice (some ⟨b,0,none⟩) L.length L.length)∧Born w w' [(some ⟨b,0,none⟩,hts L)]∧Keeps w w':=by
 have HC:=hide hc
 clear hc
 have hmk:=make_Htlcs L.length hl
 have HR:=hide (made_Htlc L w (L.length*7) 112)
 have HKA:=hide (Keeps.alloc (Keeps.refl w) (.cells (madeCells #[.int .i64 0,.int .i64 0,.int .i64 0,.int .i64 0,.int .i64 0,.bool false,.int .i64 0] (L.length*7)) 112))
 go_enter Tryz.func46,Tryz.ntmps46
 go_wp2_with fail
 clear hmk
 go_loopw [4] (fun y w1=>∃ k:Nat,k≤L.length∧y=.int .i64 (k:Int)∧w1.rowIs w.heap.size 112 (L.length*7) (rowHtlc L k)∧Keeps w w1) (fun y _=>L.length-(intOf y).toNat)
 case atStart=>exact ⟨0,by omega,rfl,HR.out,HKA.out⟩
 case round =>
  obtain ⟨k,hk,rfl,hr,hkw⟩:=hrel
  clear HR HKA
  by_cases hlt:k < L.length
  ·obtain ⟨b,off,ea,c0,c1,c2,c3,c4,c5,c6⟩:=hts_at (HC.out.kept hkw) k hlt
   subst ea
   have HQ:=hide (fun w1=>toHtlc_k L[k] w1)
   have HS:=hide (rowHtlc_step L k hlt)
   have HRR:=hide hr
   have HKW:=hide hkw
   have hkz:=Nat.mul_le_mul_right 7 (show k+1≤L.length from hlt)
   clear hr hkw
   generalize L[k]=x at *
   obtain ⟨xky,xinn,xout,xai,xao,xkp,xag⟩:=x
   dsimp only [Htl.v] at *
   go_wp2_with fail
   refine (unhide HQ _).mono ?_
   rintro e w2 ⟨rfl,hk2⟩
   have r2:=hk2.rowK HRR.out
   have d0:=r2.cell (i:=k*7) (by omega)
   have f0:=r2.frozen (k*7)
   have d1:=r2.cell (i:=k*7+1) (by omega)
   have f1:=r2.frozen (k*7+1)
   have d2:=r2.cell (i:=k*7+2) (by omega)
   have f2:=r2.frozen (k*7+2)
   have d3:=r2.cell (i:=k*7+3) (by omega)
   have f3:=r2.frozen (k*7+3)
   have d4:=r2.cell (i:=k*7+4) (by omega)
   have f4:=r2.frozen (k*7+4)
   have d5:=r2.cell (i:=k*7+5) (by omega)
   have f5:=r2.frozen (k*7+5)
   have d6:=r2.cell (i:=k*7+6) (by omega)
   have f6:=r2.frozen (k*7+6)
   have HR2:=hide r2
   have HK2:=hide (HKW.out.trans hk2)
   clear r2 hk2
   go_wp2_with fail
   go_roundw
   case rel=>exact ⟨k+1,by omega,by go_num,((((((((HR2.out.set (k*7) (.int .i64 xky)).set (k*7+1) (.int .i64 xinn)).set (k*7+2) (.int .i64 xout)).set (k*7+3) (.int .i64 xai)).set (k*7+4) (.int .i64 xao)).set (k*7+5) (.bool xkp)).set (k*7+6) (.int .i64 xag))).congr (fun j _=>HS.out j),(Keeps.setCell (Keeps.setCell (Keeps.setCell (Keeps.setCell (Keeps.setCell (Keeps.setCell (Keeps.setCell HK2.out (Nat.le_refl _) _) (Nat.le_refl _) _) (Nat.le_refl _) _) (Nat.le_refl _) _) (Nat.le_refl _) _) (Nat.le_refl _) _) (Nat.le_refl _) _)⟩
   case measure=>simp [intOf];omega
  ·have e:k=L.length:=by omega
   subst e
   go_wp2_with fail
   go_ret
   exact ⟨_,rfl,born_row hr (hts L) (by rw [hts_len];exact Nat.le_refl _) (fun j hj=>rowHtlc_end L j hj) (Nat.le_refl _),hkw⟩
theorem eqHtlc_same (x:Htl) (w:World):Calls Tryz.prog 99 #[x.v,x.v] w fun e w'=>e=.returned (.bool true)∧Keeps w w':=by
 obtain ⟨xky,xinn,xout,xai,xao,xkp,xag⟩:=x
 dsimp only [Htl.v]
 cases xkp
 all_goals
  go_enter Tryz.func99,Tryz.ntmps99
  go_wp2_with fail
  go_ret
  exact ⟨rfl,Keeps.alloc (Keeps.alloc (Keeps.refl _) _) _⟩
set_option maxHeartbeats 4000000 in
theorem eqHtlcS_k (a a':Option Addr) (cap cap':Nat) (xs:List Htl) (w:World) (hc:Cells w a (hts xs)) (hc':Cells w a' (hts xs)) (hl:xs.length≤1048576) :
 Calls Tryz.prog 52 #[.slice a xs.length cap,.slice a' xs.length cap'] w fun e w'=>e=.returned (.bool true)∧Keeps w w':=by
 have HC:=hide hc
 have HC':=hide hc'
 clear hc hc'
 go_enter Tryz.func52,Tryz.ntmps52
 go_wp2_with fail
 go_loopw [5] (fun y w1=>∃ k:Nat,k≤xs.length∧y=.int .i64 (k:Int)∧Keeps w w1) (fun y _=>xs.length-(intOf y).toNat)
 case atStart=>exact ⟨0,by omega,rfl,Keeps.refl _⟩
 case round =>
  obtain ⟨k,hk,rfl,hkw⟩:=hrel
  by_cases hlt:k < xs.length
  ·obtain ⟨b,off,ea,c0,c1,c2,c3,c4,c5,c6⟩:=hts_at (HC.out.kept hkw) k hlt
   obtain ⟨b',off',ea',d0,d1,d2,d3,d4,d5,d6⟩:=hts_at (HC'.out.kept hkw) k hlt
   have HEA:=hide ea
   have HEA':=hide ea'
   clear ea ea'
   obtain rfl:=HEA.out
   obtain rfl:=HEA'.out
   have HQ:=hide (fun t=>eqHtlc_same xs[k] (gr wr t))
   have g0:=gr_cell c0
   have i0:=gr_cell d0
   have g1:=gr_cell c1
   have i1:=gr_cell d1
   have g2:=gr_cell c2
   have i2:=gr_cell d2
   have g3:=gr_cell c3
   have i3:=gr_cell d3
   have g4:=gr_cell c4
   have i4:=gr_cell d4
   have g5:=gr_cell c5
   have i5:=gr_cell d5
   have g6:=gr_cell c6
   have i6:=gr_cell d6
   generalize xs[k]=x at *
   obtain ⟨xky,xinn,xout,xai,xao,xkp,xag⟩:=x
   dsimp only [Htl.v] at c0 d0 g0 i0 c1 d1 g1 i1 c2 d2 g2 i2 c3 d3 g3 i3 c4 d4 g4 i4 c5 d5 g5 i5 c6 d6 g6 i6 HQ
   go_wp2_with fail
   refine region_gr (by kernel_rfl) (by kernel_rfl) ?_
   repeat (go_big_quiet_step (first | (go_at_call 99;exact gr_call (unhide HQ _))))
   refine wpQuiet_nil ?_
   intro w' hw'
   have hk':=hkw.trans (Keeps.of_gr hw')
   clear hw'
   go_wp2_with fail
   go_roundw
   case rel=>exact ⟨k+1,by omega,by go_num,hk'⟩
   case measure=>simp [intOf];omega
  ·go_wp2_with fail
   go_ret
   exact ⟨rfl,hkw⟩
end Go.Proofs.YtccdhcempnkgaaaGreatDoor
