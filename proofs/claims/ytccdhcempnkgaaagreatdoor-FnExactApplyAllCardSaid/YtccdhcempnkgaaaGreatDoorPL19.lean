/- Texts of the verifier, joined: Xi, Xa, Xb, Xc. -/
import Derived.Test.YtccdhcempnkgaaaGreatDoorPL3
import Derived.Test.YtccdhcempnkgaaaGreatDoorPL18
import Derived.Test.YtccdhcempnkgaaaGreatDoorPL2
import Derived.Test.YtccdhcempnkgaaaGreatDoorPL13
import Derived.Test.YtccdhcempnkgaaaGreatDoorPL8
import Derived.Test.YtccdhcempnkgaaaGreatDoorPL1
namespace Go.Proofs.YtccdhcempnkgaaaGreatDoor
open Go.RowKit Go.Deep
set_option linter.unusedVariables false
set_option linter.unusedSimpArgs false
set_option maxRecDepth 10000
theorem nz_step (P:List Ln) (k:Nat) (hk:k < P.length):nzL (P.take (k+1))=if P[k].a=0 then nzL (P.take k) else nzL (P.take k)++[P[k]]:=by
 have e:P.take (k+1)=P.take k++[P[k]]:=by rw [List.take_add_one,List.getElem?_eq_getElem hk];rfl
 rw [e]
 unfold nzL
 rw [List.filter_append]
 by_cases h:P[k].a=0 <;> simp [h]
theorem nz_len (P:List Ln) (k:Nat):(nzL (P.take k)).length≤P.length:=by
 have h1:=List.length_filter_le (fun x:Ln=>decide (x.a≠0)) (P.take k)
 have h2:(P.take k).length≤P.length:=by rw [List.length_take];omega
 exact Nat.le_trans h1 h2
set_option maxHeartbeats 4000000 in
theorem gath_impl (a:Option Addr) (c:Nat) (P:List Ln) (w:World) (hc:Cells w a (flat P)) (hl:P.length≤8) (hs:P.Pairwise (fun x y=>lessB x.k x.c y.k y.c=true)) :
 Calls Tryz.prog 134 #[.slice a P.length c] w fun e w'=>∃ v,e=.returned v∧w'.ownsRow w.heap.size 104 3 v (nzL P).length (flat (nzL P))∧Keeps w w':=by
 have HC:=hide hc
 have HS:=hide hs
 clear hc hs
 go_enter Tryz.func134,Tryz.ntmps134
 go_wp2_with fail
 go_loopw [3,8] (fun v y wr=>∃ k:Nat,k≤P.length∧y=.int .i64 (k:Int)∧Hid (wr.ownsRow w.heap.size 104 3 v (nzL (P.take k)).length (flat (nzL (P.take k))))∧Hid (Keeps w wr)) (fun _ y _=>P.length-(intOf y).toNat)
 case atStart=>exact ⟨0,by omega,rfl,World.ownsRow_nil _ _ _ _,Keeps.refl _⟩
 case round =>
  obtain ⟨k,hk,rfl,HO,HK⟩:=hrel
  by_cases hlt:k < P.length
  ·obtain ⟨b,off,ea,c0,c1,c2⟩:=cells_at (HC.out.kept HK.out) k hlt
   subst ea
   have HN:=hide (nz_step P k hlt)
   have HL:=hide (nz_len P k)
   generalize P[k]=y at *
   obtain ⟨yk,yc,ya⟩:=y
   dsimp only at c0 c1 c2 HN
   have HK1:=hide (Keeps.alloc HK.out (.cells #[.int .i64 yk,.int .i64 yc,.int .i64 ya] 104))
   have HO1:=hide (HO.out.alloc (.cells #[.int .i64 yk,.int .i64 yc,.int .i64 ya] 104))
   by_cases h0:ya=0
   ·have HN2:Hid (nzL (P.take (k+1))=nzL (P.take k)):=by show _=_;rw [HN.out,if_pos h0]
    have hd:(ya != 0)=false:=by simpa using h0
    clear h0 HN
    go_wp2_with fail
    go_roundw
    case rel=>exact ⟨k+1,by omega,by go_num,by show World.ownsRow _ _ _ _ _ _ _;rw [HN2.out];exact HO1.out,HK1.out⟩
    case measure=>simp [intOf];omega
   ·have HN2:Hid (nzL (P.take (k+1))=nzL (P.take k)++[⟨yk,yc,ya⟩]):=by show _=_;rw [HN.out,if_neg h0]
    have hd:(ya != 0)=true:=by simpa using h0
    clear h0 HN
    have y0:=World.cell?_alloc_new (w:=wr) #[.int .i64 yk,.int .i64 yc,.int .i64 ya] 104 0
    have y1:=World.cell?_alloc_new (w:=wr) #[.int .i64 yk,.int .i64 yc,.int .i64 ya] 104 1
    have y2:=World.cell?_alloc_new (w:=wr) #[.int .i64 yk,.int .i64 yc,.int .i64 ya] 104 2
    go_upto_region 6 with fail
    generalize (wr.alloc (.cells #[.int .i64 yk,.int .i64 yc,.int .i64 ya] 104))=w2 at *
    simp at y0 y1 y2
    go_wp2_with (at_builtin;refine app_line (W0:=w) (wr:=w2) rfl (.tmp 15) (.tmp 17) rfl w.heap.size u3 (nzL (P.take k)) ⟨yk,yc,ya⟩ rfl rfl HO1.out (by have:=HL.out;omega) (Nat.le_refl _) HK1.out.size HK1.out ?_;intro v' w' ho' hk' hce)
    go_roundw
    case rel=>exact ⟨k+1,by omega,by go_num,by show World.ownsRow _ _ _ _ _ _ _;rw [HN2.out];exact ho',hk'⟩
    case measure=>simp [intOf];omega
  ·have HE:Hid (P.take k=P):=List.take_of_length_le (by omega)
   rw [HE.out] at HO
   have HS2:Hid ((nzL P).Pairwise (fun x y=>lessB x.k x.c y.k y.c=true)):=HS.out.filter _
   have hln:(nzL P).length≤8:=Nat.le_trans (List.length_filter_le _ _) hl
   rcases HO.out.2 with ⟨hnil,hz⟩ | ⟨g,cap,cur,hv,hbase,hb,h1,h2,h3,h4⟩
   ·subst hnil
    go_wp2_with fail
    refine (sort_nil _ _).mono ?_
    rintro e w1 ⟨rfl,rfl⟩
    go_wp2_with fail
    go_ret
    exact ⟨_,rfl,HO.out,HK.out⟩
   ·subst hv
    have hgl:g < wr.heap.size:=(Array.getElem?_eq_some_iff.1 hb).1
    have HSo:=hide (sort_lines g cap (nzL P) wr (fun j hj=>by
     have:=HO.out.cellAt j (by rw [flat_length] at hj;omega)
     rw [this,List.getElem?_eq_getElem hj]) (fun j=>HO.out.frozenAt j) hgl (by omega))
    have HBs:=hide hbase
    clear h1 h2 h3 h4 hb hbase hgl
    go_wp2_with fail
    refine (unhide HSo).mono ?_
    rintro e w1 ⟨rfl,C',hp,hs,hc1,hf1,hg1,hb1⟩
    have eM:C'=nzL P:=sorted_only HS2.out hp hs
    subst eM
    have HF:=hide (owns_sorted HO.out rfl hc1 hb1)
    have HK1:Hid (Keeps w w1):=Keeps.grown HK.out hg1 (fun q hq=>by rw [← Option.some.inj hq];exact HBs.out)
    clear hp hs hc1 hf1 hg1 hb1
    go_wp2_with fail
    go_ret
    exact ⟨_,rfl,HF.out,HK1.out⟩
end Go.Proofs.YtccdhcempnkgaaaGreatDoor
namespace Go.Proofs.YtccdhcempnkgaaaGreatDoor
open Go.RowKit Go.Deep
set_option linter.unusedVariables false
set_option linter.unusedSimpArgs false
set_option maxRecDepth 10000
def Bo.row (B:Bo):Nat→Value:=row6 (.int .i64 B.tk) (.int .i64 B.nx) (.int .i64 B.wa) (.slice B.ca B.C.length B.cc) (.slice B.ha B.Hs.length B.hc) (.slice B.ra B.R.length B.rc)
structure Wf where
 fs:List Nat
 W:World
def Wf.ok (F:Wf) (g:Nat):Prop:=g∈F.fs∨F.W.heap.size≤g
theorem Turn.into {fs gs:List Nat} {W w w':World} (h:Turn fs W w) (k:Turn gs w w') (hg:∀ g∈gs,g∈fs∨W.heap.size≤g):Turn fs W w' :=
 ⟨k.os.trans h.os,k.tape.trans h.tape,k.output.trans h.output,Nat.le_trans h.size k.size,fun i hi hn=>by
  refine (k.block i (Nat.lt_of_lt_of_le hi h.size) (fun hx=>?_)).trans (h.block i hi hn)
  rcases hg i hx with h1 | h1
  ·exact hn h1
  ·omega⟩
structure BoAt (W:Wf) (w:World) (p:Nat) (B:Bo):Prop where
 keep:Turn W.fs W.W w
 hp:W.ok p
 row:w.rowIs p 34 6 B.row
 oC:OwnsChan w 0 (.slice B.ca B.C.length B.cc) B.C
 oH:OwnsHtlc w 0 (.slice B.ha B.Hs.length B.hc) B.Hs
 oR:OwnsCircle w 0 (.slice B.ra B.R.length B.rc) B.R
 bC:∀ g∈lb B.ca,W.ok g
 bH:∀ g∈lb B.ha,W.ok g
 bR:∀ g∈lb B.ra,W.ok g
 np:p∉lb B.ca∧p∉lb B.ha∧p∉lb B.ra
 dC:∀ g∈lb B.ca,g∉lb B.ha∧g∉lb B.ra
 dH:∀ g∈lb B.ha,g∉lb B.ra
theorem BoAt.cells {W:Wf} {w:World} {p:Nat} {B:Bo} (h:BoAt W w p B):BookAt w p B :=
 ⟨h.row.cell (i:=0) (by decide),h.row.cell (i:=1) (by decide),h.row.cell (i:=2) (by decide),h.row.cell (i:=3) (by decide),h.row.cell (i:=4) (by decide),h.row.cell (i:=5) (by decide)⟩
theorem grown_keep {w w':World} (hk:Keeps w w') (r:Option Nat):w.grownBy w' r:=⟨hk.os,hk.tape,hk.output,hk.size,fun i hi _=>hk.block i hi⟩
theorem owns_kept {w w':World} {base n:Nat} {e:TypeId} {sz:Nat} {v:Value} {xs:List Value} (h:w.ownsRow base e sz v n xs) (hk:Keeps w w'):w'.ownsRow base e sz v n xs:=by
 refine h.kept (grown_keep hk none) ?_
 cases e:v.ownBlock <;> simp
theorem BoAt.kept {W:Wf} {w w':World} {p:Nat} {B:Bo} (h:BoAt W w p B) (hk:Keeps w w'):BoAt W w' p B :=
 ⟨h.keep.into (Turn.of_keeps hk []) (by simp),h.hp,hk.rowK h.row,owns_kept h.oC hk,owns_kept h.oH hk,owns_kept h.oR hk,h.bC,h.bH,h.bR,h.np,h.dC,h.dH⟩
theorem BoAt.mem {W:Wf} {w:World} {p:Nat} {B:Bo} (h:BoAt W w p B):Mem w B.segs :=
 mem_cons.2 ⟨owns_any h.oC,mem_cons.2 ⟨owns_any h.oH,mem_cons.2 ⟨owns_any h.oR,Mem.nil _⟩⟩⟩
theorem owns_lb {w:World} {base n c:Nat} {a:Option Addr} {e:TypeId} {sz:Nat} {xs:List Value} (h:w.ownsRow base e sz (.slice a n c) n xs):∀ g∈lb a,base≤g∧g < w.heap.size:=by
 intro g hg
 cases a with
 | none=>simp [lb] at hg
 | some q =>
   simp [lb] at hg
   subst hg
   exact h.lt q.block rfl
theorem owns_turn {w w':World} {base n c:Nat} {a:Option Addr} {e:TypeId} {sz:Nat} {xs:List Value} (h:w.ownsRow base e sz (.slice a n c) n xs) {fs:List Nat} (ht:Turn fs w w') (hd:∀ g∈lb a,g∉fs):w'.ownsRow base e sz (.slice a n c) n xs:=by
 refine ⟨h.1,?_⟩
 rcases h.2 with h' | ⟨g,cap,cur,e1,hb,hg,rest⟩
 ·exact .inl h'
 ·refine .inr ⟨g,cap,cur,e1,hb,?_,rest⟩
  injection e1 with e2 _ _
  rw [ht.block g (Array.getElem?_eq_some_iff.1 hg).1 (hd g (by rw [e2];simp [lb]))];exact hg
theorem row_turn {w w':World} {b:Nat} {t:TypeId} {n:Nat} {f:Nat→Value} (h:w.rowIs b t n f) {fs:List Nat} (ht:Turn fs w w') (hd:b∉fs):w'.rowIs b t n f :=
 h.of_block (ht.block b h.lt hd)
theorem BoAt.turn {W:Wf} {w w':World} {p:Nat} {B:Bo} (h:BoAt W w p B) {fs:List Nat} (ht:Turn fs w w') (hW:∀ g∈fs,W.ok g) (hp:p∉fs) (hC:∀ g∈lb B.ca,g∉fs) (hH:∀ g∈lb B.ha,g∉fs) (hR:∀ g∈lb B.ra,g∉fs):BoAt W w' p B :=
 ⟨h.keep.into ht hW,h.hp,row_turn h.row ht hp,owns_turn h.oC ht hC,owns_turn h.oH ht hH,owns_turn h.oR ht hR,h.bC,h.bH,h.bR,h.np,h.dC,h.dH⟩
theorem BoAt.put {W:Wf} {w:World} {p:Nat} {B:Bo} (h:BoAt W w p B) (i:Nat) (v:Value) {B':Bo} (hr:∀ j,j < 6→(if j=i then v else B.row j)=B'.row j) (hC:B'.ca=B.ca∧B'.cc=B.cc∧B'.C=B.C) (hH:B'.ha=B.ha∧B'.hc=B.hc∧B'.Hs=B.Hs) (hR:B'.ra=B.ra∧B'.rc=B.rc∧B'.R=B.R):BoAt W (w.setCell ⟨p,i,none⟩ v) p B':=by
 have ht:Turn [p] w (w.setCell ⟨p,i,none⟩ v):=Turn.set (by simp) v
 have e:∀ {a:Option Addr},p∉lb a→∀ g∈lb a,g∉[p]:=fun hn g hg hx=>hn (by rw [← List.mem_singleton.1 hx];exact hg)
 refine ⟨h.keep.into ht (fun b hb=>by rw [List.mem_singleton.1 hb];exact h.hp),h.hp,(h.row.set i v).congr (fun j hj=>hr j hj),?_,?_,?_,by rw [hC.1];exact h.bC,by rw [hH.1];exact h.bH,by rw [hR.1];exact h.bR,?_,?_,?_⟩
 ·rw [hC.1,hC.2.1,hC.2.2];exact owns_turn h.oC ht (e h.np.1)
 ·rw [hH.1,hH.2.1,hH.2.2];exact owns_turn h.oH ht (e h.np.2.1)
 ·rw [hR.1,hR.2.1,hR.2.2];exact owns_turn h.oR ht (e h.np.2.2)
 ·rw [hC.1,hH.1,hR.1];exact h.np
 ·rw [hC.1,hH.1,hR.1];exact h.dC
 ·rw [hH.1,hR.1];exact h.dH
theorem row6_case {P:Nat→Prop} (h0:P 0) (h1:P 1) (h2:P 2) (h3:P 3) (h4:P 4) (h5:P 5):∀ j,j < 6→P j
 | 0,_=>h0
 | 1,_=>h1
 | 2,_=>h2
 | 3,_=>h3
 | 4,_=>h4
 | 5,_=>h5
 | n+6,h=>absurd h (by omega)
theorem BoAt.setTk {W:Wf} {w:World} {p:Nat} {B:Bo} (h:BoAt W w p B) (c:Int):BoAt W (w.setCell ⟨p,0,none⟩ (.int .i64 c)) p { B with tk:=c }:=h.put 0 _ (row6_case rfl rfl rfl rfl rfl rfl) ⟨rfl,rfl,rfl⟩ ⟨rfl,rfl,rfl⟩ ⟨rfl,rfl,rfl⟩
theorem BoAt.setNx {W:Wf} {w:World} {p:Nat} {B:Bo} (h:BoAt W w p B) (c:Int):BoAt W (w.setCell ⟨p,1,none⟩ (.int .i64 c)) p { B with nx:=c }:=h.put 1 _ (row6_case rfl rfl rfl rfl rfl rfl) ⟨rfl,rfl,rfl⟩ ⟨rfl,rfl,rfl⟩ ⟨rfl,rfl,rfl⟩
theorem BoAt.setWa {W:Wf} {w:World} {p:Nat} {B:Bo} (h:BoAt W w p B) (c:Int):BoAt W (w.setCell ⟨p,2,none⟩ (.int .i64 c)) p { B with wa:=c }:=h.put 2 _ (row6_case rfl rfl rfl rfl rfl rfl) ⟨rfl,rfl,rfl⟩ ⟨rfl,rfl,rfl⟩ ⟨rfl,rfl,rfl⟩
theorem BoAt.newC {W:Wf} {w w1:World} {p:Nat} {B:Bo} (h:BoAt W w p B) (ht:Turn (lb B.ca) w w1) {a:Option Addr} {c:Nat} {M:List Chn} (ho:OwnsChan w1 0 (.slice a M.length c) M) (ha:∀ g∈lb a,g∈lb B.ca∨w.heap.size≤g) :
 BoAt W (w1.setCell ⟨p,3,none⟩ (.slice a M.length c)) p { B with ca:=a,cc:=c,C:=M }∧w1.rowIs p 34 6 B.row:=by
 have hpC:=h.np.1
 have hrow:=row_turn h.row ht hpC
 have lp:=h.row.lt
 have np:p∉lb a:=fun hx=>by
  rcases ha p hx with h' | h'
  ·exact hpC h'
  ·omega
 have nH:∀ g∈lb a,g∉lb B.ha:=fun g hg hx=>by
  rcases ha g hg with h' | h'
  ·exact (h.dC g h').1 hx
  ·have:=(owns_lb h.oH g hx).2;omega
 have nR:∀ g∈lb a,g∉lb B.ra:=fun g hg hx=>by
  rcases ha g hg with h' | h'
  ·exact (h.dC g h').2 hx
  ·have:=(owns_lb h.oR g hx).2;omega
 have ht2:Turn [p] w1 (w1.setCell ⟨p,3,none⟩ (.slice a M.length c)):=Turn.set (by simp) _
 have e:∀ {a:Option Addr},p∉lb a→∀ g∈lb a,g∉[p]:=fun hn g hg hx=>hn (by rw [← List.mem_singleton.1 hx];exact hg)
 refine ⟨⟨(h.keep.into ht h.bC).into ht2 (fun b hb=>by rw [List.mem_singleton.1 hb];exact h.hp),h.hp,(hrow.set 3 _).congr (row6_case rfl rfl rfl rfl rfl rfl),owns_turn ho ht2 (e np),?_,?_,(fun g hg=>(ha g hg).elim (fun h1=>h.bC g h1) (fun h1=>.inr (Nat.le_trans h.keep.size h1))),h.bH,h.bR,⟨np,h.np.2⟩,fun g hg=>⟨nH g hg,nR g hg⟩,h.dH⟩,hrow⟩
 ·exact owns_turn (owns_turn h.oH ht (fun g hg hx=>(h.dC g hx).1 hg)) ht2 (e h.np.2.1)
 ·exact owns_turn (owns_turn h.oR ht (fun g hg hx=>(h.dC g hx).2 hg)) ht2 (e h.np.2.2)
theorem BoAt.newH {W:Wf} {w w1:World} {p:Nat} {B:Bo} (h:BoAt W w p B) (ht:Turn (lb B.ha) w w1) {a:Option Addr} {c:Nat} {M:List Htl} (ho:OwnsHtlc w1 0 (.slice a M.length c) M) (ha:∀ g∈lb a,g∈lb B.ha∨w.heap.size≤g) :
 BoAt W (w1.setCell ⟨p,4,none⟩ (.slice a M.length c)) p { B with ha:=a,hc:=c,Hs:=M }∧w1.rowIs p 34 6 B.row:=by
 have hpC:=h.np.2.1
 have hrow:=row_turn h.row ht hpC
 have lp:=h.row.lt
 have np:p∉lb a:=fun hx=>by
  rcases ha p hx with h' | h'
  ·exact hpC h'
  ·omega
 have nC:∀ g∈lb a,g∉lb B.ca:=fun g hg hx=>by
  rcases ha g hg with h' | h'
  ·exact (h.dC g hx).1 h'
  ·have:=(owns_lb h.oC g hx).2;omega
 have nR:∀ g∈lb a,g∉lb B.ra:=fun g hg hx=>by
  rcases ha g hg with h' | h'
  ·exact h.dH g h' hx
  ·have:=(owns_lb h.oR g hx).2;omega
 have ht2:Turn [p] w1 (w1.setCell ⟨p,4,none⟩ (.slice a M.length c)):=Turn.set (by simp) _
 have e:∀ {a:Option Addr},p∉lb a→∀ g∈lb a,g∉[p]:=fun hn g hg hx=>hn (by rw [← List.mem_singleton.1 hx];exact hg)
 refine ⟨⟨(h.keep.into ht h.bH).into ht2 (fun b hb=>by rw [List.mem_singleton.1 hb];exact h.hp),h.hp,(hrow.set 4 _).congr (row6_case rfl rfl rfl rfl rfl rfl),?_,owns_turn ho ht2 (e np),?_,h.bC,(fun g hg=>(ha g hg).elim (fun h1=>h.bH g h1) (fun h1=>.inr (Nat.le_trans h.keep.size h1))),h.bR,⟨h.np.1,np,h.np.2.2⟩,fun g hg=>⟨fun hx=>nC g hx hg,(h.dC g hg).2⟩,nR⟩,hrow⟩
 ·exact owns_turn (owns_turn h.oC ht (fun g hg hx=>(h.dC g hg).1 hx)) ht2 (e h.np.1)
 ·exact owns_turn (owns_turn h.oR ht (fun g hg hx=>h.dH g hx hg)) ht2 (e h.np.2.2)
theorem BoAt.newR {W:Wf} {w w1:World} {p:Nat} {B:Bo} (h:BoAt W w p B) (ht:Turn (lb B.ra) w w1) {a:Option Addr} {c:Nat} {M:List Crc} (ho:OwnsCircle w1 0 (.slice a M.length c) M) (ha:∀ g∈lb a,g∈lb B.ra∨w.heap.size≤g) :
 BoAt W (w1.setCell ⟨p,5,none⟩ (.slice a M.length c)) p { B with ra:=a,rc:=c,R:=M }∧w1.rowIs p 34 6 B.row:=by
 have hpC:=h.np.2.2
 have hrow:=row_turn h.row ht hpC
 have lp:=h.row.lt
 have np:p∉lb a:=fun hx=>by
  rcases ha p hx with h' | h'
  ·exact hpC h'
  ·omega
 have nC:∀ g∈lb a,g∉lb B.ca:=fun g hg hx=>by
  rcases ha g hg with h' | h'
  ·exact (h.dC g hx).2 h'
  ·have:=(owns_lb h.oC g hx).2;omega
 have nH:∀ g∈lb a,g∉lb B.ha:=fun g hg hx=>by
  rcases ha g hg with h' | h'
  ·exact h.dH g hx h'
  ·have:=(owns_lb h.oH g hx).2;omega
 have ht2:Turn [p] w1 (w1.setCell ⟨p,5,none⟩ (.slice a M.length c)):=Turn.set (by simp) _
 have e:∀ {a:Option Addr},p∉lb a→∀ g∈lb a,g∉[p]:=fun hn g hg hx=>hn (by rw [← List.mem_singleton.1 hx];exact hg)
 refine ⟨⟨(h.keep.into ht h.bR).into ht2 (fun b hb=>by rw [List.mem_singleton.1 hb];exact h.hp),h.hp,(hrow.set 5 _).congr (row6_case rfl rfl rfl rfl rfl rfl),?_,?_,owns_turn ho ht2 (e np),h.bC,h.bH,(fun g hg=>(ha g hg).elim (fun h1=>h.bR g h1) (fun h1=>.inr (Nat.le_trans h.keep.size h1))),⟨h.np.1,h.np.2.1,np⟩,fun g hg=>⟨(h.dC g hg).1,fun hx=>nC g hx hg⟩,fun g hg hx=>nH g hx hg⟩,hrow⟩
 ·exact owns_turn (owns_turn h.oC ht (fun g hg hx=>(h.dC g hg).2 hx)) ht2 (e h.np.1)
 ·exact owns_turn (owns_turn h.oH ht (fun g hg hx=>h.dH g hg hx)) ht2 (e h.np.2.1)
theorem BoAt.setC {W:Wf} {w w':World} {p:Nat} {B:Bo} (h:BoAt W w p B) (ht:Turn (lb B.ca) w w') {M:List Chn} (ho:OwnsChan w' 0 (.slice B.ca M.length B.cc) M) (hl:M.length=B.C.length):BoAt W w' p { B with C:=M } :=
 ⟨h.keep.into ht h.bC,h.hp,(row_turn h.row ht h.np.1).congr (fun j hj=>by show B.row j=Bo.row { B with C:=M } j;unfold Bo.row;simp only [hl]),ho,owns_turn h.oH ht (fun g hg hx=>(h.dC g hx).1 hg),owns_turn h.oR ht (fun g hg hx=>(h.dC g hx).2 hg),h.bC,h.bH,h.bR,h.np,h.dC,h.dH⟩
theorem BoAt.setH {W:Wf} {w w':World} {p:Nat} {B:Bo} (h:BoAt W w p B) (ht:Turn (lb B.ha) w w') {M:List Htl} (ho:OwnsHtlc w' 0 (.slice B.ha M.length B.hc) M) (hl:M.length=B.Hs.length):BoAt W w' p { B with Hs:=M } :=
 ⟨h.keep.into ht h.bH,h.hp,(row_turn h.row ht h.np.2.1).congr (fun j hj=>by show B.row j=Bo.row { B with Hs:=M } j;unfold Bo.row;simp only [hl]),owns_turn h.oC ht (fun g hg hx=>(h.dC g hg).1 hx),ho,owns_turn h.oR ht (fun g hg hx=>h.dH g hx hg),h.bC,h.bH,h.bR,h.np,h.dC,h.dH⟩
def Apart (b:Nat) (p:Nat) (B:Bo):Prop:=b≠p∧b∉lb B.ca∧b∉lb B.ha∧b∉lb B.ra
theorem BoAt.apart {W:Wf} {w:World} {p:Nat} {B:Bo} (h:BoAt W w p B) {b:Nat} (hb:w.heap.size≤b):Apart b p B :=
 ⟨by have:=h.row.lt;omega,fun hx=>by have:=(owns_lb h.oC _ hx).2;omega,fun hx=>by have:=(owns_lb h.oH _ hx).2;omega,fun hx=>by have:=(owns_lb h.oR _ hx).2;omega⟩
def Done (W:Wf) (w w':World) (p:Nat) (c:Int) (K:Bk) (L:List Ln) (e:Ending):Prop :=
 ∃ B v,e=.returned (.tuple #[v,.int .i64 c])∧BoAt W w' p B∧B.d=K∧OwnsLn w' w.heap.size v L∧∀ b,v.ownBlock=some b→Apart b p B
end Go.Proofs.YtccdhcempnkgaaaGreatDoor
namespace Go.Proofs.YtccdhcempnkgaaaGreatDoor
open Go.RowKit Go.Deep
set_option linter.unusedVariables false
set_option linter.unusedSimpArgs false
set_option maxRecDepth 10000
theorem hubLine_impl (k a:Int) (w:World):Calls Tryz.prog 135 #[.int .i64 k,.int .i64 a] w fun e w'=>e=.returned (lineV ⟨k,0,a⟩)∧Keeps w w':=by
 go_enter Tryz.func135,Tryz.ntmps135
 go_wp2_with fail
 refine bodyPost_ret (v:=lineV ⟨k,0,a⟩) (by simp [results,Tryz.results135,go_sem]) rfl ⟨rfl,?_⟩
 exact Keeps.alloc (Keeps.refl _) _
theorem chanLine_impl (k c a:Int) (w:World):Calls Tryz.prog 138 #[.int .i64 k,.int .i64 c,.int .i64 a] w fun e w'=>e=.returned (lineV ⟨k,c,a⟩)∧Keeps w w':=by
 go_enter Tryz.func138,Tryz.ntmps138
 go_wp2_with fail
 refine bodyPost_ret (v:=lineV ⟨k,c,a⟩) (by simp [results,Tryz.results138,go_sem]) rfl ⟨rfl,?_⟩
 exact Keeps.alloc (Keeps.refl _) _
def idxI (o:Option Nat):Int:=match o with | some i=>(i:Int) | none=>-1
abbrev htV (x:Htl):Value:=.agg #[.int .i64 x.ky,.int .i64 x.inn,.int .i64 x.out,.int .i64 x.ai,.int .i64 x.ao,.bool x.kp,.int .i64 x.ag]
abbrev crV (x:Crc):Value:=.agg #[.int .i64 x.ky,.int .i64 x.fr,.int .i64 x.to,.int .i64 x.am,.int .i64 x.fe]
abbrev chV (x:Chn):Value:=.agg #[.int .i64 x.id,.int .i64 x.sz,.int .i64 x.lo,.int .i64 x.re,.int .i64 x.ba,.int .i64 x.pp,.int .i64 x.sc]
theorem keyH_impl (x:Htl) (q:Nat) (ky:Int) (w:World) (hq:w.cell? ⟨q,0,none⟩=some (.int .i64 ky)):Calls Tryz.prog 203 #[htV x,.pointer (some ⟨q,0,none⟩)] w fun e w'=>e=.returned (.bool (decide (x.ky=ky)))∧Keeps w w':=by
 obtain ⟨a0,a1,a2,a3,a4,a5,a6⟩:=x
 have hq2:=(Keeps.alloc (Keeps.refl w) (.cells #[.int .i64 a0,.int .i64 a1,.int .i64 a2,.int .i64 a3,.int .i64 a4,.bool a5,.int .i64 a6] 112)).cell hq
 go_enter Tryz.func203,Tryz.ntmps203
 go_wp2_with fail
 go_ret
 exact ⟨ret_b rfl,Keeps.alloc (Keeps.refl _) _⟩
theorem keyR_impl (x:Crc) (q:Nat) (ky:Int) (w:World) (hq:w.cell? ⟨q,0,none⟩=some (.int .i64 ky)):Calls Tryz.prog 205 #[crV x,.pointer (some ⟨q,0,none⟩)] w fun e w'=>e=.returned (.bool (decide (x.ky=ky)))∧Keeps w w':=by
 obtain ⟨a0,a1,a2,a3,a4⟩:=x
 have hq2:=(Keeps.alloc (Keeps.refl w) (.cells #[.int .i64 a0,.int .i64 a1,.int .i64 a2,.int .i64 a3,.int .i64 a4] 115)).cell hq
 go_enter Tryz.func205,Tryz.ntmps205
 go_wp2_with fail
 go_ret
 exact ⟨ret_b rfl,Keeps.alloc (Keeps.refl _) _⟩
theorem idC_impl (x:Chn) (q:Nat) (ch:Int) (w:World) (hq:w.cell? ⟨q,2,none⟩=some (.int .i64 ch)):Calls Tryz.prog 141 #[chV x,.pointer (some ⟨q,0,none⟩)] w fun e w'=>e=.returned (.bool (decide (x.id=ch)))∧Keeps w w':=by
 obtain ⟨a0,a1,a2,a3,a4,a5,a6⟩:=x
 have hq2:=(Keeps.alloc (Keeps.refl w) (.cells #[.int .i64 a0,.int .i64 a1,.int .i64 a2,.int .i64 a3,.int .i64 a4,.int .i64 a5,.int .i64 a6] 78)).cell hq
 go_enter Tryz.func141,Tryz.ntmps141
 go_wp2_with fail
 go_ret
 exact ⟨ret_b rfl,Keeps.alloc (Keeps.refl _) _⟩
end Go.Proofs.YtccdhcempnkgaaaGreatDoor
namespace Go.Proofs.YtccdhcempnkgaaaGreatDoor
open Go.RowKit Go.Deep
set_option linter.unusedVariables false
set_option linter.unusedSimpArgs false
set_option maxRecDepth 10000
theorem findH_no {L:List Htl} {ky:Int} (h:∀ j (hj:j < L.length),L[j].ky≠ky):findH ky L=none:=by
 unfold findH
 rw [List.findIdx?_eq_none_iff]
 intro c hc
 obtain ⟨j,hj,rfl⟩:=List.getElem_of_mem hc
 simpa using h j hj
theorem findH_yes {L:List Htl} {ky:Int} {k:Nat} (hk:k < L.length) (he:L[k].ky=ky) (h:∀ j (hj:j < L.length),j < k→L[j].ky≠ky):findH ky L=some k:=by
 unfold findH
 rw [List.findIdx?_eq_some_iff_getElem]
 exact ⟨hk,by simpa using he,fun j hj=>by simpa using h j (by omega) hj⟩
set_option maxHeartbeats 2000000 in
theorem idxH_impl (a:Option Addr) (c:Nat) (L:List Htl) (q:Nat) (ky:Int) (w:World) (hc:Cells w a (hts L)) (hl:L.length≤1048576) (hq:w.cell? ⟨q,0,none⟩=some (.int .i64 ky)) :
 Calls Tryz.prog 202 #[.slice a L.length c,.func (.func 203) #[] #[.pointer (some ⟨q,0,none⟩)]] w fun e w'=>e=.returned (.int .i64 (idxI (findH ky L)))∧Keeps w w':=by
 have HC:=hide hc
 have HQ:=hide hq
 clear hc hq
 go_enter Tryz.func202,Tryz.ntmps202
 go_wp2_with fail
 go_loopw [8] (fun y wr=>∃ k:Nat,k≤L.length∧y=.int .i64 (k:Int)∧Hid (∀ j (hj:j < L.length),j < k→L[j].ky≠ky)∧Hid (Keeps w wr)) (fun y _=>L.length-(intOf y).toNat)
 case atStart=>exact ⟨0,by omega,rfl,fun j hj h=>absurd h (by omega),Keeps.refl _⟩
 case round =>
  obtain ⟨k,hk,rfl,HG,HKr⟩:=hrel
  by_cases hlt:k < L.length
  ·obtain ⟨b,off,ea,c0,c1,c2,c3,c4,c5,c6⟩:=hts_at (HC.out.kept HKr.out) k hlt
   subst ea
   have HX:Hid (L[k]=L[k]):=rfl
   generalize hx:L[k]=x at c0 c1 c2 c3 c4 c5 c6 HX
   replace HX:=hide hx
   clear hx
   obtain ⟨x0,x1,x2,x3,x4,x5,x6⟩:=x
   dsimp only at c0 c1 c2 c3 c4 c5 c6
   go_wp2_with fail
   refine (keyH_impl ⟨x0,x1,x2,x3,x4,x5,x6⟩ q ky _ (HKr.out.cell HQ.out)).mono ?_
   rintro e w1 ⟨rfl,hk1⟩
   have HK1:=hide (HKr.out.trans hk1)
   clear hk1
   by_cases he:x0=ky
   ·have HR:Hid (findH ky L=some k):=findH_yes hlt (by rw [HX.out];exact he) HG.out
    have hd:decide (x0=ky)=true:=decide_eq_true he
    dsimp only
    rw [hd]
    clear he hd
    go_wp2_with fail
    go_ret
    exact ⟨by rw [HR.out];rfl,HK1.out⟩
   ·have HE:=hide he
    have hd:decide (x0=ky)=false:=decide_eq_false he
    dsimp only
    rw [hd]
    clear he hd
    go_wp2_with fail
    go_roundw
    case rel=>exact ⟨k+1,by omega,by go_num,fun j hj h=>by
               by_cases e:j=k
               ·subst e;rw [HX.out];exact HE.out
               ·exact HG.out j hj (by omega),HK1.out⟩
    case measure=>simp [intOf];omega
  ·have HR:Hid (findH ky L=none):=findH_no (fun j hj=>HG.out j hj (by omega))
   go_wp2_with fail
   go_ret
   exact ⟨by rw [HR.out];rfl,HKr.out⟩
theorem findR_no {L:List Crc} {ky:Int} (h:∀ j (hj:j < L.length),L[j].ky≠ky):findR ky L=none:=by
 unfold findR
 rw [List.findIdx?_eq_none_iff]
 intro c hc
 obtain ⟨j,hj,rfl⟩:=List.getElem_of_mem hc
 simpa using h j hj
theorem findR_yes {L:List Crc} {ky:Int} {k:Nat} (hk:k < L.length) (he:L[k].ky=ky) (h:∀ j (hj:j < L.length),j < k→L[j].ky≠ky):findR ky L=some k:=by
 unfold findR
 rw [List.findIdx?_eq_some_iff_getElem]
 exact ⟨hk,by simpa using he,fun j hj=>by simpa using h j (by omega) hj⟩
set_option maxHeartbeats 2000000 in
theorem idxR_impl (a:Option Addr) (c:Nat) (L:List Crc) (q:Nat) (ky:Int) (w:World) (hc:Cells w a (crs L)) (hl:L.length≤1048576) (hq:w.cell? ⟨q,0,none⟩=some (.int .i64 ky)) :
 Calls Tryz.prog 204 #[.slice a L.length c,.func (.func 205) #[] #[.pointer (some ⟨q,0,none⟩)]] w fun e w'=>e=.returned (.int .i64 (idxI (findR ky L)))∧Keeps w w':=by
 have HC:=hide hc
 have HQ:=hide hq
 clear hc hq
 go_enter Tryz.func204,Tryz.ntmps204
 go_wp2_with fail
 go_loopw [8] (fun y wr=>∃ k:Nat,k≤L.length∧y=.int .i64 (k:Int)∧Hid (∀ j (hj:j < L.length),j < k→L[j].ky≠ky)∧Hid (Keeps w wr)) (fun y _=>L.length-(intOf y).toNat)
 case atStart=>exact ⟨0,by omega,rfl,fun j hj h=>absurd h (by omega),Keeps.refl _⟩
 case round =>
  obtain ⟨k,hk,rfl,HG,HKr⟩:=hrel
  by_cases hlt:k < L.length
  ·obtain ⟨b,off,ea,c0,c1,c2,c3,c4⟩:=crs_at (HC.out.kept HKr.out) k hlt
   subst ea
   have HX:Hid (L[k]=L[k]):=rfl
   generalize hx:L[k]=x at c0 c1 c2 c3 c4 HX
   replace HX:=hide hx
   clear hx
   obtain ⟨x0,x1,x2,x3,x4⟩:=x
   dsimp only at c0 c1 c2 c3 c4
   go_wp2_with fail
   refine (keyR_impl ⟨x0,x1,x2,x3,x4⟩ q ky _ (HKr.out.cell HQ.out)).mono ?_
   rintro e w1 ⟨rfl,hk1⟩
   have HK1:=hide (HKr.out.trans hk1)
   clear hk1
   by_cases he:x0=ky
   ·have HR:Hid (findR ky L=some k):=findR_yes hlt (by rw [HX.out];exact he) HG.out
    have hd:decide (x0=ky)=true:=decide_eq_true he
    dsimp only
    rw [hd]
    clear he hd
    go_wp2_with fail
    go_ret
    exact ⟨by rw [HR.out];rfl,HK1.out⟩
   ·have HE:=hide he
    have hd:decide (x0=ky)=false:=decide_eq_false he
    dsimp only
    rw [hd]
    clear he hd
    go_wp2_with fail
    go_roundw
    case rel=>exact ⟨k+1,by omega,by go_num,fun j hj h=>by
               by_cases e:j=k
               ·subst e;rw [HX.out];exact HE.out
               ·exact HG.out j hj (by omega),HK1.out⟩
    case measure=>simp [intOf];omega
  ·have HR:Hid (findR ky L=none):=findR_no (fun j hj=>HG.out j hj (by omega))
   go_wp2_with fail
   go_ret
   exact ⟨by rw [HR.out];rfl,HKr.out⟩
theorem atC_no0 {L:List Chn} {ky:Int} (h:∀ j (hj:j < L.length),L[j].id≠ky):atC L ky=none:=by
 unfold atC
 rw [List.findIdx?_eq_none_iff]
 intro c hc
 obtain ⟨j,hj,rfl⟩:=List.getElem_of_mem hc
 simpa using h j hj
theorem atC_yes0 {L:List Chn} {ky:Int} {k:Nat} (hk:k < L.length) (he:L[k].id=ky) (h:∀ j (hj:j < L.length),j < k→L[j].id≠ky):atC L ky=some k:=by
 unfold atC
 rw [List.findIdx?_eq_some_iff_getElem]
 exact ⟨hk,by simpa using he,fun j hj=>by simpa using h j (by omega) hj⟩
set_option maxHeartbeats 2000000 in
theorem idxC_impl (a:Option Addr) (c:Nat) (L:List Chn) (q:Nat) (ky:Int) (w:World) (hc:Cells w a (chs L)) (hl:L.length≤1048576) (hq:w.cell? ⟨q,2,none⟩=some (.int .i64 ky)) :
 Calls Tryz.prog 168 #[.slice a L.length c,.func (.func 141) #[] #[.pointer (some ⟨q,0,none⟩)]] w fun e w'=>e=.returned (.int .i64 (idxI (atC L ky)))∧Keeps w w':=by
 have HC:=hide hc
 have HQ:=hide hq
 clear hc hq
 go_enter Tryz.func168,Tryz.ntmps168
 go_wp2_with fail
 go_loopw [8] (fun y wr=>∃ k:Nat,k≤L.length∧y=.int .i64 (k:Int)∧Hid (∀ j (hj:j < L.length),j < k→L[j].id≠ky)∧Hid (Keeps w wr)) (fun y _=>L.length-(intOf y).toNat)
 case atStart=>exact ⟨0,by omega,rfl,fun j hj h=>absurd h (by omega),Keeps.refl _⟩
 case round =>
  obtain ⟨k,hk,rfl,HG,HKr⟩:=hrel
  by_cases hlt:k < L.length
  ·obtain ⟨b,off,ea,c0,c1,c2,c3,c4,c5,c6⟩:=chs_at (HC.out.kept HKr.out) k hlt
   subst ea
   have HX:Hid (L[k]=L[k]):=rfl
   generalize hx:L[k]=x at c0 c1 c2 c3 c4 c5 c6 HX
   replace HX:=hide hx
   clear hx
   obtain ⟨x0,x1,x2,x3,x4,x5,x6⟩:=x
   dsimp only at c0 c1 c2 c3 c4 c5 c6
   go_wp2_with fail
   refine (idC_impl ⟨x0,x1,x2,x3,x4,x5,x6⟩ q ky _ (HKr.out.cell HQ.out)).mono ?_
   rintro e w1 ⟨rfl,hk1⟩
   have HK1:=hide (HKr.out.trans hk1)
   clear hk1
   by_cases he:x0=ky
   ·have HR:Hid (atC L ky=some k):=atC_yes0 hlt (by rw [HX.out];exact he) HG.out
    have hd:decide (x0=ky)=true:=decide_eq_true he
    dsimp only
    rw [hd]
    clear he hd
    go_wp2_with fail
    go_ret
    exact ⟨by rw [HR.out];rfl,HK1.out⟩
   ·have HE:=hide he
    have hd:decide (x0=ky)=false:=decide_eq_false he
    dsimp only
    rw [hd]
    clear he hd
    go_wp2_with fail
    go_roundw
    case rel=>exact ⟨k+1,by omega,by go_num,fun j hj h=>by
               by_cases e:j=k
               ·subst e;rw [HX.out];exact HE.out
               ·exact HG.out j hj (by omega),HK1.out⟩
    case measure=>simp [intOf];omega
  ·have HR:Hid (atC L ky=none):=atC_no0 (fun j hj=>HG.out j hj (by omega))
   go_wp2_with fail
   go_ret
   exact ⟨by rw [HR.out];rfl,HKr.out⟩
set_option maxHeartbeats 1000000 in
theorem htlcAt_impl (p:Nat) (a:Option Addr) (c:Nat) (L:List Htl) (ky:Int) (w:World) (hp:w.cell? ⟨p,4,none⟩=some (.slice a L.length c)) (hc:Cells w a (hts L)) (hl:L.length≤1048576) :
 Calls Tryz.prog 175 #[.pointer (some ⟨p,0,none⟩),.int .i64 ky] w fun e w'=>e=.returned (.int .i64 (idxI (findH ky L)))∧Keeps w w':=by
 have HK:=hide (Keeps.alloc (Keeps.refl w) (.cells #[.int .i64 ky] 3))
 have HI:=hide (idxH_impl a c L w.heap.size ky (w.alloc (.cells #[.int .i64 ky] 3)) (hc.kept HK.out) hl (by simp))
 have hp2:=HK.out.cell hp
 generalize idxI (findH ky L)=r at *
 clear hc hl
 generalize L.length=n at *
 go_enter Tryz.func175,Tryz.ntmps175
 go_wp2_with fail
 refine (unhide HI).mono ?_
 rintro e w1 ⟨rfl,hk1⟩
 go_wp2_with fail
 go_ret
 exact ⟨rfl,HK.out.trans hk1⟩
set_option maxHeartbeats 1000000 in
theorem circleAt_impl (p:Nat) (a:Option Addr) (c:Nat) (L:List Crc) (ky:Int) (w:World) (hp:w.cell? ⟨p,5,none⟩=some (.slice a L.length c)) (hc:Cells w a (crs L)) (hl:L.length≤1048576) :
 Calls Tryz.prog 183 #[.pointer (some ⟨p,0,none⟩),.int .i64 ky] w fun e w'=>e=.returned (.int .i64 (idxI (findR ky L)))∧Keeps w w':=by
 have HK:=hide (Keeps.alloc (Keeps.refl w) (.cells #[.int .i64 ky] 3))
 have HI:=hide (idxR_impl a c L w.heap.size ky (w.alloc (.cells #[.int .i64 ky] 3)) (hc.kept HK.out) hl (by simp))
 have hp2:=HK.out.cell hp
 generalize idxI (findR ky L)=r at *
 clear hc hl
 generalize L.length=n at *
 go_enter Tryz.func183,Tryz.ntmps183
 go_wp2_with fail
 refine (unhide HI).mono ?_
 rintro e w1 ⟨rfl,hk1⟩
 go_wp2_with fail
 go_ret
 exact ⟨rfl,HK.out.trans hk1⟩
end Go.Proofs.YtccdhcempnkgaaaGreatDoor
