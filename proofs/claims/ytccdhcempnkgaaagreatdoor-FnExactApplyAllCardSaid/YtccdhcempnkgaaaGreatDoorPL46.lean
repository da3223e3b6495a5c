/- Texts of the verifier, joined: PGM, An, EtG. -/
import Derived.Test.YtccdhcempnkgaaaGreatDoorPL37
import Derived.Test.YtccdhcempnkgaaaGreatDoorPL45
import Derived.Test.YtccdhcempnkgaaaGreatDoorPL5
namespace Go.Proofs.YtccdhcempnkgaaaGreatDoor
open Go.RowKit Go.Deep
set_option linter.unusedVariables false
set_option linter.unusedSimpArgs false
set_option maxRecDepth 10000
set_option maxHeartbeats 8000000 in
theorem markPostingS_w (a:Option Addr) (cap:Nat) (ds:List Pg) (n:Nat) (w:World) (h:Own w ((a,pcells ds) :: ds.map Pg.seg)) (hl:ds.length≤1048576) (hx:∀ x∈ds,x.b.L.length≤1048576) (ht:totP ds≤4194304) (hn:n≤900000000) :
 Calls Tryz.prog 24 #[.slice a ds.length cap,.int .i64 (n:Int)] w fun e w'=>e=.returned (.int .i64 ((n+ds.length+3*totP ds:Nat):Int))∧Own w' ((a,pcells (markP n ds)) :: (markP n ds).map Pg.seg)∧Turn (fp ((a,pcells ds) :: ds.map Pg.seg)) w w':=by
 have HO:=hide h
 clear h
 go_enter Tryz.func24,Tryz.ntmps24
 go_wp2_with fail
 go_loopw [1,5] (fun x y wr=>∃ k:Nat,k≤ds.length∧x=.int .i64 ((n+k+3*totP (ds.take k):Nat):Int)∧y=.int .i64 (k:Int)∧Hid (Own wr ((a,pcells (markP n (ds.take k)++ds.drop k)) :: (markP n (ds.take k)++ds.drop k).map Pg.seg))∧Hid (fp ((a,pcells (markP n (ds.take k)++ds.drop k)) :: (markP n (ds.take k)++ds.drop k).map Pg.seg)=fp ((a,pcells ds) :: ds.map Pg.seg))∧Hid (Turn (fp ((a,pcells ds) :: ds.map Pg.seg)) w wr)) (fun _ y _=>ds.length-(intOf y).toNat)
 case atStart=>exact ⟨0,by omega,by simp [totP],rfl,by show Own _ _;simpa [markP] using HO.out,by show _=_;simp [markP],Turn.refl _ _⟩
 case round =>
  obtain ⟨k,hk,rfl,rfl,HOr,HF,HT⟩:=hrel
  by_cases hlt:k < ds.length
  ·have HTt:Hid (3*totP (ds.take (k+1))=3*totP (ds.take k)+3*ds[k].b.L.length):=by show _=_;rw [totP_take ds k hlt];omega
   have hle:ds[k].b.L.length≤1048576:=hx _ (List.getElem_mem hlt)
   have hle2:3*totP (ds.take k)≤3*totP ds:=by have:=totP_take_le ds k;omega
   have HDr:Hid (ds.drop k=ds[k] :: ds.drop (k+1)):=List.drop_eq_getElem_cons hlt
   have HTk:Hid (markP n (ds.take (k+1))++ds.drop (k+1)=markP n (ds.take k)++(Pg.mk ((n+k+3*totP (ds.take k):Nat):Int) (Bl.mk ds[k].b.a ds[k].b.cap (mkN (n+k+3*totP (ds.take k)+1) ds[k].b.L.length))) :: ds.drop (k+1)):=by
    show _=_
    rw [List.take_succ_eq_append_getElem hlt,markP_append,List.append_assoc,show (ds.take k).length=k by simp;omega];rfl
   have HLA:Hid ((markP n (ds.take k)).length=k):=by show _=_;rw [markP_len];simp;omega
   rw [HDr.out] at HOr HF
   generalize ds[k]=c at *
   obtain ⟨ki,ka,kc,kL⟩:=c
   dsimp only at HTt HTk hle
   generalize markP n (ds.take k)=A at *
   generalize hB:ds.drop (k+1)=B at HTk HDr HOr HF
   have HBB:=hide hB
   clear hB
   generalize 3*totP (ds.take k)=t at *
   have hcl:Cells wr a (pcells (A++Pg.mk ki (Bl.mk ka kc kL) :: B)):=HOr.out.mem (a,pcells (A++Pg.mk ki (Bl.mk ka kc kL) :: B)) (by simp)
   have hkl:k < (A++Pg.mk ki (Bl.mk ka kc kL) :: B).length:=by have:=HLA.out;simp;omega
   obtain ⟨b,off,ea,c0,c1⟩:=cell2P hcl k hkl
   subst ea
   have he:(A++Pg.mk ki (Bl.mk ka kc kL) :: B)[k]=Pg.mk ki (Bl.mk ka kc kL):=by
    rw [List.getElem_append_right (by have:=HLA.out;omega)]
    simp [HLA.out]
   rw [he] at c0 c1
   dsimp only [Bl.v] at c0 c1
   have HOo:Hid (Own wr [(some (⟨b,off,none⟩:Addr),pcells (A++Pg.mk ki (Bl.mk ka kc kL) :: B))]):=Own.left (S:=[_]) (T:=(A++Pg.mk ki (Bl.mk ka kc kL) :: B).map Pg.seg) HOr.out
   have hne:pcells (A++Pg.mk ki (Bl.mk ka kc kL) :: B)≠[]:=by
    intro e
    have:=pcells_len (A++Pg.mk ki (Bl.mk ka kc kL) :: B)
    rw [e] at this
    simp at this
   have f0:wr.frozen? ⟨b,off+k*2,none⟩=false:=HOo.out.free b (by rw [fp_one,fpS_some hne];simp) _
   have hset:=pcells_setP A B (Pg.mk ki (Bl.mk ka kc kL)) ((n+k+t:Nat):Int)
   rw [HLA.out] at hset
   have HO1:Hid (Own (wr.setCell ⟨b,off+k*2,none⟩ (.int .i64 ((n+k+t:Nat):Int))) [(some ⟨b,off,none⟩,pcells (A++Pg.mk ((n+k+t:Nat):Int) (Bl.mk ka kc kL) :: B))]):=by
    have h1:=HOo.out.setCellP (k*2) (.int .i64 ((n+k+t:Nat):Int)) (by rw [pcells_len];have:=HLA.out;simp;omega)
    rw [hset] at h1
    exact h1
   have hfs:fpS (some (⟨b,off,none⟩:Addr),pcells (A++Pg.mk ((n+k+t:Nat):Int) (Bl.mk ka kc kL) :: B))=fpS (some (⟨b,off,none⟩:Addr),pcells (A++Pg.mk ki (Bl.mk ka kc kL) :: B)):=fpS_len (by simp [pcells_len])
   have HOw:Hid (Own (wr.setCell ⟨b,off+k*2,none⟩ (.int .i64 ((n+k+t:Nat):Int))) ((some ⟨b,off,none⟩,pcells (A++Pg.mk ((n+k+t:Nat):Int) (Bl.mk ka kc kL) :: B)) :: (A++Pg.mk ki (Bl.mk ka kc kL) :: B).map Pg.seg)) :=
    Own.updP (A:=[]) HOr.out HO1.out hfs (Turn.set (by rw [fp_one,fpS_some hne];simp) _)
   have HTw:Hid (Turn (fp ((some (⟨b,off,none⟩:Addr),pcells ds) :: ds.map Pg.seg)) w (wr.setCell ⟨b,off+k*2,none⟩ (.int .i64 ((n+k+t:Nat):Int)))) :=
    HT.out.trans' (Turn.set (by rw [← HF.out,fp_cons,fpS_some hne];simp) _)
   have HFw:Hid (fp ((some (⟨b,off,none⟩:Addr),pcells (A++Pg.mk ((n+k+t:Nat):Int) (Bl.mk ka kc kL) :: B)) :: (A++Pg.mk ki (Bl.mk ka kc kL) :: B).map Pg.seg)=fp ((some (⟨b,off,none⟩:Addr),pcells ds) :: ds.map Pg.seg)):=by
    show _=_
    rw [← HF.out,fp_cons,fp_cons,hfs]
   have d1:(wr.setCell ⟨b,off+k*2,none⟩ (.int .i64 ((n+k+t:Nat):Int))).cell? ⟨b,off+k*2+1,none⟩=some (.slice ka kL.length kc):=by
    rw [World.cell?_setCell_other _ _ _ _ (by simp)];exact c1
   simp only [Int.natCast_add] at d1 HO1 HOw HTw HFw
   clear HOo HOr HF HT hcl he hset hfs HO1
   go_wp2_with fail
   generalize wr.setCell ⟨b,off+k*2,none⟩ (.int .i64 ((n:Int)+(k:Int)+(t:Int)))=W1 at *
   have HD:Hid ((some (⟨b,off,none⟩:Addr),pcells (A++Pg.mk ((n:Int)+(k:Int)+(t:Int)) (Bl.mk ka kc kL) :: B)) :: (A++Pg.mk ki (Bl.mk ka kc kL) :: B).map Pg.seg=((some ⟨b,off,none⟩,pcells (A++Pg.mk ((n:Int)+(k:Int)+(t:Int)) (Bl.mk ka kc kL) :: B)) :: A.map Pg.seg)++(ka,flat kL) :: B.map Pg.seg):=by
    show _=_
    rw [List.map_append,List.map_cons,List.cons_append];rfl
   have HOk:Hid (Own W1 [(ka,flat kL)]):=by
    have h2:=HOw.out
    rw [HD.out] at h2
    exact Own.left (S:=[_]) (T:=B.map Pg.seg) h2.right
   have HMk':=markLineS_n ka kc kL (n+k+t+1) W1 HOk.out (by omega) (by omega)
   simp only [Int.natCast_add,Int.cast_ofNat_Int] at HMk'
   refine HMk'.mono ?_
   clear HMk'
   rintro e w1 ⟨rfl,ho,htu⟩
   have HO1:=hide ho
   have HT1:=hide htu
   clear ho htu
   have HFS:Hid (fpS (ka,flat (mkN (n+k+t+1) kL.length))=fpS (ka,flat kL)):=fpS_len (by simp [flat_length,mkN_len])
   have HWE:Hid (pcells (A++Pg.mk ((n:Int)+(k:Int)+(t:Int)) (Bl.mk ka kc kL) :: B)=pcells (A++Pg.mk ((n+k+t:Nat):Int) (Bl.mk ka kc (mkN (n+k+t+1) kL.length)) :: B)):=by
    show _=_
    rw [pcells_append,pcells_append]
    simp [pcells,Pg.cells,Bl.v,mkN_len]
   go_wp2_with fail
   go_roundw
   case rel =>
    have hD2:(some (⟨b,off,none⟩:Addr),pcells (markP n (ds.take (k+1))++ds.drop (k+1))) :: (markP n (ds.take (k+1))++ds.drop (k+1)).map Pg.seg=((some ⟨b,off,none⟩,pcells (A++Pg.mk ((n:Int)+(k:Int)+(t:Int)) (Bl.mk ka kc kL) :: B)) :: A.map Pg.seg)++(ka,flat (mkN (n+k+t+1) kL.length)) :: B.map Pg.seg:=by
     rw [HBB.out,HTk.out,HWE.out,List.map_append,List.map_cons,List.cons_append];rfl
    refine ⟨k+1,by omega,by rw [HTt.out];congr 1;omega,by go_num,?_,?_,?_⟩
    ·show Own _ _
     rw [hD2]
     have h2:=HOw.out
     rw [HD.out] at h2
     exact h2.updP HO1.out HFS.out HT1.out
    ·show _=_
     rw [hD2,fp_updP _ _ HFS.out,← HD.out,HFw.out]
    ·refine HTw.out.trans' (HT1.out.mono ?_)
     intro x hx
     rw [← HFw.out,HD.out,fp_append,fp_cons]
     exact List.mem_append_right _ (List.mem_append_left _ (by rw [fp_one] at hx;exact hx))
   case measure=>simp [intOf];omega
  ·have e:k=ds.length:=by omega
   subst e
   go_wp2_with fail
   go_ret
   have h2:=HOr.out
   rw [List.take_length,List.drop_length,List.append_nil] at h2
   exact ⟨by simp,h2,HT.out⟩
theorem markP_at:∀ (ds:List Pg) (n k:Nat) (h:k < ds.length),(markP n ds)[k]'(by rw [markP_len];exact h)=⟨((n+k+3*totP (ds.take k):Nat):Int),⟨ds[k].b.a,ds[k].b.cap,mkN (n+k+3*totP (ds.take k)+1) ds[k].b.L.length⟩⟩
 | [],_,_,h=>absurd h (by simp)
 | x :: t,n,0,_=>by simp [markP,totP]
 | x :: t,n,k+1,h=>by
   have h':k < t.length:=by simpa using h
   have e:n+1+3*x.b.L.length+k+3*totP (t.take k)=n+(k+1)+3*totP ((x :: t).take (k+1)):=by simp [totP];omega
   have:=markP_at t (n+1+3*x.b.L.length) k h'
   rw [e] at this
   simpa [markP] using this
set_option maxHeartbeats 4000000 in
theorem heldPostingS_k (a:Option Addr) (cap:Nat) (ds:List Pg) (n:Nat) (w:World) (hm:Mem w ((a,pcells (markP n ds)) :: (markP n ds).map Pg.seg)) (hl:ds.length≤1048576) (hx:∀ x∈ds,x.b.L.length≤1048576) (ht:totP ds≤4194304) (hn:n≤900000000) :
 Calls Tryz.prog 26 #[.slice a ds.length cap,.int .i64 (n:Int)] w fun e w'=>e=.returned (.int .i64 ((n+ds.length+3*totP ds:Nat):Int))∧w'=w:=by
 have HC:Hid (Cells w a (pcells (markP n ds))):=hm (a,pcells (markP n ds)) (List.mem_cons_self ..)
 have HS:Hid (∀ k (hk:k < ds.length),Cells w (ds[k].b.a) (flat (mkN (n+k+3*totP (ds.take k)+1) ds[k].b.L.length))):=fun k hk=>by
  have:=mem_segP (w:=w) (ds:=markP n ds) (fun s hs=>hm s (List.mem_cons_of_mem _ hs)) k (by rw [markP_len];exact hk)
  rw [markP_at ds n k hk] at this
  exact this
 clear hm
 go_enter Tryz.func26,Tryz.ntmps26
 go_wp2_with fail
 go_loop [1,5] (fun x y=>∃ (k z:Nat),k≤ds.length∧Hid (n+k+3*totP (ds.take k)=z)∧x=.int .i64 (z:Int)∧y=.int .i64 (k:Int)) (fun _ y=>ds.length-(intOf y).toNat)
 case atStart=>exact ⟨0,n,by omega,by show _=_;simp [totP],rfl,rfl⟩
 case round =>
  obtain ⟨k,z,hk,HZ,rfl,rfl⟩:=hrel
  by_cases hlt:k < ds.length
  ·obtain ⟨b,off,ea,c0,c1⟩:=cell2P HC.out k (by rw [markP_len];exact hlt)
   have HEA:=hide ea
   clear ea
   obtain rfl:=HEA.out
   rw [markP_at ds n k hlt] at c0 c1
   dsimp only [Bl.v] at c0 c1
   have HSk:=HS.out k hlt
   have HT:Hid (3*totP (ds.take (k+1))=3*totP (ds.take k)+3*ds[k].b.L.length):=by show _=_;rw [totP_take ds k hlt];omega
   have hz:z≤950000000:=by have:=totP_take_le ds k;have:=HZ.out;omega
   have hlx:=hx _ (List.getElem_mem hlt)
   rw [HZ.out] at c0 HSk
   rw [mkN_len] at c1
   have HZ1:Hid (n+(k+1)+3*totP (ds.take (k+1))=z+1+3*ds[k].b.L.length):=by show _=_;rw [HT.out];have:=HZ.out;omega
   generalize ds[k]=c at c0 c1 HSk hlx HZ1 HT
   obtain ⟨ki,ka,kc,kL⟩:=c
   dsimp only at c0 c1 HSk hlx HZ1
   have HQ:=hide (heldLineS_o ka kc kL.length ((z:Int)+1) w (by simpa [mkN] using HSk) hlx (by omega) (by omega))
   have hneg:¬ ((z:Int)+1+3*(kL.length:Int) < 0):=by omega
   clear HSk HT HZ
   go_wp2_with fail
   refine (unhide HQ).mono ?_
   rintro e w1 ⟨rfl,rfl⟩
   go_wp2_with fail
   go_round
   case rel=>exact ⟨k+1,z+1+3*kL.length,by omega,HZ1,by go_num,by go_num⟩
   case measure=>simp [intOf];omega
  ·have HE:Hid (((z:Nat):Int)=((n+ds.length+3*totP ds:Nat):Int)):=by
    show _=_
    have:=HZ.out
    rw [List.take_of_length_le (by omega)] at this
    have hke:k=ds.length:=by omega
    rw [← this,hke]
   go_wp2_with fail
   go_ret
   exact ⟨by rw [HE.out];simp,rfl⟩
end Go.Proofs.YtccdhcempnkgaaaGreatDoor
namespace Go.Proofs.YtccdhcempnkgaaaGreatDoor
open Go.RowKit Go.Deep
set_option linter.unusedVariables false
set_option linter.unusedSimpArgs false
set_option maxRecDepth 10000
theorem LP.born {w0 w:World} {v:Value} {ps:List Pg} (h:LP w0 w v ps) :
 ∃ (a:Option Addr) (cap:Nat),v=.slice a ps.length cap∧Born w0 w ((a,pcells ps) :: ps.map Pg.seg):=by
 obtain ⟨a,cap,rfl,_,_,hn,ho,hb⟩:=Own.of_owns h.row
 refine ⟨a,cap,rfl,⟨Own.append (S:=[_]) ho h.inner.toOwn (fun b hb1 hb2=>?_),?_⟩⟩
 ·have hl:=fp_lb hb1
  refine h.apart b ?_ hb2
  cases a with
  | none=>simp [lb] at hl
  | some q=>simp [lb] at hl;subst hl;rfl
 ·intro b hb'
  rw [fp_cons] at hb'
  rcases List.mem_append.1 hb' with hb' | hb'
  ·exact hb b (by rw [fp_one];exact hb')
  ·exact h.inner.new b hb'
structure Ans3 (w w':World) (B:Bo) (pa:Option Addr) (P:List Pg) (qa:Option Addr) (C:List Int):Prop where
 b:Born w w' B.segs
 p:Born w w' ((pa,pcells P) :: P.map Pg.seg)
 q:Born w w' [(qa,its C)]
 bp:∀ g∈fp B.segs,g∉fp ((pa,pcells P) :: P.map Pg.seg)
 bq:∀ g∈fp B.segs,g∉fp [(qa,its C)]
 pq:∀ g∈fp ((pa,pcells P) :: P.map Pg.seg),g∉fp [(qa,its C)]
 keep:Keeps w w'
theorem own_of_lb {a:Option Addr} {n c g:Nat} (h:g∈lb a):Value.ownBlock (.slice a n c)=some g:=by
 cases a with
 | none=>simp [lb] at h
 | some q=>simp [lb] at h;subst h;rfl
theorem AllR.ans {w w':World} {B:Bo} {vc vp:Value} {cs:List Int} {ps:List Pg} (h:AllR w w' B vc cs vp ps):∃ (pa:Option Addr) (pc:Nat) (qa:Option Addr) (qc:Nat),vp=.slice pa ps.length pc∧vc=.slice qa cs.length qc∧Ans3 w w' B pa ps qa cs:=by
 obtain ⟨pa,pc,rfl,hp⟩:=h.posts.born
 obtain ⟨qa,qc,rfl,_,_,hn,ho,hb⟩:=Own.of_owns h.codes
 have h1:ApplyR w w' B none 0 []:=⟨h.keep,h.oC,h.oH,h.oR,World.ownsRow_nil _ _ _ _,h.dC,h.dH,fun g hg=>by simp [lb] at hg⟩
 have h2:=h1.born.1
 have hB:Born w w' B.segs:=⟨Own.left h2.toOwn,fun b hb=>h2.new b (by rw [fp_append];exact List.mem_append_left _ hb)⟩
 have hlb:∀ g∈fp B.segs,g∈lb B.ca++(lb B.ha++lb B.ra):=fun g hg=>by
  have e:B.segs=[(B.ca,chs B.C)]++([(B.ha,hts B.Hs)]++[(B.ra,crs B.R)]):=rfl
  rw [e,fp_append,fp_append] at hg
  simp only [List.mem_append] at hg ⊢
  rcases hg with hg | hg | hg
  ·exact .inl (fp_lb hg)
  ·exact .inr (.inl (fp_lb hg))
  ·exact .inr (.inr (fp_lb hg))
 refine ⟨pa,pc,qa,qc,rfl,rfl,hB,hp,⟨ho,hb⟩,fun g hg hx=>?_,fun g hg hx=>(h.bc g (hlb g hg)).1 (own_of_lb (fp_lb hx)),fun g hg hx=>?_,h.keep⟩
 ·rw [show ((pa,pcells ps) :: ps.map Pg.seg)=[(pa,pcells ps)]++ps.map Pg.seg from rfl,fp_append] at hx
  rcases List.mem_append.1 hx with hx | hx
  ·exact (h.bc g (hlb g hg)).2.1 (own_of_lb (fp_lb hx))
  ·exact (h.bc g (hlb g hg)).2.2 hx
 ·have hc:=h.cp g (own_of_lb (fp_lb hx))
  rw [show ((pa,pcells ps) :: ps.map Pg.seg)=[(pa,pcells ps)]++ps.map Pg.seg from rfl,fp_append] at hg
  rcases List.mem_append.1 hg with hg | hg
  ·exact hc.1 (own_of_lb (fp_lb hg))
  ·exact hc.2 hg
theorem run3_lines (B:Bk) (es:List Et) (k:Nat) (h:k≤es.length):∀ q∈(run3 B (es.take k)).P,q.2.length≤3:=by
 induction k with
 | zero=>intro q hq;simp [run3] at hq
 | succ k ih =>
   intro q hq
   rw [run3_take B es k (by omega)] at hq
   simp only [step3,List.mem_append] at hq
   rcases hq with hq | hq
   ·exact ih (by omega) q hq
   ·split at hq
    ·simp at hq
    ·simp only [List.mem_singleton] at hq
     subst hq
     show (linV _ _).length≤3
     unfold linV
     split
     ·exact evL_len _ _ _ _ _ _ _ _
     ·simp
theorem all3_small (B:Bk) (es:List Et) (hl:es.length≤1048576):((all3 B es).B.C.length≤1048576∧(all3 B es).B.Hs.length≤1048576∧(all3 B es).B.R.length≤1048576)∧(all3 B es).C.length≤1048576∧(all3 B es).P.length≤1048576∧∀ q∈(all3 B es).P,q.2.length≤3:=by
 unfold all3
 by_cases hb:bookB B=false
 ·rw [if_pos hb];simp
 ·rw [if_neg hb]
  have hb':bookB B=true:=by simpa using hb
  have h1:=run3_book hb' es es.length (Nat.le_refl _)
  have h2:=run3_len B es es.length (Nat.le_refl _)
  have h3:=run3_lines B es es.length (Nat.le_refl _)
  rw [List.take_length] at h1 h2 h3
  have hr:=right_of h1
  exact ⟨⟨Nat.le_trans hr.lC (by decide),Nat.le_trans hr.lH (by decide),Nat.le_trans hr.lR (by decide)⟩,by omega,by omega,h3⟩
theorem keys_small {ps:List Pg} {P:List (Int × List Ln)} (h:ps.map Pg.key=P) (hP:∀ q∈P,q.2.length≤3):∀ x∈ps,x.b.L.length≤3:=fun x hx=>hP x.key (by rw [← h];exact List.mem_map_of_mem hx)
theorem totP_three:∀ {ps:List Pg},(∀ x∈ps,x.b.L.length≤3)→totP ps≤3*ps.length
 | [],_=>by simp [totP]
 | x :: t,h=>by
   have h1:=h x (List.mem_cons_self ..)
   have h2:=totP_three (ps:=t) (fun y hy=>h y (List.mem_cons_of_mem _ hy))
   simp only [totP,List.map_cons,List.sum_cons,List.length_cons] at h2 ⊢
   omega
end Go.Proofs.YtccdhcempnkgaaaGreatDoor
namespace Go.Proofs.YtccdhcempnkgaaaGreatDoor
open Go.RowKit Go.Deep
set_option linter.unusedVariables false
set_option linter.unusedSimpArgs false
set_option maxRecDepth 10000
def Et.v (x:Et):Value:=.agg #[.int .i64 x.k,.int .i64 x.y,.int .i64 x.c,.int .i64 x.t,.int .i64 x.m,.int .i64 x.f,.bool x.b]
theorem toEvt_k (x:Et) (w:World):Calls Tryz.prog 8 #[x.v] w fun e w'=>e=.returned x.v∧Keeps w w':=by
 obtain ⟨xk,xy,xc,xt,xm,xf,xb⟩:=x
 dsimp only [Et.v]
 go_enter Tryz.func8,Tryz.ntmps8
 go_wp2_with fail
 refine bodyPost_ret (v:=.agg #[.int .i64 xk,.int .i64 xy,.int .i64 xc,.int .i64 xt,.int .i64 xm,.int .i64 xf,.bool xb]) (by simp [results,Tryz.results8,go_sem]) rfl ⟨rfl,?_⟩
 repeat (first | exact Keeps.refl _ | refine Keeps.alloc ?_ _ | refine Keeps.setCell ?_ (by simp) _)
theorem szEventS_k (a:Option Addr) (len cap:Nat) (left:Int) (w:World) (hl:len≤9223372036854775807) (h0:0≤left) (h1:left≤1048576) :
 Calls Tryz.prog 16 #[.slice a len cap,.int .i64 left] w fun e w'=>e=.returned (.int .i64 (if (len:Int)≤left then left-len else -1))∧w'=w:=by
 by_cases h:(len:Int)≤left
 ·rw [if_pos h]
  go_enter Tryz.func16,Tryz.ntmps16
  go_wp2_with fail
  go_ret
  exact ⟨rfl,rfl⟩
 ·rw [if_neg h]
  go_enter Tryz.func16,Tryz.ntmps16
  go_wp2_with fail
  go_ret
  exact ⟨rfl,rfl⟩
theorem infoEvt:(Tryz.prog.info? 41).map (fun i=>(i.zero,i.size,i.bytes))=some (some (.agg #[.int .i64 0,.int .i64 0,.int .i64 0,.int .i64 0,.int .i64 0,.int .i64 0,.bool false]),7,56):=by kernel_rfl
theorem underEvents:Tryz.prog.underlying 54=some (.slice 41):=by kernel_rfl
theorem make_Events (n:Nat) (hn:n≤1048576) (w:World):(Instr.makeSlice 54 (.int .i64 (n:Int)) (.int .i64 (n:Int))).run Tryz.prog w=.ok (.slice (some ⟨w.heap.size,0,none⟩) n n) (w.alloc (.cells (madeCells #[.int .i64 0,.int .i64 0,.int .i64 0,.int .i64 0,.int .i64 0,.int .i64 0,.bool false] (n*7)) 41)):=by
 have hI:=infoEvt
 cases hi:Tryz.prog.info? 41 with
 | none=>rw [hi] at hI;simp at hI
 | some i =>
   rw [hi] at hI
   simp at hI
   obtain ⟨hz,hs,hb⟩:=hI
   have h:=run_make (P:=Tryz.prog) w 54 41 i _ underEvents hi hz .i64 .i64 n n (by omega) (Int.le_refl _) (by rw [hb];omega) (by omega)
   rw [hs] at h
   simpa [Value.cells] using h
def rowEvent (L:List Et) (k:Nat):Nat→Value:=fun j=>if j < k*7 then (ets L).getD j (.int .i64 0) else (#[.int .i64 0,.int .i64 0,.int .i64 0,.int .i64 0,.int .i64 0,.int .i64 0,.bool false]:Array Value)[j % 7]!
theorem made_Event (L:List Et) (w:World) (m:Nat) (t:TypeId):(w.alloc (.cells (madeCells #[.int .i64 0,.int .i64 0,.int .i64 0,.int .i64 0,.int .i64 0,.int .i64 0,.bool false] m) t)).rowIs w.heap.size t m (rowEvent L 0):=by
 have h:=World.rowIs_alloc w (madeCells #[.int .i64 0,.int .i64 0,.int .i64 0,.int .i64 0,.int .i64 0,.int .i64 0,.bool false] m) t (rowEvent L 0) (by
  intro i hi
  rw [size_madeCells] at hi
  simp only [madeCells,Array.getElem?_map,Array.getElem?_range]
  rw [if_pos hi]
  simp [rowEvent])
 rw [size_madeCells] at h
 exact h
theorem rowEvent_step (L:List Et) (k:Nat) (h:k < L.length) (j:Nat):(if j=k*7+6 then (.bool L[k].b:Value) else if j=k*7+5 then (.int .i64 L[k].f:Value) else if j=k*7+4 then (.int .i64 L[k].m:Value) else if j=k*7+3 then (.int .i64 L[k].t:Value) else if j=k*7+2 then (.int .i64 L[k].c:Value) else if j=k*7+1 then (.int .i64 L[k].y:Value) else if j=k*7 then (.int .i64 L[k].k:Value) else rowEvent L k j)=rowEvent L (k+1) j:=by
 have hL:=ets_len L
 have hk:=Nat.mul_le_mul_right 7 (show k+1≤L.length from h)
 have ha:=fun r (hr:r < 7)=>flatMap_at (f:=Et.cells) (sz:=7) (fun _=>rfl) L k h r hr
 unfold rowEvent
 by_cases h6:j=k*7+6
 ·subst h6
  (try simp only [if_true])
  (try rw [if_pos rfl])
  rw [if_pos (by omega),List.getD_eq_getElem?_getD]
  have e:=ha 6 (by decide)
  skip
  unfold ets
  rw [e];rfl
 rw [if_neg h6]
 by_cases h5:j=k*7+5
 ·subst h5
  (try simp only [if_true])
  (try rw [if_pos rfl])
  rw [if_pos (by omega),List.getD_eq_getElem?_getD]
  have e:=ha 5 (by decide)
  skip
  unfold ets
  rw [e];rfl
 rw [if_neg h5]
 by_cases h4:j=k*7+4
 ·subst h4
  (try simp only [if_true])
  (try rw [if_pos rfl])
  rw [if_pos (by omega),List.getD_eq_getElem?_getD]
  have e:=ha 4 (by decide)
  skip
  unfold ets
  rw [e];rfl
 rw [if_neg h4]
 by_cases h3:j=k*7+3
 ·subst h3
  (try simp only [if_true])
  (try rw [if_pos rfl])
  rw [if_pos (by omega),List.getD_eq_getElem?_getD]
  have e:=ha 3 (by decide)
  skip
  unfold ets
  rw [e];rfl
 rw [if_neg h3]
 by_cases h2:j=k*7+2
 ·subst h2
  (try simp only [if_true])
  (try rw [if_pos rfl])
  rw [if_pos (by omega),List.getD_eq_getElem?_getD]
  have e:=ha 2 (by decide)
  skip
  unfold ets
  rw [e];rfl
 rw [if_neg h2]
 by_cases h1:j=k*7+1
 ·subst h1
  (try simp only [if_true])
  (try rw [if_pos rfl])
  rw [if_pos (by omega),List.getD_eq_getElem?_getD]
  have e:=ha 1 (by decide)
  skip
  unfold ets
  rw [e];rfl
 rw [if_neg h1]
 by_cases h0:j=k*7
 ·subst h0
  (try simp only [if_true])
  (try rw [if_pos rfl])
  rw [if_pos (by omega),List.getD_eq_getElem?_getD]
  have e:=ha 0 (by decide)
  simp only [Nat.add_zero] at e
  unfold ets
  rw [e];rfl
 rw [if_neg h0]
 by_cases hlt:j < k*7
 ·rw [if_pos hlt,if_pos (by omega)]
 ·rw [if_neg hlt,if_neg (by omega)]
theorem rowEvent_end (L:List Et) (j:Nat) (hj:j < (ets L).length):rowEvent L L.length j=(ets L)[j]:=by
 have hL:=ets_len L
 unfold rowEvent
 rw [if_pos (by omega),List.getD_eq_getElem?_getD,List.getElem?_eq_getElem hj]
 rfl
set_option maxHeartbeats 2000000 in
theorem toEventS_k (a:Option Addr) (cap:Nat) (L:List Et) (w:World) (hc:Cells w a (ets L)) (hl:L.length≤1048576) :
 Calls Tryz.prog 18 #[.slice a L.length cap] w fun e w'=>∃ b,e=.returned (.slice (some ⟨b,0,none⟩) L.length L.length)∧Born w w' [(some ⟨b,0,none⟩,ets L)]∧Keeps w w':=by
 have HC:=hide hc
 clear hc
 have hmk:=make_Events L.length hl
 have HR:=hide (made_Event L w (L.length*7) 41)
 have HKA:=hide (Keeps.alloc (Keeps.refl w) (.cells (madeCells #[.int .i64 0,.int .i64 0,.int .i64 0,.int .i64 0,.int .i64 0,.int .i64 0,.bool false] (L.length*7)) 41))
 go_enter Tryz.func18,Tryz.ntmps18
 go_wp2_with fail
 clear hmk
 go_loopw [4] (fun y w1=>∃ k:Nat,k≤L.length∧y=.int .i64 (k:Int)∧w1.rowIs w.heap.size 41 (L.length*7) (rowEvent L k)∧Keeps w w1) (fun y _=>L.length-(intOf y).toNat)
 case atStart=>exact ⟨0,by omega,rfl,HR.out,HKA.out⟩
 case round =>
  obtain ⟨k,hk,rfl,hr,hkw⟩:=hrel
  clear HR HKA
  by_cases hlt:k < L.length
  ·obtain ⟨b,off,ea,c0,c1,c2,c3,c4,c5,c6⟩:=ets_at (HC.out.kept hkw) k hlt
   subst ea
   have HQ:=hide (fun w1=>toEvt_k L[k] w1)
   have HS:=hide (rowEvent_step L k hlt)
   have HRR:=hide hr
   have HKW:=hide hkw
   have hkz:=Nat.mul_le_mul_right 7 (show k+1≤L.length from hlt)
   clear hr hkw
   generalize L[k]=x at *
   obtain ⟨xk,xy,xc,xt,xm,xf,xb⟩:=x
   dsimp only [Et.v] at *
   go_wp2_with fail
   refine (unhide HQ _).mono ?_
   rintro e w2 ⟨rfl,hk2⟩
   have r2:=hk2.rowK HRR.out
   have d0:=r2.cell (i:=k*7) (by omega)
   have f0:=r2.frozen (k*7)
   have d1:=r2.cell (i:=k*7+1) (by omega)
   have f1:=r2.frozen (k*7+1)
   have d2:=r2.cell (i:=k*7+2) (by omega)
   have f2:=r2.frozen (k*7+2)
   have d3:=r2.cell (i:=k*7+3) (by omega)
   have f3:=r2.frozen (k*7+3)
   have d4:=r2.cell (i:=k*7+4) (by omega)
   have f4:=r2.frozen (k*7+4)
   have d5:=r2.cell (i:=k*7+5) (by omega)
   have f5:=r2.frozen (k*7+5)
   have d6:=r2.cell (i:=k*7+6) (by omega)
   have f6:=r2.frozen (k*7+6)
   have HR2:=hide r2
   have HK2:=hide (HKW.out.trans hk2)
   clear r2 hk2
   go_wp2_with fail
   go_roundw
   case rel=>exact ⟨k+1,by omega,by go_num,((((((((HR2.out.set (k*7) (.int .i64 xk)).set (k*7+1) (.int .i64 xy)).set (k*7+2) (.int .i64 xc)).set (k*7+3) (.int .i64 xt)).set (k*7+4) (.int .i64 xm)).set (k*7+5) (.int .i64 xf)).set (k*7+6) (.bool xb))).congr (fun j _=>HS.out j),(Keeps.setCell (Keeps.setCell (Keeps.setCell (Keeps.setCell (Keeps.setCell (Keeps.setCell (Keeps.setCell HK2.out (Nat.le_refl _) _) (Nat.le_refl _) _) (Nat.le_refl _) _) (Nat.le_refl _) _) (Nat.le_refl _) _) (Nat.le_refl _) _) (Nat.le_refl _) _)⟩
   case measure=>simp [intOf];omega
  ·have e:k=L.length:=by omega
   subst e
   go_wp2_with fail
   go_ret
   exact ⟨_,rfl,born_row hr (ets L) (by rw [ets_len];exact Nat.le_refl _) (fun j hj=>rowEvent_end L j hj) (Nat.le_refl _),hkw⟩
theorem eqEvent_same (x:Et) (w:World):Calls Tryz.prog 63 #[x.v,x.v] w fun e w'=>e=.returned (.bool true)∧Keeps w w':=by
 obtain ⟨xk,xy,xc,xt,xm,xf,xb⟩:=x
 dsimp only [Et.v]
 cases xb
 all_goals
  go_enter Tryz.func63,Tryz.ntmps63
  go_wp2_with fail
  go_ret
  exact ⟨rfl,Keeps.alloc (Keeps.alloc (Keeps.refl _) _) _⟩
set_option maxHeartbeats 4000000 in
theorem eqEventS_k (a a':Option Addr) (cap cap':Nat) (xs:List Et) (w:World) (hc:Cells w a (ets xs)) (hc':Cells w a' (ets xs)) (hl:xs.length≤1048576) :
 Calls Tryz.prog 22 #[.slice a xs.length cap,.slice a' xs.length cap'] w fun e w'=>e=.returned (.bool true)∧Keeps w w':=by
 have HC:=hide hc
 have HC':=hide hc'
 clear hc hc'
 go_enter Tryz.func22,Tryz.ntmps22
 go_wp2_with fail
 go_loopw [5] (fun y w1=>∃ k:Nat,k≤xs.length∧y=.int .i64 (k:Int)∧Keeps w w1) (fun y _=>xs.length-(intOf y).toNat)
 case atStart=>exact ⟨0,by omega,rfl,Keeps.refl _⟩
 case round =>
  obtain ⟨k,hk,rfl,hkw⟩:=hrel
  by_cases hlt:k < xs.length
  ·obtain ⟨b,off,ea,c0,c1,c2,c3,c4,c5,c6⟩:=ets_at (HC.out.kept hkw) k hlt
   obtain ⟨b',off',ea',d0,d1,d2,d3,d4,d5,d6⟩:=ets_at (HC'.out.kept hkw) k hlt
   have HEA:=hide ea
   have HEA':=hide ea'
   clear ea ea'
   obtain rfl:=HEA.out
   obtain rfl:=HEA'.out
   have HQ:=hide (fun t=>eqEvent_same xs[k] (gr wr t))
   have g0:=gr_cell c0
   have i0:=gr_cell d0
   have g1:=gr_cell c1
   have i1:=gr_cell d1
   have g2:=gr_cell c2
   have i2:=gr_cell d2
   have g3:=gr_cell c3
   have i3:=gr_cell d3
   have g4:=gr_cell c4
   have i4:=gr_cell d4
   have g5:=gr_cell c5
   have i5:=gr_cell d5
   have g6:=gr_cell c6
   have i6:=gr_cell d6
   generalize xs[k]=x at *
   obtain ⟨xk,xy,xc,xt,xm,xf,xb⟩:=x
   dsimp only [Et.v] at c0 d0 g0 i0 c1 d1 g1 i1 c2 d2 g2 i2 c3 d3 g3 i3 c4 d4 g4 i4 c5 d5 g5 i5 c6 d6 g6 i6 HQ
   go_wp2_with fail
   refine region_gr (by kernel_rfl) (by kernel_rfl) ?_
   repeat (go_big_quiet_step (first | (go_at_call 63;exact gr_call (unhide HQ _))))
   refine wpQuiet_nil ?_
   intro w' hw'
   have hk':=hkw.trans (Keeps.of_gr hw')
   clear hw'
   go_wp2_with fail
   go_roundw
   case rel=>exact ⟨k+1,by omega,by go_num,hk'⟩
   case measure=>simp [intOf];omega
  ·go_wp2_with fail
   go_ret
   exact ⟨rfl,hkw⟩
end Go.Proofs.YtccdhcempnkgaaaGreatDoor
