/- Texts of the verifier, joined: Ad, Al, Qi, Ap. -/
import Derived.Test.YtccdhcempnkgaaaGreatDoorPL37
import Derived.Test.YtccdhcempnkgaaaGreatDoorPL3
import Derived.Test.YtccdhcempnkgaaaGreatDoorPL1
import Derived.OrdersHeld
import Derived.Test.YtccdhcempnkgaaaGreatDoorPL35
namespace Go.Proofs.YtccdhcempnkgaaaGreatDoor
open Go.RowKit Go.Deep
set_option linter.unusedVariables false
set_option linter.unusedSimpArgs false
set_option maxRecDepth 10000
def stepC (B:Bk) (x:Et):Int:=applyC B x.k x.y x.c x.t x.m x.f x.b
def stepK (B:Bk) (x:Et):Bk:=bookV B (stepC B x) (evK B x.k x.y x.c x.t x.m x.f x.b) (evL B x.k x.y x.c x.t x.m x.f x.b)
def stepL (B:Bk) (x:Et):List Ln:=linV (stepC B x) (evL B x.k x.y x.c x.t x.m x.f x.b)
def stepI (B:Bk) (x:Et):Int:=pidV (stepC B x) (evK B x.k x.y x.c x.t x.m x.f x.b) (evL B x.k x.y x.c x.t x.m x.f x.b)
structure All3 where
 B:Bk
 P:List (Int × List Ln)
 C:List Int
def step3 (s:All3) (x:Et):All3:=⟨stepK s.B x,s.P++(if stepL s.B x=[] then [] else [(stepI s.B x,stepL s.B x)]),s.C++[stepC s.B x]⟩
def run3 (B:Bk) (es:List Et):All3:=es.foldl step3 ⟨B,[],[]⟩
def all3 (B:Bk) (es:List Et):All3:=if bookB B=false then ⟨⟨0,0,0,[],[],[]⟩,[],[]⟩ else run3 B es
theorem run3_take (B:Bk) (es:List Et) (k:Nat) (h:k < es.length):run3 B (es.take (k+1))=step3 (run3 B (es.take k)) es[k]:=by
 unfold run3
 rw [List.take_succ_eq_append_getElem h,List.foldl_append];rfl
theorem step_book {B:Bk} (h:bookB B=true) (x:Et):bookB (stepK B x)=true:=by
 unfold stepK bookV
 by_cases hc:stepC B x=0
 ·have:=book_out h (k:=x.k) (ky:=x.y) (ch:=x.c) (tt:=x.t) (am:=x.m) (fe:=x.f) (ys:=x.b) hc
  rw [if_pos hc]
  unfold outB at this
  rw [if_pos rfl] at this
  exact this
 ·rw [if_neg hc];exact h
theorem run3_len (B:Bk) (es:List Et) (k:Nat) (h:k≤es.length):(run3 B (es.take k)).C.length=k∧(run3 B (es.take k)).P.length≤k:=by
 induction k with
 | zero=>exact ⟨rfl,Nat.le_refl _⟩
 | succ k ih =>
   obtain ⟨h1,h2⟩:=ih (by omega)
   rw [run3_take B es k (by omega)]
   refine ⟨by simp [step3,h1],?_⟩
   simp only [step3,List.length_append]
   split <;> simp <;> omega
theorem run3_book {B:Bk} (hb:bookB B=true) (es:List Et) (k:Nat) (h:k≤es.length):bookB (run3 B (es.take k)).B=true:=by
 induction k with
 | zero=>exact hb
 | succ k ih=>rw [run3_take B es k (by omega)];exact step_book (ih (by omega)) _
theorem run_code (w:World) (base:Nat) (v:Value) (n:Nat) (xs:List Value) (c:Int) (ty:TypeId) (h:w.ownsRow base 3 1 v n xs) (hn:n≤1048576) (hb:base≤w.heap.size) :
 ∃ v' w',(Builtin.append_ #[51,51] ty #[v,.slice (some ⟨w.heap.size,0,none⟩) 1 1]).run Tryz.prog (w.alloc (.cells #[.int .i64 c] 3))=.ok v' w'∧w'.ownsRow base 3 1 v' (n+1) (xs++[.int .i64 c])∧(w.alloc (.cells #[.int .i64 c] 3)).grownBy w' v.ownBlock∧(v'.ownBlock=v.ownBlock∨v'.ownBlock=some (w.alloc (.cells #[.int .i64 c] 3)).heap.size):=by
 have hI:=infoInt
 cases hi:Tryz.prog.info? 3 with
 | none=>rw [hi] at hI;simp at hI
 | some i =>
   rw [hi] at hI
   simp at hI
   obtain ⟨hz,hsz,hby⟩:=hI
   obtain ⟨v',w',h1,h2,h3,_,h5⟩:=run_append_own_at (P:=Tryz.prog) (w.alloc (.cells #[.int .i64 c] 3)) base 51 ty 3 i _ 1 8 underInts hi hz hsz hby rfl (by decide) v n xs (h.alloc _) ⟨w.heap.size,0,none⟩ 1 1 [.int .i64 c] rfl (fun j u hj=>by
    match j,hj with
    | 0,hj=>simp at hj;subst hj;simp [Addr.add]
    | n+1,hj=>simp at hj) (by intro u hu;rw [List.mem_singleton.1 hu];rfl) (by simp only [maxLen];omega) (by omega) (by simp;omega)
   exact ⟨v',w',h1,h2,h3,h5⟩
theorem ownsv_turn {w w':World} {base n:Nat} {e:TypeId} {sz:Nat} {v:Value} {xs:List Value} (h:w.ownsRow base e sz v n xs) {fs:List Nat} (ht:Turn fs w w') (hv:∀ g,v.ownBlock=some g→g∉fs):w'.ownsRow base e sz v n xs:=by
 refine ⟨h.1,?_⟩
 rcases h.2 with h' | ⟨g,cap,cur,e1,hb,hg,rest⟩
 ·exact .inl h'
 ·refine .inr ⟨g,cap,cur,e1,hb,?_,rest⟩
  rw [ht.block g (Array.getElem?_eq_some_iff.1 hg).1 (hv g (by rw [e1];rfl))];exact hg
abbrev LP (w0 w:World) (v:Value) (ps:List Pg):Prop:=LG 37 2 Pg.cells Pg.seg w0 w v ps
structure AlSt (w0 w:World) (p:Nat) (B:Bo) (vc:Value) (cs:List Int) (vp:Value) (ps:List Pg):Prop where
 book:BoAt ⟨[],w0⟩ w p B
 codes:OwnsI w w0.heap.size vc cs
 posts:LP w0 w vp ps
 bc:∀ g∈blksB p B,vc.ownBlock≠some g∧vp.ownBlock≠some g∧g∉fp (ps.map Pg.seg)
 cp:∀ g,vc.ownBlock=some g→vp.ownBlock≠some g∧g∉fp (ps.map Pg.seg)
section
variable {w0 w w' w1 w2:World} {p:Nat} {B:Bo} {vc vp v':Value} {cs:List Int} {ps:List Pg}
theorem AlSt.kept (h:AlSt w0 w p B vc cs vp ps) (hk:Keeps w w'):AlSt w0 w' p B vc cs vp ps :=
 ⟨h.book.kept hk,owns_kept h.codes hk,h.posts.kept hk,h.bc,h.cp⟩
theorem AlSt.keep (h:AlSt w0 w p B vc cs vp ps):Keeps w0 w:=h.posts.keeps
theorem AlSt.blk (h:AlSt w0 w p B vc cs vp ps):∀ g∈blksB p B,w0.heap.size≤g∧g < w.heap.size:=fun g hg=>by
 obtain ⟨h1,h2⟩:=h.book.blk g hg
 rcases h1 with h1 | h1
 ·exact absurd h1 (by simp)
 ·exact ⟨h1,h2⟩
theorem AlSt.turn (h:AlSt w0 w p B vc cs vp ps) {B':Bo} (hB:BoAt ⟨blksB p B,w⟩ w' p B') (ht:Turn (blksB p B) w w'):AlSt w0 w' p B' vc cs vp ps:=by
 refine ⟨h.book.back hB,ownsv_turn h.codes ht (fun g hg hx=>(h.bc g hx).1 hg),h.posts.turned ht (fun g hg hx=>(h.bc g hx).2.1 hg) (fun b hb hx=>(h.bc b hx).2.2 hb) (fun b hb=>(h.blk b hb).1),fun g hg=>?_,h.cp⟩
 rcases (hB.blk g hg).1 with h1 | h1
 ·exact h.bc g h1
 ·have h2:w.heap.size≤g:=h1
  refine ⟨fun hx=>?_,fun hx=>?_,fun hx=>?_⟩
  ·have:=(h.codes.lt g hx).2;omega
  ·have:=(h.posts.row.lt g hx).2;omega
  ·have:=h.posts.inner.mem.lt g hx;omega
theorem AlSt.code (h:AlSt w0 w p B vc cs vp ps) {c:Int} (hr:w2.ownsRow w0.heap.size 3 1 v' (cs.length+1) (its cs++[.int .i64 c])) {o:Obj} (hg:(w.alloc o).grownBy w2 vc.ownBlock)
 (hv:v'.ownBlock=vc.ownBlock∨v'.ownBlock=some (w.alloc o).heap.size):AlSt w0 w2 p B v' (cs++[c]) vp ps:=by
 have ht:Turn vc.ownBlock.toList (w.alloc o) w2:=Turn.of_grown hg (fun k hk'=>by rw [hk'];simp)
 have hka:Keeps w (w.alloc o):=Keeps.alloc (Keeps.refl _) _
 have hs:(w.alloc o).heap.size=w.heap.size+1:=by rw [World.size_alloc]
 have hin:∀ g,g∈vc.ownBlock.toList→vc.ownBlock=some g:=fun g hg=>by simpa using hg
 have hnot:∀ g∈blksB p B,g∉vc.ownBlock.toList:=fun g hg hx=>(h.bc g hg).1 (hin g hx)
 have hh:=h.kept hka
 refine ⟨hh.book.turn ht (fun g hg=>.inr (h.codes.lt g (hin g hg)).1) (hnot p (by simp [blksB])) (fun g hg=>hnot g (by simp [blksB,hg])) (fun g hg=>hnot g (by simp [blksB,hg])) (fun g hg=>hnot g (by simp [blksB,hg])),?_,
  hh.posts.turned ht (fun g hg hx=>(h.cp g (hin g hx)).1 hg) (fun b hb hx=>(h.cp b (hin b hx)).2 hb) (fun b hb=>(h.codes.lt b (hin b hb)).1),fun g hg=>⟨fun hx=>?_,(h.bc g hg).2⟩,fun g hg=>?_⟩
 ·show w2.ownsRow _ _ _ _ _ _
  rw [List.length_append,its_append];exact hr
 ·rcases hv with hv | hv
  ·rw [hv] at hx;exact (h.bc g hg).1 hx
  ·rw [hv] at hx
   have:=Option.some.inj hx
   have:=(h.blk g hg).2
   omega
 ·rcases hv with hv | hv
  ·rw [hv] at hg;exact h.cp g hg
  ·rw [hv] at hg
   have:=Option.some.inj hg
   refine ⟨fun hx=>?_,fun hx=>?_⟩
   ·have:=(h.posts.row.lt g hx).2;omega
   ·have:=h.posts.inner.mem.lt g hx;omega
theorem AlSt.post (h:AlSt w0 w p B vc cs vp ps) {x:Pg} (hx:Own w [Pg.seg x]) (hn:∀ b∈fp [Pg.seg x],w0.heap.size≤b∧b∉blksB p B∧vc.ownBlock≠some b∧vp.ownBlock≠some b∧b∉fp (ps.map Pg.seg)) {o:Obj} (hg:(w.alloc o).grownBy w2 vp.ownBlock)
 (hr:w2.ownsRow w0.heap.size 37 2 v' (ps.length+1) (ps.flatMap Pg.cells++Pg.cells x)) (hv:v'.ownBlock=vp.ownBlock∨v'.ownBlock=some (w.alloc o).heap.size):AlSt w0 w2 p B vc cs v' (ps++[x]):=by
 have ht:Turn vp.ownBlock.toList (w.alloc o) w2:=Turn.of_grown hg (fun k hk'=>by rw [hk'];simp)
 have hka:Keeps w (w.alloc o):=Keeps.alloc (Keeps.refl _) _
 have hs:(w.alloc o).heap.size=w.heap.size+1:=by rw [World.size_alloc]
 have hin:∀ g,g∈vp.ownBlock.toList→vp.ownBlock=some g:=fun g hg=>by simpa using hg
 have hnot:∀ g∈blksB p B,g∉vp.ownBlock.toList:=fun g hg hx=>(h.bc g hg).2.1 (hin g hx)
 have hh:=h.kept hka
 have hlt:∀ b∈fp [Pg.seg x],b < w.heap.size:=fun b hb=>hx.mem.lt b hb
 refine ⟨hh.book.turn ht (fun g hg=>.inr (h.posts.row.lt g (hin g hg)).1) (hnot p (by simp [blksB])) (fun g hg=>hnot g (by simp [blksB,hg])) (fun g hg=>hnot g (by simp [blksB,hg])) (fun g hg=>hnot g (by simp [blksB,hg])),
  ownsv_turn hh.codes ht (fun g hg hx=>(h.cp g hg).1 (hin g hx)),⟨?_,⟨?_,?_⟩,?_,?_⟩,fun g hg=>⟨(h.bc g hg).1,fun hx'=>?_,fun hx'=>?_⟩,fun g hg=>⟨fun hx'=>?_,fun hx'=>?_⟩⟩
 ·rw [List.length_append,List.flatMap_append,List.flatMap_singleton];exact hr
 ·rw [List.map_append]
  refine (hh.posts.inner.turn ht (fun b hb hb'=>h.posts.apart b (hin b hb') hb)).toOwn.append ((hx.kept hka).turn ht (fun b hb hb'=>(hn b hb).2.2.2.1 (hin b hb'))) (fun b hb hb'=>(hn b hb').2.2.2.2 hb)
 ·intro b hb
  rw [List.map_append,fp_append] at hb
  rcases List.mem_append.1 hb with hb | hb
  ·exact h.posts.inner.new b hb
  ·exact (hn b hb).1
 ·intro g hg' hb
  rw [List.map_append,fp_append] at hb
  rcases hv with hv | hv
  ·rw [hv] at hg'
   rcases List.mem_append.1 hb with hb | hb
   ·exact h.posts.apart g hg' hb
   ·exact (hn g hb).2.2.2.1 hg'
  ·rw [hv] at hg'
   have:=Option.some.inj hg'
   rcases List.mem_append.1 hb with hb | hb
   ·have:=h.posts.inner.mem.lt g hb;omega
   ·have:=hlt g hb;omega
 ·exact Keeps.grown (h.posts.keeps.trans hka) hg (fun g hg'=>(h.posts.row.lt g hg').1)
 ·rcases hv with hv | hv
  ·rw [hv] at hx';exact (h.bc g hg).2.1 hx'
  ·rw [hv] at hx'
   have:=Option.some.inj hx'
   have:=(h.blk g hg).2
   omega
 ·rw [List.map_append,fp_append] at hx'
  rcases List.mem_append.1 hx' with hb | hb
  ·exact (h.bc g hg).2.2 hb
  ·exact (hn g hb).2.1 hg
 ·rcases hv with hv | hv
  ·rw [hv] at hx';exact (h.cp g hg).1 hx'
  ·rw [hv] at hx'
   have:=Option.some.inj hx'
   have:=(h.codes.lt g hg).2
   omega
 ·rw [List.map_append,fp_append] at hx'
  rcases List.mem_append.1 hx' with hb | hb
  ·exact (h.cp g hg).2 hb
  ·exact (hn g hb).2.2.1 hg
end
structure AllR (w w':World) (B:Bo) (vc:Value) (cs:List Int) (vp:Value) (ps:List Pg):Prop where
 keep:Keeps w w'
 oC:OwnsChan w' w.heap.size (.slice B.ca B.C.length B.cc) B.C
 oH:OwnsHtlc w' w.heap.size (.slice B.ha B.Hs.length B.hc) B.Hs
 oR:OwnsCircle w' w.heap.size (.slice B.ra B.R.length B.rc) B.R
 codes:OwnsI w' w.heap.size vc cs
 posts:LP w w' vp ps
 dC:∀ g∈lb B.ca,g∉lb B.ha∧g∉lb B.ra
 dH:∀ g∈lb B.ha,g∉lb B.ra
 bc:∀ g∈lb B.ca++(lb B.ha++lb B.ra),vc.ownBlock≠some g∧vp.ownBlock≠some g∧g∉fp (ps.map Pg.seg)
 cp:∀ g,vc.ownBlock=some g→vp.ownBlock≠some g∧g∉fp (ps.map Pg.seg)
end Go.Proofs.YtccdhcempnkgaaaGreatDoor
namespace Go.Proofs.YtccdhcempnkgaaaGreatDoor
open Go.RowKit Go.Deep
set_option linter.unusedVariables false
set_option linter.unusedSimpArgs false
set_option maxRecDepth 10000
theorem allr_none {w w':World} (hk:Keeps w w'):AllR w w' ⟨0,0,0,none,0,[],none,0,[],none,0,[]⟩ (.slice none 0 0) [] (.slice none 0 0) [] :=
 ⟨hk,World.ownsRow_nil _ _ _ _,World.ownsRow_nil _ _ _ _,World.ownsRow_nil _ _ _ _,World.ownsRow_nil _ _ _ _,LG.nil _ _ _ _ (World.ownsRow_nil _ _ _ _) hk,fun g hg=>by simp [lb] at hg,fun g hg=>by simp [lb] at hg,fun g hg=>by simp [lb] at hg,fun g hg=>nomatch (show none=some g from hg)⟩
theorem AlSt.fin {w w1 wr wf:World} {p rb:Nat} {B:Bo} {vc vp:Value} {cs:List Int} {ps:List Pg} (h:AlSt w1 wr p B vc cs vp ps) (hk:Keeps w w1) (ht:Turn [rb] wr wf) (h1:rb < w1.heap.size) (h2:w.heap.size≤rb):AllR w wf B vc cs vp ps:=by
 have hb:=h.blk
 have nC:∀ g∈lb B.ca,w.heap.size≤g∧g∉[rb]:=fun g hg=>by have:=(hb g (by simp [blksB,hg])).1;refine ⟨by omega,?_⟩;simp only [List.mem_singleton];omega
 have nH:∀ g∈lb B.ha,w.heap.size≤g∧g∉[rb]:=fun g hg=>by have:=(hb g (by simp [blksB,hg])).1;refine ⟨by omega,?_⟩;simp only [List.mem_singleton];omega
 have nR:∀ g∈lb B.ra,w.heap.size≤g∧g∉[rb]:=fun g hg=>by have:=(hb g (by simp [blksB,hg])).1;refine ⟨by omega,?_⟩;simp only [List.mem_singleton];omega
 refine ⟨ht.keeps (hk.trans h.keep) (fun q hq=>by rw [List.mem_singleton.1 hq];exact h2),owns_base (owns_turn h.book.oC ht fun g hg=>(nC g hg).2) fun g hg=>(nC g hg).1,owns_base (owns_turn h.book.oH ht fun g hg=>(nH g hg).2) fun g hg=>(nH g hg).1,owns_base (owns_turn h.book.oR ht fun g hg=>(nR g hg).2) fun g hg=>(nR g hg).1,
  owns_older (ownsv_turn h.codes ht (fun g hg=>by have:=(h.codes.lt g hg).1;simp only [List.mem_singleton];omega)) hk.size,?_,h.book.dC,h.book.dH,fun g hg=>h.bc g (by simp only [blksB,List.mem_cons];exact .inr hg),h.cp⟩
 have hp:=h.posts
 exact ⟨owns_older (ownsv_turn hp.row ht (fun g hg=>by have:=(hp.row.lt g hg).1;simp only [List.mem_singleton];omega)) hk.size,(hp.inner.turn ht (fun b hb=>by have:=hp.inner.new b hb;simp only [List.mem_singleton];omega)).old hk,hp.apart,ht.keeps (hk.trans h.keep) (fun q hq=>by rw [List.mem_singleton.1 hq];exact h2)⟩
theorem fp_lb {a:Option Addr} {xs:List Value} {g:Nat} (h:g∈fp [(a,xs)]):g∈lb a:=by
 rw [fp_one] at h
 unfold fpS at h
 split at h
 ·simp at h
 ·cases a with
  | none=>simp at h
  | some p=>simp at h;simp [lb,h]
theorem AlSt.start {w0 w:World} {p:Nat} {B:Bo} (h:BoAt ⟨[],w0⟩ w p B) (hk:Keeps w0 w):AlSt w0 w p B (.slice none 0 0) [] (.slice none 0 0) []:=by
 refine ⟨h,World.ownsRow_nil _ _ _ _,LG.nil _ _ _ _ (World.ownsRow_nil _ _ _ _) hk,fun g hg=>⟨?_,?_,?_⟩,fun g hg=>?_⟩
 ·intro hx;cases (show none=some g from hx)
 ·intro hx;cases (show none=some g from hx)
 ·simp [fp]
 ·cases (show none=some g from hg)
set_option maxHeartbeats 16000000 in
theorem applyall_impl (tk nx wa:Int) (ca:Option Addr) (cc:Nat) (C:List Chn) (ha:Option Addr) (hc:Nat) (Hs:List Htl) (ra:Option Addr) (rc:Nat) (R:List Crc) (ea:Option Addr) (ec:Nat) (es:List Et) (w:World) (hm:Mem w (Bo.segs ⟨tk,nx,wa,ca,cc,C,ha,hc,Hs,ra,rc,R⟩)) (hf:Bo.fit ⟨tk,nx,wa,ca,cc,C,ha,hc,Hs,ra,rc,R⟩) (hl:Bo.len ⟨tk,nx,wa,ca,cc,C,ha,hc,Hs,ra,rc,R⟩) (he:Cells w ea (ets es)) (hel:es.length≤1048576) (hFu:∀ x y z w',Keeps w w'→Calls Tryz.prog 170 #[.int .i64 x,.int .i64 y,.int .i64 z] w' fun e w''=>e=.returned (.tuple #[.int .i64 (feeV x y z true),.bool (feeB x y z true)])∧Keeps w' w'') (hAd:∀ x y w',Keeps w w'→Calls Tryz.prog 151 #[.int .i64 x,.int .i64 y] w' fun e w''=>e=.returned (.tuple #[.int .i64 (addV x y),.bool (addB x y)])∧Keeps w' w'') :
 Calls Tryz.prog 19 #[Bo.v ⟨tk,nx,wa,ca,cc,C,ha,hc,Hs,ra,rc,R⟩,.slice ea es.length ec] w fun e w'=>∃ B' vp ps vc cs,e=.returned (.tuple #[Bo.v B',vp,vc])∧B'.d=(all3 ⟨tk,nx,wa,C,Hs,R⟩ es).B∧ps.map Pg.key=(all3 ⟨tk,nx,wa,C,Hs,R⟩ es).P∧cs=(all3 ⟨tk,nx,wa,C,Hs,R⟩ es).C∧AllR w w' B' vc cs vp ps:=by
 have HOK:=hide (fun w' (hk:Keeps w w')=>bookok_impl ⟨tk,nx,wa,ca,cc,C,ha,hc,Hs,ra,rc,R⟩ w' (hm.kept hk) hl)
 have HCP:=hide (fun w' (hk:Keeps w w')=>copy_impl ⟨tk,nx,wa,ca,cc,C,ha,hc,Hs,ra,rc,R⟩ w' (hm.kept hk) hf hl)
 have HEV:=hide (fun w' (hk:Keeps w w')=>he.kept hk)
 have HFu:=hide hFu
 have HAd:=hide hAd
 clear hm hf hl hFu hAd he
 have HK:=hide (((Keeps.refl w).alloc (.cells #[.int .i64 tk,.int .i64 nx,.int .i64 wa,.slice ca C.length cc,.slice ha Hs.length hc,.slice ra R.length rc] 34)).alloc (.cells #[.int .i64 0,.int .i64 0,.int .i64 0,.slice none 0 0,.slice none 0 0,.slice none 0 0] 34))
 have HRK:=hide ((Keeps.refl _).alloc (.cells #[.int .i64 0,.int .i64 0,.int .i64 0,.slice none 0 0,.slice none 0 0,.slice none 0 0] 34) |>.rowK (row6_alloc w (.int .i64 tk) (.int .i64 nx) (.int .i64 wa) (.slice ca C.length cc) (.slice ha Hs.length hc) (.slice ra R.length rc) 34))
 have HRB:=hide (row6_alloc (w.alloc (.cells #[.int .i64 tk,.int .i64 nx,.int .i64 wa,.slice ca C.length cc,.slice ha Hs.length hc,.slice ra R.length rc] 34)) (.int .i64 0) (.int .i64 0) (.int .i64 0) (.slice none 0 0) (.slice none 0 0) (.slice none 0 0) 34)
 simp only [size_alloc1] at HRB
 have HLE:Hid (w.heap.size≤w.heap.size+1):=by show _≤_;omega
 dsimp only [Bo.v,Bo.d] at *
 go_enter Tryz.func19,Tryz.ntmps19
 go_upto_region 1 with fail
 try simp only [size_alloc1]
 generalize (w.alloc (.cells #[.int .i64 tk,.int .i64 nx,.int .i64 wa,.slice ca C.length cc,.slice ha Hs.length hc,.slice ra R.length rc] 34)).alloc (.cells #[.int .i64 0,.int .i64 0,.int .i64 0,.slice none 0 0,.slice none 0 0,.slice none 0 0] 34)=w0 at *
 generalize w.heap.size+1=rb at *
 obtain ⟨pb,hpb⟩:∃ pb,pb=w.heap.size:=⟨_,rfl⟩
 rw [← hpb] at HRK
 try rw [← hpb]
 clear hpb
 obtain ⟨b0,b1,b2,b3,b4,b5⟩:=row6_cells HRK.out
 go_wp2_with fail
 refine (unhide HOK _ HK.out).mono ?_
 rintro e w1 ⟨rfl,hk⟩
 clear b0 b1 b2 b3 b4 b5 HOK
 replace HK:=hide (HK.out.trans hk)
 replace HRK:=hide (hk.rowK HRK.out)
 replace HRB:=hide (hk.rowK HRB.out)
 clear hk
 cases hb:bookB ⟨tk,nx,wa,C,Hs,R⟩ with
 | false =>
   have HC:Hid (all3 ⟨tk,nx,wa,C,Hs,R⟩ es=⟨⟨0,0,0,[],[],[]⟩,[],[]⟩):=by show _=_;unfold all3;rw [if_pos hb]
   clear hb HCP HFu HAd
   obtain ⟨r0,r1,r2,r3,r4,r5⟩:=row6_cells HRB.out
   have f0:=HRB.out.frozen 0
   have f1:=HRB.out.frozen 1
   have f2:=HRB.out.frozen 2
   have f3:=HRB.out.frozen 3
   have f4:=HRB.out.frozen 4
   have f5:=HRB.out.frozen 5
   go_wp2_with fail
   have HA1:=hide (row6_all HRB.out (.int .i64 0) (.int .i64 0) (.int .i64 0) (.slice none 0 0) (.slice none 0 0) (.slice none 0 0))
   have HKF:=hide ((row6_turn w1 rb (.int .i64 0) (.int .i64 0) (.int .i64 0) (.slice none 0 0) (.slice none 0 0) (.slice none 0 0)).keeps HK.out (fun q hq=>by rw [List.mem_singleton.1 hq];exact HLE.out))
   clear r0 r1 r2 r3 r4 r5 f0 f1 f2 f3 f4 f5
   obtain ⟨p0,p1,p2,p3,p4,p5⟩:=row6_cells HA1.out
   clear HA1
   generalize ((((((w1.setCell ⟨rb,0,none⟩ (.int .i64 0)).setCell ⟨rb,1,none⟩ (.int .i64 0)).setCell ⟨rb,2,none⟩ (.int .i64 0)).setCell ⟨rb,3,none⟩ (.slice none 0 0)).setCell ⟨rb,4,none⟩ (.slice none 0 0)).setCell ⟨rb,5,none⟩ (.slice none 0 0))=wf at *
   refine bodyPost_ret (v:=.tuple #[.agg #[.int .i64 0,.int .i64 0,.int .i64 0,.slice none 0 0,.slice none 0 0,.slice none 0 0],.slice none 0 0,.slice none 0 0]) ?_ rfl ?_
   ·simp [results,Tryz.results19,go_sem,p0,p1,p2,p3,p4,p5]
   ·exact ⟨⟨0,0,0,none,0,[],none,0,[],none,0,[]⟩,.slice none 0 0,[],.slice none 0 0,[],rfl,by (rw [HC.out];try rfl),by (rw [HC.out];try rfl),by rw [HC.out],allr_none HKF.out⟩
 | true =>
   have HC:Hid (all3 ⟨tk,nx,wa,C,Hs,R⟩ es=run3 ⟨tk,nx,wa,C,Hs,R⟩ es):=by show _=_;unfold all3;rw [hb,if_neg (by decide)]
   have HBB:=hide (fun k (hk:k≤es.length)=>run3_book hb es k hk)
   have HST:=hide (fun k (hk:k < es.length)=>run3_take ⟨tk,nx,wa,C,Hs,R⟩ es k hk)
   have HLN:=hide (fun k (hk:k≤es.length)=>run3_len ⟨tk,nx,wa,C,Hs,R⟩ es k hk)
   have HR0:Hid (run3 ⟨tk,nx,wa,C,Hs,R⟩ (es.take 0)=⟨⟨tk,nx,wa,C,Hs,R⟩,[],[]⟩):=rfl
   have HRE:Hid (run3 ⟨tk,nx,wa,C,Hs,R⟩ (es.take es.length)=run3 ⟨tk,nx,wa,C,Hs,R⟩ es):=by show _=_;rw [List.take_length]
   clear hb
   obtain ⟨b0,b1,b2,b3,b4,b5⟩:=row6_cells HRK.out
   go_wp2_with fail
   refine (unhide HCP _ HK.out).mono ?_
   rintro e w2 ⟨B1,rfl,hd1,hc1⟩
   clear b0 b1 b2 b3 b4 b5 HCP HRK
   obtain ⟨tk1,nx1,wa1,ca1,cc1,C1,ha1,hcc1,Hs1,ra1,rc1,R1⟩:=B1
   have hd2:=hd1.symm
   simp only [Bo.d,Bk.mk.injEq] at hd2
   obtain ⟨rfl,rfl,rfl,rfl,rfl,rfl⟩:=hd2
   clear hd1
   have HB3:Hid (BoAt ⟨[],w1⟩ (w2.alloc (.cells #[.int .i64 tk,.int .i64 nx,.int .i64 wa,.slice ca1 C.length cc1,.slice ha1 Hs.length hcc1,.slice ra1 R.length rc1] 34)) w2.heap.size ⟨tk,nx,wa,ca1,cc1,C,ha1,hcc1,Hs,ra1,rc1,R⟩):=by
    have lC:=owns_lb hc1.oC
    have lH:=owns_lb hc1.oH
    have lR:=owns_lb hc1.oR
    exact ⟨Turn.of_keeps (Keeps.alloc hc1.keep _) [],.inr hc1.keep.size,row6_alloc w2 (.int .i64 tk) (.int .i64 nx) (.int .i64 wa) (.slice ca1 C.length cc1) (.slice ha1 Hs.length hcc1) (.slice ra1 R.length rc1) 34,(owns_older hc1.oC (Nat.zero_le _)).alloc _,(owns_older hc1.oH (Nat.zero_le _)).alloc _,(owns_older hc1.oR (Nat.zero_le _)).alloc _,fun g hg=>.inr (lC g hg).1,fun g hg=>.inr (lH g hg).1,fun g hg=>.inr (lR g hg).1,⟨fun hx=>by have:=(lC _ hx).2;omega,fun hx=>by have:=(lH _ hx).2;omega,fun hx=>by have:=(lR _ hx).2;omega⟩,hc1.dC,hc1.dH⟩
   have HKc:=hide (Keeps.alloc hc1.keep (.cells #[.int .i64 tk,.int .i64 nx,.int .i64 wa,.slice ca1 C.length cc1,.slice ha1 Hs.length hcc1,.slice ra1 R.length rc1] 34))
   clear hc1
   dsimp only [Bo.v]
   go_upto_region 4 with fail
   generalize w2.alloc (.cells #[.int .i64 tk,.int .i64 nx,.int .i64 wa,.slice ca1 C.length cc1,.slice ha1 Hs.length hcc1,.slice ra1 R.length rc1] 34)=w3 at *
   generalize w2.heap.size=pw at *
   generalize hr3:run3 ⟨tk,nx,wa,C,Hs,R⟩=R3 at *
   have HS0:Hid (AlSt w1 w3 pw ⟨tk,nx,wa,ca1,cc1,C,ha1,hcc1,Hs,ra1,rc1,R⟩ (.slice none 0 0) [] (.slice none 0 0) []):=AlSt.start HB3.out HKc.out
   have HLT:=hide HRB.out.lt
   clear HB3 HKc hr3
   go_wp2_with fail
   go_loopw [8,9,22] (fun vp vc y wr=>∃ (k:Nat) (B:Bo) (ps:List Pg),k≤es.length∧y=.int .i64 (k:Int)∧Hid (B.d=(R3 (es.take k)).B)∧Hid (ps.map Pg.key=(R3 (es.take k)).P)∧Hid (AlSt w1 wr pw B vc (R3 (es.take k)).C vp ps)) (fun _ _ y _=>es.length-(intOf y).toNat)
   case atStart=>exact ⟨0,⟨tk,nx,wa,ca1,cc1,C,ha1,hcc1,Hs,ra1,rc1,R⟩,[],by omega,rfl,by rw [HR0.out];exact hide rfl,by rw [HR0.out];exact hide rfl,by rw [HR0.out];exact HS0⟩
   case round =>
    clear HS0
    obtain ⟨k,B,ps,hk,rfl,HD,HP,HS⟩:=hrel
    have HBk:=hide (HBB.out k hk)
    have HLk:=hide (HLN.out k hk)
    obtain ⟨tk2,nx2,wa2,ca2,cc2,C2,ha2,hcc2,H2,ra2,rc2,R2⟩:=B
    by_cases hlt:k < es.length
    ·have HSK:=hide (HST.out k hlt)
     obtain ⟨⟨SB,SP,SC⟩,hs3⟩:∃ S,S=R3 (es.take k):=⟨_,rfl⟩
     rw [← hs3] at HD HP HS HBk HLk HSK
     clear hs3
     have hd:=HD.out
     dsimp only [Bo.d] at hd HP HS HBk HLk
     subst hd
     obtain ⟨b,off,eb,c0,c1,c2,c3,c4,c5,c6⟩:=ets_at (unhide HEV _ (HK.out.trans HS.out.keep)) k hlt
     have HEA:=hide eb
     clear eb
     obtain rfl:=HEA.out
     generalize es[k]=x at *
     obtain ⟨xk,xy,xc,xt,xm,xf,xb⟩:=x
     dsimp only at c0 c1 c2 c3 c4 c5 c6
     have HSA:=hide (HS.out.kept (Keeps.alloc (Keeps.refl wr) (.cells #[.int .i64 xk,.int .i64 xy,.int .i64 xc,.int .i64 xt,.int .i64 xm,.int .i64 xf,.bool xb] 41)))
     have HRE7:=hide (rw7_new wr (.int .i64 xk) (.int .i64 xy) (.int .i64 xc) (.int .i64 xt) (.int .i64 xm) (.int .i64 xf) (.bool xb) 41)
     go_wp2_with fail
     go_upto_region 9 with fail
     generalize wr.alloc (.cells #[.int .i64 xk,.int .i64 xy,.int .i64 xc,.int .i64 xt,.int .i64 xm,.int .i64 xf,.bool xb] 41)=wa0 at *
     generalize wr.heap.size=pe at *
     have HPF:=hide (perform_all ⟨blksB pw ⟨tk2,nx2,wa2,ca2,cc2,C2,ha2,hcc2,H2,ra2,rc2,R2⟩,wa0⟩ wa0 pw tk2 nx2 wa2 ca2 cc2 C2 ha2 hcc2 H2 ra2 rc2 R2 HSA.out.book.self HBk.out xk xy xc xt xm xf xb (fun x y z w' hk=>HFu.out x y z w' ((HK.out.trans HSA.out.keep).trans hk)) (fun x y w' hk=>HAd.out x y w' ((HK.out.trans HSA.out.keep).trans hk)))
     obtain ⟨c,hc⟩:∃ c,c=applyC ⟨tk2,nx2,wa2,C2,H2,R2⟩ xk xy xc xt xm xf xb:=⟨_,rfl⟩
     obtain ⟨K,hK⟩:∃ K,K=evK ⟨tk2,nx2,wa2,C2,H2,R2⟩ xk xy xc xt xm xf xb:=⟨_,rfl⟩
     obtain ⟨L,hL⟩:∃ L,L=evL ⟨tk2,nx2,wa2,C2,H2,R2⟩ xk xy xc xt xm xf xb:=⟨_,rfl⟩
     rw [← hc,← hK,← hL] at HPF
     have HE:Hid (R3 (es.take (k+1))=⟨bookV ⟨tk2,nx2,wa2,C2,H2,R2⟩ c K L,SP++(if linV c L=[] then [] else [(pidV c K L,linV c L)]),SC++[c]⟩):=by
      show _=_
      rw [HSK.out]
      subst hc
      subst hK
      subst hL
      rfl
     clear hc hK hL HSK HBk HD HS
     obtain ⟨e0,e1,e2,e3,e4,e5,e6⟩:=rw7_cells HRE7.out
     go_wp2_with fail
     refine (unhide HPF).mono ?_
     rintro e w4 ⟨B3,v,rfl,hB3,hd3,ho3,hap3,ht3⟩
     obtain ⟨a,cap,rfl,_,_,hn3,hown3,hb3⟩:=Own.of_owns ho3
     have HD3:=hide hd3
     have HN3:=hide hn3
     have HS4:=hide (HSA.out.turn hB3 ht3)
     have HZ4:=hide hB3.keep.size
     have HZ0:=hide HSA.out.keep.size
     have hvc:∀ g,g∈u9.ownBlock.toList→g < wa0.heap.size:=fun g hg=>(HSA.out.codes.lt g (by simpa using hg)).2
     have hvp:∀ g,g∈u8.ownBlock.toList→g < wa0.heap.size:=fun g hg=>(HSA.out.posts.row.lt g (by simpa using hg)).2
     have HVC:=hide hvc
     have HVP:=hide hvp
     have HIN:Hid (∀ g∈fp (ps.map Pg.seg),g < wa0.heap.size):=fun g hg=>HSA.out.posts.inner.mem.lt g hg
     have HOW:=hide hown3
     have HOB:=hide hb3
     have HAP:Hid (∀ g∈fp [(a,flat (linV c L))],g∉blksB pw B3):=fun g hg hx=>by
      have hga:g∈lb a:=fp_lb hg
      have hap:=hap3 g (by
       cases a with
       | none=>simp [lb] at hga
       | some q=>simp [lb] at hga;subst hga;rfl)
      simp only [blksB,List.mem_cons,List.mem_append] at hx
      obtain ⟨h0,h1,h2,h3⟩:=hap
      rcases hx with hx | hx | hx | hx
      ·exact h0 hx
      ·exact h1 hx
      ·exact h2 hx
      ·exact h3 hx
     clear e0 e1 e2 e3 e4 e5 e6 HRE7 HPF hB3 hd3 ho3 hap3 ht3 hn3 hown3 hb3 hvc hvp c0 c1 c2 c3 c4 c5 c6 HSA
     have HRP:=hide (rw2_new w4 (.int .i64 (pidV c K L)) (.slice a (linV c L).length cap) 37)
     have HKP:=hide (Keeps.alloc (Keeps.refl w4) (.cells #[.int .i64 (pidV c K L),.slice a (linV c L).length cap] 37))
     have HS5:=hide (HS4.out.kept HKP.out)
     have HZ5:Hid (w4.heap.size < (w4.alloc (.cells #[.int .i64 (pidV c K L),.slice a (linV c L).length cap] 37)).heap.size):=by show _ < _;rw [World.size_alloc];omega
     go_upto_region 10 with fail
     generalize w4.alloc (.cells #[.int .i64 (pidV c K L),.slice a (linV c L).length cap] 37)=w5 at *
     have hlc:SC.length≤1048576:=by have:=HLk.out.1;omega
     obtain ⟨v6,w6,hr6,ho6,hg6,hv6⟩:=run_code w5 w1.heap.size u9 SC.length (its SC) c 51 HS5.out.codes hlc HS5.out.keep.size
     have HR6:=hide hr6
     have HS6:=hide (HS5.out.code ho6 hg6 hv6)
     have ht6:Turn u9.ownBlock.toList (w5.alloc (.cells #[.int .i64 c] 3)) w6:=Turn.of_grown hg6 (fun k hk'=>by rw [hk'];simp)
     have HKC:=hide (Keeps.alloc (Keeps.refl w5) (.cells #[.int .i64 c] 3))
     have HRP6:=hide (row_turn (HKC.out.rowK HRP.out) ht6 (fun hx=>by have:=HVC.out _ hx;have:=HZ4.out;omega))
     have HOW6:=hide (((HOW.out.kept HKP.out).kept HKC.out).turn ht6 (fun g hg hx=>by have:=HVC.out _ hx;have:=HOB.out g hg;omega))
     have HV6:Hid (∀ g,v6.ownBlock=some g→g < wa0.heap.size∨w5.heap.size≤g):=fun g hg=>by
      rcases hv6 with h | h
      ·rw [h] at hg;exact .inl (HVC.out g (by simpa using hg))
      ·rw [h] at hg
       have h1:=Option.some.inj hg
       rw [World.size_alloc] at h1
       exact .inr (by omega)
     have HLT5:Hid (∀ g∈fp [(a,flat (linV c L))],g < w5.heap.size):=fun g hg=>(HOW.out.kept HKP.out).mem.lt g hg
     clear hr6 ho6 hg6 hv6 ht6 HS5 HS4 HRP HKC
     obtain ⟨p0,p1⟩:=rw2_cells HRP6.out
     by_cases hL:linV c L=[]
     ·have hl0:((linV c L).length:Int)=0:=by rw [hL];rfl
      have HP1:Hid (R3 (es.take (k+1))=⟨bookV ⟨tk2,nx2,wa2,C2,H2,R2⟩ c K L,SP,SC++[c]⟩):=by show _=_;rw [HE.out,if_pos hL,List.append_nil]
      clear hL HE
      go_wp2_with (at_builtin;refine Lib.wpList_append_run _ rfl (.tmp 31) (.tmp 33) _ _ rfl _ _ rfl rfl v6 w6 HR6.out ?_)
      go_roundw
      case rel=>exact ⟨k+1,B3,ps,by omega,by go_num,by rw [HP1.out];exact HD3,by rw [HP1.out];exact HP,by rw [HP1.out];exact HS6⟩
      case measure=>simp [intOf];omega
     ·have hl0:(0:Int) < ((linV c L).length:Int):=by
       have:(linV c L).length≠0:=fun e=>hL (List.length_eq_zero_iff.1 e)
       omega
      have HP1:Hid (R3 (es.take (k+1))=⟨bookV ⟨tk2,nx2,wa2,C2,H2,R2⟩ c K L,SP++[(pidV c K L,linV c L)],SC++[c]⟩):=by show _=_;rw [HE.out,if_neg hL]
      clear hL HE
      have hlp:ps.length≤1048576:=by
       have h1:=HLk.out.2
       have h2:=congrArg List.length HP.out
       rw [List.length_map] at h2
       omega
      obtain ⟨v7,w7,hr7,ho7,hg7,hv7⟩:=run_posting w6 w1.heap.size u8 ps.length (ps.flatMap Pg.cells) (.int .i64 (pidV c K L)) (.slice a (linV c L).length cap) rfl rfl 50 HS6.out.posts.row hlp HS6.out.keep.size
      have HR7:=hide hr7
      have HS7:=hide (HS6.out.post (x:=⟨pidV c K L,⟨a,cap,linV c L⟩⟩) HOW6.out (fun g hg=>⟨by have:=HOB.out g hg;have:=HZ0.out;omega,HAP.out g hg,fun hx=>by have h1:=HV6.out g hx;have:=HOB.out g hg;have:=HLT5.out g hg;omega,fun hx=>by have:=HVP.out g (by simpa using hx);have:=HOB.out g hg;omega,fun hx=>by have:=HIN.out g hx;have:=HOB.out g hg;omega⟩) hg7 ho7 hv7)
      clear hr7 ho7 hg7 hv7
      go_wp2_with (first
       | (at_builtin;refine Lib.wpList_append_run _ rfl (.tmp 31) (.tmp 33) _ _ rfl _ _ rfl rfl v6 w6 HR6.out ?_)
       | (at_builtin;refine Lib.wpList_append_run _ rfl (.tmp 39) (.tmp 41) _ _ rfl _ _ rfl rfl v7 w7 HR7.out ?_))
      go_roundw
      case rel=>exact ⟨k+1,B3,ps++[⟨pidV c K L,⟨a,cap,linV c L⟩⟩],by omega,by go_num,by rw [HP1.out];exact HD3,by rw [HP1.out];show _=_;rw [List.map_append,HP.out];rfl,by rw [HP1.out];exact HS7⟩
      case measure=>simp [intOf];omega
    ·have hke:k=es.length:=by omega
     subst hke
     rw [HRE.out] at HD HP HS
     clear HBk HLk HST HBB HLN HR0 HRE HFu HAd HEV
     have HPW:Hid (w1.heap.size≤pw):=(HS.out.blk pw (by simp [blksB])).1
     have HRW:Hid (wr.rowIs pw 34 6 (row6 (.int .i64 tk2) (.int .i64 nx2) (.int .i64 wa2) (.slice ca2 C2.length cc2) (.slice ha2 H2.length hcc2) (.slice ra2 R2.length rc2))):=HS.out.book.row
     replace HRB:=hide (HS.out.keep.rowK HRB.out)
     obtain ⟨b0,b1,b2,b3,b4,b5⟩:=row6_cells HRW.out
     obtain ⟨r0,r1,r2,r3,r4,r5⟩:=row6_cells HRB.out
     have f0:=HRB.out.frozen 0
     have f1:=HRB.out.frozen 1
     have f2:=HRB.out.frozen 2
     have f3:=HRB.out.frozen 3
     have f4:=HRB.out.frozen 4
     have f5:=HRB.out.frozen 5
     have hpr:pw≠rb:=by have:=HLT.out;have:=HPW.out;omega
     go_wp2_with fail
     have T1:=row6_turn wr rb (.int .i64 tk2) (.int .i64 nx2) (.int .i64 wa2) (.slice ca2 C2.length cc2) (.slice ha2 H2.length hcc2) (.slice ra2 R2.length rc2)
     have HA1:=hide (row6_all HRB.out (.int .i64 tk2) (.int .i64 nx2) (.int .i64 wa2) (.slice ca2 C2.length cc2) (.slice ha2 H2.length hcc2) (.slice ra2 R2.length rc2))
     have HAR:=hide (HS.out.fin HK.out T1 HLT.out HLE.out)
     clear T1 r0 r1 r2 r3 r4 r5 f0 f1 f2 f3 f4 f5 b0 b1 b2 b3 b4 b5 hpr
     generalize ((((((wr.setCell ⟨rb,0,none⟩ (.int .i64 tk2)).setCell ⟨rb,1,none⟩ (.int .i64 nx2)).setCell ⟨rb,2,none⟩ (.int .i64 wa2)).setCell ⟨rb,3,none⟩ (.slice ca2 C2.length cc2)).setCell ⟨rb,4,none⟩ (.slice ha2 H2.length hcc2)).setCell ⟨rb,5,none⟩ (.slice ra2 R2.length rc2))=wf at *
     obtain ⟨p0,p1,p2,p3,p4,p5⟩:=row6_cells HA1.out
     clear HA1
     refine bodyPost_ret (v:=.tuple #[.agg #[.int .i64 tk2,.int .i64 nx2,.int .i64 wa2,.slice ca2 C2.length cc2,.slice ha2 H2.length hcc2,.slice ra2 R2.length rc2],u8,u9]) ?_ rfl ?_
     ·simp [results,Tryz.results19,go_sem,p0,p1,p2,p3,p4,p5]
     ·exact ⟨⟨tk2,nx2,wa2,ca2,cc2,C2,ha2,hcc2,H2,ra2,rc2,R2⟩,u8,ps,u9,_,rfl,by rw [HC.out];exact HD.out,by rw [HC.out];exact HP.out,by rw [HC.out],HAR.out⟩
end Go.Proofs.YtccdhcempnkgaaaGreatDoor
namespace Go.Proofs.YtccdhcempnkgaaaGreatDoor
open Go.RowKit Go
set_option linter.unusedVariables false
section
variable {P:Program} {Q:Exit→Act→World→Prop}
def left (n:Nat) (listed:Array Bool):Nat:=(List.range n).countP fun i=>!listed.getD i true
end
end Go.Proofs.YtccdhcempnkgaaaGreatDoor
namespace Go.Proofs.YtccdhcempnkgaaaGreatDoor
open Go.RowKit Go.Deep
set_option linter.unusedVariables false
set_option linter.unusedSimpArgs false
set_option maxRecDepth 10000
structure Ad where
 B:Bk
 i:Int
 L:List Ln
 c:Int
theorem owns_seg {w:World} {base n c:Nat} {a:Option Addr} {e:TypeId} {sz:Nat} {xs:List Value} (h:w.ownsRow base e sz (.slice a n c) n xs):Own w [(a,xs)]∧(∀ b∈fp [(a,xs)],base≤b)∧(∀ b∈fp [(a,xs)],b∈lb a)∧(a=none→c=0)∧n≤c:=by
 obtain ⟨a',cap',e1,h1,_,h3,h4,h5⟩:=Own.of_owns h
 injection e1 with e2 _ e4
 subst e2 e4
 refine ⟨h4,h5,fun b hb=>?_,h3,h1⟩
 rw [fp_one] at hb
 unfold fpS at hb
 split at hb
 ·cases hb
 ·cases a with
  | none=>cases hb
  | some p=>simpa [lb] using hb
theorem ApplyR.born {w w':World} {B:Bo} {a:Option Addr} {cap:Nat} {L:List Ln} (h:ApplyR w w' B a cap L):Born w w' (B.segs++[(a,flat L)])∧B.fit:=by
 obtain ⟨c1,c2,c3,c4,c5⟩:=owns_seg h.oC
 obtain ⟨h1,h2,h3,h4,h5⟩:=owns_seg h.oH
 obtain ⟨r1,r2,r3,r4,r5⟩:=owns_seg h.oR
 obtain ⟨l1,l2,l3,-,-⟩:=owns_seg h.oL
 refine ⟨⟨?_,?_⟩,c4,h4,r4,c5,h5,r5⟩
 ·have e:B.segs++[(a,flat L)]=[(B.ca,chs B.C)]++([(B.ha,hts B.Hs)]++([(B.ra,crs B.R)]++[(a,flat L)])):=rfl
  rw [e]
  refine c1.append (h1.append (r1.append l1 ?_) ?_) ?_
  ·intro b hb hb'
   exact (h.dL b (l3 b hb')).2.2 (r3 b hb)
  ·intro b hb hb'
   rw [fp_append] at hb'
   rcases List.mem_append.1 hb' with hb' | hb'
   ·exact h.dH b (h3 b hb) (r3 b hb')
   ·exact (h.dL b (l3 b hb')).2.1 (h3 b hb)
  ·intro b hb hb'
   rw [fp_append] at hb'
   rcases List.mem_append.1 hb' with hb' | hb'
   ·exact (h.dC b (c3 b hb)).1 (h3 b hb')
   ·rw [fp_append] at hb'
    rcases List.mem_append.1 hb' with hb' | hb'
    ·exact (h.dC b (c3 b hb)).2 (r3 b hb')
    ·exact (h.dL b (l3 b hb')).1 (c3 b hb)
 ·intro b hb
  have e:B.segs++[(a,flat L)]=[(B.ca,chs B.C)]++([(B.ha,hts B.Hs)]++([(B.ra,crs B.R)]++[(a,flat L)])):=rfl
  rw [e,fp_append,fp_append,fp_append] at hb
  rcases List.mem_append.1 hb with hb | hb
  ·exact c2 b hb
  ·rcases List.mem_append.1 hb with hb | hb
   ·exact h2 b hb
   ·rcases List.mem_append.1 hb with hb | hb
    ·exact r2 b hb
    ·exact l2 b hb
theorem apsym {S T:List Seg} (h:∀ b∈fp S,b∉fp T):∀ b∈fp T,b∉fp S:=fun b h1 h2=>h b h2 h1
section
variable {w0 w w':World} {bd:Bk} {ad:Ad} {dB dA:Bool} {uB uA:Value} {dP dQ sP sQ:Bool} {uP uQ:Value}
end
end Go.Proofs.YtccdhcempnkgaaaGreatDoor
