/- What an event that goes makes of a right book is a right book. -/
import Derived.Test.YtccdhcempnkgaaaGreatDoorPL35
import Derived.Test.YtccdhcempnkgaaaGreatDoorPL2
namespace Go.Proofs.YtccdhcempnkgaaaGreatDoor
open Go.RowKit Go.Deep
set_option linter.unusedVariables false
set_option linter.unusedSimpArgs false
set_option maxRecDepth 10000
structure Fine (B:Bk):Prop where
 tk:0≤B.tk∧B.tk≤1125899906842624
 wa:0≤B.wa∧B.wa≤1125899906842624
 nx:1≤B.nx∧B.nx≤1125899906842624
 lC:B.C.length≤20
 lH:B.Hs.length≤60
 lR:B.R.length≤20
 pw:B.C.Pairwise (fun x y=>x.id < y.id)
 cI:∀ c∈B.C,1≤c.id∧c.id≤99
 cF:∀ c∈B.C,fieldsB c=true
 cS:∀ c∈B.C,(0≤c.sz∧c.sz≤1125899906842624)∧c.sz=c.lo+c.re+outV B c.id+inV B c.id
 hA:∀ x∈B.Hs,htB B.C x=true
 rA:∀ x∈B.R,crB B.C x=true
 kA:∀ k∈keysL B,keyB k=true
 kN:(keysL B).Nodup
theorem posB_of {n:Int} (h0:1≤n) (h1:n≤1125899906842624):posB n=true:=by
 simp only [posB,Bool.and_eq_true,decide_eq_true_eq]
 exact ⟨amtB_yes (by omega) h1,by omega⟩
theorem ids_of {C:List Chn} (h:C.Pairwise (fun x y=>x.id < y.id)) (hI:∀ c∈C,1≤c.id∧c.id≤99):idsB C=true:=by
 unfold idsB
 rw [List.all_eq_true]
 intro k hk
 have hk':=List.mem_range.1 hk
 have h1:=hI C[k] (List.getElem_mem hk')
 rw [List.pairwise_iff_getElem] at h
 unfold idAt
 rw [List.getElem?_eq_getElem hk']
 simp only [chB,Bool.and_eq_true,decide_eq_true_eq,Bool.or_eq_true]
 refine ⟨h1,?_⟩
 by_cases h0:k=0
 ·exact .inl h0
 ·right
  have h2:k-1 < C.length:=by omega
  rw [List.getElem?_eq_getElem h2]
  have:=h (k-1) k h2 hk' (by omega)
  simpa using this
theorem ids_in {C:List Chn} (h:idsB C=true):∀ c∈C,1≤c.id∧c.id≤99:=by
 intro c hc
 obtain ⟨k,hk,rfl⟩:=List.getElem_of_mem hc
 unfold idsB at h
 rw [List.all_eq_true] at h
 have:=h k (List.mem_range.2 hk)
 unfold idAt at this
 rw [List.getElem?_eq_getElem hk] at this
 simp only [chB,Bool.and_eq_true,decide_eq_true_eq] at this
 exact this.1
theorem fine_of {B:Bk} (h:bookB B=true):Fine B:=by
 have hr:=right_of h
 simp only [bookB,Bool.and_eq_true] at h
 obtain ⟨⟨⟨hh,hu⟩,hi⟩,hc⟩:=h
 simp only [underB,Bool.and_eq_true,List.all_eq_true] at hu
 obtain ⟨⟨u1,u2⟩,u3⟩:=hu
 simp only [keysB,Bool.and_eq_true,List.all_eq_true] at u3
 rw [List.all_eq_true] at hc
 refine ⟨hr.tk,hr.wa,hr.nx,hr.lC,hr.lH,hr.lR,hr.ids,ids_in hi,fun c hx=>?_,fun c hx=>?_,u1,u2,u3.1,of_decide_eq_true u3.2⟩
 ·have:=hc c hx
  simp only [chanB,Bool.and_eq_true] at this
  exact this.1
 ·have:=hc c hx
  simp only [chanB,sizeB,Bool.and_eq_true,decide_eq_true_eq] at this
  exact ⟨amtB_true this.2.1,this.2.2⟩
theorem Fine.book {B:Bk} (h:Fine B):bookB B=true:=by
 simp only [bookB,Bool.and_eq_true]
 refine ⟨⟨⟨?_,?_⟩,ids_of h.pw h.cI⟩,?_⟩
 ·simp only [headB,Bool.and_eq_true,decide_eq_true_eq]
  exact ⟨⟨⟨⟨⟨amtB_yes h.tk.1 h.tk.2,amtB_yes h.wa.1 h.wa.2⟩,posB_of h.nx.1 h.nx.2⟩,h.lC⟩,h.lH⟩,h.lR⟩
 ·simp only [underB,Bool.and_eq_true,List.all_eq_true]
  refine ⟨⟨h.hA,h.rA⟩,?_⟩
  simp only [keysB,Bool.and_eq_true,List.all_eq_true]
  exact ⟨h.kA,decide_eq_true h.kN⟩
 ·rw [List.all_eq_true]
  intro c hc
  simp only [chanB,sizeB,Bool.and_eq_true,decide_eq_true_eq]
  exact ⟨h.cF c hc,amtB_yes (h.cS c hc).1.1 (h.cS c hc).1.2,(h.cS c hc).2⟩
theorem hasC_map {f:Chn→Chn} (hf:∀ c,(f c).id=c.id) (C:List Chn) (ch:Int):hasC (C.map f) ch=hasC C ch:=by
 unfold hasC
 rw [List.any_map]
 congr 1
 funext c
 simp [hf]
theorem sum_pos {α:Type} (f:α→Int):∀ (L:List α),(∀ x∈L,0≤f x)→0≤(L.map f).sum
 | [],_=>by simp
 | x :: L,h=>by
   have h1:=sum_pos f L (fun y hy=>h y (List.mem_cons_of_mem _ hy))
   have hx:=h x (List.mem_cons_self ..)
   simp only [List.map_cons,List.sum_cons]
   omega
theorem htB_true {C:List Chn} {x:Htl} (h:htB C x=true):(1≤x.ao∧x.ao≤1125899906842624)∧(0≤x.ai∧x.ai≤1125899906842624)∧x.ao≤x.ai∧(0≤x.ag∧x.ag≤1125899906842624)∧x.inn≠x.out∧hasC C x.inn=true∧hasC C x.out=true:=by
 simp only [htB,twoB,Bool.and_eq_true,decide_eq_true_eq] at h
 obtain ⟨⟨⟨⟨a,b⟩,c⟩,d⟩,⟨e,f⟩,g⟩:=h
 exact ⟨posB_true a,amtB_true b,c,amtB_true d,e,f,g⟩
theorem htB_of {C:List Chn} {x:Htl} (h:(1≤x.ao∧x.ao≤1125899906842624)∧(0≤x.ai∧x.ai≤1125899906842624)∧x.ao≤x.ai∧(0≤x.ag∧x.ag≤1125899906842624)∧x.inn≠x.out∧hasC C x.inn=true∧hasC C x.out=true):htB C x=true:=by
 obtain ⟨a,b,c,d,e,f,g⟩:=h
 simp only [htB,twoB,Bool.and_eq_true,decide_eq_true_eq]
 exact ⟨⟨⟨⟨posB_of a.1 a.2,amtB_yes b.1 b.2⟩,c⟩,amtB_yes d.1 d.2⟩,⟨e,f⟩,g⟩
theorem crB_true {C:List Chn} {x:Crc} (h:crB C x=true):(1≤x.am∧x.am≤1125899906842624)∧(0≤x.fe∧x.fe≤1125899906842624)∧x.fr≠x.to∧hasC C x.fr=true∧hasC C x.to=true:=by
 simp only [crB,twoB,Bool.and_eq_true,decide_eq_true_eq] at h
 obtain ⟨⟨a,b⟩,⟨e,f⟩,g⟩:=h
 exact ⟨posB_true a,amtB_true b,e,f,g⟩
theorem crB_of {C:List Chn} {x:Crc} (h:(1≤x.am∧x.am≤1125899906842624)∧(0≤x.fe∧x.fe≤1125899906842624)∧x.fr≠x.to∧hasC C x.fr=true∧hasC C x.to=true):crB C x=true:=by
 obtain ⟨a,b,e,f,g⟩:=h
 simp only [crB,twoB,Bool.and_eq_true,decide_eq_true_eq]
 exact ⟨⟨posB_of a.1 a.2,amtB_yes b.1 b.2⟩,⟨e,f⟩,g⟩
theorem way_pos {C:List Chn} {Hs:List Htl} {R:List Crc} (hH:∀ x∈Hs,htB C x=true) (hR:∀ x∈R,crB C x=true) (ch:Int):0≤outH Hs ch∧0≤outR R ch∧0≤inH Hs ch∧0≤inR R ch :=
 ⟨sum_pos _ _ (fun x hx=>by have:=htB_true (hH x hx);split <;> omega),sum_pos _ _ (fun x hx=>by have:=crB_true (hR x hx);split <;> omega),sum_pos _ _ (fun x hx=>by have:=htB_true (hH x hx);split <;> omega),sum_pos _ _ (fun x hx=>by have:=crB_true (hR x hx);split <;> omega)⟩
theorem fields_true {c:Chn} (h:fieldsB c=true):(0≤c.lo∧c.lo≤1125899906842624)∧(0≤c.re∧c.re≤1125899906842624)∧(0≤c.ba∧c.ba≤1125899906842624)∧(0≤c.pp∧c.pp≤1000000)∧okS c.sc=true:=by
 simp only [fieldsB,ppmB,Bool.and_eq_true,decide_eq_true_eq] at h
 exact ⟨amtB_true h.1.1.1.1,amtB_true h.1.1.1.2,amtB_true h.1.1.2,h.1.2,h.2⟩
theorem fields_of {c:Chn} (h:(0≤c.lo∧c.lo≤1125899906842624)∧(0≤c.re∧c.re≤1125899906842624)∧(0≤c.ba∧c.ba≤1125899906842624)∧(0≤c.pp∧c.pp≤1000000)∧okS c.sc=true):fieldsB c=true:=by
 obtain ⟨a,b,d,e,f⟩:=h
 simp only [fieldsB,ppmB,Bool.and_eq_true,decide_eq_true_eq]
 exact ⟨⟨⟨⟨amtB_yes a.1 a.2,amtB_yes b.1 b.2⟩,amtB_yes d.1 d.2⟩,e⟩,f⟩
theorem Fine.step {B:Bk} (h:Fine B) {tk nx wa:Int} {f:Chn→Chn} {Hs:List Htl} {R:List Crc} (htk:0≤tk∧tk≤1125899906842624) (hnx:1≤nx∧nx≤1125899906842624) (hwa:0≤wa∧wa≤1125899906842624) (hid:∀ c,(f c).id=c.id)
 (lH:Hs.length≤60) (lR:R.length≤20) (hH:∀ x∈Hs,htB B.C x=true) (hR:∀ x∈R,crB B.C x=true) (kA:∀ k∈Hs.map Htl.ky++R.map Crc.ky,keyB k=true) (kN:(Hs.map Htl.ky++R.map Crc.ky).Nodup)
 (hF:∀ c∈B.C,0≤(f c).lo∧0≤(f c).re∧(0≤(f c).ba∧(f c).ba≤1125899906842624)∧(0≤(f c).pp∧(f c).pp≤1000000)∧okS (f c).sc=true)
 (hS:∀ c∈B.C,(f c).sz=c.sz∧(f c).lo+(f c).re+(outH Hs c.id+outR R c.id)+(inH Hs c.id+inR R c.id)=c.lo+c.re+(outH B.Hs c.id+outR B.R c.id)+(inH B.Hs c.id+inR B.R c.id)):Fine ⟨tk,nx,wa,B.C.map f,Hs,R⟩:=by
 have hh:∀ ch,hasC (B.C.map f) ch=hasC B.C ch:=hasC_map hid B.C
 refine ⟨htk,hwa,hnx,by simpa using h.lC,lH,lR,?_,?_,?_,?_,?_,?_,kA,kN⟩
 ·rw [List.pairwise_map];exact h.pw.imp (fun {a b} hab=>by rw [hid,hid];exact hab)
 ·intro c hc
  obtain ⟨d,hd,rfl⟩:=List.mem_map.1 hc
  rw [hid];exact h.cI d hd
 ·intro c hc
  obtain ⟨d,hd,rfl⟩:=List.mem_map.1 hc
  have h1:=hF d hd
  have h2:=hS d hd
  have h3:=h.cS d hd
  have h4:=way_pos hH hR d.id
  simp only [outV,inV] at h3
  exact fields_of ⟨⟨h1.1,by omega⟩,⟨h1.2.1,by omega⟩,h1.2.2⟩
 ·intro c hc
  obtain ⟨d,hd,rfl⟩:=List.mem_map.1 hc
  have h2:=hS d hd
  have h3:=h.cS d hd
  simp only [outV,inV] at h3 ⊢
  rw [hid]
  omega
 ·intro x hx
  have:=hH x hx
  rw [← this]
  simp only [htB,twoB,hh]
 ·intro x hx
  have:=hR x hx
  rw [← this]
  simp only [crB,twoB,hh]
theorem asc_eq {C:List Chn} (h:C.Pairwise (fun x y=>x.id < y.id)) {c d:Chn} (hc:c∈C) (hd:d∈C) (he:c.id=d.id):c=d:=by
 obtain ⟨i,hi,rfl⟩:=List.getElem_of_mem hc
 obtain ⟨j,hj,rfl⟩:=List.getElem_of_mem hd
 rw [List.pairwise_iff_getElem] at h
 rcases Nat.lt_trichotomy i j with q | q | q
 ·have:=h i j hi hj q;omega
 ·subst q;rfl
 ·have:=h j i hj hi q;omega
theorem turn_map {C:List Chn} (h:C.Pairwise (fun x y=>x.id < y.id)) (ch:Int) (g:Chn→Chn):(match atC C ch with | some i=>C.modify i g | none=>C)=C.map (fun c=>if c.id=ch then g c else c):=by
 cases ha:atC C ch with
 | none =>
   have hn:hasC C ch=false:=by rw [hasC_at,ha];rfl
   have:∀ c∈C,(if c.id=ch then g c else c)=c:=fun c hc=>by
    rw [if_neg]
    intro he
    have:=hasC_iff.2 ⟨c,hc,he⟩
    rw [hn] at this
    cases this
   exact ((List.map_congr_left this).trans (List.map_id' C)).symm
 | some i =>
   obtain ⟨hi,he⟩:=atC_lt ha
   show C.modify i g=_
   apply List.ext_getElem (by simp)
   intro j h1 h2
   rw [List.getElem_modify,List.getElem_map]
   have hj:j < C.length:=by simpa using h1
   by_cases q:i=j
   ·subst q;rw [if_pos rfl,if_pos he]
   ·rw [if_neg q,if_neg]
    intro e2
    have:=asc_eq h (List.getElem_mem hi) (List.getElem_mem hj) (by rw [he,e2])
    rw [List.pairwise_iff_getElem] at h
    rcases Nat.lt_trichotomy i j with q' | q' | q'
    ·have:=h i j hi hj q';omega
    ·exact q q'
    ·have:=h j i hj hi q';omega
def mvF (ch lo re:Int) (c:Chn):Chn:=if c.id=ch then ⟨c.id,c.sz,c.lo+lo,c.re+re,c.ba,c.pp,c.sc⟩ else c
def scF (ch:Int) (g:Int→Int) (c:Chn):Chn:=if c.id=ch then ⟨c.id,c.sz,c.lo,c.re,c.ba,c.pp,g c.sc⟩ else c
theorem mvF_id (ch lo re:Int) (c:Chn):(mvF ch lo re c).id=c.id:=by unfold mvF;split <;> rfl
theorem scF_id (ch:Int) (g:Int→Int) (c:Chn):(scF ch g c).id=c.id:=by unfold scF;split <;> rfl
theorem asc_map {C:List Chn} {f:Chn→Chn} (hf:∀ c,(f c).id=c.id) (h:C.Pairwise (fun x y=>x.id < y.id)):(C.map f).Pairwise (fun x y=>x.id < y.id):=by
 rw [List.pairwise_map];exact h.imp (fun {a b} hab=>by rw [hf,hf];exact hab)
theorem movC_map {C:List Chn} (h:C.Pairwise (fun x y=>x.id < y.id)) (ch lo re:Int):movC C ch lo re=C.map (mvF ch lo re):=turn_map h ch _
theorem scoreC_map {C:List Chn} (h:C.Pairwise (fun x y=>x.id < y.id)) (ch:Int) (g:Int→Int):scoreC C ch g=C.map (scF ch g):=turn_map h ch _
theorem mov2_map {C:List Chn} (h:C.Pairwise (fun x y=>x.id < y.id)) (ch lo re ch' lo' re':Int):movC (movC C ch lo re) ch' lo' re'=C.map (fun c=>mvF ch' lo' re' (mvF ch lo re c)):=by
 rw [movC_map h,movC_map (asc_map (mvF_id _ _ _) h),List.map_map];rfl
theorem at_of {C:List Chn} (h:C.Pairwise (fun x y=>x.id < y.id)) {c:Chn} (hc:c∈C):∃ (i:Nat) (hi:i < C.length),atC C c.id=some i∧C[i]=c:=by
 have hx:hasC C c.id=true:=hasC_iff.2 ⟨c,hc,rfl⟩
 rw [hasC_at] at hx
 obtain ⟨i,hi⟩:=Option.isSome_iff_exists.1 hx
 obtain ⟨h1,h2⟩:=atC_lt hi
 exact ⟨i,h1,hi,asc_eq h (List.getElem_mem h1) hc h2⟩
theorem loC_of {C:List Chn} (h:C.Pairwise (fun x y=>x.id < y.id)) {c:Chn} (hc:c∈C):loC C c.id=c.lo:=by
 obtain ⟨i,hi,ha,he⟩:=at_of h hc
 simp [loC,ha,hi,he]
theorem reC_of {C:List Chn} (h:C.Pairwise (fun x y=>x.id < y.id)) {c:Chn} (hc:c∈C):reC C c.id=c.re:=by
 obtain ⟨i,hi,ha,he⟩:=at_of h hc
 simp [reC,ha,hi,he]
theorem chC_of {C:List Chn} (h:C.Pairwise (fun x y=>x.id < y.id)) {c:Chn} (hc:c∈C):chC C c.id=c:=by
 obtain ⟨i,hi,ha,he⟩:=at_of h hc
 simp [chC,ha,hi,he]
theorem twoB_true {C:List Chn} {x y:Int} (h:twoB C x y=true):x≠y∧hasC C x=true∧hasC C y=true:=by
 simp only [twoB,Bool.and_eq_true,decide_eq_true_eq] at h
 exact ⟨h.1.1,h.1.2,h.2⟩
theorem outH_app (Hs:List Htl) (x:Htl) (ch:Int):outH (Hs++[x]) ch=outH Hs ch+(if x.out=ch then x.ao else 0):=by simp [outH]
theorem inH_app (Hs:List Htl) (x:Htl) (ch:Int):inH (Hs++[x]) ch=inH Hs ch+(if x.inn=ch then x.ai else 0):=by simp [inH]
theorem outR_app (R:List Crc) (x:Crc) (ch:Int):outR (R++[x]) ch=outR R ch+(if x.fr=ch then x.am+x.fe else 0):=by simp [outR]
theorem inR_app (R:List Crc) (x:Crc) (ch:Int):inR (R++[x]) ch=inR R ch+(if x.to=ch then x.am else 0):=by simp [inR]
theorem sum_erase {α:Type} (f:α→Int):∀ (L:List α) (i:Nat) (hi:i < L.length),(L.map f).sum=((L.eraseIdx i).map f).sum+f L[i]
 | x :: L,0,_=>by simp;omega
 | x :: L,i+1,hi=>by
   have:=sum_erase f L i (by simpa using hi)
   simp only [List.map_cons,List.sum_cons,List.eraseIdx_cons_succ,List.getElem_cons_succ]
   omega
theorem okS_up {n:Int} (h:okS n=true):okS (upS n)=true:=by
 unfold upS
 rw [if_pos h]
 simp only [okS,Bool.and_eq_true,decide_eq_true_eq] at h ⊢
 omega
theorem okS_down {n:Int} (h:okS n=true):okS (downS n)=true:=by
 unfold downS
 rw [if_pos h]
 simp only [okS,Bool.and_eq_true,decide_eq_true_eq] at h ⊢
 omega
theorem okS_fade {n:Int} (h:okS n=true):okS (fadeS n)=true:=by
 unfold fadeS
 rw [if_pos h]
 simp only [okS,Bool.and_eq_true,decide_eq_true_eq] at h ⊢
 split <;> (try split) <;> omega
theorem Fine.same {B:Bk} (h:Fine B) (c:Chn) (hc:c∈B.C):0≤c.lo∧0≤c.re∧(0≤c.ba∧c.ba≤1125899906842624)∧(0≤c.pp∧c.pp≤1000000)∧okS c.sc=true:=by
 have:=fields_true (h.cF c hc)
 exact ⟨this.1.1,this.2.1.1,this.2.2⟩
theorem fadeC_id (t:Int) (c:Chn):(fadeC t c).id=c.id:=by unfold fadeC;split <;> rfl
theorem ageUp_ky (x:Htl):(ageUp x).ky=x.ky:=by unfold ageUp;split <;> rfl
theorem ageUp_htB {C:List Chn} {x:Htl} (h:htB C x=true):htB C (ageUp x)=true:=by
 have h':=htB_true h
 unfold ageUp
 split
 ·exact htB_of ⟨h'.1,h'.2.1,h'.2.2.1,⟨by show 0≤x.ag+1;omega,by show x.ag+1≤_;omega⟩,h'.2.2.2.2⟩
 ·exact h
theorem map_congr_sum {α:Type} (f g:α→Int) (k:α→α) (L:List α) (h:∀ x∈L,f (k x)=g x):((L.map k).map f).sum=(L.map g).sum:=by
 rw [List.map_map]
 exact congrArg List.sum (List.map_congr_left h)
theorem fine_tick {B:Bk} (h:Fine B) (ht:B.tk≠1125899906842624):Fine (tickB B):=by
 have e1:∀ ch,outH (B.Hs.map ageUp) ch=outH B.Hs ch:=fun ch=>map_congr_sum _ _ _ _ (fun x _=>by unfold ageUp;split <;> rfl)
 have e2:∀ ch,inH (B.Hs.map ageUp) ch=inH B.Hs ch:=fun ch=>map_congr_sum _ _ _ _ (fun x _=>by unfold ageUp;split <;> rfl)
 have e3:(B.Hs.map ageUp).map Htl.ky=B.Hs.map Htl.ky:=by rw [List.map_map];exact List.map_congr_left (fun x _=>ageUp_ky x)
 refine h.step (f:=fadeC (B.tk+1)) ⟨by have:=h.tk;omega,by have:=h.tk;omega⟩ h.nx h.wa (fadeC_id _) (by simpa using h.lH) h.lR ?_ h.rA (by rw [e3];exact h.kA) (by rw [e3];exact h.kN) ?_ ?_
 ·intro x hx
  obtain ⟨y,hy,rfl⟩:=List.mem_map.1 hx
  exact ageUp_htB (h.hA y hy)
 ·intro c hc
  have:=h.same c hc
  unfold fadeC
  split
  ·exact ⟨this.1,this.2.1,this.2.2.1,this.2.2.2.1,okS_fade this.2.2.2.2⟩
  ·exact this
 ·intro c hc
  rw [e1,e2]
  unfold fadeC
  split <;> exact ⟨rfl,rfl⟩
theorem fine_launch {B:Bk} (h:Fine B) {ky ch tt am fe:Int} (hk:keyB ky=true) (ha:1≤am) (hf:0≤fe) (hc:launchC B ky ch tt am fe=0):Fine (launchB B ky ch tt am fe):=by
 unfold launchC at hc
 have n1:ky∉keysL B:=fun hx=>by rw [if_pos hx] at hc;omega
 rw [if_neg n1] at hc
 have n2:twoB B.C ch tt=true:=by
  cases hx:twoB B.C ch tt with
  | true=>rfl
  | false=>rw [if_pos hx] at hc;omega
 rw [if_neg (by rw [n2];decide)] at hc
 have n3:B.R.length≠20:=fun hx=>by rw [if_pos hx] at hc;omega
 rw [if_neg n3] at hc
 have n4:addB am fe=true:=by
  cases hx:addB am fe with
  | true=>rfl
  | false=>rw [if_pos hx] at hc;omega
 rw [if_neg (by rw [n4];decide)] at hc
 have n5:¬ loC B.C ch < am+fe:=fun hx=>by rw [if_pos hx] at hc;omega
 rw [if_neg n5] at hc
 have n6:¬ reC B.C tt < am:=fun hx=>by rw [if_pos hx] at hc;omega
 obtain ⟨t1,t2,t3⟩:=twoB_true n2
 simp only [addB,Bool.and_eq_true] at n4
 have b1:=amtB_true n4.1.1
 have b2:=amtB_true n4.1.2
 have b3:=amtB_true n4.2
 unfold launchB
 rw [mov2_map h.pw]
 refine h.step (f:=fun c=>mvF tt 0 (-am) (mvF ch (-(am+fe)) 0 c)) h.tk h.nx h.wa (fun c=>by rw [mvF_id,mvF_id]) h.lH ?_ h.hA ?_ ?_ ?_ ?_ ?_
 ·have:=h.lR
  rw [List.length_append,List.length_singleton]
  omega
 ·intro x hx
  rcases List.mem_append.1 hx with hx | hx
  ·exact h.rA x hx
  ·rw [List.mem_singleton.1 hx]
   exact crB_of ⟨⟨ha,b1.2⟩,b2,t1,t2,t3⟩
 ·intro k hx
  rw [List.map_append,← List.append_assoc] at hx
  rcases List.mem_append.1 hx with hx | hx
  ·exact h.kA k hx
  ·have:k=ky:=by simpa using hx
   rw [this];exact hk
 ·rw [List.map_append,← List.append_assoc]
  refine List.nodup_append.2 ⟨h.kN,by simp,?_⟩
  intro a hx b hb
  have e:b=ky:=by simpa using hb
  rw [e]
  intro e2
  rw [e2] at hx
  exact n1 hx
 ·intro c hx
  have hs:=h.same c hx
  by_cases q1:c.id=ch
  ·have l1:=loC_of h.pw hx
   rw [q1] at l1
   have q2:¬ ch=tt:=t1
   simp only [mvF,q1,if_pos,q2,if_neg,not_false_eq_true,if_false]
   exact ⟨by show 0≤c.lo+-(am+fe);omega,by show 0≤c.re+0;omega,hs.2.2⟩
  ·by_cases q2:c.id=tt
   ·have l1:=reC_of h.pw hx
    rw [q2] at l1
    rw [q2] at q1
    simp only [mvF,q2,q1,if_false,if_true]
    exact ⟨by show 0≤c.lo+0;omega,by show 0≤c.re+-am;omega,hs.2.2⟩
   ·simp only [mvF,q2,q1,if_false]
    exact hs
 ·intro c hx
  rw [outR_app,inR_app]
  by_cases q1:c.id=ch
  ·have q2:¬ ch=tt:=t1
   have q3:¬ tt=ch:=fun e=>t1 e.symm
   simp only [mvF,q1,q2,q3,if_true,if_false]
   refine ⟨trivial,?_⟩
   omega
  ·by_cases q2:c.id=tt
   ·rw [q2] at q1
    have q3:¬ ch=tt:=t1
    simp only [mvF,q1,q2,q3,if_true,if_false]
    refine ⟨trivial,?_⟩
    omega
   ·have q3:¬ ch=c.id:=fun e=>q1 e.symm
    have q4:¬ tt=c.id:=fun e=>q2 e.symm
    simp only [mvF,q1,q2,q3,q4,if_true,if_false]
    refine ⟨trivial,?_⟩
    omega
theorem fine_admit {B:Bk} (h:Fine B) {ky ch tt am:Int} {ys:Bool} (hk:keyB ky=true) (ha:1≤am) (hc:admitC B ky ch tt am ys=0):Fine (admitB B ky ch tt am ys):=by
 unfold admitC at hc
 have n1:ky∉keysL B:=fun hx=>by rw [if_pos hx] at hc;omega
 rw [if_neg n1] at hc
 have n2:twoB B.C ch tt=true:=by
  cases hx:twoB B.C ch tt with
  | true=>rfl
  | false=>rw [if_pos hx] at hc;omega
 rw [if_neg (by rw [n2];decide)] at hc
 have n3:B.Hs.length≠60:=fun hx=>by rw [if_pos hx] at hc;omega
 rw [if_neg n3] at hc
 have n4:admB (chC B.C tt) am=true:=by
  cases hx:admB (chC B.C tt) am with
  | true=>rfl
  | false=>rw [if_pos hx] at hc;omega
 rw [if_neg (by rw [n4];decide)] at hc
 have n5:¬ (chC B.C ch).re < admV (chC B.C tt) am:=fun hx=>by rw [if_pos hx] at hc;omega
 rw [if_neg n5] at hc
 have n6:¬ (chC B.C tt).lo < am:=fun hx=>by rw [if_pos hx] at hc;omega
 obtain ⟨t1,t2,t3⟩:=twoB_true n2
 have hcm:am≤admV (chC B.C tt) am∧admV (chC B.C tt) am≤1125899906842624∧am≤1125899906842624:=by
  unfold admB at n4
  rw [Bool.and_eq_true] at n4
  unfold admV addV
  rw [if_pos n4.2]
  have:=n4.2
  simp only [addB,Bool.and_eq_true] at this
  have b1:=amtB_true this.1.1
  have b2:=amtB_true this.1.2
  have b3:=amtB_true this.2
  omega
 unfold admitB
 generalize hcv:admV (chC B.C tt) am=cm at *
 generalize (roomV B.Hs (chC B.C ch) (chC B.C tt) am ys==2)=kp
 rw [mov2_map h.pw]
 refine h.step (f:=fun c=>mvF tt (-am) 0 (mvF ch 0 (-cm) c)) h.tk h.nx h.wa (fun c=>by rw [mvF_id,mvF_id]) ?_ h.lR ?_ h.rA ?_ ?_ ?_ ?_
 ·have:=h.lH
  rw [List.length_append,List.length_singleton]
  omega
 ·intro x hx
  rcases List.mem_append.1 hx with hx | hx
  ·exact h.hA x hx
  ·rw [List.mem_singleton.1 hx]
   exact htB_of ⟨⟨ha,hcm.2.2⟩,⟨by show 0≤cm;omega,hcm.2.1⟩,hcm.1,⟨Int.le_refl 0,(by show (0:Int)≤_;decide)⟩,t1,t2,t3⟩
 ·intro k hx
  rw [List.map_append,List.append_assoc] at hx
  rcases List.mem_append.1 hx with hx | hx
  ·exact h.kA k (List.mem_append_left _ hx)
  ·rcases List.mem_append.1 hx with hx | hx
   ·have:k=ky:=by simpa using hx
    rw [this];exact hk
   ·exact h.kA k (List.mem_append_right _ hx)
 ·rw [List.map_append,List.append_assoc]
  have hn:=h.kN
  unfold keysL at hn n1
  have h1:=List.nodup_append.1 hn
  have n1':ky∉B.Hs.map Htl.ky∧ky∉B.R.map Crc.ky:=⟨fun hx=>n1 (List.mem_append_left _ hx),fun hx=>n1 (List.mem_append_right _ hx)⟩
  refine List.nodup_append.2 ⟨h1.1,?_,?_⟩
  ·exact List.nodup_cons.2 ⟨n1'.2,h1.2.1⟩
  ·intro a hx b hb
   rcases List.mem_cons.1 hb with hb | hb
   ·intro e
    have e2:b=ky:=hb
    rw [e,e2] at hx
    exact n1'.1 hx
   ·exact h1.2.2 a hx b hb
 ·intro c hx
  have hs:=h.same c hx
  by_cases q1:c.id=ch
  ·have l1:=chC_of h.pw hx
   rw [q1] at l1
   rw [l1] at n5
   have q2:¬ ch=tt:=t1
   simp only [mvF,q1,if_pos,q2,if_neg,not_false_eq_true,if_false]
   exact ⟨by show 0≤c.lo+0;omega,by show 0≤c.re+-cm;omega,hs.2.2⟩
  ·by_cases q2:c.id=tt
   ·have l1:=chC_of h.pw hx
    rw [q2] at l1
    rw [l1] at n6
    rw [q2] at q1
    simp only [mvF,q2,q1,if_false,if_true]
    exact ⟨by show 0≤c.lo+-am;omega,by show 0≤c.re+0;omega,hs.2.2⟩
   ·simp only [mvF,q2,q1,if_false]
    exact hs
 ·intro c hx
  rw [outH_app,inH_app]
  by_cases q1:c.id=ch
  ·have q2:¬ ch=tt:=t1
   have q3:¬ tt=ch:=fun e=>t1 e.symm
   simp only [mvF,q1,q2,q3,if_true,if_false]
   refine ⟨trivial,?_⟩
   omega
  ·by_cases q2:c.id=tt
   ·rw [q2] at q1
    have q3:¬ ch=tt:=t1
    simp only [mvF,q1,q2,q3,if_true,if_false]
    refine ⟨trivial,?_⟩
    omega
   ·have q3:¬ ch=c.id:=fun e=>q1 e.symm
    have q4:¬ tt=c.id:=fun e=>q2 e.symm
    simp only [mvF,q1,q2,q3,q4,if_true,if_false]
    refine ⟨trivial,?_⟩
    omega
theorem erase_mem {α:Type} {L:List α} {i:Nat} {x:α} (h:x∈L.eraseIdx i):x∈L:=(List.eraseIdx_sublist L i).subset h
theorem rest_R {B:Bk} (h:Fine B) {ky:Int} (hl:(lastR ky B.R).ky≠0):lastR ky B.R∈B.R∧(lastR ky B.R).ky=ky∧(∀ x∈restR ky B.R,x∈B.R)∧(restR ky B.R).length≤20∧(∀ k∈B.Hs.map Htl.ky++(restR ky B.R).map Crc.ky,keyB k=true)∧(B.Hs.map Htl.ky++(restR ky B.R).map Crc.ky).Nodup∧(∀ ch,outR B.R ch=outR (restR ky B.R) ch+(if (lastR ky B.R).fr=ch then (lastR ky B.R).am+(lastR ky B.R).fe else 0))∧∀ ch,inR B.R ch=inR (restR ky B.R) ch+(if (lastR ky B.R).to=ch then (lastR ky B.R).am else 0):=by
 have hn:=(List.nodup_append.1 h.kN).2.1
 cases hf:findR ky B.R with
 | none=>exact absurd (findR_none hf).2.1 hl
 | some i =>
   obtain ⟨hi,e1,e2,e3⟩:=findR_some hn hf
   rw [e2,e3]
   have hs:(B.Hs.map Htl.ky++(B.R.eraseIdx i).map Crc.ky).Sublist (keysL B):=(List.Sublist.refl _).append ((List.eraseIdx_sublist B.R i).map _)
   exact ⟨List.getElem_mem hi,e1,fun x hx=>erase_mem hx,Nat.le_trans (List.eraseIdx_sublist B.R i).length_le h.lR,fun k hk=>h.kA k (hs.subset hk),h.kN.sublist hs,fun ch=>sum_erase _ B.R i hi,fun ch=>sum_erase _ B.R i hi⟩
theorem rest_H {B:Bk} (h:Fine B) {ky:Int} (hl:(lastH ky B.Hs).ky≠0):lastH ky B.Hs∈B.Hs∧(lastH ky B.Hs).ky=ky∧(∀ x∈restH ky B.Hs,x∈B.Hs)∧(restH ky B.Hs).length≤60∧(∀ k∈(restH ky B.Hs).map Htl.ky++B.R.map Crc.ky,keyB k=true)∧((restH ky B.Hs).map Htl.ky++B.R.map Crc.ky).Nodup∧(∀ ch,outH B.Hs ch=outH (restH ky B.Hs) ch+(if (lastH ky B.Hs).out=ch then (lastH ky B.Hs).ao else 0))∧∀ ch,inH B.Hs ch=inH (restH ky B.Hs) ch+(if (lastH ky B.Hs).inn=ch then (lastH ky B.Hs).ai else 0):=by
 have hn:=(List.nodup_append.1 h.kN).1
 cases hf:findH ky B.Hs with
 | none=>exact absurd (findH_none hf).2.1 hl
 | some i =>
   obtain ⟨hi,e1,e2,e3⟩:=findH_some hn hf
   rw [e2,e3]
   have hs:((B.Hs.eraseIdx i).map Htl.ky++B.R.map Crc.ky).Sublist (keysL B):=((List.eraseIdx_sublist B.Hs i).map _).append (List.Sublist.refl _)
   exact ⟨List.getElem_mem hi,e1,fun x hx=>erase_mem hx,Nat.le_trans (List.eraseIdx_sublist B.Hs i).length_le h.lH,fun k hk=>h.kA k (hs.subset hk),h.kN.sublist hs,fun ch=>sum_erase _ B.Hs i hi,fun ch=>sum_erase _ B.Hs i hi⟩
theorem mvF_lo (ch lo re:Int) (c:Chn):(mvF ch lo re c).lo=c.lo+(if c.id=ch then lo else 0):=by unfold mvF;split <;> simp
theorem mvF_re (ch lo re:Int) (c:Chn):(mvF ch lo re c).re=c.re+(if c.id=ch then re else 0):=by unfold mvF;split <;> simp
theorem mvF_sz (ch lo re:Int) (c:Chn):(mvF ch lo re c).sz=c.sz:=by unfold mvF;split <;> rfl
theorem mvF_ba (ch lo re:Int) (c:Chn):(mvF ch lo re c).ba=c.ba:=by unfold mvF;split <;> rfl
theorem mvF_pp (ch lo re:Int) (c:Chn):(mvF ch lo re c).pp=c.pp:=by unfold mvF;split <;> rfl
theorem mvF_sc (ch lo re:Int) (c:Chn):(mvF ch lo re c).sc=c.sc:=by unfold mvF;split <;> rfl
theorem scF_lo (ch:Int) (g:Int→Int) (c:Chn):(scF ch g c).lo=c.lo:=by unfold scF;split <;> rfl
theorem scF_re (ch:Int) (g:Int→Int) (c:Chn):(scF ch g c).re=c.re:=by unfold scF;split <;> rfl
theorem scF_sz (ch:Int) (g:Int→Int) (c:Chn):(scF ch g c).sz=c.sz:=by unfold scF;split <;> rfl
theorem scF_ba (ch:Int) (g:Int→Int) (c:Chn):(scF ch g c).ba=c.ba:=by unfold scF;split <;> rfl
theorem scF_pp (ch:Int) (g:Int→Int) (c:Chn):(scF ch g c).pp=c.pp:=by unfold scF;split <;> rfl
theorem scF_sc {ch:Int} {g:Int→Int} (hg:∀ n,okS n=true→okS (g n)=true) {c:Chn} (h:okS c.sc=true):okS (scF ch g c).sc=true:=by
 unfold scF
 split
 ·exact hg _ h
 ·exact h
theorem fine_two {B:Bk} (h:Fine B) {x l1 r1 y l2 r2:Int} {g:Chn→Chn} (hg:∀ c,(g c).id=c.id∧(g c).sz=c.sz∧(g c).lo=c.lo∧(g c).re=c.re∧(g c).ba=c.ba∧(g c).pp=c.pp∧(okS c.sc=true→okS (g c).sc=true)) {Hs:List Htl} {R:List Crc}
 (lH:Hs.length≤60) (lR:R.length≤20) (hH:∀ x∈Hs,htB B.C x=true) (hR:∀ x∈R,crB B.C x=true) (kA:∀ k∈Hs.map Htl.ky++R.map Crc.ky,keyB k=true) (kN:(Hs.map Htl.ky++R.map Crc.ky).Nodup)
 (p1:0≤l1) (p2:0≤r1) (p3:0≤l2) (p4:0≤r2)
 (hS:∀ ch,(if ch=x then l1 else 0)+(if ch=y then l2 else 0)+(if ch=x then r1 else 0)+(if ch=y then r2 else 0)+(outH Hs ch+outR R ch)+(inH Hs ch+inR R ch)=(outH B.Hs ch+outR B.R ch)+(inH B.Hs ch+inR B.R ch)):Fine ⟨B.tk,B.nx,B.wa,B.C.map (fun c=>g (mvF y l2 r2 (mvF x l1 r1 c))),Hs,R⟩:=by
 refine h.step (f:=fun c=>g (mvF y l2 r2 (mvF x l1 r1 c))) h.tk h.nx h.wa (fun c=>by show (g _).id=_;rw [(hg _).1,mvF_id,mvF_id]) lH lR hH hR kA kN ?_ ?_
 ·intro c hx
  have hs:=h.same c hx
  have e:=hg (mvF y l2 r2 (mvF x l1 r1 c))
  refine ⟨?_,?_,?_,?_,?_⟩
  ·show 0≤(g _).lo
   rw [e.2.2.1,mvF_lo,mvF_lo]
   have:=hs.1
   split <;> split <;> omega
  ·show 0≤(g _).re
   rw [e.2.2.2.1,mvF_re,mvF_re]
   have:=hs.2.1
   split <;> split <;> omega
  ·show 0≤(g _).ba∧(g _).ba≤_
   rw [e.2.2.2.2.1,mvF_ba,mvF_ba];exact hs.2.2.1
  ·show 0≤(g _).pp∧(g _).pp≤_
   rw [e.2.2.2.2.2.1,mvF_pp,mvF_pp];exact hs.2.2.2.1
  ·exact e.2.2.2.2.2.2 (by rw [mvF_sc,mvF_sc];exact hs.2.2.2.2)
 ·intro c hx
  have e:=hg (mvF y l2 r2 (mvF x l1 r1 c))
  refine ⟨by show (g _).sz=_;rw [e.2.1,mvF_sz,mvF_sz],?_⟩
  show (g _).lo+(g _).re+_+_=_
  rw [e.2.2.1,e.2.2.2.1,mvF_lo,mvF_lo,mvF_re,mvF_re,mvF_id]
  have:=hS c.id
  omega
theorem fine_land {B:Bk} (h:Fine B) {ky:Int} (good:Bool) (hc:landC B ky=0):Fine (landB B ky good):=by
 have hl:(lastR ky B.R).ky≠0:=by
  intro hx
  unfold landC at hc
  rw [if_pos hx] at hc
  omega
 obtain ⟨m,-,r1,r2,r3,r4,r5,r6⟩:=rest_R h hl
 obtain ⟨ha,hf,t1,t2,t3⟩:=crB_true (h.rA _ m)
 unfold landB landM
 generalize lastR ky B.R=x at *
 have hid:∀ c:Chn,(id c).id=c.id∧(id c).sz=c.sz∧(id c).lo=c.lo∧(id c).re=c.re∧(id c).ba=c.ba∧(id c).pp=c.pp∧(okS c.sc=true→okS (id c).sc=true):=fun c=>⟨rfl,rfl,rfl,rfl,rfl,rfl,fun h=>h⟩
 cases good with
 | true =>
   simp only [if_true]
   rw [mov2_map h.pw]
   refine fine_two h (g:=id) hid h.lH r2 h.hA (fun y hy=>h.rA y (r1 y hy)) r3 r4 (Int.le_refl 0) (by omega) (by omega) (Int.le_refl 0) (fun ch=>?_)
   rw [r5 ch,r6 ch]
   by_cases q1:ch=x.fr
   ·by_cases q2:ch=x.to
    ·exact absurd (q1.symm.trans q2) t1
    ·rw [if_pos q1,if_pos q1,if_neg q2,if_neg q2,if_pos q1.symm,if_neg (Ne.symm q2)];omega
   ·by_cases q2:ch=x.to
    ·rw [if_neg q1,if_neg q1,if_pos q2,if_pos q2,if_neg (Ne.symm q1),if_pos q2.symm];omega
    ·rw [if_neg q1,if_neg q1,if_neg q2,if_neg q2,if_neg (Ne.symm q1),if_neg (Ne.symm q2)];omega
 | false =>
   simp only [if_false,Bool.false_eq_true]
   rw [mov2_map h.pw]
   refine fine_two h (g:=id) hid h.lH r2 h.hA (fun y hy=>h.rA y (r1 y hy)) r3 r4 (by omega) (Int.le_refl 0) (Int.le_refl 0) (by omega) (fun ch=>?_)
   rw [r5 ch,r6 ch]
   by_cases q1:ch=x.fr
   ·by_cases q2:ch=x.to
    ·exact absurd (q1.symm.trans q2) t1
    ·rw [if_pos q1,if_pos q1,if_neg q2,if_neg q2,if_pos q1.symm,if_neg (Ne.symm q2)];omega
   ·by_cases q2:ch=x.to
    ·rw [if_neg q1,if_neg q1,if_pos q2,if_pos q2,if_neg (Ne.symm q1),if_pos q2.symm];omega
    ·rw [if_neg q1,if_neg q1,if_neg q2,if_neg q2,if_neg (Ne.symm q1),if_neg (Ne.symm q2)];omega
theorem fine_settle {B:Bk} (h:Fine B) {ky:Int} (good:Bool) (hc:settleC B ky=0):Fine (settleB B ky good):=by
 have hl:(lastH ky B.Hs).ky≠0:=by
  intro hx
  unfold settleC at hc
  rw [if_pos hx] at hc
  omega
 obtain ⟨m,-,r1,r2,r3,r4,r5,r6⟩:=rest_H h hl
 obtain ⟨ha,hf,hle,-,t1,t2,t3⟩:=htB_true (h.hA _ m)
 unfold settleB settleM
 generalize lastH ky B.Hs=x at *
 have hpw:∀ f:Chn→Chn,(∀ c,(f c).id=c.id)→(B.C.map f).Pairwise (fun x y=>x.id < y.id):=fun f hf=>asc_map hf h.pw
 have hsc:∀ g:Int→Int,(∀ n,okS n=true→okS (g n)=true)→∀ c:Chn,(scF x.inn g c).id=c.id∧(scF x.inn g c).sz=c.sz∧(scF x.inn g c).lo=c.lo∧(scF x.inn g c).re=c.re∧(scF x.inn g c).ba=c.ba∧(scF x.inn g c).pp=c.pp∧(okS c.sc=true→okS (scF x.inn g c).sc=true):=fun g hg c=>⟨scF_id _ _ c,scF_sz _ _ c,scF_lo _ _ c,scF_re _ _ c,scF_ba _ _ c,scF_pp _ _ c,fun h=>scF_sc hg h⟩
 cases good with
 | true =>
   simp only [if_true]
   rw [mov2_map h.pw,scoreC_map (hpw _ (fun c=>by rw [mvF_id,mvF_id])),List.map_map]
   refine fine_two h (g:=scF x.inn upS) (hsc upS (fun n=>okS_up)) r2 h.lR (fun y hy=>h.hA y (r1 y hy)) h.rA r3 r4 (by omega) (Int.le_refl 0) (Int.le_refl 0) (by omega) (fun ch=>?_)
   rw [r5 ch,r6 ch]
   by_cases q1:ch=x.inn
   ·by_cases q2:ch=x.out
    ·exact absurd (q1.symm.trans q2) t1
    ·rw [if_pos q1,if_pos q1,if_neg q2,if_neg q2,if_pos q1.symm,if_neg (Ne.symm q2)];omega
   ·by_cases q2:ch=x.out
    ·rw [if_neg q1,if_neg q1,if_pos q2,if_pos q2,if_neg (Ne.symm q1),if_pos q2.symm];omega
    ·rw [if_neg q1,if_neg q1,if_neg q2,if_neg q2,if_neg (Ne.symm q1),if_neg (Ne.symm q2)];omega
 | false =>
   simp only [if_false,Bool.false_eq_true]
   rw [mov2_map h.pw,scoreC_map (hpw _ (fun c=>by rw [mvF_id,mvF_id])),List.map_map]
   refine fine_two h (g:=scF x.inn downS) (hsc downS (fun n=>okS_down)) r2 h.lR (fun y hy=>h.hA y (r1 y hy)) h.rA r3 r4 (Int.le_refl 0) (by omega) (by omega) (Int.le_refl 0) (fun ch=>?_)
   rw [r5 ch,r6 ch]
   by_cases q1:ch=x.inn
   ·by_cases q2:ch=x.out
    ·exact absurd (q1.symm.trans q2) t1
    ·rw [if_pos q1,if_pos q1,if_neg q2,if_neg q2,if_pos q1.symm,if_neg (Ne.symm q2)];omega
   ·by_cases q2:ch=x.out
    ·rw [if_neg q1,if_neg q1,if_pos q2,if_pos q2,if_neg (Ne.symm q1),if_pos q2.symm];omega
    ·rw [if_neg q1,if_neg q1,if_neg q2,if_neg q2,if_neg (Ne.symm q1),if_neg (Ne.symm q2)];omega
theorem fine_price {B:Bk} (h:Fine B) {ch am fe:Int} (ha:0≤am∧am≤1125899906842624) (hf:0≤fe∧fe≤1000000):Fine (priceB B ch am fe):=by
 have e:priceB B ch am fe=⟨B.tk,B.nx,B.wa,B.C.map (fun c=>if c.id=ch then ⟨c.id,c.sz,c.lo,c.re,am,fe,c.sc⟩ else c),B.Hs,B.R⟩:=by
  unfold priceB
  rw [← turn_map h.pw ch (fun c=>⟨c.id,c.sz,c.lo,c.re,am,fe,c.sc⟩)]
  rfl
 rw [e]
 refine h.step h.tk h.nx h.wa (fun c=>by split <;> rfl) h.lH h.lR h.hA h.rA h.kA h.kN ?_ ?_
 ·intro c hx
  have hs:=h.same c hx
  split
  ·exact ⟨hs.1,hs.2.1,ha,hf,hs.2.2.2.2⟩
  ·exact hs
 ·intro c hx
  split <;> exact ⟨rfl,rfl⟩
theorem fine_open {B:Bk} (h:Fine B) {ch am fe:Int} (hch:1≤ch∧ch≤99) (hc:openC B ch am fe=0):Fine (openB B ch am fe):=by
 unfold openC at hc
 have n4:addB am fe=true:=by
  cases hx:addB am fe with
  | true=>rfl
  | false=>rw [if_pos hx] at hc;omega
 rw [if_neg (by rw [n4];decide)] at hc
 have n1:¬ (atC B.C ch≠none∨B.C.length=20):=fun hx=>by rw [if_pos hx] at hc;omega
 rw [if_neg n1] at hc
 have n2:¬ B.wa < am:=fun hx=>by rw [if_pos hx] at hc;omega
 simp only [addB,Bool.and_eq_true] at n4
 have b1:=amtB_true n4.1.1
 have b2:=amtB_true n4.1.2
 have b3:=amtB_true n4.2
 have hno:∀ c∈B.C,c.id≠ch:=by
  intro c hx he
  have h1:hasC B.C ch=true:=hasC_iff.2 ⟨c,hx,he⟩
  rw [hasC_at] at h1
  have h2:atC B.C ch=none:=Classical.byContradiction fun q=>n1 (.inl q)
  rw [h2] at h1
  cases h1
 have hnl:B.C.length≠20:=fun q=>n1 (.inr q)
 unfold openB
 rw [insC_eq]
 have hp:=insG_perm (oneC ch am fe) B.C
 have hh:∀ x,hasC B.C x=true→hasC (insG (oneC ch am fe) B.C) x=true:=fun x hx=>by
  obtain ⟨c,hc,he⟩:=hasC_iff.1 hx
  exact hasC_iff.2 ⟨c,hp.mem_iff.2 (List.mem_append_left _ hc),he⟩
 have z1:∀ x∈B.Hs,x.inn≠ch∧x.out≠ch:=fun x hx=>by
  obtain ⟨_,_,_,_,_,q1,q2⟩:=htB_true (h.hA x hx)
  obtain ⟨c,hc,he⟩:=hasC_iff.1 q1
  obtain ⟨d,hd,he2⟩:=hasC_iff.1 q2
  exact ⟨fun e=>hno c hc (by rw [he,e]),fun e=>hno d hd (by rw [he2,e])⟩
 have z2:∀ x∈B.R,x.fr≠ch∧x.to≠ch:=fun x hx=>by
  obtain ⟨_,_,_,q1,q2⟩:=crB_true (h.rA x hx)
  obtain ⟨c,hc,he⟩:=hasC_iff.1 q1
  obtain ⟨d,hd,he2⟩:=hasC_iff.1 q2
  exact ⟨fun e=>hno c hc (by rw [he,e]),fun e=>hno d hd (by rw [he2,e])⟩
 have zs:∀ {α:Type} (f:α→Int) (L:List α),(∀ x∈L,f x=0)→(L.map f).sum=0:=by
  intro α f L
  induction L with
  | nil=>intro _;rfl
  | cons a t ih =>
    intro hz
    rw [List.map_cons,List.sum_cons,hz a (by simp),ih (fun x hx=>hz x (by simp [hx]))];rfl
 have s1:outH B.Hs ch=0:=zs _ _ (fun x hx=>if_neg (z1 x hx).2)
 have s2:inH B.Hs ch=0:=zs _ _ (fun x hx=>if_neg (z1 x hx).1)
 have s3:outR B.R ch=0:=zs _ _ (fun x hx=>if_neg (z2 x hx).1)
 have s4:inR B.R ch=0:=zs _ _ (fun x hx=>if_neg (z2 x hx).2)
 refine ⟨h.tk,?_,h.nx,?_,h.lH,h.lR,insG_asc _ _ h.pw hno,?_,?_,?_,?_,?_,h.kA,h.kN⟩
 ·have:=h.wa
  show 0≤B.wa-am∧B.wa-am≤_
  omega
 ·show (insG _ B.C).length≤20
  rw [hp.length_eq,List.length_append,List.length_singleton]
  have:=h.lC
  omega
 ·intro c hx
  rcases List.mem_append.1 (hp.mem_iff.1 hx) with hx | hx
  ·exact h.cI c hx
  ·rw [List.mem_singleton.1 hx];exact hch
 ·intro c hx
  rcases List.mem_append.1 (hp.mem_iff.1 hx) with hx | hx
  ·exact h.cF c hx
  ·rw [List.mem_singleton.1 hx]
   exact fields_of ⟨b1,b2,⟨Int.le_refl 0,(by show (0:Int)≤_;decide)⟩,⟨Int.le_refl 0,(by show (0:Int)≤_;decide)⟩,rfl⟩
 ·intro c hx
  rcases List.mem_append.1 (hp.mem_iff.1 hx) with hx | hx
  ·exact h.cS c hx
  ·rw [List.mem_singleton.1 hx]
   refine ⟨b3,?_⟩
   show am+fe=am+fe+(outH B.Hs ch+outR B.R ch)+(inH B.Hs ch+inR B.R ch)
   rw [s1,s2,s3,s4]
   omega
 ·intro x hx
  obtain ⟨q1,q2,q3,q4,q5,q6,q7⟩:=htB_true (h.hA x hx)
  exact htB_of ⟨q1,q2,q3,q4,q5,hh _ q6,hh _ q7⟩
 ·intro x hx
  obtain ⟨q1,q2,q3,q4,q5⟩:=crB_true (h.rA x hx)
  exact crB_of ⟨q1,q2,q3,hh _ q4,hh _ q5⟩
theorem fine_close {B:Bk} (h:Fine B) {ch fe:Int} (hf:0≤fe) (hp:B.wa+loC B.C ch-fe≤1125899906842624) (hc:closeC B ch fe=0):Fine (closeB B ch fe):=by
 unfold closeC at hc
 have n1:atC B.C ch≠none:=fun hx=>by rw [if_pos hx] at hc;omega
 rw [if_neg n1] at hc
 have n2:¬ busyB B.Hs B.R ch=true:=fun hx=>by rw [if_pos hx] at hc;omega
 rw [if_neg n2] at hc
 have n3:¬ loC B.C ch < fe:=fun hx=>by rw [if_pos hx] at hc;omega
 have hb:(∀ x∈B.Hs,x.inn≠ch∧x.out≠ch)∧∀ x∈B.R,x.fr≠ch∧x.to≠ch:=by
  have h1:busyB B.Hs B.R ch=false:=by simpa using n2
  simp only [busyB,Bool.or_eq_false_iff,List.any_eq_false,Bool.or_eq_true,decide_eq_true_eq,not_or] at h1
  exact ⟨fun x hx=>h1.1 x hx,fun x hx=>h1.2 x hx⟩
 unfold closeB
 have hsub:(cutC B.C ch).Sublist B.C:=List.filter_sublist
 have hh:∀ x,x≠ch→hasC B.C x=true→hasC (cutC B.C ch) x=true:=fun x hn hx=>by
  obtain ⟨c,hc,he⟩:=hasC_iff.1 hx
  refine hasC_iff.2 ⟨c,List.mem_filter.2 ⟨hc,?_⟩,he⟩
  rw [he]
  simpa using hn
 refine ⟨h.tk,?_,h.nx,Nat.le_trans hsub.length_le h.lC,h.lH,h.lR,h.pw.sublist hsub,fun c hx=>h.cI c (hsub.subset hx),fun c hx=>h.cF c (hsub.subset hx),fun c hx=>h.cS c (hsub.subset hx),?_,?_,h.kA,h.kN⟩
 ·have:=h.wa
  show 0≤B.wa+loC B.C ch-fe∧B.wa+loC B.C ch-fe≤_
  omega
 ·intro x hx
  obtain ⟨q1,q2,q3,q4,q5,q6,q7⟩:=htB_true (h.hA x hx)
  exact htB_of ⟨q1,q2,q3,q4,q5,hh _ (hb.1 x hx).1 q6,hh _ (hb.1 x hx).2 q7⟩
 ·intro x hx
  obtain ⟨q1,q2,q3,q4,q5⟩:=crB_true (h.rA x hx)
  exact crB_of ⟨q1,q2,q3,hh _ (hb.2 x hx).1 q4,hh _ (hb.2 x hx).2 q5⟩
theorem fine_next {B:Bk} (h:Fine B) {L:List Ln} (hn:B.nx≠1125899906842624):Fine (outB 0 B L):=by
 unfold outB
 rw [if_pos rfl]
 split
 ·exact h
 ·have:=h.nx
  exact ⟨h.tk,h.wa,⟨by show 1≤B.nx+1;omega,by show B.nx+1≤_;omega⟩,h.lC,h.lH,h.lR,h.pw,h.cI,h.cF,h.cS,h.hA,h.rA,h.kA,h.kN⟩
theorem field_t {n lo hi:Int} (h:fieldB true n lo hi=true):lo≤n∧n≤hi:=by
 simpa [fieldB] using h
theorem fine_event {B:Bk} (h:Fine B) {k ky ch tt am fe:Int} {ys:Bool} (hc:applyC B k ky ch tt am fe ys=0):Fine (evK B k ky ch tt am fe ys)∧B.nx≠1125899906842624:=by
 unfold applyC at hc
 have he:evB k ky ch tt am fe ys=true:=by
  cases hx:evB k ky ch tt am fe ys with
  | true=>rfl
  | false=>rw [if_pos hx] at hc;omega
 rw [if_neg (by rw [he];decide)] at hc
 have hp:pastB B k ch am fe=false:=by
  cases hx:pastB B k ch am fe with
  | false=>rfl
  | true=>rw [if_pos hx] at hc;omega
 rw [if_neg (by rw [hp];decide)] at hc
 have hn:B.nx≠1125899906842624:=by
  intro hx
  unfold pastB at hp
  rw [if_pos hx] at hp
  cases hp
 refine ⟨?_,hn⟩
 unfold pastB at hp
 rw [if_neg hn] at hp
 have hk:=evB_kind he
 have ham:=(evB_am he).1
 have hfe:=(evB_am he).2.1
 rcases hk with rfl | rfl | rfl | rfl | rfl | rfl | rfl | rfl | rfl | rfl | rfl
 ·have h1:B.wa+am≤1125899906842624:=by simp at hp;omega
  have:=h.wa
  exact ⟨h.tk,⟨by show 0≤B.wa+am;omega,h1⟩,h.nx,h.lC,h.lH,h.lR,h.pw,h.cI,h.cF,h.cS,h.hA,h.rA,h.kA,h.kN⟩
 ·have h1:1≤ch∧ch≤99:=by simp [evB] at he;exact field_t he.1.1.1.1.2
  exact fine_open h h1 hc
 ·have h2:closeC B ch fe=0:=hc
  have h3:atC B.C ch≠none:=fun hx=>by unfold closeC at h2;rw [if_pos hx] at h2;omega
  have h1:B.wa+loC B.C ch-fe≤1125899906842624:=by
   have h4:(atC B.C ch).isSome=true:=by
    cases q:atC B.C ch with
    | none=>exact absurd q h3
    | some _=>rfl
   simp [h4] at hp
   omega
  exact fine_close h hfe.1 h1 h2
 ·have h1:0≤fe∧fe≤1000000:=by simp [evB] at he;exact field_t he.1.2
  exact fine_price h ham h1
 ·have h1:keyB ky=true:=by
   simp [evB] at he
   have:=field_t he.1.1.1.1.1
   simp [keyB];omega
  have h2:1≤am:=by simp [evB] at he;exact (field_t he.1.2).1
  exact fine_admit h h1 h2 hc
 ·exact fine_settle h true hc
 ·exact fine_settle h false hc
 ·have h1:B.tk≠1125899906842624:=by simpa using hp
  exact fine_tick h h1
 ·have h1:keyB ky=true:=by
   simp [evB] at he
   have:=field_t he.1.1.1.1.1.1
   simp [keyB];omega
  have h2:1≤am:=by simp [evB] at he;exact (field_t he.1.1.2).1
  exact fine_launch h h1 h2 hfe.1 hc
 ·exact fine_land h true hc
 ·exact fine_land h false hc
theorem book_out {B:Bk} (h:bookB B=true) {k ky ch tt am fe:Int} {ys:Bool} (hc:applyC B k ky ch tt am fe ys=0):bookB (outB 0 (evK B k ky ch tt am fe ys) (evL B k ky ch tt am fe ys))=true:=by
 obtain ⟨h1,h2⟩:=fine_event (fine_of h) hc
 exact (fine_next h1 (by rw [evK_nx];exact h2)).book
theorem lineW_len (L:List Ln) (k c a:Int):(lineW L k c a).length≤L.length+1:=by
 unfold lineW
 split
 ·omega
 ·exact addG_len _ _ _
theorem evL_len (B:Bk) (k ky ch tt am fe:Int) (ys:Bool):(evL B k ky ch tt am fe ys).length≤3:=by
 have h2:∀ k c a k' c' a',(lineW (lineW [] k c a) k' c' a').length≤3:=fun k c a k' c' a'=>by
  have h1:=lineW_len [] k c a
  have h2:=lineW_len (lineW [] k c a) k' c' a'
  rw [List.length_nil] at h1
  omega
 have h3:∀ k c a k' c' a' k2 c2 a2,(lineW (lineW (lineW [] k c a) k' c' a') k2 c2 a2).length≤3:=fun k c a k' c' a' k2 c2 a2=>by
  have h1:=lineW_len [] k c a
  have h2:=lineW_len (lineW [] k c a) k' c' a'
  have h3:=lineW_len (lineW (lineW [] k c a) k' c' a') k2 c2 a2
  rw [List.length_nil] at h1
  omega
 have h4:([]:List Ln).length≤3:=Nat.zero_le _
 have step:∀ (p:Prop) [Decidable p] (x y:List Ln),x.length≤3→y.length≤3→(if p then x else y).length≤3:=fun p _ x y hx hy=>by split <;> assumption
 have hs:∀ (h:Htl) (g:Bool),(settleL h g []).length≤3:=fun h g=>by
  unfold settleL
  cases g
  ·exact h2 _ _ _ _ _ _
  ·exact h3 _ _ _ _ _ _ _ _ _
 have hl:∀ (c:Crc) (g:Bool),(landL c g []).length≤3:=fun c g=>by
  unfold landL
  cases g
  ·exact h2 _ _ _ _ _ _
  ·exact h3 _ _ _ _ _ _ _ _ _
 unfold evL
 exact step _ _ _ (h2 _ _ _ _ _ _) (step _ _ _ (h2 _ _ _ _ _ _) (step _ _ _ (h3 _ _ _ _ _ _ _ _ _) (step _ _ _ h4 (step _ _ _ (h2 _ _ _ _ _ _) (step _ _ _ (hs _ _) (step _ _ _ (hs _ _) (step _ _ _ h4 (step _ _ _ (h2 _ _ _ _ _ _) (step _ _ _ (hl _ _) (hl _ _))))))))))
end Go.Proofs.YtccdhcempnkgaaaGreatDoor
