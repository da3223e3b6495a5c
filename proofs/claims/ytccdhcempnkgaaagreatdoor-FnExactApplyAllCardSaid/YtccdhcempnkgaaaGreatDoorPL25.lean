/- Texts of the verifier, joined: Xe, Xh. -/
import Derived.Test.YtccdhcempnkgaaaGreatDoorPL24
import Derived.Test.YtccdhcempnkgaaaGreatDoorPL19
namespace Go.Proofs.YtccdhcempnkgaaaGreatDoor
open Go.RowKit Go.Deep
set_option linter.unusedVariables false
set_option linter.unusedSimpArgs false
set_option maxRecDepth 10000
theorem dropH (L:List Htl) (i:Nat):(hts L).drop (i*7)=hts (L.drop i):=by
 by_cases h:i≤L.length
 ·have e:hts L=hts (L.take i)++hts (L.drop i):=by rw [← hts_append,List.take_append_drop]
  have hl:(hts (L.take i)).length=i*7:=by rw [hts_len,List.length_take,Nat.min_eq_left h]
  rw [e,← hl,List.drop_left]
 ·rw [List.drop_of_length_le (by rw [hts_len];omega),List.drop_of_length_le (by omega)];rfl
theorem takeH (L:List Htl) (i:Nat) (h:i≤L.length):(hts L).take (i*7)=hts (L.take i):=by
 have e:hts L=hts (L.take i)++hts (L.drop i):=by rw [← hts_append,List.take_append_drop]
 have hl:(hts (L.take i)).length=i*7:=by rw [hts_len,List.length_take,Nat.min_eq_left h]
 rw [e,← hl,List.take_left]
set_option maxHeartbeats 4000000 in
theorem delH_impl (base g cap:Nat) (L:List Htl) (i:Nat) (hi:i < L.length) (hL:L.length≤1048576) (w:World) (h:OwnsHtlc w base (.slice (some ⟨g,0,none⟩) L.length cap) L) :
 Calls Tryz.prog 176 #[.slice (some ⟨g,0,none⟩) L.length cap,.int .i64 (i:Int),.int .i64 ((i:Int)+1)] w fun e w'=>e=.returned (.slice (some ⟨g,0,none⟩) (L.eraseIdx i).length cap)∧OwnsHtlc w' base (.slice (some ⟨g,0,none⟩) (L.eraseIdx i).length cap) (L.eraseIdx i)∧w.grownBy w' (some g):=by
 obtain ⟨hcap,hm⟩:=owns_cap h
 obtain ⟨n,hn⟩:∃ n,n=L.length:=⟨_,rfl⟩
 have hI:=infoHtlc
 cases hi0:Tryz.prog.info? 112 with
 | none=>rw [hi0] at hI;simp at hI
 | some i0 =>
 rw [hi0] at hI
 simp at hI
 obtain ⟨hz,hsz,hby⟩:=hI
 obtain ⟨news,hnews⟩:∃ news,news=hts (L.drop (i+1)):=⟨_,rfl⟩
 have hlen:news.length=(n-(i+1))*7:=by rw [hnews,hts_len,List.length_drop,hn]
 have hcells:∀ j,j < n*7→w.cell? ⟨g,j,none⟩=(hts L)[j]?:=fun j hj=>h.cellAt j (by rw [← hn];exact hj)
 obtain ⟨Ad,hA,hsrc⟩:∃ Ad:Addr,(if cap=i+1 then some (⟨g,0,none⟩:Addr) else some ⟨g,(i+1)*7,none⟩)=some Ad∧Hid (∀ t u,news[t]? = some u→w.drew.cell? (Ad.add t)=some u):=by
  by_cases he:cap=i+1
  ·refine ⟨⟨g,0,none⟩,by simp [he],fun t u hu=>?_⟩
   have h0:news.length=0:=by rw [hlen];omega
   rw [List.length_eq_zero_iff.1 h0] at hu
   simp at hu
  ·refine ⟨⟨g,(i+1)*7,none⟩,by simp [he],fun t u hu=>?_⟩
   have ht:t < news.length:=(List.getElem?_eq_some_iff.1 hu).1
   rw [hlen] at ht
   rw [addr_at]
   show w.cell? _=_
   rw [hcells _ (by omega),← hu,hnews,← dropH,List.getElem?_drop]
 have s1:Hid (news.length=(n-(i+1))*7):=hlen
 have s2:Hid (∀ u∈news,u.oneCell'=true):=fun u hu=>cell_one_Htlc (by rw [hnews] at hu;exact hu)
 have s3:Hid (∀ t,t < news.length→(w.drew.cell? ⟨g,0+i*7+t,none⟩).isSome=true∧w.drew.frozen? ⟨g,0+i*7+t,none⟩=false):=by
  intro t ht
  rw [hlen] at ht
  refine ⟨?_,h.frozenAt _⟩
  show (w.cell? _).isSome=true
  rw [hcells _ (by omega),List.getElem?_eq_getElem (by rw [hts_len,← hn];omega)];rfl
 have hd:OwnsHtlc w.drew base (.slice (some ⟨g,0,none⟩) L.length cap) L:=h.drew
 have h1:=owns_cells hd news (0+i*7)
 obtain ⟨W1,hW1⟩:∃ W1,W1=w.drew.setCells g (0+i*7) news:=⟨_,rfl⟩
 rw [← hW1] at h1
 have h2:=owns_cells h1.1 [.int .i64 0,.int .i64 0,.int .i64 0,.int .i64 0,.int .i64 0,.bool false,.int .i64 0] ((n-1)*7)
 have hcl:∀ ty,(Builtin.clear_ #[31] ty #[.slice (some ⟨g,(n-1)*7,none⟩) 1 (cap-(n-1))]).run Tryz.prog W1=.ok (.tuple #[]) (W1.setCells g ((n-1)*7) [.int .i64 0,.int .i64 0,.int .i64 0,.int .i64 0,.int .i64 0,.bool false,.int .i64 0]):=fun ty =>
  run_clear_one W1 _ _ ty _ underHtlcs Tryz.zeroValue112 [.int .i64 0,.int .i64 0,.int .i64 0,.int .i64 0,.int .i64 0,.bool false,.int .i64 0] rfl (by intro v hv;simp at hv;first | (rcases hv with rfl | rfl | rfl | rfl | rfl | rfl | rfl <;> rfl) | (rcases hv with rfl | rfl | rfl | rfl | rfl <;> rfl) | (rcases hv with rfl | rfl <;> rfl) | (subst hv;rfl)) g ((n-1)*7) (cap-(n-1))
   (fun j hj=>by
     have hj':j < 7:=by simpa using hj
     have:=h1.1.cellAt ((n-1)*7+j) (by rw [← hn];omega)
     rw [this,List.getElem?_eq_getElem (by rw [setL_len,hts_len,← hn];omega)];rfl) (fun j hj=>h1.1.frozenAt _)
 have HF:Hid (OwnsHtlc (W1.setCells g ((n-1)*7) [.int .i64 0,.int .i64 0,.int .i64 0,.int .i64 0,.int .i64 0,.bool false,.int .i64 0]) base (.slice (some ⟨g,0,none⟩) (L.eraseIdx i).length cap) (L.eraseIdx i)):=by
  have h3:=owns_cut h2.1 (m:=(L.eraseIdx i).length) (by rw [List.length_eraseIdx,if_pos hi];omega)
  have e:(setL (setL (hts L) (0+i*7) news) ((n-1)*7) [.int .i64 0,.int .i64 0,.int .i64 0,.int .i64 0,.int .i64 0,.bool false,.int .i64 0]).take ((L.eraseIdx i).length*7)=hts (L.eraseIdx i):=by
   have el:(L.eraseIdx i).length=n-1:=by rw [List.length_eraseIdx,if_pos hi,hn]
   rw [el,setL_take _ _ _ _ (Nat.le_refl _),setL_eq _ _ _ (by rw [hlen,hts_len,← hn];omega),Nat.zero_add,takeH L i (by omega),hnews,← hts_append,← List.eraseIdx_eq_take_drop_succ,List.take_append_of_le_length (by rw [hts_len,el];exact Nat.le_refl _),List.take_of_length_le (by rw [hts_len,el];exact Nat.le_refl _)]
  rw [e] at h3
  exact h3
 have HGr:Hid (w.grownBy (W1.setCells g ((n-1)*7) [.int .i64 0,.int .i64 0,.int .i64 0,.int .i64 0,.int .i64 0,.bool false,.int .i64 0]) (some g)):=(grown_keep (Keeps.refl w).drew (some g)).trans (h1.2.trans h2.2)
 have el:(L.eraseIdx i).length=n-1:=by rw [List.length_eraseIdx,if_pos hi,hn]
 have hic:i≤cap:=by omega
 have hjc:i+1≤cap:=by omega
 have hW:Hid (W1=w.drew.setCells g (0+i*7) news):=hW1
 rw [← hn] at hi hcap hL
 rw [el] at HF ⊢
 rw [← hn]
 clear hW1 h1 h2 hd hcells hlen hnews h hz hby el
 have hii:((i:Int)+1)=((i+1:Nat):Int):=by omega
 rw [hii]
 have hu:Tryz.prog.underlying 31=some (.slice 112):=underHtlcs
 obtain ⟨j,hj⟩:∃ j,j=i+1:=⟨_,rfl⟩
 rw [← hj] at hjc hA s1 ⊢
 have hij:i < j:=by omega
 have hjn:j≤n:=by omega
 have hne:((i:Int)==(j:Int))=false:=by simp;omega
 have hmm:cap≤9223372036854775807:=hm
 have hn1:i+(n-j)=n-1:=by omega
 have hn2:n-(n-1)=1:=by omega
 clear hii hm hn hj
 go_enter Tryz.func176,Tryz.ntmps176
 go_wp2_with fail
 go_region_law (refine step_append_room rfl (.tmp 22) (.tmp 25) 31 rfl 112 i0 7 hu hi0 hsz g 0 i cap (by simp [Act.eval,Act.put]) Ad (n-j) (cap-j) news (by simp [Act.eval,Act.put]) s1.out hsrc.out s2.out (by omega) s3.out ?_;rw [← hW.out])
 go_wp2_with fail
 go_ret
 exact ⟨rfl,HF.out,HGr.out⟩
theorem dropR (L:List Crc) (i:Nat):(crs L).drop (i*5)=crs (L.drop i):=by
 by_cases h:i≤L.length
 ·have e:crs L=crs (L.take i)++crs (L.drop i):=by rw [← crs_append,List.take_append_drop]
  have hl:(crs (L.take i)).length=i*5:=by rw [crs_len,List.length_take,Nat.min_eq_left h]
  rw [e,← hl,List.drop_left]
 ·rw [List.drop_of_length_le (by rw [crs_len];omega),List.drop_of_length_le (by omega)];rfl
theorem takeR (L:List Crc) (i:Nat) (h:i≤L.length):(crs L).take (i*5)=crs (L.take i):=by
 have e:crs L=crs (L.take i)++crs (L.drop i):=by rw [← crs_append,List.take_append_drop]
 have hl:(crs (L.take i)).length=i*5:=by rw [crs_len,List.length_take,Nat.min_eq_left h]
 rw [e,← hl,List.take_left]
set_option maxHeartbeats 4000000 in
theorem delR_impl (base g cap:Nat) (L:List Crc) (i:Nat) (hi:i < L.length) (hL:L.length≤1048576) (w:World) (h:OwnsCircle w base (.slice (some ⟨g,0,none⟩) L.length cap) L) :
 Calls Tryz.prog 184 #[.slice (some ⟨g,0,none⟩) L.length cap,.int .i64 (i:Int),.int .i64 ((i:Int)+1)] w fun e w'=>e=.returned (.slice (some ⟨g,0,none⟩) (L.eraseIdx i).length cap)∧OwnsCircle w' base (.slice (some ⟨g,0,none⟩) (L.eraseIdx i).length cap) (L.eraseIdx i)∧w.grownBy w' (some g):=by
 obtain ⟨hcap,hm⟩:=owns_cap h
 obtain ⟨n,hn⟩:∃ n,n=L.length:=⟨_,rfl⟩
 have hI:=infoCircle
 cases hi0:Tryz.prog.info? 115 with
 | none=>rw [hi0] at hI;simp at hI
 | some i0 =>
 rw [hi0] at hI
 simp at hI
 obtain ⟨hz,hsz,hby⟩:=hI
 obtain ⟨news,hnews⟩:∃ news,news=crs (L.drop (i+1)):=⟨_,rfl⟩
 have hlen:news.length=(n-(i+1))*5:=by rw [hnews,crs_len,List.length_drop,hn]
 have hcells:∀ j,j < n*5→w.cell? ⟨g,j,none⟩=(crs L)[j]?:=fun j hj=>h.cellAt j (by rw [← hn];exact hj)
 obtain ⟨Ad,hA,hsrc⟩:∃ Ad:Addr,(if cap=i+1 then some (⟨g,0,none⟩:Addr) else some ⟨g,(i+1)*5,none⟩)=some Ad∧Hid (∀ t u,news[t]? = some u→w.drew.cell? (Ad.add t)=some u):=by
  by_cases he:cap=i+1
  ·refine ⟨⟨g,0,none⟩,by simp [he],fun t u hu=>?_⟩
   have h0:news.length=0:=by rw [hlen];omega
   rw [List.length_eq_zero_iff.1 h0] at hu
   simp at hu
  ·refine ⟨⟨g,(i+1)*5,none⟩,by simp [he],fun t u hu=>?_⟩
   have ht:t < news.length:=(List.getElem?_eq_some_iff.1 hu).1
   rw [hlen] at ht
   rw [addr_at]
   show w.cell? _=_
   rw [hcells _ (by omega),← hu,hnews,← dropR,List.getElem?_drop]
 have s1:Hid (news.length=(n-(i+1))*5):=hlen
 have s2:Hid (∀ u∈news,u.oneCell'=true):=fun u hu=>cell_one_Circle (by rw [hnews] at hu;exact hu)
 have s3:Hid (∀ t,t < news.length→(w.drew.cell? ⟨g,0+i*5+t,none⟩).isSome=true∧w.drew.frozen? ⟨g,0+i*5+t,none⟩=false):=by
  intro t ht
  rw [hlen] at ht
  refine ⟨?_,h.frozenAt _⟩
  show (w.cell? _).isSome=true
  rw [hcells _ (by omega),List.getElem?_eq_getElem (by rw [crs_len,← hn];omega)];rfl
 have hd:OwnsCircle w.drew base (.slice (some ⟨g,0,none⟩) L.length cap) L:=h.drew
 have h1:=owns_cells hd news (0+i*5)
 obtain ⟨W1,hW1⟩:∃ W1,W1=w.drew.setCells g (0+i*5) news:=⟨_,rfl⟩
 rw [← hW1] at h1
 have h2:=owns_cells h1.1 [.int .i64 0,.int .i64 0,.int .i64 0,.int .i64 0,.int .i64 0] ((n-1)*5)
 have hcl:∀ ty,(Builtin.clear_ #[32] ty #[.slice (some ⟨g,(n-1)*5,none⟩) 1 (cap-(n-1))]).run Tryz.prog W1=.ok (.tuple #[]) (W1.setCells g ((n-1)*5) [.int .i64 0,.int .i64 0,.int .i64 0,.int .i64 0,.int .i64 0]):=fun ty =>
  run_clear_one W1 _ _ ty _ underCircles Tryz.zeroValue115 [.int .i64 0,.int .i64 0,.int .i64 0,.int .i64 0,.int .i64 0] rfl (by intro v hv;simp at hv;first | (rcases hv with rfl | rfl | rfl | rfl | rfl | rfl | rfl <;> rfl) | (rcases hv with rfl | rfl | rfl | rfl | rfl <;> rfl) | (rcases hv with rfl | rfl <;> rfl) | (subst hv;rfl)) g ((n-1)*5) (cap-(n-1))
   (fun j hj=>by
     have hj':j < 5:=by simpa using hj
     have:=h1.1.cellAt ((n-1)*5+j) (by rw [← hn];omega)
     rw [this,List.getElem?_eq_getElem (by rw [setL_len,crs_len,← hn];omega)];rfl) (fun j hj=>h1.1.frozenAt _)
 have HF:Hid (OwnsCircle (W1.setCells g ((n-1)*5) [.int .i64 0,.int .i64 0,.int .i64 0,.int .i64 0,.int .i64 0]) base (.slice (some ⟨g,0,none⟩) (L.eraseIdx i).length cap) (L.eraseIdx i)):=by
  have h3:=owns_cut h2.1 (m:=(L.eraseIdx i).length) (by rw [List.length_eraseIdx,if_pos hi];omega)
  have e:(setL (setL (crs L) (0+i*5) news) ((n-1)*5) [.int .i64 0,.int .i64 0,.int .i64 0,.int .i64 0,.int .i64 0]).take ((L.eraseIdx i).length*5)=crs (L.eraseIdx i):=by
   have el:(L.eraseIdx i).length=n-1:=by rw [List.length_eraseIdx,if_pos hi,hn]
   rw [el,setL_take _ _ _ _ (Nat.le_refl _),setL_eq _ _ _ (by rw [hlen,crs_len,← hn];omega),Nat.zero_add,takeR L i (by omega),hnews,← crs_append,← List.eraseIdx_eq_take_drop_succ,List.take_append_of_le_length (by rw [crs_len,el];exact Nat.le_refl _),List.take_of_length_le (by rw [crs_len,el];exact Nat.le_refl _)]
  rw [e] at h3
  exact h3
 have HGr:Hid (w.grownBy (W1.setCells g ((n-1)*5) [.int .i64 0,.int .i64 0,.int .i64 0,.int .i64 0,.int .i64 0]) (some g)):=(grown_keep (Keeps.refl w).drew (some g)).trans (h1.2.trans h2.2)
 have el:(L.eraseIdx i).length=n-1:=by rw [List.length_eraseIdx,if_pos hi,hn]
 have hic:i≤cap:=by omega
 have hjc:i+1≤cap:=by omega
 have hW:Hid (W1=w.drew.setCells g (0+i*5) news):=hW1
 rw [← hn] at hi hcap hL
 rw [el] at HF ⊢
 rw [← hn]
 clear hW1 h1 h2 hd hcells hlen hnews h hz hby el
 have hii:((i:Int)+1)=((i+1:Nat):Int):=by omega
 rw [hii]
 have hu:Tryz.prog.underlying 32=some (.slice 115):=underCircles
 obtain ⟨j,hj⟩:∃ j,j=i+1:=⟨_,rfl⟩
 rw [← hj] at hjc hA s1 ⊢
 have hij:i < j:=by omega
 have hjn:j≤n:=by omega
 have hne:((i:Int)==(j:Int))=false:=by simp;omega
 have hmm:cap≤9223372036854775807:=hm
 have hn1:i+(n-j)=n-1:=by omega
 have hn2:n-(n-1)=1:=by omega
 clear hii hm hn hj
 go_enter Tryz.func184,Tryz.ntmps184
 go_wp2_with fail
 go_region_law (refine step_append_room rfl (.tmp 22) (.tmp 25) 32 rfl 115 i0 5 hu hi0 hsz g 0 i cap (by simp [Act.eval,Act.put]) Ad (n-j) (cap-j) news (by simp [Act.eval,Act.put]) s1.out hsrc.out s2.out (by omega) s3.out ?_;rw [← hW.out])
 go_wp2_with fail
 go_ret
 exact ⟨rfl,HF.out,HGr.out⟩
end Go.Proofs.YtccdhcempnkgaaaGreatDoor
namespace Go.Proofs.YtccdhcempnkgaaaGreatDoor
open Go.RowKit Go.Deep
set_option linter.unusedVariables false
set_option linter.unusedSimpArgs false
set_option maxRecDepth 10000
theorem Turn.cut {fs gs:List Nat} {w w':World} (h:Turn (fs++gs) w w') (hg:∀ g∈gs,w.heap.size≤g):Turn fs w w' :=
 ⟨h.os,h.tape,h.output,h.size,fun k hk hn=>h.block k hk (fun hx=>by
  rcases List.mem_append.1 hx with hx | hx
  ·exact hn hx
  ·have:=hg k hx;omega)⟩
theorem res7x {w:World} {r:Nat} {t:TypeId} {f:Nat→Value} (h:w.rowIs r t 7 f) (v0 v1 v2 v3 v4 v5 v6:Value):((((((((w.setCell ⟨r,0,none⟩ v0).setCell ⟨r,1,none⟩ v1).setCell ⟨r,2,none⟩ v2).setCell ⟨r,3,none⟩ v3).setCell ⟨r,4,none⟩ v4).setCell ⟨r,5,none⟩ v5).setCell ⟨r,6,none⟩ v6).cell? ⟨r,0,none⟩=some v0∧(((((((w.setCell ⟨r,0,none⟩ v0).setCell ⟨r,1,none⟩ v1).setCell ⟨r,2,none⟩ v2).setCell ⟨r,3,none⟩ v3).setCell ⟨r,4,none⟩ v4).setCell ⟨r,5,none⟩ v5).setCell ⟨r,6,none⟩ v6).cell? ⟨r,1,none⟩=some v1∧(((((((w.setCell ⟨r,0,none⟩ v0).setCell ⟨r,1,none⟩ v1).setCell ⟨r,2,none⟩ v2).setCell ⟨r,3,none⟩ v3).setCell ⟨r,4,none⟩ v4).setCell ⟨r,5,none⟩ v5).setCell ⟨r,6,none⟩ v6).cell? ⟨r,2,none⟩=some v2∧(((((((w.setCell ⟨r,0,none⟩ v0).setCell ⟨r,1,none⟩ v1).setCell ⟨r,2,none⟩ v2).setCell ⟨r,3,none⟩ v3).setCell ⟨r,4,none⟩ v4).setCell ⟨r,5,none⟩ v5).setCell ⟨r,6,none⟩ v6).cell? ⟨r,3,none⟩=some v3∧(((((((w.setCell ⟨r,0,none⟩ v0).setCell ⟨r,1,none⟩ v1).setCell ⟨r,2,none⟩ v2).setCell ⟨r,3,none⟩ v3).setCell ⟨r,4,none⟩ v4).setCell ⟨r,5,none⟩ v5).setCell ⟨r,6,none⟩ v6).cell? ⟨r,4,none⟩=some v4∧(((((((w.setCell ⟨r,0,none⟩ v0).setCell ⟨r,1,none⟩ v1).setCell ⟨r,2,none⟩ v2).setCell ⟨r,3,none⟩ v3).setCell ⟨r,4,none⟩ v4).setCell ⟨r,5,none⟩ v5).setCell ⟨r,6,none⟩ v6).cell? ⟨r,5,none⟩=some v5∧(((((((w.setCell ⟨r,0,none⟩ v0).setCell ⟨r,1,none⟩ v1).setCell ⟨r,2,none⟩ v2).setCell ⟨r,3,none⟩ v3).setCell ⟨r,4,none⟩ v4).setCell ⟨r,5,none⟩ v5).setCell ⟨r,6,none⟩ v6).cell? ⟨r,6,none⟩=some v6)∧Turn [r] w (((((((w.setCell ⟨r,0,none⟩ v0).setCell ⟨r,1,none⟩ v1).setCell ⟨r,2,none⟩ v2).setCell ⟨r,3,none⟩ v3).setCell ⟨r,4,none⟩ v4).setCell ⟨r,5,none⟩ v5).setCell ⟨r,6,none⟩ v6):=⟨rw7_cells (rw7_set h v0 v1 v2 v3 v4 v5 v6),rw7_turn w r v0 v1 v2 v3 v4 v5 v6⟩
theorem res5x {w:World} {r:Nat} {t:TypeId} {f:Nat→Value} (h:w.rowIs r t 5 f) (v0 v1 v2 v3 v4:Value):((((((w.setCell ⟨r,0,none⟩ v0).setCell ⟨r,1,none⟩ v1).setCell ⟨r,2,none⟩ v2).setCell ⟨r,3,none⟩ v3).setCell ⟨r,4,none⟩ v4).cell? ⟨r,0,none⟩=some v0∧(((((w.setCell ⟨r,0,none⟩ v0).setCell ⟨r,1,none⟩ v1).setCell ⟨r,2,none⟩ v2).setCell ⟨r,3,none⟩ v3).setCell ⟨r,4,none⟩ v4).cell? ⟨r,1,none⟩=some v1∧(((((w.setCell ⟨r,0,none⟩ v0).setCell ⟨r,1,none⟩ v1).setCell ⟨r,2,none⟩ v2).setCell ⟨r,3,none⟩ v3).setCell ⟨r,4,none⟩ v4).cell? ⟨r,2,none⟩=some v2∧(((((w.setCell ⟨r,0,none⟩ v0).setCell ⟨r,1,none⟩ v1).setCell ⟨r,2,none⟩ v2).setCell ⟨r,3,none⟩ v3).setCell ⟨r,4,none⟩ v4).cell? ⟨r,3,none⟩=some v3∧(((((w.setCell ⟨r,0,none⟩ v0).setCell ⟨r,1,none⟩ v1).setCell ⟨r,2,none⟩ v2).setCell ⟨r,3,none⟩ v3).setCell ⟨r,4,none⟩ v4).cell? ⟨r,4,none⟩=some v4)∧Turn [r] w (((((w.setCell ⟨r,0,none⟩ v0).setCell ⟨r,1,none⟩ v1).setCell ⟨r,2,none⟩ v2).setCell ⟨r,3,none⟩ v3).setCell ⟨r,4,none⟩ v4):=⟨rw5_cells (rw5_set h v0 v1 v2 v3 v4),rw5_turn w r v0 v1 v2 v3 v4⟩
set_option maxHeartbeats 4000000 in
theorem takeHtlc_none (p:Nat) (B:Bo) (ky:Int) (w:World) (hb:BookAt w p B) (hm:Mem w B.segs) (hl:B.len) (hf:findH ky B.Hs=none) :
 Calls Tryz.prog 147 #[.pointer (some ⟨p,0,none⟩),.int .i64 ky] w fun e w'=>e=.returned (.tuple #[htV ⟨0,0,0,0,0,false,0⟩,.bool false])∧Keeps w w':=by
 have H1:=hide (fun w' (hk:Keeps w w')=>htlcAt_impl p B.ha B.hc B.Hs ky w' ((hb.kept hk).2.2.2.2.1) (Bo.memH (hm.kept hk)) hl.2.1)
 rw [hf] at H1
 have HKr:=hide (Keeps.alloc (Keeps.refl w) (.cells #[.int .i64 0,.int .i64 0,.int .i64 0,.int .i64 0,.int .i64 0,.bool false,.int .i64 0] 112))
 have HRr:=hide (rw7_new w (.int .i64 0) (.int .i64 0) (.int .i64 0) (.int .i64 0) (.int .i64 0) (.bool false) (.int .i64 0) 112)
 clear hb hm hl hf
 go_enter Tryz.func147,Tryz.ntmps147
 go_upto_region 1 with fail
 generalize (w.alloc (.cells #[.int .i64 0,.int .i64 0,.int .i64 0,.int .i64 0,.int .i64 0,.bool false,.int .i64 0] 112))=W0 at *
 go_wp2_with fail
 refine (unhide H1 W0 HKr.out).mono ?_
 rintro e w1 ⟨rfl,hk1⟩
 simp only [idxI]
 replace HRr:=hide (hk1.rowK HRr.out)
 replace HKr:=hide (HKr.out.trans hk1)
 clear hk1 H1
 have r0:=HRr.out.cell (i:=0) (by decide)
 have f0:=HRr.out.frozen 0
 have r1:=HRr.out.cell (i:=1) (by decide)
 have f1:=HRr.out.frozen 1
 have r2:=HRr.out.cell (i:=2) (by decide)
 have f2:=HRr.out.frozen 2
 have r3:=HRr.out.cell (i:=3) (by decide)
 have f3:=HRr.out.frozen 3
 have r4:=HRr.out.cell (i:=4) (by decide)
 have f4:=HRr.out.frozen 4
 have r5:=HRr.out.cell (i:=5) (by decide)
 have f5:=HRr.out.frozen 5
 have r6:=HRr.out.cell (i:=6) (by decide)
 have f6:=HRr.out.frozen 6
 have rl:=HRr.out.lt
 go_wp2_with fail
 obtain ⟨⟨p0,p1,p2,p3,p4,p5,p6⟩,HF⟩:=res7x HRr.out (.int .i64 0) (.int .i64 0) (.int .i64 0) (.int .i64 0) (.int .i64 0) (.bool false) (.int .i64 0)
 clear r0 f0 r1 f1 r2 f2 r3 f3 r4 f4 r5 f5 r6 f6 rl
 refine bodyPost_ret (v:=.tuple #[.agg #[.int .i64 0,.int .i64 0,.int .i64 0,.int .i64 0,.int .i64 0,.bool false,.int .i64 0],.bool false]) ?_ rfl ?_
 ·clear HF
  revert p0 p1 p2 p3 p4 p5 p6
  generalize World.setCell (World.setCell _ _ _) _ _=WW
  intro p0 p1 p2 p3 p4 p5 p6
  simp [results,Tryz.results147,go_sem,p0,p1,p2,p3,p4,p5,p6]
 exact ⟨rfl,HF.keeps HKr.out (fun b hb=>by rw [List.mem_singleton.1 hb];exact Nat.le_refl _)⟩
set_option maxHeartbeats 8000000 in
theorem takeHtlc_some (W:Wf) (w:World) (p:Nat) (tk nx wa:Int) (ca:Option Addr) (cc:Nat) (C:List Chn) (ha:Option Addr) (hc:Nat) (Hs:List Htl) (ra:Option Addr) (rc:Nat) (R:List Crc) (h:BoAt W w p ⟨tk,nx,wa,ca,cc,C,ha,hc,Hs,ra,rc,R⟩) (ky:Int) (i:Nat) (hf:findH ky Hs=some i) (hi:i < Hs.length) (hL:Hs.length≤1048576) :
 Calls Tryz.prog 147 #[.pointer (some ⟨p,0,none⟩),.int .i64 ky] w fun e w'=>e=.returned (.tuple #[htV Hs[i],.bool true])∧BoAt W w' p ⟨tk,nx,wa,ca,cc,C,ha,hc,Hs.eraseIdx i,ra,rc,R⟩∧Turn (p :: lb ha) w w':=by
 have H1:=hide (fun w' (hk:Keeps w w')=>htlcAt_impl p ha hc Hs ky w' ((h.kept hk).cells.2.2.2.2.1) (Bo.memH (h.kept hk).mem) hL)
 rw [hf] at H1
 obtain ⟨g,eg⟩:∃ g,ha=some ⟨g,0,none⟩:=by
  obtain ⟨g,cap,e,-⟩:=h.oH.form (show 0 < Hs.length by omega)
  injection e with e _ _
  exact ⟨g,e⟩
 subst eg
 have HKr:=hide (Keeps.alloc (Keeps.refl w) (.cells #[.int .i64 0,.int .i64 0,.int .i64 0,.int .i64 0,.int .i64 0,.bool false,.int .i64 0] 112))
 have HRr:=hide (rw7_new w (.int .i64 0) (.int .i64 0) (.int .i64 0) (.int .i64 0) (.int .i64 0) (.bool false) (.int .i64 0) 112)
 have HB:=hide (h.kept HKr.out)
 have HPT:=hide h.row.lt
 have HGT:=hide (owns_lb h.oH g (by simp [lb])).2
 have HWT:=hide h.keep.size
 have HLB:=hide (And.intro (fun q hq=>(owns_lb h.oC q hq).2) (And.intro (fun q hq=>(owns_lb h.oH q hq).2) (fun q hq=>(owns_lb h.oR q hq).2)))
 clear h hf
 obtain ⟨x,hx⟩:∃ x,x=Hs[i]:=⟨_,rfl⟩
 rw [← hx]
 have HX:=hide hx
 clear hx
 obtain ⟨x0,x1,x2,x3,x4,x5,x6⟩:=x
 have hneg:decide ((i:Int) < 0)=false:=by simp
 go_enter Tryz.func147,Tryz.ntmps147
 go_upto_region 1 with fail
 generalize (w.alloc (.cells #[.int .i64 0,.int .i64 0,.int .i64 0,.int .i64 0,.int .i64 0,.bool false,.int .i64 0] 112))=W0 at *
 go_wp2_with fail
 refine (unhide H1 W0 HKr.out).mono ?_
 rintro e w1 ⟨rfl,hk1⟩
 simp only [idxI]
 replace HRr:=hide (hk1.rowK HRr.out)
 replace HKr:=hide (HKr.out.trans hk1)
 replace HB:=hide (HB.out.kept hk1)
 clear hk1 H1
 have b4:=HB.out.cells.2.2.2.2.1
 dsimp only at b4
 obtain ⟨c0,c1,c2,c3,c4,c5,c6⟩:=HB.out.oH.at i hi
 rw [← HX.out] at c0 c1 c2 c3 c4 c5 c6
 dsimp only at c0 c1 c2 c3 c4 c5 c6
 have hbd:i*7+7≤Hs.length*7:=by omega
 go_upto_region 5 with fail
 have HV:=hide (rw7_new w1 (.int .i64 x0) (.int .i64 x1) (.int .i64 x2) (.int .i64 x3) (.int .i64 x4) (.bool x5) (.int .i64 x6) 112)
 have HKv:=hide (Keeps.alloc (Keeps.refl w1) (.cells #[.int .i64 x0,.int .i64 x1,.int .i64 x2,.int .i64 x3,.int .i64 x4,.bool x5,.int .i64 x6] 112))
 have hvs:w1.heap.size≠w.heap.size∧w1.heap.size≠p∧w1.heap.size≠g:=by have:=HRr.out.lt;have:=HPT.out;have:=HGT.out;have:=HKr.out.size;omega
 replace HRr:=hide (HKv.out.rowK HRr.out)
 replace HKr:=hide (HKr.out.trans HKv.out)
 replace HB:=hide (HB.out.kept HKv.out)
 generalize (w1.alloc (.cells #[.int .i64 x0,.int .i64 x1,.int .i64 x2,.int .i64 x3,.int .i64 x4,.bool x5,.int .i64 x6] 112))=w2 at *
 generalize w1.heap.size=vb at *
 clear HKv b4 c0 c1 c2 c3 c4 c5 c6 hneg
 have b4:=HB.out.cells.2.2.2.2.1
 dsimp only at b4
 go_wp2_with fail
 refine (delH_impl 0 g hc Hs i hi hL w2 HB.out.oH).mono ?_
 rintro e w3 ⟨rfl,ho,hgr⟩
 have hpg:p≠g∧w.heap.size≠g∧w.heap.size≠p:=by have:=HPT.out;have:=HGT.out;refine ⟨fun e=>?_,by omega,by omega⟩;exact HB.out.np.2.1 (by simp [lb,e])
 have HN:=hide (HB.out.newH (grown_turn hgr) ho (fun q hq=>Or.inl hq))
 have HTw:Hid (Turn [p,g] w (w3.setCell ⟨p,4,none⟩ (.slice (some ⟨g,0,none⟩) (Hs.eraseIdx i).length hc))):=((Turn.of_keeps HKr.out [p,g]).trans' ((grown_turn hgr).mono (by simp))).trans' (Turn.set (by simp) _)
 replace HRr:=hide (row_turn (row_turn HRr.out (grown_turn hgr) (by simpa using hpg.2.1)) (Turn.set (fs:=[p]) (a:=⟨p,4,none⟩) (by simp) (.slice (some ⟨g,0,none⟩) (Hs.eraseIdx i).length hc)) (by simpa using hpg.2.2))
 replace HV:=hide (row_turn (row_turn HV.out (grown_turn hgr) (by simpa using hvs.2.2)) (Turn.set (fs:=[p]) (a:=⟨p,4,none⟩) (by simp) (.slice (some ⟨g,0,none⟩) (Hs.eraseIdx i).length hc)) (by simpa using hvs.2.1))
 have d4:=HN.out.2.cell (i:=4) (by decide)
 have g4:=HN.out.2.frozen 4
 have l4:=HN.out.2.lt
 replace HN:=hide HN.out.1
 clear b4 ho hgr HB
 generalize (Hs.eraseIdx i).length=n1 at *
 go_upto_region 6 with fail
 generalize w3.setCell ⟨p,4,none⟩ (.slice (some ⟨g,0,none⟩) n1 hc)=w4 at *
 clear d4 g4 l4
 obtain ⟨y0,y1,y2,y3,y4,y5,y6⟩:=rw7_cells HV.out
 clear HV
 have r0:=HRr.out.cell (i:=0) (by decide)
 have f0:=HRr.out.frozen 0
 have r1:=HRr.out.cell (i:=1) (by decide)
 have f1:=HRr.out.frozen 1
 have r2:=HRr.out.cell (i:=2) (by decide)
 have f2:=HRr.out.frozen 2
 have r3:=HRr.out.cell (i:=3) (by decide)
 have f3:=HRr.out.frozen 3
 have r4:=HRr.out.cell (i:=4) (by decide)
 have f4:=HRr.out.frozen 4
 have r5:=HRr.out.cell (i:=5) (by decide)
 have f5:=HRr.out.frozen 5
 have r6:=HRr.out.cell (i:=6) (by decide)
 have f6:=HRr.out.frozen 6
 have rl:=HRr.out.lt
 go_wp2_with fail
 obtain ⟨⟨p0,p1,p2,p3,p4,p5,p6⟩,HF⟩:=res7x HRr.out (.int .i64 x0) (.int .i64 x1) (.int .i64 x2) (.int .i64 x3) (.int .i64 x4) (.bool x5) (.int .i64 x6)
 clear r0 f0 r1 f1 r2 f2 r3 f3 r4 f4 r5 f5 r6 f6 rl
 refine bodyPost_ret (v:=.tuple #[.agg #[.int .i64 x0,.int .i64 x1,.int .i64 x2,.int .i64 x3,.int .i64 x4,.bool x5,.int .i64 x6],.bool true]) ?_ rfl ?_
 ·clear HF
  revert p0 p1 p2 p3 p4 p5 p6
  generalize World.setCell (World.setCell _ _ _) _ _=WW
  intro p0 p1 p2 p3 p4 p5 p6
  simp [results,Tryz.results147,go_sem,p0,p1,p2,p3,p4,p5,p6]
 refine ⟨rfl,?_,?_⟩
 ·refine HN.out.turn HF (fun b hb=>?_) ?_ ?_ ?_ ?_
  ·rw [List.mem_singleton.1 hb];exact .inr HWT.out
  ·simp;omega
  ·intro q hq hx;have:=HLB.out.1 q hq;rw [List.mem_singleton.1 hx] at this;omega
  ·intro q hq hx;have:=HLB.out.2.1 q hq;rw [List.mem_singleton.1 hx] at this;omega
  ·intro q hq hx;have:=HLB.out.2.2 q hq;rw [List.mem_singleton.1 hx] at this;omega
 ·exact (HTw.out.trans HF).cut (fun q hq=>by rw [List.mem_singleton.1 hq];exact Nat.le_refl _)
set_option maxHeartbeats 4000000 in
theorem takeCircle_none (p:Nat) (B:Bo) (ky:Int) (w:World) (hb:BookAt w p B) (hm:Mem w B.segs) (hl:B.len) (hf:findR ky B.R=none) :
 Calls Tryz.prog 152 #[.pointer (some ⟨p,0,none⟩),.int .i64 ky] w fun e w'=>e=.returned (.tuple #[crV ⟨0,0,0,0,0⟩,.bool false])∧Keeps w w':=by
 have H1:=hide (fun w' (hk:Keeps w w')=>circleAt_impl p B.ra B.rc B.R ky w' ((hb.kept hk).2.2.2.2.2) (Bo.memR (hm.kept hk)) hl.2.2)
 rw [hf] at H1
 have HKr:=hide (Keeps.alloc (Keeps.refl w) (.cells #[.int .i64 0,.int .i64 0,.int .i64 0,.int .i64 0,.int .i64 0] 115))
 have HRr:=hide (rw5_new w (.int .i64 0) (.int .i64 0) (.int .i64 0) (.int .i64 0) (.int .i64 0) 115)
 clear hb hm hl hf
 go_enter Tryz.func152,Tryz.ntmps152
 go_upto_region 1 with fail
 generalize (w.alloc (.cells #[.int .i64 0,.int .i64 0,.int .i64 0,.int .i64 0,.int .i64 0] 115))=W0 at *
 go_wp2_with fail
 refine (unhide H1 W0 HKr.out).mono ?_
 rintro e w1 ⟨rfl,hk1⟩
 simp only [idxI]
 replace HRr:=hide (hk1.rowK HRr.out)
 replace HKr:=hide (HKr.out.trans hk1)
 clear hk1 H1
 have r0:=HRr.out.cell (i:=0) (by decide)
 have f0:=HRr.out.frozen 0
 have r1:=HRr.out.cell (i:=1) (by decide)
 have f1:=HRr.out.frozen 1
 have r2:=HRr.out.cell (i:=2) (by decide)
 have f2:=HRr.out.frozen 2
 have r3:=HRr.out.cell (i:=3) (by decide)
 have f3:=HRr.out.frozen 3
 have r4:=HRr.out.cell (i:=4) (by decide)
 have f4:=HRr.out.frozen 4
 have rl:=HRr.out.lt
 go_wp2_with fail
 obtain ⟨⟨p0,p1,p2,p3,p4⟩,HF⟩:=res5x HRr.out (.int .i64 0) (.int .i64 0) (.int .i64 0) (.int .i64 0) (.int .i64 0)
 clear r0 f0 r1 f1 r2 f2 r3 f3 r4 f4 rl
 refine bodyPost_ret (v:=.tuple #[.agg #[.int .i64 0,.int .i64 0,.int .i64 0,.int .i64 0,.int .i64 0],.bool false]) ?_ rfl ?_
 ·clear HF
  revert p0 p1 p2 p3 p4
  generalize World.setCell (World.setCell _ _ _) _ _=WW
  intro p0 p1 p2 p3 p4
  simp [results,Tryz.results152,go_sem,p0,p1,p2,p3,p4]
 exact ⟨rfl,HF.keeps HKr.out (fun b hb=>by rw [List.mem_singleton.1 hb];exact Nat.le_refl _)⟩
set_option maxHeartbeats 8000000 in
theorem takeCircle_some (W:Wf) (w:World) (p:Nat) (tk nx wa:Int) (ca:Option Addr) (cc:Nat) (C:List Chn) (ha:Option Addr) (hc:Nat) (Hs:List Htl) (ra:Option Addr) (rc:Nat) (R:List Crc) (h:BoAt W w p ⟨tk,nx,wa,ca,cc,C,ha,hc,Hs,ra,rc,R⟩) (ky:Int) (i:Nat) (hf:findR ky R=some i) (hi:i < R.length) (hL:R.length≤1048576) :
 Calls Tryz.prog 152 #[.pointer (some ⟨p,0,none⟩),.int .i64 ky] w fun e w'=>e=.returned (.tuple #[crV R[i],.bool true])∧BoAt W w' p ⟨tk,nx,wa,ca,cc,C,ha,hc,Hs,ra,rc,R.eraseIdx i⟩∧Turn (p :: lb ra) w w':=by
 have H1:=hide (fun w' (hk:Keeps w w')=>circleAt_impl p ra rc R ky w' ((h.kept hk).cells.2.2.2.2.2) (Bo.memR (h.kept hk).mem) hL)
 rw [hf] at H1
 obtain ⟨g,eg⟩:∃ g,ra=some ⟨g,0,none⟩:=by
  obtain ⟨g,cap,e,-⟩:=h.oR.form (show 0 < R.length by omega)
  injection e with e _ _
  exact ⟨g,e⟩
 subst eg
 have HKr:=hide (Keeps.alloc (Keeps.refl w) (.cells #[.int .i64 0,.int .i64 0,.int .i64 0,.int .i64 0,.int .i64 0] 115))
 have HRr:=hide (rw5_new w (.int .i64 0) (.int .i64 0) (.int .i64 0) (.int .i64 0) (.int .i64 0) 115)
 have HB:=hide (h.kept HKr.out)
 have HPT:=hide h.row.lt
 have HGT:=hide (owns_lb h.oR g (by simp [lb])).2
 have HWT:=hide h.keep.size
 have HLB:=hide (And.intro (fun q hq=>(owns_lb h.oC q hq).2) (And.intro (fun q hq=>(owns_lb h.oH q hq).2) (fun q hq=>(owns_lb h.oR q hq).2)))
 clear h hf
 obtain ⟨x,hx⟩:∃ x,x=R[i]:=⟨_,rfl⟩
 rw [← hx]
 have HX:=hide hx
 clear hx
 obtain ⟨x0,x1,x2,x3,x4⟩:=x
 have hneg:decide ((i:Int) < 0)=false:=by simp
 go_enter Tryz.func152,Tryz.ntmps152
 go_upto_region 1 with fail
 generalize (w.alloc (.cells #[.int .i64 0,.int .i64 0,.int .i64 0,.int .i64 0,.int .i64 0] 115))=W0 at *
 go_wp2_with fail
 refine (unhide H1 W0 HKr.out).mono ?_
 rintro e w1 ⟨rfl,hk1⟩
 simp only [idxI]
 replace HRr:=hide (hk1.rowK HRr.out)
 replace HKr:=hide (HKr.out.trans hk1)
 replace HB:=hide (HB.out.kept hk1)
 clear hk1 H1
 have b4:=HB.out.cells.2.2.2.2.2
 dsimp only at b4
 obtain ⟨c0,c1,c2,c3,c4⟩:=HB.out.oR.at i hi
 rw [← HX.out] at c0 c1 c2 c3 c4
 dsimp only at c0 c1 c2 c3 c4
 have hbd:i*5+5≤R.length*5:=by omega
 go_upto_region 5 with fail
 have HV:=hide (rw5_new w1 (.int .i64 x0) (.int .i64 x1) (.int .i64 x2) (.int .i64 x3) (.int .i64 x4) 115)
 have HKv:=hide (Keeps.alloc (Keeps.refl w1) (.cells #[.int .i64 x0,.int .i64 x1,.int .i64 x2,.int .i64 x3,.int .i64 x4] 115))
 have hvs:w1.heap.size≠w.heap.size∧w1.heap.size≠p∧w1.heap.size≠g:=by have:=HRr.out.lt;have:=HPT.out;have:=HGT.out;have:=HKr.out.size;omega
 replace HRr:=hide (HKv.out.rowK HRr.out)
 replace HKr:=hide (HKr.out.trans HKv.out)
 replace HB:=hide (HB.out.kept HKv.out)
 generalize (w1.alloc (.cells #[.int .i64 x0,.int .i64 x1,.int .i64 x2,.int .i64 x3,.int .i64 x4] 115))=w2 at *
 generalize w1.heap.size=vb at *
 clear HKv b4 c0 c1 c2 c3 c4 hneg
 have b4:=HB.out.cells.2.2.2.2.2
 dsimp only at b4
 go_wp2_with fail
 refine (delR_impl 0 g rc R i hi hL w2 HB.out.oR).mono ?_
 rintro e w3 ⟨rfl,ho,hgr⟩
 have hpg:p≠g∧w.heap.size≠g∧w.heap.size≠p:=by have:=HPT.out;have:=HGT.out;refine ⟨fun e=>?_,by omega,by omega⟩;exact HB.out.np.2.2 (by simp [lb,e])
 have HN:=hide (HB.out.newR (grown_turn hgr) ho (fun q hq=>Or.inl hq))
 have HTw:Hid (Turn [p,g] w (w3.setCell ⟨p,5,none⟩ (.slice (some ⟨g,0,none⟩) (R.eraseIdx i).length rc))):=((Turn.of_keeps HKr.out [p,g]).trans' ((grown_turn hgr).mono (by simp))).trans' (Turn.set (by simp) _)
 replace HRr:=hide (row_turn (row_turn HRr.out (grown_turn hgr) (by simpa using hpg.2.1)) (Turn.set (fs:=[p]) (a:=⟨p,5,none⟩) (by simp) (.slice (some ⟨g,0,none⟩) (R.eraseIdx i).length rc)) (by simpa using hpg.2.2))
 replace HV:=hide (row_turn (row_turn HV.out (grown_turn hgr) (by simpa using hvs.2.2)) (Turn.set (fs:=[p]) (a:=⟨p,5,none⟩) (by simp) (.slice (some ⟨g,0,none⟩) (R.eraseIdx i).length rc)) (by simpa using hvs.2.1))
 have d4:=HN.out.2.cell (i:=5) (by decide)
 have g4:=HN.out.2.frozen 5
 have l4:=HN.out.2.lt
 replace HN:=hide HN.out.1
 clear b4 ho hgr HB
 generalize (R.eraseIdx i).length=n1 at *
 go_upto_region 6 with fail
 generalize w3.setCell ⟨p,5,none⟩ (.slice (some ⟨g,0,none⟩) n1 rc)=w4 at *
 clear d4 g4 l4
 obtain ⟨y0,y1,y2,y3,y4⟩:=rw5_cells HV.out
 clear HV
 have r0:=HRr.out.cell (i:=0) (by decide)
 have f0:=HRr.out.frozen 0
 have r1:=HRr.out.cell (i:=1) (by decide)
 have f1:=HRr.out.frozen 1
 have r2:=HRr.out.cell (i:=2) (by decide)
 have f2:=HRr.out.frozen 2
 have r3:=HRr.out.cell (i:=3) (by decide)
 have f3:=HRr.out.frozen 3
 have r4:=HRr.out.cell (i:=4) (by decide)
 have f4:=HRr.out.frozen 4
 have rl:=HRr.out.lt
 go_wp2_with fail
 obtain ⟨⟨p0,p1,p2,p3,p4⟩,HF⟩:=res5x HRr.out (.int .i64 x0) (.int .i64 x1) (.int .i64 x2) (.int .i64 x3) (.int .i64 x4)
 clear r0 f0 r1 f1 r2 f2 r3 f3 r4 f4 rl
 refine bodyPost_ret (v:=.tuple #[.agg #[.int .i64 x0,.int .i64 x1,.int .i64 x2,.int .i64 x3,.int .i64 x4],.bool true]) ?_ rfl ?_
 ·clear HF
  revert p0 p1 p2 p3 p4
  generalize World.setCell (World.setCell _ _ _) _ _=WW
  intro p0 p1 p2 p3 p4
  simp [results,Tryz.results152,go_sem,p0,p1,p2,p3,p4]
 refine ⟨rfl,?_,?_⟩
 ·refine HN.out.turn HF (fun b hb=>?_) ?_ ?_ ?_ ?_
  ·rw [List.mem_singleton.1 hb];exact .inr HWT.out
  ·simp;omega
  ·intro q hq hx;have:=HLB.out.1 q hq;rw [List.mem_singleton.1 hx] at this;omega
  ·intro q hq hx;have:=HLB.out.2.1 q hq;rw [List.mem_singleton.1 hx] at this;omega
  ·intro q hq hx;have:=HLB.out.2.2 q hq;rw [List.mem_singleton.1 hx] at this;omega
 ·exact (HTw.out.trans HF).cut (fun q hq=>by rw [List.mem_singleton.1 hq];exact Nat.le_refl _)
end Go.Proofs.YtccdhcempnkgaaaGreatDoor
