/- The code of each kind of event on a right book, by the event's own checks. -/
import Derived.Test.YtccdhcempnkgaaaGreatDoorPL35
namespace Go.Proofs.YtccdhcempnkgaaaGreatDoor
open Go.RowKit Go.Deep
set_option linter.unusedVariables false
set_option linter.unusedSimpArgs false
set_option maxRecDepth 10000
theorem past_max {B:Bk} {k ch am fe:Int} (h:B.nx=1125899906842624):pastB B k ch am fe=true:=by unfold pastB;rw [if_pos h]
theorem app_no {B:Bk} {k ky ch tt am fe:Int} {ys:Bool} (h:evB k ky ch tt am fe ys=false):applyC B k ky ch tt am fe ys=1:=by unfold applyC;rw [if_pos h]
theorem app_max {B:Bk} {k ky ch tt am fe:Int} {ys:Bool} (h:evB k ky ch tt am fe ys=true) (hn:B.nx=1125899906842624):applyC B k ky ch tt am fe ys=2:=by
 unfold applyC;rw [if_neg (by rw [h];decide),if_pos (past_max hn)]
theorem app_go {B:Bk} {k ky ch tt am fe:Int} {ys:Bool} (h:evB k ky ch tt am fe ys=true) (hp:pastB B k ch am fe=false):applyC B k ky ch tt am fe ys=evC B k ky ch tt am fe ys:=by
 unfold applyC;rw [if_neg (by rw [h];decide),if_neg (by rw [hp];decide)]
theorem app_past {B:Bk} {k ky ch tt am fe:Int} {ys:Bool} (h:evB k ky ch tt am fe ys=true) (hp:pastB B k ch am fe=true):applyC B k ky ch tt am fe ys=2:=by
 unfold applyC;rw [if_neg (by rw [h];decide),if_pos hp]
theorem amtB_over {n:Int} (h:1125899906842624 < n):amtB n=false:=by
 simp only [amtB,Bool.and_eq_false_iff,decide_eq_false_iff_not];right;omega
theorem app1_no {B:Bk} {ky ch tt am fe:Int} {ys:Bool} (h:evB 1 ky ch tt am fe ys=true) (hn:B.nx≠1125899906842624) (hw:0≤B.wa∧B.wa≤1125899906842624) (ha:addB B.wa am=false):applyC B 1 ky ch tt am fe ys=2:=by
 have h1:=(evB_am h).1
 refine app_past h ?_
 unfold pastB
 rw [if_neg hn,if_pos rfl,decide_eq_true_eq]
 rcases Int.lt_or_le 1125899906842624 (B.wa+am) with q | q
 ·exact q
 ·exfalso
  have:addB B.wa am=true:=by
   simp only [addB,Bool.and_eq_true]
   exact ⟨⟨amtB_yes hw.1 hw.2,amtB_yes h1.1 h1.2⟩,amtB_yes (by omega) q⟩
  rw [this] at ha
  cases ha
theorem app1_yes {B:Bk} {ky ch tt am fe:Int} {ys:Bool} (h:evB 1 ky ch tt am fe ys=true) (hn:B.nx≠1125899906842624) (ha:addB B.wa am=true):applyC B 1 ky ch tt am fe ys=0:=by
 have h2:pastB B 1 ch am fe=false:=by
  unfold pastB
  rw [if_neg hn,if_pos rfl,decide_eq_false_iff_not]
  simp only [addB,Bool.and_eq_true] at ha
  have:=amtB_true ha.2
  omega
 rw [app_go h h2]
 rfl
theorem app2 {B:Bk} {ky ch tt am fe:Int} {ys:Bool} (h:evB 2 ky ch tt am fe ys=true) (hn:B.nx≠1125899906842624):applyC B 2 ky ch tt am fe ys=openC B ch am fe:=by
 cases hp:pastB B 2 ch am fe with
 | true =>
   rw [app_past h hp]
   unfold pastB at hp
   rw [if_neg hn,if_neg (by decide),if_pos rfl,decide_eq_true_eq] at hp
   have:addB am fe=false:=by unfold addB;rw [amtB_over hp,Bool.and_false]
   unfold openC
   rw [if_pos this]
 | false=>rw [app_go h hp];rfl
theorem app3_past {B:Bk} {ky ch tt am fe:Int} {ys:Bool} (h:evB 3 ky ch tt am fe ys=true) (hn:B.nx≠1125899906842624) (ha:atC B.C ch≠none) (hp:1125899906842624 < B.wa+loC B.C ch-fe):applyC B 3 ky ch tt am fe ys=2:=by
 refine app_past h ?_
 unfold pastB
 rw [if_neg hn,if_neg (by decide),if_neg (by decide),if_pos rfl]
 simp only [Bool.and_eq_true,decide_eq_true_eq]
 refine ⟨?_,hp⟩
 cases q:atC B.C ch with
 | none=>exact absurd q ha
 | some _=>rfl
theorem app3 {B:Bk} {ky ch tt am fe:Int} {ys:Bool} (h:evB 3 ky ch tt am fe ys=true) (hn:B.nx≠1125899906842624) (hp:atC B.C ch=none∨B.wa+loC B.C ch-fe≤1125899906842624):applyC B 3 ky ch tt am fe ys=closeC B ch fe:=by
 have h2:pastB B 3 ch am fe=false:=by
  unfold pastB
  rw [if_neg hn,if_neg (by decide),if_neg (by decide),if_pos rfl]
  rw [Bool.and_eq_false_iff]
  rcases hp with hp | hp
  ·left;rw [hp];rfl
  ·right;rw [decide_eq_false_iff_not];omega
 rw [app_go h h2];rfl
theorem app4 {B:Bk} {ky ch tt am fe:Int} {ys:Bool} (h:evB 4 ky ch tt am fe ys=true) (hn:B.nx≠1125899906842624):applyC B 4 ky ch tt am fe ys=priceK B ch:=by
 rw [app_go h (by unfold pastB;rw [if_neg hn];rfl)];rfl
theorem app5 {B:Bk} {ky ch tt am fe:Int} {ys:Bool} (h:evB 5 ky ch tt am fe ys=true) (hn:B.nx≠1125899906842624):applyC B 5 ky ch tt am fe ys=admitC B ky ch tt am ys:=by
 rw [app_go h (by unfold pastB;rw [if_neg hn];rfl)];rfl
theorem app6 {B:Bk} {ky ch tt am fe:Int} {ys:Bool} (h:evB 6 ky ch tt am fe ys=true) (hn:B.nx≠1125899906842624):applyC B 6 ky ch tt am fe ys=settleC B ky:=by
 rw [app_go h (by unfold pastB;rw [if_neg hn];rfl)];rfl
theorem app7 {B:Bk} {ky ch tt am fe:Int} {ys:Bool} (h:evB 7 ky ch tt am fe ys=true) (hn:B.nx≠1125899906842624):applyC B 7 ky ch tt am fe ys=settleC B ky:=by
 rw [app_go h (by unfold pastB;rw [if_neg hn];rfl)];rfl
theorem app8 {B:Bk} {ky ch tt am fe:Int} {ys:Bool} (h:evB 8 ky ch tt am fe ys=true) (hn:B.nx≠1125899906842624):applyC B 8 ky ch tt am fe ys=tickC B:=by
 cases hp:pastB B 8 ch am fe with
 | true =>
   rw [app_past h hp]
   unfold pastB at hp
   rw [if_neg hn,if_neg (by decide),if_neg (by decide),if_neg (by decide),if_pos rfl] at hp
   unfold tickC
   rw [if_pos (by simpa using hp)]
 | false=>rw [app_go h hp];rfl
theorem app9 {B:Bk} {ky ch tt am fe:Int} {ys:Bool} (h:evB 9 ky ch tt am fe ys=true) (hn:B.nx≠1125899906842624):applyC B 9 ky ch tt am fe ys=launchC B ky ch tt am fe:=by
 rw [app_go h (by unfold pastB;rw [if_neg hn];rfl)];rfl
theorem app10 {B:Bk} {ky ch tt am fe:Int} {ys:Bool} (h:evB 10 ky ch tt am fe ys=true) (hn:B.nx≠1125899906842624):applyC B 10 ky ch tt am fe ys=landC B ky:=by
 rw [app_go h (by unfold pastB;rw [if_neg hn];rfl)];rfl
theorem app11 {B:Bk} {ky ch tt am fe:Int} {ys:Bool} (h:evB 11 ky ch tt am fe ys=true) (hn:B.nx≠1125899906842624):applyC B 11 ky ch tt am fe ys=landC B ky:=by
 rw [app_go h (by unfold pastB;rw [if_neg hn];rfl)];rfl
end Go.Proofs.YtccdhcempnkgaaaGreatDoor
