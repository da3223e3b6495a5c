/- Texts of the verifier, joined: FeesK, Fees2K. -/
import Derived.Test.YtccdhcempnkgaaaGreatDoorPL20
namespace Go.Proofs.YtccdhcempnkgaaaGreatDoor
open Go.RowKit
set_option linter.unusedVariables false
def divB (a b c:Int):Bool:=amtB a && amtB b && (decide (1≤c) && decide (c≤1125899906842624)) && decide (a*b / c≤1125899906842624)
theorem divB_true {a b c:Int} (h:divB a b c=true):amtB a=true∧amtB b=true∧1≤c∧c≤1125899906842624∧a*b / c≤1125899906842624:=by
 simp [divB] at h;exact ⟨h.1.1.1,h.1.1.2,h.1.2.1,h.1.2.2,h.2⟩
theorem hi_lo (X:Int):X / 18446744073709551616*18446744073709551616+X % 18446744073709551616=X:=by omega
theorem hi_small {X c:Int} (c0:1≤c) (h:X / c≤1125899906842624):X / 18446744073709551616 < c:=by
 have h1:X < (1125899906842624+1)*c:=by rw [← Int.ediv_lt_iff_lt_mul (by omega)];omega
 rw [Int.ediv_lt_iff_lt_mul (by omega)];omega
theorem divide_ok (a b c:Int) (w:World) (h:divB a b c=true) :
 Calls Tryz.prog 223 #[.int .i64 a,.int .i64 b,.int .i64 c] w fun e w'=>e=.returned (.tuple #[.int .i64 (a*b / c),.int .i64 (a*b % c),.nilIface])∧Keeps w w':=by
 obtain ⟨ha,hb,c0,c1,hm⟩:=divB_true h
 obtain ⟨a0,a1⟩:=amtB_true ha
 obtain ⟨b0,b1⟩:=amtB_true hb
 have p0:0≤a*b:=Int.mul_nonneg a0 b0
 have q0:0≤a*b / c:=Int.ediv_nonneg p0 (by omega)
 have r0:=Int.emod_nonneg (a*b) (show c≠0 by omega)
 have r1:=Int.emod_lt_of_pos (a*b) (show 0 < c by omega)
 have hs:=hi_small c0 hm
 have e:=hi_lo (a*b)
 have H1:Hid ((a*b / 18446744073709551616*18446744073709551616+a*b % 18446744073709551616) / c=a*b / c):=by show _=_;rw [e]
 have H2:Hid ((a*b / 18446744073709551616*18446744073709551616+a*b % 18446744073709551616) % c=a*b % c):=by show _=_;rw [e]
 clear e h
 have g0:0≤a*b / 18446744073709551616:=by omega
 have g1:0≤a*b % 18446744073709551616:=by omega
 have g2:a*b % 18446744073709551616 < 18446744073709551616:=by omega
 have hM:=multiply_ok a b w ha hb
 have hO:=fun w1=>over_ok (a*b / 18446744073709551616) (a*b % 18446744073709551616) c (a*b / c) (a*b % c) w1 g0 g1 g2 c0 c1 hs H1 H2 q0 hm r0 r1
 have HM:=hide hM
 have HO:=hide hO
 clear hM hO
 generalize a*b / 18446744073709551616=h at *
 generalize a*b % 18446744073709551616=l at *
 generalize a*b / c=Q at *
 generalize a*b % c=R at *
 go_enter Tryz.func223,Tryz.ntmps223
 go_wp2_with (first | (go_at_call 225;refine (unhide HM).mono ?_;rintro e w1 ⟨rfl,hk⟩) | (go_at_call 226;refine (unhide HO _).mono ?_;rintro e w2 ⟨rfl,hk2⟩))
 go_ret3
 exact ⟨rfl,(Keeps.alloc hk _).trans hk2⟩
theorem divide_no (a b c:Int) (w:World) (u0 u3:TypeId) (x0 x3:Value) (hg0:w.cell? ⟨0,0,none⟩=some (.iface u0 x0)) (hg3:w.cell? ⟨2,0,none⟩=some (.iface u3 x3)) (h:divB a b c=false) :
 Calls Tryz.prog 223 #[.int .i64 a,.int .i64 b,.int .i64 c] w fun e w'=>(∃ u x,e=.returned (.tuple #[.int .i64 0,.int .i64 0,.iface u x]))∧Keeps w w':=by
 cases hab:amtB a && amtB b
 ·have HM:=hide (multiply_no a b w u0 x0 hg0 hab)
  go_enter Tryz.func223,Tryz.ntmps223
  go_wp2_with (first | (go_at_call 225;refine (unhide HM).mono ?_;rintro e w1 ⟨rfl,hk⟩))
  go_ret3
  exact ⟨⟨_,_,rfl⟩,Keeps.alloc hk _⟩
 ·have HM:=hide (multiply_ok a b w (by simp at hab;exact hab.1) (by simp at hab;exact hab.2))
  have ha0:0≤a:=(amtB_true (n:=a) (by simp at hab;exact hab.1)).1
  have hb0:0≤b:=(amtB_true (n:=b) (by simp at hab;exact hab.2)).1
  have p0:0≤a*b:=Int.mul_nonneg ha0 hb0
  have g0:0≤a*b / 18446744073709551616:=by omega
  have g1:0≤a*b % 18446744073709551616:=by omega
  have g2:a*b % 18446744073709551616 < 18446744073709551616:=by omega
  have HO:Hid (∀ w1:World,w1.cell? ⟨0,0,none⟩=some (.iface u0 x0)→w1.cell? ⟨2,0,none⟩=some (.iface u3 x3) →
   Calls Tryz.prog 226 #[.agg #[.int .u64 (a*b / 18446744073709551616),.int .u64 (a*b % 18446744073709551616)],.int .i64 c] w1 fun e w'=>(∃ u x,e=.returned (.tuple #[.int .i64 0,.int .i64 0,.iface u x]))∧Keeps w1 w'):=by
   intro w1 k0 k3
   by_cases hc:c < 1∨1125899906842624 < c
   ·refine (over_divisor _ _ c w1 u3 x3 k3 hc).mono ?_
    rintro e w' ⟨rfl,hk⟩
    exact ⟨⟨_,_,rfl⟩,hk⟩
   ·by_cases hb:c≤a*b / 18446744073709551616
    ·refine (over_big _ _ c w1 u0 x0 k0 (by omega) (by omega) hb).mono ?_
     rintro e w' ⟨rfl,hk⟩
     exact ⟨⟨_,_,rfl⟩,hk⟩
    ·have hm:1125899906842624 < a*b / c:=by
      simp only [divB,hab,Bool.true_and] at h
      simp at h;omega
     refine (over_more _ _ c (a*b / c) (a*b % c) w1 u0 x0 k0 g0 g1 g2 (by omega) (by omega) (by omega) ?_ ?_ hm).mono ?_
     ·show _=_;rw [hi_lo]
     ·show _=_;rw [hi_lo]
     ·rintro e w' ⟨rfl,hk⟩
      exact ⟨⟨_,_,rfl⟩,hk⟩
  clear h hab
  generalize a*b / 18446744073709551616=h at *
  generalize a*b % 18446744073709551616=l at *
  go_enter Tryz.func223,Tryz.ntmps223
  go_wp2_with (first | (go_at_call 225;refine (unhide HM).mono ?_;rintro e w1 ⟨rfl,hk⟩) | (go_at_call 226;refine (unhide HO _ (cell?_alloc_old _ (hk.cell hg0)) (cell?_alloc_old _ (hk.cell hg3))).mono ?_;rintro e w2 ⟨⟨u,x,rfl⟩,hk2⟩))
  go_ret3
  exact ⟨⟨_,_,rfl⟩,(Keeps.alloc hk _).trans hk2⟩
end Go.Proofs.YtccdhcempnkgaaaGreatDoor
namespace Go.Proofs.YtccdhcempnkgaaaGreatDoor
open Go.RowKit
set_option linter.unusedVariables false
def shB (ppm amt:Int):Bool:=decide (ppm≤1000000) && divB amt ppm 1000000
def part (ppm amt:Int) (up:Bool):Int:=if up=true∧0 < amt*ppm % 1000000 then amt*ppm / 1000000+1 else amt*ppm / 1000000
def feeB (base ppm amt:Int) (up:Bool):Bool:=shB ppm amt && addB base (part ppm amt up)
def feeV (base ppm amt:Int) (up:Bool):Int:=if feeB base ppm amt up=true then base+part ppm amt up else 0
theorem part_down (ppm amt:Int):part ppm amt false=amt*ppm / 1000000:=by simp [part]
theorem part_rest {ppm amt:Int} (h:0 < amt*ppm % 1000000):part ppm amt true=amt*ppm / 1000000+1:=by simp [part,h]
theorem part_none {ppm amt:Int} (h:¬ 0 < amt*ppm % 1000000):part ppm amt true=amt*ppm / 1000000:=by simp [part,h]
theorem share_ok (ppm amt:Int) (w:World) (h:shB ppm amt=true) :
 Calls Tryz.prog 218 #[.int .i64 ppm,.int .i64 amt] w fun e w'=>e=.returned (.tuple #[.int .i64 (amt*ppm / 1000000),.int .i64 (amt*ppm % 1000000),.nilIface])∧Keeps w w':=by
 simp only [shB,Bool.and_eq_true,decide_eq_true_eq] at h
 obtain ⟨h1,h2⟩:=h
 have HD:=hide (divide_ok amt ppm 1000000 w h2)
 clear h2
 go_enter Tryz.func218,Tryz.ntmps218
 go_wp2_with (first | (go_at_call 223;refine (unhide HD).mono ?_;rintro e w1 ⟨rfl,hk⟩))
 go_ret3
 exact ⟨rfl,hk⟩
theorem share_no (ppm amt:Int) (w:World) (u0 u2 u3:TypeId) (x0 x2 x3:Value) (hg0:w.cell? ⟨0,0,none⟩=some (.iface u0 x0)) (hg2:w.cell? ⟨1,0,none⟩=some (.iface u2 x2)) (hg3:w.cell? ⟨2,0,none⟩=some (.iface u3 x3)) (h:shB ppm amt=false) :
 Calls Tryz.prog 218 #[.int .i64 ppm,.int .i64 amt] w fun e w'=>(∃ u x,e=.returned (.tuple #[.int .i64 0,.int .i64 0,.iface u x]))∧Keeps w w':=by
 by_cases h1:ppm≤1000000
 ·have h2:divB amt ppm 1000000=false:=by simpa [shB,h1] using h
  have HD:=hide (divide_no amt ppm 1000000 w u0 u3 x0 x3 hg0 hg3 h2)
  clear h2 h
  go_enter Tryz.func218,Tryz.ntmps218
  go_wp2_with (first | (go_at_call 223;refine (unhide HD).mono ?_;rintro e w1 ⟨⟨u,x,rfl⟩,hk⟩))
  go_ret3
  exact ⟨⟨_,_,rfl⟩,hk⟩
 ·clear h
  go_enter Tryz.func218,Tryz.ntmps218
  go_wp2
  go_quiet (fail)
  go_wp2
  go_ret3
  exact ⟨⟨_,_,rfl⟩,Keeps.drewN (Keeps.refl _) _⟩
theorem up_ok (base ppm amt:Int) (w:World) (h:feeB base ppm amt true=true) :
 Calls Tryz.prog 201 #[.int .i64 base,.int .i64 ppm,.int .i64 amt] w fun e w'=>e=.returned (.tuple #[.int .i64 (base+part ppm amt true),.nilIface])∧Keeps w w':=by
 simp only [feeB,Bool.and_eq_true] at h
 obtain ⟨h1,h2⟩:=h
 have hd:0≤amt*ppm / 1000000∧amt*ppm / 1000000≤1125899906842624:=by
  simp only [shB,Bool.and_eq_true] at h1
  obtain ⟨ha,hb,_,_,hm⟩:=divB_true h1.2
  exact ⟨Int.ediv_nonneg (Int.mul_nonneg (amtB_true ha).1 (amtB_true hb).1) (by omega),hm⟩
 obtain ⟨d0,d1⟩:=hd
 have HS:=hide (share_ok ppm amt w h1)
 by_cases hr:0 < amt*ppm % 1000000
 ·rw [part_rest hr] at h2 ⊢
  have HA:=hide (fun w1=>sum_ok base (amt*ppm / 1000000+1) w1 h2)
  clear h1 h2
  generalize amt*ppm / 1000000=Q at *
  generalize amt*ppm % 1000000=R at *
  go_enter Tryz.func201,Tryz.ntmps201
  go_wp2_with (first | (go_at_call 218;refine (unhide HS).mono ?_;rintro e w1 ⟨rfl,hk⟩) | (go_at_call 182;refine (unhide HA _).mono ?_;rintro e w2 ⟨rfl,hw⟩;rw [hw];clear hw w2))
  go_ret2
  exact ⟨rfl,hk⟩
 ·rw [part_none hr] at h2 ⊢
  have HA:=hide (fun w1=>sum_ok base (amt*ppm / 1000000) w1 h2)
  clear h1 h2
  generalize amt*ppm / 1000000=Q at *
  generalize amt*ppm % 1000000=R at *
  go_enter Tryz.func201,Tryz.ntmps201
  go_wp2_with (first | (go_at_call 218;refine (unhide HS).mono ?_;rintro e w1 ⟨rfl,hk⟩) | (go_at_call 182;refine (unhide HA _).mono ?_;rintro e w2 ⟨rfl,hw⟩;rw [hw];clear hw w2))
  go_ret2
  exact ⟨rfl,hk⟩
theorem up_no (base ppm amt:Int) (w:World) (u0 u2 u3:TypeId) (x0 x2 x3:Value) (hg0:w.cell? ⟨0,0,none⟩=some (.iface u0 x0)) (hg2:w.cell? ⟨1,0,none⟩=some (.iface u2 x2)) (hg3:w.cell? ⟨2,0,none⟩=some (.iface u3 x3)) (h:feeB base ppm amt true=false) :
 Calls Tryz.prog 201 #[.int .i64 base,.int .i64 ppm,.int .i64 amt] w fun e w'=>(∃ u x,e=.returned (.tuple #[.int .i64 0,.iface u x]))∧Keeps w w':=by
 cases h1:shB ppm amt
 ·have HS:=hide (share_no ppm amt w u0 u2 u3 x0 x2 x3 hg0 hg2 hg3 h1)
  clear h1 h
  go_enter Tryz.func201,Tryz.ntmps201
  go_wp2_with (first | (go_at_call 218;refine (unhide HS).mono ?_;rintro e w1 ⟨⟨u,x,rfl⟩,hk⟩))
  go_ret2
  exact ⟨⟨_,_,rfl⟩,hk⟩
 ·have h2:addB base (part ppm amt true)=false:=by simpa [feeB,h1] using h
  have hd:0≤amt*ppm / 1000000∧amt*ppm / 1000000≤1125899906842624:=by
   simp only [shB,Bool.and_eq_true] at h1
   obtain ⟨ha,hb,_,_,hm⟩:=divB_true h1.2
   exact ⟨Int.ediv_nonneg (Int.mul_nonneg (amtB_true ha).1 (amtB_true hb).1) (by omega),hm⟩
  obtain ⟨d0,d1⟩:=hd
  have HS:=hide (share_ok ppm amt w h1)
  by_cases hr:0 < amt*ppm % 1000000
  ·rw [part_rest hr] at h2
   have HA:=hide (fun (w1:World) hg=>sum_no base (amt*ppm / 1000000+1) w1 u0 x0 hg h2)
   clear h1 h2 h
   generalize amt*ppm / 1000000=Q at *
   generalize amt*ppm % 1000000=R at *
   go_enter Tryz.func201,Tryz.ntmps201
   go_wp2_with (first | (go_at_call 218;refine (unhide HS).mono ?_;rintro e w1 ⟨rfl,hk⟩) | (go_at_call 182;refine (unhide HA _ (hk.cell hg0)).mono ?_;rintro e w2 ⟨rfl,n,rfl⟩))
   go_ret2
   exact ⟨⟨_,_,rfl⟩,hk.drewN _⟩
  ·rw [part_none hr] at h2
   have HA:=hide (fun (w1:World) hg=>sum_no base (amt*ppm / 1000000) w1 u0 x0 hg h2)
   clear h1 h2 h
   generalize amt*ppm / 1000000=Q at *
   generalize amt*ppm % 1000000=R at *
   go_enter Tryz.func201,Tryz.ntmps201
   go_wp2_with (first | (go_at_call 218;refine (unhide HS).mono ?_;rintro e w1 ⟨rfl,hk⟩) | (go_at_call 182;refine (unhide HA _ (hk.cell hg0)).mono ?_;rintro e w2 ⟨rfl,n,rfl⟩))
   go_ret2
   exact ⟨⟨_,_,rfl⟩,hk.drewN _⟩
theorem feeUp_impl (base ppm amt:Int) (w:World) (u0 u2 u3:TypeId) (x0 x2 x3:Value) (hg0:w.cell? ⟨0,0,none⟩=some (.iface u0 x0)) (hg2:w.cell? ⟨1,0,none⟩=some (.iface u2 x2)) (hg3:w.cell? ⟨2,0,none⟩=some (.iface u3 x3)) :
 Calls Tryz.prog 170 #[.int .i64 base,.int .i64 ppm,.int .i64 amt] w fun e w'=>e=.returned (.tuple #[.int .i64 (feeV base ppm amt true),.bool (feeB base ppm amt true)])∧Keeps w w':=by
 cases h:feeB base ppm amt true
 ·have H:Hid (feeV base ppm amt true=0):=by show _=_;simp [feeV,h]
  have HD:=hide (up_no base ppm amt w u0 u2 u3 x0 x2 x3 hg0 hg2 hg3 h)
  go_enter Tryz.func170,Tryz.ntmps170
  go_wp2_with (first | (go_at_call 201;refine (unhide HD).mono ?_;rintro e w1 ⟨⟨u,x,rfl⟩,hk⟩) | (go_at_call 181;refine (told_no _ _ _ _).mono ?_;rintro e w' ⟨rfl,rfl⟩))
  go_ret2
  exact ⟨ret_tup H.out.symm rfl,hk⟩
 ·have H:Hid (feeV base ppm amt true=base+part ppm amt true):=by show _=_;simp [feeV,h]
  have HD:=hide (up_ok base ppm amt w h)
  go_enter Tryz.func170,Tryz.ntmps170
  go_wp2_with (first | (go_at_call 201;refine (unhide HD).mono ?_;rintro e w1 ⟨rfl,hk⟩) | (go_at_call 181;refine (told_ok _ _).mono ?_;rintro e w' ⟨rfl,rfl⟩))
  go_ret2
  exact ⟨ret_tup H.out.symm rfl,hk⟩
theorem l01Fee_any (base ppm amt:Int) (up:Bool) (w:World) :
 Calls Tryz.prog 103 #[.int .i64 base,.int .i64 ppm,.int .i64 amt,.bool up] w fun e w'=>e=.returned (.tuple #[.int .i64 (feeV base ppm amt up),.bool (feeB base ppm amt up)])∧w'=w:=by
 by_cases g:(0≤base∧base≤1125899906842624)∧(0≤amt∧amt≤1125899906842624)∧0≤ppm∧ppm≤1000000
 ·obtain ⟨⟨a0,a1⟩,⟨b0,b1⟩,c0,c1⟩:=g
  have HL:=hide (l01Div_any amt ppm 1000000 w b0 b1 c0 (by omega) (by omega) (by omega))
  have p0:0≤amt*ppm:=Int.mul_nonneg b0 c0
  have q0:0≤amt*ppm / 1000000:=Int.ediv_nonneg p0 (by omega)
  have H1:Hid (∀ h:amt*ppm / 1000000≤1125899906842624,feeB base ppm amt up=addB base (part ppm amt up)∧feeV base ppm amt up=addV base (part ppm amt up)):=by
   intro h
   have e:shB ppm amt=true:=by simp [shB,divB,amtB_yes b0 b1,amtB_yes c0 (show ppm≤1125899906842624 by omega),c1,h]
   have e2:feeB base ppm amt up=addB base (part ppm amt up):=by simp [feeB,e]
   exact ⟨e2,by simp [feeV,addV,e2]⟩
  have H2:Hid (∀ h:1125899906842624 < amt*ppm / 1000000,feeB base ppm amt up=false∧feeV base ppm amt up=0):=by
   intro h
   have:feeB base ppm amt up=false:=by simp [feeB,shB,divB];omega
   exact ⟨this,by simp [feeV,this]⟩
  cases up
  ·have HP:=hide (part_down ppm amt)
   generalize amt*ppm / 1000000=Q at *
   generalize amt*ppm % 1000000=R at *
   go_enter Tryz.func103,Tryz.ntmps103
   go_wp2_with (first | (go_at_call 130;refine (unhide HL).mono ?_;rintro e w1 ⟨⟨hq,rfl⟩ | ⟨hq,rfl⟩,hw⟩ <;> rw [hw] <;> clear hw w1) | (go_at_call 35;refine (addAmt_spec _ _ _).mono ?_;rintro e w2 ⟨rfl,hw⟩;rw [hw];clear hw w2) | go_in)
   ·go_ret2
    exact ⟨ret_tup (by rw [(H1.out hq).2,HP.out]) (by rw [(H1.out hq).1,HP.out]),rfl⟩
   ·go_ret2
    exact ⟨ret_tup (H2.out hq).2.symm (H2.out hq).1.symm,rfl⟩
  ·by_cases hr:0 < amt*ppm % 1000000
   ·have HP:=hide (part_rest hr)
    generalize amt*ppm / 1000000=Q at *
    generalize amt*ppm % 1000000=R at *
    go_enter Tryz.func103,Tryz.ntmps103
    go_wp2_with (first | (go_at_call 130;refine (unhide HL).mono ?_;rintro e w1 ⟨⟨hq,rfl⟩ | ⟨hq,rfl⟩,hw⟩ <;> rw [hw] <;> clear hw w1) | (go_at_call 35;refine (addAmt_spec _ _ _).mono ?_;rintro e w2 ⟨rfl,hw⟩;rw [hw];clear hw w2) | go_in)
    ·go_ret2
     exact ⟨ret_tup (by rw [(H1.out hq).2,HP.out]) (by rw [(H1.out hq).1,HP.out]),rfl⟩
    ·go_ret2
     exact ⟨ret_tup (H2.out hq).2.symm (H2.out hq).1.symm,rfl⟩
   ·have HP:=hide (part_none hr)
    generalize amt*ppm / 1000000=Q at *
    generalize amt*ppm % 1000000=R at *
    go_enter Tryz.func103,Tryz.ntmps103
    go_wp2_with (first | (go_at_call 130;refine (unhide HL).mono ?_;rintro e w1 ⟨⟨hq,rfl⟩ | ⟨hq,rfl⟩,hw⟩ <;> rw [hw] <;> clear hw w1) | (go_at_call 35;refine (addAmt_spec _ _ _).mono ?_;rintro e w2 ⟨rfl,hw⟩;rw [hw];clear hw w2) | go_in)
    ·go_ret2
     exact ⟨ret_tup (by rw [(H1.out hq).2,HP.out]) (by rw [(H1.out hq).1,HP.out]),rfl⟩
    ·go_ret2
     exact ⟨ret_tup (H2.out hq).2.symm (H2.out hq).1.symm,rfl⟩
 ·have e:feeB base ppm amt up=false:=by simp [feeB,shB,divB,addB,amtB];omega
  have E1:Hid (feeB base ppm amt up=false):=e
  have E2:Hid (feeV base ppm amt up=0):=by show _=_;simp [feeV,e]
  clear e
  have g':(base < 0∨¬ base≤1125899906842624)∨((0≤base∧base≤1125899906842624)∧((amt < 0∨¬ amt≤1125899906842624)∨((0≤amt∧amt≤1125899906842624)∧(ppm < 0∨(0≤ppm∧1000000 < ppm))))):=by omega
  clear g
  rcases g' with (h | h) | ⟨⟨h1,h2⟩,(h | h) | ⟨⟨h3,h4⟩,h | ⟨h5,h⟩⟩⟩
  all_goals
   go_enter Tryz.func103,Tryz.ntmps103
   go_wp2
   go_ret2
   exact ⟨ret_tup E2.out.symm E1.out.symm,rfl⟩
theorem feeUp_spec (base ppm amt:Int) (w:World) :
 Calls Tryz.prog 76 #[.int .i64 base,.int .i64 ppm,.int .i64 amt] w fun e w'=>e=.returned (.tuple #[.int .i64 (feeV base ppm amt true),.bool (feeB base ppm amt true)])∧w'=w:=by
 go_enter Tryz.func76,Tryz.ntmps76
 go_wp2_with (go_at_call 103;refine (l01Fee_any base ppm amt true _).mono ?_;rintro e w2 ⟨rfl,hw⟩;rw [hw];clear hw w2)
 go_ret2
 exact ⟨rfl,rfl⟩
end Go.Proofs.YtccdhcempnkgaaaGreatDoor
