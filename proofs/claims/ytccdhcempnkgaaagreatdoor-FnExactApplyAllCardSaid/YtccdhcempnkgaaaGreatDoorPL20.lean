/- Texts of the verifier, joined: Math, ShelfA, DivK, SpecDivK, MulsK. -/
import Derived.Laws.Bits64b
import Derived.Lib.ItoaNum
import Derived.Shelf.Small.Bits
import Derived.Shelf.Bits.Mul64
import Derived.Test.YtccdhcempnkgaaaGreatDoorProg
import Derived.Test.YtccdhcempnkgaaaGreatDoorPL13
import Derived.Deep.CutBlock
import Derived.RegionTactic
import Derived.ChangeAlike
namespace Go.Proofs.YtccdhcempnkgaaaGreatDoor.KM
set_option linter.unusedVariables false
theorem digit_test (B y1 y0 u d q r:Int) (hu:q*y1+r=u):(u*B+d)-q*(y1*B+y0)=B*r+d-q*y0:=by
 subst hu
 have e1:(q*y1+r)*B=q*(y1*B)+r*B:=by rw [Int.add_mul,Int.mul_assoc]
 have e2:q*(y1*B+y0)=q*(y1*B)+q*y0:=by rw [Int.mul_add]
 have e3:B*r=r*B:=Int.mul_comm _ _
 omega
theorem div_unique (n y q r:Int) (h:n=q*y+r) (h0:0≤r) (h1:r < y):n / y=q∧n % y=r:=by
 subst h
 have hy:y≠0:=by omega
 constructor
 ·rw [Int.add_comm,Int.add_mul_ediv_right _ _ hy,Int.ediv_eq_zero_of_lt h0 h1];omega
 ·rw [Int.add_comm,Int.add_mul_emod_self_right,Int.emod_eq_of_lt h0 h1]
theorem le_div (n y q:Int) (hy:0 < y):q*y≤n↔q≤n / y:=(Int.le_ediv_iff_mul_le hy).symm
theorem dig_small (y u d:Int) (hu0:0≤u) (hu:u < y) (hd0:0≤d) (hd:d < 4294967296):0≤(u*4294967296+d) / y∧(u*4294967296+d) / y < 4294967296:=by
 have hy:0 < y:=by omega
 constructor
 ·exact Int.ediv_nonneg (by omega) (by omega)
 ·rw [Int.ediv_lt_iff_lt_mul hy];omega
theorem dig_first (y y1 y0 u d:Int) (hy:y=y1*4294967296+y0) (h0:0≤y0) (h0':y0 < 4294967296) (h1:2147483648≤y1) (h1':y1 < 4294967296) (hu0:0≤u) (hu:u < y) (hd0:0≤d) (hd:d < 4294967296) :
 u / y1*y1+(u-u / y1*y1)=u∧(u*4294967296+d) / y≤u / y1∧0≤u / y1∧u / y1≤4294967297∧0≤u-u / y1*y1∧u-u / y1*y1 < y1:=by
 have a:=Int.emod_nonneg u (show y1≠0 by omega)
 have b:=Int.emod_lt_of_pos u (show 0 < y1 by omega)
 have c:u-u / y1*y1=u % y1:=by have:=Int.emod_def u y1;rw [Int.mul_comm] at this;omega
 have hq0:0≤u / y1:=Int.ediv_nonneg hu0 (by omega)
 refine ⟨by omega,?_,hq0,?_,by omega,by omega⟩
 ·have hyp:0 < y:=by omega
  have:(u*4294967296+d) / y < u / y1+1:=by
   rw [Int.ediv_lt_iff_lt_mul hyp]
   have e:(u / y1+1)*y=(u / y1*y1+y1)*4294967296+(u / y1+1)*y0:=by
    subst hy
    rw [Int.mul_add,Int.add_mul (u / y1) 1,← Int.mul_assoc,Int.one_mul,Int.add_mul (u / y1*y1)]
   have hp:0≤(u / y1+1)*y0:=Int.mul_nonneg (by omega) h0
   omega
  omega
 ·have:u / y1 < 4294967298:=by
   rw [Int.ediv_lt_iff_lt_mul (by omega)];omega
  omega
theorem dig_more (y y1 y0 u d q r:Int) (hy:y=y1*4294967296+y0) (h0:0≤y0) (h1:2147483648≤y1) (hu0:0≤u) (hu:u < y) (hd0:0≤d) (hd:d < 4294967296) (hr:q*y1+r=u)
 (t:4294967296≤q∨4294967296*r+d < q*y0):(u*4294967296+d) / y≤q-1:=by
 have hyp:0 < y:=by omega
 have hs:=dig_small y u d hu0 hu hd0 hd
 rcases t with t | t
 ·omega
 ·have e:=digit_test 4294967296 y1 y0 u d q r hr
  rw [← hy] at e
  have:(u*4294967296+d) / y < q:=by rw [Int.ediv_lt_iff_lt_mul hyp];omega
  omega
theorem dig_done (y y1 y0 u d q r:Int) (hy:y=y1*4294967296+y0) (h0:0≤y0) (h1:2147483648≤y1) (hr:q*y1+r=u) (hQ:(u*4294967296+d) / y≤q)
 (t:q*y0≤4294967296*r+d):(u*4294967296+d) / y=q:=by
 have hyp:0 < y:=by omega
 have e:=digit_test 4294967296 y1 y0 u d q r hr
 rw [← hy] at e
 have:q≤(u*4294967296+d) / y:=by rw [← le_div _ _ _ hyp];omega
 omega
theorem dig_break (y y1 y0 u d q r:Int) (hy:y=y1*4294967296+y0) (h0:0≤y0) (h0':y0 < 4294967296) (h1:2147483648≤y1) (hr:q*y1+r=u) (hQ:(u*4294967296+d) / y≤q) (hd0:0≤d) (hq:q≤4294967296) (hq0:0≤q)
 (t:4294967296≤r):(u*4294967296+d) / y=q:=by
 apply dig_done y y1 y0 u d q r hy h0 h1 hr hQ
 have:q*y0≤4294967296*y0:=Int.mul_le_mul_of_nonneg_right hq h0
 omega
theorem two_digits (N y u d1 d0:Int) (hN:N=(u*4294967296+d1)*4294967296+d0) (hy:0 < y) :
 N / y=(u*4294967296+d1) / y*4294967296+((u*4294967296+d1) % y*4294967296+d0) / y∧N % y=((u*4294967296+d1) % y*4294967296+d0) % y:=by
 generalize hU:u*4294967296+d1=U at *
 have a:=Int.emod_add_mul_ediv U y
 have b:=Int.emod_add_mul_ediv (U % y*4294967296+d0) y
 have c:=Int.emod_nonneg (U % y*4294967296+d0) (show y≠0 by omega)
 have d:=Int.emod_lt_of_pos (U % y*4294967296+d0) hy
 generalize (U % y*4294967296+d0) / y=Q0 at *
 generalize (U % y*4294967296+d0) % y=R0 at *
 generalize U / y=Q1 at *
 generalize U % y=R1 at *
 apply div_unique _ _ _ _ _ c d
 rw [hN,Int.add_mul,Int.mul_assoc,Int.mul_comm 4294967296 y,← Int.mul_assoc]
 have e1:y*Q1=Q1*y:=Int.mul_comm _ _
 have e2:y*Q0=Q0*y:=Int.mul_comm _ _
 omega
theorem scaled (N c p:Int) (hc:0 < c) (hp:0 < p):(N*p) / (c*p)=N / c∧(N*p) % (c*p)=N % c*p:=by
 have a:=Int.emod_nonneg N (show c≠0 by omega)
 have b:=Int.emod_lt_of_pos N hc
 have e:=Int.emod_add_mul_ediv N c
 refine div_unique (N*p) (c*p) (N / c) (N % c*p) ?_ (Int.mul_nonneg a (by omega)) (Int.mul_lt_mul_of_pos_right b hp)
 rw [← Int.mul_assoc,← Int.add_mul]
 congr 1
 rw [Int.mul_comm (N / c) c];omega
theorem norm (hi lo y p q:Int) (hpq:p*q=18446744073709551616) (hp:0 < p) (hq:0 < q) (l0:0≤lo) (l1:lo < 18446744073709551616) (h1:hi < y) :
 (hi*18446744073709551616+lo)*p=(hi*p+lo / q)*18446744073709551616+(lo*p) % 18446744073709551616∧hi*p+lo / q < y*p∧0≤lo / q∧lo / q < p:=by
 have a:0≤lo / q:=Int.ediv_nonneg l0 (by omega)
 have b:lo / q < p:=by rw [Int.ediv_lt_iff_lt_mul hq,hpq];exact l1
 have c:(lo*p) / 18446744073709551616=lo / q:=by
  rw [← hpq,Int.mul_comm p q];exact (scaled lo q p hq hp).1
 have d:=Int.emod_add_mul_ediv (lo*p) 18446744073709551616
 rw [c] at d
 refine ⟨?_,?_,a,b⟩
 ·rw [Int.add_mul,Int.add_mul]
  have e1:hi*18446744073709551616*p=hi*p*18446744073709551616:=by rw [Int.mul_assoc,Int.mul_comm 18446744073709551616 p,← Int.mul_assoc]
  omega
 ·have e:(hi+1)*p≤y*p:=Int.mul_le_mul_of_nonneg_right (by omega) (by omega)
  rw [Int.add_mul] at e
  omega
theorem mask32 (a:Int) (h0:0≤a) (h1:a < 18446744073709551616):bits .and .u64 a 4294967295=a % 4294967296:=by
 obtain ⟨n,rfl⟩:=Int.eq_ofNat_of_zero_le h0
 have h:=bits_and_u64_nat n 4294967295 (by omega) (by omega)
 have e:n &&& 4294967295=n % 4294967296:=Nat.and_two_pow_sub_one_eq_mod n 32
 rw [e] at h
 have h':bits .and .u64 (n:Int) 4294967295=((n % 4294967296:Nat):Int):=h
 rw [h'];omega
theorem or_shift (hi s b:Nat) (hb:b < 2 ^ s) (h:hi*2 ^ s+b < 18446744073709551616):bits .or .u64 ((hi:Int)*2 ^ s) (b:Int)=(hi:Int)*2 ^ s+b:=by
 have e1:((hi:Int)*2 ^ s)=((hi*2 ^ s:Nat):Int):=by simp
 rw [e1,bits_or_u64_nat _ _ (by omega) (by omega)]
 have:=Nat.two_pow_add_eq_or_of_lt hb hi
 rw [Nat.mul_comm hi,← this]
 simp
theorem bitLen_bd (y:Nat) (h0:0 < y) (h1:y≤1125899906842624):1≤Lib.bitLen y∧Lib.bitLen y≤51∧2 ^ (Lib.bitLen y-1)≤y∧y < 2 ^ Lib.bitLen y:=by
 obtain ⟨a,b,c⟩:=Lib.bitLenAux_bounds 64 y (by omega) (by omega)
 refine ⟨a,?_,b,c⟩
 rcases Nat.lt_or_ge 51 (Lib.bitLen y) with h | h
 ·have:2 ^ 51≤2 ^ (Lib.bitLen y-1):=Nat.pow_le_pow_right (by omega) (by omega)
  have b':2 ^ (Lib.bitLen y-1)≤y:=b
  omega
 ·exact h
theorem scale (y:Int) (h0:0 < y) (h1:y≤1125899906842624) :
 ∃ s:Nat,(64-(Lib.bitLen y.toNat:Int))=(s:Int)∧13≤s∧s≤63∧9223372036854775808≤y*2 ^ s∧y*2 ^ s < 18446744073709551616:=by
 obtain ⟨n,rfl⟩:=Int.eq_ofNat_of_zero_le (Int.le_of_lt h0)
 obtain ⟨a,b,c,d⟩:=bitLen_bd n (by omega) (by omega)
 simp only [Int.toNat_natCast]
 refine ⟨64-Lib.bitLen n,by omega,by omega,by omega,?_,?_⟩
 ·have:2 ^ (Lib.bitLen n-1)*2 ^ (64-Lib.bitLen n)≤n*2 ^ (64-Lib.bitLen n):=Nat.mul_le_mul_right _ c
  rw [← Nat.pow_add,show Lib.bitLen n-1+(64-Lib.bitLen n)=63 by omega,show (2:Nat) ^ 63=9223372036854775808 by decide] at this
  have t:=Int.ofNat_le.2 this
  rw [Int.natCast_mul,Int.natCast_pow] at t
  exact t
 ·have:n*2 ^ (64-Lib.bitLen n) < 2 ^ Lib.bitLen n*2 ^ (64-Lib.bitLen n):=Nat.mul_lt_mul_of_pos_right d (Nat.two_pow_pos _)
  rw [← Nat.pow_add,show Lib.bitLen n+(64-Lib.bitLen n)=64 by omega,show (2:Nat) ^ 64=18446744073709551616 by decide] at this
  have t:=Int.ofNat_lt.2 this
  rw [Int.natCast_mul,Int.natCast_pow] at t
  exact t
theorem pow_two (s:Nat) (h:s≤64):(2:Int) ^ s*2 ^ (64-s)=18446744073709551616∧0 < (2:Int) ^ s∧0 < (2:Int) ^ (64-s):=by
 refine ⟨?_,Int.pow_pos (by omega),Int.pow_pos (by omega)⟩
 rw [← Int.pow_add,show s+(64-s)=64 by omega]
 rfl
end Go.Proofs.YtccdhcempnkgaaaGreatDoor.KM
namespace Go.Proofs
open Go.Shelf
def Tryz.lays134_ren:Go.Shelf.Ren:=⟨fun | 134=>229 | 129=>163 | n=>n,fun | 53=>207 | 3=>3 | 4=>4 | 46=>155 | 5=>5 | 9=>9 | n=>n,fun | n=>n⟩
theorem Tryz.lays134:Go.Proofs.Lays.n134 Tryz.prog Tryz.lays134_ren:={
 mixed:=by kernel_rfl
 f129:=Tryz.func163.trans (congrArg some (by kernel_rfl))
 f134:=Tryz.func229.trans (congrArg some (by kernel_rfl))
 t3:=Tryz.underlying3
 a3:=Tryz.isAgg3
 z3:=Tryz.sizeOf3
 v3:=Tryz.zeroValue3
 t4:=Tryz.underlying4
 a4:=Tryz.isAgg4
 z4:=Tryz.sizeOf4
 v4:=Tryz.zeroValue4
 t5:=Tryz.underlying5
 a5:=Tryz.isAgg5
 z5:=Tryz.sizeOf5
 v5:=Tryz.zeroValue5
 t9:=Tryz.underlying9
 a9:=Tryz.isAgg9
 z9:=Tryz.sizeOf9
 v9:=Tryz.zeroValue9
 t46:=Tryz.underlying155
 a46:=Tryz.isAgg155
 z46:=Tryz.sizeOf155
 v46:=Tryz.zeroValue155
 t53:=Tryz.underlying207
 a53:=Tryz.isAgg207
 z53:=Tryz.sizeOf207
 v53:=Tryz.zeroValue207 }
theorem Tryz.bits_LeadingZeros64 (x:Int) (w:World) (h0:0≤x) (h1:x≤18446744073709551615) :
 Calls Tryz.prog 229 #[.int .u64 x] w fun e w'=>e=.returned (.int .i64 (64-(Lib.bitLen x.toNat:Int)))∧w'=w:=Any.bits_LeadingZeros64 Tryz.lays134 x w h0 h1
def Tryz.lays264_ren:Go.Shelf.Ren:=⟨fun | 264=>227 | n=>n,fun | 53=>207 | 46=>155 | n=>n,fun | n=>n⟩
theorem Tryz.lays264:Go.Proofs.Lays.n264 Tryz.prog Tryz.lays264_ren:={
 mixed:=by kernel_rfl
 f264:=Tryz.func227.trans (congrArg some (by kernel_rfl))
 t46:=Tryz.underlying155
 a46:=Tryz.isAgg155
 z46:=Tryz.sizeOf155
 v46:=Tryz.zeroValue155
 t53:=Tryz.underlying207
 a53:=Tryz.isAgg207
 z53:=Tryz.sizeOf207
 v53:=Tryz.zeroValue207 }
open Go.RowKit Go.Lib in
theorem Tryz.bits_Mul64 (x y:Nat) (hx:x < 18446744073709551616) (hy:y < 18446744073709551616) (w:World) :
 Calls Tryz.prog 227 #[.int .u64 x,.int .u64 y] w fun e w'=>e=.returned (.tuple #[.int .u64 ((x*y / 18446744073709551616:Nat):Int),.int .u64 ((x*y % 18446744073709551616:Nat):Int)])∧w'=w:=Any.bits_Mul64 Tryz.lays264 x y hx hy w
end Go.Proofs
namespace Go.Proofs.YtccdhcempnkgaaaGreatDoor
open Go.RowKit
set_option linter.unusedVariables false
theorem dec_rel {q1 r y1 u:Int} (h:q1*y1+r=u):(q1-1)*y1+(r+y1)=u:=by
 rw [Int.sub_mul];omega
set_option maxHeartbeats 2000000 in
theorem div64_core (hi lo y s p q Y y1 y0 h0' l0' u L d1 d0 Q1 R1 Q0 R0:Int) (w:World) (h0:0 < hi) (h1:hi < y) (h3:0≤lo) (h4:lo < 18446744073709551616) (s0:13≤s) (s1:s≤63)
 (hz:Calls Tryz.prog 229 #[.int .u64 y] w fun e w'=>e=.returned (.int .i64 s)∧w'=w)
 (hp:(2:Int) ^ s.toNat=p) (hq:(2:Int) ^ (64-s).toNat=q) (eY:y*p=Y) (hY:9223372036854775808≤Y) (hY':Y < 18446744073709551616)
 (e1:Y / 4294967296=y1) (e0:bits BinOp.and IntKind.u64 Y 4294967295=y0) (eh:hi*p=h0') (hh0:0≤h0') (hh1:h0' < 18446744073709551616) (el:lo / q=l0') (eu:bits BinOp.or IntKind.u64 h0' l0'=u)
 (eL:IntKind.u64.wrap (lo*p)=L) (ed1:L / 4294967296=d1) (ed0:bits BinOp.and IntKind.u64 L 4294967295=d0)
 (b1:2147483648≤y1) (b1':y1 < 4294967296) (b0:0≤y0) (b0':y0 < 4294967296) (bu:0≤u) (bu':u < Y) (bd1:0≤d1) (bd1':d1 < 4294967296) (bd0:0≤d0) (bd0':d0 < 4294967296)
 (EY:Hid (Y=y1*4294967296+y0)) (HQ1:Hid ((u*4294967296+d1) / Y=Q1)) (HQ0:Hid ((R1*4294967296+d0) / Y=Q0))
 (e21:IntKind.u64.wrap (IntKind.u64.wrap (IntKind.u64.wrap (u*4294967296)+d1)-IntKind.u64.wrap (Q1*Y))=R1)
 (e20:IntKind.u64.wrap (IntKind.u64.wrap (IntKind.u64.wrap (R1*4294967296)+d0)-IntKind.u64.wrap (Q0*Y))=R0)
 (bR:0≤R1) (bR':R1 < Y) (q0:0≤Q1) (q0':Q1 < 4294967296) (c0:0≤Q0) (c0':Q0 < 4294967296) (r0:0≤R0) (r0':R0 < Y) (pp:0 < p) :
  Calls Tryz.prog 228 #[.int .u64 hi,.int .u64 lo,.int .u64 y] w fun e w'=>e=.returned (.tuple #[.int .u64 (Q1*4294967296+Q0),.int .u64 (R0 / p)])∧w'=w:=by
 obtain ⟨-,g1,f3,g2,f2,f4⟩:=KM.dig_first Y y1 y0 u d1 EY.out b0 b0' b1 b1' bu bu' bd1 bd1'
 obtain ⟨-,g1',f3',g2',f2',f4'⟩:=KM.dig_first Y y1 y0 R1 d0 EY.out b0 b0' b1 b1' bR bR' bd0 bd0'
 rw [HQ1.out] at g1
 rw [HQ0.out] at g1'
 have f1:0≤u / y1*y1:=Int.mul_nonneg f3 (by omega)
 have f1':0≤R1 / y1*y1:=Int.mul_nonneg f3' (by omega)
 go_enter Tryz.func228,Tryz.ntmps228
 go_upto_block 0 with (go_at_call 229;refine hz.mono ?_;rintro e w' ⟨rfl,hw⟩;rw [hw];clear hw w')
 clear hz
 go_cut [15] from 67 to 85 (fun a w'=>a=.int .u64 Q1∧w'=w)
 case first =>
  go_wp2_with fail
  go_loop [15,16] (fun a b=>∃ q1 r:Int,q1*y1+r=u∧Q1≤q1∧q1≤4294967297∧0≤r∧r < 4294967296∧a=.int .u64 q1∧b=.int .u64 r) (fun a _=>(intOf a).toNat)
  case atStart=>exact ⟨u / y1,u-u / y1*y1,by omega,g1,g2,by omega,by omega,rfl,rfl⟩
  case round =>
   obtain ⟨q1,r,hr,hQ,hqb,hr0,hr1,rfl,rfl⟩:=hrel
   have HR:Hid (q1*y1+r=u):=hr
   clear hr
   clear e21 e20 bR bR' c0 c0' r0 r0' g1' f3' g2' f2' f4' f1' eL ed1 ed0 eu el eh e0 e1 hp hq eY
   by_cases t:4294967296≤q1
   ·have hm:=KM.dig_more Y y1 y0 u d1 q1 r EY.out b0 b1 bu bu' bd1 bd1' HR.out (Or.inl t)
    rw [HQ1.out] at hm
    by_cases tb:4294967296≤r+y1
    ·have hb:=KM.dig_break Y y1 y0 u d1 (q1-1) (r+y1) EY.out b0 b0' b1 (dec_rel HR.out) (by rw [HQ1.out];exact hm) bd1 (by omega) (by omega) tb
     rw [HQ1.out] at hb
     have HB:Hid (Q1=q1-1):=hb
     clear hb
     go_wp2_with fail
     go_meet
     case rel=>exact ⟨by rw [HB.out],rfl⟩
    ·go_wp2_with fail
     go_round
     case rel=>exact ⟨q1-1,r+y1,dec_rel HR.out,hm,by omega,by omega,by omega,rfl,rfl⟩
     case measure=>simp [intOf];omega
   ·have hx0:0≤q1*y0:=Int.mul_nonneg (by omega) b0
    have hx1:q1*y0 < 18446744073709551616:=by
     have:q1*y0≤q1*4294967296:=Int.mul_le_mul_of_nonneg_left (by omega) (by omega)
     omega
    by_cases t2:4294967296*r+d1 < q1*y0
    ·have hm:=KM.dig_more Y y1 y0 u d1 q1 r EY.out b0 b1 bu bu' bd1 bd1' HR.out (Or.inr t2)
     rw [HQ1.out] at hm
     by_cases tb:4294967296≤r+y1
     ·have hb:=KM.dig_break Y y1 y0 u d1 (q1-1) (r+y1) EY.out b0 b0' b1 (dec_rel HR.out) (by rw [HQ1.out];exact hm) bd1 (by omega) (by omega) tb
      rw [HQ1.out] at hb
      have HB:Hid (Q1=q1-1):=hb
      clear hb
      go_wp2_with fail
      go_meet
      case rel=>exact ⟨by rw [HB.out],rfl⟩
     ·go_wp2_with fail
      go_round
      case rel=>exact ⟨q1-1,r+y1,dec_rel HR.out,hm,by omega,by omega,by omega,rfl,rfl⟩
      case measure=>simp [intOf];omega
    ·have hb:=KM.dig_done Y y1 y0 u d1 q1 r EY.out b0 b1 HR.out (by rw [HQ1.out];exact hQ) (by omega)
     rw [HQ1.out] at hb
     have HB:Hid (Q1=q1):=hb
     clear hb
     go_wp2_with fail
     go_meet
     case rel=>exact ⟨by rw [HB.out],rfl⟩
 case rest =>
  obtain ⟨rfl,rfl⟩:=hcut
  go_upto_block 2 with fail
  go_cut [18] from 102 to 120 (fun a w'=>a=.int .u64 Q0∧w'=wc)
  case first =>
   go_wp2_with fail
   go_loop [18,16] (fun a b=>∃ q1 r:Int,q1*y1+r=R1∧Q0≤q1∧q1≤4294967297∧0≤r∧r < 4294967296∧a=.int .u64 q1∧b=.int .u64 r) (fun a _=>(intOf a).toNat)
   case atStart=>exact ⟨R1 / y1,R1-R1 / y1*y1,by omega,g1',g2',by omega,by omega,rfl,rfl⟩
   case round =>
    obtain ⟨q1,r,hr,hQ,hqb,hr0,hr1,rfl,rfl⟩:=hrel
    have HR:Hid (q1*y1+r=R1):=hr
    clear hr
    clear e21 e20 g1 f3 g2 f2 f4 f1 eL ed1 ed0 eu el eh e0 e1 hp hq eY
    by_cases t:4294967296≤q1
    ·have hm:=KM.dig_more Y y1 y0 R1 d0 q1 r EY.out b0 b1 bR bR' bd0 bd0' HR.out (Or.inl t)
     rw [HQ0.out] at hm
     by_cases tb:4294967296≤r+y1
     ·have hb:=KM.dig_break Y y1 y0 R1 d0 (q1-1) (r+y1) EY.out b0 b0' b1 (dec_rel HR.out) (by rw [HQ0.out];exact hm) bd0 (by omega) (by omega) tb
      rw [HQ0.out] at hb
      have HB:Hid (Q0=q1-1):=hb
      clear hb
      go_wp2_with fail
      go_meet
      case rel=>exact ⟨by rw [HB.out],rfl⟩
     ·go_wp2_with fail
      go_round
      case rel=>exact ⟨q1-1,r+y1,dec_rel HR.out,hm,by omega,by omega,by omega,rfl,rfl⟩
      case measure=>simp [intOf];omega
    ·have hx0:0≤q1*y0:=Int.mul_nonneg (by omega) b0
     have hx1:q1*y0 < 18446744073709551616:=by
      have:q1*y0≤q1*4294967296:=Int.mul_le_mul_of_nonneg_left (by omega) (by omega)
      omega
     by_cases t2:4294967296*r+d0 < q1*y0
     ·have hm:=KM.dig_more Y y1 y0 R1 d0 q1 r EY.out b0 b1 bR bR' bd0 bd0' HR.out (Or.inr t2)
      rw [HQ0.out] at hm
      by_cases tb:4294967296≤r+y1
      ·have hb:=KM.dig_break Y y1 y0 R1 d0 (q1-1) (r+y1) EY.out b0 b0' b1 (dec_rel HR.out) (by rw [HQ0.out];exact hm) bd0 (by omega) (by omega) tb
       rw [HQ0.out] at hb
       have HB:Hid (Q0=q1-1):=hb
       clear hb
       go_wp2_with fail
       go_meet
       case rel=>exact ⟨by rw [HB.out],rfl⟩
      ·go_wp2_with fail
       go_round
       case rel=>exact ⟨q1-1,r+y1,dec_rel HR.out,hm,by omega,by omega,by omega,rfl,rfl⟩
       case measure=>simp [intOf];omega
     ·have hb:=KM.dig_done Y y1 y0 R1 d0 q1 r EY.out b0 b1 HR.out (by rw [HQ0.out];exact hQ) (by omega)
      rw [HQ0.out] at hb
      have HB:Hid (Q0=q1):=hb
      clear hb
      go_wp2_with fail
      go_meet
      case rel=>exact ⟨by rw [HB.out],rfl⟩
  case rest =>
   obtain ⟨rfl,rfl⟩:=hcut
   go_wp2_with fail
   go_ret2
   exact ⟨rfl,rfl⟩
theorem ret_uu {a a' b b':Int} (h:a=a') (h':b=b'):Ending.returned (.tuple #[.int .u64 a,.int .u64 b])=.returned (.tuple #[.int .u64 a',.int .u64 b']):=by rw [h,h']
theorem wrap3 (a d P R:Int) (h:a*4294967296+d=P+R) (h0:0≤R) (h1:R < 18446744073709551616):IntKind.u64.wrap (IntKind.u64.wrap (IntKind.u64.wrap (a*4294967296)+d)-IntKind.u64.wrap P)=R:=by
 simp only [IntKind.wrap_u64]
 omega
theorem div64_far (hi lo y:Int) (w:World) (h0:0 < hi) (h1:hi < y) (h2:y≤1125899906842624) (l0:0≤lo) (l1:lo < 18446744073709551616) :
 Calls Tryz.prog 228 #[.int .u64 hi,.int .u64 lo,.int .u64 y] w fun e w'=>e=.returned (.tuple #[.int .u64 ((hi*18446744073709551616+lo) / y),.int .u64 ((hi*18446744073709551616+lo) % y)])∧w'=w:=by
 obtain ⟨s,es,s0,s1,hY,hY'⟩:=KM.scale y (by omega) h2
 have hz:=Tryz.bits_LeadingZeros64 y w (by omega) (by omega)
 rw [es] at hz
 obtain ⟨hpq,hp0,hq0⟩:=KM.pow_two s (by omega)
 obtain ⟨en,bu',bl0,bl1⟩:=KM.norm hi lo y (2 ^ s) (2 ^ (64-s)) hpq hp0 hq0 l0 l1 h1
 have hx:0≤hi*2 ^ s:=Int.mul_nonneg (by omega) (by omega)
 have e1:(2:Int) ^ (s:Int).toNat=2 ^ s:=by simp
 have e2:(2:Int) ^ (64-(s:Int)).toNat=2 ^ (64-s):=by rw [show (64-(s:Int)).toNat=64-s by omega]
 have eu:bits BinOp.or IntKind.u64 (hi*2 ^ s) (lo / 2 ^ (64-s))=hi*2 ^ s+lo / 2 ^ (64-s):=by
  obtain ⟨a,ea⟩:=Int.eq_ofNat_of_zero_le (show 0≤hi by omega)
  obtain ⟨b,eb⟩:=Int.eq_ofNat_of_zero_le bl0
  have ep:((2 ^ s:Nat):Int)=2 ^ s:=by simp
  have em:((a*2 ^ s:Nat):Int)=(a:Int)*2 ^ s:=by simp
  rw [eb] at bl1 bu' ⊢
  rw [ea] at bu' ⊢
  exact KM.or_shift a s b (by omega) (by omega)
 have hm0:=Int.emod_nonneg (lo*2 ^ s) (show (18446744073709551616:Int)≠0 by omega)
 have hm1:=Int.emod_lt_of_pos (lo*2 ^ s) (show (0:Int) < 18446744073709551616 by omega)
 generalize hu:hi*2 ^ s+lo / 2 ^ (64-s)=u at *
 generalize hL:lo*2 ^ s % 18446744073709551616=L at *
 generalize hYe:y*2 ^ s=Y at *
 have hyp:0 < Y:=by omega
 have bu:0≤u:=by omega
 have hs1:=KM.dig_small Y u (L / 4294967296) bu bu' (by omega) (by omega)
 have ha1:=Int.emod_add_mul_ediv (u*4294967296+L / 4294967296) Y
 have hb1:=Int.emod_nonneg (u*4294967296+L / 4294967296) (show Y≠0 by omega)
 have hc1:=Int.emod_lt_of_pos (u*4294967296+L / 4294967296) hyp
 obtain ⟨t1,t2⟩:=KM.two_digits ((hi*18446744073709551616+lo)*2 ^ s) Y u (L / 4294967296) (L % 4294967296) (by omega) hyp
 obtain ⟨t3,t4⟩:=KM.scaled (hi*18446744073709551616+lo) y (2 ^ s) (by omega) hp0
 rw [hYe,t1] at t3
 rw [hYe,t2] at t4
 generalize hQ1:(u*4294967296+L / 4294967296) / Y=Q1 at *
 generalize hR1:(u*4294967296+L / 4294967296) % Y=R1 at *
 have hs0:=KM.dig_small Y R1 (L % 4294967296) hb1 hc1 (by omega) (by omega)
 have ha0:=Int.emod_add_mul_ediv (R1*4294967296+L % 4294967296) Y
 have hb0:=Int.emod_nonneg (R1*4294967296+L % 4294967296) (show Y≠0 by omega)
 have hc0:=Int.emod_lt_of_pos (R1*4294967296+L % 4294967296) hyp
 generalize hQ0:(R1*4294967296+L % 4294967296) / Y=Q0 at *
 generalize hR0:(R1*4294967296+L % 4294967296) % Y=R0 at *
 have m1:Y*Q1=Q1*Y:=Int.mul_comm _ _
 have m0:Y*Q0=Q0*Y:=Int.mul_comm _ _
 have hcore:=div64_core hi lo y s (2 ^ s) (2 ^ (64-s)) Y (Y / 4294967296) (Y % 4294967296) (hi*2 ^ s) (lo / 2 ^ (64-s)) u L (L / 4294967296) (L % 4294967296) Q1 R1 Q0 R0 w h0 h1 l0 l1 (by omega) (by omega)
  hz e1 e2 hYe hY hY' rfl (KM.mask32 Y (by omega) hY') rfl hx (by omega) rfl eu (by rw [IntKind.wrap_u64];exact hL) rfl (KM.mask32 L hm0 hm1)
  (by omega) (by omega) (by omega) (by omega) bu bu' (by omega) (by omega) (by omega) (by omega) (by show _=_;omega) hQ1 hQ0
  (wrap3 u _ _ R1 (by omega) hb1 (by omega)) (wrap3 R1 _ _ R0 (by omega) hb0 (by omega)) hb1 hc1 hs1.1 hs1.2 hs0.1 hs0.2 hb0 hc0 hp0
 refine hcore.mono ?_
 rintro e w' ⟨rfl,hw⟩
 refine ⟨ret_uu t3 ?_,hw⟩
 rw [t4]
 exact Int.mul_ediv_cancel _ (by omega)
theorem div64_near (lo y:Int) (w:World) (h1:0 < y) (h2:y≤1125899906842624) (l0:0≤lo) (l1:lo < 18446744073709551616) :
 Calls Tryz.prog 228 #[.int .u64 0,.int .u64 lo,.int .u64 y] w fun e w'=>e=.returned (.tuple #[.int .u64 (lo / y),.int .u64 (lo % y)])∧∃ n,w'=w.drewN n:=by
 have a:=Int.emod_nonneg lo (show y≠0 by omega)
 have b:=Int.emod_lt_of_pos lo h1
 have c:0≤lo / y:=Int.ediv_nonneg l0 (by omega)
 have d:lo / y≤lo:=Int.ediv_le_self _ l0
 go_enter Tryz.func228,Tryz.ntmps228
 go_wp2
 go_quiet (fail)
 go_wp2
 go_ret2
 exact ⟨rfl,_,rfl⟩
theorem div64 (hi lo y:Int) (w:World) (h0:0≤hi) (h1:hi < y) (h2:y≤1125899906842624) (l0:0≤lo) (l1:lo < 18446744073709551616) :
 Calls Tryz.prog 228 #[.int .u64 hi,.int .u64 lo,.int .u64 y] w fun e w'=>e=.returned (.tuple #[.int .u64 ((hi*18446744073709551616+lo) / y),.int .u64 ((hi*18446744073709551616+lo) % y)])∧∃ n,w'=w.drewN n:=by
 by_cases h:hi=0
 ·subst h
  refine (div64_near lo y w h1 h2 l0 l1).mono ?_
  rintro e w' ⟨rfl,hw⟩
  exact ⟨ret_uu (by simp) (by simp),hw⟩
 ·refine (div64_far hi lo y w (by omega) h1 h2 l0 l1).mono ?_
  rintro e w' ⟨rfl,rfl⟩
  exact ⟨rfl,0,rfl⟩
end Go.Proofs.YtccdhcempnkgaaaGreatDoor
namespace Go.Proofs.YtccdhcempnkgaaaGreatDoor
open Go.RowKit
set_option linter.unusedVariables false
theorem and_one (x:Int) (h0:0≤x) (h1:x≤1125899906842624):bits .and .i64 x 1=x % 2:=by
 obtain ⟨n,rfl⟩:=Int.eq_ofNat_of_zero_le h0
 have h2:(BitVec.ofInt 64 (n:Int)).toNat=n:=by
  rw [BitVec.ofInt_natCast,BitVec.toNat_ofNat];exact Nat.mod_eq_of_lt (by omega)
 show IntKind.i64.wrap ((BitVec.ofInt 64 (n:Int) &&& BitVec.ofInt 64 1).toNat:Int)=_
 have h3:(BitVec.ofInt 64 1).toNat=1:=by decide
 rw [BitVec.toNat_and,h2,h3,Nat.and_one_is_mod]
 simp [IntKind.wrap,IntKind.bits,IntKind.signed]
 omega
theorem half (a:Int) (m:Nat) (h:0≤a):a / 2 ^ m=2*(a / 2 ^ (m+1))+a / 2 ^ m % 2:=by
 have e:a / 2 ^ (m+1)=a / 2 ^ m / 2:=by
  rw [Int.pow_succ,Int.ediv_ediv_of_nonneg (Int.le_of_lt (Int.pow_pos (by omega)))]
 rw [e];omega
theorem sh_le (a:Int) (m:Nat) (h:0≤a):0≤a / 2 ^ m∧a / 2 ^ m≤a:=⟨Int.ediv_nonneg h (Int.le_of_lt (Int.pow_pos (by omega))),Int.ediv_le_self _ h⟩
theorem step0 {q r c A b A1:Int} (h:q*c+r=A*b) (e:A1=2*A+0):2*q*c+2*r=A1*b:=by
 rw [e,Int.add_zero,Int.mul_assoc,Int.mul_assoc,← h];omega
theorem step1 {q r c A b A1:Int} (h:q*c+r=A*b) (e:A1=2*A+1):(2*q+b / c)*c+(2*r+b % c)=A1*b:=by
 have d:=Int.emod_add_mul_ediv b c
 rw [e,Int.add_mul,Int.add_mul,Int.mul_assoc,Int.mul_assoc 2 A b,← h,Int.one_mul,Int.mul_comm (b / c) c];omega
theorem less1 {q r c X:Int} (h:q*c+r=X):(q+1)*c+(r-c)=X:=by rw [Int.add_mul];omega
theorem less2 {q r c X:Int} (h:q*c+r=X):(q+2)*c+(r-2*c)=X:=by rw [Int.add_mul];omega
theorem over_part {q r c A1 a b:Int} (h:q*c+r=A1*b) (r0:0≤r) (hA:A1≤a) (hb:0≤b) (hc:0 < c):q≤a*b / c:=by
 have:A1*b≤a*b:=Int.mul_le_mul_of_nonneg_right hA hb
 rw [Int.le_ediv_iff_mul_le hc];omega
theorem the_end {q r c a b:Int} (h:q*c+r=a / 2 ^ 0*b) (r0:0≤r) (r1:r < c):a*b / c=q∧a*b % c=r:=by
 have e:a / 2 ^ 0=a:=by simp
 rw [e] at h
 exact KM.div_unique (a*b) c q r h.symm r0 r1
theorem ret_iib {a a' b b':Int} {x x':Bool} (h:a=a') (h':b=b') (h'':x=x'):Ending.returned (.tuple #[.int .i64 a,.int .i64 b,.bool x])=.returned (.tuple #[.int .i64 a',.int .i64 b',.bool x']):=by rw [h,h',h'']
set_option maxHeartbeats 2000000 in
theorem l01Div_any (a b c:Int) (w:World) (a0:0≤a) (a1:a≤1125899906842624) (b0:0≤b) (b1:b≤1125899906842624) (c0:1≤c) (c1:c≤1125899906842624) :
 Calls Tryz.prog 130 #[.int .i64 a,.int .i64 b,.int .i64 c] w fun e w'=>((a*b / c≤1125899906842624∧e=.returned (.tuple #[.int .i64 (a*b / c),.int .i64 (a*b % c),.bool true]))∨(1125899906842624 < a*b / c∧e=.returned (.tuple #[.int .i64 0,.int .i64 0,.bool false])))∧w'=w:=by
 have bq0:0≤b / c:=Int.ediv_nonneg b0 (by omega)
 have bq1:b / c≤b:=Int.ediv_le_self _ b0
 have br0:=Int.emod_nonneg b (show c≠0 by omega)
 have br1:=Int.emod_lt_of_pos b (show 0 < c by omega)
 go_enter Tryz.func130,Tryz.ntmps130
 go_wp2
 go_loop [9,10,11] (fun x y z=>∃ (q r i:Int) (n:Nat),Hid (i=(n:Int)-1)∧n≤51∧-1≤i∧i≤50∧Hid (q*c+r=a / 2 ^ n*b)∧0≤r∧r < c∧0≤q∧q≤1125899906842624∧x=.int .i64 q∧y=.int .i64 r∧z=.int .i64 i) (fun _ _ z=>(intOf z+1).toNat)
 case atStart =>
  refine ⟨0,0,50,51,by show _=_;rfl,by omega,by omega,by omega,?_,by omega,by omega,by omega,by omega,rfl,rfl,rfl⟩
  show _=_
  have:a / 2 ^ 51=0:=Int.ediv_eq_zero_of_lt a0 (by omega)
  rw [this];omega
 case round =>
  obtain ⟨q,r,i,n,HI,hn,i0,i1,HR,r0,r1,q0,q1,rfl,rfl,rfl⟩:=hrel
  by_cases hi:0≤i
  ·obtain ⟨m,hm⟩:∃ m,n=m+1:=⟨n-1,by have:=HI.out;omega⟩
   subst hm
   have him:i.toNat=m:=by have:=HI.out;omega
   have hh:=half a m a0
   obtain ⟨g0,g1⟩:=sh_le a m a0
   have hbit:=and_one (a / 2 ^ m) g0 (by omega)
   have hsh:a / 2 ^ i.toNat=a / 2 ^ m:=by rw [him]
   have HI2:Hid (i-1=(m:Int)-1):=by show _=_;have:=HI.out;omega
   generalize hA1:a / 2 ^ m=A1 at *
   have HA1:Hid (a / 2 ^ m=A1):=hA1
   clear hA1 him
   obtain ⟨q2,r2,HS,q20,q21,r20,r21,hw⟩:∃ q2 r2:Int,Hid (q2*c+r2=A1*b)∧0≤q2∧q2≤3377699720527872∧0≤r2∧r2 < 3*c∧((A1 % 2=0∧2*q=q2∧2*r=r2)∨(A1 % 2=1∧2*q+b / c=q2∧2*r+b % c=r2)):=by
    rcases (show A1 % 2=0∨A1 % 2=1 by omega) with hb2 | hb2
    ·rw [hb2] at hh
     exact ⟨2*q,2*r,step0 HR.out hh,by omega,by omega,by omega,by omega,Or.inl ⟨hb2,rfl,rfl⟩⟩
    ·rw [hb2] at hh
     exact ⟨2*q+b / c,2*r+b % c,step1 HR.out hh,by omega,by omega,by omega,by omega,Or.inr ⟨hb2,rfl,rfl⟩⟩
   have HO1:=fun (x y:Int) (e:x*c+y=A1*b) (y0:0≤y)=>over_part (q:=x) (r:=y) (c:=c) (A1:=A1) (a:=a) (b:=b) e y0 (by omega) b0 (by omega)
   have HO:Hid (∀ x y:Int,x*c+y=A1*b→0≤y→x≤a*b / c):=HO1
   clear hh HR HO1
   rcases hw with ⟨hb2,eq2,er2⟩ | ⟨hb2,eq2,er2⟩
   all_goals
    rw [hb2] at hbit
    clear hb2
    go_wp2_with fail
    clear eq2 er2
    go_loop [9,10] (fun x y=>∃ q r:Int,((q=q2∧r=r2)∨(q=q2+1∧r=r2-c)∨(q=q2+2∧r=r2-2*c))∧0≤r∧x=.int .i64 q∧y=.int .i64 r) (fun _ y=>(intOf y).toNat)
    case atStart=>exact ⟨q2,r2,Or.inl ⟨rfl,rfl⟩,r20,rfl,rfl⟩
    case round =>
     obtain ⟨q3,r3,hc3,r30,rfl,rfl⟩:=hrel
     have q3b:q3≤3377699720527874:=by omega
     have q3a:0≤q3:=by omega
     have HS3:Hid (q3*c+r3=A1*b):=by
      rcases hc3 with ⟨rfl,rfl⟩ | ⟨rfl,rfl⟩ | ⟨rfl,rfl⟩
      ·exact HS.out
      ·exact less1 HS.out
      ·exact less2 HS.out
     have r3b:r3 < 3*c:=by omega
     have HC:Hid ((q3=q2∧r3=r2)∨(q3=q2+1∧r3=r2-c)∨(q3=q2+2∧r3=r2-2*c)):=hc3
     clear hc3
     by_cases t:c≤r3
     ·go_wp2_with fail
      go_round
      case rel=>exact ⟨q3+1,r3-c,by have:=HC.out;omega,by omega,rfl,rfl⟩
      case measure=>simp [intOf];omega
     ·by_cases tm:1125899906842624 < q3
      ·go_wp2_with fail
       go_ret3
       exact ⟨Or.inr ⟨by have:=HO.out q3 r3 HS3.out r30;omega,rfl⟩,rfl⟩
      ·go_wp2_with fail
       go_round
       case rel=>exact ⟨q3,r3,i-1,m,HI2,by omega,by omega,by omega,by show _=_;rw [HA1.out];exact HS3.out,r30,by omega,q3a,by omega,rfl,rfl,rfl⟩
       case measure=>simp [intOf];omega
  ·have hn0:n=0:=by have:=HI.out;omega
   subst hn0
   obtain ⟨e1,e2⟩:=the_end HR.out r0 r1
   have E1:Hid (a*b / c=q):=e1
   have E2:Hid (a*b % c=r):=e2
   clear e1 e2
   go_wp2_with fail
   go_ret3
   exact ⟨Or.inl ⟨by rw [E1.out];exact q1,ret_iib E1.out.symm E2.out.symm rfl⟩,rfl⟩
end Go.Proofs.YtccdhcempnkgaaaGreatDoor
namespace Go.Proofs.YtccdhcempnkgaaaGreatDoor
open Go.RowKit
set_option linter.unusedVariables false
theorem mul64 (a b:Int) (w:World) (a0:0≤a) (a1:a < 18446744073709551616) (b0:0≤b) (b1:b < 18446744073709551616) :
 Calls Tryz.prog 227 #[.int .u64 a,.int .u64 b] w fun e w'=>e=.returned (.tuple #[.int .u64 (a*b / 18446744073709551616),.int .u64 (a*b % 18446744073709551616)])∧w'=w:=by
 obtain ⟨x,rfl⟩:=Int.eq_ofNat_of_zero_le a0
 obtain ⟨y,rfl⟩:=Int.eq_ofNat_of_zero_le b0
 refine (Tryz.bits_Mul64 x y (by omega) (by omega) w).mono ?_
 rintro e w' ⟨rfl,hw⟩
 exact ⟨ret_uu (by rw [Int.natCast_ediv,Int.natCast_mul];rfl) (by rw [Int.natCast_emod,Int.natCast_mul];rfl),hw⟩
theorem div64' (hi lo y Q R:Int) (w:World) (h0:0≤hi) (h1:hi < y) (h2:y≤1125899906842624) (l0:0≤lo) (l1:lo < 18446744073709551616) (hQ:(hi*18446744073709551616+lo) / y=Q) (hR:(hi*18446744073709551616+lo) % y=R) :
 Calls Tryz.prog 228 #[.int .u64 hi,.int .u64 lo,.int .u64 y] w fun e w'=>e=.returned (.tuple #[.int .u64 Q,.int .u64 R])∧∃ n,w'=w.drewN n:=by
 subst hQ hR
 exact div64 hi lo y w h0 h1 h2 l0 l1
theorem multiply_ok (a b:Int) (w:World) (ha:amtB a=true) (hb:amtB b=true) :
 Calls Tryz.prog 225 #[.int .i64 a,.int .i64 b] w fun e w'=>e=.returned (.tuple #[.agg #[.int .u64 (a*b / 18446744073709551616),.int .u64 (a*b % 18446744073709551616)],.nilIface])∧Keeps w w':=by
 obtain ⟨a0,a1⟩:=amtB_true ha
 obtain ⟨b0,b1⟩:=amtB_true hb
 clear ha hb
 go_enter Tryz.func225,Tryz.ntmps225
 go_wp2_with (first | (go_at_call 227;refine (mul64 a b _ a0 (by omega) b0 (by omega)).mono ?_;rintro e w' ⟨rfl,hw⟩;rw [hw];clear hw w') | go_in)
 refine bodyPost_ret (v:=.tuple #[.agg #[.int .u64 (a*b / 18446744073709551616),.int .u64 (a*b % 18446744073709551616)],.nilIface]) (by simp [results,Tryz.results225,go_sem]) rfl ⟨rfl,?_⟩
 exact Keeps.alloc (Keeps.refl _) _
theorem multiply_no (a b:Int) (w:World) (u:TypeId) (x:Value) (hg:w.cell? ⟨0,0,none⟩=some (.iface u x)) (h:(amtB a && amtB b)=false) :
 Calls Tryz.prog 225 #[.int .i64 a,.int .i64 b] w fun e w'=>e=.returned (.tuple #[.agg #[.int .u64 0,.int .u64 0],.iface u x])∧Keeps w w':=by
 have hlt:=lt_of_cell hg
 have h':(a < 0∨1125899906842624 < a)∨((0≤a∧a≤1125899906842624)∧(b < 0∨¬ b≤1125899906842624)):=by
  simp [amtB] at h;omega
 clear h
 rcases h' with (h | h) | ⟨⟨h1,h2⟩,(h | h)⟩
 all_goals
  go_enter Tryz.func225,Tryz.ntmps225
  go_wp2
  go_region
  all_goals go_wp2
  all_goals (refine bodyPost_ret (v:=.tuple #[.agg #[.int .u64 0,.int .u64 0],.iface u x]) (by simp [results,Tryz.results225,go_sem]) rfl ⟨rfl,?_⟩;exact Keeps.drew (Keeps.alloc (Keeps.refl _) _))
theorem over_divisor (h l c:Int) (w:World) (u:TypeId) (x:Value) (hg:w.cell? ⟨2,0,none⟩=some (.iface u x)) (hc:c < 1∨1125899906842624 < c) :
 Calls Tryz.prog 226 #[.agg #[.int .u64 h,.int .u64 l],.int .i64 c] w fun e w'=>e=.returned (.tuple #[.int .i64 0,.int .i64 0,.iface u x])∧Keeps w w':=by
 have hlt:=lt_of_cell hg
 rcases hc with hc | hc
 all_goals
  go_enter Tryz.func226,Tryz.ntmps226
  go_wp2
  go_quiet (fail)
  go_wp2
  go_ret3
  exact ⟨rfl,Keeps.drewN (Keeps.alloc (Keeps.refl _) _) _⟩
theorem over_big (h l c:Int) (w:World) (u:TypeId) (x:Value) (hg:w.cell? ⟨0,0,none⟩=some (.iface u x)) (c0:1≤c) (c1:c≤1125899906842624) (hc:c≤h) :
 Calls Tryz.prog 226 #[.agg #[.int .u64 h,.int .u64 l],.int .i64 c] w fun e w'=>e=.returned (.tuple #[.int .i64 0,.int .i64 0,.iface u x])∧Keeps w w':=by
 have hlt:=lt_of_cell hg
 go_enter Tryz.func226,Tryz.ntmps226
 go_wp2
 go_quiet (fail)
 go_wp2
 go_ret3
 exact ⟨rfl,Keeps.drewN (Keeps.alloc (Keeps.refl _) _) _⟩
theorem over_more (h l c Q R:Int) (w:World) (u:TypeId) (x:Value) (hg:w.cell? ⟨0,0,none⟩=some (.iface u x)) (h0:0≤h) (l0:0≤l) (l1:l < 18446744073709551616) (c0:1≤c) (c1:c≤1125899906842624) (hc:h < c)
 (hQ:Hid ((h*18446744073709551616+l) / c=Q)) (hR:Hid ((h*18446744073709551616+l) % c=R)) (hm:1125899906842624 < Q) :
 Calls Tryz.prog 226 #[.agg #[.int .u64 h,.int .u64 l],.int .i64 c] w fun e w'=>e=.returned (.tuple #[.int .i64 0,.int .i64 0,.iface u x])∧Keeps w w':=by
 have hlt:=lt_of_cell hg
 go_enter Tryz.func226,Tryz.ntmps226
 go_wp2_with (go_at_call 228;refine (div64' h l c Q R _ h0 hc c1 l0 l1 hQ.out hR.out).mono ?_;rintro e w' ⟨rfl,n,rfl⟩)
 go_quiet (fail)
 go_wp2
 go_ret3
 exact ⟨rfl,Keeps.drewN (Keeps.drewN (Keeps.alloc (Keeps.refl _) _) _) _⟩
theorem over_ok (h l c Q R:Int) (w:World) (h0:0≤h) (l0:0≤l) (l1:l < 18446744073709551616) (c0:1≤c) (c1:c≤1125899906842624) (hc:h < c)
 (hQ:Hid ((h*18446744073709551616+l) / c=Q)) (hR:Hid ((h*18446744073709551616+l) % c=R)) (hq:0≤Q) (hm:Q≤1125899906842624) (hr:0≤R) (hr1:R < c) :
 Calls Tryz.prog 226 #[.agg #[.int .u64 h,.int .u64 l],.int .i64 c] w fun e w'=>e=.returned (.tuple #[.int .i64 Q,.int .i64 R,.nilIface])∧Keeps w w':=by
 go_enter Tryz.func226,Tryz.ntmps226
 go_wp2_with (go_at_call 228;refine (div64' h l c Q R _ h0 hc c1 l0 l1 hQ.out hR.out).mono ?_;rintro e w' ⟨rfl,n,rfl⟩)
 go_ret3
 exact ⟨rfl,Keeps.drewN (Keeps.alloc (Keeps.refl _) _) _⟩
end Go.Proofs.YtccdhcempnkgaaaGreatDoor
