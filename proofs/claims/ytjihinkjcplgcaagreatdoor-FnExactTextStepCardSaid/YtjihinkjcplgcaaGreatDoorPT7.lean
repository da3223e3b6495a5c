/- Texts of the verifier, joined: Aa, StD, ShelfC, Sent, Told, TextK, Wrd. -/
import Derived.Test.YtjihinkjcplgcaaGreatDoorPT1
import Derived.Test.YtjihinkjcplgcaaGreatDoorPT6
import Derived.Test.YtjihinkjcplgcaaGreatDoorPT5
import Derived.Shelf.LaysC
import Derived.Shelf.Strconv.AtoiAll
import Derived.Shelf.Strconv.ErrVarAll
import Derived.Test.YtjihinkjcplgcaaGreatDoorProg
import Derived.Test.YtjihinkjcplgcaaGreatDoorPT2
import Derived.Test.YtjihinkjcplgcaaGreatDoorPT3
import Derived.Deep.OwnRows
namespace Go.Proofs.YtjihinkjcplgcaaGreatDoor
open Go.RowKit Go.Deep
set_option linter.unusedVariables false
set_option linter.unusedSimpArgs false
set_option maxRecDepth 10000
theorem amt_implK (n : Int) (w : World) : Calls Tryz.prog 70 #[.int .i64 n] w fun e w' => e = .returned (.bool (amtB n)) ∧ w' = w := by
  by_cases h1 : 0 ≤ n
  · by_cases h2 : n ≤ 1125899906842624
    · go_enter Tryz.func70, Tryz.ntmps70
      go_wp2
      go_ret
      exact ⟨ret_b (amtB_yes h1 h2).symm, rfl⟩
    · go_enter Tryz.func70, Tryz.ntmps70
      go_wp2
      go_ret
      exact ⟨ret_b (amtB_no (by omega)).symm, rfl⟩
  · go_enter Tryz.func70, Tryz.ntmps70
    go_wp2
    go_ret
    exact ⟨ret_b (amtB_no (by omega)).symm, rfl⟩
theorem notamt_k (x : Int) (w : World) : Calls Tryz.prog 69 #[.int .i64 x] w fun e w' => e = .returned (.bool (!amtB x)) ∧ w' = w := by
  have HQ := hide (amt_implK x)
  go_enter Tryz.func69, Tryz.ntmps69
  go_wp2_with fail
  refine (unhide HQ _).mono ?_
  rintro e w1 ⟨rfl, hw⟩
  obtain rfl := Eq.symm hw
  clear hw
  go_wp2_with fail
  go_ret
  exact ⟨rfl, rfl⟩
def allA (L : List Int) : Bool := L.all amtB
set_option maxHeartbeats 2000000 in
theorem indexA_k (a : Option Addr) (cap : Nat) (L : List Int) (w : World) (h : Cells w a (its L)) (hn : L.length ≤ 1048576) :
    Calls Tryz.prog 85 #[.slice a L.length cap, .func (Fn.func 69) #[] #[]] w fun e w' => w' = w ∧ ((∃ v : Nat, allA L = false ∧ e = .returned (.int .i64 (v : Int))) ∨ (allA L = true ∧ e = .returned (.int .i64 (-1)))) := by
  have HC := hide h
  clear h
  go_enter Tryz.func85, Tryz.ntmps85
  go_wp2_with fail
  go_loop [8] (fun y => ∃ k : Nat, k ≤ L.length ∧ y = .int .i64 (k : Int) ∧ Hid ((L.take k).all amtB = true)) (fun y => L.length - (intOf y).toNat)
  case atStart => exact ⟨0, by omega, rfl, by show _ = _; simp⟩
  case round =>
    obtain ⟨k, hk, rfl, HZ⟩ := hrel
    by_cases hlt : k < L.length
    · obtain ⟨b, off, ea, c0⟩ := its_at HC.out k hlt
      subst ea
      have HE := hide (List.take_append_getElem hlt)
      generalize L[k] = x at *
      have HQ := hide (fun w' => notamt_k x w')
      cases hx : amtB x
      · rw [hx] at HQ
        have HF : Hid (allA L = false) := by
          show _ = _
          refine List.all_eq_false.2 ⟨x, ?_, by simp [hx]⟩
          have := HE.out
          exact List.mem_of_mem_take (i := k + 1) (by rw [← this]; simp)
        clear hx
        go_wp2_with fail
        refine (unhide HQ _).mono ?_
        rintro e w1 ⟨rfl, hw⟩
        obtain rfl := Eq.symm hw
        clear hw
        go_wp2_with fail
        go_ret
        exact ⟨rfl, Or.inl ⟨k, HF.out, rfl⟩⟩
      · rw [hx] at HQ
        have HF : Hid ((L.take (k + 1)).all amtB = true) := by
          show _ = _
          rw [← HE.out, List.all_append, HZ.out]
          simp [hx]
        clear hx HE
        go_wp2_with fail
        refine (unhide HQ _).mono ?_
        rintro e w1 ⟨rfl, hw⟩
        obtain rfl := Eq.symm hw
        clear hw
        go_wp2_with fail
        go_round
        case rel => exact ⟨k + 1, by omega, by go_num, HF⟩
        case measure => simp [intOf]; omega
    · have e : k = L.length := by omega
      subst e
      go_wp2_with fail
      go_ret
      exact ⟨rfl, Or.inr ⟨by have h3 := HZ.out; rw [List.take_length] at h3; exact h3, rfl⟩⟩
theorem containsA_k (a : Option Addr) (cap : Nat) (L : List Int) (w : World) (h : Cells w a (its L)) (hn : L.length ≤ 1048576) :
    Calls Tryz.prog 68 #[.slice a L.length cap, .func (Fn.func 69) #[] #[]] w fun e w' => e = .returned (.bool (!allA L)) ∧ w' = w := by
  have HQ := hide (indexA_k a cap L w h hn)
  clear h
  go_enter Tryz.func68, Tryz.ntmps68
  go_wp2_with fail
  refine (unhide HQ).mono ?_
  rintro e w1 ⟨hw, ⟨v, hv, rfl⟩ | ⟨hv, rfl⟩⟩
  · obtain rfl := Eq.symm hw
    have HV := hide hv
    clear hw hv HQ
    have hd : decide ((0 : Int) ≤ (v : Int)) = true := by simp
    go_wp2_with fail
    go_ret
    exact ⟨ret_b (by rw [HV.out]; simp), rfl⟩
  · obtain rfl := Eq.symm hw
    have HV := hide hv
    clear hw hv HQ
    go_wp2_with fail
    go_ret
    exact ⟨ret_b (by rw [HV.out]; rfl), rfl⟩
theorem allamts_k (a : Option Addr) (cap : Nat) (L : List Int) (w : World) (h : Cells w a (its L)) (hn : L.length ≤ 1048576) :
    Calls Tryz.prog 43 #[.slice a L.length cap] w fun e w' => e = .returned (.bool (allA L)) ∧ w' = w := by
  have HQ := hide (containsA_k a cap L w h hn)
  clear h
  go_enter Tryz.func43, Tryz.ntmps43
  go_wp2_with fail
  refine (unhide HQ).mono ?_
  rintro e w1 ⟨rfl, hw⟩
  obtain rfl := Eq.symm hw
  clear hw HQ
  go_wp2_with fail
  go_ret
  exact ⟨ret_b (by simp), rfl⟩
end Go.Proofs.YtjihinkjcplgcaaGreatDoor
namespace Go.Proofs.YtjihinkjcplgcaaGreatDoor
open Go.RowKit Go.Deep
set_option linter.unusedVariables false
set_option linter.unusedSimpArgs false
set_option maxRecDepth 10000
structure Stp where
  k : Int
  e : Ev
  ks : List Int
  r : Rul
abbrev Stp.cells (D : Stp) (a : Option Addr) (c : Nat) : Array Value := #[.int .i64 D.k, .int .i64 D.e.k, .int .i64 D.e.y, .int .i64 D.e.c, .int .i64 D.e.t, .int .i64 D.e.m, .int .i64 D.e.f, .bool D.e.b, .slice a D.ks.length c, .int .i64 D.r.lo, .int .i64 D.r.hi, .int .i64 D.r.st, .int .i64 D.r.mi, .int .i64 D.r.ma]
abbrev Stp.v (D : Stp) (a : Option Addr) (c : Nat) : Value := .agg (D.cells a c)
def noE : Ev := ⟨0, 0, 0, 0, 0, 0, false⟩
def noR : Rul := ⟨0, 0, 0, 0, 0⟩
def zeroE (e : Ev) : Bool := evEq e.k e.y e.c e.t e.m e.f e.b 0 0 0 0 0 0 false
def rulEq (r s : Rul) : Bool := decide (r.lo = s.lo) && decide (r.hi = s.hi) && decide (r.st = s.st) && decide (r.mi = s.mi) && decide (r.ma = s.ma)
def zeroR (r : Rul) : Bool := rulEq r noR
theorem zeroE_eq {e : Ev} (h : zeroE e = true) : e = noE := by
  obtain ⟨k, y, c, t, m, f, b⟩ := e
  simp only [zeroE, evEq, Bool.and_eq_true, decide_eq_true_eq] at h
  obtain ⟨⟨⟨⟨⟨⟨rfl, rfl⟩, rfl⟩, rfl⟩, rfl⟩, rfl⟩, rfl⟩ := h
  rfl
theorem zeroR_eq {r : Rul} (h : zeroR r = true) : r = noR := by
  obtain ⟨a, b, c, d, e⟩ := r
  have h2 : rulEq ⟨a, b, c, d, e⟩ ⟨0, 0, 0, 0, 0⟩ = true := h
  simp only [rulEq, Bool.and_eq_true, decide_eq_true_eq] at h2
  obtain ⟨⟨⟨⟨rfl, rfl⟩, rfl⟩, rfl⟩, rfl⟩ := h2
  rfl
theorem infoRule : Tryz.prog.underlying 31 = some (.struct (Tryz.prog.fieldsOf 31)) := by kernel_rfl
set_option maxHeartbeats 2000000 in
theorem rul_eql (r s : Rul) (w : World) : (binOp .eql 31 r.v s.v).run Tryz.prog w = .ok (.bool (rulEq r s)) w := by
  obtain ⟨k, y, c, t, m⟩ := r
  obtain ⟨k', y', c', t', m'⟩ := s
  have hs : Tryz.prog.stoodInHeld 31 = false := by kernel_rfl
  have hf : (Tryz.prog.fieldsOf 31).toList.map (fun f => (f.name, f.type, f.offset)) = [("Lo", 3, 0), ("Hi", 3, 1), ("Step", 3, 2), ("Min", 3, 3), ("Max", 3, 4)] := by kernel_rfl
  unfold Rul.v
  dsimp only
  rw [run_eql_struct, run_equalIn_agg _ _ _ _ _ infoRule hs]
  generalize (Tryz.prog.fieldsOf 31).toList = fs at hf
  simp only [List.map_eq_cons_iff, List.map_eq_nil_iff, Prod.mk.injEq] at hf
  obtain ⟨f0, r0, rfl, ⟨n0, t0, o0⟩, f1, r1, rfl, ⟨n1, t1, o1⟩, f2, r2, rfl, ⟨n2, t2, o2⟩, f3, r3, rfl, ⟨n3, t3, o3⟩, f4, r4, rfl, ⟨n4, t4, o4⟩, rfl⟩ := hf
  have hi : Tryz.prog.underlying 3 = some (.int .i64) := Tryz.underlying3
  by_cases e0 : k = k'
  case neg => simp [Op.eqFields, go_sem, n0, t0, o0, n1, t1, o1, n2, t2, o2, n3, t3, o3, n4, t4, o4, rulEq, hi, e0]
  by_cases e1 : y = y'
  case neg => simp [Op.eqFields, go_sem, n0, t0, o0, n1, t1, o1, n2, t2, o2, n3, t3, o3, n4, t4, o4, rulEq, hi, e0, e1]
  by_cases e2 : c = c'
  case neg => simp [Op.eqFields, go_sem, n0, t0, o0, n1, t1, o1, n2, t2, o2, n3, t3, o3, n4, t4, o4, rulEq, hi, e0, e1, e2]
  by_cases e3 : t = t'
  case neg => simp [Op.eqFields, go_sem, n0, t0, o0, n1, t1, o1, n2, t2, o2, n3, t3, o3, n4, t4, o4, rulEq, hi, e0, e1, e2, e3]
  by_cases e4 : m = m'
  case neg => simp [Op.eqFields, go_sem, n0, t0, o0, n1, t1, o1, n2, t2, o2, n3, t3, o3, n4, t4, o4, rulEq, hi, e0, e1, e2, e3, e4]
  simp [Op.eqFields, go_sem, n0, t0, o0, n1, t1, o1, n2, t2, o2, n3, t3, o3, n4, t4, o4, rulEq, hi, e0, e1, e2, e3, e4]
def noK (ks : List Int) : Bool := ks.length == 0
theorem noK_eq {ks : List Int} (h : noK ks = true) : ks = [] := by simpa [noK] using h
/-- Whether what a step's kind has is right, and the rest zero. -/
def stpB (D : Stp) : Bool :=
  if D.k = 1 then evB D.e.k D.e.y D.e.c D.e.t D.e.m D.e.f D.e.b && noK D.ks && zeroR D.r
  else if D.k = 2 ∨ D.k = 4 then zeroE D.e && noK D.ks && zeroR D.r
  else if D.k = 3 then zeroE D.e && allA D.ks && zeroR D.r
  else if D.k = 5 then zeroE D.e && noK D.ks && ruleB D.r
  else false
def stT (D : Stp) : List UInt8 :=
  if D.k = 1 then [116, 97, 107, 101, 32] ++ evT D.e.k D.e.y D.e.c D.e.t D.e.m D.e.f D.e.b
  else if D.k = 2 then [115, 121, 110, 99]
  else if D.k = 3 then sen [99, 114, 97, 115, 104] D.ks
  else if D.k = 4 then [115, 116, 97, 114, 116]
  else sen [116, 117, 114, 110] [D.r.lo, D.r.hi, D.r.st, D.r.mi, D.r.ma]
def stL (D : Stp) : List UInt8 := if stpB D = true then stT D else []
theorem stp_box (D : Stp) (a : Option Addr) (c : Nat) (w : World) (ty : TypeId) : ∀ w', Keeps (w.alloc (.cells (D.cells a c) ty)) w' → w'.cell? ⟨w.heap.size, 0, none⟩ = some (.int .i64 D.k) ∧ (w'.cell? ⟨w.heap.size, 1, none⟩ = some (.int .i64 D.e.k) ∧ w'.cell? ⟨w.heap.size, 2, none⟩ = some (.int .i64 D.e.y) ∧ w'.cell? ⟨w.heap.size, 3, none⟩ = some (.int .i64 D.e.c) ∧ w'.cell? ⟨w.heap.size, 4, none⟩ = some (.int .i64 D.e.t) ∧ w'.cell? ⟨w.heap.size, 5, none⟩ = some (.int .i64 D.e.m) ∧ w'.cell? ⟨w.heap.size, 6, none⟩ = some (.int .i64 D.e.f) ∧ w'.cell? ⟨w.heap.size, 7, none⟩ = some (.bool D.e.b)) ∧ w'.cell? ⟨w.heap.size, 8, none⟩ = some (.slice a D.ks.length c) ∧ w'.cell? ⟨w.heap.size, 9, none⟩ = some (.int .i64 D.r.lo) ∧ w'.cell? ⟨w.heap.size, 10, none⟩ = some (.int .i64 D.r.hi) ∧ w'.cell? ⟨w.heap.size, 11, none⟩ = some (.int .i64 D.r.st) ∧ w'.cell? ⟨w.heap.size, 12, none⟩ = some (.int .i64 D.r.mi) ∧ w'.cell? ⟨w.heap.size, 13, none⟩ = some (.int .i64 D.r.ma) :=
  fun w' hk => ⟨hk.cell (by simp), ⟨hk.cell (by simp), hk.cell (by simp), hk.cell (by simp), hk.cell (by simp), hk.cell (by simp), hk.cell (by simp), hk.cell (by simp)⟩, hk.cell (by simp), hk.cell (by simp), hk.cell (by simp), hk.cell (by simp), hk.cell (by simp), hk.cell (by simp)⟩
end Go.Proofs.YtjihinkjcplgcaaGreatDoor
namespace Go.Proofs
open Go.Shelf
def Tryz.laysC172_ren : Go.Shelf.Ren := ⟨fun | 172 => 93 | 244 => 103 | 245 => 104 | 247 => 114 | 279 => 115 | 280 => 116 | 281 => 117 | 282 => 118 | 287 => 125 | 316 => 126 | 171 => 74 | 205 => 127 | 321 => 130 | 322 => 131 | 243 => 89 | 246 => 95 | 283 => 105 | 284 => 106 | 285 => 107 | 286 => 108 | 129 => 120 | 317 => 119 | 318 => 121 | 319 => 122 | 320 => 123 | 337 => 128 | 338 => 129 | n => n, fun | 9 => 9 | 3 => 3 | 75 => 84 | 76 => 85 | 4 => 4 | 5 => 5 | 167 => 160 | 37 => 22 | 0 => 0 | 85 => 161 | 2 => 2 | 168 => 163 | 53 => 149 | 175 => 170 | 46 => 99 | 210 => 174 | 127 => 130 | 145 => 184 | 143 => 182 | 21 => 21 | 171 => 148 | 173 => 152 | 212 => 167 | 51 => 154 | 20 => 20 | 213 => 168 | 232 => 185 | 233 => 186 | 80 => 79 | n => n, fun | 15 => 3 | 16 => 4 | 17 => 2 | 18 => 7 | 19 => 8 | n => n⟩
theorem Tryz.laysC172 : Go.Proofs.LaysC.n172 Tryz.prog Tryz.laysC172_ren := {
  mixed := by kernel_rfl
  f129 := Tryz.func120.trans (congrArg some (by kernel_rfl))
  f171 := Tryz.func74.trans (congrArg some (by kernel_rfl))
  f172 := Tryz.func93.trans (congrArg some (by kernel_rfl))
  f205 := Tryz.func127.trans (congrArg some (by kernel_rfl))
  f243 := Tryz.func89.trans (congrArg some (by kernel_rfl))
  f244 := Tryz.func103.trans (congrArg some (by kernel_rfl))
  f245 := Tryz.func104.trans (congrArg some (by kernel_rfl))
  f246 := Tryz.func95.trans (congrArg some (by kernel_rfl))
  f247 := Tryz.func114.trans (congrArg some (by kernel_rfl))
  f279 := Tryz.func115.trans (congrArg some (by kernel_rfl))
  f280 := Tryz.func116.trans (congrArg some (by kernel_rfl))
  f281 := Tryz.func117.trans (congrArg some (by kernel_rfl))
  f282 := Tryz.func118.trans (congrArg some (by kernel_rfl))
  f283 := Tryz.func105.trans (congrArg some (by kernel_rfl))
  f284 := Tryz.func106.trans (congrArg some (by kernel_rfl))
  f285 := Tryz.func107.trans (congrArg some (by kernel_rfl))
  f286 := Tryz.func108.trans (congrArg some (by kernel_rfl))
  f287 := Tryz.func125.trans (congrArg some (by kernel_rfl))
  f316 := Tryz.func126.trans (congrArg some (by kernel_rfl))
  f317 := Tryz.func119.trans (congrArg some (by kernel_rfl))
  f318 := Tryz.func121.trans (congrArg some (by kernel_rfl))
  f319 := Tryz.func122.trans (congrArg some (by kernel_rfl))
  f320 := Tryz.func123.trans (congrArg some (by kernel_rfl))
  f321 := Tryz.func130.trans (congrArg some (by kernel_rfl))
  f322 := Tryz.func131.trans (congrArg some (by kernel_rfl))
  f337 := Tryz.func128.trans (congrArg some (by kernel_rfl))
  f338 := Tryz.func129.trans (congrArg some (by kernel_rfl))
  t0 := Tryz.underlying0
  a0 := Tryz.isAgg0
  z0 := Tryz.sizeOf0
  v0 := Tryz.zeroValue0
  t2 := Tryz.underlying2
  a2 := Tryz.isAgg2
  z2 := Tryz.sizeOf2
  v2 := Tryz.zeroValue2
  t3 := Tryz.underlying3
  a3 := Tryz.isAgg3
  z3 := Tryz.sizeOf3
  v3 := Tryz.zeroValue3
  t4 := Tryz.underlying4
  a4 := Tryz.isAgg4
  z4 := Tryz.sizeOf4
  v4 := Tryz.zeroValue4
  t5 := Tryz.underlying5
  a5 := Tryz.isAgg5
  z5 := Tryz.sizeOf5
  v5 := Tryz.zeroValue5
  t9 := Tryz.underlying9
  a9 := Tryz.isAgg9
  z9 := Tryz.sizeOf9
  v9 := Tryz.zeroValue9
  t20 := Tryz.underlying20
  a20 := Tryz.isAgg20
  z20 := Tryz.sizeOf20
  v20 := Tryz.zeroValue20
  t21 := Tryz.underlying21
  a21 := Tryz.isAgg21
  z21 := Tryz.sizeOf21
  v21 := Tryz.zeroValue21
  t37 := Tryz.underlying22
  a37 := Tryz.isAgg22
  z37 := Tryz.sizeOf22
  v37 := Tryz.zeroValue22
  t46 := Tryz.underlying99
  a46 := Tryz.isAgg99
  z46 := Tryz.sizeOf99
  v46 := Tryz.zeroValue99
  t51 := Tryz.underlying154
  a51 := Tryz.isAgg154
  z51 := Tryz.sizeOf154
  v51 := Tryz.zeroValue154
  t53 := Tryz.underlying149
  a53 := Tryz.isAgg149
  z53 := Tryz.sizeOf149
  v53 := Tryz.zeroValue149
  t75 := Tryz.underlying84
  a75 := Tryz.isAgg84
  z75 := Tryz.sizeOf84
  v75 := Tryz.zeroValue84
  t76 := Tryz.underlying85
  a76 := Tryz.isAgg85
  z76 := Tryz.sizeOf85
  v76 := Tryz.zeroValue85
  t85 := Tryz.underlying161
  a85 := Tryz.isAgg161
  z85 := Tryz.sizeOf161
  v85 := Tryz.zeroValue161
  t127 := Tryz.underlying130
  a127 := Tryz.isAgg130
  z127 := Tryz.sizeOf130
  v127 := Tryz.zeroValue130
  t143 := Tryz.underlying182
  a143 := Tryz.isAgg182
  z143 := Tryz.sizeOf182
  v143 := Tryz.zeroValue182
  t145 := Tryz.underlying184
  a145 := Tryz.isAgg184
  z145 := Tryz.sizeOf184
  v145 := Tryz.zeroValue184
  t167 := Tryz.underlying160
  a167 := Tryz.isAgg160
  z167 := Tryz.sizeOf160
  v167 := Tryz.zeroValue160
  t168 := Tryz.underlying163
  a168 := Tryz.isAgg163
  z168 := Tryz.sizeOf163
  v168 := Tryz.zeroValue163
  t171 := Tryz.underlying148
  a171 := Tryz.isAgg148
  z171 := Tryz.sizeOf148
  v171 := Tryz.zeroValue148
  t173 := Tryz.underlying152
  a173 := Tryz.isAgg152
  z173 := Tryz.sizeOf152
  v173 := Tryz.zeroValue152
  t175 := Tryz.underlying170
  a175 := Tryz.isAgg170
  z175 := Tryz.sizeOf170
  v175 := Tryz.zeroValue170
  t210 := Tryz.underlying174
  a210 := Tryz.isAgg174
  z210 := Tryz.sizeOf174
  v210 := Tryz.zeroValue174
  t212 := Tryz.underlying167
  a212 := Tryz.isAgg167
  z212 := Tryz.sizeOf167
  v212 := Tryz.zeroValue167
  t213 := Tryz.underlying168
  a213 := Tryz.isAgg168
  z213 := Tryz.sizeOf168
  t232 := Tryz.underlying185
  a232 := Tryz.isAgg185
  z232 := Tryz.sizeOf185
  v232 := Tryz.zeroValue185
  t233 := Tryz.underlying186
  a233 := Tryz.isAgg186
  z233 := Tryz.sizeOf186
  v233 := Tryz.zeroValue186
  g15 := by kernel_rfl
  g16 := by kernel_rfl
  g17 := by kernel_rfl
  g18 := by kernel_rfl
  g19 := by kernel_rfl
  t80 := Tryz.underlying79
  a80 := Tryz.isAgg79
  z80 := Tryz.sizeOf79
  v80 := Tryz.zeroValue79
  i0 := by kernel_rfl
  i2 := by kernel_rfl
  i3 := by kernel_rfl
  i4 := by kernel_rfl
  i5 := by kernel_rfl
  i9 := by kernel_rfl
  i20 := by kernel_rfl
  i21 := by kernel_rfl
  i37 := by kernel_rfl
  i46 := by kernel_rfl
  i51 := by kernel_rfl
  i53 := by kernel_rfl
  i75 := by kernel_rfl
  i76 := by kernel_rfl
  i80 := by kernel_rfl
  i85 := by kernel_rfl
  i127 := by kernel_rfl
  i143 := by kernel_rfl
  i145 := by kernel_rfl
  i167 := by kernel_rfl
  i168 := by kernel_rfl
  i171 := by kernel_rfl
  i173 := by kernel_rfl
  i175 := by kernel_rfl
  i210 := by kernel_rfl
  i212 := by kernel_rfl
  i232 := by kernel_rfl
  i233 := by kernel_rfl
  m15 := by kernel_rfl
  m16 := by kernel_rfl
  m17 := by kernel_rfl
  m18 := by kernel_rfl
  m19 := by kernel_rfl
  c0 := by kernel_rfl
  c2 := by kernel_rfl
  c3 := by kernel_rfl
  c4 := by kernel_rfl
  c5 := by kernel_rfl
  c9 := by kernel_rfl
  c20 := by kernel_rfl
  c21 := by kernel_rfl
  c37 := by kernel_rfl
  c46 := by kernel_rfl
  c51 := by kernel_rfl
  c53 := by kernel_rfl
  c75 := by kernel_rfl
  c76 := by kernel_rfl
  c80 := by kernel_rfl
  c85 := by kernel_rfl
  c127 := by kernel_rfl
  c143 := by kernel_rfl
  c145 := by kernel_rfl
  c167 := by kernel_rfl
  c168 := by kernel_rfl
  c171 := by kernel_rfl
  c173 := by kernel_rfl
  c175 := by kernel_rfl
  c210 := by kernel_rfl
  c212 := by kernel_rfl
  c213 := by kernel_rfl
  c232 := by kernel_rfl
  c233 := by kernel_rfl }
open Go.RowKit in
theorem Tryz.strconv_Atoi_ok (s : ByteArray) (hmax : s.size ≤ 9223372036854775806) (v : Int) (h : Lib.atoiAll s.data.toList = .ok v) (w : World) :
    Calls Tryz.prog 93 #[.string s] w fun e w' => e = .returned (.tuple #[.int .i64 v, .nilIface]) ∧ (w' = w ∨ ∃ t, w' = Lib.bytesWorld w 5 t) := Any.strconv_Atoi_ok Tryz.laysC172 s hmax v h w
end Go.Proofs
namespace Go.Proofs.YtjihinkjcplgcaaGreatDoor
open Go.RowKit Go.ChangeShapes

theorem cells96 : Tryz.prog.cellsOf 184 = 1 := by kernel_rfl
theorem cells9 : Tryz.prog.cellsOf 9 = 1 := by kernel_rfl
theorem star : "*" ++ "errors.errorString" = "*errors.errorString" := by decide
theorem row94 (u : TypeId) (h : Tryz.prog.typeName? 3 u = some "*errors.errorString") : u = 182 :=
  typeName_ptr_named (nm := "errors.errorString") (by rw [star]; kernel_rfl) (by kernel_rfl) (by decide) u (by rw [star]; exact h)

/-- The head of the list, a sentinel: its variable holds a pointer. -/
theorem sent {n : String} {text : List UInt8} {r : List (String × DataW Unit)} {W : World} {g : Nat} (h : laidMet Tryz.prog ((n, .iface "*errors.errorString" (.ptr (.agg [.lit (.string text)]))) :: r) W)
    (hg : Tryz.prog.globalNamed n = some g) (ht : (Tryz.prog.globals[g]?).map (·.type) = some 84) : ∃ a : Addr, W.var? Tryz.prog n = some #[.iface 182 (.pointer (some a))] := by
  obtain ⟨a, _, h, _⟩ := laid_sentinel h hg ht Tryz.underlying84 row94 Tryz.underlying182 Tryz.underlying184 rfl rfl Tryz.underlying9 cells96 cells9
  exact ⟨a, h⟩
end Go.Proofs.YtjihinkjcplgcaaGreatDoor
namespace Go.Proofs.YtjihinkjcplgcaaGreatDoor
open Go.RowKit
set_option linter.unusedVariables false
theorem told_ok (n : Int) (w : World) : Calls Tryz.prog 78 #[.int .i64 n, .nilIface] w fun e w' => e = .returned (.tuple #[.int .i64 n, .bool true]) ∧ w' = w := by
  go_enter Tryz.func78, Tryz.ntmps78
  go_wp2
  go_ret2
  exact ⟨rfl, rfl⟩
theorem told_no (n : Int) (u : TypeId) (x : Value) (w : World) : Calls Tryz.prog 78 #[.int .i64 n, .iface u x] w fun e w' => e = .returned (.tuple #[.int .i64 0, .bool false]) ∧ w' = w := by
  go_enter Tryz.func78, Tryz.ntmps78
  go_wp2
  go_ret2
  exact ⟨rfl, rfl⟩
theorem gNumber : Tryz.prog.globalNamed "loop.example/g00400/impl.errNoNumber" = some 0 := by kernel_rfl
theorem tNumber : (Tryz.prog.globals[0]?).map (·.type) = some 84 := by kernel_rfl
end Go.Proofs.YtjihinkjcplgcaaGreatDoor
namespace Go.Proofs.YtjihinkjcplgcaaGreatDoor
open Go.RowKit
set_option linter.unusedVariables false

theorem atoi_ok (s : ByteArray) (v : Int) (w : World) (hs : s.size ≤ 1048576) (h : Lib.atoiAll s.data.toList = .ok v) :
    Calls Tryz.prog 93 #[.string s] w fun e w' => e = .returned (.tuple #[.int .i64 v, .nilIface]) ∧ Keeps w w' := by
  refine (Tryz.strconv_Atoi_ok s (by omega) v h w).mono ?_
  rintro e w' ⟨rfl, h | ⟨t, h⟩⟩
  · subst h; exact ⟨rfl, Keeps.refl _⟩
  · subst h; exact ⟨rfl, Lib.bytesWorld_below _ _ _⟩
theorem atoi_no (s : ByteArray) (w : World) (hs : s.size ≤ 1048576) (tS tR : TypeId) (pS pR : Value) (hS : w.var? Tryz.prog "strconv.ErrSyntax" = some #[.iface tS pS]) (hR : w.var? Tryz.prog "strconv.ErrRange" = some #[.iface tR pR])
    (h : ∀ v, Lib.atoiAll s.data.toList ≠ .ok v) :
    Calls Tryz.prog 93 #[.string s] w fun e w' => (∃ v u x, e = .returned (.tuple #[.int .i64 v, .iface u x])) ∧ Keeps w w' := by
  cases hc : Lib.atoiAll s.data.toList with
  | ok v => exact absurd hc (h v)
  | _ =>
    first
      | (refine (Any.strconv_Atoi_range_var Tryz.laysC172 s (by omega) hc tR pR w hR).mono ?_; rintro e w' ⟨N, rfl, _, _, hb⟩; exact ⟨⟨_, _, _, rfl⟩, hb⟩)
      | (refine (Any.strconv_Atoi_syntax_var Tryz.laysC172 s (by omega) hc tS pS w hS).mono ?_; rintro e w' ⟨N, rfl, _, _, hb⟩; exact ⟨⟨_, _, _, rfl⟩, hb⟩)

theorem toList_data (s : ByteArray) : s.toList = s.data.toList := ByteArray.toList_eq s
theorem atoi_ne {l : List UInt8} {v : Int} (h : Lib.atoiAll l = .ok v) : l ≠ [] := by
  intro e; subst e; cases h

theorem number_any (s : ByteArray) (w : World) (hs : s.size ≤ 1048576) (tS tR u1 : TypeId) (pS pR x1 : Value) (hS : w.var? Tryz.prog "strconv.ErrSyntax" = some #[.iface tS pS]) (hR : w.var? Tryz.prog "strconv.ErrRange" = some #[.iface tR pR])
    (ht : Tab w) (hg : w.cell? ⟨0, 0, none⟩ = some (.iface u1 x1)) :
    Calls Tryz.prog 79 #[.string s] w fun e w' => ((∃ v, Res s.data.toList v true ∧ e = .returned (.tuple #[.int .i64 v, .nilIface])) ∨ (Res s.data.toList 0 false ∧ ∃ u x, e = .returned (.tuple #[.int .i64 0, .iface u x]))) ∧ Keeps w w' := by
  by_cases hok : ∃ v, Lib.atoiAll s.data.toList = .ok v
  · obtain ⟨v, hv⟩ := hok
    have HA := hide (atoi_ok s v w hs hv)
    have HN := hide (fun w1 (h : Tab w1) => num_impl v w1 h)
    have HT := hide ht
    have HR := hide (fun h => res_other hv h)
    have HY := hide (fun hl h => res_yes (l := s.data.toList) (v := v) hl h)
    have HL := hide (atoi_ne hv)
    clear hS hR ht hv
    cases hb : numT v == s.toList
    · have HB : Hid (numT v ≠ s.data.toList) := by
        rw [toList_data] at hb
        exact beq_eq_false_iff_ne.1 hb
      go_enter Tryz.func79, Tryz.ntmps79
      go_wp2_with (first | (go_at_call 93; refine (unhide HA).mono ?_; rintro e w1 ⟨rfl, hk⟩) | (go_at_call 47; refine (unhide HN _ ((unhide HT).kept hk)).mono ?_; rintro e w2 ⟨rfl, hk2⟩; have hg2 := (hk.trans hk2).cell hg))
      go_quiet (fail)
      go_wp2
      go_ret2
      exact ⟨Or.inr ⟨unhide HR HB.out, _, _, rfl⟩, (hk.trans hk2).drewN _⟩
    · have HB : Hid (numT v = s.data.toList) := by
        rw [toList_data] at hb
        exact beq_iff_eq.1 hb
      go_enter Tryz.func79, Tryz.ntmps79
      go_wp2_with (first | (go_at_call 93; refine (unhide HA).mono ?_; rintro e w1 ⟨rfl, hk⟩) | (go_at_call 47; refine (unhide HN _ ((unhide HT).kept hk)).mono ?_; rintro e w2 ⟨rfl, hk2⟩))
      go_ret2
      exact ⟨Or.inl ⟨_, unhide HY HL.out HB.out, rfl⟩, hk.trans hk2⟩
  · have hok' : ∀ v, Lib.atoiAll s.data.toList ≠ .ok v := fun v h => hok ⟨v, h⟩
    have HA := hide (atoi_no s w hs tS tR pS pR hS hR hok')
    have HR := hide (res_err hok')
    clear hS hR ht hok hok'
    go_enter Tryz.func79, Tryz.ntmps79
    go_wp2_with (first | (go_at_call 93; refine (unhide HA).mono ?_; rintro e w1 ⟨⟨v, u, x, rfl⟩, hk⟩; have hg2 := hk.cell hg))
    go_quiet (fail)
    go_wp2
    go_ret2
    exact ⟨Or.inr ⟨unhide HR, _, _, rfl⟩, hk.drewN _⟩

theorem text_impl (s : ByteArray) (w : World) (hs : s.size ≤ 1048576) (tS tR u1 : TypeId) (pS pR x1 : Value) (hS : w.var? Tryz.prog "strconv.ErrSyntax" = some #[.iface tS pS]) (hR : w.var? Tryz.prog "strconv.ErrRange" = some #[.iface tR pR])
    (ht : Tab w) (hg : w.cell? ⟨0, 0, none⟩ = some (.iface u1 x1)) :
    Calls Tryz.prog 52 #[.string s] w fun e w' => (∃ v b, Res s.data.toList v b ∧ e = .returned (.tuple #[.int .i64 v, .bool b])) ∧ Keeps w w' := by
  have HN := hide (number_any s w hs tS tR u1 pS pR x1 hS hR ht hg)
  clear hS hR ht hg
  go_enter Tryz.func52, Tryz.ntmps52
  go_wp2_with fail
  refine (unhide HN).mono ?_
  rintro e w1 ⟨⟨v, hr, rfl⟩ | ⟨hr, u, x, rfl⟩, hk⟩
  · go_wp2_with (go_at_call 78; refine (told_ok _ _).mono ?_; rintro e w' ⟨rfl, hw⟩; rw [hw]; clear hw w')
    go_ret2
    exact ⟨⟨_, _, hr, rfl⟩, hk⟩
  · go_wp2_with (go_at_call 78; refine (told_no _ _ _ _).mono ?_; rintro e w' ⟨rfl, hw⟩; rw [hw]; clear hw w')
    go_ret2
    exact ⟨⟨_, _, hr, rfl⟩, hk⟩
end Go.Proofs.YtjihinkjcplgcaaGreatDoor
namespace Go.Proofs.YtjihinkjcplgcaaGreatDoor
open Go.RowKit Go.Deep
set_option linter.unusedVariables false
set_option linter.unusedSimpArgs false
set_option maxRecDepth 10000
/-- What the package's variables hold while texts are read. -/
structure Env (w : World) : Prop where
  tab : Tab w
  syn : ∃ t p, w.var? Tryz.prog "strconv.ErrSyntax" = some #[.iface t p]
  rng : ∃ t p, w.var? Tryz.prog "strconv.ErrRange" = some #[.iface t p]
  num : ∃ t p, w.cell? ⟨0, 0, none⟩ = some (.iface t p)
theorem Env.kept {w w' : World} (h : Env w) (hk : Keeps w w') : Env w' := by
  obtain ⟨a, ⟨t, p, b⟩, ⟨t', p', c⟩, ⟨t2, p2, d⟩⟩ := h
  exact ⟨a.kept hk, ⟨t, p, var_kept hk b⟩, ⟨t', p', var_kept hk c⟩, ⟨t2, p2, hk.cell d⟩⟩
theorem textnum_k (s : ByteArray) (w : World) (hs : s.size ≤ 1048576) (h : Env w) :
    Calls Tryz.prog 52 #[.string s] w fun e w' => (∃ b : Bool, e = .returned (.tuple #[.int .i64 (txN s.data.toList), .bool b])) ∧ Keeps w w' := by
  obtain ⟨ht, ⟨tS, pS, hS⟩, ⟨tR, pR, hR⟩, ⟨u1, x1, hg⟩⟩ := h
  refine (text_impl s w hs tS tR u1 pS pR x1 hS hR ht hg).mono ?_
  rintro e w' ⟨⟨v, b, hr, rfl⟩, hk⟩
  exact ⟨⟨b, by rw [res_tx hr]⟩, hk⟩
/-- Words in memory. -/
def Wds (w : World) (b off : Nat) (ws : List ByteArray) : Prop := ∀ i (h : i < ws.length), w.cell? ⟨b, off + i, none⟩ = some (.string ws[i])
theorem Wds.kept {w w' : World} {b off : Nat} {ws : List ByteArray} (h : Wds w b off ws) (hk : Keeps w w') : Wds w' b off ws := fun i hi => hk.cell (h i hi)
noncomputable def nn (ws : List ByteArray) (i : Nat) : Int := if h : i < ws.length then txN ws[i].data.toList else 0
noncomputable def nRow (ws : List ByteArray) (k i : Nat) : Value := if i < k then .int .i64 (nn ws i) else .int .i64 0
theorem five_zero : ∀ i, i < (#[.int .i64 0, .int .i64 0, .int .i64 0, .int .i64 0, .int .i64 0] : Array Value).size → (#[.int .i64 0, .int .i64 0, .int .i64 0, .int .i64 0, .int .i64 0] : Array Value)[i]? = some (.int .i64 0)
  | 0, _ => rfl
  | 1, _ => rfl
  | 2, _ => rfl
  | 3, _ => rfl
  | 4, _ => rfl
  | n + 5, h => absurd h (by simp)
theorem size_allocW (w : World) (o : Obj) : (w.alloc o).heap.size = w.heap.size + 1 := by simp
theorem nRow_step (ws : List ByteArray) (k j : Nat) : (if j = k then (.int .i64 (nn ws k) : Value) else nRow ws k j) = nRow ws (k + 1) j := by
  unfold nRow
  by_cases e : j = k
  · subst e
    rw [if_pos rfl, if_pos (by omega)]
  · rw [if_neg e]
    by_cases h : j < k
    · rw [if_pos h, if_pos (by omega)]
    · rw [if_neg h, if_neg (by omega)]
theorem nRow_end (ws : List ByteArray) (k j : Nat) (hj : j < 5) (h : k = 5 ∨ k = ws.length) (hl : k ≤ ws.length) (h5 : k ≤ 5) : nRow ws k j = nRow ws 5 j := by
  unfold nRow
  rw [if_pos hj]
  by_cases hk : j < k
  · rw [if_pos hk]
  · rw [if_neg hk]
    unfold nn
    rw [dif_neg (by omega)]
set_option maxHeartbeats 4000000 in
theorem numbers_k (b off cap : Nat) (ws : List ByteArray) (w : World) (hw : Wds w b off ws) (hs : ∀ x ∈ ws, x.size ≤ 1048576) (hl : ws.length ≤ 8) (he : Env w) :
    Calls Tryz.prog 91 #[.slice (some ⟨b, off, none⟩) ws.length cap] w fun e w' => e = .returned (.agg #[.int .i64 (nn ws 0), .int .i64 (nn ws 1), .int .i64 (nn ws 2), .int .i64 (nn ws 3), .int .i64 (nn ws 4)]) ∧ Keeps w w' := by
  have HW := hide hw
  have HS := hide hs
  have HE := hide he
  clear hw hs he
  go_enter Tryz.func91, Tryz.ntmps91
  have HR0 := hide ((World.rowIs_alloc w #[.int .i64 0, .int .i64 0, .int .i64 0, .int .i64 0, .int .i64 0] 140 (fun _ => .int .i64 0) five_zero).alloc (.cells #[.int .i64 0, .int .i64 0, .int .i64 0, .int .i64 0, .int .i64 0] 140))
  have HA0 := hide ((World.rowIs_alloc (w.alloc (.cells #[.int .i64 0, .int .i64 0, .int .i64 0, .int .i64 0, .int .i64 0] 140)) #[.int .i64 0, .int .i64 0, .int .i64 0, .int .i64 0, .int .i64 0] 140 (fun _ => .int .i64 0) five_zero).congr (g := nRow ws 0) (fun i _ => by simp [nRow]))
  rw [size_allocW] at HA0
  have HK0 := hide (two_keeps w (.cells #[.int .i64 0, .int .i64 0, .int .i64 0, .int .i64 0, .int .i64 0] 140) (.cells #[.int .i64 0, .int .i64 0, .int .i64 0, .int .i64 0, .int .i64 0] 140))
  go_wp2_with fail
  go_loopw [4] (fun y wr => ∃ k : Nat, k ≤ 5 ∧ k ≤ ws.length ∧ y = .int .i64 (k : Int) ∧ Hid (wr.rowIs w.heap.size 140 5 (fun _ => .int .i64 0)) ∧ Hid (wr.rowIs (w.heap.size + 1) 140 5 (nRow ws k)) ∧ Hid (Keeps w wr)) (fun y _ => 5 - (intOf y).toNat)
  case atStart => exact ⟨0, by omega, by omega, rfl, HR0, HA0, HK0⟩
  case round =>
    clear HR0 HA0 HK0
    obtain ⟨k, hk5, hkl, rfl, HR, HA, HK⟩ := hrel
    by_cases hlt : k < 5 ∧ k < ws.length
    · obtain ⟨h5, hlt⟩ := hlt
      have c0 := (HW.out.kept HK.out) k hlt
      have hsz := HS.out ws[k] (List.getElem_mem hlt)
      have hn : nn ws k = txN ws[k].data.toList := by unfold nn; rw [dif_pos hlt]
      generalize ws[k] = x at *
      go_wp2_with fail
      refine (textnum_k x wr hsz (HE.out.kept HK.out)).mono ?_
      rintro e w1 ⟨⟨bb, rfl⟩, hk1⟩
      have HR1 := hide (HR.out.of_block (Below.block hk1 _ HR.out.lt))
      have HA1 := hide (HA.out.of_block (Below.block hk1 _ HA.out.lt))
      have HK1 := hide (HK.out.trans hk1)
      have d0 := HA1.out.cell (i := k) (by omega)
      have df := HA1.out.frozen k
      have dl := HA1.out.lt
      rw [← hn]
      have HN := hide hn
      clear hk1 HR HA HK c0 hn
      generalize hv : nn ws k = v at *
      have HV := hide hv
      clear hv
      go_wp2_with fail
      go_roundw
      case rel => exact ⟨k + 1, by omega, by omega, by go_num, HR1.out.setOther (by simp) _, (HA1.out.set k (.int .i64 v)).congr (fun j hj => by rw [← HV.out]; exact nRow_step ws k j), Keeps.setCell HK1.out (by simp) _⟩
      case measure => simp [intOf]; omega
    · have HF := hide (HA.out.congr (g := nRow ws 5) (fun j hj => nRow_end ws k j hj (by omega) hkl hk5))
      have d0 := HF.out.cell (i := 0) (by decide)
      have d1 := HF.out.cell (i := 1) (by decide)
      have d2 := HF.out.cell (i := 2) (by decide)
      have d3 := HF.out.cell (i := 3) (by decide)
      have d4 := HF.out.cell (i := 4) (by decide)
      simp only [nRow] at d0 d1 d2 d3 d4
      rw [if_pos (by decide)] at d0 d1 d2 d3 d4
      have r0 := HR.out.cell (i := 0) (by decide)
      have r1 := HR.out.cell (i := 1) (by decide)
      have r2 := HR.out.cell (i := 2) (by decide)
      have r3 := HR.out.cell (i := 3) (by decide)
      have r4 := HR.out.cell (i := 4) (by decide)
      have f0 := HR.out.frozen 0
      have f1 := HR.out.frozen 1
      have f2 := HR.out.frozen 2
      have f3 := HR.out.frozen 3
      have f4 := HR.out.frozen 4
      have rl := HR.out.lt
      have HK2 := hide HK.out
      have HRR := hide HR.out
      clear HA HF HK HR
      generalize hn0 : nn ws 0 = n0 at *
      have HN0 := hide hn0
      clear hn0
      generalize hn1 : nn ws 1 = n1 at *
      have HN1 := hide hn1
      clear hn1
      generalize hn2 : nn ws 2 = n2 at *
      have HN2 := hide hn2
      clear hn2
      generalize hn3 : nn ws 3 = n3 at *
      have HN3 := hide hn3
      clear hn3
      generalize hn4 : nn ws 4 = n4 at *
      have HN4 := hide hn4
      clear hn4
      have HKF : Hid (Keeps w (((((wr.setCell ⟨w.heap.size, 0, none⟩ (.int .i64 n0)).setCell ⟨w.heap.size, 1, none⟩ (.int .i64 n1)).setCell ⟨w.heap.size, 2, none⟩ (.int .i64 n2)).setCell ⟨w.heap.size, 3, none⟩ (.int .i64 n3)).setCell ⟨w.heap.size, 4, none⟩ (.int .i64 n4))) := ((((Keeps.setCell HK2.out (Nat.le_refl _) _).setCell (Nat.le_refl _) _).setCell (Nat.le_refl _) _).setCell (Nat.le_refl _) _).setCell (Nat.le_refl _) _
      clear HK2
      have hcase : k = 5 ∨ (k < 5 ∧ k = ws.length) := by omega
      rcases hcase with rfl | ⟨h5, rfl⟩
      all_goals
        go_wp2_with fail
        refine bodyPost_ret (v := .agg #[.int .i64 n0, .int .i64 n1, .int .i64 n2, .int .i64 n3, .int .i64 n4]) ?_ rfl ⟨by rw [HN0.out, HN1.out, HN2.out, HN3.out, HN4.out], HKF.out⟩
        have r9 := (((((HRR.out.set 0 (.int .i64 n0)).set 1 (.int .i64 n1)).set 2 (.int .i64 n2)).set 3 (.int .i64 n3)).set 4 (.int .i64 n4))
        have o0 := r9.cell (i := 0) (by decide)
        have o1 := r9.cell (i := 1) (by decide)
        have o2 := r9.cell (i := 2) (by decide)
        have o3 := r9.cell (i := 3) (by decide)
        have o4 := r9.cell (i := 4) (by decide)
        simp at o0 o1 o2 o3 o4
        clear r9 HRR HKF r0 r1 r2 r3 r4 f0 f1 f2 f3 f4 d0 d1 d2 d3 d4
        revert o0 o1 o2 o3 o4
        generalize World.setCell (World.setCell _ _ _) _ _ = W'
        intro o0 o1 o2 o3 o4
        simp [results, Tryz.results91, go_sem, o0, o1, o2, o3, o4]
end Go.Proofs.YtjihinkjcplgcaaGreatDoor
