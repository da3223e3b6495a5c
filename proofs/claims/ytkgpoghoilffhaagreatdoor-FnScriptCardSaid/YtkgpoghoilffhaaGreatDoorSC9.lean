/- Texts of the verifier, joined: ShelfC, Sent, Told, TextK, Wrd, Rn. -/
import Derived.Shelf.LaysC
import Derived.Shelf.Strconv.AtoiAll
import Derived.Shelf.Strconv.ErrVarAll
import Derived.Test.YtkgpoghoilffhaaGreatDoorProg
import Derived.Test.YtkgpoghoilffhaaGreatDoorSC1
import Derived.Test.YtkgpoghoilffhaaGreatDoorSC3
import Derived.Test.YtkgpoghoilffhaaGreatDoorSC5
import Derived.Deep.OwnRows
import Derived.Laws.RangeAny
namespace Go.Proofs
open Go.Shelf
def Tryz.laysC172_ren : Go.Shelf.Ren := ⟨fun | 172 => 90 | 244 => 100 | 245 => 101 | 247 => 111 | 279 => 112 | 280 => 113 | 281 => 114 | 282 => 115 | 287 => 122 | 316 => 123 | 171 => 71 | 205 => 124 | 321 => 127 | 322 => 128 | 243 => 86 | 246 => 92 | 283 => 102 | 284 => 103 | 285 => 104 | 286 => 105 | 129 => 117 | 317 => 116 | 318 => 118 | 319 => 119 | 320 => 120 | 337 => 125 | 338 => 126 | n => n, fun | 9 => 9 | 3 => 3 | 75 => 80 | 76 => 81 | 4 => 4 | 5 => 5 | 167 => 159 | 37 => 22 | 0 => 0 | 85 => 160 | 2 => 2 | 168 => 162 | 53 => 148 | 175 => 169 | 46 => 95 | 210 => 173 | 127 => 129 | 145 => 183 | 143 => 181 | 21 => 21 | 171 => 147 | 173 => 151 | 212 => 166 | 51 => 153 | 20 => 20 | 213 => 167 | 232 => 184 | 233 => 185 | 80 => 75 | n => n, fun | 15 => 3 | 16 => 4 | 17 => 2 | 18 => 7 | 19 => 8 | n => n⟩
theorem Tryz.laysC172 : Go.Proofs.LaysC.n172 Tryz.prog Tryz.laysC172_ren := {
  mixed := by kernel_rfl
  f129 := Tryz.func117.trans (congrArg some (by kernel_rfl))
  f171 := Tryz.func71.trans (congrArg some (by kernel_rfl))
  f172 := Tryz.func90.trans (congrArg some (by kernel_rfl))
  f205 := Tryz.func124.trans (congrArg some (by kernel_rfl))
  f243 := Tryz.func86.trans (congrArg some (by kernel_rfl))
  f244 := Tryz.func100.trans (congrArg some (by kernel_rfl))
  f245 := Tryz.func101.trans (congrArg some (by kernel_rfl))
  f246 := Tryz.func92.trans (congrArg some (by kernel_rfl))
  f247 := Tryz.func111.trans (congrArg some (by kernel_rfl))
  f279 := Tryz.func112.trans (congrArg some (by kernel_rfl))
  f280 := Tryz.func113.trans (congrArg some (by kernel_rfl))
  f281 := Tryz.func114.trans (congrArg some (by kernel_rfl))
  f282 := Tryz.func115.trans (congrArg some (by kernel_rfl))
  f283 := Tryz.func102.trans (congrArg some (by kernel_rfl))
  f284 := Tryz.func103.trans (congrArg some (by kernel_rfl))
  f285 := Tryz.func104.trans (congrArg some (by kernel_rfl))
  f286 := Tryz.func105.trans (congrArg some (by kernel_rfl))
  f287 := Tryz.func122.trans (congrArg some (by kernel_rfl))
  f316 := Tryz.func123.trans (congrArg some (by kernel_rfl))
  f317 := Tryz.func116.trans (congrArg some (by kernel_rfl))
  f318 := Tryz.func118.trans (congrArg some (by kernel_rfl))
  f319 := Tryz.func119.trans (congrArg some (by kernel_rfl))
  f320 := Tryz.func120.trans (congrArg some (by kernel_rfl))
  f321 := Tryz.func127.trans (congrArg some (by kernel_rfl))
  f322 := Tryz.func128.trans (congrArg some (by kernel_rfl))
  f337 := Tryz.func125.trans (congrArg some (by kernel_rfl))
  f338 := Tryz.func126.trans (congrArg some (by kernel_rfl))
  t0 := Tryz.underlying0
  a0 := Tryz.isAgg0
  z0 := Tryz.sizeOf0
  v0 := Tryz.zeroValue0
  t2 := Tryz.underlying2
  a2 := Tryz.isAgg2
  z2 := Tryz.sizeOf2
  v2 := Tryz.zeroValue2
  t3 := Tryz.underlying3
  a3 := Tryz.isAgg3
  z3 := Tryz.sizeOf3
  v3 := Tryz.zeroValue3
  t4 := Tryz.underlying4
  a4 := Tryz.isAgg4
  z4 := Tryz.sizeOf4
  v4 := Tryz.zeroValue4
  t5 := Tryz.underlying5
  a5 := Tryz.isAgg5
  z5 := Tryz.sizeOf5
  v5 := Tryz.zeroValue5
  t9 := Tryz.underlying9
  a9 := Tryz.isAgg9
  z9 := Tryz.sizeOf9
  v9 := Tryz.zeroValue9
  t20 := Tryz.underlying20
  a20 := Tryz.isAgg20
  z20 := Tryz.sizeOf20
  v20 := Tryz.zeroValue20
  t21 := Tryz.underlying21
  a21 := Tryz.isAgg21
  z21 := Tryz.sizeOf21
  v21 := Tryz.zeroValue21
  t37 := Tryz.underlying22
  a37 := Tryz.isAgg22
  z37 := Tryz.sizeOf22
  v37 := Tryz.zeroValue22
  t46 := Tryz.underlying95
  a46 := Tryz.isAgg95
  z46 := Tryz.sizeOf95
  v46 := Tryz.zeroValue95
  t51 := Tryz.underlying153
  a51 := Tryz.isAgg153
  z51 := Tryz.sizeOf153
  v51 := Tryz.zeroValue153
  t53 := Tryz.underlying148
  a53 := Tryz.isAgg148
  z53 := Tryz.sizeOf148
  v53 := Tryz.zeroValue148
  t75 := Tryz.underlying80
  a75 := Tryz.isAgg80
  z75 := Tryz.sizeOf80
  v75 := Tryz.zeroValue80
  t76 := Tryz.underlying81
  a76 := Tryz.isAgg81
  z76 := Tryz.sizeOf81
  v76 := Tryz.zeroValue81
  t85 := Tryz.underlying160
  a85 := Tryz.isAgg160
  z85 := Tryz.sizeOf160
  v85 := Tryz.zeroValue160
  t127 := Tryz.underlying129
  a127 := Tryz.isAgg129
  z127 := Tryz.sizeOf129
  v127 := Tryz.zeroValue129
  t143 := Tryz.underlying181
  a143 := Tryz.isAgg181
  z143 := Tryz.sizeOf181
  v143 := Tryz.zeroValue181
  t145 := Tryz.underlying183
  a145 := Tryz.isAgg183
  z145 := Tryz.sizeOf183
  v145 := Tryz.zeroValue183
  t167 := Tryz.underlying159
  a167 := Tryz.isAgg159
  z167 := Tryz.sizeOf159
  v167 := Tryz.zeroValue159
  t168 := Tryz.underlying162
  a168 := Tryz.isAgg162
  z168 := Tryz.sizeOf162
  v168 := Tryz.zeroValue162
  t171 := Tryz.underlying147
  a171 := Tryz.isAgg147
  z171 := Tryz.sizeOf147
  v171 := Tryz.zeroValue147
  t173 := Tryz.underlying151
  a173 := Tryz.isAgg151
  z173 := Tryz.sizeOf151
  v173 := Tryz.zeroValue151
  t175 := Tryz.underlying169
  a175 := Tryz.isAgg169
  z175 := Tryz.sizeOf169
  v175 := Tryz.zeroValue169
  t210 := Tryz.underlying173
  a210 := Tryz.isAgg173
  z210 := Tryz.sizeOf173
  v210 := Tryz.zeroValue173
  t212 := Tryz.underlying166
  a212 := Tryz.isAgg166
  z212 := Tryz.sizeOf166
  v212 := Tryz.zeroValue166
  t213 := Tryz.underlying167
  a213 := Tryz.isAgg167
  z213 := Tryz.sizeOf167
  t232 := Tryz.underlying184
  a232 := Tryz.isAgg184
  z232 := Tryz.sizeOf184
  v232 := Tryz.zeroValue184
  t233 := Tryz.underlying185
  a233 := Tryz.isAgg185
  z233 := Tryz.sizeOf185
  v233 := Tryz.zeroValue185
  g15 := by kernel_rfl
  g16 := by kernel_rfl
  g17 := by kernel_rfl
  g18 := by kernel_rfl
  g19 := by kernel_rfl
  t80 := Tryz.underlying75
  a80 := Tryz.isAgg75
  z80 := Tryz.sizeOf75
  v80 := Tryz.zeroValue75
  i0 := by kernel_rfl
  i2 := by kernel_rfl
  i3 := by kernel_rfl
  i4 := by kernel_rfl
  i5 := by kernel_rfl
  i9 := by kernel_rfl
  i20 := by kernel_rfl
  i21 := by kernel_rfl
  i37 := by kernel_rfl
  i46 := by kernel_rfl
  i51 := by kernel_rfl
  i53 := by kernel_rfl
  i75 := by kernel_rfl
  i76 := by kernel_rfl
  i80 := by kernel_rfl
  i85 := by kernel_rfl
  i127 := by kernel_rfl
  i143 := by kernel_rfl
  i145 := by kernel_rfl
  i167 := by kernel_rfl
  i168 := by kernel_rfl
  i171 := by kernel_rfl
  i173 := by kernel_rfl
  i175 := by kernel_rfl
  i210 := by kernel_rfl
  i212 := by kernel_rfl
  i232 := by kernel_rfl
  i233 := by kernel_rfl
  m15 := by kernel_rfl
  m16 := by kernel_rfl
  m17 := by kernel_rfl
  m18 := by kernel_rfl
  m19 := by kernel_rfl
  c0 := by kernel_rfl
  c2 := by kernel_rfl
  c3 := by kernel_rfl
  c4 := by kernel_rfl
  c5 := by kernel_rfl
  c9 := by kernel_rfl
  c20 := by kernel_rfl
  c21 := by kernel_rfl
  c37 := by kernel_rfl
  c46 := by kernel_rfl
  c51 := by kernel_rfl
  c53 := by kernel_rfl
  c75 := by kernel_rfl
  c76 := by kernel_rfl
  c80 := by kernel_rfl
  c85 := by kernel_rfl
  c127 := by kernel_rfl
  c143 := by kernel_rfl
  c145 := by kernel_rfl
  c167 := by kernel_rfl
  c168 := by kernel_rfl
  c171 := by kernel_rfl
  c173 := by kernel_rfl
  c175 := by kernel_rfl
  c210 := by kernel_rfl
  c212 := by kernel_rfl
  c213 := by kernel_rfl
  c232 := by kernel_rfl
  c233 := by kernel_rfl }
open Go.RowKit in
theorem Tryz.strconv_Atoi_ok (s : ByteArray) (hmax : s.size ≤ 9223372036854775806) (v : Int) (h : Lib.atoiAll s.data.toList = .ok v) (w : World) :
    Calls Tryz.prog 90 #[.string s] w fun e w' => e = .returned (.tuple #[.int .i64 v, .nilIface]) ∧ (w' = w ∨ ∃ t, w' = Lib.bytesWorld w 5 t) := Any.strconv_Atoi_ok Tryz.laysC172 s hmax v h w
end Go.Proofs
namespace Go.Proofs.YtkgpoghoilffhaaGreatDoor
open Go.RowKit Go.ChangeShapes

theorem cells96 : Tryz.prog.cellsOf 183 = 1 := by kernel_rfl
theorem cells9 : Tryz.prog.cellsOf 9 = 1 := by kernel_rfl
theorem star : "*" ++ "errors.errorString" = "*errors.errorString" := by decide
theorem row94 (u : TypeId) (h : Tryz.prog.typeName? 3 u = some "*errors.errorString") : u = 181 :=
  typeName_ptr_named (nm := "errors.errorString") (by rw [star]; kernel_rfl) (by kernel_rfl) (by decide) u (by rw [star]; exact h)

/-- The head of the list, a sentinel: its variable holds a pointer. -/
theorem sent {n : String} {text : List UInt8} {r : List (String × DataW Unit)} {W : World} {g : Nat} (h : laidMet Tryz.prog ((n, .iface "*errors.errorString" (.ptr (.agg [.lit (.string text)]))) :: r) W)
    (hg : Tryz.prog.globalNamed n = some g) (ht : (Tryz.prog.globals[g]?).map (·.type) = some 80) : ∃ a : Addr, W.var? Tryz.prog n = some #[.iface 181 (.pointer (some a))] := by
  obtain ⟨a, _, h, _⟩ := laid_sentinel h hg ht Tryz.underlying80 row94 Tryz.underlying181 Tryz.underlying183 rfl rfl Tryz.underlying9 cells96 cells9
  exact ⟨a, h⟩
end Go.Proofs.YtkgpoghoilffhaaGreatDoor
namespace Go.Proofs.YtkgpoghoilffhaaGreatDoor
open Go.RowKit
set_option linter.unusedVariables false
theorem told_ok (n : Int) (w : World) : Calls Tryz.prog 75 #[.int .i64 n, .nilIface] w fun e w' => e = .returned (.tuple #[.int .i64 n, .bool true]) ∧ w' = w := by
  go_enter Tryz.func75, Tryz.ntmps75
  go_wp2
  go_ret2
  exact ⟨rfl, rfl⟩
theorem told_no (n : Int) (u : TypeId) (x : Value) (w : World) : Calls Tryz.prog 75 #[.int .i64 n, .iface u x] w fun e w' => e = .returned (.tuple #[.int .i64 0, .bool false]) ∧ w' = w := by
  go_enter Tryz.func75, Tryz.ntmps75
  go_wp2
  go_ret2
  exact ⟨rfl, rfl⟩
theorem gNumber : Tryz.prog.globalNamed "loop.example/g00400/impl.errNoNumber" = some 0 := by kernel_rfl
theorem tNumber : (Tryz.prog.globals[0]?).map (·.type) = some 80 := by kernel_rfl
end Go.Proofs.YtkgpoghoilffhaaGreatDoor
namespace Go.Proofs.YtkgpoghoilffhaaGreatDoor
open Go.RowKit
set_option linter.unusedVariables false

theorem atoi_ok (s : ByteArray) (v : Int) (w : World) (hs : s.size ≤ 1048576) (h : Lib.atoiAll s.data.toList = .ok v) :
    Calls Tryz.prog 90 #[.string s] w fun e w' => e = .returned (.tuple #[.int .i64 v, .nilIface]) ∧ Keeps w w' := by
  refine (Tryz.strconv_Atoi_ok s (by omega) v h w).mono ?_
  rintro e w' ⟨rfl, h | ⟨t, h⟩⟩
  · subst h; exact ⟨rfl, Keeps.refl _⟩
  · subst h; exact ⟨rfl, Lib.bytesWorld_below _ _ _⟩
theorem atoi_no (s : ByteArray) (w : World) (hs : s.size ≤ 1048576) (tS tR : TypeId) (pS pR : Value) (hS : w.var? Tryz.prog "strconv.ErrSyntax" = some #[.iface tS pS]) (hR : w.var? Tryz.prog "strconv.ErrRange" = some #[.iface tR pR])
    (h : ∀ v, Lib.atoiAll s.data.toList ≠ .ok v) :
    Calls Tryz.prog 90 #[.string s] w fun e w' => (∃ v u x, e = .returned (.tuple #[.int .i64 v, .iface u x])) ∧ Keeps w w' := by
  cases hc : Lib.atoiAll s.data.toList with
  | ok v => exact absurd hc (h v)
  | _ =>
    first
      | (refine (Any.strconv_Atoi_range_var Tryz.laysC172 s (by omega) hc tR pR w hR).mono ?_; rintro e w' ⟨N, rfl, _, _, hb⟩; exact ⟨⟨_, _, _, rfl⟩, hb⟩)
      | (refine (Any.strconv_Atoi_syntax_var Tryz.laysC172 s (by omega) hc tS pS w hS).mono ?_; rintro e w' ⟨N, rfl, _, _, hb⟩; exact ⟨⟨_, _, _, rfl⟩, hb⟩)

theorem toList_data (s : ByteArray) : s.toList = s.data.toList := ByteArray.toList_eq s
theorem atoi_ne {l : List UInt8} {v : Int} (h : Lib.atoiAll l = .ok v) : l ≠ [] := by
  intro e; subst e; cases h

theorem number_any (s : ByteArray) (w : World) (hs : s.size ≤ 1048576) (tS tR u1 : TypeId) (pS pR x1 : Value) (hS : w.var? Tryz.prog "strconv.ErrSyntax" = some #[.iface tS pS]) (hR : w.var? Tryz.prog "strconv.ErrRange" = some #[.iface tR pR])
    (ht : Tab w) (hg : w.cell? ⟨0, 0, none⟩ = some (.iface u1 x1)) :
    Calls Tryz.prog 76 #[.string s] w fun e w' => ((∃ v, Res s.data.toList v true ∧ e = .returned (.tuple #[.int .i64 v, .nilIface])) ∨ (Res s.data.toList 0 false ∧ ∃ u x, e = .returned (.tuple #[.int .i64 0, .iface u x]))) ∧ Keeps w w' := by
  by_cases hok : ∃ v, Lib.atoiAll s.data.toList = .ok v
  · obtain ⟨v, hv⟩ := hok
    have HA := hide (atoi_ok s v w hs hv)
    have HN := hide (fun w1 (h : Tab w1) => num_impl v w1 h)
    have HT := hide ht
    have HR := hide (fun h => res_other hv h)
    have HY := hide (fun hl h => res_yes (l := s.data.toList) (v := v) hl h)
    have HL := hide (atoi_ne hv)
    clear hS hR ht hv
    cases hb : numT v == s.toList
    · have HB : Hid (numT v ≠ s.data.toList) := by
        rw [toList_data] at hb
        exact beq_eq_false_iff_ne.1 hb
      go_enter Tryz.func76, Tryz.ntmps76
      go_wp2_with (first | (go_at_call 90; refine (unhide HA).mono ?_; rintro e w1 ⟨rfl, hk⟩) | (go_at_call 41; refine (unhide HN _ ((unhide HT).kept hk)).mono ?_; rintro e w2 ⟨rfl, hk2⟩; have hg2 := (hk.trans hk2).cell hg))
      go_quiet (fail)
      go_wp2
      go_ret2
      exact ⟨Or.inr ⟨unhide HR HB.out, _, _, rfl⟩, (hk.trans hk2).drewN _⟩
    · have HB : Hid (numT v = s.data.toList) := by
        rw [toList_data] at hb
        exact beq_iff_eq.1 hb
      go_enter Tryz.func76, Tryz.ntmps76
      go_wp2_with (first | (go_at_call 90; refine (unhide HA).mono ?_; rintro e w1 ⟨rfl, hk⟩) | (go_at_call 41; refine (unhide HN _ ((unhide HT).kept hk)).mono ?_; rintro e w2 ⟨rfl, hk2⟩))
      go_ret2
      exact ⟨Or.inl ⟨_, unhide HY HL.out HB.out, rfl⟩, hk.trans hk2⟩
  · have hok' : ∀ v, Lib.atoiAll s.data.toList ≠ .ok v := fun v h => hok ⟨v, h⟩
    have HA := hide (atoi_no s w hs tS tR pS pR hS hR hok')
    have HR := hide (res_err hok')
    clear hS hR ht hok hok'
    go_enter Tryz.func76, Tryz.ntmps76
    go_wp2_with (first | (go_at_call 90; refine (unhide HA).mono ?_; rintro e w1 ⟨⟨v, u, x, rfl⟩, hk⟩; have hg2 := hk.cell hg))
    go_quiet (fail)
    go_wp2
    go_ret2
    exact ⟨Or.inr ⟨unhide HR, _, _, rfl⟩, hk.drewN _⟩

theorem text_impl (s : ByteArray) (w : World) (hs : s.size ≤ 1048576) (tS tR u1 : TypeId) (pS pR x1 : Value) (hS : w.var? Tryz.prog "strconv.ErrSyntax" = some #[.iface tS pS]) (hR : w.var? Tryz.prog "strconv.ErrRange" = some #[.iface tR pR])
    (ht : Tab w) (hg : w.cell? ⟨0, 0, none⟩ = some (.iface u1 x1)) :
    Calls Tryz.prog 46 #[.string s] w fun e w' => (∃ v b, Res s.data.toList v b ∧ e = .returned (.tuple #[.int .i64 v, .bool b])) ∧ Keeps w w' := by
  have HN := hide (number_any s w hs tS tR u1 pS pR x1 hS hR ht hg)
  clear hS hR ht hg
  go_enter Tryz.func46, Tryz.ntmps46
  go_wp2_with fail
  refine (unhide HN).mono ?_
  rintro e w1 ⟨⟨v, hr, rfl⟩ | ⟨hr, u, x, rfl⟩, hk⟩
  · go_wp2_with (go_at_call 75; refine (told_ok _ _).mono ?_; rintro e w' ⟨rfl, hw⟩; rw [hw]; clear hw w')
    go_ret2
    exact ⟨⟨_, _, hr, rfl⟩, hk⟩
  · go_wp2_with (go_at_call 75; refine (told_no _ _ _ _).mono ?_; rintro e w' ⟨rfl, hw⟩; rw [hw]; clear hw w')
    go_ret2
    exact ⟨⟨_, _, hr, rfl⟩, hk⟩
end Go.Proofs.YtkgpoghoilffhaaGreatDoor
namespace Go.Proofs.YtkgpoghoilffhaaGreatDoor
open Go.RowKit Go.Deep
set_option linter.unusedVariables false
set_option linter.unusedSimpArgs false
set_option maxRecDepth 10000
/-- What the package's variables hold while texts are read. -/
structure Env (w : World) : Prop where
  tab : Tab w
  syn : ∃ t p, w.var? Tryz.prog "strconv.ErrSyntax" = some #[.iface t p]
  rng : ∃ t p, w.var? Tryz.prog "strconv.ErrRange" = some #[.iface t p]
  num : ∃ t p, w.cell? ⟨0, 0, none⟩ = some (.iface t p)
theorem Env.kept {w w' : World} (h : Env w) (hk : Keeps w w') : Env w' := by
  obtain ⟨a, ⟨t, p, b⟩, ⟨t', p', c⟩, ⟨t2, p2, d⟩⟩ := h
  exact ⟨a.kept hk, ⟨t, p, var_kept hk b⟩, ⟨t', p', var_kept hk c⟩, ⟨t2, p2, hk.cell d⟩⟩
theorem textnum_k (s : ByteArray) (w : World) (hs : s.size ≤ 1048576) (h : Env w) :
    Calls Tryz.prog 46 #[.string s] w fun e w' => (∃ b : Bool, e = .returned (.tuple #[.int .i64 (txN s.data.toList), .bool b])) ∧ Keeps w w' := by
  obtain ⟨ht, ⟨tS, pS, hS⟩, ⟨tR, pR, hR⟩, ⟨u1, x1, hg⟩⟩ := h
  refine (text_impl s w hs tS tR u1 pS pR x1 hS hR ht hg).mono ?_
  rintro e w' ⟨⟨v, b, hr, rfl⟩, hk⟩
  exact ⟨⟨b, by rw [res_tx hr]⟩, hk⟩
/-- Words in memory. -/
def Wds (w : World) (b off : Nat) (ws : List ByteArray) : Prop := ∀ i (h : i < ws.length), w.cell? ⟨b, off + i, none⟩ = some (.string ws[i])
theorem Wds.kept {w w' : World} {b off : Nat} {ws : List ByteArray} (h : Wds w b off ws) (hk : Keeps w w') : Wds w' b off ws := fun i hi => hk.cell (h i hi)
noncomputable def nn (ws : List ByteArray) (i : Nat) : Int := if h : i < ws.length then txN ws[i].data.toList else 0
noncomputable def nRow (ws : List ByteArray) (k i : Nat) : Value := if i < k then .int .i64 (nn ws i) else .int .i64 0
theorem five_zero : ∀ i, i < (#[.int .i64 0, .int .i64 0, .int .i64 0, .int .i64 0, .int .i64 0] : Array Value).size → (#[.int .i64 0, .int .i64 0, .int .i64 0, .int .i64 0, .int .i64 0] : Array Value)[i]? = some (.int .i64 0)
  | 0, _ => rfl
  | 1, _ => rfl
  | 2, _ => rfl
  | 3, _ => rfl
  | 4, _ => rfl
  | n + 5, h => absurd h (by simp)
theorem size_allocW (w : World) (o : Obj) : (w.alloc o).heap.size = w.heap.size + 1 := by simp
theorem nRow_step (ws : List ByteArray) (k j : Nat) : (if j = k then (.int .i64 (nn ws k) : Value) else nRow ws k j) = nRow ws (k + 1) j := by
  unfold nRow
  by_cases e : j = k
  · subst e
    rw [if_pos rfl, if_pos (by omega)]
  · rw [if_neg e]
    by_cases h : j < k
    · rw [if_pos h, if_pos (by omega)]
    · rw [if_neg h, if_neg (by omega)]
theorem nRow_end (ws : List ByteArray) (k j : Nat) (hj : j < 5) (h : k = 5 ∨ k = ws.length) (hl : k ≤ ws.length) (h5 : k ≤ 5) : nRow ws k j = nRow ws 5 j := by
  unfold nRow
  rw [if_pos hj]
  by_cases hk : j < k
  · rw [if_pos hk]
  · rw [if_neg hk]
    unfold nn
    rw [dif_neg (by omega)]
set_option maxHeartbeats 4000000 in
theorem numbers_k (b off cap : Nat) (ws : List ByteArray) (w : World) (hw : Wds w b off ws) (hs : ∀ x ∈ ws, x.size ≤ 1048576) (hl : ws.length ≤ 8) (he : Env w) :
    Calls Tryz.prog 88 #[.slice (some ⟨b, off, none⟩) ws.length cap] w fun e w' => e = .returned (.agg #[.int .i64 (nn ws 0), .int .i64 (nn ws 1), .int .i64 (nn ws 2), .int .i64 (nn ws 3), .int .i64 (nn ws 4)]) ∧ Keeps w w' := by
  have HW := hide hw
  have HS := hide hs
  have HE := hide he
  clear hw hs he
  go_enter Tryz.func88, Tryz.ntmps88
  have HR0 := hide ((World.rowIs_alloc w #[.int .i64 0, .int .i64 0, .int .i64 0, .int .i64 0, .int .i64 0] 139 (fun _ => .int .i64 0) five_zero).alloc (.cells #[.int .i64 0, .int .i64 0, .int .i64 0, .int .i64 0, .int .i64 0] 139))
  have HA0 := hide ((World.rowIs_alloc (w.alloc (.cells #[.int .i64 0, .int .i64 0, .int .i64 0, .int .i64 0, .int .i64 0] 139)) #[.int .i64 0, .int .i64 0, .int .i64 0, .int .i64 0, .int .i64 0] 139 (fun _ => .int .i64 0) five_zero).congr (g := nRow ws 0) (fun i _ => by simp [nRow]))
  rw [size_allocW] at HA0
  have HK0 := hide (two_keeps w (.cells #[.int .i64 0, .int .i64 0, .int .i64 0, .int .i64 0, .int .i64 0] 139) (.cells #[.int .i64 0, .int .i64 0, .int .i64 0, .int .i64 0, .int .i64 0] 139))
  go_wp2_with fail
  go_loopw [4] (fun y wr => ∃ k : Nat, k ≤ 5 ∧ k ≤ ws.length ∧ y = .int .i64 (k : Int) ∧ Hid (wr.rowIs w.heap.size 139 5 (fun _ => .int .i64 0)) ∧ Hid (wr.rowIs (w.heap.size + 1) 139 5 (nRow ws k)) ∧ Hid (Keeps w wr)) (fun y _ => 5 - (intOf y).toNat)
  case atStart => exact ⟨0, by omega, by omega, rfl, HR0, HA0, HK0⟩
  case round =>
    clear HR0 HA0 HK0
    obtain ⟨k, hk5, hkl, rfl, HR, HA, HK⟩ := hrel
    by_cases hlt : k < 5 ∧ k < ws.length
    · obtain ⟨h5, hlt⟩ := hlt
      have c0 := (HW.out.kept HK.out) k hlt
      have hsz := HS.out ws[k] (List.getElem_mem hlt)
      have hn : nn ws k = txN ws[k].data.toList := by unfold nn; rw [dif_pos hlt]
      generalize ws[k] = x at *
      go_wp2_with fail
      refine (textnum_k x wr hsz (HE.out.kept HK.out)).mono ?_
      rintro e w1 ⟨⟨bb, rfl⟩, hk1⟩
      have HR1 := hide (HR.out.of_block (Below.block hk1 _ HR.out.lt))
      have HA1 := hide (HA.out.of_block (Below.block hk1 _ HA.out.lt))
      have HK1 := hide (HK.out.trans hk1)
      have d0 := HA1.out.cell (i := k) (by omega)
      have df := HA1.out.frozen k
      have dl := HA1.out.lt
      rw [← hn]
      have HN := hide hn
      clear hk1 HR HA HK c0 hn
      generalize hv : nn ws k = v at *
      have HV := hide hv
      clear hv
      go_wp2_with fail
      go_roundw
      case rel => exact ⟨k + 1, by omega, by omega, by go_num, HR1.out.setOther (by simp) _, (HA1.out.set k (.int .i64 v)).congr (fun j hj => by rw [← HV.out]; exact nRow_step ws k j), Keeps.setCell HK1.out (by simp) _⟩
      case measure => simp [intOf]; omega
    · have HF := hide (HA.out.congr (g := nRow ws 5) (fun j hj => nRow_end ws k j hj (by omega) hkl hk5))
      have d0 := HF.out.cell (i := 0) (by decide)
      have d1 := HF.out.cell (i := 1) (by decide)
      have d2 := HF.out.cell (i := 2) (by decide)
      have d3 := HF.out.cell (i := 3) (by decide)
      have d4 := HF.out.cell (i := 4) (by decide)
      simp only [nRow] at d0 d1 d2 d3 d4
      rw [if_pos (by decide)] at d0 d1 d2 d3 d4
      have r0 := HR.out.cell (i := 0) (by decide)
      have r1 := HR.out.cell (i := 1) (by decide)
      have r2 := HR.out.cell (i := 2) (by decide)
      have r3 := HR.out.cell (i := 3) (by decide)
      have r4 := HR.out.cell (i := 4) (by decide)
      have f0 := HR.out.frozen 0
      have f1 := HR.out.frozen 1
      have f2 := HR.out.frozen 2
      have f3 := HR.out.frozen 3
      have f4 := HR.out.frozen 4
      have rl := HR.out.lt
      have HK2 := hide HK.out
      have HRR := hide HR.out
      clear HA HF HK HR
      generalize hn0 : nn ws 0 = n0 at *
      have HN0 := hide hn0
      clear hn0
      generalize hn1 : nn ws 1 = n1 at *
      have HN1 := hide hn1
      clear hn1
      generalize hn2 : nn ws 2 = n2 at *
      have HN2 := hide hn2
      clear hn2
      generalize hn3 : nn ws 3 = n3 at *
      have HN3 := hide hn3
      clear hn3
      generalize hn4 : nn ws 4 = n4 at *
      have HN4 := hide hn4
      clear hn4
      have HKF : Hid (Keeps w (((((wr.setCell ⟨w.heap.size, 0, none⟩ (.int .i64 n0)).setCell ⟨w.heap.size, 1, none⟩ (.int .i64 n1)).setCell ⟨w.heap.size, 2, none⟩ (.int .i64 n2)).setCell ⟨w.heap.size, 3, none⟩ (.int .i64 n3)).setCell ⟨w.heap.size, 4, none⟩ (.int .i64 n4))) := ((((Keeps.setCell HK2.out (Nat.le_refl _) _).setCell (Nat.le_refl _) _).setCell (Nat.le_refl _) _).setCell (Nat.le_refl _) _).setCell (Nat.le_refl _) _
      clear HK2
      have hcase : k = 5 ∨ (k < 5 ∧ k = ws.length) := by omega
      rcases hcase with rfl | ⟨h5, rfl⟩
      all_goals
        go_wp2_with fail
        refine bodyPost_ret (v := .agg #[.int .i64 n0, .int .i64 n1, .int .i64 n2, .int .i64 n3, .int .i64 n4]) ?_ rfl ⟨by rw [HN0.out, HN1.out, HN2.out, HN3.out, HN4.out], HKF.out⟩
        have r9 := (((((HRR.out.set 0 (.int .i64 n0)).set 1 (.int .i64 n1)).set 2 (.int .i64 n2)).set 3 (.int .i64 n3)).set 4 (.int .i64 n4))
        have o0 := r9.cell (i := 0) (by decide)
        have o1 := r9.cell (i := 1) (by decide)
        have o2 := r9.cell (i := 2) (by decide)
        have o3 := r9.cell (i := 3) (by decide)
        have o4 := r9.cell (i := 4) (by decide)
        simp at o0 o1 o2 o3 o4
        clear r9 HRR HKF r0 r1 r2 r3 r4 f0 f1 f2 f3 f4 d0 d1 d2 d3 d4
        revert o0 o1 o2 o3 o4
        generalize World.setCell (World.setCell _ _ _) _ _ = W'
        intro o0 o1 o2 o3 o4
        simp [results, Tryz.results88, go_sem, o0, o1, o2, o3, o4]
end Go.Proofs.YtkgpoghoilffhaaGreatDoor
namespace Go.Proofs.YtkgpoghoilffhaaGreatDoor
open Go.RowKit
set_option linter.unusedVariables false
set_option linter.unusedSimpArgs false
set_option maxRecDepth 10000
/-- The iterator's block h turned to another place. -/
def iterTo (w : World) (h : Nat) (s : ByteArray) (p : Nat) : World := { w with heap := w.heap.setIfInBounds h (.stringIter s p) }
theorem iterTo_at {w : World} {h : Nat} (s : ByteArray) (p : Nat) (hl : h < w.heap.size) : (iterTo w h s p).heap[h]? = some (.stringIter s p) := by
  show (w.heap.setIfInBounds h (.stringIter s p))[h]? = _
  simp [hl]
theorem iterTo_size (w : World) (h : Nat) (s : ByteArray) (p : Nat) : (iterTo w h s p).heap.size = w.heap.size := by
  show (w.heap.setIfInBounds h (.stringIter s p)).size = _
  simp
theorem iterTo_turn (w : World) (h : Nat) (s : ByteArray) (p : Nat) : Turn [h] w (iterTo w h s p) := by
  refine ⟨rfl, rfl, rfl, Nat.le_of_eq (iterTo_size w h s p).symm, fun k hk hn => ?_⟩
  show (w.heap.setIfInBounds h (.stringIter s p))[k]? = _
  have : h ≠ k := fun e => hn (by simp [e])
  simp [Array.getElem?_setIfInBounds, this]
theorem iter_lt {w : World} {h : Nat} {o : Obj} (hi : w.heap[h]? = some o) : h < w.heap.size := by
  rcases Nat.lt_or_ge h w.heap.size with h1 | h1
  · exact h1
  · rw [Array.getElem?_eq_none h1] at hi; cases hi
section
variable {P : Program}
theorem run_next_at (w : World) (h : Nat) (s : ByteArray) (pos : Nat) (ty : TypeId) (hi : w.heap[h]? = some (.stringIter s pos)) (hp : pos < s.size) :
    (Instr.next (.pointer (some ⟨h, 0, none⟩)) true ty).run P w = .ok (.tuple #[.bool true, .int .i64 pos, .int .i32 (Utf8.decode s pos).1]) (iterTo w h s (pos + (Utf8.decode s pos).2)) := by
  simp only [Instr.next, getObj, setObj, Sem.run_bind, Sem.run, hi, Result.andThen, hp, if_true]
  simp [goInt, iterTo, Sem.run, hi]
theorem run_next_done (w : World) (h : Nat) (s : ByteArray) (pos : Nat) (ty : TypeId) (hi : w.heap[h]? = some (.stringIter s pos)) (hp : ¬ pos < s.size) :
    (Instr.next (.pointer (some ⟨h, 0, none⟩)) true ty).run P w = .ok (.tuple #[.bool false]) w := by
  simp [Instr.next, getObj, Sem.run, hi, hp]
end
theorem getB_at (s : ByteArray) (i : Nat) (h : i < s.size) : s.data.toList[i]? = some (s[i]'h) := by
  rw [Array.getElem?_toList]
  exact Array.getElem?_eq_getElem h
/-- A rune of more than one byte, or one that is none, lies over bytes that are all 128 or more. -/
theorem decode_wide (s : ByteArray) (pos : Nat) (h : pos < s.size) (ha : 128 ≤ (s[pos]'h).toNat) : 1 ≤ (Utf8.decode s pos).2 ∧ pos + (Utf8.decode s pos).2 ≤ s.size ∧ ∀ j, pos ≤ j → j < pos + (Utf8.decode s pos).2 → ∀ hj : j < s.size, 128 ≤ (s[j]'hj).toNat := by
  have h1 := (decode_high s pos h ha).2
  refine ⟨h1, ?_⟩
  have hn : ¬ (s[pos]'h).toNat < 128 := by omega
  have hg : ∀ k (hk : pos + k < s.size), (s.get! (pos + k)).toNat = (s[pos + k]'hk).toNat := by
    intro k hk
    show (s.get! (pos + k)).toNat = _
    simp [ByteArray.get!, getElem!_pos, hk]
    rfl
  have key : ∀ n, (∀ k, 1 ≤ k → k < n → pos + k < s.size ∧ (s.get! (pos + k)).toNat / 64 = 2) → 1 ≤ n → pos + n ≤ s.size ∧ ∀ j, pos ≤ j → j < pos + n → ∀ hj : j < s.size, 128 ≤ (s[j]'hj).toNat := by
    intro n hc hn1
    refine ⟨?_, ?_⟩
    · by_cases e : n = 1
      · omega
      · have := (hc (n - 1) (by omega) (by omega)).1
        omega
    · intro j hj1 hj2 hj
      by_cases e : j = pos
      · subst e; exact ha
      · have h3 := hc (j - pos) (by omega) (by omega)
        have h4 := h3.2
        rw [hg (j - pos) h3.1] at h4
        have e2 : pos + (j - pos) = j := by omega
        simp only [e2] at h4
        omega
  simp only [Utf8.decode, get_at s pos h, hn, if_false]
  repeat' split
  all_goals (try simp only [Bool.and_eq_true, decide_eq_true_eq, beq_iff_eq] at *)
  all_goals (refine key _ ?_ (by omega); intro k hk1 hk2)
  all_goals (try omega)
  · obtain rfl : k = 1 := by omega
    exact ⟨by omega, by omega⟩
  · obtain rfl | rfl : k = 1 ∨ k = 2 := by omega
    · exact ⟨by omega, by omega⟩
    · exact ⟨by omega, by omega⟩
  · obtain rfl | rfl | rfl : k = 1 ∨ k = 2 ∨ k = 3 := by omega
    · exact ⟨by omega, by omega⟩
    · exact ⟨by omega, by omega⟩
    · exact ⟨by omega, by omega⟩
/-- The parts of a text each of which has e behind it. -/
def partsE (e : UInt8) : List UInt8 → List (List UInt8)
  | [] => []
  | c :: m => if c = e then [] :: partsE e m else match partsE e m with
    | [] => []
    | w :: r => (c :: w) :: r
theorem partsE_cut {e : UInt8} : ∀ {w : List UInt8} (m : List UInt8), e ∉ w → partsE e (w ++ e :: m) = w :: partsE e m
  | [], m, _ => by simp [partsE]
  | c :: w, m, h => by
    have h1 : ¬ c = e := fun x => h (by simp [x])
    have h2 : e ∉ w := fun x => h (List.mem_cons_of_mem _ x)
    rw [List.cons_append, partsE, if_neg h1, partsE_cut m h2]
theorem partsE_ne {e : UInt8} : ∀ (l : List UInt8), partsE e (l ++ [e]) ≠ []
  | [] => by simp [partsE]
  | c :: l => by
    have ih := partsE_ne (e := e) l
    rw [List.cons_append, partsE]
    split
    · simp
    · split
      · next h => exact absurd h ih
      · simp
theorem partsE_len {e : UInt8} : ∀ (m : List UInt8), (partsE e m).length ≤ m.length
  | [] => by simp [partsE]
  | c :: m => by
    have ih := partsE_len (e := e) m
    rw [partsE]
    split
    · simp; omega
    · split
      · simp
      · next h => rw [h] at ih; simp at ih ⊢; omega
/-- Where the cutting of M at e stands: the parts that are cut, where the next one begins, where it looks. -/
structure AtE (e : UInt8) (M : List UInt8) (i frm : Nat) (ws : List (List UInt8)) : Prop where
  le : frm ≤ i
  done : partsE e M = ws ++ partsE e (M.drop frm)
  clear : ∀ j, frm ≤ j → j < i → M[j]? ≠ some e
theorem AtE.start (e : UInt8) (M : List UInt8) : AtE e M 0 0 [] := ⟨Nat.le_refl _, by simp, fun j h1 h2 => by omega⟩
theorem AtE.skip {e : UInt8} {M : List UInt8} {i frm : Nat} {ws : List (List UInt8)} (h : AtE e M i frm ws) (n : Nat) (hn : ∀ j, i ≤ j → j < i + n → M[j]? ≠ some e) : AtE e M (i + n) frm ws := by
  refine ⟨by have := h.le; omega, h.done, fun j h1 h2 => ?_⟩
  by_cases h3 : j < i
  · exact h.clear j h1 h3
  · exact hn j (by omega) h2
theorem AtE.piece {e : UInt8} {M : List UInt8} {i frm : Nat} {ws : List (List UInt8)} (h : AtE e M i frm ws) : e ∉ (M.take i).drop frm := by
  intro hx
  obtain ⟨k, hk, he⟩ := List.getElem_of_mem hx
  have hk' : frm + k < M.length ∧ frm + k < i := by simp at hk; omega
  refine h.clear (frm + k) (by omega) hk'.2 ?_
  rw [List.getElem?_eq_getElem hk'.1]
  simpa using he
theorem AtE.hit {e : UInt8} {M : List UInt8} {i frm : Nat} {ws : List (List UInt8)} (h : AtE e M i frm ws) (hi : M[i]? = some e) : AtE e M (i + 1) (i + 1) (ws ++ [(M.take i).drop frm]) := by
  have hl : i < M.length := by
    rcases Nat.lt_or_ge i M.length with h1 | h1
    · exact h1
    · rw [List.getElem?_eq_none h1] at hi; cases hi
  refine ⟨Nat.le_refl _, ?_, fun j h1 h2 => by omega⟩
  have e1 : M.drop frm = (M.take i).drop frm ++ e :: M.drop (i + 1) := by
    have e2 : M = M.take i ++ e :: M.drop (i + 1) := by
      have e3 : M.drop i = e :: M.drop (i + 1) := by
        rw [List.drop_eq_getElem_cons hl]
        rw [List.getElem?_eq_getElem hl] at hi
        rw [Option.some.inj hi]
      rw [← e3, List.take_append_drop]
    conv => lhs; rw [e2]
    rw [List.drop_append_of_le_length (by rw [List.length_take]; have := h.le; omega)]
  rw [h.done, e1, partsE_cut _ h.piece, List.append_assoc]
  rfl
theorem AtE.fin {e : UInt8} {L : List UInt8} {i frm : Nat} {ws : List (List UInt8)} (h : AtE e (L ++ [e]) i frm ws) (hi : L.length < i) : partsE e (L ++ [e]) = ws := by
  by_cases hf : frm ≤ L.length
  · exact absurd (by simp) (h.clear L.length hf hi)
  · rw [h.done, List.drop_of_length_le (by simp; omega)]
    simp [partsE]
end Go.Proofs.YtkgpoghoilffhaaGreatDoor
