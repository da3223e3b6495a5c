/- Contracts of the small functions of amounts (AmtOk, sum, difference, told, AddAmt, SubAmt), of the program and of the model, and what the listed sentinels give. -/
import Derived.Test.YtjmhnpnjiaeamaaDoorRows
import Derived.WalkKit
import Derived.WalkSpells
import Derived.WalkSmall
import Derived.Deep.QuietTactic
import Derived.BigQuiet
import Derived.RowKit3
import Derived.Stop.LaidErr
import Derived.MakeChecks
namespace Go.Proofs.YtjmhnpnjiaeamaaDoor
open Go.RowKit Go.ChangeShapes

/-- What was there is as it was. -/
def Keeps (w w' : World) : Prop := Below w.heap.size w w'
theorem Keeps.refl (w : World) : Keeps w w := Below.refl _ _
theorem Keeps.trans {a b c : World} (h : Keeps a b) (k : Keeps b c) : Keeps a c := Below.trans h (Below.mono k h.size)
theorem Keeps.drewN {a b : World} (h : Keeps a b) (n : Nat) : Keeps a (b.drewN n) := below_drewN h n
theorem Keeps.cell {w w' : World} (h : Keeps w w') {p : Addr} {v : Value} (hc : w.cell? p = some v) : w'.cell? p = some v := by
  have hlt : p.block < w.heap.size := by
    rcases Nat.lt_or_ge p.block w.heap.size with h' | h'
    · exact h'
    · simp [World.cell?, Array.getElem?_eq_none h'] at hc
  rw [← hc]; exact Below.cell h hlt

theorem gAmount : Tryd.prog.globalNamed "loop.example/g00400/impl.errNoAmount" = some 0 := by kernel_rfl
theorem gNumber : Tryd.prog.globalNamed "loop.example/g00400/impl.errNoNumber" = some 1 := by kernel_rfl
theorem gRate : Tryd.prog.globalNamed "loop.example/g00400/impl.errNoRate" = some 2 := by kernel_rfl
theorem gDivisor : Tryd.prog.globalNamed "loop.example/g00400/impl.errNoDivisor" = some 3 := by kernel_rfl
theorem tAmount : (Tryd.prog.globals[0]?).map (·.type) = some 43 := by kernel_rfl
theorem tNumber : (Tryd.prog.globals[1]?).map (·.type) = some 43 := by kernel_rfl
theorem tRate : (Tryd.prog.globals[2]?).map (·.type) = some 43 := by kernel_rfl
theorem tDivisor : (Tryd.prog.globals[3]?).map (·.type) = some 43 := by kernel_rfl
theorem cells96 : Tryd.prog.cellsOf 96 = 1 := by kernel_rfl
theorem cells9 : Tryd.prog.cellsOf 9 = 1 := by kernel_rfl
theorem star : "*" ++ "errors.errorString" = "*errors.errorString" := by decide
theorem row94 (u : TypeId) (h : Tryd.prog.typeName? 3 u = some "*errors.errorString") : u = 94 :=
  typeName_ptr_named (nm := "errors.errorString") (by rw [star]; kernel_rfl) (by kernel_rfl) (by decide) u (by rw [star]; exact h)

/-- The head of the list, a sentinel: its variable holds a pointer. -/
theorem sent {n : String} {text : List UInt8} {r : List (String × DataW Unit)} {W : World} {g : Nat} (h : laidMet Tryd.prog ((n, .iface "*errors.errorString" (.ptr (.agg [.lit (.string text)]))) :: r) W)
    (hg : Tryd.prog.globalNamed n = some g) (ht : (Tryd.prog.globals[g]?).map (·.type) = some 43) : ∃ a : Addr, W.var? Tryd.prog n = some #[.iface 94 (.pointer (some a))] := by
  obtain ⟨a, _, h, _⟩ := laid_sentinel h hg ht Tryd.underlying43 row94 Tryd.underlying94 Tryd.underlying96 rfl rfl Tryd.underlying9 cells96 cells9
  exact ⟨a, h⟩
theorem cell_of_var {W : World} {n : String} {g : Nat} {v : Value} (hg : Tryd.prog.globalNamed n = some g) (h : W.var? Tryd.prog n = some #[v]) : W.cell? ⟨g, 0, none⟩ = some v := by
  simpa using World.var?_cell hg h 0
theorem var_kept {W W' : World} (h : Keeps W W') {n : String} {cs : Array Value} (hv : W.var? Tryd.prog n = some cs) : W'.var? Tryd.prog n = some cs := by
  unfold World.var? at hv ⊢
  cases hg : Tryd.prog.globalNamed n with
  | none => simp [hg] at hv
  | some g =>
    simp only [hg, Option.bind_some] at hv ⊢
    have hlt : g < W.heap.size := by
      rcases Nat.lt_or_ge g W.heap.size with h' | h'
      · exact h'
      · simp [Array.getElem?_eq_none h'] at hv
    rw [Below.block h g hlt]; exact hv
theorem vars_read3 {H : Type} (enc : TypeId × Value → H) {W : World} {n0 n1 n2 : String} {g0 g1 g2 : Nat} {x0 x1 x2 : Value}
    (hg0 : Tryd.prog.globalNamed n0 = some g0) (ht0 : (Tryd.prog.globals[g0]?).map (·.type) = some 43) (h0 : W.var? Tryd.prog n0 = some #[x0]) (i0 : IsIface x0)
    (hg1 : Tryd.prog.globalNamed n1 = some g1) (ht1 : (Tryd.prog.globals[g1]?).map (·.type) = some 43) (h1 : W.var? Tryd.prog n1 = some #[x1]) (i1 : IsIface x1)
    (hg2 : Tryd.prog.globalNamed n2 = some g2) (ht2 : (Tryd.prog.globals[g2]?).map (·.type) = some 43) (h2 : W.var? Tryd.prog n2 = some #[x2]) (i2 : IsIface x2) (sp : Nat → Bool) :
    DataW.TrodVars enc Tryd.prog W sp [n0, n1, n2] [tok enc x0, tok enc x1, tok enc x2] [.cell g0 0, .cell g1 0, .cell g2 0] :=
  ⟨g0, 43, #[x0], 1, [], [.cell g1 0, .cell g2 0], hg0, ht0, h0, trod_held Tryd.underlying43 i0 0, ⟨g1, 43, #[x1], 1, [], [.cell g2 0], hg1, ht1, h1, trod_held Tryd.underlying43 i1 0, ⟨g2, 43, #[x2], 1, [], [], hg2, ht2, h2, trod_held Tryd.underlying43 i2 0, rfl, rfl⟩, rfl⟩, rfl⟩

/-- Is it an amount? -/
def amtB (n : Int) : Bool := decide (0 ≤ n) && decide (n ≤ 1125899906842624)
theorem amtB_true {n : Int} (h : amtB n = true) : 0 ≤ n ∧ n ≤ 1125899906842624 := by simpa [amtB] using h
theorem amtB_false {n : Int} (h : amtB n = false) : n < 0 ∨ 1125899906842624 < n := by simp [amtB] at h; omega
theorem amtB_yes {n : Int} (h : 0 ≤ n) (h' : n ≤ 1125899906842624) : amtB n = true := by simp [amtB]; omega
theorem amtB_no {n : Int} (h : n < 0 ∨ 1125899906842624 < n) : amtB n = false := by simp [amtB]; omega
/-- The sum of two amounts, and whether it is one. -/
def addB (a b : Int) : Bool := amtB a && amtB b && amtB (a + b)
def addV (a b : Int) : Int := if addB a b = true then a + b else 0
def subB (a b : Int) : Bool := amtB a && amtB b && amtB (a - b)
def subV (a b : Int) : Int := if subB a b = true then a - b else 0
theorem ret_tup {a a' : Int} {b b' : Bool} (h : a = a') (h' : b = b') : Ending.returned (.tuple #[.int .i64 a, .bool b]) = .returned (.tuple #[.int .i64 a', .bool b']) := by rw [h, h']

theorem sum_ok (a b : Int) (w : World) (h : addB a b = true) :
    Calls Tryd.prog 40 #[.int .i64 a, .int .i64 b] w fun e w' => e = .returned (.tuple #[.int .i64 (a + b), .nilIface]) ∧ w' = w := by
  simp only [addB, Bool.and_eq_true] at h
  obtain ⟨⟨ha, hb⟩, hc⟩ := h
  obtain ⟨h0, h1⟩ := amtB_true ha
  obtain ⟨h2, h3⟩ := amtB_true hb
  obtain ⟨_, h5⟩ := amtB_true hc
  clear ha hb hc
  go_enter Tryd.func40, Tryd.ntmps40
  go_wp2
  go_ret2
  exact ⟨rfl, rfl⟩

theorem sum_no (a b : Int) (w : World) (u : TypeId) (x : Value) (hg : w.cell? ⟨0, 0, none⟩ = some (.iface u x)) (h : addB a b = false) :
    Calls Tryd.prog 40 #[.int .i64 a, .int .i64 b] w fun e w' => e = .returned (.tuple #[.int .i64 0, .iface u x]) ∧ ∃ n, w' = w.drewN n := by
  have h' : (a < 0 ∨ 1125899906842624 < a) ∨ ((0 ≤ a ∧ a ≤ 1125899906842624) ∧ ((b < 0 ∨ 1125899906842624 < b) ∨ ((0 ≤ b ∧ b ≤ 1125899906842624) ∧ ¬ a + b ≤ 1125899906842624))) := by
    simp [addB, amtB] at h; omega
  clear h
  rcases h' with (h | h) | ⟨⟨h1, h2⟩, (h | h) | ⟨⟨h3, h4⟩, h⟩⟩
  all_goals
    go_enter Tryd.func40, Tryd.ntmps40
    go_wp2
    go_quiet (fail)
    go_wp2
    go_ret2
    exact ⟨rfl, _, rfl⟩

theorem diff_ok (a b : Int) (w : World) (h : subB a b = true) :
    Calls Tryd.prog 41 #[.int .i64 a, .int .i64 b] w fun e w' => e = .returned (.tuple #[.int .i64 (a - b), .nilIface]) ∧ w' = w := by
  simp only [subB, Bool.and_eq_true] at h
  obtain ⟨⟨ha, hb⟩, hc⟩ := h
  obtain ⟨h0, h1⟩ := amtB_true ha
  obtain ⟨h2, h3⟩ := amtB_true hb
  obtain ⟨h4, h5⟩ := amtB_true hc
  clear ha hb hc
  go_enter Tryd.func41, Tryd.ntmps41
  go_wp2
  go_ret2
  exact ⟨rfl, rfl⟩

theorem diff_no (a b : Int) (w : World) (u : TypeId) (x : Value) (hg : w.cell? ⟨0, 0, none⟩ = some (.iface u x)) (h : subB a b = false) :
    Calls Tryd.prog 41 #[.int .i64 a, .int .i64 b] w fun e w' => e = .returned (.tuple #[.int .i64 0, .iface u x]) ∧ ∃ n, w' = w.drewN n := by
  have h' : (a < 0 ∨ 1125899906842624 < a) ∨ ((0 ≤ a ∧ a ≤ 1125899906842624) ∧ ((b < 0 ∨ 1125899906842624 < b) ∨ ((0 ≤ b ∧ b ≤ 1125899906842624) ∧ a - b < 0))) := by
    simp [subB, amtB] at h; omega
  clear h
  rcases h' with (h | h) | ⟨⟨h1, h2⟩, (h | h) | ⟨⟨h3, h4⟩, h⟩⟩
  all_goals
    go_enter Tryd.func41, Tryd.ntmps41
    go_wp2
    go_quiet (fail)
    go_wp2
    go_ret2
    exact ⟨rfl, _, rfl⟩

theorem told_ok (n : Int) (w : World) : Calls Tryd.prog 32 #[.int .i64 n, .nilIface] w fun e w' => e = .returned (.tuple #[.int .i64 n, .bool true]) ∧ w' = w := by
  go_enter Tryd.func32, Tryd.ntmps32
  go_wp2
  go_ret2
  exact ⟨rfl, rfl⟩
theorem told_no (n : Int) (u : TypeId) (x : Value) (w : World) : Calls Tryd.prog 32 #[.int .i64 n, .iface u x] w fun e w' => e = .returned (.tuple #[.int .i64 0, .bool false]) ∧ w' = w := by
  go_enter Tryd.func32, Tryd.ntmps32
  go_wp2
  go_ret2
  exact ⟨rfl, rfl⟩

theorem add_impl (a b : Int) (w : World) (u : TypeId) (x : Value) (hg : w.cell? ⟨0, 0, none⟩ = some (.iface u x)) :
    Calls Tryd.prog 20 #[.int .i64 a, .int .i64 b] w fun e w' => e = .returned (.tuple #[.int .i64 (addV a b), .bool (addB a b)]) ∧ Keeps w w' := by
  cases h : addB a b
  · have H : Hid (addV a b = 0) := by show _ = _; simp [addV, h]
    go_enter Tryd.func20, Tryd.ntmps20
    go_wp2_with (first | (go_at_call 40; refine (sum_no a b _ u x hg h).mono ?_; rintro e w' ⟨rfl, n, rfl⟩) | (go_at_call 32; refine (told_no _ _ _ _).mono ?_; rintro e w' ⟨rfl, rfl⟩))
    go_ret2
    exact ⟨ret_tup H.out.symm rfl, Keeps.drewN (Keeps.refl _) _⟩
  · have H : Hid (addV a b = a + b) := by show _ = _; simp [addV, h]
    go_enter Tryd.func20, Tryd.ntmps20
    go_wp2_with (first | (go_at_call 40; refine (sum_ok a b _ h).mono ?_; rintro e w' ⟨rfl, rfl⟩) | (go_at_call 32; refine (told_ok _ _).mono ?_; rintro e w' ⟨rfl, rfl⟩))
    go_ret2
    exact ⟨ret_tup H.out.symm rfl, Keeps.refl _⟩

theorem sub_impl (a b : Int) (w : World) (u : TypeId) (x : Value) (hg : w.cell? ⟨0, 0, none⟩ = some (.iface u x)) :
    Calls Tryd.prog 22 #[.int .i64 a, .int .i64 b] w fun e w' => e = .returned (.tuple #[.int .i64 (subV a b), .bool (subB a b)]) ∧ Keeps w w' := by
  cases h : subB a b
  · have H : Hid (subV a b = 0) := by show _ = _; simp [subV, h]
    go_enter Tryd.func22, Tryd.ntmps22
    go_wp2_with (first | (go_at_call 41; refine (diff_no a b _ u x hg h).mono ?_; rintro e w' ⟨rfl, n, rfl⟩) | (go_at_call 32; refine (told_no _ _ _ _).mono ?_; rintro e w' ⟨rfl, rfl⟩))
    go_ret2
    exact ⟨ret_tup H.out.symm rfl, Keeps.drewN (Keeps.refl _) _⟩
  · have H : Hid (subV a b = a - b) := by show _ = _; simp [subV, h]
    go_enter Tryd.func22, Tryd.ntmps22
    go_wp2_with (first | (go_at_call 41; refine (diff_ok a b _ h).mono ?_; rintro e w' ⟨rfl, rfl⟩) | (go_at_call 32; refine (told_ok _ _).mono ?_; rintro e w' ⟨rfl, rfl⟩))
    go_ret2
    exact ⟨ret_tup H.out.symm rfl, Keeps.refl _⟩

theorem add_spec (a b : Int) (w : World) :
    Calls Tryd.prog 19 #[.int .i64 a, .int .i64 b] w fun e w' => e = .returned (.tuple #[.int .i64 (addV a b), .bool (addB a b)]) ∧ w' = w := by
  cases h : addB a b
  · have H : Hid (addV a b = 0) := by show _ = _; simp [addV, h]
    have h' : (a < 0 ∨ 1125899906842624 < a) ∨ ((0 ≤ a ∧ a ≤ 1125899906842624) ∧ ((b < 0 ∨ 1125899906842624 < b) ∨ ((0 ≤ b ∧ b ≤ 1125899906842624) ∧ ¬ a + b ≤ 1125899906842624))) := by
      simp [addB, amtB] at h; omega
    clear h
    rcases h' with (h | h) | ⟨⟨h1, h2⟩, (h | h) | ⟨⟨h3, h4⟩, h⟩⟩
    all_goals
      go_enter Tryd.func19, Tryd.ntmps19
      go_wp2
      go_ret2
      exact ⟨ret_tup H.out.symm rfl, rfl⟩
  · have H : Hid (addV a b = a + b) := by show _ = _; simp [addV, h]
    simp only [addB, Bool.and_eq_true] at h
    obtain ⟨⟨ha, hb⟩, hc⟩ := h
    obtain ⟨h0, h1⟩ := amtB_true ha
    obtain ⟨h2, h3⟩ := amtB_true hb
    obtain ⟨_, h5⟩ := amtB_true hc
    clear ha hb hc
    go_enter Tryd.func19, Tryd.ntmps19
    go_wp2
    go_ret2
    exact ⟨ret_tup H.out.symm rfl, rfl⟩

theorem sub_spec (a b : Int) (w : World) :
    Calls Tryd.prog 21 #[.int .i64 a, .int .i64 b] w fun e w' => e = .returned (.tuple #[.int .i64 (subV a b), .bool (subB a b)]) ∧ w' = w := by
  cases h : subB a b
  · have H : Hid (subV a b = 0) := by show _ = _; simp [subV, h]
    have h' : (a < 0 ∨ 1125899906842624 < a) ∨ ((0 ≤ a ∧ a ≤ 1125899906842624) ∧ ((b < 0 ∨ 1125899906842624 < b) ∨ ((0 ≤ b ∧ b ≤ 1125899906842624) ∧ a < b))) := by
      simp [subB, amtB] at h; omega
    clear h
    rcases h' with (h | h) | ⟨⟨h1, h2⟩, (h | h) | ⟨⟨h3, h4⟩, h⟩⟩
    all_goals
      go_enter Tryd.func21, Tryd.ntmps21
      go_wp2
      go_ret2
      exact ⟨ret_tup H.out.symm rfl, rfl⟩
  · have H : Hid (subV a b = a - b) := by show _ = _; simp [subV, h]
    simp only [subB, Bool.and_eq_true] at h
    obtain ⟨⟨ha, hb⟩, hc⟩ := h
    obtain ⟨h0, h1⟩ := amtB_true ha
    obtain ⟨h2, h3⟩ := amtB_true hb
    obtain ⟨h4, h5⟩ := amtB_true hc
    have h6 : b ≤ a := by omega
    clear ha hb hc
    go_enter Tryd.func21, Tryd.ntmps21
    go_wp2
    go_ret2
    exact ⟨ret_tup H.out.symm rfl, rfl⟩
end Go.Proofs.YtjmhnpnjiaeamaaDoor
