/- Texts of the verifier, joined: ShelfD, Bld, ShelfB, NumK, Sen, TextMathK, Ev. -/
import Derived.Shelf.Strings.Builder1
import Derived.Test.YtkgpoghoilffhaaGreatDoorProg
import Derived.Test.YtkgpoghoilffhaaGreatDoorRS1
import Derived.WalkLawsBesides
import Derived.OwnWalk
import Derived.Shelf.LaysM
import Derived.Shelf.Strconv.Itoa3
import Derived.Lib.ItoaLen
import Derived.Lib.ItoaMem
import Derived.Lib.LaidTab
import Derived.Laws.IdiomStrings
import Derived.Deep.RegionWith
import Derived.Deep.Heap
import Derived.Lib.AtoiTie
namespace Go.Proofs
open Go.Shelf
def Tryz.lays169_ren : Go.Shelf.Ren := ⟨fun | 169 => 42 | n => n, fun | 70 => 76 | 9 => 9 | 0 => 0 | 72 => 78 | 37 => 22 | 127 => 129 | 3 => 3 | 5 => 5 | n => n, fun | n => n⟩
theorem Tryz.lays169 : Go.Proofs.Lays.n169 Tryz.prog Tryz.lays169_ren := {
  mixed := by kernel_rfl
  f169 := Tryz.func42.trans (congrArg some (by kernel_rfl))
  t0 := Tryz.underlying0
  a0 := Tryz.isAgg0
  z0 := Tryz.sizeOf0
  v0 := Tryz.zeroValue0
  t3 := Tryz.underlying3
  a3 := Tryz.isAgg3
  z3 := Tryz.sizeOf3
  v3 := Tryz.zeroValue3
  t9 := Tryz.underlying9
  a9 := Tryz.isAgg9
  z9 := Tryz.sizeOf9
  v9 := Tryz.zeroValue9
  t37 := Tryz.underlying22
  a37 := Tryz.isAgg22
  z37 := Tryz.sizeOf22
  v37 := Tryz.zeroValue22
  t70 := Tryz.underlying76
  a70 := Tryz.isAgg76
  z70 := Tryz.sizeOf76
  v70 := Tryz.zeroValue76
  t72 := Tryz.underlying78
  a72 := Tryz.isAgg78
  z72 := Tryz.sizeOf78
  v72 := Tryz.zeroValue78
  t127 := Tryz.underlying129
  a127 := Tryz.isAgg129
  z127 := Tryz.sizeOf129
  v127 := Tryz.zeroValue129 }
theorem Tryz.Builder_Extra_169 : Builder.Extra Tryz.prog Tryz.lays169_ren := {
  sizeBuilder := by kernel_rfl
  liesBuilder := by kernel_rfl
  t5 := Tryz.underlying5
  a5 := Tryz.isAgg5
  z5 := Tryz.sizeOf5
  v5 := Tryz.zeroValue5
  infoByte := by kernel_rfl
  cellsByte := by kernel_rfl
  sizeByte := by kernel_rfl
  neB5 := by decide }
open Go.RowKit in
theorem Tryz.Builder_String (B b : Nat) (l : List UInt8) (w : World) (h : Lib.IsBuilder 78 5 B b (Lib.byteCells l) w) (h0 : l ≠ []) :
    Calls Tryz.prog 42 #[.pointer (some ⟨b, 0, none⟩)] w fun e w' => e = .returned (.string ⟨l.toArray⟩) ∧ Below B w w' := Any.Builder_String Tryz.lays169 Tryz.Builder_Extra_169 B b l w h h0
end Go.Proofs
namespace Go.Proofs.YtkgpoghoilffhaaGreatDoor
open Go.RowKit
set_option linter.unusedVariables false
set_option maxRecDepth 10000
theorem bldX : Builder.Extra Tryz.prog Tryz.lays169_ren := Tryz.Builder_Extra_169
set_option maxHeartbeats 2000000 in
theorem check_old (b : Nat) (w : World) (h0 : w.cell? ⟨b, 0, none⟩ = some (.pointer (some ⟨b, 0, none⟩))) :
    Calls Tryz.prog 70 #[.pointer (some ⟨b, 0, none⟩)] w fun e w' => e = .returned (.tuple #[]) ∧ w' = w := by
  obtain ⟨j, hj, _⟩ := Option.map_eq_some_iff.1 bldX.sizeBuilder
  have e1 := Lib.run_neq_ptr_same w ⟨b, 0, none⟩ Tryz.underlying76 hj
  go_enter Tryz.func70, Tryz.ntmps70
  go_wp2
  go_end0
  exact ⟨rfl, rfl⟩
set_option maxHeartbeats 2000000 in
theorem check_new (b : Nat) (w : World) (h0 : w.cell? ⟨b, 0, none⟩ = some (.pointer none)) (hs : w.shape? b = some (78, 2)) (f0 : w.frozen? ⟨b, 0, none⟩ = false) :
    Calls Tryz.prog 70 #[.pointer (some ⟨b, 0, none⟩)] w fun e w' => e = .returned (.tuple #[]) ∧ w' = w.setCell ⟨b, 0, none⟩ (.pointer (some ⟨b, 0, none⟩)) := by
  obtain ⟨j, hj, hjs⟩ := Option.map_eq_some_iff.1 bldX.sizeBuilder
  have e1 := Lib.run_to_unsafe w ⟨b, 0, none⟩ Tryz.underlying76 Tryz.underlying136 hj (by rw [hjs]; decide) hs (Nat.zero_lt_succ 1)
  have e3 := Lib.run_from_unsafe w ⟨b, 0, none⟩ Tryz.underlying136 Tryz.underlying76 hj hs bldX.liesBuilder
  go_enter Tryz.func70, Tryz.ntmps70
  go_wp2
  rw [run_callFunc_extern Tryz.func85 (by kernel_rfl) (by kernel_rfl) (by kernel_rfl) (e := Extern.AbiNoEscape.same) (by kernel_rfl), Lib.run_noEscape]
  simp only [Result.andThen]
  rw [Oper.upon_value]
  go_wp2
  go_end0
  exact ⟨rfl, rfl⟩
/-- A builder of the call's own, behind the block B. -/
abbrev Bldr (B b : Nat) (bs : List Value) (w : World) : Prop := Lib.IsBuilder 78 5 B b bs w
theorem check_any (B b : Nat) (bs : List Value) (w : World) (h : Bldr B b bs w) :
    Calls Tryz.prog 70 #[.pointer (some ⟨b, 0, none⟩)] w fun e w' => e = .returned (.tuple #[]) ∧ Lib.BuilderAt 78 5 B b (.pointer (some ⟨b, 0, none⟩)) bs w' ∧ Below B w w' := by
  rcases h with h | h
  · refine (check_new b w h.cell0 h.shape h.frozen0).mono ?_
    rintro e w' ⟨rfl, hw⟩
    obtain rfl := Eq.symm hw
    exact ⟨rfl, h.used _, (Below.refl B w).setCell (p := ⟨b, 0, none⟩) h.1 _⟩
  · refine (check_old b w h.cell0).mono ?_
    rintro e w' ⟨rfl, hw⟩
    obtain rfl := Eq.symm hw
    exact ⟨rfl, h, Below.refl B _⟩
set_option maxHeartbeats 2000000 in
/-- A text is written behind what is there. -/
theorem write_any (B b : Nat) (bs : List Value) (s : ByteArray) (w : World) (h : Bldr B b bs w) (hl : bs.length + s.size ≤ 4294967296) (hB : B ≤ w.heap.size) :
    Calls Tryz.prog 40 #[.pointer (some ⟨b, 0, none⟩), .string s] w fun e w' => e = .returned (.tuple #[.int .i64 s.size, .nilIface]) ∧ Bldr B b (bs ++ Lib.strCells s) w' ∧ Below B w w' := by
  have hI : (Tryz.prog.info? 5).map (fun i => (i.zero, i.size, i.bytes)) = some (some (.int .u8 0), 1, 1) := by kernel_rfl
  obtain ⟨i0, hi, hI2⟩ := Option.map_eq_some_iff.1 hI
  simp only [Prod.mk.injEq] at hI2
  obtain ⟨hz0, hz1, hz2⟩ := hI2
  go_enter Tryz.func40, Tryz.ntmps40
  go_wp2_with fail
  refine (check_any B b bs w h).mono ?_
  rintro e w1 ⟨rfl, h1, hb1⟩
  obtain ⟨hBb, v, hbk, hown, hne⟩ := h1
  have hz := hb1.size
  have c0 : w1.cell? ⟨b, 0, none⟩ = some (.pointer (some ⟨b, 0, none⟩)) := by rw [Lib.cell_of_heap hbk]; rfl
  have c1 : w1.cell? ⟨b, 1, none⟩ = some v := by rw [Lib.cell_of_heap hbk]; rfl
  have hlt := lt_of_cell c0
  go_wp2_with (at_builtin; refine Lib.wpList_append_own_string _ rfl _ _ 22 9 rfl B 5 i0 Tryz.underlying22 Tryz.underlying9 hi hz0 hz1 hz2 _ _ _ rfl hown s rfl (by unfold maxLen; omega) (by omega) (by omega) ?_)
  intro v' w2 ho hg _
  have hb2 : w2.heap[b]? = some (.cells #[.pointer (some ⟨b, 0, none⟩), v] 78 (0, 0)) := by
    rw [hg.block b hlt (fun e => hne e.symm)]
    exact hbk
  have d0 : w2.cell? ⟨b, 0, none⟩ = some (.pointer (some ⟨b, 0, none⟩)) := by rw [Lib.cell_of_heap hb2]; rfl
  have d1 : w2.cell? ⟨b, 1, none⟩ = some v := by rw [Lib.cell_of_heap hb2]; rfl
  have f1 : w2.frozen? ⟨b, 1, none⟩ = false := Lib.frozen_of_heap hb2 1
  obtain ⟨ao, n', cap, rfl⟩ : ∃ ao n' cap, v' = .slice ao n' cap := by
    rcases ho.2 with ⟨hv, _⟩ | ⟨g, cap, cur, hv, _⟩
    · exact ⟨_, _, _, hv⟩
    · exact ⟨_, _, _, hv⟩
  go_wp2
  go_ret2
  refine ⟨rfl, .inr (Lib.BuilderAt.put hBb hb2 (bs' := bs ++ Lib.strCells s) (by simpa [Lib.strCells_length] using ho) bldX.neB5), ?_⟩
  exact (hb1.grown hg (by omega) (fun k hk => (hown.lt k hk).1)).setCell (p := ⟨b, 1, none⟩) hBb _
end Go.Proofs.YtkgpoghoilffhaaGreatDoor
namespace Go.Proofs
open Go.Shelf
def Tryz.laysM171_ren : Go.Shelf.Ren := ⟨fun | 171 => 71 | 243 => 86 | 246 => 92 | 283 => 102 | 284 => 103 | 285 => 104 | 286 => 105 | 129 => 117 | 317 => 116 | 318 => 118 | 319 => 119 | 320 => 120 | 337 => 125 | 338 => 126 | n => n, fun | 3 => 3 | 9 => 9 | 2 => 2 | 4 => 4 | 171 => 147 | 0 => 0 | 53 => 148 | 37 => 22 | 5 => 5 | 173 => 151 | 212 => 166 | 51 => 153 | 20 => 20 | 213 => 167 | 46 => 95 | 232 => 184 | 233 => 185 | n => n, fun | 17 => 2 | 18 => 7 | 19 => 8 | n => n⟩
theorem Tryz.laysM171 : Go.Proofs.LaysM.n171 Tryz.prog Tryz.laysM171_ren := {
  mixed := by kernel_rfl
  f129 := Tryz.func117.trans (congrArg some (by kernel_rfl))
  f171 := Tryz.func71.trans (congrArg some (by kernel_rfl))
  f243 := Tryz.func86.trans (congrArg some (by kernel_rfl))
  f246 := Tryz.func92.trans (congrArg some (by kernel_rfl))
  f283 := Tryz.func102.trans (congrArg some (by kernel_rfl))
  f284 := Tryz.func103.trans (congrArg some (by kernel_rfl))
  f285 := Tryz.func104.trans (congrArg some (by kernel_rfl))
  f286 := Tryz.func105.trans (congrArg some (by kernel_rfl))
  f317 := Tryz.func116.trans (congrArg some (by kernel_rfl))
  f318 := Tryz.func118.trans (congrArg some (by kernel_rfl))
  f319 := Tryz.func119.trans (congrArg some (by kernel_rfl))
  f320 := Tryz.func120.trans (congrArg some (by kernel_rfl))
  f337 := Tryz.func125.trans (congrArg some (by kernel_rfl))
  f338 := Tryz.func126.trans (congrArg some (by kernel_rfl))
  t0 := Tryz.underlying0
  a0 := Tryz.isAgg0
  z0 := Tryz.sizeOf0
  v0 := Tryz.zeroValue0
  t2 := Tryz.underlying2
  a2 := Tryz.isAgg2
  z2 := Tryz.sizeOf2
  v2 := Tryz.zeroValue2
  t3 := Tryz.underlying3
  a3 := Tryz.isAgg3
  z3 := Tryz.sizeOf3
  v3 := Tryz.zeroValue3
  t4 := Tryz.underlying4
  a4 := Tryz.isAgg4
  z4 := Tryz.sizeOf4
  v4 := Tryz.zeroValue4
  t5 := Tryz.underlying5
  a5 := Tryz.isAgg5
  z5 := Tryz.sizeOf5
  v5 := Tryz.zeroValue5
  t9 := Tryz.underlying9
  a9 := Tryz.isAgg9
  z9 := Tryz.sizeOf9
  v9 := Tryz.zeroValue9
  t20 := Tryz.underlying20
  a20 := Tryz.isAgg20
  z20 := Tryz.sizeOf20
  v20 := Tryz.zeroValue20
  t37 := Tryz.underlying22
  a37 := Tryz.isAgg22
  z37 := Tryz.sizeOf22
  v37 := Tryz.zeroValue22
  t46 := Tryz.underlying95
  a46 := Tryz.isAgg95
  z46 := Tryz.sizeOf95
  v46 := Tryz.zeroValue95
  t51 := Tryz.underlying153
  a51 := Tryz.isAgg153
  z51 := Tryz.sizeOf153
  v51 := Tryz.zeroValue153
  t53 := Tryz.underlying148
  a53 := Tryz.isAgg148
  z53 := Tryz.sizeOf148
  v53 := Tryz.zeroValue148
  t171 := Tryz.underlying147
  a171 := Tryz.isAgg147
  z171 := Tryz.sizeOf147
  v171 := Tryz.zeroValue147
  t173 := Tryz.underlying151
  a173 := Tryz.isAgg151
  z173 := Tryz.sizeOf151
  v173 := Tryz.zeroValue151
  t212 := Tryz.underlying166
  a212 := Tryz.isAgg166
  z212 := Tryz.sizeOf166
  v212 := Tryz.zeroValue166
  t213 := Tryz.underlying167
  a213 := Tryz.isAgg167
  z213 := Tryz.sizeOf167
  t232 := Tryz.underlying184
  a232 := Tryz.isAgg184
  z232 := Tryz.sizeOf184
  v232 := Tryz.zeroValue184
  t233 := Tryz.underlying185
  a233 := Tryz.isAgg185
  z233 := Tryz.sizeOf185
  v233 := Tryz.zeroValue185
  g17 := by kernel_rfl
  g18 := by kernel_rfl
  g19 := by kernel_rfl
  i0 := by kernel_rfl
  i2 := by kernel_rfl
  i3 := by kernel_rfl
  i4 := by kernel_rfl
  i5 := by kernel_rfl
  i9 := by kernel_rfl
  i20 := by kernel_rfl
  i37 := by kernel_rfl
  i46 := by kernel_rfl
  i51 := by kernel_rfl
  i53 := by kernel_rfl
  i171 := by kernel_rfl
  i173 := by kernel_rfl
  i212 := by kernel_rfl
  i232 := by kernel_rfl
  i233 := by kernel_rfl
  m17 := by kernel_rfl
  m18 := by kernel_rfl
  m19 := by kernel_rfl }
open Go.RowKit Go.Sort Go.Lib in
theorem Tryz.strconv_Itoa (n : Int) (h0 : -9223372036854775808 ≤ n) (h1 : n ≤ 9223372036854775807) (w : World) (htab : Lib.TabIs Tryz.prog w "internal/strconv.uint64pow10" .u64 Lib.pow10Tab) :
    Calls Tryz.prog 71 #[.int .i64 n] w fun e w' => e = .returned (.string ⟨(Lib.itoa n).toArray⟩) ∧ ∃ k os, w' = grow (w.drewN k) os := Any.strconv_Itoa Tryz.laysM171 n h0 h1 w htab
end Go.Proofs
namespace Go.Proofs.YtkgpoghoilffhaaGreatDoor
open Go.RowKit
set_option linter.unusedVariables false
theorem dec_len (u : Nat) (h : u ≤ 1125899906842624) : (Lib.decDigits u).length ≤ 21 := by
  have := Lib.itoa_length_le (u : Int) (by omega) (by omega)
  rwa [Lib.itoa_nonneg] at this
theorem ret_cat {D X : List UInt8} {c : UInt8} (h : X = D ++ [c]) : Ending.returned (.string (⟨D.toArray⟩ ++ ⟨#[c]⟩)) = .returned (.string ⟨X.toArray⟩) := by
  rw [h, ByteArray.mk_append_mk]
theorem ret_str {l l' : List UInt8} (h : l = l') : Ending.returned (.string ⟨l.toArray⟩) = .returned (.string ⟨l'.toArray⟩) := by rw [h]
/-- A text made of one byte. -/
theorem one_byte (w : World) (b : Nat) (n : Int) (h0 : 0 ≤ n) (h1 : n ≤ 255) (hc : w.cell? ⟨b, 0, none⟩ = some (.int .u8 n)) : (convert 22 9 (.slice (some ⟨b, 0, none⟩) 1 1)).run Tryz.prog w = .ok (.string ⟨#[UInt8.ofNat n.toNat]⟩) w := by
  have h := run_convert_bytes_back (P := Tryz.prog) w 22 9 5 ⟨b, 0, none⟩ 1 [UInt8.ofNat n.toNat] Tryz.underlying22 Tryz.underlying5 Tryz.underlying9 (by
    intro j hj
    have : j = 0 := by simpa using hj
    subst this
    have e2 : ((UInt8.ofNat n.toNat).toNat : Int) = n := by
      rw [UInt8.toNat_ofNat', Nat.mod_eq_of_lt (by omega)]; omega
    simp only [List.getElem_cons_zero, e2]
    exact hc)
  exact h
set_option maxRecDepth 100000 in
theorem num1 (n : Int) (w : World) (h0 : 0 ≤ n) (h1 : n < 10) :
    Calls Tryz.prog 57 #[.int .i64 n] w fun e w' => e = .returned (.string ⟨(Lib.decDigits n.toNat).toArray⟩) ∧ Keeps w w' := by
  have hb := fun w b => one_byte w b (48 + n) (by omega) (by omega)
  have HD : Hid (Lib.decDigits n.toNat = [UInt8.ofNat (48 + n).toNat]) := by
    show _ = _
    rw [Lib.decDigits_one (by omega)]; congr 2; omega
  go_enter Tryz.func57, Tryz.ntmps57
  go_wp2_with fail
  go_ret
  exact ⟨ret_str HD.out.symm, Keeps.alloc (Keeps.refl _) _⟩

set_option maxRecDepth 100000 in
theorem num2 (n : Int) (w : World) (h0 : 10 ≤ n) (h1 : n ≤ 1125899906842624) (ih : Hid (∀ w1, Calls Tryz.prog 57 #[.int .i64 (n / 10)] w1 fun e w' => e = .returned (.string ⟨(Lib.decDigits (n / 10).toNat).toArray⟩) ∧ Keeps w1 w')) :
    Calls Tryz.prog 57 #[.int .i64 n] w fun e w' => e = .returned (.string ⟨(Lib.decDigits n.toNat).toArray⟩) ∧ Keeps w w' := by
  have hb := fun w b => one_byte w b (48 + n % 10) (by omega) (by omega)
  have HD : Hid (Lib.decDigits n.toNat = Lib.decDigits (n / 10).toNat ++ [UInt8.ofNat (48 + n % 10).toNat]) := by
    show _ = _
    rw [Lib.decDigits, dif_neg (by omega)]; congr 2 <;> (try congr 1) <;> omega
  have hDl : (Lib.decDigits (n / 10).toNat).length ≤ 21 := dec_len _ (by omega)
  generalize (Lib.decDigits (n / 10).toNat) = D at *
  have e1 : IntKind.i64.wrap (n.tdiv 10) = n / 10 := by rw [Int.tdiv_eq_ediv_of_nonneg (by omega)]; simp [IntKind.wrap, IntKind.bits, IntKind.signed]; omega
  have e2 : IntKind.u8.wrap (IntKind.i64.wrap (48 + n.tmod 10)) = 48 + n % 10 := by rw [Int.tmod_eq_emod_of_nonneg (by omega)]; simp [IntKind.wrap, IntKind.bits, IntKind.signed]; omega
  go_enter Tryz.func57, Tryz.ntmps57
  go_wp2_with fail
  go_region_with (go_at_call 57; refine (ih.out _).mono ?_; rintro e w' ⟨rfl, hk⟩; have hc2 := hk.old)
  all_goals
    go_wp2_with fail
    go_ret
    refine ⟨ret_cat HD.out, ?_⟩
    first
      | exact Keeps.alloc (Keeps.trans (Keeps.drew (Keeps.refl _)) hk) _
      | exact Keeps.trans (Keeps.drew (Keeps.alloc (Keeps.refl _) _)) hk
      | exact Keeps.trans (Keeps.alloc (Keeps.drew (Keeps.refl _)) _) hk

theorem num_any : ∀ (u : Nat) (w : World), u ≤ 1125899906842624 → Calls Tryz.prog 57 #[.int .i64 (u : Int)] w fun e w' => e = .returned (.string ⟨(Lib.decDigits u).toArray⟩) ∧ Keeps w w' := by
  intro u
  induction u using Nat.strongRecOn with
  | ind u ih =>
    intro w h
    by_cases h10 : u < 10
    · have := num1 (u : Int) w (by omega) (by omega)
      rwa [Int.toNat_natCast] at this
    · have hi := ih (u / 10) (by omega)
      have := num2 (u : Int) w (by omega) (by omega) (by
        intro w1
        have hw := hi w1 (by omega)
        have e : (((u / 10 : Nat)) : Int) = (u : Int) / 10 := by omega
        rw [e] at hw
        have e2 : ((u : Int) / 10).toNat = u / 10 := by omega
        rw [e2]
        exact hw)
      rwa [Int.toNat_natCast] at this

/-- What NumText answers. -/
def numT (n : Int) : List UInt8 := if n < -1125899906842624 ∨ 1125899906842624 < n then [] else Lib.itoa n
theorem numT_in {n : Int} (h : -1125899906842624 ≤ n) (h' : n ≤ 1125899906842624) : numT n = Lib.itoa n := by unfold numT; rw [if_neg (by omega)]
theorem numT_out {n : Int} (h : n < -1125899906842624 ∨ 1125899906842624 < n) : numT n = [] := by unfold numT; rw [if_pos h]
theorem numT_len (n : Int) : (numT n).length ≤ 21 := by
  unfold numT
  split
  · simp
  · exact Lib.itoa_length_le n (by omega) (by omega)
theorem ret_minus {D X : List UInt8} (h : X = 45 :: D) : Ending.returned (.string (⟨#[45]⟩ ++ ⟨D.toArray⟩)) = .returned (.string ⟨X.toArray⟩) := by
  have e : (⟨#[45]⟩ : ByteArray) = ⟨[(45 : UInt8)].toArray⟩ := rfl
  rw [h, e, ByteArray.mk_append_mk]; rfl

set_option maxRecDepth 100000 in
theorem num_spec (n : Int) (w : World) : Calls Tryz.prog 57 #[.int .i64 n] w fun e w' => e = .returned (.string ⟨(numT n).toArray⟩) ∧ Keeps w w' := by
  by_cases h1 : n < -1125899906842624
  · have H : Hid (numT n = []) := numT_out (Or.inl h1)
    go_enter Tryz.func57, Tryz.ntmps57
    go_wp2_with fail
    go_ret
    exact ⟨ret_str H.out.symm, Keeps.refl _⟩
  · by_cases h2 : 1125899906842624 < n
    · have H : Hid (numT n = []) := numT_out (Or.inr h2)
      go_enter Tryz.func57, Tryz.ntmps57
      go_wp2_with fail
      go_ret
      exact ⟨ret_str H.out.symm, Keeps.refl _⟩
    · by_cases h3 : n < 0
      · obtain ⟨u, hu⟩ := Int.eq_ofNat_of_zero_le (show 0 ≤ -n by omega)
        have hD := dec_len u (by omega)
        have H : Hid (numT n = 45 :: Lib.decDigits u) := by
          show _ = _
          rw [numT_in (by omega) (by omega), show n = -(u : Int) by omega, Lib.itoa_neg u (by omega)]
        have HN : Hid (∀ w, Calls Tryz.prog 57 #[.int .i64 (-n)] w fun e w' => e = .returned (.string ⟨(Lib.decDigits u).toArray⟩) ∧ Keeps w w') := by
          intro w1; rw [hu]; exact num_any u w1 (by omega)
        clear hu
        generalize Lib.decDigits u = D at *
        go_enter Tryz.func57, Tryz.ntmps57
        go_wp2_with (go_at_call 57; refine (HN.out _).mono ?_; rintro e w' ⟨rfl, hk⟩)
        go_ret
        exact ⟨ret_minus H.out, hk⟩
      · obtain ⟨u, rfl⟩ := Int.eq_ofNat_of_zero_le (show 0 ≤ n by omega)
        have H : numT (u : Int) = Lib.decDigits u := by rw [numT_in (by omega) (by omega), Lib.itoa_nonneg]
        rw [H]
        exact num_any u w (by omega)

theorem keeps_grow (w : World) (k : Nat) (os : Array Obj) : Keeps w (Sort.grow (w.drewN k) os) :=
  ⟨rfl, rfl, rfl, by simp [Sort.grow, World.drewN], fun i hi => by
    show (w.heap ++ os)[i]? = w.heap[i]?
    rw [Array.getElem?_append_left hi]⟩

theorem gPow : Tryz.prog.globalNamed "internal/strconv.uint64pow10" = some 2 := by kernel_rfl
theorem tPow : (Tryz.prog.globals[2]?).map (·.type) = some 166 := by kernel_rfl
theorem cells56 : Tryz.prog.cellsOf 148 = 1 := by kernel_rfl
theorem cells81 : Tryz.prog.cellsOf 166 = 20 := by kernel_rfl
def Tab (w : World) : Prop := Lib.TabIs Tryz.prog w "internal/strconv.uint64pow10" .u64 Lib.pow10Tab
theorem Tab.kept {w w' : World} (h : Tab w) (hk : Keeps w w') : Tab w' := var_kept hk h

theorem num_impl (n : Int) (w : World) (ht : Tab w) : Calls Tryz.prog 41 #[.int .i64 n] w fun e w' => e = .returned (.string ⟨(numT n).toArray⟩) ∧ Keeps w w' := by
  by_cases h1 : n < -1125899906842624
  · have H : Hid (numT n = []) := numT_out (Or.inl h1)
    go_enter Tryz.func41, Tryz.ntmps41
    go_wp2_with fail
    go_ret
    exact ⟨ret_str H.out.symm, Keeps.refl _⟩
  · by_cases h2 : 1125899906842624 < n
    · have H : Hid (numT n = []) := numT_out (Or.inr h2)
      go_enter Tryz.func41, Tryz.ntmps41
      go_wp2_with fail
      go_ret
      exact ⟨ret_str H.out.symm, Keeps.refl _⟩
    · have H : Hid (numT n = Lib.itoa n) := numT_in (by omega) (by omega)
      have HI := hide (Tryz.strconv_Itoa n (by omega) (by omega) w ht)
      clear ht
      go_enter Tryz.func41, Tryz.ntmps41
      go_wp2_with (go_at_call 71; refine (unhide HI).mono ?_; rintro e w' ⟨rfl, k, os, rfl⟩)
      go_ret
      exact ⟨ret_str H.out.symm, keeps_grow _ _ _⟩
end Go.Proofs.YtkgpoghoilffhaaGreatDoor
namespace Go.Proofs.YtkgpoghoilffhaaGreatDoor
open Go.RowKit Go.Deep
set_option linter.unusedVariables false
set_option maxRecDepth 10000
/-- A word, and numbers behind it, each behind a blank. -/
def senN (ns : List Int) : List UInt8 := ns.flatMap fun n => 32 :: numT n
def sen (W : List UInt8) (ns : List Int) : List UInt8 := W ++ senN ns
def nums (K : List Int) : List Value := K.map fun k => .int .i64 k
theorem nums_length (K : List Int) : (nums K).length = K.length := by simp [nums]
theorem nums_at {w : World} {a : Option Addr} {K : List Int} (h : Cells w a (nums K)) (i : Nat) (hi : i < K.length) : ∃ b off, a = some ⟨b, off, none⟩ ∧ w.cell? ⟨b, off + i, none⟩ = some (.int .i64 K[i]) := by
  rcases h with h | ⟨b, off, e, h⟩
  · have : K = [] := by simpa [nums] using h
    subst this
    simp at hi
  · have := h i (by rw [nums_length]; exact hi)
    exact ⟨b, off, e, by simpa [nums] using this⟩
theorem strCells_of (l : List UInt8) : Lib.strCells ⟨l.toArray⟩ = Lib.byteCells l := by simp [Lib.strCells, Lib.byteCells]
theorem byteCells_app (l m : List UInt8) : Lib.byteCells (l ++ m) = Lib.byteCells l ++ Lib.byteCells m := by simp [Lib.byteCells]
theorem new_bld (w : World) : Bldr w.heap.size w.heap.size [] (w.alloc (.cells #[.pointer none, .slice none 0 0] 78)) := by
  refine .inl ⟨Nat.le_refl _, .slice none 0 0, blk_alloc_new w _, World.ownsRow_nil _ _ _ _, by simp [Value.ownBlock]⟩
theorem senN_succ (ns : List Int) (k : Nat) (h : k < ns.length) : senN (ns.take (k + 1)) = senN (ns.take k) ++ [32] ++ numT ns[k] := by
  unfold senN
  rw [List.take_succ_eq_append_getElem h, List.flatMap_append]
  simp
theorem senN_len (ns : List Int) : (senN ns).length ≤ 22 * ns.length := by
  induction ns with
  | nil => simp [senN]
  | cons n t ih =>
    have := numT_len n
    simp only [senN, List.flatMap_cons, List.length_append, List.length_cons] at ih ⊢
    omega
theorem write_l (B b : Nat) (l m : List UInt8) (w : World) (h : Bldr B b (Lib.byteCells l) w) (hl : l.length + m.length ≤ 4294967296) (hB : B ≤ w.heap.size) :
    Calls Tryz.prog 40 #[.pointer (some ⟨b, 0, none⟩), .string ⟨m.toArray⟩] w fun e w' => (∃ z : Int, e = .returned (.tuple #[.int .i64 z, .nilIface])) ∧ Bldr B b (Lib.byteCells (l ++ m)) w' ∧ Below B w w' := by
  refine (write_any B b _ ⟨m.toArray⟩ w h (by rw [Lib.byteCells_length]; exact hl) hB).mono ?_
  rintro e w' ⟨rfl, h1, h2⟩
  exact ⟨⟨_, rfl⟩, by rw [byteCells_app, ← strCells_of m]; exact h1, h2⟩
theorem owns_keptS {base n : Nat} {e : TypeId} {sz : Nat} {v : Value} {xs : List Value} {w w1 : World} (hk : Keeps w w1) (h : w.ownsRow base e sz v n xs) : w1.ownsRow base e sz v n xs := by
  refine ⟨h.1, ?_⟩
  rcases h.2 with h' | ⟨g, cap, cur, rfl, hb, hg, rest⟩
  · exact .inl h'
  · refine .inr ⟨g, cap, cur, rfl, hb, ?_, rest⟩
    rw [Below.block hk g (Array.getElem?_eq_some_iff.1 hg).1]; exact hg
theorem bld_kept {B b : Nat} {bs : List Value} {w w' : World} (h : Bldr B b bs w) (hk : Keeps w w') : Bldr B b bs w' := by
  have aux : ∀ p, Lib.BuilderAt 78 5 B b p bs w → Lib.BuilderAt 78 5 B b p bs w' := by
    rintro p ⟨hB, v, hb, ho, hn⟩
    have hlt : b < w.heap.size := by
      rcases Nat.lt_or_ge b w.heap.size with h' | h'
      · exact h'
      · simp [Array.getElem?_eq_none h'] at hb
    exact ⟨hB, v, by rw [Below.block hk b hlt]; exact hb, owns_keptS hk ho, hn⟩
  exact h.elim (fun x => .inl (aux _ x)) (fun x => .inr (aux _ x))
set_option maxHeartbeats 4000000 in
theorem sentence_big (W : List UInt8) (a : Option Addr) (cap : Nat) (ns : List Int) (w : World) (hW : W ≠ []) (hW2 : W.length ≤ 20) (hn : ns.length ≤ 1048576) (hc : Cells w a (nums ns)) (ht : Tab w) :
    Calls Tryz.prog 24 #[.string ⟨W.toArray⟩, .slice a ns.length cap] w fun e w' => e = .returned (.string ⟨(sen W ns).toArray⟩) ∧ Keeps w w' := by
  have HB0 := hide (new_bld w)
  have HK0 := hide (Keeps.alloc (Keeps.refl w) (.cells #[.pointer none, .slice none 0 0] 78))
  have HC := hide hc
  have HT := hide ht
  clear hc ht
  go_enter Tryz.func24, Tryz.ntmps24
  go_wp2_with fail
  refine (write_l w.heap.size w.heap.size [] W _ HB0.out (by simp; omega) (by simp)).mono ?_
  rintro e w1 ⟨⟨z, rfl⟩, h1, hb1⟩
  have HB1 := hide h1
  have HK1 : Hid (Keeps w w1) := Below.trans HK0.out hb1
  clear h1 hb1 HB0 HK0
  go_wp2_with fail
  go_loopw [12] (fun y wr => ∃ k : Nat, k ≤ ns.length ∧ y = .int .i64 (k : Int) ∧ Hid (Bldr w.heap.size w.heap.size (Lib.byteCells (W ++ senN (ns.take k))) wr) ∧ Hid (Keeps w wr)) (fun y _ => ns.length - (intOf y).toNat)
  case atStart => exact ⟨0, Nat.zero_le _, rfl, by show Bldr _ _ _ _; simpa [senN] using HB1.out, HK1⟩
  case round =>
    clear HB1 HK1
    obtain ⟨k, hk, rfl, HB, HK⟩ := hrel
    have hsz := HK.out.size
    by_cases hlt : k < ns.length
    · obtain ⟨b, off, ea, c0⟩ := nums_at (HC.out.kept HK.out) k hlt
      subst ea
      have HS := hide (senN_succ ns k hlt)
      have hl1 := senN_len (ns.take k)
      have hl2 : (ns.take k).length ≤ k := by simp; omega
      generalize hx : ns[k] = x at *
      generalize senN (ns.take k) = Z at *
      clear hx
      go_wp2_with fail
      refine (write_l w.heap.size w.heap.size (W ++ Z) [32] _ HB.out (by simp; omega) hsz).mono ?_
      rintro e w2 ⟨⟨z2, rfl⟩, h2, hb2⟩
      have HB2 := hide h2
      have HK2 : Hid (Keeps w w2) := Below.trans HK.out hb2
      have hsz2 := HK2.out.size
      clear h2 hb2 HB HK
      go_wp2_with fail
      refine (num_impl x w2 (HT.out.kept HK2.out)).mono ?_
      rintro e w3 ⟨rfl, hk3⟩
      have HK3 := hide (HK2.out.trans hk3)
      have HB3 := hide (bld_kept HB2.out hk3)
      have hsz3 := HK3.out.size
      have hl3 := numT_len x
      clear hk3 HB2 HK2
      go_wp2_with fail
      refine (write_l w.heap.size w.heap.size (W ++ Z ++ [32]) (numT x) _ HB3.out (by simp; omega) hsz3).mono ?_
      rintro e w4 ⟨⟨z4, rfl⟩, h4, hb4⟩
      have HB4 := hide h4
      have HK4 : Hid (Keeps w w4) := Below.trans HK3.out hb4
      clear h4 hb4 HB3 HK3
      go_wp2_with fail
      go_roundw
      case rel => exact ⟨k + 1, by omega, by go_num, by show Bldr _ _ _ _; rw [HS.out]; simpa [List.append_assoc] using HB4.out, HK4⟩
      case measure => simp [intOf]; omega
    · have e : k = ns.length := by omega
      subst e
      rw [List.take_length] at HB
      go_wp2_with fail
      refine (Tryz.Builder_String w.heap.size w.heap.size (W ++ senN ns) _ HB.out (by simp [hW])).mono ?_
      rintro e w5 ⟨rfl, hb5⟩
      have HK5 : Hid (Keeps w w5) := Below.trans HK.out hb5
      go_wp2_with fail
      go_ret
      exact ⟨rfl, HK5.out⟩
theorem sentence_k (W : List UInt8) (a : Option Addr) (cap : Nat) (ns : List Int) (w : World) (hW : W ≠ []) (hW2 : W.length ≤ 20) (hn : ns.length ≤ 8) (hc : Cells w a (nums ns)) (ht : Tab w) :
    Calls Tryz.prog 24 #[.string ⟨W.toArray⟩, .slice a ns.length cap] w fun e w' => e = .returned (.string ⟨(sen W ns).toArray⟩) ∧ Keeps w w' := sentence_big W a cap ns w hW hW2 (by omega) hc ht
end Go.Proofs.YtkgpoghoilffhaaGreatDoor
namespace Go.Proofs.YtkgpoghoilffhaaGreatDoor
set_option linter.unusedVariables false
open Go.RowKit

theorem decFrom_append (l r : List UInt8) : ∀ acc, Lib.decFrom acc (l ++ r) = (Lib.decFrom acc l).bind fun n => Lib.decFrom n r := by
  induction l with
  | nil => intro acc; simp [Lib.decFrom]
  | cons b t ih =>
    intro acc
    simp only [List.cons_append, Lib.decFrom]
    cases Lib.digitVal b with
    | none => rfl
    | some d => exact ih _
theorem digit_of (d : Nat) (h : d < 10) : Lib.digitVal (UInt8.ofNat (48 + d)) = some d := by
  have e : (UInt8.ofNat (48 + d)).toNat = 48 + d := by rw [UInt8.toNat_ofNat', Nat.mod_eq_of_lt (by omega)]
  unfold Lib.digitVal
  rw [e, if_pos (by omega)]
  congr 1; omega
theorem decFrom_dec (u : Nat) : Lib.decFrom 0 (Lib.decDigits u) = some u := by
  induction u using Nat.strongRecOn with
  | ind u ih =>
    by_cases h : u < 10
    · rw [Lib.decDigits, dif_pos h]
      simp only [Lib.decFrom, digit_of u h, Nat.zero_mul, Nat.zero_add]
    · rw [Lib.decDigits, dif_neg h, decFrom_append, ih (u / 10) (by omega)]
      simp only [Option.bind_some, Lib.decFrom, digit_of (u % 10) (by omega), Option.some.injEq]
      omega
theorem dec_ne (u : Nat) : Lib.decDigits u ≠ [] := by
  intro h
  have := Lib.decDigits_length u
  have h2 := Lib.nDigits_pos u
  rw [h] at this
  simp at this; omega
theorem dec_head (u : Nat) : ∃ c r, Lib.decDigits u = c :: r ∧ c.toNat ≠ 45 ∧ c.toNat ≠ 43 := by
  cases h : Lib.decDigits u with
  | nil => exact absurd h (dec_ne u)
  | cons c r =>
    refine ⟨c, r, rfl, ?_⟩
    obtain ⟨d, hd⟩ := Lib.digit_of_decFrom _ _ _ (decFrom_dec u) 0 c (by rw [h]; rfl)
    unfold Lib.digitVal at hd
    split at hd
    · omega
    · cases hd
theorem nDigits_le : ∀ (k u : Nat), u < 10 ^ (k + 1) → Lib.nDigits u ≤ k + 1
  | 0, u, h => by rw [Lib.nDigits_small (by simpa using h)]; omega
  | k + 1, u, h => by
    by_cases h10 : u < 10
    · rw [Lib.nDigits_small h10]; omega
    · rw [Lib.nDigits_big h10]
      have := nDigits_le k (u / 10) (by rw [Nat.pow_succ] at h; omega)
      omega
theorem itoa_len (n : Int) (h : -1125899906842624 ≤ n) (h' : n ≤ 1125899906842624) : (Lib.itoa n).length ≤ 17 := by
  unfold Lib.itoa
  split
  · have := nDigits_le 15 n.natAbs (by omega)
    simp [Lib.decDigits_length]; omega
  · have := nDigits_le 15 n.toNat (by omega)
    rw [Lib.decDigits_length]; omega
theorem atoi_itoa (n : Int) : Lib.atoi (Lib.itoa n) = some n := by
  unfold Lib.itoa
  split
  · simp [Lib.atoi, Lib.decNat, decFrom_dec, dec_ne]; omega
  · obtain ⟨c, r, e, h1, h2⟩ := dec_head n.toNat
    rw [e]
    have d := decFrom_dec n.toNat
    rw [e] at d
    have e1 : (c == 45) = false := by
      rw [beq_eq_false_iff_ne]; intro hc; subst hc; exact h1 rfl
    have e2 : (c == 43) = false := by
      rw [beq_eq_false_iff_ne]; intro hc; subst hc; exact h2 rfl
    simp [Lib.atoi, Lib.decNat, e1, e2, d]; omega
theorem numT_some {m : Int} {l : List UInt8} (h : numT m = l) (hl : l ≠ []) : (-1125899906842624 ≤ m ∧ m ≤ 1125899906842624) ∧ Lib.itoa m = l := by
  unfold numT at h
  split at h
  · exact absurd h.symm hl
  · exact ⟨by omega, h⟩

/-- What TextNum answers. -/
def Res (l : List UInt8) (v : Int) (b : Bool) : Prop := (b = true ∧ l ≠ [] ∧ numT v = l) ∨ (b = false ∧ v = 0 ∧ ∀ n, l ≠ [] → numT n ≠ l)
theorem res_unique {l : List UInt8} {v v' : Int} {b b' : Bool} (h : Res l v b) (h' : Res l v' b') : v' = v ∧ b' = b := by
  rcases h with ⟨rfl, hl, hv⟩ | ⟨rfl, rfl, hn⟩
  · rcases h' with ⟨rfl, _, hv'⟩ | ⟨rfl, rfl, hn'⟩
    · have a := atoi_itoa v
      have a' := atoi_itoa v'
      rw [(numT_some hv hl).2] at a
      rw [(numT_some hv' hl).2, a] at a'
      exact ⟨(Option.some.inj a').symm, rfl⟩
    · exact absurd hv (hn' v hl)
  · rcases h' with ⟨rfl, hl, hv'⟩ | ⟨rfl, rfl, hn'⟩
    · exact absurd hv' (hn v' hl)
    · exact ⟨rfl, rfl⟩
theorem res_yes {l : List UInt8} {v : Int} (hl : l ≠ []) (h : numT v = l) : Res l v true := Or.inl ⟨rfl, hl, h⟩
theorem res_nil : Res [] 0 false := Or.inr ⟨rfl, rfl, fun _ h => absurd rfl h⟩
theorem res_long {l : List UInt8} (h : 17 < l.length) : Res l 0 false := Or.inr ⟨rfl, rfl, fun n hl hn => by
  obtain ⟨⟨a, b⟩, c⟩ := numT_some hn hl
  have := itoa_len n a b
  rw [c] at this; omega⟩

/-- strconv.Atoi's side. -/
theorem atoiAll_of {m : Int} {l : List UInt8} (h : numT m = l) (hl : l ≠ []) : Lib.atoiAll l = .ok m := by
  obtain ⟨⟨a, b⟩, c⟩ := numT_some h hl
  have hlen := itoa_len m a b
  rw [c] at hlen
  rw [Lib.atoiAll_short l (by omega), ← c, atoi_itoa]; rfl
theorem res_err {l : List UInt8} (h : ∀ v, Lib.atoiAll l ≠ .ok v) : Res l 0 false := Or.inr ⟨rfl, rfl, fun n hl hn => h n (atoiAll_of hn hl)⟩
theorem res_other {l : List UInt8} {v : Int} (h : Lib.atoiAll l = .ok v) (hv : numT v ≠ l) : Res l 0 false := Or.inr ⟨rfl, rfl, fun n hl hn => by
  have := atoiAll_of hn hl
  rw [h] at this
  injection this with this
  exact hv (this ▸ hn)⟩

/-- The model's side: the sign's place, what stands behind it. -/
def st (l : List UInt8) : Nat := if l.head? = some 45 then 1 else 0
def spv (l : List UInt8) : Option Int := (Lib.decFrom 0 (l.drop (st l))).map fun m => if l.head? = some 45 then -(m : Int) else (m : Int)
theorem spv_itoa (m : Int) : spv (Lib.itoa m) = some m := by
  unfold Lib.itoa
  split
  · simp [spv, st, decFrom_dec]; omega
  · obtain ⟨c, r, e, h1, h2⟩ := dec_head m.toNat
    have d := decFrom_dec m.toNat
    rw [e] at d ⊢
    have hc : ¬ c = 45 := fun hc => by subst hc; exact h1 rfl
    simp [spv, st, hc, d]; omega
theorem res_none {l : List UInt8} (h : spv l = none) : Res l 0 false := Or.inr ⟨rfl, rfl, fun n hl hn => by
  have := spv_itoa n
  rw [(numT_some hn hl).2, h] at this; cases this⟩
theorem res_diff {l : List UInt8} {v : Int} (h : spv l = some v) (hv : numT v ≠ l) : Res l 0 false := Or.inr ⟨rfl, rfl, fun n hl hn => by
  have := spv_itoa n
  rw [(numT_some hn hl).2, h] at this
  exact hv (Option.some.inj this ▸ hn)⟩
theorem decFrom_lt : ∀ (l : List UInt8) (acc n k : Nat), acc < 10 ^ k → Lib.decFrom acc l = some n → n < 10 ^ (k + l.length)
  | [], acc, n, k, ha, h => by simp [Lib.decFrom] at h; subst h; simpa using ha
  | b :: r, acc, n, k, ha, h => by
    simp only [Lib.decFrom] at h
    cases hb : Lib.digitVal b with
    | none => simp [hb] at h
    | some d =>
      have hd : d < 10 := by
        unfold Lib.digitVal at hb
        split at hb
        · injection hb with hb; omega
        · cases hb
      simp only [hb] at h
      have := decFrom_lt r (acc * 10 + d) n (k + 1) (by rw [Nat.pow_succ]; omega) h
      rw [show k + (b :: r).length = k + 1 + r.length by simp; omega]
      exact this
theorem decFrom_small {l : List UInt8} {n : Nat} (hl : l.length ≤ 16) (h : Lib.decFrom 0 l = some n) : n < 10000000000000000 := by
  have := decFrom_lt l 0 n 0 (by simp) h
  have h2 : 10 ^ (0 + l.length) ≤ 10 ^ 16 := Nat.pow_le_pow_right (by omega) (by omega)
  omega
theorem decFrom_bad {l : List UInt8} {k : Nat} {b : UInt8} (h : l[k]? = some b) (hb : Lib.digitVal b = none) : Lib.decFrom 0 l = none := by
  cases hd : Lib.decFrom 0 l with
  | none => rfl
  | some n =>
    obtain ⟨d, hd'⟩ := Lib.digit_of_decFrom l 0 n hd k b h
    rw [hb] at hd'; cases hd'
end Go.Proofs.YtkgpoghoilffhaaGreatDoor
namespace Go.Proofs.YtkgpoghoilffhaaGreatDoor
open Go.RowKit
set_option linter.unusedVariables false

/-- An event: kind, key, channel, the other channel, amount, fee, yes. -/
structure Ev where
  k : Int
  y : Int
  c : Int
  t : Int
  m : Int
  f : Int
  b : Bool
abbrev evV (k y c t m f : Int) (b : Bool) : Value := .agg #[.int .i64 k, .int .i64 y, .int .i64 c, .int .i64 t, .int .i64 m, .int .i64 f, .bool b]
abbrev evCells (k y c t m f : Int) (b : Bool) : Array Value := #[.int .i64 k, .int .i64 y, .int .i64 c, .int .i64 t, .int .i64 m, .int .i64 f, .bool b]

def fieldB (h : Bool) (n lo hi : Int) : Bool := if h then decide (lo ≤ n) && decide (n ≤ hi) else decide (n = 0)
/-- Is the event right, kind by kind? -/
def evB (k y c t m f : Int) (b : Bool) : Bool :=
  if k = 1 then fieldB false y 1 1000000 && fieldB false c 1 99 && fieldB false t 1 99 && fieldB true m 1 1125899906842624 && fieldB false f 0 1125899906842624 && !b
  else if k = 2 then fieldB false y 1 1000000 && fieldB true c 1 99 && fieldB false t 1 99 && fieldB true m 1 1125899906842624 && fieldB true f 0 1125899906842624 && !b
  else if k = 3 then fieldB false y 1 1000000 && fieldB true c 1 99 && fieldB false t 1 99 && fieldB false m 1 1125899906842624 && fieldB true f 0 1125899906842624 && !b
  else if k = 4 then fieldB false y 1 1000000 && fieldB true c 1 99 && fieldB false t 1 99 && fieldB true m 0 1125899906842624 && fieldB true f 0 1000000 && !b
  else if k = 5 then fieldB true y 1 1000000 && fieldB true c 1 99 && fieldB true t 1 99 && !decide (c = t) && fieldB true m 1 1125899906842624 && fieldB false f 0 1125899906842624
  else if k = 8 then fieldB false y 1 1000000 && fieldB false c 1 99 && fieldB false t 1 99 && fieldB false m 1 1125899906842624 && fieldB false f 0 1125899906842624 && !b
  else if k = 9 then fieldB true y 1 1000000 && fieldB true c 1 99 && fieldB true t 1 99 && !decide (c = t) && fieldB true m 1 1125899906842624 && fieldB true f 0 1125899906842624 && !b
  else if k = 6 ∨ k = 7 ∨ k = 10 ∨ k = 11 then fieldB true y 1 1000000 && fieldB false c 1 99 && fieldB false t 1 99 && fieldB false m 1 1125899906842624 && fieldB false f 0 1125899906842624 && !b
  else false
end Go.Proofs.YtkgpoghoilffhaaGreatDoor
