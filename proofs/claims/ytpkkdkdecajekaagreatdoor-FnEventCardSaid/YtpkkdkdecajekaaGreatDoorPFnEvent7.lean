/- Texts of the verifier, joined: EBI, ShelfD, Bld, ShelfB, NumK, Sen, TextMathK, TxM, Vars. -/
import Derived.Test.YtpkkdkdecajekaaGreatDoorPFnEvent6
import Derived.Test.YtpkkdkdecajekaaGreatDoorPFnEvent5
import Derived.Shelf.Strings.Builder1
import Derived.Test.YtpkkdkdecajekaaGreatDoorProg
import Derived.Test.YtpkkdkdecajekaaGreatDoorPFnEvent1
import Derived.WalkLawsBesides
import Derived.OwnWalk
import Derived.Shelf.LaysM
import Derived.Shelf.Strconv.Itoa3
import Derived.Lib.ItoaLen
import Derived.Lib.ItoaMem
import Derived.Lib.LaidTab
import Derived.Laws.IdiomStrings
import Derived.Deep.RegionWith
import Derived.Deep.Heap
import Derived.Lib.AtoiTie
import Derived.Lib.Split
import Derived.Lib.IndexBytes
import Derived.Lib.IndexLaws
import Derived.Deep.RegionHeld3
import Derived.Deep.DrawnRows
namespace Go.Proofs.YtpkkdkdecajekaaGreatDoor
open Go.RowKit Go.Deep
set_option linter.unusedVariables false
set_option maxRecDepth 10000
set_option linter.unusedSimpArgs false
set_option maxHeartbeats 4000000 in
theorem body_impl (k y c t m f : Int) (b : Bool) (w : World) :
    Calls Tryz.prog 6 #[evV k y c t m f b] w (BodyPost w k y c t m f b) := by
  have HOK := hide (fun w1 => evok_impl k y c t m f b w1)
  have HKA := hide (Keeps.alloc (Keeps.refl w) (.cells (evCells k y c t m f b) 24))
  have HD : Hid (∀ w', Keeps (w.alloc (.cells (evCells k y c t m f b) 24)) w' → w'.cell? ⟨w.heap.size, 0, none⟩ = some (.int .i64 k) ∧ w'.cell? ⟨w.heap.size, 1, none⟩ = some (.int .i64 y) ∧ w'.cell? ⟨w.heap.size, 2, none⟩ = some (.int .i64 c) ∧ w'.cell? ⟨w.heap.size, 3, none⟩ = some (.int .i64 t) ∧ w'.cell? ⟨w.heap.size, 4, none⟩ = some (.int .i64 m) ∧ w'.cell? ⟨w.heap.size, 5, none⟩ = some (.int .i64 f) ∧ w'.cell? ⟨w.heap.size, 6, none⟩ = some (.bool b)) :=
    fun w' hk => ⟨hk.cell (by simp), hk.cell (by simp), hk.cell (by simp), hk.cell (by simp), hk.cell (by simp), hk.cell (by simp), hk.cell (by simp)⟩
  cases hb : evB k y c t m f b
  · rw [hb] at HOK
    have HB := hide hb
    clear hb
    go_enter Tryz.func6, Tryz.ntmps6
    go_wp2_with (go_at_call 15; refine (unhide HOK _).mono ?_; rintro x w1 ⟨rfl, hk1⟩)
    go_ret2
    exact BodyPost.no HB.out (HKA.out.trans hk1)
  · rw [hb] at HOK
    obtain ⟨⟨hk0, hk1⟩, ⟨hy0, hy1⟩, ⟨hc0, hc1⟩, ⟨ht0, ht1⟩, ⟨hm0, hm1⟩, ⟨hf0, hf1⟩⟩ := evB_bounds hb
    obtain ⟨k, rfl⟩ : ∃ n : Nat, k = n := ⟨k.toNat, by omega⟩
    obtain ⟨y, rfl⟩ : ∃ n : Nat, y = n := ⟨y.toNat, by omega⟩
    obtain ⟨c, rfl⟩ : ∃ n : Nat, c = n := ⟨c.toNat, by omega⟩
    obtain ⟨t, rfl⟩ : ∃ n : Nat, t = n := ⟨t.toNat, by omega⟩
    obtain ⟨m, rfl⟩ : ∃ n : Nat, m = n := ⟨m.toNat, by omega⟩
    obtain ⟨f, rfl⟩ : ∃ n : Nat, f = n := ⟨f.toNat, by omega⟩
    have HB := hide hb
    have HK : Hid (k < 9223372036854775808) := by show _ < _; omega
    have HY : Hid (y < 9223372036854775808) := by show _ < _; omega
    have HC : Hid (c < 9223372036854775808) := by show _ < _; omega
    have HT : Hid (t < 9223372036854775808) := by show _ < _; omega
    have HM : Hid (m < 9223372036854775808) := by show _ < _; omega
    have HF : Hid (f < 9223372036854775808) := by show _ < _; omega
    clear hb hk0 hk1 hy0 hy1 hc0 hc1 ht0 ht1 hm0 hm1 hf0 hf1
    go_enter Tryz.func6, Tryz.ntmps6
    go_wp2_with fail
    refine (unhide HOK _).mono ?_
    rintro x w1 ⟨rfl, hk1⟩
    have HK1 := hide hk1
    obtain ⟨d0, d1, d2, d3, d4, d5, d6⟩ := HD.out _ hk1
    clear hk1
    have hmk := make_22
    have HO0 := hide (World.ownsRow_made (base := w1.heap.size) (e := 5) (size := 1) w1 (madeCells #[.int .u8 0] 22) 22 (Nat.le_refl _) (by decide) (by rw [size_madeCells]))
    have HOJ : Hid (OwnsB ((w1.alloc (.cells (madeCells #[.int .u8 0] 22) 5)).alloc (.cells #[.int .u8 69] 5)) w1.heap.size (.slice (some ⟨w1.heap.size, 0, none⟩) 0 22) []) := World.ownsRow.alloc HO0.out _
    have HCJ : Hid (Cells ((w1.alloc (.cells (madeCells #[.int .u8 0] 22) 5)).alloc (.cells #[.int .u8 69] 5)) (some ⟨w1.heap.size + 1, 0, none⟩) (bys [69])) := by
      have h := cells_one (w1.alloc (.cells (madeCells #[.int .u8 0] 22) 5)) 69
      rw [World.size_alloc] at h
      exact h
    have HKJ := hide (Keeps.alloc (Keeps.alloc (Keeps.refl w1) (.cells (madeCells #[.int .u8 0] 22) 5)) (.cells #[.int .u8 69] 5))
    go_wp2_with (at_builtin; refine app_bys rfl (.tmp 9) (.tmp 10) rfl w1.heap.size _ [] [69] rfl (some ⟨w1.heap.size + 1, 0, none⟩) 1 rfl HCJ.out (fun e => nomatch e) HOJ.out (by decide) (by simp; omega) ?_; intro v2 w2 ho2 hg2; have HK2 := hide (Keeps.grown HKJ.out hg2 (fun k hk => (HOJ.out.lt k hk).1)); have HO2 : Hid (OwnsB w2 w1.heap.size v2 [69]) := ho2; clear ho2 hg2; clear d0 d1 d2 d3 d4 d5 d6; obtain ⟨d0, d1, d2, d3, d4, d5, d6⟩ := HD.out _ (HK1.out.trans HK2.out))
    clear HO0 HOJ HCJ HKJ hmk
    refine (appnum_k v2 ([69]) k 1 w1.heap.size w2 (by decide) (by decide) HK.out (by simp) HO2.out HK2.out.size w1 (Nat.le_refl _) HK2.out).mono ?_
    rintro x w3 ⟨v3, rfl, ho, _, hk⟩
    have HK3 := hide hk
    have HO3 := hide ho
    clear ho hk HO2 HK2
    clear d0 d1 d2 d3 d4 d5 d6
    obtain ⟨d0, d1, d2, d3, d4, d5, d6⟩ := HD.out _ (HK1.out.trans HK3.out)
    go_wp2_with fail
    refine (appnum_k v3 ([69] ++ digs k 1) y 3 w1.heap.size w3 (by decide) (by decide) HY.out (by simp [digs_length]) HO3.out HK3.out.size w1 (Nat.le_refl _) HK3.out).mono ?_
    rintro x w4 ⟨v4, rfl, ho, _, hk⟩
    have HK4 := hide hk
    have HO4 := hide ho
    clear ho hk HO3 HK3
    clear d0 d1 d2 d3 d4 d5 d6
    obtain ⟨d0, d1, d2, d3, d4, d5, d6⟩ := HD.out _ (HK1.out.trans HK4.out)
    go_wp2_with fail
    refine (appnum_k v4 ([69] ++ digs k 1 ++ digs y 3) c 1 w1.heap.size w4 (by decide) (by decide) HC.out (by simp [digs_length]) HO4.out HK4.out.size w1 (Nat.le_refl _) HK4.out).mono ?_
    rintro x w5 ⟨v5, rfl, ho, _, hk⟩
    have HK5 := hide hk
    have HO5 := hide ho
    clear ho hk HO4 HK4
    clear d0 d1 d2 d3 d4 d5 d6
    obtain ⟨d0, d1, d2, d3, d4, d5, d6⟩ := HD.out _ (HK1.out.trans HK5.out)
    go_wp2_with fail
    refine (appnum_k v5 ([69] ++ digs k 1 ++ digs y 3 ++ digs c 1) t 1 w1.heap.size w5 (by decide) (by decide) HT.out (by simp [digs_length]) HO5.out HK5.out.size w1 (Nat.le_refl _) HK5.out).mono ?_
    rintro x w6 ⟨v6, rfl, ho, _, hk⟩
    have HK6 := hide hk
    have HO6 := hide ho
    clear ho hk HO5 HK5
    clear d0 d1 d2 d3 d4 d5 d6
    obtain ⟨d0, d1, d2, d3, d4, d5, d6⟩ := HD.out _ (HK1.out.trans HK6.out)
    go_wp2_with fail
    refine (appnum_k v6 ([69] ++ digs k 1 ++ digs y 3 ++ digs c 1 ++ digs t 1) m 7 w1.heap.size w6 (by decide) (by decide) HM.out (by simp [digs_length]) HO6.out HK6.out.size w1 (Nat.le_refl _) HK6.out).mono ?_
    rintro x w7 ⟨v7, rfl, ho, _, hk⟩
    have HK7 := hide hk
    have HO7 := hide ho
    clear ho hk HO6 HK6
    clear d0 d1 d2 d3 d4 d5 d6
    obtain ⟨d0, d1, d2, d3, d4, d5, d6⟩ := HD.out _ (HK1.out.trans HK7.out)
    go_wp2_with fail
    refine (appnum_k v7 ([69] ++ digs k 1 ++ digs y 3 ++ digs c 1 ++ digs t 1 ++ digs m 7) f 7 w1.heap.size w7 (by decide) (by decide) HF.out (by simp [digs_length]) HO7.out HK7.out.size w1 (Nat.le_refl _) HK7.out).mono ?_
    rintro x w8 ⟨v8, rfl, ho, _, hk⟩
    have HK8 := hide hk
    have HO8 := hide ho
    clear ho hk HO7 HK7
    clear d0 d1 d2 d3 d4 d5 d6
    obtain ⟨d0, d1, d2, d3, d4, d5, d6⟩ := HD.out _ (HK1.out.trans HK8.out)
    have HX : Hid ((([69] ++ digs k 1 ++ digs y 3 ++ digs c 1 ++ digs t 1 ++ digs m 7 ++ digs f 7) : List UInt8).length + 1 ≤ 4194304) := by show _ ≤ _; simp [digs_length]
    cases b
    · have HCJ : Hid (Cells (w8.alloc (.cells #[.int .u8 0] 5)) (some ⟨w8.heap.size, 0, none⟩) (bys [0])) := cells_one w8 0
      have HOJ := hide (HO8.out.allocE (.cells #[.int .u8 0] 5))
      have HKJ := hide (Keeps.alloc HK8.out (.cells #[.int .u8 0] 5))
      go_wp2_with (at_builtin; refine app_bys rfl (.tmp 41) (.tmp 42) rfl w1.heap.size _ ([69] ++ digs k 1 ++ digs y 3 ++ digs c 1 ++ digs t 1 ++ digs m 7 ++ digs f 7) [0] rfl (some ⟨w8.heap.size, 0, none⟩) 1 rfl HCJ.out (fun e => nomatch e) HOJ.out HX.out (by simp; have := HK8.out.size; omega) ?_; intro v9 w9 ho hg)
      go_ret2
      refine BodyPost.yes HB.out ?_ (HKA.out.trans (HK1.out.trans (Keeps.grown HKJ.out hg (fun k hk => (HOJ.out.lt k hk).1))))
      refine OwnsB.older (base := w1.heap.size) ?_ (HKA.out.trans HK1.out).size
      unfold bodyL yesL
      simpa using ho
    · have HCJ : Hid (Cells (w8.alloc (.cells #[.int .u8 1] 5)) (some ⟨w8.heap.size, 0, none⟩) (bys [1])) := cells_one w8 1
      have HOJ := hide (HO8.out.allocE (.cells #[.int .u8 1] 5))
      have HKJ := hide (Keeps.alloc HK8.out (.cells #[.int .u8 1] 5))
      go_wp2_with (at_builtin; refine app_bys rfl (.tmp 38) (.tmp 39) rfl w1.heap.size _ ([69] ++ digs k 1 ++ digs y 3 ++ digs c 1 ++ digs t 1 ++ digs m 7 ++ digs f 7) [1] rfl (some ⟨w8.heap.size, 0, none⟩) 1 rfl HCJ.out (fun e => nomatch e) HOJ.out HX.out (by simp; have := HK8.out.size; omega) ?_; intro v9 w9 ho hg)
      go_ret2
      refine BodyPost.yes HB.out ?_ (HKA.out.trans (HK1.out.trans (Keeps.grown HKJ.out hg (fun k hk => (HOJ.out.lt k hk).1))))
      refine OwnsB.older (base := w1.heap.size) ?_ (HKA.out.trans HK1.out).size
      unfold bodyL yesL
      simpa using ho
end Go.Proofs.YtpkkdkdecajekaaGreatDoor
namespace Go.Proofs
open Go.Shelf
def Tryz.lays169_ren : Go.Shelf.Ren := ⟨fun | 169 => 106 | n => n, fun | 70 => 158 | 9 => 9 | 0 => 0 | 72 => 160 | 37 => 22 | 127 => 128 | 3 => 3 | 5 => 5 | n => n, fun | n => n⟩
theorem Tryz.lays169 : Go.Proofs.Lays.n169 Tryz.prog Tryz.lays169_ren := {
  mixed := by kernel_rfl
  f169 := Tryz.func106.trans (congrArg some (by kernel_rfl))
  t0 := Tryz.underlying0
  a0 := Tryz.isAgg0
  z0 := Tryz.sizeOf0
  v0 := Tryz.zeroValue0
  t3 := Tryz.underlying3
  a3 := Tryz.isAgg3
  z3 := Tryz.sizeOf3
  v3 := Tryz.zeroValue3
  t9 := Tryz.underlying9
  a9 := Tryz.isAgg9
  z9 := Tryz.sizeOf9
  v9 := Tryz.zeroValue9
  t37 := Tryz.underlying22
  a37 := Tryz.isAgg22
  z37 := Tryz.sizeOf22
  v37 := Tryz.zeroValue22
  t70 := Tryz.underlying158
  a70 := Tryz.isAgg158
  z70 := Tryz.sizeOf158
  v70 := Tryz.zeroValue158
  t72 := Tryz.underlying160
  a72 := Tryz.isAgg160
  z72 := Tryz.sizeOf160
  v72 := Tryz.zeroValue160
  t127 := Tryz.underlying128
  a127 := Tryz.isAgg128
  z127 := Tryz.sizeOf128
  v127 := Tryz.zeroValue128 }
theorem Tryz.Builder_Extra_169 : Builder.Extra Tryz.prog Tryz.lays169_ren := {
  sizeBuilder := by kernel_rfl
  liesBuilder := by kernel_rfl
  t5 := Tryz.underlying5
  a5 := Tryz.isAgg5
  z5 := Tryz.sizeOf5
  v5 := Tryz.zeroValue5
  infoByte := by kernel_rfl
  cellsByte := by kernel_rfl
  sizeByte := by kernel_rfl
  neB5 := by decide }
open Go.RowKit in
theorem Tryz.Builder_String (B b : Nat) (l : List UInt8) (w : World) (h : Lib.IsBuilder 160 5 B b (Lib.byteCells l) w) (h0 : l ≠ []) :
    Calls Tryz.prog 106 #[.pointer (some ⟨b, 0, none⟩)] w fun e w' => e = .returned (.string ⟨l.toArray⟩) ∧ Below B w w' := Any.Builder_String Tryz.lays169 Tryz.Builder_Extra_169 B b l w h h0
end Go.Proofs
namespace Go.Proofs.YtpkkdkdecajekaaGreatDoor
open Go.RowKit
set_option linter.unusedVariables false
set_option maxRecDepth 10000
theorem bldX : Builder.Extra Tryz.prog Tryz.lays169_ren := Tryz.Builder_Extra_169
set_option maxHeartbeats 2000000 in
theorem check_old (b : Nat) (w : World) (h0 : w.cell? ⟨b, 0, none⟩ = some (.pointer (some ⟨b, 0, none⟩))) :
    Calls Tryz.prog 107 #[.pointer (some ⟨b, 0, none⟩)] w fun e w' => e = .returned (.tuple #[]) ∧ w' = w := by
  obtain ⟨j, hj, _⟩ := Option.map_eq_some_iff.1 bldX.sizeBuilder
  have e1 := Lib.run_neq_ptr_same w ⟨b, 0, none⟩ Tryz.underlying158 hj
  go_enter Tryz.func107, Tryz.ntmps107
  go_wp2
  go_end0
  exact ⟨rfl, rfl⟩
set_option maxHeartbeats 2000000 in
theorem check_new (b : Nat) (w : World) (h0 : w.cell? ⟨b, 0, none⟩ = some (.pointer none)) (hs : w.shape? b = some (160, 2)) (f0 : w.frozen? ⟨b, 0, none⟩ = false) :
    Calls Tryz.prog 107 #[.pointer (some ⟨b, 0, none⟩)] w fun e w' => e = .returned (.tuple #[]) ∧ w' = w.setCell ⟨b, 0, none⟩ (.pointer (some ⟨b, 0, none⟩)) := by
  obtain ⟨j, hj, hjs⟩ := Option.map_eq_some_iff.1 bldX.sizeBuilder
  have e1 := Lib.run_to_unsafe w ⟨b, 0, none⟩ Tryz.underlying158 Tryz.underlying161 hj (by rw [hjs]; decide) hs (Nat.zero_lt_succ 1)
  have e3 := Lib.run_from_unsafe w ⟨b, 0, none⟩ Tryz.underlying161 Tryz.underlying158 hj hs bldX.liesBuilder
  go_enter Tryz.func107, Tryz.ntmps107
  go_wp2
  rw [run_callFunc_extern Tryz.func108 (by kernel_rfl) (by kernel_rfl) (by kernel_rfl) (e := Extern.AbiNoEscape.same) (by kernel_rfl), Lib.run_noEscape]
  simp only [Result.andThen]
  rw [Oper.upon_value]
  go_wp2
  go_end0
  exact ⟨rfl, rfl⟩
/-- A builder of the call's own, behind the block B. -/
abbrev Bldr (B b : Nat) (bs : List Value) (w : World) : Prop := Lib.IsBuilder 160 5 B b bs w
theorem check_any (B b : Nat) (bs : List Value) (w : World) (h : Bldr B b bs w) :
    Calls Tryz.prog 107 #[.pointer (some ⟨b, 0, none⟩)] w fun e w' => e = .returned (.tuple #[]) ∧ Lib.BuilderAt 160 5 B b (.pointer (some ⟨b, 0, none⟩)) bs w' ∧ Below B w w' := by
  rcases h with h | h
  · refine (check_new b w h.cell0 h.shape h.frozen0).mono ?_
    rintro e w' ⟨rfl, hw⟩
    obtain rfl := Eq.symm hw
    exact ⟨rfl, h.used _, (Below.refl B w).setCell (p := ⟨b, 0, none⟩) h.1 _⟩
  · refine (check_old b w h.cell0).mono ?_
    rintro e w' ⟨rfl, hw⟩
    obtain rfl := Eq.symm hw
    exact ⟨rfl, h, Below.refl B _⟩
set_option maxHeartbeats 2000000 in
/-- A text is written behind what is there. -/
theorem write_any (B b : Nat) (bs : List Value) (s : ByteArray) (w : World) (h : Bldr B b bs w) (hl : bs.length + s.size ≤ 4294967296) (hB : B ≤ w.heap.size) :
    Calls Tryz.prog 105 #[.pointer (some ⟨b, 0, none⟩), .string s] w fun e w' => e = .returned (.tuple #[.int .i64 s.size, .nilIface]) ∧ Bldr B b (bs ++ Lib.strCells s) w' ∧ Below B w w' := by
  have hI : (Tryz.prog.info? 5).map (fun i => (i.zero, i.size, i.bytes)) = some (some (.int .u8 0), 1, 1) := by kernel_rfl
  obtain ⟨i0, hi, hI2⟩ := Option.map_eq_some_iff.1 hI
  simp only [Prod.mk.injEq] at hI2
  obtain ⟨hz0, hz1, hz2⟩ := hI2
  go_enter Tryz.func105, Tryz.ntmps105
  go_wp2_with fail
  refine (check_any B b bs w h).mono ?_
  rintro e w1 ⟨rfl, h1, hb1⟩
  obtain ⟨hBb, v, hbk, hown, hne⟩ := h1
  have hz := hb1.size
  have c0 : w1.cell? ⟨b, 0, none⟩ = some (.pointer (some ⟨b, 0, none⟩)) := by rw [Lib.cell_of_heap hbk]; rfl
  have c1 : w1.cell? ⟨b, 1, none⟩ = some v := by rw [Lib.cell_of_heap hbk]; rfl
  have hlt := lt_of_cell c0
  go_wp2_with (at_builtin; refine Lib.wpList_append_own_string _ rfl _ _ 22 9 rfl B 5 i0 Tryz.underlying22 Tryz.underlying9 hi hz0 hz1 hz2 _ _ _ rfl hown s rfl (by unfold maxLen; omega) (by omega) (by omega) ?_)
  intro v' w2 ho hg _
  have hb2 : w2.heap[b]? = some (.cells #[.pointer (some ⟨b, 0, none⟩), v] 160 (0, 0)) := by
    rw [hg.block b hlt (fun e => hne e.symm)]
    exact hbk
  have d0 : w2.cell? ⟨b, 0, none⟩ = some (.pointer (some ⟨b, 0, none⟩)) := by rw [Lib.cell_of_heap hb2]; rfl
  have d1 : w2.cell? ⟨b, 1, none⟩ = some v := by rw [Lib.cell_of_heap hb2]; rfl
  have f1 : w2.frozen? ⟨b, 1, none⟩ = false := Lib.frozen_of_heap hb2 1
  obtain ⟨ao, n', cap, rfl⟩ : ∃ ao n' cap, v' = .slice ao n' cap := by
    rcases ho.2 with ⟨hv, _⟩ | ⟨g, cap, cur, hv, _⟩
    · exact ⟨_, _, _, hv⟩
    · exact ⟨_, _, _, hv⟩
  go_wp2
  go_ret2
  refine ⟨rfl, .inr (Lib.BuilderAt.put hBb hb2 (bs' := bs ++ Lib.strCells s) (by simpa [Lib.strCells_length] using ho) bldX.neB5), ?_⟩
  exact (hb1.grown hg (by omega) (fun k hk => (hown.lt k hk).1)).setCell (p := ⟨b, 1, none⟩) hBb _
end Go.Proofs.YtpkkdkdecajekaaGreatDoor
namespace Go.Proofs
open Go.Shelf
def Tryz.laysM171_ren : Go.Shelf.Ren := ⟨fun | 171 => 59 | 243 => 67 | 246 => 71 | 283 => 74 | 284 => 75 | 285 => 76 | 286 => 77 | 129 => 79 | 317 => 78 | 318 => 80 | 319 => 81 | 320 => 82 | 337 => 83 | 338 => 84 | n => n, fun | 3 => 3 | 9 => 9 | 2 => 2 | 4 => 4 | 171 => 132 | 0 => 0 | 53 => 119 | 37 => 22 | 5 => 5 | 173 => 135 | 212 => 138 | 51 => 110 | 20 => 20 | 213 => 139 | 46 => 95 | 232 => 142 | 233 => 143 | n => n, fun | 17 => 7 | 18 => 8 | 19 => 9 | n => n⟩
theorem Tryz.laysM171 : Go.Proofs.LaysM.n171 Tryz.prog Tryz.laysM171_ren := {
  mixed := by kernel_rfl
  f129 := Tryz.func79.trans (congrArg some (by kernel_rfl))
  f171 := Tryz.func59.trans (congrArg some (by kernel_rfl))
  f243 := Tryz.func67.trans (congrArg some (by kernel_rfl))
  f246 := Tryz.func71.trans (congrArg some (by kernel_rfl))
  f283 := Tryz.func74.trans (congrArg some (by kernel_rfl))
  f284 := Tryz.func75.trans (congrArg some (by kernel_rfl))
  f285 := Tryz.func76.trans (congrArg some (by kernel_rfl))
  f286 := Tryz.func77.trans (congrArg some (by kernel_rfl))
  f317 := Tryz.func78.trans (congrArg some (by kernel_rfl))
  f318 := Tryz.func80.trans (congrArg some (by kernel_rfl))
  f319 := Tryz.func81.trans (congrArg some (by kernel_rfl))
  f320 := Tryz.func82.trans (congrArg some (by kernel_rfl))
  f337 := Tryz.func83.trans (congrArg some (by kernel_rfl))
  f338 := Tryz.func84.trans (congrArg some (by kernel_rfl))
  t0 := Tryz.underlying0
  a0 := Tryz.isAgg0
  z0 := Tryz.sizeOf0
  v0 := Tryz.zeroValue0
  t2 := Tryz.underlying2
  a2 := Tryz.isAgg2
  z2 := Tryz.sizeOf2
  v2 := Tryz.zeroValue2
  t3 := Tryz.underlying3
  a3 := Tryz.isAgg3
  z3 := Tryz.sizeOf3
  v3 := Tryz.zeroValue3
  t4 := Tryz.underlying4
  a4 := Tryz.isAgg4
  z4 := Tryz.sizeOf4
  v4 := Tryz.zeroValue4
  t5 := Tryz.underlying5
  a5 := Tryz.isAgg5
  z5 := Tryz.sizeOf5
  v5 := Tryz.zeroValue5
  t9 := Tryz.underlying9
  a9 := Tryz.isAgg9
  z9 := Tryz.sizeOf9
  v9 := Tryz.zeroValue9
  t20 := Tryz.underlying20
  a20 := Tryz.isAgg20
  z20 := Tryz.sizeOf20
  v20 := Tryz.zeroValue20
  t37 := Tryz.underlying22
  a37 := Tryz.isAgg22
  z37 := Tryz.sizeOf22
  v37 := Tryz.zeroValue22
  t46 := Tryz.underlying95
  a46 := Tryz.isAgg95
  z46 := Tryz.sizeOf95
  v46 := Tryz.zeroValue95
  t51 := Tryz.underlying110
  a51 := Tryz.isAgg110
  z51 := Tryz.sizeOf110
  v51 := Tryz.zeroValue110
  t53 := Tryz.underlying119
  a53 := Tryz.isAgg119
  z53 := Tryz.sizeOf119
  v53 := Tryz.zeroValue119
  t171 := Tryz.underlying132
  a171 := Tryz.isAgg132
  z171 := Tryz.sizeOf132
  v171 := Tryz.zeroValue132
  t173 := Tryz.underlying135
  a173 := Tryz.isAgg135
  z173 := Tryz.sizeOf135
  v173 := Tryz.zeroValue135
  t212 := Tryz.underlying138
  a212 := Tryz.isAgg138
  z212 := Tryz.sizeOf138
  v212 := Tryz.zeroValue138
  t213 := Tryz.underlying139
  a213 := Tryz.isAgg139
  z213 := Tryz.sizeOf139
  t232 := Tryz.underlying142
  a232 := Tryz.isAgg142
  z232 := Tryz.sizeOf142
  v232 := Tryz.zeroValue142
  t233 := Tryz.underlying143
  a233 := Tryz.isAgg143
  z233 := Tryz.sizeOf143
  v233 := Tryz.zeroValue143
  g17 := by kernel_rfl
  g18 := by kernel_rfl
  g19 := by kernel_rfl
  i0 := by kernel_rfl
  i2 := by kernel_rfl
  i3 := by kernel_rfl
  i4 := by kernel_rfl
  i5 := by kernel_rfl
  i9 := by kernel_rfl
  i20 := by kernel_rfl
  i37 := by kernel_rfl
  i46 := by kernel_rfl
  i51 := by kernel_rfl
  i53 := by kernel_rfl
  i171 := by kernel_rfl
  i173 := by kernel_rfl
  i212 := by kernel_rfl
  i232 := by kernel_rfl
  i233 := by kernel_rfl
  m17 := by kernel_rfl
  m18 := by kernel_rfl
  m19 := by kernel_rfl }
open Go.RowKit Go.Sort Go.Lib in
theorem Tryz.strconv_Itoa (n : Int) (h0 : -9223372036854775808 ≤ n) (h1 : n ≤ 9223372036854775807) (w : World) (htab : Lib.TabIs Tryz.prog w "internal/strconv.uint64pow10" .u64 Lib.pow10Tab) :
    Calls Tryz.prog 59 #[.int .i64 n] w fun e w' => e = .returned (.string ⟨(Lib.itoa n).toArray⟩) ∧ ∃ k os, w' = grow (w.drewN k) os := Any.strconv_Itoa Tryz.laysM171 n h0 h1 w htab
end Go.Proofs
namespace Go.Proofs.YtpkkdkdecajekaaGreatDoor
open Go.RowKit
set_option linter.unusedVariables false
theorem ret_str {l l' : List UInt8} (h : l = l') : Ending.returned (.string ⟨l.toArray⟩) = .returned (.string ⟨l'.toArray⟩) := by rw [h]
/-- What NumText answers. -/
def numT (n : Int) : List UInt8 := if n < -1125899906842624 ∨ 1125899906842624 < n then [] else Lib.itoa n
theorem numT_in {n : Int} (h : -1125899906842624 ≤ n) (h' : n ≤ 1125899906842624) : numT n = Lib.itoa n := by unfold numT; rw [if_neg (by omega)]
theorem numT_out {n : Int} (h : n < -1125899906842624 ∨ 1125899906842624 < n) : numT n = [] := by unfold numT; rw [if_pos h]
theorem numT_len (n : Int) : (numT n).length ≤ 21 := by
  unfold numT
  split
  · simp
  · exact Lib.itoa_length_le n (by omega) (by omega)
theorem keeps_grow (w : World) (k : Nat) (os : Array Obj) : Keeps w (Sort.grow (w.drewN k) os) :=
  ⟨rfl, rfl, rfl, by simp [Sort.grow, World.drewN], fun i hi => by
    show (w.heap ++ os)[i]? = w.heap[i]?
    rw [Array.getElem?_append_left hi]⟩

theorem gPow : Tryz.prog.globalNamed "internal/strconv.uint64pow10" = some 7 := by kernel_rfl
theorem tPow : (Tryz.prog.globals[7]?).map (·.type) = some 138 := by kernel_rfl
theorem cells56 : Tryz.prog.cellsOf 119 = 1 := by kernel_rfl
theorem cells81 : Tryz.prog.cellsOf 138 = 20 := by kernel_rfl
def Tab (w : World) : Prop := Lib.TabIs Tryz.prog w "internal/strconv.uint64pow10" .u64 Lib.pow10Tab
theorem Tab.kept {w w' : World} (h : Tab w) (hk : Keeps w w') : Tab w' := var_kept hk h

theorem num_impl (n : Int) (w : World) (ht : Tab w) : Calls Tryz.prog 51 #[.int .i64 n] w fun e w' => e = .returned (.string ⟨(numT n).toArray⟩) ∧ Keeps w w' := by
  by_cases h1 : n < -1125899906842624
  · have H : Hid (numT n = []) := numT_out (Or.inl h1)
    go_enter Tryz.func51, Tryz.ntmps51
    go_wp2_with fail
    go_ret
    exact ⟨ret_str H.out.symm, Keeps.refl _⟩
  · by_cases h2 : 1125899906842624 < n
    · have H : Hid (numT n = []) := numT_out (Or.inr h2)
      go_enter Tryz.func51, Tryz.ntmps51
      go_wp2_with fail
      go_ret
      exact ⟨ret_str H.out.symm, Keeps.refl _⟩
    · have H : Hid (numT n = Lib.itoa n) := numT_in (by omega) (by omega)
      have HI := hide (Tryz.strconv_Itoa n (by omega) (by omega) w ht)
      clear ht
      go_enter Tryz.func51, Tryz.ntmps51
      go_wp2_with (go_at_call 59; refine (unhide HI).mono ?_; rintro e w' ⟨rfl, k, os, rfl⟩)
      go_ret
      exact ⟨ret_str H.out.symm, keeps_grow _ _ _⟩
end Go.Proofs.YtpkkdkdecajekaaGreatDoor
namespace Go.Proofs.YtpkkdkdecajekaaGreatDoor
open Go.RowKit Go.Deep
set_option linter.unusedVariables false
set_option maxRecDepth 10000
/-- A word, and numbers behind it, each behind a blank. -/
def senN (ns : List Int) : List UInt8 := ns.flatMap fun n => 32 :: numT n
def sen (W : List UInt8) (ns : List Int) : List UInt8 := W ++ senN ns
def nums (K : List Int) : List Value := K.map fun k => .int .i64 k
theorem nums_length (K : List Int) : (nums K).length = K.length := by simp [nums]
theorem nums_at {w : World} {a : Option Addr} {K : List Int} (h : Cells w a (nums K)) (i : Nat) (hi : i < K.length) : ∃ b off, a = some ⟨b, off, none⟩ ∧ w.cell? ⟨b, off + i, none⟩ = some (.int .i64 K[i]) := by
  rcases h with h | ⟨b, off, e, h⟩
  · have : K = [] := by simpa [nums] using h
    subst this
    simp at hi
  · have := h i (by rw [nums_length]; exact hi)
    exact ⟨b, off, e, by simpa [nums] using this⟩
theorem strCells_of (l : List UInt8) : Lib.strCells ⟨l.toArray⟩ = Lib.byteCells l := by simp [Lib.strCells, Lib.byteCells]
theorem byteCells_app (l m : List UInt8) : Lib.byteCells (l ++ m) = Lib.byteCells l ++ Lib.byteCells m := by simp [Lib.byteCells]
theorem new_bld (w : World) : Bldr w.heap.size w.heap.size [] (w.alloc (.cells #[.pointer none, .slice none 0 0] 160)) := by
  refine .inl ⟨Nat.le_refl _, .slice none 0 0, blk_alloc_new w _, World.ownsRow_nil _ _ _ _, by simp [Value.ownBlock]⟩
theorem senN_succ (ns : List Int) (k : Nat) (h : k < ns.length) : senN (ns.take (k + 1)) = senN (ns.take k) ++ [32] ++ numT ns[k] := by
  unfold senN
  rw [List.take_succ_eq_append_getElem h, List.flatMap_append]
  simp
theorem senN_len (ns : List Int) : (senN ns).length ≤ 22 * ns.length := by
  induction ns with
  | nil => simp [senN]
  | cons n t ih =>
    have := numT_len n
    simp only [senN, List.flatMap_cons, List.length_append, List.length_cons] at ih ⊢
    omega
theorem write_l (B b : Nat) (l m : List UInt8) (w : World) (h : Bldr B b (Lib.byteCells l) w) (hl : l.length + m.length ≤ 4294967296) (hB : B ≤ w.heap.size) :
    Calls Tryz.prog 105 #[.pointer (some ⟨b, 0, none⟩), .string ⟨m.toArray⟩] w fun e w' => (∃ z : Int, e = .returned (.tuple #[.int .i64 z, .nilIface])) ∧ Bldr B b (Lib.byteCells (l ++ m)) w' ∧ Below B w w' := by
  refine (write_any B b _ ⟨m.toArray⟩ w h (by rw [Lib.byteCells_length]; exact hl) hB).mono ?_
  rintro e w' ⟨rfl, h1, h2⟩
  exact ⟨⟨_, rfl⟩, by rw [byteCells_app, ← strCells_of m]; exact h1, h2⟩
theorem owns_keptS {base n : Nat} {e : TypeId} {sz : Nat} {v : Value} {xs : List Value} {w w1 : World} (hk : Keeps w w1) (h : w.ownsRow base e sz v n xs) : w1.ownsRow base e sz v n xs := by
  refine ⟨h.1, ?_⟩
  rcases h.2 with h' | ⟨g, cap, cur, rfl, hb, hg, rest⟩
  · exact .inl h'
  · refine .inr ⟨g, cap, cur, rfl, hb, ?_, rest⟩
    rw [Below.block hk g (Array.getElem?_eq_some_iff.1 hg).1]; exact hg
theorem bld_kept {B b : Nat} {bs : List Value} {w w' : World} (h : Bldr B b bs w) (hk : Keeps w w') : Bldr B b bs w' := by
  have aux : ∀ p, Lib.BuilderAt 160 5 B b p bs w → Lib.BuilderAt 160 5 B b p bs w' := by
    rintro p ⟨hB, v, hb, ho, hn⟩
    have hlt : b < w.heap.size := by
      rcases Nat.lt_or_ge b w.heap.size with h' | h'
      · exact h'
      · simp [Array.getElem?_eq_none h'] at hb
    exact ⟨hB, v, by rw [Below.block hk b hlt]; exact hb, owns_keptS hk ho, hn⟩
  exact h.elim (fun x => .inl (aux _ x)) (fun x => .inr (aux _ x))
set_option maxHeartbeats 4000000 in
theorem sentence_k (W : List UInt8) (a : Option Addr) (cap : Nat) (ns : List Int) (w : World) (hW : W ≠ []) (hW2 : W.length ≤ 20) (hn : ns.length ≤ 8) (hc : Cells w a (nums ns)) (ht : Tab w) :
    Calls Tryz.prog 103 #[.string ⟨W.toArray⟩, .slice a ns.length cap] w fun e w' => e = .returned (.string ⟨(sen W ns).toArray⟩) ∧ Keeps w w' := by
  have HB0 := hide (new_bld w)
  have HK0 := hide (Keeps.alloc (Keeps.refl w) (.cells #[.pointer none, .slice none 0 0] 160))
  have HC := hide hc
  have HT := hide ht
  clear hc ht
  go_enter Tryz.func103, Tryz.ntmps103
  go_wp2_with fail
  refine (write_l w.heap.size w.heap.size [] W _ HB0.out (by simp; omega) (by simp)).mono ?_
  rintro e w1 ⟨⟨z, rfl⟩, h1, hb1⟩
  have HB1 := hide h1
  have HK1 : Hid (Keeps w w1) := Below.trans HK0.out hb1
  clear h1 hb1 HB0 HK0
  go_wp2_with fail
  go_loopw [12] (fun y wr => ∃ k : Nat, k ≤ ns.length ∧ y = .int .i64 (k : Int) ∧ Hid (Bldr w.heap.size w.heap.size (Lib.byteCells (W ++ senN (ns.take k))) wr) ∧ Hid (Keeps w wr)) (fun y _ => ns.length - (intOf y).toNat)
  case atStart => exact ⟨0, Nat.zero_le _, rfl, by show Bldr _ _ _ _; simpa [senN] using HB1.out, HK1⟩
  case round =>
    clear HB1 HK1
    obtain ⟨k, hk, rfl, HB, HK⟩ := hrel
    have hsz := HK.out.size
    by_cases hlt : k < ns.length
    · obtain ⟨b, off, ea, c0⟩ := nums_at (HC.out.kept HK.out) k hlt
      subst ea
      have HS := hide (senN_succ ns k hlt)
      have hl1 := senN_len (ns.take k)
      have hl2 : (ns.take k).length ≤ k := by simp; omega
      generalize hx : ns[k] = x at *
      generalize senN (ns.take k) = Z at *
      clear hx
      go_wp2_with fail
      refine (write_l w.heap.size w.heap.size (W ++ Z) [32] _ HB.out (by simp; omega) hsz).mono ?_
      rintro e w2 ⟨⟨z2, rfl⟩, h2, hb2⟩
      have HB2 := hide h2
      have HK2 : Hid (Keeps w w2) := Below.trans HK.out hb2
      have hsz2 := HK2.out.size
      clear h2 hb2 HB HK
      go_wp2_with fail
      refine (num_impl x w2 (HT.out.kept HK2.out)).mono ?_
      rintro e w3 ⟨rfl, hk3⟩
      have HK3 := hide (HK2.out.trans hk3)
      have HB3 := hide (bld_kept HB2.out hk3)
      have hsz3 := HK3.out.size
      have hl3 := numT_len x
      clear hk3 HB2 HK2
      go_wp2_with fail
      refine (write_l w.heap.size w.heap.size (W ++ Z ++ [32]) (numT x) _ HB3.out (by simp; omega) hsz3).mono ?_
      rintro e w4 ⟨⟨z4, rfl⟩, h4, hb4⟩
      have HB4 := hide h4
      have HK4 : Hid (Keeps w w4) := Below.trans HK3.out hb4
      clear h4 hb4 HB3 HK3
      go_wp2_with fail
      go_roundw
      case rel => exact ⟨k + 1, by omega, by go_num, by show Bldr _ _ _ _; rw [HS.out]; simpa [List.append_assoc] using HB4.out, HK4⟩
      case measure => simp [intOf]; omega
    · have e : k = ns.length := by omega
      subst e
      rw [List.take_length] at HB
      go_wp2_with fail
      refine (Tryz.Builder_String w.heap.size w.heap.size (W ++ senN ns) _ HB.out (by simp [hW])).mono ?_
      rintro e w5 ⟨rfl, hb5⟩
      have HK5 : Hid (Keeps w w5) := Below.trans HK.out hb5
      go_wp2_with fail
      go_ret
      exact ⟨rfl, HK5.out⟩
end Go.Proofs.YtpkkdkdecajekaaGreatDoor
namespace Go.Proofs.YtpkkdkdecajekaaGreatDoor
set_option linter.unusedVariables false
open Go.RowKit

theorem decFrom_append (l r : List UInt8) : ∀ acc, Lib.decFrom acc (l ++ r) = (Lib.decFrom acc l).bind fun n => Lib.decFrom n r := by
  induction l with
  | nil => intro acc; simp [Lib.decFrom]
  | cons b t ih =>
    intro acc
    simp only [List.cons_append, Lib.decFrom]
    cases Lib.digitVal b with
    | none => rfl
    | some d => exact ih _
theorem digit_of (d : Nat) (h : d < 10) : Lib.digitVal (UInt8.ofNat (48 + d)) = some d := by
  have e : (UInt8.ofNat (48 + d)).toNat = 48 + d := by rw [UInt8.toNat_ofNat', Nat.mod_eq_of_lt (by omega)]
  unfold Lib.digitVal
  rw [e, if_pos (by omega)]
  congr 1; omega
theorem decFrom_dec (u : Nat) : Lib.decFrom 0 (Lib.decDigits u) = some u := by
  induction u using Nat.strongRecOn with
  | ind u ih =>
    by_cases h : u < 10
    · rw [Lib.decDigits, dif_pos h]
      simp only [Lib.decFrom, digit_of u h, Nat.zero_mul, Nat.zero_add]
    · rw [Lib.decDigits, dif_neg h, decFrom_append, ih (u / 10) (by omega)]
      simp only [Option.bind_some, Lib.decFrom, digit_of (u % 10) (by omega), Option.some.injEq]
      omega
theorem dec_ne (u : Nat) : Lib.decDigits u ≠ [] := by
  intro h
  have := Lib.decDigits_length u
  have h2 := Lib.nDigits_pos u
  rw [h] at this
  simp at this; omega
theorem dec_head (u : Nat) : ∃ c r, Lib.decDigits u = c :: r ∧ c.toNat ≠ 45 ∧ c.toNat ≠ 43 := by
  cases h : Lib.decDigits u with
  | nil => exact absurd h (dec_ne u)
  | cons c r =>
    refine ⟨c, r, rfl, ?_⟩
    obtain ⟨d, hd⟩ := Lib.digit_of_decFrom _ _ _ (decFrom_dec u) 0 c (by rw [h]; rfl)
    unfold Lib.digitVal at hd
    split at hd
    · omega
    · cases hd
theorem nDigits_le : ∀ (k u : Nat), u < 10 ^ (k + 1) → Lib.nDigits u ≤ k + 1
  | 0, u, h => by rw [Lib.nDigits_small (by simpa using h)]; omega
  | k + 1, u, h => by
    by_cases h10 : u < 10
    · rw [Lib.nDigits_small h10]; omega
    · rw [Lib.nDigits_big h10]
      have := nDigits_le k (u / 10) (by rw [Nat.pow_succ] at h; omega)
      omega
theorem itoa_len (n : Int) (h : -1125899906842624 ≤ n) (h' : n ≤ 1125899906842624) : (Lib.itoa n).length ≤ 17 := by
  unfold Lib.itoa
  split
  · have := nDigits_le 15 n.natAbs (by omega)
    simp [Lib.decDigits_length]; omega
  · have := nDigits_le 15 n.toNat (by omega)
    rw [Lib.decDigits_length]; omega
theorem atoi_itoa (n : Int) : Lib.atoi (Lib.itoa n) = some n := by
  unfold Lib.itoa
  split
  · simp [Lib.atoi, Lib.decNat, decFrom_dec, dec_ne]; omega
  · obtain ⟨c, r, e, h1, h2⟩ := dec_head n.toNat
    rw [e]
    have d := decFrom_dec n.toNat
    rw [e] at d
    have e1 : (c == 45) = false := by
      rw [beq_eq_false_iff_ne]; intro hc; subst hc; exact h1 rfl
    have e2 : (c == 43) = false := by
      rw [beq_eq_false_iff_ne]; intro hc; subst hc; exact h2 rfl
    simp [Lib.atoi, Lib.decNat, e1, e2, d]; omega
theorem numT_some {m : Int} {l : List UInt8} (h : numT m = l) (hl : l ≠ []) : (-1125899906842624 ≤ m ∧ m ≤ 1125899906842624) ∧ Lib.itoa m = l := by
  unfold numT at h
  split at h
  · exact absurd h.symm hl
  · exact ⟨by omega, h⟩

/-- What TextNum answers. -/
def Res (l : List UInt8) (v : Int) (b : Bool) : Prop := (b = true ∧ l ≠ [] ∧ numT v = l) ∨ (b = false ∧ v = 0 ∧ ∀ n, l ≠ [] → numT n ≠ l)
theorem res_unique {l : List UInt8} {v v' : Int} {b b' : Bool} (h : Res l v b) (h' : Res l v' b') : v' = v ∧ b' = b := by
  rcases h with ⟨rfl, hl, hv⟩ | ⟨rfl, rfl, hn⟩
  · rcases h' with ⟨rfl, _, hv'⟩ | ⟨rfl, rfl, hn'⟩
    · have a := atoi_itoa v
      have a' := atoi_itoa v'
      rw [(numT_some hv hl).2] at a
      rw [(numT_some hv' hl).2, a] at a'
      exact ⟨(Option.some.inj a').symm, rfl⟩
    · exact absurd hv (hn' v hl)
  · rcases h' with ⟨rfl, hl, hv'⟩ | ⟨rfl, rfl, hn'⟩
    · exact absurd hv' (hn v' hl)
    · exact ⟨rfl, rfl⟩
theorem res_yes {l : List UInt8} {v : Int} (hl : l ≠ []) (h : numT v = l) : Res l v true := Or.inl ⟨rfl, hl, h⟩
theorem res_nil : Res [] 0 false := Or.inr ⟨rfl, rfl, fun _ h => absurd rfl h⟩
/-- strconv.Atoi's side. -/
theorem atoiAll_of {m : Int} {l : List UInt8} (h : numT m = l) (hl : l ≠ []) : Lib.atoiAll l = .ok m := by
  obtain ⟨⟨a, b⟩, c⟩ := numT_some h hl
  have hlen := itoa_len m a b
  rw [c] at hlen
  rw [Lib.atoiAll_short l (by omega), ← c, atoi_itoa]; rfl
theorem res_err {l : List UInt8} (h : ∀ v, Lib.atoiAll l ≠ .ok v) : Res l 0 false := Or.inr ⟨rfl, rfl, fun n hl hn => h n (atoiAll_of hn hl)⟩
theorem res_other {l : List UInt8} {v : Int} (h : Lib.atoiAll l = .ok v) (hv : numT v ≠ l) : Res l 0 false := Or.inr ⟨rfl, rfl, fun n hl hn => by
  have := atoiAll_of hn hl
  rw [h] at this
  injection this with this
  exact hv (this ▸ hn)⟩

end Go.Proofs.YtpkkdkdecajekaaGreatDoor
namespace Go.Proofs.YtpkkdkdecajekaaGreatDoor
open Go.RowKit
set_option linter.unusedVariables false
set_option maxRecDepth 10000
set_option linter.unusedSimpArgs false
/-- Words with one blank between any two. -/
def join : List (List UInt8) → List UInt8
  | [] => []
  | [w] => w
  | w :: v :: r => w ++ 32 :: join (v :: r)
theorem join_cons (w v : List UInt8) (r : List (List UInt8)) : join (w :: v :: r) = w ++ 32 :: join (v :: r) := rfl
theorem sen_join (W : List UInt8) : ∀ ns : List Int, sen W ns = join (W :: ns.map numT)
  | [] => by simp [sen, senN, join]
  | n :: r => by
    have ih := sen_join (numT n) r
    simp only [List.map_cons, join_cons]
    rw [← ih]
    simp [sen, senN]
theorem join_snoc (x : List UInt8) : ∀ (w : List UInt8) (r : List (List UInt8)), join (w :: r ++ [x]) = join (w :: r) ++ 32 :: x
  | w, [] => by simp [join]
  | w, v :: r => by
    have ih := join_snoc x v r
    simp only [List.cons_append] at ih ⊢
    rw [join_cons, ih, join_cons]
    simp
theorem idx_none {w : List UInt8} (h : (32 : UInt8) ∉ w) : Lib.index w [32] = -1 := by
  rw [Lib.index_one]
  by_cases h1 : Lib.indexByte w 32 < 0
  · have := Lib.indexByte_ge w 32
    omega
  · obtain ⟨i, hi⟩ := Int.eq_ofNat_of_zero_le (Int.not_lt.1 h1)
    exact absurd (List.mem_of_getElem? (Lib.indexByte_some hi).1) h
theorem idx_at {w r : List UInt8} (h : (32 : UInt8) ∉ w) : Lib.index (w ++ 32 :: r) [32] = (w.length : Int) := by
  rw [Lib.index_one]
  have hm : (w ++ 32 :: r)[w.length]? = some 32 := by simp
  by_cases h1 : Lib.indexByte (w ++ 32 :: r) 32 < 0
  · have := Lib.indexByte_ge (w ++ 32 :: r) 32
    exact absurd hm (Lib.indexByte_none (by omega) _)
  · obtain ⟨i, hi⟩ := Int.eq_ofNat_of_zero_le (Int.not_lt.1 h1)
    obtain ⟨a1, a2⟩ := Lib.indexByte_some hi
    rcases Nat.lt_trichotomy i w.length with h2 | h2 | h2
    · rw [List.getElem?_append_left h2] at a1
      exact absurd (List.mem_of_getElem? a1) h
    · rw [hi, h2]
    · exact absurd hm (a2 _ h2)
/-- What is joined is split again. -/
theorem split_join : ∀ (W : List (List UInt8)) (k : Nat), W ≠ [] → (∀ w ∈ W, (32 : UInt8) ∉ w) → W.length ≤ k + 1 → Lib.splitK [32] 0 k (join W) = W
  | [], _, h, _, _ => absurd rfl h
  | [w], k, _, h, _ => by
    have hw := h w (by simp)
    cases k with
    | zero => rfl
    | succ k =>
      show (if (Lib.index w [32] == -1) = true then [w] else _) = [w]
      rw [if_pos (by rw [idx_none hw]; rfl)]
  | w :: v :: r, 0, _, _, hl => by simp at hl
  | w :: v :: r, k + 1, _, h, hl => by
    have hw := h w (by simp)
    have ih := split_join (v :: r) k (by simp) (fun x hx => h x (List.mem_cons_of_mem _ hx)) (by simpa using hl)
    have e : Lib.index (w ++ 32 :: join (v :: r)) [32] = (w.length : Int) := idx_at hw
    show (if (Lib.index (w ++ 32 :: join (v :: r)) [32] == -1) = true then _ else List.take ((Lib.index (w ++ 32 :: join (v :: r)) [32]).toNat + 0) (w ++ 32 :: join (v :: r)) :: Lib.splitK [32] 0 k (List.drop ((Lib.index (w ++ 32 :: join (v :: r)) [32]).toNat + 1) (w ++ 32 :: join (v :: r)))) = _
    rw [if_neg (by rw [e]; simp), e]
    have e2 : List.drop (w.length + 1) (w ++ 32 :: join (v :: r)) = join (v :: r) := by
      rw [← List.drop_drop, List.drop_left]
      rfl
    simp only [Int.toNat_natCast, Nat.add_zero, List.take_left]
    rw [e2, ih]
theorem dec_sign (u : Nat) : ∀ x ∈ Lib.decDigits u, 48 ≤ x.toNat := by
  induction u using Nat.strongRecOn with
  | ind u ih =>
    intro x hx
    by_cases h10 : u < 10
    · rw [Lib.decDigits_one h10] at hx
      have : x = UInt8.ofNat (48 + u) := by simpa using hx
      rw [this, UInt8.toNat_ofNat']
      omega
    · rw [Lib.decDigits, dif_neg h10] at hx
      rcases List.mem_append.1 hx with h1 | h1
      · exact ih (u / 10) (by omega) x h1
      · have : x = UInt8.ofNat (48 + u % 10) := by simpa using h1
        rw [this, UInt8.toNat_ofNat']
        omega
theorem num_blank (n : Int) : (32 : UInt8) ∉ numT n := by
  intro h
  unfold numT at h
  split at h
  · simp at h
  · unfold Lib.itoa at h
    split at h
    · rcases List.mem_cons.1 h with h1 | h1
      · exact absurd h1 (by decide)
      · exact absurd (dec_sign _ _ h1) (by decide)
    · exact absurd (dec_sign _ _ h) (by decide)
theorem num_ne {n : Int} (h0 : -1125899906842624 ≤ n) (h1 : n ≤ 1125899906842624) : numT n ≠ [] := by
  rw [numT_in h0 h1]
  unfold Lib.itoa
  split
  · simp
  · exact dec_ne _
open Classical in
/-- The number that a text says, 0 where it says none. -/
noncomputable def txN (l : List UInt8) : Int := if h : ∃ n, l ≠ [] ∧ numT n = l then Classical.choose h else 0
theorem res_tx {l : List UInt8} {v : Int} {b : Bool} (h : Res l v b) : v = txN l := by
  unfold txN
  split
  · next hx =>
    have h2 := Classical.choose_spec hx
    exact (res_unique (res_yes h2.1 h2.2) h).1
  · next hx =>
    rcases h with ⟨_, hl, hv⟩ | ⟨_, hv, _⟩
    · exact absurd ⟨v, hl, hv⟩ hx
    · exact hv
theorem tx_num {n : Int} (h0 : -1125899906842624 ≤ n) (h1 : n ≤ 1125899906842624) : txN (numT n) = n := (res_tx (res_yes (num_ne h0 h1) rfl)).symm
theorem tx_nil : txN [] = 0 := (res_tx res_nil).symm
/-- The words of an event. -/
def evW (k y c t m f : Int) (b : Bool) : List (List UInt8) :=
  if k = 1 then [[100, 101, 112, 111, 115, 105, 116], numT m]
  else if k = 2 then [[111, 112, 101, 110], numT c, numT m, numT f]
  else if k = 3 then [[99, 108, 111, 115, 101], numT c, numT f]
  else if k = 4 then [[112, 114, 105, 99, 101], numT c, numT m, numT f]
  else if k = 5 then [[97, 100, 109, 105, 116], numT y, numT c, numT t, numT m, if b = true then [121, 101, 115] else [110, 111]]
  else if k = 6 then [[102, 117, 108, 102, 105, 108, 108], numT y]
  else if k = 7 then [[102, 97, 105, 108], numT y]
  else if k = 8 then [[116, 105, 99, 107]]
  else if k = 9 then [[108, 97, 117, 110, 99, 104], numT y, numT c, numT t, numT m, numT f]
  else if k = 10 then [[97, 114, 114, 105, 118, 101], numT y]
  else if k = 11 then [[108, 111, 115, 116], numT y]
  else [[]]
def evT (k y c t m f : Int) (b : Bool) : List UInt8 := join (evW k y c t m f b)
theorem evT_1 (y c t m f : Int) (b : Bool) : evT 1 y c t m f b = sen [100, 101, 112, 111, 115, 105, 116] [m] := by
  rw [sen_join]
  rfl
theorem evT_2 (y c t m f : Int) (b : Bool) : evT 2 y c t m f b = sen [111, 112, 101, 110] [c, m, f] := by
  rw [sen_join]
  rfl
theorem evT_3 (y c t m f : Int) (b : Bool) : evT 3 y c t m f b = sen [99, 108, 111, 115, 101] [c, f] := by
  rw [sen_join]
  rfl
theorem evT_4 (y c t m f : Int) (b : Bool) : evT 4 y c t m f b = sen [112, 114, 105, 99, 101] [c, m, f] := by
  rw [sen_join]
  rfl
theorem evT_5 (y c t m f : Int) (b : Bool) : evT 5 y c t m f b = sen [97, 100, 109, 105, 116] [y, c, t, m] ++ (if b = true then [32, 121, 101, 115] else [32, 110, 111]) := by
  rw [sen_join]
  have h := join_snoc (if b = true then [121, 101, 115] else [110, 111]) [97, 100, 109, 105, 116] [numT y, numT c, numT t, numT m]
  show join _ = _
  simp only [evW, if_false, if_true, Int.reduceEq, List.map_cons, List.map_nil]
  rw [show [[97, 100, 109, 105, 116], numT y, numT c, numT t, numT m, if b = true then [121, 101, 115] else [110, 111]] = [97, 100, 109, 105, 116] :: [numT y, numT c, numT t, numT m] ++ [if b = true then [121, 101, 115] else [110, 111]] from rfl, h]
  cases b <;> rfl
theorem evT_6 (y c t m f : Int) (b : Bool) : evT 6 y c t m f b = sen [102, 117, 108, 102, 105, 108, 108] [y] := by
  rw [sen_join]
  rfl
theorem evT_7 (y c t m f : Int) (b : Bool) : evT 7 y c t m f b = sen [102, 97, 105, 108] [y] := by
  rw [sen_join]
  rfl
theorem evT_8 (y c t m f : Int) (b : Bool) : evT 8 y c t m f b = sen [116, 105, 99, 107] [] := by
  rw [sen_join]
  rfl
theorem evT_9 (y c t m f : Int) (b : Bool) : evT 9 y c t m f b = sen [108, 97, 117, 110, 99, 104] [y, c, t, m, f] := by
  rw [sen_join]
  rfl
theorem evT_10 (y c t m f : Int) (b : Bool) : evT 10 y c t m f b = sen [97, 114, 114, 105, 118, 101] [y] := by
  rw [sen_join]
  rfl
theorem evT_11 (y c t m f : Int) (b : Bool) : evT 11 y c t m f b = sen [108, 111, 115, 116] [y] := by
  rw [sen_join]
  rfl
/-- What words say. -/
noncomputable def said (ws : List (List UInt8)) : Ev :=
  if ws.headD [] = [100, 101, 112, 111, 115, 105, 116] then ⟨1, 0, 0, 0, (txN (ws.getD 1 [])), 0, false⟩
  else if ws.headD [] = [111, 112, 101, 110] then ⟨2, 0, (txN (ws.getD 1 [])), 0, (txN (ws.getD 2 [])), (txN (ws.getD 3 [])), false⟩
  else if ws.headD [] = [99, 108, 111, 115, 101] then ⟨3, 0, (txN (ws.getD 1 [])), 0, 0, (txN (ws.getD 2 [])), false⟩
  else if ws.headD [] = [112, 114, 105, 99, 101] then ⟨4, 0, (txN (ws.getD 1 [])), 0, (txN (ws.getD 2 [])), (txN (ws.getD 3 [])), false⟩
  else if ws.headD [] = [97, 100, 109, 105, 116] then ⟨5, (txN (ws.getD 1 [])), (txN (ws.getD 2 [])), (txN (ws.getD 3 [])), (txN (ws.getD 4 [])), 0, (ws.getLastD [] == [121, 101, 115])⟩
  else if ws.headD [] = [102, 117, 108, 102, 105, 108, 108] then ⟨6, (txN (ws.getD 1 [])), 0, 0, 0, 0, false⟩
  else if ws.headD [] = [102, 97, 105, 108] then ⟨7, (txN (ws.getD 1 [])), 0, 0, 0, 0, false⟩
  else if ws.headD [] = [116, 105, 99, 107] then ⟨8, 0, 0, 0, 0, 0, false⟩
  else if ws.headD [] = [108, 97, 117, 110, 99, 104] then ⟨9, (txN (ws.getD 1 [])), (txN (ws.getD 2 [])), (txN (ws.getD 3 [])), (txN (ws.getD 4 [])), (txN (ws.getD 5 [])), false⟩
  else if ws.headD [] = [97, 114, 114, 105, 118, 101] then ⟨10, (txN (ws.getD 1 [])), 0, 0, 0, 0, false⟩
  else if ws.headD [] = [108, 111, 115, 116] then ⟨11, (txN (ws.getD 1 [])), 0, 0, 0, 0, false⟩
  else ⟨0, 0, 0, 0, 0, 0, false⟩
/-- The bounds of a right event. -/
theorem ev_bounds {k y c t m f : Int} {b : Bool} (h : evB k y c t m f b = true) : (1 ≤ k ∧ k ≤ 11) ∧ (0 ≤ y ∧ y ≤ 1000000) ∧ (0 ≤ c ∧ c ≤ 99) ∧ (0 ≤ t ∧ t ≤ 99) ∧ (0 ≤ m ∧ m ≤ 1125899906842624) ∧ (0 ≤ f ∧ f ≤ 1125899906842624) := by
  unfold evB at h
  repeat' (split at h)
  all_goals first
    | (simp only [Bool.and_eq_true, fieldB, if_true, decide_eq_true_eq, Bool.false_eq_true, if_false] at h; omega)
    | exact Bool.noConfusion h
/-- The words of a right event say it again. -/
theorem said_again {k y c t m f : Int} {b : Bool} (h : evB k y c t m f b = true) : said (evW k y c t m f b) = ⟨k, y, c, t, m, f, b⟩ := by
  obtain ⟨⟨k1, k2⟩, ⟨y1, y2⟩, ⟨c1, c2⟩, ⟨t1, t2⟩, ⟨m1, m2⟩, ⟨f1, f2⟩⟩ := ev_bounds h
  have ty := tx_num (n := y) (by omega) (by omega)
  have tc := tx_num (n := c) (by omega) (by omega)
  have tt := tx_num (n := t) (by omega) (by omega)
  have tm := tx_num (n := m) (by omega) (by omega)
  have tf := tx_num (n := f) (by omega) (by omega)
  have hk : k = 1 ∨ k = 2 ∨ k = 3 ∨ k = 4 ∨ k = 5 ∨ k = 6 ∨ k = 7 ∨ k = 8 ∨ k = 9 ∨ k = 10 ∨ k = 11 := by omega
  rcases hk with rfl | rfl | rfl | rfl | rfl | rfl | rfl | rfl | rfl | rfl | rfl
  all_goals
    simp only [evB, fieldB, Bool.and_eq_true, decide_eq_true_eq, Bool.false_eq_true, if_true, if_false, Int.reduceEq, Bool.not_eq_true', or_false, or_true, false_or, true_or, or_self] at h
    simp [said, evW, ty, tc, tt, tm, tf]
    try omega
    try (cases b <;> simp_all)
theorem words_blank (k y c t m f : Int) (b : Bool) : ∀ w ∈ evW k y c t m f b, (32 : UInt8) ∉ w := by
  have hn := num_blank
  intro w hw
  unfold evW at hw
  repeat' (split at hw)
  all_goals
    simp only [List.mem_cons, List.not_mem_nil, or_false] at hw
    rcases hw with rfl | hw
    · decide
    repeat (first | (rcases hw with rfl | hw; · first | exact hn _ | decide) | (subst hw; first | exact hn _ | decide))
theorem words_len (k y c t m f : Int) (b : Bool) : (evW k y c t m f b).length ≤ 6 ∧ evW k y c t m f b ≠ [] := by
  unfold evW
  repeat' split
  all_goals simp
/-- A right event's text is split into its words. -/
theorem ev_split (k y c t m f : Int) (b : Bool) (j : Nat) (hj : 5 ≤ j) : Lib.splitK [32] 0 j (evT k y c t m f b) = evW k y c t m f b := by
  obtain ⟨h1, h2⟩ := words_len k y c t m f b
  exact split_join _ _ h2 (words_blank k y c t m f b) (by omega)
/-- Right events of the same text are the same. -/
theorem ev_inj {k y c t m f k' y' c' t' m' f' : Int} {b b' : Bool} (h : evB k y c t m f b = true) (h' : evB k' y' c' t' m' f' b' = true) (e : evT k y c t m f b = evT k' y' c' t' m' f' b') : k = k' ∧ y = y' ∧ c = c' ∧ t = t' ∧ m = m' ∧ f = f' ∧ b = b' := by
  have e1 := ev_split k y c t m f b 5 (by omega)
  have e2 := ev_split k' y' c' t' m' f' b' 5 (by omega)
  rw [e, e2] at e1
  have e3 := said_again h
  rw [← e1, said_again h'] at e3
  injection e3 with a1 a2 a3 a4 a5 a6 a7
  exact ⟨a1.symm, a2.symm, a3.symm, a4.symm, a5.symm, a6.symm, a7.symm⟩
end Go.Proofs.YtpkkdkdecajekaaGreatDoor
namespace Go.Proofs.YtpkkdkdecajekaaGreatDoor
open Go.RowKit Go.Deep
set_option linter.unusedVariables false
theorem born_alloc (w : World) (c : Array Value) (t : TypeId) : Born w (w.alloc (.cells c t)) [(some ⟨w.heap.size, 0, none⟩, c.toList)] := by
  have hB : (w.alloc (.cells c t)).heap[w.heap.size]? = some (.cells c t (0, 0)) := blk_alloc_new w _
  revert hB
  generalize w.alloc (.cells c t) = W
  intro hB
  refine ⟨⟨?_, ?_, ?_⟩, ?_⟩
  · intro s hs
    rw [List.mem_singleton.1 hs]
    refine Or.inr ⟨_, 0, rfl, fun j hj => ?_⟩
    have hj' : j < c.size := by simpa using hj
    simp [World.cell?, hB, hj']
  · by_cases h0 : c.toList = [] <;> simp [fp, fpS, h0]
  · intro b hb
    by_cases h0 : c.toList = []
    · simp [fp, fpS, h0] at hb
    · simp [fp, fpS, h0] at hb
      subst hb
      intro o
      simp [World.frozen?, hB]
  · intro b hb
    by_cases h0 : c.toList = []
    · simp [fp, fpS, h0] at hb
    · simp [fp, fpS, h0] at hb
      omega
theorem cell_at {w : World} {b : Nat} {xs : List Value} (h : Mem w [(some ⟨b, 0, none⟩, xs)]) (j : Nat) (hj : j < xs.length) : w.cell? ⟨b, 0 + j, none⟩ = some xs[j] := by
  have h' := h (some ⟨b, 0, none⟩, xs) (by simp)
  rcases h' with h' | ⟨g, off, e, h'⟩
  · have : xs = [] := h'
    subst this
    simp at hj
  · have e' := Option.some.inj e
    injection e' with e1 e2
    subst e1 e2
    exact h' j hj
end Go.Proofs.YtpkkdkdecajekaaGreatDoor
