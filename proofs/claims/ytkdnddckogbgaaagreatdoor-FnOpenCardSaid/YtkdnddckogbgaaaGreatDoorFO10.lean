/- Texts of the verifier, joined: SBS, Ev, EB, GI, GT, GS, GN2, GM, GG, GW, BEM. -/
import Derived.Test.YtkdnddckogbgaaaGreatDoorFO9
import Derived.Test.YtkdnddckogbgaaaGreatDoorFO1
import Derived.Deep.RegionWith
import Derived.WalkLawsBesides
import Derived.Deep.RegionHeld3
import Derived.Deep.DrawnRows
import Derived.Tactics2
import Derived.Defers
import Derived.Recover
import Derived.Laws.Pointers
namespace Go.Proofs.YtkdnddckogbgaaaGreatDoor
open Go.RowKit Go.Deep
set_option linter.unusedVariables false
set_option maxRecDepth 10000
theorem put_yes (a : Option Addr) (cap : Nat) (L : List UInt8) (n s : Nat) (w : World) (hc : Cells w a (bys L)) (hn : a = none → cap = 0) (hl : L.length ≤ 2097152) (h1 : 1 ≤ s) (h2 : s ≤ 7) (hb : n < 256 ^ s) :
    Calls Tryz.prog 75 #[.slice a L.length cap, .int .i64 (n : Int), .int .i64 (s : Int)] w fun x w' => ∃ v, x = .returned (.tuple #[v, .bool true]) ∧ OwnsB w' w.heap.size v (L ++ digs n s) ∧ Keeps w w' := by
  have hp : putB n s = true := putB_yes h1 h2 (by omega) (by omega)
  have h7 := pow_le7 h2
  refine (putnum_spec a cap L n s w hc hn hl (by omega)).mono ?_
  rintro x w' ⟨v, rfl, ho, hk⟩
  refine ⟨v, by rw [hp], ?_, hk⟩
  unfold putL at ho
  rw [if_pos hp] at ho
  exact ho
set_option maxHeartbeats 2000000 in
theorem secbytes_spec (q e : Int) (a : Option Addr) (cap : Nat) (L : List UInt8) (w : World) (hc : Cells w a (bys L)) (hn : a = none → cap = 0) (hl : L.length ≤ 9223372036854775807) :
    Calls Tryz.prog 39 #[secV q e a L.length cap] w (SecPost w q e L) := by
  have HOK := hide (fun w1 => secok_spec q e a L.length cap w1 hl)
  have HKA := hide (Keeps.alloc (Keeps.refl w) (.cells #[.int .i64 q, .int .i64 e, .slice a L.length cap] 72))
  have HD : Hid (∀ w', Keeps (w.alloc (.cells #[.int .i64 q, .int .i64 e, .slice a L.length cap] 72)) w' → w'.cell? ⟨w.heap.size, 0, none⟩ = some (.int .i64 q) ∧ w'.cell? ⟨w.heap.size, 1, none⟩ = some (.int .i64 e) ∧ w'.cell? ⟨w.heap.size, 2, none⟩ = some (.slice a L.length cap)) :=
    fun w' hk => ⟨hk.cell (by simp), hk.cell (by simp), hk.cell (by simp)⟩
  have HC := hide (hc.kept HKA.out)
  have HH := hide hn
  clear hc hn
  cases hb : secB q e L.length
  · rw [hb] at HOK
    have HB := hide hb
    clear hb
    go_enter Tryz.func39, Tryz.ntmps39
    go_wp2_with (go_at_call 76; refine (unhide HOK _).mono ?_; rintro x w1 ⟨rfl, hk1⟩)
    go_ret2
    exact SecPost.no HB.out (HKA.out.trans hk1)
  · rw [hb] at HOK
    obtain ⟨hq0, hq1, he0, he1, hL⟩ := secB_true hb
    obtain ⟨q, rfl⟩ : ∃ n : Nat, q = n := ⟨q.toNat, by omega⟩
    obtain ⟨e, rfl⟩ : ∃ n : Nat, e = n := ⟨e.toNat, by omega⟩
    have HB := hide hb
    have HQ : Hid (q < 256 ^ 3) := by show q < 16777216; omega
    have HE : Hid (e < 256 ^ 3) := by show e < 16777216; omega
    have HN : Hid (L.length < 256 ^ 1) := by show L.length < 256; omega
    have HL := hide hL
    clear hb hl hq0 hq1 he0 he1
    go_enter Tryz.func39, Tryz.ntmps39
    go_wp2_with fail
    refine (unhide HOK _).mono ?_
    rintro x w1 ⟨rfl, hk1⟩
    have HK1 := hide hk1
    replace HC := hide (HC.out.kept hk1)
    obtain ⟨d0', d1', d2'⟩ := HD.out _ hk1
    clear hk1
    have HCJ : Hid (Cells (w1.alloc (.cells #[.int .u8 74] 5)) (some ⟨w1.heap.size, 0, none⟩) (bys [74])) := cells_one w1 74
    have HK2 := hide (Keeps.alloc (Keeps.refl w1) (.cells #[.int .u8 74] 5))
    have hz : w.heap.size < w1.heap.size := by have := HK1.out.size; simp at this; omega
    go_wp2_with fail
    generalize w1.alloc (.cells #[.int .u8 74] 5) = w2 at *
    refine (put_yes (some ⟨w1.heap.size, 0, none⟩) 1 ([74]) q 3 w2 HCJ.out (fun e => nomatch e) (by have := HL.out; simp; try omega) (by decide) (by decide) HQ.out).mono ?_
    rintro x w3 ⟨v3, rfl, ho, hk⟩
    have HK3 := hide (HK2.out.trans hk)
    have HO3 : Hid (OwnsB w3 w1.heap.size v3 ([74] ++ digs q 3)) := OwnsB.older ho HK2.out.size
    clear d0' d1' d2' ho hk HK2
    obtain ⟨d0', d1', d2'⟩ := HD.out _ (HK1.out.trans HK3.out)
    obtain ⟨a3, c3, rfl, _, _, hn3, ho3, _⟩ := Own.of_owns HO3.out
    have HH3 := hide hn3
    have HC3 : Hid (Cells w3 a3 (bys ([74] ++ digs q 3))) := ho3.one
    clear hn3 ho3
    go_wp2_with fail
    refine (put_yes a3 c3 ([74] ++ digs q 3) e 3 w3 HC3.out HH3.out (by have := HL.out; simp [digs_length]; try omega) (by decide) (by decide) HE.out).mono ?_
    rintro x w4 ⟨v4, rfl, ho, hk⟩
    have HK4 := hide (HK3.out.trans hk)
    have HO4 : Hid (OwnsB w4 w1.heap.size v4 ([74] ++ digs q 3 ++ digs e 3)) := OwnsB.older ho HK3.out.size
    clear d0' d1' d2' ho hk HK3
    obtain ⟨d0', d1', d2'⟩ := HD.out _ (HK1.out.trans HK4.out)
    obtain ⟨a4, c4, rfl, _, _, hn4, ho4, _⟩ := Own.of_owns HO4.out
    have HH4 := hide hn4
    have HC4 : Hid (Cells w4 a4 (bys ([74] ++ digs q 3 ++ digs e 3))) := ho4.one
    clear hn4 ho4
    go_wp2_with fail
    refine (put_yes a4 c4 ([74] ++ digs q 3 ++ digs e 3) L.length 1 w4 HC4.out HH4.out (by have := HL.out; simp [digs_length]; try omega) (by decide) (by decide) HN.out).mono ?_
    rintro x w5 ⟨v5, rfl, ho, hk⟩
    have HK5 := hide (HK4.out.trans hk)
    have HO5 : Hid (OwnsB w5 w1.heap.size v5 ([74] ++ digs q 3 ++ digs e 3 ++ digs L.length 1)) := OwnsB.older ho HK4.out.size
    clear d0' d1' d2' ho hk HK4
    obtain ⟨d0', d1', d2'⟩ := HD.out _ (HK1.out.trans HK5.out)
    obtain ⟨a5, c5, rfl, _, _, hn5, ho5, _⟩ := Own.of_owns HO5.out
    have HH5 := hide hn5
    have HC5 : Hid (Cells w5 a5 (bys ([74] ++ digs q 3 ++ digs e 3 ++ digs L.length 1))) := ho5.one
    clear hn5 ho5
    have HX : Hid (([74] ++ digs q 3 ++ digs e 3 ++ digs L.length 1).length + L.length ≤ 4194304) := by have := HL.out; show _ ≤ _; simp [digs_length]; omega
    have HM : Hid (([74] ++ digs q 3 ++ digs e 3 ++ digs L.length 1 ++ L).length = 8 + L.length) := by show _ = _; simp [digs_length]; omega
    generalize hM : [74] ++ digs q 3 ++ digs e 3 ++ digs L.length 1 ++ L = M at HM
    have hm1 : M.length ≤ 108 := by have := HM.out; omega
    have hm2 : 8 ≤ M.length := by have := HM.out; omega
    have HMM := hide hM
    clear hM
    have HZ : Hid ((M ++ List.replicate (122 - M.length) 0).length ≤ 122) := by show _ ≤ _; simp; omega
    generalize hZ : M ++ List.replicate (122 - M.length) 0 = Z at HZ
    have HZZ := hide hZ
    clear hZ
    go_wp2_with (first
      | (at_builtin; refine app_bys rfl (.tmp 31) (.tmp 33) rfl w1.heap.size _ ([74] ++ digs q 3 ++ digs e 3 ++ digs L.length 1) L rfl a cap rfl (HC.out.kept HK5.out) HH.out HO5.out HX.out HK5.out.size ?_; intro v6 w6 ho hg; rw [HMM.out] at ho; have HK6 := hide (Keeps.grown HK5.out hg (fun k hk => (HO5.out.lt k hk).1)); have HO6 := hide ho; obtain ⟨a6, c6, rfl, _⟩ := Own.of_owns ho; clear d0' d1' d2' ho hg HO5 HK5; obtain ⟨d0', d1', d2'⟩ := HD.out _ (HK1.out.trans HK6.out))
      | (at_builtin; refine app_zeros rfl (.tmp 35) (.tmp 38) rfl w1.heap.size _ M (122 - M.length) rfl _ rfl (by omega) (by omega) (by omega) HO6.out (by omega) HK6.out.size ?_; intro v7 w7 ho hg; rw [HZZ.out] at ho; have HK7 := hide (Keeps.grown HK6.out hg (fun k hk => (HO6.out.lt k hk).1)); have HO7 := hide ho; clear d0' d1' d2' ho hg HO6 HK6; obtain ⟨d0', d1', d2'⟩ := HD.out _ (HK1.out.trans HK7.out); obtain ⟨a7, c7, rfl, _, _, hn7, ho7, _⟩ := Own.of_owns HO7.out))
    refine (put_yes a7 c7 (Z) q 3 w7 ho7.one hn7 (by have := HL.out; have := HZ.out; simp; try omega) (by decide) (by decide) HQ.out).mono ?_
    rintro x w8 ⟨v8, rfl, ho, hk⟩
    have HK8 := hide (HK7.out.trans hk)
    have HO8 : Hid (OwnsB w8 w1.heap.size v8 (Z ++ digs q 3)) := OwnsB.older ho HK7.out.size
    clear d0' d1' d2' ho hk HK7
    obtain ⟨d0', d1', d2'⟩ := HD.out _ (HK1.out.trans HK8.out)
    obtain ⟨a8, c8, rfl, _, _, hn8, ho8, _⟩ := Own.of_owns HO8.out
    have HH8 := hide hn8
    have HC8 : Hid (Cells w8 a8 (bys (Z ++ digs q 3))) := ho8.one
    clear hn8 ho8
    have HY : Hid ((Z ++ digs q 3).length ≤ 125) := by have := HZ.out; show _ ≤ _; simp [digs_length]; omega
    generalize hY : Z ++ digs q 3 = Y at *
    have HYY := hide hY
    clear hY
    go_wp2_with fail
    refine (put_yes a8 c8 (Y) e 3 w8 HC8.out HH8.out (by have := HL.out; have := HY.out; simp; try omega) (by decide) (by decide) HE.out).mono ?_
    rintro x w9 ⟨v9, rfl, ho, hk⟩
    have HK9 := hide (HK8.out.trans hk)
    have HO9 : Hid (OwnsB w9 w1.heap.size v9 (Y ++ digs e 3)) := OwnsB.older ho HK8.out.size
    clear d0' d1' d2' ho hk HK8
    obtain ⟨d0', d1', d2'⟩ := HD.out _ (HK1.out.trans HK9.out)
    go_wp2_with fail
    go_ret2
    refine SecPost.yes HB.out ?_ (HKA.out.trans (HK1.out.trans HK9.out))
    have h := HO9.out
    rw [← HYY.out, ← HZZ.out, HM.out, show 122 - (8 + L.length) = 114 - L.length by omega, ← HMM.out] at h
    exact OwnsB.older h (HKA.out.trans HK1.out).size
end Go.Proofs.YtkdnddckogbgaaaGreatDoor
namespace Go.Proofs.YtkdnddckogbgaaaGreatDoor
open Go.RowKit
set_option linter.unusedVariables false

/-- An event: kind, key, channel, the other channel, amount, fee, yes. -/
structure Ev where
  k : Int
  y : Int
  c : Int
  t : Int
  m : Int
  f : Int
  b : Bool
abbrev evV (k y c t m f : Int) (b : Bool) : Value := .agg #[.int .i64 k, .int .i64 y, .int .i64 c, .int .i64 t, .int .i64 m, .int .i64 f, .bool b]
abbrev evCells (k y c t m f : Int) (b : Bool) : Array Value := #[.int .i64 k, .int .i64 y, .int .i64 c, .int .i64 t, .int .i64 m, .int .i64 f, .bool b]

def fieldB (h : Bool) (n lo hi : Int) : Bool := if h then decide (lo ≤ n) && decide (n ≤ hi) else decide (n = 0)
/-- Is the event right, kind by kind? -/
def evB (k y c t m f : Int) (b : Bool) : Bool :=
  if k = 1 then fieldB false y 1 1000000 && fieldB false c 1 99 && fieldB false t 1 99 && fieldB true m 1 1125899906842624 && fieldB false f 0 1125899906842624 && !b
  else if k = 2 then fieldB false y 1 1000000 && fieldB true c 1 99 && fieldB false t 1 99 && fieldB true m 1 1125899906842624 && fieldB true f 0 1125899906842624 && !b
  else if k = 3 then fieldB false y 1 1000000 && fieldB true c 1 99 && fieldB false t 1 99 && fieldB false m 1 1125899906842624 && fieldB true f 0 1125899906842624 && !b
  else if k = 4 then fieldB false y 1 1000000 && fieldB true c 1 99 && fieldB false t 1 99 && fieldB true m 0 1125899906842624 && fieldB true f 0 1000000 && !b
  else if k = 5 then fieldB true y 1 1000000 && fieldB true c 1 99 && fieldB true t 1 99 && !decide (c = t) && fieldB true m 1 1125899906842624 && fieldB false f 0 1125899906842624
  else if k = 8 then fieldB false y 1 1000000 && fieldB false c 1 99 && fieldB false t 1 99 && fieldB false m 1 1125899906842624 && fieldB false f 0 1125899906842624 && !b
  else if k = 9 then fieldB true y 1 1000000 && fieldB true c 1 99 && fieldB true t 1 99 && !decide (c = t) && fieldB true m 1 1125899906842624 && fieldB true f 0 1125899906842624 && !b
  else if k = 6 ∨ k = 7 ∨ k = 10 ∨ k = 11 then fieldB true y 1 1000000 && fieldB false c 1 99 && fieldB false t 1 99 && fieldB false m 1 1125899906842624 && fieldB false f 0 1125899906842624 && !b
  else false
end Go.Proofs.YtkdnddckogbgaaaGreatDoor
namespace Go.Proofs.YtkdnddckogbgaaaGreatDoor
open Go.RowKit Go.Deep
set_option linter.unusedVariables false
set_option maxRecDepth 10000
set_option linter.unusedSimpArgs false

def yesL (b : Bool) : List UInt8 := if b then [1] else [0]
/-- The bytes of an event. -/
def bodyL (k y c t m f : Nat) (b : Bool) : List UInt8 := [69] ++ digs k 1 ++ digs y 3 ++ digs c 1 ++ digs t 1 ++ digs m 7 ++ digs f 7 ++ yesL b
def bodyR (k y c t m f : Int) (b : Bool) : List UInt8 := if evB k y c t m f b = true then bodyL k.toNat y.toNat c.toNat t.toNat m.toNat f.toNat b else []
theorem bodyL_length (k y c t m f : Nat) (b : Bool) : (bodyL k y c t m f b).length = 22 := by
  cases b <;> simp [bodyL, digs_length, yesL]
theorem bodyR_length (k y c t m f : Int) (b : Bool) : (bodyR k y c t m f b).length ≤ 22 := by
  unfold bodyR
  split
  · rw [bodyL_length]; exact Nat.le_refl _
  · simp
theorem evB_bounds {k y c t m f : Int} {b : Bool} (h : evB k y c t m f b = true) : (1 ≤ k ∧ k ≤ 11) ∧ (0 ≤ y ∧ y ≤ 1000000) ∧ (0 ≤ c ∧ c ≤ 99) ∧ (0 ≤ t ∧ t ≤ 99) ∧ (0 ≤ m ∧ m ≤ 1125899906842624) ∧ (0 ≤ f ∧ f ≤ 1125899906842624) := by
  unfold evB at h
  split at h
  · simp only [Bool.and_eq_true, fieldB, if_true, if_false, Bool.false_eq_true, decide_eq_true_eq] at h; omega
  · split at h
    · simp only [Bool.and_eq_true, fieldB, if_true, if_false, Bool.false_eq_true, decide_eq_true_eq] at h; omega
    · split at h
      · simp only [Bool.and_eq_true, fieldB, if_true, if_false, Bool.false_eq_true, decide_eq_true_eq] at h; omega
      · split at h
        · simp only [Bool.and_eq_true, fieldB, if_true, if_false, Bool.false_eq_true, decide_eq_true_eq] at h; omega
        · split at h
          · simp only [Bool.and_eq_true, fieldB, if_true, if_false, Bool.false_eq_true, decide_eq_true_eq] at h; omega
          · split at h
            · simp only [Bool.and_eq_true, fieldB, if_true, if_false, Bool.false_eq_true, decide_eq_true_eq] at h; omega
            · split at h
              · simp only [Bool.and_eq_true, fieldB, if_true, if_false, Bool.false_eq_true, decide_eq_true_eq] at h; omega
              · split at h
                · simp only [Bool.and_eq_true, fieldB, if_true, if_false, Bool.false_eq_true, decide_eq_true_eq] at h; omega
                · cases h
def BodyPost (w : World) (k y c t m f : Int) (b : Bool) (x : Ending) (w' : World) : Prop := ∃ v, x = .returned (.tuple #[v, .bool (evB k y c t m f b)]) ∧ OwnsB w' w.heap.size v (bodyR k y c t m f b) ∧ Keeps w w'
theorem BodyPost.no {w w' : World} {k y c t m f : Int} {b : Bool} (h : evB k y c t m f b = false) (hk : Keeps w w') : BodyPost w k y c t m f b (.returned (.tuple #[.slice none 0 0, .bool false])) w' :=
  ⟨_, by rw [h], by unfold bodyR; rw [h]; exact OwnsB.nil _ _, hk⟩
theorem BodyPost.yes {w w' : World} {k y c t m f : Nat} {b : Bool} {v : Value} (h : evB k y c t m f b = true) (ho : OwnsB w' w.heap.size v (bodyL k y c t m f b)) (hk : Keeps w w') : BodyPost w k y c t m f b (.returned (.tuple #[v, .bool true])) w' :=
  ⟨_, by rw [h], by unfold bodyR; rw [if_pos h]; exact ho, hk⟩
theorem OwnsB.allocE {w : World} {base : Nat} {v : Value} {L : List UInt8} (h : OwnsB w base v L) (o : Obj) : OwnsB (w.alloc o) base v L := World.ownsRow.alloc h o
theorem digs_one (n : Nat) : digs n 1 = [UInt8.ofNat n] := by simp [digs, digsTo]
theorem put_good (a : Option Addr) (cap : Nat) (L : List UInt8) (n s : Nat) (w : World) (hc : Cells w a (bys L)) (hn : a = none → cap = 0) (hl : L.length ≤ 2097152) (h1 : 1 ≤ s) (h2 : s ≤ 7) (hb : n < 256 ^ s) :
    Calls Tryz.prog 75 #[.slice a L.length cap, .int .i64 (n : Int), .int .i64 (s : Int)] w fun x w' => ∃ v, x = .returned (.tuple #[v, .bool true]) ∧ OwnsB w' w.heap.size v (L ++ digs n s) ∧ Keeps w w' := by
  have hp : putB n s = true := putB_yes h1 h2 (by omega) (by omega)
  have h7 := pow_le7 h2
  refine (putnum_spec a cap L n s w hc hn hl (by omega)).mono ?_
  rintro x w' ⟨v, rfl, ho, hk⟩
  refine ⟨v, by rw [hp], ?_, hk⟩
  unfold putL at ho
  rw [if_pos hp] at ho
  exact ho
theorem cells_two (w : World) (x y : UInt8) : Cells (w.alloc (.cells #[byV x, byV y] 5)) (some ⟨w.heap.size, 0, none⟩) (bys [x, y]) := by
  refine Or.inr ⟨_, 0, rfl, fun j hj => ?_⟩
  have hj2 : j < 2 := by simpa [bys] using hj
  match j, hj2 with
  | 0, _ => simp [bys]
  | 1, _ => simp [bys]
theorem nat_byte {n : Nat} (h : n < 256) : byV (UInt8.ofNat n) = .int .u8 (n : Int) := by rw [byV_ofNat]; congr 1; omega
end Go.Proofs.YtkdnddckogbgaaaGreatDoor
namespace Go.Proofs.YtkdnddckogbgaaaGreatDoor
open Go.RowKit Go.Deep
set_option linter.unusedVariables false
set_option maxRecDepth 10000

theorem insist_yes (w : World) : Calls Tryz.prog 108 #[.bool true] w fun e w' => e = .returned (.tuple #[]) ∧ w' = w := by
  go_enter Tryz.func108, Tryz.ntmps108
  go_wp2
  go_end0
  exact ⟨rfl, rfl⟩
theorem insist_no (w : World) (u : TypeId) (pv : Value) (hv : w.cell? ⟨0, 0, none⟩ = some (.iface u pv)) : Calls Tryz.prog 108 #[.bool false] w fun e w' => e = .panicked [{ v := .iface u pv, recovered := false }] ∧ w' = w := by
  go_enter Tryz.func108, Tryz.ntmps108
  go_wp2
  exact ⟨rfl, rfl, rfl⟩
/-- A reader: its bytes and its place. -/
structure Rd (w : World) (B : Nat) (a : Option Addr) (L : List UInt8) (cap : Nat) (p : Int) : Prop where
  data : w.cell? ⟨B, 0, none⟩ = some (.slice a L.length cap)
  place : w.cell? ⟨B, 1, none⟩ = some (.int .i64 p)
  free : w.frozen? ⟨B, 1, none⟩ = false
end Go.Proofs.YtkdnddckogbgaaaGreatDoor
namespace Go.Proofs.YtkdnddckogbgaaaGreatDoor
open Go.RowKit Go.Deep
set_option linter.unusedVariables false
set_option maxRecDepth 10000
attribute [local go_sem ↓] Go.wp_at_zero Go.wp_at_succ
set_option maxHeartbeats 8000000 in
theorem take_yes (B b off : Nat) (L : List UInt8) (cap p c : Nat) (w : World) (hr : Rd w B (some ⟨b, off, none⟩) L cap p) (hl : L.length ≤ 16777216) (hcap : L.length ≤ cap) (hcm : cap ≤ 9223372036854775807) (hc1 : c ≤ 1000) (h : p + c ≤ L.length) (hpc : p < cap) :
    Calls Tryz.prog 118 #[.pointer (some ⟨B, 0, none⟩), .int .i64 (c : Int)] w fun e w' => e = .returned (.slice (some ⟨b, off + p, none⟩) c (cap - p)) ∧ ∃ n, w' = (w.drewN n).setCell ⟨B, 1, none⟩ (.int .i64 ((p + c : Nat) : Int)) := by
  obtain ⟨d0, d1, d2⟩ := hr
  have hp0 : (0 : Int) ≤ (p : Int) := by omega
  have hwr : IntKind.i64.wrap ((L.length : Int) - (c : Int)) = (L.length : Int) - c := by rw [IntKind.wrap_i64]; omega
  have hdec : decide ((p : Int) ≤ (L.length : Int) - (c : Int)) = true := decide_eq_true (by omega)
  have hdp : decide ((0 : Int) ≤ (p : Int)) = true := decide_eq_true hp0
  have hadd : IntKind.i64.wrap ((p : Int) + (c : Int)) = (p : Int) + c := by rw [IntKind.wrap_i64]; omega
  have hs0 : (p : Int) ≤ (cap : Int) := by omega
  have hs3 : (p : Int) < (cap : Int) := by omega
  have hs1 : (p : Int) ≤ (p : Int) + (c : Int) := by omega
  have hs2 : (p : Int) + (c : Int) ≤ (cap : Int) := by omega
  go_enter Tryz.func118, Tryz.ntmps118
  go_wp2_with fail
  go_region_held3 (fun w' => w'.cell? ⟨B, 0, none⟩ = some (.slice (some ⟨b, off, none⟩) L.length cap) ∧ w'.cell? ⟨B, 1, none⟩ = some (.int .i64 (p : Int))) (go_keep) ((go_at_call 108; refine (insist_yes _).mono ?_; rintro e w' ⟨rfl, rfl⟩))
  go_wp2_with fail
  go_region_held3 (fun w' => w'.cell? ⟨B, 0, none⟩ = some (.slice (some ⟨b, off, none⟩) L.length cap) ∧ w'.cell? ⟨B, 1, none⟩ = some (.int .i64 (p : Int))) (go_keep) (fail)
  go_wp2_with fail
  go_ret
  have hcn : ((p : Int) + (c : Int)).toNat - p = c := by omega
  refine ⟨?_, 2, rfl⟩
  show Ending.returned (Value.slice (some ⟨b, off + p, none⟩) (((p : Int) + (c : Int)).toNat - p) (cap - p)) = _
  rw [hcn]

/-- The number in bytes, the highest first. -/
def numL (L : List UInt8) : Nat := L.foldl (fun n b => n * 256 + b.toNat) 0
theorem numL_snoc (L : List UInt8) (b : UInt8) : numL (L ++ [b]) = numL L * 256 + b.toNat := by simp [numL, List.foldl_append]
theorem fold_lt : ∀ (L : List UInt8) (n : Nat), L.foldl (fun n b => n * 256 + b.toNat) n < (n + 1) * 256 ^ L.length
  | [], n => by simp
  | b :: t, n => by
    have h := fold_lt t (n * 256 + b.toNat)
    have hb := b.toNat_lt
    rw [List.foldl_cons, List.length_cons, Nat.pow_succ]
    refine Nat.lt_of_lt_of_le h ?_
    rw [Nat.mul_comm (256 ^ t.length) 256, ← Nat.mul_assoc]
    exact Nat.mul_le_mul_right _ (by omega)
theorem numL_lt (L : List UInt8) : numL L < 256 ^ L.length := by have := fold_lt L 0; simpa [numL] using this
end Go.Proofs.YtkdnddckogbgaaaGreatDoor
namespace Go.Proofs.YtkdnddckogbgaaaGreatDoor
open Go.RowKit Go.Deep
set_option linter.unusedVariables false
set_option maxRecDepth 10000
set_option maxHeartbeats 4000000 in
theorem getspec_no (a : Option Addr) (L : List UInt8) (cap : Nat) (p s : Int) (w : World) (hl : L.length ≤ 16777216) (h : s < 1 ∨ 7 < s ∨ p < 0 ∨ (L.length : Int) - s < p) :
    Calls Tryz.prog 79 #[.slice a L.length cap, .int .i64 p, .int .i64 s] w fun e w' => e = .returned (.tuple #[.int .i64 0, .bool false]) ∧ w' = w := by
  by_cases h1 : s < 1
  · have d1 : decide (s < 1) = true := decide_eq_true h1
    clear h
    go_enter Tryz.func79, Tryz.ntmps79
    go_wp2_with fail
    go_ret2
    exact ⟨rfl, rfl⟩
  · have d1 : decide (s < 1) = false := decide_eq_false h1
    by_cases h2 : 7 < s
    · have d2 : decide (7 < s) = true := decide_eq_true h2
      clear h
      go_enter Tryz.func79, Tryz.ntmps79
      go_wp2_with fail
      go_ret2
      exact ⟨rfl, rfl⟩
    · have d2 : decide (7 < s) = false := decide_eq_false h2
      by_cases h3 : p < 0
      · have d3 : decide (p < 0) = true := decide_eq_true h3
        clear h
        go_enter Tryz.func79, Tryz.ntmps79
        go_wp2_with fail
        go_ret2
        exact ⟨rfl, rfl⟩
      · have d3 : decide (p < 0) = false := decide_eq_false h3
        have d4 : decide ((L.length : Int) - s < p) = true := decide_eq_true (by omega)
        have h4 : (L.length : Int) - s < p := by omega
        have hwr : IntKind.i64.wrap ((L.length : Int) - s) = (L.length : Int) - s := by rw [IntKind.wrap_i64]; omega
        clear h
        go_enter Tryz.func79, Tryz.ntmps79
        go_wp2_with fail
        go_ret2
        exact ⟨rfl, rfl⟩
set_option maxHeartbeats 4000000 in
theorem getspec_yes (b off : Nat) (L : List UInt8) (cap p s : Nat) (w : World) (hc : Cells w (some ⟨b, off, none⟩) (bys L)) (hl : L.length ≤ 16777216) (hs1 : 1 ≤ s) (hs2 : s ≤ 7) (h : p + s ≤ L.length) :
    Calls Tryz.prog 79 #[.slice (some ⟨b, off, none⟩) L.length cap, .int .i64 (p : Int), .int .i64 (s : Int)] w fun e w' => e = .returned (.tuple #[.int .i64 ((numL ((L.drop p).take s) : Nat) : Int), .bool true]) ∧ w' = w := by
  have d1 : decide ((s : Int) < 1) = false := decide_eq_false (by omega)
  have d2 : decide (7 < (s : Int)) = false := decide_eq_false (by omega)
  have d3 : decide ((p : Int) < 0) = false := decide_eq_false (by omega)
  have hwr : IntKind.i64.wrap ((L.length : Int) - (s : Int)) = (L.length : Int) - s := by rw [IntKind.wrap_i64]; omega
  have d4 : decide ((L.length : Int) - (s : Int) < (p : Int)) = false := decide_eq_false (by omega)
  have HC : Hid (∀ k, k < s → w.cell? ⟨b, off + p + k, none⟩ = some (.int .u8 ((L.getD (p + k) 0).toNat : Int))) := by
    intro k hk
    obtain ⟨b', off', e, hcell⟩ := bys_at hc (p + k) (by omega)
    have e' := Option.some.inj e
    injection e' with e1 e2
    subst e1 e2
    rw [← Nat.add_assoc] at hcell
    have : L.getD (p + k) 0 = L[p + k]'(by omega) := by rw [List.getD_eq_getElem?_getD, List.getElem?_eq_getElem (by omega)]; rfl
    rw [this]
    simpa using hcell
  clear hc
  go_enter Tryz.func79, Tryz.ntmps79
  go_wp2_with fail
  go_loop [8, 9] (fun x y => ∃ k : Nat, k ≤ s ∧ x = .int .i64 ((numL ((L.drop p).take k) : Nat) : Int) ∧ y = .int .i64 (k : Int)) (fun _ y => s - (intOf y).toNat)
  case atStart => exact ⟨0, by omega, by simp [numL], rfl⟩
  case round =>
    obtain ⟨k, hk, rfl, rfl⟩ := hrel
    by_cases hlt : k < s
    · have c0 := HC.out k hlt
      have hb0 := byte_nn (L.getD (p + k) 0)
      have hb1 := byte_lt (L.getD (p + k) 0)
      have HN : Hid (numL ((L.drop p).take (k + 1)) = numL ((L.drop p).take k) * 256 + (L.getD (p + k) 0).toNat) := by
        show _ = _
        have hd : k < (L.drop p).length := by rw [List.length_drop]; omega
        rw [List.take_succ_eq_append_getElem hd, numL_snoc]
        congr 2
        rw [List.getElem_drop, List.getD_eq_getElem?_getD, List.getElem?_eq_getElem (by omega)]; rfl
      have hlt2 : numL ((L.drop p).take k) < 281474976710656 := by
        refine Nat.lt_of_lt_of_le (numL_lt _) ?_
        refine Nat.le_trans (Nat.pow_le_pow_right (by decide) (show ((L.drop p).take k).length ≤ 6 by rw [List.length_take]; omega)) (by decide)
      generalize L.getD (p + k) 0 = x at *
      generalize numL ((L.drop p).take k) = m at *
      have hix : IntKind.i64.wrap ((p : Int) + (k : Int)) = (p : Int) + k := by rw [IntKind.wrap_i64]; omega
      have hi1 : (p : Int) + (k : Int) < (L.length : Int) := by omega
      have hi0 : (0 : Int) ≤ (p : Int) + (k : Int) := by omega
      have hm1 : IntKind.i64.wrap ((m : Int) * 256) = (m : Int) * 256 := by rw [IntKind.wrap_i64]; omega
      have hm2 : IntKind.i64.wrap ((m : Int) * 256 + (x.toNat : Int)) = (m : Int) * 256 + (x.toNat : Int) := by rw [IntKind.wrap_i64]; omega
      have hat : off + ((p : Int) + (k : Int)).toNat = off + p + k := by omega
      go_wp2_with fail
      go_round
      case rel => exact ⟨k + 1, by omega, by rw [HN.out]; go_num, by go_num⟩
      case measure => simp [intOf]; omega
    · have e : k = s := by omega
      subst e
      go_wp2_with fail
      go_ret2
      exact ⟨rfl, rfl⟩
end Go.Proofs.YtkdnddckogbgaaaGreatDoor
namespace Go.Proofs.YtkdnddckogbgaaaGreatDoor
open Go.RowKit Go.Deep
set_option linter.unusedVariables false
set_option maxRecDepth 10000
attribute [local go_sem ↓] Go.wp_at_zero Go.wp_at_succ
/-- Where the callee has panicked the region has ended: the way on is given to go_region_held under a false premise. -/
theorem dead {p : Prop} {K : Act → World → Prop} {S : World → Prop} {X : Act → World → Prop} (hK : Shut (∀ a w, S w → (S w → X a w) → K a w)) (a : Act) (w : World) (h : p) (_ : Shut False → K a w) : p := h
end Go.Proofs.YtkdnddckogbgaaaGreatDoor
namespace Go.Proofs.YtkdnddckogbgaaaGreatDoor
open Go.RowKit Go.Deep
set_option linter.unusedVariables false
set_option maxRecDepth 10000
theorem or_byte (n : Nat) (x : UInt8) (hn : n < 281474976710656) : bits .or .i64 ((n : Int) * 256) (x.toNat : Int) = ((n * 256 + x.toNat : Nat) : Int) := by
  have hx := x.toNat_lt
  have e : bits .or .i64 ((n : Int) * 256) (x.toNat : Int) = IntKind.i64.wrap ((BitVec.ofInt 64 ((n : Int) * 256) ||| BitVec.ofInt 64 (x.toNat : Int)).toNat : Int) := rfl
  have h1 : (BitVec.ofInt 64 ((n : Int) * 256)).toNat = n * 256 := by
    rw [show (n : Int) * 256 = ((n * 256 : Nat) : Int) by simp, BitVec.ofInt_natCast, BitVec.toNat_ofNat]; exact Nat.mod_eq_of_lt (by omega)
  have h2 : (BitVec.ofInt 64 (x.toNat : Int)).toNat = x.toNat := by
    rw [BitVec.ofInt_natCast, BitVec.toNat_ofNat]; exact Nat.mod_eq_of_lt (by omega)
  have h3 : n * 256 ||| x.toNat = n * 256 + x.toNat := by
    have := Nat.shiftLeft_add_eq_or_of_lt (i := 8) (b := x.toNat) (by simpa using hx) n
    rw [Nat.shiftLeft_eq] at this
    exact this.symm
  rw [e, BitVec.toNat_or, h1, h2, h3, IntKind.wrap_i64]
  omega
set_option maxHeartbeats 8000000 in
theorem number_yes (B b off : Nat) (L : List UInt8) (cap p s : Nat) (w : World) (hr : Rd w B (some ⟨b, off, none⟩) L cap p) (hB : b ≠ B) (hc : Cells w (some ⟨b, off, none⟩) (bys L)) (hl : L.length ≤ 16777216) (hcap : L.length ≤ cap) (hcm : cap ≤ 9223372036854775807) (hs1 : 1 ≤ s) (hs2 : s ≤ 7) (h : p + s ≤ L.length) :
    Calls Tryz.prog 109 #[.pointer (some ⟨B, 0, none⟩), .int .i64 (s : Int)] w fun e w' => e = .returned (.int .i64 (numL ((L.drop p).take s) : Nat)) ∧ ∃ n, w' = (w.drewN n).setCell ⟨B, 1, none⟩ (.int .i64 ((p + s : Nat) : Int)) := by
  have HS := hide (sizeok_k (s : Int) w)
  rw [show (decide (1 ≤ (s : Int)) && decide ((s : Int) ≤ 7)) = true by simp; omega] at HS
  have HT := hide (take_yes B b off L cap p s w hr hl hcap hcm (by omega) h (by omega))
  have HC : Hid (∀ k, k < s → ∀ n, ((w.drewN n).setCell ⟨B, 1, none⟩ (.int .i64 ((p + s : Nat) : Int))).cell? ⟨b, off + p + k, none⟩ = some (.int .u8 ((L.getD (p + k) 0).toNat : Int))) := by
    intro k hk n
    rw [World.cell?_setCell_other _ _ _ _ (by simp)]
    obtain ⟨b', off', e, hcell⟩ := bys_at hc (p + k) (by omega)
    have e' := Option.some.inj e
    injection e' with e1 e2
    subst e1 e2
    rw [← Nat.add_assoc] at hcell
    have : L.getD (p + k) 0 = L[p + k]'(by omega) := by rw [List.getD_eq_getElem?_getD, List.getElem?_eq_getElem (by omega)]; rfl
    rw [this]
    simpa using hcell
  clear hr hc
  go_enter Tryz.func109, Tryz.ntmps109
  go_wp2_with (first | (go_at_call 117; refine (unhide HS).mono ?_; rintro e w' ⟨rfl, hw'⟩; obtain rfl := Eq.symm hw') | (go_at_call 108; refine (insist_yes _).mono ?_; rintro e w' ⟨rfl, hw'⟩; obtain rfl := Eq.symm hw') | (go_at_call 118; refine (unhide HT).mono ?_; rintro e w1 ⟨rfl, n, hw1⟩; have HW1 := hide hw1; have HC1 : Hid (∀ k, k < s → w1.cell? ⟨b, off + p + k, none⟩ = some (.int .u8 ((L.getD (p + k) 0).toNat : Int))) := fun k hk => (by rw [hw1]; exact HC.out k hk n); clear hw1 HC))
  go_loop [5, 15] (fun x y => ∃ k : Nat, k ≤ s ∧ x = .int .i64 ((numL ((L.drop p).take k) : Nat) : Int) ∧ y = .int .i64 (k : Int)) (fun _ y => s - (intOf y).toNat)
  case atStart => exact ⟨0, by omega, by simp [numL], rfl⟩
  case round =>
    obtain ⟨k, hk, rfl, rfl⟩ := hrel
    by_cases hlt : k < s
    · have c0 := HC1.out k hlt
      have hb0 := byte_nn (L.getD (p + k) 0)
      have hb1 := byte_lt (L.getD (p + k) 0)
      have HN : Hid (numL ((L.drop p).take (k + 1)) = numL ((L.drop p).take k) * 256 + (L.getD (p + k) 0).toNat) := by
        show _ = _
        have hd : k < (L.drop p).length := by rw [List.length_drop]; omega
        rw [List.take_succ_eq_append_getElem hd, numL_snoc]
        congr 2
        rw [List.getElem_drop, List.getD_eq_getElem?_getD, List.getElem?_eq_getElem (by omega)]; rfl
      have hlt2 : numL ((L.drop p).take k) < 281474976710656 := by
        refine Nat.lt_of_lt_of_le (numL_lt _) ?_
        refine Nat.le_trans (Nat.pow_le_pow_right (by decide) (show ((L.drop p).take k).length ≤ 6 by rw [List.length_take]; omega)) (by decide)
      have hor := or_byte (numL ((L.drop p).take k)) (L.getD (p + k) 0) hlt2
      have HOr := hide hor
      clear hor
      generalize L.getD (p + k) 0 = x at *
      generalize numL ((L.drop p).take k) = m at *
      go_wp2_with fail
      go_round
      case rel => exact ⟨k + 1, by omega, by rw [HN.out]; exact congrArg (Value.int .i64) HOr.out, by go_num⟩
      case measure => simp [intOf]; omega
    · have e : k = s := by omega
      subst e
      go_wp2_with fail
      go_ret
      exact ⟨rfl, n, HW1.out⟩

end Go.Proofs.YtkdnddckogbgaaaGreatDoor
namespace Go.Proofs.YtkdnddckogbgaaaGreatDoor
open Go.RowKit Go.Deep
set_option linter.unusedVariables false
set_option maxRecDepth 10000

/-- The world where GetNum calls number. -/
abbrev three (w : World) (a : Option Addr) (l cap : Nat) (p : Int) : World := ((w.alloc (Obj.cells #[Value.int IntKind.i64 0] 3)).alloc (Obj.cells #[Value.bool false] 4)).alloc (Obj.cells #[.slice a l cap, .int .i64 p] 119)
end Go.Proofs.YtkdnddckogbgaaaGreatDoor
namespace Go.Proofs.YtkdnddckogbgaaaGreatDoor
open Go.RowKit Go.Deep
set_option linter.unusedVariables false
def getB (L : List UInt8) (p s : Int) : Bool := decide (1 ≤ s ∧ s ≤ 7 ∧ 0 ≤ p ∧ p ≤ (L.length : Int) - s)
def getV (L : List UInt8) (p s : Int) : Int := if getB L p s = true then ((numL ((L.drop p.toNat).take s.toNat) : Nat) : Int) else 0
theorem getnum_spec (b off : Nat) (L : List UInt8) (cap : Nat) (p s : Int) (w : World) (hc : Cells w (some ⟨b, off, none⟩) (bys L)) (hl : L.length ≤ 16777216) :
    Calls Tryz.prog 79 #[.slice (some ⟨b, off, none⟩) L.length cap, .int .i64 p, .int .i64 s] w fun e w' => e = .returned (.tuple #[.int .i64 (getV L p s), .bool (getB L p s)]) ∧ w' = w := by
  by_cases h : 1 ≤ s ∧ s ≤ 7 ∧ 0 ≤ p ∧ p ≤ (L.length : Int) - s
  · have hB : getB L p s = true := decide_eq_true h
    obtain ⟨n, rfl⟩ := Int.eq_ofNat_of_zero_le h.2.2.1
    obtain ⟨k, rfl⟩ := Int.eq_ofNat_of_zero_le (show 0 ≤ s by omega)
    unfold getV
    rw [if_pos hB, hB]
    exact getspec_yes b off L cap n k w hc hl (by omega) (by omega) (by omega)
  · have hB : getB L p s = false := decide_eq_false h
    unfold getV
    rw [hB, if_neg (by simp)]
    exact getspec_no _ L cap p s w hl (by omega)
end Go.Proofs.YtkdnddckogbgaaaGreatDoor
namespace Go.Proofs.YtkdnddckogbgaaaGreatDoor
open Go.RowKit Go.Deep
set_option linter.unusedVariables false
set_option linter.unusedSimpArgs false

theorem digs_snoc (n s : Nat) : digs n (s + 1) = digs (n / 256) s ++ [UInt8.ofNat n] := by
  unfold digs
  rw [digsTo_succ]
  congr 1
  · unfold digsTo
    refine List.map_congr_left fun i hi => ?_
    have hi' : i < s := List.mem_range.1 hi
    rw [Nat.div_div_eq_div_mul, ← Nat.pow_succ']
    congr 3
    omega
  · simp
theorem digs_num' : ∀ (s : Nat) (X : List UInt8), X.length = s → digs (numL X) s = X
  | 0, X, h => by
    have e := List.length_eq_zero_iff.1 h
    subst e
    rfl
  | s + 1, X, h => by
    have hne : X ≠ [] := fun e => by rw [e] at h; simp at h
    have e := List.dropLast_concat_getLast hne
    have hl : X.dropLast.length = s := by rw [List.length_dropLast, h]; rfl
    generalize X.dropLast = Y at e hl
    generalize X.getLast hne = b at e
    rw [← e, digs_snoc, numL_snoc]
    have hb := b.toNat_lt
    have e1 : (numL Y * 256 + b.toNat) / 256 = numL Y := by omega
    have e2 : UInt8.ofNat (numL Y * 256 + b.toNat) = b := by
      apply UInt8.toNat_inj.1
      simp
    rw [e1, e2, digs_num' s Y hl]
theorem digs_num {X : List UInt8} {s : Nat} (h : X.length = s) : digs (numL X) s = X := digs_num' s X h
/-- The piece of s bytes from p on. -/
def cut (L : List UInt8) (p s : Nat) : List UInt8 := (L.drop p).take s
theorem cut_length {L : List UInt8} {p s : Nat} (h : p + s ≤ L.length) : (cut L p s).length = s := by
  unfold cut; rw [List.length_take, List.length_drop]; omega
theorem cut_next (L : List UInt8) (p s : Nat) : L.drop p = cut L p s ++ L.drop (p + s) := by
  unfold cut; rw [← List.drop_drop, List.take_append_drop]
theorem getV_cut {L : List UInt8} {p s : Nat} (h1 : 1 ≤ s) (h2 : s ≤ 7) (h : p + s ≤ L.length) : getV L p s = (numL (cut L p s) : Nat) := by
  have hB : getB L p s = true := decide_eq_true (by omega)
  unfold getV cut
  rw [if_pos hB]
  simp
theorem numL_one (z : UInt8) : numL [z] = z.toNat := by simp [numL]
/-- What is read of 22 bytes, written again: the same bytes where the first is E and the last 0 or 1. -/
theorem body_again {L : List UInt8} (hl : L.length = 22) :
    bodyL (numL (cut L 1 1)) (numL (cut L 2 3)) (numL (cut L 5 1)) (numL (cut L 6 1)) (numL (cut L 7 7)) (numL (cut L 14 7)) (decide (numL (cut L 21 1) = 1)) = L ↔ numL (cut L 0 1) = 69 ∧ numL (cut L 21 1) ≤ 1 := by
  have eL : L = cut L 0 1 ++ cut L 1 1 ++ cut L 2 3 ++ cut L 5 1 ++ cut L 6 1 ++ cut L 7 7 ++ cut L 14 7 ++ cut L 21 1 := by
    have h0 := cut_next L 0 1
    have h1 := cut_next L 1 1
    have h2 := cut_next L 2 3
    have h3 := cut_next L 5 1
    have h4 := cut_next L 6 1
    have h5 := cut_next L 7 7
    have h6 := cut_next L 14 7
    have h7 := cut_next L 21 1
    have h8 : L.drop 22 = [] := List.drop_eq_nil_of_le (by omega)
    simp only [Nat.reduceAdd, List.drop_zero] at h0 h1 h2 h3 h4 h5 h6 h7
    rw [h8, List.append_nil] at h7
    rw [h7] at h6; rw [h6] at h5; rw [h5] at h4; rw [h4] at h3; rw [h3] at h2; rw [h2] at h1; rw [h1] at h0
    simpa [List.append_assoc] using h0
  have l0 : (cut L 0 1).length = 1 := cut_length (by omega)
  have l7 : (cut L 21 1).length = 1 := cut_length (by omega)
  obtain ⟨x, ex⟩ := List.length_eq_one_iff.1 l0
  obtain ⟨z, ez⟩ := List.length_eq_one_iff.1 l7
  have hb : bodyL (numL (cut L 1 1)) (numL (cut L 2 3)) (numL (cut L 5 1)) (numL (cut L 6 1)) (numL (cut L 7 7)) (numL (cut L 14 7)) (decide (numL (cut L 21 1) = 1)) = [69] ++ cut L 1 1 ++ cut L 2 3 ++ cut L 5 1 ++ cut L 6 1 ++ cut L 7 7 ++ cut L 14 7 ++ yesL (decide (numL (cut L 21 1) = 1)) := by
    unfold bodyL
    rw [digs_num (cut_length (by omega)), digs_num (cut_length (by omega)), digs_num (cut_length (by omega)), digs_num (cut_length (by omega)), digs_num (cut_length (by omega)), digs_num (cut_length (by omega))]
  rw [hb, ex, ez, numL_one, numL_one]
  have hz := z.toNat_lt
  constructor
  · intro h
    rw [ex, ez] at eL
    have h' := h.trans eL
    simp only [List.append_assoc, List.singleton_append] at h'
    obtain ⟨h1, h2⟩ := List.cons_eq_cons.1 h'
    have h3 := List.append_cancel_left (List.append_cancel_left (List.append_cancel_left (List.append_cancel_left (List.append_cancel_left (List.append_cancel_left h2)))))
    refine ⟨by rw [← h1]; rfl, ?_⟩
    by_cases e : z.toNat = 1
    · omega
    · rw [decide_eq_false e] at h3
      simp [yesL] at h3
      rw [← h3]; decide
  · rintro ⟨h1, h2⟩
    rw [ex, ez] at eL
    have e1 : x = 69 := UInt8.toNat_inj.1 (by rw [h1]; rfl)
    have e2 : yesL (decide (z.toNat = 1)) = [z] := by
      by_cases e : z.toNat = 1
      · rw [decide_eq_true e]
        have : z = 1 := UInt8.toNat_inj.1 (by rw [e]; rfl)
        rw [this]; rfl
      · rw [decide_eq_false e]
        have : z = 0 := UInt8.toNat_inj.1 (by show z.toNat = 0; omega)
        rw [this]; rfl
    rw [e2, ← e1]
    exact eL.symm
/-- Is there an event in the bytes? -/
def ebB (L : List UInt8) : Bool := decide (L.length = 22) && decide (numL (cut L 0 1) = 69) && decide (numL (cut L 21 1) ≤ 1) && evB (numL (cut L 1 1) : Nat) (numL (cut L 2 3) : Nat) (numL (cut L 5 1) : Nat) (numL (cut L 6 1) : Nat) (numL (cut L 7 7) : Nat) (numL (cut L 14 7) : Nat) (decide (numL (cut L 21 1) = 1))
/-- The event in the bytes, or none. -/
def ebV (L : List UInt8) : Value := if ebB L = true then evV (numL (cut L 1 1) : Nat) (numL (cut L 2 3) : Nat) (numL (cut L 5 1) : Nat) (numL (cut L 6 1) : Nat) (numL (cut L 7 7) : Nat) (numL (cut L 14 7) : Nat) (decide (numL (cut L 21 1) = 1)) else evV 0 0 0 0 0 0 false
end Go.Proofs.YtkdnddckogbgaaaGreatDoor
