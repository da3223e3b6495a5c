/- Texts of the verifier, joined: Esx, Byt, Apn, Prt, ShelfC, Sent, Told, TextK, Wrd. -/
import Derived.Test.YtmigcgpnkfjebaaGreatDoorPTextEvent4
import Derived.Test.YtmigcgpnkfjebaaGreatDoorPTextEvent2
import Derived.Test.YtmigcgpnkfjebaaGreatDoorPTextEvent3
import Derived.Handy
import Derived.Test.YtmigcgpnkfjebaaGreatDoorPTextEvent1
import Derived.RegionTactic
import Derived.OwnWalk
import Derived.Laws.OwnMore
import Derived.Laws.AppendOwnNone
import Derived.Shelf.LaysC
import Derived.Shelf.Strconv.AtoiAll
import Derived.Shelf.Strconv.ErrVarAll
import Derived.Test.YtmigcgpnkfjebaaGreatDoorProg
import Derived.Deep.OwnRows
namespace Go.Proofs.YtmigcgpnkfjebaaGreatDoor
open Go.RowKit
set_option linter.unusedVariables false
set_option linter.unusedSimpArgs false
set_option maxRecDepth 10000
/-- The words of the kinds. -/
def wordL (k : Nat) : List UInt8 := if k = 1 then [100, 101, 112, 111, 115, 105, 116] else if k = 2 then [111, 112, 101, 110] else if k = 3 then [99, 108, 111, 115, 101] else if k = 4 then [112, 114, 105, 99, 101] else if k = 5 then [97, 100, 109, 105, 116] else if k = 6 then [102, 117, 108, 102, 105, 108, 108] else if k = 7 then [102, 97, 105, 108] else if k = 8 then [116, 105, 99, 107] else if k = 9 then [108, 97, 117, 110, 99, 104] else if k = 10 then [97, 114, 114, 105, 118, 101] else if k = 11 then [108, 111, 115, 116] else []
def wordsC : Array Value := #[.string ⟨(wordL 0).toArray⟩, .string ⟨(wordL 1).toArray⟩, .string ⟨(wordL 2).toArray⟩, .string ⟨(wordL 3).toArray⟩, .string ⟨(wordL 4).toArray⟩, .string ⟨(wordL 5).toArray⟩, .string ⟨(wordL 6).toArray⟩, .string ⟨(wordL 7).toArray⟩, .string ⟨(wordL 8).toArray⟩, .string ⟨(wordL 9).toArray⟩, .string ⟨(wordL 10).toArray⟩, .string ⟨(wordL 11).toArray⟩]
theorem words_row : ∀ i, i < wordsC.size → wordsC[i]? = some (.string ⟨(wordL i).toArray⟩)
  | 0, _ => rfl
  | 1, _ => rfl
  | 2, _ => rfl
  | 3, _ => rfl
  | 4, _ => rfl
  | 5, _ => rfl
  | 6, _ => rfl
  | 7, _ => rfl
  | 8, _ => rfl
  | 9, _ => rfl
  | 10, _ => rfl
  | 11, _ => rfl
theorem words_k (w : World) : Calls Tryz.prog 8 #[] w fun e w' => e = .returned (.slice (some ⟨w.heap.size, 0, none⟩) 12 12) ∧ w' = w.alloc (.cells wordsC 9) := by
  go_enter Tryz.func8, Tryz.ntmps8
  go_wp2
  go_ret
  exact ⟨rfl, rfl⟩
def fldL (h : Bool) (n : Int) : List UInt8 := if h = true then 32 :: numT n else []
def hasB (h0 h1 h2 h3 h4 h5 : Bool) (i : Nat) : Bool := if i = 0 then h0 else if i = 1 then h1 else if i = 2 then h2 else if i = 3 then h3 else if i = 4 then h4 else h5
def numI (y c t m f : Int) (i : Nat) : Int := if i = 0 then y else if i = 1 then c else if i = 2 then t else if i = 3 then m else f
def fldsL (h : Nat → Bool) (n : Nat → Int) : Nat → List UInt8
  | 0 => []
  | i + 1 => fldsL h n i ++ fldL (h i) (n i)
theorem flds_len (h : Nat → Bool) (n : Nat → Int) : ∀ i, (fldsL h n i).length ≤ 22 * i
  | 0 => by simp [fldsL]
  | i + 1 => by
    have h1 := flds_len h n i
    have h2 := numT_len (n i)
    unfold fldsL fldL
    split
    · simp; omega
    · simp; omega
theorem word_len (k : Nat) : (wordL k).length ≤ 7 := by
  unfold wordL
  repeat' split
  all_goals simp
theorem es_add {W Z : List UInt8} {n : Int} : (.string (((⟨(W ++ Z).toArray⟩ : ByteArray) ++ ⟨#[32]⟩) ++ ⟨(numT n).toArray⟩) : Value) = .string ⟨(W ++ (Z ++ 32 :: numT n)).toArray⟩ := by
  have e : (⟨#[32]⟩ : ByteArray) = ⟨[(32 : UInt8)].toArray⟩ := rfl
  rw [e, ByteArray.mk_append_mk, ByteArray.mk_append_mk]; simp
theorem es_ret (X Y : List UInt8) {A : ByteArray} (h : A = ⟨Y.toArray⟩) : Ending.returned (.string ((⟨X.toArray⟩ : ByteArray) ++ A)) = .returned (.string ⟨(X ++ Y).toArray⟩) := by
  rw [h, ByteArray.mk_append_mk]; try simp
theorem onceT0 {P : Program} {c : Code} {Q : Exit → Act → World → Prop} {a : Act} {w : World} (F : World → Prop) (A : Act) (h1 : c.wp P (Exit.then (fun a' w' => a' = A ∧ F w') (fun _ _ _ => False)) a w) (h2 : ∀ w', F w' → Q .normal A w') : c.wp P Q a w :=
  wp_mono h1 (fun e a' w' h => by
    cases e with
    | normal => obtain ⟨rfl, hF⟩ := h; exact h2 w' hF
    | _ => exact False.elim h)
theorem has_row (h0 h1 h2 h3 h4 h5 : Bool) : ∀ i, i < (#[.bool h0, .bool h1, .bool h2, .bool h3, .bool h4, .bool h5] : Array Value).size → (#[.bool h0, .bool h1, .bool h2, .bool h3, .bool h4, .bool h5] : Array Value)[i]? = some (.bool (hasB h0 h1 h2 h3 h4 h5 i))
  | 0, _ => rfl
  | 1, _ => rfl
  | 2, _ => rfl
  | 3, _ => rfl
  | 4, _ => rfl
  | 5, _ => rfl
theorem num_row (y c t m f : Int) : ∀ i, i < (#[.int .i64 y, .int .i64 c, .int .i64 t, .int .i64 m, .int .i64 f] : Array Value).size → (#[.int .i64 y, .int .i64 c, .int .i64 t, .int .i64 m, .int .i64 f] : Array Value)[i]? = some (.int .i64 (numI y c t m f i))
  | 0, _ => rfl
  | 1, _ => rfl
  | 2, _ => rfl
  | 3, _ => rfl
  | 4, _ => rfl
set_option maxRecDepth 100000 in
set_option maxHeartbeats 4000000 in
theorem es_gen (k : Nat) (hk : k ≤ 11) (h0 h1 h2 h3 h4 h5 : Bool) (y c t m f : Int) (b : Bool) (w : World) (hB : evB k y c t m f b = true) (hH : ∀ w, Calls Tryz.prog 9 #[.int .i64 (k : Int)] w (hasPost h0 h1 h2 h3 h4 h5 w)) :
    Calls Tryz.prog 11 #[evV k y c t m f b] w fun e w' => e = .returned (.string ⟨(wordL k ++ fldsL (hasB h0 h1 h2 h3 h4 h5) (numI y c t m f) 5 ++ (if h5 = true then (if b = true then [32, 121, 101, 115] else [32, 110, 111]) else [])).toArray⟩) ∧ Keeps w w' := by
  have HEO := hide (evok_spec k y c t m f b)
  rw [hB] at HEO
  have HH := hide hH
  have hkA := Keeps.alloc (Keeps.refl w) (.cells (evCells k y c t m f b) 23)
  have HD : Hid (∀ w', Keeps (w.alloc (.cells (evCells k y c t m f b) 23)) w' → w'.cell? ⟨w.heap.size, 0, none⟩ = some (.int .i64 k) ∧ w'.cell? ⟨w.heap.size, 1, none⟩ = some (.int .i64 y) ∧ w'.cell? ⟨w.heap.size, 2, none⟩ = some (.int .i64 c) ∧ w'.cell? ⟨w.heap.size, 3, none⟩ = some (.int .i64 t) ∧ w'.cell? ⟨w.heap.size, 4, none⟩ = some (.int .i64 m) ∧ w'.cell? ⟨w.heap.size, 5, none⟩ = some (.int .i64 f) ∧ w'.cell? ⟨w.heap.size, 6, none⟩ = some (.bool b)) :=
    fun w' hk => ⟨hk.cell (by simp), hk.cell (by simp), hk.cell (by simp), hk.cell (by simp), hk.cell (by simp), hk.cell (by simp), hk.cell (by simp)⟩
  clear hB hH
  go_enter Tryz.func11, Tryz.ntmps11
  go_wp2_with fail
  refine (HEO.out _).mono ?_
  rintro x w1 ⟨rfl, hk1⟩
  have HK := hide (hkA.trans hk1)
  obtain ⟨c0, c1, c2, c3, c4, c5, c6⟩ := HD.out w1 hk1
  have HKA := hide hk1
  clear hk1 hkA HEO HD
  go_wp2_with fail
  have hwc : (w1.alloc (.cells wordsC 9)).cell? ⟨w1.heap.size, k, none⟩ = some (.string ⟨(wordL k).toArray⟩) := (World.rowIs_alloc w1 wordsC 9 (fun i => .string ⟨(wordL i).toArray⟩) words_row).cell (i := k) (by show k < 12; omega)
  have hk2 := Keeps.alloc (Keeps.refl w1) (.cells wordsC 9)
  have d0 := hk2.cell c0
  have lt0 := lt_of_cell c0
  apply onceT0 (fun w' => Keeps w1 w')
  · skip
    go_region_with (go_at_call 8; refine (words_k _).mono ?_; rintro x w2 ⟨rfl, rfl⟩)
    all_goals first
      | exact ⟨rfl, hk2⟩
      | exact ⟨rfl, hk2.drew⟩
  clear d0 lt0 hwc hk2
  intro w2 hk2
  have e0 := hk2.cell c0
  have e1 := hk2.cell c1
  have e2 := hk2.cell c2
  have e3 := hk2.cell c3
  have e4 := hk2.cell c4
  have e5 := hk2.cell c5
  have e6 := hk2.cell c6
  replace HK := hide (HK.out.trans hk2)
  clear c0 c1 c2 c3 c4 c5 c6 hk2 HKA
  have wl := word_len k
  obtain ⟨Wd, hWd⟩ : ∃ Wd, wordL k = Wd := ⟨_, rfl⟩
  rw [hWd] at wl ⊢
  have HWd := hide hWd
  clear hWd
  go_wp2_with fail
  refine (HH.out w2).mono ?_
  rintro x w3 ⟨rfl, rfl⟩
  have hk3 := Keeps.alloc (Keeps.refl w2) (.cells #[.bool h0, .bool h1, .bool h2, .bool h3, .bool h4, .bool h5] 4)
  have HB := hide (World.rowIs_alloc w2 #[.bool h0, .bool h1, .bool h2, .bool h3, .bool h4, .bool h5] 4 _ (has_row h0 h1 h2 h3 h4 h5))
  replace e0 := hk3.cell e0
  replace e1 := hk3.cell e1
  replace e2 := hk3.cell e2
  replace e3 := hk3.cell e3
  replace e4 := hk3.cell e4
  replace e5 := hk3.cell e5
  replace e6 := hk3.cell e6
  replace HK := hide (HK.out.trans hk3)
  clear hk3 HH
  generalize w2.alloc (.cells #[.bool h0, .bool h1, .bool h2, .bool h3, .bool h4, .bool h5] 4) = w3 at *
  generalize w2.heap.size = bH at *
  have hk4 := Keeps.alloc (Keeps.refl w3) (.cells #[.int .i64 y, .int .i64 c, .int .i64 t, .int .i64 m, .int .i64 f] 3)
  have HN := hide (World.rowIs_alloc w3 #[.int .i64 y, .int .i64 c, .int .i64 t, .int .i64 m, .int .i64 f] 3 _ (num_row y c t m f))
  have HK4 := hide hk4
  clear hk4
  have HHB : Hid (∀ i, i < 6 → w3.cell? ⟨bH, i, none⟩ = some (.bool (hasB h0 h1 h2 h3 h4 h5 i))) := fun i hi => HB.out.cell (i := i) hi
  go_wp2_with fail
  generalize w3.alloc (.cells #[.int .i64 y, .int .i64 c, .int .i64 t, .int .i64 m, .int .i64 f] 3) = w4 at *
  generalize w3.heap.size = bN at *
  have HHN : Hid (∀ i, i < 5 → w4.cell? ⟨bN, i, none⟩ = some (.int .i64 (numI y c t m f i))) := fun i hi => HN.out.cell (i := i) hi
  have hb5 : hasB h0 h1 h2 h3 h4 h5 5 = h5 := rfl
  obtain ⟨Hh, hHh⟩ : ∃ Hh, hasB h0 h1 h2 h3 h4 h5 = Hh := ⟨_, rfl⟩
  obtain ⟨Nn, hNn⟩ : ∃ Nn, numI y c t m f = Nn := ⟨_, rfl⟩
  rw [hHh] at hb5 HHB
  rw [hNn] at HHN
  have HHh := hide hHh
  have HNn := hide hNn
  clear hHh hNn
  clear HN HB
  go_loopw [3, 30] (fun o y wr => ∃ i : Nat, i ≤ 5 ∧ y = .int .i64 (i : Int) ∧ o = .string ⟨(Wd ++ fldsL Hh Nn i).toArray⟩ ∧ Hid (Keeps w4 wr)) (fun _ y _ => 5 - (intOf y).toNat)
  case atStart => exact ⟨0, by omega, rfl, by simp [fldsL], Keeps.refl _⟩
  case round =>
    obtain ⟨i, hi, rfl, rfl, HKr⟩ := hrel
    have hl1 := flds_len Hh Nn i
    by_cases hlt : i < 5
    · have n0 := HKr.out.cell (HHN.out i hlt)
      have b0 := (HK4.out.trans HKr.out).cell (HHB.out i (by omega))
      have HS : Hid (fldsL Hh Nn (i + 1) = fldsL Hh Nn i ++ fldL (Hh i) (Nn i)) := rfl
      generalize fldsL Hh Nn i = Z at *
      cases hh : Hh i
      · rw [hh] at HS b0
        go_wp2_with fail
        go_roundw
        case rel => exact ⟨i + 1, by omega, by go_num, by rw [HS.out]; simp [fldL], HKr⟩
        case measure => simp [intOf]; omega
      · rw [hh] at HS b0
        have hl3 := numT_len (Nn i)
        go_wp2_with fail
        refine (num_spec (Nn i) wr).mono ?_
        rintro x w5 ⟨rfl, hk5⟩
        have HK5 := hide (HKr.out.trans hk5)
        clear hk5 n0 b0
        go_wp2_with fail
        go_roundw
        case rel => exact ⟨i + 1, by omega, by go_num, by rw [HS.out, es_add]; rfl, HK5⟩
        case measure => simp [intOf]; omega
    · have e : i = 5 := by omega
      subst e
      have b5 := (HK4.out.trans HKr.out).cell (HHB.out 5 (by omega))
      rw [hb5] at b5
      replace e6 := (HK4.out.trans HKr.out).cell e6
      have HKz := hide (HK.out.trans (HK4.out.trans HKr.out))
      clear e0 e1 e2 e3 e4 e5
      have HF : Hid (fldsL (hasB h0 h1 h2 h3 h4 h5) (numI y c t m f) 5 = fldsL Hh Nn 5) := by show _ = _; rw [HHh.out, HNn.out]
      generalize fldsL Hh Nn 5 = Z at *
      cases h5
      · go_wp2_with fail
        go_ret
        exact ⟨by rw [HWd.out, HF.out]; simp, HKz.out⟩
      · cases b
        · go_wp2_with fail
          go_ret
          refine ⟨?_, HKz.out⟩
          rw [HWd.out, HF.out]
          have hr := es_ret (Wd ++ Z) [32, 110, 111] rfl
          simp only [Bool.false_eq_true, if_true, if_false]
          rw [List.append_assoc] at hr
          exact hr
        · go_wp2_with fail
          go_ret
          refine ⟨?_, HKz.out⟩
          rw [HWd.out, HF.out]
          have hr := es_ret (Wd ++ Z) [32, 121, 101, 115] rfl
          simp only [Bool.false_eq_true, if_true, if_false]
          rw [List.append_assoc] at hr
          exact hr
theorem es_no (k y c t m f : Int) (b : Bool) (w : World) (h : evB k y c t m f b = false) : Calls Tryz.prog 11 #[evV k y c t m f b] w fun e w' => e = .returned (.string ⟨[].toArray⟩) ∧ Keeps w w' := by
  have HEO := hide (evok_spec k y c t m f b)
  rw [h] at HEO
  have hkA := Keeps.alloc (Keeps.refl w) (.cells (evCells k y c t m f b) 23)
  go_enter Tryz.func11, Tryz.ntmps11
  go_wp2_with fail
  refine (HEO.out _).mono ?_
  rintro x w1 ⟨rfl, hk1⟩
  have HK := hide (hkA.trans hk1)
  clear hk1 hkA HEO
  go_wp2_with fail
  go_ret
  exact ⟨rfl, HK.out⟩
theorem esx_spec (k y c t m f : Int) (b : Bool) (w : World) : Calls Tryz.prog 11 #[evV k y c t m f b] w fun e w' => e = .returned (.string ⟨(etL k y c t m f b).toArray⟩) ∧ Keeps w w' := by
  unfold etL
  cases h : evB k y c t m f b
  · rw [if_neg (by simp)]
    exact es_no k y c t m f b w h
  · rw [if_pos rfl]
    obtain ⟨⟨k1, k2⟩, _⟩ := ev_bounds h
    have hk : k = 1 ∨ k = 2 ∨ k = 3 ∨ k = 4 ∨ k = 5 ∨ k = 6 ∨ k = 7 ∨ k = 8 ∨ k = 9 ∨ k = 10 ∨ k = 11 := by omega
    rcases hk with rfl | rfl | rfl | rfl | rfl | rfl | rfl | rfl | rfl | rfl | rfl
    · have hx := es_gen 1 (by decide) false false false true false false y c t m f b w h (fun w => has_1 w)
      rw [evT_1]
      simpa [wordL, fldsL, fldL, hasB, numI, sen, senN] using hx
    · have hx := es_gen 2 (by decide) false true false true true false y c t m f b w h (fun w => has_2 w)
      rw [evT_2]
      simpa [wordL, fldsL, fldL, hasB, numI, sen, senN] using hx
    · have hx := es_gen 3 (by decide) false true false false true false y c t m f b w h (fun w => has_3 w)
      rw [evT_3]
      simpa [wordL, fldsL, fldL, hasB, numI, sen, senN] using hx
    · have hx := es_gen 4 (by decide) false true false true true false y c t m f b w h (fun w => has_4 w)
      rw [evT_4]
      simpa [wordL, fldsL, fldL, hasB, numI, sen, senN] using hx
    · have hx := es_gen 5 (by decide) true true true true false true y c t m f b w h (fun w => has_5 w)
      rw [evT_5]
      simpa [wordL, fldsL, fldL, hasB, numI, sen, senN] using hx
    · have hx := es_gen 6 (by decide) true false false false false false y c t m f b w h (fun w => has_6 w)
      rw [evT_6]
      simpa [wordL, fldsL, fldL, hasB, numI, sen, senN] using hx
    · have hx := es_gen 7 (by decide) true false false false false false y c t m f b w h (fun w => has_7 w)
      rw [evT_7]
      simpa [wordL, fldsL, fldL, hasB, numI, sen, senN] using hx
    · have hx := es_gen 8 (by decide) false false false false false false y c t m f b w h (fun w => has_8 w)
      rw [evT_8]
      simpa [wordL, fldsL, fldL, hasB, numI, sen, senN] using hx
    · have hx := es_gen 9 (by decide) true true true true true false y c t m f b w h (fun w => has_9 w)
      rw [evT_9]
      simpa [wordL, fldsL, fldL, hasB, numI, sen, senN] using hx
    · have hx := es_gen 10 (by decide) true false false false false false y c t m f b w h (fun w => has_10 w)
      rw [evT_10]
      simpa [wordL, fldsL, fldL, hasB, numI, sen, senN] using hx
    · have hx := es_gen 11 (by decide) true false false false false false y c t m f b w h (fun w => has_11 w)
      rw [evT_11]
      simpa [wordL, fldsL, fldL, hasB, numI, sen, senN] using hx
end Go.Proofs.YtmigcgpnkfjebaaGreatDoor
namespace Go.Proofs.YtmigcgpnkfjebaaGreatDoor
open Go.RowKit Go.Deep
set_option linter.unusedVariables false

def byV (x : UInt8) : Value := .int .u8 (x.toNat : Int)
def bys (L : List UInt8) : List Value := L.map byV
theorem infoByte : (Tryz.prog.info? 5).map (fun i => (i.zero, i.size, i.bytes)) = some (some (.int .u8 0), 1, 1) := by kernel_rfl
end Go.Proofs.YtmigcgpnkfjebaaGreatDoor
namespace Go.Proofs.YtmigcgpnkfjebaaGreatDoor
open Go.RowKit Go.Deep
set_option linter.unusedVariables false
set_option maxRecDepth 10000

abbrev OwnsB (w : World) (base : Nat) (v : Value) (L : List UInt8) : Prop := w.ownsRow base 5 1 v L.length (bys L)
theorem OwnsB.nil (w : World) (base : Nat) : OwnsB w base (.slice none 0 0) [] := by unfold OwnsB; exact World.ownsRow_nil w base 5 1
/-- What was kept behind an append to a list of the call's own. -/
theorem Keeps.grown {W0 wr w' : World} {row : Option Nat} (hk : Keeps W0 wr) (hg : wr.grownBy w' row) (hr : ∀ k, row = some k → W0.heap.size ≤ k) : Keeps W0 w' :=
  Below.grown hk hg hk.size hr
end Go.Proofs.YtmigcgpnkfjebaaGreatDoor
namespace Go.Proofs.YtmigcgpnkfjebaaGreatDoor
open Go.RowKit
set_option linter.unusedVariables false
set_option linter.unusedSimpArgs false
set_option maxRecDepth 10000
theorem underStrs : Tryz.prog.underlying 28 = some (.slice 9) := Tryz.underlying28
theorem infoStr : (Tryz.prog.info? 9).map (fun i => (i.zero, i.size, i.bytes)) = some (some (.string ByteArray.empty), 1, 16) := by kernel_rfl
def strs (ws : List ByteArray) : List Value := ws.map .string
theorem app_str {ops : Array Oper} {rest : List Oper} {o : Oper} {a : Act} {Q : Exit → Act → World → Prop} {wr : World} (hgd : o.guard = none) (s x : Operand)
    (ho : o.op = .call { callee := .builtin .append, args := #[s, x], argTypes := #[28, 28] }) (base : Nat) (v : Value) (M : List ByteArray) (y : ByteArray) (hs : a.eval s = v)
    (hx : a.eval x = .slice (some ⟨wr.heap.size, 0, none⟩) 1 1) (hown : wr.ownsRow base 9 1 v M.length (strs M)) (hM : M.length ≤ 4194304) (hbase : base ≤ wr.heap.size)
    (h : ∀ v' w', w'.ownsRow base 9 1 v' (M ++ [y]).length (strs (M ++ [y])) → (wr.alloc (.cells #[.string y] 9)).grownBy w' v.ownBlock → wpList Tryz.prog ops Q rest (a.put o.dst v') w') :
    wpList Tryz.prog ops Q (o :: rest) a (wr.alloc (.cells #[.string y] 9)) := by
  have hI := infoStr
  cases hi : Tryz.prog.info? 9 with
  | none => rw [hi] at hI; simp at hI
  | some i =>
    rw [hi] at hI
    simp at hI
    obtain ⟨hz, hsz, hby⟩ := hI
    refine wpList_append_own _ hgd s x 28 ho base 9 i _ 1 16 underStrs hi hz hsz hby rfl (by decide) v M.length (strs M) hs (hown.alloc _) ⟨wr.heap.size, 0, none⟩ 1 1 [.string y] hx rfl ?_ ?_ ?_ ?_ ?_ ?_
    · intro j u hj
      match j, hj with
      | 0, hj => simp at hj; subst hj; simp [Addr.add]
      | n + 1, hj => simp at hj
    · intro u hu
      simp at hu
      rcases hu with rfl <;> rfl
    · simp only [maxLen]; omega
    · omega
    · simp; omega
    · intro v' w' h1 h2 h3
      refine h v' w' ?_ h2
      unfold strs at h1 ⊢
      rw [List.map_append, List.length_append]; exact h1
/-- Words, each with a blank behind it. -/
def pre (ws : List (List UInt8)) : List UInt8 := ws.flatMap (· ++ [32])
theorem pre_snoc (ws : List (List UInt8)) (x : List UInt8) : pre (ws ++ [x]) = pre ws ++ x ++ [32] := by simp [pre]
theorem join_pre : ∀ (ws : List (List UInt8)) (x : List UInt8), join (ws ++ [x]) = pre ws ++ x
  | [], x => by simp [join, pre]
  | [w], x => by simp [join, pre]
  | w :: v :: r, x => by
    have ih := join_pre (v :: r) x
    have e : (w :: v :: r) ++ [x] = w :: v :: (r ++ [x]) := rfl
    rw [e, join_cons]
    have e2 : v :: (r ++ [x]) = (v :: r) ++ [x] := rfl
    rw [e2, ih]
    simp [pre]
def dl (x : ByteArray) : List UInt8 := x.data.toList
/-- What a text's parts are. -/
structure Spl (s : ByteArray) (ws : List ByteArray) : Prop where
  ne : ws ≠ []
  joined : join (ws.map dl) = dl s
  no : ∀ x ∈ ws, (32 : UInt8) ∉ dl x
  size : ∀ x ∈ ws, x.size ≤ s.size
theorem Spl.eq {s : ByteArray} {ws : List ByteArray} (h : Spl s ws) {W : List (List UInt8)} (hW : W ≠ []) (hn : ∀ w ∈ W, (32 : UInt8) ∉ w) (hj : join W = dl s) : ws.map dl = W := by
  have h1 := split_join (ws.map dl) (ws.length + W.length) (by simpa using h.ne) (by intro w hw; obtain ⟨x, hx, rfl⟩ := List.mem_map.1 hw; exact h.no x hx) (by simp; omega)
  have h2 := split_join W (ws.length + W.length) hW hn (by omega)
  rw [h.joined] at h1
  rw [hj] at h2
  exact h1.symm.trans h2
/-- Where the cutting stands behind i bytes. -/
structure At (s : ByteArray) (i frm : Nat) (ws : List ByteArray) : Prop where
  le : frm ≤ i
  done : pre (ws.map dl) = (dl s).take frm
  clear : ∀ j, frm ≤ j → j < i → (dl s)[j]? ≠ some 32
  no : ∀ x ∈ ws, (32 : UInt8) ∉ dl x
  size : ∀ x ∈ ws, x.size ≤ s.size
  len : ws.length ≤ i
theorem World.ownsRow.from' {w : World} {base n : Nat} {e : TypeId} {sz : Nat} {v : Value} {xs : List Value} (h : w.ownsRow base e sz v n xs) : ∀ k, v.ownBlock = some k → base ≤ k := fun k hk => (h.lt k hk).1
theorem dl_extract (s : ByteArray) (a b : Nat) : dl (s.extract a b) = ((dl s).take b).drop a := by
  unfold dl
  rw [ByteArray.data_extract]
  simp [Array.toList_extract, List.drop_take]
theorem piece_no {s : ByteArray} {frm i : Nat} (hc : ∀ j, frm ≤ j → j < i → (dl s)[j]? ≠ some 32) : (32 : UInt8) ∉ dl (s.extract frm i) := by
  rw [dl_extract]
  intro h
  obtain ⟨j, hj⟩ := List.mem_iff_getElem?.1 h
  rw [List.getElem?_drop, List.getElem?_take] at hj
  split at hj
  · exact hc (frm + j) (by omega) (by omega) hj
  · cases hj
theorem At.miss {s : ByteArray} {i frm : Nat} {ws : List ByteArray} (h : At s i frm ws) (hlt : i < s.size) (hb : (s[i]'hlt).toNat ≠ 32) : At s (i + 1) frm ws := by
  refine ⟨by have := h.le; omega, h.done, ?_, h.no, h.size, by have := h.len; omega⟩
  intro j h1 h2
  by_cases e : j = i
  · subst e
    intro e2
    apply hb
    have e3 : (dl s)[j]? = some (s[j]'hlt) := by
      unfold dl
      rw [Array.getElem?_toList, Array.getElem?_eq_getElem hlt]
      rfl
    rw [e3] at e2
    injection e2 with e2
    rw [e2]; rfl
  · exact h.clear j h1 (by omega)
theorem At.hit {s : ByteArray} {i frm : Nat} {ws : List ByteArray} (h : At s i frm ws) (hlt : i < s.size) (hb : (s[i]'hlt).toNat = 32) : At s (i + 1) (i + 1) (ws ++ [s.extract frm i]) := by
  have e3 : (dl s)[i]? = some 32 := by
    unfold dl
    rw [Array.getElem?_toList, Array.getElem?_eq_getElem hlt]
    exact congrArg some (UInt8.toNat_inj.1 hb)
  refine ⟨by omega, ?_, by intro j h1 h2; omega, ?_, ?_, by have := h.len; simp; omega⟩
  · rw [List.map_append, List.map_cons, List.map_nil, pre_snoc, h.done, dl_extract]
    have hl := h.le
    rw [List.take_add_one, e3]
    have : List.take frm (dl s) = (List.take i (dl s)).take frm := by rw [List.take_take, Nat.min_eq_left hl]
    rw [this, List.take_append_drop]
    rfl
  · intro x hx
    rcases List.mem_append.1 hx with hx | hx
    · exact h.no x hx
    · rw [List.mem_singleton.1 hx]; exact piece_no h.clear
  · intro x hx
    rcases List.mem_append.1 hx with hx | hx
    · exact h.size x hx
    · rw [List.mem_singleton.1 hx, ByteArray.size_extract]; omega
theorem At.last {s : ByteArray} {frm : Nat} {ws : List ByteArray} (h : At s s.size frm ws) : Spl s (ws ++ [s.extract frm s.size]) := by
  refine ⟨by simp, ?_, ?_, ?_⟩
  · rw [List.map_append, List.map_cons, List.map_nil, join_pre, h.done, dl_extract]
    have e : (dl s).take s.size = dl s := List.take_of_length_le (by unfold dl; rw [Array.length_toList]; exact Nat.le_refl _)
    rw [e, List.take_append_drop]
  · intro x hx
    rcases List.mem_append.1 hx with hx | hx
    · exact h.no x hx
    · rw [List.mem_singleton.1 hx]; exact piece_no h.clear
  · intro x hx
    rcases List.mem_append.1 hx with hx | hx
    · exact h.size x hx
    · rw [List.mem_singleton.1 hx, ByteArray.size_extract]; omega
set_option maxRecDepth 100000 in
set_option maxHeartbeats 4000000 in
theorem parts_k (s : ByteArray) (w : World) (hs : s.size ≤ 1048576) :
    Calls Tryz.prog 7 #[.string s, .int .u8 32] w fun e w' => ∃ v ws, e = .returned v ∧ w'.ownsRow w.heap.size 9 1 v ws.length (strs ws) ∧ Spl s ws ∧ Keeps w w' := by
  have hk0 := Keeps.alloc (Keeps.refl w) (.cells #[] 9)
  have HO0 : Hid ((w.alloc (.cells #[] 9)).ownsRow w.heap.size 9 1 (.slice (some ⟨w.heap.size, 0, none⟩) 0 0) 0 []) := World.ownsRow_made (base := w.heap.size) (e := 9) (size := 1) w #[] 0 (Nat.le_refl _) (by decide) rfl
  go_enter Tryz.func7, Tryz.ntmps7
  go_wp2_with fail
  go_loopw [5, 6, 7] (fun o fr y wr => ∃ (i frm : Nat) (ws : List ByteArray), i ≤ s.size ∧ y = .int .i64 (i : Int) ∧ fr = .int .i64 (frm : Int) ∧ Hid (wr.ownsRow w.heap.size 9 1 o ws.length (strs ws)) ∧ Hid (At s i frm ws) ∧ Hid (Keeps w wr)) (fun _ _ y _ => s.size - (intOf y).toNat)
  case atStart => exact ⟨0, 0, [], by omega, rfl, rfl, HO0, ⟨by omega, by simp [pre], by intro j h1 h2; omega, by simp, by simp, by simp⟩, hk0⟩
  case round =>
    clear HO0 hk0
    obtain ⟨i, frm, ws, hi, rfl, rfl, HO, HA, HK⟩ := hrel
    have hfi := HA.out.le
    have hln := HA.out.len
    by_cases hlt : i < s.size
    · have hsz := HK.out.size
      by_cases hb : ((s[i]'hlt).toNat : Int) = 32
      · have HKA := hide (Keeps.alloc HK.out (.cells #[.string (s.extract frm i)] 9))
        have HF := hide (World.ownsRow.from' HO.out)
        go_wp2_with (at_builtin; refine app_str rfl (.tmp 20) (.tmp 25) rfl w.heap.size _ ws (s.extract frm i) rfl rfl HO.out (by omega) hsz ?_; intro v' w' ho hg)
        go_roundw
        case rel => exact ⟨i + 1, i + 1, ws ++ [s.extract frm i], by omega, by go_num, by go_num, ho, HA.out.hit hlt (by omega), Keeps.grown HKA.out hg HF.out⟩
        case measure => simp [intOf]; omega
      · go_wp2_with fail
        go_roundw
        case rel => exact ⟨i + 1, frm, ws, by omega, by go_num, rfl, HO, HA.out.miss hlt (by omega), HK⟩
        case measure => simp [intOf]; omega
    · have e : i = s.size := by omega
      subst e
      have hsz := HK.out.size
      have HKA := hide (Keeps.alloc HK.out (.cells #[.string (s.extract frm s.size)] 9))
      have HF := hide (World.ownsRow.from' HO.out)
      go_wp2_with (at_builtin; refine app_str rfl (.tmp 29) (.tmp 33) rfl w.heap.size _ ws (s.extract frm s.size) rfl rfl HO.out (by omega) hsz ?_; intro v' w' ho hg)
      go_ret
      exact ⟨v', ws ++ [s.extract frm s.size], rfl, ho, HA.out.last, Keeps.grown HKA.out hg HF.out⟩
end Go.Proofs.YtmigcgpnkfjebaaGreatDoor
namespace Go.Proofs
open Go.Shelf
def Tryz.laysC172_ren : Go.Shelf.Ren := ⟨fun | 172 => 30 | 244 => 37 | 245 => 38 | 247 => 42 | 279 => 43 | 280 => 44 | 281 => 45 | 282 => 46 | 287 => 48 | 316 => 49 | 171 => 39 | 205 => 50 | 321 => 52 | 322 => 53 | 243 => 47 | 246 => 51 | 283 => 54 | 284 => 55 | 285 => 56 | 286 => 57 | 129 => 59 | 317 => 58 | 318 => 60 | 319 => 61 | 320 => 62 | 337 => 63 | 338 => 64 | n => n, fun | 9 => 9 | 3 => 3 | 75 => 75 | 76 => 76 | 4 => 4 | 5 => 5 | 167 => 92 | 37 => 69 | 0 => 0 | 85 => 93 | 2 => 2 | 168 => 95 | 53 => 98 | 175 => 99 | 46 => 83 | 210 => 103 | 127 => 107 | 145 => 110 | 143 => 108 | 21 => 21 | 171 => 111 | 173 => 114 | 212 => 117 | 51 => 89 | 20 => 20 | 213 => 118 | 232 => 122 | 233 => 123 | 80 => 42 | n => n, fun | 15 => 4 | 16 => 5 | 17 => 6 | 18 => 7 | 19 => 8 | n => n⟩
theorem Tryz.laysC172 : Go.Proofs.LaysC.n172 Tryz.prog Tryz.laysC172_ren := {
  mixed := by kernel_rfl
  f129 := Tryz.func59.trans (congrArg some (by kernel_rfl))
  f171 := Tryz.func39.trans (congrArg some (by kernel_rfl))
  f172 := Tryz.func30.trans (congrArg some (by kernel_rfl))
  f205 := Tryz.func50.trans (congrArg some (by kernel_rfl))
  f243 := Tryz.func47.trans (congrArg some (by kernel_rfl))
  f244 := Tryz.func37.trans (congrArg some (by kernel_rfl))
  f245 := Tryz.func38.trans (congrArg some (by kernel_rfl))
  f246 := Tryz.func51.trans (congrArg some (by kernel_rfl))
  f247 := Tryz.func42.trans (congrArg some (by kernel_rfl))
  f279 := Tryz.func43.trans (congrArg some (by kernel_rfl))
  f280 := Tryz.func44.trans (congrArg some (by kernel_rfl))
  f281 := Tryz.func45.trans (congrArg some (by kernel_rfl))
  f282 := Tryz.func46.trans (congrArg some (by kernel_rfl))
  f283 := Tryz.func54.trans (congrArg some (by kernel_rfl))
  f284 := Tryz.func55.trans (congrArg some (by kernel_rfl))
  f285 := Tryz.func56.trans (congrArg some (by kernel_rfl))
  f286 := Tryz.func57.trans (congrArg some (by kernel_rfl))
  f287 := Tryz.func48.trans (congrArg some (by kernel_rfl))
  f316 := Tryz.func49.trans (congrArg some (by kernel_rfl))
  f317 := Tryz.func58.trans (congrArg some (by kernel_rfl))
  f318 := Tryz.func60.trans (congrArg some (by kernel_rfl))
  f319 := Tryz.func61.trans (congrArg some (by kernel_rfl))
  f320 := Tryz.func62.trans (congrArg some (by kernel_rfl))
  f321 := Tryz.func52.trans (congrArg some (by kernel_rfl))
  f322 := Tryz.func53.trans (congrArg some (by kernel_rfl))
  f337 := Tryz.func63.trans (congrArg some (by kernel_rfl))
  f338 := Tryz.func64.trans (congrArg some (by kernel_rfl))
  t0 := Tryz.underlying0
  a0 := Tryz.isAgg0
  z0 := Tryz.sizeOf0
  v0 := Tryz.zeroValue0
  t2 := Tryz.underlying2
  a2 := Tryz.isAgg2
  z2 := Tryz.sizeOf2
  v2 := Tryz.zeroValue2
  t3 := Tryz.underlying3
  a3 := Tryz.isAgg3
  z3 := Tryz.sizeOf3
  v3 := Tryz.zeroValue3
  t4 := Tryz.underlying4
  a4 := Tryz.isAgg4
  z4 := Tryz.sizeOf4
  v4 := Tryz.zeroValue4
  t5 := Tryz.underlying5
  a5 := Tryz.isAgg5
  z5 := Tryz.sizeOf5
  v5 := Tryz.zeroValue5
  t9 := Tryz.underlying9
  a9 := Tryz.isAgg9
  z9 := Tryz.sizeOf9
  v9 := Tryz.zeroValue9
  t20 := Tryz.underlying20
  a20 := Tryz.isAgg20
  z20 := Tryz.sizeOf20
  v20 := Tryz.zeroValue20
  t21 := Tryz.underlying21
  a21 := Tryz.isAgg21
  z21 := Tryz.sizeOf21
  v21 := Tryz.zeroValue21
  t37 := Tryz.underlying69
  a37 := Tryz.isAgg69
  z37 := Tryz.sizeOf69
  v37 := Tryz.zeroValue69
  t46 := Tryz.underlying83
  a46 := Tryz.isAgg83
  z46 := Tryz.sizeOf83
  v46 := Tryz.zeroValue83
  t51 := Tryz.underlying89
  a51 := Tryz.isAgg89
  z51 := Tryz.sizeOf89
  v51 := Tryz.zeroValue89
  t53 := Tryz.underlying98
  a53 := Tryz.isAgg98
  z53 := Tryz.sizeOf98
  v53 := Tryz.zeroValue98
  t75 := Tryz.underlying75
  a75 := Tryz.isAgg75
  z75 := Tryz.sizeOf75
  v75 := Tryz.zeroValue75
  t76 := Tryz.underlying76
  a76 := Tryz.isAgg76
  z76 := Tryz.sizeOf76
  v76 := Tryz.zeroValue76
  t85 := Tryz.underlying93
  a85 := Tryz.isAgg93
  z85 := Tryz.sizeOf93
  v85 := Tryz.zeroValue93
  t127 := Tryz.underlying107
  a127 := Tryz.isAgg107
  z127 := Tryz.sizeOf107
  v127 := Tryz.zeroValue107
  t143 := Tryz.underlying108
  a143 := Tryz.isAgg108
  z143 := Tryz.sizeOf108
  v143 := Tryz.zeroValue108
  t145 := Tryz.underlying110
  a145 := Tryz.isAgg110
  z145 := Tryz.sizeOf110
  v145 := Tryz.zeroValue110
  t167 := Tryz.underlying92
  a167 := Tryz.isAgg92
  z167 := Tryz.sizeOf92
  v167 := Tryz.zeroValue92
  t168 := Tryz.underlying95
  a168 := Tryz.isAgg95
  z168 := Tryz.sizeOf95
  v168 := Tryz.zeroValue95
  t171 := Tryz.underlying111
  a171 := Tryz.isAgg111
  z171 := Tryz.sizeOf111
  v171 := Tryz.zeroValue111
  t173 := Tryz.underlying114
  a173 := Tryz.isAgg114
  z173 := Tryz.sizeOf114
  v173 := Tryz.zeroValue114
  t175 := Tryz.underlying99
  a175 := Tryz.isAgg99
  z175 := Tryz.sizeOf99
  v175 := Tryz.zeroValue99
  t210 := Tryz.underlying103
  a210 := Tryz.isAgg103
  z210 := Tryz.sizeOf103
  v210 := Tryz.zeroValue103
  t212 := Tryz.underlying117
  a212 := Tryz.isAgg117
  z212 := Tryz.sizeOf117
  v212 := Tryz.zeroValue117
  t213 := Tryz.underlying118
  a213 := Tryz.isAgg118
  z213 := Tryz.sizeOf118
  t232 := Tryz.underlying122
  a232 := Tryz.isAgg122
  z232 := Tryz.sizeOf122
  v232 := Tryz.zeroValue122
  t233 := Tryz.underlying123
  a233 := Tryz.isAgg123
  z233 := Tryz.sizeOf123
  v233 := Tryz.zeroValue123
  g15 := by kernel_rfl
  g16 := by kernel_rfl
  g17 := by kernel_rfl
  g18 := by kernel_rfl
  g19 := by kernel_rfl
  t80 := Tryz.underlying42
  a80 := Tryz.isAgg42
  z80 := Tryz.sizeOf42
  v80 := Tryz.zeroValue42
  i0 := by kernel_rfl
  i2 := by kernel_rfl
  i3 := by kernel_rfl
  i4 := by kernel_rfl
  i5 := by kernel_rfl
  i9 := by kernel_rfl
  i20 := by kernel_rfl
  i21 := by kernel_rfl
  i37 := by kernel_rfl
  i46 := by kernel_rfl
  i51 := by kernel_rfl
  i53 := by kernel_rfl
  i75 := by kernel_rfl
  i76 := by kernel_rfl
  i80 := by kernel_rfl
  i85 := by kernel_rfl
  i127 := by kernel_rfl
  i143 := by kernel_rfl
  i145 := by kernel_rfl
  i167 := by kernel_rfl
  i168 := by kernel_rfl
  i171 := by kernel_rfl
  i173 := by kernel_rfl
  i175 := by kernel_rfl
  i210 := by kernel_rfl
  i212 := by kernel_rfl
  i232 := by kernel_rfl
  i233 := by kernel_rfl
  m15 := by kernel_rfl
  m16 := by kernel_rfl
  m17 := by kernel_rfl
  m18 := by kernel_rfl
  m19 := by kernel_rfl
  c0 := by kernel_rfl
  c2 := by kernel_rfl
  c3 := by kernel_rfl
  c4 := by kernel_rfl
  c5 := by kernel_rfl
  c9 := by kernel_rfl
  c20 := by kernel_rfl
  c21 := by kernel_rfl
  c37 := by kernel_rfl
  c46 := by kernel_rfl
  c51 := by kernel_rfl
  c53 := by kernel_rfl
  c75 := by kernel_rfl
  c76 := by kernel_rfl
  c80 := by kernel_rfl
  c85 := by kernel_rfl
  c127 := by kernel_rfl
  c143 := by kernel_rfl
  c145 := by kernel_rfl
  c167 := by kernel_rfl
  c168 := by kernel_rfl
  c171 := by kernel_rfl
  c173 := by kernel_rfl
  c175 := by kernel_rfl
  c210 := by kernel_rfl
  c212 := by kernel_rfl
  c213 := by kernel_rfl
  c232 := by kernel_rfl
  c233 := by kernel_rfl }
open Go.RowKit in
theorem Tryz.strconv_Atoi_ok (s : ByteArray) (hmax : s.size ≤ 9223372036854775806) (v : Int) (h : Lib.atoiAll s.data.toList = .ok v) (w : World) :
    Calls Tryz.prog 30 #[.string s] w fun e w' => e = .returned (.tuple #[.int .i64 v, .nilIface]) ∧ (w' = w ∨ ∃ t, w' = Lib.bytesWorld w 5 t) := Any.strconv_Atoi_ok Tryz.laysC172 s hmax v h w
end Go.Proofs
namespace Go.Proofs.YtmigcgpnkfjebaaGreatDoor
open Go.RowKit Go.ChangeShapes

theorem cells96 : Tryz.prog.cellsOf 110 = 1 := by kernel_rfl
theorem cells9 : Tryz.prog.cellsOf 9 = 1 := by kernel_rfl
theorem star : "*" ++ "errors.errorString" = "*errors.errorString" := by decide
theorem row94 (u : TypeId) (h : Tryz.prog.typeName? 3 u = some "*errors.errorString") : u = 108 :=
  typeName_ptr_named (nm := "errors.errorString") (by rw [star]; kernel_rfl) (by kernel_rfl) (by decide) u (by rw [star]; exact h)

/-- The head of the list, a sentinel: its variable holds a pointer. -/
theorem sent {n : String} {text : List UInt8} {r : List (String × DataW Unit)} {W : World} {g : Nat} (h : laidMet Tryz.prog ((n, .iface "*errors.errorString" (.ptr (.agg [.lit (.string text)]))) :: r) W)
    (hg : Tryz.prog.globalNamed n = some g) (ht : (Tryz.prog.globals[g]?).map (·.type) = some 75) : ∃ a : Addr, W.var? Tryz.prog n = some #[.iface 108 (.pointer (some a))] := by
  obtain ⟨a, _, h, _⟩ := laid_sentinel h hg ht Tryz.underlying75 row94 Tryz.underlying108 Tryz.underlying110 rfl rfl Tryz.underlying9 cells96 cells9
  exact ⟨a, h⟩
end Go.Proofs.YtmigcgpnkfjebaaGreatDoor
namespace Go.Proofs.YtmigcgpnkfjebaaGreatDoor
open Go.RowKit
set_option linter.unusedVariables false
theorem told_ok (n : Int) (w : World) : Calls Tryz.prog 24 #[.int .i64 n, .nilIface] w fun e w' => e = .returned (.tuple #[.int .i64 n, .bool true]) ∧ w' = w := by
  go_enter Tryz.func24, Tryz.ntmps24
  go_wp2
  go_ret2
  exact ⟨rfl, rfl⟩
theorem told_no (n : Int) (u : TypeId) (x : Value) (w : World) : Calls Tryz.prog 24 #[.int .i64 n, .iface u x] w fun e w' => e = .returned (.tuple #[.int .i64 0, .bool false]) ∧ w' = w := by
  go_enter Tryz.func24, Tryz.ntmps24
  go_wp2
  go_ret2
  exact ⟨rfl, rfl⟩
theorem gNumber : Tryz.prog.globalNamed "loop.example/g00400/impl.errNoNumber" = some 0 := by kernel_rfl
theorem tNumber : (Tryz.prog.globals[0]?).map (·.type) = some 75 := by kernel_rfl
end Go.Proofs.YtmigcgpnkfjebaaGreatDoor
namespace Go.Proofs.YtmigcgpnkfjebaaGreatDoor
open Go.RowKit
set_option linter.unusedVariables false

theorem atoi_ok (s : ByteArray) (v : Int) (w : World) (hs : s.size ≤ 1048576) (h : Lib.atoiAll s.data.toList = .ok v) :
    Calls Tryz.prog 30 #[.string s] w fun e w' => e = .returned (.tuple #[.int .i64 v, .nilIface]) ∧ Keeps w w' := by
  refine (Tryz.strconv_Atoi_ok s (by omega) v h w).mono ?_
  rintro e w' ⟨rfl, h | ⟨t, h⟩⟩
  · subst h; exact ⟨rfl, Keeps.refl _⟩
  · subst h; exact ⟨rfl, Lib.bytesWorld_below _ _ _⟩
theorem atoi_no (s : ByteArray) (w : World) (hs : s.size ≤ 1048576) (tS tR : TypeId) (pS pR : Value) (hS : w.var? Tryz.prog "strconv.ErrSyntax" = some #[.iface tS pS]) (hR : w.var? Tryz.prog "strconv.ErrRange" = some #[.iface tR pR])
    (h : ∀ v, Lib.atoiAll s.data.toList ≠ .ok v) :
    Calls Tryz.prog 30 #[.string s] w fun e w' => (∃ v u x, e = .returned (.tuple #[.int .i64 v, .iface u x])) ∧ Keeps w w' := by
  cases hc : Lib.atoiAll s.data.toList with
  | ok v => exact absurd hc (h v)
  | _ =>
    first
      | (refine (Any.strconv_Atoi_range_var Tryz.laysC172 s (by omega) hc tR pR w hR).mono ?_; rintro e w' ⟨N, rfl, _, _, hb⟩; exact ⟨⟨_, _, _, rfl⟩, hb⟩)
      | (refine (Any.strconv_Atoi_syntax_var Tryz.laysC172 s (by omega) hc tS pS w hS).mono ?_; rintro e w' ⟨N, rfl, _, _, hb⟩; exact ⟨⟨_, _, _, rfl⟩, hb⟩)

theorem toList_data (s : ByteArray) : s.toList = s.data.toList := ByteArray.toList_eq s
theorem atoi_ne {l : List UInt8} {v : Int} (h : Lib.atoiAll l = .ok v) : l ≠ [] := by
  intro e; subst e; cases h

theorem number_any (s : ByteArray) (w : World) (hs : s.size ≤ 1048576) (tS tR u1 : TypeId) (pS pR x1 : Value) (hS : w.var? Tryz.prog "strconv.ErrSyntax" = some #[.iface tS pS]) (hR : w.var? Tryz.prog "strconv.ErrRange" = some #[.iface tR pR])
    (ht : Tab w) (hg : w.cell? ⟨0, 0, none⟩ = some (.iface u1 x1)) :
    Calls Tryz.prog 25 #[.string s] w fun e w' => ((∃ v, Res s.data.toList v true ∧ e = .returned (.tuple #[.int .i64 v, .nilIface])) ∨ (Res s.data.toList 0 false ∧ ∃ u x, e = .returned (.tuple #[.int .i64 0, .iface u x]))) ∧ Keeps w w' := by
  by_cases hok : ∃ v, Lib.atoiAll s.data.toList = .ok v
  · obtain ⟨v, hv⟩ := hok
    have HA := hide (atoi_ok s v w hs hv)
    have HN := hide (fun w1 (h : Tab w1) => num_impl v w1 h)
    have HT := hide ht
    have HR := hide (fun h => res_other hv h)
    have HY := hide (fun hl h => res_yes (l := s.data.toList) (v := v) hl h)
    have HL := hide (atoi_ne hv)
    clear hS hR ht hv
    cases hb : numT v == s.toList
    · have HB : Hid (numT v ≠ s.data.toList) := by
        rw [toList_data] at hb
        exact beq_eq_false_iff_ne.1 hb
      go_enter Tryz.func25, Tryz.ntmps25
      go_wp2_with (first | (go_at_call 30; refine (unhide HA).mono ?_; rintro e w1 ⟨rfl, hk⟩) | (go_at_call 31; refine (unhide HN _ ((unhide HT).kept hk)).mono ?_; rintro e w2 ⟨rfl, hk2⟩; have hg2 := (hk.trans hk2).cell hg))
      go_quiet (fail)
      go_wp2
      go_ret2
      exact ⟨Or.inr ⟨unhide HR HB.out, _, _, rfl⟩, (hk.trans hk2).drewN _⟩
    · have HB : Hid (numT v = s.data.toList) := by
        rw [toList_data] at hb
        exact beq_iff_eq.1 hb
      go_enter Tryz.func25, Tryz.ntmps25
      go_wp2_with (first | (go_at_call 30; refine (unhide HA).mono ?_; rintro e w1 ⟨rfl, hk⟩) | (go_at_call 31; refine (unhide HN _ ((unhide HT).kept hk)).mono ?_; rintro e w2 ⟨rfl, hk2⟩))
      go_ret2
      exact ⟨Or.inl ⟨_, unhide HY HL.out HB.out, rfl⟩, hk.trans hk2⟩
  · have hok' : ∀ v, Lib.atoiAll s.data.toList ≠ .ok v := fun v h => hok ⟨v, h⟩
    have HA := hide (atoi_no s w hs tS tR pS pR hS hR hok')
    have HR := hide (res_err hok')
    clear hS hR ht hok hok'
    go_enter Tryz.func25, Tryz.ntmps25
    go_wp2_with (first | (go_at_call 30; refine (unhide HA).mono ?_; rintro e w1 ⟨⟨v, u, x, rfl⟩, hk⟩; have hg2 := hk.cell hg))
    go_quiet (fail)
    go_wp2
    go_ret2
    exact ⟨Or.inr ⟨unhide HR, _, _, rfl⟩, hk.drewN _⟩

theorem text_impl (s : ByteArray) (w : World) (hs : s.size ≤ 1048576) (tS tR u1 : TypeId) (pS pR x1 : Value) (hS : w.var? Tryz.prog "strconv.ErrSyntax" = some #[.iface tS pS]) (hR : w.var? Tryz.prog "strconv.ErrRange" = some #[.iface tR pR])
    (ht : Tab w) (hg : w.cell? ⟨0, 0, none⟩ = some (.iface u1 x1)) :
    Calls Tryz.prog 20 #[.string s] w fun e w' => (∃ v b, Res s.data.toList v b ∧ e = .returned (.tuple #[.int .i64 v, .bool b])) ∧ Keeps w w' := by
  have HN := hide (number_any s w hs tS tR u1 pS pR x1 hS hR ht hg)
  clear hS hR ht hg
  go_enter Tryz.func20, Tryz.ntmps20
  go_wp2_with fail
  refine (unhide HN).mono ?_
  rintro e w1 ⟨⟨v, hr, rfl⟩ | ⟨hr, u, x, rfl⟩, hk⟩
  · go_wp2_with (go_at_call 24; refine (told_ok _ _).mono ?_; rintro e w' ⟨rfl, hw⟩; rw [hw]; clear hw w')
    go_ret2
    exact ⟨⟨_, _, hr, rfl⟩, hk⟩
  · go_wp2_with (go_at_call 24; refine (told_no _ _ _ _).mono ?_; rintro e w' ⟨rfl, hw⟩; rw [hw]; clear hw w')
    go_ret2
    exact ⟨⟨_, _, hr, rfl⟩, hk⟩
end Go.Proofs.YtmigcgpnkfjebaaGreatDoor
namespace Go.Proofs.YtmigcgpnkfjebaaGreatDoor
open Go.RowKit Go.Deep
set_option linter.unusedVariables false
set_option linter.unusedSimpArgs false
set_option maxRecDepth 10000
/-- What the package's variables hold while texts are read. -/
structure Env (w : World) : Prop where
  tab : Tab w
  syn : ∃ t p, w.var? Tryz.prog "strconv.ErrSyntax" = some #[.iface t p]
  rng : ∃ t p, w.var? Tryz.prog "strconv.ErrRange" = some #[.iface t p]
  num : ∃ t p, w.cell? ⟨0, 0, none⟩ = some (.iface t p)
theorem Env.kept {w w' : World} (h : Env w) (hk : Keeps w w') : Env w' := by
  obtain ⟨a, ⟨t, p, b⟩, ⟨t', p', c⟩, ⟨t2, p2, d⟩⟩ := h
  exact ⟨a.kept hk, ⟨t, p, var_kept hk b⟩, ⟨t', p', var_kept hk c⟩, ⟨t2, p2, hk.cell d⟩⟩
theorem textnum_k (s : ByteArray) (w : World) (hs : s.size ≤ 1048576) (h : Env w) :
    Calls Tryz.prog 20 #[.string s] w fun e w' => (∃ b : Bool, e = .returned (.tuple #[.int .i64 (txN s.data.toList), .bool b])) ∧ Keeps w w' := by
  obtain ⟨ht, ⟨tS, pS, hS⟩, ⟨tR, pR, hR⟩, ⟨u1, x1, hg⟩⟩ := h
  refine (text_impl s w hs tS tR u1 pS pR x1 hS hR ht hg).mono ?_
  rintro e w' ⟨⟨v, b, hr, rfl⟩, hk⟩
  exact ⟨⟨b, by rw [res_tx hr]⟩, hk⟩
/-- Words in memory. -/
def Wds (w : World) (b off : Nat) (ws : List ByteArray) : Prop := ∀ i (h : i < ws.length), w.cell? ⟨b, off + i, none⟩ = some (.string ws[i])
theorem Wds.kept {w w' : World} {b off : Nat} {ws : List ByteArray} (h : Wds w b off ws) (hk : Keeps w w') : Wds w' b off ws := fun i hi => hk.cell (h i hi)
noncomputable def nn (ws : List ByteArray) (i : Nat) : Int := if h : i < ws.length then txN ws[i].data.toList else 0
noncomputable def nRow (ws : List ByteArray) (k i : Nat) : Value := if i < k then .int .i64 (nn ws i) else .int .i64 0
theorem five_zero : ∀ i, i < (#[.int .i64 0, .int .i64 0, .int .i64 0, .int .i64 0, .int .i64 0] : Array Value).size → (#[.int .i64 0, .int .i64 0, .int .i64 0, .int .i64 0, .int .i64 0] : Array Value)[i]? = some (.int .i64 0)
  | 0, _ => rfl
  | 1, _ => rfl
  | 2, _ => rfl
  | 3, _ => rfl
  | 4, _ => rfl
  | n + 5, h => absurd h (by simp)
theorem size_allocW (w : World) (o : Obj) : (w.alloc o).heap.size = w.heap.size + 1 := by simp
theorem nRow_step (ws : List ByteArray) (k j : Nat) : (if j = k then (.int .i64 (nn ws k) : Value) else nRow ws k j) = nRow ws (k + 1) j := by
  unfold nRow
  by_cases e : j = k
  · subst e
    rw [if_pos rfl, if_pos (by omega)]
  · rw [if_neg e]
    by_cases h : j < k
    · rw [if_pos h, if_pos (by omega)]
    · rw [if_neg h, if_neg (by omega)]
theorem nRow_end (ws : List ByteArray) (k j : Nat) (hj : j < 5) (h : k = 5 ∨ k = ws.length) (hl : k ≤ ws.length) (h5 : k ≤ 5) : nRow ws k j = nRow ws 5 j := by
  unfold nRow
  rw [if_pos hj]
  by_cases hk : j < k
  · rw [if_pos hk]
  · rw [if_neg hk]
    unfold nn
    rw [dif_neg (by omega)]
set_option maxHeartbeats 4000000 in
theorem numbers_k (b off cap : Nat) (ws : List ByteArray) (w : World) (hw : Wds w b off ws) (hs : ∀ x ∈ ws, x.size ≤ 1048576) (hl : ws.length ≤ 8) (he : Env w) :
    Calls Tryz.prog 17 #[.slice (some ⟨b, off, none⟩) ws.length cap] w fun e w' => e = .returned (.agg #[.int .i64 (nn ws 0), .int .i64 (nn ws 1), .int .i64 (nn ws 2), .int .i64 (nn ws 3), .int .i64 (nn ws 4)]) ∧ Keeps w w' := by
  have HW := hide hw
  have HS := hide hs
  have HE := hide he
  clear hw hs he
  go_enter Tryz.func17, Tryz.ntmps17
  have HR0 := hide ((World.rowIs_alloc w #[.int .i64 0, .int .i64 0, .int .i64 0, .int .i64 0, .int .i64 0] 46 (fun _ => .int .i64 0) five_zero).alloc (.cells #[.int .i64 0, .int .i64 0, .int .i64 0, .int .i64 0, .int .i64 0] 46))
  have HA0 := hide ((World.rowIs_alloc (w.alloc (.cells #[.int .i64 0, .int .i64 0, .int .i64 0, .int .i64 0, .int .i64 0] 46)) #[.int .i64 0, .int .i64 0, .int .i64 0, .int .i64 0, .int .i64 0] 46 (fun _ => .int .i64 0) five_zero).congr (g := nRow ws 0) (fun i _ => by simp [nRow]))
  rw [size_allocW] at HA0
  have HK0 := hide (two_keeps w (.cells #[.int .i64 0, .int .i64 0, .int .i64 0, .int .i64 0, .int .i64 0] 46) (.cells #[.int .i64 0, .int .i64 0, .int .i64 0, .int .i64 0, .int .i64 0] 46))
  go_wp2_with fail
  go_loopw [4] (fun y wr => ∃ k : Nat, k ≤ 5 ∧ k ≤ ws.length ∧ y = .int .i64 (k : Int) ∧ Hid (wr.rowIs w.heap.size 46 5 (fun _ => .int .i64 0)) ∧ Hid (wr.rowIs (w.heap.size + 1) 46 5 (nRow ws k)) ∧ Hid (Keeps w wr)) (fun y _ => 5 - (intOf y).toNat)
  case atStart => exact ⟨0, by omega, by omega, rfl, HR0, HA0, HK0⟩
  case round =>
    clear HR0 HA0 HK0
    obtain ⟨k, hk5, hkl, rfl, HR, HA, HK⟩ := hrel
    by_cases hlt : k < 5 ∧ k < ws.length
    · obtain ⟨h5, hlt⟩ := hlt
      have c0 := (HW.out.kept HK.out) k hlt
      have hsz := HS.out ws[k] (List.getElem_mem hlt)
      have hn : nn ws k = txN ws[k].data.toList := by unfold nn; rw [dif_pos hlt]
      generalize ws[k] = x at *
      go_wp2_with fail
      refine (textnum_k x wr hsz (HE.out.kept HK.out)).mono ?_
      rintro e w1 ⟨⟨bb, rfl⟩, hk1⟩
      have HR1 := hide (HR.out.of_block (Below.block hk1 _ HR.out.lt))
      have HA1 := hide (HA.out.of_block (Below.block hk1 _ HA.out.lt))
      have HK1 := hide (HK.out.trans hk1)
      have d0 := HA1.out.cell (i := k) (by omega)
      have df := HA1.out.frozen k
      have dl := HA1.out.lt
      rw [← hn]
      have HN := hide hn
      clear hk1 HR HA HK c0 hn
      generalize hv : nn ws k = v at *
      have HV := hide hv
      clear hv
      go_wp2_with fail
      go_roundw
      case rel => exact ⟨k + 1, by omega, by omega, by go_num, HR1.out.setOther (by simp) _, (HA1.out.set k (.int .i64 v)).congr (fun j hj => by rw [← HV.out]; exact nRow_step ws k j), Keeps.setCell HK1.out (by simp) _⟩
      case measure => simp [intOf]; omega
    · have HF := hide (HA.out.congr (g := nRow ws 5) (fun j hj => nRow_end ws k j hj (by omega) hkl hk5))
      have d0 := HF.out.cell (i := 0) (by decide)
      have d1 := HF.out.cell (i := 1) (by decide)
      have d2 := HF.out.cell (i := 2) (by decide)
      have d3 := HF.out.cell (i := 3) (by decide)
      have d4 := HF.out.cell (i := 4) (by decide)
      simp only [nRow] at d0 d1 d2 d3 d4
      rw [if_pos (by decide)] at d0 d1 d2 d3 d4
      have r0 := HR.out.cell (i := 0) (by decide)
      have r1 := HR.out.cell (i := 1) (by decide)
      have r2 := HR.out.cell (i := 2) (by decide)
      have r3 := HR.out.cell (i := 3) (by decide)
      have r4 := HR.out.cell (i := 4) (by decide)
      have f0 := HR.out.frozen 0
      have f1 := HR.out.frozen 1
      have f2 := HR.out.frozen 2
      have f3 := HR.out.frozen 3
      have f4 := HR.out.frozen 4
      have rl := HR.out.lt
      have HK2 := hide HK.out
      have HRR := hide HR.out
      clear HA HF HK HR
      generalize hn0 : nn ws 0 = n0 at *
      have HN0 := hide hn0
      clear hn0
      generalize hn1 : nn ws 1 = n1 at *
      have HN1 := hide hn1
      clear hn1
      generalize hn2 : nn ws 2 = n2 at *
      have HN2 := hide hn2
      clear hn2
      generalize hn3 : nn ws 3 = n3 at *
      have HN3 := hide hn3
      clear hn3
      generalize hn4 : nn ws 4 = n4 at *
      have HN4 := hide hn4
      clear hn4
      have HKF : Hid (Keeps w (((((wr.setCell ⟨w.heap.size, 0, none⟩ (.int .i64 n0)).setCell ⟨w.heap.size, 1, none⟩ (.int .i64 n1)).setCell ⟨w.heap.size, 2, none⟩ (.int .i64 n2)).setCell ⟨w.heap.size, 3, none⟩ (.int .i64 n3)).setCell ⟨w.heap.size, 4, none⟩ (.int .i64 n4))) := ((((Keeps.setCell HK2.out (Nat.le_refl _) _).setCell (Nat.le_refl _) _).setCell (Nat.le_refl _) _).setCell (Nat.le_refl _) _).setCell (Nat.le_refl _) _
      clear HK2
      have hcase : k = 5 ∨ (k < 5 ∧ k = ws.length) := by omega
      rcases hcase with rfl | ⟨h5, rfl⟩
      all_goals
        go_wp2_with fail
        refine bodyPost_ret (v := .agg #[.int .i64 n0, .int .i64 n1, .int .i64 n2, .int .i64 n3, .int .i64 n4]) ?_ rfl ⟨by rw [HN0.out, HN1.out, HN2.out, HN3.out, HN4.out], HKF.out⟩
        have r9 := (((((HRR.out.set 0 (.int .i64 n0)).set 1 (.int .i64 n1)).set 2 (.int .i64 n2)).set 3 (.int .i64 n3)).set 4 (.int .i64 n4))
        have o0 := r9.cell (i := 0) (by decide)
        have o1 := r9.cell (i := 1) (by decide)
        have o2 := r9.cell (i := 2) (by decide)
        have o3 := r9.cell (i := 3) (by decide)
        have o4 := r9.cell (i := 4) (by decide)
        simp at o0 o1 o2 o3 o4
        clear r9 HRR HKF r0 r1 r2 r3 r4 f0 f1 f2 f3 f4 d0 d1 d2 d3 d4
        revert o0 o1 o2 o3 o4
        generalize World.setCell (World.setCell _ _ _) _ _ = W'
        intro o0 o1 o2 o3 o4
        simp [results, Tryz.results17, go_sem, o0, o1, o2, o3, o4]
end Go.Proofs.YtmigcgpnkfjebaaGreatDoor
