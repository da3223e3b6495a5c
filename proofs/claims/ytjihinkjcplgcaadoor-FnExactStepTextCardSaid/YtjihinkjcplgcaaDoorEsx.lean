/- The model's EventText. -/
import Derived.Test.YtjihinkjcplgcaaDoorTxM
import Derived.Test.YtjihinkjcplgcaaDoorTxt
import Derived.Test.YtjihinkjcplgcaaDoorEvS
import Derived.Test.YtjihinkjcplgcaaDoorEtI
import Derived.Handy
namespace Go.Proofs.YtjihinkjcplgcaaDoor
open Go.RowKit
set_option linter.unusedVariables false
set_option linter.unusedSimpArgs false
set_option maxRecDepth 10000
/-- The words of the kinds. -/
def wordL (k : Nat) : List UInt8 := if k = 1 then [100, 101, 112, 111, 115, 105, 116] else if k = 2 then [111, 112, 101, 110] else if k = 3 then [99, 108, 111, 115, 101] else if k = 4 then [112, 114, 105, 99, 101] else if k = 5 then [97, 100, 109, 105, 116] else if k = 6 then [102, 117, 108, 102, 105, 108, 108] else if k = 7 then [102, 97, 105, 108] else if k = 8 then [116, 105, 99, 107] else if k = 9 then [108, 97, 117, 110, 99, 104] else if k = 10 then [97, 114, 114, 105, 118, 101] else if k = 11 then [108, 111, 115, 116] else []
def wordsC : Array Value := #[.string ⟨(wordL 0).toArray⟩, .string ⟨(wordL 1).toArray⟩, .string ⟨(wordL 2).toArray⟩, .string ⟨(wordL 3).toArray⟩, .string ⟨(wordL 4).toArray⟩, .string ⟨(wordL 5).toArray⟩, .string ⟨(wordL 6).toArray⟩, .string ⟨(wordL 7).toArray⟩, .string ⟨(wordL 8).toArray⟩, .string ⟨(wordL 9).toArray⟩, .string ⟨(wordL 10).toArray⟩, .string ⟨(wordL 11).toArray⟩]
theorem words_row : ∀ i, i < wordsC.size → wordsC[i]? = some (.string ⟨(wordL i).toArray⟩)
  | 0, _ => rfl
  | 1, _ => rfl
  | 2, _ => rfl
  | 3, _ => rfl
  | 4, _ => rfl
  | 5, _ => rfl
  | 6, _ => rfl
  | 7, _ => rfl
  | 8, _ => rfl
  | 9, _ => rfl
  | 10, _ => rfl
  | 11, _ => rfl
theorem words_k (w : World) : Calls Tryd.prog 27 #[] w fun e w' => e = .returned (.slice (some ⟨w.heap.size, 0, none⟩) 12 12) ∧ w' = w.alloc (.cells wordsC 9) := by
  go_enter Tryd.func27, Tryd.ntmps27
  go_wp2
  go_ret
  exact ⟨rfl, rfl⟩
def fldL (h : Bool) (n : Int) : List UInt8 := if h = true then 32 :: numT n else []
def hasB (h0 h1 h2 h3 h4 h5 : Bool) (i : Nat) : Bool := if i = 0 then h0 else if i = 1 then h1 else if i = 2 then h2 else if i = 3 then h3 else if i = 4 then h4 else h5
def numI (y c t m f : Int) (i : Nat) : Int := if i = 0 then y else if i = 1 then c else if i = 2 then t else if i = 3 then m else f
def fldsL (h : Nat → Bool) (n : Nat → Int) : Nat → List UInt8
  | 0 => []
  | i + 1 => fldsL h n i ++ fldL (h i) (n i)
theorem flds_len (h : Nat → Bool) (n : Nat → Int) : ∀ i, (fldsL h n i).length ≤ 22 * i
  | 0 => by simp [fldsL]
  | i + 1 => by
    have h1 := flds_len h n i
    have h2 := numT_len (n i)
    unfold fldsL fldL
    split
    · simp; omega
    · simp; omega
theorem word_len (k : Nat) : (wordL k).length ≤ 7 := by
  unfold wordL
  repeat' split
  all_goals simp
theorem ret_add {W Z : List UInt8} {A : ByteArray} {L : List UInt8} (hA : A = ⟨Z.toArray⟩) (h : W ++ Z = L) : (⟨W.toArray⟩ : ByteArray) ++ A = ⟨L.toArray⟩ := by
  rw [hA, ByteArray.mk_append_mk, ← h]; try simp
theorem es_add {W Z : List UInt8} {n : Int} : (.string (((⟨(W ++ Z).toArray⟩ : ByteArray) ++ ⟨#[32]⟩) ++ ⟨(numT n).toArray⟩) : Value) = .string ⟨(W ++ (Z ++ 32 :: numT n)).toArray⟩ := by
  have e : (⟨#[32]⟩ : ByteArray) = ⟨[(32 : UInt8)].toArray⟩ := rfl
  rw [e, ByteArray.mk_append_mk, ByteArray.mk_append_mk]; simp
theorem es_ret (X Y : List UInt8) {A : ByteArray} (h : A = ⟨Y.toArray⟩) : Ending.returned (.string ((⟨X.toArray⟩ : ByteArray) ++ A)) = .returned (.string ⟨(X ++ Y).toArray⟩) := by
  rw [h, ByteArray.mk_append_mk]; try simp
theorem onceT0 {P : Program} {c : Code} {Q : Exit → Act → World → Prop} {a : Act} {w : World} (F : World → Prop) (A : Act) (h1 : c.wp P (Exit.then (fun a' w' => a' = A ∧ F w') (fun _ _ _ => False)) a w) (h2 : ∀ w', F w' → Q .normal A w') : c.wp P Q a w :=
  wp_mono h1 (fun e a' w' h => by
    cases e with
    | normal => obtain ⟨rfl, hF⟩ := h; exact h2 w' hF
    | _ => exact False.elim h)
theorem has_row (h0 h1 h2 h3 h4 h5 : Bool) : ∀ i, i < (#[.bool h0, .bool h1, .bool h2, .bool h3, .bool h4, .bool h5] : Array Value).size → (#[.bool h0, .bool h1, .bool h2, .bool h3, .bool h4, .bool h5] : Array Value)[i]? = some (.bool (hasB h0 h1 h2 h3 h4 h5 i))
  | 0, _ => rfl
  | 1, _ => rfl
  | 2, _ => rfl
  | 3, _ => rfl
  | 4, _ => rfl
  | 5, _ => rfl
theorem num_row (y c t m f : Int) : ∀ i, i < (#[.int .i64 y, .int .i64 c, .int .i64 t, .int .i64 m, .int .i64 f] : Array Value).size → (#[.int .i64 y, .int .i64 c, .int .i64 t, .int .i64 m, .int .i64 f] : Array Value)[i]? = some (.int .i64 (numI y c t m f i))
  | 0, _ => rfl
  | 1, _ => rfl
  | 2, _ => rfl
  | 3, _ => rfl
  | 4, _ => rfl
set_option maxRecDepth 100000 in
set_option maxHeartbeats 4000000 in
theorem es_gen (k : Nat) (hk : k ≤ 11) (h0 h1 h2 h3 h4 h5 : Bool) (y c t m f : Int) (b : Bool) (w : World) (hB : evB k y c t m f b = true) (hH : ∀ w, Calls Tryd.prog 25 #[.int .i64 (k : Int)] w (hasPost h0 h1 h2 h3 h4 h5 w)) :
    Calls Tryd.prog 12 #[evV k y c t m f b] w fun e w' => e = .returned (.string ⟨(wordL k ++ fldsL (hasB h0 h1 h2 h3 h4 h5) (numI y c t m f) 5 ++ (if h5 = true then (if b = true then [32, 121, 101, 115] else [32, 110, 111]) else [])).toArray⟩) ∧ Keeps w w' := by
  have HEO := hide (evok_spec k y c t m f b)
  rw [hB] at HEO
  have HH := hide hH
  have hkA := Keeps.alloc (Keeps.refl w) (.cells (evCells k y c t m f b) 31)
  have HD : Hid (∀ w', Keeps (w.alloc (.cells (evCells k y c t m f b) 31)) w' → w'.cell? ⟨w.heap.size, 0, none⟩ = some (.int .i64 k) ∧ w'.cell? ⟨w.heap.size, 1, none⟩ = some (.int .i64 y) ∧ w'.cell? ⟨w.heap.size, 2, none⟩ = some (.int .i64 c) ∧ w'.cell? ⟨w.heap.size, 3, none⟩ = some (.int .i64 t) ∧ w'.cell? ⟨w.heap.size, 4, none⟩ = some (.int .i64 m) ∧ w'.cell? ⟨w.heap.size, 5, none⟩ = some (.int .i64 f) ∧ w'.cell? ⟨w.heap.size, 6, none⟩ = some (.bool b)) :=
    fun w' hk => ⟨hk.cell (by simp), hk.cell (by simp), hk.cell (by simp), hk.cell (by simp), hk.cell (by simp), hk.cell (by simp), hk.cell (by simp)⟩
  clear hB hH
  go_enter Tryd.func12, Tryd.ntmps12
  go_wp2_with fail
  refine (HEO.out _).mono ?_
  rintro x w1 ⟨rfl, hk1⟩
  have HK := hide (hkA.trans hk1)
  obtain ⟨c0, c1, c2, c3, c4, c5, c6⟩ := HD.out w1 hk1
  have HKA := hide hk1
  clear hk1 hkA HEO HD
  go_wp2_with fail
  have hwc : (w1.alloc (.cells wordsC 9)).cell? ⟨w1.heap.size, k, none⟩ = some (.string ⟨(wordL k).toArray⟩) := (World.rowIs_alloc w1 wordsC 9 (fun i => .string ⟨(wordL i).toArray⟩) words_row).cell (i := k) (by show k < 12; omega)
  have hk2 := Keeps.alloc (Keeps.refl w1) (.cells wordsC 9)
  have d0 := hk2.cell c0
  have lt0 := lt_of_cell c0
  apply onceT0 (fun w' => Keeps w1 w')
  · skip
    go_region_with (go_at_call 27; refine (words_k _).mono ?_; rintro x w2 ⟨rfl, rfl⟩)
    all_goals first
      | exact ⟨rfl, hk2⟩
      | exact ⟨rfl, hk2.drew⟩
  clear d0 lt0 hwc hk2
  intro w2 hk2
  have e0 := hk2.cell c0
  have e1 := hk2.cell c1
  have e2 := hk2.cell c2
  have e3 := hk2.cell c3
  have e4 := hk2.cell c4
  have e5 := hk2.cell c5
  have e6 := hk2.cell c6
  replace HK := hide (HK.out.trans hk2)
  clear c0 c1 c2 c3 c4 c5 c6 hk2 HKA
  have wl := word_len k
  obtain ⟨Wd, hWd⟩ : ∃ Wd, wordL k = Wd := ⟨_, rfl⟩
  rw [hWd] at wl ⊢
  have HWd := hide hWd
  clear hWd
  go_wp2_with fail
  refine (HH.out w2).mono ?_
  rintro x w3 ⟨rfl, rfl⟩
  have hk3 := Keeps.alloc (Keeps.refl w2) (.cells #[.bool h0, .bool h1, .bool h2, .bool h3, .bool h4, .bool h5] 4)
  have HB := hide (World.rowIs_alloc w2 #[.bool h0, .bool h1, .bool h2, .bool h3, .bool h4, .bool h5] 4 _ (has_row h0 h1 h2 h3 h4 h5))
  replace e0 := hk3.cell e0
  replace e1 := hk3.cell e1
  replace e2 := hk3.cell e2
  replace e3 := hk3.cell e3
  replace e4 := hk3.cell e4
  replace e5 := hk3.cell e5
  replace e6 := hk3.cell e6
  replace HK := hide (HK.out.trans hk3)
  clear hk3 HH
  generalize w2.alloc (.cells #[.bool h0, .bool h1, .bool h2, .bool h3, .bool h4, .bool h5] 4) = w3 at *
  generalize w2.heap.size = bH at *
  have hk4 := Keeps.alloc (Keeps.refl w3) (.cells #[.int .i64 y, .int .i64 c, .int .i64 t, .int .i64 m, .int .i64 f] 3)
  have HN := hide (World.rowIs_alloc w3 #[.int .i64 y, .int .i64 c, .int .i64 t, .int .i64 m, .int .i64 f] 3 _ (num_row y c t m f))
  have HK4 := hide hk4
  clear hk4
  have HHB : Hid (∀ i, i < 6 → w3.cell? ⟨bH, i, none⟩ = some (.bool (hasB h0 h1 h2 h3 h4 h5 i))) := fun i hi => HB.out.cell (i := i) hi
  go_wp2_with fail
  generalize w3.alloc (.cells #[.int .i64 y, .int .i64 c, .int .i64 t, .int .i64 m, .int .i64 f] 3) = w4 at *
  generalize w3.heap.size = bN at *
  have HHN : Hid (∀ i, i < 5 → w4.cell? ⟨bN, i, none⟩ = some (.int .i64 (numI y c t m f i))) := fun i hi => HN.out.cell (i := i) hi
  have hb5 : hasB h0 h1 h2 h3 h4 h5 5 = h5 := rfl
  obtain ⟨Hh, hHh⟩ : ∃ Hh, hasB h0 h1 h2 h3 h4 h5 = Hh := ⟨_, rfl⟩
  obtain ⟨Nn, hNn⟩ : ∃ Nn, numI y c t m f = Nn := ⟨_, rfl⟩
  rw [hHh] at hb5 HHB
  rw [hNn] at HHN
  have HHh := hide hHh
  have HNn := hide hNn
  clear hHh hNn
  clear HN HB
  go_loopw [3, 30] (fun o y wr => ∃ i : Nat, i ≤ 5 ∧ y = .int .i64 (i : Int) ∧ o = .string ⟨(Wd ++ fldsL Hh Nn i).toArray⟩ ∧ Hid (Keeps w4 wr)) (fun _ y _ => 5 - (intOf y).toNat)
  case atStart => exact ⟨0, by omega, rfl, by simp [fldsL], Keeps.refl _⟩
  case round =>
    obtain ⟨i, hi, rfl, rfl, HKr⟩ := hrel
    have hl1 := flds_len Hh Nn i
    by_cases hlt : i < 5
    · have n0 := HKr.out.cell (HHN.out i hlt)
      have b0 := (HK4.out.trans HKr.out).cell (HHB.out i (by omega))
      have HS : Hid (fldsL Hh Nn (i + 1) = fldsL Hh Nn i ++ fldL (Hh i) (Nn i)) := rfl
      generalize fldsL Hh Nn i = Z at *
      cases hh : Hh i
      · rw [hh] at HS b0
        go_wp2_with fail
        go_roundw
        case rel => exact ⟨i + 1, by omega, by go_num, by rw [HS.out]; simp [fldL], HKr⟩
        case measure => simp [intOf]; omega
      · rw [hh] at HS b0
        have hl3 := numT_len (Nn i)
        go_wp2_with fail
        refine (num_spec (Nn i) wr).mono ?_
        rintro x w5 ⟨rfl, hk5⟩
        have HK5 := hide (HKr.out.trans hk5)
        clear hk5 n0 b0
        go_wp2_with fail
        go_roundw
        case rel => exact ⟨i + 1, by omega, by go_num, by rw [HS.out, es_add]; rfl, HK5⟩
        case measure => simp [intOf]; omega
    · have e : i = 5 := by omega
      subst e
      have b5 := (HK4.out.trans HKr.out).cell (HHB.out 5 (by omega))
      rw [hb5] at b5
      replace e6 := (HK4.out.trans HKr.out).cell e6
      have HKz := hide (HK.out.trans (HK4.out.trans HKr.out))
      clear e0 e1 e2 e3 e4 e5
      have HF : Hid (fldsL (hasB h0 h1 h2 h3 h4 h5) (numI y c t m f) 5 = fldsL Hh Nn 5) := by show _ = _; rw [HHh.out, HNn.out]
      generalize fldsL Hh Nn 5 = Z at *
      cases h5
      · go_wp2_with fail
        go_ret
        exact ⟨by rw [HWd.out, HF.out]; simp, HKz.out⟩
      · cases b
        · go_wp2_with fail
          go_ret
          refine ⟨?_, HKz.out⟩
          rw [HWd.out, HF.out]
          have hr := es_ret (Wd ++ Z) [32, 110, 111] rfl
          simp only [Bool.false_eq_true, if_true, if_false]
          rw [List.append_assoc] at hr
          exact hr
        · go_wp2_with fail
          go_ret
          refine ⟨?_, HKz.out⟩
          rw [HWd.out, HF.out]
          have hr := es_ret (Wd ++ Z) [32, 121, 101, 115] rfl
          simp only [Bool.false_eq_true, if_true, if_false]
          rw [List.append_assoc] at hr
          exact hr
theorem es_no (k y c t m f : Int) (b : Bool) (w : World) (h : evB k y c t m f b = false) : Calls Tryd.prog 12 #[evV k y c t m f b] w fun e w' => e = .returned (.string ⟨[].toArray⟩) ∧ Keeps w w' := by
  have HEO := hide (evok_spec k y c t m f b)
  rw [h] at HEO
  have hkA := Keeps.alloc (Keeps.refl w) (.cells (evCells k y c t m f b) 31)
  go_enter Tryd.func12, Tryd.ntmps12
  go_wp2_with fail
  refine (HEO.out _).mono ?_
  rintro x w1 ⟨rfl, hk1⟩
  have HK := hide (hkA.trans hk1)
  clear hk1 hkA HEO
  go_wp2_with fail
  go_ret
  exact ⟨rfl, HK.out⟩
theorem esx_spec (k y c t m f : Int) (b : Bool) (w : World) : Calls Tryd.prog 12 #[evV k y c t m f b] w fun e w' => e = .returned (.string ⟨(etL k y c t m f b).toArray⟩) ∧ Keeps w w' := by
  unfold etL
  cases h : evB k y c t m f b
  · rw [if_neg (by simp)]
    exact es_no k y c t m f b w h
  · rw [if_pos rfl]
    obtain ⟨⟨k1, k2⟩, _⟩ := ev_bounds h
    have hk : k = 1 ∨ k = 2 ∨ k = 3 ∨ k = 4 ∨ k = 5 ∨ k = 6 ∨ k = 7 ∨ k = 8 ∨ k = 9 ∨ k = 10 ∨ k = 11 := by omega
    rcases hk with rfl | rfl | rfl | rfl | rfl | rfl | rfl | rfl | rfl | rfl | rfl
    · have hx := es_gen 1 (by decide) false false false true false false y c t m f b w h (fun w => has_1 w)
      rw [evT_1]
      simpa [wordL, fldsL, fldL, hasB, numI, sen, senN] using hx
    · have hx := es_gen 2 (by decide) false true false true true false y c t m f b w h (fun w => has_2 w)
      rw [evT_2]
      simpa [wordL, fldsL, fldL, hasB, numI, sen, senN] using hx
    · have hx := es_gen 3 (by decide) false true false false true false y c t m f b w h (fun w => has_3 w)
      rw [evT_3]
      simpa [wordL, fldsL, fldL, hasB, numI, sen, senN] using hx
    · have hx := es_gen 4 (by decide) false true false true true false y c t m f b w h (fun w => has_4 w)
      rw [evT_4]
      simpa [wordL, fldsL, fldL, hasB, numI, sen, senN] using hx
    · have hx := es_gen 5 (by decide) true true true true false true y c t m f b w h (fun w => has_5 w)
      rw [evT_5]
      simpa [wordL, fldsL, fldL, hasB, numI, sen, senN] using hx
    · have hx := es_gen 6 (by decide) true false false false false false y c t m f b w h (fun w => has_6 w)
      rw [evT_6]
      simpa [wordL, fldsL, fldL, hasB, numI, sen, senN] using hx
    · have hx := es_gen 7 (by decide) true false false false false false y c t m f b w h (fun w => has_7 w)
      rw [evT_7]
      simpa [wordL, fldsL, fldL, hasB, numI, sen, senN] using hx
    · have hx := es_gen 8 (by decide) false false false false false false y c t m f b w h (fun w => has_8 w)
      rw [evT_8]
      simpa [wordL, fldsL, fldL, hasB, numI, sen, senN] using hx
    · have hx := es_gen 9 (by decide) true true true true true false y c t m f b w h (fun w => has_9 w)
      rw [evT_9]
      simpa [wordL, fldsL, fldL, hasB, numI, sen, senN] using hx
    · have hx := es_gen 10 (by decide) true false false false false false y c t m f b w h (fun w => has_10 w)
      rw [evT_10]
      simpa [wordL, fldsL, fldL, hasB, numI, sen, senN] using hx
    · have hx := es_gen 11 (by decide) true false false false false false y c t m f b w h (fun w => has_11 w)
      rw [evT_11]
      simpa [wordL, fldsL, fldL, hasB, numI, sen, senN] using hx
end Go.Proofs.YtjihinkjcplgcaaDoor
