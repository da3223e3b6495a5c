/- Texts of the verifier, joined: Esx, StS. -/
import Derived.Test.YtkgpoghoilffhaaGreatDoorSC3
import Derived.Test.YtkgpoghoilffhaaGreatDoorSC5
import Derived.Test.YtkgpoghoilffhaaGreatDoorSC4
import Derived.Test.YtkgpoghoilffhaaGreatDoorSC6
import Derived.Handy
import Derived.Test.YtkgpoghoilffhaaGreatDoorSC12
namespace Go.Proofs.YtkgpoghoilffhaaGreatDoor
open Go.RowKit
set_option linter.unusedVariables false
set_option linter.unusedSimpArgs false
set_option maxRecDepth 10000
/-- The words of the kinds. -/
def wordL (k : Nat) : List UInt8 := if k = 1 then [100, 101, 112, 111, 115, 105, 116] else if k = 2 then [111, 112, 101, 110] else if k = 3 then [99, 108, 111, 115, 101] else if k = 4 then [112, 114, 105, 99, 101] else if k = 5 then [97, 100, 109, 105, 116] else if k = 6 then [102, 117, 108, 102, 105, 108, 108] else if k = 7 then [102, 97, 105, 108] else if k = 8 then [116, 105, 99, 107] else if k = 9 then [108, 97, 117, 110, 99, 104] else if k = 10 then [97, 114, 114, 105, 118, 101] else if k = 11 then [108, 111, 115, 116] else []
def wordsC : Array Value := #[.string ⟨(wordL 0).toArray⟩, .string ⟨(wordL 1).toArray⟩, .string ⟨(wordL 2).toArray⟩, .string ⟨(wordL 3).toArray⟩, .string ⟨(wordL 4).toArray⟩, .string ⟨(wordL 5).toArray⟩, .string ⟨(wordL 6).toArray⟩, .string ⟨(wordL 7).toArray⟩, .string ⟨(wordL 8).toArray⟩, .string ⟨(wordL 9).toArray⟩, .string ⟨(wordL 10).toArray⟩, .string ⟨(wordL 11).toArray⟩]
theorem words_row : ∀ i, i < wordsC.size → wordsC[i]? = some (.string ⟨(wordL i).toArray⟩)
  | 0, _ => rfl
  | 1, _ => rfl
  | 2, _ => rfl
  | 3, _ => rfl
  | 4, _ => rfl
  | 5, _ => rfl
  | 6, _ => rfl
  | 7, _ => rfl
  | 8, _ => rfl
  | 9, _ => rfl
  | 10, _ => rfl
  | 11, _ => rfl
theorem words_k (w : World) : Calls Tryz.prog 62 #[] w fun e w' => e = .returned (.slice (some ⟨w.heap.size, 0, none⟩) 12 12) ∧ w' = w.alloc (.cells wordsC 9) := by
  go_enter Tryz.func62, Tryz.ntmps62
  go_wp2
  go_ret
  exact ⟨rfl, rfl⟩
def fldL (h : Bool) (n : Int) : List UInt8 := if h = true then 32 :: numT n else []
def hasB (h0 h1 h2 h3 h4 h5 : Bool) (i : Nat) : Bool := if i = 0 then h0 else if i = 1 then h1 else if i = 2 then h2 else if i = 3 then h3 else if i = 4 then h4 else h5
def numI (y c t m f : Int) (i : Nat) : Int := if i = 0 then y else if i = 1 then c else if i = 2 then t else if i = 3 then m else f
def fldsL (h : Nat → Bool) (n : Nat → Int) : Nat → List UInt8
  | 0 => []
  | i + 1 => fldsL h n i ++ fldL (h i) (n i)
theorem flds_len (h : Nat → Bool) (n : Nat → Int) : ∀ i, (fldsL h n i).length ≤ 22 * i
  | 0 => by simp [fldsL]
  | i + 1 => by
    have h1 := flds_len h n i
    have h2 := numT_len (n i)
    unfold fldsL fldL
    split
    · simp; omega
    · simp; omega
theorem word_len (k : Nat) : (wordL k).length ≤ 7 := by
  unfold wordL
  repeat' split
  all_goals simp
theorem es_add {W Z : List UInt8} {n : Int} : (.string (((⟨(W ++ Z).toArray⟩ : ByteArray) ++ ⟨#[32]⟩) ++ ⟨(numT n).toArray⟩) : Value) = .string ⟨(W ++ (Z ++ 32 :: numT n)).toArray⟩ := by
  have e : (⟨#[32]⟩ : ByteArray) = ⟨[(32 : UInt8)].toArray⟩ := rfl
  rw [e, ByteArray.mk_append_mk, ByteArray.mk_append_mk]; simp
theorem es_ret (X Y : List UInt8) {A : ByteArray} (h : A = ⟨Y.toArray⟩) : Ending.returned (.string ((⟨X.toArray⟩ : ByteArray) ++ A)) = .returned (.string ⟨(X ++ Y).toArray⟩) := by
  rw [h, ByteArray.mk_append_mk]; try simp
theorem onceT0 {P : Program} {c : Code} {Q : Exit → Act → World → Prop} {a : Act} {w : World} (F : World → Prop) (A : Act) (h1 : c.wp P (Exit.then (fun a' w' => a' = A ∧ F w') (fun _ _ _ => False)) a w) (h2 : ∀ w', F w' → Q .normal A w') : c.wp P Q a w :=
  wp_mono h1 (fun e a' w' h => by
    cases e with
    | normal => obtain ⟨rfl, hF⟩ := h; exact h2 w' hF
    | _ => exact False.elim h)
theorem has_row (h0 h1 h2 h3 h4 h5 : Bool) : ∀ i, i < (#[.bool h0, .bool h1, .bool h2, .bool h3, .bool h4, .bool h5] : Array Value).size → (#[.bool h0, .bool h1, .bool h2, .bool h3, .bool h4, .bool h5] : Array Value)[i]? = some (.bool (hasB h0 h1 h2 h3 h4 h5 i))
  | 0, _ => rfl
  | 1, _ => rfl
  | 2, _ => rfl
  | 3, _ => rfl
  | 4, _ => rfl
  | 5, _ => rfl
theorem num_row (y c t m f : Int) : ∀ i, i < (#[.int .i64 y, .int .i64 c, .int .i64 t, .int .i64 m, .int .i64 f] : Array Value).size → (#[.int .i64 y, .int .i64 c, .int .i64 t, .int .i64 m, .int .i64 f] : Array Value)[i]? = some (.int .i64 (numI y c t m f i))
  | 0, _ => rfl
  | 1, _ => rfl
  | 2, _ => rfl
  | 3, _ => rfl
  | 4, _ => rfl
set_option maxRecDepth 100000 in
set_option maxHeartbeats 4000000 in
theorem es_gen (k : Nat) (hk : k ≤ 11) (h0 h1 h2 h3 h4 h5 : Bool) (y c t m f : Int) (b : Bool) (w : World) (hB : evB k y c t m f b = true) (hH : ∀ w, Calls Tryz.prog 63 #[.int .i64 (k : Int)] w (hasPost h0 h1 h2 h3 h4 h5 w)) :
    Calls Tryz.prog 55 #[evV k y c t m f b] w fun e w' => e = .returned (.string ⟨(wordL k ++ fldsL (hasB h0 h1 h2 h3 h4 h5) (numI y c t m f) 5 ++ (if h5 = true then (if b = true then [32, 121, 101, 115] else [32, 110, 111]) else [])).toArray⟩) ∧ Keeps w w' := by
  have HEO := hide (evok_spec k y c t m f b)
  rw [hB] at HEO
  have HH := hide hH
  have hkA := Keeps.alloc (Keeps.refl w) (.cells (evCells k y c t m f b) 28)
  have HD : Hid (∀ w', Keeps (w.alloc (.cells (evCells k y c t m f b) 28)) w' → w'.cell? ⟨w.heap.size, 0, none⟩ = some (.int .i64 k) ∧ w'.cell? ⟨w.heap.size, 1, none⟩ = some (.int .i64 y) ∧ w'.cell? ⟨w.heap.size, 2, none⟩ = some (.int .i64 c) ∧ w'.cell? ⟨w.heap.size, 3, none⟩ = some (.int .i64 t) ∧ w'.cell? ⟨w.heap.size, 4, none⟩ = some (.int .i64 m) ∧ w'.cell? ⟨w.heap.size, 5, none⟩ = some (.int .i64 f) ∧ w'.cell? ⟨w.heap.size, 6, none⟩ = some (.bool b)) :=
    fun w' hk => ⟨hk.cell (by simp), hk.cell (by simp), hk.cell (by simp), hk.cell (by simp), hk.cell (by simp), hk.cell (by simp), hk.cell (by simp)⟩
  clear hB hH
  go_enter Tryz.func55, Tryz.ntmps55
  go_wp2_with fail
  refine (HEO.out _).mono ?_
  rintro x w1 ⟨rfl, hk1⟩
  have HK := hide (hkA.trans hk1)
  obtain ⟨c0, c1, c2, c3, c4, c5, c6⟩ := HD.out w1 hk1
  have HKA := hide hk1
  clear hk1 hkA HEO HD
  go_wp2_with fail
  have hwc : (w1.alloc (.cells wordsC 9)).cell? ⟨w1.heap.size, k, none⟩ = some (.string ⟨(wordL k).toArray⟩) := (World.rowIs_alloc w1 wordsC 9 (fun i => .string ⟨(wordL i).toArray⟩) words_row).cell (i := k) (by show k < 12; omega)
  have hk2 := Keeps.alloc (Keeps.refl w1) (.cells wordsC 9)
  have d0 := hk2.cell c0
  have lt0 := lt_of_cell c0
  apply onceT0 (fun w' => Keeps w1 w')
  · skip
    go_region_with (go_at_call 62; refine (words_k _).mono ?_; rintro x w2 ⟨rfl, rfl⟩)
    all_goals first
      | exact ⟨rfl, hk2⟩
      | exact ⟨rfl, hk2.drew⟩
  clear d0 lt0 hwc hk2
  intro w2 hk2
  have e0 := hk2.cell c0
  have e1 := hk2.cell c1
  have e2 := hk2.cell c2
  have e3 := hk2.cell c3
  have e4 := hk2.cell c4
  have e5 := hk2.cell c5
  have e6 := hk2.cell c6
  replace HK := hide (HK.out.trans hk2)
  clear c0 c1 c2 c3 c4 c5 c6 hk2 HKA
  have wl := word_len k
  obtain ⟨Wd, hWd⟩ : ∃ Wd, wordL k = Wd := ⟨_, rfl⟩
  rw [hWd] at wl ⊢
  have HWd := hide hWd
  clear hWd
  go_wp2_with fail
  refine (HH.out w2).mono ?_
  rintro x w3 ⟨rfl, rfl⟩
  have hk3 := Keeps.alloc (Keeps.refl w2) (.cells #[.bool h0, .bool h1, .bool h2, .bool h3, .bool h4, .bool h5] 4)
  have HB := hide (World.rowIs_alloc w2 #[.bool h0, .bool h1, .bool h2, .bool h3, .bool h4, .bool h5] 4 _ (has_row h0 h1 h2 h3 h4 h5))
  replace e0 := hk3.cell e0
  replace e1 := hk3.cell e1
  replace e2 := hk3.cell e2
  replace e3 := hk3.cell e3
  replace e4 := hk3.cell e4
  replace e5 := hk3.cell e5
  replace e6 := hk3.cell e6
  replace HK := hide (HK.out.trans hk3)
  clear hk3 HH
  generalize w2.alloc (.cells #[.bool h0, .bool h1, .bool h2, .bool h3, .bool h4, .bool h5] 4) = w3 at *
  generalize w2.heap.size = bH at *
  have hk4 := Keeps.alloc (Keeps.refl w3) (.cells #[.int .i64 y, .int .i64 c, .int .i64 t, .int .i64 m, .int .i64 f] 3)
  have HN := hide (World.rowIs_alloc w3 #[.int .i64 y, .int .i64 c, .int .i64 t, .int .i64 m, .int .i64 f] 3 _ (num_row y c t m f))
  have HK4 := hide hk4
  clear hk4
  have HHB : Hid (∀ i, i < 6 → w3.cell? ⟨bH, i, none⟩ = some (.bool (hasB h0 h1 h2 h3 h4 h5 i))) := fun i hi => HB.out.cell (i := i) hi
  go_wp2_with fail
  generalize w3.alloc (.cells #[.int .i64 y, .int .i64 c, .int .i64 t, .int .i64 m, .int .i64 f] 3) = w4 at *
  generalize w3.heap.size = bN at *
  have HHN : Hid (∀ i, i < 5 → w4.cell? ⟨bN, i, none⟩ = some (.int .i64 (numI y c t m f i))) := fun i hi => HN.out.cell (i := i) hi
  have hb5 : hasB h0 h1 h2 h3 h4 h5 5 = h5 := rfl
  obtain ⟨Hh, hHh⟩ : ∃ Hh, hasB h0 h1 h2 h3 h4 h5 = Hh := ⟨_, rfl⟩
  obtain ⟨Nn, hNn⟩ : ∃ Nn, numI y c t m f = Nn := ⟨_, rfl⟩
  rw [hHh] at hb5 HHB
  rw [hNn] at HHN
  have HHh := hide hHh
  have HNn := hide hNn
  clear hHh hNn
  clear HN HB
  go_loopw [3, 30] (fun o y wr => ∃ i : Nat, i ≤ 5 ∧ y = .int .i64 (i : Int) ∧ o = .string ⟨(Wd ++ fldsL Hh Nn i).toArray⟩ ∧ Hid (Keeps w4 wr)) (fun _ y _ => 5 - (intOf y).toNat)
  case atStart => exact ⟨0, by omega, rfl, by simp [fldsL], Keeps.refl _⟩
  case round =>
    obtain ⟨i, hi, rfl, rfl, HKr⟩ := hrel
    have hl1 := flds_len Hh Nn i
    by_cases hlt : i < 5
    · have n0 := HKr.out.cell (HHN.out i hlt)
      have b0 := (HK4.out.trans HKr.out).cell (HHB.out i (by omega))
      have HS : Hid (fldsL Hh Nn (i + 1) = fldsL Hh Nn i ++ fldL (Hh i) (Nn i)) := rfl
      generalize fldsL Hh Nn i = Z at *
      cases hh : Hh i
      · rw [hh] at HS b0
        go_wp2_with fail
        go_roundw
        case rel => exact ⟨i + 1, by omega, by go_num, by rw [HS.out]; simp [fldL], HKr⟩
        case measure => simp [intOf]; omega
      · rw [hh] at HS b0
        have hl3 := numT_len (Nn i)
        go_wp2_with fail
        refine (num_spec (Nn i) wr).mono ?_
        rintro x w5 ⟨rfl, hk5⟩
        have HK5 := hide (HKr.out.trans hk5)
        clear hk5 n0 b0
        go_wp2_with fail
        go_roundw
        case rel => exact ⟨i + 1, by omega, by go_num, by rw [HS.out, es_add]; rfl, HK5⟩
        case measure => simp [intOf]; omega
    · have e : i = 5 := by omega
      subst e
      have b5 := (HK4.out.trans HKr.out).cell (HHB.out 5 (by omega))
      rw [hb5] at b5
      replace e6 := (HK4.out.trans HKr.out).cell e6
      have HKz := hide (HK.out.trans (HK4.out.trans HKr.out))
      clear e0 e1 e2 e3 e4 e5
      have HF : Hid (fldsL (hasB h0 h1 h2 h3 h4 h5) (numI y c t m f) 5 = fldsL Hh Nn 5) := by show _ = _; rw [HHh.out, HNn.out]
      generalize fldsL Hh Nn 5 = Z at *
      cases h5
      · go_wp2_with fail
        go_ret
        exact ⟨by rw [HWd.out, HF.out]; simp, HKz.out⟩
      · cases b
        · go_wp2_with fail
          go_ret
          refine ⟨?_, HKz.out⟩
          rw [HWd.out, HF.out]
          have hr := es_ret (Wd ++ Z) [32, 110, 111] rfl
          simp only [Bool.false_eq_true, if_true, if_false]
          rw [List.append_assoc] at hr
          exact hr
        · go_wp2_with fail
          go_ret
          refine ⟨?_, HKz.out⟩
          rw [HWd.out, HF.out]
          have hr := es_ret (Wd ++ Z) [32, 121, 101, 115] rfl
          simp only [Bool.false_eq_true, if_true, if_false]
          rw [List.append_assoc] at hr
          exact hr
theorem es_no (k y c t m f : Int) (b : Bool) (w : World) (h : evB k y c t m f b = false) : Calls Tryz.prog 55 #[evV k y c t m f b] w fun e w' => e = .returned (.string ⟨[].toArray⟩) ∧ Keeps w w' := by
  have HEO := hide (evok_spec k y c t m f b)
  rw [h] at HEO
  have hkA := Keeps.alloc (Keeps.refl w) (.cells (evCells k y c t m f b) 28)
  go_enter Tryz.func55, Tryz.ntmps55
  go_wp2_with fail
  refine (HEO.out _).mono ?_
  rintro x w1 ⟨rfl, hk1⟩
  have HK := hide (hkA.trans hk1)
  clear hk1 hkA HEO
  go_wp2_with fail
  go_ret
  exact ⟨rfl, HK.out⟩
theorem esx_spec (k y c t m f : Int) (b : Bool) (w : World) : Calls Tryz.prog 55 #[evV k y c t m f b] w fun e w' => e = .returned (.string ⟨(etL k y c t m f b).toArray⟩) ∧ Keeps w w' := by
  unfold etL
  cases h : evB k y c t m f b
  · rw [if_neg (by simp)]
    exact es_no k y c t m f b w h
  · rw [if_pos rfl]
    obtain ⟨⟨k1, k2⟩, _⟩ := ev_bounds h
    have hk : k = 1 ∨ k = 2 ∨ k = 3 ∨ k = 4 ∨ k = 5 ∨ k = 6 ∨ k = 7 ∨ k = 8 ∨ k = 9 ∨ k = 10 ∨ k = 11 := by omega
    rcases hk with rfl | rfl | rfl | rfl | rfl | rfl | rfl | rfl | rfl | rfl | rfl
    · have hx := es_gen 1 (by decide) false false false true false false y c t m f b w h (fun w => has_1 w)
      rw [evT_1]
      simpa [wordL, fldsL, fldL, hasB, numI, sen, senN] using hx
    · have hx := es_gen 2 (by decide) false true false true true false y c t m f b w h (fun w => has_2 w)
      rw [evT_2]
      simpa [wordL, fldsL, fldL, hasB, numI, sen, senN] using hx
    · have hx := es_gen 3 (by decide) false true false false true false y c t m f b w h (fun w => has_3 w)
      rw [evT_3]
      simpa [wordL, fldsL, fldL, hasB, numI, sen, senN] using hx
    · have hx := es_gen 4 (by decide) false true false true true false y c t m f b w h (fun w => has_4 w)
      rw [evT_4]
      simpa [wordL, fldsL, fldL, hasB, numI, sen, senN] using hx
    · have hx := es_gen 5 (by decide) true true true true false true y c t m f b w h (fun w => has_5 w)
      rw [evT_5]
      simpa [wordL, fldsL, fldL, hasB, numI, sen, senN] using hx
    · have hx := es_gen 6 (by decide) true false false false false false y c t m f b w h (fun w => has_6 w)
      rw [evT_6]
      simpa [wordL, fldsL, fldL, hasB, numI, sen, senN] using hx
    · have hx := es_gen 7 (by decide) true false false false false false y c t m f b w h (fun w => has_7 w)
      rw [evT_7]
      simpa [wordL, fldsL, fldL, hasB, numI, sen, senN] using hx
    · have hx := es_gen 8 (by decide) false false false false false false y c t m f b w h (fun w => has_8 w)
      rw [evT_8]
      simpa [wordL, fldsL, fldL, hasB, numI, sen, senN] using hx
    · have hx := es_gen 9 (by decide) true true true true true false y c t m f b w h (fun w => has_9 w)
      rw [evT_9]
      simpa [wordL, fldsL, fldL, hasB, numI, sen, senN] using hx
    · have hx := es_gen 10 (by decide) true false false false false false y c t m f b w h (fun w => has_10 w)
      rw [evT_10]
      simpa [wordL, fldsL, fldL, hasB, numI, sen, senN] using hx
    · have hx := es_gen 11 (by decide) true false false false false false y c t m f b w h (fun w => has_11 w)
      rw [evT_11]
      simpa [wordL, fldsL, fldL, hasB, numI, sen, senN] using hx
end Go.Proofs.YtkgpoghoilffhaaGreatDoor
namespace Go.Proofs.YtkgpoghoilffhaaGreatDoor
open Go.RowKit Go.Deep
set_option linter.unusedVariables false
set_option linter.unusedSimpArgs false
set_option maxRecDepth 10000
theorem neq_of_eql {t : TypeId} {xs ys : Array Value} {X : Bool} {w : World} (h : (binOp .eql t (.agg xs) (.agg ys)).run Tryz.prog w = .ok (.bool X) w) : (binOp .neq t (.agg xs) (.agg ys)).run Tryz.prog w = .ok (.bool (!X)) w := by
  rw [run_eql_struct] at h
  rw [run_neq_struct]
  cases hq : (Op.equalIn 10000 t (.agg xs) (.agg ys)).run Tryz.prog w with
  | ok b w' =>
    rw [hq] at h
    simp [Result.andThen] at h ⊢
    exact h
  | _ => rw [hq] at h; simp [Result.andThen] at h
set_option maxHeartbeats 4000000 in
theorem norule_k (r : Rul) (w : World) : Calls Tryz.prog 53 #[r.v] w fun e w' => e = .returned (.bool (zeroR r)) ∧ Keeps w w' := by
  have HK := hide (Keeps.alloc (Keeps.refl w) (.cells #[.int .i64 r.lo, .int .i64 r.hi, .int .i64 r.st, .int .i64 r.mi, .int .i64 r.ma] 31))
  have q2 : ∀ w, (binOp .eql 31 r.v noR.v).run Tryz.prog w = .ok (.bool (zeroR r)) w := rul_eql r noR
  dsimp only [Rul.v, noR] at q2 ⊢
  generalize zeroR r = z at *
  go_enter Tryz.func53, Tryz.ntmps53
  go_wp2_with fail
  go_ret
  exact ⟨rfl, HK.out⟩
theorem stp_zero (W : World) (ty : TypeId) : ∀ w', Keeps (W.alloc (.cells #[.int .i64 0, .int .i64 0, .int .i64 0, .int .i64 0, .int .i64 0, .int .i64 0, .bool false] ty)) w' → w'.cell? ⟨W.heap.size, 0, none⟩ = some (.int .i64 0) ∧ w'.cell? ⟨W.heap.size, 1, none⟩ = some (.int .i64 0) ∧ w'.cell? ⟨W.heap.size, 2, none⟩ = some (.int .i64 0) ∧ w'.cell? ⟨W.heap.size, 3, none⟩ = some (.int .i64 0) ∧ w'.cell? ⟨W.heap.size, 4, none⟩ = some (.int .i64 0) ∧ w'.cell? ⟨W.heap.size, 5, none⟩ = some (.int .i64 0) ∧ w'.cell? ⟨W.heap.size, 6, none⟩ = some (.bool false) :=
  fun w' hk => ⟨hk.cell (by simp), hk.cell (by simp), hk.cell (by simp), hk.cell (by simp), hk.cell (by simp), hk.cell (by simp), hk.cell (by simp)⟩
theorem Keeps.cells14 {w w' : World} (hk : Keeps w w') {b : Nat} {v0 v1 v2 v3 v4 v5 v6 v7 v8 v9 v10 v11 v12 v13 : Value} (c0 : w.cell? ⟨b, 0, none⟩ = some v0) (c1 : w.cell? ⟨b, 1, none⟩ = some v1) (c2 : w.cell? ⟨b, 2, none⟩ = some v2) (c3 : w.cell? ⟨b, 3, none⟩ = some v3) (c4 : w.cell? ⟨b, 4, none⟩ = some v4) (c5 : w.cell? ⟨b, 5, none⟩ = some v5) (c6 : w.cell? ⟨b, 6, none⟩ = some v6) (c7 : w.cell? ⟨b, 7, none⟩ = some v7) (c8 : w.cell? ⟨b, 8, none⟩ = some v8) (c9 : w.cell? ⟨b, 9, none⟩ = some v9) (c10 : w.cell? ⟨b, 10, none⟩ = some v10) (c11 : w.cell? ⟨b, 11, none⟩ = some v11) (c12 : w.cell? ⟨b, 12, none⟩ = some v12) (c13 : w.cell? ⟨b, 13, none⟩ = some v13) :
    w'.cell? ⟨b, 0, none⟩ = some v0 ∧ w'.cell? ⟨b, 1, none⟩ = some v1 ∧ w'.cell? ⟨b, 2, none⟩ = some v2 ∧ w'.cell? ⟨b, 3, none⟩ = some v3 ∧ w'.cell? ⟨b, 4, none⟩ = some v4 ∧ w'.cell? ⟨b, 5, none⟩ = some v5 ∧ w'.cell? ⟨b, 6, none⟩ = some v6 ∧ w'.cell? ⟨b, 7, none⟩ = some v7 ∧ w'.cell? ⟨b, 8, none⟩ = some v8 ∧ w'.cell? ⟨b, 9, none⟩ = some v9 ∧ w'.cell? ⟨b, 10, none⟩ = some v10 ∧ w'.cell? ⟨b, 11, none⟩ = some v11 ∧ w'.cell? ⟨b, 12, none⟩ = some v12 ∧ w'.cell? ⟨b, 13, none⟩ = some v13 :=
  ⟨hk.cell c0, hk.cell c1, hk.cell c2, hk.cell c3, hk.cell c4, hk.cell c5, hk.cell c6, hk.cell c7, hk.cell c8, hk.cell c9, hk.cell c10, hk.cell c11, hk.cell c12, hk.cell c13⟩
def stG (D : Stp) (ok : Bool) : List UInt8 := if ok = true then stT D else []
theorem ret_stG {X : List UInt8} {D : Stp} {ok : Bool} (h : X = stG D ok) : Ending.returned (.string ⟨X.toArray⟩) = .returned (.string ⟨(stG D ok).toArray⟩) := by rw [h]
theorem ret_none {D : Stp} {ok : Bool} (h : ok = false) : Ending.returned (.string ByteArray.empty) = .returned (.string ⟨(stG D ok).toArray⟩) := by rw [h]; rfl
theorem et_len (k y c t m f : Int) (b : Bool) : (etL k y c t m f b).length ≤ 200 := by
  unfold etL
  split
  · next h =>
    have hk := (ev_bounds h).1
    have hs : ∀ (W : List UInt8) (ns : List Int), W.length ≤ 8 → ns.length ≤ 5 → (sen W ns).length ≤ 118 := by
      intro W ns h1 h2
      have := senN_len ns
      unfold sen
      simp only [List.length_append]
      omega
    have hq : k = 1 ∨ k = 2 ∨ k = 3 ∨ k = 4 ∨ k = 5 ∨ k = 6 ∨ k = 7 ∨ k = 8 ∨ k = 9 ∨ k = 10 ∨ k = 11 := by omega
    rcases hq with rfl | rfl | rfl | rfl | rfl | rfl | rfl | rfl | rfl | rfl | rfl
    · rw [evT_1]; exact Nat.le_trans (hs _ _ (by simp) (by simp)) (by decide)
    · rw [evT_2]; exact Nat.le_trans (hs _ _ (by simp) (by simp)) (by decide)
    · rw [evT_3]; exact Nat.le_trans (hs _ _ (by simp) (by simp)) (by decide)
    · rw [evT_4]; exact Nat.le_trans (hs _ _ (by simp) (by simp)) (by decide)
    · rw [evT_5, List.length_append]
      have h1 := hs [97, 100, 109, 105, 116] [y, c, t, m] (by simp) (by simp)
      split <;> simp only [List.length_cons, List.length_nil] <;> omega
    · rw [evT_6]; exact Nat.le_trans (hs _ _ (by simp) (by simp)) (by decide)
    · rw [evT_7]; exact Nat.le_trans (hs _ _ (by simp) (by simp)) (by decide)
    · rw [evT_8]; exact Nat.le_trans (hs _ _ (by simp) (by simp)) (by decide)
    · rw [evT_9]; exact Nat.le_trans (hs _ _ (by simp) (by simp)) (by decide)
    · rw [evT_10]; exact Nat.le_trans (hs _ _ (by simp) (by simp)) (by decide)
    · rw [evT_11]; exact Nat.le_trans (hs _ _ (by simp) (by simp)) (by decide)
  · simp
set_option maxHeartbeats 2000000 in
theorem steps_2 (e : Ev) (ks : List Int) (r : Rul) (a : Option Addr) (c : Nat) (zE zK zR bE bR : Bool) (w : World) (hc : Cells w a (its ks)) (hl : ks.length ≤ 1048576) (hzE : ∀ w, (binOp .eql 28 (evV e.k e.y e.c e.t e.m e.f e.b) (evV 0 0 0 0 0 0 false)).run Tryz.prog w = .ok (.bool zE) w) (hzK : noK ks = zK)
    (hE : ∀ w, Calls Tryz.prog 54 #[evV e.k e.y e.c e.t e.m e.f e.b] w fun x w' => x = .returned (.bool bE) ∧ Keeps w w') (hN : ∀ w, Calls Tryz.prog 53 #[r.v] w fun x w' => x = .returned (.bool zR) ∧ Keeps w w') (hR : ∀ w, Calls Tryz.prog 58 #[r.v] w fun x w' => x = .returned (.bool bR) ∧ Keeps w w') :
    Calls Tryz.prog 30 #[Stp.v ⟨2, e, ks, r⟩ a c] w fun x w' => x = .returned (.string ⟨(stG ⟨2, e, ks, r⟩ (stF 2 zE zK zR bE (allA ks) bR)).toArray⟩) ∧ Keeps w w' := by
  have HK := hide (Keeps.alloc (Keeps.alloc (Keeps.refl w) (.cells (Stp.cells ⟨2, e, ks, r⟩ a c) 33)) (.cells #[.int .i64 0, .int .i64 0, .int .i64 0, .int .i64 0, .int .i64 0, .int .i64 0, .bool false] 28))
  have HK12 := hide (Keeps.alloc (Keeps.refl (w.alloc (.cells (Stp.cells ⟨2, e, ks, r⟩ a c) 33))) (.cells #[.int .i64 0, .int .i64 0, .int .i64 0, .int .i64 0, .int .i64 0, .int .i64 0, .bool false] 28))
  have HB := hide (stp_box ⟨2, e, ks, r⟩ a c w 33)
  have HZ := hide (stp_zero (w.alloc (.cells (Stp.cells ⟨2, e, ks, r⟩ a c) 33)) 28)
  have hsz : (w.alloc (.cells (Stp.cells ⟨2, e, ks, r⟩ a c) 33)).heap.size = w.heap.size + 1 := by simp
  rw [hsz] at HZ
  have HC := hide hc
  have HE := hide hE
  have HN := hide hN
  have HR := hide hR
  have hzN := fun w => neq_of_eql (hzE w)
  dsimp only [Rul.v] at HR HN
  clear hE hN hR hsz hc hzE
  go_enter Tryz.func30, Tryz.ntmps30
  go_upto_region 2 with fail
  generalize w.alloc (.cells (Stp.cells ⟨2, e, ks, r⟩ a c) 33) = W1 at *
  generalize W1.alloc (.cells #[.int .i64 0, .int .i64 0, .int .i64 0, .int .i64 0, .int .i64 0, .int .i64 0, .bool false] 28) = W2 at *
  obtain ⟨c0, ⟨c1, c2, c3, c4, c5, c6, c7⟩, c8, c9, c10, c11, c12, c13⟩ := HB.out W2 HK12.out
  obtain ⟨z0, z1, z2, z3, z4, z5, z6⟩ := HZ.out W2 (Keeps.refl _)
  cases zE
  · go_wp2_with fail
    go_ret
    exact ⟨ret_none (by simp [stF]), HK.out⟩
  cases zK
  · have hkp : 0 < ks.length := by
      cases ks with
      | nil => simp [noK] at hzK
      | cons x t => simp
    clear hzK
    go_wp2_with fail
    go_ret
    exact ⟨ret_none (by simp [stF]), HK.out⟩
  · obtain rfl := noK_eq hzK
    clear hzK
    go_wp2_with fail
    refine (unhide HN _).mono ?_
    rintro x w1 ⟨rfl, hk1⟩
    have hcl := HB.out w1 (HK12.out.trans hk1)
    have HK1 := hide (HK.out.trans hk1)
    clear hk1 HK c0 c1 c2 c3 c4 c5 c6 c7 c8 c9 c10 c11 c12 c13 z0 z1 z2 z3 z4 z5 z6
    obtain ⟨c0, ⟨c1, c2, c3, c4, c5, c6, c7⟩, c8, c9, c10, c11, c12, c13⟩ := hcl
    cases zR
    · go_wp2_with fail
      go_ret
      exact ⟨ret_none (by simp [stF]), HK1.out⟩
    go_wp2_with fail
    go_ret
    exact ⟨ret_stG (X := [115, 121, 110, 99]) (by simp [stG, stF, stT]), HK1.out⟩
set_option maxHeartbeats 2000000 in
theorem steps_4 (e : Ev) (ks : List Int) (r : Rul) (a : Option Addr) (c : Nat) (zE zK zR bE bR : Bool) (w : World) (hc : Cells w a (its ks)) (hl : ks.length ≤ 1048576) (hzE : ∀ w, (binOp .eql 28 (evV e.k e.y e.c e.t e.m e.f e.b) (evV 0 0 0 0 0 0 false)).run Tryz.prog w = .ok (.bool zE) w) (hzK : noK ks = zK)
    (hE : ∀ w, Calls Tryz.prog 54 #[evV e.k e.y e.c e.t e.m e.f e.b] w fun x w' => x = .returned (.bool bE) ∧ Keeps w w') (hN : ∀ w, Calls Tryz.prog 53 #[r.v] w fun x w' => x = .returned (.bool zR) ∧ Keeps w w') (hR : ∀ w, Calls Tryz.prog 58 #[r.v] w fun x w' => x = .returned (.bool bR) ∧ Keeps w w') :
    Calls Tryz.prog 30 #[Stp.v ⟨4, e, ks, r⟩ a c] w fun x w' => x = .returned (.string ⟨(stG ⟨4, e, ks, r⟩ (stF 4 zE zK zR bE (allA ks) bR)).toArray⟩) ∧ Keeps w w' := by
  have HK := hide (Keeps.alloc (Keeps.alloc (Keeps.refl w) (.cells (Stp.cells ⟨4, e, ks, r⟩ a c) 33)) (.cells #[.int .i64 0, .int .i64 0, .int .i64 0, .int .i64 0, .int .i64 0, .int .i64 0, .bool false] 28))
  have HK12 := hide (Keeps.alloc (Keeps.refl (w.alloc (.cells (Stp.cells ⟨4, e, ks, r⟩ a c) 33))) (.cells #[.int .i64 0, .int .i64 0, .int .i64 0, .int .i64 0, .int .i64 0, .int .i64 0, .bool false] 28))
  have HB := hide (stp_box ⟨4, e, ks, r⟩ a c w 33)
  have HZ := hide (stp_zero (w.alloc (.cells (Stp.cells ⟨4, e, ks, r⟩ a c) 33)) 28)
  have hsz : (w.alloc (.cells (Stp.cells ⟨4, e, ks, r⟩ a c) 33)).heap.size = w.heap.size + 1 := by simp
  rw [hsz] at HZ
  have HC := hide hc
  have HE := hide hE
  have HN := hide hN
  have HR := hide hR
  have hzN := fun w => neq_of_eql (hzE w)
  dsimp only [Rul.v] at HR HN
  clear hE hN hR hsz hc hzE
  go_enter Tryz.func30, Tryz.ntmps30
  go_upto_region 2 with fail
  generalize w.alloc (.cells (Stp.cells ⟨4, e, ks, r⟩ a c) 33) = W1 at *
  generalize W1.alloc (.cells #[.int .i64 0, .int .i64 0, .int .i64 0, .int .i64 0, .int .i64 0, .int .i64 0, .bool false] 28) = W2 at *
  obtain ⟨c0, ⟨c1, c2, c3, c4, c5, c6, c7⟩, c8, c9, c10, c11, c12, c13⟩ := HB.out W2 HK12.out
  obtain ⟨z0, z1, z2, z3, z4, z5, z6⟩ := HZ.out W2 (Keeps.refl _)
  cases zE
  · go_wp2_with fail
    go_ret
    exact ⟨ret_none (by simp [stF]), HK.out⟩
  cases zK
  · have hkp : 0 < ks.length := by
      cases ks with
      | nil => simp [noK] at hzK
      | cons x t => simp
    clear hzK
    go_wp2_with fail
    go_ret
    exact ⟨ret_none (by simp [stF]), HK.out⟩
  · obtain rfl := noK_eq hzK
    clear hzK
    go_wp2_with fail
    refine (unhide HN _).mono ?_
    rintro x w1 ⟨rfl, hk1⟩
    have hcl := HB.out w1 (HK12.out.trans hk1)
    have HK1 := hide (HK.out.trans hk1)
    clear hk1 HK c0 c1 c2 c3 c4 c5 c6 c7 c8 c9 c10 c11 c12 c13 z0 z1 z2 z3 z4 z5 z6
    obtain ⟨c0, ⟨c1, c2, c3, c4, c5, c6, c7⟩, c8, c9, c10, c11, c12, c13⟩ := hcl
    cases zR
    · go_wp2_with fail
      go_ret
      exact ⟨ret_none (by simp [stF]), HK1.out⟩
    go_wp2_with fail
    go_ret
    exact ⟨ret_stG (X := [115, 116, 97, 114, 116]) (by simp [stG, stF, stT]), HK1.out⟩
set_option maxHeartbeats 2000000 in
theorem steps_0 (k : Int) (e : Ev) (ks : List Int) (r : Rul) (a : Option Addr) (c : Nat) (zE zK zR bE bR : Bool) (w : World) (hc : Cells w a (its ks)) (hl : ks.length ≤ 1048576) (hzE : ∀ w, (binOp .eql 28 (evV e.k e.y e.c e.t e.m e.f e.b) (evV 0 0 0 0 0 0 false)).run Tryz.prog w = .ok (.bool zE) w) (hzK : noK ks = zK)
    (hE : ∀ w, Calls Tryz.prog 54 #[evV e.k e.y e.c e.t e.m e.f e.b] w fun x w' => x = .returned (.bool bE) ∧ Keeps w w') (hN : ∀ w, Calls Tryz.prog 53 #[r.v] w fun x w' => x = .returned (.bool zR) ∧ Keeps w w') (hR : ∀ w, Calls Tryz.prog 58 #[r.v] w fun x w' => x = .returned (.bool bR) ∧ Keeps w w') (hk : k ≠ 1 ∧ k ≠ 2 ∧ k ≠ 3 ∧ k ≠ 4 ∧ k ≠ 5) :
    Calls Tryz.prog 30 #[Stp.v ⟨k, e, ks, r⟩ a c] w fun x w' => x = .returned (.string ⟨(stG ⟨k, e, ks, r⟩ (stF k zE zK zR bE (allA ks) bR)).toArray⟩) ∧ Keeps w w' := by
  have HK := hide (Keeps.alloc (Keeps.alloc (Keeps.refl w) (.cells (Stp.cells ⟨k, e, ks, r⟩ a c) 33)) (.cells #[.int .i64 0, .int .i64 0, .int .i64 0, .int .i64 0, .int .i64 0, .int .i64 0, .bool false] 28))
  have HK12 := hide (Keeps.alloc (Keeps.refl (w.alloc (.cells (Stp.cells ⟨k, e, ks, r⟩ a c) 33))) (.cells #[.int .i64 0, .int .i64 0, .int .i64 0, .int .i64 0, .int .i64 0, .int .i64 0, .bool false] 28))
  have HB := hide (stp_box ⟨k, e, ks, r⟩ a c w 33)
  have HZ := hide (stp_zero (w.alloc (.cells (Stp.cells ⟨k, e, ks, r⟩ a c) 33)) 28)
  have hsz : (w.alloc (.cells (Stp.cells ⟨k, e, ks, r⟩ a c) 33)).heap.size = w.heap.size + 1 := by simp
  rw [hsz] at HZ
  have HC := hide hc
  have HE := hide hE
  have HN := hide hN
  have HR := hide hR
  have hzN := fun w => neq_of_eql (hzE w)
  dsimp only [Rul.v] at HR HN
  clear hE hN hR hsz hc hzE
  go_enter Tryz.func30, Tryz.ntmps30
  go_upto_region 2 with fail
  generalize w.alloc (.cells (Stp.cells ⟨k, e, ks, r⟩ a c) 33) = W1 at *
  generalize W1.alloc (.cells #[.int .i64 0, .int .i64 0, .int .i64 0, .int .i64 0, .int .i64 0, .int .i64 0, .bool false] 28) = W2 at *
  obtain ⟨c0, ⟨c1, c2, c3, c4, c5, c6, c7⟩, c8, c9, c10, c11, c12, c13⟩ := HB.out W2 HK12.out
  obtain ⟨z0, z1, z2, z3, z4, z5, z6⟩ := HZ.out W2 (Keeps.refl _)
  obtain ⟨h1, h2, h3, h4, h5⟩ := hk
  have HF : Hid (stF k zE zK zR bE (allA ks) bR = false) := by show _ = _; simp [stF, h1, h2, h3, h4, h5]
  cases zE
  · go_wp2_with fail
    go_ret
    exact ⟨ret_none HF.out, HK.out⟩
  cases zK
  · have hkp : 0 < ks.length := by
      cases ks with
      | nil => simp [noK] at hzK
      | cons x t => simp
    clear hzK
    go_wp2_with fail
    go_ret
    exact ⟨ret_none HF.out, HK.out⟩
  · obtain rfl := noK_eq hzK
    clear hzK
    go_wp2_with fail
    refine (unhide HN _).mono ?_
    rintro x w1 ⟨rfl, hk1⟩
    have hcl := HB.out w1 (HK12.out.trans hk1)
    have HK1 := hide (HK.out.trans hk1)
    clear hk1 HK c0 c1 c2 c3 c4 c5 c6 c7 c8 c9 c10 c11 c12 c13 z0 z1 z2 z3 z4 z5 z6
    obtain ⟨c0, ⟨c1, c2, c3, c4, c5, c6, c7⟩, c8, c9, c10, c11, c12, c13⟩ := hcl
    cases zR
    · go_wp2_with fail
      go_ret
      exact ⟨ret_none HF.out, HK1.out⟩
    go_wp2_with fail
    go_ret
    exact ⟨ret_none HF.out, HK1.out⟩
set_option maxHeartbeats 2000000 in
theorem steps_1 (e : Ev) (ks : List Int) (r : Rul) (a : Option Addr) (c : Nat) (zE zK zR bE bR : Bool) (w : World) (hbE : evB e.k e.y e.c e.t e.m e.f e.b = bE) (hc : Cells w a (its ks)) (hl : ks.length ≤ 1048576) (hzE : ∀ w, (binOp .eql 28 (evV e.k e.y e.c e.t e.m e.f e.b) (evV 0 0 0 0 0 0 false)).run Tryz.prog w = .ok (.bool zE) w) (hzK : noK ks = zK)
    (hE : ∀ w, Calls Tryz.prog 54 #[evV e.k e.y e.c e.t e.m e.f e.b] w fun x w' => x = .returned (.bool bE) ∧ Keeps w w') (hN : ∀ w, Calls Tryz.prog 53 #[r.v] w fun x w' => x = .returned (.bool zR) ∧ Keeps w w') (hR : ∀ w, Calls Tryz.prog 58 #[r.v] w fun x w' => x = .returned (.bool bR) ∧ Keeps w w') :
    Calls Tryz.prog 30 #[Stp.v ⟨1, e, ks, r⟩ a c] w fun x w' => x = .returned (.string ⟨(stG ⟨1, e, ks, r⟩ (stF 1 zE zK zR bE (allA ks) bR)).toArray⟩) ∧ Keeps w w' := by
  have HBE := hide hbE
  clear hbE
  have HK := hide (Keeps.alloc (Keeps.alloc (Keeps.refl w) (.cells (Stp.cells ⟨1, e, ks, r⟩ a c) 33)) (.cells #[.int .i64 0, .int .i64 0, .int .i64 0, .int .i64 0, .int .i64 0, .int .i64 0, .bool false] 28))
  have HK12 := hide (Keeps.alloc (Keeps.refl (w.alloc (.cells (Stp.cells ⟨1, e, ks, r⟩ a c) 33))) (.cells #[.int .i64 0, .int .i64 0, .int .i64 0, .int .i64 0, .int .i64 0, .int .i64 0, .bool false] 28))
  have HB := hide (stp_box ⟨1, e, ks, r⟩ a c w 33)
  have HZ := hide (stp_zero (w.alloc (.cells (Stp.cells ⟨1, e, ks, r⟩ a c) 33)) 28)
  have hsz : (w.alloc (.cells (Stp.cells ⟨1, e, ks, r⟩ a c) 33)).heap.size = w.heap.size + 1 := by simp
  rw [hsz] at HZ
  have HC := hide hc
  have HE := hide hE
  have HN := hide hN
  have HR := hide hR
  have hzN := fun w => neq_of_eql (hzE w)
  dsimp only [Rul.v] at HR HN
  clear hE hN hR hsz hc hzE
  go_enter Tryz.func30, Tryz.ntmps30
  go_upto_region 2 with fail
  generalize w.alloc (.cells (Stp.cells ⟨1, e, ks, r⟩ a c) 33) = W1 at *
  generalize W1.alloc (.cells #[.int .i64 0, .int .i64 0, .int .i64 0, .int .i64 0, .int .i64 0, .int .i64 0, .bool false] 28) = W2 at *
  obtain ⟨c0, ⟨c1, c2, c3, c4, c5, c6, c7⟩, c8, c9, c10, c11, c12, c13⟩ := HB.out W2 HK12.out
  obtain ⟨z0, z1, z2, z3, z4, z5, z6⟩ := HZ.out W2 (Keeps.refl _)
  cases zK
  · have hkp : 0 < ks.length := by
      cases ks with
      | nil => simp [noK] at hzK
      | cons x t => simp
    clear hzK
    go_wp2_with fail
    go_ret
    exact ⟨ret_none (by simp [stF]), HK.out⟩
  · obtain rfl := noK_eq hzK
    clear hzK
    go_wp2_with fail
    refine (unhide HN _).mono ?_
    rintro x w1 ⟨rfl, hk1⟩
    have hcl := HB.out w1 (HK12.out.trans hk1)
    have HK1 := hide (HK.out.trans hk1)
    clear hk1 HK c0 c1 c2 c3 c4 c5 c6 c7 c8 c9 c10 c11 c12 c13 z0 z1 z2 z3 z4 z5 z6
    obtain ⟨c0, ⟨c1, c2, c3, c4, c5, c6, c7⟩, c8, c9, c10, c11, c12, c13⟩ := hcl
    cases zR
    · go_wp2_with fail
      go_ret
      exact ⟨ret_none (by simp [stF]), HK1.out⟩
    go_wp2_with fail
    refine (unhide HE _).mono ?_
    rintro x w2 ⟨rfl, hk2⟩
    have hcl := Keeps.cells14 hk2 c0 c1 c2 c3 c4 c5 c6 c7 c8 c9 c10 c11 c12 c13
    have HK2 := hide (HK1.out.trans hk2)
    clear hk2 HK1 c0 c1 c2 c3 c4 c5 c6 c7 c8 c9 c10 c11 c12 c13
    obtain ⟨c0, c1, c2, c3, c4, c5, c6, c7, c8, c9, c10, c11, c12, c13⟩ := hcl
    cases bE
    · go_wp2_with fail
      go_ret
      exact ⟨ret_none (by simp [stF]), HK2.out⟩
    go_wp2_with fail
    refine (esx_spec e.k e.y e.c e.t e.m e.f e.b w2).mono ?_
    rintro x w3 ⟨rfl, hk3⟩
    obtain ⟨A, hA⟩ : ∃ A : ByteArray, A = ⟨(etL e.k e.y e.c e.t e.m e.f e.b).toArray⟩ := ⟨_, rfl⟩
    have hy : A.size ≤ 200 := by
      rw [hA]
      have h2 := et_len e.k e.y e.c e.t e.m e.f e.b
      have e2 : (⟨(etL e.k e.y e.c e.t e.m e.f e.b).toArray⟩ : ByteArray).size = (etL e.k e.y e.c e.t e.m e.f e.b).length := by show (etL e.k e.y e.c e.t e.m e.f e.b).toArray.size = _; simp
      omega
    rw [← hA]
    have HA := hide hA
    clear hA
    have qa : ∀ w, (Op.stringOp .add (⟨#[116, 97, 107, 101, 32]⟩ : ByteArray) A).run Tryz.prog w = .ok (.string ((⟨#[116, 97, 107, 101, 32]⟩ : ByteArray) ++ A)) w := fun w => run_string_add_sum w _ _ (by
      have e1 : (⟨#[116, 97, 107, 101, 32]⟩ : ByteArray).size = 5 := rfl
      rw [e1]; omega)
    clear hy
    go_wp2_with fail
    go_ret
    rw [HA.out]
    refine ⟨(es_ret [116, 97, 107, 101, 32] _ rfl).trans (ret_stG ?_), HK2.out.trans hk3⟩
    have hbE := unhide HBE
    simp [stG, stF, stT, etL, hbE]
theorem stF_eq' (D : Stp) : stG D (stF D.k (zeroE D.e) (noK D.ks) (zeroR D.r) (evB D.e.k D.e.y D.e.c D.e.t D.e.m D.e.f D.e.b) (allA D.ks) (ruleB D.r)) = stL D := rfl
end Go.Proofs.YtkgpoghoilffhaaGreatDoor
