/- Texts of the verifier, joined: TxM, EvS. -/
import Derived.Test.YtkgpoghoilffhaaGreatDoorRS2
import Derived.Lib.Split
import Derived.Lib.IndexBytes
import Derived.Lib.IndexLaws
import Derived.RegionTactic
namespace Go.Proofs.YtkgpoghoilffhaaGreatDoor
open Go.RowKit
set_option linter.unusedVariables false
set_option maxRecDepth 10000
set_option linter.unusedSimpArgs false
/-- Words with one blank between any two. -/
def join : List (List UInt8) → List UInt8
  | [] => []
  | [w] => w
  | w :: v :: r => w ++ 32 :: join (v :: r)
theorem join_cons (w v : List UInt8) (r : List (List UInt8)) : join (w :: v :: r) = w ++ 32 :: join (v :: r) := rfl
theorem sen_join (W : List UInt8) : ∀ ns : List Int, sen W ns = join (W :: ns.map numT)
  | [] => by simp [sen, senN, join]
  | n :: r => by
    have ih := sen_join (numT n) r
    simp only [List.map_cons, join_cons]
    rw [← ih]
    simp [sen, senN]
theorem join_snoc (x : List UInt8) : ∀ (w : List UInt8) (r : List (List UInt8)), join (w :: r ++ [x]) = join (w :: r) ++ 32 :: x
  | w, [] => by simp [join]
  | w, v :: r => by
    have ih := join_snoc x v r
    simp only [List.cons_append] at ih ⊢
    rw [join_cons, ih, join_cons]
    simp
theorem idx_none {w : List UInt8} (h : (32 : UInt8) ∉ w) : Lib.index w [32] = -1 := by
  rw [Lib.index_one]
  by_cases h1 : Lib.indexByte w 32 < 0
  · have := Lib.indexByte_ge w 32
    omega
  · obtain ⟨i, hi⟩ := Int.eq_ofNat_of_zero_le (Int.not_lt.1 h1)
    exact absurd (List.mem_of_getElem? (Lib.indexByte_some hi).1) h
theorem idx_at {w r : List UInt8} (h : (32 : UInt8) ∉ w) : Lib.index (w ++ 32 :: r) [32] = (w.length : Int) := by
  rw [Lib.index_one]
  have hm : (w ++ 32 :: r)[w.length]? = some 32 := by simp
  by_cases h1 : Lib.indexByte (w ++ 32 :: r) 32 < 0
  · have := Lib.indexByte_ge (w ++ 32 :: r) 32
    exact absurd hm (Lib.indexByte_none (by omega) _)
  · obtain ⟨i, hi⟩ := Int.eq_ofNat_of_zero_le (Int.not_lt.1 h1)
    obtain ⟨a1, a2⟩ := Lib.indexByte_some hi
    rcases Nat.lt_trichotomy i w.length with h2 | h2 | h2
    · rw [List.getElem?_append_left h2] at a1
      exact absurd (List.mem_of_getElem? a1) h
    · rw [hi, h2]
    · exact absurd hm (a2 _ h2)
/-- What is joined is split again. -/
theorem split_join : ∀ (W : List (List UInt8)) (k : Nat), W ≠ [] → (∀ w ∈ W, (32 : UInt8) ∉ w) → W.length ≤ k + 1 → Lib.splitK [32] 0 k (join W) = W
  | [], _, h, _, _ => absurd rfl h
  | [w], k, _, h, _ => by
    have hw := h w (by simp)
    cases k with
    | zero => rfl
    | succ k =>
      show (if (Lib.index w [32] == -1) = true then [w] else _) = [w]
      rw [if_pos (by rw [idx_none hw]; rfl)]
  | w :: v :: r, 0, _, _, hl => by simp at hl
  | w :: v :: r, k + 1, _, h, hl => by
    have hw := h w (by simp)
    have ih := split_join (v :: r) k (by simp) (fun x hx => h x (List.mem_cons_of_mem _ hx)) (by simpa using hl)
    have e : Lib.index (w ++ 32 :: join (v :: r)) [32] = (w.length : Int) := idx_at hw
    show (if (Lib.index (w ++ 32 :: join (v :: r)) [32] == -1) = true then _ else List.take ((Lib.index (w ++ 32 :: join (v :: r)) [32]).toNat + 0) (w ++ 32 :: join (v :: r)) :: Lib.splitK [32] 0 k (List.drop ((Lib.index (w ++ 32 :: join (v :: r)) [32]).toNat + 1) (w ++ 32 :: join (v :: r)))) = _
    rw [if_neg (by rw [e]; simp), e]
    have e2 : List.drop (w.length + 1) (w ++ 32 :: join (v :: r)) = join (v :: r) := by
      rw [← List.drop_drop, List.drop_left]
      rfl
    simp only [Int.toNat_natCast, Nat.add_zero, List.take_left]
    rw [e2, ih]
theorem dec_sign (u : Nat) : ∀ x ∈ Lib.decDigits u, 48 ≤ x.toNat := by
  induction u using Nat.strongRecOn with
  | ind u ih =>
    intro x hx
    by_cases h10 : u < 10
    · rw [Lib.decDigits_one h10] at hx
      have : x = UInt8.ofNat (48 + u) := by simpa using hx
      rw [this, UInt8.toNat_ofNat']
      omega
    · rw [Lib.decDigits, dif_neg h10] at hx
      rcases List.mem_append.1 hx with h1 | h1
      · exact ih (u / 10) (by omega) x h1
      · have : x = UInt8.ofNat (48 + u % 10) := by simpa using h1
        rw [this, UInt8.toNat_ofNat']
        omega
theorem num_blank (n : Int) : (32 : UInt8) ∉ numT n := by
  intro h
  unfold numT at h
  split at h
  · simp at h
  · unfold Lib.itoa at h
    split at h
    · rcases List.mem_cons.1 h with h1 | h1
      · exact absurd h1 (by decide)
      · exact absurd (dec_sign _ _ h1) (by decide)
    · exact absurd (dec_sign _ _ h) (by decide)
theorem num_ne {n : Int} (h0 : -1125899906842624 ≤ n) (h1 : n ≤ 1125899906842624) : numT n ≠ [] := by
  rw [numT_in h0 h1]
  unfold Lib.itoa
  split
  · simp
  · exact dec_ne _
open Classical in
/-- The number that a text says, 0 where it says none. -/
noncomputable def txN (l : List UInt8) : Int := if h : ∃ n, l ≠ [] ∧ numT n = l then Classical.choose h else 0
theorem res_tx {l : List UInt8} {v : Int} {b : Bool} (h : Res l v b) : v = txN l := by
  unfold txN
  split
  · next hx =>
    have h2 := Classical.choose_spec hx
    exact (res_unique (res_yes h2.1 h2.2) h).1
  · next hx =>
    rcases h with ⟨_, hl, hv⟩ | ⟨_, hv, _⟩
    · exact absurd ⟨v, hl, hv⟩ hx
    · exact hv
theorem tx_num {n : Int} (h0 : -1125899906842624 ≤ n) (h1 : n ≤ 1125899906842624) : txN (numT n) = n := (res_tx (res_yes (num_ne h0 h1) rfl)).symm
theorem tx_nil : txN [] = 0 := (res_tx res_nil).symm
/-- The words of an event. -/
def evW (k y c t m f : Int) (b : Bool) : List (List UInt8) :=
  if k = 1 then [[100, 101, 112, 111, 115, 105, 116], numT m]
  else if k = 2 then [[111, 112, 101, 110], numT c, numT m, numT f]
  else if k = 3 then [[99, 108, 111, 115, 101], numT c, numT f]
  else if k = 4 then [[112, 114, 105, 99, 101], numT c, numT m, numT f]
  else if k = 5 then [[97, 100, 109, 105, 116], numT y, numT c, numT t, numT m, if b = true then [121, 101, 115] else [110, 111]]
  else if k = 6 then [[102, 117, 108, 102, 105, 108, 108], numT y]
  else if k = 7 then [[102, 97, 105, 108], numT y]
  else if k = 8 then [[116, 105, 99, 107]]
  else if k = 9 then [[108, 97, 117, 110, 99, 104], numT y, numT c, numT t, numT m, numT f]
  else if k = 10 then [[97, 114, 114, 105, 118, 101], numT y]
  else if k = 11 then [[108, 111, 115, 116], numT y]
  else [[]]
def evT (k y c t m f : Int) (b : Bool) : List UInt8 := join (evW k y c t m f b)
theorem evT_1 (y c t m f : Int) (b : Bool) : evT 1 y c t m f b = sen [100, 101, 112, 111, 115, 105, 116] [m] := by
  rw [sen_join]
  rfl
theorem evT_2 (y c t m f : Int) (b : Bool) : evT 2 y c t m f b = sen [111, 112, 101, 110] [c, m, f] := by
  rw [sen_join]
  rfl
theorem evT_3 (y c t m f : Int) (b : Bool) : evT 3 y c t m f b = sen [99, 108, 111, 115, 101] [c, f] := by
  rw [sen_join]
  rfl
theorem evT_4 (y c t m f : Int) (b : Bool) : evT 4 y c t m f b = sen [112, 114, 105, 99, 101] [c, m, f] := by
  rw [sen_join]
  rfl
theorem evT_5 (y c t m f : Int) (b : Bool) : evT 5 y c t m f b = sen [97, 100, 109, 105, 116] [y, c, t, m] ++ (if b = true then [32, 121, 101, 115] else [32, 110, 111]) := by
  rw [sen_join]
  have h := join_snoc (if b = true then [121, 101, 115] else [110, 111]) [97, 100, 109, 105, 116] [numT y, numT c, numT t, numT m]
  show join _ = _
  simp only [evW, if_false, if_true, Int.reduceEq, List.map_cons, List.map_nil]
  rw [show [[97, 100, 109, 105, 116], numT y, numT c, numT t, numT m, if b = true then [121, 101, 115] else [110, 111]] = [97, 100, 109, 105, 116] :: [numT y, numT c, numT t, numT m] ++ [if b = true then [121, 101, 115] else [110, 111]] from rfl, h]
  cases b <;> rfl
theorem evT_6 (y c t m f : Int) (b : Bool) : evT 6 y c t m f b = sen [102, 117, 108, 102, 105, 108, 108] [y] := by
  rw [sen_join]
  rfl
theorem evT_7 (y c t m f : Int) (b : Bool) : evT 7 y c t m f b = sen [102, 97, 105, 108] [y] := by
  rw [sen_join]
  rfl
theorem evT_8 (y c t m f : Int) (b : Bool) : evT 8 y c t m f b = sen [116, 105, 99, 107] [] := by
  rw [sen_join]
  rfl
theorem evT_9 (y c t m f : Int) (b : Bool) : evT 9 y c t m f b = sen [108, 97, 117, 110, 99, 104] [y, c, t, m, f] := by
  rw [sen_join]
  rfl
theorem evT_10 (y c t m f : Int) (b : Bool) : evT 10 y c t m f b = sen [97, 114, 114, 105, 118, 101] [y] := by
  rw [sen_join]
  rfl
theorem evT_11 (y c t m f : Int) (b : Bool) : evT 11 y c t m f b = sen [108, 111, 115, 116] [y] := by
  rw [sen_join]
  rfl
/-- What words say. -/
noncomputable def said (ws : List (List UInt8)) : Ev :=
  if ws.headD [] = [100, 101, 112, 111, 115, 105, 116] then ⟨1, 0, 0, 0, (txN (ws.getD 1 [])), 0, false⟩
  else if ws.headD [] = [111, 112, 101, 110] then ⟨2, 0, (txN (ws.getD 1 [])), 0, (txN (ws.getD 2 [])), (txN (ws.getD 3 [])), false⟩
  else if ws.headD [] = [99, 108, 111, 115, 101] then ⟨3, 0, (txN (ws.getD 1 [])), 0, 0, (txN (ws.getD 2 [])), false⟩
  else if ws.headD [] = [112, 114, 105, 99, 101] then ⟨4, 0, (txN (ws.getD 1 [])), 0, (txN (ws.getD 2 [])), (txN (ws.getD 3 [])), false⟩
  else if ws.headD [] = [97, 100, 109, 105, 116] then ⟨5, (txN (ws.getD 1 [])), (txN (ws.getD 2 [])), (txN (ws.getD 3 [])), (txN (ws.getD 4 [])), 0, (ws.getLastD [] == [121, 101, 115])⟩
  else if ws.headD [] = [102, 117, 108, 102, 105, 108, 108] then ⟨6, (txN (ws.getD 1 [])), 0, 0, 0, 0, false⟩
  else if ws.headD [] = [102, 97, 105, 108] then ⟨7, (txN (ws.getD 1 [])), 0, 0, 0, 0, false⟩
  else if ws.headD [] = [116, 105, 99, 107] then ⟨8, 0, 0, 0, 0, 0, false⟩
  else if ws.headD [] = [108, 97, 117, 110, 99, 104] then ⟨9, (txN (ws.getD 1 [])), (txN (ws.getD 2 [])), (txN (ws.getD 3 [])), (txN (ws.getD 4 [])), (txN (ws.getD 5 [])), false⟩
  else if ws.headD [] = [97, 114, 114, 105, 118, 101] then ⟨10, (txN (ws.getD 1 [])), 0, 0, 0, 0, false⟩
  else if ws.headD [] = [108, 111, 115, 116] then ⟨11, (txN (ws.getD 1 [])), 0, 0, 0, 0, false⟩
  else ⟨0, 0, 0, 0, 0, 0, false⟩
/-- The bounds of a right event. -/
theorem ev_bounds {k y c t m f : Int} {b : Bool} (h : evB k y c t m f b = true) : (1 ≤ k ∧ k ≤ 11) ∧ (0 ≤ y ∧ y ≤ 1000000) ∧ (0 ≤ c ∧ c ≤ 99) ∧ (0 ≤ t ∧ t ≤ 99) ∧ (0 ≤ m ∧ m ≤ 1125899906842624) ∧ (0 ≤ f ∧ f ≤ 1125899906842624) := by
  unfold evB at h
  repeat' (split at h)
  all_goals first
    | (simp only [Bool.and_eq_true, fieldB, if_true, decide_eq_true_eq, Bool.false_eq_true, if_false] at h; omega)
    | exact Bool.noConfusion h
/-- The words of a right event say it again. -/
theorem said_again {k y c t m f : Int} {b : Bool} (h : evB k y c t m f b = true) : said (evW k y c t m f b) = ⟨k, y, c, t, m, f, b⟩ := by
  obtain ⟨⟨k1, k2⟩, ⟨y1, y2⟩, ⟨c1, c2⟩, ⟨t1, t2⟩, ⟨m1, m2⟩, ⟨f1, f2⟩⟩ := ev_bounds h
  have ty := tx_num (n := y) (by omega) (by omega)
  have tc := tx_num (n := c) (by omega) (by omega)
  have tt := tx_num (n := t) (by omega) (by omega)
  have tm := tx_num (n := m) (by omega) (by omega)
  have tf := tx_num (n := f) (by omega) (by omega)
  have hk : k = 1 ∨ k = 2 ∨ k = 3 ∨ k = 4 ∨ k = 5 ∨ k = 6 ∨ k = 7 ∨ k = 8 ∨ k = 9 ∨ k = 10 ∨ k = 11 := by omega
  rcases hk with rfl | rfl | rfl | rfl | rfl | rfl | rfl | rfl | rfl | rfl | rfl
  all_goals
    simp only [evB, fieldB, Bool.and_eq_true, decide_eq_true_eq, Bool.false_eq_true, if_true, if_false, Int.reduceEq, Bool.not_eq_true', or_false, or_true, false_or, true_or, or_self] at h
    simp [said, evW, ty, tc, tt, tm, tf]
    try omega
    try (cases b <;> simp_all)
theorem words_blank (k y c t m f : Int) (b : Bool) : ∀ w ∈ evW k y c t m f b, (32 : UInt8) ∉ w := by
  have hn := num_blank
  intro w hw
  unfold evW at hw
  repeat' (split at hw)
  all_goals
    simp only [List.mem_cons, List.not_mem_nil, or_false] at hw
    rcases hw with rfl | hw
    · decide
    repeat (first | (rcases hw with rfl | hw; · first | exact hn _ | decide) | (subst hw; first | exact hn _ | decide))
theorem words_len (k y c t m f : Int) (b : Bool) : (evW k y c t m f b).length ≤ 6 ∧ evW k y c t m f b ≠ [] := by
  unfold evW
  repeat' split
  all_goals simp
/-- A right event's text is split into its words. -/
theorem ev_split (k y c t m f : Int) (b : Bool) (j : Nat) (hj : 5 ≤ j) : Lib.splitK [32] 0 j (evT k y c t m f b) = evW k y c t m f b := by
  obtain ⟨h1, h2⟩ := words_len k y c t m f b
  exact split_join _ _ h2 (words_blank k y c t m f b) (by omega)
/-- Right events of the same text are the same. -/
theorem ev_inj {k y c t m f k' y' c' t' m' f' : Int} {b b' : Bool} (h : evB k y c t m f b = true) (h' : evB k' y' c' t' m' f' b' = true) (e : evT k y c t m f b = evT k' y' c' t' m' f' b') : k = k' ∧ y = y' ∧ c = c' ∧ t = t' ∧ m = m' ∧ f = f' ∧ b = b' := by
  have e1 := ev_split k y c t m f b 5 (by omega)
  have e2 := ev_split k' y' c' t' m' f' b' 5 (by omega)
  rw [e, e2] at e1
  have e3 := said_again h
  rw [← e1, said_again h'] at e3
  injection e3 with a1 a2 a3 a4 a5 a6 a7
  exact ⟨a1.symm, a2.symm, a3.symm, a4.symm, a5.symm, a6.symm, a7.symm⟩
end Go.Proofs.YtkgpoghoilffhaaGreatDoor
namespace Go.Proofs.YtkgpoghoilffhaaGreatDoor
open Go.RowKit
set_option linter.unusedVariables false
set_option maxRecDepth 10000

theorem ret_ev {a b : Bool} (h : a = b) : Ending.returned (.bool a) = .returned (.bool b) := by rw [h]
theorem field_k (h : Bool) (n lo hi : Int) (w : World) : Calls Tryz.prog 79 #[.bool h, .int .i64 n, .int .i64 lo, .int .i64 hi] w fun e w' => e = .returned (.bool (fieldB h n lo hi)) ∧ Keeps w w' := by
  cases h
  · have H : Hid (fieldB false n lo hi = decide (n = 0)) := rfl
    go_enter Tryz.func79, Tryz.ntmps79
    go_wp2
    go_ret
    exact ⟨ret_ev (by rw [H.out]; rfl), Keeps.refl _⟩
  · have H : Hid (fieldB true n lo hi = (decide (lo ≤ n) && decide (n ≤ hi))) := rfl
    by_cases h1 : lo ≤ n
    · have H2 : Hid (fieldB true n lo hi = decide (n ≤ hi)) := by show _ = _; rw [H.out, decide_eq_true h1, Bool.true_and]
      go_enter Tryz.func79, Tryz.ntmps79
      go_wp2
      go_ret
      exact ⟨ret_ev (by rw [H2.out]), Keeps.refl _⟩
    · have H2 : Hid (fieldB true n lo hi = false) := by show _ = _; rw [H.out, decide_eq_false h1, Bool.false_and]
      go_enter Tryz.func79, Tryz.ntmps79
      go_wp2
      go_ret
      exact ⟨ret_ev (by rw [H2.out]), Keeps.refl _⟩
theorem field_is (h : Bool) (n lo hi : Int) (r : Bool) (hr : fieldB h n lo hi = r) (w : World) : Calls Tryz.prog 79 #[.bool h, .int .i64 n, .int .i64 lo, .int .i64 hi] w fun e w' => e = .returned (.bool r) ∧ Keeps w w' := by
  rw [← hr]; exact field_k h n lo hi w
/-- What the model's EventOk tests, at what its table says of the kind. -/
def evF (lo hi : Int) (h0 h1 h2 h3 h4 h5 : Bool) (y c t m f : Int) (b : Bool) : Bool :=
  fieldB h0 y 1 1000000 && fieldB h1 c 1 99 && fieldB h2 t 1 99 && !(h2 && decide (c = t)) && fieldB h3 m lo 1125899906842624 && fieldB h4 f 0 hi && (h5 || !b)
abbrev hasPost (h0 h1 h2 h3 h4 h5 : Bool) (w1 : World) (e : Ending) (w' : World) : Prop := e = .returned (.slice (some ⟨w1.heap.size, 0, none⟩) 6 6) ∧ w' = w1.alloc (.cells #[.bool h0, .bool h1, .bool h2, .bool h3, .bool h4, .bool h5] 4)

theorem has_1 (w : World) : Calls Tryz.prog 63 #[.int .i64 1] w (hasPost false false false true false false w) := by
  go_enter Tryz.func63, Tryz.ntmps63
  go_wp2
  go_ret
  exact ⟨rfl, rfl⟩
theorem has_2 (w : World) : Calls Tryz.prog 63 #[.int .i64 2] w (hasPost false true false true true false w) := by
  go_enter Tryz.func63, Tryz.ntmps63
  go_wp2
  go_ret
  exact ⟨rfl, rfl⟩
theorem has_4 (w : World) : Calls Tryz.prog 63 #[.int .i64 4] w (hasPost false true false true true false w) := by
  go_enter Tryz.func63, Tryz.ntmps63
  go_wp2
  go_ret
  exact ⟨rfl, rfl⟩
theorem has_3 (w : World) : Calls Tryz.prog 63 #[.int .i64 3] w (hasPost false true false false true false w) := by
  go_enter Tryz.func63, Tryz.ntmps63
  go_wp2
  go_ret
  exact ⟨rfl, rfl⟩
theorem has_5 (w : World) : Calls Tryz.prog 63 #[.int .i64 5] w (hasPost true true true true false true w) := by
  go_enter Tryz.func63, Tryz.ntmps63
  go_wp2
  go_ret
  exact ⟨rfl, rfl⟩
theorem has_9 (w : World) : Calls Tryz.prog 63 #[.int .i64 9] w (hasPost true true true true true false w) := by
  go_enter Tryz.func63, Tryz.ntmps63
  go_wp2
  go_ret
  exact ⟨rfl, rfl⟩
theorem has_8 (w : World) : Calls Tryz.prog 63 #[.int .i64 8] w (hasPost false false false false false false w) := by
  go_enter Tryz.func63, Tryz.ntmps63
  go_wp2
  go_ret
  exact ⟨rfl, rfl⟩
theorem has_6 (w : World) : Calls Tryz.prog 63 #[.int .i64 6] w (hasPost true false false false false false w) := by
  go_enter Tryz.func63, Tryz.ntmps63
  go_wp2
  go_ret
  exact ⟨rfl, rfl⟩
theorem has_7 (w : World) : Calls Tryz.prog 63 #[.int .i64 7] w (hasPost true false false false false false w) := by
  go_enter Tryz.func63, Tryz.ntmps63
  go_wp2
  go_ret
  exact ⟨rfl, rfl⟩
theorem has_10 (w : World) : Calls Tryz.prog 63 #[.int .i64 10] w (hasPost true false false false false false w) := by
  go_enter Tryz.func63, Tryz.ntmps63
  go_wp2
  go_ret
  exact ⟨rfl, rfl⟩
theorem has_11 (w : World) : Calls Tryz.prog 63 #[.int .i64 11] w (hasPost true false false false false false w) := by
  go_enter Tryz.func63, Tryz.ntmps63
  go_wp2
  go_ret
  exact ⟨rfl, rfl⟩
theorem evw1 {w w1 : World} {k y c t m f : Int} {b a0 a1 a2 a3 a4 a5 : Bool} (h : w1 = (w.alloc (.cells (evCells k y c t m f b) 28)).alloc (.cells #[.bool a0, .bool a1, .bool a2, .bool a3, .bool a4, .bool a5] 4)) :
    Keeps w w1 ∧ (w1.cell? ⟨w.heap.size, 0, none⟩ = some (.int .i64 k) ∧ w1.cell? ⟨w.heap.size, 1, none⟩ = some (.int .i64 y) ∧ w1.cell? ⟨w.heap.size, 2, none⟩ = some (.int .i64 c) ∧ w1.cell? ⟨w.heap.size, 3, none⟩ = some (.int .i64 t) ∧ w1.cell? ⟨w.heap.size, 4, none⟩ = some (.int .i64 m) ∧ w1.cell? ⟨w.heap.size, 5, none⟩ = some (.int .i64 f) ∧ w1.cell? ⟨w.heap.size, 6, none⟩ = some (.bool b)) ∧ w1.cell? ⟨w.heap.size + 1, 0, none⟩ = some (.bool a0) ∧ w1.cell? ⟨w.heap.size + 1, 1, none⟩ = some (.bool a1) ∧ w1.cell? ⟨w.heap.size + 1, 2, none⟩ = some (.bool a2) ∧ w1.cell? ⟨w.heap.size + 1, 3, none⟩ = some (.bool a3) ∧ w1.cell? ⟨w.heap.size + 1, 4, none⟩ = some (.bool a4) ∧ w1.cell? ⟨w.heap.size + 1, 5, none⟩ = some (.bool a5) := by
  have d1 : Keeps (w.alloc (.cells (evCells k y c t m f b) 28)) w1 := by rw [h]; exact Keeps.alloc (Keeps.refl _) _
  refine ⟨by rw [h]; exact Keeps.alloc (Keeps.alloc (Keeps.refl w) _) _, ⟨d1.cell (p := ⟨w.heap.size, 0, none⟩) (by simp), d1.cell (p := ⟨w.heap.size, 1, none⟩) (by simp), d1.cell (p := ⟨w.heap.size, 2, none⟩) (by simp), d1.cell (p := ⟨w.heap.size, 3, none⟩) (by simp), d1.cell (p := ⟨w.heap.size, 4, none⟩) (by simp), d1.cell (p := ⟨w.heap.size, 5, none⟩) (by simp), d1.cell (p := ⟨w.heap.size, 6, none⟩) (by simp)⟩, ?_, ?_, ?_, ?_, ?_, ?_⟩ <;> rw [h] <;> simp
set_option maxHeartbeats 4000000 in
theorem evok_core (k y c t m f : Int) (b : Bool) (h0 h1 h2 h3 h4 h5 : Bool) (w : World) (hk1 : 1 ≤ k) (hk2 : k ≤ 11) (hk4 : (k == 4) = false) (HH : Hid (∀ w1, Calls Tryz.prog 63 #[.int .i64 k] w1 (hasPost h0 h1 h2 h3 h4 h5 w1))) :
    Calls Tryz.prog 54 #[evV k y c t m f b] w fun e w' => e = .returned (.bool (evF 1 1125899906842624 h0 h1 h2 h3 h4 h5 y c t m f b)) ∧ Keeps w w' := by
  have HF : Hid (evF 1 1125899906842624 h0 h1 h2 h3 h4 h5 y c t m f b = (fieldB h0 y 1 1000000 && fieldB h1 c 1 99 && fieldB h2 t 1 99 && !(h2 && decide (c = t)) && fieldB h3 m 1 1125899906842624 && fieldB h4 f 0 1125899906842624 && (h5 || !b))) := rfl
  generalize evF 1 1125899906842624 h0 h1 h2 h3 h4 h5 y c t m f b = R at *
  cases f0 : fieldB h0 y 1 1000000
  have HR : Hid (R = false) := by show _ = _; rw [HF.out]; simp [f0]
  have hA := trivial
  rotate_left
  cases f1 : fieldB h1 c 1 99
  have HR : Hid (R = false) := by show _ = _; rw [HF.out]; simp [f0, f1]
  have hA := trivial
  rotate_left
  cases f2 : fieldB h2 t 1 99
  have HR : Hid (R = false) := by show _ = _; rw [HF.out]; simp [f0, f1, f2]
  have hA := trivial
  rotate_left
  cases h2
  rotate_left
  by_cases hct : c = t
  subst hct
  have HR : Hid (R = false) := by show _ = _; rw [HF.out]; simp [f0, f1, f2]
  have hA := trivial
  rotate_left
  have hct2 : (c == t) = false := beq_eq_false_iff_ne.2 hct
  have hct3 : decide (c = t) = false := decide_eq_false hct
  clear hct
  all_goals (first
    | (have hz := hA; clear hz)
    | (cases f3 : fieldB h3 m 1 1125899906842624
       have HR : Hid (R = false) := by show _ = _; rw [HF.out]; first | (simp [f0, f1, f2, f3]; done) | simp [f0, f1, f2, f3, hct3]
       have hB := trivial
       rotate_left
       cases f4 : fieldB h4 f 0 1125899906842624
       have HR : Hid (R = false) := by show _ = _; rw [HF.out]; first | (simp [f0, f1, f2, f3, f4]; done) | simp [f0, f1, f2, f3, f4, hct3]
       have hB := trivial
       rotate_left
       cases h5
       have HR : Hid (R = !b) := by show _ = _; rw [HF.out]; first | (simp [f0, f1, f2, f3, f4]; done) | simp [f0, f1, f2, f3, f4, hct3]
       have hB := trivial
       rotate_left
       have HR : Hid (R = true) := by show _ = _; rw [HF.out]; first | (simp [f0, f1, f2, f3, f4]; done) | simp [f0, f1, f2, f3, f4, hct3]
       have hB := trivial))
  all_goals (first
    | (have hz := hA
       clear hz hA HF
       go_enter Tryz.func54, Tryz.ntmps54
       go_wp2_with fail
       refine (unhide HH _).mono ?_
       rintro e w1 ⟨rfl, hw1⟩
       obtain ⟨hk, ⟨c0, c1, c2, c3, c4, c5, c6⟩, e0, e1, e2, e3, e4, e5⟩ := evw1 hw1
       have HK := hide hk
       clear hk hw1 HH
       have g1 := gr_cell c1
       have g2 := gr_cell c2
       have g3 := gr_cell c3
       have i0 := gr_cell e0
       have i1 := gr_cell e1
       have i2 := gr_cell e2
       go_wp2_with fail
       refine region_gr (by kernel_rfl) (by kernel_rfl) ?_
       repeat (go_big_quiet_step (first | (go_at_call 79; exact gr_call (field_is _ _ _ _ _ (by assumption) _))))
       refine wpQuiet_nil ?_
       intro w2 hw2
       have hk2 := Keeps.of_gr hw2
       clear hw2 g1 g2 g3 i0 i1 i2
       go_wp2_with fail
       go_ret
       exact ⟨ret_ev (by rw [HR.out]), HK.out.trans hk2⟩)
    | (have hz := hB
       clear hz hB HF
       go_enter Tryz.func54, Tryz.ntmps54
       go_wp2_with fail
       refine (unhide HH _).mono ?_
       rintro e w1 ⟨rfl, hw1⟩
       obtain ⟨hk, ⟨c0, c1, c2, c3, c4, c5, c6⟩, e0, e1, e2, e3, e4, e5⟩ := evw1 hw1
       have HK := hide hk
       clear hk hw1 HH
       have g1 := gr_cell c1
       have g2 := gr_cell c2
       have g3 := gr_cell c3
       have i0 := gr_cell e0
       have i1 := gr_cell e1
       have i2 := gr_cell e2
       go_wp2_with fail
       refine region_gr (by kernel_rfl) (by kernel_rfl) ?_
       repeat (go_big_quiet_step (first | (go_at_call 79; exact gr_call (field_is _ _ _ _ _ (by assumption) _))))
       refine wpQuiet_nil ?_
       intro w2 hw2
       have hk2 := Keeps.of_gr hw2
       clear hw2 g1 g2 g3 i0 i1 i2
       have g4 := gr_cell (hk2.cell c4)
       have g5 := gr_cell (hk2.cell c5)
       have g6 := gr_cell (hk2.cell c6)
       have i3 := gr_cell (hk2.cell e3)
       have i4 := gr_cell (hk2.cell e4)
       have i5 := gr_cell (hk2.cell e5)
       replace HK := hide (HK.out.trans hk2)
       clear hk2 c0 c1 c2 c3 c4 c5 c6 e0 e1 e2 e3 e4 e5
       go_wp2_with fail
       refine region_gr (by kernel_rfl) (by kernel_rfl) ?_
       repeat (go_big_quiet_step (first | (go_at_call 79; exact gr_call (field_is _ _ _ _ _ (by assumption) _))))
       refine wpQuiet_nil ?_
       intro w3 hw3
       have hk2 := Keeps.of_gr hw3
       clear hw3
       go_wp2_with fail
       go_ret
       exact ⟨ret_ev (by rw [HR.out]), HK.out.trans hk2⟩))
set_option maxHeartbeats 4000000 in
theorem evok_four (y c t m f : Int) (b : Bool) (h0 h1 h2 h3 h4 h5 : Bool) (w : World) (HH : Hid (∀ w1, Calls Tryz.prog 63 #[.int .i64 4] w1 (hasPost h0 h1 h2 h3 h4 h5 w1))) :
    Calls Tryz.prog 54 #[evV 4 y c t m f b] w fun e w' => e = .returned (.bool (evF 0 1000000 h0 h1 h2 h3 h4 h5 y c t m f b)) ∧ Keeps w w' := by
  have HF : Hid (evF 0 1000000 h0 h1 h2 h3 h4 h5 y c t m f b = (fieldB h0 y 1 1000000 && fieldB h1 c 1 99 && fieldB h2 t 1 99 && !(h2 && decide (c = t)) && fieldB h3 m 0 1125899906842624 && fieldB h4 f 0 1000000 && (h5 || !b))) := rfl
  generalize evF 0 1000000 h0 h1 h2 h3 h4 h5 y c t m f b = R at *
  cases f0 : fieldB h0 y 1 1000000
  have HR : Hid (R = false) := by show _ = _; rw [HF.out]; simp [f0]
  have hA := trivial
  rotate_left
  cases f1 : fieldB h1 c 1 99
  have HR : Hid (R = false) := by show _ = _; rw [HF.out]; simp [f0, f1]
  have hA := trivial
  rotate_left
  cases f2 : fieldB h2 t 1 99
  have HR : Hid (R = false) := by show _ = _; rw [HF.out]; simp [f0, f1, f2]
  have hA := trivial
  rotate_left
  cases h2
  rotate_left
  by_cases hct : c = t
  subst hct
  have HR : Hid (R = false) := by show _ = _; rw [HF.out]; simp [f0, f1, f2]
  have hA := trivial
  rotate_left
  have hct2 : (c == t) = false := beq_eq_false_iff_ne.2 hct
  have hct3 : decide (c = t) = false := decide_eq_false hct
  clear hct
  all_goals (first
    | (have hz := hA; clear hz)
    | (cases f3 : fieldB h3 m 0 1125899906842624
       have HR : Hid (R = false) := by show _ = _; rw [HF.out]; first | (simp [f0, f1, f2, f3]; done) | simp [f0, f1, f2, f3, hct3]
       have hB := trivial
       rotate_left
       cases f4 : fieldB h4 f 0 1000000
       have HR : Hid (R = false) := by show _ = _; rw [HF.out]; first | (simp [f0, f1, f2, f3, f4]; done) | simp [f0, f1, f2, f3, f4, hct3]
       have hB := trivial
       rotate_left
       cases h5
       have HR : Hid (R = !b) := by show _ = _; rw [HF.out]; first | (simp [f0, f1, f2, f3, f4]; done) | simp [f0, f1, f2, f3, f4, hct3]
       have hB := trivial
       rotate_left
       have HR : Hid (R = true) := by show _ = _; rw [HF.out]; first | (simp [f0, f1, f2, f3, f4]; done) | simp [f0, f1, f2, f3, f4, hct3]
       have hB := trivial))
  all_goals (first
    | (have hz := hA
       clear hz hA HF
       go_enter Tryz.func54, Tryz.ntmps54
       go_wp2_with fail
       refine (unhide HH _).mono ?_
       rintro e w1 ⟨rfl, hw1⟩
       obtain ⟨hk, ⟨c0, c1, c2, c3, c4, c5, c6⟩, e0, e1, e2, e3, e4, e5⟩ := evw1 hw1
       have HK := hide hk
       clear hk hw1 HH
       have g1 := gr_cell c1
       have g2 := gr_cell c2
       have g3 := gr_cell c3
       have i0 := gr_cell e0
       have i1 := gr_cell e1
       have i2 := gr_cell e2
       go_wp2_with fail
       refine region_gr (by kernel_rfl) (by kernel_rfl) ?_
       repeat (go_big_quiet_step (first | (go_at_call 79; exact gr_call (field_is _ _ _ _ _ (by assumption) _))))
       refine wpQuiet_nil ?_
       intro w2 hw2
       have hk2 := Keeps.of_gr hw2
       clear hw2 g1 g2 g3 i0 i1 i2
       go_wp2_with fail
       go_ret
       exact ⟨ret_ev (by rw [HR.out]), HK.out.trans hk2⟩)
    | (have hz := hB
       clear hz hB HF
       go_enter Tryz.func54, Tryz.ntmps54
       go_wp2_with fail
       refine (unhide HH _).mono ?_
       rintro e w1 ⟨rfl, hw1⟩
       obtain ⟨hk, ⟨c0, c1, c2, c3, c4, c5, c6⟩, e0, e1, e2, e3, e4, e5⟩ := evw1 hw1
       have HK := hide hk
       clear hk hw1 HH
       have g1 := gr_cell c1
       have g2 := gr_cell c2
       have g3 := gr_cell c3
       have i0 := gr_cell e0
       have i1 := gr_cell e1
       have i2 := gr_cell e2
       go_wp2_with fail
       refine region_gr (by kernel_rfl) (by kernel_rfl) ?_
       repeat (go_big_quiet_step (first | (go_at_call 79; exact gr_call (field_is _ _ _ _ _ (by assumption) _))))
       refine wpQuiet_nil ?_
       intro w2 hw2
       have hk2 := Keeps.of_gr hw2
       clear hw2 g1 g2 g3 i0 i1 i2
       have g4 := gr_cell (hk2.cell c4)
       have g5 := gr_cell (hk2.cell c5)
       have g6 := gr_cell (hk2.cell c6)
       have i3 := gr_cell (hk2.cell e3)
       have i4 := gr_cell (hk2.cell e4)
       have i5 := gr_cell (hk2.cell e5)
       replace HK := hide (HK.out.trans hk2)
       clear hk2 c0 c1 c2 c3 c4 c5 c6 e0 e1 e2 e3 e4 e5
       go_wp2_with fail
       refine region_gr (by kernel_rfl) (by kernel_rfl) ?_
       repeat (go_big_quiet_step (first | (go_at_call 79; exact gr_call (field_is _ _ _ _ _ (by assumption) _))))
       refine wpQuiet_nil ?_
       intro w3 hw3
       have hk2 := Keeps.of_gr hw3
       clear hw3
       go_wp2_with fail
       go_ret
       exact ⟨ret_ev (by rw [HR.out]), HK.out.trans hk2⟩))
theorem evok_spec (k y c t m f : Int) (b : Bool) (w : World) :
    Calls Tryz.prog 54 #[evV k y c t m f b] w fun e w' => e = .returned (.bool (evB k y c t m f b)) ∧ Keeps w w' := by
  by_cases h1 : k < 1
  · have H : Hid (evB k y c t m f b = false) := by show _ = _; unfold evB; repeat rw [if_neg (by omega)]
    go_enter Tryz.func54, Tryz.ntmps54
    go_wp2_with fail
    go_ret
    exact ⟨ret_ev (by rw [H.out]), Keeps.alloc (Keeps.refl _) _⟩
  · by_cases h2 : 11 < k
    · have H : Hid (evB k y c t m f b = false) := by show _ = _; unfold evB; repeat rw [if_neg (by omega)]
      go_enter Tryz.func54, Tryz.ntmps54
      go_wp2_with fail
      go_ret
      exact ⟨ret_ev (by rw [H.out]), Keeps.alloc (Keeps.refl _) _⟩
    · have hk : k = 1 ∨ k = 2 ∨ k = 3 ∨ k = 4 ∨ k = 5 ∨ k = 6 ∨ k = 7 ∨ k = 8 ∨ k = 9 ∨ k = 10 ∨ k = 11 := by omega
      rcases hk with rfl | rfl | rfl | rfl | rfl | rfl | rfl | rfl | rfl | rfl | rfl
      · refine (evok_core 1 y c t m f b false false false true false false w (by decide) (by decide) (by decide) (hide has_1)).mono fun e w' ⟨he, hk⟩ => ⟨?_, hk⟩
        rw [he]
        exact ret_ev (by simp [evF, evB])
      · refine (evok_core 2 y c t m f b false true false true true false w (by decide) (by decide) (by decide) (hide has_2)).mono fun e w' ⟨he, hk⟩ => ⟨?_, hk⟩
        rw [he]
        exact ret_ev (by simp [evF, evB])
      · refine (evok_core 3 y c t m f b false true false false true false w (by decide) (by decide) (by decide) (hide has_3)).mono fun e w' ⟨he, hk⟩ => ⟨?_, hk⟩
        rw [he]
        exact ret_ev (by simp [evF, evB])
      · refine (evok_four y c t m f b false true false true true false w (hide has_4)).mono fun e w' ⟨he, hk⟩ => ⟨?_, hk⟩
        rw [he]
        exact ret_ev (by simp [evF, evB])
      · refine (evok_core 5 y c t m f b true true true true false true w (by decide) (by decide) (by decide) (hide has_5)).mono fun e w' ⟨he, hk⟩ => ⟨?_, hk⟩
        rw [he]
        exact ret_ev (by simp [evF, evB])
      · refine (evok_core 6 y c t m f b true false false false false false w (by decide) (by decide) (by decide) (hide has_6)).mono fun e w' ⟨he, hk⟩ => ⟨?_, hk⟩
        rw [he]
        exact ret_ev (by simp [evF, evB])
      · refine (evok_core 7 y c t m f b true false false false false false w (by decide) (by decide) (by decide) (hide has_7)).mono fun e w' ⟨he, hk⟩ => ⟨?_, hk⟩
        rw [he]
        exact ret_ev (by simp [evF, evB])
      · refine (evok_core 8 y c t m f b false false false false false false w (by decide) (by decide) (by decide) (hide has_8)).mono fun e w' ⟨he, hk⟩ => ⟨?_, hk⟩
        rw [he]
        exact ret_ev (by simp [evF, evB])
      · refine (evok_core 9 y c t m f b true true true true true false w (by decide) (by decide) (by decide) (hide has_9)).mono fun e w' ⟨he, hk⟩ => ⟨?_, hk⟩
        rw [he]
        exact ret_ev (by simp [evF, evB])
      · refine (evok_core 10 y c t m f b true false false false false false w (by decide) (by decide) (by decide) (hide has_10)).mono fun e w' ⟨he, hk⟩ => ⟨?_, hk⟩
        rw [he]
        exact ret_ev (by simp [evF, evB])
      · refine (evok_core 11 y c t m f b true false false false false false w (by decide) (by decide) (by decide) (hide has_11)).mono fun e w' ⟨he, hk⟩ => ⟨?_, hk⟩
        rw [he]
        exact ret_ev (by simp [evF, evB])
end Go.Proofs.YtkgpoghoilffhaaGreatDoor
