/- Texts of the verifier, joined: Sen, TextMathK, Ev, TxM. -/
import Derived.Test.YtkgpoghoilffhaaGreatDoorSC2
import Derived.Test.YtkgpoghoilffhaaGreatDoorSC1
import Derived.Deep.Heap
import Derived.Lib.AtoiTie
import Derived.Lib.Split
import Derived.Lib.IndexBytes
import Derived.Lib.IndexLaws
namespace Go.Proofs.YtkgpoghoilffhaaGreatDoor
open Go.RowKit Go.Deep
set_option linter.unusedVariables false
set_option maxRecDepth 10000
/-- A word, and numbers behind it, each behind a blank. -/
def senN (ns : List Int) : List UInt8 := ns.flatMap fun n => 32 :: numT n
def sen (W : List UInt8) (ns : List Int) : List UInt8 := W ++ senN ns
def nums (K : List Int) : List Value := K.map fun k => .int .i64 k
theorem nums_length (K : List Int) : (nums K).length = K.length := by simp [nums]
theorem nums_at {w : World} {a : Option Addr} {K : List Int} (h : Cells w a (nums K)) (i : Nat) (hi : i < K.length) : ∃ b off, a = some ⟨b, off, none⟩ ∧ w.cell? ⟨b, off + i, none⟩ = some (.int .i64 K[i]) := by
  rcases h with h | ⟨b, off, e, h⟩
  · have : K = [] := by simpa [nums] using h
    subst this
    simp at hi
  · have := h i (by rw [nums_length]; exact hi)
    exact ⟨b, off, e, by simpa [nums] using this⟩
theorem strCells_of (l : List UInt8) : Lib.strCells ⟨l.toArray⟩ = Lib.byteCells l := by simp [Lib.strCells, Lib.byteCells]
theorem byteCells_app (l m : List UInt8) : Lib.byteCells (l ++ m) = Lib.byteCells l ++ Lib.byteCells m := by simp [Lib.byteCells]
theorem new_bld (w : World) : Bldr w.heap.size w.heap.size [] (w.alloc (.cells #[.pointer none, .slice none 0 0] 78)) := by
  refine .inl ⟨Nat.le_refl _, .slice none 0 0, blk_alloc_new w _, World.ownsRow_nil _ _ _ _, by simp [Value.ownBlock]⟩
theorem senN_succ (ns : List Int) (k : Nat) (h : k < ns.length) : senN (ns.take (k + 1)) = senN (ns.take k) ++ [32] ++ numT ns[k] := by
  unfold senN
  rw [List.take_succ_eq_append_getElem h, List.flatMap_append]
  simp
theorem senN_len (ns : List Int) : (senN ns).length ≤ 22 * ns.length := by
  induction ns with
  | nil => simp [senN]
  | cons n t ih =>
    have := numT_len n
    simp only [senN, List.flatMap_cons, List.length_append, List.length_cons] at ih ⊢
    omega
theorem write_l (B b : Nat) (l m : List UInt8) (w : World) (h : Bldr B b (Lib.byteCells l) w) (hl : l.length + m.length ≤ 4294967296) (hB : B ≤ w.heap.size) :
    Calls Tryz.prog 40 #[.pointer (some ⟨b, 0, none⟩), .string ⟨m.toArray⟩] w fun e w' => (∃ z : Int, e = .returned (.tuple #[.int .i64 z, .nilIface])) ∧ Bldr B b (Lib.byteCells (l ++ m)) w' ∧ Below B w w' := by
  refine (write_any B b _ ⟨m.toArray⟩ w h (by rw [Lib.byteCells_length]; exact hl) hB).mono ?_
  rintro e w' ⟨rfl, h1, h2⟩
  exact ⟨⟨_, rfl⟩, by rw [byteCells_app, ← strCells_of m]; exact h1, h2⟩
theorem owns_keptS {base n : Nat} {e : TypeId} {sz : Nat} {v : Value} {xs : List Value} {w w1 : World} (hk : Keeps w w1) (h : w.ownsRow base e sz v n xs) : w1.ownsRow base e sz v n xs := by
  refine ⟨h.1, ?_⟩
  rcases h.2 with h' | ⟨g, cap, cur, rfl, hb, hg, rest⟩
  · exact .inl h'
  · refine .inr ⟨g, cap, cur, rfl, hb, ?_, rest⟩
    rw [Below.block hk g (Array.getElem?_eq_some_iff.1 hg).1]; exact hg
theorem bld_kept {B b : Nat} {bs : List Value} {w w' : World} (h : Bldr B b bs w) (hk : Keeps w w') : Bldr B b bs w' := by
  have aux : ∀ p, Lib.BuilderAt 78 5 B b p bs w → Lib.BuilderAt 78 5 B b p bs w' := by
    rintro p ⟨hB, v, hb, ho, hn⟩
    have hlt : b < w.heap.size := by
      rcases Nat.lt_or_ge b w.heap.size with h' | h'
      · exact h'
      · simp [Array.getElem?_eq_none h'] at hb
    exact ⟨hB, v, by rw [Below.block hk b hlt]; exact hb, owns_keptS hk ho, hn⟩
  exact h.elim (fun x => .inl (aux _ x)) (fun x => .inr (aux _ x))
set_option maxHeartbeats 4000000 in
theorem sentence_big (W : List UInt8) (a : Option Addr) (cap : Nat) (ns : List Int) (w : World) (hW : W ≠ []) (hW2 : W.length ≤ 20) (hn : ns.length ≤ 1048576) (hc : Cells w a (nums ns)) (ht : Tab w) :
    Calls Tryz.prog 24 #[.string ⟨W.toArray⟩, .slice a ns.length cap] w fun e w' => e = .returned (.string ⟨(sen W ns).toArray⟩) ∧ Keeps w w' := by
  have HB0 := hide (new_bld w)
  have HK0 := hide (Keeps.alloc (Keeps.refl w) (.cells #[.pointer none, .slice none 0 0] 78))
  have HC := hide hc
  have HT := hide ht
  clear hc ht
  go_enter Tryz.func24, Tryz.ntmps24
  go_wp2_with fail
  refine (write_l w.heap.size w.heap.size [] W _ HB0.out (by simp; omega) (by simp)).mono ?_
  rintro e w1 ⟨⟨z, rfl⟩, h1, hb1⟩
  have HB1 := hide h1
  have HK1 : Hid (Keeps w w1) := Below.trans HK0.out hb1
  clear h1 hb1 HB0 HK0
  go_wp2_with fail
  go_loopw [12] (fun y wr => ∃ k : Nat, k ≤ ns.length ∧ y = .int .i64 (k : Int) ∧ Hid (Bldr w.heap.size w.heap.size (Lib.byteCells (W ++ senN (ns.take k))) wr) ∧ Hid (Keeps w wr)) (fun y _ => ns.length - (intOf y).toNat)
  case atStart => exact ⟨0, Nat.zero_le _, rfl, by show Bldr _ _ _ _; simpa [senN] using HB1.out, HK1⟩
  case round =>
    clear HB1 HK1
    obtain ⟨k, hk, rfl, HB, HK⟩ := hrel
    have hsz := HK.out.size
    by_cases hlt : k < ns.length
    · obtain ⟨b, off, ea, c0⟩ := nums_at (HC.out.kept HK.out) k hlt
      subst ea
      have HS := hide (senN_succ ns k hlt)
      have hl1 := senN_len (ns.take k)
      have hl2 : (ns.take k).length ≤ k := by simp; omega
      generalize hx : ns[k] = x at *
      generalize senN (ns.take k) = Z at *
      clear hx
      go_wp2_with fail
      refine (write_l w.heap.size w.heap.size (W ++ Z) [32] _ HB.out (by simp; omega) hsz).mono ?_
      rintro e w2 ⟨⟨z2, rfl⟩, h2, hb2⟩
      have HB2 := hide h2
      have HK2 : Hid (Keeps w w2) := Below.trans HK.out hb2
      have hsz2 := HK2.out.size
      clear h2 hb2 HB HK
      go_wp2_with fail
      refine (num_impl x w2 (HT.out.kept HK2.out)).mono ?_
      rintro e w3 ⟨rfl, hk3⟩
      have HK3 := hide (HK2.out.trans hk3)
      have HB3 := hide (bld_kept HB2.out hk3)
      have hsz3 := HK3.out.size
      have hl3 := numT_len x
      clear hk3 HB2 HK2
      go_wp2_with fail
      refine (write_l w.heap.size w.heap.size (W ++ Z ++ [32]) (numT x) _ HB3.out (by simp; omega) hsz3).mono ?_
      rintro e w4 ⟨⟨z4, rfl⟩, h4, hb4⟩
      have HB4 := hide h4
      have HK4 : Hid (Keeps w w4) := Below.trans HK3.out hb4
      clear h4 hb4 HB3 HK3
      go_wp2_with fail
      go_roundw
      case rel => exact ⟨k + 1, by omega, by go_num, by show Bldr _ _ _ _; rw [HS.out]; simpa [List.append_assoc] using HB4.out, HK4⟩
      case measure => simp [intOf]; omega
    · have e : k = ns.length := by omega
      subst e
      rw [List.take_length] at HB
      go_wp2_with fail
      refine (Tryz.Builder_String w.heap.size w.heap.size (W ++ senN ns) _ HB.out (by simp [hW])).mono ?_
      rintro e w5 ⟨rfl, hb5⟩
      have HK5 : Hid (Keeps w w5) := Below.trans HK.out hb5
      go_wp2_with fail
      go_ret
      exact ⟨rfl, HK5.out⟩
theorem sentence_k (W : List UInt8) (a : Option Addr) (cap : Nat) (ns : List Int) (w : World) (hW : W ≠ []) (hW2 : W.length ≤ 20) (hn : ns.length ≤ 8) (hc : Cells w a (nums ns)) (ht : Tab w) :
    Calls Tryz.prog 24 #[.string ⟨W.toArray⟩, .slice a ns.length cap] w fun e w' => e = .returned (.string ⟨(sen W ns).toArray⟩) ∧ Keeps w w' := sentence_big W a cap ns w hW hW2 (by omega) hc ht
end Go.Proofs.YtkgpoghoilffhaaGreatDoor
namespace Go.Proofs.YtkgpoghoilffhaaGreatDoor
set_option linter.unusedVariables false
open Go.RowKit

theorem decFrom_append (l r : List UInt8) : ∀ acc, Lib.decFrom acc (l ++ r) = (Lib.decFrom acc l).bind fun n => Lib.decFrom n r := by
  induction l with
  | nil => intro acc; simp [Lib.decFrom]
  | cons b t ih =>
    intro acc
    simp only [List.cons_append, Lib.decFrom]
    cases Lib.digitVal b with
    | none => rfl
    | some d => exact ih _
theorem digit_of (d : Nat) (h : d < 10) : Lib.digitVal (UInt8.ofNat (48 + d)) = some d := by
  have e : (UInt8.ofNat (48 + d)).toNat = 48 + d := by rw [UInt8.toNat_ofNat', Nat.mod_eq_of_lt (by omega)]
  unfold Lib.digitVal
  rw [e, if_pos (by omega)]
  congr 1; omega
theorem decFrom_dec (u : Nat) : Lib.decFrom 0 (Lib.decDigits u) = some u := by
  induction u using Nat.strongRecOn with
  | ind u ih =>
    by_cases h : u < 10
    · rw [Lib.decDigits, dif_pos h]
      simp only [Lib.decFrom, digit_of u h, Nat.zero_mul, Nat.zero_add]
    · rw [Lib.decDigits, dif_neg h, decFrom_append, ih (u / 10) (by omega)]
      simp only [Option.bind_some, Lib.decFrom, digit_of (u % 10) (by omega), Option.some.injEq]
      omega
theorem dec_ne (u : Nat) : Lib.decDigits u ≠ [] := by
  intro h
  have := Lib.decDigits_length u
  have h2 := Lib.nDigits_pos u
  rw [h] at this
  simp at this; omega
theorem dec_head (u : Nat) : ∃ c r, Lib.decDigits u = c :: r ∧ c.toNat ≠ 45 ∧ c.toNat ≠ 43 := by
  cases h : Lib.decDigits u with
  | nil => exact absurd h (dec_ne u)
  | cons c r =>
    refine ⟨c, r, rfl, ?_⟩
    obtain ⟨d, hd⟩ := Lib.digit_of_decFrom _ _ _ (decFrom_dec u) 0 c (by rw [h]; rfl)
    unfold Lib.digitVal at hd
    split at hd
    · omega
    · cases hd
theorem nDigits_le : ∀ (k u : Nat), u < 10 ^ (k + 1) → Lib.nDigits u ≤ k + 1
  | 0, u, h => by rw [Lib.nDigits_small (by simpa using h)]; omega
  | k + 1, u, h => by
    by_cases h10 : u < 10
    · rw [Lib.nDigits_small h10]; omega
    · rw [Lib.nDigits_big h10]
      have := nDigits_le k (u / 10) (by rw [Nat.pow_succ] at h; omega)
      omega
theorem itoa_len (n : Int) (h : -1125899906842624 ≤ n) (h' : n ≤ 1125899906842624) : (Lib.itoa n).length ≤ 17 := by
  unfold Lib.itoa
  split
  · have := nDigits_le 15 n.natAbs (by omega)
    simp [Lib.decDigits_length]; omega
  · have := nDigits_le 15 n.toNat (by omega)
    rw [Lib.decDigits_length]; omega
theorem atoi_itoa (n : Int) : Lib.atoi (Lib.itoa n) = some n := by
  unfold Lib.itoa
  split
  · simp [Lib.atoi, Lib.decNat, decFrom_dec, dec_ne]; omega
  · obtain ⟨c, r, e, h1, h2⟩ := dec_head n.toNat
    rw [e]
    have d := decFrom_dec n.toNat
    rw [e] at d
    have e1 : (c == 45) = false := by
      rw [beq_eq_false_iff_ne]; intro hc; subst hc; exact h1 rfl
    have e2 : (c == 43) = false := by
      rw [beq_eq_false_iff_ne]; intro hc; subst hc; exact h2 rfl
    simp [Lib.atoi, Lib.decNat, e1, e2, d]; omega
theorem numT_some {m : Int} {l : List UInt8} (h : numT m = l) (hl : l ≠ []) : (-1125899906842624 ≤ m ∧ m ≤ 1125899906842624) ∧ Lib.itoa m = l := by
  unfold numT at h
  split at h
  · exact absurd h.symm hl
  · exact ⟨by omega, h⟩

/-- What TextNum answers. -/
def Res (l : List UInt8) (v : Int) (b : Bool) : Prop := (b = true ∧ l ≠ [] ∧ numT v = l) ∨ (b = false ∧ v = 0 ∧ ∀ n, l ≠ [] → numT n ≠ l)
theorem res_unique {l : List UInt8} {v v' : Int} {b b' : Bool} (h : Res l v b) (h' : Res l v' b') : v' = v ∧ b' = b := by
  rcases h with ⟨rfl, hl, hv⟩ | ⟨rfl, rfl, hn⟩
  · rcases h' with ⟨rfl, _, hv'⟩ | ⟨rfl, rfl, hn'⟩
    · have a := atoi_itoa v
      have a' := atoi_itoa v'
      rw [(numT_some hv hl).2] at a
      rw [(numT_some hv' hl).2, a] at a'
      exact ⟨(Option.some.inj a').symm, rfl⟩
    · exact absurd hv (hn' v hl)
  · rcases h' with ⟨rfl, hl, hv'⟩ | ⟨rfl, rfl, hn'⟩
    · exact absurd hv' (hn v' hl)
    · exact ⟨rfl, rfl⟩
theorem res_yes {l : List UInt8} {v : Int} (hl : l ≠ []) (h : numT v = l) : Res l v true := Or.inl ⟨rfl, hl, h⟩
theorem res_nil : Res [] 0 false := Or.inr ⟨rfl, rfl, fun _ h => absurd rfl h⟩
theorem res_long {l : List UInt8} (h : 17 < l.length) : Res l 0 false := Or.inr ⟨rfl, rfl, fun n hl hn => by
  obtain ⟨⟨a, b⟩, c⟩ := numT_some hn hl
  have := itoa_len n a b
  rw [c] at this; omega⟩

/-- strconv.Atoi's side. -/
theorem atoiAll_of {m : Int} {l : List UInt8} (h : numT m = l) (hl : l ≠ []) : Lib.atoiAll l = .ok m := by
  obtain ⟨⟨a, b⟩, c⟩ := numT_some h hl
  have hlen := itoa_len m a b
  rw [c] at hlen
  rw [Lib.atoiAll_short l (by omega), ← c, atoi_itoa]; rfl
theorem res_err {l : List UInt8} (h : ∀ v, Lib.atoiAll l ≠ .ok v) : Res l 0 false := Or.inr ⟨rfl, rfl, fun n hl hn => h n (atoiAll_of hn hl)⟩
theorem res_other {l : List UInt8} {v : Int} (h : Lib.atoiAll l = .ok v) (hv : numT v ≠ l) : Res l 0 false := Or.inr ⟨rfl, rfl, fun n hl hn => by
  have := atoiAll_of hn hl
  rw [h] at this
  injection this with this
  exact hv (this ▸ hn)⟩

/-- The model's side: the sign's place, what stands behind it. -/
def st (l : List UInt8) : Nat := if l.head? = some 45 then 1 else 0
def spv (l : List UInt8) : Option Int := (Lib.decFrom 0 (l.drop (st l))).map fun m => if l.head? = some 45 then -(m : Int) else (m : Int)
theorem spv_itoa (m : Int) : spv (Lib.itoa m) = some m := by
  unfold Lib.itoa
  split
  · simp [spv, st, decFrom_dec]; omega
  · obtain ⟨c, r, e, h1, h2⟩ := dec_head m.toNat
    have d := decFrom_dec m.toNat
    rw [e] at d ⊢
    have hc : ¬ c = 45 := fun hc => by subst hc; exact h1 rfl
    simp [spv, st, hc, d]; omega
theorem res_none {l : List UInt8} (h : spv l = none) : Res l 0 false := Or.inr ⟨rfl, rfl, fun n hl hn => by
  have := spv_itoa n
  rw [(numT_some hn hl).2, h] at this; cases this⟩
theorem res_diff {l : List UInt8} {v : Int} (h : spv l = some v) (hv : numT v ≠ l) : Res l 0 false := Or.inr ⟨rfl, rfl, fun n hl hn => by
  have := spv_itoa n
  rw [(numT_some hn hl).2, h] at this
  exact hv (Option.some.inj this ▸ hn)⟩
theorem decFrom_lt : ∀ (l : List UInt8) (acc n k : Nat), acc < 10 ^ k → Lib.decFrom acc l = some n → n < 10 ^ (k + l.length)
  | [], acc, n, k, ha, h => by simp [Lib.decFrom] at h; subst h; simpa using ha
  | b :: r, acc, n, k, ha, h => by
    simp only [Lib.decFrom] at h
    cases hb : Lib.digitVal b with
    | none => simp [hb] at h
    | some d =>
      have hd : d < 10 := by
        unfold Lib.digitVal at hb
        split at hb
        · injection hb with hb; omega
        · cases hb
      simp only [hb] at h
      have := decFrom_lt r (acc * 10 + d) n (k + 1) (by rw [Nat.pow_succ]; omega) h
      rw [show k + (b :: r).length = k + 1 + r.length by simp; omega]
      exact this
theorem decFrom_small {l : List UInt8} {n : Nat} (hl : l.length ≤ 16) (h : Lib.decFrom 0 l = some n) : n < 10000000000000000 := by
  have := decFrom_lt l 0 n 0 (by simp) h
  have h2 : 10 ^ (0 + l.length) ≤ 10 ^ 16 := Nat.pow_le_pow_right (by omega) (by omega)
  omega
theorem decFrom_bad {l : List UInt8} {k : Nat} {b : UInt8} (h : l[k]? = some b) (hb : Lib.digitVal b = none) : Lib.decFrom 0 l = none := by
  cases hd : Lib.decFrom 0 l with
  | none => rfl
  | some n =>
    obtain ⟨d, hd'⟩ := Lib.digit_of_decFrom l 0 n hd k b h
    rw [hb] at hd'; cases hd'
end Go.Proofs.YtkgpoghoilffhaaGreatDoor
namespace Go.Proofs.YtkgpoghoilffhaaGreatDoor
open Go.RowKit
set_option linter.unusedVariables false

/-- An event: kind, key, channel, the other channel, amount, fee, yes. -/
structure Ev where
  k : Int
  y : Int
  c : Int
  t : Int
  m : Int
  f : Int
  b : Bool
abbrev evV (k y c t m f : Int) (b : Bool) : Value := .agg #[.int .i64 k, .int .i64 y, .int .i64 c, .int .i64 t, .int .i64 m, .int .i64 f, .bool b]
abbrev evCells (k y c t m f : Int) (b : Bool) : Array Value := #[.int .i64 k, .int .i64 y, .int .i64 c, .int .i64 t, .int .i64 m, .int .i64 f, .bool b]

def fieldB (h : Bool) (n lo hi : Int) : Bool := if h then decide (lo ≤ n) && decide (n ≤ hi) else decide (n = 0)
/-- Is the event right, kind by kind? -/
def evB (k y c t m f : Int) (b : Bool) : Bool :=
  if k = 1 then fieldB false y 1 1000000 && fieldB false c 1 99 && fieldB false t 1 99 && fieldB true m 1 1125899906842624 && fieldB false f 0 1125899906842624 && !b
  else if k = 2 then fieldB false y 1 1000000 && fieldB true c 1 99 && fieldB false t 1 99 && fieldB true m 1 1125899906842624 && fieldB true f 0 1125899906842624 && !b
  else if k = 3 then fieldB false y 1 1000000 && fieldB true c 1 99 && fieldB false t 1 99 && fieldB false m 1 1125899906842624 && fieldB true f 0 1125899906842624 && !b
  else if k = 4 then fieldB false y 1 1000000 && fieldB true c 1 99 && fieldB false t 1 99 && fieldB true m 0 1125899906842624 && fieldB true f 0 1000000 && !b
  else if k = 5 then fieldB true y 1 1000000 && fieldB true c 1 99 && fieldB true t 1 99 && !decide (c = t) && fieldB true m 1 1125899906842624 && fieldB false f 0 1125899906842624
  else if k = 8 then fieldB false y 1 1000000 && fieldB false c 1 99 && fieldB false t 1 99 && fieldB false m 1 1125899906842624 && fieldB false f 0 1125899906842624 && !b
  else if k = 9 then fieldB true y 1 1000000 && fieldB true c 1 99 && fieldB true t 1 99 && !decide (c = t) && fieldB true m 1 1125899906842624 && fieldB true f 0 1125899906842624 && !b
  else if k = 6 ∨ k = 7 ∨ k = 10 ∨ k = 11 then fieldB true y 1 1000000 && fieldB false c 1 99 && fieldB false t 1 99 && fieldB false m 1 1125899906842624 && fieldB false f 0 1125899906842624 && !b
  else false
end Go.Proofs.YtkgpoghoilffhaaGreatDoor
namespace Go.Proofs.YtkgpoghoilffhaaGreatDoor
open Go.RowKit
set_option linter.unusedVariables false
set_option maxRecDepth 10000
set_option linter.unusedSimpArgs false
/-- Words with one blank between any two. -/
def join : List (List UInt8) → List UInt8
  | [] => []
  | [w] => w
  | w :: v :: r => w ++ 32 :: join (v :: r)
theorem join_cons (w v : List UInt8) (r : List (List UInt8)) : join (w :: v :: r) = w ++ 32 :: join (v :: r) := rfl
theorem sen_join (W : List UInt8) : ∀ ns : List Int, sen W ns = join (W :: ns.map numT)
  | [] => by simp [sen, senN, join]
  | n :: r => by
    have ih := sen_join (numT n) r
    simp only [List.map_cons, join_cons]
    rw [← ih]
    simp [sen, senN]
theorem join_snoc (x : List UInt8) : ∀ (w : List UInt8) (r : List (List UInt8)), join (w :: r ++ [x]) = join (w :: r) ++ 32 :: x
  | w, [] => by simp [join]
  | w, v :: r => by
    have ih := join_snoc x v r
    simp only [List.cons_append] at ih ⊢
    rw [join_cons, ih, join_cons]
    simp
theorem idx_none {w : List UInt8} (h : (32 : UInt8) ∉ w) : Lib.index w [32] = -1 := by
  rw [Lib.index_one]
  by_cases h1 : Lib.indexByte w 32 < 0
  · have := Lib.indexByte_ge w 32
    omega
  · obtain ⟨i, hi⟩ := Int.eq_ofNat_of_zero_le (Int.not_lt.1 h1)
    exact absurd (List.mem_of_getElem? (Lib.indexByte_some hi).1) h
theorem idx_at {w r : List UInt8} (h : (32 : UInt8) ∉ w) : Lib.index (w ++ 32 :: r) [32] = (w.length : Int) := by
  rw [Lib.index_one]
  have hm : (w ++ 32 :: r)[w.length]? = some 32 := by simp
  by_cases h1 : Lib.indexByte (w ++ 32 :: r) 32 < 0
  · have := Lib.indexByte_ge (w ++ 32 :: r) 32
    exact absurd hm (Lib.indexByte_none (by omega) _)
  · obtain ⟨i, hi⟩ := Int.eq_ofNat_of_zero_le (Int.not_lt.1 h1)
    obtain ⟨a1, a2⟩ := Lib.indexByte_some hi
    rcases Nat.lt_trichotomy i w.length with h2 | h2 | h2
    · rw [List.getElem?_append_left h2] at a1
      exact absurd (List.mem_of_getElem? a1) h
    · rw [hi, h2]
    · exact absurd hm (a2 _ h2)
/-- What is joined is split again. -/
theorem split_join : ∀ (W : List (List UInt8)) (k : Nat), W ≠ [] → (∀ w ∈ W, (32 : UInt8) ∉ w) → W.length ≤ k + 1 → Lib.splitK [32] 0 k (join W) = W
  | [], _, h, _, _ => absurd rfl h
  | [w], k, _, h, _ => by
    have hw := h w (by simp)
    cases k with
    | zero => rfl
    | succ k =>
      show (if (Lib.index w [32] == -1) = true then [w] else _) = [w]
      rw [if_pos (by rw [idx_none hw]; rfl)]
  | w :: v :: r, 0, _, _, hl => by simp at hl
  | w :: v :: r, k + 1, _, h, hl => by
    have hw := h w (by simp)
    have ih := split_join (v :: r) k (by simp) (fun x hx => h x (List.mem_cons_of_mem _ hx)) (by simpa using hl)
    have e : Lib.index (w ++ 32 :: join (v :: r)) [32] = (w.length : Int) := idx_at hw
    show (if (Lib.index (w ++ 32 :: join (v :: r)) [32] == -1) = true then _ else List.take ((Lib.index (w ++ 32 :: join (v :: r)) [32]).toNat + 0) (w ++ 32 :: join (v :: r)) :: Lib.splitK [32] 0 k (List.drop ((Lib.index (w ++ 32 :: join (v :: r)) [32]).toNat + 1) (w ++ 32 :: join (v :: r)))) = _
    rw [if_neg (by rw [e]; simp), e]
    have e2 : List.drop (w.length + 1) (w ++ 32 :: join (v :: r)) = join (v :: r) := by
      rw [← List.drop_drop, List.drop_left]
      rfl
    simp only [Int.toNat_natCast, Nat.add_zero, List.take_left]
    rw [e2, ih]
theorem dec_sign (u : Nat) : ∀ x ∈ Lib.decDigits u, 48 ≤ x.toNat := by
  induction u using Nat.strongRecOn with
  | ind u ih =>
    intro x hx
    by_cases h10 : u < 10
    · rw [Lib.decDigits_one h10] at hx
      have : x = UInt8.ofNat (48 + u) := by simpa using hx
      rw [this, UInt8.toNat_ofNat']
      omega
    · rw [Lib.decDigits, dif_neg h10] at hx
      rcases List.mem_append.1 hx with h1 | h1
      · exact ih (u / 10) (by omega) x h1
      · have : x = UInt8.ofNat (48 + u % 10) := by simpa using h1
        rw [this, UInt8.toNat_ofNat']
        omega
theorem num_blank (n : Int) : (32 : UInt8) ∉ numT n := by
  intro h
  unfold numT at h
  split at h
  · simp at h
  · unfold Lib.itoa at h
    split at h
    · rcases List.mem_cons.1 h with h1 | h1
      · exact absurd h1 (by decide)
      · exact absurd (dec_sign _ _ h1) (by decide)
    · exact absurd (dec_sign _ _ h) (by decide)
theorem num_ne {n : Int} (h0 : -1125899906842624 ≤ n) (h1 : n ≤ 1125899906842624) : numT n ≠ [] := by
  rw [numT_in h0 h1]
  unfold Lib.itoa
  split
  · simp
  · exact dec_ne _
open Classical in
/-- The number that a text says, 0 where it says none. -/
noncomputable def txN (l : List UInt8) : Int := if h : ∃ n, l ≠ [] ∧ numT n = l then Classical.choose h else 0
theorem res_tx {l : List UInt8} {v : Int} {b : Bool} (h : Res l v b) : v = txN l := by
  unfold txN
  split
  · next hx =>
    have h2 := Classical.choose_spec hx
    exact (res_unique (res_yes h2.1 h2.2) h).1
  · next hx =>
    rcases h with ⟨_, hl, hv⟩ | ⟨_, hv, _⟩
    · exact absurd ⟨v, hl, hv⟩ hx
    · exact hv
theorem tx_num {n : Int} (h0 : -1125899906842624 ≤ n) (h1 : n ≤ 1125899906842624) : txN (numT n) = n := (res_tx (res_yes (num_ne h0 h1) rfl)).symm
theorem tx_nil : txN [] = 0 := (res_tx res_nil).symm
/-- The words of an event. -/
def evW (k y c t m f : Int) (b : Bool) : List (List UInt8) :=
  if k = 1 then [[100, 101, 112, 111, 115, 105, 116], numT m]
  else if k = 2 then [[111, 112, 101, 110], numT c, numT m, numT f]
  else if k = 3 then [[99, 108, 111, 115, 101], numT c, numT f]
  else if k = 4 then [[112, 114, 105, 99, 101], numT c, numT m, numT f]
  else if k = 5 then [[97, 100, 109, 105, 116], numT y, numT c, numT t, numT m, if b = true then [121, 101, 115] else [110, 111]]
  else if k = 6 then [[102, 117, 108, 102, 105, 108, 108], numT y]
  else if k = 7 then [[102, 97, 105, 108], numT y]
  else if k = 8 then [[116, 105, 99, 107]]
  else if k = 9 then [[108, 97, 117, 110, 99, 104], numT y, numT c, numT t, numT m, numT f]
  else if k = 10 then [[97, 114, 114, 105, 118, 101], numT y]
  else if k = 11 then [[108, 111, 115, 116], numT y]
  else [[]]
def evT (k y c t m f : Int) (b : Bool) : List UInt8 := join (evW k y c t m f b)
theorem evT_1 (y c t m f : Int) (b : Bool) : evT 1 y c t m f b = sen [100, 101, 112, 111, 115, 105, 116] [m] := by
  rw [sen_join]
  rfl
theorem evT_2 (y c t m f : Int) (b : Bool) : evT 2 y c t m f b = sen [111, 112, 101, 110] [c, m, f] := by
  rw [sen_join]
  rfl
theorem evT_3 (y c t m f : Int) (b : Bool) : evT 3 y c t m f b = sen [99, 108, 111, 115, 101] [c, f] := by
  rw [sen_join]
  rfl
theorem evT_4 (y c t m f : Int) (b : Bool) : evT 4 y c t m f b = sen [112, 114, 105, 99, 101] [c, m, f] := by
  rw [sen_join]
  rfl
theorem evT_5 (y c t m f : Int) (b : Bool) : evT 5 y c t m f b = sen [97, 100, 109, 105, 116] [y, c, t, m] ++ (if b = true then [32, 121, 101, 115] else [32, 110, 111]) := by
  rw [sen_join]
  have h := join_snoc (if b = true then [121, 101, 115] else [110, 111]) [97, 100, 109, 105, 116] [numT y, numT c, numT t, numT m]
  show join _ = _
  simp only [evW, if_false, if_true, Int.reduceEq, List.map_cons, List.map_nil]
  rw [show [[97, 100, 109, 105, 116], numT y, numT c, numT t, numT m, if b = true then [121, 101, 115] else [110, 111]] = [97, 100, 109, 105, 116] :: [numT y, numT c, numT t, numT m] ++ [if b = true then [121, 101, 115] else [110, 111]] from rfl, h]
  cases b <;> rfl
theorem evT_6 (y c t m f : Int) (b : Bool) : evT 6 y c t m f b = sen [102, 117, 108, 102, 105, 108, 108] [y] := by
  rw [sen_join]
  rfl
theorem evT_7 (y c t m f : Int) (b : Bool) : evT 7 y c t m f b = sen [102, 97, 105, 108] [y] := by
  rw [sen_join]
  rfl
theorem evT_8 (y c t m f : Int) (b : Bool) : evT 8 y c t m f b = sen [116, 105, 99, 107] [] := by
  rw [sen_join]
  rfl
theorem evT_9 (y c t m f : Int) (b : Bool) : evT 9 y c t m f b = sen [108, 97, 117, 110, 99, 104] [y, c, t, m, f] := by
  rw [sen_join]
  rfl
theorem evT_10 (y c t m f : Int) (b : Bool) : evT 10 y c t m f b = sen [97, 114, 114, 105, 118, 101] [y] := by
  rw [sen_join]
  rfl
theorem evT_11 (y c t m f : Int) (b : Bool) : evT 11 y c t m f b = sen [108, 111, 115, 116] [y] := by
  rw [sen_join]
  rfl
/-- What words say. -/
noncomputable def said (ws : List (List UInt8)) : Ev :=
  if ws.headD [] = [100, 101, 112, 111, 115, 105, 116] then ⟨1, 0, 0, 0, (txN (ws.getD 1 [])), 0, false⟩
  else if ws.headD [] = [111, 112, 101, 110] then ⟨2, 0, (txN (ws.getD 1 [])), 0, (txN (ws.getD 2 [])), (txN (ws.getD 3 [])), false⟩
  else if ws.headD [] = [99, 108, 111, 115, 101] then ⟨3, 0, (txN (ws.getD 1 [])), 0, 0, (txN (ws.getD 2 [])), false⟩
  else if ws.headD [] = [112, 114, 105, 99, 101] then ⟨4, 0, (txN (ws.getD 1 [])), 0, (txN (ws.getD 2 [])), (txN (ws.getD 3 [])), false⟩
  else if ws.headD [] = [97, 100, 109, 105, 116] then ⟨5, (txN (ws.getD 1 [])), (txN (ws.getD 2 [])), (txN (ws.getD 3 [])), (txN (ws.getD 4 [])), 0, (ws.getLastD [] == [121, 101, 115])⟩
  else if ws.headD [] = [102, 117, 108, 102, 105, 108, 108] then ⟨6, (txN (ws.getD 1 [])), 0, 0, 0, 0, false⟩
  else if ws.headD [] = [102, 97, 105, 108] then ⟨7, (txN (ws.getD 1 [])), 0, 0, 0, 0, false⟩
  else if ws.headD [] = [116, 105, 99, 107] then ⟨8, 0, 0, 0, 0, 0, false⟩
  else if ws.headD [] = [108, 97, 117, 110, 99, 104] then ⟨9, (txN (ws.getD 1 [])), (txN (ws.getD 2 [])), (txN (ws.getD 3 [])), (txN (ws.getD 4 [])), (txN (ws.getD 5 [])), false⟩
  else if ws.headD [] = [97, 114, 114, 105, 118, 101] then ⟨10, (txN (ws.getD 1 [])), 0, 0, 0, 0, false⟩
  else if ws.headD [] = [108, 111, 115, 116] then ⟨11, (txN (ws.getD 1 [])), 0, 0, 0, 0, false⟩
  else ⟨0, 0, 0, 0, 0, 0, false⟩
/-- The bounds of a right event. -/
theorem ev_bounds {k y c t m f : Int} {b : Bool} (h : evB k y c t m f b = true) : (1 ≤ k ∧ k ≤ 11) ∧ (0 ≤ y ∧ y ≤ 1000000) ∧ (0 ≤ c ∧ c ≤ 99) ∧ (0 ≤ t ∧ t ≤ 99) ∧ (0 ≤ m ∧ m ≤ 1125899906842624) ∧ (0 ≤ f ∧ f ≤ 1125899906842624) := by
  unfold evB at h
  repeat' (split at h)
  all_goals first
    | (simp only [Bool.and_eq_true, fieldB, if_true, decide_eq_true_eq, Bool.false_eq_true, if_false] at h; omega)
    | exact Bool.noConfusion h
/-- The words of a right event say it again. -/
theorem said_again {k y c t m f : Int} {b : Bool} (h : evB k y c t m f b = true) : said (evW k y c t m f b) = ⟨k, y, c, t, m, f, b⟩ := by
  obtain ⟨⟨k1, k2⟩, ⟨y1, y2⟩, ⟨c1, c2⟩, ⟨t1, t2⟩, ⟨m1, m2⟩, ⟨f1, f2⟩⟩ := ev_bounds h
  have ty := tx_num (n := y) (by omega) (by omega)
  have tc := tx_num (n := c) (by omega) (by omega)
  have tt := tx_num (n := t) (by omega) (by omega)
  have tm := tx_num (n := m) (by omega) (by omega)
  have tf := tx_num (n := f) (by omega) (by omega)
  have hk : k = 1 ∨ k = 2 ∨ k = 3 ∨ k = 4 ∨ k = 5 ∨ k = 6 ∨ k = 7 ∨ k = 8 ∨ k = 9 ∨ k = 10 ∨ k = 11 := by omega
  rcases hk with rfl | rfl | rfl | rfl | rfl | rfl | rfl | rfl | rfl | rfl | rfl
  all_goals
    simp only [evB, fieldB, Bool.and_eq_true, decide_eq_true_eq, Bool.false_eq_true, if_true, if_false, Int.reduceEq, Bool.not_eq_true', or_false, or_true, false_or, true_or, or_self] at h
    simp [said, evW, ty, tc, tt, tm, tf]
    try omega
    try (cases b <;> simp_all)
theorem words_blank (k y c t m f : Int) (b : Bool) : ∀ w ∈ evW k y c t m f b, (32 : UInt8) ∉ w := by
  have hn := num_blank
  intro w hw
  unfold evW at hw
  repeat' (split at hw)
  all_goals
    simp only [List.mem_cons, List.not_mem_nil, or_false] at hw
    rcases hw with rfl | hw
    · decide
    repeat (first | (rcases hw with rfl | hw; · first | exact hn _ | decide) | (subst hw; first | exact hn _ | decide))
theorem words_len (k y c t m f : Int) (b : Bool) : (evW k y c t m f b).length ≤ 6 ∧ evW k y c t m f b ≠ [] := by
  unfold evW
  repeat' split
  all_goals simp
/-- A right event's text is split into its words. -/
theorem ev_split (k y c t m f : Int) (b : Bool) (j : Nat) (hj : 5 ≤ j) : Lib.splitK [32] 0 j (evT k y c t m f b) = evW k y c t m f b := by
  obtain ⟨h1, h2⟩ := words_len k y c t m f b
  exact split_join _ _ h2 (words_blank k y c t m f b) (by omega)
/-- Right events of the same text are the same. -/
theorem ev_inj {k y c t m f k' y' c' t' m' f' : Int} {b b' : Bool} (h : evB k y c t m f b = true) (h' : evB k' y' c' t' m' f' b' = true) (e : evT k y c t m f b = evT k' y' c' t' m' f' b') : k = k' ∧ y = y' ∧ c = c' ∧ t = t' ∧ m = m' ∧ f = f' ∧ b = b' := by
  have e1 := ev_split k y c t m f b 5 (by omega)
  have e2 := ev_split k' y' c' t' m' f' b' 5 (by omega)
  rw [e, e2] at e1
  have e3 := said_again h
  rw [← e1, said_again h'] at e3
  injection e3 with a1 a2 a3 a4 a5 a6 a7
  exact ⟨a1.symm, a2.symm, a3.symm, a4.symm, a5.symm, a6.symm, a7.symm⟩
end Go.Proofs.YtkgpoghoilffhaaGreatDoor
