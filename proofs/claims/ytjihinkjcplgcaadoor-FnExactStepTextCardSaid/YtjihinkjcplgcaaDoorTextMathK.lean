/- Plain laws on decimal texts: what TextNum answers, and that it is one answer. -/
import Derived.Test.YtjihinkjcplgcaaDoorNumK
import Derived.Lib.AtoiTie
namespace Go.Proofs.YtjihinkjcplgcaaDoor
set_option linter.unusedVariables false
open Go.RowKit

theorem decFrom_append (l r : List UInt8) : ∀ acc, Lib.decFrom acc (l ++ r) = (Lib.decFrom acc l).bind fun n => Lib.decFrom n r := by
  induction l with
  | nil => intro acc; simp [Lib.decFrom]
  | cons b t ih =>
    intro acc
    simp only [List.cons_append, Lib.decFrom]
    cases Lib.digitVal b with
    | none => rfl
    | some d => exact ih _
theorem digit_of (d : Nat) (h : d < 10) : Lib.digitVal (UInt8.ofNat (48 + d)) = some d := by
  have e : (UInt8.ofNat (48 + d)).toNat = 48 + d := by rw [UInt8.toNat_ofNat', Nat.mod_eq_of_lt (by omega)]
  unfold Lib.digitVal
  rw [e, if_pos (by omega)]
  congr 1; omega
theorem decFrom_dec (u : Nat) : Lib.decFrom 0 (Lib.decDigits u) = some u := by
  induction u using Nat.strongRecOn with
  | ind u ih =>
    by_cases h : u < 10
    · rw [Lib.decDigits, dif_pos h]
      simp only [Lib.decFrom, digit_of u h, Nat.zero_mul, Nat.zero_add]
    · rw [Lib.decDigits, dif_neg h, decFrom_append, ih (u / 10) (by omega)]
      simp only [Option.bind_some, Lib.decFrom, digit_of (u % 10) (by omega), Option.some.injEq]
      omega
theorem dec_ne (u : Nat) : Lib.decDigits u ≠ [] := by
  intro h
  have := Lib.decDigits_length u
  have h2 := Lib.nDigits_pos u
  rw [h] at this
  simp at this; omega
theorem dec_head (u : Nat) : ∃ c r, Lib.decDigits u = c :: r ∧ c.toNat ≠ 45 ∧ c.toNat ≠ 43 := by
  cases h : Lib.decDigits u with
  | nil => exact absurd h (dec_ne u)
  | cons c r =>
    refine ⟨c, r, rfl, ?_⟩
    obtain ⟨d, hd⟩ := Lib.digit_of_decFrom _ _ _ (decFrom_dec u) 0 c (by rw [h]; rfl)
    unfold Lib.digitVal at hd
    split at hd
    · omega
    · cases hd
theorem nDigits_le : ∀ (k u : Nat), u < 10 ^ (k + 1) → Lib.nDigits u ≤ k + 1
  | 0, u, h => by rw [Lib.nDigits_small (by simpa using h)]; omega
  | k + 1, u, h => by
    by_cases h10 : u < 10
    · rw [Lib.nDigits_small h10]; omega
    · rw [Lib.nDigits_big h10]
      have := nDigits_le k (u / 10) (by rw [Nat.pow_succ] at h; omega)
      omega
theorem itoa_len (n : Int) (h : -1125899906842624 ≤ n) (h' : n ≤ 1125899906842624) : (Lib.itoa n).length ≤ 17 := by
  unfold Lib.itoa
  split
  · have := nDigits_le 15 n.natAbs (by omega)
    simp [Lib.decDigits_length]; omega
  · have := nDigits_le 15 n.toNat (by omega)
    rw [Lib.decDigits_length]; omega
theorem atoi_itoa (n : Int) : Lib.atoi (Lib.itoa n) = some n := by
  unfold Lib.itoa
  split
  · simp [Lib.atoi, Lib.decNat, decFrom_dec, dec_ne]; omega
  · obtain ⟨c, r, e, h1, h2⟩ := dec_head n.toNat
    rw [e]
    have d := decFrom_dec n.toNat
    rw [e] at d
    have e1 : (c == 45) = false := by
      rw [beq_eq_false_iff_ne]; intro hc; subst hc; exact h1 rfl
    have e2 : (c == 43) = false := by
      rw [beq_eq_false_iff_ne]; intro hc; subst hc; exact h2 rfl
    simp [Lib.atoi, Lib.decNat, e1, e2, d]; omega
theorem numT_some {m : Int} {l : List UInt8} (h : numT m = l) (hl : l ≠ []) : (-1125899906842624 ≤ m ∧ m ≤ 1125899906842624) ∧ Lib.itoa m = l := by
  unfold numT at h
  split at h
  · exact absurd h.symm hl
  · exact ⟨by omega, h⟩

/-- What TextNum answers. -/
def Res (l : List UInt8) (v : Int) (b : Bool) : Prop := (b = true ∧ l ≠ [] ∧ numT v = l) ∨ (b = false ∧ v = 0 ∧ ∀ n, l ≠ [] → numT n ≠ l)
theorem res_unique {l : List UInt8} {v v' : Int} {b b' : Bool} (h : Res l v b) (h' : Res l v' b') : v' = v ∧ b' = b := by
  rcases h with ⟨rfl, hl, hv⟩ | ⟨rfl, rfl, hn⟩
  · rcases h' with ⟨rfl, _, hv'⟩ | ⟨rfl, rfl, hn'⟩
    · have a := atoi_itoa v
      have a' := atoi_itoa v'
      rw [(numT_some hv hl).2] at a
      rw [(numT_some hv' hl).2, a] at a'
      exact ⟨(Option.some.inj a').symm, rfl⟩
    · exact absurd hv (hn' v hl)
  · rcases h' with ⟨rfl, hl, hv'⟩ | ⟨rfl, rfl, hn'⟩
    · exact absurd hv' (hn v' hl)
    · exact ⟨rfl, rfl⟩
theorem res_yes {l : List UInt8} {v : Int} (hl : l ≠ []) (h : numT v = l) : Res l v true := Or.inl ⟨rfl, hl, h⟩
theorem res_nil : Res [] 0 false := Or.inr ⟨rfl, rfl, fun _ h => absurd rfl h⟩
theorem res_long {l : List UInt8} (h : 17 < l.length) : Res l 0 false := Or.inr ⟨rfl, rfl, fun n hl hn => by
  obtain ⟨⟨a, b⟩, c⟩ := numT_some hn hl
  have := itoa_len n a b
  rw [c] at this; omega⟩

/-- strconv.Atoi's side. -/
theorem atoiAll_of {m : Int} {l : List UInt8} (h : numT m = l) (hl : l ≠ []) : Lib.atoiAll l = .ok m := by
  obtain ⟨⟨a, b⟩, c⟩ := numT_some h hl
  have hlen := itoa_len m a b
  rw [c] at hlen
  rw [Lib.atoiAll_short l (by omega), ← c, atoi_itoa]; rfl
theorem res_err {l : List UInt8} (h : ∀ v, Lib.atoiAll l ≠ .ok v) : Res l 0 false := Or.inr ⟨rfl, rfl, fun n hl hn => h n (atoiAll_of hn hl)⟩
theorem res_other {l : List UInt8} {v : Int} (h : Lib.atoiAll l = .ok v) (hv : numT v ≠ l) : Res l 0 false := Or.inr ⟨rfl, rfl, fun n hl hn => by
  have := atoiAll_of hn hl
  rw [h] at this
  injection this with this
  exact hv (this ▸ hn)⟩

/-- The model's side: the sign's place, what stands behind it. -/
def st (l : List UInt8) : Nat := if l.head? = some 45 then 1 else 0
def spv (l : List UInt8) : Option Int := (Lib.decFrom 0 (l.drop (st l))).map fun m => if l.head? = some 45 then -(m : Int) else (m : Int)
theorem spv_itoa (m : Int) : spv (Lib.itoa m) = some m := by
  unfold Lib.itoa
  split
  · simp [spv, st, decFrom_dec]; omega
  · obtain ⟨c, r, e, h1, h2⟩ := dec_head m.toNat
    have d := decFrom_dec m.toNat
    rw [e] at d ⊢
    have hc : ¬ c = 45 := fun hc => by subst hc; exact h1 rfl
    simp [spv, st, hc, d]; omega
theorem res_none {l : List UInt8} (h : spv l = none) : Res l 0 false := Or.inr ⟨rfl, rfl, fun n hl hn => by
  have := spv_itoa n
  rw [(numT_some hn hl).2, h] at this; cases this⟩
theorem res_diff {l : List UInt8} {v : Int} (h : spv l = some v) (hv : numT v ≠ l) : Res l 0 false := Or.inr ⟨rfl, rfl, fun n hl hn => by
  have := spv_itoa n
  rw [(numT_some hn hl).2, h] at this
  exact hv (Option.some.inj this ▸ hn)⟩
theorem decFrom_lt : ∀ (l : List UInt8) (acc n k : Nat), acc < 10 ^ k → Lib.decFrom acc l = some n → n < 10 ^ (k + l.length)
  | [], acc, n, k, ha, h => by simp [Lib.decFrom] at h; subst h; simpa using ha
  | b :: r, acc, n, k, ha, h => by
    simp only [Lib.decFrom] at h
    cases hb : Lib.digitVal b with
    | none => simp [hb] at h
    | some d =>
      have hd : d < 10 := by
        unfold Lib.digitVal at hb
        split at hb
        · injection hb with hb; omega
        · cases hb
      simp only [hb] at h
      have := decFrom_lt r (acc * 10 + d) n (k + 1) (by rw [Nat.pow_succ]; omega) h
      rw [show k + (b :: r).length = k + 1 + r.length by simp; omega]
      exact this
theorem decFrom_small {l : List UInt8} {n : Nat} (hl : l.length ≤ 16) (h : Lib.decFrom 0 l = some n) : n < 10000000000000000 := by
  have := decFrom_lt l 0 n 0 (by simp) h
  have h2 : 10 ^ (0 + l.length) ≤ 10 ^ 16 := Nat.pow_le_pow_right (by omega) (by omega)
  omega
theorem decFrom_bad {l : List UInt8} {k : Nat} {b : UInt8} (h : l[k]? = some b) (hb : Lib.digitVal b = none) : Lib.decFrom 0 l = none := by
  cases hd : Lib.decFrom 0 l with
  | none => rfl
  | some n =>
    obtain ⟨d, hd'⟩ := Lib.digit_of_decFrom l 0 n hd k b h
    rw [hb] at hd'; cases hd'
end Go.Proofs.YtjihinkjcplgcaaDoor
