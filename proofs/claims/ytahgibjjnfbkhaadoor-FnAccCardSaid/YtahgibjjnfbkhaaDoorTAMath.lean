/- No two right accounts have one text. -/
import Derived.Test.YtahgibjjnfbkhaaDoorTexts
import Derived.Test.YtahgibjjnfbkhaaDoorTextMathK
namespace Go.Proofs.YtahgibjjnfbkhaaDoor
open Go.RowKit
set_option linter.unusedVariables false

/-- The text of an account, as a list. -/
def textL (k c : Int) : List UInt8 := (textA k c).data.toList
theorem textL_small {k c : Int} (h : accB k c = true) (hk : k < 6) : textL k c = (nameA k).data.toList := by simp [textL, textA, h, hk]
theorem textL_great {k c : Int} (h : accB k c = true) (hk : ¬ k < 6) : textL k c = (nameA k).data.toList ++ numT c := by
  simp [textL, textA, h, hk]
theorem textL_no {k c : Int} (h : accB k c = false) : textL k c = [] := by simp [textL, textA, h]
theorem numT_dec {c : Int} (h0 : 1 ≤ c) (h1 : c ≤ 99) : numT c = Lib.decDigits c.toNat := by
  rw [numT_in (by omega) (by omega)]
  obtain ⟨u, rfl⟩ := Int.eq_ofNat_of_zero_le (show 0 ≤ c by omega)
  rw [Lib.itoa_nonneg, Int.toNat_natCast]
theorem dec_head99 (u : Nat) : ∃ b r, Lib.decDigits u = b :: r ∧ b ≠ 99 := by
  obtain ⟨b, r, h, _⟩ := dec_head u
  refine ⟨b, r, h, fun e => ?_⟩
  have h1 := decFrom_dec u
  rw [h, decFrom_bad (k := 0) (b := b) rfl (by rw [e]; rfl)] at h1
  cases h1
theorem numT_inj {c c' : Int} (h0 : 1 ≤ c) (h1 : c ≤ 99) (h : numT c = numT c') : c' = c := by
  have hne : numT c ≠ [] := by rw [numT_dec h0 h1]; exact dec_ne _
  have := res_unique (res_yes hne rfl) (res_yes (l := numT c) (v := c') hne h.symm)
  exact this.1
theorem nameL_ne {k : Int} (h : 1 ≤ k ∧ k ≤ 8) : (nameA k).data.toList ≠ [] := by
  rcases kinds k with rfl | rfl | rfl | rfl | rfl | rfl | rfl | rfl | h <;> first | (intro e; cases e) | (exfalso; omega)
theorem head3 {k c : Int} (h : accB k c = true) (u : UInt8) (r : List UInt8) (e : textL k c = u :: r) :
    (k = 1 ∧ u = 119) ∨ (k = 2 ∧ u = 101) ∨ (k = 3 ∧ u = 105 ∧ r[1]? = some 99) ∨ (k = 4 ∧ u = 114) ∨ (k = 5 ∧ u = 99) ∨ (k = 6 ∧ u = 108) ∨ (k = 7 ∧ u = 105 ∧ r[1]? ≠ some 99) ∨ (k = 8 ∧ u = 111) := by
  have hk := accB_kind h
  rcases kinds k with rfl | rfl | rfl | rfl | rfl | rfl | rfl | rfl | hk'
  · rw [textL_small h (by decide)] at e; injection e with e1 e2; simp [← e1]
  · rw [textL_small h (by decide)] at e; injection e with e1 e2; simp [← e1]
  · rw [textL_small h (by decide)] at e; injection e with e1 e2; subst e1 e2; simp
  · rw [textL_small h (by decide)] at e; injection e with e1 e2; simp [← e1]
  · rw [textL_small h (by decide)] at e; injection e with e1 e2; simp [← e1]
  · rw [textL_great h (by decide)] at e; injection e with e1 e2; simp [← e1]
  · rw [textL_great h (by decide)] at e
    obtain ⟨h0, h1⟩ := accB_great h (by decide)
    rw [numT_dec h0 h1] at e
    obtain ⟨b, r', hb, hne⟩ := dec_head99 c.toNat
    rw [hb] at e
    injection e with e1 e2
    subst e1 e2
    right; right; right; right; right; right; left
    refine ⟨rfl, rfl, ?_⟩
    intro h
    have : b = 99 := Option.some.inj h
    exact hne this
  · rw [textL_great h (by decide)] at e; injection e with e1 e2; simp [← e1]
  · exfalso; omega
theorem textL_ne {k c : Int} (h : accB k c = true) : textL k c ≠ [] := by
  by_cases h6 : k < 6
  · rw [textL_small h h6]; exact nameL_ne (accB_kind h)
  · rw [textL_great h h6]
    intro e
    exact nameL_ne (accB_kind h) (List.append_eq_nil_iff.1 e).1
theorem textL_inj {k c k' c' : Int} (h : accB k c = true) (h' : accB k' c' = true) (e : textL k c = textL k' c') : k' = k ∧ c' = c := by
  have hkk : k' = k := by
    cases ht : textL k c with
    | nil => exact absurd ht (textL_ne h)
    | cons u r =>
      have a := head3 h u r ht
      have b := head3 h' u r (e ▸ ht)
      rcases a with ⟨rfl, rfl⟩ | ⟨rfl, rfl⟩ | ⟨rfl, rfl, a⟩ | ⟨rfl, rfl⟩ | ⟨rfl, rfl⟩ | ⟨rfl, rfl⟩ | ⟨rfl, rfl, a⟩ | ⟨rfl, rfl⟩ <;>
      rcases b with ⟨rfl, b'⟩ | ⟨rfl, b'⟩ | ⟨rfl, b', b⟩ | ⟨rfl, b'⟩ | ⟨rfl, b'⟩ | ⟨rfl, b'⟩ | ⟨rfl, b', b⟩ | ⟨rfl, b'⟩ <;>
      first | rfl | (exfalso; revert b'; decide) | exact absurd a b | exact absurd b a
  subst hkk
  refine ⟨rfl, ?_⟩
  by_cases h6 : k' < 6
  · rw [accB_small h h6, accB_small h' h6]
  · rw [textL_great h h6, textL_great h' h6] at e
    obtain ⟨h0, h1⟩ := accB_great h h6
    exact numT_inj h0 h1 (List.append_cancel_left e)
/-- What TextAcc answers. -/
def TA (s : List UInt8) (k c : Int) (b : Bool) : Prop := (b = true ∧ accB k c = true ∧ textL k c = s) ∨ (b = false ∧ k = 0 ∧ c = 0 ∧ ∀ k' c', accB k' c' = true → textL k' c' ≠ s)
theorem ta_unique {s : List UInt8} {k c k' c' : Int} {b b' : Bool} (h : TA s k c b) (h' : TA s k' c' b') : k' = k ∧ c' = c ∧ b' = b := by
  rcases h with ⟨rfl, h1, h2⟩ | ⟨rfl, rfl, rfl, h3⟩
  · rcases h' with ⟨rfl, h1', h2'⟩ | ⟨rfl, rfl, rfl, h3'⟩
    · obtain ⟨rfl, rfl⟩ := textL_inj h1 h1' (h2.trans h2'.symm)
      exact ⟨rfl, rfl, rfl⟩
    · exact absurd h2 (h3' _ _ h1)
  · rcases h' with ⟨rfl, h1', h2'⟩ | ⟨rfl, rfl, rfl, h3'⟩
    · exact absurd h2' (h3 _ _ h1')
    · exact ⟨rfl, rfl, rfl⟩
/-- What accOfKind answers. -/
def KA (s : List UInt8) (kind k c : Int) (b : Bool) : Prop := (b = true ∧ k = kind ∧ accB kind c = true ∧ textL kind c = s) ∨ (b = false ∧ k = 0 ∧ c = 0 ∧ ∀ c', accB kind c' = true → textL kind c' ≠ s)
theorem pre_of {k c : Int} (h : accB k c = true) : Lib.hasPrefix (textL k c) (nameA k).data.toList = true := by
  unfold Lib.hasPrefix
  rw [List.isPrefixOf_iff_prefix]
  by_cases h6 : k < 6
  · rw [textL_small h h6]; exact List.prefix_rfl
  · rw [textL_great h h6]; exact List.prefix_append _ _
theorem trim_of {k c : Int} (h : accB k c = true) (h6 : ¬ k < 6) : Lib.trimPrefix (textL k c) (nameA k).data.toList = numT c := by
  unfold Lib.trimPrefix
  rw [if_pos (pre_of h), textL_great h h6]; simp
/-- No prefix: no account. -/
theorem ka_pre {s : List UInt8} {kind : Int} (h : Lib.hasPrefix s (nameA kind).data.toList = false) : KA s kind 0 0 false :=
  Or.inr ⟨rfl, rfl, rfl, fun c' ha e => by rw [← e, pre_of ha] at h; cases h⟩
theorem ka_ne {s : List UInt8} {kind : Int} (hk : 1 ≤ kind ∧ kind ≤ 8) (h : Lib.hasPrefix s (nameA kind).data.toList = true) : s ≠ [] := by
  intro e
  subst e
  unfold Lib.hasPrefix at h
  rw [List.isPrefixOf_iff_prefix] at h
  exact nameL_ne hk (List.prefix_nil.1 h)
theorem ka_yes {s : List UInt8} {kind c : Int} (hs : s ≠ []) (h : textL kind c = s) : KA s kind kind c true := by
  cases hb : accB kind c
  · rw [textL_no hb] at h; exact absurd h.symm hs
  · exact Or.inl ⟨rfl, rfl, hb, h⟩
theorem ka_small {s : List UInt8} {kind : Int} (h6 : kind < 6) (h : textL kind 0 ≠ s) : KA s kind 0 0 false :=
  Or.inr ⟨rfl, rfl, rfl, fun c' ha e => by rw [accB_small ha h6] at e; exact h e⟩
theorem ka_great {s : List UInt8} {kind v : Int} {b : Bool} (h6 : ¬ kind < 6) (hr : Res (Lib.trimPrefix s (nameA kind).data.toList) v b) (h : textL kind v ≠ s) : KA s kind 0 0 false :=
  Or.inr ⟨rfl, rfl, rfl, fun c' ha e => by
    subst e
    rw [trim_of ha h6] at hr
    obtain ⟨h0, h1⟩ := accB_great ha h6
    have hne : numT c' ≠ [] := by rw [numT_dec h0 h1]; exact dec_ne _
    obtain ⟨rfl, _⟩ := res_unique (res_yes hne rfl) hr
    exact h rfl⟩
end Go.Proofs.YtahgibjjnfbkhaaDoor
