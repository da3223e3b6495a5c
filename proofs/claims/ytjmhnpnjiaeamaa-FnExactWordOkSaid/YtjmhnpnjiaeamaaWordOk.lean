/- Proved: at every string the law FnExactWordOk returns true (WordOk of the program answers as WordOk of the model); no condition. -/
import Derived.Test.YtjmhnpnjiaeamaaRows
import Derived.WalkKit
import Derived.ProofKit
import Derived.OpenShut
import Derived.ShutString
namespace Go.Proofs.Ytjmhnpnjiaeamaa.fnExactWordOk
open Go.ChangeShapes Go.WideShapes Go.ChangeAt Go.RowKit
open Go.ChangeMaps (open_string shut_string)
set_option linter.unusedVariables false

theorem own : ownKnob Try.prog.godebug = none := by kernel_rfl

/-- Is the byte a small letter? -/
def low (c : UInt8) : Bool := decide (97 ≤ (c.toNat : Int) ∧ (c.toNat : Int) ≤ 122)
/-- What WordOk answers. -/
def word (l : List UInt8) : Bool := decide (1 ≤ l.length) && decide (l.length ≤ 8) && l.all low

theorem take_snoc (s : ByteArray) (k : Nat) (h : k < s.size) : s.data.toList.take (k + 1) = s.data.toList.take k ++ [s[k]] := by
  rw [List.take_succ_eq_append_getElem (by simpa using h)]; rfl
theorem all_snoc (s : ByteArray) (k : Nat) (h : k < s.size) (a : (s.data.toList.take k).all low = true) (b : 97 ≤ (s[k].toNat : Int)) (c : (s[k].toNat : Int) ≤ 122) : (s.data.toList.take (k + 1)).all low = true := by
  rw [take_snoc s k h, List.all_append, a]
  simp [low]; omega
theorem not_all (s : ByteArray) (k : Nat) (h : k < s.size) (b : (s[k].toNat : Int) < 97 ∨ 122 < (s[k].toNat : Int)) : s.data.toList.all low = false := by
  rw [List.all_eq_false]
  refine ⟨s[k], ?_, ?_⟩
  · exact Array.getElem_mem_toList (by simpa using h)
  · simp [low]; omega
theorem word_bad (s : ByteArray) (k : Nat) (h : k < s.size) (b : (s[k].toNat : Int) < 97 ∨ 122 < (s[k].toNat : Int)) : word s.data.toList = false := by
  unfold word; rw [not_all s k h b]; simp
theorem all_end (s : ByteArray) (k : Nat) (h : ¬ k < s.size) (a : (s.data.toList.take k).all low = true) : s.data.toList.all low = true := by
  rwa [List.take_of_length_le (by simp; omega)] at a
theorem len_eq (s : ByteArray) : s.data.toList.length = s.size := by simp
theorem ret_b {a b : Bool} (h : a = b) : Ending.returned (.bool a) = .returned (.bool b) := by rw [h]

set_option maxHeartbeats 400000 in
theorem spec_any (s : ByteArray) (w : World) (hs : s.size ≤ 1048576) :
    Calls Try.prog 8 #[.string s] w fun e w' => e = .returned (.bool (word s.data.toList)) ∧ w' = w := by
  go_enter Try.func8, Try.ntmps8
  go_wp2
  go_loop [3] (fun i => ∃ k : Nat, k ≤ s.size ∧ i = .int .i64 k ∧ (s.data.toList.take k).all low = true) (fun i => s.size - (intOf i).toNat)
  case atStart => exact ⟨0, Nat.zero_le _, rfl, rfl⟩
  case round =>
    obtain ⟨k, hk, rfl, ha⟩ := hrel
    have HA : Hid ((s.data.toList.take k).all low = true) := ha
    clear ha
    by_cases hlt : k < s.size
    · by_cases h1 : (s[k].toNat : Int) < 97
      · go_wp2
        go_ret
        exact ⟨ret_b (word_bad s k hlt (Or.inl h1)).symm, rfl⟩
      · by_cases h2 : 122 < (s[k].toNat : Int)
        · go_wp2
          go_ret
          exact ⟨ret_b (word_bad s k hlt (Or.inr h2)).symm, rfl⟩
        · go_wp2
          go_round
          case rel => exact ⟨k + 1, by omega, by go_num, all_snoc s k hlt HA.out (by omega) (by omega)⟩
          case measure => simp [intOf]; omega
    · have hal := all_end s k hlt HA.out
      have HW : Hid (word s.data.toList = (decide (1 ≤ s.size) && decide (s.size ≤ 8))) := by
        show _ = _
        unfold word; rw [hal, len_eq]; simp
      clear hal
      by_cases c1 : 1 ≤ s.size
      · by_cases c2 : s.size ≤ 8
        · go_wp2
          go_ret
          exact ⟨ret_b (by rw [HW.out]; simp [c1, c2]; omega), rfl⟩
        · go_wp2
          go_ret
          exact ⟨ret_b (by rw [HW.out]; simp [c2]; omega), rfl⟩
      · go_wp2
        go_ret
        exact ⟨ret_b (by rw [HW.out]; simp; omega), rfl⟩

set_option maxHeartbeats 400000 in
theorem impl_any (s : ByteArray) (w : World) (hs : s.size ≤ 1048576) :
    Calls Try.prog 9 #[.string s] w fun e w' => e = .returned (.bool (word s.data.toList)) ∧ w' = w := by
  by_cases c1 : s.size < 1
  · go_enter Try.func9, Try.ntmps9
    go_wp2
    go_ret
    exact ⟨ret_b (by unfold word; rw [len_eq]; simp; omega), rfl⟩
  · by_cases c2 : 8 < s.size
    · go_enter Try.func9, Try.ntmps9
      go_wp2
      go_ret
      exact ⟨ret_b (by unfold word; rw [len_eq]; simp; omega), rfl⟩
    · go_enter Try.func9, Try.ntmps9
      go_wp2
      go_loop [3] (fun i => ∃ k : Nat, k ≤ s.size ∧ i = .int .i64 k ∧ (s.data.toList.take k).all low = true) (fun i => s.size - (intOf i).toNat)
      case atStart => exact ⟨0, Nat.zero_le _, rfl, rfl⟩
      case round =>
        obtain ⟨k, hk, rfl, ha⟩ := hrel
        have HA : Hid ((s.data.toList.take k).all low = true) := ha
        clear ha
        by_cases hlt : k < s.size
        · by_cases h1 : (s[k].toNat : Int) < 97
          · go_wp2
            go_ret
            exact ⟨ret_b (word_bad s k hlt (Or.inl h1)).symm, rfl⟩
          · by_cases h2 : 122 < (s[k].toNat : Int)
            · go_wp2
              go_ret
              exact ⟨ret_b (word_bad s k hlt (Or.inr h2)).symm, rfl⟩
            · go_wp2
              go_round
              case rel => exact ⟨k + 1, by omega, by go_num, all_snoc s k hlt HA.out (by omega) (by omega)⟩
              case measure => simp [intOf]; omega
        · have hal := all_end s k hlt HA.out
          have HW : Hid (word s.data.toList = true) := by
            show _ = _
            unfold word; rw [hal, len_eq]; simp; omega
          clear hal
          go_wp2
          go_ret
          exact ⟨ret_b HW.out.symm, rfl⟩

theorem walk (a0 : ByteArray) (w0 : a0.size ≤ maxLen) (w : World) :
    Calls Try.prog 4 #[.string a0] w fun e w' => e = .returned (.bool true) ∧ Grown w w' := by
  by_cases hbig : 1048576 < a0.size
  · go_enter Try.func4, Try.ntmps4
    go_wp2
    go_ret
    exact ⟨rfl, by repeat (first | exact Grown.refl _ | apply Grown.drew | apply Grown.alloc)⟩
  · go_enter Try.func4, Try.ntmps4
    go_wp2_with (first | (go_at_call 8; refine (spec_any a0 _ (by omega)).mono ?_; rintro e w' ⟨rfl, rfl⟩) | (go_at_call 9; refine (impl_any a0 _ (by omega)).mono ?_; rintro e w' ⟨rfl, rfl⟩))
    go_ret
    exact ⟨rfl, by repeat (first | exact Grown.refl _ | apply Grown.drew | apply Grown.alloc)⟩


set_option maxRecDepth 100000 in
theorem lifted (os : Os) (started : os.Started) (H : Type) (enc : TypeId × Value → H) :
    ReturnsInHanded {} Try.checked os 4 .any (Rows.fnExactWordOkSpec.pre6 enc Try.prog Try.f4 Rows.fnExactWordOkRow.domain false) (Rows.fnExactWordOkSpec.post enc Try.prog Try.f4 false true false false) := by
  refine returnsInHanded_of_change (C := Try.checked) own started (by kernel_rfl) Try.func4
    (ChangeSpec.witness6 (enc := enc) (C := Try.checked) false ⟨#[], #[.string ByteArray.empty], []⟩ 8 (by kernel_rfl) (by kernel_rfl) (by kernel_rfl) (by kernel_rfl)) ?_
  intro W base args ds gs before hval0 hW hcnd _
  have hval : ∀ (j : Nat) t v, Try.f4.params[j]? = some t → args[j]? = some v → Value.okWide Try.prog W .any base t v := hval0
  have hW' := hW
  obtain ⟨p, q, hA0, hV, rfl, hfz, hnd⟩ := hW
  have hA : DataW.TrodAll enc Try.prog W 0 (fun _ => true) true Try.f4.params.toList args.toList ds p := hA0
  rw [Try.params4] at hA hval
  obtain ⟨v0, vs0, d0, ds0, p0, q0, hargs, rfl, rfl, h0, r0⟩ := trodAll_cons hA
  obtain ⟨rfl, rfl, rfl⟩ := trodAll_nil r0
  obtain rfl : args = #[v0] := by cases args; simp_all
  obtain ⟨rfl, rfl⟩ := trodVars_none hV
  obtain ⟨a0, rfl, rfl, rfl, w0⟩ := open_string Try.underlying9 (hval 0 9 v0 rfl rfl) h0
  clear hA0 hval0
  simp only [List.append_nil] at hW'
  refine (walk a0 w0 W).mono fun e W' ⟨he, hg⟩ => ?_
  subst he
  exact ⟨_, rfl, post_of_same (pa := []) (pv := []) hW' (fun _ _ _ => (trodAll_cons_mk (shut_bool Try.underlying4 _) trodAll_mk0)) (fun sp _ => (trodAll_cons_mk (shut_string Try.underlying9 w0) trodAll_mk0)) (fun _ _ => rfl) rfl
    (hg.frame _) hg.2.1 (ok_one (by kernel_rfl) rfl (okWide_bool_mk Try.underlying4 _))⟩

theorem over : Rows.fnExactWordOkRow.holds Try.pinned (OpenSpec.ofChange Rows.fnExactWordOkSpec) :=
  OpenClaim.holds_of_wide 4 Try.f4 rfl rfl rfl rfl rfl rfl rfl ⟨rfl, rfl, rfl, rfl, rfl⟩ rfl rfl rfl rfl rfl (by kernel_rfl) Try.func4 (by kernel_rfl)
    (of_decide_eq_true (by kernel_rfl)) (by unfold Func.isWrapper; first | (rw [if_pos (by decide +kernel)]; kernel_rfl) | (rw [if_neg (by decide +kernel)]; exact ⟨rfl, rfl⟩))
    (fun os started H enc _ => lifted os started H enc)

end Go.Proofs.Ytjmhnpnjiaeamaa.fnExactWordOk
namespace Go.Proofs.Ytjmhnpnjiaeamaa
theorem wordOk_holds : Rows.FnExactWordOkSaid := fnExactWordOk.over
end Go.Proofs.Ytjmhnpnjiaeamaa
