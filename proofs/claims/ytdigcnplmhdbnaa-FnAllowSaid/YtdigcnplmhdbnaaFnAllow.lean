/- Proved: at every list of bytes the law FnAllow returns true (who may use the general room may use it with any standing; whom a standing lets in has room there); no condition. -/
import Derived.Test.YtdigcnplmhdbnaaDsk
import Derived.Test.YtdigcnplmhdbnaaDrJ
import Derived.Test.YtdigcnplmhdbnaaRows
import Derived.WalkKit
import Derived.ProofKit
import Derived.OpenShut
import Derived.ChangeOld
import Derived.Below
namespace Go.Proofs.Ytdigcnplmhdbnaa.fnAllow
open Go.ChangeShapes Go.WideShapes Go.ChangeAt Go.RowKit
set_option linter.unusedVariables false
theorem rowAt_cells {w : World} {a : Option Addr} {L : List UInt8} (h : Cells w a (bys L)) : RowAt w.heap.size w a L.length := by
  intro j hj
  rcases h with h | ⟨b, off, e, h⟩
  · have := bys_nil.1 h
    subst this
    simp at hj
  · have hj' : j < (bys L).length := by rw [bys_length]; exact hj
    have hc := h j hj'
    have e2 : (bys L)[j] = byV L[j] := by simp [bys]
    rw [e2] at hc
    have hb := L[j].toNat_lt
    exact ⟨b, off, _, e, lt_of_cell hc, by simp, by omega, hc⟩
theorem allowV_ft (s uf ua sf sa n : Int) : (allowV s uf ua sf sa n false = 1 ∧ allowV s uf ua sf sa n true = 1) ∨ (allowV s uf ua sf sa n false = 0 ∧ (allowV s uf ua sf sa n true = 0 ∨ allowV s uf ua sf sa n true = 2)) := by
  unfold allowV
  split
  · split
    · split
      · exact .inl ⟨rfl, rfl⟩
      · exact .inr ⟨rfl, .inr rfl⟩
    · exact .inr ⟨rfl, .inl rfl⟩
  · exact .inr ⟨rfl, .inl rfl⟩
theorem allowV_room {s uf ua sf sa n : Int} {g : Bool} (h : allowV s uf ua sf sa n g ≠ 0) : (0 ≤ ua ∧ ua ≤ 1125899906842624 ∧ 0 ≤ n ∧ n ≤ 1125899906842624) ∧ ua + n ≤ s ∧ sa < 10 := by
  by_cases h1 : sa < 10 ∧ ua + n ≤ s
  · by_cases h2 : 0 ≤ s ∧ s ≤ 1125899906842624 ∧ 0 ≤ uf ∧ uf ≤ 1125899906842624 ∧ 0 ≤ ua ∧ ua ≤ 1125899906842624 ∧ 0 ≤ n ∧ n ≤ 1125899906842624 ∧ 0 ≤ sf ∧ 0 ≤ sa ∧ uf ≤ ua ∧ sf ≤ sa
    · omega
    · exact absurd (allowV_no h2) h
  · exact absurd (allowV_full h1) h
set_option maxRecDepth 100000 in
set_option maxHeartbeats 8000000 in
theorem walkR (a : Option Addr) (len cap : Nat) (w : World) (hr : RowAt w.heap.size w a len) :
    Calls Try.prog 3 #[.slice a len cap] w fun e w' => e = .returned (.bool true) ∧ Keeps w w' := by
  have HRw := hide hr
  clear hr
  by_cases hl : 1048576 < len
  · go_enter Try.func3, Try.ntmps3
    go_wp2_with fail
    go_ret
    exact ⟨rfl, Keeps.refl _⟩
  · have HDr := hide (draw_allow a len cap w HRw.out (by omega))
    clear HRw
    go_enter Try.func3, Try.ntmps3
    go_wp2_with fail
    refine (unhide HDr).mono ?_
    rintro x w1 ⟨⟨s, uf, ua, sf, sa, n, g, rfl⟩, hk⟩
    have HK := hide hk
    clear hk HDr
    have hft := allowV_ft s uf ua sf sa n
    have hroom := hide (allowV_room (s := s) (uf := uf) (ua := ua) (sf := sf) (sa := sa) (n := n) (g := true))
    have HF := hide (allow_impl s uf ua sf sa n false)
    have HT := hide (allow_impl s uf ua sf sa n true)
    have HG := hide (allow_impl s uf ua sf sa n g)
    have HS := hide (allow_spec s uf ua sf sa n g)
    generalize allowV s uf ua sf sa n g = vg at HG HS
    generalize allowV s uf ua sf sa n false = vf at hft HF
    generalize allowV s uf ua sf sa n true = vt at hft HT hroom
    replace hft := hide hft
    go_wp2_with fail
    refine (HF.out _).mono ?_
    rintro x w2 ⟨rfl, hk⟩
    replace HK := hide (HK.out.trans hk)
    clear hk
    go_wp2_with fail
    refine (HT.out _).mono ?_
    rintro x w3 ⟨rfl, hk⟩
    replace HK := hide (HK.out.trans hk)
    clear hk
    go_wp2_with fail
    refine (HG.out _).mono ?_
    rintro x w4 ⟨rfl, hk⟩
    replace HK := hide (HK.out.trans hk)
    clear hk
    go_wp2_with fail
    refine (HS.out _).mono ?_
    rintro x w5 ⟨rfl, hk⟩
    replace HK := hide (HK.out.trans hk)
    clear hk
    clear HF HT HG HS
    rcases hft.out with ⟨h1, h2⟩ | ⟨h1, h2 | h2⟩
    · subst h1 h2
      obtain ⟨⟨q0, q1, q2, q3⟩, q4, q5⟩ := hroom.out (by omega)
      clear hft hroom
      go_wp2_with fail
      go_ret
      exact ⟨rfl, HK.out⟩
    · subst h1 h2
      clear hft hroom
      go_wp2_with fail
      go_ret
      exact ⟨rfl, HK.out⟩
    · subst h1 h2
      obtain ⟨⟨q0, q1, q2, q3⟩, q4, q5⟩ := hroom.out (by omega)
      clear hft hroom
      go_wp2_with fail
      go_ret
      exact ⟨rfl, HK.out⟩
theorem walk (a : Option Addr) (cap : Nat) (L : List UInt8) (w : World) (hc : Cells w a (bys L)) (hn : a = none → cap = 0) (hl : L.length ≤ 9223372036854775807) :
    Calls Try.prog 3 #[.slice a L.length cap] w fun e w' => e = .returned (.bool true) ∧ Keeps w w' := walkR a L.length cap w (rowAt_cells hc)

theorem own : ownKnob Try.prog.godebug = none := by kernel_rfl
theorem laidOut : laidOutB Try.prog = true := by kernel_rfl

set_option maxRecDepth 100000 in
theorem lifted (os : Os) (started : os.Started) (H : Type) (enc : TypeId × Value → H) :
    ReturnsInHanded {} Try.checked os 3 .any (Rows.fnAllowSpec.pre6 enc Try.prog Try.f3 Rows.fnAllowRow.domain false) (Rows.fnAllowSpec.post enc Try.prog Try.f3 false true false false) := by
  refine returnsInHanded_of_change (C := Try.checked) own started (by kernel_rfl) Try.func3
    (ChangeSpec.witness6 (enc := enc) (C := Try.checked) false ⟨#[], #[.slice none 0 0], []⟩ 8 (by kernel_rfl) (by kernel_rfl) (by kernel_rfl) (by kernel_rfl)) ?_
  intro W base args ds gs before hval0 hW hcnd _
  have hval : ∀ (j : Nat) t v, Try.f3.params[j]? = some t → args[j]? = some v → Value.okWide Try.prog W .any base t v := hval0
  have hW' := hW
  obtain ⟨p, q, hA0, hV, rfl, hfz, hnd⟩ := hW
  have hA : DataW.TrodAll enc Try.prog W 0 (fun _ => true) true Try.f3.params.toList args.toList ds p := hA0
  rw [Try.params3] at hA hval
  obtain ⟨v0, vs0, d0, ds0, p0, q0, hargs, rfl, rfl, h0, r0⟩ := trodAll_cons hA
  obtain ⟨rfl, rfl, rfl⟩ := trodAll_nil r0
  obtain rfl : args = #[v0] := by cases args; simp_all
  obtain ⟨rfl, rfl⟩ := trodVars_none hV
  have lt0 := lt_row h0
  have k0 := h0
  obtain ⟨a0, cap0, L0, rfl, hc0, hn0, hl0⟩ := bytes_row (hval 0 22 v0 rfl rfl) h0
  clear hA0 hval0
  refine (walk a0 cap0 L0 W hc0 hn0 hl0).mono fun e W' ⟨he, hb⟩ => ?_
  subst he
  refine ⟨_, rfl, _, _, _, [], (p0 ++ []), [], hW', ?_, ?_, ?_, Below.frame hb _, fun h => by cases h⟩
  · exact trodAll_mk1 (shut_bool Try.underlying4 _)
  · exact (trodAll_cons_mk (Below.trod laidOut (by kernel_rfl) (of_decide_eq_true (by kernel_rfl)) k0 hb lt0) trodAll_mk0)
  · exact rfl

theorem over : Rows.fnAllowRow.holds Try.pinned (OpenSpec.ofChange Rows.fnAllowSpec) :=
  OpenClaim.holds_of_wide 3 Try.f3 rfl rfl rfl rfl rfl rfl rfl ⟨rfl, rfl, rfl, rfl, rfl⟩ rfl rfl rfl rfl rfl (by kernel_rfl) Try.func3 (by kernel_rfl)
    (of_decide_eq_true (by kernel_rfl)) (by unfold Func.isWrapper; first | (rw [if_pos (by decide +kernel)]; kernel_rfl) | (rw [if_neg (by decide +kernel)]; exact ⟨rfl, rfl⟩))
    (fun os started H enc _ => lifted os started H enc)
end Go.Proofs.Ytdigcnplmhdbnaa.fnAllow
namespace Go.Proofs.Ytdigcnplmhdbnaa
theorem fnAllow_holds : Rows.FnAllowSaid := fnAllow.over
end Go.Proofs.Ytdigcnplmhdbnaa
