/- Numbers read as they were written: GetNum of bytes of the call's own, what PutNum wrote; texts of numbers. -/
import Derived.Test.YtecjjkgdgmjgmaaDoorDrN
import Derived.Test.YtecjjkgdgmjgmaaDoorTeM
import Derived.Test.YtecjjkgdgmjgmaaDoorTextK
namespace Go.Proofs.YtecjjkgdgmjgmaaDoor
open Go.RowKit Go.Deep
set_option linter.unusedVariables false
theorem getnum_own {w : World} {base : Nat} {v : Value} {L : List UInt8} (p s : Int) (u : TypeId) (pv : Value) (hv : w.cell? ⟨1, 0, none⟩ = some (.iface u pv)) (ho : OwnsB w base v L) (hl : L.length ≤ 16777216) (hp : 0 ≤ p) (hs : 1 ≤ s) :
    Calls Tryd.prog 11 #[v, .int .i64 p, .int .i64 s] w fun e w' => e = .returned (.tuple #[.int .i64 (getV L p s), .bool (getB L p s)]) ∧ Keeps w w' := by
  have hO := Own.of_owns ho
  rcases ho.2 with ⟨rfl, h'⟩ | ⟨g, cap, cur, rfl, hb, hg, hn, hm, hsz, ht⟩
  · have h0 : L = [] := List.length_eq_zero_iff.1 h'
    subst h0
    have hB : getB [] p s = false := decide_eq_false (by simp; omega)
    unfold getV
    rw [hB, if_neg (by simp)]
    exact getnum_no none [] 0 p s w u pv hv (by simp) (by simp; omega)
  · obtain ⟨a, c, hv', hlc, hcm, _, hown, _⟩ := hO
    injection hv' with e1 e2 e3
    subst e1 e3
    exact getnum_impl g 0 L cap p s w u pv hv hown.one hl hlc (by unfold maxLen at hcm; omega)
theorem put_get {L : List UInt8} {n : Int} {k : Nat} (h : putB n k = true) : getB (putL L n k) (L.length : Nat) k = true ∧ getV (putL L n k) (L.length : Nat) k = n ∧ (putL L n k).length = L.length + k := by
  have h' := h
  unfold putB at h'
  simp only [Bool.and_eq_true, decide_eq_true_eq] at h'
  have e : putL L n k = L ++ digs n.toNat k := by
    unfold putL
    rw [if_pos h]
    simp
  rw [e]
  have hlen : (L ++ digs n.toNat k).length = L.length + k := by simp [digs_length]
  have hB : getB (L ++ digs n.toNat k) (L.length : Nat) k = true := by
    unfold getB
    rw [hlen]
    exact decide_eq_true (by omega)
  refine ⟨hB, ?_, hlen⟩
  unfold getV
  rw [if_pos hB]
  have e2 : ((L ++ digs n.toNat k).drop ((L.length : Nat) : Int).toNat).take (k : Int).toNat = digs n.toNat k := by
    simp
    exact List.take_of_length_le (by rw [digs_length]; exact Nat.le_refl _)
  have h4 := h'.2
  rw [show ((k : Int)).toNat = k from by simp] at h4
  rw [e2, numL_digs k n.toNat (by omega)]
  omega
theorem itoa_ne (n : Int) : Lib.itoa n ≠ [] := by
  intro h
  have := atoi_itoa n
  rw [h] at this
  simp [Lib.atoi] at this
theorem num_yes {n : Int} (h : -1125899906842624 ≤ n) (h' : n ≤ 1125899906842624) : numT n ≠ [] ∧ ∀ v b, Res (numT n) v b → v = n ∧ b = true := by
  have hne : numT n ≠ [] := by rw [numT_in h h']; exact itoa_ne n
  exact ⟨hne, fun v b hr => res_unique (res_yes hne rfl) hr⟩
theorem num_no {n : Int} (h : n < -1125899906842624 ∨ 1125899906842624 < n) : numT n = [] ∧ ∀ v b, Res (numT n) v b → v = 0 ∧ b = false := by
  have he := numT_out h
  rw [he]
  exact ⟨rfl, fun v b hr => res_unique res_nil hr⟩
end Go.Proofs.YtecjjkgdgmjgmaaDoor
