/- The model's draws of bytes: l03Bytes. -/
import Derived.Test.YtkdnddckogbgaaaDrG
import Derived.Test.YtkdnddckogbgaaaSB
namespace Go.Proofs.Ytkdnddckogbgaaa
open Go.RowKit
set_option linter.unusedVariables false
/-- Bytes of the call's own, no more than n. -/
def IsBytes (base : Nat) (n : Nat) (w' : World) (e : Ending) : Prop := ∃ (p : Option Addr) (l c : Nat) (L : List UInt8), l ≤ n ∧ e = .returned (.slice p l c) ∧ Hid (L.length = l ∧ OwnsB w' base (.slice p l c) L)
theorem isBytes {base n : Nat} {w' : World} {v : Value} {L : List UInt8} (h : L.length ≤ n) (ho : OwnsB w' base v L) : IsBytes base n w' (.returned v) := by
  obtain ⟨p, c, rfl, _⟩ := Own.of_owns ho
  exact ⟨p, L.length, c, L, h, rfl, rfl, ho⟩
theorem OwnsB.grows {w w' : World} {base B : Nat} {v : Value} {L : List UInt8} (h : OwnsB w base v L) (g : w.grownBy w' (some B)) (hB : B < base) : OwnsB w' base v L :=
  World.ownsRow.kept h g (.inr fun e => by have := (h.lt B e).1; omega)
theorem byte_of {x : Int} (h0 : 0 ≤ x) (h1 : x ≤ 255) : ∃ u : UInt8, Value.int .u8 x = byV u := by
  refine ⟨UInt8.ofNat x.toNat, ?_⟩
  simp only [byV]
  congr 1
  simp
  omega
set_option maxHeartbeats 1000000 in
theorem bytes_any {B0 B : Nat} {a : Option Addr} {len cap : Nat} {w : World} (m : Nat) (s : Dr B0 B a len cap w) (hm : m ≤ 1000) :
    Calls Try.prog 57 #[.pointer (some ⟨B, 0, none⟩), .int .i64 (m : Int)] w fun e w' => IsBytes w.heap.size m w' e ∧ Dr B0 B a len cap w' ∧ w.grownBy w' (some B) := by
  have hB := s.lt
  have hB0 := s.le
  have HS := hide s
  clear s
  go_enter Try.func57, Try.ntmps57
  go_wp2_with fail
  refine (below_any _ HS.out (by omega) (by omega)).mono ?_
  rintro e w1 ⟨⟨x, x0, x1, rfl⟩, s1, g1⟩
  have hz := g1.size
  have HS1 := hide (s1.grown (World.grownBy_alloc w1 (.cells #[] 5) none) (by simp) (by simp))
  have HG1 := hide (grown_alloc g1 (.cells #[] 5))
  have HO1 : Hid (OwnsB (w1.alloc (.cells #[] 5)) w.heap.size (.slice (some ⟨w1.heap.size, 0, none⟩) 0 0) []) := World.ownsRow_made (base := w.heap.size) (e := 5) (size := 1) w1 #[] 0 hz (by decide) rfl
  clear s1 g1 HS
  obtain ⟨n, rfl⟩ := Int.eq_ofNat_of_zero_le x0
  go_wp2_with fail
  go_loopw [6, 7] (fun x y wr => ∃ (k : Nat) (L : List UInt8), k ≤ n ∧ y = .int .i64 (k : Int) ∧ Hid (L.length = k) ∧ Hid (OwnsB wr w.heap.size x L) ∧ w.heap.size ≤ wr.heap.size ∧ Hid (Dr B0 B a len cap wr) ∧ Hid (w.grownBy wr (some B))) (fun _ y _ => n - (intOf y).toNat)
  case atStart => exact ⟨0, [], by omega, rfl, rfl, HO1, by simp; omega, HS1, HG1⟩
  case round =>
    clear HO1 HS1 HG1
    obtain ⟨k, L, hk, rfl, HL, HOr, hbr, HSr, HGr⟩ := hrel
    by_cases hlt : k < n
    · go_wp2_with fail
      refine (byte_any HSr.out).mono ?_
      rintro e w2 ⟨⟨x, x0, x1, rfl⟩, s2, g2⟩
      obtain ⟨u, eu⟩ := byte_of x0 x1
      have ex : x % 256 = x := Int.emod_eq_of_lt x0 (by omega)
      have HO2 := hide (OwnsB.alloc (HOr.out.grows g2 hB) (.cells #[.int .u8 x] 5))
      have HC2 : Hid (Cells (w2.alloc (.cells #[.int .u8 x] 5)) (some ⟨w2.heap.size, 0, none⟩) (bys [u])) := by
        show Cells _ _ _
        rw [eu]
        exact cells_one w2 _
      have HS2 := hide (s2.grown (World.grownBy_alloc w2 (.cells #[.int .u8 x] 5) none) (by simp) (by simp))
      have HG2 := hide (grown_alloc (HGr.out.trans g2) (.cells #[.int .u8 x] 5))
      have hz2 := g2.size
      have HL2 : Hid (L.length + [u].length ≤ 4194304) := by show _ ≤ _; have := HL.out; simp; omega
      clear s2 g2 HSr HGr HOr eu
      go_wp2_with (at_builtin; refine app_bys rfl (.tmp 18) (.tmp 22) rfl w.heap.size _ L [u] rfl (some ⟨w2.heap.size, 0, none⟩) 1 (by simp [go_sem]) HC2.out (fun e => nomatch e) (by simpa [go_sem] using HO2.out) HL2.out (by simp; omega) ?_; intro v' w' ho hg)
      have hlo : ∀ r, u6.ownBlock = some r → w.heap.size ≤ r := fun r hr => (HO2.out.lt r hr).1
      have hg' : (w2.alloc (.cells #[.int .u8 x] 5)).grownBy w' u6.ownBlock := by simpa [go_sem] using hg
      refine ⟨⟨k + 1, L ++ [u], by omega, by congr 1, ?_, ho, ?_, ?_, ?_⟩, ?_⟩
      · show _ = _
        have := HL.out
        simp; omega
      · have := hg'.size
        simp at this
        omega
      · exact HS2.out.grown hg' (fun e => by have := hlo B e.symm; omega) (fun r hr => by have := hlo r hr; omega)
      · exact HG2.out.andThen hg' (fun j hj => .inl (hlo j hj))
      · simp [intOf]; omega
    · have e : k = n := by omega
      subst e
      go_wp2_with fail
      go_ret
      exact ⟨isBytes (by have := HL.out; omega) HOr.out, HSr.out, HGr.out⟩
end Go.Proofs.Ytkdnddckogbgaaa
