/- The model's draws of a number, bytes and a size: l01Raw within an int, DrawPutNum. -/
import Derived.Test.YtecjjkgdgmjgmaaDoorDrB
import Derived.Test.YtecjjkgdgmjgmaaDoorPut
namespace Go.Proofs.YtecjjkgdgmjgmaaDoor
open Go.RowKit
set_option linter.unusedVariables false
/-- A number that an int holds. -/
def IsNum (e : Ending) : Prop := ∃ x : Int, x < 9223372036854775808 ∧ e = .returned (.int .i64 x)
theorem isNum {x : Int} (h : x < 9223372036854775808) : IsNum (.returned (.int .i64 x)) := ⟨x, h, rfl⟩
theorem wrap_lt (x : Int) : wrap64 x < 9223372036854775808 := by unfold wrap64; omega
theorem raw_num {B0 B : Nat} {a : Option Addr} {len cap : Nat} {w : World} (s : Dr B0 B a len cap w) :
    Calls Tryd.prog 22 #[.pointer (some ⟨B, 0, none⟩)] w fun e w' => IsNum e ∧ Dr B0 B a len cap w' ∧ w.grownBy w' (some B) := by
  have HS := hide s
  clear s
  go_enter Tryd.func22, Tryd.ntmps22
  go_wp2_with fail
  refine (below_any 11 HS.out (by omega) (by omega)).mono ?_
  rintro e w1 ⟨⟨k, k0, k1, rfl⟩, s1, g1⟩
  have S1 := hide s1
  have G1 := hide g1
  clear s1 g1 HS
  go_wp2_with (first | (go_at_call 16; refine (below_any _ S2.out (by omega) (by omega)).mono ?_; rintro e w3 ⟨⟨y, y0, y1, rfl⟩, s3, g3⟩; have S3 := hide s3; have G3 := hide (G2.out.trans g3); clear s3 g3) | (go_at_call 16; refine (below_any _ S1.out (by omega) (by omega)).mono ?_; rintro e w2 ⟨⟨x, x0, x1, rfl⟩, s2, g2⟩; have S2 := hide s2; have G2 := hide (G1.out.trans g2); clear s2 g2))
  all_goals
    go_ret
    first
      | exact ⟨isNum (by omega), S3.out, G3.out⟩
      | exact ⟨isNum (by omega), S2.out, G2.out⟩
      | exact ⟨isNum (by omega), S1.out, G1.out⟩
      | exact ⟨isNum (wrap_lt _), S3.out, G3.out⟩
      | exact ⟨isNum (wrap_lt _), S2.out, G2.out⟩
/-- What is drawn for PutNum. -/
def IsPut (base : Nat) (w' : World) (e : Ending) : Prop := ∃ (p : Option Addr) (l c : Nat) (L : List UInt8) (n s : Int), l ≤ 4 ∧ n < 9223372036854775808 ∧ 1 ≤ s ∧ s ≤ 8 ∧ e = .returned (.tuple #[.slice p l c, .int .i64 n, .int .i64 s]) ∧ Hid (L.length = l ∧ OwnsB w' base (.slice p l c) L)
theorem isPut {base : Nat} {w' : World} {p : Option Addr} {l c : Nat} {L : List UInt8} {n s : Int} (hl : l ≤ 4) (hn : n < 9223372036854775808) (h1 : 1 ≤ s) (h8 : s ≤ 8) (hL : L.length = l) (ho : OwnsB w' base (.slice p l c) L) : IsPut base w' (.returned (.tuple #[.slice p l c, .int .i64 n, .int .i64 s])) := ⟨p, l, c, L, n, s, hl, hn, h1, h8, rfl, hL, ho⟩
set_option maxRecDepth 100000 in
set_option maxHeartbeats 2000000 in
theorem draw_put (a : Option Addr) (len cap : Nat) (w : World) (hr : RowAt w.heap.size w a len) (hl : len ≤ 1048576) :
    Calls Tryd.prog 8 #[.slice a len cap] w fun e w' => IsPut w.heap.size w' e ∧ Keeps w w' := by
  have HRw := hide hr
  clear hr
  go_enter Tryd.func8, Tryd.ntmps8
  go_wp2_with fail
  refine (new_any a len cap _ HRw.out hl).mono ?_
  rintro x w1 ⟨rfl, s1, hk1⟩
  have HS1 := hide s1
  have HK1 := hide hk1
  have hz1 := hk1.size
  clear s1 hk1 HRw
  go_wp2_with fail
  refine (bytes_any 4 HS1.out (by omega)).mono ?_
  rintro x w2 ⟨⟨p, l, c, L, hl2, rfl, HO⟩, s2, g2⟩
  have HL := hide HO.out.1
  have HO2 := hide (OwnsB.older HO.out.2 (base' := w.heap.size) (by omega))
  have hB2 : Hid (∀ r, (Value.slice p l c).ownBlock = some r → r ≠ w.heap.size) := fun r hr => by have := (HO.out.2.lt r hr).1; have := HS1.out.lt; omega
  have HS2 := hide s2
  have HK2 := hide (keeps_of HK1.out g2 (by intro r hr; injection hr with hr; omega))
  clear s2 g2 HS1 HK1 HO
  go_wp2_with fail
  refine (raw_num HS2.out).mono ?_
  rintro x w3 ⟨⟨n, hn, rfl⟩, s3, g3⟩
  have HO3 := hide (World.ownsRow.kept HO2.out g3 (.inr fun e => hB2.out _ e rfl))
  have HS3 := hide s3
  have HK3 := hide (keeps_of HK2.out g3 (by intro r hr; injection hr with hr; omega))
  clear s3 g3 HS2 HK2 HO2
  go_wp2_with fail
  refine (below_any 8 HS3.out (by omega) (by omega)).mono ?_
  rintro x w4 ⟨⟨s, h0, h8, rfl⟩, s4, g4⟩
  have HO4 := hide (World.ownsRow.kept HO3.out g4 (.inr fun e => hB2.out _ e rfl))
  have HS4 := hide s4
  have HK4 := hide (keeps_of HK3.out g4 (by intro r hr; injection hr with hr; omega))
  clear s4 g4 HS3 HK3 HO3
  obtain ⟨m, rfl⟩ := Int.eq_ofNat_of_zero_le h0
  go_wp2_with fail
  refine (below_any 3 HS4.out (by omega) (by omega)).mono ?_
  rintro x w5 ⟨⟨z, z0, z3, rfl⟩, s5, g5⟩
  have HO5 := hide (World.ownsRow.kept HO4.out g5 (.inr fun e => hB2.out _ e rfl))
  have HS5 := hide s5
  have HK5 := hide (keeps_of HK4.out g5 (by intro r hr; injection hr with hr; omega))
  clear s5 g5 HS4 HK4 HO4
  by_cases hz : z = 0
  · subst hz
    go_wp2_with fail
    refine (below_any 7 HS5.out (by omega) (by omega)).mono ?_
    rintro x w6 ⟨⟨y, y0, y7, rfl⟩, s6, g6⟩
    have HO6 := hide (World.ownsRow.kept HO5.out g6 (.inr fun e => hB2.out _ e rfl))
    have HS6 := hide s6
    have HK6 := hide (keeps_of HK5.out g6 (by intro r hr; injection hr with hr; omega))
    clear s6 g6 HS5 HK5 HO5
    obtain ⟨k, rfl⟩ := Int.eq_ofNat_of_zero_le y0
    have hp := pow_spec (k + 1) (by omega) w6
    have hq := pow_le7 (s := k + 1) (by omega)
    rw [show (((k + 1 : Nat) : Int)) = 1 + (k : Int) from by omega] at hp
    generalize 256 ^ (k + 1) = P at hp hq
    go_wp2_with fail
    refine hp.mono ?_
    rintro x w7 ⟨rfl, hw⟩
    obtain rfl := Eq.symm hw
    clear hp hw
    go_wp2_with fail
    refine (below_any 2 HS6.out (by omega) (by omega)).mono ?_
    rintro x w8 ⟨⟨y, y0, y7, rfl⟩, s6, g6⟩
    have HO8 := hide (World.ownsRow.kept HO6.out g6 (.inr fun e => hB2.out _ e rfl))
    have HK8 := hide (keeps_of HK6.out g6 (by intro r hr; injection hr with hr; omega))
    clear s6 g6 HS6 HK6 HO6
    go_wp2_with fail
    refine bodyPost_ret (v := .tuple #[.slice p l c, .int .i64 ((P : Int) - y), .int .i64 (1 + (m : Int))]) ?_ rfl ⟨isPut hl2 (by omega) (by omega) (by omega) HL.out HO8.out, HK8.out⟩
    simp [results, Tryd.results8, go_sem]
  · go_wp2_with fail
    refine bodyPost_ret (v := .tuple #[.slice p l c, .int .i64 n, .int .i64 (1 + (m : Int))]) ?_ rfl ⟨isPut hl2 hn (by omega) (by omega) HL.out HO5.out, HK5.out⟩
    simp [results, Tryd.results8, go_sem]
end Go.Proofs.YtecjjkgdgmjgmaaDoor
