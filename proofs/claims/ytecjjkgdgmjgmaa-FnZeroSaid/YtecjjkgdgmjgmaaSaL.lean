/- Lists of lines that are the same. -/
import Derived.Test.YtecjjkgdgmjgmaaWoM
import Derived.Test.YtecjjkgdgmjgmaaPG
namespace Go.Proofs.Ytecjjkgdgmjgmaa
open Go.RowKit
set_option linter.unusedVariables false
set_option maxRecDepth 100000 in
set_option maxHeartbeats 4000000 in
theorem same_lines (a b : Option Addr) (c d : Nat) (L : List Ln) (w : World) (hc : Cells w a (flat L)) (hd : Cells w b (flat L)) (hl : L.length ≤ 1048576) :
    Calls Try.prog 12 #[.slice a L.length c, .slice b L.length d] w fun e w' => e = .returned (.bool true) ∧ Keeps w w' := by
  have HC := hide hc
  have HD := hide hd
  clear hc hd
  go_enter Try.func12, Try.ntmps12
  go_wp2_with fail
  go_loopw [13] (fun y wr => ∃ k : Nat, k ≤ L.length ∧ y = .int .i64 (k : Int) ∧ Hid (Keeps w wr)) (fun y _ => L.length - (intOf y).toNat)
  case atStart => exact ⟨0, by omega, rfl, Keeps.refl _⟩
  case round =>
    obtain ⟨k, hk, rfl, HKr⟩ := hrel
    by_cases hlt : k < L.length
    · obtain ⟨b1, o1, e1, c0, c1, c2⟩ := cells_at (HC.out.kept HKr.out) k hlt
      obtain ⟨b2, o2, e2, d0, d1, d2⟩ := cells_at (HD.out.kept HKr.out) k hlt
      subst e1 e2
      generalize L[k] = x at *
      go_wp2_with fail
      go_region_held3 (fun w' => w'.cell? ⟨b1, o1 + k * 3, none⟩ = some (.int .i64 x.k) ∧ w'.cell? ⟨b1, o1 + k * 3 + 1, none⟩ = some (.int .i64 x.c) ∧ w'.cell? ⟨b1, o1 + k * 3 + 2, none⟩ = some (.int .i64 x.a) ∧ w'.cell? ⟨b2, o2 + k * 3, none⟩ = some (.int .i64 x.k) ∧ w'.cell? ⟨b2, o2 + k * 3 + 1, none⟩ = some (.int .i64 x.c) ∧ w'.cell? ⟨b2, o2 + k * 3 + 2, none⟩ = some (.int .i64 x.a)) (go_keep) (fail)
      go_wp2_with fail
      go_roundw
      case rel => exact ⟨k + 1, by omega, by go_num, HKr.out.trans ((Keeps.refl _).drew)⟩
      case measure => simp [intOf]; omega
    · go_wp2_with fail
      go_ret
      exact ⟨rfl, HKr.out⟩
end Go.Proofs.Ytecjjkgdgmjgmaa
