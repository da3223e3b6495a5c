/- Contracts of TextNum, of the program (strconv.Atoi by the library's contract) and of the model. -/
import Derived.Test.YtecjjkgdgmjgmaaDoorTextMathK
import Derived.Test.YtecjjkgdgmjgmaaDoorShelfC
import Derived.Test.YtecjjkgdgmjgmaaDoorTold
namespace Go.Proofs.YtecjjkgdgmjgmaaDoor
open Go.RowKit
set_option linter.unusedVariables false

theorem atoi_ok (s : ByteArray) (v : Int) (w : World) (hs : s.size ≤ 1048576) (h : Lib.atoiAll s.data.toList = .ok v) :
    Calls Tryd.prog 36 #[.string s] w fun e w' => e = .returned (.tuple #[.int .i64 v, .nilIface]) ∧ Keeps w w' := by
  refine (Tryd.strconv_Atoi_ok s (by omega) v h w).mono ?_
  rintro e w' ⟨rfl, h | ⟨t, h⟩⟩
  · subst h; exact ⟨rfl, Keeps.refl _⟩
  · subst h; exact ⟨rfl, Lib.bytesWorld_below _ _ _⟩
theorem atoi_no (s : ByteArray) (w : World) (hs : s.size ≤ 1048576) (tS tR : TypeId) (pS pR : Value) (hS : w.var? Tryd.prog "strconv.ErrSyntax" = some #[.iface tS pS]) (hR : w.var? Tryd.prog "strconv.ErrRange" = some #[.iface tR pR])
    (h : ∀ v, Lib.atoiAll s.data.toList ≠ .ok v) :
    Calls Tryd.prog 36 #[.string s] w fun e w' => (∃ v u x, e = .returned (.tuple #[.int .i64 v, .iface u x])) ∧ Keeps w w' := by
  cases hc : Lib.atoiAll s.data.toList with
  | ok v => exact absurd hc (h v)
  | _ =>
    first
      | (refine (Any.strconv_Atoi_range_var Tryd.laysC172 s (by omega) hc tR pR w hR).mono ?_; rintro e w' ⟨N, rfl, _, _, hb⟩; exact ⟨⟨_, _, _, rfl⟩, hb⟩)
      | (refine (Any.strconv_Atoi_syntax_var Tryd.laysC172 s (by omega) hc tS pS w hS).mono ?_; rintro e w' ⟨N, rfl, _, _, hb⟩; exact ⟨⟨_, _, _, rfl⟩, hb⟩)

theorem toList_data (s : ByteArray) : s.toList = s.data.toList := ByteArray.toList_eq s
theorem atoi_ne {l : List UInt8} {v : Int} (h : Lib.atoiAll l = .ok v) : l ≠ [] := by
  intro e; subst e; cases h

theorem number_any (s : ByteArray) (w : World) (hs : s.size ≤ 1048576) (tS tR u1 : TypeId) (pS pR x1 : Value) (hS : w.var? Tryd.prog "strconv.ErrSyntax" = some #[.iface tS pS]) (hR : w.var? Tryd.prog "strconv.ErrRange" = some #[.iface tR pR])
    (ht : Tab w) (hg : w.cell? ⟨0, 0, none⟩ = some (.iface u1 x1)) :
    Calls Tryd.prog 30 #[.string s] w fun e w' => ((∃ v, Res s.data.toList v true ∧ e = .returned (.tuple #[.int .i64 v, .nilIface])) ∨ (Res s.data.toList 0 false ∧ ∃ u x, e = .returned (.tuple #[.int .i64 0, .iface u x]))) ∧ Keeps w w' := by
  by_cases hok : ∃ v, Lib.atoiAll s.data.toList = .ok v
  · obtain ⟨v, hv⟩ := hok
    have HA := hide (atoi_ok s v w hs hv)
    have HN := hide (fun w1 (h : Tab w1) => num_impl v w1 h)
    have HT := hide ht
    have HR := hide (fun h => res_other hv h)
    have HY := hide (fun hl h => res_yes (l := s.data.toList) (v := v) hl h)
    have HL := hide (atoi_ne hv)
    clear hS hR ht hv
    cases hb : numT v == s.toList
    · have HB : Hid (numT v ≠ s.data.toList) := by
        rw [toList_data] at hb
        exact beq_eq_false_iff_ne.1 hb
      go_enter Tryd.func30, Tryd.ntmps30
      go_wp2_with (first | (go_at_call 36; refine (unhide HA).mono ?_; rintro e w1 ⟨rfl, hk⟩) | (go_at_call 12; refine (unhide HN _ ((unhide HT).kept hk)).mono ?_; rintro e w2 ⟨rfl, hk2⟩; have hg2 := (hk.trans hk2).cell hg))
      go_quiet (fail)
      go_wp2
      go_ret2
      exact ⟨Or.inr ⟨unhide HR HB.out, _, _, rfl⟩, (hk.trans hk2).drewN _⟩
    · have HB : Hid (numT v = s.data.toList) := by
        rw [toList_data] at hb
        exact beq_iff_eq.1 hb
      go_enter Tryd.func30, Tryd.ntmps30
      go_wp2_with (first | (go_at_call 36; refine (unhide HA).mono ?_; rintro e w1 ⟨rfl, hk⟩) | (go_at_call 12; refine (unhide HN _ ((unhide HT).kept hk)).mono ?_; rintro e w2 ⟨rfl, hk2⟩))
      go_ret2
      exact ⟨Or.inl ⟨_, unhide HY HL.out HB.out, rfl⟩, hk.trans hk2⟩
  · have hok' : ∀ v, Lib.atoiAll s.data.toList ≠ .ok v := fun v h => hok ⟨v, h⟩
    have HA := hide (atoi_no s w hs tS tR pS pR hS hR hok')
    have HR := hide (res_err hok')
    clear hS hR ht hok hok'
    go_enter Tryd.func30, Tryd.ntmps30
    go_wp2_with (first | (go_at_call 36; refine (unhide HA).mono ?_; rintro e w1 ⟨⟨v, u, x, rfl⟩, hk⟩; have hg2 := hk.cell hg))
    go_quiet (fail)
    go_wp2
    go_ret2
    exact ⟨Or.inr ⟨unhide HR, _, _, rfl⟩, hk.drewN _⟩

theorem text_impl (s : ByteArray) (w : World) (hs : s.size ≤ 1048576) (tS tR u1 : TypeId) (pS pR x1 : Value) (hS : w.var? Tryd.prog "strconv.ErrSyntax" = some #[.iface tS pS]) (hR : w.var? Tryd.prog "strconv.ErrRange" = some #[.iface tR pR])
    (ht : Tab w) (hg : w.cell? ⟨0, 0, none⟩ = some (.iface u1 x1)) :
    Calls Tryd.prog 13 #[.string s] w fun e w' => (∃ v b, Res s.data.toList v b ∧ e = .returned (.tuple #[.int .i64 v, .bool b])) ∧ Keeps w w' := by
  have HN := hide (number_any s w hs tS tR u1 pS pR x1 hS hR ht hg)
  clear hS hR ht hg
  go_enter Tryd.func13, Tryd.ntmps13
  go_wp2_with fail
  refine (unhide HN).mono ?_
  rintro e w1 ⟨⟨v, hr, rfl⟩ | ⟨hr, u, x, rfl⟩, hk⟩
  · go_wp2_with (go_at_call 29; refine (told_ok _ _).mono ?_; rintro e w' ⟨rfl, hw⟩; rw [hw]; clear hw w')
    go_ret2
    exact ⟨⟨_, _, hr, rfl⟩, hk⟩
  · go_wp2_with (go_at_call 29; refine (told_no _ _ _ _).mono ?_; rintro e w' ⟨rfl, hw⟩; rw [hw]; clear hw w')
    go_ret2
    exact ⟨⟨_, _, hr, rfl⟩, hk⟩
end Go.Proofs.YtecjjkgdgmjgmaaDoor
