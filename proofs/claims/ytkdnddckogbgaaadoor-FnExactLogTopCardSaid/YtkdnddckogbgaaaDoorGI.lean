/- A reader of bytes that gives up by a panic: insist. -/
import Derived.Test.YtkdnddckogbgaaaDoorApn
import Derived.Deep.RegionWith
import Derived.WalkLawsBesides
import Derived.Deep.RegionHeld3
import Derived.Deep.DrawnRows
namespace Go.Proofs.YtkdnddckogbgaaaDoor
open Go.RowKit Go.Deep
set_option linter.unusedVariables false
set_option maxRecDepth 10000

theorem insist_yes (w : World) : Calls Tryd.prog 69 #[.bool true] w fun e w' => e = .returned (.tuple #[]) ∧ w' = w := by
  go_enter Tryd.func69, Tryd.ntmps69
  go_wp2
  go_end0
  exact ⟨rfl, rfl⟩
theorem insist_no (w : World) (u : TypeId) (pv : Value) (hv : w.cell? ⟨0, 0, none⟩ = some (.iface u pv)) : Calls Tryd.prog 69 #[.bool false] w fun e w' => e = .panicked [{ v := .iface u pv, recovered := false }] ∧ w' = w := by
  go_enter Tryd.func69, Tryd.ntmps69
  go_wp2
  exact ⟨rfl, rfl, rfl⟩
/-- A reader: its bytes and its place. -/
structure Rd (w : World) (B : Nat) (a : Option Addr) (L : List UInt8) (cap : Nat) (p : Int) : Prop where
  data : w.cell? ⟨B, 0, none⟩ = some (.slice a L.length cap)
  place : w.cell? ⟨B, 1, none⟩ = some (.int .i64 p)
  free : w.frozen? ⟨B, 1, none⟩ = false
theorem Rd.drewN {w : World} {B : Nat} {a : Option Addr} {L : List UInt8} {cap : Nat} {p : Int} (h : Rd w B a L cap p) (n : Nat) : Rd (w.drewN n) B a L cap p := ⟨by simpa using h.data, by simpa using h.place, by simpa using h.free⟩
end Go.Proofs.YtkdnddckogbgaaaDoor
