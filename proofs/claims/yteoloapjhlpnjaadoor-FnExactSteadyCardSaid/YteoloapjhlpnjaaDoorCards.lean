/-
  DERIVED. GIVEN WITH THE SEED: THE CARDS: each row of YteoloapjhlpnjaaDoorRows.lean that lists a variable, with what it lists TIED to the program's text (the seventh form; the later family's looks); each row that meets fmt, with fmt's text TOLD by the authors' own Lean function (tested against real Go, not proved from fmt's source: count such statements apart). THE CARD IS WHAT COUNTS. Prove the row's statement (the work); the ties are given (YteoloapjhlpnjaaDoorTie.lean); close each card by the builder's one call (the guide's Derived/Test/ToyasCard.lean, 'card_holds'). Laid BY PROGRAM, IN A SANDBOX (cutbox-door.mjs). By AI agents, Wed Nov 11 2026. No macro, syntax, notation, axiom, sorry.
-/
import Derived.Test.YteoloapjhlpnjaaDoorRows
import GoSem.ClaimSeven
namespace Go.Proofs.YteoloapjhlpnjaaDoor
namespace Rows

/-- THE TIED CARD OF 'laws.FnExactNextPpm'. -/
def fnExactNextPpmCard : Claim7 := { stood := { row := fnExactNextPpmRow, standIns := [], harness := (true, "62926871c248443d78e1c07ebf7a06152e17bc209c321831ebebba0cc2fe10c1"), looks := false }, kinds := [], alts := [], laidByText := true, laidKinds := [.sentinel, .sentinel], laidTests := true, laidLooks := .later }
def FnExactNextPpmCardSaid : Prop := Claim7.holds Tryd.pinned (.plain (OpenSpec.ofChange fnExactNextPpmSpec)) fnExactNextPpmCard

/-- THE TIED CARD OF 'laws.FnExactSteady'. -/
def fnExactSteadyCard : Claim7 := { stood := { row := fnExactSteadyRow, standIns := [], harness := (true, "62926871c248443d78e1c07ebf7a06152e17bc209c321831ebebba0cc2fe10c1"), looks := false }, kinds := [], alts := [], laidByText := true, laidKinds := [.sentinel, .sentinel], laidTests := true, laidLooks := .later }
def FnExactSteadyCardSaid : Prop := Claim7.holds Tryd.pinned (.plain (OpenSpec.ofChange fnExactSteadySpec)) fnExactSteadyCard

/-- THE SECOND FORM's CARD OF 'laws.FnExactNextPpm'. -/
def fnExactNextPpmUptoCard : Claim7 := { stood := { row := fnExactNextPpmUptoRow, standIns := [], harness := (true, "62926871c248443d78e1c07ebf7a06152e17bc209c321831ebebba0cc2fe10c1"), looks := false }, kinds := [], alts := [], laidByText := true, laidKinds := [.sentinel, .sentinel], laidTests := true, laidLooks := .later }
def FnExactNextPpmUptoCardSaid : Prop := Claim7.holds Tryd.pinned (.plain (OpenSpec.upto fnExactNextPpmSpec)) fnExactNextPpmUptoCard

/-- THE SECOND FORM's CARD OF 'laws.FnExactSteady'. -/
def fnExactSteadyUptoCard : Claim7 := { stood := { row := fnExactSteadyUptoRow, standIns := [], harness := (true, "62926871c248443d78e1c07ebf7a06152e17bc209c321831ebebba0cc2fe10c1"), looks := false }, kinds := [], alts := [], laidByText := true, laidKinds := [.sentinel, .sentinel], laidTests := true, laidLooks := .later }
def FnExactSteadyUptoCardSaid : Prop := Claim7.holds Tryd.pinned (.plain (OpenSpec.upto fnExactSteadySpec)) fnExactSteadyUptoCard
end Rows
end Go.Proofs.YteoloapjhlpnjaaDoor
