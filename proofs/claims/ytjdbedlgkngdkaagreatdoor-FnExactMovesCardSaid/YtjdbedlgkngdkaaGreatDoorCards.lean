/-
  DERIVED. GIVEN WITH THE SEED: THE CARDS: each row of YtjdbedlgkngdkaaGreatDoorRows.lean that lists a variable, with what it lists TIED to the program's text (the seventh form; the later family's looks); each row that meets fmt, with fmt's text TOLD by the authors' own Lean function (tested against real Go, not proved from fmt's source: count such statements apart). THE CARD IS WHAT COUNTS. Prove the row's statement (the work); the ties are given (YtjdbedlgkngdkaaGreatDoorTie.lean); close each card by the builder's one call (the guide's Derived/Test/ToyasCard.lean, 'card_holds'). Laid BY PROGRAM, IN A SANDBOX (cutbox-door.mjs). By AI agents, Wed Nov 11 2026. No macro, syntax, notation, axiom, sorry.
-/
import Derived.Test.YtjdbedlgkngdkaaGreatDoorRows
import GoSem.ClaimSeven
namespace Go.Proofs.YtjdbedlgkngdkaaGreatDoor
namespace Rows

/-- THE TIED CARD OF 'laws.FnMoves'. -/
def fnMovesCard : Claim7 := { stood := { row := fnMovesRow, standIns := [], harness := (true, "93b40a2c298c99f64d7ef98b0c2bc8476848d9b16d61fbc86181baa2beb240f0"), looks := false }, kinds := [], alts := [], laidByText := true, laidKinds := [.sentinel, .sentinel], laidTests := true, laidLooks := .later }
def FnMovesCardSaid : Prop := Claim7.holds Tryz.pinned (.plain (OpenSpec.ofChange fnMovesSpec)) fnMovesCard

/-- THE TIED CARD OF 'laws.FnExactPlanGraph'. -/
def fnExactPlanGraphCard : Claim7 := { stood := { row := fnExactPlanGraphRow, standIns := [], harness := (true, "93b40a2c298c99f64d7ef98b0c2bc8476848d9b16d61fbc86181baa2beb240f0"), looks := false }, kinds := [], alts := [], laidByText := true, laidKinds := [.sentinel, .sentinel], laidTests := true, laidLooks := .later }
def FnExactPlanGraphCardSaid : Prop := Claim7.holds Tryz.pinned (.plain (OpenSpec.ofChange fnExactPlanGraphSpec)) fnExactPlanGraphCard

/-- THE TIED CARD OF 'laws.FnExactMoves'. -/
def fnExactMovesCard : Claim7 := { stood := { row := fnExactMovesRow, standIns := [], harness := (true, "93b40a2c298c99f64d7ef98b0c2bc8476848d9b16d61fbc86181baa2beb240f0"), looks := false }, kinds := [], alts := [], laidByText := true, laidKinds := [.sentinel, .sentinel], laidTests := true, laidLooks := .later }
def FnExactMovesCardSaid : Prop := Claim7.holds Tryz.pinned (.plain (OpenSpec.ofChange fnExactMovesSpec)) fnExactMovesCard

/-- THE SECOND FORM's CARD OF 'laws.FnMoves'. -/
def fnMovesUptoCard : Claim7 := { stood := { row := fnMovesUptoRow, standIns := [], harness := (true, "93b40a2c298c99f64d7ef98b0c2bc8476848d9b16d61fbc86181baa2beb240f0"), looks := false }, kinds := [], alts := [], laidByText := true, laidKinds := [.sentinel, .sentinel], laidTests := true, laidLooks := .later }
def FnMovesUptoCardSaid : Prop := Claim7.holds Tryz.pinned (.plain (OpenSpec.upto fnMovesSpec)) fnMovesUptoCard

/-- THE SECOND FORM's CARD OF 'laws.FnExactPlanGraph'. -/
def fnExactPlanGraphUptoCard : Claim7 := { stood := { row := fnExactPlanGraphUptoRow, standIns := [], harness := (true, "93b40a2c298c99f64d7ef98b0c2bc8476848d9b16d61fbc86181baa2beb240f0"), looks := false }, kinds := [], alts := [], laidByText := true, laidKinds := [.sentinel, .sentinel], laidTests := true, laidLooks := .later }
def FnExactPlanGraphUptoCardSaid : Prop := Claim7.holds Tryz.pinned (.plain (OpenSpec.upto fnExactPlanGraphSpec)) fnExactPlanGraphUptoCard

/-- THE SECOND FORM's CARD OF 'laws.FnExactMoves'. -/
def fnExactMovesUptoCard : Claim7 := { stood := { row := fnExactMovesUptoRow, standIns := [], harness := (true, "93b40a2c298c99f64d7ef98b0c2bc8476848d9b16d61fbc86181baa2beb240f0"), looks := false }, kinds := [], alts := [], laidByText := true, laidKinds := [.sentinel, .sentinel], laidTests := true, laidLooks := .later }
def FnExactMovesUptoCardSaid : Prop := Claim7.holds Tryz.pinned (.plain (OpenSpec.upto fnExactMovesSpec)) fnExactMovesUptoCard
end Rows
end Go.Proofs.YtjdbedlgkngdkaaGreatDoor
