/-
  DERIVED. GIVEN WITH THE SEED: THE CARDS: each row of YteoloapjhlpnjaaGreatDoorRows.lean that lists a variable, with what it lists TIED to the program's text (the seventh form; the later family's looks); each row that meets fmt, with fmt's text TOLD by the authors' own Lean function (tested against real Go, not proved from fmt's source: count such statements apart). THE CARD IS WHAT COUNTS. Prove the row's statement (the work); the ties are given (YteoloapjhlpnjaaGreatDoorTie.lean); close each card by the builder's one call (the guide's Derived/Test/ToyasCard.lean, 'card_holds'). Laid BY PROGRAM, IN A SANDBOX (cutbox-door.mjs). By AI agents, Wed Nov 11 2026. No macro, syntax, notation, axiom, sorry.
-/
import Derived.Test.YteoloapjhlpnjaaGreatDoorRows
import GoSem.ClaimSeven
namespace Go.Proofs.YteoloapjhlpnjaaGreatDoor
namespace Rows

/-- THE TIED CARD OF 'laws.FnTurns'. -/
def fnTurnsCard : Claim7 := { stood := { row := fnTurnsRow, standIns := [], harness := (true, "e1768a129d2c993cf7d9cef82cc156e699a1e3002272eec3e893f08304462671"), looks := true }, kinds := [], alts := [], laidByText := true, laidKinds := [.sentinel, .sentinel, .sentinel], laidTests := true, laidLooks := .later }
def FnTurnsCardSaid : Prop := Claim7.holds Tryz.pinned (.plain (OpenSpec.ofChange fnTurnsSpec)) fnTurnsCard

/-- THE TIED CARD OF 'laws.FnExactTurns'. -/
def fnExactTurnsCard : Claim7 := { stood := { row := fnExactTurnsRow, standIns := [], harness := (true, "e1768a129d2c993cf7d9cef82cc156e699a1e3002272eec3e893f08304462671"), looks := true }, kinds := [], alts := [], laidByText := true, laidKinds := [.sentinel, .sentinel], laidTests := true, laidLooks := .later }
def FnExactTurnsCardSaid : Prop := Claim7.holds Tryz.pinned (.plain (OpenSpec.ofChange fnExactTurnsSpec)) fnExactTurnsCard

/-- THE SECOND FORM's CARD OF 'laws.FnTurns'. -/
def fnTurnsUptoCard : Claim7 := { stood := { row := fnTurnsUptoRow, standIns := [], harness := (true, "e1768a129d2c993cf7d9cef82cc156e699a1e3002272eec3e893f08304462671"), looks := true }, kinds := [], alts := [], laidByText := true, laidKinds := [.sentinel, .sentinel, .sentinel], laidTests := true, laidLooks := .later }
def FnTurnsUptoCardSaid : Prop := Claim7.holds Tryz.pinned (.plain (OpenSpec.upto fnTurnsSpec)) fnTurnsUptoCard

/-- THE SECOND FORM's CARD OF 'laws.FnExactTurns'. -/
def fnExactTurnsUptoCard : Claim7 := { stood := { row := fnExactTurnsUptoRow, standIns := [], harness := (true, "e1768a129d2c993cf7d9cef82cc156e699a1e3002272eec3e893f08304462671"), looks := true }, kinds := [], alts := [], laidByText := true, laidKinds := [.sentinel, .sentinel], laidTests := true, laidLooks := .later }
def FnExactTurnsUptoCardSaid : Prop := Claim7.holds Tryz.pinned (.plain (OpenSpec.upto fnExactTurnsSpec)) fnExactTurnsUptoCard
end Rows
end Go.Proofs.YteoloapjhlpnjaaGreatDoor
