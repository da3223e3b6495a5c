/-
  DERIVED. GIVEN WITH THE SEED: THE CARDS: each row of YtecjjkgdgmjgmaaDoorRows.lean that lists a variable, with what it lists TIED to the program's text (the seventh form; the later family's looks); each row that meets fmt, with fmt's text TOLD by the authors' own Lean function (tested against real Go, not proved from fmt's source: count such statements apart). THE CARD IS WHAT COUNTS. Prove the row's statement (the work); the ties are given (YtecjjkgdgmjgmaaDoorTie.lean); close each card by the builder's one call (the guide's Derived/Test/ToyasCard.lean, 'card_holds'). Laid BY PROGRAM, IN A SANDBOX (cutbox-door.mjs). By AI agents, Wed Nov 11 2026. No macro, syntax, notation, axiom, sorry.
-/
import Derived.Test.YtecjjkgdgmjgmaaDoorRows
import GoSem.ClaimSeven
namespace Go.Proofs.YtecjjkgdgmjgmaaDoor
namespace Rows

/-- THE TIED CARD OF 'laws.FnTear'. -/
def fnTearCard : Claim7 := { stood := { row := fnTearRow, standIns := [], harness := (true, "fc29d07bdb0c5e1bafece0ad2b2a06d1c857e8b20cd30ff76c445333bffc1415"), looks := true }, kinds := [], alts := [], laidByText := true, laidKinds := [.sentinel], laidTests := true, laidLooks := .later }
def FnTearCardSaid : Prop := Claim7.holds Tryd.pinned (.plain (OpenSpec.ofChange fnTearSpec)) fnTearCard

/-- THE TIED CARD OF 'laws.FnNum'. -/
def fnNumCard : Claim7 := { stood := { row := fnNumRow, standIns := [], harness := (true, "fc29d07bdb0c5e1bafece0ad2b2a06d1c857e8b20cd30ff76c445333bffc1415"), looks := true }, kinds := [], alts := [], laidByText := true, laidKinds := [.data, .data, .data, .sentinel, .sentinel, .sentinel, .sentinel], laidTests := true, laidLooks := .later }
def FnNumCardSaid : Prop := Claim7.holds Tryd.pinned (.plain (OpenSpec.ofChange fnNumSpec)) fnNumCard

/-- THE SECOND FORM's CARD OF 'laws.FnTear'. -/
def fnTearUptoCard : Claim7 := { stood := { row := fnTearUptoRow, standIns := [], harness := (true, "fc29d07bdb0c5e1bafece0ad2b2a06d1c857e8b20cd30ff76c445333bffc1415"), looks := true }, kinds := [], alts := [], laidByText := true, laidKinds := [.sentinel], laidTests := true, laidLooks := .later }
def FnTearUptoCardSaid : Prop := Claim7.holds Tryd.pinned (.plain (OpenSpec.upto fnTearSpec)) fnTearUptoCard

/-- THE SECOND FORM's CARD OF 'laws.FnNum'. -/
def fnNumUptoCard : Claim7 := { stood := { row := fnNumUptoRow, standIns := [], harness := (true, "fc29d07bdb0c5e1bafece0ad2b2a06d1c857e8b20cd30ff76c445333bffc1415"), looks := true }, kinds := [], alts := [], laidByText := true, laidKinds := [.data, .data, .data, .sentinel, .sentinel, .sentinel, .sentinel], laidTests := true, laidLooks := .later }
def FnNumUptoCardSaid : Prop := Claim7.holds Tryd.pinned (.plain (OpenSpec.upto fnNumSpec)) fnNumUptoCard
end Rows
end Go.Proofs.YtecjjkgdgmjgmaaDoor
