/-
  DERIVED. GIVEN WITH THE SEED: THE CARDS: each row of YtmigcgpnkfjebaaGreatDoorRows.lean that lists a variable, with what it lists TIED to the program's text (the seventh form; the later family's looks); each row that meets fmt, with fmt's text TOLD by the authors' own Lean function (tested against real Go, not proved from fmt's source: count such statements apart). THE CARD IS WHAT COUNTS. Prove the row's statement (the work); the ties are given (YtmigcgpnkfjebaaGreatDoorTie.lean); close each card by the builder's one call (the guide's Derived/Test/ToyasCard.lean, 'card_holds'). Laid BY PROGRAM, IN A SANDBOX (cutbox-door.mjs). By AI agents, Wed Nov 11 2026. No macro, syntax, notation, axiom, sorry.
-/
import Derived.Test.YtmigcgpnkfjebaaGreatDoorRows
import GoSem.ClaimSeven
namespace Go.Proofs.YtmigcgpnkfjebaaGreatDoor
namespace Rows

/-- THE TIED CARD OF 'laws.FnExactTextEvent'. -/
def fnExactTextEventCard : Claim7 := { stood := { row := fnExactTextEventRow, standIns := [], harness := (true, "5bb90b10675859a5d9369adc60ee3bd469ba95be54bf7b1917893f2d25a71a27"), looks := true }, kinds := [], alts := [], laidByText := true, laidKinds := [.data, .data, .data, .data, .sentinel, .sentinel, .sentinel, .pinned], laidTests := true, laidLooks := .later }
def FnExactTextEventCardSaid : Prop := Claim7.holds Tryz.pinned (.plain (OpenSpec.ofChange fnExactTextEventSpec)) fnExactTextEventCard

/-- THE SECOND FORM's CARD OF 'laws.FnExactTextEvent'. -/
def fnExactTextEventUptoCard : Claim7 := { stood := { row := fnExactTextEventUptoRow, standIns := [], harness := (true, "5bb90b10675859a5d9369adc60ee3bd469ba95be54bf7b1917893f2d25a71a27"), looks := true }, kinds := [], alts := [], laidByText := true, laidKinds := [.data, .data, .data, .data, .sentinel, .sentinel, .sentinel, .pinned], laidTests := true, laidLooks := .later }
def FnExactTextEventUptoCardSaid : Prop := Claim7.holds Tryz.pinned (.plain (OpenSpec.upto fnExactTextEventSpec)) fnExactTextEventUptoCard
end Rows
end Go.Proofs.YtmigcgpnkfjebaaGreatDoor
