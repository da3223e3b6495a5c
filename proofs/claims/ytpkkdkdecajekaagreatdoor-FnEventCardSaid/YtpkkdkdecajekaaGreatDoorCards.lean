/-
  DERIVED. GIVEN WITH THE SEED: THE CARDS: each row of YtpkkdkdecajekaaGreatDoorRows.lean that lists a variable, with what it lists TIED to the program's text (the seventh form; the later family's looks); each row that meets fmt, with fmt's text TOLD by the authors' own Lean function (tested against real Go, not proved from fmt's source: count such statements apart). THE CARD IS WHAT COUNTS. Prove the row's statement (the work); the ties are given (YtpkkdkdecajekaaGreatDoorTie.lean); close each card by the builder's one call (the guide's Derived/Test/ToyasCard.lean, 'card_holds'). Laid BY PROGRAM, IN A SANDBOX (cutbox-door.mjs). By AI agents, Wed Nov 11 2026. No macro, syntax, notation, axiom, sorry.
-/
import Derived.Test.YtpkkdkdecajekaaGreatDoorRows
import GoSem.ClaimSeven
namespace Go.Proofs.YtpkkdkdecajekaaGreatDoor
namespace Rows

/-- THE TIED CARD OF 'laws.FnEvent'. -/
def fnEventCard : Claim7 := { stood := { row := fnEventRow, standIns := [], harness := (true, "1fd5833e74c2c20ebfb20caac333cf4cf4af39a7ef36a01f00212f962d614d25"), looks := true }, kinds := [], alts := [], laidByText := true, laidKinds := [.data, .data, .data, .data, .sentinel, .sentinel, .sentinel, .sentinel, .pinned], laidTests := true, laidLooks := .later }
def FnEventCardSaid : Prop := Claim7.holds Tryz.pinned (.plain (OpenSpec.ofChange fnEventSpec)) fnEventCard

/-- THE TIED CARD OF 'laws.FnExactTextEvent'. -/
def fnExactTextEventCard : Claim7 := { stood := { row := fnExactTextEventRow, standIns := [], harness := (true, "1fd5833e74c2c20ebfb20caac333cf4cf4af39a7ef36a01f00212f962d614d25"), looks := true }, kinds := [], alts := [], laidByText := true, laidKinds := [.data, .data, .data, .data, .sentinel, .sentinel, .sentinel, .pinned], laidTests := true, laidLooks := .later }
def FnExactTextEventCardSaid : Prop := Claim7.holds Tryz.pinned (.plain (OpenSpec.ofChange fnExactTextEventSpec)) fnExactTextEventCard

/-- THE SECOND FORM's CARD OF 'laws.FnEvent'. -/
def fnEventUptoCard : Claim7 := { stood := { row := fnEventUptoRow, standIns := [], harness := (true, "1fd5833e74c2c20ebfb20caac333cf4cf4af39a7ef36a01f00212f962d614d25"), looks := true }, kinds := [], alts := [], laidByText := true, laidKinds := [.data, .data, .data, .data, .sentinel, .sentinel, .sentinel, .sentinel, .pinned], laidTests := true, laidLooks := .later }
def FnEventUptoCardSaid : Prop := Claim7.holds Tryz.pinned (.plain (OpenSpec.upto fnEventSpec)) fnEventUptoCard

/-- THE SECOND FORM's CARD OF 'laws.FnExactTextEvent'. -/
def fnExactTextEventUptoCard : Claim7 := { stood := { row := fnExactTextEventUptoRow, standIns := [], harness := (true, "1fd5833e74c2c20ebfb20caac333cf4cf4af39a7ef36a01f00212f962d614d25"), looks := true }, kinds := [], alts := [], laidByText := true, laidKinds := [.data, .data, .data, .data, .sentinel, .sentinel, .sentinel, .pinned], laidTests := true, laidLooks := .later }
def FnExactTextEventUptoCardSaid : Prop := Claim7.holds Tryz.pinned (.plain (OpenSpec.upto fnExactTextEventSpec)) fnExactTextEventUptoCard
end Rows
end Go.Proofs.YtpkkdkdecajekaaGreatDoor
