/-
  DERIVED. GIVEN WITH THE SEED: THE CARDS: each row of YtbmcomgonaikbaaDoorRows.lean that lists a variable, with what it lists TIED to the program's text (the seventh form; the later family's looks); each row that meets fmt, with fmt's text TOLD by the authors' own Lean function (tested against real Go, not proved from fmt's source: count such statements apart). THE CARD IS WHAT COUNTS. Prove the row's statement (the work); the ties are given (YtbmcomgonaikbaaDoorTie.lean); close each card by the builder's one call (the guide's Derived/Test/ToyasCard.lean, 'card_holds'). Laid BY PROGRAM, IN A SANDBOX (cutbox-door.mjs). By AI agents, Wed Nov 11 2026. No macro, syntax, notation, axiom, sorry.
-/
import Derived.Test.YtbmcomgonaikbaaDoorRows
import GoSem.ClaimSeven
namespace Go.Proofs.YtbmcomgonaikbaaDoor
namespace Rows

/-- THE TIED CARD OF 'laws.FnExactGetNum'. -/
def fnExactGetNumCard : Claim7 := { stood := { row := fnExactGetNumRow, standIns := [], harness := (true, "5dab3dc6c92542b9e767fca33248b85fdca322e62ff830353a7fe0bf09a2ab7e"), looks := false }, kinds := [], alts := [], laidByText := true, laidKinds := [.sentinel], laidTests := true, laidLooks := .later }
def FnExactGetNumCardSaid : Prop := Claim7.holds Tryd.pinned (.plain (OpenSpec.ofChange fnExactGetNumSpec)) fnExactGetNumCard

/-- THE SECOND FORM's CARD OF 'laws.FnExactGetNum'. -/
def fnExactGetNumUptoCard : Claim7 := { stood := { row := fnExactGetNumUptoRow, standIns := [], harness := (true, "5dab3dc6c92542b9e767fca33248b85fdca322e62ff830353a7fe0bf09a2ab7e"), looks := false }, kinds := [], alts := [], laidByText := true, laidKinds := [.sentinel], laidTests := true, laidLooks := .later }
def FnExactGetNumUptoCardSaid : Prop := Claim7.holds Tryd.pinned (.plain (OpenSpec.upto fnExactGetNumSpec)) fnExactGetNumUptoCard
end Rows
end Go.Proofs.YtbmcomgonaikbaaDoor
