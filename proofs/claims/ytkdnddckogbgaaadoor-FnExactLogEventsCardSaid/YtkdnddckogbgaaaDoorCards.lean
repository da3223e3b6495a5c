/-
  DERIVED. GIVEN WITH THE SEED: THE CARDS: each row of YtkdnddckogbgaaaDoorRows.lean that lists a variable, with what it lists TIED to the program's text (the seventh form; the later family's looks); each row that meets fmt, with fmt's text TOLD by the authors' own Lean function (tested against real Go, not proved from fmt's source: count such statements apart). THE CARD IS WHAT COUNTS. Prove the row's statement (the work); the ties are given (YtkdnddckogbgaaaDoorTie.lean); close each card by the builder's one call (the guide's Derived/Test/ToyasCard.lean, 'card_holds'). Laid BY PROGRAM, IN A SANDBOX (cutbox-door.mjs). By AI agents, Wed Nov 11 2026. No macro, syntax, notation, axiom, sorry.
-/
import Derived.Test.YtkdnddckogbgaaaDoorRows
import GoSem.ClaimSeven
namespace Go.Proofs.YtkdnddckogbgaaaDoor
namespace Rows

/-- THE TIED CARD OF 'laws.FnExactLogRead'. -/
def fnExactLogReadCard : Claim7 := { stood := { row := fnExactLogReadRow, standIns := [], harness := (true, "91d34c48d7e8c8ca587b9546e970d8251382bca666f2530248af890febb27d87"), looks := true }, kinds := [], alts := [], laidByText := true, laidKinds := [.sentinel], laidTests := true, laidLooks := .later }
def FnExactLogReadCardSaid : Prop := Claim7.holds Tryd.pinned (.plain (OpenSpec.ofChange fnExactLogReadSpec)) fnExactLogReadCard

/-- THE TIED CARD OF 'laws.FnExactLogTop'. -/
def fnExactLogTopCard : Claim7 := { stood := { row := fnExactLogTopRow, standIns := [], harness := (true, "91d34c48d7e8c8ca587b9546e970d8251382bca666f2530248af890febb27d87"), looks := true }, kinds := [], alts := [], laidByText := true, laidKinds := [.sentinel], laidTests := true, laidLooks := .later }
def FnExactLogTopCardSaid : Prop := Claim7.holds Tryd.pinned (.plain (OpenSpec.ofChange fnExactLogTopSpec)) fnExactLogTopCard

/-- THE TIED CARD OF 'laws.FnExactLogEvents'. -/
def fnExactLogEventsCard : Claim7 := { stood := { row := fnExactLogEventsRow, standIns := [], harness := (true, "91d34c48d7e8c8ca587b9546e970d8251382bca666f2530248af890febb27d87"), looks := true }, kinds := [], alts := [], laidByText := true, laidKinds := [.sentinel], laidTests := true, laidLooks := .later }
def FnExactLogEventsCardSaid : Prop := Claim7.holds Tryd.pinned (.plain (OpenSpec.ofChange fnExactLogEventsSpec)) fnExactLogEventsCard

/-- THE SECOND FORM's CARD OF 'laws.FnExactLogRead'. -/
def fnExactLogReadUptoCard : Claim7 := { stood := { row := fnExactLogReadUptoRow, standIns := [], harness := (true, "91d34c48d7e8c8ca587b9546e970d8251382bca666f2530248af890febb27d87"), looks := true }, kinds := [], alts := [], laidByText := true, laidKinds := [.sentinel], laidTests := true, laidLooks := .later }
def FnExactLogReadUptoCardSaid : Prop := Claim7.holds Tryd.pinned (.plain (OpenSpec.upto fnExactLogReadSpec)) fnExactLogReadUptoCard

/-- THE SECOND FORM's CARD OF 'laws.FnExactLogTop'. -/
def fnExactLogTopUptoCard : Claim7 := { stood := { row := fnExactLogTopUptoRow, standIns := [], harness := (true, "91d34c48d7e8c8ca587b9546e970d8251382bca666f2530248af890febb27d87"), looks := true }, kinds := [], alts := [], laidByText := true, laidKinds := [.sentinel], laidTests := true, laidLooks := .later }
def FnExactLogTopUptoCardSaid : Prop := Claim7.holds Tryd.pinned (.plain (OpenSpec.upto fnExactLogTopSpec)) fnExactLogTopUptoCard

/-- THE SECOND FORM's CARD OF 'laws.FnExactLogEvents'. -/
def fnExactLogEventsUptoCard : Claim7 := { stood := { row := fnExactLogEventsUptoRow, standIns := [], harness := (true, "91d34c48d7e8c8ca587b9546e970d8251382bca666f2530248af890febb27d87"), looks := true }, kinds := [], alts := [], laidByText := true, laidKinds := [.sentinel], laidTests := true, laidLooks := .later }
def FnExactLogEventsUptoCardSaid : Prop := Claim7.holds Tryd.pinned (.plain (OpenSpec.upto fnExactLogEventsSpec)) fnExactLogEventsUptoCard
end Rows
end Go.Proofs.YtkdnddckogbgaaaDoor
