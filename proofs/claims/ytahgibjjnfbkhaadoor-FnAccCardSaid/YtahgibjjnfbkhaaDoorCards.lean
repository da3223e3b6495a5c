/-
  DERIVED. GIVEN WITH THE SEED: THE CARDS: each row of YtahgibjjnfbkhaaDoorRows.lean that lists a variable, with what it lists TIED to the program's text (the seventh form; the later family's looks); each row that meets fmt, with fmt's text TOLD by the authors' own Lean function (tested against real Go, not proved from fmt's source: count such statements apart). THE CARD IS WHAT COUNTS. Prove the row's statement (the work); the ties are given (YtahgibjjnfbkhaaDoorTie.lean); close each card by the builder's one call (the guide's Derived/Test/ToyasCard.lean, 'card_holds'). Laid BY PROGRAM, IN A SANDBOX (cutbox-door.mjs). By AI agents, Wed Nov 11 2026. No macro, syntax, notation, axiom, sorry.
-/
import Derived.Test.YtahgibjjnfbkhaaDoorRows
import GoSem.ClaimSeven
namespace Go.Proofs.YtahgibjjnfbkhaaDoor
namespace Rows

/-- THE TIED CARD OF 'laws.FnAcc'. -/
def fnAccCard : Claim7 := { stood := { row := fnAccRow, standIns := [], harness := (true, "c18c5e1c87f2af7818c534fcbe62507b4315b415ee022ecd6f384bebcb30599a"), looks := true }, kinds := [], alts := [], laidByText := true, laidKinds := [.data, .data, .data, .sentinel, .sentinel, .sentinel], laidTests := true, laidLooks := .later }
def FnAccCardSaid : Prop := Claim7.holds Tryd.pinned (.plain (OpenSpec.ofChange fnAccSpec)) fnAccCard

/-- THE TIED CARD OF 'laws.FnExactAccText'. -/
def fnExactAccTextCard : Claim7 := { stood := { row := fnExactAccTextRow, standIns := [], harness := (true, "c18c5e1c87f2af7818c534fcbe62507b4315b415ee022ecd6f384bebcb30599a"), looks := true }, kinds := [], alts := [], laidByText := true, laidKinds := [.data, .data, .data], laidTests := true, laidLooks := .later }
def FnExactAccTextCardSaid : Prop := Claim7.holds Tryd.pinned (.plain (OpenSpec.ofChange fnExactAccTextSpec)) fnExactAccTextCard

/-- THE TIED CARD OF 'laws.FnExactTextAcc'. -/
def fnExactTextAccCard : Claim7 := { stood := { row := fnExactTextAccRow, standIns := [], harness := (true, "c18c5e1c87f2af7818c534fcbe62507b4315b415ee022ecd6f384bebcb30599a"), looks := true }, kinds := [], alts := [], laidByText := true, laidKinds := [.data, .data, .data, .sentinel, .sentinel, .sentinel], laidTests := true, laidLooks := .later }
def FnExactTextAccCardSaid : Prop := Claim7.holds Tryd.pinned (.plain (OpenSpec.ofChange fnExactTextAccSpec)) fnExactTextAccCard

/-- THE SECOND FORM's CARD OF 'laws.FnAcc'. -/
def fnAccUptoCard : Claim7 := { stood := { row := fnAccUptoRow, standIns := [], harness := (true, "c18c5e1c87f2af7818c534fcbe62507b4315b415ee022ecd6f384bebcb30599a"), looks := true }, kinds := [], alts := [], laidByText := true, laidKinds := [.data, .data, .data, .sentinel, .sentinel, .sentinel], laidTests := true, laidLooks := .later }
def FnAccUptoCardSaid : Prop := Claim7.holds Tryd.pinned (.plain (OpenSpec.upto fnAccSpec)) fnAccUptoCard

/-- THE SECOND FORM's CARD OF 'laws.FnExactAccText'. -/
def fnExactAccTextUptoCard : Claim7 := { stood := { row := fnExactAccTextUptoRow, standIns := [], harness := (true, "c18c5e1c87f2af7818c534fcbe62507b4315b415ee022ecd6f384bebcb30599a"), looks := true }, kinds := [], alts := [], laidByText := true, laidKinds := [.data, .data, .data], laidTests := true, laidLooks := .later }
def FnExactAccTextUptoCardSaid : Prop := Claim7.holds Tryd.pinned (.plain (OpenSpec.upto fnExactAccTextSpec)) fnExactAccTextUptoCard

/-- THE SECOND FORM's CARD OF 'laws.FnExactTextAcc'. -/
def fnExactTextAccUptoCard : Claim7 := { stood := { row := fnExactTextAccUptoRow, standIns := [], harness := (true, "c18c5e1c87f2af7818c534fcbe62507b4315b415ee022ecd6f384bebcb30599a"), looks := true }, kinds := [], alts := [], laidByText := true, laidKinds := [.data, .data, .data, .sentinel, .sentinel, .sentinel], laidTests := true, laidLooks := .later }
def FnExactTextAccUptoCardSaid : Prop := Claim7.holds Tryd.pinned (.plain (OpenSpec.upto fnExactTextAccSpec)) fnExactTextAccUptoCard
end Rows
end Go.Proofs.YtahgibjjnfbkhaaDoor
