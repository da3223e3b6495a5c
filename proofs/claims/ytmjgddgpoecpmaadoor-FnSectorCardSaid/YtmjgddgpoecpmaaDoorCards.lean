/-
  DERIVED. GIVEN WITH THE SEED: THE CARDS: each row of YtmjgddgpoecpmaaDoorRows.lean that lists a variable, with what it lists TIED to the program's text (the seventh form; the later family's looks); each row that meets fmt, with fmt's text TOLD by the authors' own Lean function (tested against real Go, not proved from fmt's source: count such statements apart). THE CARD IS WHAT COUNTS. Prove the row's statement (the work); the ties are given (YtmjgddgpoecpmaaDoorTie.lean); close each card by the builder's one call (the guide's Derived/Test/ToyasCard.lean, 'card_holds'). Laid BY PROGRAM, IN A SANDBOX (cutbox-door.mjs). By AI agents, Wed Nov 11 2026. No macro, syntax, notation, axiom, sorry.
-/
import Derived.Test.YtmjgddgpoecpmaaDoorRows
import GoSem.ClaimSeven
namespace Go.Proofs.YtmjgddgpoecpmaaDoor
namespace Rows

/-- THE TIED CARD OF 'laws.FnTear'. -/
def fnTearCard : Claim7 := { stood := { row := fnTearRow, standIns := [], harness := (true, "68605716dd262804fd562e0e3b8ac29330675b32053d1fa75ec8393cd09e62ac"), looks := true }, kinds := [], alts := [], laidByText := true, laidKinds := [.sentinel], laidTests := true, laidLooks := .later }
def FnTearCardSaid : Prop := Claim7.holds Tryd.pinned (.plain (OpenSpec.ofChange fnTearSpec)) fnTearCard

/-- THE TIED CARD OF 'laws.FnSector'. -/
def fnSectorCard : Claim7 := { stood := { row := fnSectorRow, standIns := [], harness := (true, "68605716dd262804fd562e0e3b8ac29330675b32053d1fa75ec8393cd09e62ac"), looks := true }, kinds := [], alts := [], laidByText := true, laidKinds := [.sentinel], laidTests := true, laidLooks := .later }
def FnSectorCardSaid : Prop := Claim7.holds Tryd.pinned (.plain (OpenSpec.ofChange fnSectorSpec)) fnSectorCard

/-- THE TIED CARD OF 'laws.FnNum'. -/
def fnNumCard : Claim7 := { stood := { row := fnNumRow, standIns := [], harness := (true, "68605716dd262804fd562e0e3b8ac29330675b32053d1fa75ec8393cd09e62ac"), looks := true }, kinds := [], alts := [], laidByText := true, laidKinds := [.data, .data, .data, .sentinel, .sentinel, .sentinel, .sentinel], laidTests := true, laidLooks := .later }
def FnNumCardSaid : Prop := Claim7.holds Tryd.pinned (.plain (OpenSpec.ofChange fnNumSpec)) fnNumCard

/-- THE TIED CARD OF 'laws.FnExactSectorRead'. -/
def fnExactSectorReadCard : Claim7 := { stood := { row := fnExactSectorReadRow, standIns := [], harness := (true, "68605716dd262804fd562e0e3b8ac29330675b32053d1fa75ec8393cd09e62ac"), looks := true }, kinds := [], alts := [], laidByText := true, laidKinds := [.sentinel], laidTests := true, laidLooks := .later }
def FnExactSectorReadCardSaid : Prop := Claim7.holds Tryd.pinned (.plain (OpenSpec.ofChange fnExactSectorReadSpec)) fnExactSectorReadCard

/-- THE TIED CARD OF 'laws.FnExactBodyEvent'. -/
def fnExactBodyEventCard : Claim7 := { stood := { row := fnExactBodyEventRow, standIns := [], harness := (true, "68605716dd262804fd562e0e3b8ac29330675b32053d1fa75ec8393cd09e62ac"), looks := true }, kinds := [], alts := [], laidByText := true, laidKinds := [.sentinel], laidTests := true, laidLooks := .later }
def FnExactBodyEventCardSaid : Prop := Claim7.holds Tryd.pinned (.plain (OpenSpec.ofChange fnExactBodyEventSpec)) fnExactBodyEventCard

/-- THE SECOND FORM's CARD OF 'laws.FnTear'. -/
def fnTearUptoCard : Claim7 := { stood := { row := fnTearUptoRow, standIns := [], harness := (true, "68605716dd262804fd562e0e3b8ac29330675b32053d1fa75ec8393cd09e62ac"), looks := true }, kinds := [], alts := [], laidByText := true, laidKinds := [.sentinel], laidTests := true, laidLooks := .later }
def FnTearUptoCardSaid : Prop := Claim7.holds Tryd.pinned (.plain (OpenSpec.upto fnTearSpec)) fnTearUptoCard

/-- THE SECOND FORM's CARD OF 'laws.FnSector'. -/
def fnSectorUptoCard : Claim7 := { stood := { row := fnSectorUptoRow, standIns := [], harness := (true, "68605716dd262804fd562e0e3b8ac29330675b32053d1fa75ec8393cd09e62ac"), looks := true }, kinds := [], alts := [], laidByText := true, laidKinds := [.sentinel], laidTests := true, laidLooks := .later }
def FnSectorUptoCardSaid : Prop := Claim7.holds Tryd.pinned (.plain (OpenSpec.upto fnSectorSpec)) fnSectorUptoCard

/-- THE SECOND FORM's CARD OF 'laws.FnNum'. -/
def fnNumUptoCard : Claim7 := { stood := { row := fnNumUptoRow, standIns := [], harness := (true, "68605716dd262804fd562e0e3b8ac29330675b32053d1fa75ec8393cd09e62ac"), looks := true }, kinds := [], alts := [], laidByText := true, laidKinds := [.data, .data, .data, .sentinel, .sentinel, .sentinel, .sentinel], laidTests := true, laidLooks := .later }
def FnNumUptoCardSaid : Prop := Claim7.holds Tryd.pinned (.plain (OpenSpec.upto fnNumSpec)) fnNumUptoCard

/-- THE SECOND FORM's CARD OF 'laws.FnExactSectorRead'. -/
def fnExactSectorReadUptoCard : Claim7 := { stood := { row := fnExactSectorReadUptoRow, standIns := [], harness := (true, "68605716dd262804fd562e0e3b8ac29330675b32053d1fa75ec8393cd09e62ac"), looks := true }, kinds := [], alts := [], laidByText := true, laidKinds := [.sentinel], laidTests := true, laidLooks := .later }
def FnExactSectorReadUptoCardSaid : Prop := Claim7.holds Tryd.pinned (.plain (OpenSpec.upto fnExactSectorReadSpec)) fnExactSectorReadUptoCard

/-- THE SECOND FORM's CARD OF 'laws.FnExactBodyEvent'. -/
def fnExactBodyEventUptoCard : Claim7 := { stood := { row := fnExactBodyEventUptoRow, standIns := [], harness := (true, "68605716dd262804fd562e0e3b8ac29330675b32053d1fa75ec8393cd09e62ac"), looks := true }, kinds := [], alts := [], laidByText := true, laidKinds := [.sentinel], laidTests := true, laidLooks := .later }
def FnExactBodyEventUptoCardSaid : Prop := Claim7.holds Tryd.pinned (.plain (OpenSpec.upto fnExactBodyEventSpec)) fnExactBodyEventUptoCard
end Rows
end Go.Proofs.YtmjgddgpoecpmaaDoor
