/-
  DERIVED. GIVEN WITH THE SEED: THE CARDS: each row of YtjdbedlgkngdkaaDoorRows.lean that lists a variable, with what it lists TIED to the program's text (the seventh form; the later family's looks); each row that meets fmt, with fmt's text TOLD by the authors' own Lean function (tested against real Go, not proved from fmt's source: count such statements apart). THE CARD IS WHAT COUNTS. Prove the row's statement (the work); the ties are given (YtjdbedlgkngdkaaDoorTie.lean); close each card by the builder's one call (the guide's Derived/Test/ToyasCard.lean, 'card_holds'). Laid BY PROGRAM, IN A SANDBOX (cutbox-door.mjs). By AI agents, Wed Nov 11 2026. No macro, syntax, notation, axiom, sorry.
-/
import Derived.Test.YtjdbedlgkngdkaaDoorRows
import GoSem.ClaimSeven
namespace Go.Proofs.YtjdbedlgkngdkaaDoor
namespace Rows

/-- THE TIED CARD OF 'laws.FnExactEnds'. -/
def fnExactEndsCard : Claim7 := { stood := { row := fnExactEndsRow, standIns := [], harness := (true, "febf3b436afc7103600dcbd429f5892a438083155395cec81d50d6723755fd46"), looks := false }, kinds := [], alts := [], laidByText := true, laidKinds := [.sentinel, .sentinel], laidTests := true, laidLooks := .later }
def FnExactEndsCardSaid : Prop := Claim7.holds Tryd.pinned (.plain (OpenSpec.ofChange fnExactEndsSpec)) fnExactEndsCard

/-- THE SECOND FORM's CARD OF 'laws.FnExactEnds'. -/
def fnExactEndsUptoCard : Claim7 := { stood := { row := fnExactEndsUptoRow, standIns := [], harness := (true, "febf3b436afc7103600dcbd429f5892a438083155395cec81d50d6723755fd46"), looks := false }, kinds := [], alts := [], laidByText := true, laidKinds := [.sentinel, .sentinel], laidTests := true, laidLooks := .later }
def FnExactEndsUptoCardSaid : Prop := Claim7.holds Tryd.pinned (.plain (OpenSpec.upto fnExactEndsSpec)) fnExactEndsUptoCard
end Rows
end Go.Proofs.YtjdbedlgkngdkaaDoor
