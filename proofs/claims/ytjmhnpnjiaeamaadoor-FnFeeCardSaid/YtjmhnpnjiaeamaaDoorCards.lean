/-
  DERIVED. GIVEN WITH THE SEED: THE CARDS: each row of YtjmhnpnjiaeamaaDoorRows.lean that lists a variable, with what it lists TIED to the program's text (the seventh form; the later family's looks); each row that meets fmt, with fmt's text TOLD by the authors' own Lean function (tested against real Go, not proved from fmt's source: count such statements apart). THE CARD IS WHAT COUNTS. Prove the row's statement (the work); the ties are given (YtjmhnpnjiaeamaaDoorTie.lean); close each card by the builder's one call (the guide's Derived/Test/ToyasCard.lean, 'card_holds'). Laid BY PROGRAM, IN A SANDBOX (cutbox-door.mjs). By AI agents, Wed Nov 11 2026. No macro, syntax, notation, axiom, sorry.
-/
import Derived.Test.YtjmhnpnjiaeamaaDoorRows
import GoSem.ClaimSeven
namespace Go.Proofs.YtjmhnpnjiaeamaaDoor
namespace Rows

/-- THE TIED CARD OF 'laws.FnFee'. -/
def fnFeeCard : Claim7 := { stood := { row := fnFeeRow, standIns := [], harness := (true, "9c4ee781e0df718d36757d17445dd11a9bd668803aa6a60ffb18cdbd30db9926"), looks := true }, kinds := [], alts := [], laidByText := true, laidKinds := [.sentinel, .sentinel, .sentinel], laidTests := true, laidLooks := .later }
def FnFeeCardSaid : Prop := Claim7.holds Tryd.pinned (.plain (OpenSpec.ofChange fnFeeSpec)) fnFeeCard

/-- THE TIED CARD OF 'laws.FnMulDiv'. -/
def fnMulDivCard : Claim7 := { stood := { row := fnMulDivRow, standIns := [], harness := (true, "9c4ee781e0df718d36757d17445dd11a9bd668803aa6a60ffb18cdbd30db9926"), looks := true }, kinds := [], alts := [], laidByText := true, laidKinds := [.sentinel, .sentinel], laidTests := true, laidLooks := .later }
def FnMulDivCardSaid : Prop := Claim7.holds Tryd.pinned (.plain (OpenSpec.ofChange fnMulDivSpec)) fnMulDivCard

/-- THE TIED CARD OF 'laws.FnExactAddAmt'. -/
def fnExactAddAmtCard : Claim7 := { stood := { row := fnExactAddAmtRow, standIns := [], harness := (true, "9c4ee781e0df718d36757d17445dd11a9bd668803aa6a60ffb18cdbd30db9926"), looks := true }, kinds := [], alts := [], laidByText := true, laidKinds := [.sentinel], laidTests := true, laidLooks := .later }
def FnExactAddAmtCardSaid : Prop := Claim7.holds Tryd.pinned (.plain (OpenSpec.ofChange fnExactAddAmtSpec)) fnExactAddAmtCard

/-- THE TIED CARD OF 'laws.FnExactSubAmt'. -/
def fnExactSubAmtCard : Claim7 := { stood := { row := fnExactSubAmtRow, standIns := [], harness := (true, "9c4ee781e0df718d36757d17445dd11a9bd668803aa6a60ffb18cdbd30db9926"), looks := true }, kinds := [], alts := [], laidByText := true, laidKinds := [.sentinel], laidTests := true, laidLooks := .later }
def FnExactSubAmtCardSaid : Prop := Claim7.holds Tryd.pinned (.plain (OpenSpec.ofChange fnExactSubAmtSpec)) fnExactSubAmtCard

/-- THE TIED CARD OF 'laws.FnExactMulDiv'. -/
def fnExactMulDivCard : Claim7 := { stood := { row := fnExactMulDivRow, standIns := [], harness := (true, "9c4ee781e0df718d36757d17445dd11a9bd668803aa6a60ffb18cdbd30db9926"), looks := true }, kinds := [], alts := [], laidByText := true, laidKinds := [.sentinel, .sentinel], laidTests := true, laidLooks := .later }
def FnExactMulDivCardSaid : Prop := Claim7.holds Tryd.pinned (.plain (OpenSpec.ofChange fnExactMulDivSpec)) fnExactMulDivCard

/-- THE TIED CARD OF 'laws.FnExactFee'. -/
def fnExactFeeCard : Claim7 := { stood := { row := fnExactFeeRow, standIns := [], harness := (true, "9c4ee781e0df718d36757d17445dd11a9bd668803aa6a60ffb18cdbd30db9926"), looks := true }, kinds := [], alts := [], laidByText := true, laidKinds := [.sentinel, .sentinel, .sentinel], laidTests := true, laidLooks := .later }
def FnExactFeeCardSaid : Prop := Claim7.holds Tryd.pinned (.plain (OpenSpec.ofChange fnExactFeeSpec)) fnExactFeeCard

/-- THE TIED CARD OF 'laws.FnExactFeeUp'. -/
def fnExactFeeUpCard : Claim7 := { stood := { row := fnExactFeeUpRow, standIns := [], harness := (true, "9c4ee781e0df718d36757d17445dd11a9bd668803aa6a60ffb18cdbd30db9926"), looks := true }, kinds := [], alts := [], laidByText := true, laidKinds := [.sentinel, .sentinel, .sentinel], laidTests := true, laidLooks := .later }
def FnExactFeeUpCardSaid : Prop := Claim7.holds Tryd.pinned (.plain (OpenSpec.ofChange fnExactFeeUpSpec)) fnExactFeeUpCard

/-- THE TIED CARD OF 'laws.FnExactNumText'. -/
def fnExactNumTextCard : Claim7 := { stood := { row := fnExactNumTextRow, standIns := [], harness := (true, "9c4ee781e0df718d36757d17445dd11a9bd668803aa6a60ffb18cdbd30db9926"), looks := true }, kinds := [], alts := [], laidByText := true, laidKinds := [.data, .data, .data], laidTests := true, laidLooks := .later }
def FnExactNumTextCardSaid : Prop := Claim7.holds Tryd.pinned (.plain (OpenSpec.ofChange fnExactNumTextSpec)) fnExactNumTextCard

/-- THE TIED CARD OF 'laws.FnExactTextNum'. -/
def fnExactTextNumCard : Claim7 := { stood := { row := fnExactTextNumRow, standIns := [], harness := (true, "9c4ee781e0df718d36757d17445dd11a9bd668803aa6a60ffb18cdbd30db9926"), looks := true }, kinds := [], alts := [], laidByText := true, laidKinds := [.data, .data, .data, .sentinel, .sentinel, .sentinel], laidTests := true, laidLooks := .later }
def FnExactTextNumCardSaid : Prop := Claim7.holds Tryd.pinned (.plain (OpenSpec.ofChange fnExactTextNumSpec)) fnExactTextNumCard

/-- THE SECOND FORM's CARD OF 'laws.FnFee'. -/
def fnFeeUptoCard : Claim7 := { stood := { row := fnFeeUptoRow, standIns := [], harness := (true, "9c4ee781e0df718d36757d17445dd11a9bd668803aa6a60ffb18cdbd30db9926"), looks := true }, kinds := [], alts := [], laidByText := true, laidKinds := [.sentinel, .sentinel, .sentinel], laidTests := true, laidLooks := .later }
def FnFeeUptoCardSaid : Prop := Claim7.holds Tryd.pinned (.plain (OpenSpec.upto fnFeeSpec)) fnFeeUptoCard

/-- THE SECOND FORM's CARD OF 'laws.FnMulDiv'. -/
def fnMulDivUptoCard : Claim7 := { stood := { row := fnMulDivUptoRow, standIns := [], harness := (true, "9c4ee781e0df718d36757d17445dd11a9bd668803aa6a60ffb18cdbd30db9926"), looks := true }, kinds := [], alts := [], laidByText := true, laidKinds := [.sentinel, .sentinel], laidTests := true, laidLooks := .later }
def FnMulDivUptoCardSaid : Prop := Claim7.holds Tryd.pinned (.plain (OpenSpec.upto fnMulDivSpec)) fnMulDivUptoCard

/-- THE SECOND FORM's CARD OF 'laws.FnExactAddAmt'. -/
def fnExactAddAmtUptoCard : Claim7 := { stood := { row := fnExactAddAmtUptoRow, standIns := [], harness := (true, "9c4ee781e0df718d36757d17445dd11a9bd668803aa6a60ffb18cdbd30db9926"), looks := true }, kinds := [], alts := [], laidByText := true, laidKinds := [.sentinel], laidTests := true, laidLooks := .later }
def FnExactAddAmtUptoCardSaid : Prop := Claim7.holds Tryd.pinned (.plain (OpenSpec.upto fnExactAddAmtSpec)) fnExactAddAmtUptoCard

/-- THE SECOND FORM's CARD OF 'laws.FnExactSubAmt'. -/
def fnExactSubAmtUptoCard : Claim7 := { stood := { row := fnExactSubAmtUptoRow, standIns := [], harness := (true, "9c4ee781e0df718d36757d17445dd11a9bd668803aa6a60ffb18cdbd30db9926"), looks := true }, kinds := [], alts := [], laidByText := true, laidKinds := [.sentinel], laidTests := true, laidLooks := .later }
def FnExactSubAmtUptoCardSaid : Prop := Claim7.holds Tryd.pinned (.plain (OpenSpec.upto fnExactSubAmtSpec)) fnExactSubAmtUptoCard

/-- THE SECOND FORM's CARD OF 'laws.FnExactMulDiv'. -/
def fnExactMulDivUptoCard : Claim7 := { stood := { row := fnExactMulDivUptoRow, standIns := [], harness := (true, "9c4ee781e0df718d36757d17445dd11a9bd668803aa6a60ffb18cdbd30db9926"), looks := true }, kinds := [], alts := [], laidByText := true, laidKinds := [.sentinel, .sentinel], laidTests := true, laidLooks := .later }
def FnExactMulDivUptoCardSaid : Prop := Claim7.holds Tryd.pinned (.plain (OpenSpec.upto fnExactMulDivSpec)) fnExactMulDivUptoCard

/-- THE SECOND FORM's CARD OF 'laws.FnExactFee'. -/
def fnExactFeeUptoCard : Claim7 := { stood := { row := fnExactFeeUptoRow, standIns := [], harness := (true, "9c4ee781e0df718d36757d17445dd11a9bd668803aa6a60ffb18cdbd30db9926"), looks := true }, kinds := [], alts := [], laidByText := true, laidKinds := [.sentinel, .sentinel, .sentinel], laidTests := true, laidLooks := .later }
def FnExactFeeUptoCardSaid : Prop := Claim7.holds Tryd.pinned (.plain (OpenSpec.upto fnExactFeeSpec)) fnExactFeeUptoCard

/-- THE SECOND FORM's CARD OF 'laws.FnExactFeeUp'. -/
def fnExactFeeUpUptoCard : Claim7 := { stood := { row := fnExactFeeUpUptoRow, standIns := [], harness := (true, "9c4ee781e0df718d36757d17445dd11a9bd668803aa6a60ffb18cdbd30db9926"), looks := true }, kinds := [], alts := [], laidByText := true, laidKinds := [.sentinel, .sentinel, .sentinel], laidTests := true, laidLooks := .later }
def FnExactFeeUpUptoCardSaid : Prop := Claim7.holds Tryd.pinned (.plain (OpenSpec.upto fnExactFeeUpSpec)) fnExactFeeUpUptoCard

/-- THE SECOND FORM's CARD OF 'laws.FnExactNumText'. -/
def fnExactNumTextUptoCard : Claim7 := { stood := { row := fnExactNumTextUptoRow, standIns := [], harness := (true, "9c4ee781e0df718d36757d17445dd11a9bd668803aa6a60ffb18cdbd30db9926"), looks := true }, kinds := [], alts := [], laidByText := true, laidKinds := [.data, .data, .data], laidTests := true, laidLooks := .later }
def FnExactNumTextUptoCardSaid : Prop := Claim7.holds Tryd.pinned (.plain (OpenSpec.upto fnExactNumTextSpec)) fnExactNumTextUptoCard

/-- THE SECOND FORM's CARD OF 'laws.FnExactTextNum'. -/
def fnExactTextNumUptoCard : Claim7 := { stood := { row := fnExactTextNumUptoRow, standIns := [], harness := (true, "9c4ee781e0df718d36757d17445dd11a9bd668803aa6a60ffb18cdbd30db9926"), looks := true }, kinds := [], alts := [], laidByText := true, laidKinds := [.data, .data, .data, .sentinel, .sentinel, .sentinel], laidTests := true, laidLooks := .later }
def FnExactTextNumUptoCardSaid : Prop := Claim7.holds Tryd.pinned (.plain (OpenSpec.upto fnExactTextNumSpec)) fnExactTextNumUptoCard
end Rows
end Go.Proofs.YtjmhnpnjiaeamaaDoor
