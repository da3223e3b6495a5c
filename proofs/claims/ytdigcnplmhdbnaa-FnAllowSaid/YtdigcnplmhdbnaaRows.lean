/-
  No cell of these rows narrows 'for every input' (looked for: loops, veiled, ifaces, maps, wideKeys, modest, calm, conditions, laid).
  DERIVED. THE GIVEN ROWS OF THIS SEAT. 8 by the template 'for every input the law returns true; each argument reads behind the call as it read before'; 0 by the template 'total and deterministic' (their statements: YtdigcnplmhdbnaaTotals.lean).
  GIVEN WITH THE SEED: the statements are not yours to turn. If you find one false, say at which input.
  Laid BY PROGRAM, IN A SANDBOX (cutbox-rows.mjs): the forced cells as the released guide's own fill.sh prints them over the translation 5fd5c58262113616… (all of the seat's roots in one cut). By AI agents, Wed Nov 11 2026. No macro, syntax, notation, axiom, sorry.
-/
import Derived.Test.YtdigcnplmhdbnaaChecked
import GoSem.Claim
import GoSem.ClaimJoined
import GoSem.ClaimMapViews
import Derived.JoinedTies
import Derived.KernelRfl
namespace Go.Proofs.Ytdigcnplmhdbnaa
/- THE CELL 'sum', in the pinned program and in every row, IS THE sha256 OF THE DUMP (.gsa) THAT YtdigcnplmhdbnaaProg.lean LOADS. Nothing in Lean hashes anything: it is a label: what it is worth is what the hold of that sum in a sandbox is worth. -/
noncomputable def Try.pinned : Pinned := { name := "ytdigcnplmhdbnaa", sum := "5fd5c58262113616cae32a917bf3495aa5242015c1dba55a5f163bfe1fdd9b5a", checked := Try.checked }
namespace Rows
def none {H : Type} : Left H := { results := [], args := [] }

/-- 'laws.FnAllow': WHATEVER THE INPUT: true; the input reads as it did. -/
def fnAllowSpec : ChangeSpec := { name := "fnAllow", fn := fun _ => fun
  | [d] => { results := [.lit (.bool true)], args := [d] }
  | _ => none }
def fnAllowRow : OpenClaim := { program := "ytdigcnplmhdbnaa", sum := "5fd5c58262113616cae32a917bf3495aa5242015c1dba55a5f163bfe1fdd9b5a", func := "loop.example/g00400/laws.FnAllow", spec := "fnAllow", apart := false }
def FnAllowSaid : Prop := fnAllowRow.holds Try.pinned (OpenSpec.ofChange fnAllowSpec)

/-- ITS FALSE NEIGHBOUR: 'it returns false'. Refute it at one input. -/
def fnAllowWrong : ChangeSpec := { name := "fnAllow", fn := fun _ => fun
  | [d] => { results := [.lit (.bool false)], args := [d] }
  | _ => none }
def FnAllowWrongFalsely : Prop := fnAllowRow.holds Try.pinned (OpenSpec.ofChange fnAllowWrong)

/-- 'laws.FnScore': WHATEVER THE INPUT: true; the input reads as it did. -/
def fnScoreSpec : ChangeSpec := { name := "fnScore", fn := fun _ => fun
  | [d] => { results := [.lit (.bool true)], args := [d] }
  | _ => none }
def fnScoreRow : OpenClaim := { program := "ytdigcnplmhdbnaa", sum := "5fd5c58262113616cae32a917bf3495aa5242015c1dba55a5f163bfe1fdd9b5a", func := "loop.example/g00400/laws.FnScore", spec := "fnScore", unfollowed := true, recurses := true, apart := false }
def FnScoreSaid : Prop := fnScoreRow.holds Try.pinned (OpenSpec.ofChange fnScoreSpec)

/-- ITS FALSE NEIGHBOUR: 'it returns false'. Refute it at one input. -/
def fnScoreWrong : ChangeSpec := { name := "fnScore", fn := fun _ => fun
  | [d] => { results := [.lit (.bool false)], args := [d] }
  | _ => none }
def FnScoreWrongFalsely : Prop := fnScoreRow.holds Try.pinned (OpenSpec.ofChange fnScoreWrong)

/-- 'laws.FnExactScoreOk': WHATEVER THE INPUT: true; the input reads as it did. -/
def fnExactScoreOkSpec : ChangeSpec := { name := "fnExactScoreOk", fn := fun _ => fun
  | [d] => { results := [.lit (.bool true)], args := [d] }
  | _ => none }
def fnExactScoreOkRow : OpenClaim := { program := "ytdigcnplmhdbnaa", sum := "5fd5c58262113616cae32a917bf3495aa5242015c1dba55a5f163bfe1fdd9b5a", func := "loop.example/g00400/laws.FnExactScoreOk", spec := "fnExactScoreOk", apart := false }
def FnExactScoreOkSaid : Prop := fnExactScoreOkRow.holds Try.pinned (OpenSpec.ofChange fnExactScoreOkSpec)

/-- ITS FALSE NEIGHBOUR: 'it returns false'. Refute it at one input. -/
def fnExactScoreOkWrong : ChangeSpec := { name := "fnExactScoreOk", fn := fun _ => fun
  | [d] => { results := [.lit (.bool false)], args := [d] }
  | _ => none }
def FnExactScoreOkWrongFalsely : Prop := fnExactScoreOkRow.holds Try.pinned (OpenSpec.ofChange fnExactScoreOkWrong)

/-- 'laws.FnExactScoreUp': WHATEVER THE INPUT: true; the input reads as it did. -/
def fnExactScoreUpSpec : ChangeSpec := { name := "fnExactScoreUp", fn := fun _ => fun
  | [d] => { results := [.lit (.bool true)], args := [d] }
  | _ => none }
def fnExactScoreUpRow : OpenClaim := { program := "ytdigcnplmhdbnaa", sum := "5fd5c58262113616cae32a917bf3495aa5242015c1dba55a5f163bfe1fdd9b5a", func := "loop.example/g00400/laws.FnExactScoreUp", spec := "fnExactScoreUp", unfollowed := true, recurses := true, apart := false }
def FnExactScoreUpSaid : Prop := fnExactScoreUpRow.holds Try.pinned (OpenSpec.ofChange fnExactScoreUpSpec)

/-- ITS FALSE NEIGHBOUR: 'it returns false'. Refute it at one input. -/
def fnExactScoreUpWrong : ChangeSpec := { name := "fnExactScoreUp", fn := fun _ => fun
  | [d] => { results := [.lit (.bool false)], args := [d] }
  | _ => none }
def FnExactScoreUpWrongFalsely : Prop := fnExactScoreUpRow.holds Try.pinned (OpenSpec.ofChange fnExactScoreUpWrong)

/-- 'laws.FnExactScoreDown': WHATEVER THE INPUT: true; the input reads as it did. -/
def fnExactScoreDownSpec : ChangeSpec := { name := "fnExactScoreDown", fn := fun _ => fun
  | [d] => { results := [.lit (.bool true)], args := [d] }
  | _ => none }
def fnExactScoreDownRow : OpenClaim := { program := "ytdigcnplmhdbnaa", sum := "5fd5c58262113616cae32a917bf3495aa5242015c1dba55a5f163bfe1fdd9b5a", func := "loop.example/g00400/laws.FnExactScoreDown", spec := "fnExactScoreDown", unfollowed := true, recurses := true, apart := false }
def FnExactScoreDownSaid : Prop := fnExactScoreDownRow.holds Try.pinned (OpenSpec.ofChange fnExactScoreDownSpec)

/-- ITS FALSE NEIGHBOUR: 'it returns false'. Refute it at one input. -/
def fnExactScoreDownWrong : ChangeSpec := { name := "fnExactScoreDown", fn := fun _ => fun
  | [d] => { results := [.lit (.bool false)], args := [d] }
  | _ => none }
def FnExactScoreDownWrongFalsely : Prop := fnExactScoreDownRow.holds Try.pinned (OpenSpec.ofChange fnExactScoreDownWrong)

/-- 'laws.FnExactScoreFade': WHATEVER THE INPUT: true; the input reads as it did. -/
def fnExactScoreFadeSpec : ChangeSpec := { name := "fnExactScoreFade", fn := fun _ => fun
  | [d] => { results := [.lit (.bool true)], args := [d] }
  | _ => none }
def fnExactScoreFadeRow : OpenClaim := { program := "ytdigcnplmhdbnaa", sum := "5fd5c58262113616cae32a917bf3495aa5242015c1dba55a5f163bfe1fdd9b5a", func := "loop.example/g00400/laws.FnExactScoreFade", spec := "fnExactScoreFade", unfollowed := true, recurses := true, apart := false }
def FnExactScoreFadeSaid : Prop := fnExactScoreFadeRow.holds Try.pinned (OpenSpec.ofChange fnExactScoreFadeSpec)

/-- ITS FALSE NEIGHBOUR: 'it returns false'. Refute it at one input. -/
def fnExactScoreFadeWrong : ChangeSpec := { name := "fnExactScoreFade", fn := fun _ => fun
  | [d] => { results := [.lit (.bool false)], args := [d] }
  | _ => none }
def FnExactScoreFadeWrongFalsely : Prop := fnExactScoreFadeRow.holds Try.pinned (OpenSpec.ofChange fnExactScoreFadeWrong)

/-- 'laws.FnExactAllow': WHATEVER THE INPUT: true; the input reads as it did. -/
def fnExactAllowSpec : ChangeSpec := { name := "fnExactAllow", fn := fun _ => fun
  | [d1, d2, d3, d4, d5, d6, d7] => { results := [.lit (.bool true)], args := [d1, d2, d3, d4, d5, d6, d7] }
  | _ => none }
def fnExactAllowRow : OpenClaim := { program := "ytdigcnplmhdbnaa", sum := "5fd5c58262113616cae32a917bf3495aa5242015c1dba55a5f163bfe1fdd9b5a", func := "loop.example/g00400/laws.FnExactAllow", spec := "fnExactAllow", apart := false }
def FnExactAllowSaid : Prop := fnExactAllowRow.holds Try.pinned (OpenSpec.ofChange fnExactAllowSpec)

/-- ITS FALSE NEIGHBOUR: 'it returns false'. Refute it at one input. -/
def fnExactAllowWrong : ChangeSpec := { name := "fnExactAllow", fn := fun _ => fun
  | [d1, d2, d3, d4, d5, d6, d7] => { results := [.lit (.bool false)], args := [d1, d2, d3, d4, d5, d6, d7] }
  | _ => none }
def FnExactAllowWrongFalsely : Prop := fnExactAllowRow.holds Try.pinned (OpenSpec.ofChange fnExactAllowWrong)

/-- 'laws.FnExactStanding': WHATEVER THE INPUT: true; the input reads as it did. -/
def fnExactStandingSpec : ChangeSpec := { name := "fnExactStanding", fn := fun _ => fun
  | [d1, d2] => { results := [.lit (.bool true)], args := [d1, d2] }
  | _ => none }
def fnExactStandingRow : OpenClaim := { program := "ytdigcnplmhdbnaa", sum := "5fd5c58262113616cae32a917bf3495aa5242015c1dba55a5f163bfe1fdd9b5a", func := "loop.example/g00400/laws.FnExactStanding", spec := "fnExactStanding", apart := false }
def FnExactStandingSaid : Prop := fnExactStandingRow.holds Try.pinned (OpenSpec.ofChange fnExactStandingSpec)

/-- ITS FALSE NEIGHBOUR: 'it returns false'. Refute it at one input. -/
def fnExactStandingWrong : ChangeSpec := { name := "fnExactStanding", fn := fun _ => fun
  | [d1, d2] => { results := [.lit (.bool false)], args := [d1, d2] }
  | _ => none }
def FnExactStandingWrongFalsely : Prop := fnExactStandingRow.holds Try.pinned (OpenSpec.ofChange fnExactStandingWrong)

/- THE SECOND FORM. 'bulk': how many values and letters a reading holds, each counted each time it is reached (what is shared counts as often as it is met; a slice's spare places count too). A statement '..UptoSaid' is the law's where the arguments, and the package variables that the reading takes, are together of bulk at most 1048576: NARROWER than '..Said'. Prove '..Said' where nothing that the law and all that it calls make is longer than what came in: it says more and counts as full. Else prove '..UptoSaid'. A law counts once. -/
mutual
def uptoBulk {H : Type} : DataW H → Nat
  | .lit (.string bytes) => bytes.length + 1
  | .lit _ => 1
  | .nil => 1
  | .ptr d => uptoBulk d + 1
  | .slice elems spare => uptoBulkAll elems + uptoBulkAll spare + 1
  | .agg parts => uptoBulkAll parts + 1
  | .iface _ d => uptoBulk d + 1
  | .map entries => uptoBulkEntries entries + 1
  | .held _ => 1
def uptoBulkAll {H : Type} : List (DataW H) → Nat
  | [] => 0
  | d :: r => uptoBulk d + uptoBulkAll r
def uptoBulkEntries {H : Type} : List (Lit × DataW H) → Nat
  | [] => 0
  | x :: r => uptoBulkEntry x + uptoBulkEntries r
def uptoBulkEntry {H : Type} : Lit × DataW H → Nat
  | (.string bytes, d) => bytes.length + uptoBulk d + 1
  | (_, d) => uptoBulk d + 1
 end
def uptoSmall : (H : Type) → List (DataW H) → Bool := fun _ ds => decide (uptoBulkAll ds ≤ 1048576)
def OpenSpec.upto (s : _root_.Go.ChangeSpec) : _root_.Go.OpenSpec := { _root_.Go.OpenSpec.ofChange s with cond := some uptoSmall }

/-- 'laws.FnAllow', WHERE WHAT IT READS IS OF BULK AT MOST 1048576: true; the input reads as it did. -/
def fnAllowUptoRow : OpenClaim := { program := "ytdigcnplmhdbnaa", sum := "5fd5c58262113616cae32a917bf3495aa5242015c1dba55a5f163bfe1fdd9b5a", func := "loop.example/g00400/laws.FnAllow", spec := "fnAllow", apart := false, narrowed := true }
def FnAllowUptoSaid : Prop := fnAllowUptoRow.holds Try.pinned (OpenSpec.upto fnAllowSpec)

/-- 'laws.FnScore', WHERE WHAT IT READS IS OF BULK AT MOST 1048576: true; the input reads as it did. -/
def fnScoreUptoRow : OpenClaim := { program := "ytdigcnplmhdbnaa", sum := "5fd5c58262113616cae32a917bf3495aa5242015c1dba55a5f163bfe1fdd9b5a", func := "loop.example/g00400/laws.FnScore", spec := "fnScore", unfollowed := true, recurses := true, apart := false, narrowed := true }
def FnScoreUptoSaid : Prop := fnScoreUptoRow.holds Try.pinned (OpenSpec.upto fnScoreSpec)

/-- 'laws.FnExactScoreOk', WHERE WHAT IT READS IS OF BULK AT MOST 1048576: true; the input reads as it did. -/
def fnExactScoreOkUptoRow : OpenClaim := { program := "ytdigcnplmhdbnaa", sum := "5fd5c58262113616cae32a917bf3495aa5242015c1dba55a5f163bfe1fdd9b5a", func := "loop.example/g00400/laws.FnExactScoreOk", spec := "fnExactScoreOk", apart := false, narrowed := true }
def FnExactScoreOkUptoSaid : Prop := fnExactScoreOkUptoRow.holds Try.pinned (OpenSpec.upto fnExactScoreOkSpec)

/-- 'laws.FnExactScoreUp', WHERE WHAT IT READS IS OF BULK AT MOST 1048576: true; the input reads as it did. -/
def fnExactScoreUpUptoRow : OpenClaim := { program := "ytdigcnplmhdbnaa", sum := "5fd5c58262113616cae32a917bf3495aa5242015c1dba55a5f163bfe1fdd9b5a", func := "loop.example/g00400/laws.FnExactScoreUp", spec := "fnExactScoreUp", unfollowed := true, recurses := true, apart := false, narrowed := true }
def FnExactScoreUpUptoSaid : Prop := fnExactScoreUpUptoRow.holds Try.pinned (OpenSpec.upto fnExactScoreUpSpec)

/-- 'laws.FnExactScoreDown', WHERE WHAT IT READS IS OF BULK AT MOST 1048576: true; the input reads as it did. -/
def fnExactScoreDownUptoRow : OpenClaim := { program := "ytdigcnplmhdbnaa", sum := "5fd5c58262113616cae32a917bf3495aa5242015c1dba55a5f163bfe1fdd9b5a", func := "loop.example/g00400/laws.FnExactScoreDown", spec := "fnExactScoreDown", unfollowed := true, recurses := true, apart := false, narrowed := true }
def FnExactScoreDownUptoSaid : Prop := fnExactScoreDownUptoRow.holds Try.pinned (OpenSpec.upto fnExactScoreDownSpec)

/-- 'laws.FnExactScoreFade', WHERE WHAT IT READS IS OF BULK AT MOST 1048576: true; the input reads as it did. -/
def fnExactScoreFadeUptoRow : OpenClaim := { program := "ytdigcnplmhdbnaa", sum := "5fd5c58262113616cae32a917bf3495aa5242015c1dba55a5f163bfe1fdd9b5a", func := "loop.example/g00400/laws.FnExactScoreFade", spec := "fnExactScoreFade", unfollowed := true, recurses := true, apart := false, narrowed := true }
def FnExactScoreFadeUptoSaid : Prop := fnExactScoreFadeUptoRow.holds Try.pinned (OpenSpec.upto fnExactScoreFadeSpec)

/-- 'laws.FnExactAllow', WHERE WHAT IT READS IS OF BULK AT MOST 1048576: true; the input reads as it did. -/
def fnExactAllowUptoRow : OpenClaim := { program := "ytdigcnplmhdbnaa", sum := "5fd5c58262113616cae32a917bf3495aa5242015c1dba55a5f163bfe1fdd9b5a", func := "loop.example/g00400/laws.FnExactAllow", spec := "fnExactAllow", apart := false, narrowed := true }
def FnExactAllowUptoSaid : Prop := fnExactAllowUptoRow.holds Try.pinned (OpenSpec.upto fnExactAllowSpec)

/-- 'laws.FnExactStanding', WHERE WHAT IT READS IS OF BULK AT MOST 1048576: true; the input reads as it did. -/
def fnExactStandingUptoRow : OpenClaim := { program := "ytdigcnplmhdbnaa", sum := "5fd5c58262113616cae32a917bf3495aa5242015c1dba55a5f163bfe1fdd9b5a", func := "loop.example/g00400/laws.FnExactStanding", spec := "fnExactStanding", apart := false, narrowed := true }
def FnExactStandingUptoSaid : Prop := fnExactStandingUptoRow.holds Try.pinned (OpenSpec.upto fnExactStandingSpec)

end Rows
end Go.Proofs.Ytdigcnplmhdbnaa
