/-
  NARROWER THAN 'FOR EVERY INPUT', by the rows' own cells (each row's printed sentence says how): FnTurns: ifaces, laid · FnExactTurns: ifaces, laid.
  DERIVED. THE GIVEN ROWS OF THIS SEAT. 2 by the template 'for every input the law returns true; each argument reads behind the call as it read before'; 0 by the template 'total and deterministic' (their statements: YteoloapjhlpnjaaGreatDoorTotals.lean).
  GIVEN WITH THE SEED: the statements are not yours to turn. If you find one false, say at which input.
  Laid BY PROGRAM, IN A SANDBOX (cutbox-rows.mjs): the forced cells as the released guide's own fill.sh prints them over the translation 1ee5b25fe441dd57… (all of the seat's roots in one cut). By AI agents, Wed Nov 11 2026. No macro, syntax, notation, axiom, sorry.
-/
import Derived.Test.YteoloapjhlpnjaaGreatDoorChecked
import GoSem.Claim
import GoSem.ClaimJoined
import GoSem.ClaimMapViews
import Derived.JoinedTies
import Derived.KernelRfl
namespace Go.Proofs.YteoloapjhlpnjaaGreatDoor
/- THE CELL 'sum', in the pinned program and in every row, IS THE sha256 OF THE DUMP (.gsa) THAT YteoloapjhlpnjaaGreatDoorProg.lean LOADS. Nothing in Lean hashes anything: it is a label: what it is worth is what the hold of that sum in a sandbox is worth. -/
noncomputable def Tryz.pinned : Pinned := { name := "yteoloapjhlpnjaagreatdoor", sum := "1ee5b25fe441dd5790563b852a246a43ddb91d9a8ae812b57ab1fd6b638037fe", checked := Tryz.checked }
namespace Rows
def none {H : Type} : Left H := { results := [], args := [] }

/- WHAT THE LISTED PACKAGE-LEVEL VARIABLES READ AS WHEN THE CALL BEGINS. Each datum BY PROGRAM (the guide's laid-datum.mjs) off the statement by which the dump's own 'gosem.cut.vars' lays the variable. In a bare row this is a premise. The card (YteoloapjhlpnjaaGreatDoorCards.lean) ties it to the program's text. -/
def laid_loop_example_g00400_impl_errNoAmount {H : Type} : DataW H := .iface "*errors.errorString" (.ptr (.agg [.lit (.string [110, 111, 32, 97, 109, 111, 117, 110, 116])]))
def laid_loop_example_g00400_impl_errNoDivisor {H : Type} : DataW H := .iface "*errors.errorString" (.ptr (.agg [.lit (.string [110, 111, 32, 100, 105, 118, 105, 115, 111, 114])]))
def laid_loop_example_g00400_impl_errNoRate {H : Type} : DataW H := .iface "*errors.errorString" (.ptr (.agg [.lit (.string [110, 111, 32, 112, 97, 114, 116, 115, 32, 111, 102, 32, 97, 32, 109, 105, 108, 108, 105, 111, 110])]))

/-- 'laws.FnTurns': WHATEVER THE INPUT: true; the input reads as it did. -/
def fnTurnsSpec : ChangeSpec := { name := "fnTurns", vars := ["loop.example/g00400/impl.errNoAmount", "loop.example/g00400/impl.errNoDivisor", "loop.example/g00400/impl.errNoRate"], fn := fun _ => fun
  | [d, g1, g2, g3] => { results := [.lit (.bool true)], args := [d], vars := [g1, g2, g3] }
  | _ => none }
def fnTurnsRow : OpenClaim := { program := "yteoloapjhlpnjaagreatdoor", sum := "1ee5b25fe441dd5790563b852a246a43ddb91d9a8ae812b57ab1fd6b638037fe", func := "loop.example/g00400/laws.FnTurns", spec := "fnTurns", unfollowed := true, recurses := true, named := ["loop.example/g00400/impl.errNoAmount", "loop.example/g00400/impl.errNoDivisor", "math/bits.divideError", "math/bits.overflowError", "loop.example/g00400/impl.errNoRate"], ifaces := true, apart := false, laid := [("loop.example/g00400/impl.errNoAmount", laid_loop_example_g00400_impl_errNoAmount), ("loop.example/g00400/impl.errNoDivisor", laid_loop_example_g00400_impl_errNoDivisor), ("loop.example/g00400/impl.errNoRate", laid_loop_example_g00400_impl_errNoRate)] }
def FnTurnsSaid : Prop := fnTurnsRow.holds Tryz.pinned (OpenSpec.ofChange fnTurnsSpec)

/-- ITS FALSE NEIGHBOUR: 'it returns false'. Refute it at one input. -/
def fnTurnsWrong : ChangeSpec := { name := "fnTurns", vars := ["loop.example/g00400/impl.errNoAmount", "loop.example/g00400/impl.errNoDivisor", "loop.example/g00400/impl.errNoRate"], fn := fun _ => fun
  | [d, g1, g2, g3] => { results := [.lit (.bool false)], args := [d], vars := [g1, g2, g3] }
  | _ => none }
def FnTurnsWrongFalsely : Prop := fnTurnsRow.holds Tryz.pinned (OpenSpec.ofChange fnTurnsWrong)

/-- 'laws.FnExactTurns': WHATEVER THE INPUT: true; the input reads as it did. -/
def fnExactTurnsSpec : ChangeSpec := { name := "fnExactTurns", vars := ["loop.example/g00400/impl.errNoAmount", "loop.example/g00400/impl.errNoDivisor"], fn := fun _ => fun
  | [d1, d2, g1, g2] => { results := [.lit (.bool true)], args := [d1, d2], vars := [g1, g2] }
  | _ => none }
def fnExactTurnsRow : OpenClaim := { program := "yteoloapjhlpnjaagreatdoor", sum := "1ee5b25fe441dd5790563b852a246a43ddb91d9a8ae812b57ab1fd6b638037fe", func := "loop.example/g00400/laws.FnExactTurns", spec := "fnExactTurns", recurses := true, named := ["loop.example/g00400/impl.errNoAmount", "loop.example/g00400/impl.errNoDivisor", "math/bits.divideError", "math/bits.overflowError"], ifaces := true, apart := false, laid := [("loop.example/g00400/impl.errNoAmount", laid_loop_example_g00400_impl_errNoAmount), ("loop.example/g00400/impl.errNoDivisor", laid_loop_example_g00400_impl_errNoDivisor)] }
def FnExactTurnsSaid : Prop := fnExactTurnsRow.holds Tryz.pinned (OpenSpec.ofChange fnExactTurnsSpec)

/-- ITS FALSE NEIGHBOUR: 'it returns false'. Refute it at one input. -/
def fnExactTurnsWrong : ChangeSpec := { name := "fnExactTurns", vars := ["loop.example/g00400/impl.errNoAmount", "loop.example/g00400/impl.errNoDivisor"], fn := fun _ => fun
  | [d1, d2, g1, g2] => { results := [.lit (.bool false)], args := [d1, d2], vars := [g1, g2] }
  | _ => none }
def FnExactTurnsWrongFalsely : Prop := fnExactTurnsRow.holds Tryz.pinned (OpenSpec.ofChange fnExactTurnsWrong)

/- THE SECOND FORM. 'bulk': how many values and letters a reading holds, each counted each time it is reached (what is shared counts as often as it is met; a slice's spare places count too). A statement '..UptoSaid' is the law's where the arguments, and the package variables that the reading takes, are together of bulk at most 1048576: NARROWER than '..Said'. Prove '..Said' where nothing that the law and all that it calls make is longer than what came in: it says more and counts as full. Else prove '..UptoSaid'. A law counts once. -/
mutual
def uptoBulk {H : Type} : DataW H → Nat
  | .lit (.string bytes) => bytes.length + 1
  | .lit _ => 1
  | .nil => 1
  | .ptr d => uptoBulk d + 1
  | .slice elems spare => uptoBulkAll elems + uptoBulkAll spare + 1
  | .agg parts => uptoBulkAll parts + 1
  | .iface _ d => uptoBulk d + 1
  | .map entries => uptoBulkEntries entries + 1
  | .held _ => 1
def uptoBulkAll {H : Type} : List (DataW H) → Nat
  | [] => 0
  | d :: r => uptoBulk d + uptoBulkAll r
def uptoBulkEntries {H : Type} : List (Lit × DataW H) → Nat
  | [] => 0
  | x :: r => uptoBulkEntry x + uptoBulkEntries r
def uptoBulkEntry {H : Type} : Lit × DataW H → Nat
  | (.string bytes, d) => bytes.length + uptoBulk d + 1
  | (_, d) => uptoBulk d + 1
 end
def uptoSmall : (H : Type) → List (DataW H) → Bool := fun _ ds => decide (uptoBulkAll ds ≤ 1048576)
def OpenSpec.upto (s : _root_.Go.ChangeSpec) : _root_.Go.OpenSpec := { _root_.Go.OpenSpec.ofChange s with cond := some uptoSmall }

/-- 'laws.FnTurns', WHERE WHAT IT READS IS OF BULK AT MOST 1048576: true; the input reads as it did. -/
def fnTurnsUptoRow : OpenClaim := { program := "yteoloapjhlpnjaagreatdoor", sum := "1ee5b25fe441dd5790563b852a246a43ddb91d9a8ae812b57ab1fd6b638037fe", func := "loop.example/g00400/laws.FnTurns", spec := "fnTurns", unfollowed := true, recurses := true, named := ["loop.example/g00400/impl.errNoAmount", "loop.example/g00400/impl.errNoDivisor", "math/bits.divideError", "math/bits.overflowError", "loop.example/g00400/impl.errNoRate"], ifaces := true, apart := false, laid := [("loop.example/g00400/impl.errNoAmount", laid_loop_example_g00400_impl_errNoAmount), ("loop.example/g00400/impl.errNoDivisor", laid_loop_example_g00400_impl_errNoDivisor), ("loop.example/g00400/impl.errNoRate", laid_loop_example_g00400_impl_errNoRate)], narrowed := true }
def FnTurnsUptoSaid : Prop := fnTurnsUptoRow.holds Tryz.pinned (OpenSpec.upto fnTurnsSpec)

/-- 'laws.FnExactTurns', WHERE WHAT IT READS IS OF BULK AT MOST 1048576: true; the input reads as it did. -/
def fnExactTurnsUptoRow : OpenClaim := { program := "yteoloapjhlpnjaagreatdoor", sum := "1ee5b25fe441dd5790563b852a246a43ddb91d9a8ae812b57ab1fd6b638037fe", func := "loop.example/g00400/laws.FnExactTurns", spec := "fnExactTurns", recurses := true, named := ["loop.example/g00400/impl.errNoAmount", "loop.example/g00400/impl.errNoDivisor", "math/bits.divideError", "math/bits.overflowError"], ifaces := true, apart := false, laid := [("loop.example/g00400/impl.errNoAmount", laid_loop_example_g00400_impl_errNoAmount), ("loop.example/g00400/impl.errNoDivisor", laid_loop_example_g00400_impl_errNoDivisor)], narrowed := true }
def FnExactTurnsUptoSaid : Prop := fnExactTurnsUptoRow.holds Tryz.pinned (OpenSpec.upto fnExactTurnsSpec)

end Rows
end Go.Proofs.YteoloapjhlpnjaaGreatDoor
