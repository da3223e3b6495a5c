/-
  NARROWER THAN 'FOR EVERY INPUT', by the rows' own cells (each row's printed sentence says how): FnLog: ifaces, laid · FnOpen: ifaces, laid · FnExactLogOpen: ifaces, laid.
  DERIVED. THE GIVEN ROWS OF THIS SEAT. 3 by the template 'for every input the law returns true; each argument reads behind the call as it read before'; 0 by the template 'total and deterministic' (their statements: YtkdnddckogbgaaaGreatDoorTotals.lean).
  GIVEN WITH THE SEED: the statements are not yours to turn. If you find one false, say at which input.
  Laid BY PROGRAM, IN A SANDBOX (cutbox-rows.mjs): the forced cells as the released guide's own fill.sh prints them over the translation 0ffc5e458ebd2b13… (all of the seat's roots in one cut). By AI agents, Wed Nov 11 2026. No macro, syntax, notation, axiom, sorry.
-/
import Derived.Test.YtkdnddckogbgaaaGreatDoorChecked
import GoSem.Claim
import GoSem.ClaimJoined
import GoSem.ClaimMapViews
import Derived.JoinedTies
import Derived.KernelRfl
namespace Go.Proofs.YtkdnddckogbgaaaGreatDoor
/- THE CELL 'sum', in the pinned program and in every row, IS THE sha256 OF THE DUMP (.gsa) THAT YtkdnddckogbgaaaGreatDoorProg.lean LOADS. Nothing in Lean hashes anything: it is a label: what it is worth is what the hold of that sum in a sandbox is worth. -/
noncomputable def Tryz.pinned : Pinned := { name := "ytkdnddckogbgaaagreatdoor", sum := "0ffc5e458ebd2b13a05941414d62511c5b33f5f1b5b4cee33c16e853286dddc8", checked := Tryz.checked }
namespace Rows
def none {H : Type} : Left H := { results := [], args := [] }

/- WHAT THE LISTED PACKAGE-LEVEL VARIABLES READ AS WHEN THE CALL BEGINS. Each datum BY PROGRAM (the guide's laid-datum.mjs) off the statement by which the dump's own 'gosem.cut.vars' lays the variable. In a bare row this is a premise. The card (YtkdnddckogbgaaaGreatDoorCards.lean) ties it to the program's text. -/
def laid_loop_example_g00400_impl_errGaveUp {H : Type} : DataW H := .iface "*errors.errorString" (.ptr (.agg [.lit (.string [110, 111, 116, 32, 119, 104, 97, 116, 32, 119, 97, 115, 32, 116, 111, 32, 98, 101, 32, 114, 101, 97, 100])]))

/-- 'laws.FnLog': WHATEVER THE INPUT: true; the input reads as it did. -/
def fnLogSpec : ChangeSpec := { name := "fnLog", vars := ["loop.example/g00400/impl.errGaveUp"], fn := fun _ => fun
  | [d, g1] => { results := [.lit (.bool true)], args := [d], vars := [g1] }
  | _ => none }
def fnLogRow : OpenClaim := { program := "ytkdnddckogbgaaagreatdoor", sum := "0ffc5e458ebd2b13a05941414d62511c5b33f5f1b5b4cee33c16e853286dddc8", func := "loop.example/g00400/laws.FnLog", spec := "fnLog", unfollowed := true, recurses := true, named := ["loop.example/g00400/impl.errGaveUp"], ifaces := true, apart := false, laid := [("loop.example/g00400/impl.errGaveUp", laid_loop_example_g00400_impl_errGaveUp)] }
def FnLogSaid : Prop := fnLogRow.holds Tryz.pinned (OpenSpec.ofChange fnLogSpec)

/-- ITS FALSE NEIGHBOUR: 'it returns false'. Refute it at one input. -/
def fnLogWrong : ChangeSpec := { name := "fnLog", vars := ["loop.example/g00400/impl.errGaveUp"], fn := fun _ => fun
  | [d, g1] => { results := [.lit (.bool false)], args := [d], vars := [g1] }
  | _ => none }
def FnLogWrongFalsely : Prop := fnLogRow.holds Tryz.pinned (OpenSpec.ofChange fnLogWrong)

/-- 'laws.FnOpen': WHATEVER THE INPUT: true; the input reads as it did. -/
def fnOpenSpec : ChangeSpec := { name := "fnOpen", vars := ["loop.example/g00400/impl.errGaveUp"], fn := fun _ => fun
  | [d, g1] => { results := [.lit (.bool true)], args := [d], vars := [g1] }
  | _ => none }
def fnOpenRow : OpenClaim := { program := "ytkdnddckogbgaaagreatdoor", sum := "0ffc5e458ebd2b13a05941414d62511c5b33f5f1b5b4cee33c16e853286dddc8", func := "loop.example/g00400/laws.FnOpen", spec := "fnOpen", unfollowed := true, recurses := true, named := ["loop.example/g00400/impl.errGaveUp"], ifaces := true, apart := false, laid := [("loop.example/g00400/impl.errGaveUp", laid_loop_example_g00400_impl_errGaveUp)] }
def FnOpenSaid : Prop := fnOpenRow.holds Tryz.pinned (OpenSpec.ofChange fnOpenSpec)

/-- ITS FALSE NEIGHBOUR: 'it returns false'. Refute it at one input. -/
def fnOpenWrong : ChangeSpec := { name := "fnOpen", vars := ["loop.example/g00400/impl.errGaveUp"], fn := fun _ => fun
  | [d, g1] => { results := [.lit (.bool false)], args := [d], vars := [g1] }
  | _ => none }
def FnOpenWrongFalsely : Prop := fnOpenRow.holds Tryz.pinned (OpenSpec.ofChange fnOpenWrong)

/-- 'laws.FnExactLogOpen': WHATEVER THE INPUT: true; the input reads as it did. -/
def fnExactLogOpenSpec : ChangeSpec := { name := "fnExactLogOpen", vars := ["loop.example/g00400/impl.errGaveUp"], fn := fun _ => fun
  | [d, g1] => { results := [.lit (.bool true)], args := [d], vars := [g1] }
  | _ => none }
def fnExactLogOpenRow : OpenClaim := { program := "ytkdnddckogbgaaagreatdoor", sum := "0ffc5e458ebd2b13a05941414d62511c5b33f5f1b5b4cee33c16e853286dddc8", func := "loop.example/g00400/laws.FnExactLogOpen", spec := "fnExactLogOpen", unfollowed := true, recurses := true, named := ["loop.example/g00400/impl.errGaveUp"], ifaces := true, apart := false, laid := [("loop.example/g00400/impl.errGaveUp", laid_loop_example_g00400_impl_errGaveUp)] }
def FnExactLogOpenSaid : Prop := fnExactLogOpenRow.holds Tryz.pinned (OpenSpec.ofChange fnExactLogOpenSpec)

/-- ITS FALSE NEIGHBOUR: 'it returns false'. Refute it at one input. -/
def fnExactLogOpenWrong : ChangeSpec := { name := "fnExactLogOpen", vars := ["loop.example/g00400/impl.errGaveUp"], fn := fun _ => fun
  | [d, g1] => { results := [.lit (.bool false)], args := [d], vars := [g1] }
  | _ => none }
def FnExactLogOpenWrongFalsely : Prop := fnExactLogOpenRow.holds Tryz.pinned (OpenSpec.ofChange fnExactLogOpenWrong)

/- THE SECOND FORM. 'bulk': how many values and letters a reading holds, each counted each time it is reached (what is shared counts as often as it is met; a slice's spare places count too). A statement '..UptoSaid' is the law's where the arguments, and the package variables that the reading takes, are together of bulk at most 1048576: NARROWER than '..Said'. Prove '..Said' where nothing that the law and all that it calls make is longer than what came in: it says more and counts as full. Else prove '..UptoSaid'. A law counts once. -/
mutual
def uptoBulk {H : Type} : DataW H → Nat
  | .lit (.string bytes) => bytes.length + 1
  | .lit _ => 1
  | .nil => 1
  | .ptr d => uptoBulk d + 1
  | .slice elems spare => uptoBulkAll elems + uptoBulkAll spare + 1
  | .agg parts => uptoBulkAll parts + 1
  | .iface _ d => uptoBulk d + 1
  | .map entries => uptoBulkEntries entries + 1
  | .held _ => 1
def uptoBulkAll {H : Type} : List (DataW H) → Nat
  | [] => 0
  | d :: r => uptoBulk d + uptoBulkAll r
def uptoBulkEntries {H : Type} : List (Lit × DataW H) → Nat
  | [] => 0
  | x :: r => uptoBulkEntry x + uptoBulkEntries r
def uptoBulkEntry {H : Type} : Lit × DataW H → Nat
  | (.string bytes, d) => bytes.length + uptoBulk d + 1
  | (_, d) => uptoBulk d + 1
 end
def uptoSmall : (H : Type) → List (DataW H) → Bool := fun _ ds => decide (uptoBulkAll ds ≤ 1048576)
def OpenSpec.upto (s : _root_.Go.ChangeSpec) : _root_.Go.OpenSpec := { _root_.Go.OpenSpec.ofChange s with cond := some uptoSmall }

/-- 'laws.FnLog', WHERE WHAT IT READS IS OF BULK AT MOST 1048576: true; the input reads as it did. -/
def fnLogUptoRow : OpenClaim := { program := "ytkdnddckogbgaaagreatdoor", sum := "0ffc5e458ebd2b13a05941414d62511c5b33f5f1b5b4cee33c16e853286dddc8", func := "loop.example/g00400/laws.FnLog", spec := "fnLog", unfollowed := true, recurses := true, named := ["loop.example/g00400/impl.errGaveUp"], ifaces := true, apart := false, laid := [("loop.example/g00400/impl.errGaveUp", laid_loop_example_g00400_impl_errGaveUp)], narrowed := true }
def FnLogUptoSaid : Prop := fnLogUptoRow.holds Tryz.pinned (OpenSpec.upto fnLogSpec)

/-- 'laws.FnOpen', WHERE WHAT IT READS IS OF BULK AT MOST 1048576: true; the input reads as it did. -/
def fnOpenUptoRow : OpenClaim := { program := "ytkdnddckogbgaaagreatdoor", sum := "0ffc5e458ebd2b13a05941414d62511c5b33f5f1b5b4cee33c16e853286dddc8", func := "loop.example/g00400/laws.FnOpen", spec := "fnOpen", unfollowed := true, recurses := true, named := ["loop.example/g00400/impl.errGaveUp"], ifaces := true, apart := false, laid := [("loop.example/g00400/impl.errGaveUp", laid_loop_example_g00400_impl_errGaveUp)], narrowed := true }
def FnOpenUptoSaid : Prop := fnOpenUptoRow.holds Tryz.pinned (OpenSpec.upto fnOpenSpec)

/-- 'laws.FnExactLogOpen', WHERE WHAT IT READS IS OF BULK AT MOST 1048576: true; the input reads as it did. -/
def fnExactLogOpenUptoRow : OpenClaim := { program := "ytkdnddckogbgaaagreatdoor", sum := "0ffc5e458ebd2b13a05941414d62511c5b33f5f1b5b4cee33c16e853286dddc8", func := "loop.example/g00400/laws.FnExactLogOpen", spec := "fnExactLogOpen", unfollowed := true, recurses := true, named := ["loop.example/g00400/impl.errGaveUp"], ifaces := true, apart := false, laid := [("loop.example/g00400/impl.errGaveUp", laid_loop_example_g00400_impl_errGaveUp)], narrowed := true }
def FnExactLogOpenUptoSaid : Prop := fnExactLogOpenUptoRow.holds Tryz.pinned (OpenSpec.upto fnExactLogOpenSpec)

end Rows
end Go.Proofs.YtkdnddckogbgaaaGreatDoor
