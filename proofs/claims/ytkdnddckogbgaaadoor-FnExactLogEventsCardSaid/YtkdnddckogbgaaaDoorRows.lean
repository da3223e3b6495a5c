/-
  NARROWER THAN 'FOR EVERY INPUT', by the rows' own cells (each row's printed sentence says how): FnExactLogRead: ifaces, laid · FnExactLogTop: ifaces, laid · FnExactLogEvents: ifaces, laid.
  DERIVED. THE GIVEN ROWS OF THIS SEAT. 3 by the template 'for every input the law returns true; each argument reads behind the call as it read before'; 0 by the template 'total and deterministic' (their statements: YtkdnddckogbgaaaDoorTotals.lean).
  GIVEN WITH THE SEED: the statements are not yours to turn. If you find one false, say at which input.
  Laid BY PROGRAM, IN A SANDBOX (cutbox-rows.mjs): the forced cells as the released guide's own fill.sh prints them over the translation b14461a9e8eff9a6… (all of the seat's roots in one cut). By AI agents, Wed Nov 11 2026. No macro, syntax, notation, axiom, sorry.
-/
import Derived.Test.YtkdnddckogbgaaaDoorChecked
import GoSem.Claim
import GoSem.ClaimJoined
import GoSem.ClaimMapViews
import Derived.JoinedTies
import Derived.KernelRfl
namespace Go.Proofs.YtkdnddckogbgaaaDoor
/- THE CELL 'sum', in the pinned program and in every row, IS THE sha256 OF THE DUMP (.gsa) THAT YtkdnddckogbgaaaDoorProg.lean LOADS. Nothing in Lean hashes anything: it is a label: what it is worth is what the hold of that sum in a sandbox is worth. -/
noncomputable def Tryd.pinned : Pinned := { name := "ytkdnddckogbgaaadoor", sum := "b14461a9e8eff9a609d5ad6078c75aac621a12f6d1184882f781ef4e92bfee29", checked := Tryd.checked }
namespace Rows
def none {H : Type} : Left H := { results := [], args := [] }

/- WHAT THE LISTED PACKAGE-LEVEL VARIABLES READ AS WHEN THE CALL BEGINS. Each datum BY PROGRAM (the guide's laid-datum.mjs) off the statement by which the dump's own 'gosem.cut.vars' lays the variable. In a bare row this is a premise. The card (YtkdnddckogbgaaaDoorCards.lean) ties it to the program's text. -/
def laid_loop_example_g00400_impl_errGaveUp {H : Type} : DataW H := .iface "*errors.errorString" (.ptr (.agg [.lit (.string [110, 111, 116, 32, 119, 104, 97, 116, 32, 119, 97, 115, 32, 116, 111, 32, 98, 101, 32, 114, 101, 97, 100])]))

/-- 'laws.FnExactLogRead': WHATEVER THE INPUT: true; the input reads as it did. -/
def fnExactLogReadSpec : ChangeSpec := { name := "fnExactLogRead", vars := ["loop.example/g00400/impl.errGaveUp"], fn := fun _ => fun
  | [d, g1] => { results := [.lit (.bool true)], args := [d], vars := [g1] }
  | _ => none }
def fnExactLogReadRow : OpenClaim := { program := "ytkdnddckogbgaaadoor", sum := "b14461a9e8eff9a609d5ad6078c75aac621a12f6d1184882f781ef4e92bfee29", func := "loop.example/g00400/laws.FnExactLogRead", spec := "fnExactLogRead", unfollowed := true, recurses := true, named := ["loop.example/g00400/impl.errGaveUp"], ifaces := true, apart := false, laid := [("loop.example/g00400/impl.errGaveUp", laid_loop_example_g00400_impl_errGaveUp)] }
def FnExactLogReadSaid : Prop := fnExactLogReadRow.holds Tryd.pinned (OpenSpec.ofChange fnExactLogReadSpec)

/-- ITS FALSE NEIGHBOUR: 'it returns false'. Refute it at one input. -/
def fnExactLogReadWrong : ChangeSpec := { name := "fnExactLogRead", vars := ["loop.example/g00400/impl.errGaveUp"], fn := fun _ => fun
  | [d, g1] => { results := [.lit (.bool false)], args := [d], vars := [g1] }
  | _ => none }
def FnExactLogReadWrongFalsely : Prop := fnExactLogReadRow.holds Tryd.pinned (OpenSpec.ofChange fnExactLogReadWrong)

/-- 'laws.FnExactLogTop': WHATEVER THE INPUT: true; the input reads as it did. -/
def fnExactLogTopSpec : ChangeSpec := { name := "fnExactLogTop", vars := ["loop.example/g00400/impl.errGaveUp"], fn := fun _ => fun
  | [d, g1] => { results := [.lit (.bool true)], args := [d], vars := [g1] }
  | _ => none }
def fnExactLogTopRow : OpenClaim := { program := "ytkdnddckogbgaaadoor", sum := "b14461a9e8eff9a609d5ad6078c75aac621a12f6d1184882f781ef4e92bfee29", func := "loop.example/g00400/laws.FnExactLogTop", spec := "fnExactLogTop", unfollowed := true, recurses := true, named := ["loop.example/g00400/impl.errGaveUp"], ifaces := true, apart := false, laid := [("loop.example/g00400/impl.errGaveUp", laid_loop_example_g00400_impl_errGaveUp)] }
def FnExactLogTopSaid : Prop := fnExactLogTopRow.holds Tryd.pinned (OpenSpec.ofChange fnExactLogTopSpec)

/-- ITS FALSE NEIGHBOUR: 'it returns false'. Refute it at one input. -/
def fnExactLogTopWrong : ChangeSpec := { name := "fnExactLogTop", vars := ["loop.example/g00400/impl.errGaveUp"], fn := fun _ => fun
  | [d, g1] => { results := [.lit (.bool false)], args := [d], vars := [g1] }
  | _ => none }
def FnExactLogTopWrongFalsely : Prop := fnExactLogTopRow.holds Tryd.pinned (OpenSpec.ofChange fnExactLogTopWrong)

/-- 'laws.FnExactLogEvents': WHATEVER THE INPUT: true; the input reads as it did. -/
def fnExactLogEventsSpec : ChangeSpec := { name := "fnExactLogEvents", vars := ["loop.example/g00400/impl.errGaveUp"], fn := fun _ => fun
  | [d, g1] => { results := [.lit (.bool true)], args := [d], vars := [g1] }
  | _ => none }
def fnExactLogEventsRow : OpenClaim := { program := "ytkdnddckogbgaaadoor", sum := "b14461a9e8eff9a609d5ad6078c75aac621a12f6d1184882f781ef4e92bfee29", func := "loop.example/g00400/laws.FnExactLogEvents", spec := "fnExactLogEvents", unfollowed := true, recurses := true, named := ["loop.example/g00400/impl.errGaveUp"], ifaces := true, apart := false, laid := [("loop.example/g00400/impl.errGaveUp", laid_loop_example_g00400_impl_errGaveUp)] }
def FnExactLogEventsSaid : Prop := fnExactLogEventsRow.holds Tryd.pinned (OpenSpec.ofChange fnExactLogEventsSpec)

/-- ITS FALSE NEIGHBOUR: 'it returns false'. Refute it at one input. -/
def fnExactLogEventsWrong : ChangeSpec := { name := "fnExactLogEvents", vars := ["loop.example/g00400/impl.errGaveUp"], fn := fun _ => fun
  | [d, g1] => { results := [.lit (.bool false)], args := [d], vars := [g1] }
  | _ => none }
def FnExactLogEventsWrongFalsely : Prop := fnExactLogEventsRow.holds Tryd.pinned (OpenSpec.ofChange fnExactLogEventsWrong)

/- THE SECOND FORM. 'bulk': how many values and letters a reading holds, each counted each time it is reached (what is shared counts as often as it is met; a slice's spare places count too). A statement '..UptoSaid' is the law's where the arguments, and the package variables that the reading takes, are together of bulk at most 1048576: NARROWER than '..Said'. Prove '..Said' where nothing that the law and all that it calls make is longer than what came in: it says more and counts as full. Else prove '..UptoSaid'. A law counts once. -/
mutual
def uptoBulk {H : Type} : DataW H → Nat
  | .lit (.string bytes) => bytes.length + 1
  | .lit _ => 1
  | .nil => 1
  | .ptr d => uptoBulk d + 1
  | .slice elems spare => uptoBulkAll elems + uptoBulkAll spare + 1
  | .agg parts => uptoBulkAll parts + 1
  | .iface _ d => uptoBulk d + 1
  | .map entries => uptoBulkEntries entries + 1
  | .held _ => 1
def uptoBulkAll {H : Type} : List (DataW H) → Nat
  | [] => 0
  | d :: r => uptoBulk d + uptoBulkAll r
def uptoBulkEntries {H : Type} : List (Lit × DataW H) → Nat
  | [] => 0
  | x :: r => uptoBulkEntry x + uptoBulkEntries r
def uptoBulkEntry {H : Type} : Lit × DataW H → Nat
  | (.string bytes, d) => bytes.length + uptoBulk d + 1
  | (_, d) => uptoBulk d + 1
 end
def uptoSmall : (H : Type) → List (DataW H) → Bool := fun _ ds => decide (uptoBulkAll ds ≤ 1048576)
def OpenSpec.upto (s : _root_.Go.ChangeSpec) : _root_.Go.OpenSpec := { _root_.Go.OpenSpec.ofChange s with cond := some uptoSmall }

/-- 'laws.FnExactLogRead', WHERE WHAT IT READS IS OF BULK AT MOST 1048576: true; the input reads as it did. -/
def fnExactLogReadUptoRow : OpenClaim := { program := "ytkdnddckogbgaaadoor", sum := "b14461a9e8eff9a609d5ad6078c75aac621a12f6d1184882f781ef4e92bfee29", func := "loop.example/g00400/laws.FnExactLogRead", spec := "fnExactLogRead", unfollowed := true, recurses := true, named := ["loop.example/g00400/impl.errGaveUp"], ifaces := true, apart := false, laid := [("loop.example/g00400/impl.errGaveUp", laid_loop_example_g00400_impl_errGaveUp)], narrowed := true }
def FnExactLogReadUptoSaid : Prop := fnExactLogReadUptoRow.holds Tryd.pinned (OpenSpec.upto fnExactLogReadSpec)

/-- 'laws.FnExactLogTop', WHERE WHAT IT READS IS OF BULK AT MOST 1048576: true; the input reads as it did. -/
def fnExactLogTopUptoRow : OpenClaim := { program := "ytkdnddckogbgaaadoor", sum := "b14461a9e8eff9a609d5ad6078c75aac621a12f6d1184882f781ef4e92bfee29", func := "loop.example/g00400/laws.FnExactLogTop", spec := "fnExactLogTop", unfollowed := true, recurses := true, named := ["loop.example/g00400/impl.errGaveUp"], ifaces := true, apart := false, laid := [("loop.example/g00400/impl.errGaveUp", laid_loop_example_g00400_impl_errGaveUp)], narrowed := true }
def FnExactLogTopUptoSaid : Prop := fnExactLogTopUptoRow.holds Tryd.pinned (OpenSpec.upto fnExactLogTopSpec)

/-- 'laws.FnExactLogEvents', WHERE WHAT IT READS IS OF BULK AT MOST 1048576: true; the input reads as it did. -/
def fnExactLogEventsUptoRow : OpenClaim := { program := "ytkdnddckogbgaaadoor", sum := "b14461a9e8eff9a609d5ad6078c75aac621a12f6d1184882f781ef4e92bfee29", func := "loop.example/g00400/laws.FnExactLogEvents", spec := "fnExactLogEvents", unfollowed := true, recurses := true, named := ["loop.example/g00400/impl.errGaveUp"], ifaces := true, apart := false, laid := [("loop.example/g00400/impl.errGaveUp", laid_loop_example_g00400_impl_errGaveUp)], narrowed := true }
def FnExactLogEventsUptoSaid : Prop := fnExactLogEventsUptoRow.holds Tryd.pinned (OpenSpec.upto fnExactLogEventsSpec)

end Rows
end Go.Proofs.YtkdnddckogbgaaaDoor
