/-
  NARROWER THAN 'FOR EVERY INPUT', by the rows' own cells (each row's printed sentence says how): FnExactApply: ifaces, laid · FnExactApplyAll: ifaces, laid.
  DERIVED. THE GIVEN ROWS OF THIS SEAT. 2 by the template 'for every input the law returns true; each argument reads behind the call as it read before'; 0 by the template 'total and deterministic' (their statements: YtccdhcempnkgaaaGreatDoorTotals.lean).
  GIVEN WITH THE SEED: the statements are not yours to turn. If you find one false, say at which input.
  Laid BY PROGRAM, IN A SANDBOX (cutbox-rows.mjs): the forced cells as the released guide's own fill.sh prints them over the translation a6dd994294f22353… (all of the seat's roots in one cut). By AI agents, Wed Nov 11 2026. No macro, syntax, notation, axiom, sorry.
-/
import Derived.Test.YtccdhcempnkgaaaGreatDoorChecked
import GoSem.Claim
import GoSem.ClaimJoined
import GoSem.ClaimMapViews
import Derived.JoinedTies
import Derived.KernelRfl
namespace Go.Proofs.YtccdhcempnkgaaaGreatDoor
/- THE CELL 'sum', in the pinned program and in every row, IS THE sha256 OF THE DUMP (.gsa) THAT YtccdhcempnkgaaaGreatDoorProg.lean LOADS. Nothing in Lean hashes anything: it is a label: what it is worth is what the hold of that sum in a sandbox is worth. -/
noncomputable def Tryz.pinned : Pinned := { name := "ytccdhcempnkgaaagreatdoor", sum := "a6dd994294f2235337297ab6ec1b8c8fa39de2d46a6e86eb6dfdd42eb599cef1", checked := Tryz.checked }
namespace Rows
def none {H : Type} : Left H := { results := [], args := [] }

/- WHAT THE LISTED PACKAGE-LEVEL VARIABLES READ AS WHEN THE CALL BEGINS. Each datum BY PROGRAM (the guide's laid-datum.mjs) off the statement by which the dump's own 'gosem.cut.vars' lays the variable. In a bare row this is a premise. The card (YtccdhcempnkgaaaGreatDoorCards.lean) ties it to the program's text. -/
def laid_loop_example_g00400_impl_errNoAmount {H : Type} : DataW H := .iface "*errors.errorString" (.ptr (.agg [.lit (.string [110, 111, 32, 97, 109, 111, 117, 110, 116])]))
def laid_loop_example_g00400_impl_errNoDivisor {H : Type} : DataW H := .iface "*errors.errorString" (.ptr (.agg [.lit (.string [110, 111, 32, 100, 105, 118, 105, 115, 111, 114])]))
def laid_loop_example_g00400_impl_errNoRate {H : Type} : DataW H := .iface "*errors.errorString" (.ptr (.agg [.lit (.string [110, 111, 32, 112, 97, 114, 116, 115, 32, 111, 102, 32, 97, 32, 109, 105, 108, 108, 105, 111, 110])]))

/-- 'laws.FnExactApply': WHATEVER THE INPUT: true; the input reads as it did. -/
def fnExactApplySpec : ChangeSpec := { name := "fnExactApply", vars := ["loop.example/g00400/impl.errNoRate", "loop.example/g00400/impl.errNoAmount", "loop.example/g00400/impl.errNoDivisor"], fn := fun _ => fun
  | [d1, d2, g1, g2, g3] => { results := [.lit (.bool true)], args := [d1, d2], vars := [g1, g2, g3] }
  | _ => none }
def fnExactApplyRow : OpenClaim := { program := "ytccdhcempnkgaaagreatdoor", sum := "a6dd994294f2235337297ab6ec1b8c8fa39de2d46a6e86eb6dfdd42eb599cef1", func := "loop.example/g00400/laws.FnExactApply", spec := "fnExactApply", unfollowed := true, recurses := true, named := ["loop.example/g00400/impl.errNoRate", "loop.example/g00400/impl.errNoAmount", "loop.example/g00400/impl.errNoDivisor", "math/bits.divideError", "math/bits.overflowError"], ifaces := true, apart := false, laid := [("loop.example/g00400/impl.errNoAmount", laid_loop_example_g00400_impl_errNoAmount), ("loop.example/g00400/impl.errNoDivisor", laid_loop_example_g00400_impl_errNoDivisor), ("loop.example/g00400/impl.errNoRate", laid_loop_example_g00400_impl_errNoRate)] }
def FnExactApplySaid : Prop := fnExactApplyRow.holds Tryz.pinned (OpenSpec.ofChange fnExactApplySpec)

/-- ITS FALSE NEIGHBOUR: 'it returns false'. Refute it at one input. -/
def fnExactApplyWrong : ChangeSpec := { name := "fnExactApply", vars := ["loop.example/g00400/impl.errNoRate", "loop.example/g00400/impl.errNoAmount", "loop.example/g00400/impl.errNoDivisor"], fn := fun _ => fun
  | [d1, d2, g1, g2, g3] => { results := [.lit (.bool false)], args := [d1, d2], vars := [g1, g2, g3] }
  | _ => none }
def FnExactApplyWrongFalsely : Prop := fnExactApplyRow.holds Tryz.pinned (OpenSpec.ofChange fnExactApplyWrong)

/-- 'laws.FnExactApplyAll': WHATEVER THE INPUT: true; the input reads as it did. -/
def fnExactApplyAllSpec : ChangeSpec := { name := "fnExactApplyAll", vars := ["loop.example/g00400/impl.errNoRate", "loop.example/g00400/impl.errNoAmount", "loop.example/g00400/impl.errNoDivisor"], fn := fun _ => fun
  | [d1, d2, g1, g2, g3] => { results := [.lit (.bool true)], args := [d1, d2], vars := [g1, g2, g3] }
  | _ => none }
def fnExactApplyAllRow : OpenClaim := { program := "ytccdhcempnkgaaagreatdoor", sum := "a6dd994294f2235337297ab6ec1b8c8fa39de2d46a6e86eb6dfdd42eb599cef1", func := "loop.example/g00400/laws.FnExactApplyAll", spec := "fnExactApplyAll", unfollowed := true, recurses := true, named := ["loop.example/g00400/impl.errNoRate", "loop.example/g00400/impl.errNoAmount", "loop.example/g00400/impl.errNoDivisor", "math/bits.divideError", "math/bits.overflowError"], ifaces := true, apart := false, laid := [("loop.example/g00400/impl.errNoAmount", laid_loop_example_g00400_impl_errNoAmount), ("loop.example/g00400/impl.errNoDivisor", laid_loop_example_g00400_impl_errNoDivisor), ("loop.example/g00400/impl.errNoRate", laid_loop_example_g00400_impl_errNoRate)] }
def FnExactApplyAllSaid : Prop := fnExactApplyAllRow.holds Tryz.pinned (OpenSpec.ofChange fnExactApplyAllSpec)

/-- ITS FALSE NEIGHBOUR: 'it returns false'. Refute it at one input. -/
def fnExactApplyAllWrong : ChangeSpec := { name := "fnExactApplyAll", vars := ["loop.example/g00400/impl.errNoRate", "loop.example/g00400/impl.errNoAmount", "loop.example/g00400/impl.errNoDivisor"], fn := fun _ => fun
  | [d1, d2, g1, g2, g3] => { results := [.lit (.bool false)], args := [d1, d2], vars := [g1, g2, g3] }
  | _ => none }
def FnExactApplyAllWrongFalsely : Prop := fnExactApplyAllRow.holds Tryz.pinned (OpenSpec.ofChange fnExactApplyAllWrong)

/- THE SECOND FORM. 'bulk': how many values and letters a reading holds, each counted each time it is reached (what is shared counts as often as it is met; a slice's spare places count too). A statement '..UptoSaid' is the law's where the arguments, and the package variables that the reading takes, are together of bulk at most 1048576: NARROWER than '..Said'. Prove '..Said' where nothing that the law and all that it calls make is longer than what came in: it says more and counts as full. Else prove '..UptoSaid'. A law counts once. -/
mutual
def uptoBulk {H : Type} : DataW H → Nat
  | .lit (.string bytes) => bytes.length + 1
  | .lit _ => 1
  | .nil => 1
  | .ptr d => uptoBulk d + 1
  | .slice elems spare => uptoBulkAll elems + uptoBulkAll spare + 1
  | .agg parts => uptoBulkAll parts + 1
  | .iface _ d => uptoBulk d + 1
  | .map entries => uptoBulkEntries entries + 1
  | .held _ => 1
def uptoBulkAll {H : Type} : List (DataW H) → Nat
  | [] => 0
  | d :: r => uptoBulk d + uptoBulkAll r
def uptoBulkEntries {H : Type} : List (Lit × DataW H) → Nat
  | [] => 0
  | x :: r => uptoBulkEntry x + uptoBulkEntries r
def uptoBulkEntry {H : Type} : Lit × DataW H → Nat
  | (.string bytes, d) => bytes.length + uptoBulk d + 1
  | (_, d) => uptoBulk d + 1
 end
def uptoSmall : (H : Type) → List (DataW H) → Bool := fun _ ds => decide (uptoBulkAll ds ≤ 1048576)
def OpenSpec.upto (s : _root_.Go.ChangeSpec) : _root_.Go.OpenSpec := { _root_.Go.OpenSpec.ofChange s with cond := some uptoSmall }

/-- 'laws.FnExactApply', WHERE WHAT IT READS IS OF BULK AT MOST 1048576: true; the input reads as it did. -/
def fnExactApplyUptoRow : OpenClaim := { program := "ytccdhcempnkgaaagreatdoor", sum := "a6dd994294f2235337297ab6ec1b8c8fa39de2d46a6e86eb6dfdd42eb599cef1", func := "loop.example/g00400/laws.FnExactApply", spec := "fnExactApply", unfollowed := true, recurses := true, named := ["loop.example/g00400/impl.errNoRate", "loop.example/g00400/impl.errNoAmount", "loop.example/g00400/impl.errNoDivisor", "math/bits.divideError", "math/bits.overflowError"], ifaces := true, apart := false, laid := [("loop.example/g00400/impl.errNoAmount", laid_loop_example_g00400_impl_errNoAmount), ("loop.example/g00400/impl.errNoDivisor", laid_loop_example_g00400_impl_errNoDivisor), ("loop.example/g00400/impl.errNoRate", laid_loop_example_g00400_impl_errNoRate)], narrowed := true }
def FnExactApplyUptoSaid : Prop := fnExactApplyUptoRow.holds Tryz.pinned (OpenSpec.upto fnExactApplySpec)

/-- 'laws.FnExactApplyAll', WHERE WHAT IT READS IS OF BULK AT MOST 1048576: true; the input reads as it did. -/
def fnExactApplyAllUptoRow : OpenClaim := { program := "ytccdhcempnkgaaagreatdoor", sum := "a6dd994294f2235337297ab6ec1b8c8fa39de2d46a6e86eb6dfdd42eb599cef1", func := "loop.example/g00400/laws.FnExactApplyAll", spec := "fnExactApplyAll", unfollowed := true, recurses := true, named := ["loop.example/g00400/impl.errNoRate", "loop.example/g00400/impl.errNoAmount", "loop.example/g00400/impl.errNoDivisor", "math/bits.divideError", "math/bits.overflowError"], ifaces := true, apart := false, laid := [("loop.example/g00400/impl.errNoAmount", laid_loop_example_g00400_impl_errNoAmount), ("loop.example/g00400/impl.errNoDivisor", laid_loop_example_g00400_impl_errNoDivisor), ("loop.example/g00400/impl.errNoRate", laid_loop_example_g00400_impl_errNoRate)], narrowed := true }
def FnExactApplyAllUptoSaid : Prop := fnExactApplyAllUptoRow.holds Tryz.pinned (OpenSpec.upto fnExactApplyAllSpec)

end Rows
end Go.Proofs.YtccdhcempnkgaaaGreatDoor
