/-
  No cell of these rows narrows 'for every input' (looked for: loops, veiled, ifaces, maps, wideKeys, modest, calm, conditions, laid).
  DERIVED. THE GIVEN ROWS OF THIS SEAT. 5 by the template 'for every input the law returns true; each argument reads behind the call as it read before'; 0 by the template 'total and deterministic' (their statements: YtecjjkgdgmjgmaaTotals.lean).
  GIVEN WITH THE SEED: the statements are not yours to turn. If you find one false, say at which input.
  Laid BY PROGRAM, IN A SANDBOX (cutbox-rows.mjs): the forced cells as the released guide's own fill.sh prints them over the translation bfcbbe1db0d4f9ce… (all of the seat's roots in one cut). By AI agents, Wed Nov 11 2026. No macro, syntax, notation, axiom, sorry.
-/
import Derived.Test.YtecjjkgdgmjgmaaChecked
import GoSem.Claim
import GoSem.ClaimJoined
import GoSem.ClaimMapViews
import Derived.JoinedTies
import Derived.KernelRfl
namespace Go.Proofs.Ytecjjkgdgmjgmaa
/- THE CELL 'sum', in the pinned program and in every row, IS THE sha256 OF THE DUMP (.gsa) THAT YtecjjkgdgmjgmaaProg.lean LOADS. Nothing in Lean hashes anything: it is a label: what it is worth is what the hold of that sum in a sandbox is worth. -/
noncomputable def Try.pinned : Pinned := { name := "ytecjjkgdgmjgmaa", sum := "bfcbbe1db0d4f9ce337df85fa856ef30e5bc7d655199b8335b3338c9b8fee265", checked := Try.checked }
namespace Rows
def none {H : Type} : Left H := { results := [], args := [] }

/-- 'laws.FnZero': WHATEVER THE INPUT: true; the input reads as it did. -/
def fnZeroSpec : ChangeSpec := { name := "fnZero", fn := fun _ => fun
  | [d] => { results := [.lit (.bool true)], args := [d] }
  | _ => none }
def fnZeroRow : OpenClaim := { program := "ytecjjkgdgmjgmaa", sum := "bfcbbe1db0d4f9ce337df85fa856ef30e5bc7d655199b8335b3338c9b8fee265", func := "loop.example/g00400/laws.FnZero", spec := "fnZero", unfollowed := true, recurses := true, plainKeys := false, apart := false }
def FnZeroSaid : Prop := fnZeroRow.holds Try.pinned (OpenSpec.ofChange fnZeroSpec)

/-- ITS FALSE NEIGHBOUR: 'it returns false'. Refute it at one input. -/
def fnZeroWrong : ChangeSpec := { name := "fnZero", fn := fun _ => fun
  | [d] => { results := [.lit (.bool false)], args := [d] }
  | _ => none }
def FnZeroWrongFalsely : Prop := fnZeroRow.holds Try.pinned (OpenSpec.ofChange fnZeroWrong)

/-- 'laws.FnWorth': WHATEVER THE INPUT: true; the input reads as it did. -/
def fnWorthSpec : ChangeSpec := { name := "fnWorth", fn := fun _ => fun
  | [d] => { results := [.lit (.bool true)], args := [d] }
  | _ => none }
def fnWorthRow : OpenClaim := { program := "ytecjjkgdgmjgmaa", sum := "bfcbbe1db0d4f9ce337df85fa856ef30e5bc7d655199b8335b3338c9b8fee265", func := "loop.example/g00400/laws.FnWorth", spec := "fnWorth", unfollowed := true, recurses := true, plainKeys := false, apart := false }
def FnWorthSaid : Prop := fnWorthRow.holds Try.pinned (OpenSpec.ofChange fnWorthSpec)

/-- ITS FALSE NEIGHBOUR: 'it returns false'. Refute it at one input. -/
def fnWorthWrong : ChangeSpec := { name := "fnWorth", fn := fun _ => fun
  | [d] => { results := [.lit (.bool false)], args := [d] }
  | _ => none }
def FnWorthWrongFalsely : Prop := fnWorthRow.holds Try.pinned (OpenSpec.ofChange fnWorthWrong)

/-- 'laws.FnSync': WHATEVER THE INPUT: true; the input reads as it did. -/
def fnSyncSpec : ChangeSpec := { name := "fnSync", fn := fun _ => fun
  | [d] => { results := [.lit (.bool true)], args := [d] }
  | _ => none }
def fnSyncRow : OpenClaim := { program := "ytecjjkgdgmjgmaa", sum := "bfcbbe1db0d4f9ce337df85fa856ef30e5bc7d655199b8335b3338c9b8fee265", func := "loop.example/g00400/laws.FnSync", spec := "fnSync", plainKeys := false, apart := false }
def FnSyncSaid : Prop := fnSyncRow.holds Try.pinned (OpenSpec.ofChange fnSyncSpec)

/-- ITS FALSE NEIGHBOUR: 'it returns false'. Refute it at one input. -/
def fnSyncWrong : ChangeSpec := { name := "fnSync", fn := fun _ => fun
  | [d] => { results := [.lit (.bool false)], args := [d] }
  | _ => none }
def FnSyncWrongFalsely : Prop := fnSyncRow.holds Try.pinned (OpenSpec.ofChange fnSyncWrong)

/-- 'laws.FnExactPost': WHATEVER THE INPUT: true; the input reads as it did. -/
def fnExactPostSpec : ChangeSpec := { name := "fnExactPost", fn := fun _ => fun
  | [d1, d2] => { results := [.lit (.bool true)], args := [d1, d2] }
  | _ => none }
def fnExactPostRow : OpenClaim := { program := "ytecjjkgdgmjgmaa", sum := "bfcbbe1db0d4f9ce337df85fa856ef30e5bc7d655199b8335b3338c9b8fee265", func := "loop.example/g00400/laws.FnExactPost", spec := "fnExactPost", unfollowed := true, recurses := true, plainKeys := false, apart := false }
def FnExactPostSaid : Prop := fnExactPostRow.holds Try.pinned (OpenSpec.ofChange fnExactPostSpec)

/-- ITS FALSE NEIGHBOUR: 'it returns false'. Refute it at one input. -/
def fnExactPostWrong : ChangeSpec := { name := "fnExactPost", fn := fun _ => fun
  | [d1, d2] => { results := [.lit (.bool false)], args := [d1, d2] }
  | _ => none }
def FnExactPostWrongFalsely : Prop := fnExactPostRow.holds Try.pinned (OpenSpec.ofChange fnExactPostWrong)

/-- 'laws.FnExactPostAll': WHATEVER THE INPUT: true; the input reads as it did. -/
def fnExactPostAllSpec : ChangeSpec := { name := "fnExactPostAll", fn := fun _ => fun
  | [d1, d2] => { results := [.lit (.bool true)], args := [d1, d2] }
  | _ => none }
def fnExactPostAllRow : OpenClaim := { program := "ytecjjkgdgmjgmaa", sum := "bfcbbe1db0d4f9ce337df85fa856ef30e5bc7d655199b8335b3338c9b8fee265", func := "loop.example/g00400/laws.FnExactPostAll", spec := "fnExactPostAll", unfollowed := true, recurses := true, plainKeys := false, apart := false }
def FnExactPostAllSaid : Prop := fnExactPostAllRow.holds Try.pinned (OpenSpec.ofChange fnExactPostAllSpec)

/-- ITS FALSE NEIGHBOUR: 'it returns false'. Refute it at one input. -/
def fnExactPostAllWrong : ChangeSpec := { name := "fnExactPostAll", fn := fun _ => fun
  | [d1, d2] => { results := [.lit (.bool false)], args := [d1, d2] }
  | _ => none }
def FnExactPostAllWrongFalsely : Prop := fnExactPostAllRow.holds Try.pinned (OpenSpec.ofChange fnExactPostAllWrong)

/- THE SECOND FORM. 'bulk': how many values and letters a reading holds, each counted each time it is reached (what is shared counts as often as it is met; a slice's spare places count too). A statement '..UptoSaid' is the law's where the arguments, and the package variables that the reading takes, are together of bulk at most 1048576: NARROWER than '..Said'. Prove '..Said' where nothing that the law and all that it calls make is longer than what came in: it says more and counts as full. Else prove '..UptoSaid'. A law counts once. -/
mutual
def uptoBulk {H : Type} : DataW H → Nat
  | .lit (.string bytes) => bytes.length + 1
  | .lit _ => 1
  | .nil => 1
  | .ptr d => uptoBulk d + 1
  | .slice elems spare => uptoBulkAll elems + uptoBulkAll spare + 1
  | .agg parts => uptoBulkAll parts + 1
  | .iface _ d => uptoBulk d + 1
  | .map entries => uptoBulkEntries entries + 1
  | .held _ => 1
def uptoBulkAll {H : Type} : List (DataW H) → Nat
  | [] => 0
  | d :: r => uptoBulk d + uptoBulkAll r
def uptoBulkEntries {H : Type} : List (Lit × DataW H) → Nat
  | [] => 0
  | x :: r => uptoBulkEntry x + uptoBulkEntries r
def uptoBulkEntry {H : Type} : Lit × DataW H → Nat
  | (.string bytes, d) => bytes.length + uptoBulk d + 1
  | (_, d) => uptoBulk d + 1
 end
def uptoSmall : (H : Type) → List (DataW H) → Bool := fun _ ds => decide (uptoBulkAll ds ≤ 1048576)
def OpenSpec.upto (s : _root_.Go.ChangeSpec) : _root_.Go.OpenSpec := { _root_.Go.OpenSpec.ofChange s with cond := some uptoSmall }

/-- 'laws.FnZero', WHERE WHAT IT READS IS OF BULK AT MOST 1048576: true; the input reads as it did. -/
def fnZeroUptoRow : OpenClaim := { program := "ytecjjkgdgmjgmaa", sum := "bfcbbe1db0d4f9ce337df85fa856ef30e5bc7d655199b8335b3338c9b8fee265", func := "loop.example/g00400/laws.FnZero", spec := "fnZero", unfollowed := true, recurses := true, plainKeys := false, apart := false, narrowed := true }
def FnZeroUptoSaid : Prop := fnZeroUptoRow.holds Try.pinned (OpenSpec.upto fnZeroSpec)

/-- 'laws.FnWorth', WHERE WHAT IT READS IS OF BULK AT MOST 1048576: true; the input reads as it did. -/
def fnWorthUptoRow : OpenClaim := { program := "ytecjjkgdgmjgmaa", sum := "bfcbbe1db0d4f9ce337df85fa856ef30e5bc7d655199b8335b3338c9b8fee265", func := "loop.example/g00400/laws.FnWorth", spec := "fnWorth", unfollowed := true, recurses := true, plainKeys := false, apart := false, narrowed := true }
def FnWorthUptoSaid : Prop := fnWorthUptoRow.holds Try.pinned (OpenSpec.upto fnWorthSpec)

/-- 'laws.FnSync', WHERE WHAT IT READS IS OF BULK AT MOST 1048576: true; the input reads as it did. -/
def fnSyncUptoRow : OpenClaim := { program := "ytecjjkgdgmjgmaa", sum := "bfcbbe1db0d4f9ce337df85fa856ef30e5bc7d655199b8335b3338c9b8fee265", func := "loop.example/g00400/laws.FnSync", spec := "fnSync", plainKeys := false, apart := false, narrowed := true }
def FnSyncUptoSaid : Prop := fnSyncUptoRow.holds Try.pinned (OpenSpec.upto fnSyncSpec)

/-- 'laws.FnExactPost', WHERE WHAT IT READS IS OF BULK AT MOST 1048576: true; the input reads as it did. -/
def fnExactPostUptoRow : OpenClaim := { program := "ytecjjkgdgmjgmaa", sum := "bfcbbe1db0d4f9ce337df85fa856ef30e5bc7d655199b8335b3338c9b8fee265", func := "loop.example/g00400/laws.FnExactPost", spec := "fnExactPost", unfollowed := true, recurses := true, plainKeys := false, apart := false, narrowed := true }
def FnExactPostUptoSaid : Prop := fnExactPostUptoRow.holds Try.pinned (OpenSpec.upto fnExactPostSpec)

/-- 'laws.FnExactPostAll', WHERE WHAT IT READS IS OF BULK AT MOST 1048576: true; the input reads as it did. -/
def fnExactPostAllUptoRow : OpenClaim := { program := "ytecjjkgdgmjgmaa", sum := "bfcbbe1db0d4f9ce337df85fa856ef30e5bc7d655199b8335b3338c9b8fee265", func := "loop.example/g00400/laws.FnExactPostAll", spec := "fnExactPostAll", unfollowed := true, recurses := true, plainKeys := false, apart := false, narrowed := true }
def FnExactPostAllUptoSaid : Prop := fnExactPostAllUptoRow.holds Try.pinned (OpenSpec.upto fnExactPostAllSpec)

end Rows
end Go.Proofs.Ytecjjkgdgmjgmaa
