/-
  No cell of these rows narrows 'for every input' (looked for: loops, veiled, ifaces, maps, wideKeys, modest, calm, conditions, laid).
  DERIVED. THE GIVEN ROWS OF THIS SEAT. 10 by the template 'for every input the law returns true; each argument reads behind the call as it read before'; 0 by the template 'total and deterministic' (their statements: YtmjgddgpoecpmaaTotals.lean).
  GIVEN WITH THE SEED: the statements are not yours to turn. If you find one false, say at which input.
  Laid BY PROGRAM, IN A SANDBOX (cutbox-rows.mjs): the forced cells as the released guide's own fill.sh prints them over the translation 0bebfdd8081f5828… (all of the seat's roots in one cut). By AI agents, Wed Nov 11 2026. No macro, syntax, notation, axiom, sorry.
-/
import Derived.Test.YtmjgddgpoecpmaaChecked
import GoSem.Claim
import GoSem.ClaimJoined
import GoSem.ClaimMapViews
import Derived.JoinedTies
import Derived.KernelRfl
namespace Go.Proofs.Ytmjgddgpoecpmaa
/- THE CELL 'sum', in the pinned program and in every row, IS THE sha256 OF THE DUMP (.gsa) THAT YtmjgddgpoecpmaaProg.lean LOADS. Nothing in Lean hashes anything: it is a label: what it is worth is what the hold of that sum in a sandbox is worth. -/
noncomputable def Try.pinned : Pinned := { name := "ytmjgddgpoecpmaa", sum := "0bebfdd8081f5828c33dc7d19fddb96e4c492d07b72f9f6cc766e730ddef5b1e", checked := Try.checked }
namespace Rows
def none {H : Type} : Left H := { results := [], args := [] }

/-- 'laws.FnZero': WHATEVER THE INPUT: true; the input reads as it did. -/
def fnZeroSpec : ChangeSpec := { name := "fnZero", fn := fun _ => fun
  | [d] => { results := [.lit (.bool true)], args := [d] }
  | _ => none }
def fnZeroRow : OpenClaim := { program := "ytmjgddgpoecpmaa", sum := "0bebfdd8081f5828c33dc7d19fddb96e4c492d07b72f9f6cc766e730ddef5b1e", func := "loop.example/g00400/laws.FnZero", spec := "fnZero", unfollowed := true, recurses := true, plainKeys := false, apart := false }
def FnZeroSaid : Prop := fnZeroRow.holds Try.pinned (OpenSpec.ofChange fnZeroSpec)

/-- ITS FALSE NEIGHBOUR: 'it returns false'. Refute it at one input. -/
def fnZeroWrong : ChangeSpec := { name := "fnZero", fn := fun _ => fun
  | [d] => { results := [.lit (.bool false)], args := [d] }
  | _ => none }
def FnZeroWrongFalsely : Prop := fnZeroRow.holds Try.pinned (OpenSpec.ofChange fnZeroWrong)

/-- 'laws.FnWorth': WHATEVER THE INPUT: true; the input reads as it did. -/
def fnWorthSpec : ChangeSpec := { name := "fnWorth", fn := fun _ => fun
  | [d] => { results := [.lit (.bool true)], args := [d] }
  | _ => none }
def fnWorthRow : OpenClaim := { program := "ytmjgddgpoecpmaa", sum := "0bebfdd8081f5828c33dc7d19fddb96e4c492d07b72f9f6cc766e730ddef5b1e", func := "loop.example/g00400/laws.FnWorth", spec := "fnWorth", unfollowed := true, recurses := true, plainKeys := false, apart := false }
def FnWorthSaid : Prop := fnWorthRow.holds Try.pinned (OpenSpec.ofChange fnWorthSpec)

/-- ITS FALSE NEIGHBOUR: 'it returns false'. Refute it at one input. -/
def fnWorthWrong : ChangeSpec := { name := "fnWorth", fn := fun _ => fun
  | [d] => { results := [.lit (.bool false)], args := [d] }
  | _ => none }
def FnWorthWrongFalsely : Prop := fnWorthRow.holds Try.pinned (OpenSpec.ofChange fnWorthWrong)

/-- 'laws.FnSync': WHATEVER THE INPUT: true; the input reads as it did. -/
def fnSyncSpec : ChangeSpec := { name := "fnSync", fn := fun _ => fun
  | [d] => { results := [.lit (.bool true)], args := [d] }
  | _ => none }
def fnSyncRow : OpenClaim := { program := "ytmjgddgpoecpmaa", sum := "0bebfdd8081f5828c33dc7d19fddb96e4c492d07b72f9f6cc766e730ddef5b1e", func := "loop.example/g00400/laws.FnSync", spec := "fnSync", plainKeys := false, apart := false }
def FnSyncSaid : Prop := fnSyncRow.holds Try.pinned (OpenSpec.ofChange fnSyncSpec)

/-- ITS FALSE NEIGHBOUR: 'it returns false'. Refute it at one input. -/
def fnSyncWrong : ChangeSpec := { name := "fnSync", fn := fun _ => fun
  | [d] => { results := [.lit (.bool false)], args := [d] }
  | _ => none }
def FnSyncWrongFalsely : Prop := fnSyncRow.holds Try.pinned (OpenSpec.ofChange fnSyncWrong)

/-- 'laws.FnExactPost': WHATEVER THE INPUT: true; the input reads as it did. -/
def fnExactPostSpec : ChangeSpec := { name := "fnExactPost", fn := fun _ => fun
  | [d1, d2] => { results := [.lit (.bool true)], args := [d1, d2] }
  | _ => none }
def fnExactPostRow : OpenClaim := { program := "ytmjgddgpoecpmaa", sum := "0bebfdd8081f5828c33dc7d19fddb96e4c492d07b72f9f6cc766e730ddef5b1e", func := "loop.example/g00400/laws.FnExactPost", spec := "fnExactPost", unfollowed := true, recurses := true, plainKeys := false, apart := false }
def FnExactPostSaid : Prop := fnExactPostRow.holds Try.pinned (OpenSpec.ofChange fnExactPostSpec)

/-- ITS FALSE NEIGHBOUR: 'it returns false'. Refute it at one input. -/
def fnExactPostWrong : ChangeSpec := { name := "fnExactPost", fn := fun _ => fun
  | [d1, d2] => { results := [.lit (.bool false)], args := [d1, d2] }
  | _ => none }
def FnExactPostWrongFalsely : Prop := fnExactPostRow.holds Try.pinned (OpenSpec.ofChange fnExactPostWrong)

/-- 'laws.FnExactPostAll': WHATEVER THE INPUT: true; the input reads as it did. -/
def fnExactPostAllSpec : ChangeSpec := { name := "fnExactPostAll", fn := fun _ => fun
  | [d1, d2] => { results := [.lit (.bool true)], args := [d1, d2] }
  | _ => none }
def fnExactPostAllRow : OpenClaim := { program := "ytmjgddgpoecpmaa", sum := "0bebfdd8081f5828c33dc7d19fddb96e4c492d07b72f9f6cc766e730ddef5b1e", func := "loop.example/g00400/laws.FnExactPostAll", spec := "fnExactPostAll", unfollowed := true, recurses := true, plainKeys := false, apart := false }
def FnExactPostAllSaid : Prop := fnExactPostAllRow.holds Try.pinned (OpenSpec.ofChange fnExactPostAllSpec)

/-- ITS FALSE NEIGHBOUR: 'it returns false'. Refute it at one input. -/
def fnExactPostAllWrong : ChangeSpec := { name := "fnExactPostAll", fn := fun _ => fun
  | [d1, d2] => { results := [.lit (.bool false)], args := [d1, d2] }
  | _ => none }
def FnExactPostAllWrongFalsely : Prop := fnExactPostAllRow.holds Try.pinned (OpenSpec.ofChange fnExactPostAllWrong)

/-- 'laws.FnExactDiskCrash': WHATEVER THE INPUT: true; the input reads as it did. -/
def fnExactDiskCrashSpec : ChangeSpec := { name := "fnExactDiskCrash", fn := fun _ => fun
  | [d1, d2] => { results := [.lit (.bool true)], args := [d1, d2] }
  | _ => none }
def fnExactDiskCrashRow : OpenClaim := { program := "ytmjgddgpoecpmaa", sum := "0bebfdd8081f5828c33dc7d19fddb96e4c492d07b72f9f6cc766e730ddef5b1e", func := "loop.example/g00400/laws.FnExactDiskCrash", spec := "fnExactDiskCrash", plainKeys := false, apart := false }
def FnExactDiskCrashSaid : Prop := fnExactDiskCrashRow.holds Try.pinned (OpenSpec.ofChange fnExactDiskCrashSpec)

/-- ITS FALSE NEIGHBOUR: 'it returns false'. Refute it at one input. -/
def fnExactDiskCrashWrong : ChangeSpec := { name := "fnExactDiskCrash", fn := fun _ => fun
  | [d1, d2] => { results := [.lit (.bool false)], args := [d1, d2] }
  | _ => none }
def FnExactDiskCrashWrongFalsely : Prop := fnExactDiskCrashRow.holds Try.pinned (OpenSpec.ofChange fnExactDiskCrashWrong)

/-- 'laws.FnExactDiskSync': WHATEVER THE INPUT: true; the input reads as it did. -/
def fnExactDiskSyncSpec : ChangeSpec := { name := "fnExactDiskSync", fn := fun _ => fun
  | [d] => { results := [.lit (.bool true)], args := [d] }
  | _ => none }
def fnExactDiskSyncRow : OpenClaim := { program := "ytmjgddgpoecpmaa", sum := "0bebfdd8081f5828c33dc7d19fddb96e4c492d07b72f9f6cc766e730ddef5b1e", func := "loop.example/g00400/laws.FnExactDiskSync", spec := "fnExactDiskSync", plainKeys := false, apart := false }
def FnExactDiskSyncSaid : Prop := fnExactDiskSyncRow.holds Try.pinned (OpenSpec.ofChange fnExactDiskSyncSpec)

/-- ITS FALSE NEIGHBOUR: 'it returns false'. Refute it at one input. -/
def fnExactDiskSyncWrong : ChangeSpec := { name := "fnExactDiskSync", fn := fun _ => fun
  | [d] => { results := [.lit (.bool false)], args := [d] }
  | _ => none }
def FnExactDiskSyncWrongFalsely : Prop := fnExactDiskSyncRow.holds Try.pinned (OpenSpec.ofChange fnExactDiskSyncWrong)

/-- 'laws.FnExactEventOk': WHATEVER THE INPUT: true; the input reads as it did. -/
def fnExactEventOkSpec : ChangeSpec := { name := "fnExactEventOk", fn := fun _ => fun
  | [d] => { results := [.lit (.bool true)], args := [d] }
  | _ => none }
def fnExactEventOkRow : OpenClaim := { program := "ytmjgddgpoecpmaa", sum := "0bebfdd8081f5828c33dc7d19fddb96e4c492d07b72f9f6cc766e730ddef5b1e", func := "loop.example/g00400/laws.FnExactEventOk", spec := "fnExactEventOk", unfollowed := true, recurses := true, plainKeys := false, apart := false }
def FnExactEventOkSaid : Prop := fnExactEventOkRow.holds Try.pinned (OpenSpec.ofChange fnExactEventOkSpec)

/-- ITS FALSE NEIGHBOUR: 'it returns false'. Refute it at one input. -/
def fnExactEventOkWrong : ChangeSpec := { name := "fnExactEventOk", fn := fun _ => fun
  | [d] => { results := [.lit (.bool false)], args := [d] }
  | _ => none }
def FnExactEventOkWrongFalsely : Prop := fnExactEventOkRow.holds Try.pinned (OpenSpec.ofChange fnExactEventOkWrong)

/-- 'laws.FnExactEventBody': WHATEVER THE INPUT: true; the input reads as it did. -/
def fnExactEventBodySpec : ChangeSpec := { name := "fnExactEventBody", fn := fun _ => fun
  | [d] => { results := [.lit (.bool true)], args := [d] }
  | _ => none }
def fnExactEventBodyRow : OpenClaim := { program := "ytmjgddgpoecpmaa", sum := "0bebfdd8081f5828c33dc7d19fddb96e4c492d07b72f9f6cc766e730ddef5b1e", func := "loop.example/g00400/laws.FnExactEventBody", spec := "fnExactEventBody", unfollowed := true, recurses := true, plainKeys := false, apart := false }
def FnExactEventBodySaid : Prop := fnExactEventBodyRow.holds Try.pinned (OpenSpec.ofChange fnExactEventBodySpec)

/-- ITS FALSE NEIGHBOUR: 'it returns false'. Refute it at one input. -/
def fnExactEventBodyWrong : ChangeSpec := { name := "fnExactEventBody", fn := fun _ => fun
  | [d] => { results := [.lit (.bool false)], args := [d] }
  | _ => none }
def FnExactEventBodyWrongFalsely : Prop := fnExactEventBodyRow.holds Try.pinned (OpenSpec.ofChange fnExactEventBodyWrong)

/-- 'laws.FnExactEventText': WHATEVER THE INPUT: true; the input reads as it did. -/
def fnExactEventTextSpec : ChangeSpec := { name := "fnExactEventText", fn := fun _ => fun
  | [d] => { results := [.lit (.bool true)], args := [d] }
  | _ => none }
def fnExactEventTextRow : OpenClaim := { program := "ytmjgddgpoecpmaa", sum := "0bebfdd8081f5828c33dc7d19fddb96e4c492d07b72f9f6cc766e730ddef5b1e", func := "loop.example/g00400/laws.FnExactEventText", spec := "fnExactEventText", unfollowed := true, recurses := true, plainKeys := false, apart := false }
def FnExactEventTextSaid : Prop := fnExactEventTextRow.holds Try.pinned (OpenSpec.ofChange fnExactEventTextSpec)

/-- ITS FALSE NEIGHBOUR: 'it returns false'. Refute it at one input. -/
def fnExactEventTextWrong : ChangeSpec := { name := "fnExactEventText", fn := fun _ => fun
  | [d] => { results := [.lit (.bool false)], args := [d] }
  | _ => none }
def FnExactEventTextWrongFalsely : Prop := fnExactEventTextRow.holds Try.pinned (OpenSpec.ofChange fnExactEventTextWrong)

/- THE SECOND FORM. 'bulk': how many values and letters a reading holds, each counted each time it is reached (what is shared counts as often as it is met; a slice's spare places count too). A statement '..UptoSaid' is the law's where the arguments, and the package variables that the reading takes, are together of bulk at most 1048576: NARROWER than '..Said'. Prove '..Said' where nothing that the law and all that it calls make is longer than what came in: it says more and counts as full. Else prove '..UptoSaid'. A law counts once. -/
mutual
def uptoBulk {H : Type} : DataW H → Nat
  | .lit (.string bytes) => bytes.length + 1
  | .lit _ => 1
  | .nil => 1
  | .ptr d => uptoBulk d + 1
  | .slice elems spare => uptoBulkAll elems + uptoBulkAll spare + 1
  | .agg parts => uptoBulkAll parts + 1
  | .iface _ d => uptoBulk d + 1
  | .map entries => uptoBulkEntries entries + 1
  | .held _ => 1
def uptoBulkAll {H : Type} : List (DataW H) → Nat
  | [] => 0
  | d :: r => uptoBulk d + uptoBulkAll r
def uptoBulkEntries {H : Type} : List (Lit × DataW H) → Nat
  | [] => 0
  | x :: r => uptoBulkEntry x + uptoBulkEntries r
def uptoBulkEntry {H : Type} : Lit × DataW H → Nat
  | (.string bytes, d) => bytes.length + uptoBulk d + 1
  | (_, d) => uptoBulk d + 1
 end
def uptoSmall : (H : Type) → List (DataW H) → Bool := fun _ ds => decide (uptoBulkAll ds ≤ 1048576)
def OpenSpec.upto (s : _root_.Go.ChangeSpec) : _root_.Go.OpenSpec := { _root_.Go.OpenSpec.ofChange s with cond := some uptoSmall }

/-- 'laws.FnZero', WHERE WHAT IT READS IS OF BULK AT MOST 1048576: true; the input reads as it did. -/
def fnZeroUptoRow : OpenClaim := { program := "ytmjgddgpoecpmaa", sum := "0bebfdd8081f5828c33dc7d19fddb96e4c492d07b72f9f6cc766e730ddef5b1e", func := "loop.example/g00400/laws.FnZero", spec := "fnZero", unfollowed := true, recurses := true, plainKeys := false, apart := false, narrowed := true }
def FnZeroUptoSaid : Prop := fnZeroUptoRow.holds Try.pinned (OpenSpec.upto fnZeroSpec)

/-- 'laws.FnWorth', WHERE WHAT IT READS IS OF BULK AT MOST 1048576: true; the input reads as it did. -/
def fnWorthUptoRow : OpenClaim := { program := "ytmjgddgpoecpmaa", sum := "0bebfdd8081f5828c33dc7d19fddb96e4c492d07b72f9f6cc766e730ddef5b1e", func := "loop.example/g00400/laws.FnWorth", spec := "fnWorth", unfollowed := true, recurses := true, plainKeys := false, apart := false, narrowed := true }
def FnWorthUptoSaid : Prop := fnWorthUptoRow.holds Try.pinned (OpenSpec.upto fnWorthSpec)

/-- 'laws.FnSync', WHERE WHAT IT READS IS OF BULK AT MOST 1048576: true; the input reads as it did. -/
def fnSyncUptoRow : OpenClaim := { program := "ytmjgddgpoecpmaa", sum := "0bebfdd8081f5828c33dc7d19fddb96e4c492d07b72f9f6cc766e730ddef5b1e", func := "loop.example/g00400/laws.FnSync", spec := "fnSync", plainKeys := false, apart := false, narrowed := true }
def FnSyncUptoSaid : Prop := fnSyncUptoRow.holds Try.pinned (OpenSpec.upto fnSyncSpec)

/-- 'laws.FnExactPost', WHERE WHAT IT READS IS OF BULK AT MOST 1048576: true; the input reads as it did. -/
def fnExactPostUptoRow : OpenClaim := { program := "ytmjgddgpoecpmaa", sum := "0bebfdd8081f5828c33dc7d19fddb96e4c492d07b72f9f6cc766e730ddef5b1e", func := "loop.example/g00400/laws.FnExactPost", spec := "fnExactPost", unfollowed := true, recurses := true, plainKeys := false, apart := false, narrowed := true }
def FnExactPostUptoSaid : Prop := fnExactPostUptoRow.holds Try.pinned (OpenSpec.upto fnExactPostSpec)

/-- 'laws.FnExactPostAll', WHERE WHAT IT READS IS OF BULK AT MOST 1048576: true; the input reads as it did. -/
def fnExactPostAllUptoRow : OpenClaim := { program := "ytmjgddgpoecpmaa", sum := "0bebfdd8081f5828c33dc7d19fddb96e4c492d07b72f9f6cc766e730ddef5b1e", func := "loop.example/g00400/laws.FnExactPostAll", spec := "fnExactPostAll", unfollowed := true, recurses := true, plainKeys := false, apart := false, narrowed := true }
def FnExactPostAllUptoSaid : Prop := fnExactPostAllUptoRow.holds Try.pinned (OpenSpec.upto fnExactPostAllSpec)

/-- 'laws.FnExactDiskCrash', WHERE WHAT IT READS IS OF BULK AT MOST 1048576: true; the input reads as it did. -/
def fnExactDiskCrashUptoRow : OpenClaim := { program := "ytmjgddgpoecpmaa", sum := "0bebfdd8081f5828c33dc7d19fddb96e4c492d07b72f9f6cc766e730ddef5b1e", func := "loop.example/g00400/laws.FnExactDiskCrash", spec := "fnExactDiskCrash", plainKeys := false, apart := false, narrowed := true }
def FnExactDiskCrashUptoSaid : Prop := fnExactDiskCrashUptoRow.holds Try.pinned (OpenSpec.upto fnExactDiskCrashSpec)

/-- 'laws.FnExactDiskSync', WHERE WHAT IT READS IS OF BULK AT MOST 1048576: true; the input reads as it did. -/
def fnExactDiskSyncUptoRow : OpenClaim := { program := "ytmjgddgpoecpmaa", sum := "0bebfdd8081f5828c33dc7d19fddb96e4c492d07b72f9f6cc766e730ddef5b1e", func := "loop.example/g00400/laws.FnExactDiskSync", spec := "fnExactDiskSync", plainKeys := false, apart := false, narrowed := true }
def FnExactDiskSyncUptoSaid : Prop := fnExactDiskSyncUptoRow.holds Try.pinned (OpenSpec.upto fnExactDiskSyncSpec)

/-- 'laws.FnExactEventOk', WHERE WHAT IT READS IS OF BULK AT MOST 1048576: true; the input reads as it did. -/
def fnExactEventOkUptoRow : OpenClaim := { program := "ytmjgddgpoecpmaa", sum := "0bebfdd8081f5828c33dc7d19fddb96e4c492d07b72f9f6cc766e730ddef5b1e", func := "loop.example/g00400/laws.FnExactEventOk", spec := "fnExactEventOk", unfollowed := true, recurses := true, plainKeys := false, apart := false, narrowed := true }
def FnExactEventOkUptoSaid : Prop := fnExactEventOkUptoRow.holds Try.pinned (OpenSpec.upto fnExactEventOkSpec)

/-- 'laws.FnExactEventBody', WHERE WHAT IT READS IS OF BULK AT MOST 1048576: true; the input reads as it did. -/
def fnExactEventBodyUptoRow : OpenClaim := { program := "ytmjgddgpoecpmaa", sum := "0bebfdd8081f5828c33dc7d19fddb96e4c492d07b72f9f6cc766e730ddef5b1e", func := "loop.example/g00400/laws.FnExactEventBody", spec := "fnExactEventBody", unfollowed := true, recurses := true, plainKeys := false, apart := false, narrowed := true }
def FnExactEventBodyUptoSaid : Prop := fnExactEventBodyUptoRow.holds Try.pinned (OpenSpec.upto fnExactEventBodySpec)

/-- 'laws.FnExactEventText', WHERE WHAT IT READS IS OF BULK AT MOST 1048576: true; the input reads as it did. -/
def fnExactEventTextUptoRow : OpenClaim := { program := "ytmjgddgpoecpmaa", sum := "0bebfdd8081f5828c33dc7d19fddb96e4c492d07b72f9f6cc766e730ddef5b1e", func := "loop.example/g00400/laws.FnExactEventText", spec := "fnExactEventText", unfollowed := true, recurses := true, plainKeys := false, apart := false, narrowed := true }
def FnExactEventTextUptoSaid : Prop := fnExactEventTextUptoRow.holds Try.pinned (OpenSpec.upto fnExactEventTextSpec)

end Rows
end Go.Proofs.Ytmjgddgpoecpmaa
