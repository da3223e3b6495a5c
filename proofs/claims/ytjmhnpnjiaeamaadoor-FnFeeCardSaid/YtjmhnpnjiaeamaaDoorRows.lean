/-
  NARROWER THAN 'FOR EVERY INPUT', by the rows' own cells (each row's printed sentence says how): FnFee: ifaces, laid · FnMulDiv: ifaces, laid · FnExactAddAmt: ifaces, laid · FnExactSubAmt: ifaces, laid · FnExactMulDiv: ifaces, laid · FnExactFee: ifaces, laid · FnExactFeeUp: ifaces, laid · FnExactNumText: laid · FnExactTextNum: ifaces, laid.
  DERIVED. THE GIVEN ROWS OF THIS SEAT. 9 by the template 'for every input the law returns true; each argument reads behind the call as it read before'; 0 by the template 'total and deterministic' (their statements: YtjmhnpnjiaeamaaDoorTotals.lean).
  GIVEN WITH THE SEED: the statements are not yours to turn. If you find one false, say at which input.
  Laid BY PROGRAM, IN A SANDBOX (cutbox-rows.mjs): the forced cells as the released guide's own fill.sh prints them over the translation e5ef7acaf2bd5fca… (all of the seat's roots in one cut). By AI agents, Wed Nov 11 2026. No macro, syntax, notation, axiom, sorry.
-/
import Derived.Test.YtjmhnpnjiaeamaaDoorChecked
import GoSem.Claim
import GoSem.ClaimJoined
import GoSem.ClaimMapViews
import Derived.JoinedTies
import Derived.KernelRfl
namespace Go.Proofs.YtjmhnpnjiaeamaaDoor
/- THE CELL 'sum', in the pinned program and in every row, IS THE sha256 OF THE DUMP (.gsa) THAT YtjmhnpnjiaeamaaDoorProg.lean LOADS. Nothing in Lean hashes anything: it is a label: what it is worth is what the hold of that sum in a sandbox is worth. -/
noncomputable def Tryd.pinned : Pinned := { name := "ytjmhnpnjiaeamaadoor", sum := "e5ef7acaf2bd5fca74c0a81574f3b1e5927624145b81b7966240453f191c98c4", checked := Tryd.checked }
namespace Rows
def none {H : Type} : Left H := { results := [], args := [] }

/- WHAT THE LISTED PACKAGE-LEVEL VARIABLES READ AS WHEN THE CALL BEGINS. Each datum BY PROGRAM (the guide's laid-datum.mjs) off the statement by which the dump's own 'gosem.cut.vars' lays the variable. In a bare row this is a premise. The card (YtjmhnpnjiaeamaaDoorCards.lean) ties it to the program's text. -/
def laid_loop_example_g00400_impl_errNoAmount {H : Type} : DataW H := .iface "*errors.errorString" (.ptr (.agg [.lit (.string [110, 111, 32, 97, 109, 111, 117, 110, 116])]))
def laid_loop_example_g00400_impl_errNoDivisor {H : Type} : DataW H := .iface "*errors.errorString" (.ptr (.agg [.lit (.string [110, 111, 32, 100, 105, 118, 105, 115, 111, 114])]))
def laid_loop_example_g00400_impl_errNoRate {H : Type} : DataW H := .iface "*errors.errorString" (.ptr (.agg [.lit (.string [110, 111, 32, 112, 97, 114, 116, 115, 32, 111, 102, 32, 97, 32, 109, 105, 108, 108, 105, 111, 110])]))
def laid_math_bits_deBruijn32tab {H : Type} : DataW H := .agg [.lit (.int .u8 0), .lit (.int .u8 1), .lit (.int .u8 28), .lit (.int .u8 2), .lit (.int .u8 29), .lit (.int .u8 14), .lit (.int .u8 24), .lit (.int .u8 3), .lit (.int .u8 30), .lit (.int .u8 22), .lit (.int .u8 20), .lit (.int .u8 15), .lit (.int .u8 25), .lit (.int .u8 17), .lit (.int .u8 4), .lit (.int .u8 8), .lit (.int .u8 31), .lit (.int .u8 27), .lit (.int .u8 13), .lit (.int .u8 23), .lit (.int .u8 21), .lit (.int .u8 19), .lit (.int .u8 16), .lit (.int .u8 7), .lit (.int .u8 26), .lit (.int .u8 12), .lit (.int .u8 18), .lit (.int .u8 6), .lit (.int .u8 11), .lit (.int .u8 5), .lit (.int .u8 10), .lit (.int .u8 9)]
def laid_math_bits_deBruijn64tab {H : Type} : DataW H := .agg [.lit (.int .u8 0), .lit (.int .u8 1), .lit (.int .u8 56), .lit (.int .u8 2), .lit (.int .u8 57), .lit (.int .u8 49), .lit (.int .u8 28), .lit (.int .u8 3), .lit (.int .u8 61), .lit (.int .u8 58), .lit (.int .u8 42), .lit (.int .u8 50), .lit (.int .u8 38), .lit (.int .u8 29), .lit (.int .u8 17), .lit (.int .u8 4), .lit (.int .u8 62), .lit (.int .u8 47), .lit (.int .u8 59), .lit (.int .u8 36), .lit (.int .u8 45), .lit (.int .u8 43), .lit (.int .u8 51), .lit (.int .u8 22), .lit (.int .u8 53), .lit (.int .u8 39), .lit (.int .u8 33), .lit (.int .u8 30), .lit (.int .u8 24), .lit (.int .u8 18), .lit (.int .u8 12), .lit (.int .u8 5), .lit (.int .u8 63), .lit (.int .u8 55), .lit (.int .u8 48), .lit (.int .u8 27), .lit (.int .u8 60), .lit (.int .u8 41), .lit (.int .u8 37), .lit (.int .u8 16), .lit (.int .u8 46), .lit (.int .u8 35), .lit (.int .u8 44), .lit (.int .u8 21), .lit (.int .u8 52), .lit (.int .u8 32), .lit (.int .u8 23), .lit (.int .u8 11), .lit (.int .u8 54), .lit (.int .u8 26), .lit (.int .u8 40), .lit (.int .u8 15), .lit (.int .u8 34), .lit (.int .u8 20), .lit (.int .u8 31), .lit (.int .u8 10), .lit (.int .u8 25), .lit (.int .u8 14), .lit (.int .u8 19), .lit (.int .u8 9), .lit (.int .u8 13), .lit (.int .u8 8), .lit (.int .u8 7), .lit (.int .u8 6)]
def laid_internal_strconv_uint64pow10 {H : Type} : DataW H := .agg [.lit (.int .u64 1), .lit (.int .u64 10), .lit (.int .u64 100), .lit (.int .u64 1000), .lit (.int .u64 10000), .lit (.int .u64 100000), .lit (.int .u64 1000000), .lit (.int .u64 10000000), .lit (.int .u64 100000000), .lit (.int .u64 1000000000), .lit (.int .u64 10000000000), .lit (.int .u64 100000000000), .lit (.int .u64 1000000000000), .lit (.int .u64 10000000000000), .lit (.int .u64 100000000000000), .lit (.int .u64 1000000000000000), .lit (.int .u64 10000000000000000), .lit (.int .u64 100000000000000000), .lit (.int .u64 1000000000000000000), .lit (.int .u64 10000000000000000000)]
def laid_strconv_ErrRange {H : Type} : DataW H := .iface "*errors.errorString" (.ptr (.agg [.lit (.string [118, 97, 108, 117, 101, 32, 111, 117, 116, 32, 111, 102, 32, 114, 97, 110, 103, 101])]))
def laid_strconv_ErrSyntax {H : Type} : DataW H := .iface "*errors.errorString" (.ptr (.agg [.lit (.string [105, 110, 118, 97, 108, 105, 100, 32, 115, 121, 110, 116, 97, 120])]))
def laid_loop_example_g00400_impl_errNoNumber {H : Type} : DataW H := .iface "*errors.errorString" (.ptr (.agg [.lit (.string [110, 111, 32, 110, 117, 109, 98, 101, 114])]))

/-- 'laws.FnFee': WHATEVER THE INPUT: true; the input reads as it did. -/
def fnFeeSpec : ChangeSpec := { name := "fnFee", vars := ["loop.example/g00400/impl.errNoRate", "loop.example/g00400/impl.errNoAmount", "loop.example/g00400/impl.errNoDivisor"], fn := fun _ => fun
  | [d, g1, g2, g3] => { results := [.lit (.bool true)], args := [d], vars := [g1, g2, g3] }
  | _ => none }
def fnFeeRow : OpenClaim := { program := "ytjmhnpnjiaeamaadoor", sum := "e5ef7acaf2bd5fca74c0a81574f3b1e5927624145b81b7966240453f191c98c4", func := "loop.example/g00400/laws.FnFee", spec := "fnFee", named := ["loop.example/g00400/impl.errNoRate", "loop.example/g00400/impl.errNoAmount", "loop.example/g00400/impl.errNoDivisor", "math/bits.divideError", "math/bits.overflowError"], ifaces := true, apart := false, laid := [("loop.example/g00400/impl.errNoAmount", laid_loop_example_g00400_impl_errNoAmount), ("loop.example/g00400/impl.errNoDivisor", laid_loop_example_g00400_impl_errNoDivisor), ("loop.example/g00400/impl.errNoRate", laid_loop_example_g00400_impl_errNoRate)] }
def FnFeeSaid : Prop := fnFeeRow.holds Tryd.pinned (OpenSpec.ofChange fnFeeSpec)

/-- ITS FALSE NEIGHBOUR: 'it returns false'. Refute it at one input. -/
def fnFeeWrong : ChangeSpec := { name := "fnFee", vars := ["loop.example/g00400/impl.errNoRate", "loop.example/g00400/impl.errNoAmount", "loop.example/g00400/impl.errNoDivisor"], fn := fun _ => fun
  | [d, g1, g2, g3] => { results := [.lit (.bool false)], args := [d], vars := [g1, g2, g3] }
  | _ => none }
def FnFeeWrongFalsely : Prop := fnFeeRow.holds Tryd.pinned (OpenSpec.ofChange fnFeeWrong)

/-- 'laws.FnMulDiv': WHATEVER THE INPUT: true; the input reads as it did. -/
def fnMulDivSpec : ChangeSpec := { name := "fnMulDiv", vars := ["loop.example/g00400/impl.errNoAmount", "loop.example/g00400/impl.errNoDivisor"], fn := fun _ => fun
  | [d, g1, g2] => { results := [.lit (.bool true)], args := [d], vars := [g1, g2] }
  | _ => none }
def fnMulDivRow : OpenClaim := { program := "ytjmhnpnjiaeamaadoor", sum := "e5ef7acaf2bd5fca74c0a81574f3b1e5927624145b81b7966240453f191c98c4", func := "loop.example/g00400/laws.FnMulDiv", spec := "fnMulDiv", named := ["loop.example/g00400/impl.errNoAmount", "loop.example/g00400/impl.errNoDivisor", "math/bits.divideError", "math/bits.overflowError"], ifaces := true, apart := false, laid := [("loop.example/g00400/impl.errNoAmount", laid_loop_example_g00400_impl_errNoAmount), ("loop.example/g00400/impl.errNoDivisor", laid_loop_example_g00400_impl_errNoDivisor)] }
def FnMulDivSaid : Prop := fnMulDivRow.holds Tryd.pinned (OpenSpec.ofChange fnMulDivSpec)

/-- ITS FALSE NEIGHBOUR: 'it returns false'. Refute it at one input. -/
def fnMulDivWrong : ChangeSpec := { name := "fnMulDiv", vars := ["loop.example/g00400/impl.errNoAmount", "loop.example/g00400/impl.errNoDivisor"], fn := fun _ => fun
  | [d, g1, g2] => { results := [.lit (.bool false)], args := [d], vars := [g1, g2] }
  | _ => none }
def FnMulDivWrongFalsely : Prop := fnMulDivRow.holds Tryd.pinned (OpenSpec.ofChange fnMulDivWrong)

/-- 'laws.FnExactAddAmt': WHATEVER THE INPUT: true; the input reads as it did. -/
def fnExactAddAmtSpec : ChangeSpec := { name := "fnExactAddAmt", vars := ["loop.example/g00400/impl.errNoAmount"], fn := fun _ => fun
  | [d1, d2, g1] => { results := [.lit (.bool true)], args := [d1, d2], vars := [g1] }
  | _ => none }
def fnExactAddAmtRow : OpenClaim := { program := "ytjmhnpnjiaeamaadoor", sum := "e5ef7acaf2bd5fca74c0a81574f3b1e5927624145b81b7966240453f191c98c4", func := "loop.example/g00400/laws.FnExactAddAmt", spec := "fnExactAddAmt", named := ["loop.example/g00400/impl.errNoAmount"], ifaces := true, apart := false, laid := [("loop.example/g00400/impl.errNoAmount", laid_loop_example_g00400_impl_errNoAmount)] }
def FnExactAddAmtSaid : Prop := fnExactAddAmtRow.holds Tryd.pinned (OpenSpec.ofChange fnExactAddAmtSpec)

/-- ITS FALSE NEIGHBOUR: 'it returns false'. Refute it at one input. -/
def fnExactAddAmtWrong : ChangeSpec := { name := "fnExactAddAmt", vars := ["loop.example/g00400/impl.errNoAmount"], fn := fun _ => fun
  | [d1, d2, g1] => { results := [.lit (.bool false)], args := [d1, d2], vars := [g1] }
  | _ => none }
def FnExactAddAmtWrongFalsely : Prop := fnExactAddAmtRow.holds Tryd.pinned (OpenSpec.ofChange fnExactAddAmtWrong)

/-- 'laws.FnExactSubAmt': WHATEVER THE INPUT: true; the input reads as it did. -/
def fnExactSubAmtSpec : ChangeSpec := { name := "fnExactSubAmt", vars := ["loop.example/g00400/impl.errNoAmount"], fn := fun _ => fun
  | [d1, d2, g1] => { results := [.lit (.bool true)], args := [d1, d2], vars := [g1] }
  | _ => none }
def fnExactSubAmtRow : OpenClaim := { program := "ytjmhnpnjiaeamaadoor", sum := "e5ef7acaf2bd5fca74c0a81574f3b1e5927624145b81b7966240453f191c98c4", func := "loop.example/g00400/laws.FnExactSubAmt", spec := "fnExactSubAmt", named := ["loop.example/g00400/impl.errNoAmount"], ifaces := true, apart := false, laid := [("loop.example/g00400/impl.errNoAmount", laid_loop_example_g00400_impl_errNoAmount)] }
def FnExactSubAmtSaid : Prop := fnExactSubAmtRow.holds Tryd.pinned (OpenSpec.ofChange fnExactSubAmtSpec)

/-- ITS FALSE NEIGHBOUR: 'it returns false'. Refute it at one input. -/
def fnExactSubAmtWrong : ChangeSpec := { name := "fnExactSubAmt", vars := ["loop.example/g00400/impl.errNoAmount"], fn := fun _ => fun
  | [d1, d2, g1] => { results := [.lit (.bool false)], args := [d1, d2], vars := [g1] }
  | _ => none }
def FnExactSubAmtWrongFalsely : Prop := fnExactSubAmtRow.holds Tryd.pinned (OpenSpec.ofChange fnExactSubAmtWrong)

/-- 'laws.FnExactMulDiv': WHATEVER THE INPUT: true; the input reads as it did. -/
def fnExactMulDivSpec : ChangeSpec := { name := "fnExactMulDiv", vars := ["loop.example/g00400/impl.errNoAmount", "loop.example/g00400/impl.errNoDivisor"], fn := fun _ => fun
  | [d1, d2, d3, g1, g2] => { results := [.lit (.bool true)], args := [d1, d2, d3], vars := [g1, g2] }
  | _ => none }
def fnExactMulDivRow : OpenClaim := { program := "ytjmhnpnjiaeamaadoor", sum := "e5ef7acaf2bd5fca74c0a81574f3b1e5927624145b81b7966240453f191c98c4", func := "loop.example/g00400/laws.FnExactMulDiv", spec := "fnExactMulDiv", named := ["loop.example/g00400/impl.errNoAmount", "loop.example/g00400/impl.errNoDivisor", "math/bits.divideError", "math/bits.overflowError"], ifaces := true, apart := false, laid := [("loop.example/g00400/impl.errNoAmount", laid_loop_example_g00400_impl_errNoAmount), ("loop.example/g00400/impl.errNoDivisor", laid_loop_example_g00400_impl_errNoDivisor)] }
def FnExactMulDivSaid : Prop := fnExactMulDivRow.holds Tryd.pinned (OpenSpec.ofChange fnExactMulDivSpec)

/-- ITS FALSE NEIGHBOUR: 'it returns false'. Refute it at one input. -/
def fnExactMulDivWrong : ChangeSpec := { name := "fnExactMulDiv", vars := ["loop.example/g00400/impl.errNoAmount", "loop.example/g00400/impl.errNoDivisor"], fn := fun _ => fun
  | [d1, d2, d3, g1, g2] => { results := [.lit (.bool false)], args := [d1, d2, d3], vars := [g1, g2] }
  | _ => none }
def FnExactMulDivWrongFalsely : Prop := fnExactMulDivRow.holds Tryd.pinned (OpenSpec.ofChange fnExactMulDivWrong)

/-- 'laws.FnExactFee': WHATEVER THE INPUT: true; the input reads as it did. -/
def fnExactFeeSpec : ChangeSpec := { name := "fnExactFee", vars := ["loop.example/g00400/impl.errNoRate", "loop.example/g00400/impl.errNoAmount", "loop.example/g00400/impl.errNoDivisor"], fn := fun _ => fun
  | [d1, d2, d3, g1, g2, g3] => { results := [.lit (.bool true)], args := [d1, d2, d3], vars := [g1, g2, g3] }
  | _ => none }
def fnExactFeeRow : OpenClaim := { program := "ytjmhnpnjiaeamaadoor", sum := "e5ef7acaf2bd5fca74c0a81574f3b1e5927624145b81b7966240453f191c98c4", func := "loop.example/g00400/laws.FnExactFee", spec := "fnExactFee", named := ["loop.example/g00400/impl.errNoRate", "loop.example/g00400/impl.errNoAmount", "loop.example/g00400/impl.errNoDivisor", "math/bits.divideError", "math/bits.overflowError"], ifaces := true, apart := false, laid := [("loop.example/g00400/impl.errNoAmount", laid_loop_example_g00400_impl_errNoAmount), ("loop.example/g00400/impl.errNoDivisor", laid_loop_example_g00400_impl_errNoDivisor), ("loop.example/g00400/impl.errNoRate", laid_loop_example_g00400_impl_errNoRate)] }
def FnExactFeeSaid : Prop := fnExactFeeRow.holds Tryd.pinned (OpenSpec.ofChange fnExactFeeSpec)

/-- ITS FALSE NEIGHBOUR: 'it returns false'. Refute it at one input. -/
def fnExactFeeWrong : ChangeSpec := { name := "fnExactFee", vars := ["loop.example/g00400/impl.errNoRate", "loop.example/g00400/impl.errNoAmount", "loop.example/g00400/impl.errNoDivisor"], fn := fun _ => fun
  | [d1, d2, d3, g1, g2, g3] => { results := [.lit (.bool false)], args := [d1, d2, d3], vars := [g1, g2, g3] }
  | _ => none }
def FnExactFeeWrongFalsely : Prop := fnExactFeeRow.holds Tryd.pinned (OpenSpec.ofChange fnExactFeeWrong)

/-- 'laws.FnExactFeeUp': WHATEVER THE INPUT: true; the input reads as it did. -/
def fnExactFeeUpSpec : ChangeSpec := { name := "fnExactFeeUp", vars := ["loop.example/g00400/impl.errNoRate", "loop.example/g00400/impl.errNoAmount", "loop.example/g00400/impl.errNoDivisor"], fn := fun _ => fun
  | [d1, d2, d3, g1, g2, g3] => { results := [.lit (.bool true)], args := [d1, d2, d3], vars := [g1, g2, g3] }
  | _ => none }
def fnExactFeeUpRow : OpenClaim := { program := "ytjmhnpnjiaeamaadoor", sum := "e5ef7acaf2bd5fca74c0a81574f3b1e5927624145b81b7966240453f191c98c4", func := "loop.example/g00400/laws.FnExactFeeUp", spec := "fnExactFeeUp", named := ["loop.example/g00400/impl.errNoRate", "loop.example/g00400/impl.errNoAmount", "loop.example/g00400/impl.errNoDivisor", "math/bits.divideError", "math/bits.overflowError"], ifaces := true, apart := false, laid := [("loop.example/g00400/impl.errNoAmount", laid_loop_example_g00400_impl_errNoAmount), ("loop.example/g00400/impl.errNoDivisor", laid_loop_example_g00400_impl_errNoDivisor), ("loop.example/g00400/impl.errNoRate", laid_loop_example_g00400_impl_errNoRate)] }
def FnExactFeeUpSaid : Prop := fnExactFeeUpRow.holds Tryd.pinned (OpenSpec.ofChange fnExactFeeUpSpec)

/-- ITS FALSE NEIGHBOUR: 'it returns false'. Refute it at one input. -/
def fnExactFeeUpWrong : ChangeSpec := { name := "fnExactFeeUp", vars := ["loop.example/g00400/impl.errNoRate", "loop.example/g00400/impl.errNoAmount", "loop.example/g00400/impl.errNoDivisor"], fn := fun _ => fun
  | [d1, d2, d3, g1, g2, g3] => { results := [.lit (.bool false)], args := [d1, d2, d3], vars := [g1, g2, g3] }
  | _ => none }
def FnExactFeeUpWrongFalsely : Prop := fnExactFeeUpRow.holds Tryd.pinned (OpenSpec.ofChange fnExactFeeUpWrong)

/-- 'laws.FnExactNumText': WHATEVER THE INPUT: true; the input reads as it did. -/
def fnExactNumTextSpec : ChangeSpec := { name := "fnExactNumText", fn := fun _ => fun
  | [d] => { results := [.lit (.bool true)], args := [d] }
  | _ => none }
def fnExactNumTextRow : OpenClaim := { program := "ytjmhnpnjiaeamaadoor", sum := "e5ef7acaf2bd5fca74c0a81574f3b1e5927624145b81b7966240453f191c98c4", func := "loop.example/g00400/laws.FnExactNumText", spec := "fnExactNumText", recurses := true, named := ["internal/strconv.uint64pow10", "math/bits.deBruijn32tab", "math/bits.deBruijn64tab"], apart := false, laid := [("math/bits.deBruijn32tab", laid_math_bits_deBruijn32tab), ("math/bits.deBruijn64tab", laid_math_bits_deBruijn64tab), ("internal/strconv.uint64pow10", laid_internal_strconv_uint64pow10)] }
def FnExactNumTextSaid : Prop := fnExactNumTextRow.holds Tryd.pinned (OpenSpec.ofChange fnExactNumTextSpec)

/-- ITS FALSE NEIGHBOUR: 'it returns false'. Refute it at one input. -/
def fnExactNumTextWrong : ChangeSpec := { name := "fnExactNumText", fn := fun _ => fun
  | [d] => { results := [.lit (.bool false)], args := [d] }
  | _ => none }
def FnExactNumTextWrongFalsely : Prop := fnExactNumTextRow.holds Tryd.pinned (OpenSpec.ofChange fnExactNumTextWrong)

/-- 'laws.FnExactTextNum': WHATEVER THE INPUT: true; the input reads as it did. -/
def fnExactTextNumSpec : ChangeSpec := { name := "fnExactTextNum", vars := ["loop.example/g00400/impl.errNoNumber"], fn := fun _ => fun
  | [d, g1] => { results := [.lit (.bool true)], args := [d], vars := [g1] }
  | _ => none }
def fnExactTextNumRow : OpenClaim := { program := "ytjmhnpnjiaeamaadoor", sum := "e5ef7acaf2bd5fca74c0a81574f3b1e5927624145b81b7966240453f191c98c4", func := "loop.example/g00400/laws.FnExactTextNum", spec := "fnExactTextNum", recurses := true, named := ["loop.example/g00400/impl.errNoNumber", "strconv.ErrSyntax", "strconv.ErrRange", "internal/strconv.uint64pow10", "math/bits.deBruijn32tab", "math/bits.deBruijn64tab"], ifaces := true, apart := false, laid := [("math/bits.deBruijn32tab", laid_math_bits_deBruijn32tab), ("math/bits.deBruijn64tab", laid_math_bits_deBruijn64tab), ("internal/strconv.uint64pow10", laid_internal_strconv_uint64pow10), ("strconv.ErrRange", laid_strconv_ErrRange), ("strconv.ErrSyntax", laid_strconv_ErrSyntax), ("loop.example/g00400/impl.errNoNumber", laid_loop_example_g00400_impl_errNoNumber)] }
def FnExactTextNumSaid : Prop := fnExactTextNumRow.holds Tryd.pinned (OpenSpec.ofChange fnExactTextNumSpec)

/-- ITS FALSE NEIGHBOUR: 'it returns false'. Refute it at one input. -/
def fnExactTextNumWrong : ChangeSpec := { name := "fnExactTextNum", vars := ["loop.example/g00400/impl.errNoNumber"], fn := fun _ => fun
  | [d, g1] => { results := [.lit (.bool false)], args := [d], vars := [g1] }
  | _ => none }
def FnExactTextNumWrongFalsely : Prop := fnExactTextNumRow.holds Tryd.pinned (OpenSpec.ofChange fnExactTextNumWrong)

/- THE SECOND FORM. 'bulk': how many values and letters a reading holds, each counted each time it is reached (what is shared counts as often as it is met; a slice's spare places count too). A statement '..UptoSaid' is the law's where the arguments, and the package variables that the reading takes, are together of bulk at most 1048576: NARROWER than '..Said'. Prove '..Said' where nothing that the law and all that it calls make is longer than what came in: it says more and counts as full. Else prove '..UptoSaid'. A law counts once. -/
mutual
def uptoBulk {H : Type} : DataW H → Nat
  | .lit (.string bytes) => bytes.length + 1
  | .lit _ => 1
  | .nil => 1
  | .ptr d => uptoBulk d + 1
  | .slice elems spare => uptoBulkAll elems + uptoBulkAll spare + 1
  | .agg parts => uptoBulkAll parts + 1
  | .iface _ d => uptoBulk d + 1
  | .map entries => uptoBulkEntries entries + 1
  | .held _ => 1
def uptoBulkAll {H : Type} : List (DataW H) → Nat
  | [] => 0
  | d :: r => uptoBulk d + uptoBulkAll r
def uptoBulkEntries {H : Type} : List (Lit × DataW H) → Nat
  | [] => 0
  | x :: r => uptoBulkEntry x + uptoBulkEntries r
def uptoBulkEntry {H : Type} : Lit × DataW H → Nat
  | (.string bytes, d) => bytes.length + uptoBulk d + 1
  | (_, d) => uptoBulk d + 1
 end
def uptoSmall : (H : Type) → List (DataW H) → Bool := fun _ ds => decide (uptoBulkAll ds ≤ 1048576)
def OpenSpec.upto (s : _root_.Go.ChangeSpec) : _root_.Go.OpenSpec := { _root_.Go.OpenSpec.ofChange s with cond := some uptoSmall }

/-- 'laws.FnFee', WHERE WHAT IT READS IS OF BULK AT MOST 1048576: true; the input reads as it did. -/
def fnFeeUptoRow : OpenClaim := { program := "ytjmhnpnjiaeamaadoor", sum := "e5ef7acaf2bd5fca74c0a81574f3b1e5927624145b81b7966240453f191c98c4", func := "loop.example/g00400/laws.FnFee", spec := "fnFee", named := ["loop.example/g00400/impl.errNoRate", "loop.example/g00400/impl.errNoAmount", "loop.example/g00400/impl.errNoDivisor", "math/bits.divideError", "math/bits.overflowError"], ifaces := true, apart := false, laid := [("loop.example/g00400/impl.errNoAmount", laid_loop_example_g00400_impl_errNoAmount), ("loop.example/g00400/impl.errNoDivisor", laid_loop_example_g00400_impl_errNoDivisor), ("loop.example/g00400/impl.errNoRate", laid_loop_example_g00400_impl_errNoRate)], narrowed := true }
def FnFeeUptoSaid : Prop := fnFeeUptoRow.holds Tryd.pinned (OpenSpec.upto fnFeeSpec)

/-- 'laws.FnMulDiv', WHERE WHAT IT READS IS OF BULK AT MOST 1048576: true; the input reads as it did. -/
def fnMulDivUptoRow : OpenClaim := { program := "ytjmhnpnjiaeamaadoor", sum := "e5ef7acaf2bd5fca74c0a81574f3b1e5927624145b81b7966240453f191c98c4", func := "loop.example/g00400/laws.FnMulDiv", spec := "fnMulDiv", named := ["loop.example/g00400/impl.errNoAmount", "loop.example/g00400/impl.errNoDivisor", "math/bits.divideError", "math/bits.overflowError"], ifaces := true, apart := false, laid := [("loop.example/g00400/impl.errNoAmount", laid_loop_example_g00400_impl_errNoAmount), ("loop.example/g00400/impl.errNoDivisor", laid_loop_example_g00400_impl_errNoDivisor)], narrowed := true }
def FnMulDivUptoSaid : Prop := fnMulDivUptoRow.holds Tryd.pinned (OpenSpec.upto fnMulDivSpec)

/-- 'laws.FnExactAddAmt', WHERE WHAT IT READS IS OF BULK AT MOST 1048576: true; the input reads as it did. -/
def fnExactAddAmtUptoRow : OpenClaim := { program := "ytjmhnpnjiaeamaadoor", sum := "e5ef7acaf2bd5fca74c0a81574f3b1e5927624145b81b7966240453f191c98c4", func := "loop.example/g00400/laws.FnExactAddAmt", spec := "fnExactAddAmt", named := ["loop.example/g00400/impl.errNoAmount"], ifaces := true, apart := false, laid := [("loop.example/g00400/impl.errNoAmount", laid_loop_example_g00400_impl_errNoAmount)], narrowed := true }
def FnExactAddAmtUptoSaid : Prop := fnExactAddAmtUptoRow.holds Tryd.pinned (OpenSpec.upto fnExactAddAmtSpec)

/-- 'laws.FnExactSubAmt', WHERE WHAT IT READS IS OF BULK AT MOST 1048576: true; the input reads as it did. -/
def fnExactSubAmtUptoRow : OpenClaim := { program := "ytjmhnpnjiaeamaadoor", sum := "e5ef7acaf2bd5fca74c0a81574f3b1e5927624145b81b7966240453f191c98c4", func := "loop.example/g00400/laws.FnExactSubAmt", spec := "fnExactSubAmt", named := ["loop.example/g00400/impl.errNoAmount"], ifaces := true, apart := false, laid := [("loop.example/g00400/impl.errNoAmount", laid_loop_example_g00400_impl_errNoAmount)], narrowed := true }
def FnExactSubAmtUptoSaid : Prop := fnExactSubAmtUptoRow.holds Tryd.pinned (OpenSpec.upto fnExactSubAmtSpec)

/-- 'laws.FnExactMulDiv', WHERE WHAT IT READS IS OF BULK AT MOST 1048576: true; the input reads as it did. -/
def fnExactMulDivUptoRow : OpenClaim := { program := "ytjmhnpnjiaeamaadoor", sum := "e5ef7acaf2bd5fca74c0a81574f3b1e5927624145b81b7966240453f191c98c4", func := "loop.example/g00400/laws.FnExactMulDiv", spec := "fnExactMulDiv", named := ["loop.example/g00400/impl.errNoAmount", "loop.example/g00400/impl.errNoDivisor", "math/bits.divideError", "math/bits.overflowError"], ifaces := true, apart := false, laid := [("loop.example/g00400/impl.errNoAmount", laid_loop_example_g00400_impl_errNoAmount), ("loop.example/g00400/impl.errNoDivisor", laid_loop_example_g00400_impl_errNoDivisor)], narrowed := true }
def FnExactMulDivUptoSaid : Prop := fnExactMulDivUptoRow.holds Tryd.pinned (OpenSpec.upto fnExactMulDivSpec)

/-- 'laws.FnExactFee', WHERE WHAT IT READS IS OF BULK AT MOST 1048576: true; the input reads as it did. -/
def fnExactFeeUptoRow : OpenClaim := { program := "ytjmhnpnjiaeamaadoor", sum := "e5ef7acaf2bd5fca74c0a81574f3b1e5927624145b81b7966240453f191c98c4", func := "loop.example/g00400/laws.FnExactFee", spec := "fnExactFee", named := ["loop.example/g00400/impl.errNoRate", "loop.example/g00400/impl.errNoAmount", "loop.example/g00400/impl.errNoDivisor", "math/bits.divideError", "math/bits.overflowError"], ifaces := true, apart := false, laid := [("loop.example/g00400/impl.errNoAmount", laid_loop_example_g00400_impl_errNoAmount), ("loop.example/g00400/impl.errNoDivisor", laid_loop_example_g00400_impl_errNoDivisor), ("loop.example/g00400/impl.errNoRate", laid_loop_example_g00400_impl_errNoRate)], narrowed := true }
def FnExactFeeUptoSaid : Prop := fnExactFeeUptoRow.holds Tryd.pinned (OpenSpec.upto fnExactFeeSpec)

/-- 'laws.FnExactFeeUp', WHERE WHAT IT READS IS OF BULK AT MOST 1048576: true; the input reads as it did. -/
def fnExactFeeUpUptoRow : OpenClaim := { program := "ytjmhnpnjiaeamaadoor", sum := "e5ef7acaf2bd5fca74c0a81574f3b1e5927624145b81b7966240453f191c98c4", func := "loop.example/g00400/laws.FnExactFeeUp", spec := "fnExactFeeUp", named := ["loop.example/g00400/impl.errNoRate", "loop.example/g00400/impl.errNoAmount", "loop.example/g00400/impl.errNoDivisor", "math/bits.divideError", "math/bits.overflowError"], ifaces := true, apart := false, laid := [("loop.example/g00400/impl.errNoAmount", laid_loop_example_g00400_impl_errNoAmount), ("loop.example/g00400/impl.errNoDivisor", laid_loop_example_g00400_impl_errNoDivisor), ("loop.example/g00400/impl.errNoRate", laid_loop_example_g00400_impl_errNoRate)], narrowed := true }
def FnExactFeeUpUptoSaid : Prop := fnExactFeeUpUptoRow.holds Tryd.pinned (OpenSpec.upto fnExactFeeUpSpec)

/-- 'laws.FnExactNumText', WHERE WHAT IT READS IS OF BULK AT MOST 1048576: true; the input reads as it did. -/
def fnExactNumTextUptoRow : OpenClaim := { program := "ytjmhnpnjiaeamaadoor", sum := "e5ef7acaf2bd5fca74c0a81574f3b1e5927624145b81b7966240453f191c98c4", func := "loop.example/g00400/laws.FnExactNumText", spec := "fnExactNumText", recurses := true, named := ["internal/strconv.uint64pow10", "math/bits.deBruijn32tab", "math/bits.deBruijn64tab"], apart := false, laid := [("math/bits.deBruijn32tab", laid_math_bits_deBruijn32tab), ("math/bits.deBruijn64tab", laid_math_bits_deBruijn64tab), ("internal/strconv.uint64pow10", laid_internal_strconv_uint64pow10)], narrowed := true }
def FnExactNumTextUptoSaid : Prop := fnExactNumTextUptoRow.holds Tryd.pinned (OpenSpec.upto fnExactNumTextSpec)

/-- 'laws.FnExactTextNum', WHERE WHAT IT READS IS OF BULK AT MOST 1048576: true; the input reads as it did. -/
def fnExactTextNumUptoRow : OpenClaim := { program := "ytjmhnpnjiaeamaadoor", sum := "e5ef7acaf2bd5fca74c0a81574f3b1e5927624145b81b7966240453f191c98c4", func := "loop.example/g00400/laws.FnExactTextNum", spec := "fnExactTextNum", recurses := true, named := ["loop.example/g00400/impl.errNoNumber", "strconv.ErrSyntax", "strconv.ErrRange", "internal/strconv.uint64pow10", "math/bits.deBruijn32tab", "math/bits.deBruijn64tab"], ifaces := true, apart := false, laid := [("math/bits.deBruijn32tab", laid_math_bits_deBruijn32tab), ("math/bits.deBruijn64tab", laid_math_bits_deBruijn64tab), ("internal/strconv.uint64pow10", laid_internal_strconv_uint64pow10), ("strconv.ErrRange", laid_strconv_ErrRange), ("strconv.ErrSyntax", laid_strconv_ErrSyntax), ("loop.example/g00400/impl.errNoNumber", laid_loop_example_g00400_impl_errNoNumber)], narrowed := true }
def FnExactTextNumUptoSaid : Prop := fnExactTextNumUptoRow.holds Tryd.pinned (OpenSpec.upto fnExactTextNumSpec)

end Rows
end Go.Proofs.YtjmhnpnjiaeamaaDoor
