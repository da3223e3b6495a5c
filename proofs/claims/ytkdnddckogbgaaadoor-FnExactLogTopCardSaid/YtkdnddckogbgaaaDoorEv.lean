/- Events as data: which fields a kind has, and when an event is right. -/
import Derived.Test.YtkdnddckogbgaaaDoorKeep
namespace Go.Proofs.YtkdnddckogbgaaaDoor
open Go.RowKit
set_option linter.unusedVariables false

/-- An event: kind, key, channel, the other channel, amount, fee, yes. -/
structure Ev where
  k : Int
  y : Int
  c : Int
  t : Int
  m : Int
  f : Int
  b : Bool
abbrev evV (k y c t m f : Int) (b : Bool) : Value := .agg #[.int .i64 k, .int .i64 y, .int .i64 c, .int .i64 t, .int .i64 m, .int .i64 f, .bool b]
abbrev evCells (k y c t m f : Int) (b : Bool) : Array Value := #[.int .i64 k, .int .i64 y, .int .i64 c, .int .i64 t, .int .i64 m, .int .i64 f, .bool b]

def fieldB (h : Bool) (n lo hi : Int) : Bool := if h then decide (lo ≤ n) && decide (n ≤ hi) else decide (n = 0)
/-- Is the event right, kind by kind? -/
def evB (k y c t m f : Int) (b : Bool) : Bool :=
  if k = 1 then fieldB false y 1 1000000 && fieldB false c 1 99 && fieldB false t 1 99 && fieldB true m 1 1125899906842624 && fieldB false f 0 1125899906842624 && !b
  else if k = 2 then fieldB false y 1 1000000 && fieldB true c 1 99 && fieldB false t 1 99 && fieldB true m 1 1125899906842624 && fieldB true f 0 1125899906842624 && !b
  else if k = 3 then fieldB false y 1 1000000 && fieldB true c 1 99 && fieldB false t 1 99 && fieldB false m 1 1125899906842624 && fieldB true f 0 1125899906842624 && !b
  else if k = 4 then fieldB false y 1 1000000 && fieldB true c 1 99 && fieldB false t 1 99 && fieldB true m 0 1125899906842624 && fieldB true f 0 1000000 && !b
  else if k = 5 then fieldB true y 1 1000000 && fieldB true c 1 99 && fieldB true t 1 99 && !decide (c = t) && fieldB true m 1 1125899906842624 && fieldB false f 0 1125899906842624
  else if k = 8 then fieldB false y 1 1000000 && fieldB false c 1 99 && fieldB false t 1 99 && fieldB false m 1 1125899906842624 && fieldB false f 0 1125899906842624 && !b
  else if k = 9 then fieldB true y 1 1000000 && fieldB true c 1 99 && fieldB true t 1 99 && !decide (c = t) && fieldB true m 1 1125899906842624 && fieldB true f 0 1125899906842624 && !b
  else if k = 6 ∨ k = 7 ∨ k = 10 ∨ k = 11 then fieldB true y 1 1000000 && fieldB false c 1 99 && fieldB false t 1 99 && fieldB false m 1 1125899906842624 && fieldB false f 0 1125899906842624 && !b
  else false
end Go.Proofs.YtkdnddckogbgaaaDoor
