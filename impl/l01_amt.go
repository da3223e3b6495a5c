package impl

import (
	"errors"
	"math/bits"
	"strconv"
)

const MaxAmt = 1125899906842624
const Million = 1000000

var errNoAmount = errors.New("no amount")
var errNoDivisor = errors.New("no divisor")
var errNoRate = errors.New("no parts of a million")
var errNoNumber = errors.New("no number")

// A product of two amounts has up to 101 bits, so it needs two halves.
type product struct {
	high uint64
	low  uint64
}

func AmtOk(n int) bool { return 0 <= n && n <= MaxAmt }

func AddAmt(a int, b int) (int, bool) { return told(sum(a, b)) }

func SubAmt(a int, b int) (int, bool) { return told(difference(a, b)) }

func MulDiv(a int, b int, c int) (int, bool) {
	quotient, _, err := divide(a, b, c)
	return told(quotient, err)
}

func Fee(base int, ppm int, amt int) (int, bool) { return told(feeDown(base, ppm, amt)) }

func FeeUp(base int, ppm int, amt int) (int, bool) { return told(feeUp(base, ppm, amt)) }

func NumText(n int) string {
	if n < -MaxAmt || n > MaxAmt {
		return ""
	}
	return strconv.Itoa(n)
}

func TextNum(s string) (int, bool) { return told(number(s)) }

func WordOk(s string) bool {
	if len(s) < 1 || len(s) > 8 {
		return false
	}
	for i := 0; i < len(s); i++ {
		if s[i] < 'a' || s[i] > 'z' {
			return false
		}
	}
	return true
}

func Clamp(n int, lo int, hi int) int {
	// lo comes first: where the ends are crossed, it wins over hi.
	if n < lo {
		return lo
	}
	if n > hi {
		return hi
	}
	return n
}

// The face tells only whether something went wrong, not what.
func told(n int, err error) (int, bool) {
	if err != nil {
		return 0, false
	}
	return n, true
}

func sum(a int, b int) (int, error) {
	// Of two amounts the sum fits an int; of any two ints it may not.
	if !AmtOk(a) || !AmtOk(b) || !AmtOk(a+b) {
		return 0, errNoAmount
	}
	return a + b, nil
}

func difference(a int, b int) (int, error) {
	if !AmtOk(a) || !AmtOk(b) || !AmtOk(a-b) {
		return 0, errNoAmount
	}
	return a - b, nil
}

func multiply(a int, b int) (product, error) {
	if !AmtOk(a) || !AmtOk(b) {
		return product{}, errNoAmount
	}
	high, low := bits.Mul64(uint64(a), uint64(b))
	return product{high: high, low: low}, nil
}

// over divides p by c: the quotient cut down, and the rest.
func (p product) over(c int) (int, int, error) {
	if c < 1 || c > MaxAmt {
		return 0, 0, errNoDivisor
	}
	// Here the quotient has more than 64 bits, and bits.Div64 would panic.
	if p.high >= uint64(c) {
		return 0, 0, errNoAmount
	}
	quotient, rest := bits.Div64(p.high, p.low, uint64(c))
	if quotient > MaxAmt {
		return 0, 0, errNoAmount
	}
	return int(quotient), int(rest), nil
}

func divide(a int, b int, c int) (int, int, error) {
	p, err := multiply(a, b)
	if err != nil {
		return 0, 0, err
	}
	return p.over(c)
}

// share is amt times ppm over Million, with the rest that says where to cut up.
func share(ppm int, amt int) (int, int, error) {
	if ppm > Million {
		return 0, 0, errNoRate
	}
	return divide(amt, ppm, Million)
}

func feeDown(base int, ppm int, amt int) (int, error) {
	part, _, err := share(ppm, amt)
	if err != nil {
		return 0, err
	}
	return sum(base, part)
}

func feeUp(base int, ppm int, amt int) (int, error) {
	part, rest, err := share(ppm, amt)
	if err != nil {
		return 0, err
	}
	if rest > 0 {
		part++
	}
	return sum(base, part)
}

func number(s string) (int, error) {
	n, err := strconv.Atoi(s)
	// Atoi also takes "+5", "05" and "-0"; only what NumText writes counts.
	if err != nil || NumText(n) != s {
		return 0, errNoNumber
	}
	return n, nil
}
