package tests

import (
	"math"
	"math/big"
	"testing"

	"loop.example/g00400/impl"
)

const top = impl.MaxAmt

// edges are the numbers at which some function of the chapter changes its answer, and those beside them.
func edges() []int {
	return []int{
		math.MinInt, math.MinInt + 1, -impl.MaxAmt - 1, -impl.MaxAmt, -impl.MaxAmt + 1, -impl.Million, -2, -1,
		0, 1, 2, 3, 7, 10,
		impl.Million - 1, impl.Million, impl.Million + 1,
		1<<31 - 1, 1 << 31, 1<<32 - 1, 1 << 32, 1<<32 + 1,
		impl.MaxAmt/2 - 1, impl.MaxAmt / 2, impl.MaxAmt/2 + 1,
		impl.MaxAmt - 1, impl.MaxAmt, impl.MaxAmt + 1,
		math.MaxInt - 1, math.MaxInt,
	}
}

func isAmt(n int) bool {
	return n >= 0 && n <= 1<<50
}

// asAmt is how the chapter tells a number without an end: itself if it is an amount, else nothing and false.
func asAmt(n *big.Int) (int, bool) {
	if n.Sign() < 0 || n.Cmp(big.NewInt(1<<50)) > 0 {
		return 0, false
	}
	return int(n.Int64()), true
}

func wantMulDiv(a int, b int, c int) (int, bool) {
	if !isAmt(a) || !isAmt(b) || c < 1 || c > 1<<50 {
		return 0, false
	}
	n := new(big.Int).Mul(big.NewInt(int64(a)), big.NewInt(int64(b)))
	return asAmt(n.Div(n, big.NewInt(int64(c))))
}

func wantFee(base int, ppm int, amt int, up bool) (int, bool) {
	if !isAmt(base) || !isAmt(amt) || ppm < 0 || ppm > 1000000 {
		return 0, false
	}
	n := new(big.Int).Mul(big.NewInt(int64(amt)), big.NewInt(int64(ppm)))
	if up {
		n.Add(n, big.NewInt(999999))
	}
	n.Div(n, big.NewInt(1000000))
	return asAmt(n.Add(n, big.NewInt(int64(base))))
}

type told struct {
	n  int
	ok bool
}

func answer(n int, ok bool) told { return told{n, ok} }

func sameAnswer(t *testing.T, name string, args [3]int, got told, want told) {
	t.Helper()
	if got != want {
		t.Errorf("%s%v = %v; want %v", name, args, got, want)
	}
}
