package tests

import (
	"math"
	"testing"

	"loop.example/g00400/impl"
)

// P11: products are reckoned as if ints had no end, and the quotient is cut down.
func TestP11MulDiv(t *testing.T) {
	for _, c := range []struct {
		name    string
		a, b, c int
		want    int
		ok      bool
	}{
		{"no rest", 6, 4, 3, 8, true},
		{"a rest", 7, 3, 2, 10, true},
		{"all but one left over", 1, 9, 10, 0, true},
		{"nothing times much", 0, top, 1, 0, true},
		{"much times nothing", top, 0, top, 0, true},
		{"by 1", 12345, 1, 1, 12345, true},
		{"product of 64 bits", 1 << 32, 1 << 31, 1 << 20, 1 << 43, true},
		{"product of 65 bits", 1 << 32, 1 << 32, 1 << 20, 1 << 44, true},
		{"product above an int, a rest", 10000000000, 10000000000, 7000000, 14285714285714, true},
		{"product above an int, no rest", 10000000000, 10000000000, 1000000, 100000000000000, true},
		{"greatest product", top, top, top, top, true},
		{"greatest product but one, no rest", top, top - 1, top, top - 1, true},
		{"below the greatest, a rest", top - 1, top - 1, top, top - 2, true},
		{"greatest by 1", top, 1, 1, top, true},
		{"halved by the greatest", top / 2, 1, top, 0, true},
		{"just an amount", top, 2, 2, top, true},
		{"cut down to just an amount", 3, (2*top + 1) / 3, 2, top, true},
		{"one above an amount", 5 * 11, (top + 1) / 5, 11, 0, false},
		{"twice the greatest", top, 2, 1, 0, false},
		{"quotient of 64 bits", 1 << 32, 1 << 31, 1, 0, false},
		{"quotient of 65 bits", 1 << 32, 1 << 32, 1, 0, false},
		{"quotient of 100 bits", top, top, 1, 0, false},
		{"quotient that is an amount once bits are lost", 1 << 33, 1<<31 + 1, 1, 0, false},
		{"quotient whose low half is 0", top, top, 1 << 36, 0, false},
		{"a below 0", -1, 1, 1, 0, false},
		{"b below 0", 1, -1, 1, 0, false},
		{"both below 0", -2, -3, 1, 0, false},
		{"a above", top + 1, 1, 2, 0, false},
		{"b above", 1, top + 1, 2, 0, false},
		{"c of 0", 1, 1, 0, 0, false},
		{"all 0", 0, 0, 0, 0, false},
		{"c below 0", 1, 1, -1, 0, false},
		{"c above", 1, 1, top + 1, 0, false},
		{"least ints", math.MinInt, math.MinInt, math.MinInt, 0, false},
		{"greatest ints", math.MaxInt, math.MaxInt, math.MaxInt, 0, false},
		{"least c", 1, 1, math.MinInt, 0, false},
		{"greatest c", 1, 1, math.MaxInt, 0, false},
	} {
		if got, ok := impl.MulDiv(c.a, c.b, c.c); got != c.want || ok != c.ok {
			t.Errorf("%s: MulDiv(%d, %d, %d) = %d, %v; want %d, %v", c.name, c.a, c.b, c.c, got, ok, c.want, c.ok)
		}
	}
}

// P11: Fee cuts down, FeeUp cuts up.
func TestP11Fees(t *testing.T) {
	for _, c := range []struct {
		name           string
		base, ppm, amt int
		down, up       int
		ok             bool
	}{
		{"a rest", 5, 1500, 1000, 6, 7, true},
		{"no rest", 5, 2000, 1000, 7, 7, true},
		{"the least rest", 0, 1, 1000001, 1, 2, true},
		{"the greatest rest", 0, 1, 1999999, 1, 2, true},
		{"the least part", 0, 1, 1, 0, 1, true},
		{"nothing", 0, 0, 0, 0, 0, true},
		{"base alone", 9, 0, top, 9, 9, true},
		{"nothing of nothing", 9, impl.Million, 0, 9, 9, true},
		{"the whole", 0, impl.Million, 123, 123, 123, true},
		{"the whole of the greatest", 0, impl.Million, top, top, top, true},
		{"one part less of the greatest", 0, impl.Million - 1, top, 1125898780942717, 1125898780942718, true},
		{"product above an int, a rest", 1, 999999, 10000000000001, 9999990000001, 9999990000002, true},
		{"product above an int, no rest", 1, 500000, 100000000000000, 50000000000001, 50000000000001, true},
		{"greatest base", top, 0, top, top, top, true},
		{"greatest base, nothing more", top, impl.Million, 0, top, top, true},
		{"sum just an amount", top - 1, impl.Million, 1, top, top, true},
		{"sum above", top, impl.Million, 1, 0, 0, false},
		{"sum far above", top, impl.Million, top, 0, 0, false},
		{"sum one above", 1, impl.Million, top, 0, 0, false},
		{"ppm above", 0, impl.Million + 1, 1, 0, 0, false},
		{"ppm above, of nothing", 0, impl.Million + 1, 0, 0, 0, false},
		{"ppm far above", 0, math.MaxInt, 0, 0, 0, false},
		{"ppm below 0", 5, -1, 1, 0, 0, false},
		{"ppm far below 0", 5, math.MinInt, 1, 0, 0, false},
		{"base below 0", -1, impl.Million, 1, 0, 0, false},
		{"base far below 0", math.MinInt, 1, 1, 0, 0, false},
		{"base above", top + 1, 0, 0, 0, 0, false},
		{"base far above", math.MaxInt, 1, 1, 0, 0, false},
		{"amt below 0", 5, 1, -1, 0, 0, false},
		{"amt far below 0", 5, 1, math.MinInt, 0, 0, false},
		{"amt above", 0, 0, top + 1, 0, 0, false},
		{"amt far above", 0, 1, math.MaxInt, 0, 0, false},
	} {
		if got, ok := impl.Fee(c.base, c.ppm, c.amt); got != c.down || ok != c.ok {
			t.Errorf("%s: Fee(%d, %d, %d) = %d, %v; want %d, %v", c.name, c.base, c.ppm, c.amt, got, ok, c.down, c.ok)
		}
		if got, ok := impl.FeeUp(c.base, c.ppm, c.amt); got != c.up || ok != c.ok {
			t.Errorf("%s: FeeUp(%d, %d, %d) = %d, %v; want %d, %v", c.name, c.base, c.ppm, c.amt, got, ok, c.up, c.ok)
		}
	}
}

// P11: where only what is cut up passes the end, Fee has an answer and FeeUp has none.
func TestP11FeeUpPassesTheEnd(t *testing.T) {
	if got, ok := impl.Fee(top, 1, 1); got != top || !ok {
		t.Errorf("Fee(MaxAmt, 1, 1) = %d, %v", got, ok)
	}
	if got, ok := impl.FeeUp(top, 1, 1); got != 0 || ok {
		t.Errorf("FeeUp(MaxAmt, 1, 1) = %d, %v", got, ok)
	}
	if got, ok := impl.FeeUp(top-1, 1, 1); got != top || !ok {
		t.Errorf("FeeUp(MaxAmt - 1, 1, 1) = %d, %v", got, ok)
	}
}

// P11: FeeUp is one above Fee exactly where the division leaves a rest.
func TestP11FeeUpAboveFee(t *testing.T) {
	for ppm := 0; ppm <= impl.Million; ppm += 12347 {
		for _, amt := range []int{0, 1, 2, 999, 1000, 1000000, 1000001, 3000000, 987654321} {
			down, ok := impl.Fee(3, ppm, amt)
			up, also := impl.FeeUp(3, ppm, amt)
			more := 0
			if amt*ppm%impl.Million > 0 {
				more = 1
			}
			if !ok || !also || up != down+more {
				t.Errorf("ppm %d, amt %d: Fee %d, %v, FeeUp %d, %v", ppm, amt, down, ok, up, also)
			}
		}
	}
}

// P11: against numbers without an end, at every triple of edges.
func TestP11AtEdges(t *testing.T) {
	for _, a := range edges() {
		for _, b := range edges() {
			for _, c := range edges() {
				sameAnswer(t, "MulDiv", [3]int{a, b, c}, answer(impl.MulDiv(a, b, c)), answer(wantMulDiv(a, b, c)))
				sameAnswer(t, "Fee", [3]int{a, b, c}, answer(impl.Fee(a, b, c)), answer(wantFee(a, b, c, false)))
				sameAnswer(t, "FeeUp", [3]int{a, b, c}, answer(impl.FeeUp(a, b, c)), answer(wantFee(a, b, c, true)))
			}
		}
	}
}
