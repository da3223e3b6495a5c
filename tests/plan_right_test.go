package tests

import (
	"slices"
	"testing"

	"loop.example/g00400/impl"
)

func TestP13PlanConstants(t *testing.T) {
	if impl.MaxPrices != 20 {
		t.Errorf("MaxPrices %d", impl.MaxPrices)
	}
}

// five has just as many pairs of channels as there may be prices.
func five() impl.Book { return leaning(40, -10, 0, -20, 5) }

func full() impl.Book { return sized(impl.Book{Next: 1, Wallet: 9, Chans: manyChans(20, 40, 5)}) }

func TestP13PricesOk(t *testing.T) {
	b := busy()
	for name, c := range map[string]struct {
		b impl.Book
		l []impl.Price
	}{
		"none, nil":                    {b, nil},
		"none, empty":                  {b, []impl.Price{}},
		"none, no channels":            {impl.BookNew(), nil},
		"one":                          {b, prices(price(1, 2, 5))},
		"of the last to the first":     {b, prices(price(12, 1, 5))},
		"the other way round":          {b, prices(price(1, 2, 5), price(2, 1, 5))},
		"the same From":                {b, prices(price(1, 2, 5), price(1, 5, 5), price(1, 9, 5))},
		"the same To":                  {b, prices(price(1, 2, 5), price(5, 2, 5), price(9, 2, 5))},
		"one behind the other":         {b, prices(price(1, 2, 5), price(2, 5, 5), price(5, 1, 5))},
		"Ppm 0":                        {b, prices(price(1, 2, 0))},
		"Ppm 1":                        {b, prices(price(1, 2, 1))},
		"Ppm Million less 1":           {b, prices(price(1, 2, 999999))},
		"Ppm Million":                  {b, prices(price(1, 2, 1000000))},
		"two of one Ppm":               {b, prices(price(1, 2, 0), price(9, 12, 0))},
		"MaxPrices less 1":             {five(), everyWay(five(), 19)},
		"MaxPrices":                    {five(), everyWay(five(), 20)},
		"MaxPrices, of all channels":   {full(), everyWay(full(), 20)},
		"the least and greatest Id":    {rightBooks()["Ids 1 and MaxChan"], prices(price(1, 99, 5), price(99, 1, 5))},
		"a channel without room":       {b, prices(price(9, 12, 5))},
		"with all that is under way":   {crowded(60, 20), prices(price(1, 3, 5))},
		"sums alike, but not the same": {b, prices(price(2, 12, 5), price(5, 9, 5))},
	} {
		given := ask{b: c.b, l: c.l}.roomy()
		if !impl.PricesOk(given.b, given.l) || !wantPricesOk(c.b, c.l) {
			t.Errorf("%s: PricesOk is %v, the tests reckon %v", name, impl.PricesOk(given.b, given.l), wantPricesOk(c.b, c.l))
		}
		if !given.kept(ask{b: c.b, l: c.l}) {
			t.Errorf("%s: an argument is changed", name)
		}
	}
}

// wrongPrices are no prices of the busy book, for one fault each.
func wrongPrices() map[string][]impl.Price {
	fine := price(1, 2, 5)
	return map[string][]impl.Price{
		"From that isn't there":            prices(price(3, 2, 5)),
		"To that isn't there":              prices(price(1, 3, 5)),
		"neither there":                    prices(price(3, 4, 5)),
		"From 0":                           prices(price(0, 2, 5)),
		"To 0":                             prices(price(1, 0, 5)),
		"nothing":                          prices(impl.Price{}),
		"From -1":                          prices(price(-1, 2, 5)),
		"To -1":                            prices(price(1, -1, 5)),
		"From MaxChan":                     prices(price(99, 2, 5)),
		"To MaxChan and 1":                 prices(price(1, 100, 5)),
		"From the least int":               prices(price(leastInt, 2, 5)),
		"To the greatest int":              prices(price(1, greatestInt, 5)),
		"a From that is cut to one":        prices(price(1<<32+1, 2, 5)),
		"the same channel":                 prices(price(2, 2, 5)),
		"the same channel, Ppm 0":          prices(price(12, 12, 0)),
		"the same channel, not there":      prices(price(7, 7, 0)),
		"Ppm -1":                           prices(price(1, 2, -1)),
		"Ppm Million and 1":                prices(price(1, 2, 1000001)),
		"Ppm the least int":                prices(price(1, 2, leastInt)),
		"Ppm the greatest int":             prices(price(1, 2, greatestInt)),
		"twice":                            prices(fine, fine),
		"twice with another Ppm":           prices(fine, price(1, 2, 6)),
		"twice, with one between":          prices(fine, price(2, 1, 5), price(1, 2, 9)),
		"twice at the end":                 prices(price(2, 1, 5), fine, fine),
		"the first of three":               prices(price(4, 2, 5), fine, price(2, 1, 5)),
		"the one in the midst":             prices(fine, price(5, 9, 1000001), price(2, 1, 5)),
		"the last of three":                prices(fine, price(2, 1, 5), price(9, 9, 5)),
		"MaxPrices and 1, the same":        slices.Repeat(prices(fine), 21),
		"far too many":                     slices.Repeat(prices(fine, price(2, 1, 5)), 1000),
		"a price of a place, not a number": prices(price(1, 4, 5)),
	}
}

func TestP13PricesOkNot(t *testing.T) {
	for name, l := range wrongPrices() {
		a := ask{busy(), 30, 70, 400, l}
		if impl.PricesOk(a.b, l) || wantPricesOk(a.b, l) {
			t.Errorf("%s: PricesOk is %v, the tests reckon %v", name, impl.PricesOk(a.b, l), wantPricesOk(a.b, l))
		}
		lookNothing(t, name, a)
	}
	// One price too many is all that is wrong here.
	many := everyWay(full(), 21)
	if impl.PricesOk(full(), many) || !impl.PricesOk(full(), many[:20]) || !impl.PricesOk(full(), many[1:]) {
		t.Error("MaxPrices and 1: PricesOk is true, or false of MaxPrices")
	}
	lookNothing(t, "MaxPrices and 1", ask{full(), 30, 70, 400, many})
	for name, b := range map[string]impl.Book{"no channels": impl.BookNew(), "one channel": rightBooks()["one channel"]} {
		lookNothing(t, name, ask{b, 30, 70, 400, prices(price(50, 51, 5))})
		lookNothing(t, name, ask{b, 30, 70, 400, prices(price(50, 50, 5))})
	}
}

// P13: of a book that isn't right no prices are, not even none.
func TestP13PricesOkWrongBook(t *testing.T) {
	for name, b := range wrongBooks() {
		for _, l := range [][]impl.Price{nil, {}, prices(price(1, 2, 5)), prices(price(9, 12, 5))} {
			if impl.PricesOk(b, l) {
				t.Errorf("%s: PricesOk with %v", name, l)
			}
			lookNothing(t, name, ask{b, 30, 70, 400, l})
			lookNothing(t, name, ask{b, 0, 100, 0, l})
		}
	}
}

// lookNothing wants neither a graph nor moves of an ask.
func lookNothing(t *testing.T, name string, a ask) {
	t.Helper()
	given := a.roomy()
	if g, ok := impl.PlanGraph(given.b, given.lo, given.hi, given.gain, given.l); ok || g.N != 0 || len(g.Edges) > 0 {
		t.Errorf("%s: PlanGraph = %+v, %v; want none", name, g, ok)
	}
	if m, ok := impl.Moves(given.b, given.lo, given.hi, given.gain, given.l); ok || len(m) > 0 {
		t.Errorf("%s: Moves = %+v, %v; want none", name, m, ok)
	}
	if !given.kept(a) {
		t.Errorf("%s: an argument is changed", name)
	}
}

// P13: From, To and Ppm at all edges at once, behind another price.
func TestP13PricesOkAtEdges(t *testing.T) {
	ids := []int{leastInt, -1, 0, 1, 2, 3, 4, 5, 6, 9, 12, 13, 20, 99, 100, 1<<32 + 2, greatestInt}
	right := 0
	for _, from := range ids {
		for _, to := range ids {
			for _, ppm := range costEdges() {
				l := prices(price(2, 5, 1), price(from, to, ppm), price(12, 9, 3))
				want := wantPricesOk(busy(), l)
				if impl.PricesOk(busy(), l) != want {
					t.Errorf("PricesOk of %v = %v", l, !want)
				}
				if want {
					right++
				}
			}
		}
	}
	if right != (5*4-2)*4 {
		t.Errorf("%d were right", right)
	}
}

func TestP13Ends(t *testing.T) {
	for _, c := range []struct{ size, lo, hi, first, second int }{
		{1000, 30, 70, 300, 700}, {1000, 0, 100, 0, 1000}, {1000, 0, 0, 0, 0}, {1000, 100, 100, 1000, 1000},
		{1000, 50, 50, 500, 500}, {1000, 49, 50, 490, 500}, {1000, 1, 99, 10, 990},
		{0, 30, 70, 0, 0}, {1, 30, 99, 0, 0}, {1, 0, 100, 0, 1}, {1, 100, 100, 1, 1}, {99, 1, 99, 0, 98}, {100, 1, 99, 1, 99}, {101, 1, 99, 1, 99},
		{199, 50, 51, 99, 101}, {3, 33, 67, 0, 2}, {3, 34, 66, 1, 1}, {7, 14, 86, 0, 6}, {7, 15, 85, 1, 5},
		{top, 0, 100, 0, top}, {top, 100, 100, top, top}, {top, 50, 50, top / 2, top / 2}, {top, 1, 99, 11258999068426, 1114640907774197}, {top - 1, 100, 100, top - 1, top - 1},
		// What isn't as the chapter asks.
		{1000, -1, 70, 0, 0}, {1000, 30, -1, 0, 0}, {1000, -1, -1, 0, 0}, {1000, 70, 30, 0, 0}, {1000, 30, 29, 0, 0}, {1000, 1, 0, 0, 0}, {1000, 100, 99, 0, 0},
		{1000, 30, 101, 0, 0}, {1000, 101, 101, 0, 0}, {1000, 101, 100, 0, 0}, {1000, 0, 101, 0, 0}, {1000, -1, 100, 0, 0}, {1000, leastInt, greatestInt, 0, 0}, {1000, greatestInt, greatestInt, 0, 0},
		{-1, 30, 70, 0, 0}, {-100, 100, 100, 0, 0}, {top + 1, 30, 70, 0, 0}, {top + 1, 0, 100, 0, 0}, {top + 100, 1, 1, 0, 0}, {leastInt, 30, 70, 0, 0}, {greatestInt, 30, 70, 0, 0},
		// Products that come out small where they wrap round.
		{1 << 62, 4, 8, 0, 0}, {1 << 58, 64, 64, 0, 0}, {1<<62 + 25, 4, 4, 0, 0},
	} {
		first, second := impl.Ends(impl.Chan{Size: c.size}, c.lo, c.hi)
		if first != c.first || second != c.second {
			t.Errorf("Ends of %d, %d, %d = %d, %d; want %d, %d", c.size, c.lo, c.hi, first, second, c.first, c.second)
		}
	}
}

// P13: all lo and hi there are, and some beyond, for sizes of all kinds.
func TestP13EndsOfAll(t *testing.T) {
	sizes := []int{leastInt, -top, -100, -1, 0, 1, 2, 50, 99, 100, 101, 333, 1000, 123456789, 1<<31 + 7, top/100 + 1, top / 2, top - 1, top, top + 1, 1 << 57, greatestInt / 100, greatestInt/100 + 1, greatestInt}
	for _, size := range sizes {
		for lo := -2; lo <= 102; lo++ {
			for hi := -2; hi <= 102; hi++ {
				first, second := impl.Ends(impl.Chan{Size: size}, lo, hi)
				wantFirst, wantSecond := wantEnds(size, lo, hi)
				if first != wantFirst || second != wantSecond {
					t.Fatalf("Ends of %d, %d, %d = %d, %d; want %d, %d", size, lo, hi, first, second, wantFirst, wantSecond)
				}
			}
		}
	}
}

// P13: only Size counts, whatever else the channel has.
func TestP13EndsOfSizeAlone(t *testing.T) {
	for _, c := range []impl.Chan{
		{Id: 1, Size: 1000, Local: 400, Remote: 600},
		{Id: -1, Size: 1000, Local: -1, Remote: -1, Base: -1, Ppm: -1, Score: 101},
		{Id: 100, Size: 1000, Local: top + 1, Remote: greatestInt, Base: leastInt, Ppm: 1000001, Score: -101},
		{Size: 1000},
	} {
		if first, second := impl.Ends(c, 30, 71); first != 300 || second != 710 {
			t.Errorf("Ends of %+v = %d, %d", c, first, second)
		}
	}
}
