package tests

import (
	"slices"
	"testing"

	"loop.example/g00400/impl"
)

// A case of Moves that answers true.
type carried struct {
	name string
	ask  ask
	want []impl.Move
	cost int
}

func lookCarried(t *testing.T, cases ...carried) {
	t.Helper()
	for _, c := range cases {
		got, ok := impl.Moves(c.ask.b, c.ask.lo, c.ask.hi, c.ask.gain, c.ask.l)
		if !slices.Equal(got, c.want) || !ok || impl.MovesCost(got) != c.cost {
			t.Errorf("%s: Moves = %+v, %v, of cost %d; want %+v of %d", c.name, got, ok, impl.MovesCost(got), c.want, c.cost)
		}
		c.ask.look(t)
	}
}

// evenly asks for halves in a leaning book.
func evenly(gain int, b impl.Book, l ...impl.Price) ask { return ask{b, 50, 50, gain, between(l...)} }

func TestP13Moves(t *testing.T) {
	pair := leaning(20, -15)
	lookCarried(t,
		carried{"as much as is lacking", evenly(6, pair, price(0, 1, 5)), moves(move(2, 5, 15, 5)), 75},
		carried{"as much as is above", evenly(6, leaning(10, -15), price(0, 1, 5)), moves(move(2, 5, 10, 5)), 50},
		carried{"just as much", evenly(6, leaning(7, -7), price(0, 1, 5)), moves(move(2, 5, 7, 5)), 35},
		carried{"one", evenly(1, leaning(1, -1), price(0, 1, 0)), moves(move(2, 5, 1, 0)), 0},
		carried{"gains as much as it costs", evenly(5, pair, price(0, 1, 5)), nil, 0},
		carried{"gains less than it costs", evenly(4, pair, price(0, 1, 5)), nil, 0},
		carried{"gains nothing", evenly(0, pair, price(0, 1, 0)), nil, 0},
		carried{"costs nothing", evenly(1, pair, price(0, 1, 0)), moves(move(2, 5, 15, 0)), 0},
		carried{"Million, at one less", evenly(1000000, pair, price(0, 1, 999999)), moves(move(2, 5, 15, 999999)), 15 * 999999},
		carried{"Million, at Million", evenly(1000000, pair, price(0, 1, 1000000)), nil, 0},
		carried{"the wrong way", evenly(6, pair, price(1, 0, 5)), nil, 0},
		carried{"both ways", evenly(6, pair, price(1, 0, 0), price(0, 1, 5)), moves(move(2, 5, 15, 5)), 75},
		carried{"no prices", evenly(6, pair), nil, 0},
		carried{"no prices, not nil", ask{pair, 50, 50, 6, []impl.Price{}}, nil, 0},
		carried{"nothing above", evenly(6, leaning(0, -15), price(0, 1, 5)), nil, 0},
		carried{"nothing lacking", evenly(6, leaning(20, 0), price(0, 1, 5)), nil, 0},
		carried{"neither", evenly(6, leaning(0, 0), price(0, 1, 0), price(1, 0, 0)), nil, 0},
		carried{"within its ends", ask{pair, 0, 100, 6, between(price(0, 1, 5))}, nil, 0},
		carried{"no channels", evenly(6, impl.BookNew()), nil, 0},
		carried{"one channel", evenly(6, leaning(20)), nil, 0},
	)
}

// P13: several channels and prices; the moves are told in the order of the prices, not in that in which they were found.
func TestP13MovesOfSeveral(t *testing.T) {
	lookCarried(t,
		carried{"the cheaper one first", evenly(9, leaning(20, 20, -30), price(0, 2, 5), price(1, 2, 4)), moves(move(2, 8, 10, 5), move(5, 8, 20, 4)), 130},
		carried{"the cheaper one first, told last", evenly(9, leaning(20, 20, -30), price(1, 2, 4), price(0, 2, 5)), moves(move(5, 8, 20, 4), move(2, 8, 10, 5)), 130},
		carried{"only the cheaper one", evenly(5, leaning(20, 20, -30), price(0, 2, 5), price(1, 2, 4)), moves(move(5, 8, 20, 4)), 80},
		carried{"by another channel", evenly(9, leaning(20, 0, -15), price(0, 2, 8), price(1, 2, 3), price(0, 1, 4)), moves(move(5, 8, 15, 3), move(2, 5, 15, 4)), 105},
		carried{"straight", evenly(9, leaning(20, 0, -15), price(0, 2, 6), price(1, 2, 3), price(0, 1, 4)), moves(move(2, 8, 15, 6)), 90},
		carried{"too dear by the other", evenly(7, leaning(20, 0, -15), price(1, 2, 3), price(0, 1, 4)), nil, 0},
		carried{"the dearer channel goes without", evenly(9, leaning(20, -15, -15), price(0, 1, 5), price(0, 2, 3)), moves(move(2, 5, 5, 5), move(2, 8, 15, 3)), 70},
		carried{"by one that lacks", evenly(9, leaning(20, -8, -7), price(0, 1, 2), price(1, 2, 2)), moves(move(2, 5, 15, 2), move(5, 8, 7, 2)), 44},
		carried{"by one that has too much", evenly(9, leaning(10, 10, -30), price(0, 1, 2), price(1, 2, 2)), moves(move(2, 5, 10, 2), move(5, 8, 20, 2)), 60},
		carried{"two apart", evenly(9, leaning(10, -5, 4, -6), price(2, 3, 8), price(0, 1, 1)), moves(move(8, 11, 4, 8), move(2, 5, 5, 1)), 37},
		carried{"two crossed", evenly(20, leaning(10, 10, -10, -10), price(0, 2, 1), price(0, 3, 2), price(1, 2, 3), price(1, 3, 9)), moves(move(2, 11, 10, 2), move(5, 8, 10, 3)), 50},
		carried{"a ring of prices that cost nothing", evenly(9, leaning(0, 0, 0), price(0, 1, 0), price(1, 2, 0), price(2, 0, 0)), nil, 0},
		carried{"busy", ask{busy(), 30, 60, 400, prices(price(12, 1, 5), price(2, 9, 6), price(12, 5, 400), price(12, 9, 399))},
			moves(move(12, 1, 6, 5), move(2, 9, 2, 6), move(12, 9, 7, 399)), 30 + 12 + 2793},
	)
}

// P13: a price carries at most MaxCap, and so does a channel.
func TestP13MovesAtMaxCap(t *testing.T) {
	const most = 1000000000
	through := []impl.Price{price(0, 2, 1), price(1, 2, 2), price(2, 3, 1000), price(3, 4, 2), price(3, 5, 1)}
	lookCarried(t,
		carried{"MaxCap less 1", evenly(1000000, leaning(most-1, -most), price(0, 1, 999999)), moves(move(2, 5, most-1, 999999)), (most - 1) * 999999},
		carried{"MaxCap", evenly(1000000, leaning(most, -most), price(0, 1, 999999)), moves(move(2, 5, most, 999999)), most * 999999},
		carried{"MaxCap and 1", evenly(1000000, leaning(most+1, -most-1), price(0, 1, 999999)), moves(move(2, 5, most, 999999)), most * 999999},
		carried{"the greatest amounts", evenly(2, withRoom(top, top, 0), price(0, 1, 1)), moves(move(2, 5, most, 1)), most},
		carried{"one price for two", evenly(5000, leaning(most, most, 0, 0, -most, -most), through...),
			moves(move(2, 8, most, 1), move(8, 11, most, 1000), move(11, 17, most, 1)), most * 1002},
		carried{"two prices for two", evenly(5000, leaning(most, most, 0, 0, -most, -most), append(through, price(1, 4, 3000))...),
			moves(move(2, 8, most, 1), move(8, 11, most, 1000), move(11, 17, most, 1), move(5, 14, most, 3000)), most * 4002},
	)
}

// P13: where the graph wants one push more than there may be, there are no moves, though there is a graph.
func TestP13MovesManyPushes(t *testing.T) {
	for most := 190; most <= 205; most++ {
		for extra, a := range []ask{slowEven(most), slowOdd(most)} {
			a.look(t)
			_, ok, pushes := a.wantMoves()
			if ok != (2*most+extra <= 400) || ok && pushes != 2*most+extra {
				t.Errorf("%d, %d more: %v by %d pushes", most, extra, ok, pushes)
			}
		}
	}
	for name, a := range map[string]ask{"MaxPush and 1": slowOdd(200), "MaxPush and 2": slowEven(201), "as many as can be": slowEven(1000000000)} {
		g, planned := impl.PlanGraph(a.b, a.lo, a.hi, a.gain, a.l)
		m, ok := impl.Moves(a.b, a.lo, a.hi, a.gain, a.l)
		if _, found := impl.Cheapest(g); !planned || found || ok || len(m) > 0 {
			t.Errorf("%s: a graph %v, a flow %v, moves %+v, %v", name, planned, found, m, ok)
		}
	}
	lookCarried(t, carried{"MaxPush", slowEven(200), moves(move(8, 14, 200, 0), move(2, 17, 1, 2), move(5, 8, 200, 0)), 2})
}

func TestP13MovesCost(t *testing.T) {
	fine := move(1, 2, 3, 4)
	for _, c := range []struct {
		name string
		l    []impl.Move
		want int
	}{
		{"none, nil", nil, 0},
		{"none, empty", []impl.Move{}, 0},
		{"one", moves(fine), 12},
		{"two", moves(fine, move(2, 1, 5, 6)), 42},
		{"the same again", moves(fine, fine, fine), 36},
		{"Amt 1", moves(move(1, 2, 1, 7)), 7},
		{"Amt MaxCap", moves(move(1, 2, 1000000000, 7)), 7000000000},
		{"Ppm 0", moves(move(1, 2, 9, 0)), 0},
		{"Ppm 0 beside another", moves(fine, move(1, 2, 9, 0)), 12},
		{"Ppm 1", moves(move(1, 2, 9, 1)), 9},
		{"Ppm Million", moves(move(1, 2, 9, 1000000)), 9000000},
		{"nothing is cut", moves(move(1, 2, 1, 1)), 1},
		{"MaxPrices less 1", slices.Repeat(moves(fine), 19), 19 * 12},
		{"MaxPrices", slices.Repeat(moves(fine), 20), 240},
		{"the greatest", slices.Repeat(moves(move(1, 2, 1000000000, 1000000)), 20), 20000000000000000},
		{"any channels", moves(move(0, 0, 3, 4), move(-1, leastInt, 3, 4), move(100, greatestInt, 3, 4)), 36},
		// What isn't as the chapter asks.
		{"MaxPrices and 1", slices.Repeat(moves(fine), 21), 0},
		{"far too many", slices.Repeat(moves(fine), 5000), 0},
		{"nothing", moves(impl.Move{}), 0},
		{"Amt 0", moves(move(1, 2, 0, 4)), 0},
		{"Amt 0 behind another", moves(fine, move(1, 2, 0, 4)), 0},
		{"Amt 0 ahead of another", moves(move(1, 2, 0, 4), fine), 0},
		{"Amt 0 in the midst", moves(fine, move(1, 2, 0, 4), fine), 0},
		{"Amt -1", moves(fine, move(1, 2, -1, 4)), 0},
		{"Amt MaxCap and 1", moves(fine, move(1, 2, 1000000001, 4)), 0},
		{"Amt the least int", moves(move(1, 2, leastInt, 4), fine), 0},
		{"Amt the greatest int", moves(move(1, 2, greatestInt, 4), fine), 0},
		{"a product that wraps", moves(move(1, 2, 1<<62, 4), fine), 0},
		{"Ppm -1", moves(fine, move(1, 2, 3, -1)), 0},
		{"Ppm Million and 1", moves(fine, move(1, 2, 3, 1000001)), 0},
		{"Ppm the least int", moves(fine, move(1, 2, 3, leastInt)), 0},
		{"Ppm the greatest int", moves(move(1, 2, 3, greatestInt), fine), 0},
		{"the last of MaxPrices", append(slices.Repeat(moves(fine), 19), move(1, 2, 0, 4)), 0},
	} {
		given := withSpare(c.l, move(-7, -7, -7, -7))
		if got := impl.MovesCost(given); got != c.want || wantMovesCost(c.l) != c.want {
			t.Errorf("%s: MovesCost is %d, the tests reckon %d; want %d", c.name, got, wantMovesCost(c.l), c.want)
		}
		if !spareToo(given, c.l, move(-7, -7, -7, -7)) {
			t.Errorf("%s: the moves are changed", c.name)
		}
	}
}

// P13: Amt and Ppm of one among others at all edges at once.
func TestP13MovesCostAtEdges(t *testing.T) {
	right := 0
	for count := range 23 {
		for at := range count {
			for _, amt := range capEdges() {
				for _, ppm := range costEdges() {
					l := slices.Repeat(moves(move(1, 2, 3, 4)), count)
					l[at].Amt, l[at].Ppm = amt, ppm
					want := wantMovesCost(l)
					if got := impl.MovesCost(l); got != want {
						t.Fatalf("MovesCost of %+v = %d; want %d", l, got, want)
					}
					if want > 0 {
						right++
					}
				}
			}
		}
	}
	if right < 1000 {
		t.Errorf("%d were right: the test looks at too few", right)
	}
}
