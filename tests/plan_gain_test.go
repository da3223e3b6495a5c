package tests

import (
	"maps"
	"slices"
	"testing"

	"loop.example/g00400/impl"
)

// planSize is small mostly, and sometimes so great that what is above or lacking is past MaxCap.
func (d *dice) planSize() int {
	switch d.below(8) {
	case 0:
		return d.below(4)
	case 1:
		return 2000000000 + d.below(5) - 2
	case 2:
		return top - d.below(3)
	case 3:
		return d.below(1000000000) * (1 + d.below(1000))
	case 4:
		return 100 * d.below(50)
	}
	return d.below(400)
}

// planBook has so many channels; of some the hub has all, of some nothing, of some any part.
func (d *dice) planBook(count int) impl.Book {
	b := impl.Book{Next: 1, Tick: d.below(9), Wallet: d.below(1000)}
	id := 0
	for range count {
		id += 1 + d.below(4)
		size := d.planSize()
		ours := []int{0, size, size / 2, size / 100 * d.below(101), size / (1 + d.below(9))}[d.below(5)]
		b.Chans = append(b.Chans, priced(id, ours, size-ours, d.below(9), d.below(1000001), d.below(201)-100))
	}
	return b
}

// planPrices are so many, as far as chance finds ones that aren't there yet; some lists have cheap ones only, some any.
func (d *dice) planPrices(b impl.Book, count int) []impl.Price {
	var l []impl.Price
	most := []int{1, 4, 300, 1000001}[d.below(4)]
	for tries := 0; tries < 4*count && len(b.Chans) > 1; tries++ {
		from := d.below(len(b.Chans))
		to := (from + 1 + d.below(len(b.Chans)-1)) % len(b.Chans)
		p := price(b.Chans[from].Id, b.Chans[to].Id, d.below(most))
		if len(l) < count && !slices.ContainsFunc(l, func(q impl.Price) bool { return q.From == p.From && q.To == p.To }) {
			l = append(l, p)
		}
	}
	return l
}

func (d *dice) planGain() int {
	return []int{0, 1, 6, d.below(500), d.below(1000001), 1000000}[d.below(6)]
}

// smallAsk is right, with few channels; greatAsk has as many of all as there may be.
func (d *dice) smallAsk() ask {
	b := sized(d.planBook(d.below(8)))
	lo := d.below(101)
	return ask{b, lo, lo + d.below(101-lo)/(1+d.below(9)), d.planGain(), d.planPrices(b, d.below(16))}
}

func (d *dice) greatAsk() ask {
	b := sized(d.planBook(20))
	return ask{b, 20 + d.below(31), 50 + d.below(31), d.planGain(), d.planPrices(b, 20)}
}

// livedAsk is of a book that events have made, with payments and circles under way.
func (d *dice) livedAsk() ask {
	m, b := moods()[d.below(len(moods()))], impl.BookNew()
	for range 120 {
		if after, _, code := impl.Apply(b, d.bookEvent(m, b)); code == 0 {
			b = after
		}
	}
	return ask{b, 20 + d.below(31), 50 + d.below(31), d.planGain(), d.planPrices(b, 20)}
}

// wrongAsk has one thing wrong, or two that may make up for each other.
func (d *dice) wrongAsk() ask {
	a := d.smallAsk()
	a.b, a.l = copyOfBook(a.b), slices.Clone(a.l)
	fields := append(bookFields(&a.b), &a.lo, &a.hi, &a.gain)
	for i := range a.l {
		fields = append(fields, &a.l[i].From, &a.l[i].To, &a.l[i].Ppm)
	}
	for range 1 + d.below(2) {
		*fields[d.below(len(fields))] = []int{*fields[d.below(len(fields))], fieldEdges()[d.below(len(fieldEdges()))], 101, 2, 3}[d.below(5)]
	}
	return a
}

// lookGain holds moves that were found against P7, by what the moves themselves say: which of the prices they are, what each channel gets and gives, and what that costs.
func lookGain(t *testing.T, a ask, m []impl.Move) {
	t.Helper()
	g, ok := impl.PlanGraph(a.b, a.lo, a.hi, a.gain, a.l)
	if !ok {
		t.Fatalf("Moves of %+v, but no graph", a)
	}
	lacking := 0
	for _, e := range g.Edges {
		if e.To == 0 {
			lacking += e.Cap
		}
	}
	cost := impl.MovesCost(m)
	if cost > a.gain*lacking || cost != wantMovesCost(m) {
		t.Fatalf("%+v: %+v cost %d; %d are lacking", a, m, cost, lacking)
	}
	lookOfPrices(t, a, m)
	came := lookCame(t, a, m)
	if cost > a.gain*came || cost-a.gain*came != leastCost(g) {
		t.Fatalf("%+v: %+v cost %d and bring %d; the least is %d", a, m, cost, came, leastCost(g))
	}
}

// lookOfPrices wants each move to be one of the prices, in their order, with something that goes.
func lookOfPrices(t *testing.T, a ask, m []impl.Move) {
	t.Helper()
	at := 0
	for _, x := range m {
		for at < len(a.l) && a.l[at] != price(x.From, x.To, x.Ppm) {
			at++
		}
		if at == len(a.l) || x.Amt < 1 || x.Amt > 1000000000 {
			t.Fatalf("%+v: the moves %+v aren't of the prices, in their order", a, m)
		}
		at++
	}
	if len(m) > len(a.l) {
		t.Fatalf("%+v: more moves than prices: %+v", a, m)
	}
}

// lookCame wants no channel to give more than it has above, or to get more than it lacks; it tells how much came to those that lack.
func lookCame(t *testing.T, a ask, m []impl.Move) int {
	t.Helper()
	more, came := map[int]int{}, 0
	for _, x := range m {
		more[x.From] -= x.Amt
		more[x.To] += x.Amt
	}
	for _, c := range a.b.Chans {
		first, second := wantEnds(c.Size, a.lo, a.hi)
		n := more[c.Id]
		if n < 0 && -n > min(c.Local-second, 1000000000) || n > 0 && n > min(first-c.Local, 1000000000) {
			t.Fatalf("%+v: channel %d gets %d by %+v", a, c.Id, n, m)
		}
		came += max(n, 0)
	}
	return came
}

// P7: what the moves cost is at most what they gain, over asks of all kinds.
func TestP7MovesCostAtMostTheGain(t *testing.T) {
	d := dice(91)
	seen := map[string]int{}
	for range 5000 {
		for kind, a := range map[string]ask{"small": d.smallAsk(), "great": d.greatAsk(), "lived": d.livedAsk(), "wrong": d.wrongAsk()} {
			m, ok := impl.Moves(a.b, a.lo, a.hi, a.gain, a.l)
			if !ok {
				if _, found, _ := a.wantMoves(); found || len(m) > 0 {
					t.Fatalf("Moves of %+v = %+v, false", a, m)
				}
				seen[kind+", none"]++
				continue
			}
			lookGain(t, a, m)
			seen[kind]++
			if len(m) > 0 {
				seen[kind+", some"]++
			}
			if len(m) > 2 && impl.MovesCost(m) > 0 {
				seen[kind+", many"]++
			}
		}
	}
	for _, kind := range []string{"small", "small, some", "small, many", "great, some", "great, many", "lived, some", "lived, many", "wrong", "wrong, none"} {
		if seen[kind] < 50 {
			t.Errorf("%v: of %q too few", seen, kind)
		}
	}
	if seen["small, none"] > 0 {
		t.Errorf("%v: right asks without an answer", seen)
	}
}

// P7: the slow ones too, as long as there are moves.
func TestP7MovesOfSlowOnes(t *testing.T) {
	for most := 1; most <= 210; most++ {
		for _, a := range []ask{slowEven(most), slowOdd(most)} {
			if m, ok := impl.Moves(a.b, a.lo, a.hi, a.gain, a.l); ok {
				lookGain(t, a, m)
			} else if most < 200 {
				t.Errorf("%d: none", most)
			}
		}
	}
}

// planBooks are the books at their edges, and some that lean.
func planBooks() map[string]impl.Book {
	const most = 1000000000
	books := rightBooks()
	books["five"], books["full"] = five(), full()
	books["a pair"] = leaning(5, -5)
	books["a pair, turned round"] = leaning(-5, 5)
	books["around MaxCap"] = leaning(most-1, most, most+1, 1-most, -most, -most-1)
	books["the greatest amounts"] = withRoom(top, top, 0, top/2, top/2+1, top/2-1)
	books["MaxChans that lean"] = leaning(1, -2, 3, -4, 5, -6, 7, -8, 9, 0, 0, -most, most, -10, 20, -30, 40, -50, 60, -70)
	books["MaxChans past MaxCap"] = withRoom(top, slices.Concat(repeated(10, top), repeated(10, 0))...)
	return books
}

// P7: at the edges: books, limits, gains and prices.
func TestP7MovesAtEdges(t *testing.T) {
	some := 0
	for _, name := range slices.Sorted(maps.Keys(planBooks())) {
		b := planBooks()[name]
		for _, limits := range [][2]int{{0, 0}, {0, 100}, {100, 100}, {30, 70}, {50, 50}, {1, 99}} {
			for _, gain := range []int{0, 1, 8, 60, 1000000} {
				for _, l := range [][]impl.Price{nil, {}, everyWay(b, 1), everyWay(b, 20)} {
					a := ask{b, limits[0], limits[1], gain, l}
					m, ok := impl.Moves(b, a.lo, a.hi, gain, l)
					if !ok {
						t.Fatalf("%s: no moves of %+v", name, a)
					}
					lookGain(t, a, m)
					some += min(1, len(m))
				}
			}
		}
	}
	if some < 50 {
		t.Errorf("%d have moves: the test looks at too few", some)
	}
}

// P13: the same asks, each against what the tests reckon.
func TestP13MovesAsTold(t *testing.T) {
	d := dice(92)
	for range 500 {
		for _, a := range []ask{d.smallAsk(), d.greatAsk(), d.livedAsk(), d.wrongAsk()} {
			a.look(t)
		}
		if t.Failed() {
			return
		}
	}
}
