package tests

import (
	"slices"
	"testing"

	"loop.example/g00400/impl"
)

func price(from int, to int, ppm int) impl.Price { return impl.Price{From: from, To: to, Ppm: ppm} }

func prices(l ...impl.Price) []impl.Price { return l }

func move(from int, to int, amt int, ppm int) impl.Move {
	return impl.Move{From: from, To: to, Amt: amt, Ppm: ppm}
}

func moves(l ...impl.Move) []impl.Move { return l }

// An ask is what a plan is made of.
type ask struct {
	b            impl.Book
	lo, hi, gain int
	l            []impl.Price
}

// leaning has channels 2, 5, 8 and so on. With lo and hi at 50 each has above what its number says, or lacks it where that is below 0.
func leaning(over ...int) impl.Book {
	b := impl.Book{Next: 1}
	for i, n := range over {
		c := peer(leaningId(i), 2*max(n, 0), 2*max(-n, 0))
		if n == 0 {
			c.Local, c.Remote = 5, 5
		}
		b.Chans = append(b.Chans, c)
	}
	return sized(b)
}

func leaningId(i int) int { return 3*i + 2 }

// between are prices whose From and To are places of a leaning book.
func between(l ...impl.Price) []impl.Price {
	l = slices.Clone(l)
	for i, p := range l {
		l[i].From, l[i].To = leaningId(p.From), leaningId(p.To)
	}
	return l
}

// everyWay has count prices, as far as there are pairs of channels, all different.
func everyWay(b impl.Book, count int) []impl.Price {
	var l []impl.Price
	for _, from := range b.Chans {
		for _, to := range b.Chans {
			if from.Id != to.Id && len(l) < count {
				l = append(l, price(from.Id, to.Id, 7*len(l)))
			}
		}
	}
	return l
}

// slowEven and slowOdd give one more to a dear channel and take it back, again and again, so each of them wants about twice as many pushes as most.
func slowEven(most int) ask {
	return ask{leaning(most, most, 0, -1, -most, -1), 50, 50, 10,
		between(price(2, 4, 0), price(0, 5, 2), price(3, 2, 3), price(1, 2, 0), price(1, 5, 1))}
}

func slowOdd(most int) ask {
	return ask{leaning(most, 1, -most, -1, -most, most), 50, 50, 10,
		between(price(3, 1, 0), price(5, 2, 1), price(0, 5, 1), price(0, 3, 3), price(2, 4, 0), price(5, 4, 0))}
}

func wantPricesOk(b impl.Book, l []impl.Price) bool {
	right := wantBookOk(b) && len(l) <= 20
	ways := map[[2]int]int{}
	for _, p := range l {
		_, from := chanIn(b, p.From)
		_, to := chanIn(b, p.To)
		ways[[2]int{p.From, p.To}]++
		right = right && from && to && p.From != p.To && p.Ppm >= 0 && p.Ppm <= 1000000
	}
	return right && len(ways) == len(l)
}

func wantEnds(size int, lo int, hi int) (int, int) {
	if lo < 0 || lo > 100 || hi < lo || hi > 100 {
		return 0, 0
	}
	first, _ := wantMulDiv(size, lo, 100)
	second, _ := wantMulDiv(size, hi, 100)
	return first, second
}

func (a ask) right() bool {
	return wantPricesOk(a.b, a.l) && 0 <= a.lo && a.lo <= a.hi && a.hi <= 100 && 0 <= a.gain && a.gain <= 1000000
}

func (a ask) wantGraph() (impl.Graph, bool) {
	if !a.right() {
		return impl.Graph{}, false
	}
	nodes := map[int]int{}
	var out, back, ways []impl.Edge
	for i, c := range a.b.Chans {
		nodes[c.Id] = i + 1
		first, second := wantEnds(c.Size, a.lo, a.hi)
		if c.Local > second {
			out = append(out, edge(0, i+1, min(c.Local-second, 1000000000), 0))
		}
		if c.Local < first {
			back = append(back, edge(i+1, 0, min(first-c.Local, 1000000000), -a.gain))
		}
	}
	for _, p := range a.l {
		ways = append(ways, edge(nodes[p.From], nodes[p.To], 1000000000, p.Ppm))
	}
	return graph(len(a.b.Chans)+1, slices.Concat(out, back, ways)...), true
}

// wantMoves tells beside its answer how many pushes it took.
func (a ask) wantMoves() ([]impl.Move, bool, int) {
	g, ok := a.wantGraph()
	if !ok {
		return nil, false, 0
	}
	f, ok, pushes := wantCheapest(g)
	if !ok {
		return nil, false, pushes
	}
	var l []impl.Move
	for i, p := range a.l {
		l = append(l, move(p.From, p.To, f[len(g.Edges)-len(a.l)+i], p.Ppm))
	}
	return slices.DeleteFunc(l, func(m impl.Move) bool { return m.Amt == 0 }), true, pushes
}

func wantMovesCost(l []impl.Move) int {
	sum, right := 0, len(l) <= 20
	for _, m := range l {
		right = right && m.Amt >= 1 && m.Amt <= 1000000000 && m.Ppm >= 0 && m.Ppm <= 1000000
		sum += m.Amt * m.Ppm
	}
	if !right {
		return 0
	}
	return sum
}

// roomy is the ask with spare room behind each of its lists, in which something stands.
func (a ask) roomy() ask {
	a.b, a.l = roomy(a.b), withSpare(a.l, price(-7, -7, -7))
	return a
}

// kept tells whether a, which is roomy of was, still is that.
func (a ask) kept(was ask) bool {
	return sameRoom(a.b, roomy(was.b)) && spareToo(a.l, was.l, price(-7, -7, -7))
}

func sameGraph(a impl.Graph, b impl.Graph) bool { return a.N == b.N && slices.Equal(a.Edges, b.Edges) }

// look holds PricesOk, PlanGraph and Moves against what the tests reckon, twice, and looks that they keep their hands off what they are given.
func (a ask) look(t *testing.T) {
	t.Helper()
	given := a.roomy()
	wantG, wantOk := a.wantGraph()
	wantM, wantFound, _ := a.wantMoves()
	for range 2 {
		if got := impl.PricesOk(given.b, given.l); got != wantPricesOk(a.b, a.l) {
			t.Errorf("PricesOk of %+v = %v", a, got)
		}
		g, ok := impl.PlanGraph(given.b, given.lo, given.hi, given.gain, given.l)
		if !sameGraph(g, wantG) || ok != wantOk {
			t.Errorf("PlanGraph of %+v\n got %+v, %v\nwant %+v, %v", a, g, ok, wantG, wantOk)
		}
		if ok && !impl.GraphOk(g) {
			t.Errorf("PlanGraph of %+v = %+v: not right", a, g)
		}
		m, found := impl.Moves(given.b, given.lo, given.hi, given.gain, given.l)
		if !slices.Equal(m, wantM) || found != wantFound {
			t.Errorf("Moves of %+v\n got %+v, %v\nwant %+v, %v", a, m, found, wantM, wantFound)
		}
		blotList(g.Edges, edge(-3, -3, -3, -3))
		blotList(m, move(-3, -3, -3, -3))
		if !given.kept(a) {
			t.Fatalf("an argument is changed or shared: %+v", a)
		}
	}
}
