package tests

import (
	"testing"

	"loop.example/g00400/impl"
)

// A case of PlanGraph that answers true.
type graphed struct {
	name string
	ask  ask
	want impl.Graph
}

func lookGraphed(t *testing.T, cases ...graphed) {
	t.Helper()
	for _, c := range cases {
		g, ok := impl.PlanGraph(c.ask.b, c.ask.lo, c.ask.hi, c.ask.gain, c.ask.l)
		if !sameGraph(g, c.want) || !ok {
			t.Errorf("%s: PlanGraph = %+v, %v; want %+v", c.name, g, ok, c.want)
		}
		c.ask.look(t)
	}
}

// withRoom has one channel of that size for each number, of which the hub has so much.
func withRoom(size int, ours ...int) impl.Book {
	b := impl.Book{Next: 1}
	for i, n := range ours {
		b.Chans = append(b.Chans, peer(leaningId(i), n, size-n))
	}
	return sized(b)
}

// P13: first the edges from the hub, then those to it, then those of the prices, each in the order of its list.
func TestP13PlanGraph(t *testing.T) {
	mixed := withRoom(1000, 900, 100, 500, 701, 0, 1000, 299)
	l := prices(price(20, 2, 9), price(2, 5, 300), price(5, 2, 0), price(14, 8, 1000000), price(2, 14, 7))
	lookGraphed(t,
		graphed{"all kinds", ask{mixed, 30, 70, 400, l}, graph(8,
			edge(0, 1, 200, 0), edge(0, 4, 1, 0), edge(0, 6, 300, 0),
			edge(2, 0, 200, -400), edge(5, 0, 300, -400), edge(7, 0, 1, -400),
			edge(7, 1, 1000000000, 9), edge(1, 2, 1000000000, 300), edge(2, 1, 1000000000, 0), edge(5, 3, 1000000000, 1000000), edge(1, 5, 1000000000, 7))},
		graphed{"without prices", ask{mixed, 30, 70, 400, nil}, graph(8,
			edge(0, 1, 200, 0), edge(0, 4, 1, 0), edge(0, 6, 300, 0), edge(2, 0, 200, -400), edge(5, 0, 300, -400), edge(7, 0, 1, -400))},
		graphed{"without prices, not nil", ask{mixed, 0, 0, 0, []impl.Price{}}, graph(8,
			edge(0, 1, 900, 0), edge(0, 2, 100, 0), edge(0, 3, 500, 0), edge(0, 4, 701, 0), edge(0, 6, 1000, 0), edge(0, 7, 299, 0))},
		graphed{"all is to be ours", ask{mixed, 100, 100, 1, nil}, graph(8,
			edge(1, 0, 100, -1), edge(2, 0, 900, -1), edge(3, 0, 500, -1), edge(4, 0, 299, -1), edge(5, 0, 1000, -1), edge(7, 0, 701, -1))},
		graphed{"anything goes", ask{mixed, 0, 100, 5, prices(price(5, 2, 3))}, graph(8, edge(2, 1, 1000000000, 3))},
		graphed{"gain 0", ask{withRoom(10, 0, 10), 50, 50, 0, nil}, graph(3, edge(0, 2, 5, 0), edge(1, 0, 5, 0))},
		graphed{"gain 1", ask{withRoom(10, 0, 10), 50, 50, 1, nil}, graph(3, edge(0, 2, 5, 0), edge(1, 0, 5, -1))},
		graphed{"gain Million", ask{withRoom(10, 0, 10), 50, 50, 1000000, nil}, graph(3, edge(0, 2, 5, 0), edge(1, 0, 5, -1000000))},
		graphed{"no channels", ask{impl.BookNew(), 30, 70, 400, nil}, graph(1)},
		graphed{"no channels, not nil", ask{rightBooks()["new, not nil"], 0, 0, 0, []impl.Price{}}, graph(1)},
		graphed{"one channel", ask{withRoom(10, 9), 30, 70, 400, nil}, graph(2, edge(0, 1, 2, 0))},
		graphed{"channels without size", ask{withRoom(0, 0, 0), 100, 100, 400, prices(price(5, 2, 1))}, graph(3, edge(2, 1, 1000000000, 1))},
	)
}

// P13: what lies at an end is neither above nor lacking; the ends are cut down.
func TestP13PlanGraphAtEnds(t *testing.T) {
	lookGraphed(t,
		graphed{"whole ends", ask{withRoom(1000, 298, 299, 300, 301, 699, 700, 701, 702), 30, 70, 3, nil},
			graph(9, edge(0, 7, 1, 0), edge(0, 8, 2, 0), edge(1, 0, 2, -3), edge(2, 0, 1, -3))},
		graphed{"one end", ask{withRoom(1000, 499, 500, 501), 50, 50, 3, nil}, graph(4, edge(0, 3, 1, 0), edge(1, 0, 1, -3))},
		// The ends are 33.3 and 66.6, cut down 33 and 66.
		graphed{"ends that are cut", ask{withRoom(111, 32, 33, 34, 65, 66, 67, 68), 30, 60, 3, nil},
			graph(8, edge(0, 6, 1, 0), edge(0, 7, 2, 0), edge(1, 0, 1, -3))},
		graphed{"a size of 1", ask{withRoom(1, 0, 1), 99, 99, 3, nil}, graph(3, edge(0, 2, 1, 0))},
		graphed{"a size of 1, all", ask{withRoom(1, 0, 1), 100, 100, 3, nil}, graph(3, edge(1, 0, 1, -3))},
		graphed{"a size of 1, none", ask{withRoom(1, 0, 1), 0, 0, 3, nil}, graph(3, edge(0, 2, 1, 0))},
	)
	for _, size := range []int{0, 1, 2, 7, 99, 100, 101, 250, 1000, 2000000001, top - 1, top} {
		for _, limits := range [][2]int{{0, 0}, {0, 100}, {100, 100}, {30, 70}, {50, 50}, {1, 99}, {33, 67}, {0, 1}, {99, 100}} {
			first, second := wantEnds(size, limits[0], limits[1])
			for _, end := range []int{first, second} {
				for ours := max(0, end-1); ours <= min(size, end+1); ours++ {
					ask{withRoom(size, size/2, ours, 0), limits[0], limits[1], 7, prices(price(2, 5, 1), price(5, 8, 1), price(5, 2, 1))}.look(t)
				}
			}
		}
	}
}

// P13: a Cap above MaxCap becomes MaxCap, on both sides.
func TestP13PlanGraphCaps(t *testing.T) {
	const most = 1000000000
	lookGraphed(t,
		graphed{"around MaxCap", ask{leaning(most-1, most, most+1, 1-most, -most, -most-1), 50, 50, 9, nil},
			graph(7, edge(0, 1, most-1, 0), edge(0, 2, most, 0), edge(0, 3, most, 0), edge(4, 0, most-1, -9), edge(5, 0, most, -9), edge(6, 0, most, -9))},
		graphed{"the greatest amounts", ask{withRoom(top, top, 0, top/2, top/2+1, top/2-1), 50, 50, 9, nil},
			graph(6, edge(0, 1, most, 0), edge(0, 4, 1, 0), edge(2, 0, most, -9), edge(5, 0, 1, -9))},
		graphed{"all of the greatest", ask{withRoom(top, top, 0), 0, 0, 9, nil}, graph(3, edge(0, 1, most, 0))},
		graphed{"all of the greatest lacking", ask{withRoom(top, top, 0), 100, 100, 9, nil}, graph(3, edge(2, 0, most, -9))},
	)
}

// P13: what is under way counts for Size, not for Local.
func TestP13PlanGraphUnderWay(t *testing.T) {
	// Sizes 687, 664, 172, 30 and 70; of them 200, 400, 50, 0 and 70 are ours.
	lookGraphed(t,
		graphed{"busy", ask{busy(), 30, 60, 400, prices(price(12, 1, 5), price(2, 9, 6))}, graph(6,
			edge(0, 2, 2, 0), edge(0, 5, 28, 0), edge(1, 0, 6, -400), edge(3, 0, 1, -400), edge(4, 0, 9, -400),
			edge(5, 1, 1000000000, 5), edge(2, 4, 1000000000, 6))},
		graphed{"nothing but what is under way", ask{rightBooks()["nothing but what is under"], 50, 50, 1, nil}, graph(3, edge(1, 0, 4, -1), edge(2, 0, 3, -1))},
	)
}

// P13: books of the greatest size have a right graph.
func TestP13PlanGraphGreatest(t *testing.T) {
	b := full()
	l := everyWay(b, 20)
	for _, c := range []struct{ lo, hi, first int }{{0, 0, 40}, {100, 100, 5}, {50, 50, 18}} {
		g, ok := impl.PlanGraph(b, c.lo, c.hi, 1000000, l)
		if !ok || g.N != 21 || len(g.Edges) != 40 || g.Edges[0].Cap != c.first || !impl.GraphOk(g) {
			t.Errorf("%d to %d: %+v, %v", c.lo, c.hi, g, ok)
		}
		ask{b, c.lo, c.hi, 1000000, l}.look(t)
		ask{crowded(60, 20), c.lo, c.hi, 1000000, everyWay(crowded(0, 0), 20)}.look(t)
	}
}

func TestP13PlanGraphNot(t *testing.T) {
	b, l := busy(), prices(price(1, 2, 5))
	for name, a := range map[string]ask{
		"lo -1":               {b, -1, 70, 400, l},
		"lo the least int":    {b, leastInt, 70, 400, l},
		"lo 101":              {b, 101, 101, 400, l},
		"lo 101, hi 100":      {b, 101, 100, 400, l},
		"hi -1":               {b, 0, -1, 400, l},
		"both -1":             {b, -1, -1, 400, l},
		"hi 101":              {b, 30, 101, 400, l},
		"hi the greatest int": {b, 30, greatestInt, 400, l},
		"hi one below lo":     {b, 30, 29, 400, l},
		"hi 0, lo 1":          {b, 1, 0, 400, l},
		"hi 99, lo 100":       {b, 100, 99, 400, l},
		"turned round":        {b, 70, 30, 400, l},
		"gain -1":             {b, 30, 70, -1, l},
		"gain the least int":  {b, 30, 70, leastInt, l},
		"gain Million and 1":  {b, 30, 70, 1000001, l},
		"gain greatest int":   {b, 30, 70, greatestInt, l},
		"all of it":           {impl.Book{}, -1, 101, -1, prices(impl.Price{})},
	} {
		lookNothing(t, name, a)
		// Also where there is nothing that they could be asked for.
		lookNothing(t, name+", no prices", ask{b, a.lo, a.hi, a.gain, nil})
		lookNothing(t, name+", no channels", ask{impl.BookNew(), a.lo, a.hi, a.gain, nil})
		a.look(t)
	}
}

// P13: lo, hi and gain at all edges at once, for books of all kinds.
func TestP13PlanGraphAtEdges(t *testing.T) {
	limits := []int{leastInt, -1, 0, 1, 30, 50, 99, 100, 101, greatestInt}
	for name, b := range rightBooks() {
		l := everyWay(b, 20)
		for _, lo := range limits {
			for _, hi := range limits {
				for _, gain := range []int{leastInt, -1, 0, 1, 60, 1000000, 1000001, greatestInt} {
					a := ask{b, lo, hi, gain, l}
					want, ok := a.wantGraph()
					got, found := impl.PlanGraph(b, lo, hi, gain, l)
					if !sameGraph(got, want) || ok != found {
						t.Fatalf("%s: PlanGraph of %d, %d, %d = %+v, %v; want %+v, %v", name, lo, hi, gain, got, found, want, ok)
					}
				}
			}
		}
	}
}
