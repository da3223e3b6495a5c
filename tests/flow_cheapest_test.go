package tests

import (
	"slices"
	"testing"

	"loop.example/g00400/impl"
)

// manyEven and manyOdd go to and fro over an edge that carries 1, so each of them wants about as many pushes as its Caps are together.
func manyEven(most int) impl.Graph {
	return graph(4, edge(2, 3, most, 0), edge(0, 2, most, 1), edge(3, 0, 2*most, -18), edge(1, 3, most, 2), edge(0, 1, most, 2), edge(1, 2, 1, 0))
}

func manyOdd(most int) impl.Graph {
	return graph(4, edge(1, 3, most, 1), edge(0, 1, most, -1), edge(0, 2, most, 2), edge(3, 0, 2*most, -5), edge(2, 3, most, 2), edge(1, 2, 1, 2))
}

func TestP13Cheapest(t *testing.T) {
	around := append(sideBySide(30, edge(0, 1, 1000000000, -1000000)), sideBySide(30, edge(1, 0, 1000000000, -1000000))...)
	for _, c := range []struct {
		name string
		g    impl.Graph
		want []int
		cost int
	}{
		{"one node", graph(1), nil, 0},
		{"one node, empty", impl.Graph{N: 1, Edges: []impl.Edge{}}, nil, 0},
		{"no edges", graph(24), nil, 0},
		{"one edge", graph(2, edge(0, 1, 5, -9)), flow(0), 0},
		{"nothing earns", graph(2, edge(0, 1, 5, 9), edge(1, 0, 5, -8)), flow(0, 0), 0},
		{"earns as much as it costs", graph(2, edge(0, 1, 5, 9), edge(1, 0, 5, -9)), flow(0, 0), 0},
		{"earns 1", graph(2, edge(0, 1, 5, 9), edge(1, 0, 4, -10)), flow(4, 4), -4},
		{"a ring of three", graph(3, edge(0, 1, 5, 1), edge(1, 2, 3, 1), edge(2, 0, 9, -4), edge(1, 0, 9, 0)), flow(3, 3, 3, 0), -6},
		{"Cap 0", graph(2, edge(0, 1, 0, -9), edge(1, 0, 5, -9)), flow(0, 0), 0},
		{"the cheaper one first", graph(2, edge(0, 1, 5, -2), edge(0, 1, 5, -3), edge(1, 0, 7, 1)), flow(2, 5, 7), -12},
		{"not those that cost", graph(2, edge(0, 1, 5, -2), edge(0, 1, 5, -3), edge(1, 0, 20, 2)), flow(0, 5, 5), -5},
		{"two apart", graph(4, edge(0, 1, 5, -1), edge(1, 0, 4, 0), edge(2, 3, 2, -1), edge(3, 2, 3, 0)), flow(4, 4, 2, 2), -6},
		{"the greatest", graph(2, around...), repeated(60, 1000000000), -60000000000000000},
		{"all nodes", roundGraph(24, -1000000), repeated(24, 1), -1000000},
		{"a line", lineGraph(24), repeated(23, 0), 0},
		{"MaxPush pushes", manyEven(200), flow(200, 200, 400, 200, 200, 0), 200*(0+1+2+2) - 400*18},
		{"MaxPush less 1", manyOdd(199), flow(199, 199, 199, 398, 199, 0), 199*(1-1+2+2) - 398*5},
	} {
		got, ok := impl.Cheapest(c.g)
		if !slices.Equal(got, c.want) || !ok || impl.Cost(c.g, got) != c.cost {
			t.Errorf("%s: Cheapest = %v, %v, of cost %d; want %v of %d", c.name, got, ok, impl.Cost(c.g, got), c.want, c.cost)
		}
		lookCheapest(t, c.g)
	}
}

// P13: with one push too few for it there is no flow; graphs that aren't right have none.
func TestP13CheapestNone(t *testing.T) {
	for name, g := range map[string]impl.Graph{
		"MaxPush and 1 pushes": manyOdd(200),
		"MaxPush and 2 pushes": manyEven(201),
		"many more":            manyEven(1000),
		"as many as can be":    manyOdd(500000000),
		"N one beyond":         graph(25, edge(0, 1, 5, 9), edge(1, 0, 4, -10)),
		"N 0":                  graph(0, edge(0, 1, 5, 9), edge(1, 0, 4, -10)),
		"Cost one beyond":      graph(2, edge(0, 1, 5, 9), edge(1, 0, 4, -1000001)),
		"Cap one beyond":       graph(2, edge(0, 1, 1000000001, 9), edge(1, 0, 4, -10)),
		"an edge too many":     graph(2, append(sideBySide(60, edge(0, 1, 5, 9)), edge(1, 0, 4, -10))...),
	} {
		if got, ok := impl.Cheapest(g); ok || len(got) != 0 {
			t.Errorf("%s: Cheapest = %v, %v; want none", name, got, ok)
		}
		lookCheapest(t, g)
	}
	eachWrongGraph(t, func(t *testing.T, g impl.Graph) { lookCheapest(t, g) })
}

// P13: how many pushes the graphs of the tests above want, as the tests count them, on both sides of MaxPush.
func TestP13CheapestManyPushes(t *testing.T) {
	for most := 190; most <= 205; most++ {
		for extra, g := range []impl.Graph{manyEven(most), manyOdd(most)} {
			want, ok, pushes := lookCheapest(t, g)
			if ok != (2*most+extra <= 400) || ok && pushes != 2*most+extra {
				t.Errorf("Cap %d, %d more: %v, %v by %d pushes", most, extra, want, ok, pushes)
			}
		}
	}
}

// P13: the flow that is told is the one that comes of the rings in their order.
func TestP13CheapestAsTold(t *testing.T) {
	c := dice(86)
	most := 0
	for range 600 {
		lookCheapest(t, c.smallGraph())
		_, _, pushes := lookCheapest(t, c.midGraph())
		_, _, more := lookCheapest(t, c.greatGraph())
		most = max(most, pushes, more)
		if t.Failed() {
			return
		}
	}
	if most < 30 {
		t.Errorf("at most %d pushes: the test looks at too few", most)
	}
}

// lookLeast holds a flow that Cheapest finds against P7: it is one, no ring is left in it, and it costs as told.
func lookLeast(t *testing.T, g impl.Graph, f []int, want int) {
	t.Helper()
	if !impl.FlowOk(g, f) || !wantFlowOk(g, f) {
		t.Fatalf("Cheapest of %+v = %v: no flow", g, f)
	}
	if ring, ok := impl.Ring(g, f); ok || hasRing(g, f) {
		t.Fatalf("Cheapest of %+v = %v: there is a ring still: %v", g, f, ring)
	}
	if got := impl.Cost(g, f); got != want || wantCost(g, f) != want {
		t.Fatalf("Cheapest of %+v = %v: costs %d; one costs %d", g, f, got, want)
	}
}

// P7: in small graphs no flow of all that there are costs less.
func TestP7CheapestOfAllFlows(t *testing.T) {
	c := dice(87)
	earns, flows := 0, 0
	for range 6000 {
		g := c.smallGraph()
		least := 0
		eachFlow(g, func(f []int) {
			flows++
			least = min(least, impl.Cost(g, f))
		})
		f, ok := impl.Cheapest(g)
		if !ok {
			t.Fatalf("Cheapest of %+v finds none", g)
		}
		lookLeast(t, g, f, least)
		if least < 0 {
			earns++
		}
	}
	if earns < 1000 || flows < 20000 {
		t.Errorf("%d earn something, %d flows: the test looks at too few", earns, flows)
	}
}

// P7: in graphs of any size, the greatest too, it costs what another way of reckoning finds, and no flow that is made by chance costs less.
func TestP7CheapestCostsLeast(t *testing.T) {
	c := dice(88)
	earns, apart, none := 0, 0, 0
	look := func(g impl.Graph) {
		f, ok := impl.Cheapest(g)
		if !ok {
			none++
			if _, ok, _ := wantCheapest(g); ok {
				t.Fatalf("Cheapest of %+v finds none", g)
			}
			return
		}
		cost := impl.Cost(g, f)
		lookLeast(t, g, f, leastCost(g))
		if cost < 0 {
			earns++
		}
		for _, from := range [][]int{f, nothingFlows(g)} {
			other := c.wander(g, from, 1+c.below(20))
			if !impl.FlowOk(g, other) || impl.Cost(g, other) < cost {
				t.Fatalf("%+v: %v costs %d, but %v costs %d", g, f, cost, other, impl.Cost(g, other))
			}
			if !slices.Equal(other, f) {
				apart++
			}
		}
	}
	for range 700 {
		look(c.midGraph())
		look(c.greatGraph())
	}
	if earns < 700 || apart < 1000 || none > 20 {
		t.Errorf("%d earn something, %d other flows, %d times none: the test looks at too few", earns, apart, none)
	}
}

// P7: the way there: each push costs less than the one ahead, and none is left out.
func TestP7CheapestByRings(t *testing.T) {
	c := dice(89)
	for range 300 {
		g := c.greatGraph()
		f := nothingFlows(g)
		for range 400 {
			ring, ok := impl.Ring(g, f)
			if !ok {
				break
			}
			next, ok := impl.Push(g, f, ring)
			if !ok || impl.Cost(g, next) >= impl.Cost(g, f) {
				t.Fatalf("%+v: %v along %v: %v, %v", g, f, ring, next, ok)
			}
			f = next
		}
		if got, ok := impl.Cheapest(g); !ok || !slices.Equal(got, f) {
			t.Fatalf("Cheapest of %+v = %v, %v; the rings lead to %v", g, got, ok, f)
		}
	}
}
