package tests

import (
	"slices"
	"testing"

	"loop.example/g00400/impl"
)

// roundGraph has one edge from each node to the next, and from the last to the first; that one alone costs something.
func roundGraph(n int, cost int) impl.Graph {
	g := graph(n)
	for i := range n {
		g.Edges = append(g.Edges, edge(i, (i+1)%n, 1, 0))
	}
	g.Edges[n-1].Cost = cost
	return g
}

// lineGraph has edges from each node to the next that each earn 1, the last first: each time through, what is earned comes one node farther.
func lineGraph(n int) impl.Graph {
	g := graph(n)
	for i := n - 2; i >= 0; i-- {
		g.Edges = append(g.Edges, edge(i, i+1, 1, -1))
	}
	return g
}

func backwards(g impl.Graph) impl.Graph {
	l := slices.Clone(g.Edges)
	slices.Reverse(l)
	return graph(g.N, l...)
}

// stepped is the row from first to last, so much apart.
func stepped(first int, last int, step int) []int {
	var l []int
	for n := first; n != last+step; n += step {
		l = append(l, n)
	}
	return l
}

// A case of Ring; want is nil where there is none.
type ringed struct {
	name string
	g    impl.Graph
	f    []int
	want []int
}

func lookRinged(t *testing.T, cases ...ringed) {
	t.Helper()
	for _, c := range cases {
		got, ok := impl.Ring(c.g, c.f)
		if !slices.Equal(got, c.want) || ok != (c.want != nil) {
			t.Errorf("%s: Ring = %v, %v; want %v", c.name, got, ok, c.want)
		}
		lookRing(t, c.g, c.f)
	}
}

// P13: rings told out, from the end to the beginning.
func TestP13Ring(t *testing.T) {
	triangle := graph(3, edge(0, 1, 5, 1), edge(1, 2, 3, 1), edge(2, 0, 9, -4), edge(1, 0, 9, 0))
	lookRinged(t,
		ringed{"three arcs", triangle, flow(0, 0, 0, 0), flow(4, 2, 0)},
		ringed{"three arcs, something flows", triangle, flow(2, 1, 1, 1), flow(7, 4, 2)},
		ringed{"the first full", triangle, flow(5, 0, 0, 5), flow(7, 4, 2)},
		ringed{"none left", triangle, flow(3, 3, 3, 0), nil},
		ringed{"both ways", graph(2, edge(0, 1, 5, -1), edge(1, 0, 5, 0)), flow(0, 0), flow(2, 0)},
		ringed{"both ways, Cap 1", graph(2, edge(0, 1, 1, -1), edge(1, 0, 1, 0)), flow(0, 0), flow(2, 0)},
		ringed{"both ways, turned", graph(2, edge(1, 0, 5, 0), edge(0, 1, 5, -1)), flow(0, 0), flow(2, 0)},
		ringed{"all that costs goes back", graph(2, edge(0, 1, 5, 3), edge(1, 0, 5, 0)), flow(5, 5), flow(3, 1)},
		ringed{"some that costs goes back", graph(2, edge(0, 1, 5, 3), edge(1, 0, 5, 0)), flow(2, 2), flow(3, 1)},
		ringed{"forth by one, back by the other", graph(2, edge(0, 1, 5, 5), edge(1, 0, 3, 0), edge(0, 1, 2, 1)), flow(3, 3, 0), flow(3, 1)},
		ringed{"side by side instead", graph(2, edge(0, 1, 5, 5), edge(1, 0, 3, 9), edge(0, 1, 2, -10)), flow(3, 3, 0), flow(4, 1)},
		ringed{"the greatest", graph(2, edge(0, 1, 1000000000, -1000000), edge(1, 0, 1000000000, -1000000)), flow(0, 0), flow(2, 0)},
		ringed{"the greatest the other way", graph(2, edge(0, 1, 1000000000, 1000000), edge(1, 0, 1000000000, 1000000)), repeated(2, 1000000000), flow(3, 1)},
		ringed{"just below 0", graph(2, edge(0, 1, 5, 1000000), edge(1, 0, 5, -1000000), edge(1, 0, 5, -1000000), edge(0, 1, 1, 999999)), flow(0, 0, 0, 0), flow(6, 2)},
		ringed{"all nodes", roundGraph(24, -1), nothingFlows(roundGraph(24, -1)), stepped(46, 0, -2)},
		ringed{"all nodes, turned", backwards(roundGraph(24, -1)), nothingFlows(roundGraph(24, -1)), append(flow(46), stepped(0, 44, 2)...)},
		ringed{"all nodes, the other way round", roundGraph(24, 1), repeated(24, 1), append(flow(47), stepped(1, 45, 2)...)},
	)
}

// P13: which of several rings is told shows the order in which the arcs are gone through, and how far one goes back.
func TestP13RingOfSeveral(t *testing.T) {
	tail := []impl.Edge{edge(0, 1, 5, -1), edge(1, 0, 5, 0), edge(1, 2, 5, 0), edge(2, 3, 5, 0)}
	one, other := []impl.Edge{edge(0, 1, 5, -1), edge(1, 0, 5, -1)}, []impl.Edge{edge(2, 3, 5, -1), edge(3, 2, 5, -1)}
	back := edge(1, 0, 5, 1)
	lookRinged(t,
		ringed{"the last change lies behind the ring", graph(4, tail...), repeated(4, 0), flow(0, 2)},
		ringed{"one node more, one step more", graph(5, tail...), repeated(4, 0), flow(2, 0)},
		ringed{"two nodes more", graph(6, tail...), repeated(4, 0), flow(0, 2)},
		ringed{"two apart", graph(4, slices.Concat(one, other)...), repeated(4, 0), flow(6, 4)},
		ringed{"two apart, the other last", graph(4, slices.Concat(other, one)...), repeated(4, 0), flow(6, 4)},
		ringed{"two apart, mixed", graph(4, one[0], other[0], other[1], one[1]), repeated(4, 0), flow(6, 0)},
		ringed{"two apart, the last full", graph(4, slices.Concat(one, other)...), flow(0, 0, 5, 5), flow(2, 0)},
		ringed{"the cheaper is second", graph(2, edge(0, 1, 5, -2), edge(0, 1, 5, -3), back), repeated(3, 0), flow(4, 2)},
		ringed{"the cheaper is first", graph(2, edge(0, 1, 5, -3), edge(0, 1, 5, -2), back), repeated(3, 0), flow(4, 0)},
		ringed{"equal ones: the first", graph(2, edge(0, 1, 5, -3), edge(0, 1, 5, -3), back), repeated(3, 0), flow(4, 0)},
		ringed{"equal ones, the first full", graph(2, edge(0, 1, 0, -3), edge(0, 1, 5, -3), back), repeated(3, 0), flow(4, 2)},
		ringed{"equal ones back: the one that is gone through first when it counts", graph(2, back, edge(0, 1, 5, -3), back), repeated(3, 0), flow(4, 2)},
	)
}

// P13: where there is no ring, where what is given isn't right.
func TestP13RingNone(t *testing.T) {
	fine := []impl.Edge{edge(0, 1, 5, -1), edge(1, 0, 5, -1)}
	lookRinged(t,
		ringed{"one node", graph(1), nil, nil},
		ringed{"no edges", graph(24), nil, nil},
		ringed{"no edges, empty", graph(24), []int{}, nil},
		ringed{"one edge", graph(2, edge(0, 1, 5, -1000000)), flow(0), nil},
		ringed{"sums to 0", graph(2, edge(0, 1, 5, -1), edge(1, 0, 5, 1)), flow(0, 0), nil},
		ringed{"sums to 0, something flows", graph(2, edge(0, 1, 5, -1), edge(1, 0, 5, 1)), flow(3, 3), nil},
		ringed{"sums to 1", graph(2, edge(0, 1, 5, -1), edge(1, 0, 5, 2)), flow(0, 0), nil},
		ringed{"an edge's own two arcs are none", graph(2, edge(0, 1, 5, -7), edge(1, 0, 3, 7)), flow(2, 2), nil},
		ringed{"all full", graph(2, fine...), flow(5, 5), nil},
		ringed{"Cap 0", graph(2, edge(0, 1, 0, -1), edge(1, 0, 5, -1)), flow(0, 0), nil},
		ringed{"all nodes, sums to 0", roundGraph(24, 0), repeated(24, 0), nil},
		ringed{"all nodes, sums to 1", roundGraph(24, 1), repeated(24, 0), nil},
		ringed{"all nodes, full", roundGraph(24, -1), repeated(24, 1), nil},
		ringed{"a line of 2", lineGraph(2), repeated(1, 0), nil},
		ringed{"a line of 3", lineGraph(3), repeated(2, 0), nil},
		ringed{"a line of all nodes, changed until the last time but one", lineGraph(24), repeated(23, 0), nil},
		ringed{"no flow", graph(2, fine...), flow(1, 0), nil},
		ringed{"-1", graph(2, fine...), flow(-1, -1), nil},
		ringed{"above Cap", graph(2, fine...), flow(6, 6), nil},
		ringed{"nil for two", graph(2, fine...), nil, nil},
		ringed{"too short", graph(2, fine...), flow(0), nil},
		ringed{"too long", graph(2, fine...), flow(0, 0, 0), nil},
		ringed{"N one beyond", graph(25, fine...), flow(0, 0), nil},
		ringed{"N 0", graph(0, fine...), flow(0, 0), nil},
		ringed{"an edge too many", graph(2, append(sideBySide(60, fine[0]), fine[1])...), repeated(61, 0), nil},
	)
	eachWrongGraph(t, func(t *testing.T, g impl.Graph) { lookRing(t, g, nothingFlows(g)) })
}

// lookRingRight holds a ring against what P7 says of it, whichever it is.
func lookRingRight(t *testing.T, g impl.Graph, f []int, ring []int) {
	t.Helper()
	left := waysLeft(g, f)
	var arcs []way
	for _, name := range ring {
		at := slices.IndexFunc(left, func(w way) bool { return w.name == name })
		if at < 0 {
			t.Fatalf("%+v, %v: ring %v: %d is no rest arc", g, f, ring, name)
		}
		arcs = append(arcs, left[at])
	}
	sum, seen := 0, map[int]bool{}
	for i, w := range arcs {
		if next := arcs[(i+1)%len(arcs)]; w.from != next.to {
			t.Fatalf("%+v, %v: ring %v: arc %d doesn't begin where %d ends", g, f, ring, w.name, next.name)
		}
		if seen[w.to] {
			t.Fatalf("%+v, %v: ring %v comes to node %d twice", g, f, ring, w.to)
		}
		seen[w.to] = true
		sum += w.cost
	}
	if sum >= 0 {
		t.Fatalf("%+v, %v: ring %v sums to %d", g, f, ring, sum)
	}
}

// P7: a ring is one, and is found just where there is one; pushing along it makes the flow cheaper.
func TestP7RingsMakeCheaper(t *testing.T) {
	c := dice(82)
	found, none, long := 0, 0, 0
	look := func(g impl.Graph, f []int) {
		ring, ok := impl.Ring(g, f)
		if ok != hasRing(g, f) {
			t.Fatalf("%+v, %v: Ring says %v", g, f, ok)
		}
		if !ok {
			none++
			return
		}
		found++
		if len(ring) > 3 {
			long++
		}
		lookRingRight(t, g, f, ring)
		pushed, ok := impl.Push(g, f, ring)
		if !ok || !impl.FlowOk(g, pushed) || !wantFlowOk(g, pushed) || impl.Cost(g, pushed) >= impl.Cost(g, f) {
			t.Fatalf("%+v: %v of cost %d, pushed along %v: %v, %v of cost %d", g, f, impl.Cost(g, f), ring, pushed, ok, impl.Cost(g, pushed))
		}
		if _, ok := impl.Push(g, pushed, ring); ok {
			t.Fatalf("%+v, %v: the ring %v can be pushed along twice", g, f, ring)
		}
	}
	for range 4000 {
		small, mid := c.smallGraph(), c.midGraph()
		look(small, c.wander(small, nothingFlows(small), c.below(6)))
		look(mid, c.wander(mid, nothingFlows(mid), c.below(20)))
	}
	for range 1000 {
		great := c.greatGraph()
		look(great, c.wander(great, nothingFlows(great), c.below(20)))
	}
	if found < 1000 || none < 1000 || long < 300 {
		t.Errorf("%d rings, %d of them long, %d times none: the test looks at too few", found, long, none)
	}
}

// P13: the ring that is told is the one that the chapter's way finds, at all flows of small graphs, and at some of greater ones.
func TestP13RingAsTold(t *testing.T) {
	c := dice(83)
	found, none := 0, 0
	look := func(g impl.Graph, f []int) {
		if _, ok := lookRing(t, g, f); ok {
			found++
		} else {
			none++
		}
	}
	for range 1500 {
		small := c.smallGraph()
		eachFlow(small, func(f []int) { look(small, slices.Clone(f)) })
		mid, great := c.midGraph(), c.greatGraph()
		look(mid, c.wander(mid, nothingFlows(mid), c.below(20)))
		look(great, c.wander(great, nothingFlows(great), c.below(20)))
		if t.Failed() {
			return
		}
	}
	if found < 5000 || none < 1500 {
		t.Errorf("%d rings, %d times none: the test looks at too few", found, none)
	}
}
