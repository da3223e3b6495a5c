package tests

import (
	"testing"

	"loop.example/g00400/impl"
)

// nodeEdges are the numbers around the nodes of a graph of n.
func nodeEdges(n int) []int { return []int{leastInt, -1, 0, 1, n - 2, n - 1, n, n + 1, greatestInt} }

func capEdges() []int {
	return []int{leastInt, -1000000000, -2, -1, 0, 1, 2, 999999999, 1000000000, 1000000001, top, greatestInt}
}

func costEdges() []int {
	return []int{leastInt, -1000000001, -1000002, -1000001, -1000000, -999999, -1, 0, 1, 999999, 1000000, 1000001, 1000002, greatestInt}
}

// P13: the greatest of everything is right still.
func TestP13GraphOk(t *testing.T) {
	for name, g := range map[string]impl.Graph{
		"one node":                   graph(1),
		"one node, nil edges":        {N: 1, Edges: nil},
		"one node, empty edges":      {N: 1, Edges: []impl.Edge{}},
		"two nodes":                  graph(2),
		"MaxNodes":                   graph(24),
		"MaxNodes less 1":            graph(23, edge(0, 22, 1, 1), edge(22, 0, 1, 1)),
		"an edge":                    graph(2, edge(0, 1, 5, 1)),
		"an edge back":               graph(2, edge(1, 0, 5, 1)),
		"From the last to the first": graph(24, edge(23, 0, 5, 1)),
		"From the first to the last": graph(24, edge(0, 23, 5, 1)),
		"both ways":                  graph(2, edge(0, 1, 5, 1), edge(1, 0, 5, 1)),
		"side by side":               graph(2, edge(0, 1, 5, 1), edge(0, 1, 5, 1)),
		"MaxEdges":                   graph(2, sideBySide(60, edge(0, 1, 5, 1))...),
		"MaxEdges less 1":            graph(2, sideBySide(59, edge(0, 1, 5, 1))...),
		"Cap 0":                      graph(2, edge(0, 1, 0, 1)),
		"Cap MaxCap":                 graph(2, edge(0, 1, 1000000000, 1)),
		"Cost 0":                     graph(2, edge(0, 1, 5, 0)),
		"Cost MaxCost":               graph(2, edge(0, 1, 5, 1000000)),
		"Cost -MaxCost":              graph(2, edge(0, 1, 5, -1000000)),
		"greatest":                   graph(24, sideBySide(60, edge(23, 22, 1000000000, -1000000))...),
	} {
		if given := roomyGraph(g); !impl.GraphOk(g) || !impl.GraphOk(given) || !asGiven(given, g, nil, nil) {
			t.Errorf("%s: %+v: GraphOk %v, or changed", name, g, impl.GraphOk(g))
		}
	}
	eachWrongGraph(t, func(t *testing.T, g impl.Graph) {
		if impl.GraphOk(g) {
			t.Errorf("GraphOk of %+v", g)
		}
	})
}

// P13: GraphOk at all edges of all fields at once.
func TestP13GraphOkAtEdges(t *testing.T) {
	right := 0
	for _, n := range []int{leastInt, -1, 0, 1, 2, 3, 23, 24, 25, 26, greatestInt} {
		for _, from := range nodeEdges(n) {
			for _, to := range nodeEdges(n) {
				for _, most := range capEdges() {
					for _, cost := range costEdges() {
						g := graph(n, edge(0, 1, 1, 1), edge(from, to, most, cost))
						want := wantGraphOk(g)
						if impl.GraphOk(g) != want {
							t.Errorf("GraphOk of %+v = %v; want %v", g, !want, want)
						}
						if want {
							right++
						}
					}
				}
			}
		}
	}
	if right < 1000 {
		t.Errorf("only %d were right: the test looks at too few", right)
	}
}

func TestP13FlowOk(t *testing.T) {
	triangle := graph(3, edge(0, 1, 5, 1), edge(1, 2, 3, 1), edge(2, 0, 9, -4), edge(1, 0, 9, 0))
	both := graph(2, edge(0, 1, 5, 1), edge(0, 1, 4, 2), edge(1, 0, 9, -1), edge(1, 0, 2, -1))
	greatest := graph(2, append(sideBySide(30, edge(0, 1, 1000000000, 1000000)), sideBySide(30, edge(1, 0, 1000000000, 1000000))...)...)
	pairs := graph(4, edge(0, 1, 5, 0), edge(1, 0, 5, 0), edge(2, 3, 5, 0), edge(3, 2, 5, 0))
	star := graph(4, edge(0, 1, 5, 0), edge(0, 2, 5, 0), edge(1, 3, 5, 0), edge(2, 3, 5, 0), edge(3, 0, 8, 0))
	same := graph(2, sideBySide(4, edge(0, 1, 1000000000, 0))...)
	for _, c := range []struct {
		name string
		g    impl.Graph
		f    []int
		want bool
	}{
		{"nothing flows", triangle, flow(0, 0, 0, 0), true},
		{"around", triangle, flow(2, 1, 1, 1), true},
		{"at Cap", triangle, flow(5, 3, 3, 2), true},
		{"one node not even", triangle, flow(2, 1, 1, 0), false},
		{"even at node 0 alone", triangle, flow(1, 0, 1, 0), false},
		{"even at node 2 alone", triangle, flow(1, 2, 2, 0), false},
		{"one above Cap", triangle, flow(6, 3, 3, 3), false},
		{"the second above Cap", triangle, flow(4, 4, 4, 0), false},
		{"the last above Cap", graph(2, edge(0, 1, 9, 0), edge(1, 0, 3, 0)), flow(4, 4), false},
		{"-1 around", triangle, flow(-1, -1, -1, 0), false},
		{"-1 at one", both, flow(-1, 1, 0, 0), false},
		{"-1 at the last", both, flow(0, 1, 2, -1), false},
		{"nil", triangle, nil, false},
		{"empty", triangle, []int{}, false},
		{"too short", triangle, flow(0, 0, 0), false},
		{"too long", triangle, flow(0, 0, 0, 0, 0), false},
		{"too long, even", triangle, flow(2, 1, 1, 1, 0), false},
		{"side by side", both, flow(5, 4, 8, 1), true},
		{"side by side, all of the last", both, flow(0, 2, 0, 2), true},
		{"side by side, above Cap together", both, flow(0, 5, 5, 0), false},
		{"no edges, nil", graph(3), nil, true},
		{"no edges, empty", graph(3), []int{}, true},
		{"no edges, a number", graph(3), flow(0), false},
		{"one node, no edges", graph(1), nil, true},
		{"Cap 0", graph(2, edge(0, 1, 0, 1), edge(1, 0, 0, 1)), flow(0, 0), true},
		{"Cap 0, 1 flows", graph(2, edge(0, 1, 0, 1), edge(1, 0, 0, 1)), flow(1, 1), false},
		{"greatest, all full", greatest, repeated(60, 1000000000), true},
		{"greatest, one less", greatest, append(repeated(59, 1000000000), 999999999), false},
		{"greatest, one above", greatest, append(append(repeated(29, 1000000000), 1000000001), append(repeated(29, 1000000000), 1000000001)...), false},
		{"two apart", pairs, flow(3, 3, 1, 1), true},
		{"two apart, each not even", pairs, flow(3, 1, 1, 3), false},
		{"two apart, one alone", pairs, flow(0, 0, 5, 5), true},
		{"two ways", star, flow(2, 5, 2, 5, 7), true},
		{"two ways, crossed", star, flow(2, 5, 5, 2, 7), false},
		{"sum wraps round to 0", same, repeated(4, 1<<62), false},
		{"sum wraps round to 0, below", same, repeated(4, -1<<62), false},
		{"the least int twice", graph(2, edge(0, 1, 5, 0), edge(0, 1, 5, 0)), repeated(2, leastInt), false},
		{"the greatest int both ways", graph(2, edge(0, 1, 5, 0), edge(1, 0, 5, 0)), repeated(2, greatestInt), false},
		{"the least int both ways", graph(2, edge(0, 1, 5, 0), edge(1, 0, 5, 0)), repeated(2, leastInt), false},
	} {
		lookFlow(t, c.name, c.g, c.f, c.want)
	}
	eachWrongGraph(t, func(t *testing.T, g impl.Graph) { lookFlow(t, "not right", g, nothingFlows(g), false) })
}

func repeated(count int, n int) []int {
	l := make([]int, count)
	for i := range l {
		l[i] = n
	}
	return l
}

// lookFlow looks at FlowOk and Cost at once: Cost is 0 where there is no flow.
func lookFlow(t *testing.T, name string, g impl.Graph, f []int, want bool) {
	t.Helper()
	if reckoned := wantFlowOk(g, f); reckoned != want {
		t.Errorf("%s: the tests reckon %v; told is %v", name, reckoned, want)
	}
	given, numbers := roomyGraph(g), withSpare(f, -7)
	if got := impl.FlowOk(given, numbers); got != want || impl.FlowOk(g, f) != want {
		t.Errorf("%s: FlowOk of %+v, %v = %v; want %v", name, g, f, got, want)
	}
	if got, cost := impl.Cost(given, numbers), wantCost(g, f); got != cost || impl.Cost(g, f) != cost {
		t.Errorf("%s: Cost of %+v, %v = %d; want %d", name, g, f, got, cost)
	}
	if !asGiven(given, g, [][]int{numbers}, [][]int{f}) {
		t.Errorf("%s: FlowOk or Cost changes what it is given", name)
	}
}

// P13: of small graphs every list of numbers from -1 to one above the Cap.
func TestP13FlowOkOfAllNumbers(t *testing.T) {
	c := dice(81)
	flows, others := 0, 0
	for range 1000 {
		g := graph(2 + c.below(3))
		for range c.below(5) {
			g.Edges = append(g.Edges, c.edge(g.N, c.below(3), c.below(9)-4))
		}
		f := nothingFlows(g)
		var from func(i int)
		from = func(i int) {
			if i < len(f) {
				for n := -1; n <= g.Edges[i].Cap+1; n++ {
					f[i] = n
					from(i + 1)
				}
				return
			}
			want := wantFlowOk(g, f)
			if impl.FlowOk(g, f) != want || impl.Cost(g, f) != wantCost(g, f) {
				t.Fatalf("of %+v, %v: FlowOk %v, Cost %d; want %v, %d", g, f, impl.FlowOk(g, f), impl.Cost(g, f), want, wantCost(g, f))
			}
			if want {
				flows++
			} else {
				others++
			}
		}
		from(0)
	}
	if flows < 500 || others < 5000 {
		t.Errorf("%d flows, %d others: the test looks at too few", flows, others)
	}
}

func TestP13Cost(t *testing.T) {
	triangle := graph(3, edge(0, 1, 5, 1), edge(1, 2, 3, 1), edge(2, 0, 9, -4), edge(1, 0, 9, 0))
	around := func(cost int) impl.Graph {
		return graph(2, append(sideBySide(30, edge(0, 1, 1000000000, cost)), sideBySide(30, edge(1, 0, 1000000000, cost))...)...)
	}
	for _, c := range []struct {
		name string
		g    impl.Graph
		f    []int
		want int
	}{
		{"nothing flows", triangle, flow(0, 0, 0, 0), 0},
		{"around", triangle, flow(2, 1, 1, 1), -1},
		{"one way alone", triangle, flow(3, 0, 0, 3), 3},
		{"all that earns", triangle, flow(3, 3, 3, 0), -6},
		{"no flow", triangle, flow(2, 1, 1, 0), 0},
		{"above Cap", triangle, flow(6, 3, 3, 3), 0},
		{"below 0", triangle, flow(-1, -1, -1, 0), 0},
		{"nil", triangle, nil, 0},
		{"too long", triangle, flow(2, 1, 1, 1, 0), 0},
		{"no edges", graph(2), nil, 0},
		{"costs that cancel", graph(2, edge(0, 1, 9, 7), edge(1, 0, 9, -7)), flow(9, 9), 0},
		{"the greatest cost", around(1000000), repeated(60, 1000000000), 60000000000000000},
		{"the least cost", around(-1000000), repeated(60, 1000000000), -60000000000000000},
		{"greatest but one", around(999999), repeated(60, 999999999), 59999939940000060},
	} {
		if got := impl.Cost(c.g, c.f); got != c.want {
			t.Errorf("%s: Cost = %d; want %d", c.name, got, c.want)
		}
	}
	eachWrongGraph(t, func(t *testing.T, g impl.Graph) {
		if got := impl.Cost(g, nothingFlows(g)); got != 0 {
			t.Errorf("Cost of %+v = %d", g, got)
		}
	})
	// A graph that isn't right has no cost, even where what flows would have one.
	for name, g := range map[string]impl.Graph{
		"Cost one beyond": graph(2, edge(0, 1, 5, 1000001), edge(1, 0, 5, 0)),
		"Cap one beyond":  graph(2, edge(0, 1, 1000000001, 7), edge(1, 0, 5, 0)),
		"N one beyond":    graph(25, edge(0, 1, 5, 7), edge(1, 0, 5, 0)),
		"From is To":      graph(2, edge(0, 0, 5, 7), edge(1, 1, 5, 0)),
	} {
		if got := impl.Cost(g, flow(2, 2)); got != 0 {
			t.Errorf("%s: Cost = %d", name, got)
		}
	}
}
