package tests

import (
	"slices"
	"testing"

	"loop.example/g00400/impl"
)

// A case of Push; want is nil where it says false.
type pushed struct {
	name string
	g    impl.Graph
	f    []int
	ring []int
	want []int
}

func lookPushed(t *testing.T, cases ...pushed) {
	t.Helper()
	for _, c := range cases {
		got, ok := impl.Push(c.g, c.f, c.ring)
		if !slices.Equal(got, c.want) || ok != (c.want != nil) {
			t.Errorf("%s: Push = %v, %v; want %v", c.name, got, ok, c.want)
		}
		lookPush(t, c.g, c.f, c.ring)
	}
}

// pushGraph has a ring of three edges, an edge back beside it, and two nodes apart with edges both ways.
func pushGraph() impl.Graph {
	return graph(5, edge(0, 1, 5, 1), edge(1, 2, 3, 1), edge(2, 0, 9, -4), edge(1, 0, 9, 0), edge(3, 4, 7, 2), edge(4, 3, 2, 2))
}

func TestP13Push(t *testing.T) {
	g, none := pushGraph(), repeated(6, 0)
	wide := graph(2, edge(0, 1, 1000000000, 1000000), edge(1, 0, 1000000000, -1000000))
	lookPushed(t,
		pushed{"from its end", g, none, flow(4, 2, 0), flow(3, 3, 3, 0, 0, 0)},
		pushed{"from its beginning", g, none, flow(0, 2, 4), flow(3, 3, 3, 0, 0, 0)},
		pushed{"in any order", g, none, flow(2, 0, 4), flow(3, 3, 3, 0, 0, 0)},
		pushed{"two arcs", g, none, flow(0, 6), flow(5, 0, 0, 5, 0, 0)},
		pushed{"the last edges", g, none, flow(8, 10), flow(0, 0, 0, 0, 2, 2)},
		pushed{"one that costs", g, none, flow(10, 8), flow(0, 0, 0, 0, 2, 2)},
		pushed{"the least rest is first", g, flow(3, 0, 0, 3, 0, 0), flow(0, 2, 4), flow(5, 2, 2, 3, 0, 0)},
		pushed{"the least rest is second", g, flow(1, 1, 1, 0, 0, 0), flow(0, 2, 4), flow(3, 3, 3, 0, 0, 0)},
		pushed{"the least rest is last", graph(2, edge(0, 1, 5, 0), edge(1, 0, 4, 0)), flow(3, 3), flow(0, 2), flow(4, 4)},
		pushed{"rests alike", graph(2, edge(0, 1, 5, 0), edge(1, 0, 5, 0)), flow(1, 1), flow(0, 2), flow(5, 5)},
		pushed{"taken off", g, flow(2, 1, 1, 1, 0, 0), flow(7, 2, 4), flow(2, 2, 2, 0, 0, 0)},
		pushed{"all taken off", g, flow(3, 3, 3, 0, 1, 1), flow(1, 5, 3), flow(0, 0, 0, 0, 1, 1)},
		pushed{"some taken off", g, flow(4, 1, 1, 3, 0, 0), flow(1, 7), flow(1, 1, 1, 0, 0, 0)},
		pushed{"from one edge to the other", g, flow(5, 1, 1, 4, 0, 0), flow(2, 4, 7), flow(5, 3, 3, 2, 0, 0)},
		pushed{"both arcs of one edge change nothing", g, flow(2, 1, 1, 1, 0, 0), flow(0, 1), flow(2, 1, 1, 1, 0, 0)},
		pushed{"both arcs of one edge, back first", g, flow(2, 1, 1, 1, 0, 0), flow(7, 6), flow(2, 1, 1, 1, 0, 0)},
		pushed{"both arcs of each edge", g, flow(1, 0, 0, 1, 1, 1), flow(0, 1, 7, 6, 8, 11, 10, 9), flow(1, 0, 0, 1, 1, 1)},
		pushed{"both arcs of one edge hold a ring back", g, flow(1, 1, 1, 0, 1, 1), flow(4, 0, 10, 11, 2), flow(2, 2, 2, 0, 1, 1)},
		pushed{"two rings at once", g, none, flow(0, 8, 6, 10), flow(2, 0, 0, 2, 2, 2)},
		pushed{"two rings at once, one back", g, flow(0, 0, 0, 0, 2, 2), flow(0, 9, 2, 11, 4), flow(2, 2, 2, 0, 0, 0)},
		pushed{"the greatest", wide, flow(0, 0), flow(2, 0), flow(1000000000, 1000000000)},
		pushed{"the greatest back", wide, flow(1000000000, 1000000000), flow(1, 3), flow(0, 0)},
		pushed{"all but one", wide, flow(1, 1), flow(0, 2), flow(1000000000, 1000000000)},
		pushed{"all nodes", roundGraph(24, 5), repeated(24, 0), stepped(0, 46, 2), repeated(24, 1)},
		pushed{"all nodes back", roundGraph(24, 5), repeated(24, 1), stepped(47, 1, -2), repeated(24, 0)},
	)
}

// P13: what isn't a flow, what isn't a ring.
func TestP13PushNot(t *testing.T) {
	g, none, some := pushGraph(), repeated(6, 0), flow(2, 1, 1, 1, 0, 0)
	around := flow(0, 2, 4)
	lookPushed(t,
		pushed{"nil", g, none, nil, nil},
		pushed{"empty", g, none, []int{}, nil},
		pushed{"empty, no edges", graph(3), nil, nil, nil},
		pushed{"an arc of no edge, no edges", graph(3), nil, flow(0), nil},
		pushed{"an arc twice", g, none, flow(0, 2, 4, 0), nil},
		pushed{"the last arc twice", g, none, flow(0, 2, 4, 4), nil},
		pushed{"the whole ring twice", g, none, flow(0, 2, 4, 0, 2, 4), nil},
		pushed{"an arc of two twice", g, none, flow(8, 8, 10, 10), nil},
		pushed{"an arc back twice", g, some, flow(7, 2, 4, 7), nil},
		pushed{"both arcs of one edge, one twice", g, some, flow(0, 1, 0), nil},
		pushed{"one arc alone", g, none, flow(0), nil},
		pushed{"two of three", g, none, flow(0, 2), nil},
		pushed{"first and last of three", g, none, flow(0, 4), nil},
		pushed{"a ring and an arc more", g, none, flow(0, 2, 4, 6), nil},
		pushed{"a ring and an arc apart", g, none, flow(0, 2, 4, 8), nil},
		pushed{"arcs of two rings", g, none, flow(0, 10), nil},
		pushed{"arcs that meet at their ends", g, none, flow(4, 6), nil},
		pushed{"a full arc", g, flow(3, 3, 3, 0, 0, 0), around, nil},
		pushed{"a full arc, last", g, flow(5, 0, 0, 5, 0, 0), flow(2, 4, 0), nil},
		pushed{"an arc back of 0", g, none, flow(1, 3, 5), nil},
		pushed{"an arc back of 0 beside its forth", g, none, flow(0, 1), nil},
		pushed{"a full arc beside its back", g, flow(0, 0, 0, 0, 2, 2), flow(10, 11), nil},
		pushed{"Cap 0", graph(2, edge(0, 1, 0, 0), edge(1, 0, 5, 0)), flow(0, 0), flow(0, 2), nil},
		pushed{"-1", g, none, flow(-1), nil},
		pushed{"-1 behind a ring", g, none, flow(0, 2, 4, -1), nil},
		pushed{"-2 and back", g, none, flow(-2, 0), nil},
		pushed{"of no edge", g, none, flow(12), nil},
		pushed{"of no edge, back", g, none, flow(13), nil},
		pushed{"of no edge behind a ring", g, none, flow(0, 2, 4, 12), nil},
		pushed{"of no edge, far", g, none, flow(120), nil},
		pushed{"the least int", g, none, flow(leastInt), nil},
		pushed{"the least int behind a ring", g, none, flow(0, 2, 4, leastInt), nil},
		pushed{"the greatest int", g, none, flow(greatestInt), nil},
		pushed{"the greatest int behind a ring", g, none, flow(0, 2, 4, greatestInt), nil},
		pushed{"wraps round to a ring's", g, none, flow(leastInt, 2, 4), nil},
		pushed{"not even", g, flow(1, 0, 0, 0, 0, 0), around, nil},
		pushed{"would come even", g, flow(1, 0, 0, 0, 0, 0), flow(1), nil},
		pushed{"numbers of -1", g, flow(-1, -1, -1, 0, 0, 0), around, nil},
		pushed{"numbers above Cap", g, flow(6, 0, 0, 6, 0, 0), flow(8, 10), nil},
		pushed{"numbers too short", g, flow(0, 0, 0, 0, 0), around, nil},
		pushed{"numbers too long", g, flow(0, 0, 0, 0, 0, 0, 0), around, nil},
		pushed{"numbers nil", g, nil, around, nil},
		pushed{"N one beyond", graph(25, g.Edges...), none, around, nil},
		pushed{"N 0", graph(0, g.Edges...), none, around, nil},
		pushed{"N too small", graph(4, g.Edges...), none, around, nil},
		pushed{"an edge too many", graph(2, append(sideBySide(60, edge(0, 1, 5, 0)), edge(1, 0, 5, 0))...), repeated(61, 0), flow(0, 120), nil},
	)
	eachWrongGraph(t, func(t *testing.T, g impl.Graph) { lookPush(t, g, nothingFlows(g), flow(0)) })
}

// P13: the last of the greatest number of edges has its arcs too.
func TestP13PushGreatest(t *testing.T) {
	g := graph(24, append(sideBySide(59, edge(22, 23, 1000000000, 1)), edge(23, 22, 1000000000, 1))...)
	lookPushed(t,
		pushed{"the last", g, repeated(60, 0), flow(116, 118), append(append(repeated(58, 0), 1000000000), 1000000000)},
		pushed{"one beyond", g, repeated(60, 0), flow(116, 120), nil},
		pushed{"one beyond, back", g, repeated(60, 0), flow(116, 118, 121), nil},
		pushed{"all arcs forth", g, repeated(60, 0), stepped(0, 118, 2), nil},
	)
	// As many arcs as there are: every edge forth and back.
	half := graph(2, append(sideBySide(30, edge(0, 1, 9, 1)), sideBySide(30, edge(1, 0, 9, 1))...)...)
	lookPushed(t,
		pushed{"every arc", half, repeated(60, 4), stepped(0, 119, 1), repeated(60, 4)},
		pushed{"every arc forth", half, repeated(60, 4), stepped(0, 118, 2), repeated(60, 9)},
		pushed{"every arc back", half, repeated(60, 4), stepped(1, 119, 2), repeated(60, 0)},
		pushed{"every arc and one again", half, repeated(60, 4), append(stepped(0, 119, 1), 60), nil},
	)
}

// P13: at all flows of small graphs every row of up to four numbers of arcs, some of them none.
func TestP13PushOfAllRows(t *testing.T) {
	c := dice(84)
	went, not := 0, 0
	for range 200 {
		g := graph(2 + c.below(2))
		for range 1 + c.below(3) {
			g.Edges = append(g.Edges, c.edge(g.N, c.below(3), c.below(5)-2))
		}
		eachFlow(g, func(f []int) {
			eachRow(4, 2*len(g.Edges), func(row []int) {
				want, wantOk := wantPush(g, f, row)
				got, ok := impl.Push(g, f, row)
				if !slices.Equal(got, want) || ok != wantOk {
					t.Fatalf("Push of %+v, %v, %v = %v, %v; want %v, %v", g, f, row, got, ok, want, wantOk)
				}
				if ok {
					went++
				} else {
					not++
				}
			})
		})
	}
	if went < 500 || not < 10000 {
		t.Errorf("%d pushes, %d refused: the test looks at too few", went, not)
	}
}

// eachRow goes through all rows of at most so many numbers from -1 to beyond.
func eachRow(most int, beyond int, look func(row []int)) {
	var from func(row []int)
	from = func(row []int) {
		look(row)
		if len(row) == most {
			return
		}
		for n := -1; n <= beyond; n++ {
			from(append(slices.Clone(row), n))
		}
	}
	from(nil)
}

// P13: along rings that are met by chance, earning or not, in greater graphs; and along such with one fault.
func TestP13PushByChance(t *testing.T) {
	c := dice(85)
	went, not := 0, 0
	count := func(_ []int, ok bool) {
		if ok {
			went++
		} else {
			not++
		}
	}
	for range 3000 {
		g := c.midGraph()
		f := c.wander(g, nothingFlows(g), c.below(20))
		var ring []int
		for _, w := range c.anyRing(g, f) {
			ring = append(ring, w.name)
		}
		count(lookPush(t, g, f, ring))
		if len(ring) > 0 {
			count(lookPush(t, g, f, ring[1:]))
			ring[c.below(len(ring))] ^= 1
			count(lookPush(t, g, f, ring))
		}
	}
	if went < 500 || not < 500 {
		t.Errorf("%d pushes, %d refused: the test looks at too few", went, not)
	}
}
