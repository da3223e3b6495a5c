package tests

import (
	"slices"
	"testing"

	"loop.example/g00400/impl"
)

func edge(from int, to int, most int, cost int) impl.Edge {
	return impl.Edge{From: from, To: to, Cap: most, Cost: cost}
}

func graph(n int, l ...impl.Edge) impl.Graph { return impl.Graph{N: n, Edges: l} }

func flow(l ...int) []int { return l }

// sideBySide are as many edges as told, all alike.
func sideBySide(count int, e impl.Edge) []impl.Edge { return slices.Repeat([]impl.Edge{e}, count) }

// nothingFlows is 0 for each edge.
func nothingFlows(g impl.Graph) []int { return make([]int, len(g.Edges)) }

// roomyGraph is g with spare room behind its edges, in which something stands.
func roomyGraph(g impl.Graph) impl.Graph {
	return impl.Graph{N: g.N, Edges: withSpare(g.Edges, edge(-7, -7, -7, -7))}
}

// asGiven shows, spare room too, whether a graph and lists that were handed in are still what they were.
func asGiven(g impl.Graph, was impl.Graph, lists [][]int, before [][]int) bool {
	if g.N != was.N || !spareToo(g.Edges, was.Edges, edge(-7, -7, -7, -7)) {
		return false
	}
	for i, l := range lists {
		if !spareToo(l, before[i], -7) {
			return false
		}
	}
	return true
}

// spareToo tells whether l is withSpare of what it was made of still.
func spareToo[T comparable](l []T, was []T, mark T) bool {
	want := append(slices.Clone(was), mark, mark, mark)
	return len(l) == len(was) && slices.Equal(l[:len(want)], want)
}

func wantGraphOk(g impl.Graph) bool {
	right := g.N >= 1 && g.N <= 24 && len(g.Edges) <= 60
	for _, e := range g.Edges {
		nodes := e.From >= 0 && e.From < g.N && e.To >= 0 && e.To < g.N && e.From != e.To
		numbers := e.Cap >= 0 && e.Cap <= 1000000000 && e.Cost >= -1000000 && e.Cost <= 1000000
		right = right && nodes && numbers
	}
	return right
}

func wantFlowOk(g impl.Graph, f []int) bool {
	if !wantGraphOk(g) || len(f) != len(g.Edges) {
		return false
	}
	for i, e := range g.Edges {
		if f[i] < 0 || f[i] > e.Cap {
			return false
		}
	}
	for node := range g.N {
		in, out := 0, 0
		for i, e := range g.Edges {
			if e.To == node {
				in += f[i]
			}
			if e.From == node {
				out += f[i]
			}
		}
		if in != out {
			return false
		}
	}
	return true
}

func wantCost(g impl.Graph, f []int) int {
	sum := 0
	if wantFlowOk(g, f) {
		for i, e := range g.Edges {
			sum += f[i] * e.Cost
		}
	}
	return sum
}

// A way is a rest arc as the tests list it.
type way struct {
	name, from, to, rest, cost int
}

func waysLeft(g impl.Graph, f []int) []way {
	var l []way
	for i, e := range g.Edges {
		l = append(l, way{2 * i, e.From, e.To, e.Cap - f[i], e.Cost}, way{2*i + 1, e.To, e.From, f[i], -e.Cost})
	}
	return slices.DeleteFunc(l, func(w way) bool { return w.rest == 0 })
}

// wantRing goes through all N times, as the chapter tells it.
func wantRing(g impl.Graph, f []int) ([]int, bool) {
	if !wantFlowOk(g, f) {
		return nil, false
	}
	left, far, last, end := waysLeft(g, f), make([]int, g.N), make([]way, g.N), -1
	for range g.N {
		end = -1
		for _, w := range left {
			if far[w.from]+w.cost < far[w.to] {
				far[w.to], last[w.to], end = far[w.from]+w.cost, w, w.to
			}
		}
	}
	if end < 0 {
		return nil, false
	}
	for range g.N {
		end = last[end].from
	}
	var ring []int
	for at := end; len(ring) == 0 || at != end; at = last[at].from {
		ring = append(ring, last[at].name)
	}
	return ring, true
}

func wantPush(g impl.Graph, f []int, ring []int) ([]int, bool) {
	if !wantFlowOk(g, f) || len(ring) == 0 {
		return nil, false
	}
	var rests []int
	for i, name := range ring {
		at := slices.IndexFunc(waysLeft(g, f), func(w way) bool { return w.name == name })
		if at < 0 || slices.Contains(ring[:i], name) {
			return nil, false
		}
		rests = append(rests, waysLeft(g, f)[at].rest)
	}
	pushed := slices.Clone(f)
	for _, name := range ring {
		pushed[name/2] += slices.Min(rests) * (1 - 2*(name%2))
	}
	if !wantFlowOk(g, pushed) {
		return nil, false
	}
	return pushed, true
}

// wantCheapest tells beside its answer how often it pushed.
func wantCheapest(g impl.Graph) ([]int, bool, int) {
	if !wantGraphOk(g) {
		return nil, false, 0
	}
	f := nothingFlows(g)
	for pushes := 0; pushes <= 400; pushes++ {
		ring, found := wantRing(g, f)
		if !found {
			return f, true, pushes
		}
		f, _ = wantPush(g, f, ring)
	}
	return nil, false, 400
}

// lookRing holds Ring against what the tests reckon, and looks that it keeps its hands off what it is given.
func lookRing(t *testing.T, g impl.Graph, f []int) ([]int, bool) {
	t.Helper()
	want, wantOk := wantRing(g, f)
	given, numbers := roomyGraph(g), withSpare(f, -7)
	got, ok := impl.Ring(given, numbers)
	if !slices.Equal(got, want) || ok != wantOk {
		t.Errorf("Ring of %+v, %v = %v, %v; want %v, %v", g, f, got, ok, want, wantOk)
	}
	blotList(got, -3)
	if !asGiven(given, g, [][]int{numbers}, [][]int{f}) {
		t.Errorf("Ring of %+v, %v changes or shares what it is given", g, f)
	}
	return want, wantOk
}

func lookPush(t *testing.T, g impl.Graph, f []int, ring []int) ([]int, bool) {
	t.Helper()
	want, wantOk := wantPush(g, f, ring)
	given, numbers, arcs := roomyGraph(g), withSpare(f, -7), withSpare(ring, -7)
	got, ok := impl.Push(given, numbers, arcs)
	if !slices.Equal(got, want) || ok != wantOk {
		t.Errorf("Push of %+v, %v, %v = %v, %v; want %v, %v", g, f, ring, got, ok, want, wantOk)
	}
	blotList(got, -3)
	if !asGiven(given, g, [][]int{numbers, arcs}, [][]int{f, ring}) {
		t.Errorf("Push of %+v, %v, %v changes or shares what it is given", g, f, ring)
	}
	return want, wantOk
}

func lookCheapest(t *testing.T, g impl.Graph) ([]int, bool, int) {
	t.Helper()
	want, wantOk, pushes := wantCheapest(g)
	given := roomyGraph(g)
	for range 2 {
		got, ok := impl.Cheapest(given)
		if !slices.Equal(got, want) || ok != wantOk {
			t.Errorf("Cheapest of %+v = %v, %v; want %v, %v", g, got, ok, want, wantOk)
		}
		blotList(got, -3)
		if !asGiven(given, g, nil, nil) {
			t.Errorf("Cheapest of %+v changes or shares what it is given", g)
		}
	}
	return want, wantOk, pushes
}

// wrongGraphs have one fault each.
func wrongGraphs() map[string]impl.Graph {
	fine := edge(0, 1, 5, 1)
	return map[string]impl.Graph{
		"nothing":                       {},
		"N 0":                           graph(0),
		"N 0, an edge":                  graph(0, fine),
		"N -1":                          graph(-1),
		"N the least int":               graph(leastInt, fine),
		"N one beyond MaxNodes":         graph(25, fine),
		"N the greatest int":            graph(greatestInt, fine),
		"one edge too many":             graph(2, sideBySide(61, fine)...),
		"far too many edges":            graph(2, sideBySide(1000, fine)...),
		"an edge of the only node":      graph(1, edge(0, 0, 5, 1)),
		"an edge to no other node":      graph(1, fine),
		"From -1":                       graph(3, edge(-1, 1, 5, 1)),
		"From N":                        graph(3, edge(3, 1, 5, 1)),
		"From the least int":            graph(3, edge(leastInt, 1, 5, 1)),
		"From the greatest int":         graph(3, edge(greatestInt, 1, 5, 1)),
		"To -1":                         graph(3, edge(1, -1, 5, 1)),
		"To N":                          graph(3, edge(1, 3, 5, 1)),
		"To the least int":              graph(3, edge(1, leastInt, 5, 1)),
		"To the greatest int":           graph(3, edge(1, greatestInt, 5, 1)),
		"From is To":                    graph(3, edge(1, 1, 5, 1)),
		"From is To, Cap 0":             graph(3, edge(2, 2, 0, 0)),
		"Cap -1":                        graph(3, edge(0, 1, -1, 1)),
		"Cap one beyond MaxCap":         graph(3, edge(0, 1, 1000000001, 1)),
		"Cap the least int":             graph(3, edge(0, 1, leastInt, 1)),
		"Cap the greatest int":          graph(3, edge(0, 1, greatestInt, 1)),
		"Cost one beyond MaxCost":       graph(3, edge(0, 1, 5, 1000001)),
		"Cost one beyond -MaxCost":      graph(3, edge(0, 1, 5, -1000001)),
		"Cost the least int":            graph(3, edge(0, 1, 5, leastInt)),
		"Cost the greatest int":         graph(3, edge(0, 1, 5, greatestInt)),
		"the last of many":              graph(2, append(sideBySide(59, fine), edge(1, 0, 5, 1000001))...),
		"the first of many":             graph(2, append(sideBySide(1, edge(1, 2, 5, 1)), sideBySide(59, fine)...)...),
		"one in the midst":              graph(3, fine, edge(1, 2, -1, 0), fine),
		"one that nothing can go along": graph(3, fine, edge(1, 2, 0, 1000001), fine),
	}
}

func eachWrongGraph(t *testing.T, look func(t *testing.T, g impl.Graph)) {
	for name, g := range wrongGraphs() {
		t.Run(name, func(t *testing.T) { look(t, g) })
	}
}
