package tests

import (
	"slices"

	"loop.example/g00400/impl"
)

// smallGraph has few nodes, many edges side by side and both ways, and so few flows that all can be gone through.
func (d *dice) smallGraph() impl.Graph {
	g := graph(2 + d.below(3))
	for range d.below(9) {
		g.Edges = append(g.Edges, d.edge(g.N, d.below(4), d.below(9)-4))
	}
	return g
}

// midGraph is of any size, with caps and costs from all over.
func (d *dice) midGraph() impl.Graph {
	g := graph(1 + d.below(24))
	if g.N == 1 {
		return g
	}
	for range d.below(61) {
		g.Edges = append(g.Edges, d.edge(g.N, d.cap(), d.cost()))
	}
	return g
}

// greatGraph has as many nodes and edges as a graph may; the costs lean to one side, so that its rings are few or many.
func (d *dice) greatGraph() impl.Graph {
	g := graph(24)
	lean := d.below(60) - 20
	for range 60 {
		cost := d.below(101) - 50 + lean
		g.Edges = append(g.Edges, d.edge(24, d.cap(), max(-1000000, min(1000000, cost*[]int{1, 1, 1000, 20000}[d.below(4)]))))
	}
	return g
}

func (d *dice) edge(n int, most int, cost int) impl.Edge {
	from := d.below(n)
	return edge(from, (from+1+d.below(n-1))%n, most, cost)
}

func (d *dice) cap() int {
	switch d.below(6) {
	case 0:
		return d.below(3)
	case 1:
		return 1000000000 - d.below(2)
	case 2:
		return d.below(1000000001)
	}
	return d.below(20)
}

func (d *dice) cost() int {
	switch d.below(8) {
	case 0:
		return 1000000 - d.below(2)
	case 1:
		return d.below(2) - 1000000
	case 2:
		return d.below(2000001) - 1000000
	case 3:
		return 0
	}
	return d.below(41) - 20
}

// wander is a flow that comes of f by pushing some of what fits along rings of rest arcs that are met by chance.
func (d *dice) wander(g impl.Graph, f []int, times int) []int {
	f = slices.Clone(f)
	for range times {
		ring := d.anyRing(g, f)
		if len(ring) == 0 {
			continue
		}
		amt := ring[0].rest
		for _, w := range ring {
			amt = min(amt, w.rest)
		}
		amt = 1 + d.below(amt)
		for _, w := range ring {
			f[w.name/2] += amt * (1 - 2*(w.name%2))
		}
	}
	return f
}

// anyRing goes along rest arcs by chance until it is at a node for the second time, or can't go on. It never goes straight back along the same edge.
func (d *dice) anyRing(g impl.Graph, f []int) []way {
	left := waysLeft(g, f)
	var gone []way
	at, by := d.below(g.N), -1
	for {
		var on []way
		for _, w := range left {
			if w.from == at && w.name/2 != by {
				on = append(on, w)
			}
		}
		if len(on) == 0 {
			return nil
		}
		next := on[d.below(len(on))]
		gone = append(gone, next)
		at, by = next.to, next.name/2
		if i := slices.IndexFunc(gone, func(w way) bool { return w.from == at }); i >= 0 {
			return gone[i:]
		}
	}
}

// eachFlow goes through all flows of whole numbers.
func eachFlow(g impl.Graph, look func(f []int)) {
	f := nothingFlows(g)
	var from func(i int)
	from = func(i int) {
		if i == len(f) {
			if wantFlowOk(g, f) {
				look(f)
			}
			return
		}
		for n := range g.Edges[i].Cap + 1 {
			f[i] = n
			from(i + 1)
		}
	}
	from(0)
}

// hasRing looks for a ring of rest arcs that sums below 0 by the least costs between all pairs of nodes.
func hasRing(g impl.Graph, f []int) bool {
	const none, low = 1 << 50, -(1 << 50)
	far := make([][]int, g.N)
	for i := range far {
		far[i] = slices.Repeat([]int{none}, g.N)
	}
	for _, w := range waysLeft(g, f) {
		far[w.from][w.to] = min(far[w.from][w.to], w.cost)
	}
	for by := range g.N {
		for from := range g.N {
			for to := range g.N {
				if far[from][by] < none && far[by][to] < none {
					far[from][to] = max(low, min(far[from][to], far[from][by]+far[by][to]))
				}
			}
		}
	}
	for i := range g.N {
		if far[i][i] < 0 {
			return true
		}
	}
	return false
}

// leastCost reckons the cost of the cheapest flow in another way than by rings: edges that earn are filled, and what then is too much at a node is led by the cheapest paths to where it lacks.
func leastCost(g impl.Graph) int {
	f, extra := nothingFlows(g), make([]int, g.N)
	for i, e := range g.Edges {
		if e.Cost < 0 {
			f[i] = e.Cap
			extra[e.From] -= e.Cap
			extra[e.To] += e.Cap
		}
	}
	for slices.Max(extra) > 0 {
		path := cheapestPath(g, f, extra)
		start, end := path[len(path)-1].from, path[0].to
		amt := min(extra[start], -extra[end])
		for _, w := range path {
			amt = min(amt, w.rest)
		}
		for _, w := range path {
			f[w.name/2] += amt * (1 - 2*(w.name%2))
		}
		extra[start] -= amt
		extra[end] += amt
	}
	return wantCost(g, f)
}

// cheapestPath leads from some node that has too much to the nearest that lacks, told from its end on.
func cheapestPath(g impl.Graph, f []int, extra []int) []way {
	const none = 1 << 50
	left, far, last := waysLeft(g, f), make([]int, g.N), make([]way, g.N)
	start := slices.IndexFunc(extra, func(n int) bool { return n > 0 })
	for i := range far {
		far[i] = none
	}
	far[start] = 0
	for range g.N {
		for _, w := range left {
			if far[w.from] < none && far[w.from]+w.cost < far[w.to] {
				far[w.to], last[w.to] = far[w.from]+w.cost, w
			}
		}
	}
	end := -1
	for i, n := range extra {
		if n < 0 && far[i] < none && (end < 0 || far[i] < far[end]) {
			end = i
		}
	}
	var path []way
	for at := end; at != start; at = last[at].from {
		path = append(path, last[at])
	}
	return path
}
