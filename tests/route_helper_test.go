package tests

import (
	"cmp"
	"slices"
	"testing"

	"loop.example/g00400/impl"
)

func road(from int, to int, base int, ppm int, most int) impl.Road {
	return impl.Road{From: from, To: to, Base: base, Ppm: ppm, Cap: most}
}

func roads(l ...impl.Road) []impl.Road { return l }

func places(l ...int) []int { return l }

// free are roads without a fee that carry all.
func free(ways ...[2]int) []impl.Road {
	var l []impl.Road
	for _, w := range ways {
		l = append(l, road(w[0], w[1], 0, 0, top))
	}
	return l
}

// inARow are count free roads, from peer 1 to peer 2, from there to peer 3 and so on.
func inARow(count int) []impl.Road {
	var l []impl.Road
	for i := range count {
		l = append(l, road(i+1, i+2, 0, 0, top))
	}
	return l
}

// upTo are the places from 0 on.
func upTo(count int) []int {
	var l []int
	for i := range count {
		l = append(l, i)
	}
	return l
}

// rightRoads are right, each at some edge of the chapter.
func rightRoads() map[string][]impl.Road {
	return map[string][]impl.Road{
		"none, nil":                           nil,
		"none, empty":                         {},
		"one":                                 roads(road(1, 2, 3, 4, 5)),
		"the other way round":                 roads(road(1, 2, 3, 4, 5), road(2, 1, 3, 4, 5)),
		"the same From":                       roads(road(1, 2, 3, 4, 5), road(1, 3, 3, 4, 5)),
		"the same To":                         roads(road(1, 3, 3, 4, 5), road(2, 3, 3, 4, 5)),
		"MaxRoads":                            inARow(40),
		"MaxRoads less 1":                     inARow(39),
		"MaxRoads of few":                     everyRoad(7, 40),
		"From MaxChan":                        roads(road(99, 1, 3, 4, 5)),
		"To MaxChan":                          roads(road(98, 99, 3, 4, 5)),
		"from the last to the first and back": roads(road(99, 1, 3, 4, 5), road(1, 99, 3, 4, 5)),
		"Base 0":                              roads(road(1, 2, 0, 4, 5)),
		"Base MaxAmt":                         roads(road(1, 2, top, 4, 5)),
		"Ppm 0":                               roads(road(1, 2, 3, 0, 5)),
		"Ppm Million":                         roads(road(1, 2, 3, 1000000, 5)),
		"Cap 0":                               roads(road(1, 2, 3, 4, 0)),
		"Cap MaxAmt":                          roads(road(1, 2, 3, 4, top)),
		"all at their least":                  roads(road(1, 2, 0, 0, 0), road(2, 1, 0, 0, 0)),
		"all at their most":                   roads(road(98, 99, top, 1000000, top), road(99, 98, top, 1000000, top)),
	}
}

// wrongRoads have one fault each.
func wrongRoads() map[string][]impl.Road {
	fine := road(1, 2, 3, 4, 5)
	return map[string][]impl.Road{
		"one too many":               inARow(41),
		"one too many of few":        everyRoad(7, 41),
		"far too many":               slices.Repeat(roads(fine), 100000),
		"nothing":                    roads(impl.Road{}),
		"nothing behind others":      append(inARow(5), impl.Road{}),
		"From 0":                     roads(road(0, 2, 3, 4, 5)),
		"From -1":                    roads(road(-1, 2, 3, 4, 5)),
		"From beyond MaxChan":        roads(road(100, 2, 3, 4, 5)),
		"From the least int":         roads(road(leastInt, 2, 3, 4, 5)),
		"From the greatest int":      roads(road(greatestInt, 2, 3, 4, 5)),
		"To 0":                       roads(road(1, 0, 3, 4, 5)),
		"To -1":                      roads(road(1, -1, 3, 4, 5)),
		"To beyond MaxChan":          roads(road(1, 100, 3, 4, 5)),
		"To the least int":           roads(road(1, leastInt, 3, 4, 5)),
		"To the greatest int":        roads(road(1, greatestInt, 3, 4, 5)),
		"To is From":                 roads(road(1, 1, 3, 4, 5)),
		"To is From, MaxChan":        roads(road(99, 99, 3, 4, 5)),
		"Base -1":                    roads(road(1, 2, -1, 4, 5)),
		"Base one beyond MaxAmt":     roads(road(1, 2, top+1, 4, 5)),
		"Base the least int":         roads(road(1, 2, leastInt, 4, 5)),
		"Base the greatest int":      roads(road(1, 2, greatestInt, 4, 5)),
		"Ppm -1":                     roads(road(1, 2, 3, -1, 5)),
		"Ppm one beyond Million":     roads(road(1, 2, 3, 1000001, 5)),
		"Ppm the least int":          roads(road(1, 2, 3, leastInt, 5)),
		"Ppm the greatest int":       roads(road(1, 2, 3, greatestInt, 5)),
		"Cap -1":                     roads(road(1, 2, 3, 4, -1)),
		"Cap one beyond MaxAmt":      roads(road(1, 2, 3, 4, top+1)),
		"Cap the least int":          roads(road(1, 2, 3, 4, leastInt)),
		"Cap the greatest int":       roads(road(1, 2, 3, 4, greatestInt)),
		"one twice":                  roads(fine, fine),
		"twice with other numbers":   roads(fine, road(1, 2, 6, 7, 8)),
		"the first and the last":     append(inARow(39), road(1, 2, 6, 7, 8)),
		"twice, others between":      roads(fine, road(2, 1, 3, 4, 5), road(2, 3, 3, 4, 5), fine),
		"the last of many":           append(inARow(39), road(41, 42, -1, 0, 0)),
		"the first of many":          append(roads(road(41, 42, 0, 0, top+1)), inARow(39)...),
		"one that nobody goes along": append(inARow(3), road(50, 50, 0, 0, 0)),
	}
}

// everyRoad has count roads between so many peers, as far as there are any, all different.
func everyRoad(peers int, count int) []impl.Road {
	var l []impl.Road
	for from := 1; from <= peers; from++ {
		for to := 1; to <= peers; to++ {
			if from != to && len(l) < count {
				l = append(l, road(from, to, len(l), 100*len(l), 1000+len(l)))
			}
		}
	}
	return l
}

func wantRoadsOk(l []impl.Road) bool {
	right := len(l) <= 40
	ways := map[[2]int]int{}
	for _, r := range l {
		ways[[2]int{r.From, r.To}]++
		peers := r.From >= 1 && r.From <= 99 && r.To >= 1 && r.To <= 99 && r.From != r.To
		right = right && peers && isAmt(r.Base) && r.Ppm >= 0 && r.Ppm <= 1000000 && isAmt(r.Cap)
	}
	return right && len(ways) == len(l)
}

func wantRouteOk(l []impl.Road, route []int) bool {
	if !wantRoadsOk(l) || len(route) == 0 || len(route) > 8 {
		return false
	}
	if slices.Min(route) < 0 || slices.Max(route) >= len(l) {
		return false
	}
	met := map[int]int{l[route[0]].From: 1}
	at := l[route[0]].From
	for _, place := range route {
		if l[place].From != at {
			return false
		}
		at = l[place].To
		met[at]++
	}
	return len(met) == len(route)+1
}

// wantRouteAmts goes from the end on by itself, the rest of the route first.
func wantRouteAmts(l []impl.Road, route []int, amt int) ([]int, bool) {
	if !wantRouteOk(l, route) || amt < 1 || amt > min(top, l[route[len(route)-1]].Cap) {
		return nil, false
	}
	if len(route) == 1 {
		return []int{amt}, true
	}
	rest, ok := wantRouteAmts(l, route[1:], amt)
	if !ok {
		return nil, false
	}
	next := l[route[1]]
	fee, ok := wantFee(next.Base, next.Ppm, rest[0], true)
	if !ok || rest[0]+fee > min(top, l[route[0]].Cap) {
		return nil, false
	}
	return slices.Insert(rest, 0, rest[0]+fee), true
}

// A choice is a route with its fee.
type choice struct {
	fee   int
	route []int
}

// allChoices are the routes from from to to, of at most hops roads, for which there is a fee: all routes of l are laid out, and those that aren't asked for are left.
func allChoices(l []impl.Road, from int, to int, amt int, hops int) []choice {
	routes := [][]int{{}}
	var found []choice
	for range hops {
		var longer [][]int
		for _, route := range routes {
			for place := range l {
				if next := append(slices.Clone(route), place); wantRouteOk(l, next) {
					longer = append(longer, next)
				}
			}
		}
		routes = longer
		for _, route := range routes {
			amts, ok := wantRouteAmts(l, route, amt)
			if ok && l[route[0]].From == from && l[route[len(route)-1]].To == to {
				found = append(found, choice{amts[0] - amt, route})
			}
		}
	}
	return found
}

func (c choice) compare(other choice) int {
	return cmp.Or(cmp.Compare(c.fee, other.fee), cmp.Compare(len(c.route), len(other.route)), slices.Compare(c.route, other.route))
}

func wantRouteBest(l []impl.Road, from int, to int, amt int, hops int) ([]int, bool) {
	if !wantRoadsOk(l) || hops < 1 || hops > 4 {
		return nil, false
	}
	found := allChoices(l, from, to, amt, hops)
	if len(found) == 0 {
		return nil, false
	}
	return slices.MinFunc(found, choice.compare).route, true
}

var spareRoad = road(-7, -7, -7, -7, -7)

// lookRoute holds RoadsOk, RouteOk, RouteAmts and RouteFee against what the tests reckon, twice, and looks that they keep their hands off what they are given. It tells whether the route carries the amount.
func lookRoute(t *testing.T, name string, l []impl.Road, route []int, amt int) bool {
	t.Helper()
	given, numbers := withSpare(l, spareRoad), withSpare(route, -7)
	want, wantOk := wantRouteAmts(l, route, amt)
	fee := 0
	if wantOk {
		fee = want[0] - amt
	}
	for range 2 {
		if got := impl.RoadsOk(given); got != wantRoadsOk(l) {
			t.Errorf("%s: RoadsOk of %+v = %v", name, l, got)
		}
		if got := impl.RouteOk(given, numbers); got != wantRouteOk(l, route) {
			t.Errorf("%s: RouteOk of %+v, %v = %v", name, l, route, got)
		}
		got, ok := impl.RouteAmts(given, numbers, amt)
		if !slices.Equal(got, want) || ok != wantOk {
			t.Errorf("%s: RouteAmts of %+v, %v, %d = %v, %v; want %v, %v", name, l, route, amt, got, ok, want, wantOk)
		}
		if got, ok := impl.RouteFee(given, numbers, amt); got != fee || ok != wantOk {
			t.Errorf("%s: RouteFee of %+v, %v, %d = %d, %v; want %d, %v", name, l, route, amt, got, ok, fee, wantOk)
		}
		blotList(got, -3)
		if !spareToo(given, l, spareRoad) || !spareToo(numbers, route, -7) {
			t.Fatalf("%s: the roads or the route are changed or shared: %+v, %v", name, l, route)
		}
	}
	return wantOk
}

// lookBest does so with RouteBest, and tells its answer.
func lookBest(t *testing.T, name string, l []impl.Road, from int, to int, amt int, hops int) []int {
	t.Helper()
	given := withSpare(l, spareRoad)
	want, wantOk := wantRouteBest(l, from, to, amt, hops)
	for range 2 {
		got, ok := impl.RouteBest(given, from, to, amt, hops)
		if !slices.Equal(got, want) || ok != wantOk {
			t.Errorf("%s: RouteBest of %+v from %d to %d, %d by %d = %v, %v; want %v, %v", name, l, from, to, amt, hops, got, ok, want, wantOk)
		}
		blotList(got, -3)
		if !spareToo(given, l, spareRoad) {
			t.Fatalf("%s: the roads are changed or shared: %+v", name, l)
		}
	}
	return want
}

// roads are right, between so few peers that many of them meet. Their numbers are of one mood each: all small, so that fees are often the same, or all kinds.
func (d *dice) roads(peers int, count int) []impl.Road {
	l := everyRoad(peers, peers*peers)
	for i := range l {
		at := i + d.below(len(l)-i)
		l[i], l[at] = l[at], l[i]
	}
	l = l[:min(count, len(l))]
	mood := d.below(3)
	for i, r := range l {
		switch mood {
		case 0:
			l[i] = road(r.From, r.To, d.below(2), 0, top)
		case 1:
			l[i] = road(r.From, r.To, d.below(4), 1000*d.below(100), 90+d.below(60))
		case 2:
			l[i] = road(r.From, r.To, max(0, d.amount()), []int{0, 1, 500000, 999999, 1000000}[d.below(5)], max(0, d.amount()))
		}
	}
	return l
}

// route is a walk along the roads, now and then to where it has been already, or with a place that is another one.
func (d *dice) route(l []impl.Road) []int {
	route := places(d.below(len(l)))
	for range d.below(8) {
		at := l[route[len(route)-1]].To
		for range 20 {
			place := d.below(len(l))
			if l[place].From == at && (wantRouteOk(l, append(slices.Clone(route), place)) || d.below(30) == 0) {
				route = append(route, place)
				break
			}
		}
	}
	if d.below(10) == 0 {
		route[d.below(len(route))] = d.below(len(l)+2) - 1
	}
	return route
}

func (d *dice) routeAmt() int {
	return []int{d.amount(), 1 + d.below(5), 80 + d.below(60), top/4 + d.below(5)}[d.below(4)]
}
