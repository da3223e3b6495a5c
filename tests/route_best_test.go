package tests

import (
	"slices"
	"testing"

	"loop.example/g00400/impl"
)

// A query is what RouteBest is asked for.
type query struct {
	name               string
	l                  []impl.Road
	from, to, amt, few int
	want               []int
}

func lookQueries(t *testing.T, queries ...query) {
	t.Helper()
	for _, q := range queries {
		got, ok := impl.RouteBest(q.l, q.from, q.to, q.amt, q.few)
		if !slices.Equal(got, q.want) || ok != (q.want != nil) {
			t.Errorf("%s: RouteBest = %v, %v; want %v", q.name, got, ok, q.want)
		}
		lookBest(t, q.name, q.l, q.from, q.to, q.amt, q.few)
	}
}

func TestP13RouteBest(t *testing.T) {
	told := roads(road(1, 2, 1, 10000, 900), road(2, 3, 5, 0, 500), road(1, 3, 0, 0, 150), road(3, 4, 2, 5000, 800))
	one := roads(road(1, 2, 9, 9, 50))
	detour := roads(road(1, 9, 0, 0, top), road(1, 2, 0, 0, top), road(2, 3, 1, 0, top), road(3, 9, 1, 0, top), road(2, 9, 3, 0, top))
	lookQueries(t,
		query{"the short one", told, 1, 4, 100, 4, places(2, 3)},
		query{"the long one, for the short one is full", told, 1, 4, 200, 4, places(0, 1, 3)},
		query{"just not full", told, 1, 4, 147, 4, places(2, 3)},
		query{"just full", told, 1, 4, 148, 4, places(0, 1, 3)},
		query{"of one road there is none", told, 1, 4, 100, 1, nil},
		query{"the long one is too long", told, 1, 4, 200, 2, nil},
		query{"the long one is just short enough", told, 1, 4, 200, 3, places(0, 1, 3)},
		query{"all are full", told, 1, 4, 800, 4, nil},
		query{"against the roads", told, 4, 1, 100, 4, nil},

		query{"one road, and it is asked nothing", one, 1, 2, 50, 1, places(0)},
		query{"one road, more than it carries", one, 1, 2, 51, 1, nil},
		query{"one road, 1", one, 1, 2, 1, 4, places(0)},
		query{"one road, 0", one, 1, 2, 0, 4, nil},
		query{"one road, -1", one, 1, 2, -1, 4, nil},
		query{"one road, the least int", one, 1, 2, leastInt, 4, nil},
		query{"one road, one beyond MaxAmt", one, 1, 2, top + 1, 4, nil},
		query{"one road, the greatest int", one, 1, 2, greatestInt, 4, nil},
		query{"one road that carries MaxAmt", inARow(1), 1, 2, top, 1, places(0)},
		query{"one road that carries nothing", roads(road(1, 2, 0, 0, 0)), 1, 2, 1, 1, nil},
		query{"no hops", one, 1, 2, 1, 0, nil},
		query{"five hops", one, 1, 2, 1, 5, nil},
		query{"-1 hops", one, 1, 2, 1, -1, nil},
		query{"the least int of hops", one, 1, 2, 1, leastInt, nil},
		query{"the greatest int of hops", one, 1, 2, 1, greatestInt, nil},
		query{"eight hops", inARow(8), 1, 9, 1, 8, nil},
		query{"four hops", inARow(8), 1, 5, 1, 4, places(0, 1, 2, 3)},
		query{"four hops, further on", inARow(40), 37, 41, 1, 4, places(36, 37, 38, 39)},
		query{"four hops, and roads to elsewhere behind each", append(inARow(4), free([2]int{4, 9}, [2]int{3, 9}, [2]int{2, 9}, [2]int{1, 9})...), 1, 5, 1, 4, places(0, 1, 2, 3)},
		query{"three hops, and roads to elsewhere behind each", append(inARow(4), free([2]int{4, 9}, [2]int{3, 9}, [2]int{2, 9}, [2]int{1, 9})...), 1, 4, 1, 4, places(0, 1, 2)},
		query{"four hops, one too few", inARow(8), 1, 6, 1, 4, nil},
		query{"three hops, one too few", inARow(8), 1, 5, 1, 3, nil},

		query{"to where it is", told, 1, 1, 100, 4, nil},
		query{"to where it is, by a ring", free([2]int{1, 2}, [2]int{2, 1}), 1, 1, 5, 4, nil},
		query{"to where it is, no road", nil, 1, 1, 5, 4, nil},
		query{"no roads, nil", nil, 1, 2, 5, 4, nil},
		query{"no roads, empty", roads(), 1, 2, 5, 4, nil},
		query{"from no peer", told, 0, 4, 100, 4, nil},
		query{"from -1", told, -1, 4, 100, 4, nil},
		query{"from beyond MaxChan", told, 100, 4, 100, 4, nil},
		query{"from the greatest int", told, greatestInt, 4, 100, 4, nil},
		query{"to no peer", told, 1, 0, 100, 4, nil},
		query{"to -1", told, 1, -1, 100, 4, nil},
		query{"to beyond MaxChan", told, 1, 100, 100, 4, nil},
		query{"to the least int", told, 1, leastInt, 100, 4, nil},
		query{"from 0 to 0", told, 0, 0, 100, 4, nil},
		query{"from one that no road touches", told, 50, 4, 100, 4, nil},
		query{"to one that no road touches", told, 1, 50, 100, 4, nil},
		query{"from one that no road leaves", told, 4, 3, 100, 4, nil},
		query{"to one that no road comes to", told, 2, 1, 100, 4, nil},

		query{"the peer is the end, and no way on", free([2]int{1, 2}, [2]int{2, 3}, [2]int{3, 4}, [2]int{4, 2}), 1, 2, 5, 4, places(0)},
		query{"not back over the beginning", roads(road(1, 2, 0, 0, top), road(2, 1, 0, 0, top), road(1, 3, 0, 0, 5), road(2, 3, 100, 0, top)), 1, 3, 5, 4, places(2)},
		query{"not back over the beginning, else none", roads(road(1, 2, 0, 0, top), road(2, 1, 0, 0, top), road(1, 3, 0, 0, 5), road(2, 4, 100, 0, top)), 1, 3, 6, 4, nil},
		query{"a detour over what is shorter", detour, 1, 9, 5, 4, places(0)},
		query{"the cheaper rest is too long", detour[1:], 1, 9, 5, 2, places(0, 3)},
		query{"the cheaper rest is not too long", detour[1:], 1, 9, 5, 3, places(0, 1, 2)},
	)
}

// P13: of routes that are alike in what counts first, what counts next says which.
func TestP13RouteBestOfTwo(t *testing.T) {
	// To peer 9 by way of 2 and 3, and by way of 4 alone; the fees are those of the roads to 9.
	lookQueries(t,
		query{"less is better than fewer", roads(road(1, 4, 0, 0, top), road(4, 9, 3, 0, top), road(1, 2, 0, 0, top), road(2, 3, 0, 0, top), road(3, 9, 2, 0, top)), 1, 9, 5, 4, places(2, 3, 4)},
		query{"fewer is better of the same", roads(road(1, 2, 0, 0, top), road(2, 3, 0, 0, top), road(3, 9, 3, 0, top), road(1, 4, 0, 0, top), road(4, 9, 3, 0, top)), 1, 9, 5, 4, places(3, 4)},
		query{"one road is better than two of the same", free([2]int{1, 2}, [2]int{2, 9}, [2]int{1, 9}), 1, 9, 5, 4, places(2)},
		query{"two are better than four of the same", free([2]int{1, 2}, [2]int{2, 3}, [2]int{3, 4}, [2]int{4, 9}, [2]int{1, 5}, [2]int{5, 9}), 1, 9, 5, 4, places(4, 5)},
		query{"three are better than four of the same", free([2]int{1, 2}, [2]int{2, 3}, [2]int{3, 4}, [2]int{4, 9}, [2]int{3, 9}), 1, 9, 5, 4, places(0, 1, 4)},
		query{"less at the first place", free([2]int{1, 2}, [2]int{1, 3}, [2]int{2, 9}, [2]int{3, 9}), 1, 9, 5, 4, places(0, 2)},
		query{"less at the first place, more at the second", free([2]int{1, 2}, [2]int{1, 3}, [2]int{3, 9}, [2]int{2, 9}), 1, 9, 5, 4, places(0, 3)},
		query{"more at the last counts for nothing", free([2]int{2, 9}, [2]int{3, 9}, [2]int{1, 3}, [2]int{1, 2}), 1, 9, 5, 4, places(2, 1)},
		query{"less at the second", free([2]int{1, 2}, [2]int{2, 4}, [2]int{2, 3}, [2]int{3, 9}, [2]int{4, 9}), 1, 9, 5, 4, places(0, 1, 4)},
		query{"less at the third", free([2]int{1, 2}, [2]int{2, 3}, [2]int{4, 9}, [2]int{3, 5}, [2]int{3, 4}, [2]int{5, 9}), 1, 9, 5, 4, places(0, 1, 3, 5)},
		query{"as numbers, not as texts", append(inARow(8), free([2]int{50, 51}, [2]int{20, 22}, [2]int{20, 21}, [2]int{22, 29}, [2]int{21, 29})...), 20, 29, 5, 4, places(9, 11)},
		query{"by the amount", roads(road(1, 2, 0, 0, top), road(2, 9, 0, 10000, top), road(1, 3, 0, 0, top), road(3, 9, 2, 0, top)), 1, 9, 200, 4, places(0, 1)},
		query{"by the amount, 1 more", roads(road(1, 2, 0, 0, top), road(2, 9, 0, 10000, top), road(1, 3, 0, 0, top), road(3, 9, 2, 0, top)), 1, 9, 201, 4, places(2, 3)},
		query{"the first one's fee isn't asked for", roads(road(1, 2, 0, 0, top), road(2, 9, 1, 0, top), road(1, 3, top, 1000000, top), road(3, 9, 0, 0, top)), 1, 9, 5, 4, places(2, 3)},
		query{"the cheaper one doesn't carry the fee", roads(road(1, 2, 0, 0, 5), road(2, 9, 1, 0, top), road(1, 3, 0, 0, top), road(3, 9, 2, 0, top)), 1, 9, 5, 4, places(2, 3)},
		query{"the cheaper one carries it just", roads(road(1, 2, 0, 0, 6), road(2, 9, 1, 0, top), road(1, 3, 0, 0, top), road(3, 9, 2, 0, top)), 1, 9, 5, 4, places(0, 1)},
		query{"one past MaxAmt", roads(road(1, 2, 0, 0, top), road(2, 9, 1, 0, top), road(1, 3, 0, 0, top), road(3, 4, 0, 0, top), road(4, 9, 0, 0, top)), 1, 9, top, 4, places(2, 3, 4)},
		query{"all past MaxAmt", roads(road(1, 2, 0, 0, top), road(2, 9, 1, 0, top)), 1, 9, top, 4, nil},
	)
}

// P13: the edges of all arguments at once, over lists that are right and lists that aren't.
func TestP13RouteBestAtEdges(t *testing.T) {
	some := 0
	lists := rightRoads()
	for name, l := range wrongRoads() {
		lists[name] = l
	}
	lists["a ring of six"] = append(inARow(5), road(6, 1, 1, 1, top))
	for name, l := range lists {
		for _, ends := range [][2]int{{0, 1}, {1, 0}, {1, 1}, {1, 2}, {2, 1}, {1, 5}, {98, 99}, {99, 1}, {99, 100}, {leastInt, 1}, {1, greatestInt}} {
			for _, amt := range []int{leastInt, -1, 0, 1, 5, 6, 1000, top, top + 1, greatestInt} {
				if len(l) > 41 || len(l) > 20 && amt != 5 {
					continue
				}
				for _, hops := range []int{leastInt, -1, 0, 1, 2, 4, 5, greatestInt} {
					some += min(1, len(lookBest(t, name, l, ends[0], ends[1], amt, hops)))
				}
			}
		}
	}
	if some < 100 {
		t.Errorf("%d have a best one: the test looks at too few", some)
	}
}

// P13: lists of the greatest size, through which as many routes lead as can be.
func TestP13RouteBestGreatest(t *testing.T) {
	// Ten ways from peer 1 to peer 30, and ten from there on to peer 99.
	var fans []impl.Road
	for i := range 10 {
		fans = append(fans, road(1, 10+i, 0, 0, top), road(10+i, 30, i%3, 0, top), road(30, 40+i, (9-i)%4, 0, top), road(40+i, 99, 0, 0, top))
	}
	d := dice(144)
	for hops := 1; hops <= 4; hops++ {
		best := lookBest(t, "fans", fans, 1, 99, 7, hops)
		if hops < 4 && best != nil || hops == 4 && !slices.Equal(best, places(0, 1, 6, 7)) {
			t.Errorf("fans, %d: the best one is %v", hops, best)
		}
		lookBest(t, "all of few", everyRoad(7, 40), 1, 6, 7, hops)
		lookBest(t, "all of few, by chance", d.roads(7, 40), 1+d.below(7), 1+d.below(7), d.routeAmt(), hops)
	}
}

// P14: against a plain search through all routes: none has a lower fee than RouteBest's, of those with the same fee none has fewer roads, and of these none is ahead of it by its places; where there is none RouteBest says so.
func TestP14TheBestIsTheCheapest(t *testing.T) {
	d := dice(145)
	found, tied, none := 0, 0, 0
	for range 3000 {
		peers := 3 + d.below(4)
		l := d.roads(peers, 2+d.below(13))
		from, to, amt, hops := 1+d.below(peers), 1+d.below(peers), d.routeAmt(), 1+d.below(4)
		best := lookBest(t, "by chance", l, from, to, amt, hops)
		got, ok := impl.RouteBest(l, from, to, amt, hops)
		fee, carried := impl.RouteFee(l, got, amt)
		if ok != carried {
			t.Fatalf("%+v from %d to %d, %d by %d: the best one, %v, carries it: %v", l, from, to, amt, hops, got, carried)
		}
		alike := 0
		for _, c := range allChoices(l, from, to, amt, hops) {
			if theirs, ok := impl.RouteFee(l, c.route, amt); !ok || theirs < fee || theirs != c.fee || (choice{fee, best}).compare(c) > 0 {
				t.Fatalf("%+v from %d to %d, %d by %d: %v for %d, %v; the best one is %v for %d", l, from, to, amt, hops, c.route, theirs, ok, best, fee)
			}
			if c.fee == fee {
				alike++
			}
		}
		if alike > 1 {
			tied++
		}
		if ok {
			found++
		} else {
			none++
		}
		if t.Failed() {
			return
		}
	}
	if found < 500 || none < 500 || tied < 100 {
		t.Errorf("%d have a best one, %d of them one as cheap, %d have none: the test looks at too few", found, tied, none)
	}
}

// P14: the same through every list of places of few roads, not only those that begin as routes do.
func TestP14TheBestOfAllPlaces(t *testing.T) {
	d := dice(146)
	found := 0
	for range 4000 {
		l := d.roads(4, 1+d.below(6))
		from, to, amt, hops := 1+d.below(4), 1+d.below(4), d.routeAmt(), 1+d.below(4)
		best, ok := impl.RouteBest(l, from, to, amt, hops)
		least, also := impl.RouteFee(l, best, amt)
		var on func(route []int)
		on = func(route []int) {
			if fee, carried := impl.RouteFee(l, route, amt); carried && l[route[0]].From == from && l[route[len(route)-1]].To == to {
				if !ok || !also || (choice{least, best}).compare(choice{fee, route}) > 0 {
					t.Fatalf("%+v from %d to %d, %d by %d: %v for %d is better than %v for %d", l, from, to, amt, hops, route, fee, best, least)
				}
			}
			for place := 0; place < len(l) && len(route) < hops; place++ {
				on(append(slices.Clone(route), place))
			}
		}
		on(nil)
		if ok && (l[best[0]].From != from || l[best[len(best)-1]].To != to || len(best) > hops || !also) {
			t.Errorf("%+v from %d to %d, %d by %d: %v doesn't lead there", l, from, to, amt, hops, best)
		}
		found += len(best)
	}
	if found < 400 {
		t.Errorf("the best ones have %d roads together: the test looks at too few", found)
	}
}
