package tests

import (
	"slices"
	"testing"

	"loop.example/g00400/impl"
)

// P13: the greatest of everything is right still; one beyond isn't.
func TestP13RoadsOk(t *testing.T) {
	for name, l := range rightRoads() {
		if !impl.RoadsOk(l) {
			t.Errorf("%s: %+v isn't right", name, l)
		}
		lookRoute(t, name, l, places(0), 1)
	}
	for name, l := range wrongRoads() {
		if impl.RoadsOk(l) {
			t.Errorf("%s: %+v is right", name, l)
		}
		lookRoute(t, name, l, places(0), 1)
	}
}

// P13: RoadsOk at all edges of all fields at once, of a road alone and of one behind another.
func TestP13RoadsOkAtEdges(t *testing.T) {
	peers := []int{leastInt, -99, -1, 0, 1, 2, 98, 99, 100, 101, 1 << 32, 1<<32 + 1, greatestInt}
	amts := []int{leastInt, -top, -1, 0, 1, 1000000, top - 1, top, top + 1, greatestInt}
	ppms := []int{leastInt, -1000000, -1, 0, 1, 999999, 1000000, 1000001, 1<<32 + 1, greatestInt}
	right, others := 0, 0
	for _, from := range peers {
		for _, to := range peers {
			for _, base := range amts {
				for _, ppm := range ppms {
					for _, most := range amts {
						r := road(from, to, base, ppm, most)
						for _, l := range [][]impl.Road{roads(r), roads(road(1, 2, 0, 0, 0), r)} {
							want := wantRoadsOk(l)
							if impl.RoadsOk(l) != want {
								t.Fatalf("RoadsOk of %+v = %v", l, !want)
							}
							if want {
								right++
							} else {
								others++
							}
						}
					}
				}
			}
		}
	}
	if right < 1000 || others < 10000 {
		t.Errorf("%d right, %d others: the test looks at too few", right, others)
	}
}

func TestP13RouteOk(t *testing.T) {
	row := inARow(40)
	mixed := free([2]int{1, 2}, [2]int{2, 3}, [2]int{3, 1}, [2]int{3, 2}, [2]int{3, 4}, [2]int{4, 2}, [2]int{2, 1}, [2]int{4, 1}, [2]int{4, 5})
	for _, c := range []struct {
		name  string
		l     []impl.Road
		route []int
		want  bool
	}{
		{"one road", mixed, places(0), true},
		{"the last road", mixed, places(8), true},
		{"two roads", mixed, places(0, 1), true},
		{"not in their order", mixed, places(3, 6), true},
		{"four roads", mixed, places(0, 1, 4, 8), true},
		{"from another peer", mixed, places(2, 0), true},
		{"none, nil", mixed, nil, false},
		{"none, empty", mixed, places(), false},
		{"of no roads, none", nil, nil, false},
		{"of no roads, one", nil, places(0), false},
		{"MaxHops", row, upTo(8), true},
		{"MaxHops and one", row, upTo(9), false},
		{"MaxHops, the last ones", row, places(32, 33, 34, 35, 36, 37, 38, 39), true},
		{"MaxHops, beyond the last one", row, places(33, 34, 35, 36, 37, 38, 39, 40), false},
		{"all of it", row, upTo(40), false},
		{"far too long", row, make([]int, 1000000), false},
		{"below 0", row, places(-1), false},
		{"below 0, behind", row, places(0, -1), false},
		{"below 0, ahead", row, places(-1, 0), false},
		{"the least int", row, places(leastInt), false},
		{"at the length", row, places(40), false},
		{"at the length of a short one", mixed, places(9), false},
		{"at the length, behind", mixed, places(0, 1, 9), false},
		{"the greatest int", row, places(0, greatestInt), false},
		{"as an unsigned one it would fit", row, places(0, 1<<32+1), false},
		{"they don't meet", row, places(0, 2), false},
		{"they don't meet at the end", row, places(0, 1, 2, 4), false},
		{"they meet the other way", row, places(1, 0), false},
		{"they begin at one peer", mixed, places(2, 4), false},
		{"they end at one peer", mixed, places(0, 5), false},
		{"one twice", mixed, places(0, 0), false},
		{"there and back", mixed, places(0, 6), false},
		{"back to the beginning", mixed, places(0, 1, 2), false},
		{"back to the beginning, longer", mixed, places(0, 1, 4, 7), false},
		{"back to the second", mixed, places(0, 1, 3), false},
		{"back to the second, longer", mixed, places(0, 1, 4, 5), false},
		{"back to the third", mixed, places(2, 0, 1), false},
		{"beyond the beginning and on", mixed, places(1, 2, 0), false},
		{"round and on", mixed, places(0, 1, 3, 1, 4), false},
	} {
		if got := impl.RouteOk(c.l, c.route); got != c.want {
			t.Errorf("%s: RouteOk of %.20v = %v", c.name, c.route, got)
		}
		lookRoute(t, c.name, c.l, c.route, 5)
	}
}

// P13: where a list of roads isn't right, no route of it is, whatever its fault is, and nothing goes over it.
func TestP13RoutesOfWrongRoads(t *testing.T) {
	for name, l := range wrongRoads() {
		for _, route := range [][]int{nil, places(0), places(1), places(len(l) - 1), places(0, 1), places(0, 1, 2)} {
			if lookRoute(t, name, l, route, 1); impl.RouteOk(l, route) {
				t.Errorf("%s: %v is right", name, route)
			}
		}
		for hops := range 6 {
			if best := lookBest(t, name, l, 1, 2, 1, hops); len(best) > 0 {
				t.Errorf("%s: %v is the best", name, best)
			}
		}
	}
}

// P13: of few roads every list of places, up to four, and from one below the first to one behind the last.
func TestP13RouteOkOfAllPlaces(t *testing.T) {
	d := dice(141)
	right, others := 0, 0
	for range 100 {
		l := d.roads(4, 1+d.below(5))
		var from func(route []int)
		from = func(route []int) {
			want := wantRouteOk(l, route)
			if impl.RouteOk(l, slices.Clone(route)) != want {
				t.Fatalf("RouteOk of %+v, %v = %v", l, route, !want)
			}
			if want {
				right++
			} else {
				others++
			}
			for place := -1; place <= len(l) && len(route) < 4; place++ {
				from(append(slices.Clone(route), place))
			}
		}
		from(nil)
	}
	if right < 300 || others < 10000 {
		t.Errorf("%d right, %d others: the test looks at too few", right, others)
	}
}

func TestP13RouteText(t *testing.T) {
	long, longText := upTo(41), "0>1>2>3>4>5>6>7>8>9>10>11>12>13>14>15>16>17>18>19>20>21>22>23>24>25>26>27>28>29>30>31>32>33>34>35>36>37>38>39>40"
	for _, c := range []struct {
		route []int
		want  string
	}{
		{nil, ""},
		{places(), ""},
		{places(0), "0"},
		{places(7), "7"},
		{places(10), "10"},
		{places(39), "39"},
		{places(40), "40"},
		{places(41), ""},
		{places(-1), ""},
		{places(leastInt), ""},
		{places(greatestInt), ""},
		{places(1 << 32), ""},
		{places(-1 << 32), ""},
		{places(0, 1), "0>1"},
		{places(12, 3), "12>3"},
		{places(40, 0, 40), "40>0>40"},
		{places(5, 5), "5>5"},
		{places(0, 0, 0, 0, 0, 0, 0, 0), "0>0>0>0>0>0>0>0"},
		{places(1, 2, 3, 4, 5, 6, 7, 8, 9), "1>2>3>4>5>6>7>8>9"},
		{long, longText},
		{append(slices.Clone(long), 41), ""},
		{append(places(41), long...), ""},
		{append(places(-1), long...), ""},
		{places(0, -1), ""},
		{places(-1, 0), ""},
		{places(0, -1, 0), ""},
		{places(0, 41, 0), ""},
		{places(0, 40, 41), ""},
		{places(40, 40, -1), ""},
	} {
		given := withSpare(c.route, -7)
		if got := impl.RouteText(given); got != c.want || impl.RouteText(c.route) != c.want {
			t.Errorf("RouteText of %v = %q; want %q", c.route, got, c.want)
		}
		if !spareToo(given, c.route, -7) {
			t.Errorf("RouteText of %v changes it", c.route)
		}
	}
	if got := impl.RouteText(make([]int, 100000)); len(got) != 199999 {
		t.Errorf("RouteText of many places has %d bytes", len(got))
	}
}
