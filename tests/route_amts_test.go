package tests

import (
	"slices"
	"testing"

	"loop.example/g00400/impl"
)

func TestP13RouteAmts(t *testing.T) {
	told := roads(road(1, 2, 1, 10000, 900), road(2, 3, 5, 0, 500), road(1, 3, 0, 0, 150), road(3, 4, 2, 5000, 800))
	cut := roads(road(1, 2, 9, 9, top), road(2, 3, 0, 1, top), road(3, 4, 0, 500000, top))
	half := top / 2
	row := inARow(8)
	for _, c := range []struct {
		name  string
		l     []impl.Road
		route []int
		amt   int
		want  []int
	}{
		{"three roads", told, places(0, 1, 3), 200, places(208, 203, 200)},
		{"two roads", told, places(1, 3), 200, places(203, 200)},
		{"one road takes nothing for us", told, places(0), 200, places(200)},
		{"the first one's fee isn't asked for", told, places(3), 800, places(800)},
		{"free", row, upTo(8), 7, repeated(8, 7)},
		{"free, MaxAmt", row, upTo(8), top, repeated(8, top)},
		{"free, 1", row, upTo(8), 1, repeated(8, 1)},
		{"free, 0", row, upTo(8), 0, nil},
		{"free, -1", row, upTo(8), -1, nil},
		{"free, one beyond MaxAmt", row, upTo(8), top + 1, nil},
		{"free, the least int", row, upTo(8), leastInt, nil},
		{"free, the greatest int", row, upTo(8), greatestInt, nil},
		{"cut up", cut, places(0, 1, 2), 1, places(3, 2, 1)},
		{"cut up, just a half", cut, places(0, 1, 2), 2, places(4, 3, 2)},
		{"cut up, the second just whole", cut, places(0, 1), 1000000, places(1000001, 1000000)},
		{"cut up, the second one above", cut, places(0, 1), 1000001, places(1000003, 1000001)},
		{"a fee on a fee", roads(road(1, 2, 0, 0, top), road(2, 3, 0, 1000000, top), road(3, 4, 0, 1000000, top), road(4, 5, 1, 1000000, top)), upTo(4), 3, places(28, 14, 7, 3)},
		{"the first Base counts for nothing", roads(road(1, 2, top, 1000000, top), road(2, 3, 4, 0, top)), places(0, 1), 6, places(10, 6)},
		{"the first takes more than there is", roads(road(1, 2, top, 1000000, top)), places(0), top, places(top)},

		{"just at the Cap ahead, by a part cut up", told, places(1, 3), 495, places(500, 495)},
		{"above it by 1, by a part cut up", told, places(1, 3), 496, nil},
		{"at the Cap of the one alone", told, places(2), 150, places(150)},
		{"above the Cap of the one alone", told, places(2), 151, nil},
		{"just at the last Cap", roads(road(1, 2, 0, 0, top), road(2, 3, 5, 0, 50)), places(0, 1), 50, places(55, 50)},
		{"above the last Cap by 1", roads(road(1, 2, 0, 0, top), road(2, 3, 5, 0, 50)), places(0, 1), 51, nil},
		{"just at the Cap ahead", roads(road(1, 2, 0, 0, 55), road(2, 3, 5, 0, top)), places(0, 1), 50, places(55, 50)},
		{"above the Cap ahead by 1", roads(road(1, 2, 0, 0, 54), road(2, 3, 5, 0, top)), places(0, 1), 50, nil},
		{"just at a Cap between", roads(road(1, 2, 0, 0, top), road(2, 3, 1, 0, 55), road(3, 4, 5, 0, top)), places(0, 1, 2), 50, places(56, 55, 50)},
		{"above a Cap between by 1", roads(road(1, 2, 0, 0, top), road(2, 3, 1, 0, 54), road(3, 4, 5, 0, top)), places(0, 1, 2), 50, nil},
		{"a Cap ahead that the amount fits, its fee not", roads(road(1, 2, 0, 0, 50), road(2, 3, 1, 0, top)), places(0, 1), 50, nil},
		{"Cap 0", roads(road(1, 2, 0, 0, 0)), places(0), 1, nil},
		{"Cap 0, nothing", roads(road(1, 2, 0, 0, 0)), places(0), 0, nil},
		{"Cap 0 ahead", roads(road(1, 2, 0, 0, 0), road(2, 3, 0, 0, top)), places(0, 1), 1, nil},
		{"Cap 1", roads(road(1, 2, 0, 0, 1)), places(0), 1, places(1)},
		{"Cap MaxAmt", roads(road(1, 2, 0, 0, top)), places(0), top, places(top)},

		{"just MaxAmt with the fee", roads(road(1, 2, 0, 0, top), road(2, 3, half, 0, top)), places(0, 1), half, places(top, half)},
		{"one beyond MaxAmt with the fee", roads(road(1, 2, 0, 0, top), road(2, 3, half, 0, top)), places(0, 1), half + 1, nil},
		{"one beyond MaxAmt by the Base", roads(road(1, 2, 0, 0, top), road(2, 3, half+1, 0, top)), places(0, 1), half, nil},
		{"all that there is, and 1", roads(road(1, 2, 0, 0, top), road(2, 3, 1, 0, top)), places(0, 1), top, nil},
		{"all that there is, for 0", roads(road(1, 2, 0, 0, top), road(2, 3, 0, 0, top)), places(0, 1), top, places(top, top)},
		{"just MaxAmt by all of it again", roads(road(1, 2, 0, 0, top), road(2, 3, 0, 1000000, top)), places(0, 1), half, places(top, half)},
		{"the fee is no amount", roads(road(1, 2, 0, 0, top), road(2, 3, top, 1000000, top)), places(0, 1), 1, nil},
		{"the fee is MaxAmt", roads(road(1, 2, 0, 0, top), road(2, 3, top, 0, top)), places(0, 1), 1, nil},
		{"the fee is MaxAmt less 1", roads(road(1, 2, 0, 0, top), road(2, 3, top-1, 0, top)), places(0, 1), 1, places(top, 1)},
		{"no amount only further ahead", roads(road(1, 2, 0, 0, top), road(2, 3, 0, 1000000, top), road(3, 4, 0, 1000000, top)), places(0, 1, 2), half, nil},
		{"doubled to MaxAmt", append(row[:1:1], doubling(7)...), upTo(8), top / 128, places(top, top/2, top/4, top/8, top/16, top/32, top/64, top/128)},
		{"doubled beyond MaxAmt", append(row[:1:1], doubling(7)...), upTo(8), top/128 + 1, nil},

		{"no route", told, nil, 200, nil},
		{"no route, empty", told, places(), 200, nil},
		{"no such place", told, places(4), 200, nil},
		{"a place below 0", told, places(-1), 200, nil},
		{"they don't meet", told, places(0, 3), 200, nil},
		{"too long", inARow(9), upTo(9), 1, nil},
		{"there and back", roads(road(1, 2, 0, 0, 9), road(2, 1, 0, 0, 9)), places(0, 1), 1, nil},
		{"no roads", nil, places(0), 1, nil},
	} {
		got, ok := impl.RouteAmts(c.l, c.route, c.amt)
		if !slices.Equal(got, c.want) || ok != (c.want != nil) {
			t.Errorf("%s: RouteAmts = %v, %v; want %v", c.name, got, ok, c.want)
		}
		fee, also := impl.RouteFee(c.l, c.route, c.amt)
		if also != (c.want != nil) || also && fee != c.want[0]-c.amt || !also && fee != 0 {
			t.Errorf("%s: RouteFee = %v, %v; what goes over is %v", c.name, fee, also, c.want)
		}
		lookRoute(t, c.name, c.l, c.route, c.amt)
	}
}

// doubling are roads from peer 2 on, each of which takes as much as goes over it.
func doubling(count int) []impl.Road {
	var l []impl.Road
	for i := range count {
		l = append(l, road(i+2, i+3, 0, 1000000, top))
	}
	return l
}

// P13: two roads at all edges of their fees, of their Caps and of the amount at once.
func TestP13RouteAmtsAtEdges(t *testing.T) {
	carried, others := 0, 0
	for _, amt := range edges() {
		for _, base := range []int{0, 1, top / 2, top - 1, top} {
			for _, ppm := range []int{0, 1, 500000, 999999, 1000000} {
				sum, _ := wantFee(base, ppm, max(amt, 0), true)
				for _, first := range []int{0, 1, amt + sum - 1, amt + sum, top} {
					for _, second := range []int{0, amt - 1, amt, top} {
						l := roads(road(1, 2, base, ppm, min(max(first, 0), top)), road(2, 3, base, ppm, min(max(second, 0), top)))
						if lookRoute(t, "at edges", l, places(0, 1), amt) {
							carried++
						} else {
							others++
						}
					}
				}
			}
		}
	}
	if carried < 500 || others < 5000 {
		t.Errorf("%d carried, %d not: the test looks at too few", carried, others)
	}
}

// P13: roads, routes and amounts by chance, each against what the tests reckon.
func TestP13RouteAmtsByChance(t *testing.T) {
	d := dice(142)
	carried, others := 0, 0
	for range 20000 {
		l := d.roads(3+d.below(6), 1+d.below(40))
		if lookRoute(t, "by chance", l, d.route(l), d.routeAmt()) {
			carried++
		} else {
			others++
		}
		if t.Failed() {
			return
		}
	}
	if carried < 3000 || others < 3000 {
		t.Errorf("%d carried, %d not: the test looks at too few", carried, others)
	}
}

// P14: what goes over the last road is the amount; what goes over each other one, less the fee that the next one takes of what goes over it, goes over the next. No road carries more than its Cap.
func TestP14WhatGoesInComesOut(t *testing.T) {
	d := dice(143)
	long := 0
	for range 20000 {
		l := d.roads(3+d.below(7), 1+d.below(40))
		route, amt := d.route(l), d.routeAmt()
		amts, ok := impl.RouteAmts(l, route, amt)
		fee, also := impl.RouteFee(l, route, amt)
		if ok != also {
			t.Fatalf("%+v, %v, %d: RouteAmts says %v, RouteFee %v", l, route, amt, ok, also)
		}
		if !ok {
			continue
		}
		last := len(route) - 1
		if len(amts) != len(route) || amts[last] != amt || amts[0]-amt != fee {
			t.Fatalf("%+v, %v, %d: %v goes over it, for %d", l, route, amt, amts, fee)
		}
		for i, place := range route {
			if amts[i] > l[place].Cap || amts[i] < 1 || amts[i] > top {
				t.Fatalf("%+v, %v, %d: %v goes over it: too much", l, route, amt, amts)
			}
			if i == last {
				continue
			}
			next := l[route[i+1]]
			taken, ok := impl.FeeUp(next.Base, next.Ppm, amts[i+1])
			if !ok || amts[i]-taken != amts[i+1] {
				t.Fatalf("%+v, %v, %d: %v goes over it, and %d is taken behind road %d", l, route, amt, amts, taken, i)
			}
		}
		long += min(1, max(0, len(route)-2))
	}
	if long < 1000 {
		t.Errorf("%d routes of three roads or more: the test looks at too few", long)
	}
}
