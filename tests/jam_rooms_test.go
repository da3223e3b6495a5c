package tests

import (
	"slices"
	"testing"

	"loop.example/g00400/impl"
)

// lookStanding holds what Allow says to one with a standing against what it says to one without.
func lookStanding(t *testing.T, p place) {
	t.Helper()
	without, with := p.allow(false), p.allow(true)
	if without != 0 && with != without {
		t.Errorf("%+v: %d without a standing, %d with one", p, without, with)
	}
	if without == 2 {
		t.Errorf("%+v: into the kept room without a standing", p)
	}
	if with == 2 && (p.slotsAll >= impl.MaxSlots || p.usedAll+p.amt > p.size) {
		t.Errorf("%+v: into the kept room, which has no place", p)
	}
	if without == 1 && (p.slotsFew >= impl.MaxSlots/2 || p.usedFew+p.amt > p.size/2) {
		t.Errorf("%+v: into the general room, which has no place", p)
	}
	if without < 0 || with < 0 || without > 2 || with > 2 {
		t.Errorf("%+v: rooms %d and %d", p, without, with)
	}
}

// P6: a standing takes no room away, and whom it lets into the kept room has room there.
func TestP6StandingTakesNoRoomAway(t *testing.T) {
	eachPlace(t, lookStanding)
	eachSmallPlace(t, lookStanding)
}

// P6: of two with one score the endorsed one may use at least what the other may; so of two scores the greater one.
func TestP6BetterStandingMoreRoom(t *testing.T) {
	for _, p := range []place{{100, 0, 0, 0, 0, 50}, {100, 0, 0, 0, 0, 51}, {100, 50, 90, 5, 9, 10}, {100, 50, 90, 5, 10, 10}, {100, 0, 60, 0, 3, 41}} {
		may := false
		for n := -impl.Best; n <= impl.Best; n++ {
			plain, endorsed := p.allow(impl.Standing(n, false)), p.allow(impl.Standing(n, true))
			if plain != 0 && endorsed != plain {
				t.Errorf("%+v, score %d: %d, endorsed %d", p, n, plain, endorsed)
			}
			if may && endorsed == 0 {
				t.Errorf("%+v: score %d has less room than a lesser one", p, n)
			}
			may = endorsed != 0
		}
	}
}

// takeIn counts a payment in where Allow lets it, and tells which room it has.
func (p *place) takeIn(good bool) int {
	room := p.allow(good)
	if room == 0 {
		return 0
	}
	p.usedAll += p.amt
	p.slotsAll++
	if room == 1 {
		p.usedFew += p.amt
		p.slotsFew++
	}
	return room
}

// P6: rooms that are filled as Allow says never pass their ends, and one that is turned away has none left.
func TestP6RoomsKeepTheirEnds(t *testing.T) {
	c := dice(7)
	rooms := [3]int{}
	for range 20000 {
		p := place{size: []int{0, 1, 2, 9, 100, 101, top}[c.below(7)]}
		for range 16 {
			p.amt = c.below(p.size/(1+c.below(12)) + 2)
			good := c.below(2) == 1
			was := p
			room := p.takeIn(good)
			rooms[room]++
			if p.usedFew > p.size/2 || p.slotsFew > impl.MaxSlots/2 || p.usedAll > p.size || p.slotsAll > impl.MaxSlots {
				t.Fatalf("a room passes its end: %+v", p)
			}
			if room == 0 && was.allFree() && (good || was.generalFree()) {
				t.Fatalf("turned away, good %v, with a place left: %+v", good, was)
			}
		}
	}
	if slices.Min(rooms[:]) < 1000 {
		t.Errorf("the rooms are %v: the test looks at too few", rooms)
	}
}

// P6: those without a standing leave half of the room and of the slots to those with one.
func TestP6KeptRoomIsKept(t *testing.T) {
	p := place{size: 100, amt: 10}
	for i := range 20 {
		want := 0
		if i < 5 {
			want = 1
		}
		if got := p.takeIn(false); got != want {
			t.Fatalf("payment %d without a standing: room %d, want %d", i, got, want)
		}
	}
	for i := range 20 {
		want := 0
		if i < 5 {
			want = 2
		}
		if got := p.takeIn(true); got != want {
			t.Fatalf("payment %d with a standing: room %d, want %d", i, got, want)
		}
	}
	if p != (place{100, 50, 100, 5, 10, 10}) {
		t.Errorf("filled: %+v", p)
	}
}

// P13: without is the answer to one without a standing, with the one to one with it.
func TestP13Allow(t *testing.T) {
	for _, c := range []struct {
		name          string
		p             place
		without, with int
	}{
		{"empty", place{100, 0, 0, 0, 0, 10}, 1, 1},
		{"in use", place{100, 20, 60, 2, 5, 30}, 1, 1},
		{"amt 0", place{100, 0, 0, 0, 0, 0}, 1, 1},
		{"just half", place{100, 0, 0, 0, 0, 50}, 1, 1},
		{"one above half", place{100, 0, 0, 0, 0, 51}, 0, 2},
		{"just half together", place{100, 30, 30, 1, 1, 20}, 1, 1},
		{"one above half together", place{100, 30, 30, 1, 1, 21}, 0, 2},
		{"one above half in use", place{100, 31, 31, 1, 1, 20}, 0, 2},
		{"half in use, amt 0", place{100, 50, 50, 1, 1, 0}, 1, 1},
		{"above half in use, amt 0", place{100, 51, 51, 1, 1, 0}, 0, 2},
		{"odd size, half cut down", place{101, 20, 20, 1, 1, 30}, 1, 1},
		{"odd size, one more", place{101, 20, 20, 1, 1, 31}, 0, 2},
		{"just size", place{100, 0, 60, 0, 2, 40}, 1, 1},
		{"one above size", place{100, 0, 60, 0, 2, 41}, 0, 0},
		{"just size, general room full", place{100, 50, 90, 1, 2, 10}, 0, 2},
		{"one above size, general room full", place{100, 50, 91, 1, 2, 10}, 0, 0},
		{"the whole at once", place{100, 0, 0, 0, 0, 100}, 0, 2},
		{"more than the whole at once", place{100, 0, 0, 0, 0, 101}, 0, 0},
		{"full, amt 0", place{100, 0, 100, 0, 2, 0}, 1, 1},
		{"more than full, amt 0", place{100, 0, 101, 0, 2, 0}, 0, 0},
		{"size 0, amt 0", place{0, 0, 0, 0, 0, 0}, 1, 1},
		{"size 0, amt 1", place{0, 0, 0, 0, 0, 1}, 0, 0},
		{"size 0, amt 0, in use", place{0, 0, 1, 0, 1, 0}, 0, 0},
		{"size 1, amt 0", place{1, 0, 0, 0, 0, 0}, 1, 1},
		{"size 1, amt 1", place{1, 0, 0, 0, 0, 1}, 0, 2},
		{"size 1, amt 2", place{1, 0, 0, 0, 0, 2}, 0, 0},
		{"size 2, amt 1", place{2, 0, 0, 0, 0, 1}, 1, 1},
		{"size 3, amt 1", place{3, 0, 0, 0, 0, 1}, 1, 1},
		{"size 3, amt 2", place{3, 0, 0, 0, 0, 2}, 0, 2},
		{"MaxAmt, half", place{top, 0, 0, 0, 0, top / 2}, 1, 1},
		{"MaxAmt, one above half", place{top, 0, 0, 0, 0, top/2 + 1}, 0, 2},
		{"MaxAmt, all", place{top, 0, 0, 0, 0, top}, 0, 2},
		{"MaxAmt, half twice", place{top, 0, top / 2, 0, 1, top / 2}, 1, 1},
		{"MaxAmt, half twice and 1", place{top, 0, top/2 + 1, 0, 1, top / 2}, 0, 0},
		{"MaxAmt twice", place{top, 0, top, 0, 1, top}, 0, 0},
		{"MaxAmt less 1, half cut down", place{top - 1, 0, 0, 0, 0, top/2 - 1}, 1, 1},
		{"MaxAmt less 1, one more", place{top - 1, 0, 0, 0, 0, top / 2}, 0, 2},
		{"slotsFew MaxSlots / 2 - 1", place{100, 0, 0, 4, 4, 10}, 1, 1},
		{"slotsFew MaxSlots / 2", place{100, 0, 0, 5, 5, 10}, 0, 2},
		{"slotsFew above", place{100, 0, 0, 6, 6, 10}, 0, 2},
		{"slotsAll MaxSlots - 1", place{100, 0, 0, 0, 9, 10}, 1, 1},
		{"slotsAll MaxSlots", place{100, 0, 0, 0, 10, 10}, 0, 0},
		{"slotsAll above", place{100, 0, 0, 0, 11, 10}, 0, 0},
		{"last slots of both", place{100, 20, 60, 4, 9, 30}, 1, 1},
		{"last slot of all", place{100, 20, 60, 5, 9, 30}, 0, 2},
		{"no slot of all", place{100, 20, 60, 5, 10, 30}, 0, 0},
		{"greatest slots", place{100, 0, 0, 0, greatestInt, 0}, 0, 0},
		{"greatest slots of both", place{100, 0, 0, greatestInt, greatestInt, 0}, 0, 0},
		{"all that the channel has", place{100, 50, 100, 5, 10, 0}, 0, 0},
	} {
		if without, with := c.p.allow(false), c.p.allow(true); without != c.without || with != c.with {
			t.Errorf("%s: Allow of %+v: %d, good %d; want %d, %d", c.name, c.p, without, with, c.without, c.with)
		}
	}
}

// P13: what isn't right has no room, whoever asks; beside each wrong argument the others would let it in.
func TestP13AllowNotRight(t *testing.T) {
	for name, p := range map[string]place{
		"size -1":                     {-1, 0, 0, 0, 0, 0},
		"size -2":                     {-2, 0, 0, 0, 0, 0},
		"size MaxAmt and 1":           {top + 1, 0, 0, 0, 0, 1},
		"size the least int":          {leastInt, 0, 0, 0, 0, 0},
		"size the greatest int":       {greatestInt, 0, 0, 0, 0, 1},
		"usedFew -1":                  {100, -1, 0, 0, 0, 1},
		"usedFew the least int":       {100, leastInt, 0, 0, 0, 1},
		"usedFew MaxAmt and 1":        {top, top + 1, top + 1, 0, 0, 0},
		"usedFew the greatest int":    {100, greatestInt, 0, 0, 0, 1},
		"usedAll -1":                  {100, 0, -1, 0, 0, 1},
		"both used -1":                {100, -1, -1, 0, 0, 1},
		"usedAll the least int":       {100, 0, leastInt, 0, 0, 1},
		"both used the least int":     {100, leastInt, leastInt, 0, 0, 1},
		"usedAll MaxAmt and 1":        {top, 0, top + 1, 0, 0, 0},
		"usedAll the greatest int":    {100, 0, greatestInt, 0, 0, 1},
		"both used the greatest int":  {100, greatestInt, greatestInt, 0, 0, greatestInt},
		"slotsFew -1":                 {100, 0, 0, -1, 0, 1},
		"slotsFew the least int":      {100, 0, 0, leastInt, 0, 1},
		"slotsAll -1":                 {100, 0, 0, 0, -1, 1},
		"both slots -1":               {100, 0, 0, -1, -1, 1},
		"slotsAll the least int":      {100, 0, 0, 0, leastInt, 1},
		"both slots the least int":    {100, 0, 0, leastInt, leastInt, 1},
		"amt -1":                      {100, 10, 10, 1, 1, -1},
		"amt the least int":           {100, 10, 10, 1, 1, leastInt},
		"amt MaxAmt and 1":            {top, 0, 0, 0, 0, top + 1},
		"amt the greatest int":        {100, 10, 10, 1, 1, greatestInt},
		"usedFew above usedAll":       {100, 11, 10, 1, 1, 1},
		"usedFew far above usedAll":   {100, 60, 20, 2, 5, 1},
		"slotsFew above slotsAll":     {100, 10, 10, 2, 1, 1},
		"slotsFew far above slotsAll": {100, 10, 10, 9, 0, 1},
		"slotsFew the greatest int":   {100, 0, 0, greatestInt, 1, 1},
		"all the least int":           {leastInt, leastInt, leastInt, leastInt, leastInt, leastInt},
		"all the greatest int":        {greatestInt, greatestInt, greatestInt, greatestInt, greatestInt, greatestInt},
	} {
		if without, with := p.allow(false), p.allow(true); without != 0 || with != 0 {
			t.Errorf("%s: Allow of %+v: %d, good %d; want 0", name, p, without, with)
		}
	}
}

// P13: Allow at all edges of all arguments at once, and at every way of using a small channel.
func TestP13AllowAtEdges(t *testing.T) {
	rooms := [3]int{}
	look := func(t *testing.T, p place) {
		for _, good := range []bool{false, true} {
			want := p.wantAllow(good)
			rooms[want]++
			if got := p.allow(good); got != want {
				t.Errorf("Allow of %+v, good %v = %d; want %d", p, good, got, want)
			}
		}
	}
	eachPlace(t, look)
	eachSmallPlace(t, look)
	if slices.Min(rooms[:]) < 5000 {
		t.Errorf("the rooms are %v: the test looks at too few", rooms)
	}
}
