package tests

import (
	"maps"
	"slices"
	"testing"

	"loop.example/g00400/impl"
)

// eachWorld goes through worlds by their names, so that what chance makes beside them is the same in every run.
func eachWorld(worlds map[string]impl.World, look func(name string, w impl.World)) {
	for _, name := range slices.Sorted(maps.Keys(worlds)) {
		look(name, worlds[name])
	}
}

func TestP13WorldConstants(t *testing.T) {
	got := []int{impl.StTake, impl.StSync, impl.StCrash, impl.StStart, impl.StTurn, impl.MaxSteps, impl.MaxText}
	if !slices.Equal(got, []int{1, 2, 3, 4, 5, 300, 8000}) {
		t.Errorf("the constants are %v", got)
	}
}

func TestP13WorldNew(t *testing.T) {
	for _, n := range []int{1, 2, 9, 599, 600} {
		w, ok := impl.WorldNew(n)
		if !ok || !sameWorld(w, downWith(laid(n))) || !impl.WorldOk(w) || len(w.Disk.Cells) != n {
			t.Errorf("WorldNew(%d) = %+v, %v", n, shortly(w), ok)
		}
		other, _ := impl.WorldNew(n)
		blotWorld(other)
		if !sameWorld(w, downWith(laid(n))) {
			t.Errorf("two of WorldNew(%d) share memory", n)
		}
	}
	for _, n := range []int{leastInt, -600, -1, 0, 601, 602, 1 << 32, 1<<32 + 1, greatestInt} {
		if w, ok := impl.WorldNew(n); ok || !sameWorld(w, impl.World{}) {
			t.Errorf("WorldNew(%d) = %+v, %v", n, shortly(w), ok)
		}
	}
}

// everyKind has a step of each Kind, such as mostly can be done, and such as there aren't.
func everyKind(d *dice, w impl.World) []impl.Step {
	l := steps(syncing, starting, crashing(), crashing(128, 127, 128), turning(rule(30, 70, 10, 5, 100)), turning(rule(9, 8, 0, 0, 0)), taking(tick), taking(impl.Event{}), impl.Step{})
	l = append(l, impl.Step{Kind: 6, Event: tick, Keep: []int{128}, Rule: rule(30, 70, 10, 5, 100)})
	for i := range 3 {
		l = append(l, taking(d.bookEvent(moods()[i], w.Hub.Book)))
	}
	return append(l, turning(d.rule()), crashing(d.keep(len(w.Hub.Wait))...))
}

func TestP13WorldOk(t *testing.T) {
	d := dice(121)
	eachWorld(rightWorlds(), func(name string, w impl.World) {
		l := everyKind(&d, w)
		if len(w.Disk.Cells)+len(w.Hub.Log.Disk.Cells) == 600 {
			l = l[:7]
		}
		if !lookWorld(t, name, w, l...) {
			t.Errorf("%s: the tests' world isn't right", name)
		}
	})
}

// P13: of a world that isn't right every step makes nothing, and so do many.
func TestP13WorldNotRight(t *testing.T) {
	d := dice(122)
	eachWorld(wrongWorlds(), func(name string, w impl.World) {
		l := everyKind(&d, w)[:8]
		if lookWorld(t, name, w, l...) {
			t.Errorf("%s: the tests' world is right", name)
		}
		for _, s := range l {
			if got := impl.Do(w, s); !sameWorld(got, impl.World{}) {
				t.Errorf("%s: Do of %+v makes %+v", name, s, shortly(got))
			}
		}
		if got := impl.Play(w, l); !sameWorld(got, impl.World{}) {
			t.Errorf("%s: Play makes %+v", name, shortly(got))
		}
	})
}

// worldFields are all numbers of a world but those in bytes.
func worldFields(w *impl.World) []*int {
	l := hubFields(&w.Hub)
	for _, es := range [][]impl.Event{w.Took, w.Sent} {
		for i := range es {
			l = append(l, &es[i].Kind, &es[i].Key, &es[i].Ch, &es[i].To, &es[i].Amt, &es[i].Fee)
		}
	}
	for i := range w.Codes {
		l = append(l, &w.Codes[i])
	}
	for i := range w.Disk.Dirty {
		l = append(l, &w.Disk.Dirty[i].At)
	}
	return l
}

// P13: each number of a world at some edges, and one beside what it was.
func TestP13WorldOkEachNumber(t *testing.T) {
	right, wrong := 0, 0
	for name, from := range map[string]impl.World{
		"up":              upWith(twiceOpened()),
		"up, nobody did":  upWith(freshHub(4)),
		"down":            {Disk: rowDisk(9, textsOf(history)...), Took: events(tick), Sent: events(tick), Codes: codes(3)},
		"down, and waits": downWith(waiting(laid(3), 1, run(1, 128))),
	} {
		for i := range worldFields(&from) {
			was := *worldFields(&from)[i]
			for _, n := range []int{leastInt, was - 1, was, was + 1, -1, 0, 1, 2, 99, 16000000, 16000001, top, top + 1, greatestInt} {
				w := copyOfWorld(from)
				*worldFields(&w)[i] = n
				want := wantWorldOk(w)
				if got := impl.WorldOk(w); got != want {
					t.Errorf("%s, number %d at %d: WorldOk is %v", name, i, n, got)
				}
				if want {
					right++
				} else {
					wrong++
				}
			}
		}
	}
	if right < 100 || wrong < 1000 {
		t.Errorf("%d right, %d wrong: the test looks at too few", right, wrong)
	}
}

// bentWorld is w with something changed by chance; now and then it is right all the same.
func (d *dice) bentWorld(w impl.World) impl.World {
	w = copyOfWorld(w)
	switch d.below(8) {
	case 0:
		w.Up = !w.Up
	case 1:
		w.Took = d.bentList(w.Took)
	case 2:
		w.Sent = d.bentList(w.Sent)
	case 3:
		w.Disk = laid(d.below(3))
	case 4:
		w.Disk.Dirty = append(w.Disk.Dirty, write(0, run(0, 128)))
	case 5:
		w.Codes = append(w.Codes, d.below(9)-4)
	default:
		if w.Up {
			w.Hub = d.bent(w.Hub)
		} else if at := d.below(len(w.Disk.Cells)); d.below(2) == 0 {
			w.Disk.Cells[at].Bytes = d.sectorBytes(at, 1+d.below(3))
		} else {
			w.Disk.Cells[at].Bytes = run(at, d.below(3)*64)
		}
	}
	return w
}

// P13: worlds by chance, right ones and such with one thing changed, with many steps.
func TestP13WorldByChance(t *testing.T) {
	d, right, wrong := dice(123), 0, 0
	for i := range 400 {
		m := moods()[i%len(moods())]
		h := d.hub(1+d.below(12), m)
		w := upWith(h)
		if d.below(3) == 0 {
			w = downWith(wantCrash(h.Log.Disk, d.keep(5)))
			w.Took, w.Sent = wantLogEvents(h.Log.Disk), h.Sent
		}
		if !lookWorld(t, "by chance", w, everyKind(&d, w)...) {
			t.Fatalf("the tests' world isn't right: %+v", shortly(w))
		}
		for range 3 {
			b := d.bentWorld(w)
			l := everyKind(&d, b)
			at := d.below(len(l))
			if lookWorld(t, "bent", b, l[at], l[(at+3)%len(l)]) {
				right++
			} else {
				wrong++
			}
		}
		if t.Failed() {
			t.FailNow()
		}
	}
	if min(right, wrong) < 100 {
		t.Errorf("of those bent %d right, %d wrong: the test looks at too few", right, wrong)
	}
}
