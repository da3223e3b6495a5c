package tests

import (
	"slices"
	"testing"

	"loop.example/g00400/impl"
)

// lawful is up, all of a history is taken, and the first five events of it are let go.
func lawful() impl.World {
	return changedWorld(upWith(twiceOpened()), func(w *impl.World) { w.Sent = slices.Clone(w.Took[:5]) })
}

// lawfulDown is not up; nobody looks yet at what the disk has still of what was taken.
func lawfulDown() impl.World {
	return changedWorld(lawful(), func(w *impl.World) { w.Up, w.Hub, w.Disk = false, impl.Hub{}, wantCrash(w.Hub.Log.Disk, []int{128}) })
}

// lookLegal changes the one and the other world and holds Legal of what comes against what is told.
func lookLegal(t *testing.T, name string, want bool, change func(w *impl.World)) {
	t.Helper()
	for which, w := range map[string]impl.World{"up": lawful(), "down": lawfulDown()} {
		w = changedWorld(w, change)
		if lookWhole(t, name+", "+which, w); impl.Legal(w) != want {
			t.Errorf("%s, %s: Legal is %v", name, which, impl.Legal(w))
		}
	}
}

// P13: Sent is any beginning of Took, from none of it to all of it.
func TestP13LegalSent(t *testing.T) {
	lookLegal(t, "as it is", true, func(w *impl.World) {})
	for n := range 8 {
		lookLegal(t, "some sent", true, func(w *impl.World) { w.Sent = w.Took[:n] })
	}
	lookLegal(t, "no list", true, func(w *impl.World) { w.Sent = nil })
	lookLegal(t, "an empty list", true, func(w *impl.World) { w.Sent = events() })
	lookLegal(t, "other codes", true, func(w *impl.World) { w.Codes = codes(-5, leastInt, 99) })
	lookLegal(t, "no codes", true, func(w *impl.World) { w.Codes = nil })
	for name, sent := range map[string]func(took []impl.Event) []impl.Event{
		"one longer than Took":            func(l []impl.Event) []impl.Event { return append(l, tick) },
		"one longer, the last one twice":  func(l []impl.Event) []impl.Event { return append(l, l[len(l)-1]) },
		"one longer, the first one twice": func(l []impl.Event) []impl.Event { return append(l, l[0]) },
		"one longer by no event":          func(l []impl.Event) []impl.Event { return append(l, impl.Event{}) },
		"one more ahead":                  func(l []impl.Event) []impl.Event { return slices.Insert(l, 0, tick) },
		"no event ahead":                  func(l []impl.Event) []impl.Event { return slices.Insert(l, 0, impl.Event{}) },
		"without the first":               func(l []impl.Event) []impl.Event { return l[1:] },
		"only the last":                   func(l []impl.Event) []impl.Event { return l[len(l)-1:] },
		"only the second":                 func(l []impl.Event) []impl.Event { return l[1:2] },
		"one is passed over":              func(l []impl.Event) []impl.Event { return slices.Delete(l, 2, 3) },
		"two exchanged":                   func(l []impl.Event) []impl.Event { l[1], l[2] = l[2], l[1]; return l },
		"turned round":                    func(l []impl.Event) []impl.Event { slices.Reverse(l); return l },
		"only another one":                func(l []impl.Event) []impl.Event { return events(deposit(1001)) },
		"only no event":                   func(l []impl.Event) []impl.Event { return events(impl.Event{}) },
		"twice":                           func(l []impl.Event) []impl.Event { return slices.Repeat(l, 2) },
		"far longer":                      func(l []impl.Event) []impl.Event { return slices.Repeat(events(l[0]), 5000) },
	} {
		lookLegal(t, name, false, func(w *impl.World) { w.Sent = sent(slices.Clone(w.Took)) })
	}
}

// P13: a Sent that is apart from Took in one field of one event.
func TestP13LegalFields(t *testing.T) {
	for n := 1; n <= 7; n++ {
		for at := range n {
			for _, change := range []func(e *impl.Event){
				func(e *impl.Event) { e.Kind++ }, func(e *impl.Event) { e.Key++ }, func(e *impl.Event) { e.Ch-- }, func(e *impl.Event) { e.To++ },
				func(e *impl.Event) { e.Amt-- }, func(e *impl.Event) { e.Fee++ }, func(e *impl.Event) { e.Yes = !e.Yes },
			} {
				lookLegal(t, "apart in one field", false, func(w *impl.World) {
					w.Sent = slices.Clone(w.Took[:n])
					change(&w.Sent[at])
				})
			}
		}
	}
}

// P13: down, Took is whatever stands there.
func TestP13LegalDown(t *testing.T) {
	wrong := events(deposit(-5), impl.Event{Kind: 77}, impl.Event{})
	for name, c := range map[string]struct {
		w    impl.World
		want bool
	}{
		"new":                       {downWith(laid(1)), true},
		"took what is no event":     {impl.World{Disk: laid(4), Took: wrong, Sent: wrong[:2]}, true},
		"sent all of it":            {impl.World{Disk: laid(4), Took: wrong, Sent: wrong}, true},
		"sent, but took nothing":    {impl.World{Disk: laid(4), Sent: events(tick)}, false},
		"sent what is no event":     {impl.World{Disk: laid(4), Sent: events(impl.Event{})}, false},
		"a hub refuses the disk":    {impl.World{Disk: rowDisk(9, "tick", "fulfill 7"), Took: events(tick)}, true},
		"the disk has another life": {impl.World{Disk: rowDisk(9, textsOf(history)...), Took: events(deposit(5)), Sent: events(deposit(5))}, true},
		"nothing":                   {impl.World{}, false},
		"no disk":                   {impl.World{Took: events(tick), Sent: events(tick)}, false},
		"something waits":           {impl.World{Disk: waiting(laid(3), 1, run(1, 128)), Took: events(tick)}, false},
		"a hub too":                 {impl.World{Disk: laid(3), Hub: freshHub(3)}, false},
		"a disk not right":          {impl.World{Disk: impl.Disk{Cells: []impl.Cell{cell(run(0, 5))}}}, false},
	} {
		if lookWhole(t, name, c.w); impl.Legal(c.w) != c.want {
			t.Errorf("%s: Legal is %v", name, impl.Legal(c.w))
		}
	}
}

// P13: up, each thing that makes a hub, or Took, not right, makes the world not legal.
func TestP13LegalUp(t *testing.T) {
	for name, h := range rightHubs() {
		w := upWith(h)
		w.Sent = slices.Clone(w.Took[:len(w.Took)/2])
		if lookWhole(t, name, w); !impl.Legal(w) {
			t.Errorf("%s: Legal is false", name)
		}
		w.Disk = laid(1)
		if lookWhole(t, name, w); impl.Legal(w) || impl.Earned(w) != 0 {
			t.Errorf("%s, with a disk too: Legal is %v, Earned %d", name, impl.Legal(w), impl.Earned(w))
		}
	}
	for name, h := range wrongHubs() {
		w := impl.World{Up: true, Hub: h}
		if wantDiskOk(h.Log.Disk) {
			w.Took = wantLogEvents(h.Log.Disk)
		}
		if lookWhole(t, name, w); impl.Legal(w) {
			t.Errorf("%s: Legal is true", name)
		}
	}
	for name, change := range wrongTooks() {
		w := changedWorld(lawful(), change)
		w.Sent = nil
		if lookWhole(t, name, w); impl.Legal(w) {
			t.Errorf("Took %s: Legal is true", name)
		}
	}
}

// P13: each number of a legal world at some edges, and one beside what it was: Legal and Earned as reckoned.
func TestP13LegalEachNumber(t *testing.T) {
	legal := map[bool]int{}
	for which, from := range map[string]impl.World{"up": lawful(), "down": lawfulDown(), "has earned": earner()} {
		for i := range worldFields(&from) {
			was := *worldFields(&from)[i]
			for _, n := range []int{leastInt, was - 1, was + 1, 0, 1, 99, top + 1, greatestInt} {
				w := copyOfWorld(from)
				*worldFields(&w)[i] = n
				legal[wantLegal(w)]++
				if got := impl.Legal(w); got != wantLegal(w) {
					t.Errorf("%s, number %d at %d: Legal is %v", which, i, n, got)
				}
				if got, want := impl.Earned(w), wantEarned(w); got != want {
					t.Errorf("%s, number %d at %d: Earned is %d; want %d", which, i, n, got, want)
				}
			}
		}
	}
	if min(legal[true], legal[false]) < 20 {
		t.Errorf("%v are legal: the test looks at one side only", legal)
	}
}

// earnings are what a hub earns by payments, and pays for circles.
const earnings = history + "|fulfill 7|arrive 8"

func earner() impl.World { return upWith(laidHub(12, textsOf(earnings)...)) }

// P13: what was earned, told out.
func TestP13Earned(t *testing.T) {
	rich := "deposit 3|open 1 1 1125899906842623|open 2 2 0|price 2 1125899906842621 0|admit 7 1 2 1 no"
	paying := "deposit 1125899906842624|open 1 1125899906842623 0|open 2 1 5|launch 7 1 2 1 1125899906842622"
	for name, c := range map[string]struct {
		said string
		want int
	}{
		"a tick":                     {"tick", 0},
		"only money put in":          {"deposit 5", 0},
		"nothing came in yet":        {history, 0},
		"a payment":                  {history + "|fulfill 7", -7},
		"a payment that failed":      {history + "|fail 7", 0},
		"a circle":                   {history + "|arrive 8", 3},
		"a circle that was lost":     {history + "|lost 8", 0},
		"both":                       {earnings, -4},
		"both, the other way":        {history + "|arrive 8|fulfill 7", -4},
		"many":                       {earnings + "|price 1 50 0|admit 1 2 1 10 no|fulfill 1|launch 2 1 2 9 100|arrive 2", -54 + 100},
		"as much as it paid":         {"deposit 100|open 1 50 50|open 2 50 50|price 2 9 0|admit 1 1 2 5 no|launch 2 1 2 5 9|fulfill 1|arrive 2", 0},
		"a circle of no fee":         {"deposit 100|open 1 50 50|open 2 50 50|launch 2 1 2 5 0|arrive 2", 0},
		"what a closing costs isn't": {"deposit 100|open 1 50 50|close 1 20", 0},
		"nearly all there is":        {rich + "|fulfill 7", -1125899906842621},
		"nearly all, not yet":        {rich, 0},
		"nearly all was paid":        {paying + "|arrive 7", 1125899906842622},
		"nearly all, and it is lost": {paying + "|lost 7", 0},
		"vast, nothing earned":       {vastHistory, 0},
	} {
		es := textsOf(c.said)
		for which, h := range map[string]impl.Hub{"sent": laidHub(len(es)+1, es...), "waits": waitingHub(len(es)+3, es...)} {
			w := upWith(h)
			if lookWhole(t, name+", "+which, w); impl.Earned(w) != c.want || !impl.WorldOk(w) {
				t.Errorf("%s, %s: Earned is %d; want %d", name, which, impl.Earned(w), c.want)
			}
		}
	}
}

// P13: where it isn't up or not right, nothing was earned, whatever stands in the ledger; Sent doesn't matter.
func TestP13EarnedNothing(t *testing.T) {
	for name, change := range map[string]func(w *impl.World){
		"down":                  func(w *impl.World) { w.Up = false },
		"down with its disk":    func(w *impl.World) { w.Up, w.Disk, w.Hub = false, w.Hub.Log.Disk, impl.Hub{} },
		"a disk too":            func(w *impl.World) { w.Disk = laid(3) },
		"another income":        func(w *impl.World) { w.Hub.Ledger.Lines[2].Amt--; w.Hub.Ledger.Lines[0].Amt++ },
		"no ledger":             func(w *impl.World) { w.Hub.Ledger = impl.Ledger{} },
		"a book with one more":  func(w *impl.World) { w.Hub.Book.Wallet++ },
		"Took is nothing":       func(w *impl.World) { w.Took = nil },
		"Took is one less":      func(w *impl.World) { w.Took = w.Took[:8] },
		"Took is one more":      func(w *impl.World) { w.Took = append(w.Took, tick) },
		"no log":                func(w *impl.World) { w.Hub.Log = impl.Log{} },
		"Wait is one more":      func(w *impl.World) { w.Hub.Wait = append(w.Hub.Wait, tick) },
		"only a ledger":         func(w *impl.World) { *w = having(impl.Book{}, w.Hub.Ledger.Lines...) },
		"only a ledger, down":   func(w *impl.World) { *w = having(impl.Book{}, w.Hub.Ledger.Lines...); w.Up = false },
		"only income":           func(w *impl.World) { *w = having(impl.Book{}, line(income, -7)) },
		"income and rebal vast": func(w *impl.World) { *w = having(impl.Book{}, line(income, leastInt), line(rebal, leastInt)) },
		"nothing":               func(w *impl.World) { *w = impl.World{} },
		"nothing, up":           func(w *impl.World) { *w = impl.World{Up: true} },
	} {
		w := changedWorld(earner(), change)
		if lookWhole(t, name, w); impl.Earned(w) != 0 {
			t.Errorf("%s: Earned is %d", name, impl.Earned(w))
		}
	}
	w := changedWorld(earner(), func(w *impl.World) { w.Sent, w.Codes = events(deposit(5), tick), codes(-5) })
	if impl.Legal(w) || impl.Earned(w) != -4 {
		t.Errorf("of another Sent Legal is %v, Earned %d", impl.Legal(w), impl.Earned(w))
	}
}
