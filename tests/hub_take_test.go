package tests

import (
	"slices"
	"testing"

	"loop.example/g00400/impl"
)

// lookTaken holds HubTake of a right hub against P3, by what Apply, LogAdd and Post themselves say, and tells the hub that goes on and the code.
func lookTaken(t *testing.T, h impl.Hub, e impl.Event) (impl.Hub, int) {
	t.Helper()
	b, p, applied := impl.Apply(h.Book, e)
	log, added := impl.LogAdd(h.Log, e)
	l, posted := h.Ledger, 0
	if len(p.Lines) > 0 {
		l, posted = impl.Post(h.Ledger, p)
	}
	given := roomyHub(h)
	was := allOfHub(roomyHub(h))
	got, code := impl.HubTake(given, e)
	if !sameHub(allOfHub(given), was) {
		t.Fatalf("HubTake of %+v with code %d changes the hub %+v", e, code, briefly(h))
	}
	if (code == 0) != (applied == 0 && added == 0 && posted == 0) {
		t.Fatalf("HubTake of %+v has code %d, Apply %d, LogAdd %d, Post %d: %+v", e, code, applied, added, posted, briefly(h))
	}
	if code != 0 {
		if !sameHub(got, impl.Hub{}) {
			t.Fatalf("beside code %d HubTake of %+v tells %+v", code, e, briefly(got))
		}
		return h, code
	}
	want := impl.Hub{Log: log, Book: b, Ledger: l, Wait: slices.Concat(h.Wait, events(e)), Sent: h.Sent}
	if !sameHub(got, want) || !impl.HubOk(got) || !impl.Agrees(got.Book, got.Ledger) {
		t.Fatalf("HubTake of %+v makes of %+v\n%+v; want\n%+v", e, briefly(h), briefly(got), briefly(want))
	}
	lookSizes(t, h.Book, e, got.Book)
	return got, 0
}

// startedHub has put in what the mood can, and opened two channels with the most of it.
func startedHub(t *testing.T, n int, m mood) impl.Hub {
	t.Helper()
	open := func(ch int, amt int) impl.Event {
		return impl.Event{Kind: impl.EvOpen, Ch: ch, Amt: amt, Fee: m.amt / 3}
	}
	return hubTook(t, openedHub(t, laid(n)), deposit(m.amt), open(1, m.amt/2), open(2, m.amt/3))
}

// P3: over many rows of right and wrong events, on disks that get full and on such that don't, with a sync now and then.
func TestP3HubTakesAllOrNothing(t *testing.T) {
	d, seen := dice(31), map[int]int{}
	for i := range 120 {
		m := moods()[i%len(moods())]
		h := startedHub(t, 4+d.below(90), m)
		for range 140 {
			var code int
			h, code = lookTaken(t, h, d.bookEvent(m, h.Book))
			seen[code]++
			if d.below(12) == 0 {
				h = impl.HubSync(h)
			}
			if code == 21 && d.below(3) == 0 {
				break
			}
		}
	}
	for _, code := range []int{0, 1, 2, 3, 4, 6, 7, 8, 9, 10, 11, 12, 13, 15, 21, 22} {
		if seen[code] < 10 {
			t.Errorf("codes %v: of %d too few", seen, code)
		}
	}
}

// isAbove tells whether a log's Epoch is none below that of any sector in it, and above those of all behind it, as in each that was opened.
func isAbove(l impl.Log) bool {
	for at := range l.Disk.Cells {
		s, ok := wantSector(wantBytes(l.Disk, at))
		if ok && (s.Epoch > l.Epoch || at >= l.Next && s.Epoch == l.Epoch) {
			return false
		}
	}
	return true
}

// P3: the hubs at the edges and many made by chance, each with many events.
func TestP3HubTakesOfManyHubs(t *testing.T) {
	d, done, refused := dice(32), 0, 0
	hubs := []impl.Hub{}
	eachHub(rightHubs(), func(name string, h impl.Hub) {
		if len(h.Log.Disk.Cells) < 600 && isAbove(h.Log) {
			hubs = append(hubs, h)
		}
	})
	for i := range 300 {
		hubs = append(hubs, d.hub(1+d.below(20), moods()[i%len(moods())]))
	}
	for _, h := range hubs {
		for _, e := range hubEvents(&d, h) {
			if _, code := lookTaken(t, h, e); code == 0 {
				done++
			} else {
				refused++
			}
		}
	}
	if min(done, refused) < 500 {
		t.Errorf("%d done, %d refused: the test looks at too few", done, refused)
	}
}

// P3: what the book takes but the ledger doesn't is not taken, nor what only the log doesn't: neither book nor ledger nor log has it, and what comes behind is taken as if it had never been.
func TestP3HubTakesNothingOfIt(t *testing.T) {
	h := laidHub(6, textsOf(vastHistory)...)
	for range 3 {
		next, code := lookTaken(t, h, deposit(1))
		if code != 22 || !sameHub(next, h) {
			t.Fatalf("a deposit past all has code %d", code)
		}
	}
	h, code := lookTaken(t, h, said("close 1 5"))
	if code != 0 || h.Log.Next != 4 || h.Book.Next != 4 || h.Ledger.Last != 3 || len(h.Wait) != 1 {
		t.Errorf("behind it: code %d, %+v", code, briefly(h))
	}
	// Now the book doesn't take it either.
	if _, code = lookTaken(t, h, deposit(6)); code != 2 {
		t.Errorf("a deposit past the wallet's end has code %d", code)
	}
	h, _ = lookTaken(t, h, tick)
	h, _ = lookTaken(t, h, tick)
	if next, code := lookTaken(t, h, tick); code != 21 || next.Book.Tick != 2 {
		t.Errorf("on a full disk: code %d, Tick %d", code, next.Book.Tick)
	}
}

// P3: accounts agree with the book in every right hub, whatever is done with it.
func TestP3HubAccountsAgree(t *testing.T) {
	d := dice(33)
	for i := range 300 {
		h := d.hub(1+d.below(20), moods()[i%len(moods())])
		again, code := impl.HubOpen(impl.HubCrash(h, []int{128, 128, 64}))
		for _, x := range []impl.Hub{h, impl.HubSync(h), again} {
			if impl.HubOk(x) && !impl.Agrees(x.Book, x.Ledger) || code == 0 && !impl.HubOk(x) {
				t.Fatalf("the accounts don't agree: %+v", briefly(x))
			}
		}
	}
}
