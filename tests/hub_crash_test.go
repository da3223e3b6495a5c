package tests

import (
	"slices"
	"testing"

	"loop.example/g00400/impl"
)

// openedHub is what HubOpen makes of a disk, which must take it.
func openedHub(t *testing.T, d impl.Disk) impl.Hub {
	t.Helper()
	h, code := impl.HubOpen(d)
	if code != 0 {
		t.Fatalf("HubOpen has code %d", code)
	}
	return h
}

// hubTook is h with the events, all of which it must take.
func hubTook(t *testing.T, h impl.Hub, es ...impl.Event) impl.Hub {
	t.Helper()
	for _, e := range es {
		next, code := impl.HubTake(h, e)
		if code != 0 {
			t.Fatalf("HubTake of %+v has code %d", e, code)
		}
		h = next
	}
	return h
}

// beginningsMade are what each beginning of a row of events makes, from none of them on.
func beginningsMade(es []impl.Event) []ledgered {
	l := []ledgered{{book: impl.BookNew()}}
	for i, e := range es {
		next, ok := l[i].wantNext(e)
		if !ok {
			panic("the row isn't taken")
		}
		l = append(l, next)
	}
	return l
}

// lookMade wants the hub to have just these events, and the book and the ledger that they make.
func lookMade(t *testing.T, name string, h impl.Hub, es []impl.Event) bool {
	t.Helper()
	made, ok := wantMade(es)
	return lookHas(t, name, h, es, made) && ok
}

func lookHas(t *testing.T, name string, h impl.Hub, es []impl.Event, made ledgered) bool {
	t.Helper()
	if !impl.HubOk(h) || !slices.Equal(impl.LogEvents(h.Log.Disk), es) || !sameBook(h.Book, made.book) || !sameLedger(h.Ledger, made.ledger) {
		t.Errorf("%s: the hub has %v, %+v; want %v", name, impl.LogEvents(h.Log.Disk), briefly(h), es)
		return false
	}
	return true
}

// lookOpened holds what is found on a disk behind a crash against P2: those of taken that came, whatever comes, with the first synced of them at least; opened again and again the same.
func lookOpened(t *testing.T, d impl.Disk, taken []impl.Event, synced int, made []ledgered) bool {
	t.Helper()
	found := impl.LogEvents(d)
	if !isBeginning(found, taken, synced) {
		t.Errorf("of %v with %d synced is found %v", taken, synced, found)
		return false
	}
	for range 3 {
		h, code := impl.HubOpen(d)
		if code != 0 || len(h.Wait) > 0 || len(h.Sent) > 0 || !lookHas(t, "opened", h, found, made[len(found)]) {
			t.Errorf("HubOpen has code %d: %+v", code, briefly(h))
			return false
		}
		// It needs no crash to be opened again: nothing waits.
		d = h.Log.Disk
	}
	return true
}

// hubRow are events that a new hub takes in this order.
func hubRow() []impl.Event {
	return saidAll(append(textsOf(history), "fulfill 7", "arrive 8", "admit 9 2 1 5 yes", "tick", "deposit 4")...)
}

// P2: whatever each crash keeps of up to three events that wait, on a new disk and over what older runs left there: a beginning is found, with all that was synced.
func TestP2HubEachCrash(t *testing.T) {
	numbers, row := []int{-1, 0, 1, 7, 64, 127, 128, 129}, hubRow()
	made := beginningsMade(row)
	for name, base := range oldDisks(t, 20) {
		t.Run(name, func(t *testing.T) {
			for synced := range 5 {
				for count := range 4 {
					h := impl.HubSync(hubTook(t, openedHub(t, base), row[:synced]...))
					h = hubTook(t, h, row[synced:synced+count]...)
					if !slices.Equal(h.Sent, row[:synced]) || !slices.Equal(h.Wait, row[synced:synced+count]) {
						t.Fatalf("%d synced, %d wait: %+v", synced, count, briefly(h))
					}
					lookCrashes(t, h, row[:synced+count], synced, made, crashKeeps(count, numbers))
				}
			}
		})
	}
}

func lookCrashes(t *testing.T, h impl.Hub, taken []impl.Event, synced int, made []ledgered, keeps [][]int) {
	t.Helper()
	for _, keep := range keeps {
		after := impl.HubCrash(h, keep)
		came := synced + cameWhole(h.Log.Disk, after)
		if got := impl.LogEvents(after); !slices.Equal(got, taken[:came]) {
			t.Fatalf("%d synced of %v, crashed with %v: %v is found, but %d came", synced, taken, keep, got, came)
		}
		if !lookOpened(t, after, taken, synced, made) {
			t.Fatalf("%d synced, crashed with %v", synced, keep)
		}
	}
}

// P2: Sent never has an event that wasn't synced: it stays as it is at every take, whatever is refused, and each crash keeps all of it; behind HubSync all that waited is in it, in order.
func TestP2HubLetsGoBehindASync(t *testing.T) {
	row := hubRow()
	for each := 1; each <= len(row); each++ {
		h := openedHub(t, laid(40))
		for i, e := range row {
			was := h
			h = hubTook(t, h, e)
			if !slices.Equal(h.Sent, was.Sent) || !slices.Equal(h.Wait, slices.Concat(was.Wait, events(e))) {
				t.Fatalf("behind %+v: %+v", e, briefly(h))
			}
			if i%each == each-1 {
				lookSynced(t, h, row[:i+1])
				h = impl.HubSync(h)
			}
			for _, keep := range [][]int{nil, {0}, {127}, {127, 128, 128}} {
				found := impl.LogEvents(impl.HubCrash(h, keep))
				if len(found) < len(h.Sent) || !slices.Equal(found[:len(h.Sent)], h.Sent) {
					t.Fatalf("crashed with %v: %v, but let go was %v", keep, found, h.Sent)
				}
			}
		}
	}
}

// lookSynced holds HubSync of a hub that was opened on a new disk and took these events.
func lookSynced(t *testing.T, h impl.Hub, taken []impl.Event) {
	t.Helper()
	s := impl.HubSync(h)
	if len(s.Wait) > 0 || !slices.Equal(s.Sent, taken) || len(s.Log.Disk.Dirty) > 0 || !lookMade(t, "synced", s, taken) {
		t.Fatalf("synced behind %v: %+v", taken, briefly(s))
	}
	if twice := impl.HubSync(s); !sameHub(twice, s) {
		t.Fatalf("synced twice: %+v", briefly(twice))
	}
	for _, keep := range [][]int{nil, {0}, {1, 1, 1}, {128, 128}} {
		if !sameDisk(impl.HubCrash(s, keep), s.Log.Disk) {
			t.Fatalf("behind a sync a crash with %v takes something away", keep)
		}
	}
}

// P2: a start lets nothing go by itself: Wait and Sent are empty, whatever is found; then only what was taken since comes to Sent.
func TestP2HubStartsWithNothingSent(t *testing.T) {
	row := hubRow()
	for found := range row {
		h := hubTook(t, openedHub(t, laid(40)), row[:found]...)
		h = openedHub(t, impl.HubCrash(h, slices.Repeat([]int{128}, found)))
		if len(h.Sent) > 0 || len(h.Wait) > 0 || !lookMade(t, "started", h, row[:found]) {
			t.Fatalf("%d found: %+v", found, briefly(h))
		}
		h = impl.HubSync(hubTook(t, h, row[found:]...))
		if !slices.Equal(h.Sent, row[found:]) || !lookMade(t, "and synced", h, row) {
			t.Fatalf("%d found, then the others: %+v", found, briefly(h))
		}
	}
}

// P2: opened again and again the events stay, until no cell is left.
func TestP2HubOpenedAgainAndAgain(t *testing.T) {
	row := hubRow()
	d := impl.HubSync(hubTook(t, openedHub(t, laid(30)), row...)).Log.Disk
	for i := range 30 - 1 - len(row) {
		h := openedHub(t, d)
		if h.Log.Epoch != 2+i || !lookMade(t, "opened again", h, row) {
			t.Fatalf("opened the time %d: Epoch %d", i+2, h.Log.Epoch)
		}
		d = impl.HubCrash(h, nil)
	}
	if _, code := impl.HubOpen(d); code != 2 || !slices.Equal(impl.LogEvents(d), row) {
		t.Errorf("with no cell left HubOpen has code %d", code)
	}
}
