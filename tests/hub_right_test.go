package tests

import (
	"slices"
	"testing"

	"loop.example/g00400/impl"
)

// someKeeps are few, at the edges of what a crash can keep.
func someKeeps() [][]int {
	return [][]int{nil, {}, {128}, {127, 128, 129}, {0, -1, leastInt, greatestInt}, {1, 64, 128, 128, 0, 127, 128, 128, 128, 128}}
}

// hubEvents are right and wrong ones, of which some fit the hub's book.
func hubEvents(d *dice, h impl.Hub) []impl.Event {
	l := events(tick, deposit(1), deposit(top), impl.Event{}, impl.Event{Kind: 12}, deposit(0))
	for i := range 6 {
		l = append(l, d.bookEvent(moods()[i], h.Book))
	}
	return l
}

// lookHub holds all functions that a hub is handed in to against what the tests reckon.
func lookHub(t *testing.T, name string, h impl.Hub, es ...impl.Event) bool {
	t.Helper()
	right := lookHubStays(t, name, h, someKeeps()...)
	for _, e := range es {
		code := lookHubTake(t, name, h, e)
		if right == (code == 20) {
			t.Errorf("%s: right is %v, HubTake has code %d", name, right, code)
		}
	}
	return right
}

func TestP13HubOk(t *testing.T) {
	d := dice(112)
	eachHub(rightHubs(), func(name string, h impl.Hub) {
		es := hubEvents(&d, h)
		if len(h.Log.Disk.Cells) == 600 {
			es = es[:3]
		}
		if !lookHub(t, name, h, es...) {
			t.Errorf("%s: the tests' hub isn't right", name)
		}
	})
	eachHub(wrongHubs(), func(name string, h impl.Hub) {
		if lookHub(t, name, h, hubEvents(&d, h)[:8]...) {
			t.Errorf("%s: the tests' hub is right", name)
		}
	})
}

// P13: each number of a hub at each edge, and one beside what it was.
func TestP13HubOkEachNumber(t *testing.T) {
	right, wrong := 0, 0
	for name, from := range map[string]impl.Hub{"twice opened": twiceOpened(), "nobody opened it": freshHub(4), "waits, full": rightHubs()["waits, full"]} {
		count := len(hubFields(&from))
		for i := range count {
			edges := append(fieldEdges(), 3, 4, 7, 8, 9, 13, 15999999, 16000000, 16000001)
			for _, n := range append(edges, *hubFields(&from)[i]-1, *hubFields(&from)[i]+1) {
				h := copyOfHub(from)
				*hubFields(&h)[i] = n
				want := wantHubOk(h)
				if got := impl.HubOk(h); got != want {
					t.Errorf("%s, number %d of %d at %d: HubOk is %v", name, i, count, n, got)
				}
				if want {
					right++
				} else {
					wrong++
				}
			}
		}
	}
	if right < 30 || wrong < 1000 {
		t.Errorf("%d right, %d wrong: the test looks at too few", right, wrong)
	}
}

// P13: Next at -1, 0, the number of cells and one beyond, on logs that tell as many sectors as that, and more, and fewer.
func TestP13HubOkNext(t *testing.T) {
	right := 0
	for _, cells := range []int{1, 2, 5} {
		for count := 0; count <= cells; count++ {
			l := logOf(laid(cells), count, 1)
			for at := range count {
				l.Disk = with(l.Disk, at, eventSector(at, 1, tick))
			}
			h := madeHub(l, nil, nil)
			for next := -2; next <= cells+2; next++ {
				h.Log.Next = next
				if got := impl.HubOk(h); got != (next == count) {
					t.Errorf("%d cells, %d sectors, Next %d: HubOk is %v", cells, count, next, got)
				}
				if next == count {
					right++
					lookHubTake(t, "just that Next", h, tick)
				}
			}
		}
	}
	if right != 2+3+6 {
		t.Errorf("%d were right", right)
	}
}

// P13: Epoch at 0, 1, MaxEpoch and one beyond, whatever the log's own epochs.
func TestP13HubOkEpoch(t *testing.T) {
	for _, own := range []int{1, 2, 256, 15999999, 16000000} {
		for _, epoch := range []int{leastInt, -1, 0, 1, 2, 255, 65536, 15999999, 16000000, 16000001, 1<<24 + 1, 1<<32 + 1, greatestInt} {
			want := epoch >= 1 && epoch <= 16000000
			h := madeHub(logOf(laid(5, mark(0, 1), eventSector(1, own, deposit(7))), 2, epoch), nil, events(deposit(7)))
			if got := impl.HubOk(h); got != want {
				t.Errorf("Epoch %d over %d: HubOk is %v", epoch, own, got)
			}
			if want {
				lookHubTake(t, "over "+numberName(own), h, tick)
			}
		}
	}
}

// P13: every way to part the last of the log's events into Sent and Wait is right, and none that passes one over, or has one more.
func TestP13HubOkSentAndWait(t *testing.T) {
	h := laidHub(12, textsOf(history)...)
	all := saidAll(textsOf(history)...)
	right := 0
	for from := 0; from <= len(all); from++ {
		for sent := from; sent <= len(all); sent++ {
			for wait := from; wait <= len(all); wait++ {
				for to := wait; to <= len(all); to++ {
					h.Sent, h.Wait = all[from:sent], all[wait:to]
					told := slices.Concat(h.Sent, h.Wait)
					want := slices.Equal(told, all[len(all)-min(len(told), len(all)):])
					if got := impl.HubOk(h); got != want {
						t.Errorf("Sent %d to %d, Wait %d to %d: HubOk is %v", from, sent, wait, to, got)
					}
					if want {
						right++
					}
				}
			}
		}
	}
	if right < 8*9/2 {
		t.Errorf("%d were right: the test looks at too few", right)
	}
	for _, longer := range [][]impl.Event{slices.Concat(events(tick), all), slices.Concat(all, all), slices.Concat(events(impl.Event{}), all)} {
		for at := range longer {
			h.Sent, h.Wait = longer[:at], longer[at:]
			if impl.HubOk(h) {
				t.Errorf("%d sent and %d waiting of %d events: HubOk is true", at, len(longer)-at, len(all))
			}
		}
	}
}

// P13: hubs by chance, right ones and such with one thing changed, in all that may be done with them.
func TestP13HubByChance(t *testing.T) {
	d, right, wrong := dice(113), 0, 0
	for i := range 600 {
		m := moods()[i%len(moods())]
		h := d.hub(1+d.below(12), m)
		if !lookHub(t, "by chance", h, d.bookEvent(m, h.Book), d.bookEvent(m, h.Book)) {
			t.Fatalf("the tests' hub isn't right: %+v", briefly(h))
		}
		for range 3 {
			b := d.bent(h)
			if lookHub(t, "bent", b, d.bookEvent(m, h.Book)) {
				right++
			} else {
				wrong++
			}
		}
		if t.Failed() {
			t.FailNow()
		}
	}
	if min(right, wrong) < 100 {
		t.Errorf("of those bent %d right, %d wrong: the test looks at too few", right, wrong)
	}
}

// P13: a hub that nobody opened is right where it has a right disk that tells no sectors, an Epoch, and a new book; the first event comes to cell 0.
func TestP13HubNobodyOpened(t *testing.T) {
	for _, cells := range []int{1, 2, 600} {
		h, code := impl.HubTake(impl.Hub{Log: logOf(laid(cells), 0, 3), Book: impl.BookNew()}, deposit(5))
		want := logOf(waiting(laid(cells), 0, bytesOf(eventSector(0, 3, deposit(5)))), 1, 3)
		if code != 0 || !sameLog(h.Log, want) || h.Book.Wallet != 5 || !slices.Equal(h.Wait, events(deposit(5))) || !impl.HubOk(h) {
			t.Errorf("%d cells: code %d, %+v", cells, code, briefly(h))
		}
	}
	for name, h := range map[string]impl.Hub{
		"nothing":              {},
		"no book":              {Log: logOf(laid(4), 0, 1)},
		"no epoch":             {Log: logOf(laid(4), 0, 0), Book: impl.BookNew()},
		"no disk":              {Log: logOf(impl.Disk{}, 0, 1), Book: impl.BookNew()},
		"Next 1":               {Log: logOf(laid(4), 1, 1), Book: impl.BookNew()},
		"a ledger with a Last": {Log: logOf(laid(4), 0, 1), Book: impl.BookNew(), Ledger: ledger(1)},
		"something in Wait":    {Log: logOf(laid(4), 0, 1), Book: impl.BookNew(), Wait: events(tick)},
		"something in Sent":    {Log: logOf(laid(4), 0, 1), Book: impl.BookNew(), Sent: events(tick)},
		"a book with money":    {Log: logOf(laid(4), 0, 1), Book: impl.Book{Next: 1, Wallet: 5}},
	} {
		got, code := impl.HubTake(h, tick)
		if impl.HubOk(h) || code != 20 || !sameHub(got, impl.Hub{}) || !sameHub(impl.HubSync(h), impl.Hub{}) || !sameDisk(impl.HubCrash(h, []int{128}), impl.Disk{}) {
			t.Errorf("%s: HubOk is %v, HubTake has code %d", name, impl.HubOk(h), code)
		}
	}
}

// P13: by an Epoch below the log's own, or one that lets an older tail fit, the event is taken as the chapter says; what comes isn't right then.
func TestP13HubOfAnotherEpoch(t *testing.T) {
	low := madeHub(logOf(laid(5, mark(0, 7)), 1, 6), nil, nil)
	tail := madeHub(logOf(with(laid(5, mark(0, 2)), 2, eventSector(2, 9, tick)), 1, 3), nil, nil)
	for name, h := range map[string]impl.Hub{"below": low, "an older tail": tail} {
		lookHubTake(t, name, h, tick)
		got, code := impl.HubTake(h, tick)
		if code != 0 || !impl.HubOk(h) || impl.HubOk(got) {
			t.Errorf("%s: code %d, right %v and then %v", name, code, impl.HubOk(h), impl.HubOk(got))
		}
	}
}
