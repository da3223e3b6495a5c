package tests

import (
	"slices"
	"testing"

	"loop.example/g00400/impl"
)

// A hubLife is a hub that is played by chance, and beside it what it must have: the events, what each beginning of them makes, how many there were when it was opened, and how many are synced.
type hubLife struct {
	hub    impl.Hub
	events []impl.Event
	made   []ledgered
	opened int
	synced int
	cells  int
	seen   map[string]int
}

func newHubLife(t *testing.T, d impl.Disk, seen map[string]int) *hubLife {
	t.Helper()
	return &hubLife{hub: openedHub(t, d), made: []ledgered{{book: impl.BookNew()}}, cells: len(d.Cells), seen: seen}
}

// look wants the hub to be what it must.
func (x *hubLife) look(t *testing.T, behind string) {
	t.Helper()
	h, made := x.hub, x.made[len(x.events)]
	if !slices.Equal(h.Sent, x.events[x.opened:x.synced]) || !slices.Equal(h.Wait, x.events[x.synced:]) || len(h.Log.Disk.Dirty) != len(h.Wait) {
		t.Fatalf("behind %s: %+v; opened with %d, synced %d of %v", behind, briefly(h), x.opened, x.synced, x.events)
	}
	if !sameBook(h.Book, made.book) || !sameLedger(h.Ledger, made.ledger) || !impl.Agrees(h.Book, h.Ledger) {
		t.Fatalf("behind %s: %+v; want %+v", behind, briefly(h), made)
	}
	if !impl.HubOk(h) || !slices.Equal(impl.LogEvents(h.Log.Disk), x.events) {
		t.Fatalf("behind %s the hub isn't right, or its log tells %v; want %v", behind, impl.LogEvents(h.Log.Disk), x.events)
	}
	// What may be told to a peer is what outlives the worst crash.
	if found := impl.LogEvents(impl.HubCrash(h, nil)); !slices.Equal(found, x.events[:x.synced]) {
		t.Fatalf("behind %s the worst crash leaves %v; synced are %d of %v", behind, found, x.synced, x.events)
	}
}

func (x *hubLife) take(t *testing.T, e impl.Event) {
	t.Helper()
	at := x.made[len(x.events)]
	next, goes := at.wantNext(e)
	want := append(wantHolding(at.book, e), 0)[0]
	if want == 0 && x.hub.Log.Next == x.cells {
		want = 21
	} else if want == 0 && !goes {
		want = 22
	}
	was := copyOfHub(x.hub)
	h, code := impl.HubTake(x.hub, e)
	if code != want || !sameHub(x.hub, was) {
		t.Fatalf("HubTake of %+v has code %d; want %d", e, code, want)
	}
	x.seen["code "+impl.NumText(code)]++
	if code == 0 {
		x.hub, x.events, x.made = h, append(x.events, e), append(x.made, next)
	}
}

func (x *hubLife) sync() {
	x.hub, x.synced = impl.HubSync(x.hub), len(x.events)
	x.seen["sync"]++
}

// crash crashes and opens; false where the disk is full.
func (x *hubLife) crash(t *testing.T, keep []int) bool {
	t.Helper()
	after := impl.HubCrash(x.hub, keep)
	found := impl.LogEvents(after)
	if !isBeginning(found, x.events, x.synced) || len(found) != x.synced+cameWhole(x.hub.Log.Disk, after) {
		t.Fatalf("crashed with %v: %v of %v with %d synced", keep, found, x.events, x.synced)
	}
	x.seen["crash"]++
	if len(found) > x.synced && len(found) < len(x.events) {
		x.seen["crash, found some"]++
	}
	h, code := impl.HubOpen(after)
	if _, n := impl.LogRead(after); (code == 2) != (n == x.cells) || code != 0 && code != 2 {
		t.Fatalf("%d sectors are found, HubOpen has code %d", n, code)
	}
	if code != 0 {
		x.seen["full"]++
		return false
	}
	x.events, x.made, x.hub = found, x.made[:len(found)+1], h
	x.opened, x.synced = len(found), len(found)
	again, code := impl.HubOpen(h.Log.Disk)
	if code == 0 && (!sameBook(again.Book, h.Book) || !sameLedger(again.Ledger, h.Ledger) || !slices.Equal(impl.LogEvents(again.Log.Disk), found)) {
		t.Fatalf("opened twice: %+v; want %+v", briefly(again), briefly(h))
	}
	return true
}

// keep is by chance, for as many writes as wait, and fewer, and more.
func (d *dice) keep(writes int) []int {
	var l []int
	for range d.below(writes + 2) {
		l = append(l, []int{0, 1, 127, 128, 128, 128, 128, d.below(129), 129, -1}[d.below(10)])
	}
	return l
}

// step is one of what may be done; false where the disk is full behind a crash.
func (x *hubLife) step(t *testing.T, d *dice, m mood, busyness int) bool {
	t.Helper()
	switch n := d.below(busyness); {
	case n == 0:
		behind := x.crash(t, d.keep(len(x.hub.Wait)))
		x.look(t, "a crash")
		return behind
	case n == 1:
		x.sync()
		x.look(t, "a sync")
	default:
		x.take(t, d.bookEvent(m, x.made[len(x.events)].book))
		x.look(t, "a take")
	}
	return true
}

// P2 and P3: lives of many takes, syncs, crashes and openings on small disks, some with older runs on them.
func TestP2HubLives(t *testing.T) {
	d, seen := dice(21), map[string]int{}
	for i := range 250 {
		m, n := moods()[i%len(moods())], 2+d.below(50)
		disk := laid(n)
		if d.below(3) == 0 {
			disk = olderRun(t, n+3, []int{1, 2, 255, 256, 65535}[d.below(5)])
		}
		x := newHubLife(t, disk, seen)
		for _, e := range events(deposit(m.amt), impl.Event{Kind: impl.EvOpen, Ch: 1, Amt: m.amt / 2, Fee: m.amt / 3}, impl.Event{Kind: impl.EvOpen, Ch: 2, Amt: m.amt / 3}) {
			x.take(t, e)
		}
		for range 120 {
			if !x.step(t, &d, m, 10) {
				break
			}
		}
	}
	for _, what := range []string{"code 0", "code 1", "code 21", "code 22", "sync", "crash", "crash, found some", "full"} {
		if seen[what] < 20 {
			t.Errorf("%v: of %q too few", seen, what)
		}
	}
}

// P2 and P3: on great disks; in the first nothing is synced until the disk is full.
func TestP2HubLivesOnGreatDisks(t *testing.T) {
	d, seen := dice(22), map[string]int{}
	full := newHubLife(t, laid(600), seen)
	for seen["code 21"] == 0 {
		full.take(t, d.bookEvent(moods()[1], full.made[len(full.events)].book))
	}
	full.look(t, "all takes")
	if len(full.hub.Wait) != 599 {
		t.Errorf("%d events wait on a full disk", len(full.hub.Wait))
	}
	kept := *full
	full.sync()
	full.look(t, "the sync")
	for _, keep := range [][]int{slices.Repeat([]int{128}, 300), append(slices.Repeat([]int{128}, 598), 127), append(slices.Repeat([]int{128}, 100), slices.Repeat([]int{127, 128}, 250)...)} {
		x := kept
		x.made = slices.Clone(kept.made)
		if x.crash(t, keep) {
			x.look(t, "the crash")
		}
	}
	for i := range 3 {
		x := newHubLife(t, laid(600), seen)
		for range 300 {
			if !x.step(t, &d, moods()[i], 30) {
				break
			}
		}
	}
	if seen["crash"] < 10 || seen["code 0"] < 800 {
		t.Errorf("%v: the test looks at too few", seen)
	}
}

// P2: what a crash took away never comes back, however often there is one; what was let go stays.
func TestP2HubLostNeverComesBack(t *testing.T) {
	for _, keep := range [][]int{nil, {0, 128, 128, 128}, {127, 128, 128, 128}, {1, 128, 128}, {64, 127, 126, 128}} {
		h := openedHub(t, olderRun(t, 60, 1))
		var let []impl.Event
		for i := range 12 {
			h = hubTook(t, impl.HubSync(hubTook(t, h, deposit(1+i))), deposit(2000), deposit(2001), tick, deposit(2002))
			let = append(let, deposit(1+i))
			h = openedHub(t, impl.HubCrash(h, keep))
			if !lookMade(t, "behind a crash", h, let) {
				t.Fatalf("with %v kept each time", keep)
			}
		}
	}
}
