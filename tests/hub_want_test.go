package tests

import (
	"slices"
	"testing"

	"loop.example/g00400/impl"
)

// What the chapter says of the hub, by itself.

func wantDiskOk(d impl.Disk) bool {
	right := len(d.Cells) >= 1 && len(d.Cells) <= 600 && len(d.Dirty) <= 600
	for _, c := range d.Cells {
		right = right && (len(c.Bytes) == 0 || len(c.Bytes) == 128)
	}
	for _, w := range d.Dirty {
		right = right && w.At >= 0 && w.At < len(d.Cells) && len(w.Bytes) == 128
	}
	return right
}

// wantPosted is the ledger with the posting, if there is one; false where it doesn't go.
func wantPosted(l impl.Ledger, p impl.Posting) (impl.Ledger, bool) {
	if len(p.Lines) == 0 {
		return copyOfLedger(l), true
	}
	sums := map[impl.Acc]int{}
	for _, x := range slices.Concat(l.Lines, p.Lines) {
		sums[x.Acc] += x.Amt
	}
	got, goes := impl.Ledger{Last: p.Id}, p.Id > l.Last
	for _, a := range allAccs() {
		if sums[a] != 0 {
			got.Lines = append(got.Lines, line(a, sums[a]))
		}
		goes = goes && sums[a] >= -top && sums[a] <= top
	}
	return got, goes
}

// wantNext is what an event makes of a book and its ledger; false where one of them doesn't take it.
func (r ledgered) wantNext(e impl.Event) (ledgered, bool) {
	b, p, code := wantApply(r.book, e)
	l, goes := wantPosted(r.ledger, p)
	return ledgered{book: b, ledger: l}, code == 0 && goes
}

func wantMade(es []impl.Event) (ledgered, bool) {
	r := ledgered{book: impl.Book{Next: 1}}
	for _, e := range es {
		next, ok := r.wantNext(e)
		if !ok {
			return ledgered{}, false
		}
		r = next
	}
	return r, true
}

func wantHubOk(h impl.Hub) bool {
	l := h.Log
	if !wantDiskOk(l.Disk) || l.Next < 0 || l.Next > len(l.Disk.Cells) || l.Epoch < 1 || l.Epoch > 16000000 {
		return false
	}
	if len(wantLogRead(l.Disk)) != l.Next {
		return false
	}
	all, told := wantLogEvents(l.Disk), slices.Concat(h.Sent, h.Wait)
	if len(told) > len(all) || !slices.Equal(told, all[len(all)-len(told):]) {
		return false
	}
	made, ok := wantMade(all)
	return ok && sameBook(made.book, h.Book) && sameLedger(made.ledger, h.Ledger)
}

// wantOpening are all codes of HubOpen that hold, in the order in which they are looked for.
func wantOpening(d impl.Disk) []int {
	if !wantDiskOk(d) {
		return codes(1)
	}
	var l []int
	if len(d.Dirty) > 0 {
		l = append(l, 1)
	}
	if len(wantLogRead(d)) == len(d.Cells) || wantLogTop(d) == 16000000 {
		l = append(l, 2)
	}
	if _, ok := wantMade(wantLogEvents(d)); !ok {
		l = append(l, 3)
	}
	return l
}

func wantHubOpen(d impl.Disk) (impl.Hub, int) {
	if l := wantOpening(d); len(l) > 0 {
		return impl.Hub{}, l[0]
	}
	log, all, _ := wantLogOpen(d)
	made, _ := wantMade(all)
	return impl.Hub{Log: log, Book: made.book, Ledger: made.ledger}, 0
}

// wantTaking are all codes of HubTake that hold, in the order in which they are looked for.
func wantTaking(h impl.Hub, e impl.Event) []int {
	var l []int
	if !wantHubOk(h) {
		l = append(l, 20)
	}
	l = append(l, wantHolding(h.Book, e)...)
	if h.Log.Next == len(h.Log.Disk.Cells) || len(h.Log.Disk.Dirty) == 600 {
		l = append(l, 21)
	}
	_, p, code := wantApply(h.Book, e)
	if _, goes := wantPosted(h.Ledger, p); code == 0 && !goes {
		l = append(l, 22)
	}
	return l
}

func wantHubTake(h impl.Hub, e impl.Event) (impl.Hub, int) {
	if l := wantTaking(h, e); len(l) > 0 {
		return impl.Hub{}, l[0]
	}
	next, _ := ledgered{book: h.Book, ledger: h.Ledger}.wantNext(e)
	at := h.Log.Next
	log := logOf(waiting(h.Log.Disk, at, bytesOf(eventSector(at, h.Log.Epoch, e))), at+1, h.Log.Epoch)
	return impl.Hub{Log: log, Book: next.book, Ledger: next.ledger, Wait: slices.Concat(h.Wait, events(e)), Sent: h.Sent}, 0
}

func wantHubSync(h impl.Hub) impl.Hub {
	if !wantHubOk(h) {
		return impl.Hub{}
	}
	h.Log.Disk = wantSync(h.Log.Disk)
	h.Wait, h.Sent = nil, slices.Concat(h.Sent, h.Wait)
	return h
}

func wantHubCrash(h impl.Hub, keep []int) impl.Disk {
	if !wantHubOk(h) {
		return impl.Disk{}
	}
	return wantCrash(h.Log.Disk, keep)
}

// lookHubOpen holds HubOpen against what the tests reckon, twice, and tells its code.
func lookHubOpen(t *testing.T, name string, d impl.Disk) int {
	t.Helper()
	want, code := wantHubOpen(d)
	given := roomyDisk(d)
	for range 2 {
		got, c := impl.HubOpen(given)
		if !sameHub(got, want) || c != code {
			t.Errorf("%s: HubOpen has code %d, %+v; want %d, %+v", name, c, briefly(got), code, briefly(want))
		}
		if c == 0 && !impl.HubOk(got) {
			t.Errorf("%s: what HubOpen tells isn't right", name)
		}
		if blotHub(got); !sameDisk(allOfDisk(given), allOfDisk(roomyDisk(d))) {
			t.Fatalf("%s: HubOpen changes or shares the disk", name)
		}
	}
	return code
}

// lookHubTake holds HubTake against what the tests reckon, twice, and tells its code.
func lookHubTake(t *testing.T, name string, h impl.Hub, e impl.Event) int {
	t.Helper()
	want, code := wantHubTake(h, e)
	given := roomyHub(h)
	for range 2 {
		got, c := impl.HubTake(given, e)
		if !sameHub(got, want) || c != code {
			t.Errorf("%s: HubTake of %+v has code %d, %+v; want %d, %+v", name, e, c, briefly(got), code, briefly(want))
		}
		if blotHub(got); !sameHub(allOfHub(given), allOfHub(roomyHub(h))) {
			t.Fatalf("%s: HubTake of %+v changes or shares the hub", name, e)
		}
	}
	return code
}

// lookHubStays holds what takes nothing, HubOk, HubSync and HubCrash, against what the tests reckon, twice, and tells whether the hub is right.
func lookHubStays(t *testing.T, name string, h impl.Hub, keeps ...[]int) bool {
	t.Helper()
	right, synced := wantHubOk(h), wantHubSync(h)
	given, was := roomyHub(h), allOfHub(roomyHub(h))
	for range 2 {
		if got := impl.HubOk(given); got != right {
			t.Errorf("%s: HubOk = %v of %+v", name, got, briefly(h))
		}
		got := impl.HubSync(given)
		if !sameHub(got, synced) || right && !impl.HubOk(got) {
			t.Errorf("%s: HubSync = %+v; want %+v", name, briefly(got), briefly(synced))
		}
		blotHub(got)
		for _, keep := range keeps {
			was := slices.Clone(keep)
			got := impl.HubCrash(given, keep)
			if !sameDisk(got, wantHubCrash(h, keep)) || !slices.Equal(keep, was) {
				t.Errorf("%s: HubCrash with %v is another one: %d cells", name, was, len(got.Cells))
			}
			blotDisk(got)
		}
		if !sameHub(allOfHub(given), was) {
			t.Fatalf("%s: the hub is changed or shared", name)
		}
	}
	return right
}

// A brief is what is worth telling of a hub: a disk is long.
type brief struct {
	cells, dirty, next, epoch int
	book                      impl.Book
	ledger                    impl.Ledger
	wait, sent                []impl.Event
}

func briefly(h impl.Hub) brief {
	return brief{len(h.Log.Disk.Cells), len(h.Log.Disk.Dirty), h.Log.Next, h.Log.Epoch, h.Book, h.Ledger, h.Wait, h.Sent}
}
