package tests

import (
	"slices"
	"testing"

	"loop.example/g00400/impl"
)

// rowDisk has n cells, in them a mark and the texts' events.
func rowDisk(n int, texts ...string) impl.Disk {
	sectors := []impl.Sector{mark(0, 1)}
	for i, e := range saidAll(texts...) {
		sectors = append(sectors, eventSector(i+1, 1, e))
	}
	return laid(n, sectors...)
}

// P13: each code of HubOpen, and of several that hold the first.
func TestP13HubOpenCodes(t *testing.T) {
	past := append(textsOf(vastHistory), "deposit 1")
	full := func(texts ...string) impl.Disk { return rowDisk(len(texts)+1, texts...) }
	wet := func(d impl.Disk) impl.Disk { return waiting(d, 0, d.Cells[0].Bytes) }
	late := func(d impl.Disk) impl.Disk { return with(d, len(d.Cells)-1, mark(len(d.Cells)-1, 16000000)) }
	for name, c := range map[string]struct {
		d     impl.Disk
		codes []int
	}{
		"new":                               {laid(4), nil},
		"one cell":                          {laid(1), nil},
		"a history":                         {rowDisk(9, textsOf(history)...), nil},
		"vast":                              {rowDisk(4, textsOf(vastHistory)...), nil},
		"nothing":                           {impl.Disk{}, codes(1)},
		"something waits":                   {wet(rowDisk(9, textsOf(history)...)), codes(1)},
		"full":                              {full(textsOf(history)...), codes(2)},
		"MaxEpoch":                          {late(rowDisk(9, "tick")), codes(2)},
		"no such channel":                   {rowDisk(9, "deposit 5", "price 1 1 1"), codes(3)},
		"the first is refused":              {rowDisk(9, "fulfill 7"), codes(3)},
		"the last is refused":               {rowDisk(9, "tick", "deposit 5", "open 1 6 0"), codes(3)},
		"one between is refused":            {rowDisk(9, "deposit 5", "open 1 6 0", "tick"), codes(3)},
		"Wallet past its end":               {rowDisk(9, "deposit 1125899906842624", "deposit 1"), codes(3)},
		"a posting doesn't go":              {rowDisk(9, past...), codes(3)},
		"a posting doesn't go, more behind": {rowDisk(9, append(past, "tick", "close 1 0")...), codes(3)},
		"refused, waits":                    {wet(rowDisk(9, "fulfill 7")), codes(1, 3)},
		"refused, waits, full":              {wet(full("fulfill 7")), codes(1, 2, 3)},
		"waits, full":                       {wet(full("tick")), codes(1, 2)},
		"refused, full":                     {full("deposit 5", "open 1 6 0"), codes(2, 3)},
		"refused, MaxEpoch":                 {late(rowDisk(9, "fulfill 7")), codes(2, 3)},
		"doesn't go, full":                  {full(past...), codes(2, 3)},
		"doesn't go, MaxEpoch":              {late(rowDisk(9, past...)), codes(2, 3)},
		"doesn't go, waits":                 {wet(rowDisk(9, past...)), codes(1, 3)},
		"refused behind a gap":              {with(rowDisk(9, "tick"), 3, eventSector(3, 1, said("fulfill 7"))), nil},
		"refused in an older epoch":         {with(laid(9, mark(0, 2)), 1, eventSector(1, 1, said("fulfill 7"))), nil},
		"refused, but torn":                 {with(rowDisk(9, "tick"), 2, sector(2, 1, rawBody(said("fulfill 7"))[:21])), nil},
	} {
		if l := wantOpening(c.d); !slices.Equal(l, c.codes) {
			t.Errorf("%s: the tests reckon that %v hold, told is %v", name, l, c.codes)
		}
		code := lookHubOpen(t, name, c.d)
		if want := append(c.codes, 0)[0]; code != want {
			t.Errorf("%s: HubOpen has code %d; want %d", name, code, want)
		}
	}
}

// P13: what HubOpen tells of a history, told out.
func TestP13HubOpen(t *testing.T) {
	d := rowDisk(10, textsOf(history)...)
	h, code := impl.HubOpen(d)
	book := impl.Book{Tick: 1, Next: 6, Wallet: 400,
		Chans:   chans(impl.Chan{Id: 1, Size: 500, Local: 200, Remote: 162}, impl.Chan{Id: 2, Size: 500, Local: 266, Remote: 100, Base: 1, Ppm: 50000}),
		Htlcs:   htlcs(impl.Htlc{Key: 7, In: 1, Out: 2, AmtIn: 108, AmtOut: 101, Age: 1}),
		Circles: circles(circle(8, 2, 1, 30, 3))}
	l := ledger(5, line(wallet, 400), line(equity, -1000), line(local(1), 200), line(local(2), 266), line(underOut(2), 134))
	if code != 0 || !sameBook(h.Book, book) || !sameLedger(h.Ledger, l) || len(h.Wait) > 0 || len(h.Sent) > 0 {
		t.Errorf("HubOpen has code %d: %+v", code, briefly(h))
	}
	if !sameLog(h.Log, logOf(with(d, 8, mark(8, 2)), 9, 2)) || !impl.Agrees(h.Book, h.Ledger) {
		t.Errorf("the log has Next %d and Epoch %d", h.Log.Next, h.Log.Epoch)
	}
}

// P13: every disk of the earlier chapters, right and wrong.
func TestP13HubOpenEachDisk(t *testing.T) {
	seen := map[int]int{}
	for name, d := range allDisks() {
		seen[lookHubOpen(t, name, d)]++
	}
	for name, d := range wrongDisks() {
		if code := lookHubOpen(t, name, d); code != 1 {
			t.Errorf("%s: code %d", name, code)
		}
	}
	for name, h := range rightHubs() {
		seen[lookHubOpen(t, name, h.Log.Disk)]++
		seen[lookHubOpen(t, name+", synced", wantSync(h.Log.Disk))]++
	}
	for name, h := range wrongHubs() {
		seen[lookHubOpen(t, name, h.Log.Disk)]++
	}
	if min(seen[0], seen[1], seen[2]) < 5 || seen[3] == 0 {
		t.Errorf("codes %v: the test looks at too few", seen)
	}
}

// P13: disks by chance: those of the log's tests, and rows of events that the book takes mostly.
func TestP13HubOpenByChance(t *testing.T) {
	d, seen := dice(111), map[int]int{}
	for range 3000 {
		seen[lookHubOpen(t, "of the log", d.logDisk())]++
	}
	for i := range 1000 {
		disk := d.hub(2+d.below(14), moods()[i%len(moods())]).Log.Disk
		if d.below(4) > 0 {
			disk = wantSync(disk)
		}
		if d.below(3) == 0 {
			at := d.below(len(disk.Cells))
			disk = with(disk, at, eventSector(at, 20, d.bookEvent(moods()[i%len(moods())], busy())))
		}
		seen[lookHubOpen(t, "of a hub", disk)]++
	}
	for code := range 4 {
		if seen[code] < 50 {
			t.Errorf("codes %v: the test looks at too few", seen)
		}
	}
}
