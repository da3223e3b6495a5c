package tests

import (
	"maps"
	"slices"
	"strings"

	"loop.example/g00400/impl"
)

// madeHub has the book and the ledger that the log's events make.
func madeHub(l impl.Log, sent []impl.Event, wait []impl.Event) impl.Hub {
	made, ok := wantMade(wantLogEvents(l.Disk))
	if !ok {
		panic("the log's events make no book and ledger")
	}
	return impl.Hub{Log: l, Book: made.book, Ledger: made.ledger, Wait: wait, Sent: sent}
}

// laidHub has n cells and in them a mark and the texts' events, all of them in Sent.
func laidHub(n int, texts ...string) impl.Hub {
	es := saidAll(texts...)
	sectors := []impl.Sector{mark(0, 1)}
	for i, e := range es {
		sectors = append(sectors, eventSector(i+1, 1, e))
	}
	return madeHub(logOf(laid(n, sectors...), len(sectors), 1), es, nil)
}

// waitingHub is laidHub with all behind the mark in Wait.
func waitingHub(n int, texts ...string) impl.Hub {
	h := laidHub(n, texts...)
	for at := 1; at < h.Log.Next; at++ {
		h.Log.Disk = waiting(h.Log.Disk, at, h.Log.Disk.Cells[at].Bytes)
		h.Log.Disk.Cells[at] = impl.Cell{}
	}
	h.Wait, h.Sent = h.Sent, nil
	return h
}

// history makes two channels, with something under way in both.
const history = "deposit 1000|open 1 200 300|open 2 400 100|price 2 1 50000|admit 7 1 2 101 no|launch 8 2 1 30 3|tick"

// vastHistory has put in as much as one account can have; the wallet is empty all the same.
const vastHistory = "deposit 1125899906842624|open 1 1125899906842624 0"

func textsOf(s string) []string { return strings.Split(s, "|") }

// twiceOpened is a hub of 12 cells with the history, opened again behind the third event; the last two of it wait.
func twiceOpened() impl.Hub {
	es := saidAll(textsOf(history)...)
	d := laid(12, mark(0, 1), eventSector(1, 1, es[0]), eventSector(2, 1, es[1]), eventSector(3, 1, es[2]), mark(4, 2), eventSector(5, 2, es[3]), eventSector(6, 2, es[4]))
	d = waiting(waiting(d, 7, bytesOf(eventSector(7, 2, es[5]))), 8, bytesOf(eventSector(8, 2, es[6])))
	return madeHub(logOf(d, 9, 2), es[3:5], es[5:])
}

// tickedHub has a log of that many cells, all but the first with ticks.
func tickedHub(n int) impl.Hub { return laidHub(n, slices.Repeat([]string{"tick"}, n-1)...) }

// freshHub is one that nobody opened.
func freshHub(n int) impl.Hub { return madeHub(logOf(laid(n), 0, 1), nil, nil) }

// crowdedDisk is the hub with as many writes in Dirty as there may be; they come to a cell behind the log, in which no sector is read.
func crowdedDisk(h impl.Hub) impl.Hub {
	return changedHub(h, func(h *impl.Hub) {
		d := &h.Log.Disk
		for len(d.Dirty) < 600 {
			d.Dirty = append(d.Dirty, write(len(d.Cells)-1, run(len(d.Dirty), 128)))
		}
	})
}

// lessCrowded is h without the last write.
func lessCrowded(h impl.Hub) impl.Hub {
	return changedHub(h, func(h *impl.Hub) { h.Log.Disk.Dirty = h.Log.Disk.Dirty[:len(h.Log.Disk.Dirty)-1] })
}

// rightHubs are right, each at some edge of the chapter.
func rightHubs() map[string]impl.Hub {
	h := twiceOpened()
	all := wantLogEvents(h.Log.Disk)
	hub := func(change func(h *impl.Hub)) impl.Hub { return changedHub(h, change) }
	remade := func(change func(d *impl.Disk)) impl.Hub {
		d := copyOfDisk(h.Log.Disk)
		change(&d)
		return madeHub(logOf(d, len(wantLogRead(d)), 2), nil, nil)
	}
	return map[string]impl.Hub{
		"twice opened":                h,
		"nobody opened it":            freshHub(4),
		"nobody opened it, one cell":  freshHub(1),
		"nobody opened it, MaxEpoch":  changedHub(freshHub(4), func(h *impl.Hub) { h.Log.Epoch = 16000000 }),
		"nobody opened it, not nil":   changedHub(freshHub(4), notNil),
		"MaxSectors cells":            freshHub(600),
		"just opened":                 laidHub(4),
		"just opened, not nil":        changedHub(laidHub(4), notNil),
		"just opened, full":           laidHub(1),
		"sent":                        laidHub(12, textsOf(history)...),
		"waits":                       waitingHub(12, textsOf(history)...),
		"waits, full":                 waitingHub(8, textsOf(history)...),
		"sent, full":                  laidHub(8, textsOf(history)...),
		"one cell left":               laidHub(9, textsOf(history)...),
		"vast":                        laidHub(5, textsOf(vastHistory)...),
		"MaxSectors sectors":          tickedHub(600),
		"MaxDirty writes":             crowdedDisk(h),
		"MaxDirty less 1 writes":      lessCrowded(crowdedDisk(h)),
		"Epoch 1":                     hub(func(h *impl.Hub) { h.Log.Epoch = 1 }),
		"Epoch above":                 hub(func(h *impl.Hub) { h.Log.Epoch = 77 }),
		"Epoch MaxEpoch less 1":       hub(func(h *impl.Hub) { h.Log.Epoch = 15999999 }),
		"Epoch MaxEpoch":              hub(func(h *impl.Hub) { h.Log.Epoch = 16000000 }),
		"Sent is less":                hub(func(h *impl.Hub) { h.Sent = all[4:5] }),
		"Sent is nothing":             hub(func(h *impl.Hub) { h.Sent = nil }),
		"Sent has older ones":         hub(func(h *impl.Hub) { h.Sent = all[1:5] }),
		"Sent has all":                hub(func(h *impl.Hub) { h.Sent = all[:5] }),
		"all sent, nothing waits":     hub(func(h *impl.Hub) { h.Sent, h.Wait = all, nil }),
		"all of Sent waits":           hub(func(h *impl.Hub) { h.Sent, h.Wait = nil, all[3:] }),
		"one of Sent waits":           hub(func(h *impl.Hub) { h.Sent, h.Wait = all[3:4], all[4:] }),
		"one that waits is sent":      hub(func(h *impl.Hub) { h.Sent, h.Wait = all[3:6], all[6:] }),
		"all waits":                   hub(func(h *impl.Hub) { h.Sent, h.Wait = nil, all }),
		"nothing waits, nothing sent": hub(func(h *impl.Hub) { h.Sent, h.Wait = nil, nil }),
		"all in Dirty":                remade(func(d *impl.Disk) { *d = allDirty(*d) }),
		"synced":                      remade(func(d *impl.Disk) { *d = wantSync(*d) }),
		"the last write counts":       remade(func(d *impl.Disk) { d.Dirty = append([]impl.Write{write(7, run(1, 128))}, d.Dirty...) }),
		"a body of no event":          remade(func(d *impl.Disk) { d.Cells[6].Bytes = bytesOf(sector(6, 2, run(1, 22))) }),
		"a body of 100 bytes":         remade(func(d *impl.Disk) { d.Cells[6].Bytes = bytesOf(sector(6, 2, run(1, 100))) }),
		"no marks": remade(func(d *impl.Disk) {
			d.Cells[0].Bytes, d.Cells[4].Bytes = bytesOf(sector(0, 1, nil)), bytesOf(sector(4, 1, nil))
		}),
		"a tail of an older run":   remade(func(d *impl.Disk) { d.Cells[9].Bytes = bytesOf(eventSector(9, 1, deposit(5))) }),
		"a tail behind a gap":      remade(func(d *impl.Disk) { d.Cells[10].Bytes = bytesOf(eventSector(10, 9, deposit(5))) }),
		"a torn tail":              remade(func(d *impl.Disk) { d.Cells[9].Bytes = append(bytesOf(eventSector(9, 2, tick))[:127], 9) }),
		"ended in the middle":      remade(func(d *impl.Disk) { d.Cells[5].Bytes = nil }),
		"of a tail of another Seq": remade(func(d *impl.Disk) { d.Cells[9].Bytes = bytesOf(eventSector(10, 2, tick)) }),
	}
}

// eachHub goes through hubs by their names, so that what chance makes beside them is the same in every run.
func eachHub(hubs map[string]impl.Hub, look func(name string, h impl.Hub)) {
	for _, name := range slices.Sorted(maps.Keys(hubs)) {
		look(name, hubs[name])
	}
}

// notNil makes each list that is nil an empty one.
func notNil(h *impl.Hub) {
	h.Log.Disk.Dirty = append([]impl.Write{}, h.Log.Disk.Dirty...)
	h.Book.Chans, h.Book.Htlcs, h.Book.Circles = []impl.Chan{}, []impl.Htlc{}, []impl.Circle{}
	h.Ledger.Lines, h.Wait, h.Sent = []impl.Line{}, []impl.Event{}, []impl.Event{}
	for i := range h.Log.Disk.Cells {
		h.Log.Disk.Cells[i].Bytes = append([]byte{}, h.Log.Disk.Cells[i].Bytes...)
	}
}

// allDirty has what is in the cells of d wait, ahead of what waits already.
func allDirty(d impl.Disk) impl.Disk {
	all := impl.Disk{Cells: make([]impl.Cell, len(d.Cells))}
	for at, c := range d.Cells {
		if len(c.Bytes) > 0 {
			all.Dirty = append(all.Dirty, write(at, c.Bytes))
		}
	}
	all.Dirty = append(all.Dirty, d.Dirty...)
	return all
}

// wrongHubs are wrong in one thing each, but for that they are right.
func wrongHubs() map[string]impl.Hub {
	wrong := map[string]impl.Hub{
		"nothing":                 {},
		"nothing but a book":      {Book: impl.BookNew()},
		"nothing but a disk":      {Log: logOf(laid(4), 0, 0)},
		"no book":                 {Log: logOf(laid(4), 0, 1)},
		"a disk that isn't right": {Log: logOf(impl.Disk{}, 0, 1), Book: impl.BookNew()},
		"an event is refused":     skipping(laid(9), "deposit 10", "open 1 11 0", "open 2 5 5"),
		"a posting doesn't go":    skipping(laid(9), append(textsOf(vastHistory), "deposit 1", "tick")...),
		"the last one is refused": skipping(laid(9), "deposit 10", "tick", "fulfill 7"),
	}
	for name, d := range wrongDisks() {
		for _, next := range []int{0, len(d.Cells)} {
			wrong["disk: "+name+", Next "+impl.NumText(next)] = impl.Hub{Log: logOf(d, next, 1), Book: impl.BookNew()}
		}
	}
	for name, change := range wrongHubChanges() {
		wrong[name] = changedHub(twiceOpened(), change)
	}
	for name, change := range wrongHubLists() {
		wrong[name] = changedHub(twiceOpened(), change)
	}
	return wrong
}

// skipping has a log of these events, and the book and the ledger that they make where what isn't taken is passed over.
func skipping(d impl.Disk, texts ...string) impl.Hub {
	es := saidAll(texts...)
	made := ledgered{book: impl.BookNew()}
	for at, e := range es {
		d = with(d, at, eventSector(at, 1, e))
		b, p, code := wantApply(made.book, e)
		if code != 0 {
			continue
		}
		made.book = b
		if l, goes := wantPosted(made.ledger, p); goes {
			made.ledger = l
		}
	}
	return impl.Hub{Log: logOf(d, len(es), 1), Book: made.book, Ledger: made.ledger}
}

func wrongHubChanges() map[string]func(h *impl.Hub) {
	wrong := map[string]func(h *impl.Hub){
		"the log tells one more": func(h *impl.Hub) {
			h.Log.Disk = with(h.Log.Disk, 9, mark(9, 2))
		},
		"the log tells one more that waits": func(h *impl.Hub) {
			h.Log.Disk = waiting(h.Log.Disk, 9, bytesOf(mark(9, 2)))
		},
		"the log tells one less": func(h *impl.Hub) {
			h.Log.Disk = waiting(h.Log.Disk, 8, bytesOf(eventSector(8, 1, tick)))
		},
		"the log tells nothing": func(h *impl.Hub) { h.Log.Disk.Cells[0].Bytes[127]++ },
		"the log's event is another one": func(h *impl.Hub) {
			h.Log.Disk = waiting(h.Log.Disk, 1, bytesOf(eventSector(1, 1, deposit(1001))))
		},
		"the book is new":        func(h *impl.Hub) { h.Book = impl.BookNew() },
		"the book is nothing":    func(h *impl.Hub) { h.Book = impl.Book{} },
		"the book is one behind": func(h *impl.Hub) { h.Book.Tick, h.Book.Htlcs[0].Age = 0, 0 },
		"a payment is kept":      func(h *impl.Hub) { h.Book.Htlcs[0].Kept = true },
		"a payment is gone":      func(h *impl.Hub) { h.Book.Htlcs = nil; h.Book = sized(h.Book) },
		"a circle is gone":       func(h *impl.Hub) { h.Book.Circles = nil; h.Book = sized(h.Book) },
		"a channel more":         func(h *impl.Hub) { h.Book.Chans = append(h.Book.Chans, peer(3, 0, 0)) },
		"a payment more":         func(h *impl.Hub) { h.Book.Htlcs = append(h.Book.Htlcs, pay(9, 1, 2, 1, 1)); h.Book = sized(h.Book) },
		"a circle more": func(h *impl.Hub) {
			h.Book.Circles = append(h.Book.Circles, circle(9, 1, 2, 1, 0))
			h.Book = sized(h.Book)
		},
		"channels fall":              func(h *impl.Hub) { slices.Reverse(h.Book.Chans) },
		"the ledger is nothing":      func(h *impl.Hub) { h.Ledger = impl.Ledger{} },
		"the ledger has no lines":    func(h *impl.Hub) { h.Ledger.Lines = nil },
		"the ledger has a line less": func(h *impl.Hub) { h.Ledger.Lines = h.Ledger.Lines[1:] },
		"the ledger has the last line less": func(h *impl.Hub) {
			h.Ledger.Lines = h.Ledger.Lines[:len(h.Ledger.Lines)-1]
		},
		"the ledger has two lines more": func(h *impl.Hub) {
			h.Ledger.Lines = append(h.Ledger.Lines, line(underOut(98), 1), line(underOut(99), -1))
		},
		"the ledger's lines fall": func(h *impl.Hub) { slices.Reverse(h.Ledger.Lines) },
		"the ledger has one more in two lines": func(h *impl.Hub) {
			h.Ledger.Lines[0].Amt++
			h.Ledger.Lines[1].Amt--
		},
		"the ledger has a line of 0": func(h *impl.Hub) { h.Ledger.Lines = append(h.Ledger.Lines, line(underOut(99), 0)) },
		"the ledger of another Last": func(h *impl.Hub) { h.Ledger.Last++ },
	}
	for _, n := range []int{leastInt, -1, 0, 1, 8, 10, 11, 12, 13, 600, 601, greatestInt} {
		wrong["Next "+numberName(n)] = func(h *impl.Hub) { h.Log.Next = n }
	}
	for _, n := range []int{leastInt, -1, 0, 16000001, 1 << 24, greatestInt} {
		wrong["Epoch "+numberName(n)] = func(h *impl.Hub) { h.Log.Epoch = n }
	}
	return wrong
}

func numberName(n int) string {
	switch n {
	case leastInt:
		return "the least int"
	case greatestInt:
		return "the greatest int"
	}
	return impl.NumText(n)
}

// wrongHubLists change Wait and Sent by one event.
func wrongHubLists() map[string]func(h *impl.Hub) {
	all := saidAll(textsOf(history)...)
	return map[string]func(h *impl.Hub){
		"Wait without its last":            func(h *impl.Hub) { h.Wait = h.Wait[:1] },
		"Wait without its first":           func(h *impl.Hub) { h.Wait = h.Wait[1:] },
		"Wait is nothing":                  func(h *impl.Hub) { h.Wait = nil },
		"Wait is nothing, and empty":       func(h *impl.Hub) { h.Wait = events() },
		"Wait turned round":                func(h *impl.Hub) { slices.Reverse(h.Wait) },
		"Wait has its last twice":          func(h *impl.Hub) { h.Wait = append(h.Wait, h.Wait[1]) },
		"Wait has its first twice":         func(h *impl.Hub) { h.Wait = slices.Insert(h.Wait, 0, h.Wait[0]) },
		"Wait has one more":                func(h *impl.Hub) { h.Wait = append(h.Wait, deposit(5)) },
		"Wait has no event behind":         func(h *impl.Hub) { h.Wait = append(h.Wait, impl.Event{}) },
		"Wait of another Key":              func(h *impl.Hub) { h.Wait[0].Key++ },
		"Wait of another kind":             func(h *impl.Hub) { h.Wait[1].Kind = impl.EvDeposit },
		"Wait of another Ch":               func(h *impl.Hub) { h.Wait[0].Ch++ },
		"Wait of another To":               func(h *impl.Hub) { h.Wait[0].To++ },
		"Wait of another Amt":              func(h *impl.Hub) { h.Wait[0].Amt-- },
		"Wait of another Fee":              func(h *impl.Hub) { h.Wait[0].Fee-- },
		"Wait with Yes":                    func(h *impl.Hub) { h.Wait[1].Yes = true },
		"Wait and Sent exchanged":          func(h *impl.Hub) { h.Wait, h.Sent = h.Sent, h.Wait },
		"Sent without its last":            func(h *impl.Hub) { h.Sent = h.Sent[:1] },
		"Sent turned round":                func(h *impl.Hub) { slices.Reverse(h.Sent) },
		"Sent has its last twice":          func(h *impl.Hub) { h.Sent = append(h.Sent, h.Sent[1]) },
		"Sent has the first of Wait too":   func(h *impl.Hub) { h.Sent = append(h.Sent, h.Wait[0]) },
		"Sent has another one ahead":       func(h *impl.Hub) { h.Sent = slices.Insert(h.Sent, 0, deposit(5)) },
		"Sent has no event ahead":          func(h *impl.Hub) { h.Sent = slices.Insert(h.Sent, 0, impl.Event{}) },
		"Sent with Yes":                    func(h *impl.Hub) { h.Sent[1].Yes = true },
		"Sent of another Amt":              func(h *impl.Hub) { h.Sent[1].Amt++ },
		"Sent has one more than all":       func(h *impl.Hub) { h.Sent = slices.Concat(events(tick), all[:5]) },
		"Sent has all, Wait too":           func(h *impl.Hub) { h.Sent, h.Wait = all, all },
		"Wait has one more than all":       func(h *impl.Hub) { h.Sent, h.Wait = nil, slices.Concat(events(tick), all) },
		"Sent has all, Wait its last":      func(h *impl.Hub) { h.Sent, h.Wait = all, all[6:] },
		"Sent is long":                     func(h *impl.Hub) { h.Sent = slices.Repeat(events(tick), 5000) },
		"Wait is long":                     func(h *impl.Hub) { h.Wait = slices.Repeat(events(tick), 5000) },
		"Sent and Wait of an older time":   func(h *impl.Hub) { h.Sent, h.Wait = all[2:4], all[4:6] },
		"Sent is right, Wait is the older": func(h *impl.Hub) { h.Wait = all[:2] },
	}
}
