package tests

import (
	"slices"

	"loop.example/g00400/impl"
)

// The fields that the chapter gives a hub, and no other: without them this isn't built.
var _ = struct {
	Log    impl.Log
	Book   impl.Book
	Ledger impl.Ledger
	Wait   []impl.Event
	Sent   []impl.Event
}(impl.Hub{})

func events(l ...impl.Event) []impl.Event { return l }

func sameHub(a impl.Hub, b impl.Hub) bool {
	return sameLog(a.Log, b.Log) && sameBook(a.Book, b.Book) && sameLedger(a.Ledger, b.Ledger) &&
		slices.Equal(a.Wait, b.Wait) && slices.Equal(a.Sent, b.Sent)
}

func copyOfHub(h impl.Hub) impl.Hub {
	h.Log.Disk, h.Book, h.Ledger = copyOfDisk(h.Log.Disk), copyOfBook(h.Book), copyOfLedger(h.Ledger)
	h.Wait, h.Sent = slices.Clone(h.Wait), slices.Clone(h.Sent)
	return h
}

// changedHub is h with one thing changed.
func changedHub(h impl.Hub, change func(h *impl.Hub)) impl.Hub {
	h = copyOfHub(h)
	change(&h)
	return h
}

var spareEvent = impl.Event{Kind: -7, Key: -7}

// roomyHub is h with spare room behind each of its lists, in which something stands.
func roomyHub(h impl.Hub) impl.Hub {
	h = copyOfHub(h)
	h.Log.Disk = roomyDisk(h.Log.Disk)
	h.Book = roomy(h.Book)
	h.Ledger.Lines = withSpare(h.Ledger.Lines, line(wallet, -7))
	h.Wait, h.Sent = withSpare(h.Wait, spareEvent), withSpare(h.Sent, spareEvent)
	return h
}

// roomyDisk is a copy of d, likewise.
func roomyDisk(d impl.Disk) impl.Disk {
	d = copyOfDisk(d)
	for i, c := range d.Cells {
		d.Cells[i].Bytes = withSpare(c.Bytes, 7)
	}
	for i, w := range d.Dirty {
		d.Dirty[i].Bytes = withSpare(w.Bytes, 7)
	}
	d.Cells, d.Dirty = withSpare(d.Cells, cell([]byte{7})), withSpare(d.Dirty, write(-7, []byte{7}))
	return d
}

// allOfHub is h with the spare room counted in.
func allOfHub(h impl.Hub) impl.Hub {
	h.Log.Disk = allOfDisk(h.Log.Disk)
	b := h.Book
	b.Chans, b.Htlcs, b.Circles = b.Chans[:cap(b.Chans)], b.Htlcs[:cap(b.Htlcs)], b.Circles[:cap(b.Circles)]
	h.Book, h.Ledger.Lines = b, h.Ledger.Lines[:cap(h.Ledger.Lines)]
	h.Wait, h.Sent = h.Wait[:cap(h.Wait)], h.Sent[:cap(h.Sent)]
	return h
}

func allOfDisk(d impl.Disk) impl.Disk {
	all := impl.Disk{}
	for _, c := range d.Cells[:cap(d.Cells)] {
		all.Cells = append(all.Cells, cell(c.Bytes[:cap(c.Bytes)]))
	}
	for _, w := range d.Dirty[:cap(d.Dirty)] {
		all.Dirty = append(all.Dirty, write(w.At, w.Bytes[:cap(w.Bytes)]))
	}
	return all
}

// hubLists has for each list of a hub what writes over it, spare room too.
func hubLists(h impl.Hub) []func() {
	l := []func(){
		func() { blotList(h.Book.Chans, peer(-3, -3, -3)) },
		func() { blotList(h.Book.Htlcs, pay(-3, -3, -3, -3, -3)) },
		func() { blotList(h.Book.Circles, circle(-3, -3, -3, -3, -3)) },
		func() { blotList(h.Ledger.Lines, line(chain, -3)) },
		func() { blotList(h.Wait, impl.Event{Kind: -3}) },
		func() { blotList(h.Sent, impl.Event{Kind: -3}) },
	}
	// The bytes come ahead of the lists that hold them.
	for _, c := range h.Log.Disk.Cells {
		l = append(l, func() { blot(c.Bytes) })
	}
	for _, w := range h.Log.Disk.Dirty {
		l = append(l, func() { blot(w.Bytes) })
	}
	return append(l, func() { blotList(h.Log.Disk.Cells, cell([]byte{3})) }, func() { blotList(h.Log.Disk.Dirty, write(-3, nil)) })
}

func blotHub(h impl.Hub) {
	for _, blotOne := range hubLists(h) {
		blotOne()
	}
}

// hubApart tells whether each list of h is alone in its memory: in what is written over it another one can't be found. It spoils h.
func hubApart(h impl.Hub) bool {
	for i, blotOne := range hubLists(h) {
		was := copyOfHub(h)
		blotOne()
		if !sameHub(withoutList(h, i), withoutList(was, i)) {
			return false
		}
	}
	return true
}

// withoutList is h without the list that hubLists has at that place.
func withoutList(h impl.Hub, i int) impl.Hub {
	h = copyOfHub(h)
	lists := []func(){
		func() { h.Book.Chans = nil }, func() { h.Book.Htlcs = nil }, func() { h.Book.Circles = nil },
		func() { h.Ledger.Lines = nil }, func() { h.Wait = nil }, func() { h.Sent = nil },
	}
	cells, dirty := len(h.Log.Disk.Cells), len(h.Log.Disk.Dirty)
	switch at := i - len(lists); {
	case at < 0:
		lists[i]()
	case at < cells:
		h.Log.Disk.Cells[at] = impl.Cell{}
	case at < cells+dirty:
		h.Log.Disk.Dirty[at-cells].Bytes = nil
	case at == cells+dirty:
		h.Log.Disk.Cells = nil
	default:
		h.Log.Disk.Dirty = nil
	}
	return h
}
