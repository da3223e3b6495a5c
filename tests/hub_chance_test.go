package tests

import (
	"slices"

	"loop.example/g00400/impl"
)

// hub is right, of n cells and laid by hand: a row of events that a book takes, some of them waiting, with marks and bodies of no event between.
func (d *dice) hub(n int, m mood) impl.Hub {
	made, epoch := ledgered{book: impl.BookNew()}, []int{1, 1, 250, 15999980}[d.below(4)]
	h := impl.Hub{Log: logOf(laid(n), 0, epoch)}
	from := d.below(n + 1)
	for at := range d.below(n + 1) {
		body := []byte("B")
		e, next := d.taken(m, made)
		switch kind := d.below(10); {
		case kind == 0 || at == 0 && kind < 8:
			epoch++
			h.Sent, from = nil, max(from, at+1)
		case kind == 1:
			body = run(at, d.below(101))
		default:
			body, made = rawBody(e), next
			h.Wait = append(h.Wait, e)
		}
		b := bytesOf(sector(at, epoch, body))
		if at < from {
			h.Log.Disk.Cells[at].Bytes = b
			h.Sent, h.Wait = append(h.Sent, h.Wait...), nil
		} else {
			h.Log.Disk.Dirty = append(h.Log.Disk.Dirty, write(at, b))
		}
		h.Log.Next, h.Log.Epoch = at+1, epoch
	}
	h.Book, h.Ledger = made.book, made.ledger
	return d.littered(h)
}

// taken is an event that a book and its ledger take, and what comes of it.
func (d *dice) taken(m mood, r ledgered) (impl.Event, ledgered) {
	for {
		e := d.bookEvent(m, r.book)
		if next, ok := r.wantNext(e); ok {
			return e, next
		}
	}
}

// littered has behind the log, and in the cells to which something comes still, what is left of older runs.
func (d *dice) littered(h impl.Hub) impl.Hub {
	disk := &h.Log.Disk
	for at := range disk.Cells {
		if len(disk.Cells[at].Bytes) > 0 || d.below(3) > 0 {
			continue
		}
		disk.Cells[at].Bytes = bytesOf(eventSector(at, h.Log.Epoch-1, deposit(9)))
		// In cell 0 any epoch would fit.
		if at == 0 || d.below(4) == 0 {
			disk.Cells[at].Bytes = run(at, 128)
		}
		if len(disk.Dirty) > 0 && d.below(2) == 0 {
			disk.Dirty = slices.Insert(disk.Dirty, 0, write(at, run(at, 128)))
		}
	}
	return h
}

// hubFields are all numbers of a hub but those in bytes.
func hubFields(h *impl.Hub) []*int {
	l := append(bookFields(&h.Book), &h.Log.Next, &h.Log.Epoch, &h.Ledger.Last)
	for i := range h.Ledger.Lines {
		x := &h.Ledger.Lines[i]
		l = append(l, &x.Acc.Kind, &x.Acc.Ch, &x.Amt)
	}
	for _, es := range [][]impl.Event{h.Wait, h.Sent} {
		for i := range es {
			l = append(l, &es[i].Kind, &es[i].Key, &es[i].Ch, &es[i].To, &es[i].Amt, &es[i].Fee)
		}
	}
	for i := range h.Log.Disk.Dirty {
		l = append(l, &h.Log.Disk.Dirty[i].At)
	}
	return l
}

// bent is h with something changed by chance; now and then it is right all the same.
func (d *dice) bent(h impl.Hub) impl.Hub {
	h = copyOfHub(h)
	switch d.below(6) {
	case 0:
		h.Wait = d.bentList(h.Wait)
	case 1:
		h.Sent = d.bentList(h.Sent)
	case 2:
		all := slices.Concat(h.Sent, h.Wait)
		at := d.below(len(all) + 1)
		h.Sent, h.Wait = slices.Clone(all[:at]), slices.Clone(all[at:])
	case 3:
		at := d.below(len(h.Log.Disk.Cells))
		h.Log.Disk.Cells[at].Bytes = d.sectorBytes(at, h.Log.Epoch)
	default:
		fields := hubFields(&h)
		field := fields[d.below(len(fields))]
		*field = []int{*field + 1, *field - 1, *fields[d.below(len(fields))], fieldEdges()[d.below(len(fieldEdges()))]}[d.below(4)]
	}
	return h
}

func (d *dice) bentList(l []impl.Event) []impl.Event {
	l = slices.Clone(l)
	if len(l) == 0 {
		return events(tick)
	}
	at := d.below(len(l))
	switch d.below(4) {
	case 0:
		return slices.Delete(l, at, at+1)
	case 1:
		return slices.Insert(l, at, l[d.below(len(l))])
	case 2:
		l[at], l[0] = l[0], l[at]
	case 3:
		l[at].Yes = !l[at].Yes
	}
	return l
}
