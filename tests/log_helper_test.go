package tests

import (
	"bytes"
	"slices"
	"testing"

	"loop.example/g00400/impl"
)

var tick = impl.Event{Kind: impl.EvTick}

func deposit(amt int) impl.Event { return impl.Event{Kind: impl.EvDeposit, Amt: amt} }

// someEvents are n right ones, of all kinds, each with another one beside it.
func someEvents(n int) []impl.Event {
	var l []impl.Event
	for i := 0; len(l) < n; i++ {
		for _, f := range eventForms() {
			l = append(l, f.ends()[i%3], deposit(i+1))
		}
	}
	return l[:n]
}

func logOf(d impl.Disk, next int, epoch int) impl.Log {
	return impl.Log{Disk: d, Next: next, Epoch: epoch}
}

func sameLog(a impl.Log, b impl.Log) bool {
	return a.Next == b.Next && a.Epoch == b.Epoch && sameDisk(a.Disk, b.Disk)
}

func sameSectors(a []impl.Sector, b []impl.Sector) bool { return slices.EqualFunc(a, b, sameSector) }

// eventSector holds an event.
func eventSector(seq int, epoch int, e impl.Event) impl.Sector {
	return sector(seq, epoch, rawBody(e))
}

// mark is the sector that opening writes.
func mark(seq int, epoch int) impl.Sector { return sector(seq, epoch, []byte("B")) }

// bytesOf lays a sector, right or not.
func bytesOf(s impl.Sector) []byte {
	return rawSector(s.Seq, s.Epoch, len(s.Body), s.Body, s.Seq, s.Epoch)
}

// laid has n cells, the first of them with these sectors.
func laid(n int, sectors ...impl.Sector) impl.Disk {
	d := impl.Disk{Cells: make([]impl.Cell, n)}
	for at, s := range sectors {
		d.Cells[at].Bytes = bytesOf(s)
	}
	return d
}

// with is d with the sector in that cell.
func with(d impl.Disk, at int, s impl.Sector) impl.Disk {
	d = copyOfDisk(d)
	d.Cells[at].Bytes = bytesOf(s)
	return d
}

// waiting is d with one write more that waits.
func waiting(d impl.Disk, at int, b []byte) impl.Disk {
	d = copyOfDisk(d)
	d.Dirty = append(d.Dirty, write(at, b))
	return d
}

// fullLog has n cells, all with sectors of that epoch that fit.
func fullLog(n int, epoch int) impl.Disk {
	l := []impl.Sector{mark(0, epoch)}
	for i, e := range someEvents(n - 1) {
		l = append(l, eventSector(i+1, epoch, e))
	}
	return laid(n, l...)
}

// opened is what LogOpen makes of a disk, which must take it.
func opened(t *testing.T, d impl.Disk) (impl.Log, []impl.Event) {
	t.Helper()
	l, es, code := impl.LogOpen(d)
	if code != 0 {
		t.Fatalf("LogOpen has code %d", code)
	}
	return l, es
}

// newLog is the log on a new disk of n cells.
func newLog(t *testing.T, n int) impl.Log {
	t.Helper()
	d, _ := impl.DiskNew(n)
	l, _ := opened(t, d)
	return l
}

// added is l with the events behind one another, all of which it must take.
func added(t *testing.T, l impl.Log, es ...impl.Event) impl.Log {
	t.Helper()
	for _, e := range es {
		var code int
		if l, code = impl.LogAdd(l, e); code != 0 {
			t.Fatalf("LogAdd of %+v has code %d", e, code)
		}
	}
	return l
}

// wantBytes is what is read at a cell of a right disk, as the chapter says it, by itself; likewise all below.
func wantBytes(d impl.Disk, at int) []byte {
	b := make([]byte, 128)
	copy(b, d.Cells[at].Bytes)
	for _, w := range d.Dirty {
		if w.At == at {
			b = w.Bytes
		}
	}
	return b
}

func wantSector(b []byte) (impl.Sector, bool) {
	seq, epoch, size := int(b[1])<<16+int(b[2])<<8+int(b[3]), int(b[4])<<16+int(b[5])<<8+int(b[6]), int(b[7])
	if seq > 599 || epoch < 1 || epoch > 16000000 || size > 100 {
		return impl.Sector{}, false
	}
	s := sector(seq, epoch, slices.Clone(b[8:8+size]))
	return s, bytes.Equal(b, bytesOf(s))
}

func wantLogRead(d impl.Disk) []impl.Sector {
	var l []impl.Sector
	for at := range d.Cells {
		s, ok := wantSector(wantBytes(d, at))
		if !ok || s.Seq != at || at > 0 && s.Epoch < l[at-1].Epoch {
			break
		}
		l = append(l, s)
	}
	return l
}

func wantLogTop(d impl.Disk) int {
	greatest := 0
	for at := range d.Cells {
		if s, ok := wantSector(wantBytes(d, at)); ok && s.Epoch > greatest {
			greatest = s.Epoch
		}
	}
	return greatest
}

func wantLogEvents(d impl.Disk) []impl.Event {
	var l []impl.Event
	for _, s := range wantLogRead(d) {
		if e, ok := wantBodyEvent(s.Body); ok {
			l = append(l, e)
		}
	}
	return l
}

func wantLogOpen(d impl.Disk) (impl.Log, []impl.Event, int) {
	if len(d.Dirty) > 0 {
		return impl.Log{}, nil, 1
	}
	count, epoch := len(wantLogRead(d)), wantLogTop(d)+1
	if count == len(d.Cells) || epoch > 16000000 {
		return impl.Log{}, nil, 2
	}
	return logOf(with(d, count, mark(count, epoch)), count+1, epoch), wantLogEvents(d), 0
}

// wantLogAdd is for logs with a right disk.
func wantLogAdd(l impl.Log, e impl.Event) (impl.Log, int) {
	n := len(l.Disk.Cells)
	if l.Next < 0 || l.Next > n || l.Epoch < 1 || l.Epoch > 16000000 || !wantEventOk(e) {
		return impl.Log{}, 1
	}
	if l.Next == n || len(l.Disk.Dirty) == 600 {
		return impl.Log{}, 2
	}
	return logOf(waiting(l.Disk, l.Next, bytesOf(eventSector(l.Next, l.Epoch, e))), l.Next+1, l.Epoch), 0
}

// lookLog holds all that is read of a right disk against what the chapter says.
func lookLog(t *testing.T, d impl.Disk) {
	t.Helper()
	want := wantLogRead(d)
	if got, n := impl.LogRead(d); !sameSectors(got, want) || n != len(want) {
		t.Errorf("LogRead = %v, %d; want %v, %d", got, n, want, len(want))
	}
	if got := impl.LogTop(d); got != wantLogTop(d) {
		t.Errorf("LogTop = %d; want %d", got, wantLogTop(d))
	}
	if got := impl.LogEvents(d); !slices.Equal(got, wantLogEvents(d)) {
		t.Errorf("LogEvents = %v; want %v", got, wantLogEvents(d))
	}
}

func lookOpen(t *testing.T, d impl.Disk) int {
	t.Helper()
	want, events, code := wantLogOpen(d)
	got, es, c := impl.LogOpen(d)
	if !sameLog(got, want) || !slices.Equal(es, events) || c != code {
		t.Errorf("LogOpen: Next %d, Epoch %d, %v, code %d; want Next %d, Epoch %d, %v, code %d", got.Next, got.Epoch, es, c, want.Next, want.Epoch, events, code)
	}
	return c
}

func lookAdd(t *testing.T, l impl.Log, e impl.Event) int {
	t.Helper()
	want, code := wantLogAdd(l, e)
	got, c := impl.LogAdd(l, e)
	if !sameLog(got, want) || c != code {
		t.Errorf("LogAdd of %+v with Next %d, Epoch %d, %d cells, %d writes: Next %d, code %d; want Next %d, code %d",
			e, l.Next, l.Epoch, len(l.Disk.Cells), len(l.Disk.Dirty), got.Next, c, want.Next, code)
	}
	return c
}

// logDisks are right, each at some edge of the chapter.
func logDisks() map[string]impl.Disk {
	two, torn := laid(5, mark(0, 1), eventSector(1, 1, tick)), bytesOf(mark(2, 1))
	torn[127] = 9
	return map[string]impl.Disk{
		"new":                      laid(4),
		"one cell":                 laid(1),
		"one cell, not nil":        {Cells: []impl.Cell{cell([]byte{})}, Dirty: []impl.Write{}},
		"one cell, full":           laid(1, mark(0, 1)),
		"one cell that waits":      waiting(laid(1), 0, bytesOf(mark(0, 1))),
		"two that fit":             two,
		"MaxEpoch in the log":      laid(5, mark(0, 1), mark(1, 16000000)),
		"MaxEpoch behind":          with(two, 4, mark(4, 16000000)),
		"MaxEpoch at another Seq":  with(two, 2, mark(3, 16000000)),
		"MaxEpoch less 1":          with(two, 4, mark(4, 15999999)),
		"MaxEpoch and 1":           with(two, 2, mark(2, 16000001)),
		"Epoch 0 first":            laid(5, mark(0, 0), mark(1, 1)),
		"Epoch 0 behind":           with(two, 2, mark(2, 0)),
		"no sector first":          with(laid(5), 1, mark(1, 7)),
		"a torn one":               {Cells: append(slices.Clone(two.Cells[:2]), cell(torn), cell(bytesOf(mark(3, 2))))},
		"Epoch below":              laid(5, mark(0, 3), mark(1, 4), eventSector(2, 3, tick), mark(3, 4)),
		"Epochs above":             laid(5, mark(0, 1), mark(1, 7), mark(2, 8), eventSector(3, 300, tick)),
		"Seq of another cell":      laid(5, mark(0, 1), eventSector(2, 1, tick), eventSector(1, 1, tick)),
		"Seq above the cells":      laid(2, mark(0, 1), mark(599, 1)),
		"Bodies of no event":       laid(9, mark(0, 1), sector(1, 1, nil), sector(2, 1, []byte("E")), sector(3, 1, rawBody(impl.Event{Kind: 12})), sector(4, 1, append(rawBody(tick), 0)), sector(5, 1, run(0, 100)), eventSector(6, 1, tick)),
		"events without marks":     laid(3, eventSector(0, 1, tick), eventSector(1, 1, deposit(5))),
		"as many as cells":         fullLog(7, 1),
		"one less than cells":      with(fullLog(7, 3), 6, mark(6, 2)),
		"all but the first fit":    with(fullLog(7, 3), 0, mark(1, 3)),
		"MaxSectors cells":         laid(600, mark(0, 1), eventSector(1, 1, tick)),
		"MaxSectors sectors":       fullLog(600, 256),
		"MaxSectors less 1":        with(fullLog(600, 70000), 599, mark(599, 69999)),
		"bytes that are no sector": disk(6),
		"the log waits":            waiting(waiting(two, 2, bytesOf(eventSector(2, 1, deposit(5)))), 3, bytesOf(eventSector(3, 2, tick))),
		"the last write counts":    waiting(waiting(two, 1, run(1, 128)), 1, bytesOf(eventSector(1, 1, deposit(5)))),
		"a write breaks it":        waiting(fullLog(7, 1), 3, run(3, 128)),
		"a write mends it":         waiting(with(fullLog(7, 2), 3, mark(3, 1)), 3, bytesOf(mark(3, 2))),
		"a write lowers the top":   waiting(laid(3, mark(0, 1), mark(1, 16000000)), 1, bytesOf(mark(1, 2))),
		"a write lifts the top":    waiting(laid(3, mark(0, 1)), 2, bytesOf(mark(2, 16000000))),
		"full, and a write waits":  waiting(fullLog(7, 1), 6, bytesOf(mark(6, 1))),
		"MaxDirty less 1 writes":   {Cells: two.Cells, Dirty: writes(599, 5)},
		"MaxDirty writes":          {Cells: two.Cells, Dirty: writes(600, 5)},
		"one memory for all":       oneMemory(),
	}
}

// oneMemory is a disk whose cell and write share their bytes.
func oneMemory() impl.Disk {
	b := bytesOf(mark(0, 5))
	return impl.Disk{Cells: []impl.Cell{cell(b), cell(b), {}}, Dirty: []impl.Write{write(0, b), write(2, b)}}
}

// allDisks are the right ones of both chapters.
func allDisks() map[string]impl.Disk {
	all := logDisks()
	for name, d := range rightDisks() {
		all["disk: "+name] = d
	}
	return all
}

// logDisk makes a right disk of few cells by chance, with sectors that mostly fit; some are torn, or wait.
func (c *dice) logDisk() impl.Disk {
	n := 1 + c.below(7)
	d := impl.Disk{Cells: make([]impl.Cell, n)}
	base := []int{1, 1, 254, 65534, 15999996}[c.below(5)]
	epoch := base
	for at := range n {
		switch c.below(9) {
		case 0:
		case 1:
			d.Cells[at].Bytes = run(at, 128)
		default:
			d.Cells[at].Bytes = c.sectorBytes(at, epoch)
			epoch = min(epoch+c.below(3)/2, 16000000)
		}
	}
	for range c.below(4) * c.below(2) {
		d.Dirty = append(d.Dirty, write(c.below(n), c.sectorBytes(c.below(n), base+c.below(4))))
	}
	return d
}

func (c *dice) sectorBytes(seq int, epoch int) []byte {
	body := rawBody(deposit(1 + c.below(9)))
	switch c.below(12) {
	case 0:
		seq = c.below(9)
	case 1:
		epoch = max(epoch-1, 0)
	case 2:
		epoch++
	case 3:
		body = []byte("B")
	case 4:
		body = run(0, c.below(101))
	}
	b := bytesOf(sector(seq, epoch, body))
	if c.below(12) == 0 {
		b[c.below(128)] ^= byte(1 + c.below(255))
	}
	return b
}
