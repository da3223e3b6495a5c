package tests

import (
	"slices"
	"testing"

	"loop.example/g00400/impl"
)

// P13: the codes of LogOpen, and the order of them where several hold.
func TestP13LogOpenCodes(t *testing.T) {
	disks := logDisks()
	for _, x := range []struct {
		name  string
		code  int
		next  int
		epoch int
	}{
		{"new", 0, 1, 1},
		{"one cell", 0, 1, 1},
		{"one cell, not nil", 0, 1, 1},
		{"one cell, full", 2, 0, 0},
		{"one cell that waits", 1, 0, 0},
		{"two that fit", 0, 3, 2},
		{"MaxEpoch in the log", 2, 0, 0},
		{"MaxEpoch behind", 2, 0, 0},
		{"MaxEpoch at another Seq", 2, 0, 0},
		{"MaxEpoch less 1", 0, 3, 16000000},
		{"MaxEpoch and 1", 0, 3, 2},
		{"Epoch 0 first", 0, 1, 2},
		{"Epoch 0 behind", 0, 3, 2},
		{"no sector first", 0, 1, 8},
		{"a torn one", 0, 3, 3},
		{"Epoch below", 0, 3, 5},
		{"Epochs above", 0, 5, 301},
		{"Seq of another cell", 0, 2, 2},
		{"Seq above the cells", 0, 2, 2},
		{"as many as cells", 2, 0, 0},
		{"one less than cells", 0, 7, 4},
		{"all but the first fit", 0, 1, 4},
		{"MaxSectors sectors", 2, 0, 0},
		{"MaxSectors less 1", 0, 600, 70001},
		{"bytes that are no sector", 0, 1, 1},
		{"the log waits", 1, 0, 0},
		{"a write lowers the top", 1, 0, 0},
		{"a write lifts the top", 1, 0, 0},
		{"full, and a write waits", 1, 0, 0},
		{"MaxDirty writes", 1, 0, 0},
		{"one memory for all", 1, 0, 0},
	} {
		d, there := disks[x.name]
		l, es, code := impl.LogOpen(d)
		if !there || code != x.code || l.Next != x.next || l.Epoch != x.epoch {
			t.Errorf("%s: LogOpen has Next %d, Epoch %d, code %d; want %d, %d, %d", x.name, l.Next, l.Epoch, code, x.next, x.epoch, x.code)
		}
		if code != 0 && (!sameLog(l, impl.Log{}) || len(es) != 0) {
			t.Errorf("%s: beside code %d there is %v, %v", x.name, code, l, es)
		}
	}
}

// P13: LogOpen writes the one byte 'B' behind what is read, and all else stays.
func TestP13LogOpenWrites(t *testing.T) {
	d := laid(6, mark(0, 1), eventSector(1, 1, tick), eventSector(2, 256, deposit(5)), eventSector(5, 300, tick), eventSector(4, 1, tick))
	got, es, code := impl.LogOpen(d)
	want := copyOfDisk(d)
	want.Cells[3].Bytes = []byte("J\x00\x00\x03\x00\x01\x2d\x01B" + string(make([]byte, 113)) + "\x00\x00\x03\x00\x01\x2d")
	if code != 0 || !sameLog(got, logOf(want, 4, 301)) {
		t.Errorf("LogOpen = %v, code %d", got, code)
	}
	if !slices.Equal(es, []impl.Event{tick, deposit(5)}) {
		t.Errorf("LogOpen tells %v", es)
	}
}

// P13: all disks, and many made by chance, are opened as the chapter says; those that aren't right have code 1.
func TestP13LogOpen(t *testing.T) {
	eachDisk(t, allDisks(), func(t *testing.T, d impl.Disk) { lookOpen(t, d) })
	eachDisk(t, wrongDisks(), func(t *testing.T, d impl.Disk) {
		if l, es, code := impl.LogOpen(d); code != 1 || !sameLog(l, impl.Log{}) || len(es) != 0 {
			t.Errorf("LogOpen = %v, %v, code %d", l, es, code)
		}
	})
	c := dice(32)
	codes := [3]int{}
	for range 20000 {
		d := c.logDisk()
		was := copyOfDisk(d)
		codes[lookOpen(t, d)]++
		if !sameDisk(d, was) {
			t.Fatalf("the disk %v is changed", was)
		}
	}
	if slices.Min(codes[:]) < 500 {
		t.Errorf("of 20000 disks the codes are %v: the test looks at too few", codes)
	}
}

// P13: LogAdd at all edges of Next and Epoch, with events that are right and that aren't, on disks with room and without.
func TestP13LogAdd(t *testing.T) {
	events := []impl.Event{tick, deposit(1 << 50), {}, {Kind: 12}, deposit(0), {Kind: impl.EvTick, Yes: true}, {Kind: impl.EvFail, Key: 1000001}}
	for _, f := range eventForms() {
		events = append(events, f.plain())
	}
	codes := [3]int{}
	for _, name := range []string{"new", "one cell", "one cell, full", "one cell that waits", "Epoch below", "as many as cells", "MaxSectors sectors", "the log waits", "MaxDirty less 1 writes", "MaxDirty writes"} {
		d := logDisks()[name]
		was, n := copyOfDisk(d), len(d.Cells)
		for _, next := range []int{leastInt, -1, 0, 1, n / 2, n - 1, n, n + 1, 600, 601, greatestInt} {
			for _, epoch := range []int{leastInt, -1, 0, 1, 2, 300, 15999999, 16000000, 16000001, 1 << 24, greatestInt} {
				for _, e := range events {
					codes[lookAdd(t, logOf(d, next, epoch), e)]++
				}
			}
		}
		if !sameDisk(d, was) {
			t.Errorf("%s: the disk is changed", name)
		}
	}
	if slices.Min(codes[:]) < 100 {
		t.Errorf("the codes are %v: the test looks at too few", codes)
	}
}

// P13: where both codes of LogAdd hold, the first counts.
func TestP13LogAddCodes(t *testing.T) {
	room, waits := laid(4), impl.Disk{Cells: make([]impl.Cell, 4), Dirty: writes(600, 4)}
	wrong := impl.Disk{Cells: make([]impl.Cell, 4), Dirty: append(writes(599, 4), write(4, run(0, 128)))}
	for _, x := range []struct {
		name string
		l    impl.Log
		e    impl.Event
		code int
	}{
		{"right", logOf(room, 0, 1), tick, 0},
		{"right, at the ends", logOf(room, 3, 16000000), tick, 0},
		{"nothing", impl.Log{}, tick, 1},
		{"nothing at all", impl.Log{}, impl.Event{}, 1},
		{"wrong disk", logOf(wrong, 0, 1), tick, 1},
		{"wrong disk, Next past it", logOf(wrong, 4, 1), tick, 1},
		{"Next -1", logOf(room, -1, 1), tick, 1},
		{"Next the number of cells", logOf(room, 4, 1), tick, 2},
		{"Next one more", logOf(room, 5, 1), tick, 1},
		{"Epoch 0", logOf(room, 0, 0), tick, 1},
		{"Epoch MaxEpoch and 1", logOf(room, 0, 16000001), tick, 1},
		{"no event", logOf(room, 0, 1), impl.Event{}, 1},
		{"MaxDirty wait", logOf(waits, 0, 1), tick, 2},
		{"MaxDirty wait, no cell", logOf(waits, 4, 1), tick, 2},
		{"no cell, no event", logOf(room, 4, 1), impl.Event{}, 1},
		{"no cell, Epoch 0", logOf(room, 4, 0), tick, 1},
		{"no cell, Epoch MaxEpoch and 1", logOf(room, 4, 16000001), tick, 1},
		{"MaxDirty wait, no event", logOf(waits, 0, 1), deposit(0), 1},
		{"MaxDirty wait, Next -1", logOf(waits, -1, 1), tick, 1},
		{"MaxDirty wait, Next one more", logOf(waits, 5, 1), tick, 1},
		{"MaxDirty wait, Epoch 0", logOf(waits, 0, 0), tick, 1},
	} {
		got, code := impl.LogAdd(x.l, x.e)
		if code != x.code || code != 0 && !sameLog(got, impl.Log{}) {
			t.Errorf("%s: LogAdd = %v, code %d; want %d", x.name, got, code, x.code)
		}
	}
	eachDisk(t, wrongDisks(), func(t *testing.T, d impl.Disk) {
		for _, next := range []int{0, len(d.Cells), -1} {
			if got, code := impl.LogAdd(logOf(d, next, 1), tick); code != 1 || !sameLog(got, impl.Log{}) {
				t.Errorf("LogAdd = %v, code %d", got, code)
			}
		}
	})
}

// P13: LogAdd waits behind the others with Seq, Epoch and the event's bytes; the log needn't fit what lies there.
func TestP13LogAddWrites(t *testing.T) {
	d := waiting(laid(600, mark(0, 9)), 0, run(1, 128))
	for _, next := range []int{0, 1, 258, 599} {
		for _, epoch := range []int{1, 258, 16000000} {
			for _, e := range someEvents(40) {
				want := waiting(d, next, bytesOf(eventSector(next, epoch, e)))
				got, code := impl.LogAdd(logOf(d, next, epoch), e)
				if code != 0 || !sameLog(got, logOf(want, next+1, epoch)) {
					t.Fatalf("LogAdd of %+v at %d in epoch %d: code %d", e, next, epoch, code)
				}
			}
		}
	}
}

// P13: a log takes events until its cells are full; a disk of one cell takes none once it is opened.
func TestP13LogAddUntilFull(t *testing.T) {
	for _, n := range []int{1, 2, 3, 17, 600} {
		l := newLog(t, n)
		want := someEvents(n - 1)
		l = added(t, l, want...)
		if l.Next != n || len(l.Disk.Dirty) != n-1 || !slices.Equal(impl.LogEvents(l.Disk), want) {
			t.Errorf("%d cells: Next %d, %d writes", n, l.Next, len(l.Disk.Dirty))
		}
		if _, code := impl.LogAdd(l, tick); code != 2 {
			t.Errorf("%d cells: LogAdd of one more has code %d", n, code)
		}
		synced := impl.LogSync(l)
		if _, code := impl.LogAdd(synced, tick); code != 2 {
			t.Errorf("%d cells: LogAdd behind a sync has code %d", n, code)
		}
		if _, _, code := impl.LogOpen(synced.Disk); code != 2 {
			t.Errorf("%d cells: LogOpen of a full log has code %d", n, code)
		}
	}
}

// P13: LogSync syncs the disk and keeps Next and Epoch, whatever they are; of a disk that isn't right nothing is left.
func TestP13LogSync(t *testing.T) {
	numbers := []int{leastInt, -1, 0, 1, 4, 600, 16000000, 16000001, greatestInt}
	eachDisk(t, allDisks(), func(t *testing.T, d impl.Disk) {
		for i, next := range numbers {
			epoch := numbers[(i+3)%len(numbers)]
			if got := impl.LogSync(logOf(d, next, epoch)); !sameLog(got, logOf(wantSync(d), next, epoch)) {
				t.Errorf("LogSync with Next %d and Epoch %d: Next %d, Epoch %d, %d writes", next, epoch, got.Next, got.Epoch, len(got.Disk.Dirty))
			}
		}
	})
	eachDisk(t, wrongDisks(), func(t *testing.T, d impl.Disk) {
		for _, n := range numbers {
			if got := impl.LogSync(logOf(d, n, n)); !sameLog(got, impl.Log{}) {
				t.Errorf("LogSync with Next and Epoch %d: %v", n, got)
			}
		}
	})
}

// P13: what is written shares memory neither with the log nor within itself.
func TestP13LogWriteNewMemory(t *testing.T) {
	for name, of := range map[string]func(d impl.Disk) impl.Log{
		"open": func(d impl.Disk) impl.Log { l, _, _ := impl.LogOpen(d); return l },
		"add":  func(d impl.Disk) impl.Log { l, _ := impl.LogAdd(logOf(d, 0, 1), tick); return l },
		"sync": func(d impl.Disk) impl.Log { return impl.LogSync(logOf(d, 1, 1)) },
	} {
		for which, d := range allDisks() {
			was := copyOfDisk(d)
			got := of(d)
			keep := copyOfDisk(got.Disk)
			if !looksApart(of(d).Disk) {
				t.Errorf("%s, %s: two lists of the answer share memory", name, which)
			}
			blotDisk(of(d).Disk)
			if !sameDisk(d, was) {
				t.Errorf("%s, %s: the disk changes with the answer", name, which)
			}
			blotDisk(d)
			if !sameDisk(got.Disk, keep) {
				t.Errorf("%s, %s: the answer changes with the disk", name, which)
			}
		}
	}
}

// P13: what LogOpen tells beside the log is a list of its own, and two logs made of one don't come into one another.
func TestP13LogsApart(t *testing.T) {
	d := fullLog(7, 1)
	d.Cells[6].Bytes = nil
	l, es := opened(t, d)
	for i := range es {
		es[i] = impl.Event{Kind: -1}
	}
	if !slices.Equal(impl.LogEvents(d), someEvents(5)) || !slices.Equal(impl.LogEvents(l.Disk), someEvents(5)) {
		t.Error("the disk changes with the events")
	}
	room := newLog(t, 4)
	room.Disk.Dirty = make([]impl.Write, 0, 9)
	one, two := added(t, room, tick), added(t, room, deposit(7))
	if !slices.Equal(impl.LogEvents(one.Disk), []impl.Event{tick}) || !slices.Equal(impl.LogEvents(two.Disk), []impl.Event{deposit(7)}) {
		t.Error("two logs made of one share memory")
	}
	if spare := room.Disk.Dirty[:1][0]; spare.At != 0 || spare.Bytes != nil {
		t.Error("the room behind Dirty is written over")
	}
}
