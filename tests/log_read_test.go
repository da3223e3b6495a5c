package tests

import (
	"bytes"
	"slices"
	"testing"

	"loop.example/g00400/impl"
)

// P13: what is read of a disk: how many sectors, the greatest epoch, the events.
func TestP13LogReads(t *testing.T) {
	five := deposit(5)
	disks := logDisks()
	for _, x := range []struct {
		name   string
		count  int
		top    int
		events []impl.Event
	}{
		{"new", 0, 0, nil},
		{"one cell", 0, 0, nil},
		{"one cell, not nil", 0, 0, nil},
		{"one cell, full", 1, 1, nil},
		{"one cell that waits", 1, 1, nil},
		{"two that fit", 2, 1, []impl.Event{tick}},
		{"MaxEpoch in the log", 2, 16000000, nil},
		{"MaxEpoch behind", 2, 16000000, []impl.Event{tick}},
		{"MaxEpoch at another Seq", 2, 16000000, []impl.Event{tick}},
		{"MaxEpoch less 1", 2, 15999999, []impl.Event{tick}},
		{"MaxEpoch and 1", 2, 1, []impl.Event{tick}},
		{"Epoch 0 first", 0, 1, nil},
		{"Epoch 0 behind", 2, 1, []impl.Event{tick}},
		{"no sector first", 0, 7, nil},
		{"a torn one", 2, 2, []impl.Event{tick}},
		{"Epoch below", 2, 4, nil},
		{"Epochs above", 4, 300, []impl.Event{tick}},
		{"Seq of another cell", 1, 1, nil},
		{"Seq above the cells", 1, 1, nil},
		{"Bodies of no event", 7, 1, []impl.Event{tick}},
		{"events without marks", 2, 1, []impl.Event{tick, five}},
		{"as many as cells", 7, 1, someEvents(6)},
		{"one less than cells", 6, 3, someEvents(5)},
		{"all but the first fit", 0, 3, nil},
		{"MaxSectors cells", 2, 1, []impl.Event{tick}},
		{"MaxSectors sectors", 600, 256, someEvents(599)},
		{"MaxSectors less 1", 599, 70000, someEvents(598)},
		{"bytes that are no sector", 0, 0, nil},
		{"the log waits", 4, 2, []impl.Event{tick, five, tick}},
		{"the last write counts", 2, 1, []impl.Event{five}},
		{"a write breaks it", 3, 1, someEvents(2)},
		{"a write mends it", 7, 2, slices.Delete(someEvents(6), 2, 3)},
		{"a write lowers the top", 2, 2, nil},
		{"a write lifts the top", 1, 16000000, nil},
		{"full, and a write waits", 7, 1, someEvents(5)},
		{"one memory for all", 1, 5, nil},
	} {
		d, there := disks[x.name]
		sectors, n := impl.LogRead(d)
		if !there || n != x.count || len(sectors) != x.count {
			t.Errorf("%s: LogRead = %v, %d; want %d", x.name, sectors, n, x.count)
		}
		if got := impl.LogTop(d); got != x.top {
			t.Errorf("%s: LogTop = %d; want %d", x.name, got, x.top)
		}
		if got := impl.LogEvents(d); !slices.Equal(got, x.events) {
			t.Errorf("%s: LogEvents = %v; want %v", x.name, got, x.events)
		}
	}
}

// P13: the sectors that are read have their Bodies, whatever these are.
func TestP13LogReadBodies(t *testing.T) {
	want := []impl.Sector{mark(0, 1), sector(1, 1, nil), sector(2, 2, run(0, 100)), sector(3, 2, make([]byte, 100)), eventSector(4, 255, tick), sector(5, 256, []byte{0})}
	got, n := impl.LogRead(laid(9, want...))
	if !sameSectors(got, want) || n != 6 {
		t.Errorf("LogRead = %v, %d; want %v", got, n, want)
	}
}

// P13: an epoch below the one ahead ends the log, the same and one above don't, at every edge.
func TestP13LogReadEpochs(t *testing.T) {
	epochs := []int{0, 1, 2, 255, 256, 257, 65535, 65536, 65537, 15999999, 16000000, 16000001, 1<<24 - 1}
	right := func(n int) bool { return n >= 1 && n <= 16000000 }
	for _, a := range epochs {
		for _, b := range epochs {
			want, greatest := 0, 0
			if right(b) {
				greatest = b
			}
			if right(a) {
				want, greatest = 1, max(a, greatest)
			}
			if right(a) && right(b) && a <= b {
				want = 2
			}
			d := laid(3, eventSector(0, a, tick), eventSector(1, b, deposit(1)))
			if got, n := impl.LogRead(d); n != want || len(got) != want {
				t.Errorf("epochs %d and %d: LogRead = %v, %d; want %d", a, b, got, n, want)
			}
			if got := impl.LogTop(d); got != greatest {
				t.Errorf("epochs %d and %d: LogTop = %d; want %d", a, b, got, greatest)
			}
			if got := impl.LogEvents(d); !slices.Equal(got, []impl.Event{tick, deposit(1)}[:want]) {
				t.Errorf("epochs %d and %d: LogEvents = %v", a, b, got)
			}
		}
	}
}

// P13: at every cell of a log, one that doesn't fit ends it there; the top is that of all cells.
func TestP13LogReadUpToTheFirst(t *testing.T) {
	const n = 9
	for at := range n {
		for name, b := range map[string][]byte{
			"no bytes":         nil,
			"bytes 0":          make([]byte, 128),
			"no sector":        run(at, 128),
			"Seq one more":     bytesOf(eventSector(at+1, 5, tick)),
			"Seq one less":     bytesOf(eventSector((at+n-1)%n, 5, tick)),
			"torn at the end":  rawSector(at, 5, 1, []byte("B"), at, 4),
			"Epoch 0":          bytesOf(mark(at, 0)),
			"Epoch MaxEpoch+1": bytesOf(mark(at, 16000001)),
		} {
			d := fullLog(n, 5)
			d.Cells[at].Bytes = b
			if got, count := impl.LogRead(d); count != at || len(got) != at {
				t.Errorf("%s at %d: LogRead tells %d, %d", name, at, len(got), count)
			}
			if got := impl.LogEvents(d); !slices.Equal(got, someEvents(n)[:max(at-1, 0)]) {
				t.Errorf("%s at %d: LogEvents = %v", name, at, got)
			}
			if got := impl.LogTop(d); got != 5 {
				t.Errorf("%s at %d: LogTop = %d", name, at, got)
			}
		}
	}
}

// P13: a sector is looked for at every cell, for the top.
func TestP13LogTopAnywhere(t *testing.T) {
	for at := range 600 {
		if got := impl.LogTop(with(laid(600), at, mark(599-at, 3+at))); got != 3+at {
			t.Errorf("LogTop with epoch %d at %d alone = %d", 3+at, at, got)
		}
	}
	for at := range 7 {
		d := waiting(fullLog(7, 5), at, bytesOf(sector(0, 6, nil)))
		if got := impl.LogTop(d); got != 6 {
			t.Errorf("LogTop with a write of epoch 6 at %d = %d", at, got)
		}
		if got := impl.LogTop(waiting(d, at, run(0, 128))); got != 5 {
			t.Errorf("LogTop with that one written over = %d", got)
		}
	}
}

// P13: all disks, and many made by chance, are read as the chapter says; none is changed.
func TestP13LogReadsAll(t *testing.T) {
	eachDisk(t, allDisks(), func(t *testing.T, d impl.Disk) { lookLog(t, d) })
	c := dice(31)
	counts := map[int]int{}
	for range 20000 {
		d := c.logDisk()
		was := copyOfDisk(d)
		lookLog(t, d)
		if !sameDisk(d, was) {
			t.Fatalf("the disk %v is changed", was)
		}
		counts[len(wantLogRead(d))]++
	}
	for n := range 7 {
		if counts[n] < 100 {
			t.Errorf("of 20000 disks %d tell %d sectors: the test looks at too few", counts[n], n)
		}
	}
}

// P13: of a disk that isn't right nothing is read.
func TestP13LogReadsWrongDisk(t *testing.T) {
	wrong := wrongDisks()
	wrong["a log with a write that isn't right"] = waiting(fullLog(7, 1), 7, run(0, 128))
	wrong["a log with a short write"] = waiting(fullLog(7, 1), 0, run(0, 127))
	wrong["a log of too many cells"] = impl.Disk{Cells: append(fullLog(600, 1).Cells, impl.Cell{})}
	wrong["a log with a short cell behind"] = impl.Disk{Cells: append(fullLog(7, 1).Cells, cell(run(0, 1)))}
	wrong["a log of too many writes"] = impl.Disk{Cells: fullLog(7, 1).Cells, Dirty: writes(601, 7)}
	eachDisk(t, wrong, func(t *testing.T, d impl.Disk) {
		if got, n := impl.LogRead(d); len(got) != 0 || n != 0 {
			t.Errorf("LogRead = %v, %d", got, n)
		}
		if got := impl.LogTop(d); got != 0 {
			t.Errorf("LogTop = %d", got)
		}
		if got := impl.LogEvents(d); len(got) != 0 {
			t.Errorf("LogEvents = %v", got)
		}
	})
}

// P13: what is read shares memory neither with the disk nor within itself.
func TestP13LogReadNewMemory(t *testing.T) {
	for name, d := range allDisks() {
		was := copyOfDisk(d)
		got, _ := impl.LogRead(d)
		events := impl.LogEvents(d)
		for i, s := range got {
			body := slices.Clone(s.Body)
			blot(s.Body)
			if !sameDisk(d, was) {
				t.Fatalf("%s: the disk changes with the Body at %d", name, i)
			}
			got[i].Body = body
			if !sameSectors(got, wantLogRead(was)) {
				t.Fatalf("%s: a Body changes with the one at %d", name, i)
			}
		}
		again, _ := impl.LogRead(d)
		others := impl.LogEvents(d)
		blotDisk(d)
		for i := range got {
			got[i] = impl.Sector{Seq: -1}
		}
		for i := range events {
			events[i] = impl.Event{Kind: -1}
		}
		if !sameSectors(again, wantLogRead(was)) || !slices.Equal(others, wantLogEvents(was)) {
			t.Errorf("%s: what was read changes with the disk, or with another answer", name)
		}
	}
	d := laid(2, mark(0, 1), mark(1, 1))
	got, _ := impl.LogRead(d)
	blot(got[0].Body)
	if again, _ := impl.LogRead(laid(2, mark(0, 1))); !bytes.Equal(again[0].Body, []byte("B")) || !bytes.Equal(got[1].Body, []byte("B")) {
		t.Error("Bodies share memory")
	}
}
