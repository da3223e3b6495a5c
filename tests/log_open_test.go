package tests

import (
	"slices"
	"testing"

	"loop.example/g00400/impl"
)

// crashKeeps are lists of numbers of bytes for n writes that wait: all lists of these numbers for each length up to n, and one longer.
func crashKeeps(n int, numbers []int) [][]int {
	l := [][]int{nil}
	for from := 0; len(l[len(l)-1]) < n; {
		to := len(l)
		for _, short := range l[from:to] {
			for _, k := range numbers {
				l = append(l, append(slices.Clone(short), k))
			}
		}
		from = to
	}
	return append(l, slices.Repeat([]int{128}, n+1), slices.Repeat([]int{0}, n+1))
}

// P9: an event that is added is the last one read, before a sync, behind it, and behind every crash then.
func TestP9AddedIsLast(t *testing.T) {
	for _, base := range []impl.Disk{laid(60), with(laid(60), 59, mark(59, 254)), with(laid(60), 30, eventSector(30, 65535, tick))} {
		l, _ := opened(t, base)
		var want []impl.Event
		for i, e := range someEvents(50) {
			l = added(t, l, e)
			want = append(want, e)
			if got := impl.LogEvents(l.Disk); !slices.Equal(got, want) {
				t.Fatalf("behind LogAdd of %+v: %v; want %v", e, got, want)
			}
			synced := impl.LogSync(l)
			if got := impl.LogEvents(synced.Disk); !slices.Equal(got, want) {
				t.Fatalf("behind LogSync: %v; want %v", got, want)
			}
			for _, keep := range keeps(l.Disk) {
				if got := impl.LogEvents(impl.DiskCrash(synced.Disk, keep)); !slices.Equal(got, want) {
					t.Fatalf("behind a sync and a crash with %v: %v; want %v", keep, got, want)
				}
			}
			if i%7 == 0 {
				l = synced
			}
		}
	}
}

// lookKept holds what LogOpen makes of a disk against P9; it tells whether the disk was opened.
func lookKept(t *testing.T, d impl.Disk) bool {
	t.Helper()
	before := impl.LogEvents(d)
	l, es, code := impl.LogOpen(d)
	if code != 0 {
		return false
	}
	if !slices.Equal(es, before) || !slices.Equal(impl.LogEvents(l.Disk), before) {
		t.Errorf("LogOpen tells %v of %v and keeps %v", es, before, impl.LogEvents(l.Disk))
	}
	for at := range d.Cells {
		b, _ := impl.DiskRead(d, at)
		if s, ok := impl.SectorRead(b); ok && s.Epoch >= l.Epoch {
			t.Errorf("Epoch %d isn't above that of cell %d, %d", l.Epoch, at, s.Epoch)
		}
	}
	sectors, n := impl.LogRead(l.Disk)
	if n != l.Next || !sameSector(sectors[n-1], mark(n-1, l.Epoch)) || len(l.Disk.Dirty) != 0 {
		t.Errorf("Next is %d, the log ends with %v, %d writes wait", l.Next, sectors, len(l.Disk.Dirty))
	}
	for _, keep := range [][]int{nil, {0}, {1}, {127}, {128}} {
		if !sameDisk(impl.DiskCrash(l.Disk, keep), l.Disk) {
			t.Errorf("what LogOpen wrote isn't synced")
		}
	}
	if again, more, code := impl.LogOpen(l.Disk); code == 0 && (!slices.Equal(more, before) || again.Epoch != l.Epoch+1) {
		t.Errorf("opened twice it tells %v of %v, with Epochs %d and %d", more, before, l.Epoch, again.Epoch)
	}
	return true
}

// P9: opening keeps what is there, in an epoch above all that lies on the disk.
func TestP9OpenKeeps(t *testing.T) {
	eachDisk(t, allDisks(), func(t *testing.T, d impl.Disk) { lookKept(t, d) })
	c := dice(33)
	count := 0
	for range 20000 {
		if lookKept(t, c.logDisk()) {
			count++
		}
	}
	if count < 5000 {
		t.Errorf("of 20000 disks %d are opened: the test looks at too few", count)
	}
	for at := range 5 {
		for _, epoch := range []int{1, 254, 255, 256, 65535, 65536, 15999998, 15999999} {
			for _, seq := range []int{at, at + 1, 0, 599} {
				if !lookKept(t, with(laid(5, mark(0, 1)), at, eventSector(seq, epoch, tick))) {
					t.Errorf("with epoch %d in cell %d the disk isn't opened", epoch, at)
				}
			}
		}
	}
}

// P9: opened again and again the events stay, until no cell is left; each time the epoch is one more.
func TestP9OpenAgainAndAgain(t *testing.T) {
	want := someEvents(5)
	d := added(t, newLog(t, 300), want...).Disk
	d = impl.DiskSync(d)
	for i := range 294 {
		l, es := opened(t, d)
		if !slices.Equal(es, want) || l.Epoch != 2+i || l.Next != 7+i {
			t.Fatalf("opened the time %d: %v, Epoch %d, Next %d", i, es, l.Epoch, l.Next)
		}
		d = l.Disk
	}
	if _, _, code := impl.LogOpen(d); code != 2 || !slices.Equal(impl.LogEvents(d), want) {
		t.Errorf("with no cell left: code %d, %v", code, impl.LogEvents(d))
	}
}

// P9: of what is added over an older sector, torn anywhere, the old one, the new one or none is in the cell; the log has the new one or none.
func TestP9TornAdd(t *testing.T) {
	for _, old := range []int{1, 2, 254, 255, 256, 65535, 65536, 15999998} {
		for _, oldBody := range [][]byte{rawBody(deposit(9)), []byte("B"), nil, run(0, 100)} {
			d := with(laid(4), 1, sector(1, old, oldBody))
			l, _ := opened(t, d)
			l = added(t, l, deposit(1<<40+5))
			young := eventSector(1, old+1, deposit(1<<40+5))
			for keep := range 129 {
				torn := impl.DiskCrash(l.Disk, []int{keep})
				b, _ := impl.DiskRead(torn, 1)
				s, ok := impl.SectorRead(b)
				isNew := ok && sameSector(s, young)
				if ok && !isNew && !sameSector(s, sector(1, old, oldBody)) {
					t.Errorf("epoch %d over %d, %d kept: SectorRead = %v", old+1, old, keep, s)
				}
				_, n := impl.LogRead(torn)
				if isNew != (n == 2) || !isNew && n != 1 || isNew != slices.Contains(impl.LogEvents(torn), deposit(1<<40+5)) {
					t.Errorf("epoch %d over %d, %d kept: the log has %d sectors, the new one is read: %v", old+1, old, keep, n, isNew)
				}
				if keep == 128 && !isNew || keep == 0 && isNew {
					t.Errorf("epoch %d over %d, %d kept: the new one is read: %v", old+1, old, keep, isNew)
				}
			}
		}
	}
}
