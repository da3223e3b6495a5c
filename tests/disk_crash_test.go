package tests

import (
	"bytes"
	"slices"
	"testing"

	"loop.example/g00400/impl"
)

// tornSectors are pairs of an old and a new one of another epoch.
func tornSectors() [][2]impl.Sector {
	epochs := []int{1, 2, 255, 256, 257, 65536, 65537, 65793, 131072, 15999999, 16000000}
	bodies := [][]byte{nil, {'B'}, run(0, 21), run(40, 99), run(7, 100), make([]byte, 100)}
	var pairs [][2]impl.Sector
	for i, old := range epochs {
		for j, young := range epochs {
			if i == j {
				continue
			}
			for k := range bodies {
				a := sector(5, old, bodies[k])
				pairs = append(pairs,
					[2]impl.Sector{a, sector(5, young, bodies[(k+i+j)%len(bodies)])},
					[2]impl.Sector{a, sector(5, young, bodies[k])},
					[2]impl.Sector{a, sector(599, young, bodies[(k+1)%len(bodies)])})
			}
		}
	}
	return pairs
}

// P9: whatever comes of a sector that is written over another one, the old one, the new one or none is read; the new one only where all of it is there.
func TestP9TornSector(t *testing.T) {
	for _, pair := range tornSectors() {
		old, young := pair[0], pair[1]
		was, now := sectorBytes(t, old), sectorBytes(t, young)
		d := impl.Disk{Cells: []impl.Cell{{}, cell(was), {}}, Dirty: []impl.Write{write(1, now)}}
		for keep := 0; keep <= impl.SecSize; keep++ {
			b, ok := impl.DiskRead(impl.DiskCrash(d, []int{keep}), 1)
			if !ok || !bytes.Equal(b, append(slices.Clone(now[:keep]), was[keep:]...)) {
				t.Fatalf("%v over %v, %d kept: DiskRead = %v, %v", young, old, keep, b, ok)
			}
			got, ok := impl.SectorRead(b)
			isOld, isNew := ok && sameSector(got, old), ok && sameSector(got, young)
			if ok && !isOld && !isNew {
				t.Errorf("%v over %v, %d kept: SectorRead = %v", young, old, keep, got)
			}
			if isNew != bytes.Equal(b, now) || isOld != bytes.Equal(b, was) {
				t.Errorf("%v over %v, %d kept: old %v, new %v", young, old, keep, isOld, isNew)
			}
			if keep == 0 && !isOld || keep == impl.SecSize && !isNew {
				t.Errorf("%v over %v, %d kept: SectorRead = %v, %v", young, old, keep, got, ok)
			}
			if isNew && keep < impl.SecSize && was[127] != now[127] {
				t.Errorf("%v over %v: the new one is read with %d kept", young, old, keep)
			}
		}
	}
}

// P9: on a cell without bytes the new one or none is read.
func TestP9TornSectorOnNothing(t *testing.T) {
	d, _ := impl.DiskNew(2)
	for _, s := range []impl.Sector{sector(0, 1, nil), sector(1, 1, []byte("B")), sector(1, 258, run(0, 100)), sector(599, 16000000, run(0, 22))} {
		bytesOf := sectorBytes(t, s)
		e, _ := impl.DiskWrite(d, 1, bytesOf)
		for keep := 0; keep <= impl.SecSize; keep++ {
			f := impl.DiskCrash(e, []int{keep})
			b, _ := impl.DiskRead(f, 1)
			got, ok := impl.SectorRead(b)
			if ok != bytes.Equal(b, bytesOf) || ok && !sameSector(got, s) {
				t.Errorf("%v, %d kept: SectorRead = %v, %v", s, keep, got, ok)
			}
			if (len(f.Cells[1].Bytes) == 0) != (keep == 0) || len(f.Cells[0].Bytes) != 0 {
				t.Errorf("%v, %d kept: the cells have %d and %d bytes", s, keep, len(f.Cells[0].Bytes), len(f.Cells[1].Bytes))
			}
		}
	}
}

// P9: two writes of new sectors to one cell, torn one after the other: one of the three is read, or none.
func TestP9TornTwice(t *testing.T) {
	three := []impl.Sector{sector(5, 255, run(0, 50)), sector(5, 256, run(9, 30)), sector(5, 65537, run(3, 77))}
	d := impl.Disk{Cells: []impl.Cell{cell(sectorBytes(t, three[0]))}, Dirty: []impl.Write{write(0, sectorBytes(t, three[1])), write(0, sectorBytes(t, three[2]))}}
	found := [4]int{}
	for one := 0; one <= impl.SecSize; one++ {
		for two := 0; two <= impl.SecSize; two++ {
			b, _ := impl.DiskRead(impl.DiskCrash(d, []int{one, two}), 0)
			got, ok := impl.SectorRead(b)
			which := slices.IndexFunc(three, func(s impl.Sector) bool { return sameSector(got, s) })
			if ok != (which >= 0) {
				t.Errorf("%d and %d kept: SectorRead = %v, %v", one, two, got, ok)
			}
			found[which+1]++
		}
	}
	if slices.Contains(found[:], 0) {
		t.Errorf("none, the first, the second, the third are read %v times", found)
	}
}

// P9: what was synced, no crash takes away.
func TestP9SyncKeepsAll(t *testing.T) {
	eachDisk(t, rightDisks(), func(t *testing.T, d impl.Disk) {
		synced := impl.DiskSync(d)
		for _, keep := range append(keeps(d), keeps(synced)...) {
			after := impl.DiskCrash(synced, keep)
			if !sameDisk(after, synced) {
				t.Fatalf("a crash with %v changes a synced disk", keep)
			}
		}
		after := impl.DiskCrash(synced, []int{0, 1, 64, 128})
		for at := range d.Cells {
			want, _ := impl.DiskRead(d, at)
			one, ok := impl.DiskRead(synced, at)
			two, also := impl.DiskRead(after, at)
			if !ok || !also || !bytes.Equal(one, want) || !bytes.Equal(two, want) {
				t.Errorf("at %d: %v is %v behind a sync and %v behind a crash", at, want, one, two)
			}
		}
	})
}

// P9: of what was written behind a sync a crash takes only that.
func TestP9CrashBehindSync(t *testing.T) {
	d, _ := impl.DiskNew(3)
	d, _ = impl.DiskWrite(d, 0, run(0, 128))
	d, _ = impl.DiskWrite(d, 1, run(10, 128))
	d = impl.DiskSync(d)
	d, _ = impl.DiskWrite(d, 1, run(20, 128))
	d, _ = impl.DiskWrite(d, 2, run(30, 128))
	lost := impl.DiskCrash(d, nil)
	if !sameDisk(lost, impl.Disk{Cells: []impl.Cell{cell(run(0, 128)), cell(run(10, 128)), {}}}) {
		t.Errorf("with nothing kept: %v", lost)
	}
	torn := impl.DiskCrash(d, []int{3, 127})
	want := impl.Disk{Cells: []impl.Cell{cell(run(0, 128)), cell(append(run(20, 3), run(13, 125)...)), cell(append(run(30, 127), 0))}}
	if !sameDisk(torn, want) {
		t.Errorf("with 3 and 127 kept: %v", torn)
	}
}

// P9: writes to one cell come in their order, each over what came ahead of it.
func TestP9CrashInOrder(t *testing.T) {
	a, b, c := slices.Repeat([]byte{'a'}, 128), slices.Repeat([]byte{'b'}, 128), slices.Repeat([]byte{'c'}, 128)
	d := impl.Disk{Cells: make([]impl.Cell, 2), Dirty: []impl.Write{write(1, a), write(1, b), write(1, c)}}
	lay := func(parts ...int) []byte {
		var l []byte
		for i, n := range parts {
			l = append(l, slices.Repeat([]byte{"abc\x00"[i]}, n)...)
		}
		return l
	}
	for _, x := range []struct {
		name string
		keep []int
		want []byte
	}{
		{"none at all", nil, nil},
		{"none of each", []int{0, 0, 0}, nil},
		{"shorter", []int{50}, lay(50, 0, 0, 78)},
		{"shorter by one", []int{50, 128}, lay(0, 128)},
		{"shorter by one, less of the second", []int{50, 20}, slices.Concat(b[:20], a[:30], make([]byte, 78))},
		{"all whole", []int{128, 128, 128}, c},
		{"longer, all whole", []int{128, 128, 128, 0, 0}, c},
		{"longer, the last torn", []int{128, 128, 1, 128, 128}, slices.Concat(c[:1], b[1:])},
		{"less and less", []int{90, 60, 30}, slices.Concat(c[:30], b[:30], a[:30], make([]byte, 38))},
		{"more and more", []int{30, 60, 90}, slices.Concat(c[:90], make([]byte, 38))},
		{"the middle one alone", []int{0, 7, 0}, slices.Concat(b[:7], make([]byte, 121))},
		{"the last one alone", []int{-1, leastInt, 1}, slices.Concat(c[:1], make([]byte, 127))},
		{"past the end", []int{129, 0, 0}, a},
		{"far past the end", []int{greatestInt, leastInt, 2, greatestInt}, slices.Concat(c[:2], a[2:])},
	} {
		got := impl.DiskCrash(d, x.keep)
		if !sameDisk(got, impl.Disk{Cells: []impl.Cell{{}, cell(x.want)}}) {
			t.Errorf("%s: DiskCrash with %v = %q; want %q", x.name, x.keep, got.Cells[1].Bytes, x.want)
		}
	}
}

// P13: DiskCrash and DiskSync are what the chapter says of every right disk; behind them nothing waits.
func TestP13DiskCrashAndSync(t *testing.T) {
	eachDisk(t, rightDisks(), func(t *testing.T, d impl.Disk) {
		for _, keep := range keeps(d) {
			was := slices.Clone(keep)
			got := impl.DiskCrash(d, keep)
			if !sameDisk(got, wantCrash(d, keep)) {
				t.Errorf("DiskCrash with %v isn't as the chapter says", keep)
			}
			if !impl.DiskOk(got) || len(got.Dirty) != 0 || !slices.Equal(keep, was) {
				t.Errorf("DiskCrash with %v: %d writes wait, keep is %v", was, len(got.Dirty), keep)
			}
		}
		got := impl.DiskSync(d)
		if !sameDisk(got, wantSync(d)) || !impl.DiskOk(got) || len(got.Dirty) != 0 {
			t.Error("DiskSync isn't as the chapter says")
		}
		if !sameDisk(impl.DiskSync(got), got) {
			t.Error("a second sync changes something")
		}
		if whole := impl.DiskCrash(d, slices.Repeat([]int{128}, 600)); !sameDisk(whole, got) {
			t.Error("a crash that keeps all isn't a sync")
		}
	})
}

// P13: each number of bytes that is kept, and those past both ends, on a cell with bytes and one without.
func TestP13DiskCrashEachKeep(t *testing.T) {
	d := disk(2, write(0, run(100, 128)), write(1, run(200, 128)))
	for _, keep := range []int{leastInt, leastInt + 1, -129, -128, -2, -1, 129, 130, 255, 256, 1 << 32, greatestInt - 1, greatestInt} {
		l := []int{keep, keep}
		if got := impl.DiskCrash(d, l); !sameDisk(got, wantCrash(d, l)) {
			t.Errorf("%d kept: %v", keep, got)
		}
	}
	for keep := 0; keep <= 128; keep++ {
		l := []int{keep, 128 - keep}
		if got := impl.DiskCrash(d, l); !sameDisk(got, wantCrash(d, l)) {
			t.Errorf("%v kept: %v", l, got)
		}
	}
}

// P13: of a disk that isn't right nothing is left.
func TestP13CrashAndSyncWrongDisk(t *testing.T) {
	eachDisk(t, wrongDisks(), func(t *testing.T, d impl.Disk) {
		for _, keep := range [][]int{nil, {}, {0}, {1}, {128, 128}, {leastInt, greatestInt}} {
			if got := impl.DiskCrash(d, keep); !sameDisk(got, impl.Disk{}) {
				t.Errorf("DiskCrash with %v: %d cells", keep, len(got.Cells))
			}
		}
		if got := impl.DiskSync(d); !sameDisk(got, impl.Disk{}) {
			t.Errorf("DiskSync: %d cells", len(got.Cells))
		}
	})
}

// P13: what they answer shares memory neither with the disk nor within itself.
func TestP13CrashAndSyncNewMemory(t *testing.T) {
	whole := slices.Repeat([]int{128}, 600)
	for name, of := range map[string]func(d impl.Disk) impl.Disk{
		"sync":              impl.DiskSync,
		"crash, none kept":  func(d impl.Disk) impl.Disk { return impl.DiskCrash(d, nil) },
		"crash, all kept":   func(d impl.Disk) impl.Disk { return impl.DiskCrash(d, whole) },
		"crash, some kept":  func(d impl.Disk) impl.Disk { return impl.DiskCrash(d, []int{0, 5, 128, -1, 127}) },
		"crash, torn twice": func(d impl.Disk) impl.Disk { return impl.DiskCrash(d, []int{9, 9, 9, 9, 9}) },
	} {
		for which, d := range rightDisks() {
			was := copyOfDisk(d)
			got := of(d)
			keep := copyOfDisk(got)
			if !looksApart(of(d)) {
				t.Errorf("%s, %s: two lists of the answer share memory", name, which)
			}
			blotDisk(of(d))
			if !sameDisk(d, was) {
				t.Errorf("%s, %s: the disk changes with the answer", name, which)
			}
			blotDisk(d)
			if !sameDisk(got, keep) {
				t.Errorf("%s, %s: the answer changes with the disk", name, which)
			}
		}
	}
}

// P13: disks played by chance are as the chapter says at each step.
func TestP13DisksByChance(t *testing.T) {
	c := dice(23)
	for range 200 {
		n := 1 + c.below(5)
		d, _ := impl.DiskNew(n)
		want := impl.Disk{Cells: make([]impl.Cell, n)}
		for range 40 {
			switch c.below(8) {
			case 0:
				d, want = impl.DiskSync(d), wantSync(want)
			case 1:
				var keep []int
				for range c.below(len(want.Dirty) + 3) {
					keep = append(keep, c.below(140)-6)
				}
				d, want = impl.DiskCrash(d, keep), wantCrash(want, keep)
			default:
				at, b := c.below(n), run(c.below(255), 128)
				d, _ = impl.DiskWrite(d, at, b)
				want.Dirty = append(want.Dirty, write(at, b))
			}
			if !sameDisk(d, want) {
				t.Fatalf("the disk is %v; want %v", d, want)
			}
		}
	}
}
