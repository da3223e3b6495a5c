package tests

import (
	"bytes"
	"slices"
	"testing"

	"loop.example/g00400/impl"
)

// P13: which disks are right.
func TestP13DiskOk(t *testing.T) {
	eachDisk(t, rightDisks(), func(t *testing.T, d impl.Disk) {
		if !impl.DiskOk(d) {
			t.Error("DiskOk is false")
		}
	})
	eachDisk(t, wrongDisks(), func(t *testing.T, d impl.Disk) {
		if impl.DiskOk(d) {
			t.Error("DiskOk is true")
		}
	})
	for size := range 300 {
		one := impl.Disk{Cells: []impl.Cell{cell(run(0, size))}}
		if impl.DiskOk(one) != (size == 0 || size == 128) {
			t.Errorf("DiskOk with a cell of %d bytes is %v", size, size != 0 && size != 128)
		}
		if impl.DiskOk(disk(1, write(0, run(0, size)))) != (size == 128) {
			t.Errorf("DiskOk with a write of %d bytes is %v", size, size != 128)
		}
	}
	for cells := 1; cells <= 600; cells += 37 {
		for at := -2; at <= cells+2; at++ {
			if impl.DiskOk(disk(cells, write(at, run(0, 128)))) != (at >= 0 && at < cells) {
				t.Errorf("DiskOk with %d cells and a write at %d is wrong", cells, at)
			}
		}
	}
}

// P13: a new disk has n cells without bytes, and nothing waits.
func TestP13DiskNew(t *testing.T) {
	for n := -3; n <= 700; n++ {
		d, ok := impl.DiskNew(n)
		right := n >= 1 && n <= 600
		want := impl.Disk{}
		if right {
			want.Cells = make([]impl.Cell, n)
		}
		if ok != right || !sameDisk(d, want) {
			t.Errorf("DiskNew(%d) = %d cells, %d writes, %v", n, len(d.Cells), len(d.Dirty), ok)
		}
		if impl.DiskOk(d) != right {
			t.Errorf("DiskOk of DiskNew(%d) is %v", n, !right)
		}
	}
	for _, n := range []int{leastInt, leastInt + 1, -600, 1 << 32, 1<<32 + 1, 1 << 62, greatestInt - 1, greatestInt} {
		if d, ok := impl.DiskNew(n); ok || !sameDisk(d, impl.Disk{}) {
			t.Errorf("DiskNew(%d) = %d cells, %v", n, len(d.Cells), ok)
		}
	}
	one, _ := impl.DiskNew(5)
	two, _ := impl.DiskNew(5)
	blotDisk(one)
	if !sameDisk(two, impl.Disk{Cells: make([]impl.Cell, 5)}) {
		t.Error("two new disks share memory")
	}
}

// P13: a cell without bytes is read as SecSize bytes 0.
func TestP13DiskReadEmpty(t *testing.T) {
	d, _ := impl.DiskNew(3)
	for at := range 3 {
		got, ok := impl.DiskRead(d, at)
		if !ok || !bytes.Equal(got, make([]byte, 128)) {
			t.Errorf("DiskRead(new, %d) = %v, %v", at, got, ok)
		}
		blot(got)
	}
	if !sameDisk(d, impl.Disk{Cells: make([]impl.Cell, 3)}) {
		t.Error("the disk is changed by what was read")
	}
}

// P13: what was written last to a cell is read, else what the cell holds.
func TestP13DiskRead(t *testing.T) {
	eachDisk(t, rightDisks(), func(t *testing.T, d impl.Disk) {
		for at := range d.Cells {
			want := make([]byte, 128)
			copy(want, d.Cells[at].Bytes)
			for _, w := range d.Dirty {
				if w.At == at {
					want = w.Bytes
				}
			}
			got, ok := impl.DiskRead(d, at)
			if !ok || !bytes.Equal(got, want) {
				t.Errorf("DiskRead at %d = %v, %v; want %v", at, got, ok, want)
			}
			blot(got)
		}
		for _, at := range []int{leastInt, leastInt + 1, -600, -1, len(d.Cells), len(d.Cells) + 1, 600, 1 << 32, greatestInt - 1, greatestInt} {
			if got, ok := impl.DiskRead(d, at); ok || len(got) != 0 {
				t.Errorf("DiskRead at %d = %v, %v", at, got, ok)
			}
		}
	})
	eachDisk(t, wrongDisks(), func(t *testing.T, d impl.Disk) {
		for _, at := range []int{leastInt, -1, 0, 1, 2, 4, 5, 600, greatestInt} {
			if got, ok := impl.DiskRead(d, at); ok || len(got) != 0 {
				t.Errorf("DiskRead at %d = %v, %v", at, got, ok)
			}
		}
	})
}

// P13: what was read doesn't change with the disk.
func TestP13DiskReadNewMemory(t *testing.T) {
	d := disk(4, write(0, run(50, 128)), write(0, run(60, 128)))
	var got [][]byte
	for at := range 4 {
		b, _ := impl.DiskRead(d, at)
		got = append(got, b)
	}
	blotDisk(d)
	for at, want := range [][]byte{run(60, 128), run(1, 128), make([]byte, 128), run(3, 128)} {
		if !bytes.Equal(got[at], want) {
			t.Errorf("what was read at %d changes with the disk", at)
		}
	}
}

// P13: a write waits behind the others, and nothing else changes.
func TestP13DiskWrite(t *testing.T) {
	b := run(99, 128)
	eachDisk(t, rightDisks(), func(t *testing.T, d impl.Disk) {
		for _, at := range []int{0, len(d.Cells) / 2, len(d.Cells) - 1} {
			want := copyOfDisk(d)
			want.Dirty = append(want.Dirty, write(at, run(99, 128)))
			right := len(d.Dirty) < 600
			if !right {
				want = impl.Disk{}
			}
			got, ok := impl.DiskWrite(d, at, b)
			if ok != right || !sameDisk(got, want) {
				t.Errorf("DiskWrite at %d: %d cells, %d writes, %v", at, len(got.Cells), len(got.Dirty), ok)
			}
			if impl.DiskOk(got) != right {
				t.Errorf("DiskOk of what DiskWrite answers is %v", !right)
			}
			if read, ok := impl.DiskRead(got, at); right && (!ok || !bytes.Equal(read, b)) {
				t.Errorf("what was written at %d is read as %v, %v", at, read, ok)
			}
		}
		refuseWrites(t, d, b)
	})
	if !bytes.Equal(b, run(99, 128)) {
		t.Error("the bytes are changed")
	}
}

// refuseWrites looks at writes that no disk takes.
func refuseWrites(t *testing.T, d impl.Disk, b []byte) {
	t.Helper()
	for _, at := range []int{leastInt, leastInt + 1, -1, len(d.Cells), len(d.Cells) + 1, 600, 1 << 32, greatestInt - 1, greatestInt} {
		if got, ok := impl.DiskWrite(d, at, b); ok || !sameDisk(got, impl.Disk{}) {
			t.Errorf("DiskWrite at %d is %v", at, ok)
		}
	}
	for _, size := range []int{0, 1, 64, 127, 129, 256, 10000} {
		if got, ok := impl.DiskWrite(d, 0, run(0, size)); ok || !sameDisk(got, impl.Disk{}) {
			t.Errorf("DiskWrite of %d bytes is %v", size, ok)
		}
	}
	if got, ok := impl.DiskWrite(d, 0, nil); ok || !sameDisk(got, impl.Disk{}) {
		t.Errorf("DiskWrite of nil is %v", ok)
	}
}

// P13: a disk that isn't right takes no write, not even one that would be right.
func TestP13DiskWriteWrongDisk(t *testing.T) {
	eachDisk(t, wrongDisks(), func(t *testing.T, d impl.Disk) {
		for _, at := range []int{leastInt, -1, 0, 1, 2, 4, 5, 600, greatestInt} {
			if got, ok := impl.DiskWrite(d, at, run(0, 128)); ok || !sameDisk(got, impl.Disk{}) {
				t.Errorf("DiskWrite at %d is %v", at, ok)
			}
		}
		refuseWrites(t, d, run(0, 128))
	})
}

// P13: writes go on until MaxDirty wait, all to one cell too; the one behind is refused.
func TestP13DiskWriteUntilFull(t *testing.T) {
	for _, cells := range []int{1, 3} {
		d, ok := impl.DiskNew(cells)
		for i := 0; i < 600 && ok; i++ {
			d, ok = impl.DiskWrite(d, i%cells, run(i, 128))
		}
		if !ok || len(d.Dirty) != 600 {
			t.Fatalf("%d cells: of 600 writes %d wait, %v", cells, len(d.Dirty), ok)
		}
		for i, w := range d.Dirty {
			if w.At != i%cells || !bytes.Equal(w.Bytes, run(i, 128)) {
				t.Errorf("%d cells: the write %d is at %d with other bytes", cells, i, w.At)
			}
		}
		if got, ok := impl.DiskWrite(d, 0, run(0, 128)); ok || !sameDisk(got, impl.Disk{}) {
			t.Errorf("%d cells: a write more than MaxDirty is taken", cells)
		}
		if _, ok := impl.DiskWrite(impl.DiskSync(d), 0, run(0, 128)); !ok {
			t.Errorf("%d cells: behind a sync a write is refused", cells)
		}
	}
}

// P13: what DiskWrite answers shares memory neither with its arguments nor within itself.
func TestP13DiskWriteNewMemory(t *testing.T) {
	for name, d := range rightDisks() {
		if len(d.Dirty) == 600 {
			continue
		}
		was := copyOfDisk(d)
		room := run(99, 300)
		b := room[:128]
		got, ok := impl.DiskWrite(d, 0, b)
		if !ok {
			t.Fatalf("%s: DiskWrite is false", name)
		}
		keep := copyOfDisk(got)
		if !looksApart(got) {
			t.Errorf("%s: two lists of the answer share memory", name)
		}
		again, _ := impl.DiskWrite(d, 0, b)
		blotDisk(again)
		if !sameDisk(d, was) || !bytes.Equal(room, run(99, 300)) {
			t.Errorf("%s: an argument changes with the answer", name)
		}
		other, _ := impl.DiskWrite(d, 0, b)
		blot(room)
		blotDisk(d)
		if !sameDisk(other, keep) {
			t.Errorf("%s: the answer changes with an argument", name)
		}
	}
}

// P13: two writes to one disk don't come into one another, whatever room is behind Dirty.
func TestP13DiskWriteTwice(t *testing.T) {
	dirty := append(make([]impl.Write, 0, 9), writes(3, 2)...)
	d := disk(2, dirty...)
	d.Dirty = slices.Grow(d.Dirty, 10)
	one, _ := impl.DiskWrite(d, 0, run(10, 128))
	two, _ := impl.DiskWrite(d, 1, run(20, 128))
	if one.Dirty[3].At != 0 || !bytes.Equal(one.Dirty[3].Bytes, run(10, 128)) || two.Dirty[3].At != 1 || !bytes.Equal(two.Dirty[3].Bytes, run(20, 128)) {
		t.Error("two answers share memory")
	}
	if spare := d.Dirty[:4][3]; spare.At != 0 || spare.Bytes != nil {
		t.Error("the room behind Dirty is written over")
	}
}
