package tests

import (
	"bytes"
	"math"
	"slices"
	"testing"

	"loop.example/g00400/impl"
)

const (
	leastInt    = math.MinInt
	greatestInt = math.MaxInt
)

// run makes count bytes that begin with first and rise, none of them 0.
func run(first int, count int) []byte {
	b := make([]byte, count)
	for i := range b {
		b[i] = byte((first+i)%255 + 1)
	}
	return b
}

func sector(seq int, epoch int, body []byte) impl.Sector {
	return impl.Sector{Seq: seq, Epoch: epoch, Body: body}
}

func sectorBytes(t *testing.T, s impl.Sector) []byte {
	t.Helper()
	b, ok := impl.SectorBytes(s)
	if !ok || len(b) != 128 {
		t.Fatalf("SectorBytes(%v) = %d bytes, %v", s, len(b), ok)
	}
	return b
}

// rawSector lays a sector as the chapter lists its parts, right or not; what doesn't fit three bytes is cut.
func rawSector(seq int, epoch int, size int, body []byte, endSeq int, endEpoch int) []byte {
	b := make([]byte, 128)
	b[0] = 'J'
	b[1], b[2], b[3] = byte(seq/65536), byte(seq/256), byte(seq)
	b[4], b[5], b[6] = byte(epoch/65536), byte(epoch/256), byte(epoch)
	b[7] = byte(size)
	copy(b[8:], body)
	b[122], b[123], b[124] = byte(endSeq/65536), byte(endSeq/256), byte(endSeq)
	b[125], b[126], b[127] = byte(endEpoch/65536), byte(endEpoch/256), byte(endEpoch)
	return b
}

func sameSector(a impl.Sector, b impl.Sector) bool {
	return a.Seq == b.Seq && a.Epoch == b.Epoch && bytes.Equal(a.Body, b.Body)
}

func cell(b []byte) impl.Cell { return impl.Cell{Bytes: b} }

func write(at int, b []byte) impl.Write { return impl.Write{At: at, Bytes: b} }

// disk has n cells; those with an odd number hold bytes, the others none.
func disk(n int, dirty ...impl.Write) impl.Disk {
	d := impl.Disk{Cells: make([]impl.Cell, n), Dirty: dirty}
	for i := 1; i < n; i += 2 {
		d.Cells[i].Bytes = run(i, 128)
	}
	return d
}

// writes are n of them, from cell 0 on and round again.
func writes(n int, cells int) []impl.Write {
	var l []impl.Write
	for i := range n {
		l = append(l, write(i%cells, run(7*i, 128)))
	}
	return l
}

func copyOfDisk(d impl.Disk) impl.Disk {
	var c impl.Disk
	for _, x := range d.Cells {
		c.Cells = append(c.Cells, cell(slices.Clone(x.Bytes)))
	}
	for _, x := range d.Dirty {
		c.Dirty = append(c.Dirty, write(x.At, slices.Clone(x.Bytes)))
	}
	return c
}

func sameDisk(a impl.Disk, b impl.Disk) bool {
	sameCell := func(x impl.Cell, y impl.Cell) bool { return bytes.Equal(x.Bytes, y.Bytes) }
	sameWrite := func(x impl.Write, y impl.Write) bool { return x.At == y.At && bytes.Equal(x.Bytes, y.Bytes) }
	return slices.EqualFunc(a.Cells, b.Cells, sameCell) && slices.EqualFunc(a.Dirty, b.Dirty, sameWrite)
}

// blot writes over all of b, spare room too, to show what it shares.
func blot(b []byte) {
	b = b[:cap(b)]
	for i := range b {
		b[i] ^= 0xff
	}
}

// blotDisk writes over a whole disk, spare room too.
func blotDisk(d impl.Disk) {
	for _, c := range d.Cells {
		blot(c.Bytes)
	}
	for _, w := range d.Dirty {
		blot(w.Bytes)
	}
	cells, dirty := d.Cells[:cap(d.Cells)], d.Dirty[:cap(d.Dirty)]
	for i := range cells {
		cells[i] = cell([]byte{1})
	}
	for i := range dirty {
		dirty[i] = write(-7, []byte{7})
	}
}

// looksApart tells whether each list of d is alone in its memory: what is written over one changes no other.
func looksApart(d impl.Disk) bool {
	for i := range len(d.Cells) + len(d.Dirty) {
		was, got := copyOfDisk(d), d
		if i < len(d.Cells) {
			blot(d.Cells[i].Bytes)
			got.Cells = slices.Clone(d.Cells)
			got.Cells[i] = was.Cells[i]
		} else {
			at := i - len(d.Cells)
			blot(d.Dirty[at].Bytes)
			got.Dirty = slices.Clone(d.Dirty)
			got.Dirty[at] = was.Dirty[at]
		}
		if !sameDisk(got, was) {
			return false
		}
	}
	return true
}

// rightDisks are right, each at some edge of the chapter.
func rightDisks() map[string]impl.Disk {
	shared := run(3, 128)
	return map[string]impl.Disk{
		"one cell":               disk(1),
		"one cell, not nil":      {Cells: []impl.Cell{cell([]byte{})}, Dirty: []impl.Write{}},
		"one cell with bytes":    {Cells: []impl.Cell{cell(run(0, 128))}},
		"one write":              disk(1, writes(1, 1)...),
		"writes to one cell":     disk(2, writes(5, 1)...),
		"ten cells":              disk(10),
		"more writes than cells": disk(3, writes(20, 3)...),
		"last cell but one":      disk(599, write(598, run(4, 128))),
		"MaxSectors cells":       disk(600, write(0, run(4, 128)), write(599, run(5, 128)), write(0, run(6, 128))),
		"MaxDirty less 1":        disk(7, writes(599, 7)...),
		"MaxDirty writes":        disk(7, writes(600, 7)...),
		"all there is":           disk(600, writes(600, 600)...),
		"one memory for all":     {Cells: []impl.Cell{cell(shared), cell(shared), {}}, Dirty: []impl.Write{write(0, shared), write(2, shared)}},
		"memory that overlaps":   {Cells: []impl.Cell{cell(run(1, 256)[:128]), cell(run(1, 300)[9:137])}},
	}
}

// wrongDisks are wrong in one thing each, but for that they are right.
func wrongDisks() map[string]impl.Disk {
	wrong := map[string]impl.Disk{
		"nothing":                 {},
		"no cells, not nil":       {Cells: []impl.Cell{}},
		"no cells, but a write":   disk(0, write(0, run(0, 128))),
		"MaxSectors and 1 cells":  disk(601),
		"many cells":              disk(5000),
		"MaxDirty and 1 writes":   disk(5, writes(601, 5)...),
		"many writes":             disk(5, writes(2000, 5)...),
		"write without bytes":     disk(5, write(0, nil)),
		"write of one byte":       disk(5, write(0, run(0, 1))),
		"write of SecSize less 1": disk(5, write(0, run(0, 127))),
		"write of SecSize and 1":  disk(5, write(0, run(0, 129))),
		"At -1":                   disk(5, write(-1, run(0, 128))),
		"At past the cells":       disk(5, write(5, run(0, 128))),
		"At far past":             disk(5, write(599, run(0, 128))),
		"At the least int":        disk(5, write(leastInt, run(0, 128))),
		"At the greatest int":     disk(5, write(greatestInt, run(0, 128))),
		"last write wrong":        disk(5, append(writes(9, 5), write(5, run(0, 128)))...),
		"first write wrong":       disk(5, append([]impl.Write{write(0, run(0, 64))}, writes(9, 5)...)...),
	}
	for name, size := range map[string]int{"one byte": 1, "two bytes": 2, "SecSize less 1": 127, "SecSize and 1": 129, "twice SecSize": 256} {
		for _, at := range []int{0, 2, 4} {
			d := disk(5, writes(2, 5)...)
			d.Cells[at].Bytes = run(0, size)
			wrong["a cell of "+name+" at "+string(rune('0'+at))] = d
		}
	}
	return wrong
}

func eachDisk(t *testing.T, disks map[string]impl.Disk, look func(t *testing.T, d impl.Disk)) {
	for name, d := range disks {
		t.Run(name, func(t *testing.T) {
			was := copyOfDisk(d)
			look(t, d)
			if !sameDisk(d, was) {
				t.Error("the disk is changed")
			}
		})
	}
}

// wantCell is what comes to the cell at in the order of the writes, as the chapter says it, by itself.
func wantCell(d impl.Disk, at int, come func(i int) int) []byte {
	now := d.Cells[at].Bytes
	for i, w := range d.Dirty {
		n := come(i)
		if w.At != at || n < 1 {
			continue
		}
		next := make([]byte, 128)
		for j := range next {
			switch {
			case j < n:
				next[j] = w.Bytes[j]
			case len(now) > 0:
				next[j] = now[j]
			}
		}
		now = next
	}
	return now
}

func wantAfter(d impl.Disk, come func(i int) int) impl.Disk {
	var after impl.Disk
	for at := range d.Cells {
		after.Cells = append(after.Cells, cell(wantCell(d, at, come)))
	}
	return after
}

func wantCrash(d impl.Disk, keep []int) impl.Disk {
	return wantAfter(d, func(i int) int {
		if i >= len(keep) {
			return 0
		}
		return keep[i]
	})
}

func wantSync(d impl.Disk) impl.Disk {
	return wantAfter(d, func(i int) int { return 128 })
}

// keeps are as many as the writes of d, and fewer, and more, with every edge at some place.
func keeps(d impl.Disk) [][]int {
	edge := []int{leastInt, -1, 0, 1, 2, 64, 127, 128, 129, greatestInt}
	l := [][]int{nil, {}, {0}, {1}, {128}, {128, 0, 1}}
	for _, n := range edge {
		l = append(l, slices.Repeat([]int{n}, len(d.Dirty)))
	}
	for shift := range edge {
		var keep []int
		for i := range len(d.Dirty) + 3 {
			keep = append(keep, edge[(i*7+shift)%len(edge)])
		}
		l = append(l, keep, keep[:len(d.Dirty)], keep[:len(d.Dirty)/2], keep[:max(len(d.Dirty)-1, 0)])
	}
	return l
}
