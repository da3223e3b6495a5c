package tests

import (
	"bytes"
	"slices"
	"testing"

	"loop.example/g00400/impl"
)

// P10: a sector is read as it was written.
func TestP10Sectors(t *testing.T) {
	for _, seq := range []int{0, 1, 255, 256, 257, 598, 599} {
		for _, epoch := range []int{1, 2, 255, 256, 65535, 65536, 65537, 258 * 256, 15999999, 16000000} {
			for _, body := range [][]byte{nil, {}, {0}, {1}, {'J'}, make([]byte, 50), run(3, 50), run(0, 99), make([]byte, 99), run(0, 100), make([]byte, 100), slices.Repeat([]byte{255}, 100)} {
				s := sector(seq, epoch, body)
				b := sectorBytes(t, s)
				if got, ok := impl.SectorRead(b); !ok || !sameSector(got, s) {
					t.Errorf("SectorRead of the bytes of %v = %v, %v", s, got, ok)
				}
				if want := rawSector(seq, epoch, len(body), body, seq, epoch); !bytes.Equal(b, want) {
					t.Errorf("SectorBytes(%v) = %v; want %v", s, b, want)
				}
			}
		}
	}
	for size := 0; size <= 100; size++ {
		s := sector(size, size+1, run(size, size))
		if got, ok := impl.SectorRead(sectorBytes(t, s)); !ok || !sameSector(got, s) {
			t.Errorf("SectorRead of a body of %d bytes = %v, %v", size, got, ok)
		}
	}
}

// P10: bytes that are no sector's are read as none.
func TestP10NoSectors(t *testing.T) {
	body := run(1, 20)
	right := rawSector(300, 70000, 20, body, 300, 70000)
	if _, ok := impl.SectorRead(right); !ok {
		t.Fatal("the bytes that the others are made of are no sector's")
	}
	full := run(1, 128)
	none := map[string][]byte{
		"nil":                            nil,
		"no byte":                        {},
		"one byte":                       {'J'},
		"the head alone":                 right[:8],
		"head and body":                  right[:28],
		"up to the end":                  right[:122],
		"one too few":                    right[:127],
		"without the first":              right[1:],
		"one too many":                   append(slices.Clone(right), 0),
		"twice":                          append(slices.Clone(right), right...),
		"one ahead":                      append([]byte{'J'}, right...),
		"all 0":                          make([]byte, 128),
		"all 255":                        slices.Repeat([]byte{255}, 128),
		"all 'J'":                        slices.Repeat([]byte{'J'}, 128),
		"length above MaxBody":           rawSector(300, 70000, 101, full[:101], 300, 70000),
		"length above, body all 0":       rawSector(300, 70000, 101, nil, 300, 70000),
		"length up to the end":           rawSector(300, 70000, 114, full[:114], 300, 70000),
		"length into the end":            rawSector(300, 70000, 115, full[:114], 300, 70000),
		"length to the last byte":        rawSector(300, 70000, 120, full[:114], 300, 70000),
		"length past the last byte":      rawSector(300, 70000, 121, full[:114], 300, 70000),
		"length 255":                     rawSector(300, 70000, 255, full[:114], 300, 70000),
		"length one too little":          rawSector(300, 70000, 19, body, 300, 70000),
		"length 0 with a body":           rawSector(300, 70000, 0, body, 300, 70000),
		"a byte behind a body of 100":    rawSector(300, 70000, 100, full[:101], 300, 70000),
		"a byte directly behind":         rawSector(300, 70000, 20, full[:21], 300, 70000),
		"Seq less at the end":            rawSector(300, 70000, 20, body, 299, 70000),
		"Seq greater at the end":         rawSector(300, 70000, 20, body, 301, 70000),
		"Seq 256 off at the end":         rawSector(300, 70000, 20, body, 44, 70000),
		"Seq not right at the end":       rawSector(300, 70000, 20, body, 600, 70000),
		"Epoch less at the end":          rawSector(300, 70000, 20, body, 300, 69999),
		"Epoch greater at the end":       rawSector(300, 70000, 20, body, 300, 70001),
		"Epoch 65536 off at the end":     rawSector(300, 70000, 20, body, 300, 70000-65536),
		"Epoch 0 at the end":             rawSector(300, 70000, 20, body, 300, 0),
		"no end":                         rawSector(300, 70000, 20, body, 0, 0),
		"ends change places":             rawSector(300, 301, 20, body, 301, 300),
		"Seq MaxSectors at both ends":    rawSector(600, 70000, 20, body, 600, 70000),
		"greatest Seq at both ends":      rawSector(1<<24-1, 70000, 20, body, 1<<24-1, 70000),
		"Epoch 0 at both ends":           rawSector(300, 0, 20, body, 300, 0),
		"Epoch MaxEpoch and 1 at both":   rawSector(300, 16000001, 20, body, 300, 16000001),
		"greatest Epoch at both ends":    rawSector(300, 1<<24-1, 20, body, 300, 1<<24-1),
		"Seq 0 and Epoch 0 at both ends": rawSector(0, 0, 0, nil, 0, 0),
	}
	for _, first := range []byte{0, 'I', 'K', 'j', 'E', 'J' | 128, 255} {
		other := slices.Clone(right)
		other[0] = first
		none["first byte "+string(rune(first))] = other
	}
	for name, b := range none {
		was := slices.Clone(b)
		if got, ok := impl.SectorRead(b); ok || !sameSector(got, impl.Sector{}) {
			t.Errorf("%s: SectorRead = %v, %v", name, got, ok)
		}
		if !bytes.Equal(b, was) {
			t.Errorf("%s: the bytes are changed", name)
		}
	}
}

// P10: with any one byte changed it is no sector's, or a sector's with just these bytes (of another body, or of one with bytes 0 behind it).
func TestP10OneByteChanged(t *testing.T) {
	for _, s := range []impl.Sector{sector(0, 1, nil), sector(300, 70000, run(1, 20)), sector(599, 16000000, run(9, 100))} {
		for at := range 128 {
			for _, by := range []byte{1, 2, 16, 128, 255} {
				b := sectorBytes(t, s)
				b[at] ^= by
				got, ok := impl.SectorRead(b)
				inBody := at >= 8 && at < 8+len(s.Body)
				longer := at == 7 && int(b[7]) > len(s.Body) && b[7] <= 100
				if ok != (inBody || longer) {
					t.Errorf("%v with byte %d changed: SectorRead = %v, %v", s, at, got, ok)
				}
				if ok && (!bytes.Equal(sectorBytes(t, got), b) || sameSector(got, s)) {
					t.Errorf("%v with byte %d changed: read as %v", s, at, got)
				}
			}
		}
	}
}

// P13: what a sector's fields may be; SectorBytes answers just for these.
func TestP13SectorOk(t *testing.T) {
	seqs := map[int]bool{leastInt: false, -600: false, -1: false, 0: true, 1: true, 300: true, 598: true, 599: true, 600: false, 601: false, 1 << 24: false, 1<<32 + 1: false, greatestInt: false}
	epochs := map[int]bool{leastInt: false, -1: false, 0: false, 1: true, 2: true, 15999999: true, 16000000: true, 16000001: false, 1<<24 - 1: false, 1 << 24: false, 1<<24 + 1: false, 1<<32 + 1: false, greatestInt: false}
	sizes := map[int]bool{0: true, 1: true, 99: true, 100: true, 101: false, 128: false, 255: false, 256: false, 257: false, 100000: false}
	for seq, seqOk := range seqs {
		for epoch, epochOk := range epochs {
			for size, sizeOk := range sizes {
				s, want := sector(seq, epoch, run(0, size)), seqOk && epochOk && sizeOk
				if got := impl.SectorOk(s); got != want {
					t.Errorf("SectorOk with Seq %d, Epoch %d and %d bytes is %v", seq, epoch, size, got)
				}
				b, ok := impl.SectorBytes(s)
				if ok != want || want && len(b) != 128 || !want && len(b) != 0 {
					t.Errorf("SectorBytes with Seq %d, Epoch %d and %d bytes = %d bytes, %v", seq, epoch, size, len(b), ok)
				}
				if !bytes.Equal(s.Body, run(0, size)) {
					t.Errorf("a body of %d bytes is changed", size)
				}
			}
		}
	}
	if impl.SectorOk(impl.Sector{}) {
		t.Error("SectorOk of nothing is true")
	}
}

// P13: where each part of a sector lies.
func TestP13SectorBytes(t *testing.T) {
	got := sectorBytes(t, sector(0x0102, 0x030405, []byte("body")))
	want := "J\x00\x01\x02\x03\x04\x05\x04body" + string(make([]byte, 110)) + "\x00\x01\x02\x03\x04\x05"
	if string(got) != want {
		t.Errorf("SectorBytes = %q; want %q", got, want)
	}
	got = sectorBytes(t, sector(599, 16000000, run(0, 100)))
	want = "J\x00\x02\x57\xf4\x24\x00\x64" + string(run(0, 100)) + string(make([]byte, 14)) + "\x00\x02\x57\xf4\x24\x00"
	if string(got) != want {
		t.Errorf("SectorBytes = %q; want %q", got, want)
	}
}

// P13: sectors and their bytes share no memory.
func TestP13SectorNewMemory(t *testing.T) {
	for _, size := range []int{0, 1, 50, 99, 100} {
		room := run(0, 128)
		was := slices.Clone(room)
		s := sector(7, 8, room[:size])
		b := sectorBytes(t, s)
		want := slices.Clone(b)
		blot(room)
		if !bytes.Equal(b, want) {
			t.Errorf("%d bytes: what SectorBytes answered changes with the body", size)
		}
		blot(room)
		read, _ := impl.SectorRead(b)
		blot(b)
		if !bytes.Equal(room, was) {
			t.Errorf("%d bytes: the body changes with what SectorBytes answered", size)
		}
		if !sameSector(read, s) {
			t.Errorf("%d bytes: what SectorRead answered changes with the bytes", size)
		}
		blot(b)
		blot(read.Body)
		if !bytes.Equal(b, want) {
			t.Errorf("%d bytes: the bytes change with what SectorRead answered", size)
		}
	}
	one, two := sectorBytes(t, sector(1, 1, nil)), sectorBytes(t, sector(1, 1, nil))
	blot(one)
	if two[0] != 'J' {
		t.Error("two answers share memory")
	}
}

// P13: bytes of every length, and many made by chance, are read as the sector that has them or as none.
func TestP13SectorReadIsTheOther(t *testing.T) {
	d := dice(11)
	for size := range 300 {
		b := rawSector(3, 4, 5, run(0, 5), 3, 4)
		b = append(b, make([]byte, 200)...)[:size]
		if _, ok := impl.SectorRead(b); ok != (size == 128) {
			t.Errorf("SectorRead of %d bytes is %v", size, ok)
		}
	}
	count := 0
	for range 20000 {
		size := d.below(130)
		body := run(d.below(255), min(size, 114))
		if d.below(4) == 0 {
			body = run(0, d.below(115))
		}
		seq, epoch := d.below(700), d.below(3)
		b := rawSector(seq, epoch, size, body, seq+d.below(8)/7, epoch+d.below(8)/7)
		got, ok := impl.SectorRead(b)
		back, _ := impl.SectorBytes(got)
		if ok && !bytes.Equal(back, b) || !ok && !sameSector(got, impl.Sector{}) {
			t.Errorf("SectorRead(%v) = %v, %v", b, got, ok)
		}
		want := seq < 600 && epoch > 0 && size <= 100 && bytes.Equal(b, rawSector(seq, epoch, size, b[8:8+size], seq, epoch))
		if ok != want {
			t.Errorf("SectorRead(%v) is %v", b, ok)
		}
		if ok {
			count++
		}
	}
	if count < 1000 || count > 19000 {
		t.Errorf("of 20000 made by chance %d are right: the test looks at one side only", count)
	}
}
