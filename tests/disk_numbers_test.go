package tests

import (
	"bytes"
	"slices"
	"testing"

	"loop.example/g00400/impl"
)

// power is 256 to the size, for sizes of which it fits an int.
func power(size int) int {
	n := 1
	for range size {
		n *= 256
	}
	return n
}

// fitting are numbers of size bytes: both ends, and some between them.
func fitting(size int) []int {
	end := power(size)
	l := []int{0, 1, 2, 127, 128, 254, 255, end / 2, end/2 - 1, end / 3, end / 7, end - 256, end - 255, end - 2, end - 1}
	for s := 1; s < size; s++ {
		l = append(l, power(s)-1, power(s), power(s)+1)
	}
	return l
}

// P10: a number is read as it was written, in every size, behind bytes that were there.
func TestP10Numbers(t *testing.T) {
	for size := 1; size <= 7; size++ {
		for _, n := range fitting(size) {
			for _, before := range [][]byte{nil, {}, {0}, {255}, run(5, 9), run(0, 128)} {
				b, ok := impl.PutNum(before, n, size)
				if !ok || len(b) != len(before)+size || !bytes.Equal(b[:len(before)], before) {
					t.Errorf("PutNum(%v, %d, %d) = %v, %v", before, n, size, b, ok)
					continue
				}
				if got, ok := impl.GetNum(b, len(before), size); !ok || got != n {
					t.Errorf("GetNum of %d in %d bytes = %d, %v", n, size, got, ok)
				}
			}
		}
	}
}

// P10: one behind the other they are read at their places.
func TestP10NumbersInARow(t *testing.T) {
	var b []byte
	var at []int
	for size := 1; size <= 7; size++ {
		for _, n := range fitting(size) {
			at = append(at, len(b))
			b, _ = impl.PutNum(b, n, size)
		}
	}
	for size := 1; size <= 7; size++ {
		for _, n := range fitting(size) {
			if got, ok := impl.GetNum(b, at[0], size); !ok || got != n {
				t.Errorf("GetNum at %d of %d bytes = %d, %v; want %d", at[0], size, got, ok, n)
			}
			at = at[1:]
		}
	}
}

// P13: the highest byte comes first.
func TestP13PutNum(t *testing.T) {
	for _, c := range []struct {
		b    []byte
		n    int
		size int
		want []byte
	}{
		{nil, 0, 1, []byte{0}},
		{nil, 255, 1, []byte{255}},
		{nil, 0, 7, []byte{0, 0, 0, 0, 0, 0, 0}},
		{nil, 1<<56 - 1, 7, []byte{255, 255, 255, 255, 255, 255, 255}},
		{nil, 0x01020304050607, 7, []byte{1, 2, 3, 4, 5, 6, 7}},
		{[]byte{}, 0xfedcba, 3, []byte{0xfe, 0xdc, 0xba}},
		{[]byte{9}, 258, 2, []byte{9, 1, 2}},
		{[]byte{9, 8}, 258, 4, []byte{9, 8, 0, 0, 1, 2}},
		{[]byte{0, 0}, 1, 1, []byte{0, 0, 1}},
	} {
		if got, ok := impl.PutNum(c.b, c.n, c.size); !ok || !bytes.Equal(got, c.want) {
			t.Errorf("PutNum(%v, %d, %d) = %v, %v; want %v", c.b, c.n, c.size, got, ok, c.want)
		}
	}
}

// P13: what PutNum refuses, it refuses with nothing.
func TestP13PutNumRefuses(t *testing.T) {
	refused := func(n int, size int) {
		for _, before := range [][]byte{nil, {1, 2}} {
			if got, ok := impl.PutNum(before, n, size); ok || len(got) != 0 {
				t.Errorf("PutNum(%v, %d, %d) = %v, %v", before, n, size, got, ok)
			}
		}
	}
	for size := 1; size <= 7; size++ {
		for _, n := range []int{leastInt, leastInt + 1, -power(size), -256, -1, power(size), power(size) + 1, greatestInt - 1, greatestInt} {
			refused(n, size)
		}
	}
	for _, size := range []int{leastInt, leastInt + 1, -256, -8, -7, -1, 0, 8, 9, 15, 16, 63, 64, 1 << 61, greatestInt - 1, greatestInt} {
		for _, n := range []int{leastInt, -1, 0, 1, 255, 1 << 56, greatestInt} {
			refused(n, size)
		}
	}
}

// P13: what PutNum answers is new memory, whatever room is behind b.
func TestP13PutNumNewMemory(t *testing.T) {
	room := run(0, 40)
	was := slices.Clone(room)
	for _, b := range [][]byte{room[:0], room[:1], room[3:9], room[:33], room[:40]} {
		before := slices.Clone(b)
		got, ok := impl.PutNum(b, 0x0102, 7)
		if !ok || !bytes.Equal(room, was) {
			t.Errorf("PutNum behind %d bytes: %v, and they are %v", len(b), ok, room)
		}
		keep := slices.Clone(got)
		blot(room)
		if !bytes.Equal(got, keep) || !bytes.Equal(got, append(before, 0, 0, 0, 0, 0, 1, 2)) {
			t.Errorf("PutNum behind %d bytes shares them", len(b))
		}
		blot(room)
		blot(got)
		if !bytes.Equal(room, was) {
			t.Errorf("what PutNum answered shares the %d bytes", len(b))
		}
	}
	one, _ := impl.PutNum(room[:3], 1, 1)
	two, _ := impl.PutNum(room[:3], 2, 1)
	if one[3] != 1 || two[3] != 2 {
		t.Error("two answers share memory")
	}
	if got, ok := impl.PutNum(room, -1, 1); ok || len(got) != 0 || !bytes.Equal(room, was) {
		t.Error("what is refused changes b")
	}
}

// P13: GetNum at each place and size of some bytes.
func TestP13GetNum(t *testing.T) {
	for _, b := range [][]byte{nil, {}, {0}, {255}, {1, 2}, {0, 0, 0}, run(200, 6), run(9, 7), slices.Repeat([]byte{255}, 7), run(77, 8), run(0, 20), slices.Repeat([]byte{255}, 15)} {
		was := slices.Clone(b)
		for size := -2; size <= 10; size++ {
			for at := -9; at <= len(b)+9; at++ {
				want, right := 0, size >= 1 && size <= 7 && at >= 0 && at+size <= len(b)
				if right {
					for _, x := range b[at : at+size] {
						want = want*256 + int(x)
					}
				}
				if got, ok := impl.GetNum(b, at, size); got != want || ok != right {
					t.Errorf("GetNum(%v, %d, %d) = %d, %v; want %d, %v", b, at, size, got, ok, want, right)
				}
			}
		}
		if !bytes.Equal(b, was) {
			t.Errorf("GetNum changes %v to %v", was, b)
		}
	}
}

// P13: places and sizes that wrap round when they are put together, and room behind the end, count for nothing.
func TestP13GetNumRefuses(t *testing.T) {
	far := []int{leastInt, leastInt + 1, leastInt + 7, -1 << 32, -8, -1, 20, 21, 1 << 32, greatestInt - 7, greatestInt - 6, greatestInt - 1, greatestInt}
	for _, b := range [][]byte{nil, run(0, 20), run(0, 60)[:20]} {
		for _, at := range far {
			for _, size := range []int{leastInt, -1, 0, 1, 2, 3, 4, 5, 6, 7, 8, greatestInt} {
				if got, ok := impl.GetNum(b, at, size); ok || got != 0 {
					t.Errorf("GetNum of %d bytes at %d, %d = %d, %v", len(b), at, size, got, ok)
				}
			}
		}
		for _, size := range []int{leastInt, leastInt + 1, -1 << 32, -1, 0, 8, 9, 16, 20, 1 << 32, greatestInt - 1, greatestInt} {
			for at := -1; at <= 21; at++ {
				if got, ok := impl.GetNum(b, at, size); ok || got != 0 {
					t.Errorf("GetNum of %d bytes at %d, %d = %d, %v", len(b), at, size, got, ok)
				}
			}
		}
		for size := 2; size <= 7; size++ {
			if got, ok := impl.GetNum(b, 21-size, size); ok || got != 0 {
				t.Errorf("GetNum of %d bytes that end one too early = %d, %v", size, got, ok)
			}
		}
	}
	if got, ok := impl.GetNum(run(0, 20), 13, 7); !ok || got == 0 {
		t.Error("the last seven bytes are refused")
	}
}
