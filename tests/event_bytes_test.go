package tests

import (
	"bytes"
	"slices"
	"testing"

	"loop.example/g00400/impl"
)

// P10: an event is read from bytes as it was written, and no two are written alike.
func TestP10EventBytes(t *testing.T) {
	for _, f := range eventForms() {
		seen := map[string]impl.Event{}
		for _, e := range f.events() {
			b, ok := impl.EventBody(e)
			if !ok || !bytes.Equal(b, rawBody(e)) {
				t.Fatalf("EventBody(%+v) = %v, %v; want %v", e, b, ok, rawBody(e))
			}
			if other, ok := seen[string(b)]; ok {
				t.Errorf("%+v and %+v have the same bytes", other, e)
			}
			seen[string(b)] = e
			if got, ok := impl.BodyEvent(b); !ok || got != e {
				t.Fatalf("BodyEvent of the bytes of %+v = %+v, %v", e, got, ok)
			}
		}
		if len(seen) == 0 {
			t.Errorf("no events of kind %d", f.kind)
		}
	}
}

// P10: bytes that are no event's are read as none; for every kind.
func TestP10BytesOfNoEvent(t *testing.T) {
	none := func(what string, b []byte) {
		t.Helper()
		if got, ok := impl.BodyEvent(b); ok || got != (impl.Event{}) {
			t.Errorf("%s: BodyEvent(%v) = %+v, %v", what, b, got, ok)
		}
	}
	for _, f := range eventForms() {
		for _, e := range f.ends() {
			right := rawBody(e)
			if got, ok := impl.BodyEvent(right); !ok || got != e {
				t.Fatalf("BodyEvent(%v) = %+v, %v; want %+v", right, got, ok, e)
			}
			for size := range 22 {
				none("too few", right[:size])
				none("the first ones missing", right[22-size:])
			}
			none("one too many", append(slices.Clone(right), 0))
			none("one too many", append(slices.Clone(right), 1))
			none("one ahead", append([]byte{'E'}, right...))
			none("twice", append(slices.Clone(right), right...))
			none("a sector's length", append(slices.Clone(right), make([]byte, 106)...))
			for _, first := range []byte{0, 1, 'e', 'D', 'F', 'B', 'J', 255} {
				none("another first byte", append([]byte{first}, right[1:]...))
			}
			for _, kind := range []byte{0, 12, 13, 128 + 8, 255} {
				none("another kind", rawBody(withField(e, "Kind", int(kind))))
			}
			for last := 2; last < 256; last++ {
				b := slices.Clone(right)
				b[21] = byte(last)
				none("another last byte", b)
			}
		}
	}
	none("nil", nil)
	none("no byte", []byte{})
	none("one byte", []byte{'E'})
	none("all 0", make([]byte, 22))
	none("all 255", slices.Repeat([]byte{255}, 22))
	none("all 'E'", slices.Repeat([]byte{'E'}, 22))
	none("the text", []byte("tick"))
	none("a text of 22 bytes", []byte("launch 7 1 2 500 60000"))
}

// P10: bytes of fields that aren't right, or are another kind's.
func TestP10BytesOfWrongFields(t *testing.T) {
	for _, e := range []impl.Event{
		{Kind: impl.EvDeposit},
		{Kind: impl.EvDeposit, Amt: top + 1},
		{Kind: impl.EvDeposit, Amt: 1<<56 - 1},
		{Kind: impl.EvDeposit, Amt: 1, Key: 1},
		{Kind: impl.EvDeposit, Amt: 1, Ch: 1},
		{Kind: impl.EvDeposit, Amt: 1, To: 1},
		{Kind: impl.EvDeposit, Amt: 1, Fee: 1},
		{Kind: impl.EvDeposit, Amt: 1, Yes: true},
		{Kind: impl.EvOpen, Ch: 0, Amt: 1},
		{Kind: impl.EvOpen, Ch: 100, Amt: 1},
		{Kind: impl.EvOpen, Ch: 255, Amt: 1},
		{Kind: impl.EvOpen, Ch: 1, Amt: 0},
		{Kind: impl.EvOpen, Ch: 1, Amt: 1, Fee: top + 1},
		{Kind: impl.EvOpen, Ch: 1, To: 2, Amt: 1},
		{Kind: impl.EvClose, Fee: 1},
		{Kind: impl.EvClose, Ch: 1, Amt: 1},
		{Kind: impl.EvClose, Ch: 1, Fee: top + 1},
		{Kind: impl.EvPrice, Ch: 1, Fee: 1000001},
		{Kind: impl.EvPrice, Ch: 1, Amt: top + 1},
		{Kind: impl.EvPrice, Ch: 1, Yes: true},
		{Kind: impl.EvAdmit, Key: 1, Ch: 1, To: 1, Amt: 1},
		{Kind: impl.EvAdmit, Key: 1, Ch: 1, To: 0, Amt: 1},
		{Kind: impl.EvAdmit, Key: 1, Ch: 1, To: 100, Amt: 1},
		{Kind: impl.EvAdmit, Key: 0, Ch: 1, To: 2, Amt: 1},
		{Kind: impl.EvAdmit, Key: 1000001, Ch: 1, To: 2, Amt: 1},
		{Kind: impl.EvAdmit, Key: 1, Ch: 1, To: 2, Amt: 0},
		{Kind: impl.EvAdmit, Key: 1, Ch: 1, To: 2, Amt: 1, Fee: 1},
		{Kind: impl.EvFulfill},
		{Kind: impl.EvFulfill, Key: 1<<24 - 1},
		{Kind: impl.EvFulfill, Key: 1, Yes: true},
		{Kind: impl.EvFail, Key: 1, To: 1},
		{Kind: impl.EvTick, Key: 1},
		{Kind: impl.EvTick, Ch: 1},
		{Kind: impl.EvTick, To: 1},
		{Kind: impl.EvTick, Amt: 1},
		{Kind: impl.EvTick, Fee: 1},
		{Kind: impl.EvTick, Yes: true},
		{Kind: impl.EvLaunch, Key: 1, Ch: 2, To: 2, Amt: 1},
		{Kind: impl.EvLaunch, Key: 1, Ch: 1, To: 2, Amt: 1, Fee: top + 1},
		{Kind: impl.EvLaunch, Key: 1, Ch: 1, To: 2, Amt: 1, Yes: true},
		{Kind: impl.EvArrive, Key: 1, Amt: 1},
		{Kind: impl.EvLost, Key: 1, Fee: 1},
	} {
		b := rawBody(e)
		if got, ok := impl.BodyEvent(b); ok || got != (impl.Event{}) {
			t.Errorf("BodyEvent(%v) = %+v, %v; the fields are %+v", b, got, ok, e)
		}
	}
}

// P10: with any one byte changed it is no event's, or another event's with just these bytes.
func TestP10EventByteChanged(t *testing.T) {
	right, wrong := 0, 0
	for _, f := range eventForms() {
		for _, e := range f.ends() {
			for at := range 22 {
				b := rawBody(e)
				was := b[at]
				for n := range 256 {
					b[at] = byte(n)
					if lookBody(t, b) {
						right++
					} else {
						wrong++
					}
					if got, ok := impl.BodyEvent(b); ok && (got == e) != (b[at] == was) {
						t.Errorf("%+v with byte %d as %d is read as %+v", e, at, n, got)
					}
				}
			}
		}
	}
	if right < 1000 || wrong < 1000 {
		t.Errorf("%d right ones and %d wrong ones: the test looks at one side only", right, wrong)
	}
}

// P13: where each part of an event lies, written out.
func TestP13EventBody(t *testing.T) {
	for _, c := range []struct {
		e    impl.Event
		want string
	}{
		{impl.Event{Kind: impl.EvDeposit, Amt: 0x03020304050607}, "E\x01\x00\x00\x00\x00\x00\x03\x02\x03\x04\x05\x06\x07\x00\x00\x00\x00\x00\x00\x00\x00"},
		{impl.Event{Kind: impl.EvOpen, Ch: 99, Amt: 256, Fee: 1 << 50}, "E\x02\x00\x00\x00\x63\x00\x00\x00\x00\x00\x00\x01\x00\x04\x00\x00\x00\x00\x00\x00\x00"},
		{impl.Event{Kind: impl.EvClose, Ch: 1, Fee: 65535}, "E\x03\x00\x00\x00\x01\x00\x00\x00\x00\x00\x00\x00\x00\x00\x00\x00\x00\x00\xff\xff\x00"},
		{impl.Event{Kind: impl.EvPrice, Ch: 10, Amt: 3, Fee: 1000000}, "E\x04\x00\x00\x00\x0a\x00\x00\x00\x00\x00\x00\x00\x03\x00\x00\x00\x00\x0f\x42\x40\x00"},
		{impl.Event{Kind: impl.EvAdmit, Key: 1000000, Ch: 17, To: 42, Amt: 1, Yes: true}, "E\x05\x0f\x42\x40\x11\x2a\x00\x00\x00\x00\x00\x00\x01\x00\x00\x00\x00\x00\x00\x00\x01"},
		{impl.Event{Kind: impl.EvAdmit, Key: 1000000, Ch: 17, To: 42, Amt: 1}, "E\x05\x0f\x42\x40\x11\x2a\x00\x00\x00\x00\x00\x00\x01\x00\x00\x00\x00\x00\x00\x00\x00"},
		{impl.Event{Kind: impl.EvFulfill, Key: 0x010203}, "E\x06\x01\x02\x03" + string(make([]byte, 17))},
		{impl.Event{Kind: impl.EvFail, Key: 256}, "E\x07\x00\x01\x00" + string(make([]byte, 17))},
		{impl.Event{Kind: impl.EvTick}, "E\x08" + string(make([]byte, 20))},
		{impl.Event{Kind: impl.EvLaunch, Key: 7, Ch: 1, To: 2, Amt: 500, Fee: 6}, "E\x09\x00\x00\x07\x01\x02\x00\x00\x00\x00\x00\x01\xf4\x00\x00\x00\x00\x00\x00\x06\x00"},
		{impl.Event{Kind: impl.EvArrive, Key: 1}, "E\x0a\x00\x00\x01" + string(make([]byte, 17))},
		{impl.Event{Kind: impl.EvLost, Key: 65536}, "E\x0b\x01\x00\x00" + string(make([]byte, 17))},
	} {
		if got, ok := impl.EventBody(c.e); !ok || string(got) != c.want {
			t.Errorf("EventBody(%+v) = %q, %v; want %q", c.e, got, ok, c.want)
		}
		if got, ok := impl.BodyEvent([]byte(c.want)); !ok || got != c.e {
			t.Errorf("BodyEvent(%q) = %+v, %v; want %+v", c.want, got, ok, c.e)
		}
	}
}

// P13: the body fits a sector and comes through it.
func TestP13EventBodyInASector(t *testing.T) {
	for _, f := range eventForms() {
		for _, e := range f.ends() {
			body, _ := impl.EventBody(e)
			s, ok := impl.SectorRead(sectorBytes(t, sector(1, 2, body)))
			if got, also := impl.BodyEvent(s.Body); !ok || !also || got != e {
				t.Errorf("%+v comes out of its sector as %+v, %v", e, got, also)
			}
		}
	}
}

// P13: events and their bytes share no memory, and no argument is changed.
func TestP13EventNewMemory(t *testing.T) {
	for _, f := range eventForms() {
		for _, e := range f.ends() {
			was := e
			one, _ := impl.EventBody(e)
			two, _ := impl.EventBody(e)
			blot(one)
			if e != was || !bytes.Equal(two, rawBody(was)) {
				t.Errorf("%+v: a change of what EventBody answered changes %+v or the other answer %v", was, e, two)
			}
			room := append(rawBody(e), run(0, 20)...)
			b, before := room[:22], slices.Clone(room)
			got, ok := impl.BodyEvent(b)
			if !ok || !bytes.Equal(room, before) {
				t.Errorf("%+v: BodyEvent is %v, and the bytes are %v", was, ok, room)
			}
			blot(room)
			if got != was {
				t.Errorf("%+v: what BodyEvent answered changes with the bytes to %+v", was, got)
			}
			blot(room)
			got.Amt, got.Key, got.Yes = -1, -1, !got.Yes
			if !bytes.Equal(room, before) {
				t.Errorf("%+v: a change of what BodyEvent answered changes the bytes", was)
			}
		}
	}
}

// P13: bytes made by chance, of every length, are read as the event that has them or as none.
func TestP13BodyEventByChance(t *testing.T) {
	d := dice(23)
	right := 0
	for range 50000 {
		f := eventForms()[d.below(11)]
		b := rawBody(f.ends()[d.below(3)])
		for range d.below(4) {
			b[d.below(22)] = byte(d.below(3) * d.below(128))
		}
		switch d.below(12) {
		case 0:
			b = b[:d.below(23)]
		case 1:
			b = append(b, run(0, d.below(4))...)
		}
		if lookBody(t, b) {
			right++
		}
	}
	if right < 5000 || right > 45000 {
		t.Errorf("of 50000 made by chance %d are right: the test looks at one side only", right)
	}
	for size := range 200 {
		lookBody(t, make([]byte, size))
		lookBody(t, run(d.below(255), size))
		lookBody(t, append(rawBody(impl.Event{Kind: impl.EvTick}), make([]byte, 200)...)[:size])
	}
}
