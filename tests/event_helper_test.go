package tests

import (
	"regexp"
	"strconv"
	"strings"
	"testing"

	"loop.example/g00400/impl"
)

// span is what a field may be, both ends among it; a field that a kind doesn't have is from 0 to 0.
type span struct {
	lo int
	hi int
}

// eventForm is what the chapter says of one kind of event, by itself.
type eventForm struct {
	kind   int
	layout string
	key    span
	ch     span
	to     span
	amt    span
	fee    span
	yes    bool
}

func eventForms() []eventForm {
	key, ch, zero, above, ppm := span{1, 1000000}, span{1, 99}, span{0, 1 << 50}, span{1, 1 << 50}, span{0, 1000000}
	return []eventForm{
		{kind: 1, layout: "deposit AMT", amt: above},
		{kind: 2, layout: "open CH AMT FEE", ch: ch, amt: above, fee: zero},
		{kind: 3, layout: "close CH FEE", ch: ch, fee: zero},
		{kind: 4, layout: "price CH AMT FEE", ch: ch, amt: zero, fee: ppm},
		{kind: 5, layout: "admit KEY CH TO AMT yes|no", key: key, ch: ch, to: ch, amt: above, yes: true},
		{kind: 6, layout: "fulfill KEY", key: key},
		{kind: 7, layout: "fail KEY", key: key},
		{kind: 8, layout: "tick"},
		{kind: 9, layout: "launch KEY CH TO AMT FEE", key: key, ch: ch, to: ch, amt: above, fee: zero},
		{kind: 10, layout: "arrive KEY", key: key},
		{kind: 11, layout: "lost KEY", key: key},
	}
}

func (s span) has(n int) bool { return s.lo <= n && n <= s.hi }

// inside are numbers of the span: its ends and those beside them, some between, and those at which one byte more is needed.
func (s span) inside() []int {
	var l []int
	for _, n := range []int{s.lo, s.lo + 1, 50, 255, 256, 257, 65535, 65536, 1 << 24, 1<<32 + 1, 1 << 40, 1<<48 - 1, s.hi / 2, s.hi - 1, s.hi} {
		if s.has(n) && (len(l) == 0 || n > l[len(l)-1]) {
			l = append(l, n)
		}
	}
	return l
}

// events are right, of this kind, with each field at each number of inside together with those of the others.
func (f eventForm) events() []impl.Event {
	var l []impl.Event
	for _, key := range f.key.inside() {
		for _, ch := range f.ch.inside() {
			for _, to := range f.to.inside() {
				for _, amt := range f.amt.inside() {
					for _, fee := range f.fee.inside() {
						e := impl.Event{Kind: f.kind, Key: key, Ch: ch, To: to, Amt: amt, Fee: fee}
						if f.to.hi > 0 && ch == to {
							continue
						}
						l = append(l, e)
						if e.Yes = true; f.yes {
							l = append(l, e)
						}
					}
				}
			}
		}
	}
	return l
}

// plain is one right event of this kind; no two of the fields that it has are alike, nor two bytes of one, so that one in the place of another shows.
func (f eventForm) plain() impl.Event {
	pick := func(s span, n int) int {
		if s.hi == 0 {
			return 0
		}
		return n
	}
	return impl.Event{
		Kind: f.kind, Key: pick(f.key, 0x030201), Ch: pick(f.ch, 17), To: pick(f.to, 42),
		Amt: pick(f.amt, 0x01020304050607), Fee: pick(f.fee, 0x0a0b0c), Yes: f.yes,
	}
}

// ends are right events of this kind with all fields at their least and all at their greatest, and the plain one.
func (f eventForm) ends() []impl.Event {
	least := impl.Event{Kind: f.kind, Key: f.key.lo, Ch: f.ch.lo, To: f.to.lo, Amt: f.amt.lo, Fee: f.fee.lo}
	most := impl.Event{Kind: f.kind, Key: f.key.hi, Ch: f.ch.hi, To: f.to.hi, Amt: f.amt.hi, Fee: f.fee.hi, Yes: f.yes}
	if f.to.hi > 0 {
		least.To, most.Ch = 2, 98
	}
	return []impl.Event{least, most, f.plain()}
}

func wantEventOk(e impl.Event) bool {
	for _, f := range eventForms() {
		if f.kind != e.Kind {
			continue
		}
		different := f.to.hi == 0 || e.Ch != e.To
		fields := f.key.has(e.Key) && f.ch.has(e.Ch) && f.to.has(e.To) && f.amt.has(e.Amt) && f.fee.has(e.Fee)
		return fields && different && (f.yes || !e.Yes)
	}
	return false
}

// rawText writes the fields into the chapter's layout of the kind, right or not; the empty text for a kind that has none.
func rawText(e impl.Event) string {
	yes := "no"
	if e.Yes {
		yes = "yes"
	}
	for _, f := range eventForms() {
		if f.kind == e.Kind {
			return strings.NewReplacer("KEY", strconv.Itoa(e.Key), "CH", strconv.Itoa(e.Ch), "TO", strconv.Itoa(e.To),
				"AMT", strconv.Itoa(e.Amt), "FEE", strconv.Itoa(e.Fee), "yes|no", yes).Replace(f.layout)
		}
	}
	return ""
}

// textReader reads texts by the chapter's layouts, each made a pattern.
type textReader []*regexp.Regexp

func newTextReader() textReader {
	var r textReader
	for _, f := range eventForms() {
		p := regexp.MustCompile("[A-Z]+").ReplaceAllString(f.layout, "(?P<$0>0|[1-9][0-9]*)")
		r = append(r, regexp.MustCompile("^"+strings.Replace(p, "yes|no", "(?P<YES>yes|no)", 1)+"$"))
	}
	return r
}

func (r textReader) want(s string) (impl.Event, bool) {
	for i, p := range r {
		found := p.FindStringSubmatch(s)
		if found == nil {
			continue
		}
		number := func(name string) int {
			at := p.SubexpIndex(name)
			if at < 0 {
				return 0
			}
			n, err := strconv.Atoi(found[at])
			if err != nil {
				return -1
			}
			return n
		}
		e := impl.Event{Kind: i + 1, Key: number("KEY"), Ch: number("CH"), To: number("TO"), Amt: number("AMT"), Fee: number("FEE")}
		if at := p.SubexpIndex("YES"); at >= 0 {
			e.Yes = found[at] == "yes"
		}
		if wantEventOk(e) {
			return e, true
		}
	}
	return impl.Event{}, false
}

func (r textReader) look(t *testing.T, s string) bool {
	t.Helper()
	want, right := r.want(s)
	if got, ok := impl.TextEvent(s); got != want || ok != right {
		t.Errorf("TextEvent(%.60q) = %v, %v; want %v, %v", s, got, ok, want, right)
	}
	return right
}

// rawBody lays an event as the chapter lists its parts, right or not; what doesn't fit its bytes is cut.
func rawBody(e impl.Event) []byte {
	b := []byte{'E'}
	lay := func(n int, size int) {
		for i := size - 1; i >= 0; i-- {
			b = append(b, byte(n>>(8*i)))
		}
	}
	lay(e.Kind, 1)
	lay(e.Key, 3)
	lay(e.Ch, 1)
	lay(e.To, 1)
	lay(e.Amt, 7)
	lay(e.Fee, 7)
	if e.Yes {
		return append(b, 1)
	}
	return append(b, 0)
}

func wantBodyEvent(b []byte) (impl.Event, bool) {
	if len(b) != 22 || b[0] != 'E' || b[21] > 1 {
		return impl.Event{}, false
	}
	number := func(from int, to int) int {
		n := 0
		for _, x := range b[from:to] {
			n = n*256 + int(x)
		}
		return n
	}
	e := impl.Event{Kind: number(1, 2), Key: number(2, 5), Ch: number(5, 6), To: number(6, 7), Amt: number(7, 14), Fee: number(14, 21), Yes: b[21] == 1}
	if !wantEventOk(e) {
		return impl.Event{}, false
	}
	return e, true
}

func lookBody(t *testing.T, b []byte) bool {
	t.Helper()
	want, right := wantBodyEvent(b)
	was := string(b)
	if got, ok := impl.BodyEvent(b); got != want || ok != right {
		t.Errorf("BodyEvent(%v) = %v, %v; want %v, %v", b, got, ok, want, right)
	}
	if string(b) != was {
		t.Errorf("BodyEvent changes %v to %v", []byte(was), b)
	}
	return right
}

// eventFields are the numbers of an event, by name.
var eventFields = []string{"Kind", "Key", "Ch", "To", "Amt", "Fee"}

func withField(e impl.Event, name string, n int) impl.Event {
	switch name {
	case "Kind":
		e.Kind = n
	case "Key":
		e.Key = n
	case "Ch":
		e.Ch = n
	case "To":
		e.To = n
	case "Amt":
		e.Amt = n
	case "Fee":
		e.Fee = n
	}
	return e
}

// fieldEdges are the numbers at which some field is right no more, and such as become right ones when they are cut to their bytes.
func fieldEdges() []int {
	return []int{
		leastInt, leastInt + 1, -top, -1, 0, 1, 2, 5, 11, 12, 98, 99, 100, 255, 256, 257, 261,
		999999, 1000000, 1000001, 1<<24 - 1, 1 << 24, 1<<24 + 1, 1<<32 + 1, top - 1, top, top + 1, 1<<56 - 1, 1 << 56, 1<<56 + 1, greatestInt - 1, greatestInt,
	}
}
