package tests

import (
	"maps"
	"slices"
	"testing"

	"loop.example/g00400/impl"
)

// A mood says what kind of rows of events come: up to which amounts, channels and keys.
type mood struct {
	amt  int
	ids  int
	keys int
}

func moods() []mood {
	return []mood{{40, 4, 12}, {300, 8, 30}, {top, 4, 12}, {top / 3, 25, 200}, {9, 99, 1000000}, {60, 25, 300}}
}

// anAmt is small, or of the mood's own measure, or something that the book has.
func (d *dice) anAmt(m mood, b impl.Book) int {
	switch d.below(5) {
	case 0:
		return 1 + d.below(m.amt)
	case 1:
		return b.Wallet + d.below(3) - 1
	case 2:
		if len(b.Chans) > 0 {
			c := b.Chans[d.below(len(b.Chans))]
			return []int{c.Local, c.Remote, c.Size / 2, top - c.Size, c.Local - c.Ppm}[d.below(5)] + d.below(3) - 1
		}
	}
	return 1 + d.below(1+m.amt/20)
}

// anId is mostly one of a channel that is there.
func (d *dice) anId(m mood, b impl.Book) int {
	if len(b.Chans) > 0 && d.below(12) > 0 {
		return b.Chans[d.below(len(b.Chans))].Id
	}
	return 1 + d.below(m.ids)
}

func (d *dice) aKey(m mood, b impl.Book) int {
	var keys []int
	for _, h := range b.Htlcs {
		keys = append(keys, h.Key)
	}
	for _, c := range b.Circles {
		keys = append(keys, c.Key)
	}
	if len(keys) > 0 && d.below(6) > 0 {
		return keys[d.below(len(keys))]
	}
	return 1 + d.below(m.keys)
}

// bookEvent is one that often fits the book; sometimes it doesn't, or isn't even right.
func (d *dice) bookEvent(m mood, b impl.Book) impl.Event {
	kinds := []int{1, 2, 2, 3, 4, 5, 5, 5, 5, 5, 6, 7, 8, 9, 9, 10, 11}
	e := impl.Event{Kind: kinds[d.below(len(kinds))]}
	for _, f := range eventForms() {
		if f.kind != e.Kind {
			continue
		}
		if f.key.hi > 0 {
			e.Key = d.aKey(m, b)
		}
		if f.ch.hi > 0 {
			e.Ch = d.anId(m, b)
		}
		if f.to.hi > 0 {
			e.To, e.Key = d.anId(m, b), 1+d.below(m.keys)
		}
		if f.amt.hi > 0 {
			e.Amt = d.anAmt(m, b)
		}
		if f.fee.hi > 0 {
			e.Fee = d.anAmt(m, b) / (1 + d.below(9))
		}
		e.Yes = f.yes && d.below(2) == 0
	}
	switch {
	case e.Kind == impl.EvOpen && d.below(3) > 0:
		e.Ch = 1 + d.below(m.ids)
	case e.Kind == impl.EvPrice:
		e.Amt, e.Fee = d.below(4), d.below(120000)
	}
	if d.below(25) == 0 {
		return withField(e, eventFields[d.below(len(eventFields))], fieldEdges()[d.below(len(fieldEdges()))])
	}
	return e
}

// A run of the book with its ledger beside it, as long as every posting goes.
type ledgered struct {
	book   impl.Book
	ledger impl.Ledger
}

// take applies an event and posts its posting; false where the posting doesn't go.
func (r *ledgered) take(t *testing.T, e impl.Event) (int, bool) {
	t.Helper()
	b, p, code := lookApply(t, r.book, e)
	if code != 0 {
		return code, true
	}
	r.book = b
	if len(p.Lines) == 0 {
		return 0, true
	}
	l, posted := impl.Post(r.ledger, p)
	if posted != 0 {
		return 0, false
	}
	r.ledger = l
	return 0, true
}

// P3: over long rows of right and wrong events, as long as every posting goes, the accounts agree with the book behind each event.
func TestP3AccountsAgree(t *testing.T) {
	d := dice(3)
	seen, ended := map[[2]int]int{}, 0
	for i := range 240 {
		m := moods()[i%len(moods())]
		r := ledgered{book: impl.BookNew()}
		for n := range 250 {
			e := d.bookEvent(m, r.book)
			code, went := r.take(t, e)
			seen[[2]int{e.Kind, code}]++
			if agrees := impl.Agrees(r.book, r.ledger); agrees != went || agrees != wantAgrees(r.book, r.ledger) {
				t.Fatalf("row %d, event %d, %+v with code %d: posted %v, Agrees is %v: %+v, %+v", i, n, e, code, went, agrees, r.book, r.ledger)
			}
			if t.Failed() {
				t.FailNow()
			}
			if !went {
				ended++
				break
			}
		}
	}
	for _, f := range eventForms() {
		for _, code := range append(codes(0, 1), wantOrder[f.kind]...) {
			if seen[[2]int{f.kind, code}] == 0 && code != 14 {
				t.Errorf("kind %d never has code %d: the test looks at too few", f.kind, code)
			}
		}
	}
	if ended == 0 {
		t.Error("every posting went: the test looks at too few")
	}
}

// P3: sizes change only by opening and closing, and then only that channel's; a refused event leaves all as it was and posts nothing.
func TestP3SizesAndRefusals(t *testing.T) {
	d := dice(4)
	refused, done := 0, 0
	for i := range 200 {
		m := moods()[i%len(moods())]
		b := impl.BookNew()
		if i%3 == 0 {
			b = []impl.Book{busy(), crowded(58, 18), crowded(5, 5), rightBooks()["MaxChans channels"]}[d.below(4)]
		}
		for range 200 {
			e := d.bookEvent(m, b)
			after, ps, codes := impl.ApplyAll(b, []impl.Event{e})
			one, p, code := impl.Apply(b, e)
			if len(codes) != 1 || codes[0] != code {
				t.Fatalf("%+v: codes %v, Apply has %d", e, codes, code)
			}
			if code != 0 {
				refused++
				if !sameBook(after, b) || len(ps) > 0 || !sameBook(one, impl.Book{}) || !samePosting(p, impl.Posting{}) {
					t.Fatalf("refused with %d: %+v\nfrom %+v\n  to %+v, %+v; Apply %+v, %+v", code, e, b, after, ps, one, p)
				}
				continue
			}
			done++
			lookSizes(t, b, e, one)
			if !impl.BookOk(one) {
				t.Fatalf("%+v makes of %+v\n%+v", e, b, one)
			}
			b = one
		}
	}
	if refused < 1000 || done < 1000 {
		t.Errorf("%d refused, %d done: the test looks at too few", refused, done)
	}
}

func sizesOf(b impl.Book) map[int]int {
	sizes := map[int]int{}
	for _, c := range b.Chans {
		sizes[c.Id] = c.Size
	}
	return sizes
}

func lookSizes(t *testing.T, b impl.Book, e impl.Event, after impl.Book) {
	t.Helper()
	want, got := sizesOf(b), sizesOf(after)
	switch e.Kind {
	case impl.EvOpen:
		want[e.Ch] = e.Amt + e.Fee
	case impl.EvClose:
		delete(want, e.Ch)
	}
	if len(want) != len(got) || len(got) != len(after.Chans) {
		t.Fatalf("%+v: the sizes %v become %v", e, want, got)
	}
	for ch, size := range want {
		if got[ch] != size {
			t.Fatalf("%+v: the sizes %v become %v", e, want, got)
		}
	}
}

// P3: once a posting doesn't go, the accounts agree no more: the sum of all that was ever put in is past its end.
func TestP3PostingThatDoesNotGo(t *testing.T) {
	r := ledgered{book: impl.BookNew()}
	for _, e := range []impl.Event{deposit(top), {Kind: impl.EvOpen, Ch: 1, Amt: top}, {Kind: impl.EvClose, Ch: 1, Fee: 5}} {
		if code, went := r.take(t, e); code != 0 || !went || !impl.Agrees(r.book, r.ledger) {
			t.Fatalf("%+v has code %d", e, code)
		}
	}
	if code, went := r.take(t, deposit(5)); code != 0 || went || impl.Agrees(r.book, r.ledger) {
		t.Errorf("a deposit past all: code %d, posted %v, Agrees %v", code, went, impl.Agrees(r.book, r.ledger))
	}
}

// P3: the postings of a row have rising Ids from Next on, without a gap, and each is right.
func TestP3PostingsInOrder(t *testing.T) {
	d := dice(5)
	for i := range 60 {
		m := moods()[i%len(moods())]
		b, next := impl.BookNew(), 1
		var all []impl.Event
		for range 150 {
			e := d.bookEvent(m, b)
			all = append(all, e)
			if after, _, code := impl.Apply(b, e); code == 0 {
				b = after
			}
		}
		last, ps, codes := impl.ApplyAll(impl.BookNew(), all)
		for _, p := range ps {
			if p.Id != next || !impl.PostingOk(p) {
				t.Fatalf("posting %+v; the next Id is %d", p, next)
			}
			next++
		}
		if last.Next != next || !sameBook(last, b) || len(codes) != len(all) {
			t.Fatalf("Next is %d, behind %d postings", last.Next, len(ps))
		}
	}
}

// P13: rows of events from books at their edges, each against what the tests reckon.
func TestP13ApplyByChance(t *testing.T) {
	d := dice(6)
	full := 0
	for _, name := range slices.Sorted(maps.Keys(rightBooks())) {
		for range 6 {
			b := rightBooks()[name]
			for range 60 {
				after, _, code := lookApply(t, b, d.bookEvent(moods()[d.below(len(moods()))], b))
				if code == 0 {
					b = after
				}
				if code == 14 {
					full++
				}
			}
			if t.Failed() {
				t.FailNow()
			}
		}
	}
	if full == 0 {
		t.Error("no code 14: the test looks at too few")
	}
}
