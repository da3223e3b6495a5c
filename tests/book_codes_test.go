package tests

import (
	"slices"
	"testing"

	"loop.example/g00400/impl"
)

// A clash is an event of which several codes hold, in the order in which they are looked for: the first counts.
type clash struct {
	from  impl.Book
	event impl.Event
	codes []int
}

func codes(l ...int) []int { return l }

func lookClashes(t *testing.T, cases ...clash) {
	t.Helper()
	for _, c := range cases {
		if l := wantHolding(c.from, c.event); !slices.Equal(l, c.codes) {
			t.Errorf("%+v: the tests reckon that %v hold, told is %v", c.event, l, c.codes)
		}
		got, p, code := impl.Apply(c.from, c.event)
		if code != c.codes[0] || !sameBook(got, impl.Book{}) || !samePosting(p, impl.Posting{}) {
			t.Errorf("%+v, of which %v hold: %+v, %+v, %d", c.event, c.codes, got, p, code)
		}
	}
}

// last is b without an Id left.
func last(b impl.Book) impl.Book { return changed(b, func(b *impl.Book) { b.Next = top }) }

func rich(b impl.Book) impl.Book { return changed(b, func(b *impl.Book) { b.Wallet = top }) }

func TestP13CodesOfMoney(t *testing.T) {
	b, wrong := busy(), changed(busy(), func(b *impl.Book) { b.Chans[0].Size++ })
	open := func(ch int, amt int, fee int) impl.Event {
		return impl.Event{Kind: impl.EvOpen, Ch: ch, Amt: amt, Fee: fee}
	}
	full := sized(impl.Book{Next: 1, Wallet: 9, Chans: manyChans(20, 4, 5)})
	lookClashes(t,
		clash{last(wrong), deposit(1), codes(1, 2)},
		clash{rich(b), deposit(top + 1), codes(1, 2)},
		clash{last(rich(b)), deposit(1), codes(2)},
		clash{wrong, open(1, 501, 0), codes(1, 3, 4)},
		clash{b, open(1, 501, top+1), codes(1, 2, 3, 4)},
		clash{b, open(1, 5, top), codes(2, 3)},
		clash{b, open(1, 501, top), codes(2, 3, 4)},
		clash{b, open(3, 501, top), codes(2, 4)},
		clash{b, open(3, 501, top-501), codes(4)},
		clash{full, open(1, 9, top), codes(2, 3)},
		clash{full, open(1, 10, top), codes(2, 3, 4)},
		clash{full, open(1, 10, 5), codes(3, 4)},
		clash{b, open(1, 501, 5), codes(3, 4)},
		clash{last(b), open(1, 501, 5), codes(2, 3, 4)},
		clash{last(b), open(3, 1, 5), codes(2)},
		clash{wrong, said("close 3 0"), codes(1, 6)},
		clash{last(b), said("close 3 0"), codes(2, 6)},
		clash{last(b), said("close 3 5"), codes(2, 6, 8)},
		clash{b, said("close 3 5"), codes(6, 8)},
		clash{last(b), said("close 1 5"), codes(2, 7)},
		clash{rich(b), said("close 1 5"), codes(2, 7)},
		clash{rich(b), said("close 1 199"), codes(2, 7)},
		clash{rich(b), said("close 1 200"), codes(7)},
		clash{rich(b), said("close 1 201"), codes(7, 8)},
		clash{b, said("close 1 201"), codes(7, 8)},
		clash{b, said("close 1 200"), codes(7)},
		clash{rich(b), said("close 3 0"), codes(6)},
		clash{rich(b), said("close 12 71"), codes(8)},
		clash{last(b), said("close 12 71"), codes(2, 8)},
		clash{last(b), said("price 3 1 1"), codes(2, 6)},
		clash{wrong, said("price 3 1 1"), codes(1, 6)},
		clash{last(wrong), said("price 3 1 1"), codes(1, 2, 6)},
		clash{changed(b, func(b *impl.Book) { b.Tick = top + 1 }), tick, codes(1)},
		clash{changed(b, func(b *impl.Book) { b.Tick, b.Next = top, top+1 }), tick, codes(1, 2)},
		clash{changed(b, func(b *impl.Book) { b.Tick, b.Next = top, top }), tick, codes(2)},
	)
}

func TestP13CodesOfPayments(t *testing.T) {
	wrong := changed(crowded(60, 0), func(b *impl.Book) { b.Chans[0].Size++ })
	// To channel 2 of these nothing can be let: its base is past all that comes in.
	dear := func(b impl.Book) impl.Book { return changed(b, func(b *impl.Book) { b.Chans[1].Base = top }) }
	asked := func(b impl.Book) impl.Book { return changed(b, func(b *impl.Book) { b.Chans[1].Base = 901 }) }
	// In these five payments that aren't Kept go out by channel 2, so there is no room for one more.
	five := sized(impl.Book{Next: 9, Chans: chans(peer(1, 20, 900), peer(2, 30, 0), peer(3, 0, 5)), Htlcs: sameWay(5)})
	lookClashes(t,
		clash{wrong, said("admit 1 1 4 1 no"), codes(1, 9, 6, 14, 12, 13)},
		clash{last(five), said("admit 1 1 4 1 no"), codes(2, 9, 6, 12, 13)},
		clash{last(five), said("admit 9 1 2 1 no"), codes(2, 13)},
		clash{five, said("admit 1 4 2 10 no"), codes(9, 6, 11, 13)},
		clash{five, said("admit 1 1 4 1000 no"), codes(9, 6, 11, 12, 13)},
		clash{five, said("admit 1 1 2 1 no"), codes(9, 13)},
		clash{five, said("admit 1 1 2 31 no"), codes(9, 12, 13)},
		clash{five, said("admit 1 2 1 1 no"), codes(9, 11)},
		clash{five, said("admit 1 2 1 21 no"), codes(9, 11, 12)},
		clash{dear(five), said("admit 1 1 2 1 no"), codes(9, 10, 11, 13)},
		clash{crowded(60, 20), said("admit 1 1 2 1 no"), codes(9, 14, 13)},
		clash{crowded(60, 20), said("admit 1000000 1 2 1 no"), codes(9, 14, 13)},
		clash{five, said("admit 9 4 2 1 no"), codes(6, 11, 13)},
		clash{five, said("admit 9 1 4 1000 no"), codes(6, 11, 12, 13)},
		clash{five, said("admit 9 4 2 31 no"), codes(6, 11, 12, 13)},
		clash{five, said("admit 9 1 4 1 no"), codes(6, 12, 13)},
		clash{five, said("admit 9 4 5 1 no"), codes(6, 11, 12, 13)},
		clash{dear(five), said("admit 9 4 2 1 no"), codes(6, 10, 11, 13)},
		clash{crowded(60, 0), said("admit 900 1 4 1 no"), codes(6, 14, 12, 13)},
		clash{crowded(60, 0), said("admit 900 4 1 1 no"), codes(6, 14, 11, 13)},
		clash{dear(crowded(60, 0)), said("admit 900 1 2 1 no"), codes(14, 10, 11, 13)},
		clash{crowded(60, 0), said("admit 900 1 2 901 no"), codes(14, 11, 12, 13)},
		clash{asked(crowded(60, 0)), said("admit 900 1 2 1 no"), codes(14, 11, 13)},
		clash{crowded(60, 0), said("admit 900 1 2 1 no"), codes(14, 13)},
		clash{dear(five), said("admit 9 1 2 1 no"), codes(10, 11, 13)},
		clash{dear(five), said("admit 9 1 2 31 no"), codes(10, 11, 12, 13)},
		clash{dear(toll(0, 0)), said("admit 9 1 2 1 no"), codes(10, 11)},
		clash{asked(five), said("admit 9 1 2 1 no"), codes(11, 13)},
		clash{asked(five), said("admit 9 1 2 31 no"), codes(11, 12, 13)},
		clash{toll(0, 0), said("admit 9 1 2 1001 no"), codes(11, 12, 13)},
		clash{toll(991, 0), said("admit 9 1 2 10 no"), codes(11)},
		clash{five, said("admit 9 1 2 31 no"), codes(12, 13)},
		clash{five, said("admit 9 1 2 30 no"), codes(13)},
		clash{five, said("admit 9 1 2 1 no"), codes(13)},
		clash{last(five), said("fulfill 9"), codes(2, 15)},
		clash{last(five), said("fail 9"), codes(2, 15)},
		clash{wrong, said("fulfill 900"), codes(1, 15)},
		clash{wrong, said("fail 900"), codes(1, 15)},
		clash{last(wrong), said("fail 900"), codes(1, 2, 15)},
		clash{five, impl.Event{Kind: impl.EvFulfill, Key: 0}, codes(1, 15)},
	)
}

func TestP13CodesOfCircles(t *testing.T) {
	b, wrong := busy(), changed(crowded(0, 20), func(b *impl.Book) { b.Chans[0].Size++ })
	launch := func(key int, ch int, to int, amt int, fee int) impl.Event {
		return impl.Event{Kind: impl.EvLaunch, Key: key, Ch: ch, To: to, Amt: amt, Fee: fee}
	}
	lookClashes(t,
		clash{wrong, launch(1000000, 1, 4, 1, 0), codes(1, 9, 6, 14, 11)},
		clash{last(b), launch(7, 4, 2, 1, 0), codes(2, 9, 6, 12)},
		clash{last(b), launch(3, 1, 2, 500, 0), codes(2, 12, 11)},
		clash{b, launch(7, 4, 2, 1, 0), codes(9, 6, 12)},
		clash{b, launch(6, 1, 4, 1, 0), codes(9, 6, 11)},
		clash{crowded(0, 20), launch(1000000, 1, 2, 1, 0), codes(9, 14)},
		clash{crowded(1, 20), launch(1, 1, 2, 1, 0), codes(9, 14)},
		clash{b, launch(7, 1, 2, top, 1), codes(9, 10, 12, 11)},
		clash{b, launch(7, 1, 2, 1, 200), codes(9, 12)},
		clash{b, launch(6, 1, 2, 101, 0), codes(9, 11)},
		clash{crowded(0, 20), launch(900, 4, 2, 1, 0), codes(6, 14, 12)},
		clash{crowded(0, 20), launch(900, 1, 4, 1, 0), codes(6, 14, 11)},
		clash{b, launch(3, 4, 2, 1, top), codes(6, 10, 12)},
		clash{b, launch(3, 4, 2, 1, 0), codes(6, 12)},
		clash{b, launch(3, 1, 4, 1, 0), codes(6, 11)},
		clash{b, launch(3, 98, 99, 1, 0), codes(6, 12, 11)},
		clash{crowded(0, 20), launch(900, 1, 2, top, 1), codes(14, 10, 12, 11)},
		clash{crowded(0, 20), launch(900, 1, 2, 1, 900), codes(14, 12)},
		clash{crowded(0, 20), launch(900, 1, 2, 901, 0), codes(14, 12, 11)},
		clash{b, launch(3, 1, 2, 1, top), codes(10, 12)},
		clash{b, launch(3, 1, 2, top, top), codes(10, 12, 11)},
		clash{b, launch(3, 1, 2, 201, 0), codes(12, 11)},
		clash{b, launch(3, 1, 2, 101, 100), codes(12, 11)},
		clash{b, launch(3, 1, 2, 100, 101), codes(12)},
		clash{b, launch(3, 1, 2, 101, 99), codes(11)},
		clash{last(b), said("arrive 9"), codes(2, 15)},
		clash{last(b), said("lost 9"), codes(2, 15)},
		clash{wrong, said("arrive 9"), codes(1, 15)},
		clash{wrong, said("lost 9"), codes(1, 15)},
		clash{b, impl.Event{Kind: impl.EvLost, Key: 9, Fee: 1}, codes(1, 15)},
	)
}

// P13: of a book that isn't right every event has code 1, and so has an event that isn't right of any book.
func TestP13ApplyNotRight(t *testing.T) {
	for name, b := range wrongBooks() {
		was := copyOfBook(b)
		for _, f := range eventForms() {
			for _, e := range append(f.ends(), impl.Event{Kind: f.kind}) {
				if got, p, code := impl.Apply(b, e); code != 1 || !sameBook(got, impl.Book{}) || !samePosting(p, impl.Posting{}) {
					t.Errorf("%s: Apply of %+v = %+v, %+v, %d", name, e, got, p, code)
				}
			}
		}
		if !sameBook(b, was) {
			t.Errorf("%s: the book is changed", name)
		}
	}
	for name, b := range rightBooks() {
		for _, f := range eventForms() {
			for _, field := range eventFields {
				for _, n := range fieldEdges() {
					e := withField(f.plain(), field, n)
					got, p, code := impl.Apply(b, e)
					if !wantEventOk(e) && (code != 1 || !sameBook(got, impl.Book{}) || !samePosting(p, impl.Posting{})) {
						t.Errorf("%s: Apply of %+v = %+v, %+v, %d", name, e, got, p, code)
					}
				}
			}
		}
	}
}

// bookEdges are the events of one kind with each field at the edges that matter to books.
func bookEdges(f eventForm) []impl.Event {
	keys, ids := []int{1, 6, 7, 8, 60, 500, 900, 1000, 1000000}, []int{1, 2, 3, 5, 9, 12, 80, 99}
	amts := []int{0, 1, 2, 30, 50, 69, 70, 71, 200, 500, 501, 900, 1000000, top/2 + 1, top - 1, top}
	some := func(s span, l []int) []int {
		if s.hi == 0 {
			return []int{0}
		}
		return l
	}
	var es []impl.Event
	for _, key := range some(f.key, keys) {
		for _, ch := range some(f.ch, ids) {
			for _, to := range some(f.to, ids) {
				for _, amt := range some(f.amt, amts) {
					for _, fee := range some(f.fee, []int{0, 1, 69, 70, 71, top - 1, top}) {
						es = append(es, impl.Event{Kind: f.kind, Key: key, Ch: ch, To: to, Amt: amt, Fee: fee, Yes: f.yes && key%2 == 0})
					}
				}
			}
		}
	}
	return es
}

// P13: every kind of event at its edges, to books at theirs; each code of each kind comes.
func TestP13ApplyAtEdges(t *testing.T) {
	d := dice(72)
	seen := map[[2]int]int{}
	dear := changed(rich(busy()), func(b *impl.Book) { b.Chans[0].Base, b.Chans[2].Base = top, top-5 })
	for _, from := range []impl.Book{busy(), dear, impl.BookNew(), rightBooks()["MaxChans channels"], crowded(60, 20), last(busy()), roomsOf(100, 5, 5, 1)} {
		for _, f := range eventForms() {
			es := bookEdges(f)
			for i := range min(len(es), 2000) {
				// Some kinds have many edges at once: of these some are enough.
				if len(es) > 2000 {
					i = d.below(len(es))
				}
				_, _, code := lookApply(t, from, es[i])
				seen[[2]int{f.kind, code}]++
			}
			if t.Failed() {
				t.FailNow()
			}
		}
	}
	for _, f := range eventForms() {
		for _, code := range append(codes(0, 2), wantOrder[f.kind]...) {
			if seen[[2]int{f.kind, code}] == 0 {
				t.Errorf("kind %d never has code %d: the test looks at too few", f.kind, code)
			}
		}
	}
}
