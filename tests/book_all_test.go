package tests

import (
	"slices"
	"testing"

	"loop.example/g00400/impl"
)

func samePostings(a []impl.Posting, b []impl.Posting) bool {
	return slices.EqualFunc(a, b, samePosting)
}

func copyOfPostings(ps []impl.Posting) []impl.Posting {
	var l []impl.Posting
	for _, p := range ps {
		l = append(l, copyOfPosting(p))
	}
	return l
}

// P13: a row with refused events among the others, told out.
func TestP13ApplyAll(t *testing.T) {
	es := saidAll("open 1 1 1", "deposit 1000", "open 2 400 100", "open 1 200 300", "open 1 5 5", "price 2 1 50000", "price 3 1 1",
		"admit 7 1 2 101 no", "admit 7 1 2 1 no", "tick", "launch 8 2 1 30 3", "lost 7", "fulfill 7", "arrive 8", "close 3 0", "close 2 0", "fulfill 7")
	es = append(es, impl.Event{}, deposit(0))
	b, ps, codes := impl.ApplyAll(impl.BookNew(), es)
	wantCodes := []int{4, 0, 0, 0, 3, 0, 6, 0, 9, 0, 0, 15, 0, 0, 6, 0, 15, 1, 1}
	want := impl.Book{Tick: 1, Next: 9, Wallet: 666, Chans: chans(impl.Chan{Id: 1, Size: 500, Local: 338, Remote: 162, Score: 10})}
	wantPs := []impl.Posting{
		posting(1, line(wallet, 1000), line(equity, -1000)),
		posting(2, line(wallet, -400), line(local(2), 400)),
		posting(3, line(wallet, -200), line(local(1), 200)),
		posting(4, line(local(2), -101), line(underOut(2), 101)),
		posting(5, line(local(2), -33), line(underOut(2), 33)),
		posting(6, line(income, -7), line(local(1), 108), line(underOut(2), -101)),
		posting(7, line(rebal, 3), line(local(1), 30), line(underOut(2), -33)),
		posting(8, line(wallet, 266), line(local(2), -266)),
	}
	if !slices.Equal(codes, wantCodes) {
		t.Errorf("codes %v; want %v", codes, wantCodes)
	}
	if !sameBook(b, want) {
		t.Errorf("book %+v; want %+v", b, want)
	}
	if !samePostings(ps, wantPs) {
		t.Errorf("postings %+v; want %+v", ps, wantPs)
	}
	l, n := impl.PostAll(impl.Ledger{}, ps)
	if n != 8 || !impl.Agrees(b, l) || impl.Worth(l) != 1004 {
		t.Errorf("%d posted, worth %d, Agrees %v", n, impl.Worth(l), impl.Agrees(b, l))
	}
}

// P13: events that post nothing have codes, but no posting and no Id.
func TestP13ApplyAllWithoutPostings(t *testing.T) {
	b, ps, got := impl.ApplyAll(busy(), saidAll("tick", "price 1 2 3", "close 9 0", "tick", "deposit 1"))
	want := changed(busy(), func(b *impl.Book) {
		b.Tick, b.Next, b.Wallet = 5, 45, 501
		b.Chans = slices.Delete(b.Chans, 3, 4)
		b.Chans[0].Base, b.Chans[0].Ppm = 2, 3
		for i, score := range []int{24, -4, 0, -99} {
			b.Chans[i].Score = score
		}
		b.Htlcs[0].Age, b.Htlcs[1].Age, b.Htlcs[2].Age = 2, 8, 2
	})
	if !sameBook(b, want) || !slices.Equal(got, codes(0, 0, 0, 0, 0)) || !samePostings(ps, []impl.Posting{posting(44, line(wallet, 1), line(equity, -1))}) {
		t.Errorf("%+v, %+v, %v; want %+v", b, ps, got, want)
	}
}

func TestP13ApplyAllOfNone(t *testing.T) {
	for name, from := range rightBooks() {
		for _, es := range [][]impl.Event{nil, {}} {
			given := roomy(from)
			b, ps, codes := impl.ApplyAll(given, es)
			if !sameBook(b, from) || len(ps) > 0 || len(codes) > 0 {
				t.Errorf("%s: ApplyAll of none = %+v, %+v, %v", name, b, ps, codes)
			}
			blotBook(b)
			if !sameRoom(given, roomy(from)) {
				t.Errorf("%s: the book is changed or shared", name)
			}
		}
	}
}

// P13: of a book that isn't right there is nothing, not even codes.
func TestP13ApplyAllNotRight(t *testing.T) {
	for name, from := range wrongBooks() {
		for _, es := range [][]impl.Event{nil, {}, {tick}, {deposit(1), {}, tick}} {
			was := copyOfBook(from)
			b, ps, codes := impl.ApplyAll(from, es)
			if !sameBook(b, impl.Book{}) || len(ps) > 0 || len(codes) > 0 {
				t.Errorf("%s: ApplyAll = %+v, %+v, %v", name, b, ps, codes)
			}
			if !sameBook(from, was) {
				t.Errorf("%s: the book is changed", name)
			}
		}
	}
}

// P13: the last Id is used up on the way; all that comes behind has code 2.
func TestP13ApplyAllToTheLastId(t *testing.T) {
	from := impl.Book{Next: top - 2, Wallet: top - 1}
	es := append(saidAll("tick", "deposit 1", "deposit 1", "open 3 5 5", "tick", "deposit 1", "price 3 1 1", "close 3 0"), impl.Event{Kind: 12})
	b, ps, got := impl.ApplyAll(from, es)
	want := impl.Book{Tick: 1, Next: top, Wallet: top - 5, Chans: chans(impl.Chan{Id: 3, Size: 10, Local: 5, Remote: 5})}
	wantPs := []impl.Posting{posting(top-2, line(wallet, 1), line(equity, -1)), posting(top-1, line(wallet, -5), line(local(3), 5))}
	if !sameBook(b, want) || !samePostings(ps, wantPs) || !slices.Equal(got, codes(0, 0, 2, 0, 2, 2, 2, 2, 1)) {
		t.Errorf("%+v, %+v, %v", b, ps, got)
	}
}

// P13: ApplyAll is Apply of one after the other; the lists of its answer share nothing with each other or with what was given.
func TestP13ApplyAllIsApplies(t *testing.T) {
	d := dice(8)
	for i := range 120 {
		m := moods()[i%len(moods())]
		from := []impl.Book{impl.BookNew(), busy(), crowded(40, 10)}[i%3]
		at := from
		var es []impl.Event
		var ps []impl.Posting
		var codes []int
		for range 60 {
			e := d.bookEvent(m, at)
			after, p, code := wantApply(at, e)
			es, codes = append(es, e), append(codes, code)
			if code == 0 {
				at = after
			}
			if len(p.Lines) > 0 {
				ps = append(ps, p)
			}
		}
		given, told := roomy(from), slices.Clone(es)
		b, got, n := impl.ApplyAll(given, es)
		if !sameBook(b, at) || !samePostings(got, ps) || !slices.Equal(n, codes) {
			t.Fatalf("ApplyAll of %+v to %+v\n got %+v, %+v, %v\nwant %+v, %+v, %v", es, from, b, got, n, at, ps, codes)
		}
		for j := range got {
			keep := copyOfPostings(got)
			scribble(got[j].Lines)
			keep[j].Lines = got[j].Lines
			if !samePostings(got, keep) {
				t.Fatalf("posting %d shares its lines with another", j)
			}
		}
		blotBook(b)
		if !sameRoom(given, roomy(from)) || !slices.Equal(es, told) {
			t.Fatal("an argument is changed or shared")
		}
	}
}

// agreeing is the busy book and its ledger, by hand.
func agreeing() (impl.Book, impl.Ledger) {
	return busy(), ledger(43, line(wallet, 500), line(equity, -1408), line(income, -20), line(rebal, 4), line(chain, 1),
		line(local(1), 200), line(local(2), 400), line(local(5), 50), line(local(12), 70),
		line(underOut(1), 70), line(underOut(2), 124), line(underOut(5), 9))
}

func TestP13Agrees(t *testing.T) {
	b, l := agreeing()
	if !impl.LedgerOk(l) || !impl.Agrees(b, l) {
		t.Fatalf("they don't agree: %+v, %+v", b, l)
	}
	with := func(a impl.Acc, more int) impl.Ledger {
		got, code := impl.Post(ledger(l.Last-1, l.Lines...), posting(l.Last, sortedLines(line(a, more), line(equity, -more))...))
		if code != 0 {
			t.Fatalf("%+v can't be %d more: code %d", a, more, code)
		}
		return got
	}
	// What the hub's other accounts have doesn't matter.
	for _, a := range []impl.Acc{income, rebal, chain} {
		if !impl.Agrees(b, with(a, 1)) || !impl.Agrees(b, with(a, -1000)) {
			t.Errorf("%+v matters", a)
		}
	}
	for _, a := range allAccs() {
		if a == equity || a == income || a == rebal || a == chain {
			continue
		}
		for _, more := range []int{1, -1} {
			if impl.Agrees(b, with(a, more)) {
				t.Errorf("%+v is %d more, and they agree", a, more)
			}
		}
	}
	for _, last := range []int{0, 1, 42, 44, 45, top} {
		if impl.Agrees(b, ledger(last, l.Lines...)) {
			t.Errorf("Last is %d with Next 44, and they agree", last)
		}
	}
}

func sortedLines(a impl.Line, b impl.Line) []impl.Line {
	if a.Acc.Kind < b.Acc.Kind {
		return lines(a, b)
	}
	return lines(b, a)
}

// P13: the least and the greatest that agree, and those beside them.
func TestP13AgreesAtEdges(t *testing.T) {
	vast := sized(impl.Book{Next: top, Wallet: top, Chans: chans(peer(1, top, 0), peer(99, 0, top))})
	vastLines := lines(line(wallet, top), line(equity, -top), line(income, -top), line(local(1), top))
	way := sized(impl.Book{Next: 2, Chans: chans(peer(1, 0, 0), peer(99, 0, 0)), Htlcs: htlcs(pay(1, 1, 99, 9, 5)), Circles: circles(circle(2, 99, 1, 6, 7))})
	for _, c := range []struct {
		name string
		b    impl.Book
		l    impl.Ledger
		want bool
	}{
		{"nothing yet", impl.BookNew(), impl.Ledger{}, true},
		{"nothing yet, not nil", impl.Book{Next: 1, Chans: []impl.Chan{}}, impl.Ledger{Lines: []impl.Line{}}, true},
		{"no Next", impl.Book{}, impl.Ledger{}, false},
		{"no Next, Last -1", impl.Book{}, ledger(-1), false},
		{"Last is Next", impl.BookNew(), ledger(1), false},
		{"Last MaxAmt", impl.Book{Next: top}, ledger(top), false},
		{"Last MaxAmt less 1", impl.Book{Next: top}, ledger(top - 1), true},
		{"Next past the end", impl.Book{Next: top + 1}, ledger(top), false},
		{"all at the ends", vast, ledger(top-1, vastLines...), true},
		{"all at the ends, Last", vast, ledger(top, vastLines...), false},
		{"a ledger alone", impl.Book{Next: 2}, ledger(1, line(wallet, 5), line(equity, -5)), false},
		{"a wallet alone", impl.Book{Next: 2, Wallet: 5}, ledger(1), false},
		{"both", impl.Book{Next: 2, Wallet: 5}, ledger(1, line(wallet, 5), line(equity, -5)), true},
		{"a channel without money", sized(impl.Book{Next: 1, Chans: chans(peer(1, 0, 7))}), impl.Ledger{}, true},
		{"a channel's money without a channel", impl.Book{Next: 2}, ledger(1, line(equity, -5), line(local(7), 5)), false},
		{"a channel's money at another", sized(impl.Book{Next: 2, Chans: chans(peer(1, 5, 7))}), ledger(1, line(equity, -5), line(local(2), 5)), false},
		{"money at the last number", sized(impl.Book{Next: 2, Chans: chans(peer(99, 5, 7))}), ledger(1, line(equity, -5), line(local(99), 5)), true},
		{"money at the last number, no channel", impl.Book{Next: 2}, ledger(1, line(equity, -5), line(local(99), 5)), false},
		{"under way out", way, ledger(1, line(equity, -18), line(underOut(99), 18)), true},
		{"under way out without the Fee", way, ledger(1, line(equity, -11), line(underOut(99), 11)), false},
		{"under way in too", way, ledger(1, line(equity, -33), line(underIn(1), 15), line(underOut(99), 18)), false},
		{"out of the other", way, ledger(1, line(equity, -18), line(underOut(1), 18)), false},
		{"out without a channel", impl.Book{Next: 2}, ledger(1, line(equity, -5), line(underOut(3), 5)), false},
		{"in without a channel", impl.Book{Next: 2}, ledger(1, line(equity, 5), line(underIn(99), -5)), false},
		{"in that makes up for out", impl.Book{Next: 2}, ledger(1, line(underIn(4), 5), line(underOut(4), -5)), false},
		{"in that makes up for in", impl.Book{Next: 2}, ledger(1, line(underIn(1), 5), line(underIn(2), -5)), false},
		{"others alone", impl.Book{Next: 2}, ledger(1, line(equity, 5), line(income, -6), line(rebal, -1), line(chain, 2)), true},
	} {
		was, before := copyOfBook(c.b), copyOfLedger(c.l)
		if got := impl.Agrees(c.b, c.l); got != c.want || wantAgrees(c.b, c.l) != c.want {
			t.Errorf("%s: Agrees is %v, the tests reckon %v", c.name, got, wantAgrees(c.b, c.l))
		}
		if !sameBook(c.b, was) || !sameLedger(c.l, before) {
			t.Errorf("%s: an argument is changed", c.name)
		}
	}
}

// P13: neither a book nor a ledger that isn't right agrees with anything.
func TestP13AgreesNotRight(t *testing.T) {
	_, hand := agreeing()
	for name, b := range wrongBooks() {
		// Most of these are the busy book with one thing wrong, so its ledger has what they have.
		for _, l := range []impl.Ledger{{}, ledger(b.Next - 1), hand, ledger(b.Next-1, hand.Lines...)} {
			if impl.Agrees(b, l) {
				t.Errorf("%s: agrees with %+v", name, l)
			}
		}
	}
	eachWrongLedger(t, func(t *testing.T, l impl.Ledger) {
		b := impl.Book{Next: 2}
		if len(l.Lines) > 0 && l.Lines[0].Acc == wallet && isAmt(l.Lines[0].Amt) {
			b.Wallet = l.Lines[0].Amt
		}
		for _, b := range []impl.Book{b, {Next: 1}, {Next: 2, Wallet: 5}, busy()} {
			if impl.Agrees(b, l) {
				t.Errorf("agrees with %+v", b)
			}
		}
	})
}
