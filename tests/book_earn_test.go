package tests

import (
	"slices"
	"testing"

	"loop.example/g00400/impl"
)

// startedAt is a book with its ledger behind a row of events, all of whose postings went.
func (d *dice) startedAt(t *testing.T, m mood, n int) (ledgered, bool) {
	t.Helper()
	r := ledgered{book: impl.BookNew()}
	for _, e := range []impl.Event{deposit(m.amt), {Kind: impl.EvOpen, Ch: 1, Amt: 1 + m.amt/4, Fee: m.amt / 3}, {Kind: impl.EvOpen, Ch: 2, Amt: 1 + m.amt/4, Fee: m.amt / 3}} {
		r.take(t, e)
	}
	for range n {
		if _, went := r.take(t, d.bookEvent(m, r.book)); !went {
			return r, false
		}
	}
	return r, true
}

// fresh is an event of that kind that the book takes, with a key that nothing has; false where chance finds none.
func (d *dice) fresh(m mood, b impl.Book, kind int) (impl.Event, bool) {
	for range 200 {
		e := d.bookEvent(m, b)
		e.Key = 1 + d.below(1000000)
		if _, _, code := impl.Apply(b, e); e.Kind == kind && code == 0 {
			return e, true
		}
	}
	return impl.Event{}, false
}

// taken applies an event that must be taken, and posts it.
func (r ledgered) taken(t *testing.T, e impl.Event) (ledgered, bool) {
	t.Helper()
	code, went := r.take(t, e)
	if code != 0 {
		t.Fatalf("%+v has code %d", e, code)
	}
	return r, went
}

// eachStart looks at many books in the midst of their work, with an event of that kind that is taken there.
func eachStart(t *testing.T, seed dice, kind int, look func(t *testing.T, was ledgered, e impl.Event)) {
	t.Helper()
	count := 0
	for i := range 400 {
		m := moods()[i%len(moods())]
		r, went := seed.startedAt(t, m, seed.below(60))
		e, found := seed.fresh(m, r.book, kind)
		if !went || !found {
			continue
		}
		count++
		look(t, r, e)
		if t.Failed() {
			t.FailNow()
		}
	}
	if count < 150 {
		t.Errorf("%d books: the test looks at too few", count)
	}
}

// lookAlike holds channels, wallet, balances and what is under way against what they were; Tick and Ids may differ.
func lookAlike(t *testing.T, was ledgered, now ledgered) {
	t.Helper()
	if !slices.Equal(was.book.Chans, now.book.Chans) || was.book.Wallet != now.book.Wallet || !slices.Equal(was.ledger.Lines, now.ledger.Lines) {
		t.Errorf("from %+v\n  to %+v", was, now)
	}
	if !slices.Equal(was.book.Htlcs, now.book.Htlcs) || !slices.Equal(was.book.Circles, now.book.Circles) {
		t.Errorf("under way was %+v, %+v, is %+v, %+v", was.book.Htlcs, was.book.Circles, now.book.Htlcs, now.book.Circles)
	}
}

// P4: a circle that is launched and lost leaves the channels, the wallet and the balances as they were.
func TestP4LostCircle(t *testing.T) {
	eachStart(t, 41, impl.EvLaunch, func(t *testing.T, was ledgered, e impl.Event) {
		r, ok := was.taken(t, e)
		r, also := r.taken(t, impl.Event{Kind: impl.EvLost, Key: e.Key})
		if !ok || !also {
			t.Fatal("a posting doesn't go")
		}
		lookAlike(t, was, r)
	})
}

// moved are the accounts whose balances differ, with by how much.
func moved(was impl.Ledger, now impl.Ledger) map[impl.Acc]int {
	by := map[impl.Acc]int{}
	for _, a := range allAccs() {
		if n := impl.Balance(now, a) - impl.Balance(was, a); n != 0 {
			by[a] = n
		}
	}
	return by
}

// lookMoved holds what moved against what is told; there accounts of 0 count for nothing.
func lookMoved(t *testing.T, was ledgered, now ledgered, want map[impl.Acc]int) {
	t.Helper()
	got := moved(was.ledger, now.ledger)
	for _, a := range allAccs() {
		if got[a] != want[a] {
			t.Errorf("%s moved by %d; want %d", impl.AccText(a), got[a], want[a])
		}
	}
}

// P4: a circle that arrives costs just its Fee, which goes to rebal; the rest only goes from one channel to the other.
func TestP4ArrivedCircle(t *testing.T) {
	eachStart(t, 42, impl.EvLaunch, func(t *testing.T, was ledgered, e impl.Event) {
		r, ok := was.taken(t, e)
		r, also := r.taken(t, impl.Event{Kind: impl.EvArrive, Key: e.Key})
		if !ok || !also {
			return
		}
		lookMoved(t, was, r, map[impl.Acc]int{rebal: e.Fee, local(e.Ch): -e.Amt - e.Fee, local(e.To): e.Amt})
		if cost := impl.Worth(was.ledger) - impl.Worth(r.ledger); cost != e.Fee {
			t.Errorf("%+v costs %d", e, cost)
		}
		if r.book.Wallet != was.book.Wallet || len(r.book.Circles) != len(was.book.Circles) {
			t.Errorf("the wallet is %d, was %d; %d circles, were %d", r.book.Wallet, was.book.Wallet, len(r.book.Circles), len(was.book.Circles))
		}
		from, _ := chanIn(was.book, e.Ch)
		to, _ := chanIn(was.book, e.To)
		fromNow, _ := chanIn(r.book, e.Ch)
		toNow, _ := chanIn(r.book, e.To)
		from.Local, from.Remote = from.Local-e.Amt-e.Fee, from.Remote+e.Amt+e.Fee
		to.Local, to.Remote = to.Local+e.Amt, to.Remote-e.Amt
		if from != fromNow || to != toNow {
			t.Errorf("the channels are %+v and %+v; want %+v and %+v", fromNow, toNow, from, to)
		}
	})
}

// P4: a payment that is let through and fulfilled adds AmtIn less AmtOut to the income, and nothing else is earned or lost.
func TestP4FulfilledPayment(t *testing.T) {
	earning := 0
	eachStart(t, 43, impl.EvAdmit, func(t *testing.T, was ledgered, e impl.Event) {
		r, ok := was.taken(t, e)
		h := r.book.Htlcs[len(r.book.Htlcs)-1]
		r, also := r.taken(t, impl.Event{Kind: impl.EvFulfill, Key: e.Key})
		if !ok || !also {
			return
		}
		earned := h.AmtIn - h.AmtOut
		if earned > 0 {
			earning++
		}
		lookMoved(t, was, r, map[impl.Acc]int{income: -earned, local(e.Ch): h.AmtIn, local(e.To): -h.AmtOut})
		if gain := impl.Worth(r.ledger) - impl.Worth(was.ledger); gain != earned || h.AmtOut != e.Amt {
			t.Errorf("%+v earns %d; want %d", e, gain, earned)
		}
		in, _ := chanIn(was.book, e.Ch)
		now, _ := chanIn(r.book, e.Ch)
		if now.Score != impl.ScoreUp(in.Score) || r.book.Wallet != was.book.Wallet {
			t.Errorf("%+v: the score is %d, was %d; the wallet is %d, was %d", e, now.Score, in.Score, r.book.Wallet, was.book.Wallet)
		}
	})
	if earning < 30 {
		t.Errorf("%d payments earn something: the test looks at too few", earning)
	}
}

// P4: a payment that fails earns nothing: all is as it was, but for the score of who sent it.
func TestP4FailedPayment(t *testing.T) {
	eachStart(t, 44, impl.EvAdmit, func(t *testing.T, was ledgered, e impl.Event) {
		r, ok := was.taken(t, e)
		r, also := r.taken(t, impl.Event{Kind: impl.EvFail, Key: e.Key})
		if !ok || !also {
			t.Fatal("a posting doesn't go")
		}
		want := ledgered{book: copyOfBook(was.book), ledger: was.ledger}
		wantMove(&want.book, e.Ch, func(c *impl.Chan) { c.Score = impl.ScoreDown(c.Score) })
		lookAlike(t, want, r)
	})
}

// P4: what comes between a launch and its loss doesn't matter: a row with a lost circle in it ends as the row without it, as long as the circle gets in the way of none.
func TestP4LostCircleInARow(t *testing.T) {
	d := dice(45)
	count := 0
	eachStart(t, 46, impl.EvLaunch, func(t *testing.T, was ledgered, e impl.Event) {
		with, _ := was.taken(t, e)
		without := was
		for range 15 {
			other := d.bookEvent(moods()[0], without.book)
			a, aWent := with.take(t, other)
			b, bWent := without.take(t, other)
			if a != b || !aWent || !bWent || other.Key == e.Key {
				return
			}
		}
		with, _ = with.taken(t, impl.Event{Kind: impl.EvLost, Key: e.Key})
		count++
		lookAlike(t, without, with)
		if with.book.Tick != without.book.Tick {
			t.Errorf("Tick is %d; want %d", with.book.Tick, without.book.Tick)
		}
	})
	if count < 30 {
		t.Errorf("%d rows: the test looks at too few", count)
	}
}

// P4: over whole rows the income is what the fulfilled payments earned, and rebal what the arrived circles cost.
func TestP4EarnedOverRows(t *testing.T) {
	d := dice(47)
	earned, paid := 0, 0
	for i := range 400 {
		m := moods()[i%len(moods())]
		r := ledgered{book: impl.BookNew()}
		fees, cost := 0, 0
		for range 200 {
			e, was := d.bookEvent(m, r.book), r.book
			code, went := r.take(t, e)
			if !went {
				break
			}
			if code != 0 {
				continue
			}
			for _, h := range was.Htlcs {
				if e.Kind == impl.EvFulfill && h.Key == e.Key {
					fees += h.AmtIn - h.AmtOut
				}
			}
			for _, c := range was.Circles {
				if e.Kind == impl.EvArrive && c.Key == e.Key {
					cost += c.Fee
				}
			}
			if impl.Balance(r.ledger, income) != -fees || impl.Balance(r.ledger, rebal) != cost {
				t.Fatalf("%+v: income %d, rebal %d; want %d, %d", e, impl.Balance(r.ledger, income), impl.Balance(r.ledger, rebal), -fees, cost)
			}
		}
		earned, paid = earned+min(fees, 1), paid+min(cost, 1)
	}
	if earned < 40 || paid < 40 {
		t.Errorf("%d rows earn, %d pay: the test looks at too few", earned, paid)
	}
}
