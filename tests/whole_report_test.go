package tests

import (
	"slices"
	"strings"
	"testing"

	"loop.example/g00400/impl"
)

// having is up with a hub of that book and of those accounts, and of nothing else.
func having(b impl.Book, l ...impl.Line) impl.World {
	return impl.World{Up: true, Hub: impl.Hub{Book: b, Ledger: impl.Ledger{Lines: l}}}
}

// busyElsewhere puts something wherever a report doesn't look.
func busyElsewhere(w *impl.World) {
	w.Disk, w.Codes, w.Hub.Log, w.Hub.Ledger.Last = disk(5), codes(1, 2), logOf(disk(3), 1, 1), 5
	w.Hub.Wait, w.Hub.Sent = events(tick), events(tick, tick)
}

// P13: reports told out.
func TestP13Report(t *testing.T) {
	some := impl.Book{Tick: 9, Next: 8, Wallet: 70,
		Chans:   chans(priced(1, 20, 30, 4, 5, -6), priced(99, top, 0, 0, 1000000, 100)),
		Htlcs:   htlcs(pay(7, 1, 2, 108, 101), keptPay(1000000, 2, 1, 40, 39, 6)),
		Circles: circles(circle(6, 2, 5, 20, 3), circle(500, 5, 1, 9, 0))}
	accs := ledger(3, line(wallet, 400), line(equity, -1000), line(income, -7), line(rebal, 3), line(chain, 25), line(local(1), 256), line(local(99), 1), line(underIn(10), -top), line(underOut(9), top))
	for name, c := range map[string]struct {
		w    impl.World
		want string
	}{
		"nothing":             {impl.World{}, "down 0 0\n"},
		"nothing, up":         {impl.World{Up: true}, "up 0 0\nwallet 0\n"},
		"new":                 {downWith(laid(4)), "down 0 0\n"},
		"just opened":         {upWith(laidHub(4)), "up 0 0\nwallet 0\n"},
		"down, took, sent":    {impl.World{Disk: laid(4), Took: events(tick, tick, tick), Sent: events(tick)}, "down 3 1\n"},
		"down, sent":          {impl.World{Sent: events(tick, tick)}, "down 0 2\n"},
		"down, with a hub":    {impl.World{Hub: impl.Hub{Book: some, Ledger: accs}, Took: events(tick)}, "down 1 0\n"},
		"lists not nil":       {impl.World{Up: true, Took: events(), Sent: events(), Codes: codes(1)}, "up 0 0\nwallet 0\n"},
		"no channel":          {having(impl.Book{Wallet: 5}), "up 0 0\nwallet 5\n"},
		"only a channel":      {having(impl.Book{Chans: chans(impl.Chan{Id: 1, Size: 2, Local: 3, Remote: 4, Base: 5, Ppm: 6, Score: 7})}), "up 0 0\nwallet 0\nchan 1 3 4 5 6 7\n"},
		"only a payment":      {having(impl.Book{Htlcs: htlcs(keptPay(1, 2, 3, 4, 5, 6))}), "up 0 0\nwallet 0\nhtlc 1 2 3 4 5\n"},
		"only a circle":       {having(impl.Book{Circles: circles(circle(1, 2, 3, 4, 5))}), "up 0 0\nwallet 0\ncircle 1 2 3 4 5\n"},
		"only an account":     {having(impl.Book{}, line(chain, -1)), "up 0 0\nwallet 0\nchain -1\n"},
		"an account of 0":     {having(impl.Book{}, line(underIn(1), 0)), "up 0 0\nwallet 0\nin1 0\n"},
		"what isn't asked of": {changedWorld(having(impl.Book{Tick: 1, Next: 2}), busyElsewhere), "up 0 0\nwallet 0\n"},
		"of every kind": {impl.World{Up: true, Hub: impl.Hub{Book: some, Ledger: accs}, Took: slices.Repeat(events(tick), 12), Sent: slices.Repeat(events(tick), 10)},
			"up 12 10\nwallet 70\nchan 1 20 30 4 5 -6\nchan 99 1125899906842624 0 0 1000000 100\nhtlc 7 1 2 108 101\nhtlc 1000000 2 1 40 39\ncircle 6 2 5 20 3\ncircle 500 5 1 9 0\n" +
				"wallet 400\nequity -1000\nincome -7\nrebal 3\nchain 25\nlocal1 256\nlocal99 1\nin10 -1125899906842624\nout9 1125899906842624\n"},
		"twice opened": {upWith(twiceOpened()),
			"up 7 2\nwallet 400\nchan 1 200 162 0 0 0\nchan 2 266 100 1 50000 0\nhtlc 7 1 2 108 101\ncircle 8 2 1 30 3\n" +
				"wallet 400\nequity -1000\nlocal1 200\nlocal2 266\nout2 134\n"},
	} {
		if got := impl.Report(c.w); got != c.want {
			t.Errorf("%s: Report is\n%s\nwant\n%s", name, got, c.want)
		}
		lookWhole(t, name, c.w)
	}
}

// P13: lists in the order in which they stand, whatever that is, and the same thing twice.
func TestP13ReportOrder(t *testing.T) {
	b := impl.Book{Chans: chans(peer(9, 1, 2), peer(3, 4, 5), peer(9, 1, 2)), Htlcs: htlcs(pay(8, 1, 2, 3, 4), pay(2, 5, 6, 7, 8), pay(8, 1, 2, 3, 4)),
		Circles: circles(circle(8, 1, 2, 3, 4), circle(1, 1, 1, 1, 1), circle(8, 1, 2, 3, 4))}
	want := "up 0 0\nwallet 0\nchan 9 1 2 0 0 0\nchan 3 4 5 0 0 0\nchan 9 1 2 0 0 0\nhtlc 8 1 2 3 4\nhtlc 2 5 6 7 8\nhtlc 8 1 2 3 4\n" +
		"circle 8 1 2 3 4\ncircle 1 1 1 1 1\ncircle 8 1 2 3 4\nout2 1\nwallet 2\nout2 1\n"
	if got := impl.Report(having(b, line(underOut(2), 1), line(wallet, 2), line(underOut(2), 1))); got != want {
		t.Errorf("Report is\n%s\nwant\n%s", got, want)
	}
}

// reportFields are the numbers that a report tells of a world that is up.
func reportFields(w *impl.World) []*int {
	b, l := &w.Hub.Book, []*int{&w.Hub.Book.Wallet}
	for i := range b.Chans {
		c := &b.Chans[i]
		l = append(l, &c.Id, &c.Local, &c.Remote, &c.Base, &c.Ppm, &c.Score)
	}
	for i := range b.Htlcs {
		h := &b.Htlcs[i]
		l = append(l, &h.Key, &h.In, &h.Out, &h.AmtIn, &h.AmtOut)
	}
	for i := range b.Circles {
		c := &b.Circles[i]
		l = append(l, &c.Key, &c.From, &c.To, &c.Amt, &c.Fee)
	}
	for i := range w.Hub.Ledger.Lines {
		l = append(l, &w.Hub.Ledger.Lines[i].Amt)
	}
	return l
}

// P13: each number that a report tells, below 0 and of any size; past both ends it has no digits.
func TestP13ReportNumbers(t *testing.T) {
	w := upWith(twiceOpened())
	plain := strings.Fields(impl.Report(w))
	for i := range reportFields(&w) {
		for _, n := range edges() {
			b := copyOfWorld(w)
			*reportFields(&b)[i] = n
			lookWhole(t, "a number at "+numberName(n), b)
			told := strings.Fields(impl.Report(b))
			if past := n < -top || n > top; past && len(told) != len(plain)-1 || !past && !slices.Contains(told, numberName(n)) {
				t.Errorf("number %d at %d: %v", i, n, told)
			}
		}
	}
}

// P13: each account that is right, and such that aren't: those have no name.
func TestP13ReportAccounts(t *testing.T) {
	w := having(impl.Book{}, fullLines(5)...)
	lookWhole(t, "every account", w)
	if rows := strings.Split(impl.Report(w), "\n"); len(rows) != 2+302+1 || rows[2] != "wallet 5" || rows[7] != "local1 -5" || rows[303] != "out99 -5" {
		t.Errorf("every account: %q", rows)
	}
	for _, a := range []impl.Acc{{}, {Kind: -1}, {Kind: 9}, {Kind: 9, Ch: 1}, {Kind: leastInt}, {Kind: greatestInt, Ch: 5}, {Kind: 1, Ch: 1}, {Kind: 5, Ch: -1}, local(0), local(100), underIn(-1), underOut(greatestInt), {Kind: 1<<32 + 1}, local(1<<32 + 1)} {
		w := having(impl.Book{}, line(wallet, -3), line(a, 3), line(a, leastInt), line(chain, 1))
		lookWhole(t, "an account that isn't right", w)
		if got := impl.Report(w); got != "up 0 0\nwallet 0\nwallet -3\n 3\n \nchain 1\n" {
			t.Errorf("%+v: Report is %q", a, got)
		}
	}
}

// P13: long lists are told too, as long as they are.
func TestP13ReportLong(t *testing.T) {
	w := impl.World{Up: true, Took: slices.Repeat(events(tick), 5000), Sent: slices.Repeat(events(impl.Event{}), 7001)}
	w.Hub.Book = impl.Book{Wallet: -1, Chans: slices.Repeat(chans(peer(5, 1, 2)), 500), Htlcs: manyHtlcs(3000), Circles: manyCircles(2000)}
	w.Hub.Ledger.Lines = slices.Repeat(fullLines(top), 20)
	lookWhole(t, "long", w)
	if got := impl.Report(w); strings.Count(got, "\n") != 2+500+3000+2000+20*302 || !strings.HasPrefix(got, "up 5000 7001\nwallet -1\nchan 5 1 2 0 0 0\nchan") {
		t.Errorf("a long report has %d lines", strings.Count(got, "\n"))
	}
	w.Up = false
	lookWhole(t, "long, down", w)
}

// P13: Report, Legal and Earned of worlds made by hand, right ones and wrong ones.
func TestP13WholeOfMadeWorlds(t *testing.T) {
	legal := map[bool]int{}
	for _, worlds := range []map[string]impl.World{rightWorlds(), wrongWorlds()} {
		eachWorld(worlds, func(name string, w impl.World) {
			legal[lookWhole(t, name, w)]++
			if !wantWorldOk(w) && (impl.Legal(w) || impl.Earned(w) != 0) {
				t.Errorf("%s: Legal is %v, Earned %d, but the world isn't right", name, impl.Legal(w), impl.Earned(w))
			}
		})
	}
	if min(legal[true], legal[false]) < 30 {
		t.Errorf("%v are legal: the test looks at one side only", legal)
	}
}

// P13: worlds by chance, right ones and such with one thing changed.
func TestP13WholeByChance(t *testing.T) {
	d, legal := dice(141), map[bool]int{}
	for i := range 700 {
		h := d.hub(1+d.below(12), moods()[i%len(moods())])
		w := upWith(h)
		switch d.below(3) {
		case 0:
			w = downWith(wantCrash(h.Log.Disk, d.keep(5)))
			w.Took, w.Sent = wantLogEvents(h.Log.Disk), h.Sent
		case 1:
			w.Sent = slices.Clone(w.Took[:d.below(len(w.Took)+1)])
		}
		legal[lookWhole(t, "by chance", w)]++
		for range 3 {
			legal[lookWhole(t, "bent", d.bentWorld(w))]++
		}
		if t.Failed() {
			t.FailNow()
		}
	}
	if min(legal[true], legal[false]) < 500 {
		t.Errorf("%v are legal: the test looks at one side only", legal)
	}
}
