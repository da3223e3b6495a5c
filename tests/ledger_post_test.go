package tests

import (
	"testing"

	"loop.example/g00400/impl"
)

// P13: what Post answers.
func TestP13Post(t *testing.T) {
	for _, c := range []struct {
		name string
		l    impl.Ledger
		p    impl.Posting
		want impl.Ledger
		code int
	}{
		{"the first", ledger(0), posting(1, line(wallet, 5), line(equity, -5)), ledger(1, line(wallet, 5), line(equity, -5)), 0},
		{"Id far above", ledger(0), posting(top, line(wallet, 5), line(equity, -5)), ledger(top, line(wallet, 5), line(equity, -5)), 0},
		{"just above Last", ledger(7), posting(8, line(wallet, 5), line(equity, -5)), ledger(8, line(wallet, 5), line(equity, -5)), 0},
		{"the last Id", ledger(top - 1), posting(top, line(wallet, 5), line(equity, -5)), ledger(top, line(wallet, 5), line(equity, -5)), 0},
		{"is Last", ledger(8), posting(8, line(wallet, 5), line(equity, -5)), ledger(0), 2},
		{"below Last", ledger(9), posting(8, line(wallet, 5), line(equity, -5)), ledger(0), 2},
		{"no Id left", ledger(top), posting(top, line(wallet, 5), line(equity, -5)), ledger(0), 2},
		{"added to both", ledger(1, line(wallet, 5), line(equity, -5)), posting(2, line(wallet, 2), line(equity, -2)), ledger(2, line(wallet, 7), line(equity, -7)), 0},
		{"taken from both", ledger(1, line(wallet, 5), line(equity, -5)), posting(2, line(wallet, -2), line(equity, 2)), ledger(2, line(wallet, 3), line(equity, -3)), 0},
		{"through 0", ledger(1, line(wallet, 5), line(equity, -5)), posting(2, line(wallet, -6), line(equity, 6)), ledger(2, line(wallet, -1), line(equity, 1)), 0},
		{"all to 0", ledger(1, line(wallet, 5), line(equity, -5)), posting(2, line(wallet, -5), line(equity, 5)), ledger(2), 0},
		{"one to 0", ledger(1, line(wallet, 5), line(equity, -5)), posting(2, line(wallet, -5), line(local(3), 5)), ledger(2, line(equity, -5), line(local(3), 5)), 0},
		{"between others", ledger(1, line(wallet, 5), line(local(2), -5)), posting(2, line(equity, 5), line(local(1), -5)), ledger(2, line(wallet, 5), line(equity, 5), line(local(1), -5), line(local(2), -5)), 0},
		{"channels by number, not by text", ledger(1, line(local(10), 5), line(local(99), -5)), posting(2, line(local(2), 5), line(local(99), -5)), ledger(2, line(local(2), 5), line(local(10), 5), line(local(99), -10)), 0},
		{"three of three", ledger(1, line(wallet, 5), line(equity, -9), line(chain, 4)), posting(2, line(wallet, 1), line(equity, -3), line(chain, 2)), ledger(2, line(wallet, 6), line(equity, -12), line(chain, 6)), 0},
		{"just at both ends", ledger(1, line(wallet, top-1), line(equity, 1-top)), posting(2, line(wallet, 1), line(equity, -1)), ledger(2, line(wallet, top), line(equity, -top)), 0},
		{"just past both ends", ledger(1, line(wallet, top), line(equity, -top)), posting(2, line(wallet, 1), line(equity, -1)), ledger(0), 3},
		{"past the high end alone", ledger(1, line(wallet, top), line(equity, -top)), posting(2, line(wallet, 1), line(chain, -1)), ledger(0), 3},
		{"past the low end alone", ledger(1, line(wallet, top), line(equity, -top)), posting(2, line(equity, -1), line(chain, 1)), ledger(0), 3},
		{"past the end in the last line", ledger(1, line(equity, -top), line(underOut(9), top)), posting(2, line(equity, 1), line(local(1), -2), line(underOut(9), 1)), ledger(0), 3},
		{"off the ends to 0", ledger(1, line(wallet, top), line(equity, -top)), posting(2, line(wallet, -top), line(equity, top)), ledger(2), 0},
		{"off the ends", ledger(1, line(wallet, top), line(equity, -top)), posting(2, line(wallet, -1), line(equity, 1)), ledger(2, line(wallet, top-1), line(equity, 1-top)), 0},
		{"at the ends at once", ledger(0), posting(2, line(wallet, top), line(equity, -top)), ledger(2, line(wallet, top), line(equity, -top)), 0},
		{"posting not right", ledger(1, line(wallet, 5), line(equity, -5)), posting(9), ledger(0), 1},
		{"posting of one line", ledger(0), posting(9, line(wallet, 0)), ledger(0), 1},
		{"posting of MaxLines", ledger(0), posting(9, fullLines(1)[:8]...), ledger(9, fullLines(1)[:8]...), 0},
		{"posting of more", ledger(0), posting(9, fullLines(1)[:10]...), ledger(0), 1},
		{"Id 0", ledger(0), posting(0, line(wallet, 5), line(equity, -5)), ledger(0), 1},
		{"Id above", ledger(0), posting(top+1, line(wallet, 5), line(equity, -5)), ledger(0), 1},
		{"codes 1 and 2", ledger(9), posting(8, line(wallet, 5), line(equity, -4)), ledger(0), 1},
		{"codes 1 and 2, Id 0", ledger(9), posting(0, line(wallet, 5), line(equity, -5)), ledger(0), 1},
		{"codes 1 and 3", ledger(1, line(wallet, top), line(equity, -top)), posting(2, line(wallet, 1), line(equity, -2)), ledger(0), 1},
		{"codes 2 and 3", ledger(2, line(wallet, top), line(equity, -top)), posting(2, line(wallet, 1), line(equity, -1)), ledger(0), 2},
		{"ledger not right, all codes", ledger(2, line(wallet, top), line(equity, 1)), posting(2, line(wallet, 1), line(equity, -1)), ledger(0), 1},
	} {
		l, p := copyOfLedger(c.l), copyOfPosting(c.p)
		got, code := impl.Post(c.l, c.p)
		if code != c.code || !sameLedger(got, c.want) {
			t.Errorf("%s: Post = %v, %d; want %v, %d", c.name, got, code, c.want, c.code)
		}
		scribble(got.Lines)
		if !sameLedger(l, c.l) || !samePosting(p, c.p) {
			t.Errorf("%s: an argument is changed or shared", c.name)
		}
	}
}

// P13: into and out of a ledger with every account there is; a line more than these none can have, so MaxAccs is never passed.
func TestP13PostFull(t *testing.T) {
	all := fullLines(1)
	most := ledger(1, all[2:]...)
	got, code := impl.Post(most, posting(2, all[:2]...))
	if code != 0 || !sameLedger(got, ledger(2, all...)) {
		t.Errorf("Post of the last two accounts: code %d, %d lines", code, len(got.Lines))
	}
	if len(all) > impl.MaxAccs {
		t.Errorf("%d right accounts, more than MaxAccs", len(all))
	}
	again, code := impl.Post(got, posting(3, all[100:108]...))
	if code != 0 || len(again.Lines) != len(all) {
		t.Errorf("Post into a full ledger: code %d, %d lines", code, len(again.Lines))
	}
	less, code := impl.Post(got, posting(3, line(all[300].Acc, -1), line(all[301].Acc, 1)))
	if code != 0 || !sameLedger(less, ledger(3, all[:300]...)) {
		t.Errorf("Post that empties two accounts: code %d, %d lines", code, len(less.Lines))
	}
}

// P13: a ledger that isn't right is code 1, whatever the posting.
func TestP13PostWrongLedger(t *testing.T) {
	right := posting(5, line(wallet, 5), line(equity, -5))
	eachWrongLedger(t, func(t *testing.T, l impl.Ledger) {
		was := copyOfLedger(l)
		for _, p := range []impl.Posting{right, {}, posting(-1, l.Lines...), posting(5, l.Lines...)} {
			if got, code := impl.Post(l, p); code != 1 || !sameLedger(got, impl.Ledger{}) {
				t.Errorf("Post = %v, %d", got, code)
			}
		}
		if len(l.Lines) > 0 {
			if got, code := impl.Post(impl.Ledger{}, posting(5, l.Lines...)); code != 1 || !sameLedger(got, impl.Ledger{}) {
				t.Errorf("Post of its lines = %v, %d", got, code)
			}
		}
		if got, n := impl.PostAll(l, []impl.Posting{right}); n != -1 || !sameLedger(got, impl.Ledger{}) {
			t.Errorf("PostAll = %v, %d", got, n)
		}
		if got, n := impl.PostAll(l, nil); n != -1 || !sameLedger(got, impl.Ledger{}) {
			t.Errorf("PostAll of none = %v, %d", got, n)
		}
		if !sameLedger(l, was) {
			t.Error("the ledger is changed")
		}
	})
}

// P13: PostAll goes on behind a posting that is refused.
func TestP13PostAll(t *testing.T) {
	start := ledger(1, line(wallet, 5), line(equity, -5))
	fund := posting(2, line(wallet, -5), line(local(1), 5))
	wrong := posting(3, line(wallet, 5), line(equity, -4))
	much := posting(4, line(local(1), top), line(local(2), -top))
	late := posting(2, line(wallet, 1), line(equity, -1))
	more := posting(4, line(equity, -1), line(local(1), 1))
	for _, c := range []struct {
		name string
		l    impl.Ledger
		ps   []impl.Posting
		want impl.Ledger
		n    int
	}{
		{"nil", start, nil, start, 0},
		{"none", start, []impl.Posting{}, start, 0},
		{"none on nothing", ledger(0), nil, ledger(0), 0},
		{"none on a Last without lines", ledger(top), nil, ledger(top), 0},
		{"one", start, []impl.Posting{fund}, ledger(2, line(equity, -5), line(local(1), 5)), 1},
		{"twice the same", start, []impl.Posting{fund, fund}, ledger(2, line(equity, -5), line(local(1), 5)), 1},
		{"refused ones between", start, []impl.Posting{wrong, fund, wrong, much, late, more}, ledger(4, line(equity, -6), line(local(1), 6)), 2},
		{"a refused one keeps no Id", start, []impl.Posting{posting(9, line(wallet, top), line(equity, -top)), fund}, ledger(2, line(equity, -5), line(local(1), 5)), 1},
		{"all refused", start, []impl.Posting{wrong, posting(1, fund.Lines...), {}, posting(9, line(wallet, top), line(equity, -top))}, start, 0},
		{"refused in its last line", start, []impl.Posting{posting(9, line(wallet, 1), line(equity, -top), line(chain, top-1)), fund}, ledger(2, line(equity, -5), line(local(1), 5)), 1},
	} {
		was := copyOfLedger(c.l)
		var were []impl.Posting
		for _, p := range c.ps {
			were = append(were, copyOfPosting(p))
		}
		got, n := impl.PostAll(c.l, c.ps)
		if n != c.n || !sameLedger(got, c.want) {
			t.Errorf("%s: PostAll = %v, %d; want %v, %d", c.name, got, n, c.want, c.n)
		}
		keep := copyOfLedger(c.want)
		scribble(got.Lines)
		if !sameLedger(c.l, was) || !sameLedger(c.want, keep) {
			t.Errorf("%s: the ledger is changed or shared", c.name)
		}
		for i, p := range c.ps {
			if !samePosting(p, were[i]) {
				t.Errorf("%s: posting %d is changed or shared", c.name, i)
			}
		}
	}
}

// P13: PostAll is Post of one after the other.
func TestP13PostAllIsPosts(t *testing.T) {
	d := dice(5)
	for range 300 {
		l, n := impl.Ledger{}, 0
		var ps []impl.Posting
		for i := range 30 {
			p := d.posting(i + d.below(4))
			ps = append(ps, p)
			if next, code := impl.Post(l, p); code == 0 {
				l, n = next, n+1
			}
		}
		if got, m := impl.PostAll(impl.Ledger{}, ps); m != n || !sameLedger(got, l) {
			t.Fatalf("PostAll(%v) = %v, %d; want %v, %d", ps, got, m, l, n)
		}
	}
}
