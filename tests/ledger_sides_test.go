package tests

import (
	"slices"
	"testing"

	"loop.example/g00400/impl"
)

// eachPosted goes through ledgers that grow by chance, and shows each Post that had code 0.
func eachPosted(t *testing.T, look func(was impl.Ledger, p impl.Posting, now impl.Ledger)) {
	t.Helper()
	d := dice(11)
	count, empty, refused := 0, 0, 0
	for range 400 {
		l := impl.Ledger{}
		for range 25 {
			id := l.Last + 1 + d.below(3)
			if d.below(40) == 0 {
				id = top - d.below(2)
			}
			p := d.posting(id)
			now, code := impl.Post(l, p)
			if code == 3 {
				refused++
			}
			if code != 0 {
				continue
			}
			look(l, p, now)
			count++
			if len(now.Lines) < len(l.Lines) {
				empty++
			}
			l = now
		}
	}
	if count < 1000 || empty < 50 || refused < 50 {
		t.Errorf("%d postings went, %d made accounts empty, %d were too much: too few to tell", count, empty, refused)
	}
}

// P5: behind every Post with code 0 all accounts sum to 0, and the ledger is right; an account at 0 has no line.
func TestP5SumIsZero(t *testing.T) {
	eachPosted(t, func(was impl.Ledger, p impl.Posting, now impl.Ledger) {
		if sumOf(now.Lines) != 0 || !impl.LedgerOk(now) || now.Last != p.Id {
			t.Fatalf("Post(%v, %v) = %v", was, p, now)
		}
		for _, x := range now.Lines {
			if x.Amt == 0 {
				t.Fatalf("Post(%v, %v) = %v has a line of 0", was, p, now)
			}
		}
	})
}

// P5: each account has what it had and what the posting gives it.
func TestP5EachAccount(t *testing.T) {
	eachPosted(t, func(was impl.Ledger, p impl.Posting, now impl.Ledger) {
		for _, a := range allAccs() {
			want := impl.Balance(was, a)
			for _, x := range p.Lines {
				if x.Acc == a {
					want += x.Amt
				}
			}
			if got := impl.Balance(now, a); got != want {
				t.Fatalf("Post(%v, %v): %v has %d; want %d", was, p, a, got, want)
			}
			has := slices.ContainsFunc(now.Lines, func(x impl.Line) bool { return x.Acc == a })
			if has != (want != 0) {
				t.Fatalf("Post(%v, %v): %v with %d, has a line: %v", was, p, a, want, has)
			}
		}
	})
}

func turned(p impl.Posting, id int) impl.Posting {
	back := impl.Posting{Id: id}
	for _, x := range p.Lines {
		back.Lines = append(back.Lines, line(x.Acc, -x.Amt))
	}
	return back
}

// P5: a posting is undone by the one with its amounts turned round and a greater Id, as long as one is left.
func TestP5Undo(t *testing.T) {
	left, none := 0, 0
	eachPosted(t, func(was impl.Ledger, p impl.Posting, now impl.Ledger) {
		if p.Id == top {
			none++
			if _, code := impl.Post(now, turned(p, top)); code != 2 {
				t.Fatalf("undoing with no greater Id: code %d", code)
			}
			if _, code := impl.Post(now, turned(p, top+1)); code != 1 {
				t.Fatalf("undoing with an Id above MaxAmt: code %d", code)
			}
			return
		}
		left++
		for _, id := range []int{p.Id + 1, top} {
			back, code := impl.Post(now, turned(p, id))
			if code != 0 || back.Last != id || !slices.Equal(back.Lines, was.Lines) {
				t.Fatalf("undoing %v: %v, %d; want the lines of %v", p, back, code, was)
			}
		}
	})
	if left < 1000 || none < 10 {
		t.Errorf("%d undone, %d without an Id left: too few to tell", left, none)
	}
}

// P5: an undone posting leads back from the ends, and from a full ledger.
func TestP5UndoAtEnds(t *testing.T) {
	all := fullLines(top)
	for name, c := range map[string]struct {
		l impl.Ledger
		p impl.Posting
	}{
		"to the ends":       {ledger(0), posting(1, line(wallet, top), line(equity, -top))},
		"from the ends":     {ledger(1, line(wallet, top), line(equity, -top)), posting(2, line(wallet, -top), line(equity, top))},
		"the last Id's one": {ledger(1), posting(top-1, line(wallet, 1), line(equity, -1))},
		"into a full one":   {ledger(1, all[8:]...), posting(2, all[:8]...)},
		"out of a full one": {ledger(1, all...), turned(posting(2, all[294:]...), 2)},
	} {
		now, code := impl.Post(c.l, c.p)
		back, also := impl.Post(now, turned(c.p, c.p.Id+1))
		if code != 0 || also != 0 || !slices.Equal(back.Lines, c.l.Lines) {
			t.Errorf("%s: codes %d and %d, back to %v", name, code, also, back)
		}
	}
}

// P5: Worth changes by just what the accounts that aren't owned change the other way.
func TestP5Worth(t *testing.T) {
	eachPosted(t, func(was impl.Ledger, p impl.Posting, now impl.Ledger) {
		other := 0
		for _, a := range []impl.Acc{equity, income, rebal, chain} {
			other += impl.Balance(now, a) - impl.Balance(was, a)
		}
		if got := impl.Worth(now) - impl.Worth(was); got != -other {
			t.Fatalf("Post(%v, %v): Worth changes by %d, the others by %d", was, p, got, other)
		}
	})
}

// P5: over many postings at once, some of them refused, all of it holds too.
func TestP5PostAll(t *testing.T) {
	d := dice(23)
	for range 200 {
		var ps []impl.Posting
		for i := range 40 {
			ps = append(ps, d.posting(i+1))
		}
		got, n := impl.PostAll(impl.Ledger{}, ps)
		other := 0
		for _, a := range []impl.Acc{equity, income, rebal, chain} {
			other += impl.Balance(got, a)
		}
		if n < 0 || n > len(ps) || sumOf(got.Lines) != 0 || !impl.LedgerOk(got) || impl.Worth(got) != -other {
			t.Fatalf("PostAll(%v) = %v, %d", ps, got, n)
		}
	}
}
